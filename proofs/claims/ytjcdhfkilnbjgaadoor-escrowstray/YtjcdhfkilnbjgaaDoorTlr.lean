import Derived.Test.YtjcdhfkilnbjgaaDoorPart00
namespace Go.Proofs.YtjcdhfkilnbjgaaDoor
set_option linter.unusedVariables false
variable {P : Program} {ops : Array Oper} {Q : Exit → Act → World → Prop} {md : Region.Mode} {S : World → Prop} {n : Nat}
/-- Each of these operations of the head may come up. -/
def AllTill (P : Program) (md : Region.Mode) (ops : Array Oper) (Q : Exit → Act → World → Prop) (S : World → Prop) (n f : Nat) (l : Array Bool) (a : Act) (w : World) (rs : List Nat) : Prop :=
  ∀ i ∈ rs, wpOp P ops Q i (fun b u => (i < n → S u) ∧ wpTill P md ops Q S n f (l.setIfInBounds i true) b u) a w
theorem AllTill.nil {f : Nat} {l : Array Bool} {a : Act} {w : World} : AllTill P md ops Q S n f l a w [] := fun _ h => by cases h
theorem AllTill.cons {f : Nat} {l : Array Bool} {a : Act} {w : World} {i : Nat} {o : Oper} {rs : List Nat} (inv : Inv md ops n l) (ho : ops[i]? = some o) (hr : (Region.ready md ops l).contains i = true) (hin : i < n)
    (h : ∀ K' : Act → World → Prop, Shut (∀ a w, S w → (Inv md ops n (l.setIfInBounds i true) → wpTill P md ops Q S n f (l.setIfInBounds i true) a w) → K' a w) → if Region.wanted o (yielded ops a.tmps) = true then Oper.wp P o a w K' Q else K' (a.put o.dst undef) w)
    (hs : AllTill P md ops Q S n f l a w rs) : AllTill P md ops Q S n f l a w (i :: rs) := fun j hj => by
  rcases List.mem_cons.1 hj with rfl | hj
  · exact wpOp_step ho (fun K' hK => h K' (fun a w hS hW => hK a w ⟨fun _ => hS, hW (inv.set (by simpa using hr) hin)⟩))
  · exact hs j hj
/-- Several operations of the head may come up. -/
theorem till_ready {rs : List Nat} {f : Nat} {l : Array Bool} {a : Act} {w : World} (hr : Region.ready md ops l = rs) (hne : rs ≠ []) (h : AllTill P md ops Q S n f l a w rs) : wpTill P md ops Q S n (f + 1) l a w :=
  ⟨fun h0 => absurd (hr ▸ h0) hne, hr ▸ h⟩
end Go.Proofs.YtjcdhfkilnbjgaaDoor
