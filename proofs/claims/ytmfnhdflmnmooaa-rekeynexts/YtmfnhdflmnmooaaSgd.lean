import Derived.Test.YtmfnhdflmnmooaaSgc
namespace Go.Proofs.Ytmfnhdflmnmooaa.Sx
open Go.RowKit
set_option linter.unusedVariables false
set_option linter.unusedSimpArgs false
def segGood (n : Nat) (r : Rot) : Prop := 1 ≤ n ∧ n ≤ 4294967296 ∧ r.on = true ∧ r.done ≤ n
instance (n : Nat) (r : Rot) : Decidable (segGood n r) := by unfold segGood; infer_instance
def segE (n : Nat) (r : Rot) : Int := if segGood n r then 0 else 2
def segL (n : Nat) (r : Rot) : List Sg := if segGood n r then kept [segX n r, segY n r] else []
/-- An answer of Segments. -/
def SegP (w : World) (L : List Sg) (E : Int) (e : Ending) (w' : World) : Prop := ∃ v, e = .returned (.tuple #[v, .int .i64 E]) ∧ w'.ownsRow w.heap.size 65 3 v L.length (sgs L) ∧ (v = .slice none 0 0 ↔ L = []) ∧ Below w.heap.size w w'
theorem segP_bad (w : World) (o : Obj) : SegP w [] 2 (.returned (.tuple #[.slice none 0 0, .int .i64 2])) (w.alloc o) :=
  ⟨_, rfl, World.ownsRow_nil _ _ _ _, by simp, (Below.refl _ w).alloc (Nat.le_refl _) _⟩
theorem ownsRow_mono {w : World} {b b' : Nat} {e : TypeId} {s : Nat} {v : Value} {n : Nat} {xs : List Value} (h : w.ownsRow b e s v n xs) (hb : b' ≤ b) : w.ownsRow b' e s v n xs := by
  obtain ⟨h1, h2⟩ := h
  refine ⟨h1, ?_⟩
  rcases h2 with h2 | ⟨g, cap, cur, a, bb, c⟩
  · exact .inl h2
  · exact .inr ⟨g, cap, cur, a, Nat.le_trans hb bb, c⟩
end Go.Proofs.Ytmfnhdflmnmooaa.Sx
