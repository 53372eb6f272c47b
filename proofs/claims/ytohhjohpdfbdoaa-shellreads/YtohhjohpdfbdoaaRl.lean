import Derived.Test.YtohhjohpdfbdoaaSm
import Derived.Test.YtohhjohpdfbdoaaPb
namespace Go.Proofs.Ytohhjohpdfbdoaa
open Go.RowKit
attribute [local go_sem ↓] Go.wp_at_zero Go.wp_at_succ
set_option linter.unusedVariables false
set_option linter.unusedSimpArgs false
/-- What a line says; of a faulty one nothing. -/
def pa (s : ByteArray) : Acc := match parse s with
  | .good a => a
  | .bad _ => acc0
def pe (s : ByteArray) : Int := match parse s with
  | .good _ => 0
  | .bad _ => 160
def pp (s : ByteArray) : Int := match parse s with
  | .good _ => 0
  | .bad p => (p : Nat)
def PV (s : ByteArray) (W : World) (e : Ending) (w' : World) : Prop :=
  ∃ v, e = .returned (.tuple #[.agg #[.string (strOfNums (pa s).cmd), .string (strOfNums (pa s).name), v], .int .i64 (pe s), .int .i64 (pp s)]) ∧ w'.ownsRow W.heap.size 31 2 v (pa s).opts.length (optL (pa s).opts) ∧ (pa s).opts.length ≤ 4097 ∧ Below W.heap.size W w'
theorem pv_of {s : ByteArray} {W w' : World} {e : Ending} (h : ParQ s W e w') : PV s W e w' := by
  rcases h with ⟨a, v, rfl, hrow, hfew, hR, hb⟩ | ⟨p, rfl, hR, hb⟩
  · refine ⟨v, ?_, ?_, ?_, hb⟩
    · simp only [pa, pe, pp, hR]
    · simp only [pa, hR]; exact hrow
    · simp only [pa, hR]; exact hfew
  · refine ⟨.slice none 0 0, ?_, ?_, ?_, hb⟩
    · simp only [pa, pe, pp, hR]; rfl
    · simp only [pa, hR]; exact World.ownsRow_nil _ _ _ _
    · simp only [pa, hR]; decide
theorem pv_call (s : ByteArray) (W : World) : Calls Try.prog 7 #[.string s] W (PV s W) := (parse_any s W).mono fun e w' h => pv_of h
/-- A store into a row that the call owns. -/
theorem ownsRow_store {W : World} {B e size n c g k : Nat} {xs : List Value} (h : W.ownsRow B e size (.slice (some ⟨g, 0, none⟩) n c) n xs) (v : Value) : ∃ ys, (W.setCell ⟨g, k, none⟩ v).ownsRow B e size (.slice (some ⟨g, 0, none⟩) n c) n ys := by
  obtain ⟨hl, ⟨h1, _⟩ | ⟨g', cap, cur, hv, hb, hh, hn, hc, hs, ht⟩⟩ := h
  · cases h1
  · cases hv
    refine ⟨(cur.setIfInBounds k v).toList.take (n * size), ?_, .inr ⟨g, c, cur.setIfInBounds k v, rfl, hb, set_block hh k v, hn, hc, by simpa using hs, rfl⟩⟩
    have : n * size ≤ c * size := Nat.mul_le_mul_right _ hn
    simp
    omega
theorem ownsRow_at {W : World} {B e size n c g k : Nat} {xs : List Value} (h : W.ownsRow B e size (.slice (some ⟨g, 0, none⟩) n c) n xs) (hk : k < n * size) : (∃ u, W.cell? ⟨g, k, none⟩ = some u) ∧ W.frozen? ⟨g, k, none⟩ = false := by
  obtain ⟨hl, ⟨h1, _⟩ | ⟨g', cap, cur, hv, hb, hh, hn, hc, hs, ht⟩⟩ := h
  · cases h1
  · cases hv
    have : n * size ≤ c * size := Nat.mul_le_mul_right _ hn
    refine ⟨⟨cur[k]'(by omega), ?_⟩, by simp [World.frozen?, hh]⟩
    simp only [World.cell?, hh]
    rw [Array.getElem?_eq_getElem (by omega)]
    rfl
theorem ownsRow_move {W W' : World} {B e size n : Nat} {v : Value} {xs : List Value} (h : W.ownsRow B e size v n xs) (hb : ∀ b, v.ownBlock = some b → W'.heap[b]? = W.heap[b]?) : W'.ownsRow B e size v n xs := by
  obtain ⟨hl, h1 | ⟨g', cap, cur, hv, hb', hh, r⟩⟩ := h
  · exact ⟨hl, .inl h1⟩
  · exact ⟨hl, .inr ⟨g', cap, cur, hv, hb', (hb g' (by rw [hv]; rfl)).trans hh, r⟩⟩
/-- All that lay in W0 lies in W, but for the blocks that may turn. -/
structure Ex (W0 W : World) (may : Nat → Prop) : Prop where
  os : W.os = W0.os
  tape : W.tape = W0.tape
  output : W.output = W0.output
  size : W0.heap.size ≤ W.heap.size
  block : ∀ k, k < W0.heap.size → ¬ may k → W.heap[k]? = W0.heap[k]?
theorem Ex.refl (W : World) (may : Nat → Prop) : Ex W W may := ⟨rfl, rfl, rfl, Nat.le_refl _, fun _ _ _ => rfl⟩
theorem Ex.grown {W0 W W' : World} {may : Nat → Prop} {row : Option Nat} (h : Ex W0 W may) (hg : W.grownBy W' row) (hr : ∀ k, row = some k → may k ∨ W0.heap.size ≤ k) : Ex W0 W' may :=
  ⟨hg.os.trans h.os, hg.tape.trans h.tape, hg.output.trans h.output, Nat.le_trans h.size hg.size, fun k hk hm => (hg.block k (Nat.lt_of_lt_of_le hk h.size) (fun e => (hr k e.symm).elim hm (fun h2 => by omega))).trans (h.block k hk hm)⟩
end Go.Proofs.Ytohhjohpdfbdoaa
