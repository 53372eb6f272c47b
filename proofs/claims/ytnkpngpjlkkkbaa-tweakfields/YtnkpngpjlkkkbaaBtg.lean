import Derived.Test.YtnkpngpjlkkkbaaBte
import Derived.Deep.AppendSrc
namespace Go.Proofs.Ytnkpngpjlkkkbaa
open Go.RowKit Go.Proofs.Ytnkpngpjlkkkbaa.Fld
set_option linter.unusedVariables false
set_option linter.unusedSimpArgs false
/-- n coefficients at g from o on. -/
def SegC (w : World) (g o cap n : Nat) (c : Nat → Bool) : Prop := ∃ cur : Array Value, w.heap[g]? = some (.cells cur 3 (0, 0)) ∧ n ≤ cap ∧ cur.size = o + cap ∧ ∀ j, j < n → cur[o + j]? = some (.int .i64 (cb (c j)))
theorem RowC.seg {w : World} {g cap n m : Nat} {c d : Nat → Bool} (h : RowC w g cap n c) (hm : m ≤ n) (hd : ∀ j, j < m → c j = d j) : SegC w g 0 cap m d := by
  obtain ⟨cur, h1, h2, h3, h4⟩ := h
  exact ⟨cur, h1, by omega, by omega, fun j hj => by rw [Nat.zero_add, h4 j (by omega), hd j hj]⟩
theorem SegC.lt {w : World} {g o cap n : Nat} {c : Nat → Bool} (h : SegC w g o cap n c) : g < w.heap.size := by
  obtain ⟨cur, h1, _⟩ := h
  exact heap_lt h1
theorem SegC.cell {w : World} {g o cap n : Nat} {c : Nat → Bool} (h : SegC w g o cap n c) (j : Nat) (hj : j < n) : w.cell? ⟨g, o + j, none⟩ = some (.int .i64 (cb (c j))) := by
  obtain ⟨cur, h1, h2, h3, h4⟩ := h
  rw [World.cell?, h1]
  exact h4 j hj
theorem SegC.frozen {w : World} {g o cap n : Nat} {c : Nat → Bool} (h : SegC w g o cap n c) (j : Nat) : w.frozen? ⟨g, j, none⟩ = false := by
  obtain ⟨cur, h1, h2, h3, h4⟩ := h
  simp [World.frozen?, h1]
theorem SegC.set {w : World} {g o cap n : Nat} {c d : Nat → Bool} (h : SegC w g o cap n c) (i : Nat) (hi : i < n) (x : Int) (hx : x = cb (d i)) (hd : ∀ j, j ≠ i → d j = c j) : SegC (w.setCell ⟨g, o + i, none⟩ (.int .i64 x)) g o cap n d := by
  obtain ⟨cur, h1, h2, h3, h4⟩ := h
  refine ⟨_, set_row h1 _, h2, by simpa using h3, fun j hj => ?_⟩
  rw [Array.getElem?_setIfInBounds]
  by_cases e : i = j
  · subst e
    rw [if_pos rfl, if_pos (by omega), hx]
  · rw [if_neg (by omega), h4 j hj, hd j (Ne.symm e)]
theorem SegC.same {w w' : World} {g o cap n : Nat} {c : Nat → Bool} (h : SegC w g o cap n c) (hk : w'.heap[g]? = w.heap[g]?) : SegC w' g o cap n c := by
  obtain ⟨cur, h1, h2⟩ := h
  exact ⟨cur, by rw [hk]; exact h1, h2⟩
/-- The first coefficient cut off. -/
theorem SegC.tail {w : World} {g o cap n : Nat} {c : Nat → Bool} (h : SegC w g o (cap + 1) (n + 1) c) : SegC w g (o + 1) cap n (fun j => c (j + 1)) := by
  obtain ⟨cur, h1, h2, h3, h4⟩ := h
  refine ⟨cur, h1, by omega, by omega, fun j hj => ?_⟩
  rw [show o + 1 + j = o + (j + 1) by omega]
  exact h4 (j + 1) (by omega)
theorem SegC.bits {w : World} {g o cap : Nat} {y : BitVec 128} (h : SegC w g o cap 128 y.getLsbD) : BitsAt w g o y := fun j hj => h.cell j hj
/-- 128 coefficients and a zero behind them. -/
def app0 (y : BitVec 128) (j : Nat) : Bool := if j < 128 then y.getLsbD j else false
/-- A division by x: the modulus is added ahead of it, where there is a constant term. -/
def dvd (y : BitVec 128) (j : Nat) : Bool := if y.getLsbD 0 then (if j = 128 then true else rdsP (app0 y) 4 j) else app0 y j
where rdsP (c : Nat → Bool) : Nat → (Nat → Bool)
  | 0 => c
  | k + 1 => Fld.flip (rdsP c k) (pP k)
theorem UP_bits : ∀ (y : BitVec 128) (j : Nat), j < 128 → dvd y (j + 1) = (UP y).getLsbD j := by
  intro y j hj
  have hU : (UP y).getLsbD j = (xor (y.getLsbD (j + 1)) (y.getLsbD 0 && (0xe1000000000000000000000000000000#128).getLsbD j)) := by
    rw [UP, BitVec.getLsbD_xor, BitVec.getLsbD_ushiftRight, Nat.add_comm 1 j]
    cases y.getLsbD 0 <;> simp
  rw [hU]
  have hm : ∀ j, j < 128 → (0xe1000000000000000000000000000000#128).getLsbD j = decide (j = 127 ∨ j = 126 ∨ j = 125 ∨ j = 120) := by decide +kernel
  rw [hm j hj, dvd]
  have h128 : y.getLsbD 128 = false := BitVec.getLsbD_of_ge _ _ (Nat.le_refl _)
  cases h0 : y.getLsbD 0
  · simp only [Bool.false_eq_true, if_false, Bool.false_and, Bool.xor_false, app0]
    by_cases h : j + 1 < 128
    · rw [if_pos h]
    · rw [if_neg h, show j + 1 = 128 by omega, h128]
  · simp only [if_true, Bool.true_and]
    by_cases h : j + 1 = 128
    · rw [if_pos h, h, h128, show j = 127 by omega]; rfl
    · rw [if_neg h]
      simp only [dvd.rdsP, Fld.flip, pP, app0]
      have hj1 : j + 1 < 128 := by omega
      simp only [hj1, if_true]
      rcases (show j = 126 ∨ j = 125 ∨ j = 120 ∨ (j ≠ 126 ∧ j ≠ 125 ∧ j ≠ 120) by omega) with rfl | rfl | rfl | ⟨h1, h2, h3⟩
      · simp
      · simp
      · simp
      · rw [if_neg (by omega), if_neg (by omega), if_neg (by omega), if_neg (by omega)]
        have : decide (j = 127 ∨ j = 126 ∨ j = 125 ∨ j = 120) = false := by simp; omega
        rw [this]; simp
end Go.Proofs.Ytnkpngpjlkkkbaa
