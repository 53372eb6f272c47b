import Derived.Test.YtcopkohklgbpgaaDoorSpell
namespace Go.Proofs.YtcopkohklgbpgaaDoor
open Go.RowKit
set_option linter.unusedVariables false
set_option linter.unusedSimpArgs false

/-- The cells of a taken, as a list. -/
def tkL (h : Int) (wd : Bool) (s : Eight) (half : Nat → Int) (fed : Nat) : List Value :=
  .int .i64 h :: fnV wd :: (s.cells ++ ((List.range 128).map (fun i => Value.int .u8 (half i)) ++ [.int .u64 fed]))
theorem tkL_length (h : Int) (wd : Bool) (s : Eight) (half : Nat → Int) (fed : Nat) : (tkL h wd s half fed).length = 139 := by simp [tkL, Eight.cells_length]
theorem tkL_at (h : Int) (wd : Bool) (s : Eight) (half : Nat → Int) (fed : Nat) :
    (tkL h wd s half fed)[0]? = some (.int .i64 h) ∧ (tkL h wd s half fed)[1]? = some (fnV wd) ∧ (∀ i, i < 8 → (tkL h wd s half fed)[2 + i]? = s.cells[i]?) ∧ (∀ i, i < 128 → (tkL h wd s half fed)[10 + i]? = some (.int .u8 (half i))) ∧ (tkL h wd s half fed)[138]? = some (.int .u64 fed) := by
  have hc := s.cells_length
  refine ⟨rfl, rfl, ?_, ?_, ?_⟩
  · intro i hi
    rw [tkL, show 2 + i = (i + 1) + 1 by omega, List.getElem?_cons_succ, List.getElem?_cons_succ, List.getElem?_append_left (by omega)]
  · intro i hi
    rw [tkL, show 10 + i = ((8 + i) + 1) + 1 by omega, List.getElem?_cons_succ, List.getElem?_cons_succ, List.getElem?_append_right (by omega), List.getElem?_append_left (by simp; omega)]
    rw [hc, show 8 + i - 8 = i by omega]
    simp [hi]
  · rw [tkL, show 138 = (136 + 1) + 1 by omega, List.getElem?_cons_succ, List.getElem?_cons_succ, List.getElem?_append_right (by omega), List.getElem?_append_right (by simp; omega)]
    simp [hc]
theorem TK.range {w : World} {g o : Nat} {h : Int} {wd : Bool} {s : Eight} {half : Nat → Int} {fed : Nat} (k : TK w g o h wd s half fed) : w.rangeAt g o (tkL h wd s half fed) := by
  obtain ⟨h0, h1, h2, h3, h4⟩ := tkL_at h wd s half fed
  intro j v hv
  have hj : j < 139 := by
    by_cases hj : j < 139
    · exact hj
    · rw [List.getElem?_eq_none (by rw [tkL_length]; omega)] at hv; cases hv
  by_cases j0 : j = 0
  · subst j0; rw [h0] at hv; cases hv; exact k.hash
  by_cases j1 : j = 1
  · subst j1; rw [h1] at hv; cases hv; exact k.fn
  by_cases j2 : j < 10
  · obtain ⟨i, rfl⟩ : ∃ i, j = 2 + i := ⟨j - 2, by omega⟩
    rw [h2 i (by omega)] at hv
    rw [← Nat.add_assoc]
    exact k.st i v hv
  by_cases j3 : j < 138
  · obtain ⟨i, rfl⟩ : ∃ i, j = 10 + i := ⟨j - 10, by omega⟩
    rw [h3 i (by omega)] at hv
    rw [← Nat.add_assoc]
    cases hv
    exact k.half i (by omega)
  · obtain rfl : j = 138 := by omega
    rw [h4] at hv; cases hv; exact k.fed
theorem TK.of {w : World} {g o : Nat} {h : Int} {wd : Bool} {s : Eight} {half : Nat → Int} {fed : Nat} (hr : w.rangeAt g o (tkL h wd s half fed)) (ht : w.there g o 139) : TK w g o h wd s half fed := by
  obtain ⟨h0, h1, h2, h3, h4⟩ := tkL_at h wd s half fed
  refine ⟨hr 0 _ h0, hr 1 _ h1, fun j v hv => ?_, fun i hi => ?_, hr 138 _ h4, ht⟩
  · have hj : j < 8 := by
      by_cases hj : j < s.cells.length
      · exact hj
      · rw [List.getElem?_eq_none (by omega)] at hv; cases hv
    have := hr (2 + j) v (by rw [h2 j hj]; exact hv)
    rw [← Nat.add_assoc] at this
    exact this
  · have := hr (10 + i) _ (h3 i hi)
    rw [← Nat.add_assoc] at this
    exact this
theorem cells_oneE (s : Eight) : ∀ v ∈ s.cells, v.oneCell' = true := by
  intro v hv
  simp only [Eight.cells, List.mem_map] at hv
  obtain ⟨x, _, rfl⟩ := hv
  rfl
theorem tkL_one (h : Int) (wd : Bool) (s : Eight) (half : Nat → Int) (fed : Nat) : (tkL h wd s half fed).toArray.all (·.oneCell') = true := all_oneCell_toArray (by
  intro v hv
  simp only [tkL, List.mem_cons, List.mem_append, List.mem_map, List.mem_singleton] at hv
  rcases hv with rfl | rfl | hv | ⟨i, _, rfl⟩ | rfl | hv
  · rfl
  · cases wd <;> rfl
  · exact cells_oneE s v hv
  · rfl
  · rfl
  · simp at hv)
theorem tkArr_size (h : Int) (wd : Bool) (s : Eight) (half : Nat → Int) (fed : Nat) : (tkL h wd s half fed).toArray.size = 139 := by simp [tkL_length]

end Go.Proofs.YtcopkohklgbpgaaDoor
