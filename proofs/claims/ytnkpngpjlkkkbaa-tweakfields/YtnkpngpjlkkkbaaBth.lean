import Derived.Test.YtnkpngpjlkkkbaaBtg
namespace Go.Proofs.Ytnkpngpjlkkkbaa
open Go.RowKit Go.Proofs.Ytnkpngpjlkkkbaa.Fld
set_option linter.unusedVariables false
set_option linter.unusedSimpArgs false
/-- append of one zero to 128 coefficients. -/
theorem append_seg (wr : World) (g o cap : Nat) (y : BitVec 128) (h : SegC wr g o cap 128 y.getLsbD) (ty : TypeId) :
    ∃ g' o' cap' w', (Builtin.append_ #[41, 41] ty #[.slice (some ⟨g, o, none⟩) 128 cap, .slice (some ⟨wr.heap.size, 0, none⟩) 1 1]).run Try.prog (wr.alloc (.cells #[.int .i64 0] 3)) = .ok (.slice (some ⟨g', o', none⟩) 129 (cap' + 1)) w' ∧ SegC w' g' o' (cap' + 1) 129 (app0 y) ∧ (g' = g ∨ wr.heap.size < g') ∧ w'.os = wr.os ∧ w'.tape = wr.tape ∧ w'.output = wr.output ∧ wr.heap.size ≤ w'.heap.size ∧ ∀ b, b < wr.heap.size → b ≠ g → w'.heap[b]? = wr.heap[b]? := by
  obtain ⟨i, hi, hz0, hz1, hz2⟩ := info_parts info3
  have hlt := h.lt
  obtain ⟨cur, h1, h2, h3, h4⟩ := h
  have hg1 : (wr.alloc (.cells #[.int .i64 0] 3)).heap[g]? = some (.cells cur 3 (0, 0)) := by rw [Below.heap_alloc _ _ _ hlt]; exact h1
  have hnews : ∀ (j : Nat) (u : Value), [Value.int .i64 0][j]? = some u → (wr.alloc (.cells #[.int .i64 0] 3)).cell? ((⟨wr.heap.size, 0, none⟩ : Addr).add j) = some u := World.news_of_block (cs := #[.int .i64 0]) (t := 3) (fr := (0, 0)) (heap_alloc_new wr _)
  by_cases hroom : 128 + 1 ≤ cap
  · have hcell : (wr.alloc (.cells #[.int .i64 0] 3)).cell? ⟨g, o + 128, none⟩ = cur[o + 128]? := by simp [World.cell?, hg1]
    have hsome : (cur[o + 128]?).isSome = true := by rw [Array.getElem?_eq_getElem (by omega)]; rfl
    have q := run_append_room_src (P := Try.prog) (wr.alloc (.cells #[.int .i64 0] 3)) 41 41 ty 3 i und41 hi g o 128 cap _ 1 [.int .i64 0] (Src.ofSlice _ und41 ⟨wr.heap.size, 0, none⟩ 1 1 [.int .i64 0] (by rw [hz1]; rfl) hnews (by simp [Value.oneCell'])) hroom
      (fun j hj => by
        have hj0 : j = 0 := by simpa using hj
        rw [hz1, hj0, show o + 128 * 1 + 0 = o + 128 by omega, hcell]
        exact hsome)
      (fun j hj => by simp [World.frozen?, hg1])
    rw [hz1, show o + 128 * 1 = o + 128 by omega] at q
    have es : (wr.alloc (.cells #[.int .i64 0] 3)).setCells g (o + 128) [.int .i64 0] = (wr.alloc (.cells #[.int .i64 0] 3)).setCell ⟨g, o + 128, none⟩ (.int .i64 0) := by simp [World.setCells]
    rw [es] at q
    refine ⟨g, o, cap - 1, (wr.alloc (.cells #[.int .i64 0] 3)).setCell ⟨g, o + 128, none⟩ (.int .i64 0), by rw [show cap - 1 + 1 = cap by omega]; exact q, ?_, .inl rfl, rfl, rfl, rfl, by simp [World.setCell], fun b hb hn => ?_⟩
    · rw [show cap - 1 + 1 = cap by omega]
      refine ⟨_, set_row hg1 _, hroom, by simpa using h3, fun j hj => ?_⟩
      rw [Array.getElem?_setIfInBounds]
      by_cases e : j = 128
      · rw [if_pos (by omega), if_pos (by omega), e]; rfl
      · rw [if_neg (by omega), h4 j (by omega), app0, if_pos (by omega)]
    · rw [Below.heap_setCell _ _ _ _ hn, Below.heap_alloc _ _ _ hb]
  · have holds : ∀ j v, (ci y.getLsbD 128)[j]? = some v → (wr.alloc (.cells #[.int .i64 0] 3)).cell? ((⟨g, o, none⟩ : Addr).add j) = some v := fun j v hv => by
      have hj : j < 128 := by
        rcases Nat.lt_or_ge j 128 with q | q
        · exact q
        · rw [List.getElem?_eq_none (by rw [ci_len]; exact q)] at hv; cases hv
      rw [ci_at _ _ _ hj] at hv
      rw [Addr.add_lit, World.cell?, hg1, ← hv]
      exact h4 j hj
    have hnc := nextslicecap_le (need := 128 + 1) (old := cap) (by omega)
    have q := run_append_grow (P := Try.prog) (wr.alloc (.cells #[.int .i64 0] 3)) 41 ty 3 i (.int .i64 0) und41 hi hz0 ⟨g, o, none⟩ 128 cap (ci y.getLsbD 128) (by rw [ci_len, hz1]) holds ⟨wr.heap.size, 0, none⟩ 1 1 [.int .i64 0] (by rw [hz1]; rfl) hnews (by omega) (by decide) (by rw [hz2]; omega)
    have hc := grownCap_ge (wr.alloc (.cells #[.int .i64 0] 3)) (128 + 1) cap 3
    generalize grownCap (wr.alloc (.cells #[.int .i64 0] 3)) (128 + 1) cap 3 = C at q hc
    refine ⟨(wr.alloc (.cells #[.int .i64 0] 3)).heap.size, 0, C - 1, (wr.alloc (.cells #[.int .i64 0] 3)).drew.alloc (.cells ((ci y.getLsbD 128).toArray ++ #[.int .i64 0] ++ Builtin.zeroCells (Value.int .i64 0).cells (C - (128 + 1))) 3), by rw [show C - 1 + 1 = C by omega]; exact q, ?_, .inr (by simp), rfl, rfl, rfl, by simp <;> omega, fun b hb hn => ?_⟩
    · rw [show C - 1 + 1 = C by omega]
      refine ⟨_, heap_alloc_new (wr.alloc (.cells #[.int .i64 0] 3)).drew _, hc, ?_, fun j hj => ?_⟩
      · simp [ci_len, size_zeroCells, Value.cells]
        omega
      · rw [Nat.zero_add, Array.getElem?_append_left (by simp [ci_len]; omega)]
        by_cases e : j < 128
        · rw [Array.getElem?_append_left (by simp [ci_len]; omega), List.getElem?_toArray, ci_at _ _ _ e, app0, if_pos e]
        · rw [Array.getElem?_append_right (by simp [ci_len]; omega)]
          have : j = 128 := by omega
          subst this
          simp [ci_len, app0, cb]
    · rw [Below.heap_alloc (wr.alloc (.cells #[.int .i64 0] 3)).drew _ _ (show b < (wr.alloc (.cells #[.int .i64 0] 3)).heap.size by simp; omega)]
      show (wr.alloc (.cells #[.int .i64 0] 3)).heap[b]? = _
      rw [Below.heap_alloc _ _ _ hb]
end Go.Proofs.Ytnkpngpjlkkkbaa
