import Derived.Test.YtmfnhdflmnmooaaNxa
namespace Go.Proofs.Ytmfnhdflmnmooaa
open Go.RowKit
set_option linter.unusedVariables false
set_option linter.unusedSimpArgs false
set_option maxHeartbeats 1600000 in
set_option maxRecDepth 100000 in
theorem sectors_ok (U C H K : Int) (w : World) (hU : unitB U = true) (h1 : 0 ≤ H) (h2 : H ≤ 4194304) (k1 : 0 ≤ K) (k2 : K ≤ 134217728) (c1 : (2 * H + K) / U ≤ C) (c2 : C ≤ 4294967296) : Calls Try.prog 25 #[.agg #[.int .i64 U, .int .u64 C, .int .i64 H, .int .i64 K]] w fun e w' => Hid (e = .returned (.int .u64 (C - (2 * H + K) / U)) ∧ Below w.heap.size w w') := by
  have HA : Hid (SAt (w.alloc (.cells #[.int .i64 U, .int .u64 C, .int .i64 H, .int .i64 K] 24)) w.heap.size U C H K ∧ Below w.heap.size w (w.alloc (.cells #[.int .i64 U, .int .u64 C, .int .i64 H, .int .i64 K] 24)) ∧ (w.alloc (.cells #[.int .i64 U, .int .u64 C, .int .i64 H, .int .i64 K] 24)).rangeAt w.heap.size 0 [.int .i64 U, .int .u64 C, .int .i64 H, .int .i64 K]) := ⟨SAt.new _ _ _ _ _ _, below_alloc1 _ _, fun j v hv => by rw [Nat.zero_add]; exact rangeAt_new w _ 24 j v (by simpa using hv)⟩
  have hUr : 512 ≤ U ∧ U ≤ 4096 := by rcases unitB_cases hU with h | h | h | h <;> omega
  have HC : Hid (∀ u, Calls Try.prog 54 #[.agg #[.int .i64 U, .int .u64 C, .int .i64 H, .int .i64 K]] u fun e w' => Hid (e = .returned (.int .u64 ((2 * H + K) / U)) ∧ Below u.heap.size u w')) := fun u => first_ok U C H K u hU h1 h2 k1 k2
  have hq0 : 0 ≤ (2 * H + K) / U := Int.ediv_nonneg (by omega) (by omega)
  obtain ⟨Q, hQ⟩ : ∃ Q, Hid (Q = (2 * H + K) / U) := ⟨_, rfl⟩
  rw [← hQ.out] at HC c1 hq0 ⊢
  go_enter Try.func25, Try.ntmps25
  go_upto_region 1 with fail
  generalize (w.alloc (.cells #[.int .i64 U, .int .u64 C, .int .i64 H, .int .i64 K] 24)) = w0 at HA ⊢
  have eQ : IntKind.u64.wrap (C - Q) = C - Q := by rw [IntKind.wrap_u64]; omega
  have hS0 : Below w0.heap.size w0 w0.drew := (Below.refl _ _).drew
  have hlt : w.heap.size < w0.heap.size := lt_of_cell HA.out.1.c0
  have hrg : ∀ u, Below w0.heap.size w0 u → u.rangeAt w.heap.size 0 [.int .i64 U, .int .u64 C, .int .i64 H, .int .i64 K] := fun u hu j v hj => (hu.cell (p := ⟨w.heap.size, 0 + j, none⟩) hlt).trans (HA.out.2.2 j v hj)
  have hld : ∀ u, Below w0.heap.size w0 u → u.cell? ⟨w.heap.size, 1, none⟩ = some (.int .u64 C) := fun u hu => hrg u hu 1 _ rfl
  refine wp_region_noPanic ?_
  refine wp_region_held_drew (S := fun u => Below w0.heap.size w0 u) (by kernel_rfl) (hS0) (fun _ => ?_)
  refine takeH_at 0 3 (.pointer (some ⟨w.heap.size, 1, none⟩)) rfl rfl (by kernel_rfl) (by kernel_rfl) (by kernel_rfl) (fun _ _ _ h => h) (hS0) (Or.inl ⟨by rfl, fun w' hS' => by go_simp⟩) ?_
  simp only [List.setIfInBounds_toArray, List.set_cons_zero, List.set_cons_succ]
  refine takeH_at 1 4 (.int .u64 C) rfl rfl (by kernel_rfl) (by kernel_rfl) (by kernel_rfl) (fun _ _ _ h => h) (hS0) (Or.inl ⟨by rfl, fun w' hS' => by have q := hld w' hS'; go_simp⟩) ?_
  simp only [List.setIfInBounds_toArray, List.set_cons_zero, List.set_cons_succ]
  refine takeH_at 2 5 (.agg #[.int .i64 U, .int .u64 C, .int .i64 H, .int .i64 K]) rfl rfl (by kernel_rfl) (by kernel_rfl) (by kernel_rfl) (fun _ _ _ h => h) hS0 (yieldsIf_load_mid (by rfl) 24 (.tmp 1) rfl w.heap.size 0 rfl [.int .i64 U, .int .u64 C, .int .i64 H, .int .i64 K] _ hrg Try.underlying24 rfl (by kernel_rfl)) ?_
  simp only [List.setIfInBounds_toArray, List.set_cons_zero, List.set_cons_succ]
  refine wpAnyH_ready (rs := [3]) (by kernel_rfl) (by simp) ?_
  refine AllReadyH.cons rfl (fun Kx hK => ?_) AllReadyH.nil
  go_simp
  refine (HC.out _).mono ?_
  intro e1 q1 hh
  obtain ⟨he, hq1⟩ := hh.out
  subst he
  have hS1 : Below w0.heap.size w0 q1 := hS0.trans (hq1.mono hS0.size)
  clear hh
  go_wp2_with fail
  refine hK.out _ _ hS1 (fun _ => ?_)
  clear hK Kx
  try simp only [Act.put, List.setIfInBounds_toArray, List.set_cons_zero, List.set_cons_succ]
  refine takeH_at 4 7 (.int .u64 (C - Q)) rfl rfl (by kernel_rfl) (by kernel_rfl) (by kernel_rfl) (fun _ _ _ h => h) (hS1) (Or.inl ⟨by rfl, fun w' hS' => by go_simp⟩) ?_
  simp only [List.setIfInBounds_toArray, List.set_cons_zero, List.set_cons_succ]
  refine takeH_at 5 2 (.int .u64 (C - Q)) rfl rfl (by kernel_rfl) (by kernel_rfl) (by kernel_rfl) (fun _ _ _ h => h) (hS1) (Or.inl ⟨by rfl, fun w' hS' => by go_simp⟩) ?_
  simp only [List.setIfInBounds_toArray, List.set_cons_zero, List.set_cons_succ]
  refine wpAnyH_done (by kernel_rfl) ?_ _
  refine NoPanic.normal ?_
  go_wp2_with fail
  go_ret
  exact ⟨rfl, HA.out.2.1.trans (hS1.mono HA.out.2.1.size)⟩
set_option maxHeartbeats 1600000 in
set_option maxRecDepth 100000 in
theorem rstart_ok (U C H K : Int) (w : World) (hU : unitB U = true) (h1 : 0 ≤ H) (h2 : H ≤ 4194304) (k1 : 0 ≤ K) (k2 : K ≤ 134217728) : Calls Try.prog 56 #[.agg #[.int .i64 U, .int .u64 C, .int .i64 H, .int .i64 K]] w fun e w' => Hid (e = .returned (.int .u64 ((2 * H + K) / U)) ∧ Below w.heap.size w w') := by
  have HA : Hid (SAt (w.alloc (.cells #[.int .i64 U, .int .u64 C, .int .i64 H, .int .i64 K] 24)) w.heap.size U C H K ∧ Below w.heap.size w (w.alloc (.cells #[.int .i64 U, .int .u64 C, .int .i64 H, .int .i64 K] 24)) ∧ (w.alloc (.cells #[.int .i64 U, .int .u64 C, .int .i64 H, .int .i64 K] 24)).rangeAt w.heap.size 0 [.int .i64 U, .int .u64 C, .int .i64 H, .int .i64 K]) := ⟨SAt.new _ _ _ _ _ _, below_alloc1 _ _, fun j v hv => by rw [Nat.zero_add]; exact rangeAt_new w _ 24 j v (by simpa using hv)⟩
  go_enter Try.func56, Try.ntmps56
  go_upto_region 1 with fail
  generalize (w.alloc (.cells #[.int .i64 U, .int .u64 C, .int .i64 H, .int .i64 K] 24)) = w0 at HA ⊢
  have hUr : 512 ≤ U ∧ U ≤ 4096 := by rcases unitB_cases hU with h | h | h | h <;> omega
  have c0 := HA.out.1.c0
  have c2 := HA.out.1.c2
  have c3 := HA.out.1.c3
  have eq0 : (2 * H + K).tdiv U = (2 * H + K) / U := Int.tdiv_eq_ediv_of_nonneg (by omega)
  have hU1 : U ≠ 0 := by omega
  have hU2 : (U == 0) = false := by simp; omega
  have hle : 0 ≤ (2 * H + K) / U ∧ (2 * H + K) / U ≤ 2 * H + K := ⟨Int.ediv_nonneg (by omega) (by omega), Int.ediv_le_self _ (by omega)⟩
  have e1 : IntKind.i64.wrap (2 * H) = 2 * H := by rw [IntKind.wrap_i64]; omega
  have e2 : IntKind.i64.wrap (2 * H + K) = 2 * H + K := by rw [IntKind.wrap_i64]; omega
  have e3 : IntKind.i64.wrap ((2 * H + K) / U) = (2 * H + K) / U := by rw [IntKind.wrap_i64]; omega
  have e4 : IntKind.u64.wrap ((2 * H + K) / U) = (2 * H + K) / U := by rw [IntKind.wrap_u64]; omega
  go_wp2
  go_ret
  refine ⟨?_, HA.out.2.1⟩
  first | rfl | (congr 2; done) | (simp only [e1, e2, e3, e4, eq0]; done)
set_option maxHeartbeats 1600000 in
set_option maxRecDepth 100000 in
theorem rsize_ok (U C H K : Int) (w : World) (hU : unitB U = true) (h1 : 0 ≤ H) (h2 : H ≤ 4194304) (k1 : 0 ≤ K) (k2 : K ≤ 134217728) (c1 : (2 * H + K) / U ≤ C) (c2 : C ≤ 4294967296) : Calls Try.prog 28 #[.agg #[.int .i64 U, .int .u64 C, .int .i64 H, .int .i64 K]] w fun e w' => Hid (e = .returned (.int .u64 (C - (2 * H + K) / U)) ∧ Below w.heap.size w w') := by
  have HA : Hid (SAt (w.alloc (.cells #[.int .i64 U, .int .u64 C, .int .i64 H, .int .i64 K] 24)) w.heap.size U C H K ∧ Below w.heap.size w (w.alloc (.cells #[.int .i64 U, .int .u64 C, .int .i64 H, .int .i64 K] 24)) ∧ (w.alloc (.cells #[.int .i64 U, .int .u64 C, .int .i64 H, .int .i64 K] 24)).rangeAt w.heap.size 0 [.int .i64 U, .int .u64 C, .int .i64 H, .int .i64 K]) := ⟨SAt.new _ _ _ _ _ _, below_alloc1 _ _, fun j v hv => by rw [Nat.zero_add]; exact rangeAt_new w _ 24 j v (by simpa using hv)⟩
  have hUr : 512 ≤ U ∧ U ≤ 4096 := by rcases unitB_cases hU with h | h | h | h <;> omega
  have HC : Hid (∀ u, Calls Try.prog 56 #[.agg #[.int .i64 U, .int .u64 C, .int .i64 H, .int .i64 K]] u fun e w' => Hid (e = .returned (.int .u64 ((2 * H + K) / U)) ∧ Below u.heap.size u w')) := fun u => rstart_ok U C H K u hU h1 h2 k1 k2
  have hq0 : 0 ≤ (2 * H + K) / U := Int.ediv_nonneg (by omega) (by omega)
  obtain ⟨Q, hQ⟩ : ∃ Q, Hid (Q = (2 * H + K) / U) := ⟨_, rfl⟩
  rw [← hQ.out] at HC c1 hq0 ⊢
  go_enter Try.func28, Try.ntmps28
  go_upto_region 1 with fail
  generalize (w.alloc (.cells #[.int .i64 U, .int .u64 C, .int .i64 H, .int .i64 K] 24)) = w0 at HA ⊢
  have eQ : IntKind.u64.wrap (C - Q) = C - Q := by rw [IntKind.wrap_u64]; omega
  have hS0 : Below w0.heap.size w0 w0.drew := (Below.refl _ _).drew
  have hlt : w.heap.size < w0.heap.size := lt_of_cell HA.out.1.c0
  have hrg : ∀ u, Below w0.heap.size w0 u → u.rangeAt w.heap.size 0 [.int .i64 U, .int .u64 C, .int .i64 H, .int .i64 K] := fun u hu j v hj => (hu.cell (p := ⟨w.heap.size, 0 + j, none⟩) hlt).trans (HA.out.2.2 j v hj)
  have hld : ∀ u, Below w0.heap.size w0 u → u.cell? ⟨w.heap.size, 1, none⟩ = some (.int .u64 C) := fun u hu => hrg u hu 1 _ rfl
  refine wp_region_noPanic ?_
  refine wp_region_held_drew (S := fun u => Below w0.heap.size w0 u) (by kernel_rfl) (hS0) (fun _ => ?_)
  refine takeH_at 0 3 (.pointer (some ⟨w.heap.size, 1, none⟩)) rfl rfl (by kernel_rfl) (by kernel_rfl) (by kernel_rfl) (fun _ _ _ h => h) (hS0) (Or.inl ⟨by rfl, fun w' hS' => by go_simp⟩) ?_
  simp only [List.setIfInBounds_toArray, List.set_cons_zero, List.set_cons_succ]
  refine takeH_at 1 4 (.int .u64 C) rfl rfl (by kernel_rfl) (by kernel_rfl) (by kernel_rfl) (fun _ _ _ h => h) (hS0) (Or.inl ⟨by rfl, fun w' hS' => by have q := hld w' hS'; go_simp⟩) ?_
  simp only [List.setIfInBounds_toArray, List.set_cons_zero, List.set_cons_succ]
  refine takeH_at 2 5 (.agg #[.int .i64 U, .int .u64 C, .int .i64 H, .int .i64 K]) rfl rfl (by kernel_rfl) (by kernel_rfl) (by kernel_rfl) (fun _ _ _ h => h) hS0 (yieldsIf_load_mid (by rfl) 24 (.tmp 1) rfl w.heap.size 0 rfl [.int .i64 U, .int .u64 C, .int .i64 H, .int .i64 K] _ hrg Try.underlying24 rfl (by kernel_rfl)) ?_
  simp only [List.setIfInBounds_toArray, List.set_cons_zero, List.set_cons_succ]
  refine wpAnyH_ready (rs := [3]) (by kernel_rfl) (by simp) ?_
  refine AllReadyH.cons rfl (fun Kx hK => ?_) AllReadyH.nil
  go_simp
  refine (HC.out _).mono ?_
  intro e1 q1 hh
  obtain ⟨he, hq1⟩ := hh.out
  subst he
  have hS1 : Below w0.heap.size w0 q1 := hS0.trans (hq1.mono hS0.size)
  clear hh
  go_wp2_with fail
  refine hK.out _ _ hS1 (fun _ => ?_)
  clear hK Kx
  try simp only [Act.put, List.setIfInBounds_toArray, List.set_cons_zero, List.set_cons_succ]
  refine takeH_at 4 7 (.int .u64 (C - Q)) rfl rfl (by kernel_rfl) (by kernel_rfl) (by kernel_rfl) (fun _ _ _ h => h) (hS1) (Or.inl ⟨by rfl, fun w' hS' => by go_simp⟩) ?_
  simp only [List.setIfInBounds_toArray, List.set_cons_zero, List.set_cons_succ]
  refine takeH_at 5 2 (.int .u64 (C - Q)) rfl rfl (by kernel_rfl) (by kernel_rfl) (by kernel_rfl) (fun _ _ _ h => h) (hS1) (Or.inl ⟨by rfl, fun w' hS' => by go_simp⟩) ?_
  simp only [List.setIfInBounds_toArray, List.set_cons_zero, List.set_cons_succ]
  refine wpAnyH_done (by kernel_rfl) ?_ _
  refine NoPanic.normal ?_
  go_wp2_with fail
  go_ret
  exact ⟨rfl, HA.out.2.1.trans (hS1.mono HA.out.2.1.size)⟩
end Go.Proofs.Ytmfnhdflmnmooaa
