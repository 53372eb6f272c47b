import Derived.Test.YtffejkfkkciaaaaWds
import Derived.Test.YtffejkfkkciaaaaTake
import Derived.Deep.RegionHeld3
import Derived.Laws.BytesString
namespace Go.Proofs.Ytffejkfkkciaaaa
open Go.RowKit

theorem strOf_word (l : List UInt8) : strOfNums (l.map fun b => (b.toNat : Int)) = ⟨l.toArray⟩ := by
  unfold strOfNums
  rw [List.map_map]
  congr 2
  induction l with
  | nil => rfl
  | cons a r ih => rw [List.map_cons, ih]; simp
theorem bytes_append (a b : List UInt8) : (⟨(a ++ b).toArray⟩ : ByteArray) = ⟨a.toArray⟩ ++ ⟨b.toArray⟩ := by
  apply ByteArray.ext
  simp

set_option maxHeartbeats 1000000 in
set_option maxRecDepth 100000 in
theorem rwords_core (g o n c : Nat) (xs : List Int) (w : World) (hn : n ≤ 3000) (ax : Hid (∀ i, 0 ≤ xs.getD i 0 ∧ xs.getD i 0 < 256)) (hnc : n ≤ c) (hcm : c ≤ 9223372036854775807)
    (h1 : Hid (∀ i, i < n → w.cell? ⟨g, o + i, none⟩ = some (.int .u8 (xs.getD i 0)))) :
    Calls Try.prog 12 #[.slice (some ⟨g, o, none⟩) n c] w fun e w' => e = .returned (.string ⟨(wl xs (n / 2)).toArray⟩) ∧ Below w.heap.size w w' := by
  go_enter Try.func12, Try.ntmps12
  go_wp2
  go_loopw [3, 4] (fun s i wr => ∃ k : Nat, 2 * k ≤ n ∧ i = .int .i64 ((2 * k : Nat) : Int) ∧ s = .string ⟨(wl xs k).toArray⟩ ∧ Hid (Below w.heap.size w wr)) (fun _ i _ => n - (intOf i).toNat)
  case atStart => exact ⟨0, by omega, rfl, rfl, Below.refl _ _⟩
  case round =>
    obtain ⟨k, hk, rfl, rfl, HB⟩ := hrel
    have HL := wl_length xs k
    by_cases hlt : 2 * k + 1 < n
    · have g1 := h1.out (2 * k) (by omega)
      have g2 := h1.out (2 * k + 1) (by omega)
      have hgb : g < w.heap.size := World.block_lt_of_cell? w _ g1
      obtain ⟨x0, x1⟩ := ax.out (2 * k)
      obtain ⟨y0, y1⟩ := ax.out (2 * k + 1)
      have HW : Hid (wl xs (k + 1) = wl xs k ++ ((if k = 0 then [] else [32]) ++ word (xs.getD (2 * k) 0 * 256 + xs.getD (2 * k + 1) 0))) := rfl
      generalize xs.getD (2 * k) 0 = x at g1 x0 x1 HW
      generalize xs.getD (2 * k + 1) 0 = y at g2 y0 y1 HW
      have c1 : wr.cell? ⟨g, o + 2 * k, none⟩ = some (.int .u8 x) := (HB.out.cell hgb).trans g1
      have c2 : wr.cell? ⟨g, o + (2 * k + 1), none⟩ = some (.int .u8 y) := (HB.out.cell hgb).trans g2
      have q1 : (2 * (k : Int)) < (n : Int) := by omega
      have q2 : (2 * (k : Int) + 1) < (n : Int) := by omega
      generalize HS : wl xs k = S at HL HW
      go_wp2
      go_quiet (fail)
      have v0 : 0 ≤ x * 256 + y := by omega
      have v1 : x * 256 + y < 65536 := by omega
      generalize x * 256 + y = v at v0 v1 HW ⊢
      clear x0 x1 y0 y1 g1 g2 c1 c2
      go_wp2
      have hC := con_at
      have hV := vow_at
      have b0 : 0 ≤ v / 4096 := by omega
      have b1 : v / 4096 < 16 := by omega
      have b2 : 0 ≤ v / 1024 % 4 := by omega
      have b3 : v / 1024 % 4 < 4 := by omega
      have b4 : 0 ≤ v / 64 % 16 := by omega
      have b5 : v / 64 % 16 < 16 := by omega
      have b6 : 0 ≤ v / 16 % 4 := by omega
      have b7 : v / 16 % 4 < 4 := by omega
      have b8 : 0 ≤ v % 16 := by omega
      have b9 : v % 16 < 16 := by omega
      have t4096 : v.tdiv 4096 = v / 4096 := Int.tdiv_eq_ediv_of_nonneg v0
      have r4096 : 0 ≤ v / 4096 := by omega
      have s4096 : IntKind.i64.wrap (v / 4096) = v / 4096 := by rw [IntKind.wrap_i64]; omega
      have t1024 : v.tdiv 1024 = v / 1024 := Int.tdiv_eq_ediv_of_nonneg v0
      have r1024 : 0 ≤ v / 1024 := by omega
      have s1024 : IntKind.i64.wrap (v / 1024) = v / 1024 := by rw [IntKind.wrap_i64]; omega
      have t64 : v.tdiv 64 = v / 64 := Int.tdiv_eq_ediv_of_nonneg v0
      have r64 : 0 ≤ v / 64 := by omega
      have s64 : IntKind.i64.wrap (v / 64) = v / 64 := by rw [IntKind.wrap_i64]; omega
      have t16 : v.tdiv 16 = v / 16 := Int.tdiv_eq_ediv_of_nonneg v0
      have r16 : 0 ≤ v / 16 := by omega
      have s16 : IntKind.i64.wrap (v / 16) = v / 16 := by rw [IntKind.wrap_i64]; omega
      have m1 : (v / 1024).tmod 4 = v / 1024 % 4 := Int.tmod_eq_emod_of_nonneg r1024
      have m2 : (v / 64).tmod 16 = v / 64 % 16 := Int.tmod_eq_emod_of_nonneg r64
      have m3 : (v / 16).tmod 4 = v / 16 % 4 := Int.tmod_eq_emod_of_nonneg r16
      have m4 : v.tmod 16 = v % 16 := Int.tmod_eq_emod_of_nonneg v0
      refine wp_region_noPanic ?_
      refine wp_region_held_drew (S := fun w' => Below w.heap.size w w') (by kernel_rfl) (below_drewN0 HB.out (nq + 1)) (fun _ => ?_)
      refine takeH_at 0 27 (.int .i64 (v)) rfl rfl (by kernel_rfl) (by kernel_rfl) (by kernel_rfl) (fun _ _ _ h => h) (below_drewN0 HB.out (nq + 1)) (Or.inl ⟨by rfl, fun w' hS' => by go_simp⟩) ?_
      simp only [List.setIfInBounds_toArray, List.set_cons_zero, List.set_cons_succ]
      refine takeH_at 1 28 (.int .i64 (v / 4096)) rfl rfl (by kernel_rfl) (by kernel_rfl) (by kernel_rfl) (fun _ _ _ h => h) (below_drewN0 HB.out (nq + 1)) (Or.inl ⟨by rfl, fun w' hS' => by go_simp⟩) ?_
      simp only [List.setIfInBounds_toArray, List.set_cons_zero, List.set_cons_succ]
      refine takeH_at 2 29 (.int .u8 (((conU (v / 4096).toNat).toNat : Nat) : Int)) rfl rfl (by kernel_rfl) (by kernel_rfl) (by kernel_rfl) (fun _ _ _ h => h) (below_drewN0 HB.out (nq + 1)) (Or.inl ⟨by rfl, fun w' hS' => by go_simp⟩) ?_
      simp only [List.setIfInBounds_toArray, List.set_cons_zero, List.set_cons_succ]
      refine takeH_at 3 30 (.int .i64 (v)) rfl rfl (by kernel_rfl) (by kernel_rfl) (by kernel_rfl) (fun _ _ _ h => h) (below_drewN0 HB.out (nq + 1)) (Or.inl ⟨by rfl, fun w' hS' => by go_simp⟩) ?_
      simp only [List.setIfInBounds_toArray, List.set_cons_zero, List.set_cons_succ]
      refine takeH_at 4 31 (.int .i64 (v / 1024)) rfl rfl (by kernel_rfl) (by kernel_rfl) (by kernel_rfl) (fun _ _ _ h => h) (below_drewN0 HB.out (nq + 1)) (Or.inl ⟨by rfl, fun w' hS' => by go_simp⟩) ?_
      simp only [List.setIfInBounds_toArray, List.set_cons_zero, List.set_cons_succ]
      refine takeH_at 5 32 (.int .i64 (v / 1024 % 4)) rfl rfl (by kernel_rfl) (by kernel_rfl) (by kernel_rfl) (fun _ _ _ h => h) (below_drewN0 HB.out (nq + 1)) (Or.inl ⟨by rfl, fun w' hS' => by go_simp⟩) ?_
      simp only [List.setIfInBounds_toArray, List.set_cons_zero, List.set_cons_succ]
      refine takeH_at 6 33 (.int .u8 (((vowU (v / 1024 % 4).toNat).toNat : Nat) : Int)) rfl rfl (by kernel_rfl) (by kernel_rfl) (by kernel_rfl) (fun _ _ _ h => h) (below_drewN0 HB.out (nq + 1)) (Or.inl ⟨by rfl, fun w' hS' => by go_simp⟩) ?_
      simp only [List.setIfInBounds_toArray, List.set_cons_zero, List.set_cons_succ]
      refine takeH_at 7 34 (.int .i64 (v)) rfl rfl (by kernel_rfl) (by kernel_rfl) (by kernel_rfl) (fun _ _ _ h => h) (below_drewN0 HB.out (nq + 1)) (Or.inl ⟨by rfl, fun w' hS' => by go_simp⟩) ?_
      simp only [List.setIfInBounds_toArray, List.set_cons_zero, List.set_cons_succ]
      refine takeH_at 8 35 (.int .i64 (v / 64)) rfl rfl (by kernel_rfl) (by kernel_rfl) (by kernel_rfl) (fun _ _ _ h => h) (below_drewN0 HB.out (nq + 1)) (Or.inl ⟨by rfl, fun w' hS' => by go_simp⟩) ?_
      simp only [List.setIfInBounds_toArray, List.set_cons_zero, List.set_cons_succ]
      refine takeH_at 9 36 (.int .i64 (v / 64 % 16)) rfl rfl (by kernel_rfl) (by kernel_rfl) (by kernel_rfl) (fun _ _ _ h => h) (below_drewN0 HB.out (nq + 1)) (Or.inl ⟨by rfl, fun w' hS' => by go_simp⟩) ?_
      simp only [List.setIfInBounds_toArray, List.set_cons_zero, List.set_cons_succ]
      refine takeH_at 10 37 (.int .u8 (((conU (v / 64 % 16).toNat).toNat : Nat) : Int)) rfl rfl (by kernel_rfl) (by kernel_rfl) (by kernel_rfl) (fun _ _ _ h => h) (below_drewN0 HB.out (nq + 1)) (Or.inl ⟨by rfl, fun w' hS' => by go_simp⟩) ?_
      simp only [List.setIfInBounds_toArray, List.set_cons_zero, List.set_cons_succ]
      refine takeH_at 11 38 (.int .i64 (v)) rfl rfl (by kernel_rfl) (by kernel_rfl) (by kernel_rfl) (fun _ _ _ h => h) (below_drewN0 HB.out (nq + 1)) (Or.inl ⟨by rfl, fun w' hS' => by go_simp⟩) ?_
      simp only [List.setIfInBounds_toArray, List.set_cons_zero, List.set_cons_succ]
      refine takeH_at 12 39 (.int .i64 (v / 16)) rfl rfl (by kernel_rfl) (by kernel_rfl) (by kernel_rfl) (fun _ _ _ h => h) (below_drewN0 HB.out (nq + 1)) (Or.inl ⟨by rfl, fun w' hS' => by go_simp⟩) ?_
      simp only [List.setIfInBounds_toArray, List.set_cons_zero, List.set_cons_succ]
      refine takeH_at 13 40 (.int .i64 (v / 16 % 4)) rfl rfl (by kernel_rfl) (by kernel_rfl) (by kernel_rfl) (fun _ _ _ h => h) (below_drewN0 HB.out (nq + 1)) (Or.inl ⟨by rfl, fun w' hS' => by go_simp⟩) ?_
      simp only [List.setIfInBounds_toArray, List.set_cons_zero, List.set_cons_succ]
      refine takeH_at 14 41 (.int .u8 (((vowU (v / 16 % 4).toNat).toNat : Nat) : Int)) rfl rfl (by kernel_rfl) (by kernel_rfl) (by kernel_rfl) (fun _ _ _ h => h) (below_drewN0 HB.out (nq + 1)) (Or.inl ⟨by rfl, fun w' hS' => by go_simp⟩) ?_
      simp only [List.setIfInBounds_toArray, List.set_cons_zero, List.set_cons_succ]
      refine takeH_at 15 42 (.int .i64 (v)) rfl rfl (by kernel_rfl) (by kernel_rfl) (by kernel_rfl) (fun _ _ _ h => h) (below_drewN0 HB.out (nq + 1)) (Or.inl ⟨by rfl, fun w' hS' => by go_simp⟩) ?_
      simp only [List.setIfInBounds_toArray, List.set_cons_zero, List.set_cons_succ]
      refine takeH_at 16 43 (.int .i64 (v % 16)) rfl rfl (by kernel_rfl) (by kernel_rfl) (by kernel_rfl) (fun _ _ _ h => h) (below_drewN0 HB.out (nq + 1)) (Or.inl ⟨by rfl, fun w' hS' => by go_simp⟩) ?_
      simp only [List.setIfInBounds_toArray, List.set_cons_zero, List.set_cons_succ]
      refine takeH_at 17 44 (.int .u8 (((conU (v % 16).toNat).toNat : Nat) : Int)) rfl rfl (by kernel_rfl) (by kernel_rfl) (by kernel_rfl) (fun _ _ _ h => h) (below_drewN0 HB.out (nq + 1)) (Or.inl ⟨by rfl, fun w' hS' => by go_simp⟩) ?_
      simp only [List.setIfInBounds_toArray, List.set_cons_zero, List.set_cons_succ]
      refine wpAnyH_ready (rs := [18]) (by kernel_rfl) (by simp) ?_
      refine AllReadyH.cons rfl (fun K hK => ?_) AllReadyH.nil
      go_simp
      refine hK.out _ _ ((below_drewN0 HB.out (nq + 1)).alloc (by have := HB.out.size; simpa using this) _) (fun _ => ?_)
      clear hK K
      try simp only [List.setIfInBounds_toArray, List.set_cons_zero, List.set_cons_succ]
      refine takeH_at 19 6 (.slice (some ⟨wr.heap.size, 0, none⟩) 5 5) rfl rfl (by kernel_rfl) (by kernel_rfl) (by kernel_rfl) (fun _ _ _ h => h) ((below_drewN0 HB.out (nq + 1)).alloc (by have := HB.out.size; simpa using this) _) (Or.inl ⟨by rfl, fun w' hS' => by go_simp⟩) ?_
      simp only [List.setIfInBounds_toArray, List.set_cons_zero, List.set_cons_succ]
      refine wpAnyH_done (by kernel_rfl) ?_ _
      refine NoPanic.normal ?_
      have HB2 : Hid (Below w.heap.size w ((wr.drewN (nq + 1)).alloc (.cells #[.int .u8 ((conU (v / 4096).toNat).toNat : Int), .int .u8 ((vowU (v / 1024 % 4).toNat).toNat : Int), .int .u8 ((conU (v / 64 % 16).toNat).toNat : Int), .int .u8 ((vowU (v / 16 % 4).toNat).toNat : Int), .int .u8 ((conU (v % 16).toNat).toNat : Int)] 5))) := (below_drewN0 HB.out (nq + 1)).alloc (by have := HB.out.size; simpa using this) _
      have hbk : (convert 25 9 (.slice (some ⟨wr.heap.size, 0, none⟩) 5 5)).run Try.prog ((wr.drewN (nq + 1)).alloc (.cells #[.int .u8 ((conU (v / 4096).toNat).toNat : Int), .int .u8 ((vowU (v / 1024 % 4).toNat).toNat : Int), .int .u8 ((conU (v / 64 % 16).toNat).toNat : Int), .int .u8 ((vowU (v / 16 % 4).toNat).toNat : Int), .int .u8 ((conU (v % 16).toNat).toNat : Int)] 5)) = .ok (.string ⟨(word v).toArray⟩) ((wr.drewN (nq + 1)).alloc (.cells #[.int .u8 ((conU (v / 4096).toNat).toNat : Int), .int .u8 ((vowU (v / 1024 % 4).toNat).toNat : Int), .int .u8 ((conU (v / 64 % 16).toNat).toNat : Int), .int .u8 ((vowU (v / 16 % 4).toNat).toNat : Int), .int .u8 ((conU (v % 16).toNat).toNat : Int)] 5)) := by
        refine (run_convert_bytes_arg _ 25 5 Try.underlying25 Try.underlying5 wr.heap.size 0 5 5 ((word v).map fun b => (b.toNat : Int)) rfl (fun i hi => ?_) 9 Try.underlying9).trans ?_
        · match i, hi with
          | 0, _ => exact (Lib.cell_of_heap (heap_alloc_new (wr.drewN (nq + 1)) _) 0).trans rfl
          | 1, _ => exact (Lib.cell_of_heap (heap_alloc_new (wr.drewN (nq + 1)) _) 1).trans rfl
          | 2, _ => exact (Lib.cell_of_heap (heap_alloc_new (wr.drewN (nq + 1)) _) 2).trans rfl
          | 3, _ => exact (Lib.cell_of_heap (heap_alloc_new (wr.drewN (nq + 1)) _) 3).trans rfl
          | 4, _ => exact (Lib.cell_of_heap (heap_alloc_new (wr.drewN (nq + 1)) _) 4).trans rfl
        · rw [strOf_word]
      generalize (wr.drewN (nq + 1)).alloc (.cells #[.int .u8 ((conU (v / 4096).toNat).toNat : Int), .int .u8 ((vowU (v / 1024 % 4).toNat).toNat : Int), .int .u8 ((conU (v / 64 % 16).toNat).toNat : Int), .int .u8 ((vowU (v / 16 % 4).toNat).toNat : Int), .int .u8 ((conU (v % 16).toNat).toNat : Int)] 5) = w2 at HB2 hbk ⊢
      clear hC hV HB b0 b1 b2 b3 b4 b5 b6 b7 b8 b9 t4096 r4096 s4096 t1024 r1024 s1024 t64 r64 s64 t16 r16 s16 m1 m2 m3 m4
      by_cases h0 : k = 0
      · subst h0
        go_wp2
        · exfalso; have h9 : 9223372036854775807 < S.length + (word v).length := by assumption
          have hw : (word v).length = 5 := rfl
          omega
        refine ⟨⟨1, by omega, by go_num, by rw [HW.out, if_pos rfl, List.nil_append, bytes_append], HB2⟩, by simp [intOf]; omega⟩
      · go_wp2
        · exfalso; have h9 : 9223372036854775807 < S.length + 1 + (word v).length := by assumption
          have hw : (word v).length = 5 := rfl
          omega
        refine ⟨⟨k + 1, by omega, by go_num, by rw [HW.out, if_neg h0, ← List.append_assoc]; exact congrArg Value.string (by rw [bytes_append, ← bytes_append S [32]]), HB2⟩, by simp [intOf]; omega⟩
    · obtain rfl : k = n / 2 := by omega
      go_wp2
      go_ret
      exact ⟨rfl, HB⟩
end Go.Proofs.Ytffejkfkkciaaaa
