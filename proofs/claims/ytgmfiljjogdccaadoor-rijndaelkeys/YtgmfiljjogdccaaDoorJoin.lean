import Derived.Test.YtgmfiljjogdccaaDoorNum
import Derived.Deep.CutRange
namespace Go.Proofs.YtgmfiljjogdccaaDoor
open Go.RowKit
set_option linter.unusedVariables false
theorem sl_h (b o : Nat) (w' : World) : Sem.run Tryd.prog (Instr.sliceAt 42 (.pointer (some ⟨b, o, none⟩)) none (some (.int .i64 8)) none) w' = .ok (.slice (some ⟨b, o, none⟩) 8 16) w' := by
  have h := run_sliceAt_array_h (P := Tryd.prog) w' 42 ⟨b, o, none⟩ (by kernel_rfl) .i64 8 (by omega) (by rw [show Tryd.prog.arrayLen 42 = 16 by kernel_rfl]; omega)
  rw [h, show Tryd.prog.arrayLen 42 = 16 by kernel_rfl, show Tryd.prog.elem 42 = 5 by kernel_rfl]
  have e3 : (sizeOf 5).run Tryd.prog w' = .ok 1 w' := by kernel_rfl
  rw [e3]
  simp only [Result.andThen_ok, slicedAt]
  rw [if_neg (by decide), Nat.zero_mul, Addr.add_mid]
  rfl
theorem sl_l (b o : Nat) (w' : World) : Sem.run Tryd.prog (Instr.sliceAt 42 (.pointer (some ⟨b, o, none⟩)) (some (.int .i64 8)) none none) w' = .ok (.slice (some ⟨b, o + 8, none⟩) 8 8) w' := by
  have h := run_sliceAt_array_l (P := Tryd.prog) w' 42 ⟨b, o, none⟩ (by kernel_rfl) .i64 8 (by omega) (by rw [show Tryd.prog.arrayLen 42 = 16 by kernel_rfl]; omega)
  rw [h, show Tryd.prog.arrayLen 42 = 16 by kernel_rfl, show Tryd.prog.elem 42 = 5 by kernel_rfl]
  have e3 : (sizeOf 5).run Tryd.prog w' = .ok 1 w' := by kernel_rfl
  rw [e3]
  simp only [Result.andThen_ok, slicedAt]
  rw [if_neg (by decide), Nat.mul_one, Addr.add_mid]
  rfl
set_option maxHeartbeats 1600000 in
set_option maxRecDepth 100000 in
theorem halves_ok (s : W4) (hs : s.ok) (w : World) : Calls Tryd.prog 70 #[s.blk] w fun e w' => e = .returned (.tuple #[.int .u64 (s.a * 4294967296 + s.b : Nat), .int .u64 (s.c * 4294967296 + s.d : Nat)]) ∧ Below w.heap.size w w' := by
  obtain ⟨x, HX⟩ : ∃ x, Hid (x = s.a * 4294967296 + s.b) := ⟨_, rfl⟩
  obtain ⟨y, HY⟩ : ∃ x, Hid (x = s.c * 4294967296 + s.d) := ⟨_, rfl⟩
  have hr : (w.alloc (.cells #[.int .u8 (bt0 s.a : Nat), .int .u8 (bt1 s.a : Nat), .int .u8 (bt2 s.a : Nat), .int .u8 (bt3 s.a : Nat), .int .u8 (bt0 s.b : Nat), .int .u8 (bt1 s.b : Nat), .int .u8 (bt2 s.b : Nat), .int .u8 (bt3 s.b : Nat), .int .u8 (bt0 s.c : Nat), .int .u8 (bt1 s.c : Nat), .int .u8 (bt2 s.c : Nat), .int .u8 (bt3 s.c : Nat), .int .u8 (bt0 s.d : Nat), .int .u8 (bt1 s.d : Nat), .int .u8 (bt2 s.d : Nat), .int .u8 (bt3 s.d : Nat)] 42)).rangeAt w.heap.size 0 [.int .u8 (bt0 s.a : Nat), .int .u8 (bt1 s.a : Nat), .int .u8 (bt2 s.a : Nat), .int .u8 (bt3 s.a : Nat), .int .u8 (bt0 s.b : Nat), .int .u8 (bt1 s.b : Nat), .int .u8 (bt2 s.b : Nat), .int .u8 (bt3 s.b : Nat), .int .u8 (bt0 s.c : Nat), .int .u8 (bt1 s.c : Nat), .int .u8 (bt2 s.c : Nat), .int .u8 (bt3 s.c : Nat), .int .u8 (bt0 s.d : Nat), .int .u8 (bt1 s.d : Nat), .int .u8 (bt2 s.d : Nat), .int .u8 (bt3 s.d : Nat)] := rangeAt_new w #[.int .u8 (bt0 s.a : Nat), .int .u8 (bt1 s.a : Nat), .int .u8 (bt2 s.a : Nat), .int .u8 (bt3 s.a : Nat), .int .u8 (bt0 s.b : Nat), .int .u8 (bt1 s.b : Nat), .int .u8 (bt2 s.b : Nat), .int .u8 (bt3 s.b : Nat), .int .u8 (bt0 s.c : Nat), .int .u8 (bt1 s.c : Nat), .int .u8 (bt2 s.c : Nat), .int .u8 (bt3 s.c : Nat), .int .u8 (bt0 s.d : Nat), .int .u8 (bt1 s.d : Nat), .int .u8 (bt2 s.d : Nat), .int .u8 (bt3 s.d : Nat)] 42
  obtain ⟨k1, k2⟩ := halves_at w.heap.size s hs (w.alloc (.cells #[.int .u8 (bt0 s.a : Nat), .int .u8 (bt1 s.a : Nat), .int .u8 (bt2 s.a : Nat), .int .u8 (bt3 s.a : Nat), .int .u8 (bt0 s.b : Nat), .int .u8 (bt1 s.b : Nat), .int .u8 (bt2 s.b : Nat), .int .u8 (bt3 s.b : Nat), .int .u8 (bt0 s.c : Nat), .int .u8 (bt1 s.c : Nat), .int .u8 (bt2 s.c : Nat), .int .u8 (bt3 s.c : Nat), .int .u8 (bt0 s.d : Nat), .int .u8 (bt1 s.d : Nat), .int .u8 (bt2 s.d : Nat), .int .u8 (bt3 s.d : Nat)] 42)) hr
  rw [← HX.out] at k1 ⊢
  rw [← HY.out] at k2 ⊢
  have K1 : Hid (∀ u, Below (w.heap.size + 1) (w.alloc (.cells #[.int .u8 (bt0 s.a : Nat), .int .u8 (bt1 s.a : Nat), .int .u8 (bt2 s.a : Nat), .int .u8 (bt3 s.a : Nat), .int .u8 (bt0 s.b : Nat), .int .u8 (bt1 s.b : Nat), .int .u8 (bt2 s.b : Nat), .int .u8 (bt3 s.b : Nat), .int .u8 (bt0 s.c : Nat), .int .u8 (bt1 s.c : Nat), .int .u8 (bt2 s.c : Nat), .int .u8 (bt3 s.c : Nat), .int .u8 (bt0 s.d : Nat), .int .u8 (bt1 s.d : Nat), .int .u8 (bt2 s.d : Nat), .int .u8 (bt3 s.d : Nat)] 42)) u → Calls Tryd.prog 73 #[.slice (some ⟨w.heap.size, 0, none⟩) 8 16] u fun e u' => e = .returned (.int .u64 (x : Nat)) ∧ u' = u) := k1
  have K2 : Hid (∀ u, Below (w.heap.size + 1) (w.alloc (.cells #[.int .u8 (bt0 s.a : Nat), .int .u8 (bt1 s.a : Nat), .int .u8 (bt2 s.a : Nat), .int .u8 (bt3 s.a : Nat), .int .u8 (bt0 s.b : Nat), .int .u8 (bt1 s.b : Nat), .int .u8 (bt2 s.b : Nat), .int .u8 (bt3 s.b : Nat), .int .u8 (bt0 s.c : Nat), .int .u8 (bt1 s.c : Nat), .int .u8 (bt2 s.c : Nat), .int .u8 (bt3 s.c : Nat), .int .u8 (bt0 s.d : Nat), .int .u8 (bt1 s.d : Nat), .int .u8 (bt2 s.d : Nat), .int .u8 (bt3 s.d : Nat)] 42)) u → Calls Tryd.prog 73 #[.slice (some ⟨w.heap.size, 8, none⟩) 8 8] u fun e u' => e = .returned (.int .u64 (y : Nat)) ∧ u' = u) := k2
  have e1 := sl_h w.heap.size 0
  have e2 := sl_l w.heap.size 0
  clear k1 k2 hr hs
  show Calls Tryd.prog 70 #[.agg #[.int .u8 (bt0 s.a : Nat), .int .u8 (bt1 s.a : Nat), .int .u8 (bt2 s.a : Nat), .int .u8 (bt3 s.a : Nat), .int .u8 (bt0 s.b : Nat), .int .u8 (bt1 s.b : Nat), .int .u8 (bt2 s.b : Nat), .int .u8 (bt3 s.b : Nat), .int .u8 (bt0 s.c : Nat), .int .u8 (bt1 s.c : Nat), .int .u8 (bt2 s.c : Nat), .int .u8 (bt3 s.c : Nat), .int .u8 (bt0 s.d : Nat), .int .u8 (bt1 s.d : Nat), .int .u8 (bt2 s.d : Nat), .int .u8 (bt3 s.d : Nat)]] w _
  go_enter Tryd.func70, Tryd.ntmps70
  go_upto_region 1 with fail
  refine wp_region_noPanic ?_
  refine wp_region_held_drew (S := fun u => Below (w.heap.size + 1) (w.alloc (.cells #[.int .u8 (bt0 s.a : Nat), .int .u8 (bt1 s.a : Nat), .int .u8 (bt2 s.a : Nat), .int .u8 (bt3 s.a : Nat), .int .u8 (bt0 s.b : Nat), .int .u8 (bt1 s.b : Nat), .int .u8 (bt2 s.b : Nat), .int .u8 (bt3 s.b : Nat), .int .u8 (bt0 s.c : Nat), .int .u8 (bt1 s.c : Nat), .int .u8 (bt2 s.c : Nat), .int .u8 (bt3 s.c : Nat), .int .u8 (bt0 s.d : Nat), .int .u8 (bt1 s.d : Nat), .int .u8 (bt2 s.d : Nat), .int .u8 (bt3 s.d : Nat)] 42)) u) (by kernel_rfl) ((Below.refl _ _).drew) (fun _ => ?_)
  refine takeH_at 0 4 (.slice (some ⟨w.heap.size, 0, none⟩) 8 16) rfl rfl (by kernel_rfl) (by kernel_rfl) (by kernel_rfl) (fun _ _ _ h => h) ((Below.refl _ _).drew) (Or.inl ⟨by rfl, fun w' hS' => by go_simp⟩) ?_
  simp only [List.setIfInBounds_toArray, List.set_cons_zero, List.set_cons_succ]
  refine takeH_at 2 6 (.slice (some ⟨w.heap.size, 8, none⟩) 8 8) rfl rfl (by kernel_rfl) (by kernel_rfl) (by kernel_rfl) (fun _ _ _ h => h) ((Below.refl _ _).drew) (Or.inl ⟨by rfl, fun w' hS' => by go_simp⟩) ?_
  simp only [List.setIfInBounds_toArray, List.set_cons_zero, List.set_cons_succ]
  refine wpAnyH_ready (rs := [1]) (by kernel_rfl) (by simp) ?_
  refine AllReadyH.cons rfl (fun K hK => ?_) AllReadyH.nil
  go_simp
  refine (K1.out _ (Below.refl _ _).drew).mono ?_
  rintro e1 w1 ⟨rfl, hw1⟩
  obtain rfl := hw1.symm
  go_wp2_with fail
  refine hK.out _ _ ((Below.refl _ _).drew) (fun _ => ?_)
  clear hK K
  try simp only [List.setIfInBounds_toArray, List.set_cons_zero, List.set_cons_succ]
  refine wpAnyH_ready (rs := [3]) (by kernel_rfl) (by simp) ?_
  refine AllReadyH.cons rfl (fun K hK => ?_) AllReadyH.nil
  go_simp
  refine (K2.out _ (Below.refl _ _).drew).mono ?_
  rintro e1 w1 ⟨rfl, hw1⟩
  obtain rfl := hw1.symm
  go_wp2_with fail
  refine hK.out _ _ ((Below.refl _ _).drew) (fun _ => ?_)
  clear hK K
  try simp only [List.setIfInBounds_toArray, List.set_cons_zero, List.set_cons_succ]
  refine takeH_at 4 2 (.int .u64 (x : Nat)) rfl rfl (by kernel_rfl) (by kernel_rfl) (by kernel_rfl) (fun _ _ _ h => h) ((Below.refl _ _).drew) (Or.inl ⟨by rfl, fun w' hS' => by go_simp⟩) ?_
  simp only [List.setIfInBounds_toArray, List.set_cons_zero, List.set_cons_succ]
  refine takeH_at 5 3 (.int .u64 (y : Nat)) rfl rfl (by kernel_rfl) (by kernel_rfl) (by kernel_rfl) (fun _ _ _ h => h) ((Below.refl _ _).drew) (Or.inl ⟨by rfl, fun w' hS' => by go_simp⟩) ?_
  simp only [List.setIfInBounds_toArray, List.set_cons_zero, List.set_cons_succ]
  refine wpAnyH_done (by kernel_rfl) ?_ _
  refine NoPanic.normal ?_
  go_wp2
  go_ret2
  exact ⟨rfl, ((Below.refl _ w).alloc (Nat.le_refl _) _).drew⟩
/-- A block out of its halves. -/
def joinW (h l : Nat) : W4 := ⟨h / 4294967296, h % 4294967296, l / 4294967296, l % 4294967296⟩
theorem joinW_ok {h l : Nat} (hh : h < 18446744073709551616) (hl : l < 18446744073709551616) : (joinW h l).ok := by unfold joinW W4.ok; simp only; omega
theorem byteK_hi (n : Nat) (h : n < 18446744073709551616) : byteK n 0 = bt0 (n / 4294967296) ∧ byteK n 1 = bt1 (n / 4294967296) ∧ byteK n 2 = bt2 (n / 4294967296) ∧ byteK n 3 = bt3 (n / 4294967296) ∧ byteK n 4 = bt0 (n % 4294967296) ∧ byteK n 5 = bt1 (n % 4294967296) ∧ byteK n 6 = bt2 (n % 4294967296) ∧ byteK n 7 = bt3 (n % 4294967296) := by
  have e0 : byteK n 0 = n / 72057594037927936 % 256 := rfl
  have e1 : byteK n 1 = n / 281474976710656 % 256 := rfl
  have e2 : byteK n 2 = n / 1099511627776 % 256 := rfl
  have e3 : byteK n 3 = n / 4294967296 % 256 := rfl
  have e4 : byteK n 4 = n / 16777216 % 256 := rfl
  have e5 : byteK n 5 = n / 65536 % 256 := rfl
  have e6 : byteK n 6 = n / 256 % 256 := rfl
  have e7 : byteK n 7 = n / 1 % 256 := rfl
  unfold bt0 bt1 bt2 bt3
  rw [e0, e1, e2, e3, e4, e5, e6, e7]
  refine ⟨?_, ?_, ?_, ?_, ?_, ?_, ?_, ?_⟩ <;> omega
set_option maxHeartbeats 1600000 in
set_option maxRecDepth 100000 in
theorem join_ok (h l : Nat) (hh : h < 18446744073709551616) (hl : l < 18446744073709551616) (w : World) : Calls Tryd.prog 72 #[.int .u64 (h : Nat), .int .u64 (l : Nat)] w fun e w' => e = .returned (joinW h l).blk ∧ Below w.heap.size w w' := by
  have HH : Hid (h < 18446744073709551616) := hh
  have HL : Hid (l < 18446744073709551616) := hl
  have e1 := sl_h (w.heap.size + 1) 0
  have e2 := sl_l (w.heap.size + 1) 0
  have HT : Hid (((w.alloc (.cells #[.int .u8 0, .int .u8 0, .int .u8 0, .int .u8 0, .int .u8 0, .int .u8 0, .int .u8 0, .int .u8 0, .int .u8 0, .int .u8 0, .int .u8 0, .int .u8 0, .int .u8 0, .int .u8 0, .int .u8 0, .int .u8 0] 42)).alloc (.cells #[.int .u8 0, .int .u8 0, .int .u8 0, .int .u8 0, .int .u8 0, .int .u8 0, .int .u8 0, .int .u8 0, .int .u8 0, .int .u8 0, .int .u8 0, .int .u8 0, .int .u8 0, .int .u8 0, .int .u8 0, .int .u8 0] 42)).there (w.heap.size + 1) 0 16 ∧ ((w.alloc (.cells #[.int .u8 0, .int .u8 0, .int .u8 0, .int .u8 0, .int .u8 0, .int .u8 0, .int .u8 0, .int .u8 0, .int .u8 0, .int .u8 0, .int .u8 0, .int .u8 0, .int .u8 0, .int .u8 0, .int .u8 0, .int .u8 0] 42)).alloc (.cells #[.int .u8 0, .int .u8 0, .int .u8 0, .int .u8 0, .int .u8 0, .int .u8 0, .int .u8 0, .int .u8 0, .int .u8 0, .int .u8 0, .int .u8 0, .int .u8 0, .int .u8 0, .int .u8 0, .int .u8 0, .int .u8 0] 42)).there w.heap.size 0 16 ∧ Below w.heap.size w ((w.alloc (.cells #[.int .u8 0, .int .u8 0, .int .u8 0, .int .u8 0, .int .u8 0, .int .u8 0, .int .u8 0, .int .u8 0, .int .u8 0, .int .u8 0, .int .u8 0, .int .u8 0, .int .u8 0, .int .u8 0, .int .u8 0, .int .u8 0] 42)).alloc (.cells #[.int .u8 0, .int .u8 0, .int .u8 0, .int .u8 0, .int .u8 0, .int .u8 0, .int .u8 0, .int .u8 0, .int .u8 0, .int .u8 0, .int .u8 0, .int .u8 0, .int .u8 0, .int .u8 0, .int .u8 0, .int .u8 0] 42)) ∧ ((w.alloc (.cells #[.int .u8 0, .int .u8 0, .int .u8 0, .int .u8 0, .int .u8 0, .int .u8 0, .int .u8 0, .int .u8 0, .int .u8 0, .int .u8 0, .int .u8 0, .int .u8 0, .int .u8 0, .int .u8 0, .int .u8 0, .int .u8 0] 42)).alloc (.cells #[.int .u8 0, .int .u8 0, .int .u8 0, .int .u8 0, .int .u8 0, .int .u8 0, .int .u8 0, .int .u8 0, .int .u8 0, .int .u8 0, .int .u8 0, .int .u8 0, .int .u8 0, .int .u8 0, .int .u8 0, .int .u8 0] 42)).heap.size = w.heap.size + 2) :=
    ⟨there_two w _ _ 42 42 rfl, World.there_alloc (there_new w _ 42 16 (Nat.le_refl _)) _, (two_allocs w _ _ 42 42).1, by simp⟩
  clear hh hl
  go_enter Tryd.func72, Tryd.ntmps72
  go_upto_region 2 with fail
  generalize (w.alloc (.cells #[.int .u8 0, .int .u8 0, .int .u8 0, .int .u8 0, .int .u8 0, .int .u8 0, .int .u8 0, .int .u8 0, .int .u8 0, .int .u8 0, .int .u8 0, .int .u8 0, .int .u8 0, .int .u8 0, .int .u8 0, .int .u8 0] 42)).alloc (.cells #[.int .u8 0, .int .u8 0, .int .u8 0, .int .u8 0, .int .u8 0, .int .u8 0, .int .u8 0, .int .u8 0, .int .u8 0, .int .u8 0, .int .u8 0, .int .u8 0, .int .u8 0, .int .u8 0, .int .u8 0, .int .u8 0] 42) = w2 at HT ⊢
  have K1 : Hid (Calls Tryd.prog 74 #[.slice (some ⟨w.heap.size + 1, 0, none⟩) 8 16, .int .u64 (h : Nat)] w2 fun e w' => e = .returned (.tuple #[]) ∧ Touch w2 w' (w.heap.size + 1) 0 8 ∧ ∀ k, k < 8 → w'.cell? ⟨w.heap.size + 1, 0 + k, none⟩ = some (.int .u8 (byteK h k : Nat))) := put_ok (w.heap.size + 1) 0 8 16 h w2 (Nat.le_refl _) HH.out (fun j hj => HT.out.1 j (by omega))
  go_wp2_with (first | (go_at_call 74; refine K1.out.mono ?_))
  rintro e3 w3 ⟨rfl, ht3, hc3⟩
  have K2 : Hid (Calls Tryd.prog 74 #[.slice (some ⟨w.heap.size + 1, 8, none⟩) 8 8, .int .u64 (l : Nat)] w3 fun e w' => e = .returned (.tuple #[]) ∧ Touch w3 w' (w.heap.size + 1) 8 8 ∧ ∀ k, k < 8 → w'.cell? ⟨w.heap.size + 1, 8 + k, none⟩ = some (.int .u8 (byteK l k : Nat))) := put_ok (w.heap.size + 1) 8 8 8 l w3 (Nat.le_refl _) HL.out (fun j hj => by have := ht3.there _ _ HT.out.1 (8 + j) (by omega); rw [Nat.zero_add] at this; exact this)
  have H3 : Hid (Touch w2 w3 (w.heap.size + 1) 0 8 ∧ ∀ k, k < 8 → w3.cell? ⟨w.heap.size + 1, 0 + k, none⟩ = some (.int .u8 (byteK h k : Nat))) := ⟨ht3, hc3⟩
  clear ht3 hc3 K1
  go_wp2_with (first | (go_at_call 74; refine K2.out.mono ?_))
  rintro e4 w4 ⟨rfl, ht4, hc4⟩
  have H4 : Hid (w4.rangeAt (w.heap.size + 1) 0 [.int .u8 (byteK h 0 : Nat), .int .u8 (byteK h 1 : Nat), .int .u8 (byteK h 2 : Nat), .int .u8 (byteK h 3 : Nat), .int .u8 (byteK h 4 : Nat), .int .u8 (byteK h 5 : Nat), .int .u8 (byteK h 6 : Nat), .int .u8 (byteK h 7 : Nat), .int .u8 (byteK l 0 : Nat), .int .u8 (byteK l 1 : Nat), .int .u8 (byteK l 2 : Nat), .int .u8 (byteK l 3 : Nat), .int .u8 (byteK l 4 : Nat), .int .u8 (byteK l 5 : Nat), .int .u8 (byteK l 6 : Nat), .int .u8 (byteK l 7 : Nat)] ∧ w4.there w.heap.size 0 16 ∧ Below w.heap.size w w4) := by
    obtain ⟨t1, t2, t3, t4⟩ := HT.out
    obtain ⟨p1, p2⟩ := H3.out
    have hs1 := p1.size
    have hs2 := ht4.size
    refine ⟨fun j v hv => ?_, fun j hj => ?_, ?_⟩
    · have hj : j < 16 := (List.getElem?_eq_some_iff.1 hv).1
      have h16 : j = 0 ∨ j = 1 ∨ j = 2 ∨ j = 3 ∨ j = 4 ∨ j = 5 ∨ j = 6 ∨ j = 7 ∨ j = 8 ∨ j = 9 ∨ j = 10 ∨ j = 11 ∨ j = 12 ∨ j = 13 ∨ j = 14 ∨ j = 15 := by omega
      have q1 : ∀ k, k < 8 → w4.cell? ⟨w.heap.size + 1, 0 + k, none⟩ = some (.int .u8 (byteK h k : Nat)) := fun k hk => (ht4.cell _ (by omega)).trans (p2 k hk)
      have q2 : ∀ k, k < 8 → w4.cell? ⟨w.heap.size + 1, 0 + (8 + k), none⟩ = some (.int .u8 (byteK l k : Nat)) := fun k hk => by rw [Nat.zero_add]; exact hc4 k hk
      rcases h16 with rfl | rfl | rfl | rfl | rfl | rfl | rfl | rfl | rfl | rfl | rfl | rfl | rfl | rfl | rfl | rfl
      all_goals (obtain rfl := Option.some.inj hv)
      all_goals first | exact q1 _ (by omega) | exact q2 0 (by omega) | exact q2 1 (by omega) | exact q2 2 (by omega) | exact q2 3 (by omega) | exact q2 4 (by omega) | exact q2 5 (by omega) | exact q2 6 (by omega) | exact q2 7 (by omega)
    · rw [ht4.far (p := ⟨w.heap.size, 0 + j, none⟩) (show w.heap.size < _ by omega) (show w.heap.size ≠ _ by omega), ht4.farFrozen (p := ⟨w.heap.size, 0 + j, none⟩) (show w.heap.size < _ by omega) (show w.heap.size ≠ _ by omega), p1.far (p := ⟨w.heap.size, 0 + j, none⟩) (show w.heap.size < _ by omega) (show w.heap.size ≠ _ by omega), p1.farFrozen (p := ⟨w.heap.size, 0 + j, none⟩) (show w.heap.size < _ by omega) (show w.heap.size ≠ _ by omega)]
      exact t2 j hj
    · exact (t3.trans (p1.toBelow (Nat.le_succ _) (by omega))).trans (ht4.toBelow (Nat.le_succ _) (by omega))
  clear ht4 hc4 K2 H3
  have hl4 := run_loadVar_mid (P := Tryd.prog) w4 (w.heap.size + 1) 0 42 [.int .u8 (byteK h 0 : Nat), .int .u8 (byteK h 1 : Nat), .int .u8 (byteK h 2 : Nat), .int .u8 (byteK h 3 : Nat), .int .u8 (byteK h 4 : Nat), .int .u8 (byteK h 5 : Nat), .int .u8 (byteK h 6 : Nat), .int .u8 (byteK h 7 : Nat), .int .u8 (byteK l 0 : Nat), .int .u8 (byteK l 1 : Nat), .int .u8 (byteK l 2 : Nat), .int .u8 (byteK l 3 : Nat), .int .u8 (byteK l 4 : Nat), .int .u8 (byteK l 5 : Nat), .int .u8 (byteK l 6 : Nat), .int .u8 (byteK l 7 : Nat)] _ H4.out.1 Tryd.underlying42 rfl size42
  go_wp2_with (first
    | (refine wpList_load_mid (by rfl) 42 (.tmp 5) (by rfl) (w.heap.size + 1) 0 (by rfl) [.int .u8 (byteK h 0 : Nat), .int .u8 (byteK h 1 : Nat), .int .u8 (byteK h 2 : Nat), .int .u8 (byteK h 3 : Nat), .int .u8 (byteK h 4 : Nat), .int .u8 (byteK h 5 : Nat), .int .u8 (byteK h 6 : Nat), .int .u8 (byteK h 7 : Nat), .int .u8 (byteK l 0 : Nat), .int .u8 (byteK l 1 : Nat), .int .u8 (byteK l 2 : Nat), .int .u8 (byteK l 3 : Nat), .int .u8 (byteK l 4 : Nat), .int .u8 (byteK l 5 : Nat), .int .u8 (byteK l 6 : Nat), .int .u8 (byteK l 7 : Nat)] _ H4.out.1 Tryd.underlying42 rfl size42 ?_)
    | (refine wpList_store_mid (by rfl) 42 (.tmp 4) (.tmp 12) (by rfl) w.heap.size 0 ([.int .u8 (byteK h 0 : Nat), .int .u8 (byteK h 1 : Nat), .int .u8 (byteK h 2 : Nat), .int .u8 (byteK h 3 : Nat), .int .u8 (byteK h 4 : Nat), .int .u8 (byteK h 5 : Nat), .int .u8 (byteK h 6 : Nat), .int .u8 (byteK h 7 : Nat), .int .u8 (byteK l 0 : Nat), .int .u8 (byteK l 1 : Nat), .int .u8 (byteK l 2 : Nat), .int .u8 (byteK l 3 : Nat), .int .u8 (byteK l 4 : Nat), .int .u8 (byteK l 5 : Nat), .int .u8 (byteK l 6 : Nat), .int .u8 (byteK l 7 : Nat)]).toArray (by rfl) (by rfl) H4.out.2.1 size42 (by kernel_rfl) ?_)
    | fail)
  refine ret_array [.int .u8 (byteK h 0 : Nat), .int .u8 (byteK h 1 : Nat), .int .u8 (byteK h 2 : Nat), .int .u8 (byteK h 3 : Nat), .int .u8 (byteK h 4 : Nat), .int .u8 (byteK h 5 : Nat), .int .u8 (byteK h 6 : Nat), .int .u8 (byteK h 7 : Nat), .int .u8 (byteK l 0 : Nat), .int .u8 (byteK l 1 : Nat), .int .u8 (byteK l 2 : Nat), .int .u8 (byteK l 3 : Nat), .int .u8 (byteK l 4 : Nat), .int .u8 (byteK l 5 : Nat), .int .u8 (byteK l 6 : Nat), .int .u8 (byteK l 7 : Nat)] Tryd.results72 rfl (World.rangeAt_setCells_same _ _ _ _ H4.out.2.1) Tryd.underlying42 rfl size42 ⟨?_, belowB_setCells _ (Nat.le_refl _) _ _ _ H4.out.2.2⟩
  obtain ⟨a0, a1, a2, a3, a4, a5, a6, a7⟩ := byteK_hi h HH.out
  obtain ⟨b0, b1, b2, b3, b4, b5, b6, b7⟩ := byteK_hi l HL.out
  rw [a0, a1, a2, a3, a4, a5, a6, a7, b0, b1, b2, b3, b4, b5, b6, b7]
  exact rfl
end Go.Proofs.YtgmfiljjogdccaaDoor
