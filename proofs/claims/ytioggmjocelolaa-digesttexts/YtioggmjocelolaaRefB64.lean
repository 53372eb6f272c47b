import Derived.Test.YtioggmjocelolaaRefHex
import Derived.Test.YtioggmjocelolaaNext
namespace Go.Proofs.Ytioggmjocelolaa
open Go.RowKit

theorem at_int (v : Value) (xs : List Int) (i : Int) (w : World) (h0 : 0 ≤ i) (ax : AllBytes xs) (h : View w v xs) :
    Calls Try.prog 29 #[v, .int .i64 i] w fun e w' => e = .returned (.int .i64 (xs.getD i.toNat 0)) ∧ w' = w := by
  obtain ⟨n, rfl⟩ := Int.eq_ofNat_of_zero_le h0
  rw [Int.toNat_natCast]
  exact at_any v xs n w ax h

set_option maxHeartbeats 1600000 in
set_option maxRecDepth 100000 in
theorem rb64_any (v0 : Value) (xs : List Int) (w : World) (hn0 : xs.length ≤ 65536) (ax : AllBytes xs) (h : View w v0 xs) :
    Calls Try.prog 18 #[v0] w fun e w' => e = .returned (.string (strOfNums (b64 xs))) ∧ Below w.heap.size w w' := by
  have HV : Hid (View w v0 xs) := h
  obtain ⟨a0, c0, he, _⟩ := h
  obtain ⟨n, hxl⟩ : ∃ n, n = xs.length := ⟨_, rfl⟩
  rw [← hxl] at he hn0
  have HX : Hid (n = xs.length) := hxl
  subst he
  clear hxl
  obtain ⟨i0, hi, hz0, hz1, hz2⟩ := info_parts Try.info5
  have h8 : decide ((12582912 : Int) < (n : Int)) = false := by simp; omega
  go_enter Try.func18, Try.ntmps18
  go_wp2
  go_loopw [3, 4, 5] (fun v i _ wr => ∃ k : Nat, k ≤ (n + 2) / 3 ∧ i = .int .i64 ((3 * k : Nat) : Int) ∧ wr.ownsRow w.heap.size 5 1 v (4 * k) (cellsU8 ((b64 xs).take (4 * k))) ∧ Hid (Below w.heap.size w wr)) (fun _ i _ _ => n + 3 - (intOf i).toNat)
  case atStart => exact ⟨0, by omega, rfl, World.ownsRow_nil _ _ _ _, Below.refl _ _⟩
  case round =>
    obtain ⟨k, hk, rfl, hown2, HB2⟩ := hrel
    by_cases hlt : 3 * k < n
    · have V2 : Hid (View wr (.slice a0 n c0) xs) := HV.out.kept HB2.out.block
      have r0 := ax (3 * k)
      have r1 := ax (3 * k + 1)
      have r2 := ax (3 * k + 2)
      have HN := b64_next xs (bytes_of ax) k (by rw [← HX.out]; exact hlt) (xs.getD (3 * k) 0) (xs.getD (3 * k + 1) 0) (xs.getD (3 * k + 2) 0) _ rfl rfl rfl rfl
      rw [← HX.out] at HN
      have f0 : xs.getD (3 * (k : Int)).toNat 0 = xs.getD (3 * k) 0 := by rw [show (3 * (k : Int)).toNat = 3 * k by omega]
      have f1 : xs.getD (3 * (k : Int) + 1).toNat 0 = xs.getD (3 * k + 1) 0 := by rw [show (3 * (k : Int) + 1).toNat = 3 * k + 1 by omega]
      have f2 : xs.getD (3 * (k : Int) + 2).toNat 0 = xs.getD (3 * k + 2) 0 := by rw [show (3 * (k : Int) + 2).toNat = 3 * k + 2 by omega]
      generalize xs.getD (3 * k) 0 = x at f0 r0 HN
      generalize xs.getD (3 * k + 1) 0 = y at f1 r1 HN
      generalize xs.getD (3 * k + 2) 0 = z at f2 r2 HN
      have F0 : Hid (xs.getD (3 * (k : Int)).toNat 0 = x) := f0
      have F1 : Hid (xs.getD (3 * (k : Int) + 1).toNat 0 = y) := f1
      have F2 : Hid (xs.getD (3 * (k : Int) + 2).toNat 0 = z) := f2
      have HN4 : Hid ((b64 xs).take (4 * (k + 1)) = (b64 xs).take (4 * k) ++ [letD ((x * 65536 + y * 256 + z) / 262144).toNat, letD ((x * 65536 + y * 256 + z) / 4096 % 64).toNat, if 3 * k + 1 < n then letD ((x * 65536 + y * 256 + z) / 64 % 64).toNat else 61, if 3 * k + 2 < n then letD ((x * 65536 + y * 256 + z) % 64).toNat else 61]) := HN
      obtain ⟨r00, r01⟩ := r0
      obtain ⟨r10, r11⟩ := r1
      obtain ⟨r20, r21⟩ := r2
      clear f0 f1 f2 HN
      go_wp2_with fail
      refine (at_int _ xs _ _ (by omega) ax V2.out).mono ?_
      rintro e w' ⟨rfl, hw⟩
      obtain rfl := hw.symm
      rw [F0.out]
      go_wp2_with fail
      refine (at_int _ xs _ _ (by omega) ax V2.out).mono ?_
      rintro e w' ⟨rfl, hw⟩
      obtain rfl := hw.symm
      rw [F1.out]
      go_wp2_with fail
      refine (at_int _ xs _ _ (by omega) ax V2.out).mono ?_
      rintro e w' ⟨rfl, hw⟩
      obtain rfl := hw.symm
      rw [F2.out]
      clear F0 F1 F2 V2
      go_wp2_with fail
      generalize hvv : x * 65536 + y * 256 + z = v at HN4 ⊢
      have v0 : 0 ≤ v := by omega
      have v1 : v < 16777216 := by omega
      clear hvv r00 r01 r10 r11 r20 r21
      by_cases c1 : 3 * k + 1 < n
      · have d1 : decide (3 * (k : Int) + 1 < (n : Int)) = true := by simp; omega
        by_cases c2 : 3 * k + 2 < n
        · have d2 : decide (3 * (k : Int) + 2 < (n : Int)) = true := by simp; omega
          go_wp2_with (first | (go_at_call 30; refine (letter_any _ _ (by omega) (by omega)).mono ?_; rintro e w' ⟨rfl, hw⟩; obtain rfl := hw.symm) | (at_builtin; go_must (refine wpList_append_own _ rfl (.tmp 30) (.tmp 38) 22 rfl w.heap.size 5 i0 (.int .u8 0) 1 1 Try.underlying22 hi hz0 hz1 hz2 rfl (by decide) _ _ _ rfl (hown2.alloc _) ⟨wr.heap.size, 0, none⟩ 2 2 (cellsU8 [letD (v / 262144).toNat, letD (v / 4096 % 64).toNat]) rfl rfl (World.news_of_block (heap_alloc_new wr _)) (cellsU8_one _) (by unfold maxLen; omega) (by omega) (by have := HB2.out.size; simp; omega) ?_)))
          intro v1 w1 own1 hgr1 hnl1
          have HB1 : Hid (Below w.heap.size w w1) := (HB2.out.alloc (by have := HB2.out.size; omega) _).grown hgr1 (by have := HB2.out.size; simp; omega) (fun q hq => (hown2.lt q hq).1)
          clear hgr1 hnl1 
          go_wp2_with (first | (go_at_call 30; refine (letter_any _ _ (by omega) (by omega)).mono ?_; rintro e w' ⟨rfl, hw⟩; obtain rfl := hw.symm) | (at_builtin; go_must (refine wpList_append_own _ rfl (.tmp 45) (.tmp 50) 22 rfl w.heap.size 5 i0 (.int .u8 0) 1 1 Try.underlying22 hi hz0 hz1 hz2 rfl (by decide) _ _ _ rfl (own1.alloc _) ⟨w1.heap.size, 0, none⟩ 1 1 (cellsU8 [letD (v / 64 % 64).toNat]) rfl rfl (World.news_of_block (heap_alloc_new w1 _)) (cellsU8_one _) (by unfold maxLen; omega) (by omega) (by have := HB1.out.size; simp; omega) ?_)))
          intro v2 w2 own2 hgr2 hnl2
          have HB2a : Hid (Below w.heap.size w w2) := (HB1.out.alloc (by have := HB1.out.size; omega) _).grown hgr2 (by have := HB1.out.size; simp; omega) (fun q hq => (own1.lt q hq).1)
          clear hgr2 hnl2 
          go_wp2_with (first | (go_at_call 30; refine (letter_any _ _ (by omega) (by omega)).mono ?_; rintro e w' ⟨rfl, hw⟩; obtain rfl := hw.symm) | (at_builtin; go_must (refine wpList_append_own _ rfl (.tmp 60) (.tmp 64) 22 rfl w.heap.size 5 i0 (.int .u8 0) 1 1 Try.underlying22 hi hz0 hz1 hz2 rfl (by decide) _ _ _ rfl (own2.alloc _) ⟨w2.heap.size, 0, none⟩ 1 1 (cellsU8 [letD (v % 64).toNat]) rfl rfl (World.news_of_block (heap_alloc_new w2 _)) (cellsU8_one _) (by unfold maxLen; omega) (by omega) (by have := HB2a.out.size; simp; omega) ?_)))
          intro v3 w3 own3 hgr3 hnl3
          have HB3 : Hid (Below w.heap.size w w3) := (HB2a.out.alloc (by have := HB2a.out.size; omega) _).grown hgr3 (by have := HB2a.out.size; simp; omega) (fun q hq => (own2.lt q hq).1)
          clear hgr3 hnl3 
          have ho3 : w3.ownsRow w.heap.size 5 1 v3 (4 * (k + 1)) (cellsU8 ((b64 xs).take (4 * (k + 1)))) := by
            rw [HN4.out, if_pos c1, if_pos c2]
            simpa [cellsU8, Nat.mul_add, Nat.add_assoc] using own3
          have HO3 : Hid (w3.ownsRow w.heap.size 5 1 v3 (4 * (k + 1)) (cellsU8 ((b64 xs).take (4 * (k + 1))))) := ho3
          clear own1 own2 own3 ho3 hown2 HB1 HB2a HB2 HN4
          go_wp2
          go_roundw
          case rel => exact ⟨k + 1, by omega, by go_num, HO3, HB3⟩
          case measure => simp [intOf]; omega
        · have d2 : decide (3 * (k : Int) + 2 < (n : Int)) = false := by simp; omega
          go_wp2_with (first | (go_at_call 30; refine (letter_any _ _ (by omega) (by omega)).mono ?_; rintro e w' ⟨rfl, hw⟩; obtain rfl := hw.symm) | (at_builtin; go_must (refine wpList_append_own _ rfl (.tmp 30) (.tmp 38) 22 rfl w.heap.size 5 i0 (.int .u8 0) 1 1 Try.underlying22 hi hz0 hz1 hz2 rfl (by decide) _ _ _ rfl (hown2.alloc _) ⟨wr.heap.size, 0, none⟩ 2 2 (cellsU8 [letD (v / 262144).toNat, letD (v / 4096 % 64).toNat]) rfl rfl (World.news_of_block (heap_alloc_new wr _)) (cellsU8_one _) (by unfold maxLen; omega) (by omega) (by have := HB2.out.size; simp; omega) ?_)))
          intro v1 w1 own1 hgr1 hnl1
          have HB1 : Hid (Below w.heap.size w w1) := (HB2.out.alloc (by have := HB2.out.size; omega) _).grown hgr1 (by have := HB2.out.size; simp; omega) (fun q hq => (hown2.lt q hq).1)
          clear hgr1 hnl1 
          go_wp2_with (first | (go_at_call 30; refine (letter_any _ _ (by omega) (by omega)).mono ?_; rintro e w' ⟨rfl, hw⟩; obtain rfl := hw.symm) | (at_builtin; go_must (refine wpList_append_own _ rfl (.tmp 45) (.tmp 50) 22 rfl w.heap.size 5 i0 (.int .u8 0) 1 1 Try.underlying22 hi hz0 hz1 hz2 rfl (by decide) _ _ _ rfl (own1.alloc _) ⟨w1.heap.size, 0, none⟩ 1 1 (cellsU8 [letD (v / 64 % 64).toNat]) rfl rfl (World.news_of_block (heap_alloc_new w1 _)) (cellsU8_one _) (by unfold maxLen; omega) (by omega) (by have := HB1.out.size; simp; omega) ?_)))
          intro v2 w2 own2 hgr2 hnl2
          have HB2a : Hid (Below w.heap.size w w2) := (HB1.out.alloc (by have := HB1.out.size; omega) _).grown hgr2 (by have := HB1.out.size; simp; omega) (fun q hq => (own1.lt q hq).1)
          clear hgr2 hnl2 
          go_wp2_with (first | (go_at_call 30; refine (letter_any _ _ (by omega) (by omega)).mono ?_; rintro e w' ⟨rfl, hw⟩; obtain rfl := hw.symm) | (at_builtin; go_must (refine wpList_append_own _ rfl (.tmp 66) (.tmp 67) 22 rfl w.heap.size 5 i0 (.int .u8 0) 1 1 Try.underlying22 hi hz0 hz1 hz2 rfl (by decide) _ _ _ rfl (own2.alloc _) ⟨w2.heap.size, 0, none⟩ 1 1 (cellsU8 [61]) rfl rfl (World.news_of_block (heap_alloc_new w2 _)) (cellsU8_one _) (by unfold maxLen; omega) (by omega) (by have := HB2a.out.size; simp; omega) ?_)))
          intro v3 w3 own3 hgr3 hnl3
          have HB3 : Hid (Below w.heap.size w w3) := (HB2a.out.alloc (by have := HB2a.out.size; omega) _).grown hgr3 (by have := HB2a.out.size; simp; omega) (fun q hq => (own2.lt q hq).1)
          clear hgr3 hnl3 
          have ho3 : w3.ownsRow w.heap.size 5 1 v3 (4 * (k + 1)) (cellsU8 ((b64 xs).take (4 * (k + 1)))) := by
            rw [HN4.out, if_pos c1, if_neg c2]
            simpa [cellsU8, Nat.mul_add, Nat.add_assoc] using own3
          have HO3 : Hid (w3.ownsRow w.heap.size 5 1 v3 (4 * (k + 1)) (cellsU8 ((b64 xs).take (4 * (k + 1))))) := ho3
          clear own1 own2 own3 ho3 hown2 HB1 HB2a HB2 HN4
          go_wp2
          go_roundw
          case rel => exact ⟨k + 1, by omega, by go_num, HO3, HB3⟩
          case measure => simp [intOf]; omega
      · have d1 : decide (3 * (k : Int) + 1 < (n : Int)) = false := by simp; omega
        · have c2 : ¬ 3 * k + 2 < n := by omega
          have d2 : decide (3 * (k : Int) + 2 < (n : Int)) = false := by simp; omega
          go_wp2_with (first | (go_at_call 30; refine (letter_any _ _ (by omega) (by omega)).mono ?_; rintro e w' ⟨rfl, hw⟩; obtain rfl := hw.symm) | (at_builtin; go_must (refine wpList_append_own _ rfl (.tmp 30) (.tmp 38) 22 rfl w.heap.size 5 i0 (.int .u8 0) 1 1 Try.underlying22 hi hz0 hz1 hz2 rfl (by decide) _ _ _ rfl (hown2.alloc _) ⟨wr.heap.size, 0, none⟩ 2 2 (cellsU8 [letD (v / 262144).toNat, letD (v / 4096 % 64).toNat]) rfl rfl (World.news_of_block (heap_alloc_new wr _)) (cellsU8_one _) (by unfold maxLen; omega) (by omega) (by have := HB2.out.size; simp; omega) ?_)))
          intro v1 w1 own1 hgr1 hnl1
          have HB1 : Hid (Below w.heap.size w w1) := (HB2.out.alloc (by have := HB2.out.size; omega) _).grown hgr1 (by have := HB2.out.size; simp; omega) (fun q hq => (hown2.lt q hq).1)
          clear hgr1 hnl1 
          go_wp2_with (first | (go_at_call 30; refine (letter_any _ _ (by omega) (by omega)).mono ?_; rintro e w' ⟨rfl, hw⟩; obtain rfl := hw.symm) | (at_builtin; go_must (refine wpList_append_own _ rfl (.tmp 52) (.tmp 53) 22 rfl w.heap.size 5 i0 (.int .u8 0) 1 1 Try.underlying22 hi hz0 hz1 hz2 rfl (by decide) _ _ _ rfl (own1.alloc _) ⟨w1.heap.size, 0, none⟩ 1 1 (cellsU8 [61]) rfl rfl (World.news_of_block (heap_alloc_new w1 _)) (cellsU8_one _) (by unfold maxLen; omega) (by omega) (by have := HB1.out.size; simp; omega) ?_)))
          intro v2 w2 own2 hgr2 hnl2
          have HB2a : Hid (Below w.heap.size w w2) := (HB1.out.alloc (by have := HB1.out.size; omega) _).grown hgr2 (by have := HB1.out.size; simp; omega) (fun q hq => (own1.lt q hq).1)
          clear hgr2 hnl2 
          go_wp2_with (first | (go_at_call 30; refine (letter_any _ _ (by omega) (by omega)).mono ?_; rintro e w' ⟨rfl, hw⟩; obtain rfl := hw.symm) | (at_builtin; go_must (refine wpList_append_own _ rfl (.tmp 66) (.tmp 67) 22 rfl w.heap.size 5 i0 (.int .u8 0) 1 1 Try.underlying22 hi hz0 hz1 hz2 rfl (by decide) _ _ _ rfl (own2.alloc _) ⟨w2.heap.size, 0, none⟩ 1 1 (cellsU8 [61]) rfl rfl (World.news_of_block (heap_alloc_new w2 _)) (cellsU8_one _) (by unfold maxLen; omega) (by omega) (by have := HB2a.out.size; simp; omega) ?_)))
          intro v3 w3 own3 hgr3 hnl3
          have HB3 : Hid (Below w.heap.size w w3) := (HB2a.out.alloc (by have := HB2a.out.size; omega) _).grown hgr3 (by have := HB2a.out.size; simp; omega) (fun q hq => (own2.lt q hq).1)
          clear hgr3 hnl3 
          have ho3 : w3.ownsRow w.heap.size 5 1 v3 (4 * (k + 1)) (cellsU8 ((b64 xs).take (4 * (k + 1)))) := by
            rw [HN4.out, if_neg c1, if_neg c2]
            simpa [cellsU8, Nat.mul_add, Nat.add_assoc] using own3
          have HO3 : Hid (w3.ownsRow w.heap.size 5 1 v3 (4 * (k + 1)) (cellsU8 ((b64 xs).take (4 * (k + 1))))) := ho3
          clear own1 own2 own3 ho3 hown2 HB1 HB2a HB2 HN4
          go_wp2
          go_roundw
          case rel => exact ⟨k + 1, by omega, by go_num, HO3, HB3⟩
          case measure => simp [intOf]; omega
    · have hall := b64_all xs k (by rw [← HX.out]; omega)
      rw [hall] at hown2
      have hbk := back_any wr (4 * k) w.heap.size u3 (b64 xs) (by rw [b64_length xs.length xs (Nat.le_refl _), ← HX.out]; omega) hown2
      clear hown2 hall
      go_wp2
      go_ret
      exact ⟨rfl, HB2⟩
end Go.Proofs.Ytioggmjocelolaa
