import Derived.Test.YtioggmjocelolaaFitsAll
namespace Go.Proofs.Ytioggmjocelolaa
open Go.RowKit

theorem quad_three (a b c d : Int) (ha : 0 ≤ letV a) (hb : 0 ≤ letV b) (hc : 0 ≤ letV c) (hd : 0 ≤ letV d) :
    quadB [a, b, c, d] = [(letV a * 262144 + letV b * 4096) / 65536 % 256, (letV a * 262144 + letV b * 4096 + letV c * 64) / 256 % 256, (letV a * 262144 + letV b * 4096 + letV c * 64 + letV d) % 256] := by
  have ra := letV_range a
  have rb := letV_range b
  have rc := letV_range c
  have rd := letV_range d
  simp only [quadB, acc4, mv_pos a ha, mv_pos b hb, mv_pos c hc, mv_pos d hd, List.getD_cons_succ, List.getD_cons_zero, if_neg (ne61 hc), if_neg (ne61 hd)]
  have e1 : (letV a * 262144 + letV b * 4096 + letV c * 64 + letV d) / 65536 = (letV a * 262144 + letV b * 4096) / 65536 := by omega
  have e2 : (letV a * 262144 + letV b * 4096 + letV c * 64 + letV d) / 256 = (letV a * 262144 + letV b * 4096 + letV c * 64) / 256 := by omega
  rw [e1, e2]
  rfl
theorem quad_pair (a b c : Int) (ha : 0 ≤ letV a) (hb : 0 ≤ letV b) (hc : 0 ≤ letV c) :
    quadB [a, b, c, 61] = [(letV a * 262144 + letV b * 4096) / 65536 % 256, (letV a * 262144 + letV b * 4096 + letV c * 64) / 256 % 256] := by
  have ra := letV_range a
  have rb := letV_range b
  have rc := letV_range c
  simp only [quadB, acc4, mv_pos a ha, mv_pos b hb, mv_pos c hc, mv_61, List.getD_cons_succ, List.getD_cons_zero, if_neg (ne61 hc), Int.add_zero]
  have e1 : (letV a * 262144 + letV b * 4096 + letV c * 64) / 65536 = (letV a * 262144 + letV b * 4096) / 65536 := by omega
  rw [e1]
  rfl
theorem quad_lone (a b : Int) (ha : 0 ≤ letV a) (hb : 0 ≤ letV b) :
    quadB [a, b, 61, 61] = [(letV a * 262144 + letV b * 4096) / 65536 % 256] := by
  simp only [quadB, acc4, mv_pos a ha, mv_pos b hb, mv_61, List.getD_cons_succ, List.getD_cons_zero]
  simp

set_option maxHeartbeats 800000 in
set_option maxRecDepth 100000 in
theorem rfromB64_fault (s : ByteArray) (n p : Nat) (w : World) (hs : Hid (s.size = n)) (hn : n ≤ 200000) (hpn : p < n) (hnone : Hid (∀ j, j < p → mf (nums s) j = true)) (hbad : Hid (mf (nums s) p = false)) :
    Calls Try.prog 20 #[.string s] w fun e w' => e = .returned (.tuple #[.slice none 0 0, .int .i64 14, .int .i64 p]) ∧ w' = w := by
  have hsz : s.size = n := hs.out
  have h8 : decide ((16777216 : Int) < (n : Int)) = false := by simp; omega
  go_enter Try.func20, Try.ntmps20
  go_wp2
  go_loop [5] (fun i => ∃ k : Nat, k ≤ p ∧ i = .int .i64 k) (fun i => n - (intOf i).toNat)
  case atStart => exact ⟨0, Nat.zero_le _, rfl⟩
  case round =>
    obtain ⟨k, hk, rfl⟩ := hrel
    have hlt : k < n := by omega
    have hks : k < s.size := by omega
    by_cases hkp : k < p
    · have hm := hnone.out k hkp
      go_wp2_with fail
      refine (fits_any s k _ hks (by omega) (fun q hq => hnone.out q (by omega))).mono ?_
      rintro e w1 ⟨rfl, rfl⟩
      rw [hm]
      clear hm
      go_wp2
      go_round
      case rel => exact ⟨k + 1, by omega, by go_num⟩
      case measure => simp [intOf]; omega
    · obtain rfl : k = p := by omega
      have hm := hbad.out
      go_wp2_with fail
      refine (fits_any s k _ hks (by omega) (fun q hq => hnone.out q (by omega))).mono ?_
      rintro e w1 ⟨rfl, rfl⟩
      rw [hm]
      clear hm
      go_wp2
      go_ret3
      exact ⟨rfl, rfl⟩

set_option maxHeartbeats 800000 in
set_option maxRecDepth 100000 in
theorem rfromB64_odd (s : ByteArray) (n : Nat) (w : World) (hs : Hid (s.size = n)) (hn : n ≤ 200000) (hnone : Hid (∀ j, j < n → mf (nums s) j = true)) (hm : Hid (n % 4 ≠ 0)) :
    Calls Try.prog 20 #[.string s] w fun e w' => e = .returned (.tuple #[.slice none 0 0, .int .i64 14, .int .i64 n]) ∧ w' = w := by
  have hsz : s.size = n := hs.out
  have h8 : decide ((16777216 : Int) < (n : Int)) = false := by simp; omega
  have hpar : ((n : Int) % 4 != 0) = true := by have := hm.out; simp; omega
  go_enter Try.func20, Try.ntmps20
  go_wp2
  go_loop [5] (fun i => ∃ k : Nat, k ≤ n ∧ i = .int .i64 k) (fun i => n - (intOf i).toNat)
  case atStart => exact ⟨0, Nat.zero_le _, rfl⟩
  case round =>
    obtain ⟨k, hk, rfl⟩ := hrel
    by_cases hlt : k < n
    · have hks : k < s.size := by omega
      have hmf := hnone.out k hlt
      go_wp2_with fail
      refine (fits_any s k _ hks (by omega) (fun q hq => hnone.out q (by omega))).mono ?_
      rintro e w1 ⟨rfl, rfl⟩
      rw [hmf]
      clear hmf
      go_wp2
      go_round
      case rel => exact ⟨k + 1, by omega, by go_num⟩
      case measure => simp [intOf]; omega
    · obtain rfl : k = n := by omega
      clear hlt hk
      go_wp2
      go_ret3
      exact ⟨rfl, rfl⟩

set_option maxHeartbeats 3200000 in
set_option maxRecDepth 100000 in
theorem rfromB64_core (s : ByteArray) (n m : Nat) (w : World) (hs : Hid (s.size = n)) (hn : n ≤ 200000) (hnone : Hid (∀ j, j < n → mf (nums s) j = true)) (hm : Hid (n = 4 * m)) :
    Calls Try.prog 20 #[.string s] w fun e w' => ∃ v, e = .returned (.tuple #[v, .int .i64 0, .int .i64 0]) ∧ w'.ownsRow w.heap.size 5 1 v (unq (nums s) m).length (cellsU8 (unq (nums s) m)) ∧ Below w.heap.size w w' := by
  obtain ⟨i0, hi, hz0, hz1, hz2⟩ := info_parts Try.info5
  have hsz : s.size = n := hs.out
  have h8 : decide ((16777216 : Int) < (n : Int)) = false := by simp; omega
  have hpar : ((n : Int) % 4 != 0) = false := by have := hm.out; simp; omega
  go_enter Try.func20, Try.ntmps20
  go_wp2
  go_loop [5] (fun i => ∃ k : Nat, k ≤ n ∧ i = .int .i64 k) (fun i => n - (intOf i).toNat)
  case atStart => exact ⟨0, Nat.zero_le _, rfl⟩
  case round =>
    obtain ⟨k, hk, rfl⟩ := hrel
    by_cases hlt : k < n
    · have hks : k < s.size := by omega
      have hmf := hnone.out k hlt
      go_wp2_with fail
      refine (fits_any s k _ hks (by omega) (fun q hq => hnone.out q (by omega))).mono ?_
      rintro e w1 ⟨rfl, rfl⟩
      rw [hmf]
      clear hmf
      go_wp2
      go_round
      case rel => exact ⟨k + 1, by omega, by go_num⟩
      case measure => simp [intOf]; omega
    · obtain rfl : k = n := by omega
      clear hlt hk
      go_wp2
      go_loopw [6, 7, 8] (fun v i _ wr => ∃ j : Nat, j ≤ m ∧ i = .int .i64 ((4 * j : Nat) : Int) ∧ wr.ownsRow w.heap.size 5 1 v (unq (nums s) j).length (cellsU8 (unq (nums s) j)) ∧ Hid (Below w.heap.size w wr)) (fun _ i _ _ => k - (intOf i).toNat)
      case atStart => exact ⟨0, Nat.zero_le _, rfl, World.ownsRow_nil _ _ _ _, Below.refl _ _⟩
      case round =>
        obtain ⟨j, hj, rfl, hown2, HB2⟩ := hrel
        have hk4 := hm.out
        have hul := unq_length (nums s) j
        by_cases hlt : j < m
        · have hks0 : 4 * j < s.size := by omega
          have hks1 : 4 * j + 1 < s.size := by omega
          have hks2 : 4 * j + 2 < s.size := by omega
          have hks3 : 4 * j + 3 < s.size := by omega
          have hd4 := drop_four (nums s) j (by rw [nums_length]; omega)
          have hu : unq (nums s) (j + 1) = unq (nums s) j ++ quadB [(nums s).getD (4 * j) 0, (nums s).getD (4 * j + 1) 0, (nums s).getD (4 * j + 2) 0, (nums s).getD (4 * j + 3) 0] := by
            rw [unq, hd4]
            rfl
          have m0 := hnone.out (4 * j) (by omega)
          have m1 := hnone.out (4 * j + 1) (by omega)
          have m2 := hnone.out (4 * j + 2) (by omega)
          have m3 := hnone.out (4 * j + 3) (by omega)
          rw [mf, mf0] at m0
          rw [mf, mf1, show 4 * j + 1 - 1 = 4 * j by omega] at m1
          rw [mf, mf2, show 4 * j + 2 - 1 = 4 * j + 1 by omega] at m2
          rw [mf, mf3, show 4 * j + 3 - 1 = 4 * j + 2 by omega] at m3
          have hr0 := nums_range s (4 * j)
          have hr1 := nums_range s (4 * j + 1)
          have hr2 := nums_range s (4 * j + 2)
          have hr3 := nums_range s (4 * j + 3)
          have hcs0 : ((s[4 * j]'hks0).toNat : Int) = (nums s).getD (4 * j) 0 := (nums_at s _ hks0).symm
          have hcs1 : ((s[4 * j + 1]'hks1).toNat : Int) = (nums s).getD (4 * j + 1) 0 := (nums_at s _ hks1).symm
          have hcs2 : ((s[4 * j + 2]'hks2).toNat : Int) = (nums s).getD (4 * j + 2) 0 := (nums_at s _ hks2).symm
          have hcs3 : ((s[4 * j + 3]'hks3).toNat : Int) = (nums s).getD (4 * j + 3) 0 := (nums_at s _ hks3).symm
          generalize (nums s).getD (4 * j) 0 = c0 at hr0 hcs0 hu m0 m1
          generalize (nums s).getD (4 * j + 1) 0 = c1 at hr1 hcs1 hu m1 m2
          generalize (nums s).getD (4 * j + 2) 0 = c2 at hr2 hcs2 hu m2 m3
          generalize (nums s).getD (4 * j + 3) 0 = c3 at hr3 hcs3 hu m3
          have l0 : 0 ≤ letV c0 := by simp at m0; exact m0.1
          have l1 : 0 ≤ letV c1 := by simp at m1; exact m1.1
          have hcases : (0 ≤ letV c2 ∧ 0 ≤ letV c3) ∨ (0 ≤ letV c2 ∧ c3 = 61) ∨ (c2 = 61 ∧ c3 = 61) := by
            simp at m2
            by_cases h2 : letV c2 < 0
            · rw [if_pos h2] at m3
              simp at m3
              rcases m2 with m2 | m2
              · omega
              · exact .inr (.inr ⟨m2.1, m3⟩)
            · rw [if_neg h2] at m3
              simp at m3
              rcases m3 with m3 | m3
              · exact .inl ⟨by omega, m3⟩
              · exact .inr (.inl ⟨by omega, m3.1⟩)
          have u0 := (letV_range c0).2
          have u1 := (letV_range c1).2
          have u2 := (letV_range c2).2
          have u3' := (letV_range c3).2
          have HU : Hid (unq (nums s) (j + 1) = unq (nums s) j ++ quadB [c0, c1, c2, c3]) := hu
          have wb0 : IntKind.u8.wrap ((letV c0 * 262144 + letV c1 * 4096) / 65536) = (letV c0 * 262144 + letV c1 * 4096) / 65536 % 256 := IntKind.wrap_u8 _
          have wb1 : IntKind.u8.wrap ((letV c0 * 262144 + letV c1 * 4096 + letV c2 * 64) / 256 % 256) = (letV c0 * 262144 + letV c1 * 4096 + letV c2 * 64) / 256 % 256 := by rw [IntKind.wrap_u8]; omega
          have wb2 : IntKind.u8.wrap ((letV c0 * 262144 + letV c1 * 4096 + letV c2 * 64 + letV c3) % 256) = (letV c0 * 262144 + letV c1 * 4096 + letV c2 * 64 + letV c3) % 256 := by rw [IntKind.wrap_u8]; omega
          have hb0 : 4 * (j : Int) < (k : Int) := by omega
          have hb1 : 4 * (j : Int) + 1 < (k : Int) := by omega
          have hb2 : 4 * (j : Int) + 2 < (k : Int) := by omega
          have hb3 : 4 * (j : Int) + 3 < (k : Int) := by omega
          have hw1 : IntKind.i64.wrap (4 * (j : Int) + 1) = 4 * (j : Int) + 1 := by rw [IntKind.wrap_i64]; omega
          have hq0 : 0 ≤ 4 * (j : Int) := by omega
          have hq1 : 0 ≤ 4 * (j : Int) + 1 := by omega
          have ht0 : (4 * (j : Int)).toNat = 4 * j := by omega
          have ht1 : (4 * (j : Int) + 1).toNat = 4 * j + 1 := by omega
          have wv0 : IntKind.i64.wrap (letV c0 * 262144) = letV c0 * 262144 := by rw [IntKind.wrap_i64]; omega
          have wv1 : IntKind.i64.wrap (letV c1 * 4096) = letV c1 * 4096 := by rw [IntKind.wrap_i64]; omega
          have wv2 : IntKind.i64.wrap (letV c0 * 262144 + letV c1 * 4096) = letV c0 * 262144 + letV c1 * 4096 := by rw [IntKind.wrap_i64]; omega
          clear hu m0 m1 m2 m3 hd4 hk4
          go_wp2
          go_quiet ((go_at_call 33; refine Calls.quiet_of_same (worth_any _ _ ?_ ?_) <;> omega))
          have hownq : (wr.drewN nq).ownsRow w.heap.size 5 1 u6 (unq (nums s) j).length (cellsU8 (unq (nums s) j)) := hown2
          have HBq : Hid (Below w.heap.size w (wr.drewN nq)) := ⟨HB2.out.os, HB2.out.tape, HB2.out.output, HB2.out.size, HB2.out.block⟩
          clear hown2 HB2
          generalize wr.drewN nq = wq at hownq HBq ⊢
          rcases hcases with ⟨l2, l3⟩ | ⟨l2, e3⟩ | ⟨e2, e3⟩
          · have hqd := quad_three c0 c1 c2 c3 l0 l1 l2 l3
            have n2 := bne61 (ne61 l2)
            have n3 := bne61 (ne61 l3)
            go_wp2_with (first | (go_at_call 33; refine (worth_any _ _ (by omega) (by omega)).mono ?_; rintro e w' ⟨rfl, hw⟩; obtain rfl := hw.symm) | (at_builtin; go_must (refine wpList_append_own _ rfl (.tmp 47) (.tmp 51) 22 rfl w.heap.size 5 i0 (.int .u8 0) 1 1 Try.underlying22 hi hz0 hz1 hz2 rfl (by decide) _ _ _ rfl (hownq.alloc _) ⟨wq.heap.size, 0, none⟩ 1 1 (cellsU8 [(letV c0 * 262144 + letV c1 * 4096) / 65536 % 256]) rfl rfl (World.news_of_block (heap_alloc_new wq _)) (cellsU8_one _) (by unfold maxLen; omega) (by omega) (by have := HBq.out.size; simp; omega) ?_)))
            intro v1 w1 own1 hgr1 hnl1
            have HC1 : Hid (Below w.heap.size w w1) := (HBq.out.alloc (by have := HBq.out.size; omega) _).grown hgr1 (by have := HBq.out.size; simp; omega) (fun q hq => (hownq.lt q hq).1)
            clear hgr1 hnl1
            go_wp2_with (first | (go_at_call 33; refine (worth_any _ _ (by omega) (by omega)).mono ?_; rintro e w' ⟨rfl, hw⟩; obtain rfl := hw.symm) | (at_builtin; go_must (refine wpList_append_own _ rfl (.tmp 66) (.tmp 71) 22 rfl w.heap.size 5 i0 (.int .u8 0) 1 1 Try.underlying22 hi hz0 hz1 hz2 rfl (by decide) _ _ _ rfl (own1.alloc _) ⟨w1.heap.size, 0, none⟩ 1 1 (cellsU8 [(letV c0 * 262144 + letV c1 * 4096 + letV c2 * 64) / 256 % 256]) rfl rfl (World.news_of_block (heap_alloc_new w1 _)) (cellsU8_one _) (by unfold maxLen; omega) (by omega) (by have := HC1.out.size; simp; omega) ?_)))
            intro v2 w2 own2 hgr2 hnl2
            have HC2 : Hid (Below w.heap.size w w2) := (HC1.out.alloc (by have := HC1.out.size; omega) _).grown hgr2 (by have := HC1.out.size; simp; omega) (fun q hq => (own1.lt q hq).1)
            clear hgr2 hnl2
            go_wp2_with (first | (go_at_call 33; refine (worth_any _ _ (by omega) (by omega)).mono ?_; rintro e w' ⟨rfl, hw⟩; obtain rfl := hw.symm) | (at_builtin; go_must (refine wpList_append_own _ rfl (.tmp 85) (.tmp 89) 22 rfl w.heap.size 5 i0 (.int .u8 0) 1 1 Try.underlying22 hi hz0 hz1 hz2 rfl (by decide) _ _ _ rfl (own2.alloc _) ⟨w2.heap.size, 0, none⟩ 1 1 (cellsU8 [(letV c0 * 262144 + letV c1 * 4096 + letV c2 * 64 + letV c3) % 256]) rfl rfl (World.news_of_block (heap_alloc_new w2 _)) (cellsU8_one _) (by unfold maxLen; omega) (by omega) (by have := HC2.out.size; simp; omega) ?_)))
            intro v3 w3 own3 hgr3 hnl3
            have HC3 : Hid (Below w.heap.size w w3) := (HC2.out.alloc (by have := HC2.out.size; omega) _).grown hgr3 (by have := HC2.out.size; simp; omega) (fun q hq => (own2.lt q hq).1)
            clear hgr3 hnl3
            have ho : w3.ownsRow w.heap.size 5 1 v3 (unq (nums s) (j + 1)).length (cellsU8 (unq (nums s) (j + 1))) := by
              rw [HU.out, hqd, List.length_append]
              simpa [cellsU8, Nat.add_assoc] using own3
            have HO3 : Hid (w3.ownsRow w.heap.size 5 1 v3 (unq (nums s) (j + 1)).length (cellsU8 (unq (nums s) (j + 1)))) := ho
            clear ho hqd HU hownq HBq own1 own2 own3
            go_wp2
            go_roundw
            case rel => exact ⟨j + 1, by omega, by go_num, HO3, HC3⟩
            case measure => simp [intOf]; omega
          · have hqd := quad_pair c0 c1 c2 l0 l1 l2
            rw [← e3] at hqd
            have n2 := bne61 (ne61 l2)
            have n3 : (c3 != 61) = false := by rw [e3]; rfl
            clear e3
            go_wp2_with (first | (go_at_call 33; refine (worth_any _ _ (by omega) (by omega)).mono ?_; rintro e w' ⟨rfl, hw⟩; obtain rfl := hw.symm) | (at_builtin; go_must (refine wpList_append_own _ rfl (.tmp 47) (.tmp 51) 22 rfl w.heap.size 5 i0 (.int .u8 0) 1 1 Try.underlying22 hi hz0 hz1 hz2 rfl (by decide) _ _ _ rfl (hownq.alloc _) ⟨wq.heap.size, 0, none⟩ 1 1 (cellsU8 [(letV c0 * 262144 + letV c1 * 4096) / 65536 % 256]) rfl rfl (World.news_of_block (heap_alloc_new wq _)) (cellsU8_one _) (by unfold maxLen; omega) (by omega) (by have := HBq.out.size; simp; omega) ?_)))
            intro v1 w1 own1 hgr1 hnl1
            have HC1 : Hid (Below w.heap.size w w1) := (HBq.out.alloc (by have := HBq.out.size; omega) _).grown hgr1 (by have := HBq.out.size; simp; omega) (fun q hq => (hownq.lt q hq).1)
            clear hgr1 hnl1
            go_wp2_with (first | (go_at_call 33; refine (worth_any _ _ (by omega) (by omega)).mono ?_; rintro e w' ⟨rfl, hw⟩; obtain rfl := hw.symm) | (at_builtin; go_must (refine wpList_append_own _ rfl (.tmp 66) (.tmp 71) 22 rfl w.heap.size 5 i0 (.int .u8 0) 1 1 Try.underlying22 hi hz0 hz1 hz2 rfl (by decide) _ _ _ rfl (own1.alloc _) ⟨w1.heap.size, 0, none⟩ 1 1 (cellsU8 [(letV c0 * 262144 + letV c1 * 4096 + letV c2 * 64) / 256 % 256]) rfl rfl (World.news_of_block (heap_alloc_new w1 _)) (cellsU8_one _) (by unfold maxLen; omega) (by omega) (by have := HC1.out.size; simp; omega) ?_)))
            intro v2 w2 own2 hgr2 hnl2
            have HC2 : Hid (Below w.heap.size w w2) := (HC1.out.alloc (by have := HC1.out.size; omega) _).grown hgr2 (by have := HC1.out.size; simp; omega) (fun q hq => (own1.lt q hq).1)
            clear hgr2 hnl2
            have ho : w2.ownsRow w.heap.size 5 1 v2 (unq (nums s) (j + 1)).length (cellsU8 (unq (nums s) (j + 1))) := by
              rw [HU.out, hqd, List.length_append]
              simpa [cellsU8, Nat.add_assoc] using own2
            have HO3 : Hid (w2.ownsRow w.heap.size 5 1 v2 (unq (nums s) (j + 1)).length (cellsU8 (unq (nums s) (j + 1)))) := ho
            clear ho hqd HU hownq HBq own1 own2
            go_wp2
            go_roundw
            case rel => exact ⟨j + 1, by omega, by go_num, HO3, HC2⟩
            case measure => simp [intOf]; omega
          · have hqd := quad_lone c0 c1 l0 l1
            have hqd : quadB [c0, c1, c2, c3] = [(letV c0 * 262144 + letV c1 * 4096) / 65536 % 256] := by rw [e2, e3]; exact hqd
            have n2 : (c2 != 61) = false := by rw [e2]; rfl
            have n3 : (c3 != 61) = false := by rw [e3]; rfl
            clear e2 e3
            go_wp2_with (first | (go_at_call 33; refine (worth_any _ _ (by omega) (by omega)).mono ?_; rintro e w' ⟨rfl, hw⟩; obtain rfl := hw.symm) | (at_builtin; go_must (refine wpList_append_own _ rfl (.tmp 47) (.tmp 51) 22 rfl w.heap.size 5 i0 (.int .u8 0) 1 1 Try.underlying22 hi hz0 hz1 hz2 rfl (by decide) _ _ _ rfl (hownq.alloc _) ⟨wq.heap.size, 0, none⟩ 1 1 (cellsU8 [(letV c0 * 262144 + letV c1 * 4096) / 65536 % 256]) rfl rfl (World.news_of_block (heap_alloc_new wq _)) (cellsU8_one _) (by unfold maxLen; omega) (by omega) (by have := HBq.out.size; simp; omega) ?_)))
            intro v1 w1 own1 hgr1 hnl1
            have HC1 : Hid (Below w.heap.size w w1) := (HBq.out.alloc (by have := HBq.out.size; omega) _).grown hgr1 (by have := HBq.out.size; simp; omega) (fun q hq => (hownq.lt q hq).1)
            clear hgr1 hnl1
            have ho : w1.ownsRow w.heap.size 5 1 v1 (unq (nums s) (j + 1)).length (cellsU8 (unq (nums s) (j + 1))) := by
              rw [HU.out, hqd, List.length_append]
              simpa [cellsU8, Nat.add_assoc] using own1
            have HO3 : Hid (w1.ownsRow w.heap.size 5 1 v1 (unq (nums s) (j + 1)).length (cellsU8 (unq (nums s) (j + 1)))) := ho
            clear ho hqd HU hownq HBq own1
            go_wp2
            go_roundw
            case rel => exact ⟨j + 1, by omega, by go_num, HO3, HC1⟩
            case measure => simp [intOf]; omega
        · obtain rfl : j = m := by omega
          have HO : Hid (wr.ownsRow w.heap.size 5 1 u6 (unq (nums s) j).length (cellsU8 (unq (nums s) j))) := hown2
          have hge : (k : Int) ≤ 4 * (j : Int) := by omega
          clear hown2 hk4
          go_wp2
          go_ret3
          exact ⟨_, rfl, HO, HB2⟩

theorem rfromB64_good (s : ByteArray) (w : World) (hn : s.size ≤ 200000) (hg : B64Good s) :
    Calls Try.prog 20 #[.string s] w fun e w' => ∃ v, e = .returned (.tuple #[v, .int .i64 0, .int .i64 0]) ∧ w'.ownsRow w.heap.size 5 1 v (unb64 (nums s)).length (cellsU8 (unb64 (nums s))) ∧ Below w.heap.size w w' := by
  have h4 : s.size = 4 * (s.size / 4) := by have := hg.2; omega
  have h := rfromB64_core s s.size (s.size / 4) w rfl hn hg.1 h4
  rw [unq_eq (s.size / 4) (nums s) (by rw [nums_length]; exact h4)] at h
  exact h
/-- Where the first fault of a text in base64 is. -/
def B64Place (s : ByteArray) (p : Nat) : Prop := (p < s.size ∧ (∀ j, j < p → mf (nums s) j = true) ∧ mf (nums s) p = false) ∨ (p = s.size ∧ s.size % 4 ≠ 0 ∧ ∀ j, j < s.size → mf (nums s) j = true)
theorem b64Place_of (s : ByteArray) (hg : ¬ B64Good s) : ∃ p, B64Place s p := by
  by_cases ha : ∀ j, j < s.size → mf (nums s) j = true
  · exact ⟨s.size, .inr ⟨rfl, fun h => hg ⟨ha, h⟩, ha⟩⟩
  · obtain ⟨p, h1, h2, h3⟩ := least (fun j => mf (nums s) j = true) s.size (by
      by_cases h : ∃ j, j < s.size ∧ ¬ mf (nums s) j = true
      · exact h
      · exact absurd (fun j hj => by by_cases hp : mf (nums s) j = true; exact hp; exact absurd ⟨j, hj, hp⟩ h) ha)
    exact ⟨p, .inl ⟨h1, h2, Bool.eq_false_iff.2 h3⟩⟩
theorem fromB64_at (s : ByteArray) (p : Nat) (w : World) (hn : s.size ≤ 200000) (hp : B64Place s p) :
    Calls Try.prog 14 #[.string s] w fun e w' => e = .returned (.tuple #[.slice none 0 0, .int .i64 14, .int .i64 p]) ∧ w' = w := by
  rcases hp with ⟨h1, h2, h3⟩ | ⟨rfl, h2, h3⟩
  · exact fromB64_fault s s.size p w rfl hn h1 h2 h3
  · exact fromB64_odd s s.size w rfl hn h3 h2
theorem rfromB64_at (s : ByteArray) (p : Nat) (w : World) (hn : s.size ≤ 200000) (hp : B64Place s p) :
    Calls Try.prog 20 #[.string s] w fun e w' => e = .returned (.tuple #[.slice none 0 0, .int .i64 14, .int .i64 p]) ∧ w' = w := by
  rcases hp with ⟨h1, h2, h3⟩ | ⟨rfl, h2, h3⟩
  · exact rfromB64_fault s s.size p w rfl hn h1 h2 h3
  · exact rfromB64_odd s s.size w rfl hn h3 h2
end Go.Proofs.Ytioggmjocelolaa
