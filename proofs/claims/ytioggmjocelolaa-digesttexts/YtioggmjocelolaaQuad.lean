import Derived.Test.YtioggmjocelolaaMay
import Derived.Test.YtioggmjocelolaaFromHexBad
import Derived.Lib.MinMax
namespace Go.Proofs.Ytioggmjocelolaa
open Go.RowKit

set_option maxHeartbeats 1600000 in
set_option maxRecDepth 100000 in
theorem quad_core (B n : Nat) (v0 : Value) (zs : List Int) (s : ByteArray) (w : World) (hs : Hid (s.size = 4)) (hn : n ≤ 200000) (hB : B ≤ w.heap.size)
    (hown : w.ownsRow B 5 1 v0 n (cellsU8 zs)) :
    Calls Try.prog 28 #[v0, .string s] w fun e w' => ∃ v, e = .returned v ∧ w'.ownsRow B 5 1 v (n + (quadB (nums s)).length) (cellsU8 (zs ++ quadB (nums s))) ∧ Below B w w' := by
  obtain ⟨i0, hi, hz0, hz1, hz2⟩ := info_parts Try.info5
  have hsz : s.size = 4 := hs.out
  have hs2 : 2 < s.size := by omega
  have hs3 : 3 < s.size := by omega
  obtain ⟨c2, hc2⟩ : ∃ c : Int, c = (nums s).getD 2 0 := ⟨_, rfl⟩
  obtain ⟨c3, hc3⟩ : ∃ c : Int, c = (nums s).getD 3 0 := ⟨_, rfl⟩
  have hcs2 : ((s[2]'hs2).toNat : Int) = c2 := by rw [hc2, nums_at s 2 hs2]
  have hcs3 : ((s[3]'hs3).toNat : Int) = c3 := by rw [hc3, nums_at s 3 hs3]
  have HC2 : Hid (c2 = (nums s).getD 2 0) := hc2
  have HC3 : Hid (c3 = (nums s).getD 3 0) := hc3
  clear hc2 hc3
  go_enter Try.func28, Try.ntmps28
  go_wp2
  go_loop [5, 6, 9] (fun v _ i => ∃ k : Nat, k ≤ 4 ∧ i = .int .i64 k ∧ v = .int .i64 (acc (nums s) k)) (fun _ _ i => 4 - (intOf i).toNat)
  case atStart => exact ⟨0, by omega, rfl, rfl⟩
  case round =>
    obtain ⟨k, hk, rfl, rfl⟩ := hrel
    have ha := acc_range (nums s) k
    by_cases hlt : k < 4
    · have hks : k < s.size := by omega
      obtain ⟨c, hc⟩ : ∃ c : Int, c = (nums s).getD k 0 := ⟨_, rfl⟩
      have hr := nums_range s k
      rw [← hc] at hr
      have hcs : ((s[k]'hks).toNat : Int) = c := by rw [hc, nums_at s k hks]
      have HA : Hid (acc (nums s) (k + 1) = acc (nums s) k * 64 + mv c) := by rw [hc]; rfl
      have hb : acc (nums s) k < 262144 := by
        have hp : (64 : Int) ^ k ≤ 64 ^ 3 := by
          have : k = 0 ∨ k = 1 ∨ k = 2 ∨ k = 3 := by omega
          rcases this with rfl | rfl | rfl | rfl <;> decide
        have h3 : (64 : Int) ^ 3 = 262144 := rfl
        omega
      have hm := mv_range c
      have hmax : max (letV c) 0 = mv c := rfl
      have hor := orAcc (acc (nums s) k) (mv c) ha.1 hb hm.1 hm.2
      have h0 := ha.1
      clear hc ha
      go_wp2_with fail
      refine (letterValue_any c _ (by omega) (by omega)).mono ?_
      rintro e w1 ⟨rfl, rfl⟩
      go_wp2
      go_round
      case rel => exact ⟨k + 1, by omega, by go_num, by rw [HA.out]⟩
      case measure => simp [intOf]; omega
    · obtain rfl : k = 4 := by omega
      have HQ : Hid (quadB (nums s) = [acc (nums s) 4 / 65536 % 256] ++ ((if c2 = 61 then [] else [acc (nums s) 4 / 256 % 256]) ++ (if c3 = 61 then [] else [acc (nums s) 4 % 256]))) := by rw [HC2.out, HC3.out]; rfl
      have h4 : (64 : Int) ^ 4 = 16777216 := rfl
      rw [h4] at ha
      clear h4 HC2 HC3
      generalize acc (nums s) 4 = A at ha HQ ⊢
      obtain ⟨hA0, hA1⟩ := ha
      have w16 : IntKind.u8.wrap (A / 65536) = A / 65536 % 256 := IntKind.wrap_u8 _
      have w8 : IntKind.u8.wrap (A / 256) = A / 256 % 256 := IntKind.wrap_u8 _
      have w0 : IntKind.u8.wrap A = A % 256 := IntKind.wrap_u8 _
      have HB0 : Hid (Below B w w) := Below.refl _ _
      have hBs : B ≤ w.heap.size := hB
      clear hlt hk hB
      by_cases h2 : c2 = 61
      · have b2 : (c2 != 61) = false := by simp [h2]
        by_cases h3 : c3 = 61
        · have b3 : (c3 != 61) = false := by simp [h3]
          go_wp2_with (first | (at_builtin; go_must (refine wpList_append_own _ rfl (.tmp 21) (.tmp 25) 22 rfl B 5 i0 (.int .u8 0) 1 1 Try.underlying22 hi hz0 hz1 hz2 rfl (by decide) _ _ _ rfl (hown.alloc _) ⟨w.heap.size, 0, none⟩ 1 1 (cellsU8 [A / 65536 % 256]) rfl rfl (news_one w _ _) (cellsU8_one _) (by unfold maxLen; omega) (by omega) (by have := HB0.out.size; simp; omega) ?_)))
          intro v1 w1 own1 hgr1 hnl1
          have HB1 : Hid (Below B w w1) := (HB0.out.alloc (by have := HB0.out.size; omega) _).grown hgr1 (by have := HB0.out.size; simp; omega) (fun q hq => (hown.lt q hq).1)
          clear hgr1 hnl1
          have hq : quadB (nums s) = [A / 65536 % 256] := by rw [HQ.out]; simp [h2, h3]
          have ho : w1.ownsRow B 5 1 v1 (n + (quadB (nums s)).length) (cellsU8 (zs ++ quadB (nums s))) := by
            rw [hq]
            simpa [cellsU8, Nat.add_assoc] using own1
          have HO : Hid (w1.ownsRow B 5 1 v1 (n + (quadB (nums s)).length) (cellsU8 (zs ++ quadB (nums s)))) := ho
          clear ho hq own1
          go_wp2
          go_ret
          exact ⟨_, rfl, HO, HB1⟩
        · have b3 : (c3 != 61) = true := by simp [h3]
          go_wp2_with (first | (at_builtin; go_must (refine wpList_append_own _ rfl (.tmp 21) (.tmp 25) 22 rfl B 5 i0 (.int .u8 0) 1 1 Try.underlying22 hi hz0 hz1 hz2 rfl (by decide) _ _ _ rfl (hown.alloc _) ⟨w.heap.size, 0, none⟩ 1 1 (cellsU8 [A / 65536 % 256]) rfl rfl (news_one w _ _) (cellsU8_one _) (by unfold maxLen; omega) (by omega) (by have := HB0.out.size; simp; omega) ?_)))
          intro v1 w1 own1 hgr1 hnl1
          have HB1 : Hid (Below B w w1) := (HB0.out.alloc (by have := HB0.out.size; omega) _).grown hgr1 (by have := HB0.out.size; simp; omega) (fun q hq => (hown.lt q hq).1)
          clear hgr1 hnl1
          go_wp2_with (first | (at_builtin; go_must (refine wpList_append_own _ rfl (.tmp 39) (.tmp 42) 22 rfl B 5 i0 (.int .u8 0) 1 1 Try.underlying22 hi hz0 hz1 hz2 rfl (by decide) _ _ _ rfl (own1.alloc _) ⟨w1.heap.size, 0, none⟩ 1 1 (cellsU8 [A % 256]) rfl rfl (news_one w1 _ _) (cellsU8_one _) (by unfold maxLen; omega) (by omega) (by have := HB1.out.size; simp; omega) ?_)))
          intro v2 w2 own2 hgr2 hnl2
          have HB2 : Hid (Below B w w2) := (HB1.out.alloc (by have := HB1.out.size; omega) _).grown hgr2 (by have := HB1.out.size; simp; omega) (fun q hq => (own1.lt q hq).1)
          clear hgr2 hnl2
          have hq : quadB (nums s) = [A / 65536 % 256, A % 256] := by rw [HQ.out]; simp [h2, h3]
          have ho : w2.ownsRow B 5 1 v2 (n + (quadB (nums s)).length) (cellsU8 (zs ++ quadB (nums s))) := by
            rw [hq]
            simpa [cellsU8, Nat.add_assoc] using own2
          have HO : Hid (w2.ownsRow B 5 1 v2 (n + (quadB (nums s)).length) (cellsU8 (zs ++ quadB (nums s)))) := ho
          clear ho hq own2
          go_wp2
          go_ret
          exact ⟨_, rfl, HO, HB2⟩
      · have b2 : (c2 != 61) = true := by simp [h2]
        by_cases h3 : c3 = 61
        · have b3 : (c3 != 61) = false := by simp [h3]
          go_wp2_with (first | (at_builtin; go_must (refine wpList_append_own _ rfl (.tmp 21) (.tmp 25) 22 rfl B 5 i0 (.int .u8 0) 1 1 Try.underlying22 hi hz0 hz1 hz2 rfl (by decide) _ _ _ rfl (hown.alloc _) ⟨w.heap.size, 0, none⟩ 1 1 (cellsU8 [A / 65536 % 256]) rfl rfl (news_one w _ _) (cellsU8_one _) (by unfold maxLen; omega) (by omega) (by have := HB0.out.size; simp; omega) ?_)))
          intro v1 w1 own1 hgr1 hnl1
          have HB1 : Hid (Below B w w1) := (HB0.out.alloc (by have := HB0.out.size; omega) _).grown hgr1 (by have := HB0.out.size; simp; omega) (fun q hq => (hown.lt q hq).1)
          clear hgr1 hnl1
          go_wp2_with (first | (at_builtin; go_must (refine wpList_append_own _ rfl (.tmp 30) (.tmp 34) 22 rfl B 5 i0 (.int .u8 0) 1 1 Try.underlying22 hi hz0 hz1 hz2 rfl (by decide) _ _ _ rfl (own1.alloc _) ⟨w1.heap.size, 0, none⟩ 1 1 (cellsU8 [A / 256 % 256]) rfl rfl (news_one w1 _ _) (cellsU8_one _) (by unfold maxLen; omega) (by omega) (by have := HB1.out.size; simp; omega) ?_)))
          intro v2 w2 own2 hgr2 hnl2
          have HB2 : Hid (Below B w w2) := (HB1.out.alloc (by have := HB1.out.size; omega) _).grown hgr2 (by have := HB1.out.size; simp; omega) (fun q hq => (own1.lt q hq).1)
          clear hgr2 hnl2
          have hq : quadB (nums s) = [A / 65536 % 256, A / 256 % 256] := by rw [HQ.out]; simp [h2, h3]
          have ho : w2.ownsRow B 5 1 v2 (n + (quadB (nums s)).length) (cellsU8 (zs ++ quadB (nums s))) := by
            rw [hq]
            simpa [cellsU8, Nat.add_assoc] using own2
          have HO : Hid (w2.ownsRow B 5 1 v2 (n + (quadB (nums s)).length) (cellsU8 (zs ++ quadB (nums s)))) := ho
          clear ho hq own2
          go_wp2
          go_ret
          exact ⟨_, rfl, HO, HB2⟩
        · have b3 : (c3 != 61) = true := by simp [h3]
          go_wp2_with (first | (at_builtin; go_must (refine wpList_append_own _ rfl (.tmp 21) (.tmp 25) 22 rfl B 5 i0 (.int .u8 0) 1 1 Try.underlying22 hi hz0 hz1 hz2 rfl (by decide) _ _ _ rfl (hown.alloc _) ⟨w.heap.size, 0, none⟩ 1 1 (cellsU8 [A / 65536 % 256]) rfl rfl (news_one w _ _) (cellsU8_one _) (by unfold maxLen; omega) (by omega) (by have := HB0.out.size; simp; omega) ?_)))
          intro v1 w1 own1 hgr1 hnl1
          have HB1 : Hid (Below B w w1) := (HB0.out.alloc (by have := HB0.out.size; omega) _).grown hgr1 (by have := HB0.out.size; simp; omega) (fun q hq => (hown.lt q hq).1)
          clear hgr1 hnl1
          go_wp2_with (first | (at_builtin; go_must (refine wpList_append_own _ rfl (.tmp 30) (.tmp 34) 22 rfl B 5 i0 (.int .u8 0) 1 1 Try.underlying22 hi hz0 hz1 hz2 rfl (by decide) _ _ _ rfl (own1.alloc _) ⟨w1.heap.size, 0, none⟩ 1 1 (cellsU8 [A / 256 % 256]) rfl rfl (news_one w1 _ _) (cellsU8_one _) (by unfold maxLen; omega) (by omega) (by have := HB1.out.size; simp; omega) ?_)))
          intro v2 w2 own2 hgr2 hnl2
          have HB2 : Hid (Below B w w2) := (HB1.out.alloc (by have := HB1.out.size; omega) _).grown hgr2 (by have := HB1.out.size; simp; omega) (fun q hq => (own1.lt q hq).1)
          clear hgr2 hnl2
          go_wp2_with (first | (at_builtin; go_must (refine wpList_append_own _ rfl (.tmp 39) (.tmp 42) 22 rfl B 5 i0 (.int .u8 0) 1 1 Try.underlying22 hi hz0 hz1 hz2 rfl (by decide) _ _ _ rfl (own2.alloc _) ⟨w2.heap.size, 0, none⟩ 1 1 (cellsU8 [A % 256]) rfl rfl (news_one w2 _ _) (cellsU8_one _) (by unfold maxLen; omega) (by omega) (by have := HB2.out.size; simp; omega) ?_)))
          intro v3 w3 own3 hgr3 hnl3
          have HB3 : Hid (Below B w w3) := (HB2.out.alloc (by have := HB2.out.size; omega) _).grown hgr3 (by have := HB2.out.size; simp; omega) (fun q hq => (own2.lt q hq).1)
          clear hgr3 hnl3
          have hq : quadB (nums s) = [A / 65536 % 256, A / 256 % 256, A % 256] := by rw [HQ.out]; simp [h2, h3]
          have ho : w3.ownsRow B 5 1 v3 (n + (quadB (nums s)).length) (cellsU8 (zs ++ quadB (nums s))) := by
            rw [hq]
            simpa [cellsU8, Nat.add_assoc] using own3
          have HO : Hid (w3.ownsRow B 5 1 v3 (n + (quadB (nums s)).length) (cellsU8 (zs ++ quadB (nums s)))) := ho
          clear ho hq own3
          go_wp2
          go_ret
          exact ⟨_, rfl, HO, HB3⟩
end Go.Proofs.Ytioggmjocelolaa
