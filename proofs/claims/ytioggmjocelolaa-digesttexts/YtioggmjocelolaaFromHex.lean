import Derived.Test.YtioggmjocelolaaHexV
import Derived.Deep.RegionHeld3
import Derived.Deep.DrawnRows
namespace Go.Proofs.Ytioggmjocelolaa
open Go.RowKit
attribute [local go_sem ↓] Go.wp_at_zero Go.wp_at_succ

set_option maxHeartbeats 800000 in
set_option maxRecDepth 100000 in
theorem fromHex_core (s : ByteArray) (n : Nat) (w : World) (hs : Hid (s.size = n)) (hn : n ≤ 200000) (hnone : Hid (∀ j, j < n → 0 ≤ hexV ((nums s).getD j 0))) (m : Nat) (hm : Hid (n = 2 * m)) :
    Calls Try.prog 13 #[.string s] w fun e w' => ∃ v, e = .returned (.tuple #[v, .int .i64 0, .int .i64 0]) ∧ w'.ownsRow w.heap.size 5 1 v m (cellsU8 (unhex (nums s))) ∧ Below w.heap.size w w' := by
  obtain ⟨i0, hi, hz0, hz1, hz2⟩ := info_parts Try.info5
  have hsz : s.size = n := hs.out
  have h8 : decide ((16777216 : Int) < (n : Int)) = false := by simp; omega
  have hpar : ((n : Int) % 2 != 0) = false := by have := hm.out; simp; omega
  go_enter Try.func13, Try.ntmps13
  go_wp2
  go_loop [5, 13] (fun _ i => ∃ k : Nat, k ≤ n ∧ i = .int .i64 k) (fun _ i => n - (intOf i).toNat)
  case atStart => exact ⟨0, Nat.zero_le _, rfl⟩
  case round =>
    obtain ⟨k, hk, rfl⟩ := hrel
    by_cases hlt : k < n
    · have hks : k < s.size := by omega
      obtain ⟨c, hc⟩ : ∃ c : Int, c = (nums s).getD k 0 := ⟨_, rfl⟩
      have hr := nums_range s k
      have hp := hnone.out k hlt
      rw [← hc] at hr hp
      have hcs : ((s[k]'hks).toNat : Int) = c := by rw [hc, nums_at s k hks]
      have hpb : decide (hexV c < 0) = false := by simp; omega
      have HC : Hid (c = (nums s).getD k 0) := hc
      clear hc
      go_wp2_with fail
      refine (hexValue_any c _ (by omega) (by omega)).mono ?_
      rintro e w1 ⟨rfl, rfl⟩
      go_wp2
      go_round
      case rel => exact ⟨k + 1, by omega, by go_num⟩
      case measure => simp [intOf]; omega
    · obtain rfl : k = n := by omega
      have hdiv : (k : Int) / 2 = (m : Int) := by have := hm.out; omega
      clear hlt hk
      go_wp2_with (first
        | (at_make; go_must (refine wpList_make_full _ rfl _ _ 22 rfl w.heap.size 5 i0 (.int .u8 0) 1 Try.underlying22 hi hz0 hz1 .i64 .i64 (m : Int) (m : Int) m rfl rfl rfl rfl ?_ ?_ ?_ ?_)))
      · have := hm.out; omega
      · unfold maxLen; have := hm.out; omega
      intro w1 hown hgrow
      have HB : Hid (Below w.heap.size w w1) := (Below.refl _ _).grown hgrow (Nat.le_refl _) (by intro k hk; cases hk)
      clear hgrow
      go_wp2
      go_loopw [7, 35] (fun _ i wr => ∃ j : Nat, j ≤ m ∧ i = .int .i64 j ∧ wr.ownsRow w.heap.size 5 1 (.slice (some ⟨w.heap.size, 0, none⟩) m m) m (cellsU8 ((unhex (nums s)).take j ++ List.replicate (m - j) 0)) ∧ Hid (Below w.heap.size w wr)) (fun _ i _ => m - (intOf i).toNat)
      case atStart => exact ⟨0, Nat.zero_le _, rfl, by rw [made_u8] at hown; simpa [cellsU8] using hown, HB⟩
      case round =>
        obtain ⟨j, hj, rfl, hown2, HB2⟩ := hrel
        clear hown HB
        by_cases hlt : j < m
        · have hk2 := hm.out
          have hks0 : 2 * j < s.size := by omega
          have hks1 : 2 * j + 1 < s.size := by omega
          obtain ⟨c0, hc0⟩ : ∃ c : Int, c = (nums s).getD (2 * j) 0 := ⟨_, rfl⟩
          obtain ⟨c1, hc1⟩ : ∃ c : Int, c = (nums s).getD (2 * j + 1) 0 := ⟨_, rfl⟩
          have hr0 := nums_range s (2 * j)
          have hr1 := nums_range s (2 * j + 1)
          have hp0 := hnone.out (2 * j) (by omega)
          have hp1 := hnone.out (2 * j + 1) (by omega)
          rw [← hc0] at hr0 hp0
          rw [← hc1] at hr1 hp1
          have hcs0 : ((s[2 * j]'hks0).toNat : Int) = c0 := by rw [hc0, nums_at s _ hks0]
          have hcs1 : ((s[2 * j + 1]'hks1).toNat : Int) = c1 := by rw [hc1, nums_at s _ hks1]
          have HC0 : Hid (c0 = (nums s).getD (2 * j) 0) := hc0
          have HC1 : Hid (c1 = (nums s).getD (2 * j + 1) 0) := hc1
          have hu0 := hexV_range c0
          have hu1 := hexV_range c1
          have hul : (unhex (nums s)).length = m := unhex_length m _ (by rw [nums_length]; omega)
          have hcell : wr.cell? ⟨w.heap.size, j, none⟩ = some (.int .u8 0) := by
            rw [hown2.cellAt j (by omega), cellsU8, List.getElem?_map, List.getElem?_append_right (by simp; omega)]
            rw [show (List.take j (unhex (nums s))).length = j by simp; omega, Nat.sub_self, show m - j = (m - j - 1) + 1 by omega, List.replicate_succ]
            rfl
          have hfr : wr.frozen? ⟨w.heap.size, j, none⟩ = false := hown2.frozenAt j
          have HO2 := hown2
          have HO : Hid (wr.ownsRow w.heap.size 5 1 (.slice (some ⟨w.heap.size, 0, none⟩) m m) m (cellsU8 ((unhex (nums s)).take j ++ List.replicate (m - j) 0))) := HO2
          clear hc0 hc1 hown2 HO2
          have hb0 : (2 * (j : Int)) < (k : Int) := by omega
          have hb1 : (2 * (j : Int)) + 1 < (k : Int) := by omega
          clear hk2
          have hw0 : IntKind.i64.wrap (2 * (j : Int)) = 2 * (j : Int) := by rw [IntKind.wrap_i64]; omega
          have hw1 : IntKind.i64.wrap (2 * (j : Int) + 1) = 2 * (j : Int) + 1 := by rw [IntKind.wrap_i64]; omega
          have hq0 : 0 ≤ 2 * (j : Int) := by omega
          have hq1 : 0 ≤ 2 * (j : Int) + 1 := by omega
          have ht0 : (2 * (j : Int)).toNat = 2 * j := by omega
          have ht1 : (2 * (j : Int) + 1).toNat = 2 * j + 1 := by omega
          go_wp2
          go_region_held3 (fun _ => True) (trivial) ((go_at_call 26; refine (hexValue_any _ _ ?_ ?_).mono ?_; (omega); (omega); rintro e w' ⟨rfl, rfl⟩))
          all_goals
            rw [hexPair (hexV c0) (hexV c1) hp0 hu0.2 hp1 hu1.2]
            have hst := HO.out.stored j (.int .u8 (hexV c0 * 16 + hexV c1))
            have HO3 : Hid ((wr.setCell ⟨w.heap.size, j, none⟩ (.int .u8 (hexV c0 * 16 + hexV c1))).drew.ownsRow w.heap.size 5 1 (.slice (some ⟨w.heap.size, 0, none⟩) m m) m (cellsU8 ((unhex (nums s)).take (j + 1) ++ List.replicate (m - (j + 1)) 0))) := by
              have e1 : (unhex (nums s)).take (j + 1) = (unhex (nums s)).take j ++ [hexV c0 * 16 + hexV c1] := by
                rw [take_snoc _ j (by omega), unhex_at j _ (by rw [nums_length]; omega), ← HC0.out, ← HC1.out]
              have e2 : (cellsU8 ((unhex (nums s)).take j ++ List.replicate (m - j) 0)).set j (.int .u8 (hexV c0 * 16 + hexV c1)) = cellsU8 ((unhex (nums s)).take (j + 1) ++ List.replicate (m - (j + 1)) 0) := by
                rw [e1, cellsU8, ← List.map_set, show m - j = (m - (j + 1)) + 1 by omega, set_zero _ j _ _ (by simp; omega), cellsU8]
              rw [← e2]
              exact hst.1.drew
            have HB3 : Hid (Below w.heap.size w (wr.setCell ⟨w.heap.size, j, none⟩ (.int .u8 (hexV c0 * 16 + hexV c1))).drew) := (HB2.out.setCell (Nat.le_refl _) _).drew
            clear hst HO HB2
            generalize (wr.setCell ⟨w.heap.size, j, none⟩ (.int .u8 (hexV c0 * 16 + hexV c1))).drew = W3 at HO3 HB3 ⊢
            go_wp2
            go_roundw
            case rel => exact ⟨j + 1, by omega, by go_num, HO3, HB3⟩
            case measure => simp [intOf]; omega
        · obtain rfl : j = m := by omega
          have hul : (unhex (nums s)).length = j := unhex_length j _ (by rw [nums_length, hs.out]; exact hm.out)
          have HO : Hid (wr.ownsRow w.heap.size 5 1 (.slice (some ⟨w.heap.size, 0, none⟩) j j) j (cellsU8 (unhex (nums s)))) := by
            rw [Nat.sub_self, List.replicate_zero, List.append_nil, List.take_of_length_le (by omega)] at hown2
            exact hown2
          clear hown2 hul
          go_wp2
          go_ret3
          exact ⟨_, rfl, HO, HB2⟩
end Go.Proofs.Ytioggmjocelolaa
