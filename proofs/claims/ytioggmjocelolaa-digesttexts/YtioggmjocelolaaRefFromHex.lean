import Derived.Test.YtioggmjocelolaaRefSmall
import Derived.Deep.RegionHeld3
import Derived.Deep.AppendLies
import Derived.Deep.DrawnRows
namespace Go.Proofs.Ytioggmjocelolaa
open Go.RowKit
attribute [local go_sem ↓] Go.wp_at_zero Go.wp_at_succ

set_option maxHeartbeats 800000 in
set_option maxRecDepth 100000 in
theorem rfromHex_fault (s : ByteArray) (n p : Nat) (w : World) (hs : Hid (s.size = n)) (hn : n ≤ 200000) (hpn : p < n) (hnone : Hid (∀ j, j < p → 0 ≤ hexV ((nums s).getD j 0))) (hbad : Hid (hexV ((nums s).getD p 0) < 0)) :
    Calls Try.prog 19 #[.string s] w fun e w' => e = .returned (.tuple #[.slice none 0 0, .int .i64 13, .int .i64 p]) ∧ w' = w := by
  have hsz : s.size = n := hs.out
  have h8 : decide ((16777216 : Int) < (n : Int)) = false := by simp; omega
  go_enter Try.func19, Try.ntmps19
  go_wp2
  go_loop [5] (fun i => ∃ k : Nat, k ≤ p ∧ i = .int .i64 k) (fun i => n - (intOf i).toNat)
  case atStart => exact ⟨0, Nat.zero_le _, rfl⟩
  case round =>
    obtain ⟨k, hk, rfl⟩ := hrel
    have hlt : k < n := by omega
    have hks : k < s.size := by omega
    obtain ⟨c, hc⟩ : ∃ c : Int, c = (nums s).getD k 0 := ⟨_, rfl⟩
    have hr := nums_range s k
    rw [← hc] at hr
    have hcs : ((s[k]'hks).toNat : Int) = c := by rw [hc, nums_at s k hks]
    have HC : Hid (c = (nums s).getD k 0) := hc
    clear hc
    by_cases hkp : k < p
    · have hp : 0 ≤ hexV c := by rw [HC.out]; exact hnone.out k hkp
      have hpb : decide (hexV c < 0) = false := by simp; omega
      go_wp2_with fail
      refine (digit_any c _ (by omega) (by omega)).mono ?_
      rintro e w1 ⟨rfl, rfl⟩
      go_wp2
      go_round
      case rel => exact ⟨k + 1, by omega, by go_num⟩
      case measure => simp [intOf]; omega
    · obtain rfl : k = p := by omega
      have hpb : decide (hexV c < 0) = true := by simp; rw [HC.out]; exact hbad.out
      go_wp2_with fail
      refine (digit_any c _ (by omega) (by omega)).mono ?_
      rintro e w1 ⟨rfl, rfl⟩
      go_wp2
      go_ret3
      exact ⟨rfl, rfl⟩

set_option maxHeartbeats 800000 in
set_option maxRecDepth 100000 in
theorem rfromHex_odd (s : ByteArray) (n : Nat) (w : World) (hs : Hid (s.size = n)) (hn : n ≤ 200000) (hnone : Hid (∀ j, j < n → 0 ≤ hexV ((nums s).getD j 0))) (hm : Hid (n % 2 = 1)) :
    Calls Try.prog 19 #[.string s] w fun e w' => e = .returned (.tuple #[.slice none 0 0, .int .i64 13, .int .i64 n]) ∧ w' = w := by
  have hsz : s.size = n := hs.out
  have h8 : decide ((16777216 : Int) < (n : Int)) = false := by simp; omega
  have hpar : ((n : Int) % 2 == 1) = true := by have := hm.out; simp; omega
  go_enter Try.func19, Try.ntmps19
  go_wp2
  go_loop [5] (fun i => ∃ k : Nat, k ≤ n ∧ i = .int .i64 k) (fun i => n - (intOf i).toNat)
  case atStart => exact ⟨0, Nat.zero_le _, rfl⟩
  case round =>
    obtain ⟨k, hk, rfl⟩ := hrel
    by_cases hlt : k < n
    · have hks : k < s.size := by omega
      obtain ⟨c, hc⟩ : ∃ c : Int, c = (nums s).getD k 0 := ⟨_, rfl⟩
      have hr := nums_range s k
      have hp := hnone.out k hlt
      rw [← hc] at hr hp
      have hcs : ((s[k]'hks).toNat : Int) = c := by rw [hc, nums_at s k hks]
      have hpb : decide (hexV c < 0) = false := by simp; omega
      clear hc
      go_wp2_with fail
      refine (digit_any c _ (by omega) (by omega)).mono ?_
      rintro e w1 ⟨rfl, rfl⟩
      go_wp2
      go_round
      case rel => exact ⟨k + 1, by omega, by go_num⟩
      case measure => simp [intOf]; omega
    · obtain rfl : k = n := by omega
      clear hlt hk
      go_wp2
      go_ret3
      exact ⟨rfl, rfl⟩

set_option maxHeartbeats 1600000 in
set_option maxRecDepth 100000 in
theorem rfromHex_core (s : ByteArray) (n : Nat) (w : World) (hs : Hid (s.size = n)) (hn : n ≤ 200000) (hnone : Hid (∀ j, j < n → 0 ≤ hexV ((nums s).getD j 0))) (m : Nat) (hm : Hid (n = 2 * m)) :
    Calls Try.prog 19 #[.string s] w fun e w' => ∃ v, e = .returned (.tuple #[v, .int .i64 0, .int .i64 0]) ∧ w'.ownsRow w.heap.size 5 1 v m (cellsU8 (unhex (nums s))) ∧ Below w.heap.size w w' := by
  obtain ⟨i0, hi, hz0, hz1, hz2⟩ := info_parts Try.info5
  have hsz : s.size = n := hs.out
  have h8 : decide ((16777216 : Int) < (n : Int)) = false := by simp; omega
  have hpar : ((n : Int) % 2 == 1) = false := by have := hm.out; simp; omega
  go_enter Try.func19, Try.ntmps19
  go_wp2
  go_loop [5] (fun i => ∃ k : Nat, k ≤ n ∧ i = .int .i64 k) (fun i => n - (intOf i).toNat)
  case atStart => exact ⟨0, Nat.zero_le _, rfl⟩
  case round =>
    obtain ⟨k, hk, rfl⟩ := hrel
    by_cases hlt : k < n
    · have hks : k < s.size := by omega
      obtain ⟨c, hc⟩ : ∃ c : Int, c = (nums s).getD k 0 := ⟨_, rfl⟩
      have hr := nums_range s k
      have hp := hnone.out k hlt
      rw [← hc] at hr hp
      have hcs : ((s[k]'hks).toNat : Int) = c := by rw [hc, nums_at s k hks]
      have hpb : decide (hexV c < 0) = false := by simp; omega
      clear hc
      go_wp2_with fail
      refine (digit_any c _ (by omega) (by omega)).mono ?_
      rintro e w1 ⟨rfl, rfl⟩
      go_wp2
      go_round
      case rel => exact ⟨k + 1, by omega, by go_num⟩
      case measure => simp [intOf]; omega
    · obtain rfl : k = n := by omega
      clear hlt hk
      go_wp2
      go_loopw [6, 7] (fun v i wr => ∃ j : Nat, j ≤ m ∧ i = .int .i64 ((2 * j : Nat) : Int) ∧ wr.ownsRow w.heap.size 5 1 v j (cellsU8 ((unhex (nums s)).take j)) ∧ Hid (Below w.heap.size w wr)) (fun _ i _ => k - (intOf i).toNat)
      case atStart => exact ⟨0, Nat.zero_le _, rfl, World.ownsRow_nil _ _ _ _, Below.refl _ _⟩
      case round =>
        obtain ⟨j, hj, rfl, hown2, HB2⟩ := hrel
        have hk2 := hm.out
        by_cases hlt : j < m
        · have hks0 : 2 * j < s.size := by omega
          have hks1 : 2 * j + 1 < s.size := by omega
          have hul : (unhex (nums s)).length = m := unhex_length m _ (by rw [nums_length]; omega)
          have HT : Hid ((unhex (nums s)).take (j + 1) = (unhex (nums s)).take j ++ [hexV ((nums s).getD (2 * j) 0) * 16 + hexV ((nums s).getD (2 * j + 1) 0)]) := by
            rw [take_snoc _ j (by omega), unhex_at j _ (by rw [nums_length]; omega)]
            exact rfl
          have hr0 := nums_range s (2 * j)
          have hr1 := nums_range s (2 * j + 1)
          have hp0 := hnone.out (2 * j) (by omega)
          have hp1 := hnone.out (2 * j + 1) (by omega)
          have hcs0 : ((s[2 * j]'hks0).toNat : Int) = (nums s).getD (2 * j) 0 := (nums_at s _ hks0).symm
          have hcs1 : ((s[2 * j + 1]'hks1).toNat : Int) = (nums s).getD (2 * j + 1) 0 := (nums_at s _ hks1).symm
          generalize (nums s).getD (2 * j) 0 = c0 at hr0 hp0 hcs0 HT
          generalize (nums s).getD (2 * j + 1) 0 = c1 at hr1 hp1 hcs1 HT
          have hu0 := (hexV_range c0).2
          have hu1 := (hexV_range c1).2
          have wb : IntKind.u8.wrap (16 * hexV c0 + hexV c1) = hexV c0 * 16 + hexV c1 := by rw [IntKind.wrap_u8]; omega
          have wi : IntKind.i64.wrap (16 * hexV c0 + hexV c1) = 16 * hexV c0 + hexV c1 := by rw [IntKind.wrap_i64]; omega
          have wj : IntKind.i64.wrap (16 * hexV c0) = 16 * hexV c0 := by rw [IntKind.wrap_i64]; omega
          have hb0 : (2 * (j : Int)) < (k : Int) := by omega
          have hb1 : (2 * (j : Int)) + 1 < (k : Int) := by omega
          have hw1 : IntKind.i64.wrap (2 * (j : Int) + 1) = 2 * (j : Int) + 1 := by rw [IntKind.wrap_i64]; omega
          have hq0 : 0 ≤ 2 * (j : Int) := by omega
          have hq1 : 0 ≤ 2 * (j : Int) + 1 := by omega
          have ht0 : (2 * (j : Int)).toNat = 2 * j := by omega
          have ht1 : (2 * (j : Int) + 1).toNat = 2 * j + 1 := by omega
          clear hul hk2
          go_wp2
          go_region_held3 (fun _ => True) (trivial) (first | (refine step_append_lies _ (by rfl) _ _ _ (by rfl) w.heap.size 5 i0 (.int .u8 0) 1 1 Try.underlying22 hi hz0 hz1 hz2 (by rfl) (by decide) _ j (cellsU8 ((unhex (nums s)).take j)) (by rfl) (hown2.alloc _).drew ⟨wr.heap.size, 0, none⟩ 1 1 (cellsU8 [hexV c0 * 16 + hexV c1]) (by rfl) (by rfl) (World.news_of_block (heap_alloc_new wr _)) (cellsU8_one _) (by decide) (by unfold maxLen; omega) (by omega) (by have := HB2.out.size; simp; omega) (wr.heap.size + 1) (by simp) ?_; intro g cp w2 hown3 hgrow2 hat hglt) | (go_at_call 31; refine (digit_any _ _ ?_ ?_).mono ?_; (omega); (omega); rintro e w' ⟨rfl, rfl⟩))
          all_goals
            have HB3 : Hid (Below w.heap.size w w2) := (HB2.out.alloc HB2.out.size _).drew.grown hgrow2 (by have := HB2.out.size; simp; omega) (fun q hq => (hown2.lt q hq).1)
            have HO3 : Hid (w2.ownsRow w.heap.size 5 1 (.slice (some ⟨g, 0, none⟩) (j + 1) cp) (j + 1) (cellsU8 ((unhex (nums s)).take (j + 1)))) := by
              rw [HT.out, cellsU8_append]
              exact hown3
            clear hown3 hgrow2 hat hglt hown2 HB2
            go_wp2
            go_roundw
            case rel => exact ⟨j + 1, by omega, by go_num, HO3, HB3⟩
            case measure => simp [intOf]; omega
        · obtain rfl : j = m := by omega
          have hul : (unhex (nums s)).length = j := unhex_length j _ (by rw [nums_length, hs.out]; exact hm.out)
          have HO : Hid (wr.ownsRow w.heap.size 5 1 u6 j (cellsU8 (unhex (nums s)))) := by
            rw [List.take_of_length_le (by omega)] at hown2
            exact hown2
          have hge : (k : Int) ≤ 2 * (j : Int) := by omega
          clear hown2 hul hk2
          go_wp2
          go_ret3
          exact ⟨_, rfl, HO, HB2⟩

theorem rfromHex_good (s : ByteArray) (w : World) (hn : s.size ≤ 200000) (hg : HexGood s) :
    Calls Try.prog 19 #[.string s] w fun e w' => ∃ v, e = .returned (.tuple #[v, .int .i64 0, .int .i64 0]) ∧ w'.ownsRow w.heap.size 5 1 v (s.size / 2) (cellsU8 (unhex (nums s))) ∧ Below w.heap.size w w' :=
  rfromHex_core s s.size w rfl hn (fun j hj => mem_getD (P := fun c => 0 ≤ hexV c) hg.1 j (by rw [nums_length]; exact hj)) (s.size / 2) (by have := hg.2; show s.size = _; omega)
/-- Where the first fault of a text of digits is. -/
def HexPlace (s : ByteArray) (p : Nat) : Prop := (p < s.size ∧ (∀ j, j < p → 0 ≤ hexV ((nums s).getD j 0)) ∧ hexV ((nums s).getD p 0) < 0) ∨ (p = s.size ∧ s.size % 2 = 1 ∧ ∀ j, j < s.size → 0 ≤ hexV ((nums s).getD j 0))
theorem hexPlace_of (s : ByteArray) (hg : ¬ HexGood s) : ∃ p, HexPlace s p := by
  by_cases ha : ∀ j, j < s.size → 0 ≤ hexV ((nums s).getD j 0)
  · refine ⟨s.size, .inr ⟨rfl, ?_, ha⟩⟩
    have : ¬ s.size % 2 = 0 := fun h => hg ⟨getD_mem (P := fun c => 0 ≤ hexV c) (fun j hj => ha j (by rw [nums_length] at hj; exact hj)), h⟩
    omega
  · obtain ⟨p, h1, h2, h3⟩ := least (fun j => 0 ≤ hexV ((nums s).getD j 0)) s.size (by
      by_cases h : ∃ j, j < s.size ∧ ¬ 0 ≤ hexV ((nums s).getD j 0)
      · exact h
      · exact absurd (fun j hj => by by_cases hp : 0 ≤ hexV ((nums s).getD j 0); exact hp; exact absurd ⟨j, hj, hp⟩ h) ha)
    exact ⟨p, .inl ⟨h1, h2, by omega⟩⟩
theorem fromHex_at (s : ByteArray) (p : Nat) (w : World) (hn : s.size ≤ 200000) (hp : HexPlace s p) :
    Calls Try.prog 13 #[.string s] w fun e w' => e = .returned (.tuple #[.slice none 0 0, .int .i64 13, .int .i64 p]) ∧ w' = w := by
  rcases hp with ⟨h1, h2, h3⟩ | ⟨rfl, h2, h3⟩
  · exact fromHex_fault s s.size p w rfl hn h1 h2 h3
  · exact fromHex_odd s s.size w rfl hn h3 h2
theorem rfromHex_at (s : ByteArray) (p : Nat) (w : World) (hn : s.size ≤ 200000) (hp : HexPlace s p) :
    Calls Try.prog 19 #[.string s] w fun e w' => e = .returned (.tuple #[.slice none 0 0, .int .i64 13, .int .i64 p]) ∧ w' = w := by
  rcases hp with ⟨h1, h2, h3⟩ | ⟨rfl, h2, h3⟩
  · exact rfromHex_fault s s.size p w rfl hn h1 h2 h3
  · exact rfromHex_odd s s.size w rfl hn h3 h2
end Go.Proofs.Ytioggmjocelolaa
