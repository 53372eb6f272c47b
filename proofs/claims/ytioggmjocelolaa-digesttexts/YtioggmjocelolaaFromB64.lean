import Derived.Test.YtioggmjocelolaaQuad
namespace Go.Proofs.Ytioggmjocelolaa
open Go.RowKit

set_option maxHeartbeats 800000 in
set_option maxRecDepth 100000 in
theorem fromB64_fault (s : ByteArray) (n p : Nat) (w : World) (hs : Hid (s.size = n)) (hn : n ≤ 200000) (hpn : p < n) (hnone : Hid (∀ j, j < p → mf (nums s) j = true)) (hbad : Hid (mf (nums s) p = false)) :
    Calls Try.prog 14 #[.string s] w fun e w' => e = .returned (.tuple #[.slice none 0 0, .int .i64 14, .int .i64 p]) ∧ w' = w := by
  have hsz : s.size = n := hs.out
  have h8 : decide ((16777216 : Int) < (n : Int)) = false := by simp; omega
  go_enter Try.func14, Try.ntmps14
  go_wp2
  go_loop [5, 13] (fun _ i => ∃ k : Nat, k ≤ p ∧ i = .int .i64 k) (fun _ i => n - (intOf i).toNat)
  case atStart => exact ⟨0, Nat.zero_le _, rfl⟩
  case round =>
    obtain ⟨k, hk, rfl⟩ := hrel
    have hlt : k < n := by omega
    have hks : k < s.size := by omega
    by_cases hkp : k < p
    · have hm := hnone.out k hkp
      go_wp2_with fail
      refine (may_any s k _ hks (by omega)).mono ?_
      rintro e w1 ⟨rfl, rfl⟩
      rw [hm]
      clear hm
      go_wp2
      go_round
      case rel => exact ⟨k + 1, by omega, by go_num⟩
      case measure => simp [intOf]; omega
    · obtain rfl : k = p := by omega
      have hm := hbad.out
      go_wp2_with fail
      refine (may_any s k _ hks (by omega)).mono ?_
      rintro e w1 ⟨rfl, rfl⟩
      rw [hm]
      clear hm
      go_wp2
      go_ret3
      exact ⟨rfl, rfl⟩

set_option maxHeartbeats 800000 in
set_option maxRecDepth 100000 in
theorem fromB64_odd (s : ByteArray) (n : Nat) (w : World) (hs : Hid (s.size = n)) (hn : n ≤ 200000) (hnone : Hid (∀ j, j < n → mf (nums s) j = true)) (hm : Hid (n % 4 ≠ 0)) :
    Calls Try.prog 14 #[.string s] w fun e w' => e = .returned (.tuple #[.slice none 0 0, .int .i64 14, .int .i64 n]) ∧ w' = w := by
  have hsz : s.size = n := hs.out
  have h8 : decide ((16777216 : Int) < (n : Int)) = false := by simp; omega
  have hpar : ((n : Int) % 4 != 0) = true := by have := hm.out; simp; omega
  go_enter Try.func14, Try.ntmps14
  go_wp2
  go_loop [5, 13] (fun _ i => ∃ k : Nat, k ≤ n ∧ i = .int .i64 k) (fun _ i => n - (intOf i).toNat)
  case atStart => exact ⟨0, Nat.zero_le _, rfl⟩
  case round =>
    obtain ⟨k, hk, rfl⟩ := hrel
    by_cases hlt : k < n
    · have hks : k < s.size := by omega
      have hmf := hnone.out k hlt
      go_wp2_with fail
      refine (may_any s k _ hks (by omega)).mono ?_
      rintro e w1 ⟨rfl, rfl⟩
      rw [hmf]
      clear hmf
      go_wp2
      go_round
      case rel => exact ⟨k + 1, by omega, by go_num⟩
      case measure => simp [intOf]; omega
    · obtain rfl : k = n := by omega
      clear hlt hk
      go_wp2
      go_ret3
      exact ⟨rfl, rfl⟩

set_option maxHeartbeats 800000 in
set_option maxRecDepth 100000 in
theorem fromB64_core (s : ByteArray) (n m : Nat) (w : World) (hs : Hid (s.size = n)) (hn : n ≤ 200000) (hnone : Hid (∀ j, j < n → mf (nums s) j = true)) (hm : Hid (n = 4 * m)) :
    Calls Try.prog 14 #[.string s] w fun e w' => ∃ v, e = .returned (.tuple #[v, .int .i64 0, .int .i64 0]) ∧ w'.ownsRow w.heap.size 5 1 v (unq (nums s) m).length (cellsU8 (unq (nums s) m)) ∧ Below w.heap.size w w' := by
  obtain ⟨i0, hi, hz0, hz1, hz2⟩ := info_parts Try.info5
  have hsz : s.size = n := hs.out
  have h8 : decide ((16777216 : Int) < (n : Int)) = false := by simp; omega
  have hpar : ((n : Int) % 4 != 0) = false := by have := hm.out; simp; omega
  go_enter Try.func14, Try.ntmps14
  go_wp2
  go_loop [5, 13] (fun _ i => ∃ k : Nat, k ≤ n ∧ i = .int .i64 k) (fun _ i => n - (intOf i).toNat)
  case atStart => exact ⟨0, Nat.zero_le _, rfl⟩
  case round =>
    obtain ⟨k, hk, rfl⟩ := hrel
    by_cases hlt : k < n
    · have hks : k < s.size := by omega
      have hmf := hnone.out k hlt
      go_wp2_with fail
      refine (may_any s k _ hks (by omega)).mono ?_
      rintro e w1 ⟨rfl, rfl⟩
      rw [hmf]
      clear hmf
      go_wp2
      go_round
      case rel => exact ⟨k + 1, by omega, by go_num⟩
      case measure => simp [intOf]; omega
    · obtain rfl : k = n := by omega
      have hdiv : (k : Int) / 4 = (m : Int) := by have := hm.out; omega
      clear hlt hk
      go_wp2_with (first
        | (at_make; go_must (refine wpList_make_own _ rfl _ _ 22 rfl w.heap.size 5 i0 (.int .u8 0) 1 Try.underlying22 hi hz0 hz1 .i64 .i64 ((m : Int) * 3) (m * 3) rfl rfl ?_ ?_ ?_ ?_ ?_)))
      · omega
      · unfold maxLen; have := hm.out; omega
      intro w1 hown hgrow
      have HB : Hid (Below w.heap.size w w1) := (Below.refl _ _).grown hgrow (Nat.le_refl _) (by intro k hk; cases hk)
      clear hgrow
      go_wp2
      go_loopw [6, 7] (fun v i wr => ∃ j : Nat, j ≤ m ∧ i = .int .i64 ((4 * j : Nat) : Int) ∧ wr.ownsRow w.heap.size 5 1 v (unq (nums s) j).length (cellsU8 (unq (nums s) j)) ∧ Hid (Below w.heap.size w wr)) (fun _ i _ => k - (intOf i).toNat)
      case atStart => exact ⟨0, Nat.zero_le _, rfl, hown, HB⟩
      case round =>
        obtain ⟨j, hj, rfl, hown2, HB2⟩ := hrel
        clear hown HB
        have hk4 := hm.out
        have hul := unq_length (nums s) j
        by_cases hlt : j < m
        · have hb0 : (4 * (j : Int)) < (k : Int) := by omega
          have hb1 : (4 * (j : Int)) + 4 ≤ (k : Int) := by omega
          clear hk4
          have hsl : (Instr.slice 9 (.string s) (some (.int .i64 (4 * (j : Int)))) (some (.int .i64 (4 * (j : Int) + 4))) none).run Try.prog wr = .ok (.string (s.extract (4 * j) (4 * j + 4))) wr := by
            have h := run_slice_string (P := Try.prog) wr 9 s .i64 .i64 (4 * (j : Int)) (4 * (j : Int) + 4) Try.underlying9 (by omega) (by omega) (by rw [hsz]; exact hb1)
            rw [show (4 * (j : Int)).toNat = 4 * j by omega, show (4 * (j : Int) + 4).toNat = 4 * j + 4 by omega] at h
            exact h
          have HE : Hid (nums (s.extract (4 * j) (4 * j + 4)) = ((nums s).drop (4 * j)).take 4) := by
            have h := nums_extract s (4 * j) (4 * j + 4)
            rw [show 4 * j + 4 - 4 * j = 4 by omega] at h
            exact h
          have HS4 : Hid ((s.extract (4 * j) (4 * j + 4)).size = 4) := by
            have h : (s.extract (4 * j) (4 * j + 4)).size = 4 := by
              rw [← nums_length, HE.out, List.length_take, List.length_drop, nums_length, hsz]
              omega
            exact h
          go_wp2_with fail
          refine (quad_core w.heap.size _ u6 _ _ wr HS4 (by omega) HB2.out.size hown2).mono ?_
          rintro e w2 ⟨v2, rfl, hown3, hb3⟩
          have HB3 : Hid (Below w.heap.size w w2) := HB2.out.trans hb3
          have HO3 : Hid (w2.ownsRow w.heap.size 5 1 v2 (unq (nums s) (j + 1)).length (cellsU8 (unq (nums s) (j + 1)))) := by
            rw [HE.out] at hown3
            rw [unq, List.length_append]
            exact hown3
          clear hown3 hb3 hown2 HB2 hsl HE HS4
          go_wp2
          go_roundw
          case rel => exact ⟨j + 1, by omega, by go_num, HO3, HB3⟩
          case measure => simp [intOf]; omega
        · obtain rfl : j = m := by omega
          have HO : Hid (wr.ownsRow w.heap.size 5 1 u6 (unq (nums s) j).length (cellsU8 (unq (nums s) j))) := hown2
          clear hown2
          go_wp2
          go_ret3
          exact ⟨_, rfl, HO, HB2⟩
end Go.Proofs.Ytioggmjocelolaa
