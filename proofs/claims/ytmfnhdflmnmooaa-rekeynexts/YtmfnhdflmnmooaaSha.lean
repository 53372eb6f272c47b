import Derived.Test.YtmfnhdflmnmooaaChecked
import Derived.WalkKit
import Derived.Below
import Derived.ProofKit
import Derived.Deep.RegionHeld3
import Derived.BigRegion
import Derived.BigQuiet
import Derived.Deep.QuietTactic
import Derived.Laws.Bits64
namespace Go.Proofs.Ytmfnhdflmnmooaa
open Go.RowKit
set_option linter.unusedVariables false
set_option linter.unusedSimpArgs false
def unitB (n : Int) : Bool := n == 512 || n == 1024 || n == 2048 || n == 4096
theorem unitB_cases {n : Int} (h : unitB n = true) : n = 512 ∨ n = 1024 ∨ n = 2048 ∨ n = 4096 := by
  simp [unitB] at h
  omega
theorem unitB_not {n : Int} (h : unitB n = false) : n ≠ 512 ∧ n ≠ 1024 ∧ n ≠ 2048 ∧ n ≠ 4096 := by
  simp [unitB] at h
  omega
def headB (n : Int) : Bool := n == 16384 || n == 32768 || n == 65536 || n == 131072 || n == 262144 || n == 524288 || n == 1048576 || n == 2097152 || n == 4194304
theorem and_pow (k n : Nat) (h1 : 2 ^ k < n) (h2 : n < 2 ^ (k + 1)) : n &&& (n - 1) ≠ 0 := by
  intro e
  have hp : 0 < 2 ^ k := Nat.pos_of_ne_zero (by simp)
  rw [Nat.pow_succ] at h2
  have d1 : n / 2 ^ k = 1 := Nat.div_eq_of_lt_le (by omega) (by omega)
  have d2 : (n - 1) / 2 ^ k = 1 := Nat.div_eq_of_lt_le (by omega) (by omega)
  have t : (n &&& (n - 1)).testBit k = true := by
    rw [Nat.testBit_and, Nat.testBit_eq_decide_div_mod_eq, Nat.testBit_eq_decide_div_mod_eq, d1, d2]
    rfl
  rw [e] at t
  simp at t
theorem headB_and (n : Nat) (h1 : 16384 ≤ n) (h2 : n ≤ 4194304) : (((n &&& (n - 1) : Nat) : Int) == 0) = headB n := by
  by_cases hb : headB n = true
  · rw [hb]
    have hc : n = 16384 ∨ n = 32768 ∨ n = 65536 ∨ n = 131072 ∨ n = 262144 ∨ n = 524288 ∨ n = 1048576 ∨ n = 2097152 ∨ n = 4194304 := by
      simp [headB] at hb
      omega
    rcases hc with rfl | rfl | rfl | rfl | rfl | rfl | rfl | rfl | rfl <;> decide
  · have hb' : headB n = false := by simpa using hb
    rw [hb']
    simp [headB] at hb'
    have ne : n &&& (n - 1) ≠ 0 := by
      by_cases c14 : n < 32768
      · exact and_pow 14 n (by omega) (by omega)
      by_cases c15 : n < 65536
      · exact and_pow 15 n (by omega) (by omega)
      by_cases c16 : n < 131072
      · exact and_pow 16 n (by omega) (by omega)
      by_cases c17 : n < 262144
      · exact and_pow 17 n (by omega) (by omega)
      by_cases c18 : n < 524288
      · exact and_pow 18 n (by omega) (by omega)
      by_cases c19 : n < 1048576
      · exact and_pow 19 n (by omega) (by omega)
      by_cases c20 : n < 2097152
      · exact and_pow 20 n (by omega) (by omega)
      · exact and_pow 21 n (by omega) (by omega)
    rw [beq_eq_false_iff_ne]
    omega
theorem bits_and_i64_nat (a b : Nat) (ha : a < 9223372036854775808) (hb : b < 9223372036854775808) :
    bits .and .i64 (a : Int) (b : Int) = ((a &&& b : Nat) : Int) := by
  have hx : a &&& b < 2 ^ 63 := Nat.and_lt_two_pow _ (by omega)
  have h1 : (BitVec.ofInt 64 (a : Int)).toNat = a := by
    rw [BitVec.ofInt_natCast, BitVec.toNat_ofNat]; exact Nat.mod_eq_of_lt (by omega)
  have h2 : (BitVec.ofInt 64 (b : Int)).toNat = b := by
    rw [BitVec.ofInt_natCast, BitVec.toNat_ofNat]; exact Nat.mod_eq_of_lt (by omega)
  show IntKind.i64.wrap ((BitVec.ofInt 64 (a : Int) &&& BitVec.ofInt 64 (b : Int)).toNat : Int) = _
  rw [BitVec.toNat_and, h1, h2]
  rw [IntKind.wrap_i64]
  omega
theorem isUnit_ok (n : Int) (w : World) : Calls Try.prog 41 #[.int .i64 n] w fun e w' => e = .returned (.bool (unitB n)) ∧ w' = w := by
  by_cases h : unitB n = true
  · rw [h]
    rcases unitB_cases h with rfl | rfl | rfl | rfl
    all_goals
      go_enter Try.func41, Try.ntmps41
      go_wp2
      go_ret
      exact ⟨rfl, rfl⟩
  · have h' : unitB n = false := by simpa using h
    rw [h']
    obtain ⟨a, b, c, d⟩ := unitB_not h'
    have q1 : (n == 512) = false := by simpa using a
    have q2 : (n == 1024) = false := by simpa using b
    have q3 : (n == 2048) = false := by simpa using c
    have q4 : (n == 4096) = false := by simpa using d
    go_enter Try.func41, Try.ntmps41
    go_wp2
    go_ret
    exact ⟨rfl, rfl⟩
theorem runit_ok (n : Int) (w : World) : Calls Try.prog 55 #[.int .i64 n] w fun e w' => e = .returned (.bool (unitB n)) ∧ w' = w := by
  by_cases h : unitB n = true
  · rw [h]
    rcases unitB_cases h with rfl | rfl | rfl | rfl
    all_goals
      go_enter Try.func55, Try.ntmps55
      go_wp2
      go_ret
      exact ⟨rfl, rfl⟩
  · have h' : unitB n = false := by simpa using h
    rw [h']
    obtain ⟨a, b, c, d⟩ := unitB_not h'
    have q1 : (n == 512) = false := by simpa using a
    have q2 : (n == 1024) = false := by simpa using b
    have q3 : (n == 2048) = false := by simpa using c
    have q4 : (n == 4096) = false := by simpa using d
    go_enter Try.func55, Try.ntmps55
    go_wp2
    go_ret
    exact ⟨rfl, rfl⟩
theorem isHead_ok (n : Int) (w : World) : Calls Try.prog 42 #[.int .i64 n] w fun e w' => e = .returned (.bool (headB n)) ∧ w' = w := by
  by_cases h1 : 16384 ≤ n
  · by_cases h2 : n ≤ 4194304
    · obtain ⟨m, rfl⟩ : ∃ m : Nat, n = m := ⟨n.toNat, by omega⟩
      have q1 : decide ((16384 : Int) ≤ (m : Nat)) = true := by simp; omega
      have q2 : decide (((m : Nat) : Int) ≤ 4194304) = true := by simp; omega
      have q3 : bits .and .i64 ((m : Nat) : Int) (((m : Nat) : Int) - 1) = ((m &&& (m - 1) : Nat) : Int) := by
        have e : ((m : Nat) : Int) - 1 = ((m - 1 : Nat) : Int) := by omega
        rw [e]
        exact bits_and_i64_nat m (m - 1) (by omega) (by omega)
      obtain ⟨x, hx⟩ : ∃ x : Int, x = ((m &&& (m - 1) : Nat) : Int) := ⟨_, rfl⟩
      rw [← hx] at q3
      have hr := headB_and m (by omega) (by omega)
      rw [← hx] at hr
      rw [← hr]
      clear hr hx
      go_enter Try.func42, Try.ntmps42
      go_wp2
      go_ret
      exact ⟨rfl, rfl⟩
    · have q1 : decide ((16384 : Int) ≤ n) = true := by simpa using h1
      have q2 : decide (n ≤ 4194304) = false := by simpa using h2
      have hr : headB n = false := by simp [headB]; omega
      rw [hr]
      go_enter Try.func42, Try.ntmps42
      go_wp2
      go_ret
      exact ⟨rfl, rfl⟩
  · have q1 : decide ((16384 : Int) ≤ n) = false := by simpa using h1
    have hr : headB n = false := by simp [headB]; omega
    rw [hr]
    go_enter Try.func42, Try.ntmps42
    go_wp2
    go_ret
    exact ⟨rfl, rfl⟩
end Go.Proofs.Ytmfnhdflmnmooaa
