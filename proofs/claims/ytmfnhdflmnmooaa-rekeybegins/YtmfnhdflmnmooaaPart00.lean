import Derived.Test.YtmfnhdflmnmooaaChecked
import Derived.WalkKit
import Derived.Below
import Derived.ProofKit
import Derived.Deep.RegionHeld3
import Derived.BigRegion
import Derived.BigQuiet
import Derived.Deep.QuietTactic
import Derived.Laws.Bits64
import Derived.Deep.Upon
import Derived.Deep.Draws
import Derived.Deep.RegionWith
import Derived.Deep.MidRow
import Derived.Deep.Cut
import Derived.OwnWalk
import Derived.Deep.AppendLies
import Derived.Deep.DeepMust
import Derived.Laws.OwnMore
import Derived.RangeFuncBox
import Derived.Laws.StructEq
import Derived.Laws.AppendOwnNone
namespace Go.Proofs.Ytmfnhdflmnmooaa
open Go.RowKit
set_option linter.unusedVariables false
set_option linter.unusedSimpArgs false
def unitB (n : Int) : Bool := n == 512 || n == 1024 || n == 2048 || n == 4096
theorem unitB_cases {n : Int} (h : unitB n = true) : n = 512 ∨ n = 1024 ∨ n = 2048 ∨ n = 4096 := by
  simp [unitB] at h
  omega
theorem unitB_not {n : Int} (h : unitB n = false) : n ≠ 512 ∧ n ≠ 1024 ∧ n ≠ 2048 ∧ n ≠ 4096 := by
  simp [unitB] at h
  omega
def headB (n : Int) : Bool := n == 16384 || n == 32768 || n == 65536 || n == 131072 || n == 262144 || n == 524288 || n == 1048576 || n == 2097152 || n == 4194304
theorem and_pow (k n : Nat) (h1 : 2 ^ k < n) (h2 : n < 2 ^ (k + 1)) : n &&& (n - 1) ≠ 0 := by
  intro e
  have hp : 0 < 2 ^ k := Nat.pos_of_ne_zero (by simp)
  rw [Nat.pow_succ] at h2
  have d1 : n / 2 ^ k = 1 := Nat.div_eq_of_lt_le (by omega) (by omega)
  have d2 : (n - 1) / 2 ^ k = 1 := Nat.div_eq_of_lt_le (by omega) (by omega)
  have t : (n &&& (n - 1)).testBit k = true := by
    rw [Nat.testBit_and, Nat.testBit_eq_decide_div_mod_eq, Nat.testBit_eq_decide_div_mod_eq, d1, d2]
    rfl
  rw [e] at t
  simp at t
theorem headB_and (n : Nat) (h1 : 16384 ≤ n) (h2 : n ≤ 4194304) : (((n &&& (n - 1) : Nat) : Int) == 0) = headB n := by
  by_cases hb : headB n = true
  · rw [hb]
    have hc : n = 16384 ∨ n = 32768 ∨ n = 65536 ∨ n = 131072 ∨ n = 262144 ∨ n = 524288 ∨ n = 1048576 ∨ n = 2097152 ∨ n = 4194304 := by
      simp [headB] at hb
      omega
    rcases hc with rfl | rfl | rfl | rfl | rfl | rfl | rfl | rfl | rfl <;> decide
  · have hb' : headB n = false := by simpa using hb
    rw [hb']
    simp [headB] at hb'
    have ne : n &&& (n - 1) ≠ 0 := by
      by_cases c14 : n < 32768
      · exact and_pow 14 n (by omega) (by omega)
      by_cases c15 : n < 65536
      · exact and_pow 15 n (by omega) (by omega)
      by_cases c16 : n < 131072
      · exact and_pow 16 n (by omega) (by omega)
      by_cases c17 : n < 262144
      · exact and_pow 17 n (by omega) (by omega)
      by_cases c18 : n < 524288
      · exact and_pow 18 n (by omega) (by omega)
      by_cases c19 : n < 1048576
      · exact and_pow 19 n (by omega) (by omega)
      by_cases c20 : n < 2097152
      · exact and_pow 20 n (by omega) (by omega)
      · exact and_pow 21 n (by omega) (by omega)
    rw [beq_eq_false_iff_ne]
    omega
theorem bits_and_i64_nat (a b : Nat) (ha : a < 9223372036854775808) (hb : b < 9223372036854775808) :
    bits .and .i64 (a : Int) (b : Int) = ((a &&& b : Nat) : Int) := by
  have hx : a &&& b < 2 ^ 63 := Nat.and_lt_two_pow _ (by omega)
  have h1 : (BitVec.ofInt 64 (a : Int)).toNat = a := by
    rw [BitVec.ofInt_natCast, BitVec.toNat_ofNat]; exact Nat.mod_eq_of_lt (by omega)
  have h2 : (BitVec.ofInt 64 (b : Int)).toNat = b := by
    rw [BitVec.ofInt_natCast, BitVec.toNat_ofNat]; exact Nat.mod_eq_of_lt (by omega)
  show IntKind.i64.wrap ((BitVec.ofInt 64 (a : Int) &&& BitVec.ofInt 64 (b : Int)).toNat : Int) = _
  rw [BitVec.toNat_and, h1, h2]
  rw [IntKind.wrap_i64]
  omega
theorem isUnit_ok (n : Int) (w : World) : Calls Try.prog 41 #[.int .i64 n] w fun e w' => e = .returned (.bool (unitB n)) ∧ w' = w := by
  by_cases h : unitB n = true
  · rw [h]
    rcases unitB_cases h with rfl | rfl | rfl | rfl
    all_goals
      go_enter Try.func41, Try.ntmps41
      go_wp2
      go_ret
      exact ⟨rfl, rfl⟩
  · have h' : unitB n = false := by simpa using h
    rw [h']
    obtain ⟨a, b, c, d⟩ := unitB_not h'
    have q1 : (n == 512) = false := by simpa using a
    have q2 : (n == 1024) = false := by simpa using b
    have q3 : (n == 2048) = false := by simpa using c
    have q4 : (n == 4096) = false := by simpa using d
    go_enter Try.func41, Try.ntmps41
    go_wp2
    go_ret
    exact ⟨rfl, rfl⟩
theorem runit_ok (n : Int) (w : World) : Calls Try.prog 55 #[.int .i64 n] w fun e w' => e = .returned (.bool (unitB n)) ∧ w' = w := by
  by_cases h : unitB n = true
  · rw [h]
    rcases unitB_cases h with rfl | rfl | rfl | rfl
    all_goals
      go_enter Try.func55, Try.ntmps55
      go_wp2
      go_ret
      exact ⟨rfl, rfl⟩
  · have h' : unitB n = false := by simpa using h
    rw [h']
    obtain ⟨a, b, c, d⟩ := unitB_not h'
    have q1 : (n == 512) = false := by simpa using a
    have q2 : (n == 1024) = false := by simpa using b
    have q3 : (n == 2048) = false := by simpa using c
    have q4 : (n == 4096) = false := by simpa using d
    go_enter Try.func55, Try.ntmps55
    go_wp2
    go_ret
    exact ⟨rfl, rfl⟩
theorem isHead_ok (n : Int) (w : World) : Calls Try.prog 42 #[.int .i64 n] w fun e w' => e = .returned (.bool (headB n)) ∧ w' = w := by
  by_cases h1 : 16384 ≤ n
  · by_cases h2 : n ≤ 4194304
    · obtain ⟨m, rfl⟩ : ∃ m : Nat, n = m := ⟨n.toNat, by omega⟩
      have q1 : decide ((16384 : Int) ≤ (m : Nat)) = true := by simp; omega
      have q2 : decide (((m : Nat) : Int) ≤ 4194304) = true := by simp; omega
      have q3 : bits .and .i64 ((m : Nat) : Int) (((m : Nat) : Int) - 1) = ((m &&& (m - 1) : Nat) : Int) := by
        have e : ((m : Nat) : Int) - 1 = ((m - 1 : Nat) : Int) := by omega
        rw [e]
        exact bits_and_i64_nat m (m - 1) (by omega) (by omega)
      obtain ⟨x, hx⟩ : ∃ x : Int, x = ((m &&& (m - 1) : Nat) : Int) := ⟨_, rfl⟩
      rw [← hx] at q3
      have hr := headB_and m (by omega) (by omega)
      rw [← hx] at hr
      rw [← hr]
      clear hr hx
      go_enter Try.func42, Try.ntmps42
      go_wp2
      go_ret
      exact ⟨rfl, rfl⟩
    · have q1 : decide ((16384 : Int) ≤ n) = true := by simpa using h1
      have q2 : decide (n ≤ 4194304) = false := by simpa using h2
      have hr : headB n = false := by simp [headB]; omega
      rw [hr]
      go_enter Try.func42, Try.ntmps42
      go_wp2
      go_ret
      exact ⟨rfl, rfl⟩
  · have q1 : decide ((16384 : Int) ≤ n) = false := by simpa using h1
    have hr : headB n = false := by simp [headB]; omega
    rw [hr]
    go_enter Try.func42, Try.ntmps42
    go_wp2
    go_ret
    exact ⟨rfl, rfl⟩
end Go.Proofs.Ytmfnhdflmnmooaa
namespace Go.Proofs.Ytmfnhdflmnmooaa
open Go.RowKit
set_option linter.unusedVariables false
set_option linter.unusedSimpArgs false
structure Sm (w w' : World) : Prop where
  os : w'.os = w.os
  tape : w'.tape = w.tape
  output : w'.output = w.output
  heap : w'.heap = w.heap
theorem Below.ofSm {w u v : World} (h : Below w.heap.size w u) (s : Sm u v) : Below w.heap.size w v := ⟨s.os.trans h.os, s.tape.trans h.tape, s.output.trans h.output, by rw [s.heap]; exact h.size, fun q hq => by rw [s.heap]; exact h.block q hq⟩
theorem below_alloc1 (u : World) (o : Obj) : Below u.heap.size u (u.alloc o) := (Below.refl _ _).alloc (Nat.le_refl _) o
theorem rangeAt_new (w : World) (cs : Array Value) (t : TypeId) (j : Nat) (v : Value) (h : cs[j]? = some v) : (w.alloc (.cells cs t)).cell? ⟨w.heap.size, j, none⟩ = some v := by
  have hb : (w.alloc (.cells cs t)).heap[w.heap.size]? = some (.cells cs t) := by
    show (w.heap.push _)[w.heap.size]? = _
    simp
  simp only [World.cell?, hb]
  simpa using h
theorem lt_of_cell {w : World} {a : Addr} {v : Value} (h : w.cell? a = some v) : a.block < w.heap.size := by
  by_cases hb : a.block < w.heap.size
  · exact hb
  · simp [World.cell?, Array.getElem?_eq_none (Nat.le_of_not_lt hb)] at h
/-- A shape in a block. -/
structure SAt (u : World) (s : Nat) (U C H K : Int) : Prop where
  c0 : u.cell? ⟨s, 0, none⟩ = some (.int .i64 U)
  c1 : u.cell? ⟨s, 1, none⟩ = some (.int .u64 C)
  c2 : u.cell? ⟨s, 2, none⟩ = some (.int .i64 H)
  c3 : u.cell? ⟨s, 3, none⟩ = some (.int .i64 K)
theorem SAt.blk {u v : World} {s : Nat} {U C H K : Int} (a : SAt u s U C H K) (hb : v.heap[s]? = u.heap[s]?) : SAt v s U C H K := by
  have hc : ∀ j, v.cell? ⟨s, j, none⟩ = u.cell? ⟨s, j, none⟩ := fun j => World.cell?_of_block (a := ⟨s, j, none⟩) hb
  exact ⟨by rw [hc]; exact a.c0, by rw [hc]; exact a.c1, by rw [hc]; exact a.c2, by rw [hc]; exact a.c3⟩
theorem SAt.below {u v : World} {s : Nat} {U C H K : Int} (a : SAt u s U C H K) (b : Below u.heap.size u v) : SAt v s U C H K := a.blk (b.block s (lt_of_cell a.c0))
theorem SAt.new (w : World) (U C H K : Int) (t : TypeId) : SAt (w.alloc (.cells #[.int .i64 U, .int .u64 C, .int .i64 H, .int .i64 K] t)) w.heap.size U C H K :=
  ⟨rangeAt_new w _ t 0 _ rfl, rangeAt_new w _ t 1 _ rfl, rangeAt_new w _ t 2 _ rfl, rangeAt_new w _ t 3 _ rfl⟩
theorem SAt.all {u : World} {s : Nat} {U C H K : Int} (a : SAt u s U C H K) : u.cell? ⟨s, 0, none⟩ = some (.int .i64 U) ∧ u.cell? ⟨s, 1, none⟩ = some (.int .u64 C) ∧ u.cell? ⟨s, 2, none⟩ = some (.int .i64 H) ∧ u.cell? ⟨s, 3, none⟩ = some (.int .i64 K) := ⟨a.c0, a.c1, a.c2, a.c3⟩
theorem keys_ok (U C H K : Int) (w : World) (h1 : 0 ≤ H) (h2 : H ≤ 4194304) : Calls Try.prog 44 #[.agg #[.int .i64 U, .int .u64 C, .int .i64 H, .int .i64 K]] w fun e w' => Hid (e = .returned (.int .i64 (2 * H)) ∧ Below w.heap.size w w') := by
  have HA : Hid (SAt (w.alloc (.cells #[.int .i64 U, .int .u64 C, .int .i64 H, .int .i64 K] 24)) w.heap.size U C H K ∧ Below w.heap.size w (w.alloc (.cells #[.int .i64 U, .int .u64 C, .int .i64 H, .int .i64 K] 24))) := ⟨SAt.new _ _ _ _ _ _, below_alloc1 _ _⟩
  go_enter Try.func44, Try.ntmps44
  go_upto_region 1 with fail
  generalize w.alloc (.cells #[.int .i64 U, .int .u64 C, .int .i64 H, .int .i64 K] 24) = w0 at HA ⊢
  have c2 := HA.out.1.c2
  go_wp2
  go_ret
  exact ⟨rfl, HA.out.2⟩
set_option maxHeartbeats 800000 in
theorem data_ok (U C H K : Int) (w : World) (h1 : 0 ≤ H) (h2 : H ≤ 4194304) (k1 : 0 ≤ K) (k2 : K ≤ 134217728) : Calls Try.prog 43 #[.agg #[.int .i64 U, .int .u64 C, .int .i64 H, .int .i64 K]] w fun e w' => Hid (e = .returned (.int .i64 (2 * H + K)) ∧ Below w.heap.size w w') := by
  have HA : Hid (SAt (w.alloc (.cells #[.int .i64 U, .int .u64 C, .int .i64 H, .int .i64 K] 24)) w.heap.size U C H K ∧ Below w.heap.size w (w.alloc (.cells #[.int .i64 U, .int .u64 C, .int .i64 H, .int .i64 K] 24))) := ⟨SAt.new _ _ _ _ _ _, below_alloc1 _ _⟩
  go_enter Try.func43, Try.ntmps43
  go_upto_region 1 with fail
  generalize w.alloc (.cells #[.int .i64 U, .int .u64 C, .int .i64 H, .int .i64 K] 24) = w0 at HA ⊢
  have HC : Hid (∀ u, Sm w0 u → Calls Try.prog 44 #[.agg #[.int .i64 U, .int .u64 C, .int .i64 H, .int .i64 K]] u fun e w' => Hid (e = .returned (.int .i64 (2 * H)) ∧ Below w0.heap.size w0 w')) := fun u hu => by
    refine (keys_ok U C H K u h1 h2).mono ?_
    intro e w' hh
    have hbu : Below w0.heap.size w0 u := Below.ofSm (Below.refl _ _) hu
    exact ⟨hh.out.1, hbu.trans (hh.out.2.mono hbu.size)⟩
  have c0 := HA.out.1.all
  go_region_held3 (fun u => u.cell? ⟨w.heap.size, 0, none⟩ = some (.int .i64 U) ∧ u.cell? ⟨w.heap.size, 1, none⟩ = some (.int .u64 C) ∧ u.cell? ⟨w.heap.size, 2, none⟩ = some (.int .i64 H) ∧ u.cell? ⟨w.heap.size, 3, none⟩ = some (.int .i64 K)) (first | exact c0 | exact hS6 | go_keep) ((go_at_call 44; refine (HC.out _ ?_).mono ?_; exact ⟨rfl, rfl, rfl, rfl⟩; intro e6 w6 hh; obtain ⟨rfl, hb6⟩ := hh.out; have hS6 := (HA.out.1.below hb6).all))
  all_goals
    have HB6 : Hid (Below w.heap.size w w6) := HA.out.2.trans (hb6.mono HA.out.2.size)
    clear hh hb6 hS6 HC
    go_wp2
    go_ret
    refine ⟨?_, HB6.out⟩
    show Ending.returned (.int .i64 (IntKind.i64.wrap (2 * H + K))) = _
    rw [IntKind.wrap_i64]
    congr 2
    omega
end Go.Proofs.Ytmfnhdflmnmooaa
namespace Go.Proofs.Ytmfnhdflmnmooaa
open Go.RowKit
set_option linter.unusedVariables false
set_option linter.unusedSimpArgs false
def mayB (U C H K : Int) : Bool := unitB U && headB H && decide (4096 ≤ K) && decide (K ≤ 134217728) && decide (K % 4096 = 0) && decide (C ≤ 4294967296) && decide (2 * H + K < C * U)
theorem headB_range {H : Int} (h : headB H = true) : 16384 ≤ H ∧ H ≤ 4194304 := by
  simp [headB] at h
  omega
set_option maxHeartbeats 1600000 in
theorem may_0 (U C H K : Int) (w : World) (hu : unitB U = false) : Calls Try.prog 18 #[.agg #[.int .i64 U, .int .u64 C, .int .i64 H, .int .i64 K]] w fun e w' => Hid (e = .returned (.bool false) ∧ Below w.heap.size w w') := by
  have HU : Hid (∀ v, Calls Try.prog 41 #[.int .i64 U] v fun e w' => e = .returned (.bool false) ∧ w' = v) := fun v => by have q := isUnit_ok U v; rw [hu] at q; exact q
  have HA : Hid (SAt (w.alloc (.cells #[.int .i64 U, .int .u64 C, .int .i64 H, .int .i64 K] 24)) w.heap.size U C H K ∧ Below w.heap.size w (w.alloc (.cells #[.int .i64 U, .int .u64 C, .int .i64 H, .int .i64 K] 24))) := ⟨SAt.new _ _ _ _ _ _, below_alloc1 _ _⟩
  go_enter Try.func18, Try.ntmps18
  go_upto_region 1 with fail
  generalize w.alloc (.cells #[.int .i64 U, .int .u64 C, .int .i64 H, .int .i64 K] 24) = w0 at HA ⊢
  have c0 := HA.out.1.c0
  have c1 := HA.out.1.c1
  have c2 := HA.out.1.c2
  have c3 := HA.out.1.c3
  go_quiet ((go_at_call 41; exact Calls.quiet_of_same (HU.out _)))
  have HB : Hid (Below w.heap.size w (w0.drewN nq)) := Below.ofSm HA.out.2 ⟨rfl, rfl, rfl, rfl⟩
  go_wp2
  go_ret
  exact ⟨rfl, HB.out⟩
set_option maxHeartbeats 1600000 in
theorem may_1 (U C H K : Int) (w : World) (hu : unitB U = true) (hh : headB H = false) : Calls Try.prog 18 #[.agg #[.int .i64 U, .int .u64 C, .int .i64 H, .int .i64 K]] w fun e w' => Hid (e = .returned (.bool false) ∧ Below w.heap.size w w') := by
  have HU : Hid (∀ v, Calls Try.prog 41 #[.int .i64 U] v fun e w' => e = .returned (.bool true) ∧ w' = v) := fun v => by have q := isUnit_ok U v; rw [hu] at q; exact q
  have HH : Hid (∀ v, Calls Try.prog 42 #[.int .i64 H] v fun e w' => e = .returned (.bool false) ∧ w' = v) := fun v => by have q := isHead_ok H v; rw [hh] at q; exact q
  have HA : Hid (SAt (w.alloc (.cells #[.int .i64 U, .int .u64 C, .int .i64 H, .int .i64 K] 24)) w.heap.size U C H K ∧ Below w.heap.size w (w.alloc (.cells #[.int .i64 U, .int .u64 C, .int .i64 H, .int .i64 K] 24))) := ⟨SAt.new _ _ _ _ _ _, below_alloc1 _ _⟩
  go_enter Try.func18, Try.ntmps18
  go_upto_region 1 with fail
  generalize w.alloc (.cells #[.int .i64 U, .int .u64 C, .int .i64 H, .int .i64 K] 24) = w0 at HA ⊢
  have c0 := HA.out.1.c0
  have c1 := HA.out.1.c1
  have c2 := HA.out.1.c2
  have c3 := HA.out.1.c3
  go_quiet (first | (go_at_call 41; exact Calls.quiet_of_same (HU.out _)) | (go_at_call 42; exact Calls.quiet_of_same (HH.out _)))
  have HB : Hid (Below w.heap.size w (w0.drewN nq)) := Below.ofSm HA.out.2 ⟨rfl, rfl, rfl, rfl⟩
  go_wp2
  go_ret
  exact ⟨rfl, HB.out⟩
set_option maxHeartbeats 1600000 in
theorem may_2 (U C H K : Int) (w : World) (hu : unitB U = true) (hh : headB H = true) (k1 : ¬ 4096 ≤ K) : Calls Try.prog 18 #[.agg #[.int .i64 U, .int .u64 C, .int .i64 H, .int .i64 K]] w fun e w' => Hid (e = .returned (.bool false) ∧ Below w.heap.size w w') := by
  have HU : Hid (∀ v, Calls Try.prog 41 #[.int .i64 U] v fun e w' => e = .returned (.bool true) ∧ w' = v) := fun v => by have q := isUnit_ok U v; rw [hu] at q; exact q
  have HH : Hid (∀ v, Calls Try.prog 42 #[.int .i64 H] v fun e w' => e = .returned (.bool true) ∧ w' = v) := fun v => by have q := isHead_ok H v; rw [hh] at q; exact q
  have qk1 : decide (4096 ≤ K) = false := by simpa using k1
  clear k1
  have HA : Hid (SAt (w.alloc (.cells #[.int .i64 U, .int .u64 C, .int .i64 H, .int .i64 K] 24)) w.heap.size U C H K ∧ Below w.heap.size w (w.alloc (.cells #[.int .i64 U, .int .u64 C, .int .i64 H, .int .i64 K] 24))) := ⟨SAt.new _ _ _ _ _ _, below_alloc1 _ _⟩
  go_enter Try.func18, Try.ntmps18
  go_upto_region 1 with fail
  generalize w.alloc (.cells #[.int .i64 U, .int .u64 C, .int .i64 H, .int .i64 K] 24) = w0 at HA ⊢
  have c0 := HA.out.1.c0
  have c1 := HA.out.1.c1
  have c2 := HA.out.1.c2
  have c3 := HA.out.1.c3
  go_quiet (first | (go_at_call 41; exact Calls.quiet_of_same (HU.out _)) | (go_at_call 42; exact Calls.quiet_of_same (HH.out _)))
  have HB : Hid (Below w.heap.size w (w0.drewN nq)) := Below.ofSm HA.out.2 ⟨rfl, rfl, rfl, rfl⟩
  go_wp2
  go_ret
  exact ⟨rfl, HB.out⟩
set_option maxHeartbeats 1600000 in
theorem may_3 (U C H K : Int) (w : World) (hu : unitB U = true) (hh : headB H = true) (k1 : 4096 ≤ K) (k2 : ¬ K ≤ 134217728) : Calls Try.prog 18 #[.agg #[.int .i64 U, .int .u64 C, .int .i64 H, .int .i64 K]] w fun e w' => Hid (e = .returned (.bool false) ∧ Below w.heap.size w w') := by
  have HU : Hid (∀ v, Calls Try.prog 41 #[.int .i64 U] v fun e w' => e = .returned (.bool true) ∧ w' = v) := fun v => by have q := isUnit_ok U v; rw [hu] at q; exact q
  have HH : Hid (∀ v, Calls Try.prog 42 #[.int .i64 H] v fun e w' => e = .returned (.bool true) ∧ w' = v) := fun v => by have q := isHead_ok H v; rw [hh] at q; exact q
  have qk1 : decide (4096 ≤ K) = true := by simpa using k1
  have qk2 : decide (K ≤ 134217728) = false := by simpa using k2
  clear k1 k2
  have HA : Hid (SAt (w.alloc (.cells #[.int .i64 U, .int .u64 C, .int .i64 H, .int .i64 K] 24)) w.heap.size U C H K ∧ Below w.heap.size w (w.alloc (.cells #[.int .i64 U, .int .u64 C, .int .i64 H, .int .i64 K] 24))) := ⟨SAt.new _ _ _ _ _ _, below_alloc1 _ _⟩
  go_enter Try.func18, Try.ntmps18
  go_upto_region 1 with fail
  generalize w.alloc (.cells #[.int .i64 U, .int .u64 C, .int .i64 H, .int .i64 K] 24) = w0 at HA ⊢
  have c0 := HA.out.1.c0
  have c1 := HA.out.1.c1
  have c2 := HA.out.1.c2
  have c3 := HA.out.1.c3
  go_quiet (first | (go_at_call 41; exact Calls.quiet_of_same (HU.out _)) | (go_at_call 42; exact Calls.quiet_of_same (HH.out _)))
  have HB : Hid (Below w.heap.size w (w0.drewN nq)) := Below.ofSm HA.out.2 ⟨rfl, rfl, rfl, rfl⟩
  go_wp2
  go_ret
  exact ⟨rfl, HB.out⟩
set_option maxHeartbeats 1600000 in
theorem may_4 (U C H K : Int) (w : World) (hu : unitB U = true) (hh : headB H = true) (k1 : 4096 ≤ K) (k2 : K ≤ 134217728) (k3 : ¬ K % 4096 = 0) : Calls Try.prog 18 #[.agg #[.int .i64 U, .int .u64 C, .int .i64 H, .int .i64 K]] w fun e w' => Hid (e = .returned (.bool false) ∧ Below w.heap.size w w') := by
  have HU : Hid (∀ v, Calls Try.prog 41 #[.int .i64 U] v fun e w' => e = .returned (.bool true) ∧ w' = v) := fun v => by have q := isUnit_ok U v; rw [hu] at q; exact q
  have HH : Hid (∀ v, Calls Try.prog 42 #[.int .i64 H] v fun e w' => e = .returned (.bool true) ∧ w' = v) := fun v => by have q := isHead_ok H v; rw [hh] at q; exact q
  have qk1 : decide (4096 ≤ K) = true := by simpa using k1
  have qk2 : decide (K ≤ 134217728) = true := by simpa using k2
  have qk3 : (K.tmod 4096 == 0) = false := by rw [Int.tmod_eq_emod_of_nonneg (by omega)]; exact beq_eq_false_iff_ne.2 k3
  clear k1 k2 k3
  have HA : Hid (SAt (w.alloc (.cells #[.int .i64 U, .int .u64 C, .int .i64 H, .int .i64 K] 24)) w.heap.size U C H K ∧ Below w.heap.size w (w.alloc (.cells #[.int .i64 U, .int .u64 C, .int .i64 H, .int .i64 K] 24))) := ⟨SAt.new _ _ _ _ _ _, below_alloc1 _ _⟩
  go_enter Try.func18, Try.ntmps18
  go_upto_region 1 with fail
  generalize w.alloc (.cells #[.int .i64 U, .int .u64 C, .int .i64 H, .int .i64 K] 24) = w0 at HA ⊢
  have c0 := HA.out.1.c0
  have c1 := HA.out.1.c1
  have c2 := HA.out.1.c2
  have c3 := HA.out.1.c3
  go_quiet (first | (go_at_call 41; exact Calls.quiet_of_same (HU.out _)) | (go_at_call 42; exact Calls.quiet_of_same (HH.out _)))
  have HB : Hid (Below w.heap.size w (w0.drewN nq)) := Below.ofSm HA.out.2 ⟨rfl, rfl, rfl, rfl⟩
  go_wp2
  go_ret
  exact ⟨rfl, HB.out⟩
set_option maxHeartbeats 1600000 in
theorem may_5 (U C H K : Int) (w : World) (hu : unitB U = true) (hh : headB H = true) (k1 : 4096 ≤ K) (k2 : K ≤ 134217728) (k3 : K % 4096 = 0) (cc : ¬ C ≤ 4294967296) : Calls Try.prog 18 #[.agg #[.int .i64 U, .int .u64 C, .int .i64 H, .int .i64 K]] w fun e w' => Hid (e = .returned (.bool false) ∧ Below w.heap.size w w') := by
  have HU : Hid (∀ v, Calls Try.prog 41 #[.int .i64 U] v fun e w' => e = .returned (.bool true) ∧ w' = v) := fun v => by have q := isUnit_ok U v; rw [hu] at q; exact q
  have HH : Hid (∀ v, Calls Try.prog 42 #[.int .i64 H] v fun e w' => e = .returned (.bool true) ∧ w' = v) := fun v => by have q := isHead_ok H v; rw [hh] at q; exact q
  have qk1 : decide (4096 ≤ K) = true := by simpa using k1
  have qk2 : decide (K ≤ 134217728) = true := by simpa using k2
  have qk3 : (K.tmod 4096 == 0) = true := by rw [Int.tmod_eq_emod_of_nonneg (by omega)]; simpa using k3
  have qcc : decide (C ≤ 4294967296) = false := by simpa using cc
  clear k1 k2 k3 cc
  have HA : Hid (SAt (w.alloc (.cells #[.int .i64 U, .int .u64 C, .int .i64 H, .int .i64 K] 24)) w.heap.size U C H K ∧ Below w.heap.size w (w.alloc (.cells #[.int .i64 U, .int .u64 C, .int .i64 H, .int .i64 K] 24))) := ⟨SAt.new _ _ _ _ _ _, below_alloc1 _ _⟩
  go_enter Try.func18, Try.ntmps18
  go_upto_region 1 with fail
  generalize w.alloc (.cells #[.int .i64 U, .int .u64 C, .int .i64 H, .int .i64 K] 24) = w0 at HA ⊢
  have c0 := HA.out.1.c0
  have c1 := HA.out.1.c1
  have c2 := HA.out.1.c2
  have c3 := HA.out.1.c3
  go_quiet (first | (go_at_call 41; exact Calls.quiet_of_same (HU.out _)) | (go_at_call 42; exact Calls.quiet_of_same (HH.out _)))
  have HB : Hid (Below w.heap.size w (w0.drewN nq)) := Below.ofSm HA.out.2 ⟨rfl, rfl, rfl, rfl⟩
  go_wp2
  go_ret
  exact ⟨rfl, HB.out⟩
set_option maxHeartbeats 3200000 in
theorem may_6 (U C H K : Int) (w : World) (hu : unitB U = true) (hh : headB H = true) (k1 : 4096 ≤ K) (k2 : K ≤ 134217728) (k3 : K % 4096 = 0) (cc : C ≤ 4294967296) (c00 : 0 ≤ C) : Calls Try.prog 18 #[.agg #[.int .i64 U, .int .u64 C, .int .i64 H, .int .i64 K]] w fun e w' => Hid (e = .returned (.bool (decide (2 * H + K < C * U))) ∧ Below w.heap.size w w') := by
  have HU : Hid (∀ v, Calls Try.prog 41 #[.int .i64 U] v fun e w' => e = .returned (.bool true) ∧ w' = v) := fun v => by have q := isUnit_ok U v; rw [hu] at q; exact q
  have HH : Hid (∀ v, Calls Try.prog 42 #[.int .i64 H] v fun e w' => e = .returned (.bool true) ∧ w' = v) := fun v => by have q := isHead_ok H v; rw [hh] at q; exact q
  obtain ⟨h1, h2⟩ := headB_range hh
  have qk1 : decide (4096 ≤ K) = true := by simpa using k1
  have qk2 : decide (K ≤ 134217728) = true := by simpa using k2
  have qk3 : (K.tmod 4096 == 0) = true := by rw [Int.tmod_eq_emod_of_nonneg (by omega)]; simpa using k3
  have qcc : decide (C ≤ 4294967296) = true := by simpa using cc
  have HA : Hid (SAt (w.alloc (.cells #[.int .i64 U, .int .u64 C, .int .i64 H, .int .i64 K] 24)) w.heap.size U C H K ∧ Below w.heap.size w (w.alloc (.cells #[.int .i64 U, .int .u64 C, .int .i64 H, .int .i64 K] 24))) := ⟨SAt.new _ _ _ _ _ _, below_alloc1 _ _⟩
  have hwr : IntKind.i64.wrap (C * U) = C * U := by
    rw [IntKind.wrap_i64]
    rcases unitB_cases hu with rfl | rfl | rfl | rfl <;> omega
  have hwc : IntKind.i64.wrap C = C := by rw [IntKind.wrap_i64]; omega
  go_enter Try.func18, Try.ntmps18
  go_upto_region 1 with fail
  generalize w.alloc (.cells #[.int .i64 U, .int .u64 C, .int .i64 H, .int .i64 K] 24) = w0 at HA ⊢
  have HC : Hid (∀ u, Sm w0 u → Calls Try.prog 43 #[.agg #[.int .i64 U, .int .u64 C, .int .i64 H, .int .i64 K]] u fun e w' => Hid (e = .returned (.int .i64 (2 * H + K)) ∧ Below w0.heap.size w0 w')) := fun u hu => by
    refine (data_ok U C H K u (by omega) h2 (by omega) k2).mono ?_
    intro e w' hh
    have hbu : Below w0.heap.size w0 u := Below.ofSm (Below.refl _ _) hu
    exact ⟨hh.out.1, hbu.trans (hh.out.2.mono hbu.size)⟩
  have c0 := HA.out.1.all
  go_region_held3 (fun u => u.cell? ⟨w.heap.size, 0, none⟩ = some (.int .i64 U) ∧ u.cell? ⟨w.heap.size, 1, none⟩ = some (.int .u64 C) ∧ u.cell? ⟨w.heap.size, 2, none⟩ = some (.int .i64 H) ∧ u.cell? ⟨w.heap.size, 3, none⟩ = some (.int .i64 K)) (first | exact c0 | exact hS6 | go_keep) ((first
    | (go_at_call 41; refine (HU.out _).mono ?_; rintro e4 w4 ⟨rfl, hw4⟩; obtain rfl := hw4.symm)
    | (go_at_call 42; refine (HH.out _).mono ?_; rintro e5 w5 ⟨rfl, hw5⟩; obtain rfl := hw5.symm)
    | (go_at_call 43; refine (HC.out _ ?_).mono ?_; exact ⟨rfl, rfl, rfl, rfl⟩; intro e6 w6 hh; obtain ⟨rfl, hb6⟩ := hh.out; have hS6 := (HA.out.1.below hb6).all)))
  have HB6 : Hid (Below w.heap.size w w6) := HA.out.2.trans (hb6.mono HA.out.2.size)
  clear hb6 hS6 HC
  go_wp2
  go_ret
  exact ⟨rfl, HB6.out⟩
/-- ledger.shapeMay. -/
theorem may_ok (U C H K : Int) (c00 : 0 ≤ C) (w : World) : Calls Try.prog 18 #[.agg #[.int .i64 U, .int .u64 C, .int .i64 H, .int .i64 K]] w fun e w' => Hid (e = .returned (.bool (mayB U C H K)) ∧ Below w.heap.size w w') := by
  by_cases hu : unitB U = true
  · by_cases hh : headB H = true
    · by_cases k1 : 4096 ≤ K
      · by_cases k2 : K ≤ 134217728
        · by_cases k3 : K % 4096 = 0
          · by_cases cc : C ≤ 4294967296
            · have e : mayB U C H K = decide (2 * H + K < C * U) := by simp [mayB, hu, hh, k1, k2, k3, cc]
              rw [e]; exact may_6 U C H K w hu hh k1 k2 k3 cc c00
            · have e : mayB U C H K = false := by simp [mayB, cc]
              rw [e]; exact may_5 U C H K w hu hh k1 k2 k3 cc
          · have e : mayB U C H K = false := by simp [mayB, k3]
            rw [e]; exact may_4 U C H K w hu hh k1 k2 k3
        · have e : mayB U C H K = false := by simp [mayB, k2]
          rw [e]; exact may_3 U C H K w hu hh k1 k2
      · have e : mayB U C H K = false := by simp [mayB, k1]
        rw [e]; exact may_2 U C H K w hu hh k1
    · have e : mayB U C H K = false := by simp [mayB, hh]
      rw [e]; exact may_1 U C H K w hu (by simpa using hh)
  · have e : mayB U C H K = false := by simp [mayB, hu]
    rw [e]; exact may_0 U C H K w (by simpa using hu)
/-- What Sectors tells. -/
def secN (U C H K : Int) : Int := if mayB U C H K = true then C - (2 * H + K) / U else 0
def secE (U C H K : Int) : Int := if mayB U C H K = true then 0 else 90
theorem mayB_all {U C H K : Int} (h : mayB U C H K = true) : unitB U = true ∧ headB H = true ∧ 4096 ≤ K ∧ K ≤ 134217728 ∧ K % 4096 = 0 ∧ C ≤ 4294967296 ∧ 2 * H + K < C * U := by
  simp [mayB] at h
  obtain ⟨⟨⟨⟨⟨⟨a, b⟩, c⟩, d⟩, e⟩, f⟩, g⟩ := h
  exact ⟨a, b, c, d, e, f, g⟩
end Go.Proofs.Ytmfnhdflmnmooaa
namespace Go.Proofs.Ytmfnhdflmnmooaa
open Go.RowKit
set_option linter.unusedVariables false
set_option linter.unusedSimpArgs false
/-- The document's loop over the heads. -/
def hd (i : Nat) : Nat := 16384 * 2 ^ i
def seen (H : Int) : Nat → Bool
  | 0 => false
  | i + 1 => seen H i || H == (hd i : Nat)
theorem seen_9 (H : Int) : seen H 9 = headB H := by
  simp [seen, hd, headB]
theorem hd_succ (i : Nat) : hd (i + 1) = 2 * hd i := by unfold hd; rw [Nat.pow_succ]; omega
theorem hd_le (i : Nat) (h : i ≤ 8) : hd i ≤ 4194304 := by
  match i, h with
  | 0, _ => decide
  | 1, _ => decide
  | 2, _ => decide
  | 3, _ => decide
  | 4, _ => decide
  | 5, _ => decide
  | 6, _ => decide
  | 7, _ => decide
  | 8, _ => decide
theorem hd_gt (i : Nat) (h : hd i ≤ 4194304) (hi : i ≤ 9) : i ≤ 8 := by
  rcases Nat.lt_or_ge i 9 with q | q
  · omega
  · obtain rfl : i = 9 := by omega
    exact absurd h (by decide)
end Go.Proofs.Ytmfnhdflmnmooaa
namespace Go.Proofs.Ytmfnhdflmnmooaa
open Go.RowKit
set_option linter.unusedVariables false
set_option linter.unusedSimpArgs false
theorem info51 : (Try.prog.info? 65).map (fun i => (i.zero, i.size, i.bytes)) = some (some (.agg #[.int .u64 0, .int .u64 0, .int .u64 0]), 3, 24) := by kernel_rfl
/-- A segment: Start, Count, Epoch. -/
abbrev Sg := Nat × Nat × Nat
abbrev sgL (x : Sg) : List Value := [.int .u64 (x.1 : Nat), .int .u64 (x.2.1 : Nat), .int .u64 (x.2.2 : Nat)]
def sgs (xs : List Sg) : List Value := xs.flatMap sgL
theorem sgs_append (a b : List Sg) : sgs (a ++ b) = sgs a ++ sgs b := by simp [sgs]
theorem sgs_len (xs : List Sg) : (sgs xs).length = xs.length * 3 := by
  induction xs with
  | nil => rfl
  | cons x xs ih => simp [sgs] at ih ⊢; omega
/-- Segments in a row: those of no sector are left out. -/
def inRowF : List (Nat × Nat) → Nat → List Sg
  | [], _ => []
  | (c, e) :: r, s => (if 0 < c then [(s, c, e)] else []) ++ inRowF r (s + c)
def total (l : List (Nat × Nat)) : Nat := (l.map Prod.fst).sum
theorem inRowF_append (a b : List (Nat × Nat)) (s : Nat) : inRowF (a ++ b) s = inRowF a s ++ inRowF b (s + total a) := by
  induction a generalizing s with
  | nil => simp [inRowF, total]
  | cons x a ih =>
    obtain ⟨c, e⟩ := x
    simp only [List.cons_append, inRowF, ih, List.append_assoc, total, List.map_cons, List.sum_cons]
    congr 3
    omega
theorem inRowF_len (a : List (Nat × Nat)) (s : Nat) : (inRowF a s).length ≤ a.length := by
  induction a generalizing s with
  | nil => simp [inRowF]
  | cons x a ih =>
    obtain ⟨c, e⟩ := x
    have := ih (s + c)
    simp only [inRowF, List.length_append, List.length_cons]
    split <;> simp <;> omega
/-- Parts that lie in a block: their Start is 0. -/
def PAt (w : World) (g : Nat) (L : List (Nat × Nat)) : Prop := ∀ i (h : i < L.length), w.cell? ⟨g, i * 3, none⟩ = some (.int .u64 0) ∧ w.cell? ⟨g, i * 3 + 1, none⟩ = some (.int .u64 ((L[i]).1 : Nat)) ∧ w.cell? ⟨g, i * 3 + 2, none⟩ = some (.int .u64 ((L[i]).2 : Nat))
theorem PAt.below {w w' : World} {g : Nat} {L : List (Nat × Nat)} (h : PAt w g L) (hg : g < w.heap.size) (hb : Below w.heap.size w w') : PAt w' g L := fun i hi => by
  obtain ⟨a, b, c⟩ := h i hi
  exact ⟨(hb.cell (p := ⟨g, i * 3, none⟩) hg).trans a, (hb.cell (p := ⟨g, i * 3 + 1, none⟩) hg).trans b, (hb.cell (p := ⟨g, i * 3 + 2, none⟩) hg).trans c⟩
theorem three_new (w : World) (a b c : Value) (t : TypeId) : ∀ j u, [a, b, c][j]? = some u → (w.alloc (.cells #[a, b, c] t)).cell? ((⟨w.heap.size, 0, none⟩ : Addr).add j) = some u := by
  intro j u hj
  have hh := World.alloc_heap_new w (.cells #[a, b, c] t)
  match j, hj with
  | 0, hj => simp at hj; subst hj; rw [Addr.add_lit]; simp only [World.cell?]; rw [hh]; rfl
  | 1, hj => simp at hj; subst hj; rw [Addr.add_lit]; simp only [World.cell?]; rw [hh]; rfl
  | 2, hj => simp at hj; subst hj; rw [Addr.add_lit]; simp only [World.cell?]; rw [hh]; rfl
end Go.Proofs.Ytmfnhdflmnmooaa
namespace Go.Proofs.Ytmfnhdflmnmooaa
open Go.RowKit
set_option linter.unusedVariables false
set_option linter.unusedSimpArgs false
/-- Metadata as a value; lists as slices. -/
structure Mt where
  lab : ByteArray
  sub : ByteArray
  uid : ByteArray
  hst : ByteArray
  U : Int
  C : Int
  H : Int
  K : Int
  tur : Int
  slt : ByteArray
  dig : ByteArray
  sp : Option Addr
  sn : Nat
  sc : Nat
  ep : Option Addr
  en : Nat
  ec : Nat
  gp : Option Addr
  gn : Nat
  gc : Nat
  on : Bool
  fr : Nat
  to : Nat
  back : Bool
  mode : Int
  hot : Int
  done : Nat
  ao : Int
  az : Int
  act : Bool
  cnt : Int
  sum : ByteArray
  tp : Option Addr
  tn : Nat
  tc : Nat
abbrev mtC (m : Mt) : Array Value := #[.string m.lab, .string m.sub, .string m.uid, .string m.hst, .int .i64 m.U, .int .u64 m.C, .int .i64 m.H, .int .i64 m.K, .int .i64 m.tur, .string m.slt, .string m.dig, .slice m.sp m.sn m.sc, .slice m.ep m.en m.ec, .slice m.gp m.gn m.gc,
  .bool m.on, .int .u64 (m.fr : Nat), .int .u64 (m.to : Nat), .bool m.back, .int .i64 m.mode, .int .u64 m.hot, .int .u64 (m.done : Nat), .int .i64 m.ao, .int .i64 m.az, .bool m.act, .int .u64 m.cnt, .string m.sum, .slice m.tp m.tn m.tc]
/-- The last epoch's number. -/
def Last (w : World) (m : Mt) (E : Nat) : Prop := 0 < m.en → ∃ b off, m.ep = some ⟨b, off, none⟩ ∧ b < w.heap.size ∧ w.cell? ⟨b, off + (m.en - 1) * 5, none⟩ = some (.int .u64 (E : Nat))
def secM (m : Mt) : Nat := (secN m.U m.C m.H m.K).toNat
/-- What a rotation makes of the data. -/
def segF (m : Mt) (E : Nat) : List Sg :=
  if mayB m.U m.C m.H m.K = true ∧ 0 < m.en then (if m.on = true then (if m.done ≤ secM m then (if m.back = true then inRowF [(secM m - m.done, m.fr), (m.done, m.to)] 0 else inRowF [(m.done, m.to), (secM m - m.done, m.fr)] 0) else []) else inRowF [(secM m, E)] 0) else []
theorem sec_range {U C H K : Int} (hm : mayB U C H K = true) (h0 : 0 ≤ C) : 0 ≤ secN U C H K ∧ secN U C H K ≤ 4294967296 := by
  obtain ⟨hu, hh, k1, k2, _, hc, hlt⟩ := mayB_all hm
  have hr := headB_range hh
  unfold secN
  rw [if_pos hm]
  rcases unitB_cases hu with rfl | rfl | rfl | rfl <;> omega
def Bx (W : World) (b : Nat) (m : Mt) : Prop := W.heap[b]? = some (.cells (mtC m) 36 (0, 0))
theorem Bx.c {W : World} {b : Nat} {m : Mt} (h : Bx W b m) (k : Nat) (v : Value) (hk : (mtC m)[k]? = some v) : W.cell? ⟨b, k, none⟩ = some v := by
  simp only [World.cell?]
  rw [show W.heap[b]? = _ from h]
  exact hk
theorem Bx.below {W W' : World} {b : Nat} {m : Mt} (h : Bx W b m) (hb : Below W.heap.size W W') : Bx W' b m := (hb.block b (Array.getElem?_eq_some_iff.1 h).1).trans h
theorem six_at (W : World) (g : Nat) (hg : W.heap.size = g) (cs : Array Value) (k : Nat) (v : Value) (hk : cs[k]? = some v) : (W.alloc (.cells cs 51)).cell? ⟨g, k, none⟩ = some v := by
  subst hg
  simp only [World.cell?]
  rw [World.alloc_heap_new W (.cells cs 51)]
  exact hk
theorem ownsRow_below {W : World} {B B' e size L : Nat} {v : Value} {xs : List Value} (h : W.ownsRow B e size v L xs) (hB : B' ≤ B) : W.ownsRow B' e size v L xs := by
  obtain ⟨hl, h1 | ⟨g, cap, cur, hv, hb, r⟩⟩ := h
  · exact ⟨hl, .inl h1⟩
  · exact ⟨hl, .inr ⟨g, cap, cur, hv, Nat.le_trans hB hb, r⟩⟩
end Go.Proofs.Ytmfnhdflmnmooaa
namespace Go.Proofs.Ytmfnhdflmnmooaa
open Go.RowKit
set_option linter.unusedVariables false
set_option linter.unusedSimpArgs false
theorem grown_drewN (w : World) (n : Nat) : w.grownBy (w.drewN n) none := ⟨rfl, rfl, rfl, Nat.le_refl _, fun _ _ _ => rfl⟩
set_option maxRecDepth 100000 in
set_option maxHeartbeats 3200000 in
theorem eq51 (x0 x1 x2 : Int) (w : World) : (Op.equalIn 10000 65 (.agg #[.int .u64 x0, .int .u64 x1, .int .u64 x2]) (.agg #[.int .u64 x0, .int .u64 x1, .int .u64 x2])).run Try.prog w = .ok true w := by
  have u5 := Try.underlying22
  have e : ∀ x : Int, (Op.equalIn 9999 22 (.int .u64 x) (.int .u64 x)).run Try.prog w = .ok true w := fun x => by
    rw [show (9999 : Nat) = 9998 + 1 from rfl, run_equalIn_int w 9998 22 .u64 .u64 x x u5]
    simp
  rw [show (10000 : Nat) = 9999 + 1 from rfl, Op.equalIn]
  simp only [Sem.run_bind, run_underlying Try.underlying65, Result.andThen_ok]
  go_simp
/-- A list of segments (as numbers) lies in a block from an offset on. -/
def LAt (w : World) (g o : Nat) (n : Nat) (f : Nat → Int × Int × Int) : Prop := ∀ i, i < n → w.cell? ⟨g, o + i * 3, none⟩ = some (.int .u64 (f i).1) ∧ w.cell? ⟨g, o + i * 3 + 1, none⟩ = some (.int .u64 (f i).2.1) ∧ w.cell? ⟨g, o + i * 3 + 2, none⟩ = some (.int .u64 (f i).2.2)
theorem LAt.drew {w : World} {g o n : Nat} {f : Nat → Int × Int × Int} (h : LAt w g o n f) (m : Nat) : LAt (w.drewN m) g o n f := fun i hi => by
  obtain ⟨a, b, c⟩ := h i hi
  exact ⟨by simpa using a, by simpa using b, by simpa using c⟩
theorem LAt.still {w w' : World} {g o n : Nat} {f : Nat → Int × Int × Int} (h : LAt w g o n f) (hg : w.grownBy w' none) : LAt w' g o n f := fun i hi => by
  obtain ⟨a, b, c⟩ := h i hi
  exact ⟨hg.cell a (by simp), hg.cell b (by simp), hg.cell c (by simp)⟩
set_option maxRecDepth 100000 in
set_option maxHeartbeats 3200000 in
theorem same_some (g1 o1 g2 o2 c1 c2 n : Nat) (f : Nat → Int × Int × Int) (hn : n ≤ 1000000000000000) (w : World) (h1 : LAt w g1 o1 n f) (h2 : LAt w g2 o2 n f) :
    Calls Try.prog 31 #[.slice (some ⟨g1, o1, none⟩) n c1, .slice (some ⟨g2, o2, none⟩) n c2] w fun e w' => e = .returned (.bool true) ∧ w.grownBy w' none := by
  go_enter Try.func31, Try.ntmps31
  go_wp2
  go_loopw [5] (fun i wr => ∃ k : Nat, k ≤ n ∧ i = .int .i64 k ∧ ∃ m, wr = w.drewN m) (fun i _ => n - (intOf i).toNat)
  case atStart => exact ⟨0, Nat.zero_le _, rfl, 0, rfl⟩
  case round =>
    obtain ⟨k, hk, rfl, m, rfl⟩ := hrel
    by_cases hlt : k < n
    · obtain ⟨a1, a2, a3⟩ := h1.drew m k hlt
      obtain ⟨b1, b2, b3⟩ := h2.drew m k hlt
      have HQ : ∀ u, (Op.equalIn 10000 65 (.agg #[.int .u64 (f k).1, .int .u64 (f k).2.1, .int .u64 (f k).2.2]) (.agg #[.int .u64 (f k).1, .int .u64 (f k).2.1, .int .u64 (f k).2.2])).run Try.prog u = .ok true u := fun u => eq51 _ _ _ u
      generalize f k = z at *
      generalize hw : w.drewN m = wr at *
      clear h1 h2
      go_wp2
      go_quiet (fail)
      go_wp2
      go_roundw
      case rel => exact ⟨k + 1, by omega, by go_num, m + nq, by rw [← hw, World.drewN_drewN]⟩
      case measure => simp [intOf]; omega
    · go_wp2
      go_ret
      exact ⟨rfl, grown_drewN w m⟩
set_option maxRecDepth 100000 in
theorem same_none (p1 p2 : Option Addr) (c1 c2 : Nat) (w : World) : Calls Try.prog 31 #[.slice p1 0 c1, .slice p2 0 c2] w fun e w' => e = .returned (.bool true) ∧ w.grownBy w' none := by
  go_enter Try.func31, Try.ntmps31
  go_wp2
  go_loopw [5] (fun i wr => i = .int .i64 (0 : Nat) ∧ wr = w) (fun i _ => 0)
  case atStart => exact ⟨rfl, rfl⟩
  case round =>
    obtain ⟨rfl, hw⟩ := hrel
    obtain rfl := hw.symm
    go_wp2
    go_ret
    exact ⟨rfl, World.grownBy.refl _ _⟩
/-- A slice of segments. -/
def SegV (w : World) (v : Value) (n : Nat) (f : Nat → Int × Int × Int) : Prop := ∃ p c, v = .slice p n c ∧ (0 < n → ∃ g o, p = some ⟨g, o, none⟩ ∧ LAt w g o n f)
theorem SegV.still {w w' : World} {v : Value} {n : Nat} {f : Nat → Int × Int × Int} (h : SegV w v n f) (hg : w.grownBy w' none) : SegV w' v n f := by
  obtain ⟨p, c, hv, h⟩ := h
  exact ⟨p, c, hv, fun hn => by obtain ⟨g, o, hp, hl⟩ := h hn; exact ⟨g, o, hp, hl.still hg⟩⟩
theorem same_any {v1 v2 : Value} {n : Nat} {f : Nat → Int × Int × Int} (hn : n ≤ 1000000000000000) (w : World) (h1 : SegV w v1 n f) (h2 : SegV w v2 n f) : Calls Try.prog 31 #[v1, v2] w fun e w' => e = .returned (.bool true) ∧ w.grownBy w' none := by
  obtain ⟨p1, c1, rfl, k1⟩ := h1
  obtain ⟨p2, c2, rfl, k2⟩ := h2
  by_cases h : 0 < n
  · obtain ⟨g1, o1, rfl, l1⟩ := k1 h
    obtain ⟨g2, o2, rfl, l2⟩ := k2 h
    exact same_some g1 o1 g2 o2 c1 c2 n f hn w l1 l2
  · obtain rfl : n = 0 := by omega
    exact same_none p1 p2 c1 c2 w
/-- A row that the call owns is such a slice. -/
theorem segV_own {w : World} {B n : Nat} {v : Value} {L : List Sg} (h : w.ownsRow B 65 3 v n (sgs L)) (hl : L.length = n) : SegV w v n (fun i => (((L.getD i (0, 0, 0)).1 : Nat), ((L.getD i (0, 0, 0)).2.1 : Nat), ((L.getD i (0, 0, 0)).2.2 : Nat))) := by
  rcases h.2 with ⟨rfl, rfl⟩ | ⟨g', cap, cur, rfl, bb, hh, hn, hc, hs, ht⟩
  · exact ⟨_, _, rfl, fun h => by omega⟩
  · refine ⟨_, _, rfl, fun _ => ⟨g', 0, rfl, fun i hi => ?_⟩⟩
    have key : ∀ (j : Nat) (v : Value), (sgs L)[j]? = some v → w.cell? ⟨g', j, none⟩ = some v := fun j v hj => by
      rw [← ht, List.getElem?_take] at hj
      split at hj
      · simp only [World.cell?, hh]
        simpa using hj
      · cases hj
    have at_ : ∀ (L : List Sg) (i : Nat), i < L.length → (sgs L)[i * 3]? = some (.int .u64 ((L.getD i (0, 0, 0)).1 : Nat)) ∧ (sgs L)[i * 3 + 1]? = some (.int .u64 ((L.getD i (0, 0, 0)).2.1 : Nat)) ∧ (sgs L)[i * 3 + 2]? = some (.int .u64 ((L.getD i (0, 0, 0)).2.2 : Nat)) := by
      intro L
      induction L with
      | nil => intro i h; simp at h
      | cons x L ih =>
        intro i h
        have e0 : sgs (x :: L) = .int .u64 (x.1 : Nat) :: .int .u64 (x.2.1 : Nat) :: .int .u64 (x.2.2 : Nat) :: sgs L := by simp [sgs]
        rw [e0]
        cases i with
        | zero => simp
        | succ j =>
          have := ih j (by simpa using h)
          have e1 : (j + 1) * 3 = j * 3 + 1 + 1 + 1 := by omega
          rw [e1]
          simpa using this
    obtain ⟨a1, a2, a3⟩ := at_ L i (by omega)
    simp only [Nat.zero_add]
    exact ⟨key _ _ a1, key _ _ a2, key _ _ a3⟩
end Go.Proofs.Ytmfnhdflmnmooaa
namespace Go.Proofs.Ytmfnhdflmnmooaa
open Go.RowKit

/-- A list of ints behind a slice value. -/
def View (w : World) (v : Value) (zs : List Int) : Prop :=
  ∃ a cap, v = .slice a zs.length cap ∧ zs.length ≤ cap ∧ cap ≤ maxLen ∧ (a = none → cap = 0) ∧
    (zs = [] ∨ ∃ b off, a = some ⟨b, off, none⟩ ∧ ∀ i, i < zs.length → w.cell? ⟨b, off + i, none⟩ = some (.int .i64 (zs.getD i 0)))

theorem ret_bool {a b : Bool} (h : a = b) : Ending.returned (.bool a) = .returned (.bool b) := by rw [h]
theorem ext_getD {xs ys : List Int} {n : Nat} (hx : xs.length = n) (hy : ys.length = n) (h : ∀ j, j < n → xs.getD j 0 = ys.getD j 0) : xs = ys := by
  apply List.ext_getElem (by omega)
  intro i h1 h2
  have := h i (by omega)
  simpa [List.getD, List.getElem?_eq_getElem h1, List.getElem?_eq_getElem h2] using this

set_option maxHeartbeats 400000 in
theorem sameI_core (b1 o1 b2 o2 c1 c2 n : Nat) (xs ys : List Int) (w : World) (hx : xs.length = n) (hy : ys.length = n) (hn : n ≤ 9223372036854775807)
    (h1 : ∀ i, i < n → w.cell? ⟨b1, o1 + i, none⟩ = some (.int .i64 (xs.getD i 0)))
    (h2 : ∀ i, i < n → w.cell? ⟨b2, o2 + i, none⟩ = some (.int .i64 (ys.getD i 0))) :
    Calls Try.prog 57 #[.slice (some ⟨b1, o1, none⟩) n c1, .slice (some ⟨b2, o2, none⟩) n c2] w fun e w' => e = .returned (.bool (decide (xs = ys))) ∧ ∃ m, w' = w.drewN m := by
  have HX : Hid (xs.length = n) := hx
  have HY : Hid (ys.length = n) := hy
  clear hx hy
  go_enter Try.func57, Try.ntmps57
  go_wp2
  go_loopw [5] (fun i wr => ∃ k : Nat, k ≤ n ∧ i = .int .i64 k ∧ Hid (∀ j, j < k → xs.getD j 0 = ys.getD j 0) ∧ ∃ m, wr = w.drewN m) (fun i _ => n - (intOf i).toNat)
  case atStart => exact ⟨0, Nat.zero_le _, rfl, (fun j hj => by omega), 0, rfl⟩
  case round =>
    obtain ⟨k, hk, rfl, HE, m, rfl⟩ := hrel
    by_cases hlt : k < n
    · have g1 := h1 k hlt
      have g2 := h2 k hlt
      clear h1 h2
      go_wp2
      go_quiet (fail)
      go_wp2
      · have hne : (xs[k]?.getD 0 != ys[k]?.getD 0) = true := by assumption
        go_ret
        refine ⟨ret_bool ?_, _, World.drewN_drewN _ _ _⟩
        have : xs ≠ ys := by
          intro h
          subst h
          simp at hne
        simp [this]
      · have heq : (xs[k]?.getD 0 != ys[k]?.getD 0) = false := by assumption
        go_roundw
        case rel =>
          refine ⟨k + 1, by omega, by go_num, ?_, _, rfl⟩
          intro j hj
          by_cases hjk : j < k
          · exact HE.out j hjk
          · obtain rfl : j = k := by omega
            simpa using heq
        case measure => simp [intOf]; omega
    · go_wp2
      go_ret
      have := ext_getD HX.out HY.out (fun j hj => HE.out j (by omega))
      exact ⟨ret_bool (by simp [this]), _, rfl⟩

theorem sameI_zero (a1 a2 : Option Addr) (c1 c2 : Nat) (w : World) :
    Calls Try.prog 57 #[.slice a1 0 c1, .slice a2 0 c2] w fun e w' => e = .returned (.bool true) ∧ ∃ m, w' = w.drewN m := by
  go_enter Try.func57, Try.ntmps57
  go_wp2
  go_loop [5] (fun i => i = .int .i64 0) (fun _ => 0)
  case atStart => rfl
  case round =>
    subst hrel
    go_wp2
    go_ret
    exact ⟨rfl, 0, rfl⟩

theorem sameI_unlike (a1 a2 : Option Addr) (l1 l2 c1 c2 : Nat) (w : World) (h : l1 ≠ l2) :
    Calls Try.prog 57 #[.slice a1 l1 c1, .slice a2 l2 c2] w fun e w' => e = .returned (.bool false) ∧ ∃ m, w' = w.drewN m := by
  have hb : ((l1 : Int) != (l2 : Int)) = true := by rw [bne_iff_ne]; omega
  clear h
  go_enter Try.func57, Try.ntmps57
  go_wp2
  go_ret
  exact ⟨rfl, 0, rfl⟩

/-- cofferbook.SameInts. -/
theorem sameI_any (v1 v2 : Value) (xs ys : List Int) (w : World) (h1 : View w v1 xs) (h2 : View w v2 ys) :
    Calls Try.prog 57 #[v1, v2] w fun e w' => e = .returned (.bool (decide (xs = ys))) ∧ ∃ m, w' = w.drewN m := by
  obtain ⟨a1, c1, rfl, hl1, hm1, _, k1⟩ := h1
  obtain ⟨a2, c2, rfl, hl2, hm2, _, k2⟩ := h2
  by_cases hl : xs.length = ys.length
  · rcases k1 with rfl | ⟨b1, o1, rfl, g1⟩
    · have : ys = [] := List.eq_nil_of_length_eq_zero (by simpa using hl.symm)
      subst this
      simpa using sameI_zero a1 a2 c1 c2 w
    · rcases k2 with rfl | ⟨b2, o2, rfl, g2⟩
      · have : xs = [] := List.eq_nil_of_length_eq_zero (by simpa using hl)
        subst this
        simpa using sameI_zero _ a2 c1 c2 w
      · rw [← hl]
        exact sameI_core b1 o1 b2 o2 c1 c2 xs.length xs ys w rfl hl.symm (by unfold maxLen at hm1; omega) g1 (by rw [hl]; exact g2)
  · have hne : xs ≠ ys := fun h => hl (by rw [h])
    have hd : decide (xs = ys) = false := by simpa using hne
    rw [hd]
    exact sameI_unlike a1 a2 _ _ c1 c2 w hl
end Go.Proofs.Ytmfnhdflmnmooaa
namespace Go.Proofs.Ytmfnhdflmnmooaa
open Go.RowKit

theorem info3 : (Try.prog.info? 3).map (fun i => (i.zero, i.size, i.bytes)) = some (some (.int .i64 0), 1, 8) := by kernel_rfl

/-- The marks behind a copy. -/
def marks (k : Nat) : List Int := (List.range k).map fun (i : Nat) => (1000181 + (i : Int))
theorem marks_length (k : Nat) : (marks k).length = k := by simp [marks]
theorem marks_succ (k : Nat) : marks (k + 1) = marks k ++ [(1000181 + (k : Int))] := by simp [marks, List.range_succ]
/-- Bytes as cells. -/
def cellsI (zs : List Int) : List Value := zs.map (Value.int .i64)
theorem cellsI_append (a b : List Int) : cellsI (a ++ b) = cellsI a ++ cellsI b := by simp [cellsI]
theorem cellsI_length (a : List Int) : (cellsI a).length = a.length := by simp [cellsI]
theorem cellsI_one (a : List Int) : ∀ u ∈ cellsI a, u.oneCell' = true := by
  intro u hu
  obtain ⟨_, _, rfl⟩ := List.mem_map.1 hu
  rfl
theorem cellsI_at (a : List Int) (w : World) (b off : Nat) (h : ∀ i, i < a.length → w.cell? ⟨b, off + i, none⟩ = some (.int .i64 (a.getD i 0))) :
    ∀ j u, (cellsI a)[j]? = some u → w.cell? ((⟨b, off, none⟩ : Addr).add j) = some u := by
  intro j u hu
  simp only [cellsI, List.getElem?_map, Option.map_eq_some_iff] at hu
  obtain ⟨z, hz, rfl⟩ := hu
  have hj : j < a.length := (List.getElem?_eq_some_iff.1 hz).1
  have := h j hj
  rw [List.getD_eq_getElem?_getD, hz] at this
  rw [Addr.add_lit]
  simpa using this

set_option maxHeartbeats 800000 in
set_option maxRecDepth 100000 in
theorem copyI_some (x : Addr) (n cap : Nat) (zs : List Int) (w : World) (hz : Hid (zs.length = n)) (hn : (n + 70) * 8 ≤ 140737488355328)
    (h1 : Hid (∀ j u, (cellsI zs)[j]? = some u → w.cell? (x.add j) = some u)) :
    Calls Try.prog 17 #[.slice (some x) n cap] w fun e w' => ∃ g c, e = .returned (.slice (some ⟨g, 0, none⟩) n c) ∧ w'.ownsRow w.heap.size 3 1 (.slice (some ⟨g, 0, none⟩) (n + 70) c) (n + 70) (cellsI (zs ++ marks 70)) ∧ Below w.heap.size w w' := by
  obtain ⟨i0, hi, hz0, hz1, hz2⟩ := info_parts info3
  go_enter Try.func17, Try.ntmps17
  go_wp2_with (first
    | (at_builtin; go_must (refine wpList_append_own _ rfl (.tmp 6) (.tmp 7) 59 rfl w.heap.size 3 i0 (.int .i64 0) 1 8 Try.underlying59 hi hz0 hz1 hz2 rfl (by decide) _ 0 [] rfl (World.ownsRow_nil _ _ _ _) x n cap (cellsI zs) rfl ?_ h1.out (cellsI_one zs) ?_ ?_ (Nat.le_refl _) ?_)))
  · rw [cellsI_length, hz.out, Nat.mul_one]
  · unfold maxLen; omega
  · omega
  intro v1 w1 hown hgrow hnil
  have hb0 : Below w.heap.size w w1 := (Below.refl _ _).grown hgrow (Nat.le_refl _) (by intro k hk; cases hk)
  have HB : Hid (Below w.heap.size w w1) := hb0
  clear hgrow hb0 hnil
  go_wp2
  go_loopw [3, 4] (fun v i wr => ∃ k : Nat, k ≤ 70 ∧ i = .int .i64 k ∧ wr.ownsRow w.heap.size 3 1 v (n + k) (cellsI (zs ++ marks k)) ∧ Hid (Below w.heap.size w wr)) (fun _ i _ => 70 - (intOf i).toNat)
  case atStart => exact ⟨0, by omega, rfl, by simpa [marks] using hown, HB⟩
  case round =>
    obtain ⟨k, hk, rfl, hown2, HB2⟩ := hrel
    clear hown HB
    by_cases hlt : k < 70
    · go_wp2_with (first
        | (at_builtin; go_must (refine wpList_append_own _ rfl (.tmp 13) (.tmp 16) 59 rfl w.heap.size 3 i0 (.int .i64 0) 1 8 Try.underlying59 hi hz0 hz1 hz2 rfl (by decide) _ _ _ rfl (hown2.alloc _) ⟨wr.heap.size, 0, none⟩ 1 1 [.int .i64 (1000181 + (k : Int))] rfl rfl ?_ ?_ ?_ ?_ ?_ ?_)))
      · intro j u hj
        match j, hj with
        | 0, hj => simp at hj; subst hj; simp [Addr.add]
      · intro u hu; simp at hu; subst hu; rfl
      · unfold maxLen; omega
      · omega
      · have := HB2.out.size; simp; omega
      intro v2 w2 hown3 hgrow2 hnil2
      have HB3 : Hid (Below w.heap.size w w2) := (HB2.out.alloc HB2.out.size _).grown hgrow2 (by have := HB2.out.size; simp; omega) (fun q hq => (hown2.lt q hq).1)
      have ho3 : w2.ownsRow w.heap.size 3 1 v2 (n + (k + 1)) (cellsI (zs ++ marks (k + 1))) := by
        rw [marks_succ, ← List.append_assoc, cellsI_append]
        simpa [cellsI, Nat.add_assoc] using hown3
      have HO3 : Hid (w2.ownsRow w.heap.size 3 1 v2 (n + (k + 1)) (cellsI (zs ++ marks (k + 1)))) := ho3
      clear ho3 hown3 hgrow2 hnil2 hown2 HB2
      go_wp2
      go_roundw
      case rel => exact ⟨k + 1, by omega, by go_num, HO3, HB3⟩
      case measure => simp [intOf]; omega
    · obtain rfl : k = 70 := by omega
      obtain ⟨hlen, hcase⟩ := hown2
      rcases hcase with ⟨_, hc⟩ | ⟨g, c, cur, rfl, hg1, hg2, hg3, hg4, hg5, hg6⟩
      · omega
      have HO : Hid (wr.ownsRow w.heap.size 3 1 (.slice (some ⟨g, 0, none⟩) (n + 70) c) (n + 70) (cellsI (zs ++ marks 70))) := ⟨hlen, .inr ⟨g, c, cur, rfl, hg1, hg2, hg3, hg4, hg5, hg6⟩⟩
      clear hlen hg1 hg2 hg5 hg6 hlt
      unfold maxLen at hg4
      go_wp2
      go_ret
      exact ⟨g, c, rfl, HO, HB2⟩
set_option maxHeartbeats 800000 in
set_option maxRecDepth 100000 in
theorem copyI_nil (w : World) :
    Calls Try.prog 17 #[.slice none 0 0] w fun e w' => ∃ g c, e = .returned (.slice (some ⟨g, 0, none⟩) 0 c) ∧ w'.ownsRow w.heap.size 3 1 (.slice (some ⟨g, 0, none⟩) 70 c) 70 (cellsI (marks 70)) ∧ Below w.heap.size w w' := by
  obtain ⟨i0, hi, hz0, hz1, hz2⟩ := info_parts info3
  go_enter Try.func17, Try.ntmps17
  go_wp2_with (first
    | (at_builtin; go_must (refine wpList_append_own_none rfl (.tmp 6) (.tmp 7) 59 rfl w.heap.size 3 i0 1 Try.underlying59 hi _ 0 [] rfl (World.ownsRow_nil _ _ _ _) rfl ?_)))
  go_wp2
  go_loopw [3, 4] (fun v i wr => ∃ k : Nat, k ≤ 70 ∧ i = .int .i64 k ∧ wr.ownsRow w.heap.size 3 1 v k (cellsI (marks k)) ∧ Hid (Below w.heap.size w wr)) (fun _ i _ => 70 - (intOf i).toNat)
  case atStart => exact ⟨0, by omega, rfl, World.ownsRow_nil _ _ _ _, Below.refl _ _⟩
  case round =>
    obtain ⟨k, hk, rfl, hown2, HB2⟩ := hrel
    by_cases hlt : k < 70
    · go_wp2_with (first
        | (at_builtin; go_must (refine wpList_append_own _ rfl (.tmp 13) (.tmp 16) 59 rfl w.heap.size 3 i0 (.int .i64 0) 1 8 Try.underlying59 hi hz0 hz1 hz2 rfl (by decide) _ _ _ rfl (hown2.alloc _) ⟨wr.heap.size, 0, none⟩ 1 1 [.int .i64 (1000181 + (k : Int))] rfl rfl ?_ ?_ ?_ ?_ ?_ ?_)))
      · intro j u hj
        match j, hj with
        | 0, hj => simp at hj; subst hj; simp [Addr.add]
      · intro u hu; simp at hu; subst hu; rfl
      · unfold maxLen; omega
      · omega
      · have := HB2.out.size; simp; omega
      intro v2 w2 hown3 hgrow2 hnil2
      have HB3 : Hid (Below w.heap.size w w2) := (HB2.out.alloc HB2.out.size _).grown hgrow2 (by have := HB2.out.size; simp; omega) (fun q hq => (hown2.lt q hq).1)
      have ho3 : w2.ownsRow w.heap.size 3 1 v2 (k + 1) (cellsI (marks (k + 1))) := by
        rw [marks_succ, cellsI_append]
        simpa [cellsI] using hown3
      have HO3 : Hid (w2.ownsRow w.heap.size 3 1 v2 (k + 1) (cellsI (marks (k + 1)))) := ho3
      clear ho3 hown3 hgrow2 hnil2 hown2 HB2
      go_wp2
      go_roundw
      case rel => exact ⟨k + 1, by omega, by go_num, HO3, HB3⟩
      case measure => simp [intOf]; omega
    · obtain rfl : k = 70 := by omega
      obtain ⟨hlen, hcase⟩ := hown2
      rcases hcase with ⟨_, hc⟩ | ⟨g, c, cur, rfl, hg1, hg2, hg3, hg4, hg5, hg6⟩
      · omega
      have HO : Hid (wr.ownsRow w.heap.size 3 1 (.slice (some ⟨g, 0, none⟩) 70 c) 70 (cellsI (marks 70))) := ⟨hlen, .inr ⟨g, c, cur, rfl, hg1, hg2, hg3, hg4, hg5, hg6⟩⟩
      clear hlen hg1 hg2 hg5 hg6 hlt
      unfold maxLen at hg4
      go_wp2
      go_ret
      exact ⟨g, c, rfl, HO, HB2⟩
end Go.Proofs.Ytmfnhdflmnmooaa
namespace Go.Proofs.Ytmfnhdflmnmooaa
open Go.RowKit

theorem View.kept {w w' : World} {v : Value} {zs : List Int} (h : View w v zs) (hb : ∀ k, k < w.heap.size → w'.heap[k]? = w.heap[k]?) : View w' v zs := by
  obtain ⟨a, c, rfl, h1, h2, h3, h4⟩ := h
  refine ⟨a, c, rfl, h1, h2, h3, ?_⟩
  rcases h4 with h4 | ⟨b, off, rfl, hc⟩
  · exact .inl h4
  · refine .inr ⟨b, off, rfl, fun i hi => ?_⟩
    have := hc i hi
    have hlt := World.block_lt_of_cell? w _ this
    rw [World.cell?_of_block (w := w) (hb b hlt)]
    exact this

/-- A copy with marks behind it, in memory from block B on. -/
def Marked (B : Nat) (w : World) (v : Value) (zs : List Int) : Prop :=
  ∃ g c, v = .slice (some ⟨g, 0, none⟩) zs.length c ∧ w.ownsRow B 3 1 (.slice (some ⟨g, 0, none⟩) (zs.length + 70) c) (zs.length + 70) (cellsI (zs ++ marks 70))

theorem Marked.kept {B : Nat} {w w' : World} {v : Value} {zs : List Int} (h : Marked B w v zs) (hb : ∀ k, k < w.heap.size → w'.heap[k]? = w.heap[k]?) : Marked B w' v zs := by
  obtain ⟨g, c, rfl, hl, h⟩ := h
  refine ⟨g, c, rfl, hl, ?_⟩
  rcases h with ⟨h, _⟩ | ⟨g', c', cur, he, h1, h2, r⟩
  · cases h
  · refine .inr ⟨g', c', cur, he, h1, ?_, r⟩
    rw [hb g' (Array.getElem?_eq_some_iff.1 h2).1]
    exact h2

theorem Marked.cells {B : Nat} {w : World} {v : Value} {zs : List Int} (h : Marked B w v zs) :
    ∃ g c, v = .slice (some ⟨g, 0, none⟩) zs.length c ∧ zs.length + 70 ≤ c ∧ c ≤ maxLen ∧ (∀ i, i < zs.length → w.cell? ⟨g, i, none⟩ = some (.int .i64 (zs.getD i 0))) ∧ (∀ i, i < 70 → w.cell? ⟨g, zs.length + i, none⟩ = some (.int .i64 (1000181 + (i : Int)))) := by
  obtain ⟨g, c, rfl, ho⟩ := h
  have hc := ho.cells (g := g) rfl
  refine ⟨g, c, rfl, ?_, ?_, fun i hi => ?_, fun i hi => ?_⟩
  · rcases ho.2 with ⟨h, _⟩ | ⟨g', c', cur, he, _, _, h1, _⟩
    · cases h
    · cases he; exact h1
  · rcases ho.2 with ⟨h, _⟩ | ⟨g', c', cur, he, _, _, _, h1, _⟩
    · cases h
    · cases he; exact h1
  · have := hc i (.int .i64 (zs.getD i 0)) (by
      simp only [cellsI, List.getElem?_map]
      rw [List.getElem?_append_left hi]
      simp [List.getElem?_eq_getElem hi, List.getD])
    rw [Addr.add_lit] at this
    simpa using this
  · have := hc (zs.length + i) (.int .i64 (1000181 + (i : Int))) (by
      simp only [cellsI, List.getElem?_map]
      rw [List.getElem?_append_right (by omega)]
      simp [marks, hi])
    rw [Addr.add_lit] at this
    simpa using this

theorem Marked.view {B : Nat} {w : World} {v : Value} {zs : List Int} (h : Marked B w v zs) : View w v zs := by
  obtain ⟨g, c, rfl, h1, h2, h3, _⟩ := h.cells
  refine ⟨_, c, rfl, by omega, h2, ?_, Or.inr ⟨g, 0, rfl, fun i hi => by simpa using h3 i hi⟩⟩
  intro h
  cases h

/-- cofferbook.Ints. -/
theorem copyI_any (v : Value) (zs : List Int) (w : World) (hn : (zs.length + 70) * 8 ≤ 140737488355328) (h : View w v zs) :
    Calls Try.prog 17 #[v] w fun e w' => ∃ v', e = .returned v' ∧ Marked w.heap.size w' v' zs ∧ Below w.heap.size w w' := by
  obtain ⟨a, c, rfl, h1, h2, h3, h4⟩ := h
  cases a with
  | none =>
    obtain rfl := h3 rfl
    have hz : zs = [] := List.eq_nil_of_length_eq_zero (by omega)
    subst hz
    refine (copyI_nil w).mono ?_
    rintro e w' ⟨g, c, rfl, ho, hb⟩
    exact ⟨_, rfl, ⟨g, c, rfl, by simpa using ho⟩, hb⟩
  | some x =>
    have hc : ∀ j u, (cellsI zs)[j]? = some u → w.cell? (x.add j) = some u := by
      rcases h4 with rfl | ⟨b, off, he, hcell⟩
      · intro j u hu
        simp [cellsI] at hu
      · cases he
        exact cellsI_at zs w b off hcell
    refine (copyI_some x zs.length c zs w rfl hn hc).mono ?_
    rintro e w' ⟨g, c, rfl, ho, hb⟩
    exact ⟨_, rfl, ⟨g, c, rfl, ho⟩, hb⟩

set_option maxHeartbeats 400000 in
theorem wholeI_core (g c n : Nat) (v2 : Value) (zs : List Int) (w : World) (hc : n + 70 ≤ c) (hm : c ≤ 9223372036854775807)
    (h1 : Hid (View w (.slice (some ⟨g, 0, none⟩) n c) zs)) (h2 : Hid (View w v2 zs))
    (h3 : ∀ i, i < 70 → w.cell? ⟨g, n + i, none⟩ = some (.int .i64 (1000181 + (i : Int)))) :
    Calls Try.prog 33 #[.slice (some ⟨g, 0, none⟩) n c, v2] w fun e w' => e = .returned (.bool true) ∧ ∃ m, w' = w.drewN m := by
  go_enter Try.func33, Try.ntmps33
  go_wp2_with fail
  refine (sameI_any _ _ zs zs _ h1.out h2.out).mono ?_
  rintro e w' ⟨rfl, m, rfl⟩
  simp only [decide_true]
  go_wp2
  go_loop [7] (fun i => ∃ k : Nat, k ≤ 70 ∧ i = .int .i64 k) (fun i => 70 - (intOf i).toNat)
  case atStart => exact ⟨0, by omega, rfl⟩
  case round =>
    obtain ⟨k, hk, rfl⟩ := hrel
    by_cases hlt : k < 70
    · have g3 := h3 k hlt
      clear h3
      go_wp2
      go_round
      case rel => exact ⟨k + 1, by omega, by go_num⟩
      case measure => simp [intOf]; omega
    · go_wp2
      go_ret
      exact ⟨rfl, m, rfl⟩

/-- cofferbook.WholeInts, of a copy that is as it was made. -/
theorem wholeI_any (v1 v2 : Value) (zs : List Int) (B : Nat) (w : World) (h1 : Marked B w v1 zs) (h2 : View w v2 zs) :
    Calls Try.prog 33 #[v1, v2] w fun e w' => e = .returned (.bool true) ∧ ∃ m, w' = w.drewN m := by
  have hv := h1.view
  obtain ⟨g, c, rfl, hc, hm, _, h4⟩ := h1.cells
  exact wholeI_core g c zs.length v2 zs w hc (by unfold maxLen at hm; omega) hv h2 h4
end Go.Proofs.Ytmfnhdflmnmooaa
namespace Go.Proofs.Ytmfnhdflmnmooaa
open Go.RowKit

theorem grown_refl (w : World) (g : Option Nat) : w.grownBy w g := ⟨rfl, rfl, rfl, Nat.le_refl _, fun _ _ _ => rfl⟩
theorem grown_trans {w w1 w2 : World} {g g' : Option Nat} (h1 : w.grownBy w1 g) (h2 : w1.grownBy w2 g') (hg : ∀ k, k < w.heap.size → some k ≠ g → some k ≠ g') : w.grownBy w2 g :=
  ⟨h2.os.trans h1.os, h2.tape.trans h1.tape, h2.output.trans h1.output, Nat.le_trans h1.size h2.size, fun k hk hne => (h2.block k (Nat.lt_of_lt_of_le hk h1.size) (hg k hk hne)).trans (h1.block k hk hne)⟩

set_option maxHeartbeats 1600000 in
set_option maxRecDepth 100000 in
theorem spoilI_some (B n g cap : Nat) (zs : List Int) (w : World) (hn : n ≤ 8796093022208) (hB : B ≤ w.heap.size)
    (hown : w.ownsRow B 3 1 (.slice (some ⟨g, 0, none⟩) n cap) n (cellsI zs)) :
    Calls Try.prog 34 #[.slice (some ⟨g, 0, none⟩) n cap] w fun e w' => e = .returned (.tuple #[]) ∧ w.grownBy w' (some g) := by
  obtain ⟨i0, hi, hz0, hz1, hz2⟩ := info_parts info3
  go_enter Try.func34, Try.ntmps34
  go_wp2
  go_loopw [2] (fun i wr => ∃ k : Nat, k ≤ n ∧ i = .int .i64 k ∧ (∃ ys : List Int, wr.ownsRow B 3 1 (.slice (some ⟨g, 0, none⟩) n cap) n (cellsI ys)) ∧ Hid (w.grownBy wr (some g))) (fun i _ => n - (intOf i).toNat)
  case atStart => exact ⟨0, by omega, rfl, ⟨zs, hown⟩, grown_refl _ _⟩
  case round =>
    obtain ⟨k, hk, rfl, ⟨ys, hown2⟩, HG⟩ := hrel
    have hyl : ys.length = n := by have := hown2.1; rw [cellsI_length] at this; omega
    clear hown
    by_cases hlt : k < n
    · obtain ⟨y, hy⟩ : ∃ y, ys[k]? = some y := ⟨ys[k], List.getElem?_eq_getElem (by omega)⟩
      have hcell : wr.cell? ⟨g, k, none⟩ = some (.int .i64 y) := by
        rw [hown2.cellAt k (by omega), cellsI, List.getElem?_map, hy]
        rfl
      have hfr : wr.frozen? ⟨g, k, none⟩ = false := hown2.frozenAt k
      have HO : Hid (wr.ownsRow B 3 1 (.slice (some ⟨g, 0, none⟩) n cap) n (cellsI ys)) := hown2
      clear hown2 hy hyl
      go_wp2
      have hst := HO.out.stored k (.int .i64 (bits .xor .i64 y 10855845))
      have HO3 : Hid ((wr.setCell ⟨g, k, none⟩ (.int .i64 (bits .xor .i64 y 10855845))).ownsRow B 3 1 (.slice (some ⟨g, 0, none⟩) n cap) n (cellsI (ys.set k (bits .xor .i64 y 10855845)))) := by
        rw [cellsI, List.map_set]
        exact hst.1
      have HG3 : Hid (w.grownBy (wr.setCell ⟨g, k, none⟩ (.int .i64 (bits .xor .i64 y 10855845))) (some g)) := grown_trans HG.out hst.2 (fun _ _ h => h)
      clear hst HO HG
      go_roundw
      case rel => exact ⟨k + 1, by omega, by go_num, ⟨_, HO3⟩, HG3⟩
      case measure => simp [intOf]; omega
    · obtain rfl : k = n := by omega
      go_wp2_with (first | (at_builtin; go_must (refine wpList_append_lies _ rfl (.tmp 18) (.tmp 19) 59 rfl B 3 i0 (.int .i64 0) 1 8 Try.underlying59 hi hz0 hz1 hz2 rfl (by decide) _ _ _ rfl (hown2.alloc _) ⟨wr.heap.size, 0, none⟩ 1 1 (cellsI [1]) rfl rfl (World.news_of_block (heap_alloc_new wr _)) (cellsI_one _) (by decide) (by unfold maxLen; omega) (by omega) (by have := HG.out.size; simp; omega) (wr.heap.size + 1) (by simp) ?_)))
      intro g1 cp1 w1 own1 hgr1 hat1 hlt1
      have HG1 : Hid (w.grownBy w1 (some g)) := grown_trans (grown_trans HG.out (World.grownBy_alloc wr _ none) (fun _ _ _ => by simp)) hgr1 (fun q _ hq => hq)
      have HA1 : Hid (g1 = g ∨ w.heap.size ≤ g1) := by
        rcases hat1 with h | h
        · left
          simpa [Value.ownBlock] using h.symm
        · right
          have := HG.out.size
          omega
      have HO1 : Hid (w1.ownsRow B 3 1 (.slice (some ⟨g1, 0, none⟩) (k + 1) cp1) (k + 1) (cellsI (ys ++ [1]))) := by
        rw [cellsI_append]
        exact own1
      clear own1 hgr1 hat1 hlt1 hown2 HG hyl hk hlt
      go_wp2
      go_loopw [0, 3] (fun l i wr => ∃ j : Nat, j ≤ 70 ∧ i = .int .i64 j ∧ Hid (w.grownBy wr (some g)) ∧ ∃ g2 c2 ys2, l = .slice (some ⟨g2, 0, none⟩) (k + 1 + j) c2 ∧ wr.ownsRow B 3 1 (.slice (some ⟨g2, 0, none⟩) (k + 1 + j) c2) (k + 1 + j) (cellsI ys2) ∧ Hid (g2 = g ∨ w.heap.size ≤ g2)) (fun _ i _ => 70 - (intOf i).toNat)
      case atStart => exact ⟨0, by omega, rfl, HG1, g1, cp1, _, rfl, HO1, HA1⟩
      case round =>
        obtain ⟨j, hj, rfl, HG2, g2, c2, ys2, rfl, own2, HA2⟩ := hrel
        clear HG1 HA1 HO1
        by_cases hlt : j < 70
        · go_wp2_with (first | (at_builtin; go_must (refine wpList_append_lies _ rfl (.tmp 25) (.tmp 29) 59 rfl B 3 i0 (.int .i64 0) 1 8 Try.underlying59 hi hz0 hz1 hz2 rfl (by decide) _ _ _ rfl (own2.alloc _) ⟨wr.heap.size, 0, none⟩ 1 1 (cellsI [7 * (j : Int) + 3]) rfl rfl (World.news_of_block (heap_alloc_new wr _)) (cellsI_one _) (by decide) (by unfold maxLen; omega) (by omega) (by have := HG2.out.size; simp; omega) (wr.heap.size + 1) (by simp) ?_)))
          intro g3 cp3 w3 own3 hgr3 hat3 hlt3
          have HG3 : Hid (w.grownBy w3 (some g)) := grown_trans (grown_trans HG2.out (World.grownBy_alloc wr _ none) (fun _ _ _ => by simp)) hgr3 (fun q hq hne => by
            intro h
            simp only [Value.ownBlock, Option.some.injEq] at h
            rcases HA2.out with e | e
            · exact hne (by rw [h, e])
            · omega)
          have HA3 : Hid (g3 = g ∨ w.heap.size ≤ g3) := by
            rcases hat3 with h | h
            · simp only [Value.ownBlock, Option.some.injEq] at h
              rw [← h]
              exact HA2
            · right
              have := HG2.out.size
              omega
          have HO3 : Hid (w3.ownsRow B 3 1 (.slice (some ⟨g3, 0, none⟩) (k + 1 + (j + 1)) cp3) (k + 1 + (j + 1)) (cellsI (ys2 ++ [7 * (j : Int) + 3]))) := by
            rw [cellsI_append]
            exact own3
          clear own3 hgr3 hat3 hlt3 own2 HG2 HA2
          go_wp2
          go_roundw
          case rel => exact ⟨j + 1, by omega, by go_num, HG3, g3, cp3, _, rfl, HO3, HA3⟩
          case measure => simp [intOf]; omega
        · obtain rfl : j = 70 := by omega
          have hcell : wr.cell? ⟨g2, k + 70, none⟩ = some (.int .i64 (ys2.getD (k + 70) 0)) := by
            have hl2 : ys2.length = k + 1 + 70 := by have := own2.1; rw [cellsI_length] at this; omega
            rw [own2.cellAt (k + 70) (by omega), cellsI, List.getElem?_map, List.getElem?_eq_getElem (show k + 70 < ys2.length by omega)]
            simp [List.getD, List.getElem?_eq_getElem (show k + 70 < ys2.length by omega)]
          have hfr : wr.frozen? ⟨g2, k + 70, none⟩ = false := own2.frozenAt _
          have HO : Hid (wr.ownsRow B 3 1 (.slice (some ⟨g2, 0, none⟩) (k + 1 + 70) c2) (k + 1 + 70) (cellsI ys2)) := own2
          clear own2 hlt
          go_wp2
          go_end0
          have hst := HO.out.stored (k + 70) (.int .i64 77)
          refine ⟨rfl, grown_trans HG2.out hst.2 (fun q hq hne => ?_)⟩
          intro h
          simp only [Option.some.injEq] at h
          rcases HA2.out with e | e
          · exact hne (by rw [h, e])
          · omega
set_option maxHeartbeats 1600000 in
set_option maxRecDepth 100000 in
theorem spoilI_nil (w : World) :
    Calls Try.prog 34 #[.slice none 0 0] w fun e w' => e = .returned (.tuple #[]) ∧ w.grownBy w' none := by
  obtain ⟨i0, hi, hz0, hz1, hz2⟩ := info_parts info3
  have hown : w.ownsRow w.heap.size 3 1 (.slice none 0 0) 0 (cellsI []) := ⟨rfl, .inl ⟨rfl, rfl⟩⟩
  go_enter Try.func34, Try.ntmps34
  go_wp2
  go_loop [2] (fun i => i = .int .i64 0) (fun _ => 0)
  case atStart => exact rfl
  case round =>
    obtain rfl := hrel
    go_wp2_with (first | (at_builtin; go_must (refine wpList_append_lies _ rfl (.tmp 18) (.tmp 19) 59 rfl w.heap.size 3 i0 (.int .i64 0) 1 8 Try.underlying59 hi hz0 hz1 hz2 rfl (by decide) _ _ _ rfl (hown.alloc _) ⟨w.heap.size, 0, none⟩ 1 1 (cellsI [1]) rfl rfl (World.news_of_block (heap_alloc_new w _)) (cellsI_one _) (by decide) (by unfold maxLen; omega) (by omega) (by simp) (w.heap.size + 1) (by simp) ?_)))
    intro g1 cp1 w1 own1 hgr1 hat1 hlt1
    have HG1 : Hid (w.grownBy w1 none) := grown_trans (World.grownBy_alloc w _ none) hgr1 (fun q _ hq => hq)
    have HA1 : Hid (w.heap.size ≤ g1) := by
      rcases hat1 with h | h
      · simp [Value.ownBlock] at h
      · exact (by omega : w.heap.size ≤ g1)
    have HO1 : Hid (w1.ownsRow w.heap.size 3 1 (.slice (some ⟨g1, 0, none⟩) 1 cp1) 1 (cellsI [1])) := own1
    clear own1 hgr1 hat1 hlt1 hown
    go_wp2
    go_loopw [0, 3] (fun l i wr => ∃ j : Nat, j ≤ 70 ∧ i = .int .i64 j ∧ Hid (w.grownBy wr none) ∧ ∃ g2 c2 ys2, l = .slice (some ⟨g2, 0, none⟩) (1 + j) c2 ∧ wr.ownsRow w.heap.size 3 1 (.slice (some ⟨g2, 0, none⟩) (1 + j) c2) (1 + j) (cellsI ys2) ∧ Hid (w.heap.size ≤ g2)) (fun _ i _ => 70 - (intOf i).toNat)
    case atStart => exact ⟨0, by omega, rfl, HG1, g1, cp1, _, rfl, HO1, HA1⟩
    case round =>
      obtain ⟨j, hj, rfl, HG2, g2, c2, ys2, rfl, own2, HA2⟩ := hrel
      clear HG1 HA1 HO1
      by_cases hlt : j < 70
      · go_wp2_with (first | (at_builtin; go_must (refine wpList_append_lies _ rfl (.tmp 25) (.tmp 29) 59 rfl w.heap.size 3 i0 (.int .i64 0) 1 8 Try.underlying59 hi hz0 hz1 hz2 rfl (by decide) _ _ _ rfl (own2.alloc _) ⟨wr.heap.size, 0, none⟩ 1 1 (cellsI [7 * (j : Int) + 3]) rfl rfl (World.news_of_block (heap_alloc_new wr _)) (cellsI_one _) (by decide) (by unfold maxLen; omega) (by omega) (by have := HG2.out.size; simp; omega) (wr.heap.size + 1) (by simp) ?_)))
        intro g3 cp3 w3 own3 hgr3 hat3 hlt3
        have HG3 : Hid (w.grownBy w3 none) := grown_trans (grown_trans HG2.out (World.grownBy_alloc wr _ none) (fun _ _ _ => by simp)) hgr3 (fun q hq hne => by
          intro h
          simp only [Value.ownBlock, Option.some.injEq] at h
          have := HA2.out
          omega)
        have HA3 : Hid (w.heap.size ≤ g3) := by
          rcases hat3 with h | h
          · simp only [Value.ownBlock, Option.some.injEq] at h
            rw [← h]
            exact HA2
          · have := HG2.out.size
            exact (by omega : w.heap.size ≤ g3)
        have HO3 : Hid (w3.ownsRow w.heap.size 3 1 (.slice (some ⟨g3, 0, none⟩) (1 + (j + 1)) cp3) (1 + (j + 1)) (cellsI (ys2 ++ [7 * (j : Int) + 3]))) := by
          rw [cellsI_append]
          exact own3
        clear own3 hgr3 hat3 hlt3 own2 HG2 HA2
        go_wp2
        go_roundw
        case rel => exact ⟨j + 1, by omega, by go_num, HG3, g3, cp3, _, rfl, HO3, HA3⟩
        case measure => simp [intOf]; omega
      · obtain rfl : j = 70 := by omega
        have hcell : wr.cell? ⟨g2, 70, none⟩ = some (.int .i64 (ys2.getD 70 0)) := by
          have hl2 : ys2.length = 1 + 70 := by have := own2.1; rw [cellsI_length] at this; omega
          rw [own2.cellAt 70 (by omega), cellsI, List.getElem?_map, List.getElem?_eq_getElem (show 70 < ys2.length by omega)]
          simp [List.getD, List.getElem?_eq_getElem (show 70 < ys2.length by omega)]
        have hfr : wr.frozen? ⟨g2, 70, none⟩ = false := own2.frozenAt _
        have HO : Hid (wr.ownsRow w.heap.size 3 1 (.slice (some ⟨g2, 0, none⟩) (1 + 70) c2) (1 + 70) (cellsI ys2)) := own2
        clear own2 hlt
        go_wp2
        go_end0
        have hst := HO.out.stored 70 (.int .i64 77)
        refine ⟨rfl, grown_trans HG2.out hst.2 (fun q hq hne => ?_)⟩
        intro h
        simp only [Option.some.injEq] at h
        have := HA2.out
        omega

/-- cofferbook.SpoilBytes of a row that is owned: nothing else of what was there changes. -/
theorem spoilI_any (B n : Nat) (v : Value) (zs : List Int) (w : World) (hn : n ≤ 8796093022208) (hB : B ≤ w.heap.size) (hown : w.ownsRow B 3 1 v n (cellsI zs)) :
    Calls Try.prog 34 #[v] w fun e w' => e = .returned (.tuple #[]) ∧ w.grownBy w' v.ownBlock := by
  rcases hown.2 with ⟨rfl, rfl⟩ | ⟨g, c, cur, rfl, _⟩
  · exact spoilI_nil w
  · exact spoilI_some B n g c zs w hn hB hown
end Go.Proofs.Ytmfnhdflmnmooaa
namespace Go.Proofs.Ytmfnhdflmnmooaa
open Go.RowKit
set_option linter.unusedVariables false
set_option linter.unusedSimpArgs false
theorem info47 : (Try.prog.info? 63).map (fun i => (i.zero, i.size, i.bytes)) = some (some (.agg #[.int .i64 0, .int .i64 0, .int .i64 0, .int .i64 0, .string ⟨#[]⟩, .string ⟨#[]⟩, .int .i64 0, .int .i64 0, .int .i64 0]), 9, 88) := by kernel_rfl
theorem info49 : (Try.prog.info? 38).map (fun i => (i.zero, i.size, i.bytes)) = some (some (.agg #[.int .u64 0, .string ⟨#[]⟩, .string ⟨#[]⟩, .string ⟨#[]⟩, .string ⟨#[]⟩]), 5, 72) := by kernel_rfl
theorem info45 : (Try.prog.info? 61).map (fun i => (i.zero, i.size, i.bytes)) = some (some (.agg #[.int .i64 0, .string ⟨#[]⟩, .slice none 0 0, .string ⟨#[]⟩]), 4, 64) := by kernel_rfl
/-- A token; its numbers' list as a slice. -/
structure Tk where
  n : Int
  s : ByteArray
  p : Option Addr
  l : Nat
  c : Nat
  z : ByteArray
def tkL (x : Tk) : List Value := [.int .i64 x.n, .string x.s, .slice x.p x.l x.c, .string x.z]
/-- Rows of structs of a size, as cells, behind a slice. -/
def RowV (w : World) (p : Option Addr) (n size : Nat) (cs : List Value) : Prop :=
  cs.length = n * size ∧ (n = 0 ∨ ∃ b off, p = some ⟨b, off, none⟩ ∧ b < w.heap.size ∧ ∀ j u, cs[j]? = some u → w.cell? ⟨b, off + j, none⟩ = some u)
theorem RowV.below {w w' : World} {p : Option Addr} {n size : Nat} {cs : List Value} (h : RowV w p n size cs) {B : Nat} (hs : w.heap.size ≤ B) (hB : Below B w w') : RowV w' p n size cs := by
  obtain ⟨hl, h | ⟨b, off, rfl, hb, hc⟩⟩ := h
  · exact ⟨hl, .inl h⟩
  · refine ⟨hl, .inr ⟨b, off, rfl, by have := hB.size; omega, fun j u hu => (hB.cell (p := ⟨b, off + j, none⟩) (Nat.lt_of_lt_of_le hb hs)).trans (hc j u hu)⟩⟩
def tkS (T : List Tk) : Nat := (T.map (·.l)).sum
theorem tkS_take (T : List Tk) (k : Nat) (x : Tk) (h : T[k]? = some x) : tkS (T.take (k + 1)) = tkS (T.take k) + x.l := by
  obtain ⟨hk, e⟩ := List.getElem?_eq_some_iff.1 h
  rw [tkS, tkS, List.take_succ_eq_append_getElem hk, List.map_append, List.sum_append, e]
  simp
def WideP (T : List Tk) (e : Ending) : Prop := ∃ r : Bool, e = .returned (.bool r) ∧ (r = false → tkS T ≤ 65536)
/-- The tokens' slices, where they lie. -/
def TkP (w : World) (m : Mt) (T : List Tk) : Prop := T.length = m.tn ∧ (m.tn = 0 ∨ ∃ b off, m.tp = some ⟨b, off, none⟩ ∧ b < w.heap.size ∧ ∀ (i : Nat) (x : Tk), T[i]? = some x → ∀ j u, (tkL x)[j]? = some u → w.cell? ⟨b, off + i * 4 + j, none⟩ = some u)
set_option maxHeartbeats 1600000 in
set_option maxRecDepth 100000 in
theorem wide_some (m : Mt) (T : List Tk) (b off n c : Nat) (hp : m.tp = some ⟨b, off, none⟩) (hn : m.tn = n) (hc0 : m.tc = c) (hn0 : n ≤ 1000000000000000) (hT : Hid (T.length = n)) (hl : Hid (∀ (i : Nat) (x : Tk), T[i]? = some x → x.l ≤ 1000000000000000)) (w : World) (hb : b < w.heap.size)
    (hc : Hid (∀ (i : Nat) (x : Tk), T[i]? = some x → ∀ j u, (tkL x)[j]? = some u → w.cell? ⟨b, off + i * 4 + j, none⟩ = some u)) :
    Calls Try.prog 5 #[.agg (mtC m)] w fun e w' => WideP T e ∧ Below w.heap.size w w' := by
  have bx : Bx (w.alloc (.cells (mtC m) 36)) w.heap.size m := World.alloc_heap_new w _
  have y26 := bx.c 26 (.slice m.tp m.tn m.tc) rfl
  rw [hp, hn, hc0] at y26
  go_enter Try.func5, Try.ntmps5
  go_wp2
  go_loop [3, 4] (fun s i => ∃ k : Nat, k ≤ n ∧ i = .int .i64 k ∧ ∃ q : Nat, s = .int .i64 (q : Int) ∧ q ≤ 1000000000100000 ∧ Hid (q = tkS (T.take k))) (fun _ i => n - (intOf i).toNat)
  case atStart => exact ⟨0, Nat.zero_le _, rfl, 0, rfl, by omega, (show (0:Nat) = tkS (T.take 0) from by simp [tkS])⟩
  case round =>
    obtain ⟨k, hk, rfl, q, rfl, hq, HQ⟩ := hrel
    by_cases hlt : k < n
    · by_cases hle : q ≤ 65536
      · obtain ⟨x, hx⟩ : ∃ x, T[k]? = some x := ⟨T[k]'(by have := hT.out; omega), List.getElem?_eq_getElem _⟩
        have hx2 := hl.out k x hx
        have hcell : (w.alloc (.cells (mtC m) 36)).cell? ⟨b, off + k * 4 + 2, none⟩ = some (.slice x.p x.l x.c) := by
          have := hc.out k x hx 2 _ rfl
          exact (((Below.refl w.heap.size w).alloc (Nat.le_refl _) _).cell (p := ⟨b, off + k * 4 + 2, none⟩) hb).trans this
        have HX : Hid (T[k]? = some x) := hx
        clear hx
        go_wp2
        go_round
        case rel => exact ⟨k + 1, by omega, by go_num, q + x.l, by go_num, by omega, (show q + x.l = tkS (T.take (k + 1)) from by rw [tkS_take T k x HX.out, HQ.out])⟩
        case measure => simp [intOf]; omega
      · go_wp2
        go_ret
        exact ⟨⟨_, rfl, fun h => by first | (simp at h; omega) | simp at h⟩, (Below.refl _ w).alloc (Nat.le_refl _) _⟩
    · go_wp2
      go_ret
      refine ⟨⟨_, rfl, fun h => ?_⟩, (Below.refl _ w).alloc (Nat.le_refl _) _⟩
      have h1 := HQ.out
      rw [List.take_of_length_le (by have := hT.out; omega)] at h1
      simp at h
      omega
set_option maxHeartbeats 1600000 in
set_option maxRecDepth 100000 in
theorem wide_none (m : Mt) (hn : m.tn = 0) (w : World) :
    Calls Try.prog 5 #[.agg (mtC m)] w fun e w' => WideP [] e ∧ Below w.heap.size w w' := by
  have bx : Bx (w.alloc (.cells (mtC m) 36)) w.heap.size m := World.alloc_heap_new w _
  have y26 := bx.c 26 (.slice m.tp m.tn m.tc) rfl
  rw [hn] at y26
  go_enter Try.func5, Try.ntmps5
  go_wp2
  go_loop [3, 4] (fun s i => i = .int .i64 (0 : Nat) ∧ s = .int .i64 (0 : Nat)) (fun _ i => 0)
  case atStart => exact ⟨rfl, rfl⟩
  case round =>
    obtain ⟨rfl, rfl⟩ := hrel
    go_wp2
    go_ret
    exact ⟨⟨_, rfl, fun h => by simp [tkS]⟩, (Below.refl _ w).alloc (Nat.le_refl _) _⟩
/-- cofferlaw09.wide: where it says no, there are few numbers. -/
theorem wide_any (m : Mt) (T : List Tk) (hn : m.tn ≤ 1000000000000000) (hl : ∀ (i : Nat) (x : Tk), T[i]? = some x → x.l ≤ 1000000000000000) (w : World) (hT : TkP w m T) :
    Calls Try.prog 5 #[.agg (mtC m)] w fun e w' => WideP T e ∧ Below w.heap.size w w' := by
  obtain ⟨h1, h2 | ⟨b, off, hp, hb, hc⟩⟩ := hT
  · obtain rfl : T = [] := List.eq_nil_of_length_eq_zero (by omega)
    exact wide_none m h2 w
  · exact wide_some m T b off m.tn m.tc hp rfl rfl hn h1 hl w hb hc
end Go.Proofs.Ytmfnhdflmnmooaa
namespace Go.Proofs.Ytmfnhdflmnmooaa
open Go.RowKit
set_option linter.unusedVariables false
set_option linter.unusedSimpArgs false
set_option maxRecDepth 100000
set_option maxHeartbeats 3200000
theorem eq31n (x0 : Int) (x1 : Int) (w : World) : (Op.equalIn 9999 31 (.agg #[.int .i64 x0, .int .i64 x1]) (.agg #[.int .i64 x0, .int .i64 x1])).run Try.prog w = .ok true w := by
  have e2 : ∀ x : Int, (Op.equalIn 9998 2 (.int .i64 x) (.int .i64 x)).run Try.prog w = .ok true w := fun x => by
    rw [show (9998 : Nat) = 9997 + 1 from rfl, run_equalIn_int w 9997 2 .i64 .i64 x x Try.underlying2]
    simp
  have e3 : ∀ x : Int, (Op.equalIn 9998 3 (.int .i64 x) (.int .i64 x)).run Try.prog w = .ok true w := fun x => by
    rw [show (9998 : Nat) = 9997 + 1 from rfl, run_equalIn_int w 9997 3 .i64 .i64 x x Try.underlying3]
    simp
  have e22 : ∀ x : Int, (Op.equalIn 9998 22 (.int .u64 x) (.int .u64 x)).run Try.prog w = .ok true w := fun x => by
    rw [show (9998 : Nat) = 9997 + 1 from rfl, run_equalIn_int w 9997 22 .u64 .u64 x x Try.underlying22]
    simp
  have e4 : ∀ x : Bool, (Op.equalIn 9998 4 (.bool x) (.bool x)).run Try.prog w = .ok true w := fun x => by
    rw [show (9998 : Nat) = 9997 + 1 from rfl, run_equalIn_bool w 9997 4 x x Try.underlying4]
    simp
  have e9 : ∀ x : ByteArray, (Op.equalIn 9998 9 (.string x) (.string x)).run Try.prog w = .ok true w := fun x => by
    rw [show (9998 : Nat) = 9997 + 1 from rfl, run_equalIn_string w 9997 9 x x Try.underlying9]
    simp
  rw [show (9999 : Nat) = 9998 + 1 from rfl, Op.equalIn]
  simp only [Sem.run_bind, run_underlying Try.underlying31, Result.andThen_ok]
  go_simp
theorem eq24 (x0 : Int) (x1 : Int) (x2 : Int) (x3 : Int) (w : World) : (Op.equalIn 10000 24 (.agg #[.int .i64 x0, .int .u64 x1, .int .i64 x2, .int .i64 x3]) (.agg #[.int .i64 x0, .int .u64 x1, .int .i64 x2, .int .i64 x3])).run Try.prog w = .ok true w := by
  have e2 : ∀ x : Int, (Op.equalIn 9999 2 (.int .i64 x) (.int .i64 x)).run Try.prog w = .ok true w := fun x => by
    rw [show (9999 : Nat) = 9998 + 1 from rfl, run_equalIn_int w 9998 2 .i64 .i64 x x Try.underlying2]
    simp
  have e3 : ∀ x : Int, (Op.equalIn 9999 3 (.int .i64 x) (.int .i64 x)).run Try.prog w = .ok true w := fun x => by
    rw [show (9999 : Nat) = 9998 + 1 from rfl, run_equalIn_int w 9998 3 .i64 .i64 x x Try.underlying3]
    simp
  have e22 : ∀ x : Int, (Op.equalIn 9999 22 (.int .u64 x) (.int .u64 x)).run Try.prog w = .ok true w := fun x => by
    rw [show (9999 : Nat) = 9998 + 1 from rfl, run_equalIn_int w 9998 22 .u64 .u64 x x Try.underlying22]
    simp
  have e4 : ∀ x : Bool, (Op.equalIn 9999 4 (.bool x) (.bool x)).run Try.prog w = .ok true w := fun x => by
    rw [show (9999 : Nat) = 9998 + 1 from rfl, run_equalIn_bool w 9998 4 x x Try.underlying4]
    simp
  have e9 : ∀ x : ByteArray, (Op.equalIn 9999 9 (.string x) (.string x)).run Try.prog w = .ok true w := fun x => by
    rw [show (9999 : Nat) = 9998 + 1 from rfl, run_equalIn_string w 9998 9 x x Try.underlying9]
    simp
  rw [show (10000 : Nat) = 9999 + 1 from rfl, Op.equalIn]
  simp only [Sem.run_bind, run_underlying Try.underlying24, Result.andThen_ok]
  go_simp
theorem eq26 (x0 : Int) (x1 : ByteArray) (x2 : ByteArray) (w : World) : (Op.equalIn 10000 26 (.agg #[.int .i64 x0, .string x1, .string x2]) (.agg #[.int .i64 x0, .string x1, .string x2])).run Try.prog w = .ok true w := by
  have e2 : ∀ x : Int, (Op.equalIn 9999 2 (.int .i64 x) (.int .i64 x)).run Try.prog w = .ok true w := fun x => by
    rw [show (9999 : Nat) = 9998 + 1 from rfl, run_equalIn_int w 9998 2 .i64 .i64 x x Try.underlying2]
    simp
  have e3 : ∀ x : Int, (Op.equalIn 9999 3 (.int .i64 x) (.int .i64 x)).run Try.prog w = .ok true w := fun x => by
    rw [show (9999 : Nat) = 9998 + 1 from rfl, run_equalIn_int w 9998 3 .i64 .i64 x x Try.underlying3]
    simp
  have e22 : ∀ x : Int, (Op.equalIn 9999 22 (.int .u64 x) (.int .u64 x)).run Try.prog w = .ok true w := fun x => by
    rw [show (9999 : Nat) = 9998 + 1 from rfl, run_equalIn_int w 9998 22 .u64 .u64 x x Try.underlying22]
    simp
  have e4 : ∀ x : Bool, (Op.equalIn 9999 4 (.bool x) (.bool x)).run Try.prog w = .ok true w := fun x => by
    rw [show (9999 : Nat) = 9998 + 1 from rfl, run_equalIn_bool w 9998 4 x x Try.underlying4]
    simp
  have e9 : ∀ x : ByteArray, (Op.equalIn 9999 9 (.string x) (.string x)).run Try.prog w = .ok true w := fun x => by
    rw [show (9999 : Nat) = 9998 + 1 from rfl, run_equalIn_string w 9998 9 x x Try.underlying9]
    simp
  rw [show (10000 : Nat) = 9999 + 1 from rfl, Op.equalIn]
  simp only [Sem.run_bind, run_underlying Try.underlying26, Result.andThen_ok]
  go_simp
theorem eq49 (x0 : Int) (x1 : ByteArray) (x2 : ByteArray) (x3 : ByteArray) (x4 : ByteArray) (w : World) : (Op.equalIn 10000 38 (.agg #[.int .u64 x0, .string x1, .string x2, .string x3, .string x4]) (.agg #[.int .u64 x0, .string x1, .string x2, .string x3, .string x4])).run Try.prog w = .ok true w := by
  have e2 : ∀ x : Int, (Op.equalIn 9999 2 (.int .i64 x) (.int .i64 x)).run Try.prog w = .ok true w := fun x => by
    rw [show (9999 : Nat) = 9998 + 1 from rfl, run_equalIn_int w 9998 2 .i64 .i64 x x Try.underlying2]
    simp
  have e3 : ∀ x : Int, (Op.equalIn 9999 3 (.int .i64 x) (.int .i64 x)).run Try.prog w = .ok true w := fun x => by
    rw [show (9999 : Nat) = 9998 + 1 from rfl, run_equalIn_int w 9998 3 .i64 .i64 x x Try.underlying3]
    simp
  have e22 : ∀ x : Int, (Op.equalIn 9999 22 (.int .u64 x) (.int .u64 x)).run Try.prog w = .ok true w := fun x => by
    rw [show (9999 : Nat) = 9998 + 1 from rfl, run_equalIn_int w 9998 22 .u64 .u64 x x Try.underlying22]
    simp
  have e4 : ∀ x : Bool, (Op.equalIn 9999 4 (.bool x) (.bool x)).run Try.prog w = .ok true w := fun x => by
    rw [show (9999 : Nat) = 9998 + 1 from rfl, run_equalIn_bool w 9998 4 x x Try.underlying4]
    simp
  have e9 : ∀ x : ByteArray, (Op.equalIn 9999 9 (.string x) (.string x)).run Try.prog w = .ok true w := fun x => by
    rw [show (9999 : Nat) = 9998 + 1 from rfl, run_equalIn_string w 9998 9 x x Try.underlying9]
    simp
  rw [show (10000 : Nat) = 9999 + 1 from rfl, Op.equalIn]
  simp only [Sem.run_bind, run_underlying Try.underlying38, Result.andThen_ok]
  go_simp
theorem eq47 (x0 : Int) (x1 : Int) (x2 : Int) (x3 : Int) (x4 : ByteArray) (x5 : ByteArray) (x6 : Int) (x7 : Int) (x8 : Int) (w : World) : (Op.equalIn 10000 63 (.agg #[.int .i64 x0, .int .i64 x1, .int .i64 x2, .int .i64 x3, .string x4, .string x5, .int .i64 x6, .int .i64 x7, .int .i64 x8]) (.agg #[.int .i64 x0, .int .i64 x1, .int .i64 x2, .int .i64 x3, .string x4, .string x5, .int .i64 x6, .int .i64 x7, .int .i64 x8])).run Try.prog w = .ok true w := by
  have e2 : ∀ x : Int, (Op.equalIn 9999 2 (.int .i64 x) (.int .i64 x)).run Try.prog w = .ok true w := fun x => by
    rw [show (9999 : Nat) = 9998 + 1 from rfl, run_equalIn_int w 9998 2 .i64 .i64 x x Try.underlying2]
    simp
  have e3 : ∀ x : Int, (Op.equalIn 9999 3 (.int .i64 x) (.int .i64 x)).run Try.prog w = .ok true w := fun x => by
    rw [show (9999 : Nat) = 9998 + 1 from rfl, run_equalIn_int w 9998 3 .i64 .i64 x x Try.underlying3]
    simp
  have e22 : ∀ x : Int, (Op.equalIn 9999 22 (.int .u64 x) (.int .u64 x)).run Try.prog w = .ok true w := fun x => by
    rw [show (9999 : Nat) = 9998 + 1 from rfl, run_equalIn_int w 9998 22 .u64 .u64 x x Try.underlying22]
    simp
  have e4 : ∀ x : Bool, (Op.equalIn 9999 4 (.bool x) (.bool x)).run Try.prog w = .ok true w := fun x => by
    rw [show (9999 : Nat) = 9998 + 1 from rfl, run_equalIn_bool w 9998 4 x x Try.underlying4]
    simp
  have e9 : ∀ x : ByteArray, (Op.equalIn 9999 9 (.string x) (.string x)).run Try.prog w = .ok true w := fun x => by
    rw [show (9999 : Nat) = 9998 + 1 from rfl, run_equalIn_string w 9998 9 x x Try.underlying9]
    simp
  have e31 : ∀ x y : Int, (Op.equalIn 9999 31 (.agg #[.int .i64 x, .int .i64 y]) (.agg #[.int .i64 x, .int .i64 y])).run Try.prog w = .ok true w := fun x y => eq31n x y w
  rw [show (10000 : Nat) = 9999 + 1 from rfl, Op.equalIn]
  simp only [Sem.run_bind, run_underlying Try.underlying63, Result.andThen_ok]
  go_simp
theorem eq33 (x0 : Bool) (x1 : Int) (x2 : Int) (x3 : Bool) (x4 : Int) (x5 : Int) (x6 : Int) (x7 : Int) (x8 : Int) (x9 : Bool) (x10 : Int) (x11 : ByteArray) (w : World) : (Op.equalIn 10000 33 (.agg #[.bool x0, .int .u64 x1, .int .u64 x2, .bool x3, .int .i64 x4, .int .u64 x5, .int .u64 x6, .int .i64 x7, .int .i64 x8, .bool x9, .int .u64 x10, .string x11]) (.agg #[.bool x0, .int .u64 x1, .int .u64 x2, .bool x3, .int .i64 x4, .int .u64 x5, .int .u64 x6, .int .i64 x7, .int .i64 x8, .bool x9, .int .u64 x10, .string x11])).run Try.prog w = .ok true w := by
  have e2 : ∀ x : Int, (Op.equalIn 9999 2 (.int .i64 x) (.int .i64 x)).run Try.prog w = .ok true w := fun x => by
    rw [show (9999 : Nat) = 9998 + 1 from rfl, run_equalIn_int w 9998 2 .i64 .i64 x x Try.underlying2]
    simp
  have e3 : ∀ x : Int, (Op.equalIn 9999 3 (.int .i64 x) (.int .i64 x)).run Try.prog w = .ok true w := fun x => by
    rw [show (9999 : Nat) = 9998 + 1 from rfl, run_equalIn_int w 9998 3 .i64 .i64 x x Try.underlying3]
    simp
  have e22 : ∀ x : Int, (Op.equalIn 9999 22 (.int .u64 x) (.int .u64 x)).run Try.prog w = .ok true w := fun x => by
    rw [show (9999 : Nat) = 9998 + 1 from rfl, run_equalIn_int w 9998 22 .u64 .u64 x x Try.underlying22]
    simp
  have e4 : ∀ x : Bool, (Op.equalIn 9999 4 (.bool x) (.bool x)).run Try.prog w = .ok true w := fun x => by
    rw [show (9999 : Nat) = 9998 + 1 from rfl, run_equalIn_bool w 9998 4 x x Try.underlying4]
    simp
  have e9 : ∀ x : ByteArray, (Op.equalIn 9999 9 (.string x) (.string x)).run Try.prog w = .ok true w := fun x => by
    rw [show (9999 : Nat) = 9998 + 1 from rfl, run_equalIn_string w 9998 9 x x Try.underlying9]
    simp
  have e31 : ∀ x y : Int, (Op.equalIn 9999 31 (.agg #[.int .i64 x, .int .i64 y]) (.agg #[.int .i64 x, .int .i64 y])).run Try.prog w = .ok true w := fun x y => eq31n x y w
  rw [show (10000 : Nat) = 9999 + 1 from rfl, Op.equalIn]
  simp only [Sem.run_bind, run_underlying Try.underlying33, Result.andThen_ok]
  go_simp
end Go.Proofs.Ytmfnhdflmnmooaa
namespace Go.Proofs.Ytmfnhdflmnmooaa
open Go.RowKit
set_option linter.unusedVariables false
set_option linter.unusedSimpArgs false
/-- A keyslot. -/
structure Slo where
  n : Int
  p : Int
  h : Int
  t : Int
  s : ByteArray
  c : ByteArray
  st : Int
  o : Int
  z : Int
def sloL (x : Slo) : List Value := [.int .i64 x.n, .int .i64 x.p, .int .i64 x.h, .int .i64 x.t, .string x.s, .string x.c, .int .i64 x.st, .int .i64 x.o, .int .i64 x.z]
/-- An epoch. -/
structure Epo where
  n : Int
  a : ByteArray
  b : ByteArray
  c : ByteArray
  d : ByteArray
def epoL (x : Epo) : List Value := [.int .u64 x.n, .string x.a, .string x.b, .string x.c, .string x.d]
/-- Structs, where they lie. -/
def RV {α : Type} (L : α → List Value) (sz : Nat) (w : World) (p : Option Addr) (l : List α) : Prop :=
  l = [] ∨ ∃ b off, p = some ⟨b, off, none⟩ ∧ b < w.heap.size ∧ ∀ (i : Nat) (x : α), l[i]? = some x → ∀ (j : Nat) (u : Value), (L x)[j]? = some u → w.cell? ⟨b, off + i * sz + j, none⟩ = some u
theorem RV.below {α : Type} {L : α → List Value} {sz : Nat} {w w' : World} {p : Option Addr} {l : List α} (h : RV L sz w p l) (hB : Below w.heap.size w w') : RV L sz w' p l := by
  rcases h with h | ⟨b, off, hp, hb, hc⟩
  · exact .inl h
  · exact .inr ⟨b, off, hp, Nat.lt_of_lt_of_le hb hB.size, fun i x hx j u hu => (hB.cell (p := ⟨b, off + i * sz + j, none⟩) hb).trans (hc i x hx j u hu)⟩
theorem RV.get {α : Type} {L : α → List Value} {sz : Nat} {w : World} {p : Option Addr} {l : List α} (h : RV L sz w p l) {k : Nat} {x : α} (hx : l[k]? = some x) : ∃ b off, p = some ⟨b, off, none⟩ ∧ b < w.heap.size ∧ ∀ (j : Nat) (u : Value), (L x)[j]? = some u → w.cell? ⟨b, off + k * sz + j, none⟩ = some u := by
  rcases h with rfl | ⟨b, off, hp, hb, hc⟩
  · simp at hx
  · exact ⟨b, off, hp, hb, hc k x hx⟩
/-- Other lists. -/
structure Ptr where
  sp : Option Addr
  sc : Nat
  ep : Option Addr
  ec : Nat
  gp : Option Addr
  gc : Nat
  tp : Option Addr
  tc : Nat
/-- Metadata with other lists of the same lengths. -/
abbrev Mt.at (m : Mt) (q : Ptr) : Mt := { m with sp := q.sp, sc := q.sc, ep := q.ep, ec := q.ec, gp := q.gp, gc := q.gc, tp := q.tp, tc := q.tc }
def SmR (w wr : World) (m m2 : Mt) : Prop := Bx wr w.heap.size m ∧ Bx wr (w.heap.size + 1) m2 ∧ Below w.heap.size w wr ∧ w.heap.size + 2 ≤ wr.heap.size
theorem SmR.step {w wr wr' : World} {m m2 : Mt} (h : SmR w wr m m2) (hb : Below wr.heap.size wr wr') : SmR w wr' m m2 :=
  ⟨h.1.below hb, h.2.1.below hb, h.2.2.1.trans (hb.mono (by have := h.2.2.2; omega)), by have := h.2.2.2; have := hb.size; omega⟩
theorem below_drewN (w : World) (n : Nat) : Below w.heap.size w (w.drewN n) := ⟨rfl, rfl, rfl, Nat.le_refl _, fun _ _ => rfl⟩
theorem SmR.start (w : World) (m m2 : Mt) : SmR w ((w.alloc (.cells (mtC m) 36)).alloc (.cells (mtC m2) 36)) m m2 := by
  refine ⟨?_, ?_, ?_, ?_⟩
  · exact (show Bx (w.alloc (.cells (mtC m) 36)) w.heap.size m from World.alloc_heap_new w _).below (below_alloc1 _ _)
  · have h : Bx ((w.alloc (.cells (mtC m) 36)).alloc (.cells (mtC m2) 36)) (w.alloc (.cells (mtC m) 36)).heap.size m2 := World.alloc_heap_new _ _
    simpa using h
  · exact (below_alloc1 w _).trans ((below_alloc1 _ _).mono (by simp))
  · simp
theorem cell_below {w w' : World} (h : Below w.heap.size w w') {a : Addr} {v : Value} (hc : w.cell? a = some v) : w'.cell? a = some v := (h.cell (p := a) (World.block_lt_of_cell? w a hc)).trans hc
theorem SegV.below {w w' : World} {v : Value} {n : Nat} {f : Nat → Int × Int × Int} (h : SegV w v n f) (hB : Below w.heap.size w w') : SegV w' v n f := by
  obtain ⟨p, c, hv, h⟩ := h
  exact ⟨p, c, hv, fun hn => by obtain ⟨g, o, hp, hl⟩ := h hn; exact ⟨g, o, hp, fun i hi => ⟨cell_below hB (hl i hi).1, cell_below hB (hl i hi).2.1, cell_below hB (hl i hi).2.2⟩⟩⟩
/-- Both tokens' numbers are the same lists. -/
def TkE (w : World) (T T2 : List Tk) : Prop := ∀ (i : Nat) (x y : Tk), T[i]? = some x → T2[i]? = some y → x.n = y.n ∧ x.s = y.s ∧ x.z = y.z ∧ ∃ zs, View w (.slice x.p x.l x.c) zs ∧ View w (.slice y.p y.l y.c) zs
end Go.Proofs.Ytmfnhdflmnmooaa
namespace Go.Proofs.Ytmfnhdflmnmooaa
open Go.RowKit
set_option linter.unusedVariables false
set_option linter.unusedSimpArgs false
/-- A mark behind a list's end. -/
def Mk (w : World) (p : Option Addr) (n c sz : Nat) (v : Value) : Prop := ∃ g, p = some ⟨g, 0, none⟩ ∧ n + 1 ≤ c ∧ c ≤ 9223372036854775807 ∧ w.cell? ⟨g, n * sz, none⟩ = some v
theorem Mk.below {w w' : World} {p : Option Addr} {n c sz : Nat} {v : Value} (h : Mk w p n c sz v) (hB : Below w.heap.size w w') : Mk w' p n c sz v := by
  obtain ⟨g, hp, h1, h2, h3⟩ := h
  exact ⟨g, hp, h1, h2, cell_below hB h3⟩
/-- The first one's tokens bear marked copies of the second one's numbers. -/
def TkM (B : Nat) (w : World) (T T2 : List Tk) : Prop := ∀ (i : Nat) (x y : Tk), T[i]? = some x → T2[i]? = some y → x.n = y.n ∧ x.s = y.s ∧ x.z = y.z ∧ ∃ zs, Marked B w (.slice x.p x.l x.c) zs ∧ View w (.slice y.p y.l y.c) zs
theorem TkM.e {B : Nat} {w : World} {T T2 : List Tk} (h : TkM B w T T2) : TkE w T T2 := fun i x y hx hy => by
  obtain ⟨a, b, c, zs, h1, h2⟩ := h i x y hx hy
  exact ⟨a, b, c, zs, h1.view, h2⟩
theorem info36s : (Try.prog.info? 36).map (·.size) = some 27 := by kernel_rfl
theorem size36 (m : Mt) : (Try.prog.info? 36).map (·.size) = some (mtC m).toList.length := by rw [info36s]; rfl
end Go.Proofs.Ytmfnhdflmnmooaa
namespace Go.Proofs.Ytmfnhdflmnmooaa
open Go.RowKit
set_option linter.unusedVariables false
set_option linter.unusedSimpArgs false
abbrev metaC (v : Value) : Array Value := #[.string ⟨#[]⟩, .string ⟨#[]⟩, .string ⟨#[]⟩, .string ⟨#[]⟩, .int .i64 0, .int .u64 0, .int .i64 0, .int .i64 0, .int .i64 0, .string ⟨#[]⟩, .string ⟨#[]⟩, .slice none 0 0, .slice none 0 0, v, .bool false, .int .u64 0, .int .u64 0, .bool false, .int .i64 0, .int .u64 0, .int .u64 0, .int .i64 0, .int .i64 0, .bool false, .int .u64 0, .string ⟨#[]⟩, .slice none 0 0]
theorem news_new (w : World) (cs : Array Value) (t : TypeId) : ∀ j u, cs.toList[j]? = some u → (w.alloc (.cells cs t)).cell? ((⟨w.heap.size, 0, none⟩ : Addr).add j) = some u := by
  intro j u hj
  have hc : cs[j]? = some u := by simpa using hj
  have := rangeAt_new w cs t j u hc
  rw [Addr.add_mid, Nat.zero_add]
  exact this
/-- Rows of unlike elements lie in unlike blocks. -/
theorem own_apart {u : World} {B1 e1 s1 n1 B2 e2 s2 n2 : Nat} {v1 v2 : Value} {x1 x2 : List Value} (h1 : u.ownsRow B1 e1 s1 v1 n1 x1) (h2 : u.ownsRow B2 e2 s2 v2 n2 x2) (he : e1 ≠ e2) : v1.ownBlock = none ∨ v1.ownBlock ≠ v2.ownBlock := by
  rcases h1.2 with ⟨rfl, _⟩ | ⟨g, c, cur, rfl, _, hh, _⟩
  · exact .inl rfl
  · rcases h2.2 with ⟨rfl, _⟩ | ⟨g', c', cur', rfl, _, hh', _⟩
    · exact .inr (by simp [Value.ownBlock])
    · refine .inr ?_
      intro h
      simp only [Value.ownBlock, Option.some.injEq] at h
      subst h
      rw [hh] at hh'
      simp at hh'
      exact he hh'.2
/-- What is known between two appends: four rows. -/
structure SpB (w u : World) (b : Nat) (blk : Option Nat) (k1 k2 n3 k4 : Nat) (sl ep sg tk : Value) : Prop where
  o1 : ∃ xs, u.ownsRow w.heap.size 63 9 sl k1 xs
  o2 : ∃ xs, u.ownsRow w.heap.size 38 5 ep k2 xs
  o3 : ∃ xs, u.ownsRow b 65 3 sg n3 xs
  o4 : ∃ xs, u.ownsRow w.heap.size 61 4 tk k4 xs
  gr : w.grownBy u blk
  a3 : ∀ q, sg.ownBlock = some q → some q = blk ∨ w.heap.size ≤ q
theorem SpB.s1 {w u u' : World} {b : Nat} {blk : Option Nat} {k1 k2 n3 k4 k : Nat} {sl ep sg tk sl' : Value} {xs : List Value} (h : SpB w u b blk k1 k2 n3 k4 sl ep sg tk) (o : Obj) (g : (u.alloc o).grownBy u' sl.ownBlock) (n : u'.ownsRow w.heap.size 63 9 sl' k xs) : SpB w u' b blk k k2 n3 k4 sl' ep sg tk := by
  obtain ⟨⟨x1, o1⟩, ⟨x2, o2⟩, ⟨x3, o3⟩, ⟨x4, o4⟩, gr, a3⟩ := h
  have p := o1.alloc o
  refine ⟨⟨_, n⟩, ⟨_, (o2.alloc o).kept g (own_apart (o2.alloc o) p (by decide))⟩, ⟨_, (o3.alloc o).kept g (own_apart (o3.alloc o) p (by decide))⟩, ⟨_, (o4.alloc o).kept g (own_apart (o4.alloc o) p (by decide))⟩, ?_, a3⟩
  exact grown_trans (grown_trans gr (World.grownBy_alloc u o none) (fun _ _ _ => by simp)) g (fun q hq _ e => by have := (o1.lt q e.symm).1; omega)
theorem SpB.s2 {w u u' : World} {b : Nat} {blk : Option Nat} {k1 k2 n3 k4 k : Nat} {sl ep sg tk ep' : Value} {xs : List Value} (h : SpB w u b blk k1 k2 n3 k4 sl ep sg tk) (o : Obj) (g : (u.alloc o).grownBy u' ep.ownBlock) (n : u'.ownsRow w.heap.size 38 5 ep' k xs) : SpB w u' b blk k1 k n3 k4 sl ep' sg tk := by
  obtain ⟨⟨x1, o1⟩, ⟨x2, o2⟩, ⟨x3, o3⟩, ⟨x4, o4⟩, gr, a3⟩ := h
  have p := o2.alloc o
  refine ⟨⟨_, (o1.alloc o).kept g (own_apart (o1.alloc o) p (by decide))⟩, ⟨_, n⟩, ⟨_, (o3.alloc o).kept g (own_apart (o3.alloc o) p (by decide))⟩, ⟨_, (o4.alloc o).kept g (own_apart (o4.alloc o) p (by decide))⟩, ?_, a3⟩
  exact grown_trans (grown_trans gr (World.grownBy_alloc u o none) (fun _ _ _ => by simp)) g (fun q hq _ e => by have := (o2.lt q e.symm).1; omega)
theorem SpB.s3 {w u u' : World} {b : Nat} {blk : Option Nat} {k1 k2 n3 k4 k g' c' : Nat} {sl ep sg tk : Value} {xs : List Value} (h : SpB w u b blk k1 k2 n3 k4 sl ep sg tk) (o : Obj) (g : (u.alloc o).grownBy u' sg.ownBlock) (n : u'.ownsRow b 65 3 (.slice (some ⟨g', 0, none⟩) k c') k xs) (a : sg.ownBlock = some g' ∨ g' = u.heap.size + 1) : SpB w u' b blk k1 k2 k k4 sl ep (.slice (some ⟨g', 0, none⟩) k c') tk := by
  obtain ⟨⟨x1, o1⟩, ⟨x2, o2⟩, ⟨x3, o3⟩, ⟨x4, o4⟩, gr, a3⟩ := h
  have p := o3.alloc o
  refine ⟨⟨_, (o1.alloc o).kept g (own_apart (o1.alloc o) p (by decide))⟩, ⟨_, (o2.alloc o).kept g (own_apart (o2.alloc o) p (by decide))⟩, ⟨_, n⟩, ⟨_, (o4.alloc o).kept g (own_apart (o4.alloc o) p (by decide))⟩, ?_, ?_⟩
  · exact grown_trans (grown_trans gr (World.grownBy_alloc u o none) (fun _ _ _ => by simp)) g (fun q hq hne e => by
      rcases a3 q e.symm with h | h
      · exact hne h
      · omega)
  · intro q hq
    simp only [Value.ownBlock, Option.some.injEq] at hq
    subst hq
    rcases a with h | h
    · exact a3 _ h
    · have := gr.size
      exact .inr (by omega)
theorem SpB.s4 {w u u' : World} {b : Nat} {blk : Option Nat} {k1 k2 n3 k4 k : Nat} {sl ep sg tk tk' : Value} {xs : List Value} (h : SpB w u b blk k1 k2 n3 k4 sl ep sg tk) (o : Obj) (g : (u.alloc o).grownBy u' tk.ownBlock) (n : u'.ownsRow w.heap.size 61 4 tk' k xs) : SpB w u' b blk k1 k2 n3 k sl ep sg tk' := by
  obtain ⟨⟨x1, o1⟩, ⟨x2, o2⟩, ⟨x3, o3⟩, ⟨x4, o4⟩, gr, a3⟩ := h
  have p := o4.alloc o
  refine ⟨⟨_, (o1.alloc o).kept g (own_apart (o1.alloc o) p (by decide))⟩, ⟨_, (o2.alloc o).kept g (own_apart (o2.alloc o) p (by decide))⟩, ⟨_, (o3.alloc o).kept g (own_apart (o3.alloc o) p (by decide))⟩, ⟨_, n⟩, ?_, a3⟩
  exact grown_trans (grown_trans gr (World.grownBy_alloc u o none) (fun _ _ _ => by simp)) g (fun q hq _ e => by have := (o4.lt q e.symm).1; omega)
end Go.Proofs.Ytmfnhdflmnmooaa
