import Derived.Test.YtchfbanehohjoaaShd
namespace Go.Proofs.Ytchfbanehohjoaa
open Go.RowKit
set_option linter.unusedVariables false
set_option linter.unusedSimpArgs false
/-- The document's loop over the heads. -/
def hd (i : Nat) : Nat := 16384 * 2 ^ i
def seen (H : Int) : Nat → Bool
  | 0 => false
  | i + 1 => seen H i || H == (hd i : Nat)
theorem seen_9 (H : Int) : seen H 9 = headB H := by
  simp [seen, hd, headB]
theorem hd_succ (i : Nat) : hd (i + 1) = 2 * hd i := by unfold hd; rw [Nat.pow_succ]; omega
theorem hd_le (i : Nat) (h : i ≤ 8) : hd i ≤ 4194304 := by
  match i, h with
  | 0, _ => decide
  | 1, _ => decide
  | 2, _ => decide
  | 3, _ => decide
  | 4, _ => decide
  | 5, _ => decide
  | 6, _ => decide
  | 7, _ => decide
  | 8, _ => decide
theorem hd_gt (i : Nat) (h : hd i ≤ 4194304) (hi : i ≤ 9) : i ≤ 8 := by
  rcases Nat.lt_or_ge i 9 with q | q
  · omega
  · obtain rfl : i = 9 := by omega
    exact absurd h (by decide)
set_option maxHeartbeats 1600000 in
theorem rsec_0 (U C H K : Int) (w : World) (hu : unitB U = false) : Calls Try.prog 12 #[.agg #[.int .i64 U, .int .u64 C, .int .i64 H, .int .i64 K]] w fun e w' => Hid (e = .returned (.tuple #[.int .u64 0, .int .i64 90]) ∧ Below w.heap.size w w') := by
  have HU : Hid (∀ v, Calls Try.prog 18 #[.int .i64 U] v fun e w' => e = .returned (.bool false) ∧ w' = v) := fun v => by have q := runit_ok U v; rw [hu] at q; exact q
  have HA : Hid (SAt (w.alloc (.cells #[.int .i64 U, .int .u64 C, .int .i64 H, .int .i64 K] 24)) w.heap.size U C H K ∧ Below w.heap.size w (w.alloc (.cells #[.int .i64 U, .int .u64 C, .int .i64 H, .int .i64 K] 24))) := ⟨SAt.new _ _ _ _ _ _, below_alloc1 _ _⟩
  go_enter Try.func12, Try.ntmps12
  go_upto_region 1 with fail
  generalize w.alloc (.cells #[.int .i64 U, .int .u64 C, .int .i64 H, .int .i64 K] 24) = w0 at HA ⊢
  have c0 := HA.out.1.c0
  have c1 := HA.out.1.c1
  have c2 := HA.out.1.c2
  have c3 := HA.out.1.c3
  go_wp2
  go_loopw [4, 5] (fun vb vh wr => ∃ i m : Nat, ∃ b : Bool, i ≤ 9 ∧ Hid (m = hd i) ∧ m ≤ 8388608 ∧ vb = .bool b ∧ Hid (b = seen H i) ∧ vh = .int .i64 (m : Nat) ∧ wr = w0) (fun _ vh _ => 8388609 - (intOf vh).toNat)
  case atStart => exact ⟨0, 16384, false, by omega, rfl, by omega, rfl, rfl, rfl, rfl⟩
  case round =>
    obtain ⟨i, m, b, hi, HM, hm, rfl, HBB, rfl, hw⟩ := hrel
    obtain rfl := hw.symm
    have hm0 : 16384 ≤ m := by rw [HM.out, hd]; have : 1 ≤ 2 ^ i := Nat.one_le_two_pow; omega
    by_cases hle : ((m : Nat) : Int) ≤ 4194304
    · have hi8 : i ≤ 8 := hd_gt i (by rw [← HM.out]; omega) hi
      cases b with
      | true =>
        go_wp2
        go_roundw
        case rel => exact ⟨i + 1, 2 * m, true, by omega, (by show _ = _; rw [hd_succ, ← HM.out]), by omega, rfl, (by show _ = _; rw [seen, ← HBB.out]; rfl), by go_num, trivial⟩
        case measure => simp [intOf]; omega
      | false =>
        obtain ⟨x, HX⟩ : ∃ x, Hid (x = (H == ((m : Nat) : Int))) := ⟨_, rfl⟩
        have hx' : (H == ((m : Nat) : Int)) = x := HX.out.symm
        go_wp2
        go_roundw
        case rel => exact ⟨i + 1, 2 * m, x, by omega, (by show _ = _; rw [hd_succ, ← HM.out]), by omega, rfl, (by show _ = _; rw [seen, ← HBB.out, HX.out, HM.out]; rfl), by go_num, trivial⟩
        case measure => simp [intOf]; omega
    · have hi9 : i = 9 := by
        rcases Nat.lt_or_ge i 9 with q | q
        · have := hd_le i (by omega); rw [← HM.out] at this; omega
        · omega
      have hb : b = headB H := by rw [HBB.out, hi9, seen_9]
      subst hb
      go_wp2_with (go_at_call 18; refine (HU.out _).mono ?_; rintro e5 w5 ⟨rfl, hw5⟩; obtain rfl := hw5.symm)
      go_ret2
      exact ⟨rfl, HA.out.2⟩
set_option maxHeartbeats 1600000 in
theorem rsec_1 (U C H K : Int) (w : World) (hu : unitB U = true) (hh : headB H = false) : Calls Try.prog 12 #[.agg #[.int .i64 U, .int .u64 C, .int .i64 H, .int .i64 K]] w fun e w' => Hid (e = .returned (.tuple #[.int .u64 0, .int .i64 90]) ∧ Below w.heap.size w w') := by
  have HU : Hid (∀ v, Calls Try.prog 18 #[.int .i64 U] v fun e w' => e = .returned (.bool true) ∧ w' = v) := fun v => by have q := runit_ok U v; rw [hu] at q; exact q
  have HA : Hid (SAt (w.alloc (.cells #[.int .i64 U, .int .u64 C, .int .i64 H, .int .i64 K] 24)) w.heap.size U C H K ∧ Below w.heap.size w (w.alloc (.cells #[.int .i64 U, .int .u64 C, .int .i64 H, .int .i64 K] 24))) := ⟨SAt.new _ _ _ _ _ _, below_alloc1 _ _⟩
  go_enter Try.func12, Try.ntmps12
  go_upto_region 1 with fail
  generalize w.alloc (.cells #[.int .i64 U, .int .u64 C, .int .i64 H, .int .i64 K] 24) = w0 at HA ⊢
  have c0 := HA.out.1.c0
  have c1 := HA.out.1.c1
  have c2 := HA.out.1.c2
  have c3 := HA.out.1.c3
  go_wp2
  go_loopw [4, 5] (fun vb vh wr => ∃ i m : Nat, ∃ b : Bool, i ≤ 9 ∧ Hid (m = hd i) ∧ m ≤ 8388608 ∧ vb = .bool b ∧ Hid (b = seen H i) ∧ vh = .int .i64 (m : Nat) ∧ wr = w0) (fun _ vh _ => 8388609 - (intOf vh).toNat)
  case atStart => exact ⟨0, 16384, false, by omega, rfl, by omega, rfl, rfl, rfl, rfl⟩
  case round =>
    obtain ⟨i, m, b, hi, HM, hm, rfl, HBB, rfl, hw⟩ := hrel
    obtain rfl := hw.symm
    have hm0 : 16384 ≤ m := by rw [HM.out, hd]; have : 1 ≤ 2 ^ i := Nat.one_le_two_pow; omega
    by_cases hle : ((m : Nat) : Int) ≤ 4194304
    · have hi8 : i ≤ 8 := hd_gt i (by rw [← HM.out]; omega) hi
      cases b with
      | true =>
        go_wp2
        go_roundw
        case rel => exact ⟨i + 1, 2 * m, true, by omega, (by show _ = _; rw [hd_succ, ← HM.out]), by omega, rfl, (by show _ = _; rw [seen, ← HBB.out]; rfl), by go_num, trivial⟩
        case measure => simp [intOf]; omega
      | false =>
        obtain ⟨x, HX⟩ : ∃ x, Hid (x = (H == ((m : Nat) : Int))) := ⟨_, rfl⟩
        have hx' : (H == ((m : Nat) : Int)) = x := HX.out.symm
        go_wp2
        go_roundw
        case rel => exact ⟨i + 1, 2 * m, x, by omega, (by show _ = _; rw [hd_succ, ← HM.out]), by omega, rfl, (by show _ = _; rw [seen, ← HBB.out, HX.out, HM.out]; rfl), by go_num, trivial⟩
        case measure => simp [intOf]; omega
    · have hi9 : i = 9 := by
        rcases Nat.lt_or_ge i 9 with q | q
        · have := hd_le i (by omega); rw [← HM.out] at this; omega
        · omega
      have hb : b = false := by rw [HBB.out, hi9, seen_9]; exact hh
      subst hb
      go_wp2_with (go_at_call 18; refine (HU.out _).mono ?_; rintro e5 w5 ⟨rfl, hw5⟩; obtain rfl := hw5.symm)
      go_ret2
      exact ⟨rfl, HA.out.2⟩
set_option maxHeartbeats 1600000 in
theorem rsec_2 (U C H K : Int) (w : World) (hu : unitB U = true) (hh : headB H = true) (k1 : ¬ 4096 ≤ K) : Calls Try.prog 12 #[.agg #[.int .i64 U, .int .u64 C, .int .i64 H, .int .i64 K]] w fun e w' => Hid (e = .returned (.tuple #[.int .u64 0, .int .i64 90]) ∧ Below w.heap.size w w') := by
  have HU : Hid (∀ v, Calls Try.prog 18 #[.int .i64 U] v fun e w' => e = .returned (.bool true) ∧ w' = v) := fun v => by have q := runit_ok U v; rw [hu] at q; exact q
  have qk1 : decide (K < 4096) = true := by simp; omega
  have HA : Hid (SAt (w.alloc (.cells #[.int .i64 U, .int .u64 C, .int .i64 H, .int .i64 K] 24)) w.heap.size U C H K ∧ Below w.heap.size w (w.alloc (.cells #[.int .i64 U, .int .u64 C, .int .i64 H, .int .i64 K] 24))) := ⟨SAt.new _ _ _ _ _ _, below_alloc1 _ _⟩
  go_enter Try.func12, Try.ntmps12
  go_upto_region 1 with fail
  generalize w.alloc (.cells #[.int .i64 U, .int .u64 C, .int .i64 H, .int .i64 K] 24) = w0 at HA ⊢
  have c0 := HA.out.1.c0
  have c1 := HA.out.1.c1
  have c2 := HA.out.1.c2
  have c3 := HA.out.1.c3
  go_wp2
  go_loopw [4, 5] (fun vb vh wr => ∃ i m : Nat, ∃ b : Bool, i ≤ 9 ∧ Hid (m = hd i) ∧ m ≤ 8388608 ∧ vb = .bool b ∧ Hid (b = seen H i) ∧ vh = .int .i64 (m : Nat) ∧ wr = w0) (fun _ vh _ => 8388609 - (intOf vh).toNat)
  case atStart => exact ⟨0, 16384, false, by omega, rfl, by omega, rfl, rfl, rfl, rfl⟩
  case round =>
    obtain ⟨i, m, b, hi, HM, hm, rfl, HBB, rfl, hw⟩ := hrel
    obtain rfl := hw.symm
    have hm0 : 16384 ≤ m := by rw [HM.out, hd]; have : 1 ≤ 2 ^ i := Nat.one_le_two_pow; omega
    by_cases hle : ((m : Nat) : Int) ≤ 4194304
    · have hi8 : i ≤ 8 := hd_gt i (by rw [← HM.out]; omega) hi
      cases b with
      | true =>
        go_wp2
        go_roundw
        case rel => exact ⟨i + 1, 2 * m, true, by omega, (by show _ = _; rw [hd_succ, ← HM.out]), by omega, rfl, (by show _ = _; rw [seen, ← HBB.out]; rfl), by go_num, trivial⟩
        case measure => simp [intOf]; omega
      | false =>
        obtain ⟨x, HX⟩ : ∃ x, Hid (x = (H == ((m : Nat) : Int))) := ⟨_, rfl⟩
        have hx' : (H == ((m : Nat) : Int)) = x := HX.out.symm
        go_wp2
        go_roundw
        case rel => exact ⟨i + 1, 2 * m, x, by omega, (by show _ = _; rw [hd_succ, ← HM.out]), by omega, rfl, (by show _ = _; rw [seen, ← HBB.out, HX.out, HM.out]; rfl), by go_num, trivial⟩
        case measure => simp [intOf]; omega
    · have hi9 : i = 9 := by
        rcases Nat.lt_or_ge i 9 with q | q
        · have := hd_le i (by omega); rw [← HM.out] at this; omega
        · omega
      have hb : b = true := by rw [HBB.out, hi9, seen_9]; exact hh
      subst hb
      go_wp2_with (go_at_call 18; refine (HU.out _).mono ?_; rintro e5 w5 ⟨rfl, hw5⟩; obtain rfl := hw5.symm)
      go_ret2
      exact ⟨rfl, HA.out.2⟩
set_option maxHeartbeats 1600000 in
theorem rsec_3 (U C H K : Int) (w : World) (hu : unitB U = true) (hh : headB H = true) (k1 : 4096 ≤ K) (k2 : ¬ K ≤ 134217728) : Calls Try.prog 12 #[.agg #[.int .i64 U, .int .u64 C, .int .i64 H, .int .i64 K]] w fun e w' => Hid (e = .returned (.tuple #[.int .u64 0, .int .i64 90]) ∧ Below w.heap.size w w') := by
  have HU : Hid (∀ v, Calls Try.prog 18 #[.int .i64 U] v fun e w' => e = .returned (.bool true) ∧ w' = v) := fun v => by have q := runit_ok U v; rw [hu] at q; exact q
  have qk1 : decide (K < 4096) = false := by simp; omega
  have qk2 : decide (134217728 < K) = true := by simp; omega
  have HA : Hid (SAt (w.alloc (.cells #[.int .i64 U, .int .u64 C, .int .i64 H, .int .i64 K] 24)) w.heap.size U C H K ∧ Below w.heap.size w (w.alloc (.cells #[.int .i64 U, .int .u64 C, .int .i64 H, .int .i64 K] 24))) := ⟨SAt.new _ _ _ _ _ _, below_alloc1 _ _⟩
  go_enter Try.func12, Try.ntmps12
  go_upto_region 1 with fail
  generalize w.alloc (.cells #[.int .i64 U, .int .u64 C, .int .i64 H, .int .i64 K] 24) = w0 at HA ⊢
  have c0 := HA.out.1.c0
  have c1 := HA.out.1.c1
  have c2 := HA.out.1.c2
  have c3 := HA.out.1.c3
  go_wp2
  go_loopw [4, 5] (fun vb vh wr => ∃ i m : Nat, ∃ b : Bool, i ≤ 9 ∧ Hid (m = hd i) ∧ m ≤ 8388608 ∧ vb = .bool b ∧ Hid (b = seen H i) ∧ vh = .int .i64 (m : Nat) ∧ wr = w0) (fun _ vh _ => 8388609 - (intOf vh).toNat)
  case atStart => exact ⟨0, 16384, false, by omega, rfl, by omega, rfl, rfl, rfl, rfl⟩
  case round =>
    obtain ⟨i, m, b, hi, HM, hm, rfl, HBB, rfl, hw⟩ := hrel
    obtain rfl := hw.symm
    have hm0 : 16384 ≤ m := by rw [HM.out, hd]; have : 1 ≤ 2 ^ i := Nat.one_le_two_pow; omega
    by_cases hle : ((m : Nat) : Int) ≤ 4194304
    · have hi8 : i ≤ 8 := hd_gt i (by rw [← HM.out]; omega) hi
      cases b with
      | true =>
        go_wp2
        go_roundw
        case rel => exact ⟨i + 1, 2 * m, true, by omega, (by show _ = _; rw [hd_succ, ← HM.out]), by omega, rfl, (by show _ = _; rw [seen, ← HBB.out]; rfl), by go_num, trivial⟩
        case measure => simp [intOf]; omega
      | false =>
        obtain ⟨x, HX⟩ : ∃ x, Hid (x = (H == ((m : Nat) : Int))) := ⟨_, rfl⟩
        have hx' : (H == ((m : Nat) : Int)) = x := HX.out.symm
        go_wp2
        go_roundw
        case rel => exact ⟨i + 1, 2 * m, x, by omega, (by show _ = _; rw [hd_succ, ← HM.out]), by omega, rfl, (by show _ = _; rw [seen, ← HBB.out, HX.out, HM.out]; rfl), by go_num, trivial⟩
        case measure => simp [intOf]; omega
    · have hi9 : i = 9 := by
        rcases Nat.lt_or_ge i 9 with q | q
        · have := hd_le i (by omega); rw [← HM.out] at this; omega
        · omega
      have hb : b = true := by rw [HBB.out, hi9, seen_9]; exact hh
      subst hb
      go_wp2_with (go_at_call 18; refine (HU.out _).mono ?_; rintro e5 w5 ⟨rfl, hw5⟩; obtain rfl := hw5.symm)
      go_ret2
      exact ⟨rfl, HA.out.2⟩
set_option maxHeartbeats 1600000 in
theorem rsec_4 (U C H K : Int) (w : World) (hu : unitB U = true) (hh : headB H = true) (k1 : 4096 ≤ K) (k2 : K ≤ 134217728) (k3 : ¬ K % 4096 = 0) : Calls Try.prog 12 #[.agg #[.int .i64 U, .int .u64 C, .int .i64 H, .int .i64 K]] w fun e w' => Hid (e = .returned (.tuple #[.int .u64 0, .int .i64 90]) ∧ Below w.heap.size w w') := by
  have HU : Hid (∀ v, Calls Try.prog 18 #[.int .i64 U] v fun e w' => e = .returned (.bool true) ∧ w' = v) := fun v => by have q := runit_ok U v; rw [hu] at q; exact q
  have qk1 : decide (K < 4096) = false := by simp; omega
  have qk2 : decide (134217728 < K) = false := by simp; omega
  have qk3 : (K.tmod 4096 == 0) = false := by rw [Int.tmod_eq_emod_of_nonneg (by omega)]; exact beq_eq_false_iff_ne.2 k3
  have HA : Hid (SAt (w.alloc (.cells #[.int .i64 U, .int .u64 C, .int .i64 H, .int .i64 K] 24)) w.heap.size U C H K ∧ Below w.heap.size w (w.alloc (.cells #[.int .i64 U, .int .u64 C, .int .i64 H, .int .i64 K] 24))) := ⟨SAt.new _ _ _ _ _ _, below_alloc1 _ _⟩
  go_enter Try.func12, Try.ntmps12
  go_upto_region 1 with fail
  generalize w.alloc (.cells #[.int .i64 U, .int .u64 C, .int .i64 H, .int .i64 K] 24) = w0 at HA ⊢
  have c0 := HA.out.1.c0
  have c1 := HA.out.1.c1
  have c2 := HA.out.1.c2
  have c3 := HA.out.1.c3
  go_wp2
  go_loopw [4, 5] (fun vb vh wr => ∃ i m : Nat, ∃ b : Bool, i ≤ 9 ∧ Hid (m = hd i) ∧ m ≤ 8388608 ∧ vb = .bool b ∧ Hid (b = seen H i) ∧ vh = .int .i64 (m : Nat) ∧ wr = w0) (fun _ vh _ => 8388609 - (intOf vh).toNat)
  case atStart => exact ⟨0, 16384, false, by omega, rfl, by omega, rfl, rfl, rfl, rfl⟩
  case round =>
    obtain ⟨i, m, b, hi, HM, hm, rfl, HBB, rfl, hw⟩ := hrel
    obtain rfl := hw.symm
    have hm0 : 16384 ≤ m := by rw [HM.out, hd]; have : 1 ≤ 2 ^ i := Nat.one_le_two_pow; omega
    by_cases hle : ((m : Nat) : Int) ≤ 4194304
    · have hi8 : i ≤ 8 := hd_gt i (by rw [← HM.out]; omega) hi
      cases b with
      | true =>
        go_wp2
        go_roundw
        case rel => exact ⟨i + 1, 2 * m, true, by omega, (by show _ = _; rw [hd_succ, ← HM.out]), by omega, rfl, (by show _ = _; rw [seen, ← HBB.out]; rfl), by go_num, trivial⟩
        case measure => simp [intOf]; omega
      | false =>
        obtain ⟨x, HX⟩ : ∃ x, Hid (x = (H == ((m : Nat) : Int))) := ⟨_, rfl⟩
        have hx' : (H == ((m : Nat) : Int)) = x := HX.out.symm
        go_wp2
        go_roundw
        case rel => exact ⟨i + 1, 2 * m, x, by omega, (by show _ = _; rw [hd_succ, ← HM.out]), by omega, rfl, (by show _ = _; rw [seen, ← HBB.out, HX.out, HM.out]; rfl), by go_num, trivial⟩
        case measure => simp [intOf]; omega
    · have hi9 : i = 9 := by
        rcases Nat.lt_or_ge i 9 with q | q
        · have := hd_le i (by omega); rw [← HM.out] at this; omega
        · omega
      have hb : b = true := by rw [HBB.out, hi9, seen_9]; exact hh
      subst hb
      go_wp2_with (go_at_call 18; refine (HU.out _).mono ?_; rintro e5 w5 ⟨rfl, hw5⟩; obtain rfl := hw5.symm)
      go_ret2
      exact ⟨rfl, HA.out.2⟩
set_option maxHeartbeats 1600000 in
theorem rsec_5 (U C H K : Int) (w : World) (hu : unitB U = true) (hh : headB H = true) (k1 : 4096 ≤ K) (k2 : K ≤ 134217728) (k3 : K % 4096 = 0) (cc : ¬ C ≤ 4294967296) : Calls Try.prog 12 #[.agg #[.int .i64 U, .int .u64 C, .int .i64 H, .int .i64 K]] w fun e w' => Hid (e = .returned (.tuple #[.int .u64 0, .int .i64 90]) ∧ Below w.heap.size w w') := by
  have HU : Hid (∀ v, Calls Try.prog 18 #[.int .i64 U] v fun e w' => e = .returned (.bool true) ∧ w' = v) := fun v => by have q := runit_ok U v; rw [hu] at q; exact q
  have qk1 : decide (K < 4096) = false := by simp; omega
  have qk2 : decide (134217728 < K) = false := by simp; omega
  have qk3 : (K.tmod 4096 == 0) = true := by rw [Int.tmod_eq_emod_of_nonneg (by omega)]; simpa using k3
  have qcc : decide (4294967296 < C) = true := by simp; omega
  have HA : Hid (SAt (w.alloc (.cells #[.int .i64 U, .int .u64 C, .int .i64 H, .int .i64 K] 24)) w.heap.size U C H K ∧ Below w.heap.size w (w.alloc (.cells #[.int .i64 U, .int .u64 C, .int .i64 H, .int .i64 K] 24))) := ⟨SAt.new _ _ _ _ _ _, below_alloc1 _ _⟩
  go_enter Try.func12, Try.ntmps12
  go_upto_region 1 with fail
  generalize w.alloc (.cells #[.int .i64 U, .int .u64 C, .int .i64 H, .int .i64 K] 24) = w0 at HA ⊢
  have c0 := HA.out.1.c0
  have c1 := HA.out.1.c1
  have c2 := HA.out.1.c2
  have c3 := HA.out.1.c3
  go_wp2
  go_loopw [4, 5] (fun vb vh wr => ∃ i m : Nat, ∃ b : Bool, i ≤ 9 ∧ Hid (m = hd i) ∧ m ≤ 8388608 ∧ vb = .bool b ∧ Hid (b = seen H i) ∧ vh = .int .i64 (m : Nat) ∧ wr = w0) (fun _ vh _ => 8388609 - (intOf vh).toNat)
  case atStart => exact ⟨0, 16384, false, by omega, rfl, by omega, rfl, rfl, rfl, rfl⟩
  case round =>
    obtain ⟨i, m, b, hi, HM, hm, rfl, HBB, rfl, hw⟩ := hrel
    obtain rfl := hw.symm
    have hm0 : 16384 ≤ m := by rw [HM.out, hd]; have : 1 ≤ 2 ^ i := Nat.one_le_two_pow; omega
    by_cases hle : ((m : Nat) : Int) ≤ 4194304
    · have hi8 : i ≤ 8 := hd_gt i (by rw [← HM.out]; omega) hi
      cases b with
      | true =>
        go_wp2
        go_roundw
        case rel => exact ⟨i + 1, 2 * m, true, by omega, (by show _ = _; rw [hd_succ, ← HM.out]), by omega, rfl, (by show _ = _; rw [seen, ← HBB.out]; rfl), by go_num, trivial⟩
        case measure => simp [intOf]; omega
      | false =>
        obtain ⟨x, HX⟩ : ∃ x, Hid (x = (H == ((m : Nat) : Int))) := ⟨_, rfl⟩
        have hx' : (H == ((m : Nat) : Int)) = x := HX.out.symm
        go_wp2
        go_roundw
        case rel => exact ⟨i + 1, 2 * m, x, by omega, (by show _ = _; rw [hd_succ, ← HM.out]), by omega, rfl, (by show _ = _; rw [seen, ← HBB.out, HX.out, HM.out]; rfl), by go_num, trivial⟩
        case measure => simp [intOf]; omega
    · have hi9 : i = 9 := by
        rcases Nat.lt_or_ge i 9 with q | q
        · have := hd_le i (by omega); rw [← HM.out] at this; omega
        · omega
      have hb : b = true := by rw [HBB.out, hi9, seen_9]; exact hh
      subst hb
      go_wp2_with (go_at_call 18; refine (HU.out _).mono ?_; rintro e5 w5 ⟨rfl, hw5⟩; obtain rfl := hw5.symm)
      go_ret2
      exact ⟨rfl, HA.out.2⟩
set_option maxHeartbeats 1600000 in
theorem rsec_le_512 (C H K : Int) (w : World) (hh : headB H = true) (k1 : 4096 ≤ K) (k2 : K ≤ 134217728) (k3 : K % 4096 = 0) (cc : C ≤ 4294967296) (c00 : 0 ≤ C) (hlt : C * 512 ≤ 2 * H + K) : Calls Try.prog 12 #[.agg #[.int .i64 512, .int .u64 C, .int .i64 H, .int .i64 K]] w fun e w' => Hid (e = .returned (.tuple #[.int .u64 0, .int .i64 90]) ∧ Below w.heap.size w w') := by
  have HU : Hid (∀ v, Calls Try.prog 18 #[.int .i64 512] v fun e w' => e = .returned (.bool true) ∧ w' = v) := fun v => by have q := runit_ok 512 v; rw [(by decide : unitB 512 = true)] at q; exact q
  obtain ⟨h1, h2⟩ := headB_range hh
  have qk1 : decide (K < 4096) = false := by simp; omega
  have qk2 : decide (134217728 < K) = false := by simp; omega
  have qk3 : (K.tmod 4096 == 0) = true := by rw [Int.tmod_eq_emod_of_nonneg (by omega)]; simpa using k3
  have qcc : decide (4294967296 < C) = false := by simp; omega
  have ql : decide (C * 512 ≤ 2 * H + K) = true := by simpa using hlt
  have HA : Hid (SAt (w.alloc (.cells #[.int .i64 512, .int .u64 C, .int .i64 H, .int .i64 K] 24)) w.heap.size 512 C H K ∧ Below w.heap.size w (w.alloc (.cells #[.int .i64 512, .int .u64 C, .int .i64 H, .int .i64 K] 24))) := ⟨SAt.new _ _ _ _ _ _, below_alloc1 _ _⟩
  go_enter Try.func12, Try.ntmps12
  go_upto_region 1 with fail
  generalize w.alloc (.cells #[.int .i64 512, .int .u64 C, .int .i64 H, .int .i64 K] 24) = w0 at HA ⊢
  have c0 := HA.out.1.c0
  have c1 := HA.out.1.c1
  have c2 := HA.out.1.c2
  have c3 := HA.out.1.c3
  go_wp2
  go_loopw [4, 5] (fun vb vh wr => ∃ i m : Nat, ∃ b : Bool, i ≤ 9 ∧ Hid (m = hd i) ∧ m ≤ 8388608 ∧ vb = .bool b ∧ Hid (b = seen H i) ∧ vh = .int .i64 (m : Nat) ∧ wr = w0) (fun _ vh _ => 8388609 - (intOf vh).toNat)
  case atStart => exact ⟨0, 16384, false, by omega, rfl, by omega, rfl, rfl, rfl, rfl⟩
  case round =>
    obtain ⟨i, m, b, hi, HM, hm, rfl, HBB, rfl, hw⟩ := hrel
    obtain rfl := hw.symm
    have hm0 : 16384 ≤ m := by rw [HM.out, hd]; have : 1 ≤ 2 ^ i := Nat.one_le_two_pow; omega
    by_cases hle : ((m : Nat) : Int) ≤ 4194304
    · have hi8 : i ≤ 8 := hd_gt i (by rw [← HM.out]; omega) hi
      cases b with
      | true =>
        go_wp2
        go_roundw
        case rel => exact ⟨i + 1, 2 * m, true, by omega, (by show _ = _; rw [hd_succ, ← HM.out]), by omega, rfl, (by show _ = _; rw [seen, ← HBB.out]; rfl), by go_num, trivial⟩
        case measure => simp [intOf]; omega
      | false =>
        obtain ⟨x, HX⟩ : ∃ x, Hid (x = (H == ((m : Nat) : Int))) := ⟨_, rfl⟩
        have hx' : (H == ((m : Nat) : Int)) = x := HX.out.symm
        go_wp2
        go_roundw
        case rel => exact ⟨i + 1, 2 * m, x, by omega, (by show _ = _; rw [hd_succ, ← HM.out]), by omega, rfl, (by show _ = _; rw [seen, ← HBB.out, HX.out, HM.out]; rfl), by go_num, trivial⟩
        case measure => simp [intOf]; omega
    · have hi9 : i = 9 := by
        rcases Nat.lt_or_ge i 9 with q | q
        · have := hd_le i (by omega); rw [← HM.out] at this; omega
        · omega
      have hb : b = true := by rw [HBB.out, hi9, seen_9]; exact hh
      subst hb
      go_wp2_with (go_at_call 18; refine (HU.out _).mono ?_; rintro e5 w5 ⟨rfl, hw5⟩; obtain rfl := hw5.symm)
      go_ret2
      exact ⟨rfl, HA.out.2⟩
set_option maxHeartbeats 1600000 in
theorem rsec_gt_512 (C H K : Int) (w : World) (hh : headB H = true) (k1 : 4096 ≤ K) (k2 : K ≤ 134217728) (k3 : K % 4096 = 0) (cc : C ≤ 4294967296) (c00 : 0 ≤ C) (hlt : 2 * H + K < C * 512) : Calls Try.prog 12 #[.agg #[.int .i64 512, .int .u64 C, .int .i64 H, .int .i64 K]] w fun e w' => Hid (e = .returned (.tuple #[.int .u64 (C - (2 * H + K) / 512), .int .i64 0]) ∧ Below w.heap.size w w') := by
  have HU : Hid (∀ v, Calls Try.prog 18 #[.int .i64 512] v fun e w' => e = .returned (.bool true) ∧ w' = v) := fun v => by have q := runit_ok 512 v; rw [(by decide : unitB 512 = true)] at q; exact q
  obtain ⟨h1, h2⟩ := headB_range hh
  have qk1 : decide (K < 4096) = false := by simp; omega
  have qk2 : decide (134217728 < K) = false := by simp; omega
  have qk3 : (K.tmod 4096 == 0) = true := by rw [Int.tmod_eq_emod_of_nonneg (by omega)]; simpa using k3
  have qcc : decide (4294967296 < C) = false := by simp; omega
  have ql : decide (C * 512 ≤ 2 * H + K) = false := by simp; omega
  obtain ⟨q, hq⟩ : ∃ q, q = (2 * H + K) / 512 := ⟨_, rfl⟩
  have hq2 : 0 ≤ q ∧ q ≤ C := by
    rw [hq]
    omega
  have hdv : (2 * H + K).tdiv 512 = q := by rw [Int.tdiv_eq_ediv_of_nonneg (by omega), ← hq]
  have hw1 : IntKind.u64.wrap q = q := by rw [IntKind.wrap_u64]; omega
  have hw2 : IntKind.u64.wrap (C - q) = C - q := by rw [IntKind.wrap_u64]; omega
  have hw3 : IntKind.u64.wrap (2 * H + K) = 2 * H + K := by rw [IntKind.wrap_u64]; omega
  rw [← hq]
  clear hq
  have HA : Hid (SAt (w.alloc (.cells #[.int .i64 512, .int .u64 C, .int .i64 H, .int .i64 K] 24)) w.heap.size 512 C H K ∧ Below w.heap.size w (w.alloc (.cells #[.int .i64 512, .int .u64 C, .int .i64 H, .int .i64 K] 24))) := ⟨SAt.new _ _ _ _ _ _, below_alloc1 _ _⟩
  go_enter Try.func12, Try.ntmps12
  go_upto_region 1 with fail
  generalize w.alloc (.cells #[.int .i64 512, .int .u64 C, .int .i64 H, .int .i64 K] 24) = w0 at HA ⊢
  have c0 := HA.out.1.c0
  have c1 := HA.out.1.c1
  have c2 := HA.out.1.c2
  have c3 := HA.out.1.c3
  go_wp2
  go_loopw [4, 5] (fun vb vh wr => ∃ i m : Nat, ∃ b : Bool, i ≤ 9 ∧ Hid (m = hd i) ∧ m ≤ 8388608 ∧ vb = .bool b ∧ Hid (b = seen H i) ∧ vh = .int .i64 (m : Nat) ∧ wr = w0) (fun _ vh _ => 8388609 - (intOf vh).toNat)
  case atStart => exact ⟨0, 16384, false, by omega, rfl, by omega, rfl, rfl, rfl, rfl⟩
  case round =>
    obtain ⟨i, m, b, hi, HM, hm, rfl, HBB, rfl, hw⟩ := hrel
    obtain rfl := hw.symm
    have hm0 : 16384 ≤ m := by rw [HM.out, hd]; have : 1 ≤ 2 ^ i := Nat.one_le_two_pow; omega
    by_cases hle : ((m : Nat) : Int) ≤ 4194304
    · have hi8 : i ≤ 8 := hd_gt i (by rw [← HM.out]; omega) hi
      cases b with
      | true =>
        go_wp2
        go_roundw
        case rel => exact ⟨i + 1, 2 * m, true, by omega, (by show _ = _; rw [hd_succ, ← HM.out]), by omega, rfl, (by show _ = _; rw [seen, ← HBB.out]; rfl), by go_num, trivial⟩
        case measure => simp [intOf]; omega
      | false =>
        obtain ⟨x, HX⟩ : ∃ x, Hid (x = (H == ((m : Nat) : Int))) := ⟨_, rfl⟩
        have hx' : (H == ((m : Nat) : Int)) = x := HX.out.symm
        go_wp2
        go_roundw
        case rel => exact ⟨i + 1, 2 * m, x, by omega, (by show _ = _; rw [hd_succ, ← HM.out]), by omega, rfl, (by show _ = _; rw [seen, ← HBB.out, HX.out, HM.out]; rfl), by go_num, trivial⟩
        case measure => simp [intOf]; omega
    · have hi9 : i = 9 := by
        rcases Nat.lt_or_ge i 9 with q | q
        · have := hd_le i (by omega); rw [← HM.out] at this; omega
        · omega
      have hb : b = true := by rw [HBB.out, hi9, seen_9]; exact hh
      subst hb
      go_upto_region 11 with (go_at_call 18; refine (HU.out _).mono ?_; rintro e5 w5 ⟨rfl, hw5⟩; obtain rfl := hw5.symm)
      go_quiet (fail)
      have HB : Hid (Below w.heap.size w (w0.drewN nq)) := Below.ofSm HA.out.2 ⟨rfl, rfl, rfl, rfl⟩
      go_wp2
      go_ret2
      exact ⟨rfl, HB.out⟩
set_option maxHeartbeats 1600000 in
theorem rsec_le_1024 (C H K : Int) (w : World) (hh : headB H = true) (k1 : 4096 ≤ K) (k2 : K ≤ 134217728) (k3 : K % 4096 = 0) (cc : C ≤ 4294967296) (c00 : 0 ≤ C) (hlt : C * 1024 ≤ 2 * H + K) : Calls Try.prog 12 #[.agg #[.int .i64 1024, .int .u64 C, .int .i64 H, .int .i64 K]] w fun e w' => Hid (e = .returned (.tuple #[.int .u64 0, .int .i64 90]) ∧ Below w.heap.size w w') := by
  have HU : Hid (∀ v, Calls Try.prog 18 #[.int .i64 1024] v fun e w' => e = .returned (.bool true) ∧ w' = v) := fun v => by have q := runit_ok 1024 v; rw [(by decide : unitB 1024 = true)] at q; exact q
  obtain ⟨h1, h2⟩ := headB_range hh
  have qk1 : decide (K < 4096) = false := by simp; omega
  have qk2 : decide (134217728 < K) = false := by simp; omega
  have qk3 : (K.tmod 4096 == 0) = true := by rw [Int.tmod_eq_emod_of_nonneg (by omega)]; simpa using k3
  have qcc : decide (4294967296 < C) = false := by simp; omega
  have ql : decide (C * 1024 ≤ 2 * H + K) = true := by simpa using hlt
  have HA : Hid (SAt (w.alloc (.cells #[.int .i64 1024, .int .u64 C, .int .i64 H, .int .i64 K] 24)) w.heap.size 1024 C H K ∧ Below w.heap.size w (w.alloc (.cells #[.int .i64 1024, .int .u64 C, .int .i64 H, .int .i64 K] 24))) := ⟨SAt.new _ _ _ _ _ _, below_alloc1 _ _⟩
  go_enter Try.func12, Try.ntmps12
  go_upto_region 1 with fail
  generalize w.alloc (.cells #[.int .i64 1024, .int .u64 C, .int .i64 H, .int .i64 K] 24) = w0 at HA ⊢
  have c0 := HA.out.1.c0
  have c1 := HA.out.1.c1
  have c2 := HA.out.1.c2
  have c3 := HA.out.1.c3
  go_wp2
  go_loopw [4, 5] (fun vb vh wr => ∃ i m : Nat, ∃ b : Bool, i ≤ 9 ∧ Hid (m = hd i) ∧ m ≤ 8388608 ∧ vb = .bool b ∧ Hid (b = seen H i) ∧ vh = .int .i64 (m : Nat) ∧ wr = w0) (fun _ vh _ => 8388609 - (intOf vh).toNat)
  case atStart => exact ⟨0, 16384, false, by omega, rfl, by omega, rfl, rfl, rfl, rfl⟩
  case round =>
    obtain ⟨i, m, b, hi, HM, hm, rfl, HBB, rfl, hw⟩ := hrel
    obtain rfl := hw.symm
    have hm0 : 16384 ≤ m := by rw [HM.out, hd]; have : 1 ≤ 2 ^ i := Nat.one_le_two_pow; omega
    by_cases hle : ((m : Nat) : Int) ≤ 4194304
    · have hi8 : i ≤ 8 := hd_gt i (by rw [← HM.out]; omega) hi
      cases b with
      | true =>
        go_wp2
        go_roundw
        case rel => exact ⟨i + 1, 2 * m, true, by omega, (by show _ = _; rw [hd_succ, ← HM.out]), by omega, rfl, (by show _ = _; rw [seen, ← HBB.out]; rfl), by go_num, trivial⟩
        case measure => simp [intOf]; omega
      | false =>
        obtain ⟨x, HX⟩ : ∃ x, Hid (x = (H == ((m : Nat) : Int))) := ⟨_, rfl⟩
        have hx' : (H == ((m : Nat) : Int)) = x := HX.out.symm
        go_wp2
        go_roundw
        case rel => exact ⟨i + 1, 2 * m, x, by omega, (by show _ = _; rw [hd_succ, ← HM.out]), by omega, rfl, (by show _ = _; rw [seen, ← HBB.out, HX.out, HM.out]; rfl), by go_num, trivial⟩
        case measure => simp [intOf]; omega
    · have hi9 : i = 9 := by
        rcases Nat.lt_or_ge i 9 with q | q
        · have := hd_le i (by omega); rw [← HM.out] at this; omega
        · omega
      have hb : b = true := by rw [HBB.out, hi9, seen_9]; exact hh
      subst hb
      go_wp2_with (go_at_call 18; refine (HU.out _).mono ?_; rintro e5 w5 ⟨rfl, hw5⟩; obtain rfl := hw5.symm)
      go_ret2
      exact ⟨rfl, HA.out.2⟩
set_option maxHeartbeats 1600000 in
theorem rsec_gt_1024 (C H K : Int) (w : World) (hh : headB H = true) (k1 : 4096 ≤ K) (k2 : K ≤ 134217728) (k3 : K % 4096 = 0) (cc : C ≤ 4294967296) (c00 : 0 ≤ C) (hlt : 2 * H + K < C * 1024) : Calls Try.prog 12 #[.agg #[.int .i64 1024, .int .u64 C, .int .i64 H, .int .i64 K]] w fun e w' => Hid (e = .returned (.tuple #[.int .u64 (C - (2 * H + K) / 1024), .int .i64 0]) ∧ Below w.heap.size w w') := by
  have HU : Hid (∀ v, Calls Try.prog 18 #[.int .i64 1024] v fun e w' => e = .returned (.bool true) ∧ w' = v) := fun v => by have q := runit_ok 1024 v; rw [(by decide : unitB 1024 = true)] at q; exact q
  obtain ⟨h1, h2⟩ := headB_range hh
  have qk1 : decide (K < 4096) = false := by simp; omega
  have qk2 : decide (134217728 < K) = false := by simp; omega
  have qk3 : (K.tmod 4096 == 0) = true := by rw [Int.tmod_eq_emod_of_nonneg (by omega)]; simpa using k3
  have qcc : decide (4294967296 < C) = false := by simp; omega
  have ql : decide (C * 1024 ≤ 2 * H + K) = false := by simp; omega
  obtain ⟨q, hq⟩ : ∃ q, q = (2 * H + K) / 1024 := ⟨_, rfl⟩
  have hq2 : 0 ≤ q ∧ q ≤ C := by
    rw [hq]
    omega
  have hdv : (2 * H + K).tdiv 1024 = q := by rw [Int.tdiv_eq_ediv_of_nonneg (by omega), ← hq]
  have hw1 : IntKind.u64.wrap q = q := by rw [IntKind.wrap_u64]; omega
  have hw2 : IntKind.u64.wrap (C - q) = C - q := by rw [IntKind.wrap_u64]; omega
  have hw3 : IntKind.u64.wrap (2 * H + K) = 2 * H + K := by rw [IntKind.wrap_u64]; omega
  rw [← hq]
  clear hq
  have HA : Hid (SAt (w.alloc (.cells #[.int .i64 1024, .int .u64 C, .int .i64 H, .int .i64 K] 24)) w.heap.size 1024 C H K ∧ Below w.heap.size w (w.alloc (.cells #[.int .i64 1024, .int .u64 C, .int .i64 H, .int .i64 K] 24))) := ⟨SAt.new _ _ _ _ _ _, below_alloc1 _ _⟩
  go_enter Try.func12, Try.ntmps12
  go_upto_region 1 with fail
  generalize w.alloc (.cells #[.int .i64 1024, .int .u64 C, .int .i64 H, .int .i64 K] 24) = w0 at HA ⊢
  have c0 := HA.out.1.c0
  have c1 := HA.out.1.c1
  have c2 := HA.out.1.c2
  have c3 := HA.out.1.c3
  go_wp2
  go_loopw [4, 5] (fun vb vh wr => ∃ i m : Nat, ∃ b : Bool, i ≤ 9 ∧ Hid (m = hd i) ∧ m ≤ 8388608 ∧ vb = .bool b ∧ Hid (b = seen H i) ∧ vh = .int .i64 (m : Nat) ∧ wr = w0) (fun _ vh _ => 8388609 - (intOf vh).toNat)
  case atStart => exact ⟨0, 16384, false, by omega, rfl, by omega, rfl, rfl, rfl, rfl⟩
  case round =>
    obtain ⟨i, m, b, hi, HM, hm, rfl, HBB, rfl, hw⟩ := hrel
    obtain rfl := hw.symm
    have hm0 : 16384 ≤ m := by rw [HM.out, hd]; have : 1 ≤ 2 ^ i := Nat.one_le_two_pow; omega
    by_cases hle : ((m : Nat) : Int) ≤ 4194304
    · have hi8 : i ≤ 8 := hd_gt i (by rw [← HM.out]; omega) hi
      cases b with
      | true =>
        go_wp2
        go_roundw
        case rel => exact ⟨i + 1, 2 * m, true, by omega, (by show _ = _; rw [hd_succ, ← HM.out]), by omega, rfl, (by show _ = _; rw [seen, ← HBB.out]; rfl), by go_num, trivial⟩
        case measure => simp [intOf]; omega
      | false =>
        obtain ⟨x, HX⟩ : ∃ x, Hid (x = (H == ((m : Nat) : Int))) := ⟨_, rfl⟩
        have hx' : (H == ((m : Nat) : Int)) = x := HX.out.symm
        go_wp2
        go_roundw
        case rel => exact ⟨i + 1, 2 * m, x, by omega, (by show _ = _; rw [hd_succ, ← HM.out]), by omega, rfl, (by show _ = _; rw [seen, ← HBB.out, HX.out, HM.out]; rfl), by go_num, trivial⟩
        case measure => simp [intOf]; omega
    · have hi9 : i = 9 := by
        rcases Nat.lt_or_ge i 9 with q | q
        · have := hd_le i (by omega); rw [← HM.out] at this; omega
        · omega
      have hb : b = true := by rw [HBB.out, hi9, seen_9]; exact hh
      subst hb
      go_upto_region 11 with (go_at_call 18; refine (HU.out _).mono ?_; rintro e5 w5 ⟨rfl, hw5⟩; obtain rfl := hw5.symm)
      go_quiet (fail)
      have HB : Hid (Below w.heap.size w (w0.drewN nq)) := Below.ofSm HA.out.2 ⟨rfl, rfl, rfl, rfl⟩
      go_wp2
      go_ret2
      exact ⟨rfl, HB.out⟩
set_option maxHeartbeats 1600000 in
theorem rsec_le_2048 (C H K : Int) (w : World) (hh : headB H = true) (k1 : 4096 ≤ K) (k2 : K ≤ 134217728) (k3 : K % 4096 = 0) (cc : C ≤ 4294967296) (c00 : 0 ≤ C) (hlt : C * 2048 ≤ 2 * H + K) : Calls Try.prog 12 #[.agg #[.int .i64 2048, .int .u64 C, .int .i64 H, .int .i64 K]] w fun e w' => Hid (e = .returned (.tuple #[.int .u64 0, .int .i64 90]) ∧ Below w.heap.size w w') := by
  have HU : Hid (∀ v, Calls Try.prog 18 #[.int .i64 2048] v fun e w' => e = .returned (.bool true) ∧ w' = v) := fun v => by have q := runit_ok 2048 v; rw [(by decide : unitB 2048 = true)] at q; exact q
  obtain ⟨h1, h2⟩ := headB_range hh
  have qk1 : decide (K < 4096) = false := by simp; omega
  have qk2 : decide (134217728 < K) = false := by simp; omega
  have qk3 : (K.tmod 4096 == 0) = true := by rw [Int.tmod_eq_emod_of_nonneg (by omega)]; simpa using k3
  have qcc : decide (4294967296 < C) = false := by simp; omega
  have ql : decide (C * 2048 ≤ 2 * H + K) = true := by simpa using hlt
  have HA : Hid (SAt (w.alloc (.cells #[.int .i64 2048, .int .u64 C, .int .i64 H, .int .i64 K] 24)) w.heap.size 2048 C H K ∧ Below w.heap.size w (w.alloc (.cells #[.int .i64 2048, .int .u64 C, .int .i64 H, .int .i64 K] 24))) := ⟨SAt.new _ _ _ _ _ _, below_alloc1 _ _⟩
  go_enter Try.func12, Try.ntmps12
  go_upto_region 1 with fail
  generalize w.alloc (.cells #[.int .i64 2048, .int .u64 C, .int .i64 H, .int .i64 K] 24) = w0 at HA ⊢
  have c0 := HA.out.1.c0
  have c1 := HA.out.1.c1
  have c2 := HA.out.1.c2
  have c3 := HA.out.1.c3
  go_wp2
  go_loopw [4, 5] (fun vb vh wr => ∃ i m : Nat, ∃ b : Bool, i ≤ 9 ∧ Hid (m = hd i) ∧ m ≤ 8388608 ∧ vb = .bool b ∧ Hid (b = seen H i) ∧ vh = .int .i64 (m : Nat) ∧ wr = w0) (fun _ vh _ => 8388609 - (intOf vh).toNat)
  case atStart => exact ⟨0, 16384, false, by omega, rfl, by omega, rfl, rfl, rfl, rfl⟩
  case round =>
    obtain ⟨i, m, b, hi, HM, hm, rfl, HBB, rfl, hw⟩ := hrel
    obtain rfl := hw.symm
    have hm0 : 16384 ≤ m := by rw [HM.out, hd]; have : 1 ≤ 2 ^ i := Nat.one_le_two_pow; omega
    by_cases hle : ((m : Nat) : Int) ≤ 4194304
    · have hi8 : i ≤ 8 := hd_gt i (by rw [← HM.out]; omega) hi
      cases b with
      | true =>
        go_wp2
        go_roundw
        case rel => exact ⟨i + 1, 2 * m, true, by omega, (by show _ = _; rw [hd_succ, ← HM.out]), by omega, rfl, (by show _ = _; rw [seen, ← HBB.out]; rfl), by go_num, trivial⟩
        case measure => simp [intOf]; omega
      | false =>
        obtain ⟨x, HX⟩ : ∃ x, Hid (x = (H == ((m : Nat) : Int))) := ⟨_, rfl⟩
        have hx' : (H == ((m : Nat) : Int)) = x := HX.out.symm
        go_wp2
        go_roundw
        case rel => exact ⟨i + 1, 2 * m, x, by omega, (by show _ = _; rw [hd_succ, ← HM.out]), by omega, rfl, (by show _ = _; rw [seen, ← HBB.out, HX.out, HM.out]; rfl), by go_num, trivial⟩
        case measure => simp [intOf]; omega
    · have hi9 : i = 9 := by
        rcases Nat.lt_or_ge i 9 with q | q
        · have := hd_le i (by omega); rw [← HM.out] at this; omega
        · omega
      have hb : b = true := by rw [HBB.out, hi9, seen_9]; exact hh
      subst hb
      go_wp2_with (go_at_call 18; refine (HU.out _).mono ?_; rintro e5 w5 ⟨rfl, hw5⟩; obtain rfl := hw5.symm)
      go_ret2
      exact ⟨rfl, HA.out.2⟩
set_option maxHeartbeats 1600000 in
theorem rsec_gt_2048 (C H K : Int) (w : World) (hh : headB H = true) (k1 : 4096 ≤ K) (k2 : K ≤ 134217728) (k3 : K % 4096 = 0) (cc : C ≤ 4294967296) (c00 : 0 ≤ C) (hlt : 2 * H + K < C * 2048) : Calls Try.prog 12 #[.agg #[.int .i64 2048, .int .u64 C, .int .i64 H, .int .i64 K]] w fun e w' => Hid (e = .returned (.tuple #[.int .u64 (C - (2 * H + K) / 2048), .int .i64 0]) ∧ Below w.heap.size w w') := by
  have HU : Hid (∀ v, Calls Try.prog 18 #[.int .i64 2048] v fun e w' => e = .returned (.bool true) ∧ w' = v) := fun v => by have q := runit_ok 2048 v; rw [(by decide : unitB 2048 = true)] at q; exact q
  obtain ⟨h1, h2⟩ := headB_range hh
  have qk1 : decide (K < 4096) = false := by simp; omega
  have qk2 : decide (134217728 < K) = false := by simp; omega
  have qk3 : (K.tmod 4096 == 0) = true := by rw [Int.tmod_eq_emod_of_nonneg (by omega)]; simpa using k3
  have qcc : decide (4294967296 < C) = false := by simp; omega
  have ql : decide (C * 2048 ≤ 2 * H + K) = false := by simp; omega
  obtain ⟨q, hq⟩ : ∃ q, q = (2 * H + K) / 2048 := ⟨_, rfl⟩
  have hq2 : 0 ≤ q ∧ q ≤ C := by
    rw [hq]
    omega
  have hdv : (2 * H + K).tdiv 2048 = q := by rw [Int.tdiv_eq_ediv_of_nonneg (by omega), ← hq]
  have hw1 : IntKind.u64.wrap q = q := by rw [IntKind.wrap_u64]; omega
  have hw2 : IntKind.u64.wrap (C - q) = C - q := by rw [IntKind.wrap_u64]; omega
  have hw3 : IntKind.u64.wrap (2 * H + K) = 2 * H + K := by rw [IntKind.wrap_u64]; omega
  rw [← hq]
  clear hq
  have HA : Hid (SAt (w.alloc (.cells #[.int .i64 2048, .int .u64 C, .int .i64 H, .int .i64 K] 24)) w.heap.size 2048 C H K ∧ Below w.heap.size w (w.alloc (.cells #[.int .i64 2048, .int .u64 C, .int .i64 H, .int .i64 K] 24))) := ⟨SAt.new _ _ _ _ _ _, below_alloc1 _ _⟩
  go_enter Try.func12, Try.ntmps12
  go_upto_region 1 with fail
  generalize w.alloc (.cells #[.int .i64 2048, .int .u64 C, .int .i64 H, .int .i64 K] 24) = w0 at HA ⊢
  have c0 := HA.out.1.c0
  have c1 := HA.out.1.c1
  have c2 := HA.out.1.c2
  have c3 := HA.out.1.c3
  go_wp2
  go_loopw [4, 5] (fun vb vh wr => ∃ i m : Nat, ∃ b : Bool, i ≤ 9 ∧ Hid (m = hd i) ∧ m ≤ 8388608 ∧ vb = .bool b ∧ Hid (b = seen H i) ∧ vh = .int .i64 (m : Nat) ∧ wr = w0) (fun _ vh _ => 8388609 - (intOf vh).toNat)
  case atStart => exact ⟨0, 16384, false, by omega, rfl, by omega, rfl, rfl, rfl, rfl⟩
  case round =>
    obtain ⟨i, m, b, hi, HM, hm, rfl, HBB, rfl, hw⟩ := hrel
    obtain rfl := hw.symm
    have hm0 : 16384 ≤ m := by rw [HM.out, hd]; have : 1 ≤ 2 ^ i := Nat.one_le_two_pow; omega
    by_cases hle : ((m : Nat) : Int) ≤ 4194304
    · have hi8 : i ≤ 8 := hd_gt i (by rw [← HM.out]; omega) hi
      cases b with
      | true =>
        go_wp2
        go_roundw
        case rel => exact ⟨i + 1, 2 * m, true, by omega, (by show _ = _; rw [hd_succ, ← HM.out]), by omega, rfl, (by show _ = _; rw [seen, ← HBB.out]; rfl), by go_num, trivial⟩
        case measure => simp [intOf]; omega
      | false =>
        obtain ⟨x, HX⟩ : ∃ x, Hid (x = (H == ((m : Nat) : Int))) := ⟨_, rfl⟩
        have hx' : (H == ((m : Nat) : Int)) = x := HX.out.symm
        go_wp2
        go_roundw
        case rel => exact ⟨i + 1, 2 * m, x, by omega, (by show _ = _; rw [hd_succ, ← HM.out]), by omega, rfl, (by show _ = _; rw [seen, ← HBB.out, HX.out, HM.out]; rfl), by go_num, trivial⟩
        case measure => simp [intOf]; omega
    · have hi9 : i = 9 := by
        rcases Nat.lt_or_ge i 9 with q | q
        · have := hd_le i (by omega); rw [← HM.out] at this; omega
        · omega
      have hb : b = true := by rw [HBB.out, hi9, seen_9]; exact hh
      subst hb
      go_upto_region 11 with (go_at_call 18; refine (HU.out _).mono ?_; rintro e5 w5 ⟨rfl, hw5⟩; obtain rfl := hw5.symm)
      go_quiet (fail)
      have HB : Hid (Below w.heap.size w (w0.drewN nq)) := Below.ofSm HA.out.2 ⟨rfl, rfl, rfl, rfl⟩
      go_wp2
      go_ret2
      exact ⟨rfl, HB.out⟩
set_option maxHeartbeats 1600000 in
theorem rsec_le_4096 (C H K : Int) (w : World) (hh : headB H = true) (k1 : 4096 ≤ K) (k2 : K ≤ 134217728) (k3 : K % 4096 = 0) (cc : C ≤ 4294967296) (c00 : 0 ≤ C) (hlt : C * 4096 ≤ 2 * H + K) : Calls Try.prog 12 #[.agg #[.int .i64 4096, .int .u64 C, .int .i64 H, .int .i64 K]] w fun e w' => Hid (e = .returned (.tuple #[.int .u64 0, .int .i64 90]) ∧ Below w.heap.size w w') := by
  have HU : Hid (∀ v, Calls Try.prog 18 #[.int .i64 4096] v fun e w' => e = .returned (.bool true) ∧ w' = v) := fun v => by have q := runit_ok 4096 v; rw [(by decide : unitB 4096 = true)] at q; exact q
  obtain ⟨h1, h2⟩ := headB_range hh
  have qk1 : decide (K < 4096) = false := by simp; omega
  have qk2 : decide (134217728 < K) = false := by simp; omega
  have qk3 : (K.tmod 4096 == 0) = true := by rw [Int.tmod_eq_emod_of_nonneg (by omega)]; simpa using k3
  have qcc : decide (4294967296 < C) = false := by simp; omega
  have ql : decide (C * 4096 ≤ 2 * H + K) = true := by simpa using hlt
  have HA : Hid (SAt (w.alloc (.cells #[.int .i64 4096, .int .u64 C, .int .i64 H, .int .i64 K] 24)) w.heap.size 4096 C H K ∧ Below w.heap.size w (w.alloc (.cells #[.int .i64 4096, .int .u64 C, .int .i64 H, .int .i64 K] 24))) := ⟨SAt.new _ _ _ _ _ _, below_alloc1 _ _⟩
  go_enter Try.func12, Try.ntmps12
  go_upto_region 1 with fail
  generalize w.alloc (.cells #[.int .i64 4096, .int .u64 C, .int .i64 H, .int .i64 K] 24) = w0 at HA ⊢
  have c0 := HA.out.1.c0
  have c1 := HA.out.1.c1
  have c2 := HA.out.1.c2
  have c3 := HA.out.1.c3
  go_wp2
  go_loopw [4, 5] (fun vb vh wr => ∃ i m : Nat, ∃ b : Bool, i ≤ 9 ∧ Hid (m = hd i) ∧ m ≤ 8388608 ∧ vb = .bool b ∧ Hid (b = seen H i) ∧ vh = .int .i64 (m : Nat) ∧ wr = w0) (fun _ vh _ => 8388609 - (intOf vh).toNat)
  case atStart => exact ⟨0, 16384, false, by omega, rfl, by omega, rfl, rfl, rfl, rfl⟩
  case round =>
    obtain ⟨i, m, b, hi, HM, hm, rfl, HBB, rfl, hw⟩ := hrel
    obtain rfl := hw.symm
    have hm0 : 16384 ≤ m := by rw [HM.out, hd]; have : 1 ≤ 2 ^ i := Nat.one_le_two_pow; omega
    by_cases hle : ((m : Nat) : Int) ≤ 4194304
    · have hi8 : i ≤ 8 := hd_gt i (by rw [← HM.out]; omega) hi
      cases b with
      | true =>
        go_wp2
        go_roundw
        case rel => exact ⟨i + 1, 2 * m, true, by omega, (by show _ = _; rw [hd_succ, ← HM.out]), by omega, rfl, (by show _ = _; rw [seen, ← HBB.out]; rfl), by go_num, trivial⟩
        case measure => simp [intOf]; omega
      | false =>
        obtain ⟨x, HX⟩ : ∃ x, Hid (x = (H == ((m : Nat) : Int))) := ⟨_, rfl⟩
        have hx' : (H == ((m : Nat) : Int)) = x := HX.out.symm
        go_wp2
        go_roundw
        case rel => exact ⟨i + 1, 2 * m, x, by omega, (by show _ = _; rw [hd_succ, ← HM.out]), by omega, rfl, (by show _ = _; rw [seen, ← HBB.out, HX.out, HM.out]; rfl), by go_num, trivial⟩
        case measure => simp [intOf]; omega
    · have hi9 : i = 9 := by
        rcases Nat.lt_or_ge i 9 with q | q
        · have := hd_le i (by omega); rw [← HM.out] at this; omega
        · omega
      have hb : b = true := by rw [HBB.out, hi9, seen_9]; exact hh
      subst hb
      go_wp2_with (go_at_call 18; refine (HU.out _).mono ?_; rintro e5 w5 ⟨rfl, hw5⟩; obtain rfl := hw5.symm)
      go_ret2
      exact ⟨rfl, HA.out.2⟩
set_option maxHeartbeats 1600000 in
theorem rsec_gt_4096 (C H K : Int) (w : World) (hh : headB H = true) (k1 : 4096 ≤ K) (k2 : K ≤ 134217728) (k3 : K % 4096 = 0) (cc : C ≤ 4294967296) (c00 : 0 ≤ C) (hlt : 2 * H + K < C * 4096) : Calls Try.prog 12 #[.agg #[.int .i64 4096, .int .u64 C, .int .i64 H, .int .i64 K]] w fun e w' => Hid (e = .returned (.tuple #[.int .u64 (C - (2 * H + K) / 4096), .int .i64 0]) ∧ Below w.heap.size w w') := by
  have HU : Hid (∀ v, Calls Try.prog 18 #[.int .i64 4096] v fun e w' => e = .returned (.bool true) ∧ w' = v) := fun v => by have q := runit_ok 4096 v; rw [(by decide : unitB 4096 = true)] at q; exact q
  obtain ⟨h1, h2⟩ := headB_range hh
  have qk1 : decide (K < 4096) = false := by simp; omega
  have qk2 : decide (134217728 < K) = false := by simp; omega
  have qk3 : (K.tmod 4096 == 0) = true := by rw [Int.tmod_eq_emod_of_nonneg (by omega)]; simpa using k3
  have qcc : decide (4294967296 < C) = false := by simp; omega
  have ql : decide (C * 4096 ≤ 2 * H + K) = false := by simp; omega
  obtain ⟨q, hq⟩ : ∃ q, q = (2 * H + K) / 4096 := ⟨_, rfl⟩
  have hq2 : 0 ≤ q ∧ q ≤ C := by
    rw [hq]
    omega
  have hdv : (2 * H + K).tdiv 4096 = q := by rw [Int.tdiv_eq_ediv_of_nonneg (by omega), ← hq]
  have hw1 : IntKind.u64.wrap q = q := by rw [IntKind.wrap_u64]; omega
  have hw2 : IntKind.u64.wrap (C - q) = C - q := by rw [IntKind.wrap_u64]; omega
  have hw3 : IntKind.u64.wrap (2 * H + K) = 2 * H + K := by rw [IntKind.wrap_u64]; omega
  rw [← hq]
  clear hq
  have HA : Hid (SAt (w.alloc (.cells #[.int .i64 4096, .int .u64 C, .int .i64 H, .int .i64 K] 24)) w.heap.size 4096 C H K ∧ Below w.heap.size w (w.alloc (.cells #[.int .i64 4096, .int .u64 C, .int .i64 H, .int .i64 K] 24))) := ⟨SAt.new _ _ _ _ _ _, below_alloc1 _ _⟩
  go_enter Try.func12, Try.ntmps12
  go_upto_region 1 with fail
  generalize w.alloc (.cells #[.int .i64 4096, .int .u64 C, .int .i64 H, .int .i64 K] 24) = w0 at HA ⊢
  have c0 := HA.out.1.c0
  have c1 := HA.out.1.c1
  have c2 := HA.out.1.c2
  have c3 := HA.out.1.c3
  go_wp2
  go_loopw [4, 5] (fun vb vh wr => ∃ i m : Nat, ∃ b : Bool, i ≤ 9 ∧ Hid (m = hd i) ∧ m ≤ 8388608 ∧ vb = .bool b ∧ Hid (b = seen H i) ∧ vh = .int .i64 (m : Nat) ∧ wr = w0) (fun _ vh _ => 8388609 - (intOf vh).toNat)
  case atStart => exact ⟨0, 16384, false, by omega, rfl, by omega, rfl, rfl, rfl, rfl⟩
  case round =>
    obtain ⟨i, m, b, hi, HM, hm, rfl, HBB, rfl, hw⟩ := hrel
    obtain rfl := hw.symm
    have hm0 : 16384 ≤ m := by rw [HM.out, hd]; have : 1 ≤ 2 ^ i := Nat.one_le_two_pow; omega
    by_cases hle : ((m : Nat) : Int) ≤ 4194304
    · have hi8 : i ≤ 8 := hd_gt i (by rw [← HM.out]; omega) hi
      cases b with
      | true =>
        go_wp2
        go_roundw
        case rel => exact ⟨i + 1, 2 * m, true, by omega, (by show _ = _; rw [hd_succ, ← HM.out]), by omega, rfl, (by show _ = _; rw [seen, ← HBB.out]; rfl), by go_num, trivial⟩
        case measure => simp [intOf]; omega
      | false =>
        obtain ⟨x, HX⟩ : ∃ x, Hid (x = (H == ((m : Nat) : Int))) := ⟨_, rfl⟩
        have hx' : (H == ((m : Nat) : Int)) = x := HX.out.symm
        go_wp2
        go_roundw
        case rel => exact ⟨i + 1, 2 * m, x, by omega, (by show _ = _; rw [hd_succ, ← HM.out]), by omega, rfl, (by show _ = _; rw [seen, ← HBB.out, HX.out, HM.out]; rfl), by go_num, trivial⟩
        case measure => simp [intOf]; omega
    · have hi9 : i = 9 := by
        rcases Nat.lt_or_ge i 9 with q | q
        · have := hd_le i (by omega); rw [← HM.out] at this; omega
        · omega
      have hb : b = true := by rw [HBB.out, hi9, seen_9]; exact hh
      subst hb
      go_upto_region 11 with (go_at_call 18; refine (HU.out _).mono ?_; rintro e5 w5 ⟨rfl, hw5⟩; obtain rfl := hw5.symm)
      go_quiet (fail)
      have HB : Hid (Below w.heap.size w (w0.drewN nq)) := Below.ofSm HA.out.2 ⟨rfl, rfl, rfl, rfl⟩
      go_wp2
      go_ret2
      exact ⟨rfl, HB.out⟩
/-- cofferref09.Sectors. -/
theorem rsec_ok (U C H K : Int) (c00 : 0 ≤ C) (w : World) : Calls Try.prog 12 #[.agg #[.int .i64 U, .int .u64 C, .int .i64 H, .int .i64 K]] w fun e w' => Hid (e = .returned (.tuple #[.int .u64 (secN U C H K), .int .i64 (secE U C H K)]) ∧ Below w.heap.size w w') := by
  unfold secN secE
  by_cases hu : unitB U = true
  · by_cases hh : headB H = true
    · by_cases k1 : 4096 ≤ K
      · by_cases k2 : K ≤ 134217728
        · by_cases k3 : K % 4096 = 0
          · by_cases cc : C ≤ 4294967296
            · have e : mayB U C H K = decide (2 * H + K < C * U) := by simp [mayB, hu, hh, k1, k2, k3, cc]
              rw [e]
              by_cases hlt : 2 * H + K < C * U
              · rw [if_pos (by simpa using hlt), if_pos (by simpa using hlt)]
                rcases unitB_cases hu with rfl | rfl | rfl | rfl
                · exact rsec_gt_512 C H K w hh k1 k2 k3 cc c00 hlt
                · exact rsec_gt_1024 C H K w hh k1 k2 k3 cc c00 hlt
                · exact rsec_gt_2048 C H K w hh k1 k2 k3 cc c00 hlt
                · exact rsec_gt_4096 C H K w hh k1 k2 k3 cc c00 hlt
              · rw [if_neg (by simpa using hlt), if_neg (by simpa using hlt)]
                rcases unitB_cases hu with rfl | rfl | rfl | rfl
                · exact rsec_le_512 C H K w hh k1 k2 k3 cc c00 (by omega)
                · exact rsec_le_1024 C H K w hh k1 k2 k3 cc c00 (by omega)
                · exact rsec_le_2048 C H K w hh k1 k2 k3 cc c00 (by omega)
                · exact rsec_le_4096 C H K w hh k1 k2 k3 cc c00 (by omega)
            · have e : mayB U C H K = false := by simp [mayB, cc]
              rw [e]; exact rsec_5 U C H K w hu hh k1 k2 k3 cc
          · have e : mayB U C H K = false := by simp [mayB, k3]
            rw [e]; exact rsec_4 U C H K w hu hh k1 k2 k3
        · have e : mayB U C H K = false := by simp [mayB, k2]
          rw [e]; exact rsec_3 U C H K w hu hh k1 k2
      · have e : mayB U C H K = false := by simp [mayB, k1]
        rw [e]; exact rsec_2 U C H K w hu hh k1
    · have e : mayB U C H K = false := by simp [mayB, hh]
      rw [e]; exact rsec_1 U C H K w hu (by simpa using hh)
  · have e : mayB U C H K = false := by simp [mayB, hu]
    rw [e]; exact rsec_0 U C H K w (by simpa using hu)
end Go.Proofs.Ytchfbanehohjoaa
