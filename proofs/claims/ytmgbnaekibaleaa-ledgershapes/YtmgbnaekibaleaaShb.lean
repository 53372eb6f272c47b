import Derived.Test.YtmgbnaekibaleaaSha
namespace Go.Proofs.Ytmgbnaekibaleaa
open Go.RowKit
set_option linter.unusedVariables false
set_option linter.unusedSimpArgs false
def jF (mode : Int) (hot : Nat) (u : Int) : Nat := if 1 ≤ hot ∧ hot ≤ 4096 ∧ unitB u = true then (if mode = 1 then ru (hot * u.toNat) else if mode = 2 then ru (hot * 32) else 0) else 0
set_option maxHeartbeats 800000 in
theorem jour_ok (mode : Int) (hot : Nat) (u : Int) (hh : hot ≤ 18446744073709551615) (w : World) : Calls Try.prog 10 #[.int .i64 mode, .int .u64 (hot : Nat), .int .i64 u] w fun e w' => e = .returned (.int .i64 (jF mode hot u : Nat)) ∧ w' = w := by
  have HU : Hid (∀ v, Calls Try.prog 24 #[.int .i64 u] v fun e w' => e = .returned (.bool (unitB u)) ∧ w' = v) := fun v => isUnit_ok u v
  by_cases m1 : mode = 1
  · have qm1 : (mode == 1) = true := by simpa using m1
    have jr : jF mode hot u = if 1 ≤ hot ∧ hot ≤ 4096 ∧ unitB u = true then ru (hot * u.toNat) else 0 := by rw [jF, if_pos m1]
    rw [jr]
    clear jr
    by_cases hu : unitB u = true
    · by_cases h0 : hot = 0
      · have q1 : decide (((hot : Nat) : Int) < 1) = true := by simp; omega
        have q1b : (((hot : Nat) : Int) == 0) = true := by simpa using h0
        have HU2 : Hid (∀ v, Calls Try.prog 24 #[.int .i64 u] v fun e w' => e = .returned (.bool true) ∧ w' = v) := fun v => by have q := HU.out v; rw [hu] at q; exact q
        rw [if_neg (by simp [hu] <;> omega)]
        go_enter Try.func10, Try.ntmps10
        go_wp2_with (first | (go_at_call 24; refine (HU2.out _).mono ?_; rintro e5 w5 ⟨rfl, hw5⟩; obtain rfl := hw5.symm))
        go_ret
        exact ⟨rfl, rfl⟩
      · have q1 : decide (((hot : Nat) : Int) < 1) = false := by simp; omega
        have q1b : (((hot : Nat) : Int) == 0) = false := by simpa using h0
        by_cases h1 : 4096 < hot
        · have q2 : decide ((4096 : Int) < (hot : Nat)) = true := by simp; omega
          have HU2 : Hid (∀ v, Calls Try.prog 24 #[.int .i64 u] v fun e w' => e = .returned (.bool true) ∧ w' = v) := fun v => by have q := HU.out v; rw [hu] at q; exact q
          rw [if_neg (by simp [hu] <;> omega)]
          go_enter Try.func10, Try.ntmps10
          go_wp2_with (first | (go_at_call 24; refine (HU2.out _).mono ?_; rintro e5 w5 ⟨rfl, hw5⟩; obtain rfl := hw5.symm))
          go_ret
          exact ⟨rfl, rfl⟩
        · have q2 : decide ((4096 : Int) < (hot : Nat)) = false := by simp; omega
          have HU2 : Hid (∀ v, Calls Try.prog 24 #[.int .i64 u] v fun e w' => e = .returned (.bool true) ∧ w' = v) := fun v => by have q := HU.out v; rw [hu] at q; exact q
          rw [if_pos ⟨by omega, by omega, hu⟩]
          rcases unitB_cases hu with rfl | rfl | rfl | rfl
          · obtain ⟨x, HX⟩ : ∃ x : Nat, Hid (x = ru (hot * 512)) := ⟨_, rfl⟩
            have HC : Hid (∀ v, Calls Try.prog 22 #[.int .i64 (((hot : Nat) : Int) * 512)] v fun e w' => e = .returned (.int .i64 (x : Nat)) ∧ w' = v) := fun v => by
              have q := roundedUp_ok (hot * 512) (by omega) v
              rw [HX.out]
              simpa using q
            have hx : ru (hot * (((512 : Int)).toNat)) = x := by rw [HX.out]; rfl
            rw [hx]
            clear hx
            go_enter Try.func10, Try.ntmps10
            go_wp2_with (first | (go_at_call 24; refine (HU2.out _).mono ?_; rintro e5 w5 ⟨rfl, hw5⟩; obtain rfl := hw5.symm) | (go_at_call 22; refine (HC.out _).mono ?_; rintro e5 w5 ⟨rfl, hw5⟩; obtain rfl := hw5.symm))
            go_ret
            exact ⟨rfl, rfl⟩
          · obtain ⟨x, HX⟩ : ∃ x : Nat, Hid (x = ru (hot * 1024)) := ⟨_, rfl⟩
            have HC : Hid (∀ v, Calls Try.prog 22 #[.int .i64 (((hot : Nat) : Int) * 1024)] v fun e w' => e = .returned (.int .i64 (x : Nat)) ∧ w' = v) := fun v => by
              have q := roundedUp_ok (hot * 1024) (by omega) v
              rw [HX.out]
              simpa using q
            have hx : ru (hot * (((1024 : Int)).toNat)) = x := by rw [HX.out]; rfl
            rw [hx]
            clear hx
            go_enter Try.func10, Try.ntmps10
            go_wp2_with (first | (go_at_call 24; refine (HU2.out _).mono ?_; rintro e5 w5 ⟨rfl, hw5⟩; obtain rfl := hw5.symm) | (go_at_call 22; refine (HC.out _).mono ?_; rintro e5 w5 ⟨rfl, hw5⟩; obtain rfl := hw5.symm))
            go_ret
            exact ⟨rfl, rfl⟩
          · obtain ⟨x, HX⟩ : ∃ x : Nat, Hid (x = ru (hot * 2048)) := ⟨_, rfl⟩
            have HC : Hid (∀ v, Calls Try.prog 22 #[.int .i64 (((hot : Nat) : Int) * 2048)] v fun e w' => e = .returned (.int .i64 (x : Nat)) ∧ w' = v) := fun v => by
              have q := roundedUp_ok (hot * 2048) (by omega) v
              rw [HX.out]
              simpa using q
            have hx : ru (hot * (((2048 : Int)).toNat)) = x := by rw [HX.out]; rfl
            rw [hx]
            clear hx
            go_enter Try.func10, Try.ntmps10
            go_wp2_with (first | (go_at_call 24; refine (HU2.out _).mono ?_; rintro e5 w5 ⟨rfl, hw5⟩; obtain rfl := hw5.symm) | (go_at_call 22; refine (HC.out _).mono ?_; rintro e5 w5 ⟨rfl, hw5⟩; obtain rfl := hw5.symm))
            go_ret
            exact ⟨rfl, rfl⟩
          · obtain ⟨x, HX⟩ : ∃ x : Nat, Hid (x = ru (hot * 4096)) := ⟨_, rfl⟩
            have HC : Hid (∀ v, Calls Try.prog 22 #[.int .i64 (((hot : Nat) : Int) * 4096)] v fun e w' => e = .returned (.int .i64 (x : Nat)) ∧ w' = v) := fun v => by
              have q := roundedUp_ok (hot * 4096) (by omega) v
              rw [HX.out]
              simpa using q
            have hx : ru (hot * (((4096 : Int)).toNat)) = x := by rw [HX.out]; rfl
            rw [hx]
            clear hx
            go_enter Try.func10, Try.ntmps10
            go_wp2_with (first | (go_at_call 24; refine (HU2.out _).mono ?_; rintro e5 w5 ⟨rfl, hw5⟩; obtain rfl := hw5.symm) | (go_at_call 22; refine (HC.out _).mono ?_; rintro e5 w5 ⟨rfl, hw5⟩; obtain rfl := hw5.symm))
            go_ret
            exact ⟨rfl, rfl⟩
    · have hu' : unitB u = false := by simpa using hu
      have HU2 : Hid (∀ v, Calls Try.prog 24 #[.int .i64 u] v fun e w' => e = .returned (.bool false) ∧ w' = v) := fun v => by have q := HU.out v; rw [hu'] at q; exact q
      rw [if_neg (by simp [hu'])]
      by_cases h0 : hot = 0
      · have q1 : decide (((hot : Nat) : Int) < 1) = true := by simp; omega
        have q1b : (((hot : Nat) : Int) == 0) = true := by simpa using h0
        go_enter Try.func10, Try.ntmps10
        go_wp2_with (first | (go_at_call 24; refine (HU2.out _).mono ?_; rintro e5 w5 ⟨rfl, hw5⟩; obtain rfl := hw5.symm))
        go_ret
        exact ⟨rfl, rfl⟩
      · have q1 : decide (((hot : Nat) : Int) < 1) = false := by simp; omega
        have q1b : (((hot : Nat) : Int) == 0) = false := by simpa using h0
        by_cases h1 : 4096 < hot
        · have q2 : decide ((4096 : Int) < (hot : Nat)) = true := by simp; omega
          go_enter Try.func10, Try.ntmps10
          go_wp2_with (first | (go_at_call 24; refine (HU2.out _).mono ?_; rintro e5 w5 ⟨rfl, hw5⟩; obtain rfl := hw5.symm))
          go_ret
          exact ⟨rfl, rfl⟩
        · have q2 : decide ((4096 : Int) < (hot : Nat)) = false := by simp; omega
          go_enter Try.func10, Try.ntmps10
          go_wp2_with (first | (go_at_call 24; refine (HU2.out _).mono ?_; rintro e5 w5 ⟨rfl, hw5⟩; obtain rfl := hw5.symm))
          go_ret
          exact ⟨rfl, rfl⟩
  · have qm1 : (mode == 1) = false := by simpa using m1
    by_cases m2 : mode = 2
    · have qm2 : (mode == 2) = true := by simpa using m2
      have jr : jF mode hot u = if 1 ≤ hot ∧ hot ≤ 4096 ∧ unitB u = true then ru (hot * 32) else 0 := by rw [jF, if_neg m1, if_pos m2]
      rw [jr]
      clear jr
      by_cases hu : unitB u = true
      · by_cases h0 : hot = 0
        · have q1 : decide (((hot : Nat) : Int) < 1) = true := by simp; omega
          have q1b : (((hot : Nat) : Int) == 0) = true := by simpa using h0
          have HU2 : Hid (∀ v, Calls Try.prog 24 #[.int .i64 u] v fun e w' => e = .returned (.bool true) ∧ w' = v) := fun v => by have q := HU.out v; rw [hu] at q; exact q
          rw [if_neg (by simp [hu] <;> omega)]
          go_enter Try.func10, Try.ntmps10
          go_wp2_with (first | (go_at_call 24; refine (HU2.out _).mono ?_; rintro e5 w5 ⟨rfl, hw5⟩; obtain rfl := hw5.symm))
          go_ret
          exact ⟨rfl, rfl⟩
        · have q1 : decide (((hot : Nat) : Int) < 1) = false := by simp; omega
          have q1b : (((hot : Nat) : Int) == 0) = false := by simpa using h0
          by_cases h1 : 4096 < hot
          · have q2 : decide ((4096 : Int) < (hot : Nat)) = true := by simp; omega
            have HU2 : Hid (∀ v, Calls Try.prog 24 #[.int .i64 u] v fun e w' => e = .returned (.bool true) ∧ w' = v) := fun v => by have q := HU.out v; rw [hu] at q; exact q
            rw [if_neg (by simp [hu] <;> omega)]
            go_enter Try.func10, Try.ntmps10
            go_wp2_with (first | (go_at_call 24; refine (HU2.out _).mono ?_; rintro e5 w5 ⟨rfl, hw5⟩; obtain rfl := hw5.symm))
            go_ret
            exact ⟨rfl, rfl⟩
          · have q2 : decide ((4096 : Int) < (hot : Nat)) = false := by simp; omega
            have HU2 : Hid (∀ v, Calls Try.prog 24 #[.int .i64 u] v fun e w' => e = .returned (.bool true) ∧ w' = v) := fun v => by have q := HU.out v; rw [hu] at q; exact q
            rw [if_pos ⟨by omega, by omega, hu⟩]
            obtain ⟨x, HX⟩ : ∃ x : Nat, Hid (x = ru (hot * 32)) := ⟨_, rfl⟩
            have HC : Hid (∀ v, Calls Try.prog 22 #[.int .i64 (((hot : Nat) : Int) * 32)] v fun e w' => e = .returned (.int .i64 (x : Nat)) ∧ w' = v) := fun v => by
              have q := roundedUp_ok (hot * 32) (by omega) v
              rw [HX.out]
              simpa using q
            rw [← HX.out]
            go_enter Try.func10, Try.ntmps10
            go_wp2_with (first | (go_at_call 24; refine (HU2.out _).mono ?_; rintro e5 w5 ⟨rfl, hw5⟩; obtain rfl := hw5.symm) | (go_at_call 22; refine (HC.out _).mono ?_; rintro e5 w5 ⟨rfl, hw5⟩; obtain rfl := hw5.symm))
            go_ret
            exact ⟨rfl, rfl⟩
      · have hu' : unitB u = false := by simpa using hu
        have HU2 : Hid (∀ v, Calls Try.prog 24 #[.int .i64 u] v fun e w' => e = .returned (.bool false) ∧ w' = v) := fun v => by have q := HU.out v; rw [hu'] at q; exact q
        rw [if_neg (by simp [hu'])]
        by_cases h0 : hot = 0
        · have q1 : decide (((hot : Nat) : Int) < 1) = true := by simp; omega
          have q1b : (((hot : Nat) : Int) == 0) = true := by simpa using h0
          go_enter Try.func10, Try.ntmps10
          go_wp2_with (first | (go_at_call 24; refine (HU2.out _).mono ?_; rintro e5 w5 ⟨rfl, hw5⟩; obtain rfl := hw5.symm))
          go_ret
          exact ⟨rfl, rfl⟩
        · have q1 : decide (((hot : Nat) : Int) < 1) = false := by simp; omega
          have q1b : (((hot : Nat) : Int) == 0) = false := by simpa using h0
          by_cases h1 : 4096 < hot
          · have q2 : decide ((4096 : Int) < (hot : Nat)) = true := by simp; omega
            go_enter Try.func10, Try.ntmps10
            go_wp2_with (first | (go_at_call 24; refine (HU2.out _).mono ?_; rintro e5 w5 ⟨rfl, hw5⟩; obtain rfl := hw5.symm))
            go_ret
            exact ⟨rfl, rfl⟩
          · have q2 : decide ((4096 : Int) < (hot : Nat)) = false := by simp; omega
            go_enter Try.func10, Try.ntmps10
            go_wp2_with (first | (go_at_call 24; refine (HU2.out _).mono ?_; rintro e5 w5 ⟨rfl, hw5⟩; obtain rfl := hw5.symm))
            go_ret
            exact ⟨rfl, rfl⟩
    · have qm2 : (mode == 2) = false := by simpa using m2
      have jr : jF mode hot u = 0 := by rw [jF, if_neg m1, if_neg m2]; simp
      rw [jr]
      clear jr
      by_cases hu : unitB u = true
      · by_cases h0 : hot = 0
        · have q1 : decide (((hot : Nat) : Int) < 1) = true := by simp; omega
          have q1b : (((hot : Nat) : Int) == 0) = true := by simpa using h0
          have HU2 : Hid (∀ v, Calls Try.prog 24 #[.int .i64 u] v fun e w' => e = .returned (.bool true) ∧ w' = v) := fun v => by have q := HU.out v; rw [hu] at q; exact q
          go_enter Try.func10, Try.ntmps10
          go_wp2_with (first | (go_at_call 24; refine (HU2.out _).mono ?_; rintro e5 w5 ⟨rfl, hw5⟩; obtain rfl := hw5.symm))
          go_ret
          exact ⟨rfl, rfl⟩
        · have q1 : decide (((hot : Nat) : Int) < 1) = false := by simp; omega
          have q1b : (((hot : Nat) : Int) == 0) = false := by simpa using h0
          by_cases h1 : 4096 < hot
          · have q2 : decide ((4096 : Int) < (hot : Nat)) = true := by simp; omega
            have HU2 : Hid (∀ v, Calls Try.prog 24 #[.int .i64 u] v fun e w' => e = .returned (.bool true) ∧ w' = v) := fun v => by have q := HU.out v; rw [hu] at q; exact q
            go_enter Try.func10, Try.ntmps10
            go_wp2_with (first | (go_at_call 24; refine (HU2.out _).mono ?_; rintro e5 w5 ⟨rfl, hw5⟩; obtain rfl := hw5.symm))
            go_ret
            exact ⟨rfl, rfl⟩
          · have q2 : decide ((4096 : Int) < (hot : Nat)) = false := by simp; omega
            have HU2 : Hid (∀ v, Calls Try.prog 24 #[.int .i64 u] v fun e w' => e = .returned (.bool true) ∧ w' = v) := fun v => by have q := HU.out v; rw [hu] at q; exact q
            go_enter Try.func10, Try.ntmps10
            go_wp2_with (first | (go_at_call 24; refine (HU2.out _).mono ?_; rintro e5 w5 ⟨rfl, hw5⟩; obtain rfl := hw5.symm))
            go_ret
            exact ⟨rfl, rfl⟩
      · have hu' : unitB u = false := by simpa using hu
        have HU2 : Hid (∀ v, Calls Try.prog 24 #[.int .i64 u] v fun e w' => e = .returned (.bool false) ∧ w' = v) := fun v => by have q := HU.out v; rw [hu'] at q; exact q
        by_cases h0 : hot = 0
        · have q1 : decide (((hot : Nat) : Int) < 1) = true := by simp; omega
          have q1b : (((hot : Nat) : Int) == 0) = true := by simpa using h0
          go_enter Try.func10, Try.ntmps10
          go_wp2_with (first | (go_at_call 24; refine (HU2.out _).mono ?_; rintro e5 w5 ⟨rfl, hw5⟩; obtain rfl := hw5.symm))
          go_ret
          exact ⟨rfl, rfl⟩
        · have q1 : decide (((hot : Nat) : Int) < 1) = false := by simp; omega
          have q1b : (((hot : Nat) : Int) == 0) = false := by simpa using h0
          by_cases h1 : 4096 < hot
          · have q2 : decide ((4096 : Int) < (hot : Nat)) = true := by simp; omega
            go_enter Try.func10, Try.ntmps10
            go_wp2_with (first | (go_at_call 24; refine (HU2.out _).mono ?_; rintro e5 w5 ⟨rfl, hw5⟩; obtain rfl := hw5.symm))
            go_ret
            exact ⟨rfl, rfl⟩
          · have q2 : decide ((4096 : Int) < (hot : Nat)) = false := by simp; omega
            go_enter Try.func10, Try.ntmps10
            go_wp2_with (first | (go_at_call 24; refine (HU2.out _).mono ?_; rintro e5 w5 ⟨rfl, hw5⟩; obtain rfl := hw5.symm))
            go_ret
            exact ⟨rfl, rfl⟩
set_option maxHeartbeats 800000 in
theorem rjour_ok (mode : Int) (hot : Nat) (u : Int) (hh : hot ≤ 18446744073709551615) (w : World) : Calls Try.prog 11 #[.int .i64 mode, .int .u64 (hot : Nat), .int .i64 u] w fun e w' => e = .returned (.int .i64 (jF mode hot u : Nat)) ∧ w' = w := by
  have HU : Hid (∀ v, Calls Try.prog 21 #[.int .i64 u] v fun e w' => e = .returned (.bool (unitB u)) ∧ w' = v) := fun v => runit_ok u v
  by_cases m1 : mode = 1
  · have qm1 : (mode == 1) = true := by simpa using m1
    have jr : jF mode hot u = if 1 ≤ hot ∧ hot ≤ 4096 ∧ unitB u = true then ru (hot * u.toNat) else 0 := by rw [jF, if_pos m1]
    rw [jr]
    clear jr
    by_cases hu : unitB u = true
    · by_cases h0 : hot = 0
      · have q1 : decide (((hot : Nat) : Int) < 1) = true := by simp; omega
        have q1b : (((hot : Nat) : Int) == 0) = true := by simpa using h0
        have HU2 : Hid (∀ v, Calls Try.prog 21 #[.int .i64 u] v fun e w' => e = .returned (.bool true) ∧ w' = v) := fun v => by have q := HU.out v; rw [hu] at q; exact q
        rw [if_neg (by simp [hu] <;> omega)]
        go_enter Try.func11, Try.ntmps11
        go_wp2_with (first | (go_at_call 21; refine (HU2.out _).mono ?_; rintro e5 w5 ⟨rfl, hw5⟩; obtain rfl := hw5.symm))
        go_ret
        exact ⟨rfl, rfl⟩
      · have q1 : decide (((hot : Nat) : Int) < 1) = false := by simp; omega
        have q1b : (((hot : Nat) : Int) == 0) = false := by simpa using h0
        by_cases h1 : 4096 < hot
        · have q2 : decide ((4096 : Int) < (hot : Nat)) = true := by simp; omega
          have HU2 : Hid (∀ v, Calls Try.prog 21 #[.int .i64 u] v fun e w' => e = .returned (.bool true) ∧ w' = v) := fun v => by have q := HU.out v; rw [hu] at q; exact q
          rw [if_neg (by simp [hu] <;> omega)]
          go_enter Try.func11, Try.ntmps11
          go_wp2_with (first | (go_at_call 21; refine (HU2.out _).mono ?_; rintro e5 w5 ⟨rfl, hw5⟩; obtain rfl := hw5.symm))
          go_ret
          exact ⟨rfl, rfl⟩
        · have q2 : decide ((4096 : Int) < (hot : Nat)) = false := by simp; omega
          have HU2 : Hid (∀ v, Calls Try.prog 21 #[.int .i64 u] v fun e w' => e = .returned (.bool true) ∧ w' = v) := fun v => by have q := HU.out v; rw [hu] at q; exact q
          rw [if_pos ⟨by omega, by omega, hu⟩]
          rcases unitB_cases hu with rfl | rfl | rfl | rfl
          · obtain ⟨x, HX⟩ : ∃ x : Nat, Hid (x = ru (hot * 512)) := ⟨_, rfl⟩
            have HC : Hid (∀ v, Calls Try.prog 23 #[.int .i64 (((hot : Nat) : Int) * 512)] v fun e w' => e = .returned (.int .i64 (x : Nat)) ∧ w' = v) := fun v => by
              have q := rup_ok (hot * 512) (by omega) v
              rw [HX.out]
              simpa using q
            have hx : ru (hot * (((512 : Int)).toNat)) = x := by rw [HX.out]; rfl
            rw [hx]
            clear hx
            go_enter Try.func11, Try.ntmps11
            go_wp2_with (first | (go_at_call 21; refine (HU2.out _).mono ?_; rintro e5 w5 ⟨rfl, hw5⟩; obtain rfl := hw5.symm) | (go_at_call 23; refine (HC.out _).mono ?_; rintro e5 w5 ⟨rfl, hw5⟩; obtain rfl := hw5.symm))
            go_ret
            exact ⟨rfl, rfl⟩
          · obtain ⟨x, HX⟩ : ∃ x : Nat, Hid (x = ru (hot * 1024)) := ⟨_, rfl⟩
            have HC : Hid (∀ v, Calls Try.prog 23 #[.int .i64 (((hot : Nat) : Int) * 1024)] v fun e w' => e = .returned (.int .i64 (x : Nat)) ∧ w' = v) := fun v => by
              have q := rup_ok (hot * 1024) (by omega) v
              rw [HX.out]
              simpa using q
            have hx : ru (hot * (((1024 : Int)).toNat)) = x := by rw [HX.out]; rfl
            rw [hx]
            clear hx
            go_enter Try.func11, Try.ntmps11
            go_wp2_with (first | (go_at_call 21; refine (HU2.out _).mono ?_; rintro e5 w5 ⟨rfl, hw5⟩; obtain rfl := hw5.symm) | (go_at_call 23; refine (HC.out _).mono ?_; rintro e5 w5 ⟨rfl, hw5⟩; obtain rfl := hw5.symm))
            go_ret
            exact ⟨rfl, rfl⟩
          · obtain ⟨x, HX⟩ : ∃ x : Nat, Hid (x = ru (hot * 2048)) := ⟨_, rfl⟩
            have HC : Hid (∀ v, Calls Try.prog 23 #[.int .i64 (((hot : Nat) : Int) * 2048)] v fun e w' => e = .returned (.int .i64 (x : Nat)) ∧ w' = v) := fun v => by
              have q := rup_ok (hot * 2048) (by omega) v
              rw [HX.out]
              simpa using q
            have hx : ru (hot * (((2048 : Int)).toNat)) = x := by rw [HX.out]; rfl
            rw [hx]
            clear hx
            go_enter Try.func11, Try.ntmps11
            go_wp2_with (first | (go_at_call 21; refine (HU2.out _).mono ?_; rintro e5 w5 ⟨rfl, hw5⟩; obtain rfl := hw5.symm) | (go_at_call 23; refine (HC.out _).mono ?_; rintro e5 w5 ⟨rfl, hw5⟩; obtain rfl := hw5.symm))
            go_ret
            exact ⟨rfl, rfl⟩
          · obtain ⟨x, HX⟩ : ∃ x : Nat, Hid (x = ru (hot * 4096)) := ⟨_, rfl⟩
            have HC : Hid (∀ v, Calls Try.prog 23 #[.int .i64 (((hot : Nat) : Int) * 4096)] v fun e w' => e = .returned (.int .i64 (x : Nat)) ∧ w' = v) := fun v => by
              have q := rup_ok (hot * 4096) (by omega) v
              rw [HX.out]
              simpa using q
            have hx : ru (hot * (((4096 : Int)).toNat)) = x := by rw [HX.out]; rfl
            rw [hx]
            clear hx
            go_enter Try.func11, Try.ntmps11
            go_wp2_with (first | (go_at_call 21; refine (HU2.out _).mono ?_; rintro e5 w5 ⟨rfl, hw5⟩; obtain rfl := hw5.symm) | (go_at_call 23; refine (HC.out _).mono ?_; rintro e5 w5 ⟨rfl, hw5⟩; obtain rfl := hw5.symm))
            go_ret
            exact ⟨rfl, rfl⟩
    · have hu' : unitB u = false := by simpa using hu
      have HU2 : Hid (∀ v, Calls Try.prog 21 #[.int .i64 u] v fun e w' => e = .returned (.bool false) ∧ w' = v) := fun v => by have q := HU.out v; rw [hu'] at q; exact q
      rw [if_neg (by simp [hu'])]
      by_cases h0 : hot = 0
      · have q1 : decide (((hot : Nat) : Int) < 1) = true := by simp; omega
        have q1b : (((hot : Nat) : Int) == 0) = true := by simpa using h0
        go_enter Try.func11, Try.ntmps11
        go_wp2_with (first | (go_at_call 21; refine (HU2.out _).mono ?_; rintro e5 w5 ⟨rfl, hw5⟩; obtain rfl := hw5.symm))
        go_ret
        exact ⟨rfl, rfl⟩
      · have q1 : decide (((hot : Nat) : Int) < 1) = false := by simp; omega
        have q1b : (((hot : Nat) : Int) == 0) = false := by simpa using h0
        by_cases h1 : 4096 < hot
        · have q2 : decide ((4096 : Int) < (hot : Nat)) = true := by simp; omega
          go_enter Try.func11, Try.ntmps11
          go_wp2_with (first | (go_at_call 21; refine (HU2.out _).mono ?_; rintro e5 w5 ⟨rfl, hw5⟩; obtain rfl := hw5.symm))
          go_ret
          exact ⟨rfl, rfl⟩
        · have q2 : decide ((4096 : Int) < (hot : Nat)) = false := by simp; omega
          go_enter Try.func11, Try.ntmps11
          go_wp2_with (first | (go_at_call 21; refine (HU2.out _).mono ?_; rintro e5 w5 ⟨rfl, hw5⟩; obtain rfl := hw5.symm))
          go_ret
          exact ⟨rfl, rfl⟩
  · have qm1 : (mode == 1) = false := by simpa using m1
    by_cases m2 : mode = 2
    · have qm2 : (mode == 2) = true := by simpa using m2
      have jr : jF mode hot u = if 1 ≤ hot ∧ hot ≤ 4096 ∧ unitB u = true then ru (hot * 32) else 0 := by rw [jF, if_neg m1, if_pos m2]
      rw [jr]
      clear jr
      by_cases hu : unitB u = true
      · by_cases h0 : hot = 0
        · have q1 : decide (((hot : Nat) : Int) < 1) = true := by simp; omega
          have q1b : (((hot : Nat) : Int) == 0) = true := by simpa using h0
          have HU2 : Hid (∀ v, Calls Try.prog 21 #[.int .i64 u] v fun e w' => e = .returned (.bool true) ∧ w' = v) := fun v => by have q := HU.out v; rw [hu] at q; exact q
          rw [if_neg (by simp [hu] <;> omega)]
          go_enter Try.func11, Try.ntmps11
          go_wp2_with (first | (go_at_call 21; refine (HU2.out _).mono ?_; rintro e5 w5 ⟨rfl, hw5⟩; obtain rfl := hw5.symm))
          go_ret
          exact ⟨rfl, rfl⟩
        · have q1 : decide (((hot : Nat) : Int) < 1) = false := by simp; omega
          have q1b : (((hot : Nat) : Int) == 0) = false := by simpa using h0
          by_cases h1 : 4096 < hot
          · have q2 : decide ((4096 : Int) < (hot : Nat)) = true := by simp; omega
            have HU2 : Hid (∀ v, Calls Try.prog 21 #[.int .i64 u] v fun e w' => e = .returned (.bool true) ∧ w' = v) := fun v => by have q := HU.out v; rw [hu] at q; exact q
            rw [if_neg (by simp [hu] <;> omega)]
            go_enter Try.func11, Try.ntmps11
            go_wp2_with (first | (go_at_call 21; refine (HU2.out _).mono ?_; rintro e5 w5 ⟨rfl, hw5⟩; obtain rfl := hw5.symm))
            go_ret
            exact ⟨rfl, rfl⟩
          · have q2 : decide ((4096 : Int) < (hot : Nat)) = false := by simp; omega
            have HU2 : Hid (∀ v, Calls Try.prog 21 #[.int .i64 u] v fun e w' => e = .returned (.bool true) ∧ w' = v) := fun v => by have q := HU.out v; rw [hu] at q; exact q
            rw [if_pos ⟨by omega, by omega, hu⟩]
            obtain ⟨x, HX⟩ : ∃ x : Nat, Hid (x = ru (hot * 32)) := ⟨_, rfl⟩
            have HC : Hid (∀ v, Calls Try.prog 23 #[.int .i64 (((hot : Nat) : Int) * 32)] v fun e w' => e = .returned (.int .i64 (x : Nat)) ∧ w' = v) := fun v => by
              have q := rup_ok (hot * 32) (by omega) v
              rw [HX.out]
              simpa using q
            rw [← HX.out]
            go_enter Try.func11, Try.ntmps11
            go_wp2_with (first | (go_at_call 21; refine (HU2.out _).mono ?_; rintro e5 w5 ⟨rfl, hw5⟩; obtain rfl := hw5.symm) | (go_at_call 23; refine (HC.out _).mono ?_; rintro e5 w5 ⟨rfl, hw5⟩; obtain rfl := hw5.symm))
            go_ret
            exact ⟨rfl, rfl⟩
      · have hu' : unitB u = false := by simpa using hu
        have HU2 : Hid (∀ v, Calls Try.prog 21 #[.int .i64 u] v fun e w' => e = .returned (.bool false) ∧ w' = v) := fun v => by have q := HU.out v; rw [hu'] at q; exact q
        rw [if_neg (by simp [hu'])]
        by_cases h0 : hot = 0
        · have q1 : decide (((hot : Nat) : Int) < 1) = true := by simp; omega
          have q1b : (((hot : Nat) : Int) == 0) = true := by simpa using h0
          go_enter Try.func11, Try.ntmps11
          go_wp2_with (first | (go_at_call 21; refine (HU2.out _).mono ?_; rintro e5 w5 ⟨rfl, hw5⟩; obtain rfl := hw5.symm))
          go_ret
          exact ⟨rfl, rfl⟩
        · have q1 : decide (((hot : Nat) : Int) < 1) = false := by simp; omega
          have q1b : (((hot : Nat) : Int) == 0) = false := by simpa using h0
          by_cases h1 : 4096 < hot
          · have q2 : decide ((4096 : Int) < (hot : Nat)) = true := by simp; omega
            go_enter Try.func11, Try.ntmps11
            go_wp2_with (first | (go_at_call 21; refine (HU2.out _).mono ?_; rintro e5 w5 ⟨rfl, hw5⟩; obtain rfl := hw5.symm))
            go_ret
            exact ⟨rfl, rfl⟩
          · have q2 : decide ((4096 : Int) < (hot : Nat)) = false := by simp; omega
            go_enter Try.func11, Try.ntmps11
            go_wp2_with (first | (go_at_call 21; refine (HU2.out _).mono ?_; rintro e5 w5 ⟨rfl, hw5⟩; obtain rfl := hw5.symm))
            go_ret
            exact ⟨rfl, rfl⟩
    · have qm2 : (mode == 2) = false := by simpa using m2
      have jr : jF mode hot u = 0 := by rw [jF, if_neg m1, if_neg m2]; simp
      rw [jr]
      clear jr
      by_cases hu : unitB u = true
      · by_cases h0 : hot = 0
        · have q1 : decide (((hot : Nat) : Int) < 1) = true := by simp; omega
          have q1b : (((hot : Nat) : Int) == 0) = true := by simpa using h0
          have HU2 : Hid (∀ v, Calls Try.prog 21 #[.int .i64 u] v fun e w' => e = .returned (.bool true) ∧ w' = v) := fun v => by have q := HU.out v; rw [hu] at q; exact q
          go_enter Try.func11, Try.ntmps11
          go_wp2_with (first | (go_at_call 21; refine (HU2.out _).mono ?_; rintro e5 w5 ⟨rfl, hw5⟩; obtain rfl := hw5.symm))
          go_ret
          exact ⟨rfl, rfl⟩
        · have q1 : decide (((hot : Nat) : Int) < 1) = false := by simp; omega
          have q1b : (((hot : Nat) : Int) == 0) = false := by simpa using h0
          by_cases h1 : 4096 < hot
          · have q2 : decide ((4096 : Int) < (hot : Nat)) = true := by simp; omega
            have HU2 : Hid (∀ v, Calls Try.prog 21 #[.int .i64 u] v fun e w' => e = .returned (.bool true) ∧ w' = v) := fun v => by have q := HU.out v; rw [hu] at q; exact q
            go_enter Try.func11, Try.ntmps11
            go_wp2_with (first | (go_at_call 21; refine (HU2.out _).mono ?_; rintro e5 w5 ⟨rfl, hw5⟩; obtain rfl := hw5.symm))
            go_ret
            exact ⟨rfl, rfl⟩
          · have q2 : decide ((4096 : Int) < (hot : Nat)) = false := by simp; omega
            have HU2 : Hid (∀ v, Calls Try.prog 21 #[.int .i64 u] v fun e w' => e = .returned (.bool true) ∧ w' = v) := fun v => by have q := HU.out v; rw [hu] at q; exact q
            go_enter Try.func11, Try.ntmps11
            go_wp2_with (first | (go_at_call 21; refine (HU2.out _).mono ?_; rintro e5 w5 ⟨rfl, hw5⟩; obtain rfl := hw5.symm))
            go_ret
            exact ⟨rfl, rfl⟩
      · have hu' : unitB u = false := by simpa using hu
        have HU2 : Hid (∀ v, Calls Try.prog 21 #[.int .i64 u] v fun e w' => e = .returned (.bool false) ∧ w' = v) := fun v => by have q := HU.out v; rw [hu'] at q; exact q
        by_cases h0 : hot = 0
        · have q1 : decide (((hot : Nat) : Int) < 1) = true := by simp; omega
          have q1b : (((hot : Nat) : Int) == 0) = true := by simpa using h0
          go_enter Try.func11, Try.ntmps11
          go_wp2_with (first | (go_at_call 21; refine (HU2.out _).mono ?_; rintro e5 w5 ⟨rfl, hw5⟩; obtain rfl := hw5.symm))
          go_ret
          exact ⟨rfl, rfl⟩
        · have q1 : decide (((hot : Nat) : Int) < 1) = false := by simp; omega
          have q1b : (((hot : Nat) : Int) == 0) = false := by simpa using h0
          by_cases h1 : 4096 < hot
          · have q2 : decide ((4096 : Int) < (hot : Nat)) = true := by simp; omega
            go_enter Try.func11, Try.ntmps11
            go_wp2_with (first | (go_at_call 21; refine (HU2.out _).mono ?_; rintro e5 w5 ⟨rfl, hw5⟩; obtain rfl := hw5.symm))
            go_ret
            exact ⟨rfl, rfl⟩
          · have q2 : decide ((4096 : Int) < (hot : Nat)) = false := by simp; omega
            go_enter Try.func11, Try.ntmps11
            go_wp2_with (first | (go_at_call 21; refine (HU2.out _).mono ?_; rintro e5 w5 ⟨rfl, hw5⟩; obtain rfl := hw5.symm))
            go_ret
            exact ⟨rfl, rfl⟩
end Go.Proofs.Ytmgbnaekibaleaa
