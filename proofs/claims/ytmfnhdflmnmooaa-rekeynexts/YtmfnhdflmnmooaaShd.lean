import Derived.Test.YtmfnhdflmnmooaaShc
namespace Go.Proofs.Ytmfnhdflmnmooaa
open Go.RowKit
set_option linter.unusedVariables false
set_option linter.unusedSimpArgs false
def mayB (U C H K : Int) : Bool := unitB U && headB H && decide (4096 ≤ K) && decide (K ≤ 134217728) && decide (K % 4096 = 0) && decide (C ≤ 4294967296) && decide (2 * H + K < C * U)
theorem headB_range {H : Int} (h : headB H = true) : 16384 ≤ H ∧ H ≤ 4194304 := by
  simp [headB] at h
  omega
set_option maxHeartbeats 1600000 in
theorem may_0 (U C H K : Int) (w : World) (hu : unitB U = false) : Calls Try.prog 18 #[.agg #[.int .i64 U, .int .u64 C, .int .i64 H, .int .i64 K]] w fun e w' => Hid (e = .returned (.bool false) ∧ Below w.heap.size w w') := by
  have HU : Hid (∀ v, Calls Try.prog 41 #[.int .i64 U] v fun e w' => e = .returned (.bool false) ∧ w' = v) := fun v => by have q := isUnit_ok U v; rw [hu] at q; exact q
  have HA : Hid (SAt (w.alloc (.cells #[.int .i64 U, .int .u64 C, .int .i64 H, .int .i64 K] 24)) w.heap.size U C H K ∧ Below w.heap.size w (w.alloc (.cells #[.int .i64 U, .int .u64 C, .int .i64 H, .int .i64 K] 24))) := ⟨SAt.new _ _ _ _ _ _, below_alloc1 _ _⟩
  go_enter Try.func18, Try.ntmps18
  go_upto_region 1 with fail
  generalize w.alloc (.cells #[.int .i64 U, .int .u64 C, .int .i64 H, .int .i64 K] 24) = w0 at HA ⊢
  have c0 := HA.out.1.c0
  have c1 := HA.out.1.c1
  have c2 := HA.out.1.c2
  have c3 := HA.out.1.c3
  go_quiet ((go_at_call 41; exact Calls.quiet_of_same (HU.out _)))
  have HB : Hid (Below w.heap.size w (w0.drewN nq)) := Below.ofSm HA.out.2 ⟨rfl, rfl, rfl, rfl⟩
  go_wp2
  go_ret
  exact ⟨rfl, HB.out⟩
set_option maxHeartbeats 1600000 in
theorem may_1 (U C H K : Int) (w : World) (hu : unitB U = true) (hh : headB H = false) : Calls Try.prog 18 #[.agg #[.int .i64 U, .int .u64 C, .int .i64 H, .int .i64 K]] w fun e w' => Hid (e = .returned (.bool false) ∧ Below w.heap.size w w') := by
  have HU : Hid (∀ v, Calls Try.prog 41 #[.int .i64 U] v fun e w' => e = .returned (.bool true) ∧ w' = v) := fun v => by have q := isUnit_ok U v; rw [hu] at q; exact q
  have HH : Hid (∀ v, Calls Try.prog 42 #[.int .i64 H] v fun e w' => e = .returned (.bool false) ∧ w' = v) := fun v => by have q := isHead_ok H v; rw [hh] at q; exact q
  have HA : Hid (SAt (w.alloc (.cells #[.int .i64 U, .int .u64 C, .int .i64 H, .int .i64 K] 24)) w.heap.size U C H K ∧ Below w.heap.size w (w.alloc (.cells #[.int .i64 U, .int .u64 C, .int .i64 H, .int .i64 K] 24))) := ⟨SAt.new _ _ _ _ _ _, below_alloc1 _ _⟩
  go_enter Try.func18, Try.ntmps18
  go_upto_region 1 with fail
  generalize w.alloc (.cells #[.int .i64 U, .int .u64 C, .int .i64 H, .int .i64 K] 24) = w0 at HA ⊢
  have c0 := HA.out.1.c0
  have c1 := HA.out.1.c1
  have c2 := HA.out.1.c2
  have c3 := HA.out.1.c3
  go_quiet (first | (go_at_call 41; exact Calls.quiet_of_same (HU.out _)) | (go_at_call 42; exact Calls.quiet_of_same (HH.out _)))
  have HB : Hid (Below w.heap.size w (w0.drewN nq)) := Below.ofSm HA.out.2 ⟨rfl, rfl, rfl, rfl⟩
  go_wp2
  go_ret
  exact ⟨rfl, HB.out⟩
set_option maxHeartbeats 1600000 in
theorem may_2 (U C H K : Int) (w : World) (hu : unitB U = true) (hh : headB H = true) (k1 : ¬ 4096 ≤ K) : Calls Try.prog 18 #[.agg #[.int .i64 U, .int .u64 C, .int .i64 H, .int .i64 K]] w fun e w' => Hid (e = .returned (.bool false) ∧ Below w.heap.size w w') := by
  have HU : Hid (∀ v, Calls Try.prog 41 #[.int .i64 U] v fun e w' => e = .returned (.bool true) ∧ w' = v) := fun v => by have q := isUnit_ok U v; rw [hu] at q; exact q
  have HH : Hid (∀ v, Calls Try.prog 42 #[.int .i64 H] v fun e w' => e = .returned (.bool true) ∧ w' = v) := fun v => by have q := isHead_ok H v; rw [hh] at q; exact q
  have qk1 : decide (4096 ≤ K) = false := by simpa using k1
  clear k1
  have HA : Hid (SAt (w.alloc (.cells #[.int .i64 U, .int .u64 C, .int .i64 H, .int .i64 K] 24)) w.heap.size U C H K ∧ Below w.heap.size w (w.alloc (.cells #[.int .i64 U, .int .u64 C, .int .i64 H, .int .i64 K] 24))) := ⟨SAt.new _ _ _ _ _ _, below_alloc1 _ _⟩
  go_enter Try.func18, Try.ntmps18
  go_upto_region 1 with fail
  generalize w.alloc (.cells #[.int .i64 U, .int .u64 C, .int .i64 H, .int .i64 K] 24) = w0 at HA ⊢
  have c0 := HA.out.1.c0
  have c1 := HA.out.1.c1
  have c2 := HA.out.1.c2
  have c3 := HA.out.1.c3
  go_quiet (first | (go_at_call 41; exact Calls.quiet_of_same (HU.out _)) | (go_at_call 42; exact Calls.quiet_of_same (HH.out _)))
  have HB : Hid (Below w.heap.size w (w0.drewN nq)) := Below.ofSm HA.out.2 ⟨rfl, rfl, rfl, rfl⟩
  go_wp2
  go_ret
  exact ⟨rfl, HB.out⟩
set_option maxHeartbeats 1600000 in
theorem may_3 (U C H K : Int) (w : World) (hu : unitB U = true) (hh : headB H = true) (k1 : 4096 ≤ K) (k2 : ¬ K ≤ 134217728) : Calls Try.prog 18 #[.agg #[.int .i64 U, .int .u64 C, .int .i64 H, .int .i64 K]] w fun e w' => Hid (e = .returned (.bool false) ∧ Below w.heap.size w w') := by
  have HU : Hid (∀ v, Calls Try.prog 41 #[.int .i64 U] v fun e w' => e = .returned (.bool true) ∧ w' = v) := fun v => by have q := isUnit_ok U v; rw [hu] at q; exact q
  have HH : Hid (∀ v, Calls Try.prog 42 #[.int .i64 H] v fun e w' => e = .returned (.bool true) ∧ w' = v) := fun v => by have q := isHead_ok H v; rw [hh] at q; exact q
  have qk1 : decide (4096 ≤ K) = true := by simpa using k1
  have qk2 : decide (K ≤ 134217728) = false := by simpa using k2
  clear k1 k2
  have HA : Hid (SAt (w.alloc (.cells #[.int .i64 U, .int .u64 C, .int .i64 H, .int .i64 K] 24)) w.heap.size U C H K ∧ Below w.heap.size w (w.alloc (.cells #[.int .i64 U, .int .u64 C, .int .i64 H, .int .i64 K] 24))) := ⟨SAt.new _ _ _ _ _ _, below_alloc1 _ _⟩
  go_enter Try.func18, Try.ntmps18
  go_upto_region 1 with fail
  generalize w.alloc (.cells #[.int .i64 U, .int .u64 C, .int .i64 H, .int .i64 K] 24) = w0 at HA ⊢
  have c0 := HA.out.1.c0
  have c1 := HA.out.1.c1
  have c2 := HA.out.1.c2
  have c3 := HA.out.1.c3
  go_quiet (first | (go_at_call 41; exact Calls.quiet_of_same (HU.out _)) | (go_at_call 42; exact Calls.quiet_of_same (HH.out _)))
  have HB : Hid (Below w.heap.size w (w0.drewN nq)) := Below.ofSm HA.out.2 ⟨rfl, rfl, rfl, rfl⟩
  go_wp2
  go_ret
  exact ⟨rfl, HB.out⟩
set_option maxHeartbeats 1600000 in
theorem may_4 (U C H K : Int) (w : World) (hu : unitB U = true) (hh : headB H = true) (k1 : 4096 ≤ K) (k2 : K ≤ 134217728) (k3 : ¬ K % 4096 = 0) : Calls Try.prog 18 #[.agg #[.int .i64 U, .int .u64 C, .int .i64 H, .int .i64 K]] w fun e w' => Hid (e = .returned (.bool false) ∧ Below w.heap.size w w') := by
  have HU : Hid (∀ v, Calls Try.prog 41 #[.int .i64 U] v fun e w' => e = .returned (.bool true) ∧ w' = v) := fun v => by have q := isUnit_ok U v; rw [hu] at q; exact q
  have HH : Hid (∀ v, Calls Try.prog 42 #[.int .i64 H] v fun e w' => e = .returned (.bool true) ∧ w' = v) := fun v => by have q := isHead_ok H v; rw [hh] at q; exact q
  have qk1 : decide (4096 ≤ K) = true := by simpa using k1
  have qk2 : decide (K ≤ 134217728) = true := by simpa using k2
  have qk3 : (K.tmod 4096 == 0) = false := by rw [Int.tmod_eq_emod_of_nonneg (by omega)]; exact beq_eq_false_iff_ne.2 k3
  clear k1 k2 k3
  have HA : Hid (SAt (w.alloc (.cells #[.int .i64 U, .int .u64 C, .int .i64 H, .int .i64 K] 24)) w.heap.size U C H K ∧ Below w.heap.size w (w.alloc (.cells #[.int .i64 U, .int .u64 C, .int .i64 H, .int .i64 K] 24))) := ⟨SAt.new _ _ _ _ _ _, below_alloc1 _ _⟩
  go_enter Try.func18, Try.ntmps18
  go_upto_region 1 with fail
  generalize w.alloc (.cells #[.int .i64 U, .int .u64 C, .int .i64 H, .int .i64 K] 24) = w0 at HA ⊢
  have c0 := HA.out.1.c0
  have c1 := HA.out.1.c1
  have c2 := HA.out.1.c2
  have c3 := HA.out.1.c3
  go_quiet (first | (go_at_call 41; exact Calls.quiet_of_same (HU.out _)) | (go_at_call 42; exact Calls.quiet_of_same (HH.out _)))
  have HB : Hid (Below w.heap.size w (w0.drewN nq)) := Below.ofSm HA.out.2 ⟨rfl, rfl, rfl, rfl⟩
  go_wp2
  go_ret
  exact ⟨rfl, HB.out⟩
set_option maxHeartbeats 1600000 in
theorem may_5 (U C H K : Int) (w : World) (hu : unitB U = true) (hh : headB H = true) (k1 : 4096 ≤ K) (k2 : K ≤ 134217728) (k3 : K % 4096 = 0) (cc : ¬ C ≤ 4294967296) : Calls Try.prog 18 #[.agg #[.int .i64 U, .int .u64 C, .int .i64 H, .int .i64 K]] w fun e w' => Hid (e = .returned (.bool false) ∧ Below w.heap.size w w') := by
  have HU : Hid (∀ v, Calls Try.prog 41 #[.int .i64 U] v fun e w' => e = .returned (.bool true) ∧ w' = v) := fun v => by have q := isUnit_ok U v; rw [hu] at q; exact q
  have HH : Hid (∀ v, Calls Try.prog 42 #[.int .i64 H] v fun e w' => e = .returned (.bool true) ∧ w' = v) := fun v => by have q := isHead_ok H v; rw [hh] at q; exact q
  have qk1 : decide (4096 ≤ K) = true := by simpa using k1
  have qk2 : decide (K ≤ 134217728) = true := by simpa using k2
  have qk3 : (K.tmod 4096 == 0) = true := by rw [Int.tmod_eq_emod_of_nonneg (by omega)]; simpa using k3
  have qcc : decide (C ≤ 4294967296) = false := by simpa using cc
  clear k1 k2 k3 cc
  have HA : Hid (SAt (w.alloc (.cells #[.int .i64 U, .int .u64 C, .int .i64 H, .int .i64 K] 24)) w.heap.size U C H K ∧ Below w.heap.size w (w.alloc (.cells #[.int .i64 U, .int .u64 C, .int .i64 H, .int .i64 K] 24))) := ⟨SAt.new _ _ _ _ _ _, below_alloc1 _ _⟩
  go_enter Try.func18, Try.ntmps18
  go_upto_region 1 with fail
  generalize w.alloc (.cells #[.int .i64 U, .int .u64 C, .int .i64 H, .int .i64 K] 24) = w0 at HA ⊢
  have c0 := HA.out.1.c0
  have c1 := HA.out.1.c1
  have c2 := HA.out.1.c2
  have c3 := HA.out.1.c3
  go_quiet (first | (go_at_call 41; exact Calls.quiet_of_same (HU.out _)) | (go_at_call 42; exact Calls.quiet_of_same (HH.out _)))
  have HB : Hid (Below w.heap.size w (w0.drewN nq)) := Below.ofSm HA.out.2 ⟨rfl, rfl, rfl, rfl⟩
  go_wp2
  go_ret
  exact ⟨rfl, HB.out⟩
set_option maxHeartbeats 3200000 in
theorem may_6 (U C H K : Int) (w : World) (hu : unitB U = true) (hh : headB H = true) (k1 : 4096 ≤ K) (k2 : K ≤ 134217728) (k3 : K % 4096 = 0) (cc : C ≤ 4294967296) (c00 : 0 ≤ C) : Calls Try.prog 18 #[.agg #[.int .i64 U, .int .u64 C, .int .i64 H, .int .i64 K]] w fun e w' => Hid (e = .returned (.bool (decide (2 * H + K < C * U))) ∧ Below w.heap.size w w') := by
  have HU : Hid (∀ v, Calls Try.prog 41 #[.int .i64 U] v fun e w' => e = .returned (.bool true) ∧ w' = v) := fun v => by have q := isUnit_ok U v; rw [hu] at q; exact q
  have HH : Hid (∀ v, Calls Try.prog 42 #[.int .i64 H] v fun e w' => e = .returned (.bool true) ∧ w' = v) := fun v => by have q := isHead_ok H v; rw [hh] at q; exact q
  obtain ⟨h1, h2⟩ := headB_range hh
  have qk1 : decide (4096 ≤ K) = true := by simpa using k1
  have qk2 : decide (K ≤ 134217728) = true := by simpa using k2
  have qk3 : (K.tmod 4096 == 0) = true := by rw [Int.tmod_eq_emod_of_nonneg (by omega)]; simpa using k3
  have qcc : decide (C ≤ 4294967296) = true := by simpa using cc
  have HA : Hid (SAt (w.alloc (.cells #[.int .i64 U, .int .u64 C, .int .i64 H, .int .i64 K] 24)) w.heap.size U C H K ∧ Below w.heap.size w (w.alloc (.cells #[.int .i64 U, .int .u64 C, .int .i64 H, .int .i64 K] 24))) := ⟨SAt.new _ _ _ _ _ _, below_alloc1 _ _⟩
  have hwr : IntKind.i64.wrap (C * U) = C * U := by
    rw [IntKind.wrap_i64]
    rcases unitB_cases hu with rfl | rfl | rfl | rfl <;> omega
  have hwc : IntKind.i64.wrap C = C := by rw [IntKind.wrap_i64]; omega
  go_enter Try.func18, Try.ntmps18
  go_upto_region 1 with fail
  generalize w.alloc (.cells #[.int .i64 U, .int .u64 C, .int .i64 H, .int .i64 K] 24) = w0 at HA ⊢
  have HC : Hid (∀ u, Sm w0 u → Calls Try.prog 43 #[.agg #[.int .i64 U, .int .u64 C, .int .i64 H, .int .i64 K]] u fun e w' => Hid (e = .returned (.int .i64 (2 * H + K)) ∧ Below w0.heap.size w0 w')) := fun u hu => by
    refine (data_ok U C H K u (by omega) h2 (by omega) k2).mono ?_
    intro e w' hh
    have hbu : Below w0.heap.size w0 u := Below.ofSm (Below.refl _ _) hu
    exact ⟨hh.out.1, hbu.trans (hh.out.2.mono hbu.size)⟩
  have c0 := HA.out.1.all
  go_region_held3 (fun u => u.cell? ⟨w.heap.size, 0, none⟩ = some (.int .i64 U) ∧ u.cell? ⟨w.heap.size, 1, none⟩ = some (.int .u64 C) ∧ u.cell? ⟨w.heap.size, 2, none⟩ = some (.int .i64 H) ∧ u.cell? ⟨w.heap.size, 3, none⟩ = some (.int .i64 K)) (first | exact c0 | exact hS6 | go_keep) ((first
    | (go_at_call 41; refine (HU.out _).mono ?_; rintro e4 w4 ⟨rfl, hw4⟩; obtain rfl := hw4.symm)
    | (go_at_call 42; refine (HH.out _).mono ?_; rintro e5 w5 ⟨rfl, hw5⟩; obtain rfl := hw5.symm)
    | (go_at_call 43; refine (HC.out _ ?_).mono ?_; exact ⟨rfl, rfl, rfl, rfl⟩; intro e6 w6 hh; obtain ⟨rfl, hb6⟩ := hh.out; have hS6 := (HA.out.1.below hb6).all)))
  have HB6 : Hid (Below w.heap.size w w6) := HA.out.2.trans (hb6.mono HA.out.2.size)
  clear hb6 hS6 HC
  go_wp2
  go_ret
  exact ⟨rfl, HB6.out⟩
/-- ledger.shapeMay. -/
theorem may_ok (U C H K : Int) (c00 : 0 ≤ C) (w : World) : Calls Try.prog 18 #[.agg #[.int .i64 U, .int .u64 C, .int .i64 H, .int .i64 K]] w fun e w' => Hid (e = .returned (.bool (mayB U C H K)) ∧ Below w.heap.size w w') := by
  by_cases hu : unitB U = true
  · by_cases hh : headB H = true
    · by_cases k1 : 4096 ≤ K
      · by_cases k2 : K ≤ 134217728
        · by_cases k3 : K % 4096 = 0
          · by_cases cc : C ≤ 4294967296
            · have e : mayB U C H K = decide (2 * H + K < C * U) := by simp [mayB, hu, hh, k1, k2, k3, cc]
              rw [e]; exact may_6 U C H K w hu hh k1 k2 k3 cc c00
            · have e : mayB U C H K = false := by simp [mayB, cc]
              rw [e]; exact may_5 U C H K w hu hh k1 k2 k3 cc
          · have e : mayB U C H K = false := by simp [mayB, k3]
            rw [e]; exact may_4 U C H K w hu hh k1 k2 k3
        · have e : mayB U C H K = false := by simp [mayB, k2]
          rw [e]; exact may_3 U C H K w hu hh k1 k2
      · have e : mayB U C H K = false := by simp [mayB, k1]
        rw [e]; exact may_2 U C H K w hu hh k1
    · have e : mayB U C H K = false := by simp [mayB, hh]
      rw [e]; exact may_1 U C H K w hu (by simpa using hh)
  · have e : mayB U C H K = false := by simp [mayB, hu]
    rw [e]; exact may_0 U C H K w (by simpa using hu)
/-- What Sectors tells. -/
def secN (U C H K : Int) : Int := if mayB U C H K = true then C - (2 * H + K) / U else 0
def secE (U C H K : Int) : Int := if mayB U C H K = true then 0 else 90
theorem mayB_all {U C H K : Int} (h : mayB U C H K = true) : unitB U = true ∧ headB H = true ∧ 4096 ≤ K ∧ K ≤ 134217728 ∧ K % 4096 = 0 ∧ C ≤ 4294967296 ∧ 2 * H + K < C * U := by
  simp [mayB] at h
  obtain ⟨⟨⟨⟨⟨⟨a, b⟩, c⟩, d⟩, e⟩, f⟩, g⟩ := h
  exact ⟨a, b, c, d, e, f, g⟩
end Go.Proofs.Ytmfnhdflmnmooaa
