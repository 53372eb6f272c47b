import Derived.Test.YtaejoohbmdckhaaMay
namespace Go.Proofs.Ytaejoohbmdckhaa
open Go.RowKit
set_option linter.unusedVariables false
set_option linter.unusedSimpArgs false
theorem sqb {x : Int} (B : Nat) (h1 : -(B : Int) ≤ x) (h2 : x ≤ (B : Int)) : 0 ≤ x * x ∧ x * x ≤ ((B * B : Nat) : Int) := by
  have e := Int.natAbs_mul_self (a := x)
  have h : x.natAbs ≤ B := by omega
  have k := Nat.mul_le_mul h h
  rw [← e]
  constructor
  · exact Int.natCast_nonneg _
  · exact Int.ofNat_le.2 k
/-- What random bytes are not. -/
def SickP (c run most ones e0 e1 e2 e3 e4 e5 e6 e7 far poker turned : Int) : Prop := 32 * c < e0 * e0 + e1 * e1 ∨ 32 * c < e2 * e2 + e3 * e3 ∨ 32 * c < e4 * e4 + e5 * e5 ∨ 32 * c < e6 * e6 + e7 * e7 ∨ (if c ≤ 65536 then 4 else 6) < run ∨ 20 < most ∨ 288 * c < (2 * ones - 8 * c) * (2 * ones - 8 * c) ∨ 36 * (8 * c - 1) < (2 * turned - (8 * c - 1)) * (2 * turned - (8 * c - 1)) ∨ 200 * c < 16 * poker - 4 * c * c ∨ 64 * c < far
instance (c run most ones e0 e1 e2 e3 e4 e5 e6 e7 far poker turned : Int) : Decidable (SickP c run most ones e0 e1 e2 e3 e4 e5 e6 e7 far poker turned) := by unfold SickP; infer_instance
theorem sick_no (c run most ones e0 e1 e2 e3 e4 e5 e6 e7 far poker turned : Int) (h : ¬ SickP c run most ones e0 e1 e2 e3 e4 e5 e6 e7 far poker turned) : decide (SickP c run most ones e0 e1 e2 e3 e4 e5 e6 e7 far poker turned) = false := decide_eq_false h
theorem sick_yes (c run most ones e0 e1 e2 e3 e4 e5 e6 e7 far poker turned : Int) (h : SickP c run most ones e0 e1 e2 e3 e4 e5 e6 e7 far poker turned) : decide (SickP c run most ones e0 e1 e2 e3 e4 e5 e6 e7 far poker turned) = true := decide_eq_true h
/-- No number of these is too great. -/
structure Fits (c run most ones e0 e1 e2 e3 e4 e5 e6 e7 far poker turned : Int) : Prop where
  f0 : IntKind.i64.wrap (32 * c) = 32 * c
  f1 : IntKind.i64.wrap (2 * ones) = 2 * ones
  f2 : IntKind.i64.wrap (8 * c) = 8 * c
  f3 : IntKind.i64.wrap (2 * ones - 8 * c) = 2 * ones - 8 * c
  f4 : IntKind.i64.wrap (8 * c - 1) = 8 * c - 1
  f5 : IntKind.i64.wrap (2 * turned) = 2 * turned
  f6 : IntKind.i64.wrap (2 * turned - (8 * c - 1)) = 2 * turned - (8 * c - 1)
  f7 : IntKind.i64.wrap ((2 * ones - 8 * c) * (2 * ones - 8 * c)) = (2 * ones - 8 * c) * (2 * ones - 8 * c)
  f8 : IntKind.i64.wrap (288 * c) = 288 * c
  f9 : IntKind.i64.wrap ((2 * turned - (8 * c - 1)) * (2 * turned - (8 * c - 1))) = (2 * turned - (8 * c - 1)) * (2 * turned - (8 * c - 1))
  f10 : IntKind.i64.wrap (36 * (8 * c - 1)) = 36 * (8 * c - 1)
  f11 : IntKind.i64.wrap (16 * poker) = 16 * poker
  f12 : IntKind.i64.wrap (4 * c) = 4 * c
  f13 : IntKind.i64.wrap (4 * c * c) = 4 * c * c
  f14 : IntKind.i64.wrap (16 * poker - 4 * c * c) = 16 * poker - 4 * c * c
  f15 : IntKind.i64.wrap (200 * c) = 200 * c
  f16 : IntKind.i64.wrap (64 * c) = 64 * c
  f17 : IntKind.i64.wrap (e0 * e0) = e0 * e0
  f18 : IntKind.i64.wrap (e1 * e1) = e1 * e1
  f19 : IntKind.i64.wrap (e2 * e2) = e2 * e2
  f20 : IntKind.i64.wrap (e3 * e3) = e3 * e3
  f21 : IntKind.i64.wrap (e4 * e4) = e4 * e4
  f22 : IntKind.i64.wrap (e5 * e5) = e5 * e5
  f23 : IntKind.i64.wrap (e6 * e6) = e6 * e6
  f24 : IntKind.i64.wrap (e7 * e7) = e7 * e7
  f25 : IntKind.i64.wrap (e0 * e0 + e1 * e1) = e0 * e0 + e1 * e1
  f26 : IntKind.i64.wrap (e2 * e2 + e3 * e3) = e2 * e2 + e3 * e3
  f27 : IntKind.i64.wrap (e4 * e4 + e5 * e5) = e4 * e4 + e5 * e5
  f28 : IntKind.i64.wrap (e6 * e6 + e7 * e7) = e6 * e6 + e7 * e7
theorem fits (c run most ones e0 e1 e2 e3 e4 e5 e6 e7 far poker turned : Int) (h : MayP c run most ones e0 e1 e2 e3 e4 e5 e6 e7 far poker turned) : Fits c run most ones e0 e1 e2 e3 e4 e5 e6 e7 far poker turned := by
  obtain ⟨hc1, hc2, a0, b0, a1, b1, a2, b2, a3, b3, a4, b4, a5, b5, a6, b6, a7, b7, hr1, hr2, hm1, hm2, ho1, ho2, ht1, ht2, hp1, hp2, hf1, hf2⟩ := h
  have hs := sq_le hc1 hc2
  have he : 4 * c * c = 4 * (c * c) := Int.mul_assoc 4 c c
  have q1 := sqb (x := 2 * ones - 8 * c) 8388608 (by omega) (by omega)
  have q2 := sqb (x := 2 * turned - (8 * c - 1)) 8388608 (by omega) (by omega)
  have s0 := sqb (x := e0) 1048576 (by omega) (by omega)
  have s1 := sqb (x := e1) 1048576 (by omega) (by omega)
  have s2 := sqb (x := e2) 1048576 (by omega) (by omega)
  have s3 := sqb (x := e3) 1048576 (by omega) (by omega)
  have s4 := sqb (x := e4) 1048576 (by omega) (by omega)
  have s5 := sqb (x := e5) 1048576 (by omega) (by omega)
  have s6 := sqb (x := e6) 1048576 (by omega) (by omega)
  have s7 := sqb (x := e7) 1048576 (by omega) (by omega)
  exact ⟨wrap_in _ (by omega) (by omega), wrap_in _ (by omega) (by omega), wrap_in _ (by omega) (by omega), wrap_in _ (by omega) (by omega), wrap_in _ (by omega) (by omega), wrap_in _ (by omega) (by omega), wrap_in _ (by omega) (by omega), wrap_in _ (by omega) (by omega), wrap_in _ (by omega) (by omega), wrap_in _ (by omega) (by omega), wrap_in _ (by omega) (by omega), wrap_in _ (by omega) (by omega), wrap_in _ (by omega) (by omega), wrap_in _ (by omega) (by omega), wrap_in _ (by omega) (by omega), wrap_in _ (by omega) (by omega), wrap_in _ (by omega) (by omega), wrap_in _ (by omega) (by omega), wrap_in _ (by omega) (by omega), wrap_in _ (by omega) (by omega), wrap_in _ (by omega) (by omega), wrap_in _ (by omega) (by omega), wrap_in _ (by omega) (by omega), wrap_in _ (by omega) (by omega), wrap_in _ (by omega) (by omega), wrap_in _ (by omega) (by omega), wrap_in _ (by omega) (by omega), wrap_in _ (by omega) (by omega), wrap_in _ (by omega) (by omega)⟩
set_option maxHeartbeats 4000000 in
set_option maxRecDepth 100000 in
theorem isSick_ok (c run most ones e0 e1 e2 e3 e4 e5 e6 e7 far poker turned : Int) (w : World) (hM : MayP c run most ones e0 e1 e2 e3 e4 e5 e6 e7 far poker turned) :
    Calls Try.prog 23 #[.agg #[.int .i64 c, .int .i64 run, .int .i64 most, .int .i64 ones, .int .i64 e0, .int .i64 e1, .int .i64 e2, .int .i64 e3, .int .i64 e4, .int .i64 e5, .int .i64 e6, .int .i64 e7, .int .i64 far, .int .i64 poker, .int .i64 turned]] w fun e w' => e = .returned (.bool (decide (SickP c run most ones e0 e1 e2 e3 e4 e5 e6 e7 far poker turned))) ∧ Below w.heap.size w w' := by
  obtain ⟨r, HR0⟩ : ∃ r, Hid (r = decide (SickP c run most ones e0 e1 e2 e3 e4 e5 e6 e7 far poker turned)) := ⟨_, rfl⟩
  rw [← HR0.out]
  obtain ⟨f0, f1, f2, f3, f4, f5, f6, f7, f8, f9, f10, f11, f12, f13, f14, f15, f16, f17, f18, f19, f20, f21, f22, f23, f24, f25, f26, f27, f28⟩ := fits _ _ _ _ _ _ _ _ _ _ _ _ _ _ _ hM
  clear hM
  have HB : Hid (Below w.heap.size w (w.alloc (.cells #[.int .i64 c, .int .i64 run, .int .i64 most, .int .i64 ones, .int .i64 e0, .int .i64 e1, .int .i64 e2, .int .i64 e3, .int .i64 e4, .int .i64 e5, .int .i64 e6, .int .i64 e7, .int .i64 far, .int .i64 poker, .int .i64 turned] 27)) ∧ (w.alloc (.cells #[.int .i64 c, .int .i64 run, .int .i64 most, .int .i64 ones, .int .i64 e0, .int .i64 e1, .int .i64 e2, .int .i64 e3, .int .i64 e4, .int .i64 e5, .int .i64 e6, .int .i64 e7, .int .i64 far, .int .i64 poker, .int .i64 turned] 27)).rangeAt w.heap.size 0 [.int .i64 c, .int .i64 run, .int .i64 most, .int .i64 ones, .int .i64 e0, .int .i64 e1, .int .i64 e2, .int .i64 e3, .int .i64 e4, .int .i64 e5, .int .i64 e6, .int .i64 e7, .int .i64 far, .int .i64 poker, .int .i64 turned] ∧ (w.alloc (.cells #[.int .i64 c, .int .i64 run, .int .i64 most, .int .i64 ones, .int .i64 e0, .int .i64 e1, .int .i64 e2, .int .i64 e3, .int .i64 e4, .int .i64 e5, .int .i64 e6, .int .i64 e7, .int .i64 far, .int .i64 poker, .int .i64 turned] 27)).heap.size = w.heap.size + 1) := ⟨(Below.refl _ w).alloc (Nat.le_refl _) _, rangeAt_new w _ _, by simp⟩
  go_enter Try.func23, Try.ntmps23
  go_wp2
  generalize w.alloc (.cells #[.int .i64 c, .int .i64 run, .int .i64 most, .int .i64 ones, .int .i64 e0, .int .i64 e1, .int .i64 e2, .int .i64 e3, .int .i64 e4, .int .i64 e5, .int .i64 e6, .int .i64 e7, .int .i64 far, .int .i64 poker, .int .i64 turned] 27) = wa at HB ⊢
  go_loopw [5, 13] (fun s5 i wr => ∃ k : Nat, k ≤ 4 ∧ i = .int .i64 (k : Nat) ∧ Hid (Below (w.heap.size + 1) wa wr ∧ wa.heap.size ≤ wr.heap.size ∧ (0 < k → ¬ 32 * c < e0 * e0 + e1 * e1) ∧ (1 < k → ¬ 32 * c < e2 * e2 + e3 * e3) ∧ (2 < k → ¬ 32 * c < e4 * e4 + e5 * e5) ∧ (3 < k → ¬ 32 * c < e6 * e6 + e7 * e7))) (fun _ i _ => 4 - (intOf i).toNat)
  case atStart => exact ⟨0, by omega, rfl, Below.refl _ _, Nat.le_refl _, by omega, by omega, by omega, by omega⟩
  case round =>
    obtain ⟨k, hk, rfl, HR⟩ := hrel
    obtain rfl | rfl | rfl | rfl | rfl : k = 0 ∨ k = 1 ∨ k = 2 ∨ k = 3 ∨ k = 4 := by omega
    · have x0 := idx0 e0 e1 e2 e3 e4 e5 e6 e7 wr
      by_cases q1 : 32 * c < e0 * e0 + e1 * e1
      case pos =>
        have d_q1 : decide (32 * c < e0 * e0 + e1 * e1) = true := by simpa using q1
        obtain rfl : r = true := by rw [HR0.out]; exact sick_yes _ _ _ _ _ _ _ _ _ _ _ _ _ _ _ (by unfold SickP; omega)
        clear q1
        go_wp2
        go_ret
        exact ⟨rfl, HB.out.1.trans (((HR.out.1.alloc (by have := HR.out.2.1; have := HB.out.2.2; simp; omega) _).alloc (by have := HR.out.2.1; have := HB.out.2.2; simp; omega) _).mono (by omega))⟩
      have d_q1 : decide (32 * c < e0 * e0 + e1 * e1) = false := by simpa using q1
      have HQ : Hid (¬ 32 * c < e0 * e0 + e1 * e1) := q1
      clear q1
      go_wp2
      refine ⟨⟨1, by omega, rfl, ((HR.out.1.alloc (by have := HR.out.2.1; have := HB.out.2.2; simp; omega) _).alloc (by have := HR.out.2.1; have := HB.out.2.2; simp; omega) _), (by have := HR.out.2.1; simp; omega), (fun _ => HQ.out), (by omega), (by omega), (by omega)⟩, by simp only [intOf]; omega⟩
    · have x1 := idx1 e0 e1 e2 e3 e4 e5 e6 e7 wr
      by_cases q1 : 32 * c < e2 * e2 + e3 * e3
      case pos =>
        have d_q1 : decide (32 * c < e2 * e2 + e3 * e3) = true := by simpa using q1
        obtain rfl : r = true := by rw [HR0.out]; exact sick_yes _ _ _ _ _ _ _ _ _ _ _ _ _ _ _ (by unfold SickP; omega)
        clear q1
        go_wp2
        go_ret
        exact ⟨rfl, HB.out.1.trans (((HR.out.1.alloc (by have := HR.out.2.1; have := HB.out.2.2; simp; omega) _).alloc (by have := HR.out.2.1; have := HB.out.2.2; simp; omega) _).mono (by omega))⟩
      have d_q1 : decide (32 * c < e2 * e2 + e3 * e3) = false := by simpa using q1
      have HQ : Hid (¬ 32 * c < e2 * e2 + e3 * e3) := q1
      clear q1
      go_wp2
      refine ⟨⟨2, by omega, rfl, ((HR.out.1.alloc (by have := HR.out.2.1; have := HB.out.2.2; simp; omega) _).alloc (by have := HR.out.2.1; have := HB.out.2.2; simp; omega) _), (by have := HR.out.2.1; simp; omega), (fun _ => HR.out.2.2.1 (by omega)), (fun _ => HQ.out), (by omega), (by omega)⟩, by simp only [intOf]; omega⟩
    · have x2 := idx2 e0 e1 e2 e3 e4 e5 e6 e7 wr
      by_cases q1 : 32 * c < e4 * e4 + e5 * e5
      case pos =>
        have d_q1 : decide (32 * c < e4 * e4 + e5 * e5) = true := by simpa using q1
        obtain rfl : r = true := by rw [HR0.out]; exact sick_yes _ _ _ _ _ _ _ _ _ _ _ _ _ _ _ (by unfold SickP; omega)
        clear q1
        go_wp2
        go_ret
        exact ⟨rfl, HB.out.1.trans (((HR.out.1.alloc (by have := HR.out.2.1; have := HB.out.2.2; simp; omega) _).alloc (by have := HR.out.2.1; have := HB.out.2.2; simp; omega) _).mono (by omega))⟩
      have d_q1 : decide (32 * c < e4 * e4 + e5 * e5) = false := by simpa using q1
      have HQ : Hid (¬ 32 * c < e4 * e4 + e5 * e5) := q1
      clear q1
      go_wp2
      refine ⟨⟨3, by omega, rfl, ((HR.out.1.alloc (by have := HR.out.2.1; have := HB.out.2.2; simp; omega) _).alloc (by have := HR.out.2.1; have := HB.out.2.2; simp; omega) _), (by have := HR.out.2.1; simp; omega), (fun _ => HR.out.2.2.1 (by omega)), (fun _ => HR.out.2.2.2.1 (by omega)), (fun _ => HQ.out), (by omega)⟩, by simp only [intOf]; omega⟩
    · have x3 := idx3 e0 e1 e2 e3 e4 e5 e6 e7 wr
      by_cases q1 : 32 * c < e6 * e6 + e7 * e7
      case pos =>
        have d_q1 : decide (32 * c < e6 * e6 + e7 * e7) = true := by simpa using q1
        obtain rfl : r = true := by rw [HR0.out]; exact sick_yes _ _ _ _ _ _ _ _ _ _ _ _ _ _ _ (by unfold SickP; omega)
        clear q1
        go_wp2
        go_ret
        exact ⟨rfl, HB.out.1.trans (((HR.out.1.alloc (by have := HR.out.2.1; have := HB.out.2.2; simp; omega) _).alloc (by have := HR.out.2.1; have := HB.out.2.2; simp; omega) _).mono (by omega))⟩
      have d_q1 : decide (32 * c < e6 * e6 + e7 * e7) = false := by simpa using q1
      have HQ : Hid (¬ 32 * c < e6 * e6 + e7 * e7) := q1
      clear q1
      go_wp2
      refine ⟨⟨4, by omega, rfl, ((HR.out.1.alloc (by have := HR.out.2.1; have := HB.out.2.2; simp; omega) _).alloc (by have := HR.out.2.1; have := HB.out.2.2; simp; omega) _), (by have := HR.out.2.1; simp; omega), (fun _ => HR.out.2.2.1 (by omega)), (fun _ => HR.out.2.2.2.1 (by omega)), (fun _ => HR.out.2.2.2.2.1 (by omega)), (fun _ => HQ.out)⟩, by simp only [intOf]; omega⟩
    · obtain ⟨g1, g2, g3, g4, g5, g6⟩ := HR.out
      have k_c : wr.cell? ⟨w.heap.size, 0, none⟩ = some (.int .i64 c) := by
        rw [g1.cell (show w.heap.size < _ by omega)]
        have q := HB.out.2.1 0 _ rfl
        simpa using q
      have k_run : wr.cell? ⟨w.heap.size, 1, none⟩ = some (.int .i64 run) := by
        rw [g1.cell (show w.heap.size < _ by omega)]
        have q := HB.out.2.1 1 _ rfl
        simpa using q
      have k_most : wr.cell? ⟨w.heap.size, 2, none⟩ = some (.int .i64 most) := by
        rw [g1.cell (show w.heap.size < _ by omega)]
        have q := HB.out.2.1 2 _ rfl
        simpa using q
      have k_ones : wr.cell? ⟨w.heap.size, 3, none⟩ = some (.int .i64 ones) := by
        rw [g1.cell (show w.heap.size < _ by omega)]
        have q := HB.out.2.1 3 _ rfl
        simpa using q
      have k_far : wr.cell? ⟨w.heap.size, 12, none⟩ = some (.int .i64 far) := by
        rw [g1.cell (show w.heap.size < _ by omega)]
        have q := HB.out.2.1 12 _ rfl
        simpa using q
      have k_poker : wr.cell? ⟨w.heap.size, 13, none⟩ = some (.int .i64 poker) := by
        rw [g1.cell (show w.heap.size < _ by omega)]
        have q := HB.out.2.1 13 _ rfl
        simpa using q
      have k_turned : wr.cell? ⟨w.heap.size, 14, none⟩ = some (.int .i64 turned) := by
        rw [g1.cell (show w.heap.size < _ by omega)]
        have q := HB.out.2.1 14 _ rfl
        simpa using q
      have HG : Hid (Below w.heap.size w wr ∧ ¬ 32 * c < e0 * e0 + e1 * e1 ∧ ¬ 32 * c < e2 * e2 + e3 * e3 ∧ ¬ 32 * c < e4 * e4 + e5 * e5 ∧ ¬ 32 * c < e6 * e6 + e7 * e7) := ⟨HB.out.1.trans (g1.mono (by omega)), g3 (by omega), g4 (by omega), g5 (by omega), g6 (by omega)⟩
      clear HR HB g1 g2 g3 g4 g5 g6
      go_upto_region 11 with fail
      obtain ⟨g0, g1, g2, g3, g4⟩ := HG.out
      by_cases hl : c ≤ 65536
      case pos =>
        have HL := good_yes c
        by_cases q1 : 4 < run
        case pos =>
          have d_q1 : decide (4 < run) = true := by simpa using q1
          obtain rfl : r = true := by rw [HR0.out]; exact sick_yes _ _ _ _ _ _ _ _ _ _ _ _ _ _ _ (by unfold SickP; rw [if_pos hl]; omega)
          clear q1 g1 g2 g3 g4
          go_quiet ((go_at_call 35; exact Calls.quiet_of_same (HL _ hl)))
          go_wp2
          go_ret
          exact ⟨rfl, ⟨g0.os, g0.tape, g0.output, g0.size, g0.block⟩⟩
        have d_q1 : decide (4 < run) = false := by simpa using q1
        by_cases q2 : 20 < most
        case pos =>
          have d_q2 : decide (20 < most) = true := by simpa using q2
          obtain rfl : r = true := by rw [HR0.out]; exact sick_yes _ _ _ _ _ _ _ _ _ _ _ _ _ _ _ (by unfold SickP; rw [if_pos hl]; omega)
          clear q1 q2 g1 g2 g3 g4
          go_quiet ((go_at_call 35; exact Calls.quiet_of_same (HL _ hl)))
          go_wp2
          go_ret
          exact ⟨rfl, ⟨g0.os, g0.tape, g0.output, g0.size, g0.block⟩⟩
        have d_q2 : decide (20 < most) = false := by simpa using q2
        by_cases q3 : 288 * c < (2 * ones - 8 * c) * (2 * ones - 8 * c)
        case pos =>
          have d_q3 : decide (288 * c < (2 * ones - 8 * c) * (2 * ones - 8 * c)) = true := by simpa using q3
          obtain rfl : r = true := by rw [HR0.out]; exact sick_yes _ _ _ _ _ _ _ _ _ _ _ _ _ _ _ (by unfold SickP; rw [if_pos hl]; omega)
          clear q1 q2 q3 g1 g2 g3 g4
          go_quiet ((go_at_call 35; exact Calls.quiet_of_same (HL _ hl)))
          go_wp2
          go_ret
          exact ⟨rfl, ⟨g0.os, g0.tape, g0.output, g0.size, g0.block⟩⟩
        have d_q3 : decide (288 * c < (2 * ones - 8 * c) * (2 * ones - 8 * c)) = false := by simpa using q3
        by_cases q4 : 36 * (8 * c - 1) < (2 * turned - (8 * c - 1)) * (2 * turned - (8 * c - 1))
        case pos =>
          have d_q4 : decide (36 * (8 * c - 1) < (2 * turned - (8 * c - 1)) * (2 * turned - (8 * c - 1))) = true := by simpa using q4
          obtain rfl : r = true := by rw [HR0.out]; exact sick_yes _ _ _ _ _ _ _ _ _ _ _ _ _ _ _ (by unfold SickP; rw [if_pos hl]; omega)
          clear q1 q2 q3 q4 g1 g2 g3 g4
          go_quiet ((go_at_call 35; exact Calls.quiet_of_same (HL _ hl)))
          go_wp2
          go_ret
          exact ⟨rfl, ⟨g0.os, g0.tape, g0.output, g0.size, g0.block⟩⟩
        have d_q4 : decide (36 * (8 * c - 1) < (2 * turned - (8 * c - 1)) * (2 * turned - (8 * c - 1))) = false := by simpa using q4
        by_cases q5 : 200 * c < 16 * poker - 4 * c * c
        case pos =>
          have d_q5 : decide (200 * c < 16 * poker - 4 * c * c) = true := by simpa using q5
          obtain rfl : r = true := by rw [HR0.out]; exact sick_yes _ _ _ _ _ _ _ _ _ _ _ _ _ _ _ (by unfold SickP; rw [if_pos hl]; omega)
          clear q1 q2 q3 q4 q5 g1 g2 g3 g4
          go_quiet ((go_at_call 35; exact Calls.quiet_of_same (HL _ hl)))
          go_wp2
          go_ret
          exact ⟨rfl, ⟨g0.os, g0.tape, g0.output, g0.size, g0.block⟩⟩
        have d_q5 : decide (200 * c < 16 * poker - 4 * c * c) = false := by simpa using q5
        by_cases q6 : 64 * c < far
        case pos =>
          have d_q6 : decide (64 * c < far) = true := by simpa using q6
          obtain rfl : r = true := by rw [HR0.out]; exact sick_yes _ _ _ _ _ _ _ _ _ _ _ _ _ _ _ (by unfold SickP; rw [if_pos hl]; omega)
          clear q1 q2 q3 q4 q5 q6 g1 g2 g3 g4
          go_quiet ((go_at_call 35; exact Calls.quiet_of_same (HL _ hl)))
          go_wp2
          go_ret
          exact ⟨rfl, ⟨g0.os, g0.tape, g0.output, g0.size, g0.block⟩⟩
        have d_q6 : decide (64 * c < far) = false := by simpa using q6
        obtain rfl : r = false := by rw [HR0.out]; exact sick_no _ _ _ _ _ _ _ _ _ _ _ _ _ _ _ (by unfold SickP; rw [if_pos hl]; omega)
        clear q1 q2 q3 q4 q5 q6 g1 g2 g3 g4
        go_quiet ((go_at_call 35; exact Calls.quiet_of_same (HL _ hl)))
        go_wp2
        go_ret
        exact ⟨rfl, ⟨g0.os, g0.tape, g0.output, g0.size, g0.block⟩⟩
      have HL := good_no c
      by_cases q1 : 6 < run
      case pos =>
        have d_q1 : decide (6 < run) = true := by simpa using q1
        obtain rfl : r = true := by rw [HR0.out]; exact sick_yes _ _ _ _ _ _ _ _ _ _ _ _ _ _ _ (by unfold SickP; rw [if_neg hl]; omega)
        clear q1 g1 g2 g3 g4
        go_quiet ((go_at_call 35; exact Calls.quiet_of_same (HL _ hl)))
        go_wp2
        go_ret
        exact ⟨rfl, ⟨g0.os, g0.tape, g0.output, g0.size, g0.block⟩⟩
      have d_q1 : decide (6 < run) = false := by simpa using q1
      by_cases q2 : 20 < most
      case pos =>
        have d_q2 : decide (20 < most) = true := by simpa using q2
        obtain rfl : r = true := by rw [HR0.out]; exact sick_yes _ _ _ _ _ _ _ _ _ _ _ _ _ _ _ (by unfold SickP; rw [if_neg hl]; omega)
        clear q1 q2 g1 g2 g3 g4
        go_quiet ((go_at_call 35; exact Calls.quiet_of_same (HL _ hl)))
        go_wp2
        go_ret
        exact ⟨rfl, ⟨g0.os, g0.tape, g0.output, g0.size, g0.block⟩⟩
      have d_q2 : decide (20 < most) = false := by simpa using q2
      by_cases q3 : 288 * c < (2 * ones - 8 * c) * (2 * ones - 8 * c)
      case pos =>
        have d_q3 : decide (288 * c < (2 * ones - 8 * c) * (2 * ones - 8 * c)) = true := by simpa using q3
        obtain rfl : r = true := by rw [HR0.out]; exact sick_yes _ _ _ _ _ _ _ _ _ _ _ _ _ _ _ (by unfold SickP; rw [if_neg hl]; omega)
        clear q1 q2 q3 g1 g2 g3 g4
        go_quiet ((go_at_call 35; exact Calls.quiet_of_same (HL _ hl)))
        go_wp2
        go_ret
        exact ⟨rfl, ⟨g0.os, g0.tape, g0.output, g0.size, g0.block⟩⟩
      have d_q3 : decide (288 * c < (2 * ones - 8 * c) * (2 * ones - 8 * c)) = false := by simpa using q3
      by_cases q4 : 36 * (8 * c - 1) < (2 * turned - (8 * c - 1)) * (2 * turned - (8 * c - 1))
      case pos =>
        have d_q4 : decide (36 * (8 * c - 1) < (2 * turned - (8 * c - 1)) * (2 * turned - (8 * c - 1))) = true := by simpa using q4
        obtain rfl : r = true := by rw [HR0.out]; exact sick_yes _ _ _ _ _ _ _ _ _ _ _ _ _ _ _ (by unfold SickP; rw [if_neg hl]; omega)
        clear q1 q2 q3 q4 g1 g2 g3 g4
        go_quiet ((go_at_call 35; exact Calls.quiet_of_same (HL _ hl)))
        go_wp2
        go_ret
        exact ⟨rfl, ⟨g0.os, g0.tape, g0.output, g0.size, g0.block⟩⟩
      have d_q4 : decide (36 * (8 * c - 1) < (2 * turned - (8 * c - 1)) * (2 * turned - (8 * c - 1))) = false := by simpa using q4
      by_cases q5 : 200 * c < 16 * poker - 4 * c * c
      case pos =>
        have d_q5 : decide (200 * c < 16 * poker - 4 * c * c) = true := by simpa using q5
        obtain rfl : r = true := by rw [HR0.out]; exact sick_yes _ _ _ _ _ _ _ _ _ _ _ _ _ _ _ (by unfold SickP; rw [if_neg hl]; omega)
        clear q1 q2 q3 q4 q5 g1 g2 g3 g4
        go_quiet ((go_at_call 35; exact Calls.quiet_of_same (HL _ hl)))
        go_wp2
        go_ret
        exact ⟨rfl, ⟨g0.os, g0.tape, g0.output, g0.size, g0.block⟩⟩
      have d_q5 : decide (200 * c < 16 * poker - 4 * c * c) = false := by simpa using q5
      by_cases q6 : 64 * c < far
      case pos =>
        have d_q6 : decide (64 * c < far) = true := by simpa using q6
        obtain rfl : r = true := by rw [HR0.out]; exact sick_yes _ _ _ _ _ _ _ _ _ _ _ _ _ _ _ (by unfold SickP; rw [if_neg hl]; omega)
        clear q1 q2 q3 q4 q5 q6 g1 g2 g3 g4
        go_quiet ((go_at_call 35; exact Calls.quiet_of_same (HL _ hl)))
        go_wp2
        go_ret
        exact ⟨rfl, ⟨g0.os, g0.tape, g0.output, g0.size, g0.block⟩⟩
      have d_q6 : decide (64 * c < far) = false := by simpa using q6
      obtain rfl : r = false := by rw [HR0.out]; exact sick_no _ _ _ _ _ _ _ _ _ _ _ _ _ _ _ (by unfold SickP; rw [if_neg hl]; omega)
      clear q1 q2 q3 q4 q5 q6 g1 g2 g3 g4
      go_quiet ((go_at_call 35; exact Calls.quiet_of_same (HL _ hl)))
      go_wp2
      go_ret
      exact ⟨rfl, ⟨g0.os, g0.tape, g0.output, g0.size, g0.block⟩⟩
end Go.Proofs.Ytaejoohbmdckhaa
