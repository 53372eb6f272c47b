import Derived.Test.YtaejoohbmdckhaaIns
namespace Go.Proofs.Ytaejoohbmdckhaa
open Go.RowKit
set_option linter.unusedVariables false
set_option linter.unusedSimpArgs false
theorem wrap_in (x : Int) (h1 : -9223372036854775808 ≤ x) (h2 : x ≤ 9223372036854775807) : IntKind.i64.wrap x = x := by
  simp [IntKind.wrap, IntKind.bits, IntKind.signed]; omega
theorem sq_le {c : Int} (h1 : 64 ≤ c) (h2 : c ≤ 1048576) : 0 ≤ c * c ∧ c * c ≤ 1099511627776 := by
  constructor
  · exact Int.mul_nonneg (by omega) (by omega)
  · exact Int.mul_le_mul h2 h2 (by omega) (by decide)
theorem idx0 (e0 e1 e2 e3 e4 e5 e6 e7 : Int) (w : World) : (Instr.index 25 (.agg #[.int .i64 e0, .int .i64 e1, .int .i64 e2, .int .i64 e3, .int .i64 e4, .int .i64 e5, .int .i64 e6, .int .i64 e7]) (.int .i64 0)).run Try.prog w = .ok (.agg #[.int .i64 e0, .int .i64 e1]) w := by kernel_rfl
theorem idx1 (e0 e1 e2 e3 e4 e5 e6 e7 : Int) (w : World) : (Instr.index 25 (.agg #[.int .i64 e0, .int .i64 e1, .int .i64 e2, .int .i64 e3, .int .i64 e4, .int .i64 e5, .int .i64 e6, .int .i64 e7]) (.int .i64 1)).run Try.prog w = .ok (.agg #[.int .i64 e2, .int .i64 e3]) w := by kernel_rfl
theorem idx2 (e0 e1 e2 e3 e4 e5 e6 e7 : Int) (w : World) : (Instr.index 25 (.agg #[.int .i64 e0, .int .i64 e1, .int .i64 e2, .int .i64 e3, .int .i64 e4, .int .i64 e5, .int .i64 e6, .int .i64 e7]) (.int .i64 2)).run Try.prog w = .ok (.agg #[.int .i64 e4, .int .i64 e5]) w := by kernel_rfl
theorem idx3 (e0 e1 e2 e3 e4 e5 e6 e7 : Int) (w : World) : (Instr.index 25 (.agg #[.int .i64 e0, .int .i64 e1, .int .i64 e2, .int .i64 e3, .int .i64 e4, .int .i64 e5, .int .i64 e6, .int .i64 e7]) (.int .i64 3)).run Try.prog w = .ok (.agg #[.int .i64 e6, .int .i64 e7]) w := by kernel_rfl
/-- What some bytes could have been found so. -/
def MayP (c run most ones e0 e1 e2 e3 e4 e5 e6 e7 far poker turned : Int) : Prop := 64 ≤ c ∧ c ≤ 1048576 ∧ -c ≤ e0 ∧ e0 ≤ c ∧ -c ≤ e1 ∧ e1 ≤ c ∧ -c ≤ e2 ∧ e2 ≤ c ∧ -c ≤ e3 ∧ e3 ≤ c ∧ -c ≤ e4 ∧ e4 ≤ c ∧ -c ≤ e5 ∧ e5 ≤ c ∧ -c ≤ e6 ∧ e6 ≤ c ∧ -c ≤ e7 ∧ e7 ≤ c ∧ 1 ≤ run ∧ run ≤ c ∧ 1 ≤ most ∧ most ≤ min c 512 ∧ 0 ≤ ones ∧ ones ≤ 8 * c ∧ 0 ≤ turned ∧ turned ≤ 8 * c - 1 ∧ 0 ≤ poker ∧ poker ≤ 4 * c * c ∧ 0 ≤ far ∧ far ≤ c * c
instance (c run most ones e0 e1 e2 e3 e4 e5 e6 e7 far poker turned : Int) : Decidable (MayP c run most ones e0 e1 e2 e3 e4 e5 e6 e7 far poker turned) := by unfold MayP; infer_instance
theorem may_no (c run most ones e0 e1 e2 e3 e4 e5 e6 e7 far poker turned : Int) (h : ¬ MayP c run most ones e0 e1 e2 e3 e4 e5 e6 e7 far poker turned) : decide (MayP c run most ones e0 e1 e2 e3 e4 e5 e6 e7 far poker turned) = false := decide_eq_false h
theorem may_yes (c run most ones e0 e1 e2 e3 e4 e5 e6 e7 far poker turned : Int) (h : MayP c run most ones e0 e1 e2 e3 e4 e5 e6 e7 far poker turned) : decide (MayP c run most ones e0 e1 e2 e3 e4 e5 e6 e7 far poker turned) = true := decide_eq_true h
set_option maxHeartbeats 4000000 in
set_option maxRecDepth 100000 in
theorem mayBe_ok (c run most ones e0 e1 e2 e3 e4 e5 e6 e7 far poker turned : Int) (w : World) :
    Calls Try.prog 22 #[.agg #[.int .i64 c, .int .i64 run, .int .i64 most, .int .i64 ones, .int .i64 e0, .int .i64 e1, .int .i64 e2, .int .i64 e3, .int .i64 e4, .int .i64 e5, .int .i64 e6, .int .i64 e7, .int .i64 far, .int .i64 poker, .int .i64 turned]] w fun e w' => e = .returned (.bool (decide (MayP c run most ones e0 e1 e2 e3 e4 e5 e6 e7 far poker turned))) ∧ Below w.heap.size w w' := by
  obtain ⟨r, HR0⟩ : ∃ r, Hid (r = decide (MayP c run most ones e0 e1 e2 e3 e4 e5 e6 e7 far poker turned)) := ⟨_, rfl⟩
  rw [← HR0.out]
  by_cases hc1 : 64 ≤ c
  case neg =>
    have d_hc1 : decide (64 ≤ c) = false := by simpa using hc1
    obtain rfl : r = false := by rw [HR0.out]; exact may_no _ _ _ _ _ _ _ _ _ _ _ _ _ _ _ (by unfold MayP; omega)
    clear hc1
    go_enter Try.func22, Try.ntmps22
    go_wp2
    go_ret
    exact ⟨rfl, (Below.refl _ w).alloc (Nat.le_refl _) _⟩
  have d_hc1 : decide (64 ≤ c) = true := by simpa using hc1
  by_cases hc2 : c ≤ 1048576
  case neg =>
    have d_hc2 : decide (c ≤ 1048576) = false := by simpa using hc2
    obtain rfl : r = false := by rw [HR0.out]; exact may_no _ _ _ _ _ _ _ _ _ _ _ _ _ _ _ (by unfold MayP; omega)
    clear hc1 hc2
    go_enter Try.func22, Try.ntmps22
    go_wp2
    go_ret
    exact ⟨rfl, (Below.refl _ w).alloc (Nat.le_refl _) _⟩
  have d_hc2 : decide (c ≤ 1048576) = true := by simpa using hc2
  have w1 : IntKind.i64.wrap (-c) = -c := wrap_in _ (by omega) (by omega)
  have w2 : IntKind.i64.wrap (8 * c) = 8 * c := wrap_in _ (by omega) (by omega)
  have w3 : IntKind.i64.wrap (8 * c - 1) = 8 * c - 1 := wrap_in _ (by omega) (by omega)
  have w4 : IntKind.i64.wrap (4 * c) = 4 * c := wrap_in _ (by omega) (by omega)
  have hs := sq_le hc1 hc2
  have w5 : IntKind.i64.wrap (4 * c * c) = 4 * c * c := by rw [Int.mul_assoc]; exact wrap_in _ (by omega) (by omega)
  have w6 : IntKind.i64.wrap (c * c) = c * c := wrap_in _ (by omega) (by omega)
  have HC1 : Hid (64 ≤ c ∧ c ≤ 1048576) := ⟨hc1, hc2⟩
  clear hs hc1 hc2
  have HB : Hid (Below w.heap.size w (w.alloc (.cells #[.int .i64 c, .int .i64 run, .int .i64 most, .int .i64 ones, .int .i64 e0, .int .i64 e1, .int .i64 e2, .int .i64 e3, .int .i64 e4, .int .i64 e5, .int .i64 e6, .int .i64 e7, .int .i64 far, .int .i64 poker, .int .i64 turned] 27)) ∧ (w.alloc (.cells #[.int .i64 c, .int .i64 run, .int .i64 most, .int .i64 ones, .int .i64 e0, .int .i64 e1, .int .i64 e2, .int .i64 e3, .int .i64 e4, .int .i64 e5, .int .i64 e6, .int .i64 e7, .int .i64 far, .int .i64 poker, .int .i64 turned] 27)).rangeAt w.heap.size 0 [.int .i64 c, .int .i64 run, .int .i64 most, .int .i64 ones, .int .i64 e0, .int .i64 e1, .int .i64 e2, .int .i64 e3, .int .i64 e4, .int .i64 e5, .int .i64 e6, .int .i64 e7, .int .i64 far, .int .i64 poker, .int .i64 turned] ∧ (w.alloc (.cells #[.int .i64 c, .int .i64 run, .int .i64 most, .int .i64 ones, .int .i64 e0, .int .i64 e1, .int .i64 e2, .int .i64 e3, .int .i64 e4, .int .i64 e5, .int .i64 e6, .int .i64 e7, .int .i64 far, .int .i64 poker, .int .i64 turned] 27)).heap.size = w.heap.size + 1) := ⟨(Below.refl _ w).alloc (Nat.le_refl _) _, rangeAt_new w _ _, by simp⟩
  go_enter Try.func22, Try.ntmps22
  go_wp2
  generalize w.alloc (.cells #[.int .i64 c, .int .i64 run, .int .i64 most, .int .i64 ones, .int .i64 e0, .int .i64 e1, .int .i64 e2, .int .i64 e3, .int .i64 e4, .int .i64 e5, .int .i64 e6, .int .i64 e7, .int .i64 far, .int .i64 poker, .int .i64 turned] 27) = wa at HB ⊢
  go_loopw [5, 13] (fun s5 i wr => ∃ k : Nat, k ≤ 4 ∧ i = .int .i64 (k : Nat) ∧ Hid (Below (w.heap.size + 1) wa wr ∧ wa.heap.size ≤ wr.heap.size ∧ (0 < k → -c ≤ e0 ∧ e0 ≤ c ∧ -c ≤ e1 ∧ e1 ≤ c) ∧ (1 < k → -c ≤ e2 ∧ e2 ≤ c ∧ -c ≤ e3 ∧ e3 ≤ c) ∧ (2 < k → -c ≤ e4 ∧ e4 ≤ c ∧ -c ≤ e5 ∧ e5 ≤ c) ∧ (3 < k → -c ≤ e6 ∧ e6 ≤ c ∧ -c ≤ e7 ∧ e7 ≤ c))) (fun _ i _ => 4 - (intOf i).toNat)
  case atStart => exact ⟨0, by omega, rfl, Below.refl _ _, Nat.le_refl _, by omega, by omega, by omega, by omega⟩
  case round =>
    obtain ⟨k, hk, rfl, HR⟩ := hrel
    obtain rfl | rfl | rfl | rfl | rfl : k = 0 ∨ k = 1 ∨ k = 2 ∨ k = 3 ∨ k = 4 := by omega
    · have x0 := idx0 e0 e1 e2 e3 e4 e5 e6 e7 wr
      by_cases q1 : -c ≤ e0
      case neg =>
        have d_q1 : decide (-c ≤ e0) = false := by simpa using q1
        obtain rfl : r = false := by rw [HR0.out]; exact may_no _ _ _ _ _ _ _ _ _ _ _ _ _ _ _ (by unfold MayP; omega)
        clear q1
        go_wp2
        go_ret
        exact ⟨rfl, (HB.out.1.trans ((HR.out.1.alloc (by have := HR.out.2.1; have := HB.out.2.2; omega) _).mono (by omega)))⟩
      have d_q1 : decide (-c ≤ e0) = true := by simpa using q1
      by_cases q2 : e0 ≤ c
      case neg =>
        have d_q2 : decide (e0 ≤ c) = false := by simpa using q2
        obtain rfl : r = false := by rw [HR0.out]; exact may_no _ _ _ _ _ _ _ _ _ _ _ _ _ _ _ (by unfold MayP; omega)
        clear q1 q2
        go_wp2
        go_ret
        exact ⟨rfl, (HB.out.1.trans ((HR.out.1.alloc (by have := HR.out.2.1; have := HB.out.2.2; omega) _).mono (by omega)))⟩
      have d_q2 : decide (e0 ≤ c) = true := by simpa using q2
      by_cases q3 : -c ≤ e1
      case neg =>
        have d_q3 : decide (-c ≤ e1) = false := by simpa using q3
        obtain rfl : r = false := by rw [HR0.out]; exact may_no _ _ _ _ _ _ _ _ _ _ _ _ _ _ _ (by unfold MayP; omega)
        clear q1 q2 q3
        go_wp2
        go_ret
        exact ⟨rfl, (HB.out.1.trans ((HR.out.1.alloc (by have := HR.out.2.1; have := HB.out.2.2; omega) _).mono (by omega)))⟩
      have d_q3 : decide (-c ≤ e1) = true := by simpa using q3
      by_cases q4 : e1 ≤ c
      case neg =>
        have d_q4 : decide (e1 ≤ c) = false := by simpa using q4
        obtain rfl : r = false := by rw [HR0.out]; exact may_no _ _ _ _ _ _ _ _ _ _ _ _ _ _ _ (by unfold MayP; omega)
        clear q1 q2 q3 q4
        go_wp2
        go_ret
        exact ⟨rfl, (HB.out.1.trans ((HR.out.1.alloc (by have := HR.out.2.1; have := HB.out.2.2; omega) _).mono (by omega)))⟩
      have d_q4 : decide (e1 ≤ c) = true := by simpa using q4
      have HQ : Hid (-c ≤ e0 ∧ e0 ≤ c ∧ -c ≤ e1 ∧ e1 ≤ c) := ⟨q1, q2, q3, q4⟩
      clear q1 q2 q3 q4
      go_wp2
      refine ⟨⟨1, by omega, rfl, (HR.out.1.alloc (by have := HR.out.2.1; have := HB.out.2.2; omega) _), (by have := HR.out.2.1; simp; omega), (fun _ => HQ.out), (by omega), (by omega), (by omega)⟩, by simp only [intOf]; omega⟩
    · have x1 := idx1 e0 e1 e2 e3 e4 e5 e6 e7 wr
      by_cases q1 : -c ≤ e2
      case neg =>
        have d_q1 : decide (-c ≤ e2) = false := by simpa using q1
        obtain rfl : r = false := by rw [HR0.out]; exact may_no _ _ _ _ _ _ _ _ _ _ _ _ _ _ _ (by unfold MayP; omega)
        clear q1
        go_wp2
        go_ret
        exact ⟨rfl, (HB.out.1.trans ((HR.out.1.alloc (by have := HR.out.2.1; have := HB.out.2.2; omega) _).mono (by omega)))⟩
      have d_q1 : decide (-c ≤ e2) = true := by simpa using q1
      by_cases q2 : e2 ≤ c
      case neg =>
        have d_q2 : decide (e2 ≤ c) = false := by simpa using q2
        obtain rfl : r = false := by rw [HR0.out]; exact may_no _ _ _ _ _ _ _ _ _ _ _ _ _ _ _ (by unfold MayP; omega)
        clear q1 q2
        go_wp2
        go_ret
        exact ⟨rfl, (HB.out.1.trans ((HR.out.1.alloc (by have := HR.out.2.1; have := HB.out.2.2; omega) _).mono (by omega)))⟩
      have d_q2 : decide (e2 ≤ c) = true := by simpa using q2
      by_cases q3 : -c ≤ e3
      case neg =>
        have d_q3 : decide (-c ≤ e3) = false := by simpa using q3
        obtain rfl : r = false := by rw [HR0.out]; exact may_no _ _ _ _ _ _ _ _ _ _ _ _ _ _ _ (by unfold MayP; omega)
        clear q1 q2 q3
        go_wp2
        go_ret
        exact ⟨rfl, (HB.out.1.trans ((HR.out.1.alloc (by have := HR.out.2.1; have := HB.out.2.2; omega) _).mono (by omega)))⟩
      have d_q3 : decide (-c ≤ e3) = true := by simpa using q3
      by_cases q4 : e3 ≤ c
      case neg =>
        have d_q4 : decide (e3 ≤ c) = false := by simpa using q4
        obtain rfl : r = false := by rw [HR0.out]; exact may_no _ _ _ _ _ _ _ _ _ _ _ _ _ _ _ (by unfold MayP; omega)
        clear q1 q2 q3 q4
        go_wp2
        go_ret
        exact ⟨rfl, (HB.out.1.trans ((HR.out.1.alloc (by have := HR.out.2.1; have := HB.out.2.2; omega) _).mono (by omega)))⟩
      have d_q4 : decide (e3 ≤ c) = true := by simpa using q4
      have HQ : Hid (-c ≤ e2 ∧ e2 ≤ c ∧ -c ≤ e3 ∧ e3 ≤ c) := ⟨q1, q2, q3, q4⟩
      clear q1 q2 q3 q4
      go_wp2
      refine ⟨⟨2, by omega, rfl, (HR.out.1.alloc (by have := HR.out.2.1; have := HB.out.2.2; omega) _), (by have := HR.out.2.1; simp; omega), (fun _ => HR.out.2.2.1 (by omega)), (fun _ => HQ.out), (by omega), (by omega)⟩, by simp only [intOf]; omega⟩
    · have x2 := idx2 e0 e1 e2 e3 e4 e5 e6 e7 wr
      by_cases q1 : -c ≤ e4
      case neg =>
        have d_q1 : decide (-c ≤ e4) = false := by simpa using q1
        obtain rfl : r = false := by rw [HR0.out]; exact may_no _ _ _ _ _ _ _ _ _ _ _ _ _ _ _ (by unfold MayP; omega)
        clear q1
        go_wp2
        go_ret
        exact ⟨rfl, (HB.out.1.trans ((HR.out.1.alloc (by have := HR.out.2.1; have := HB.out.2.2; omega) _).mono (by omega)))⟩
      have d_q1 : decide (-c ≤ e4) = true := by simpa using q1
      by_cases q2 : e4 ≤ c
      case neg =>
        have d_q2 : decide (e4 ≤ c) = false := by simpa using q2
        obtain rfl : r = false := by rw [HR0.out]; exact may_no _ _ _ _ _ _ _ _ _ _ _ _ _ _ _ (by unfold MayP; omega)
        clear q1 q2
        go_wp2
        go_ret
        exact ⟨rfl, (HB.out.1.trans ((HR.out.1.alloc (by have := HR.out.2.1; have := HB.out.2.2; omega) _).mono (by omega)))⟩
      have d_q2 : decide (e4 ≤ c) = true := by simpa using q2
      by_cases q3 : -c ≤ e5
      case neg =>
        have d_q3 : decide (-c ≤ e5) = false := by simpa using q3
        obtain rfl : r = false := by rw [HR0.out]; exact may_no _ _ _ _ _ _ _ _ _ _ _ _ _ _ _ (by unfold MayP; omega)
        clear q1 q2 q3
        go_wp2
        go_ret
        exact ⟨rfl, (HB.out.1.trans ((HR.out.1.alloc (by have := HR.out.2.1; have := HB.out.2.2; omega) _).mono (by omega)))⟩
      have d_q3 : decide (-c ≤ e5) = true := by simpa using q3
      by_cases q4 : e5 ≤ c
      case neg =>
        have d_q4 : decide (e5 ≤ c) = false := by simpa using q4
        obtain rfl : r = false := by rw [HR0.out]; exact may_no _ _ _ _ _ _ _ _ _ _ _ _ _ _ _ (by unfold MayP; omega)
        clear q1 q2 q3 q4
        go_wp2
        go_ret
        exact ⟨rfl, (HB.out.1.trans ((HR.out.1.alloc (by have := HR.out.2.1; have := HB.out.2.2; omega) _).mono (by omega)))⟩
      have d_q4 : decide (e5 ≤ c) = true := by simpa using q4
      have HQ : Hid (-c ≤ e4 ∧ e4 ≤ c ∧ -c ≤ e5 ∧ e5 ≤ c) := ⟨q1, q2, q3, q4⟩
      clear q1 q2 q3 q4
      go_wp2
      refine ⟨⟨3, by omega, rfl, (HR.out.1.alloc (by have := HR.out.2.1; have := HB.out.2.2; omega) _), (by have := HR.out.2.1; simp; omega), (fun _ => HR.out.2.2.1 (by omega)), (fun _ => HR.out.2.2.2.1 (by omega)), (fun _ => HQ.out), (by omega)⟩, by simp only [intOf]; omega⟩
    · have x3 := idx3 e0 e1 e2 e3 e4 e5 e6 e7 wr
      by_cases q1 : -c ≤ e6
      case neg =>
        have d_q1 : decide (-c ≤ e6) = false := by simpa using q1
        obtain rfl : r = false := by rw [HR0.out]; exact may_no _ _ _ _ _ _ _ _ _ _ _ _ _ _ _ (by unfold MayP; omega)
        clear q1
        go_wp2
        go_ret
        exact ⟨rfl, (HB.out.1.trans ((HR.out.1.alloc (by have := HR.out.2.1; have := HB.out.2.2; omega) _).mono (by omega)))⟩
      have d_q1 : decide (-c ≤ e6) = true := by simpa using q1
      by_cases q2 : e6 ≤ c
      case neg =>
        have d_q2 : decide (e6 ≤ c) = false := by simpa using q2
        obtain rfl : r = false := by rw [HR0.out]; exact may_no _ _ _ _ _ _ _ _ _ _ _ _ _ _ _ (by unfold MayP; omega)
        clear q1 q2
        go_wp2
        go_ret
        exact ⟨rfl, (HB.out.1.trans ((HR.out.1.alloc (by have := HR.out.2.1; have := HB.out.2.2; omega) _).mono (by omega)))⟩
      have d_q2 : decide (e6 ≤ c) = true := by simpa using q2
      by_cases q3 : -c ≤ e7
      case neg =>
        have d_q3 : decide (-c ≤ e7) = false := by simpa using q3
        obtain rfl : r = false := by rw [HR0.out]; exact may_no _ _ _ _ _ _ _ _ _ _ _ _ _ _ _ (by unfold MayP; omega)
        clear q1 q2 q3
        go_wp2
        go_ret
        exact ⟨rfl, (HB.out.1.trans ((HR.out.1.alloc (by have := HR.out.2.1; have := HB.out.2.2; omega) _).mono (by omega)))⟩
      have d_q3 : decide (-c ≤ e7) = true := by simpa using q3
      by_cases q4 : e7 ≤ c
      case neg =>
        have d_q4 : decide (e7 ≤ c) = false := by simpa using q4
        obtain rfl : r = false := by rw [HR0.out]; exact may_no _ _ _ _ _ _ _ _ _ _ _ _ _ _ _ (by unfold MayP; omega)
        clear q1 q2 q3 q4
        go_wp2
        go_ret
        exact ⟨rfl, (HB.out.1.trans ((HR.out.1.alloc (by have := HR.out.2.1; have := HB.out.2.2; omega) _).mono (by omega)))⟩
      have d_q4 : decide (e7 ≤ c) = true := by simpa using q4
      have HQ : Hid (-c ≤ e6 ∧ e6 ≤ c ∧ -c ≤ e7 ∧ e7 ≤ c) := ⟨q1, q2, q3, q4⟩
      clear q1 q2 q3 q4
      go_wp2
      refine ⟨⟨4, by omega, rfl, (HR.out.1.alloc (by have := HR.out.2.1; have := HB.out.2.2; omega) _), (by have := HR.out.2.1; simp; omega), (fun _ => HR.out.2.2.1 (by omega)), (fun _ => HR.out.2.2.2.1 (by omega)), (fun _ => HR.out.2.2.2.2.1 (by omega)), (fun _ => HQ.out)⟩, by simp only [intOf]; omega⟩
    · obtain ⟨g1, g2, g3, g4, g5, g6⟩ := HR.out
      have k_run : wr.cell? ⟨w.heap.size, 1, none⟩ = some (.int .i64 run) := by
        rw [g1.cell (show w.heap.size < _ by omega)]
        have q := HB.out.2.1 1 _ rfl
        simpa using q
      have k_most : wr.cell? ⟨w.heap.size, 2, none⟩ = some (.int .i64 most) := by
        rw [g1.cell (show w.heap.size < _ by omega)]
        have q := HB.out.2.1 2 _ rfl
        simpa using q
      have k_ones : wr.cell? ⟨w.heap.size, 3, none⟩ = some (.int .i64 ones) := by
        rw [g1.cell (show w.heap.size < _ by omega)]
        have q := HB.out.2.1 3 _ rfl
        simpa using q
      have k_far : wr.cell? ⟨w.heap.size, 12, none⟩ = some (.int .i64 far) := by
        rw [g1.cell (show w.heap.size < _ by omega)]
        have q := HB.out.2.1 12 _ rfl
        simpa using q
      have k_poker : wr.cell? ⟨w.heap.size, 13, none⟩ = some (.int .i64 poker) := by
        rw [g1.cell (show w.heap.size < _ by omega)]
        have q := HB.out.2.1 13 _ rfl
        simpa using q
      have k_turned : wr.cell? ⟨w.heap.size, 14, none⟩ = some (.int .i64 turned) := by
        rw [g1.cell (show w.heap.size < _ by omega)]
        have q := HB.out.2.1 14 _ rfl
        simpa using q
      have HG : Hid (Below w.heap.size w wr ∧ -c ≤ e0 ∧ e0 ≤ c ∧ -c ≤ e1 ∧ e1 ≤ c ∧ -c ≤ e2 ∧ e2 ≤ c ∧ -c ≤ e3 ∧ e3 ≤ c ∧ -c ≤ e4 ∧ e4 ≤ c ∧ -c ≤ e5 ∧ e5 ≤ c ∧ -c ≤ e6 ∧ e6 ≤ c ∧ -c ≤ e7 ∧ e7 ≤ c) := ⟨HB.out.1.trans (g1.mono (by omega)), (g3 (by omega)).1, (g3 (by omega)).2.1, (g3 (by omega)).2.2.1, (g3 (by omega)).2.2.2, (g4 (by omega)).1, (g4 (by omega)).2.1, (g4 (by omega)).2.2.1, (g4 (by omega)).2.2.2, (g5 (by omega)).1, (g5 (by omega)).2.1, (g5 (by omega)).2.2.1, (g5 (by omega)).2.2.2, g6 (by omega)⟩
      clear HR HB g1 g2 g3 g4 g5 g6
      by_cases hm : 512 < c
      case pos =>
        have d_hm : decide (512 < c) = true := by simpa using hm
        by_cases q1 : 1 ≤ run
        case neg =>
          have d_q1 : decide (1 ≤ run) = false := by simpa using q1
          obtain rfl : r = false := by rw [HR0.out]; exact may_no _ _ _ _ _ _ _ _ _ _ _ _ _ _ _ (by unfold MayP; omega)
          clear q1
          go_wp2
          go_ret
          exact ⟨rfl, HG.out.1⟩
        have d_q1 : decide (1 ≤ run) = true := by simpa using q1
        by_cases q2 : run ≤ c
        case neg =>
          have d_q2 : decide (run ≤ c) = false := by simpa using q2
          obtain rfl : r = false := by rw [HR0.out]; exact may_no _ _ _ _ _ _ _ _ _ _ _ _ _ _ _ (by unfold MayP; omega)
          clear q1 q2
          go_wp2
          go_ret
          exact ⟨rfl, HG.out.1⟩
        have d_q2 : decide (run ≤ c) = true := by simpa using q2
        by_cases q3 : 1 ≤ most
        case neg =>
          have d_q3 : decide (1 ≤ most) = false := by simpa using q3
          obtain rfl : r = false := by rw [HR0.out]; exact may_no _ _ _ _ _ _ _ _ _ _ _ _ _ _ _ (by unfold MayP; omega)
          clear q1 q2 q3
          go_wp2
          go_ret
          exact ⟨rfl, HG.out.1⟩
        have d_q3 : decide (1 ≤ most) = true := by simpa using q3
        by_cases q4 : most ≤ 512
        case neg =>
          have d_q4 : decide (most ≤ 512) = false := by simpa using q4
          obtain rfl : r = false := by rw [HR0.out]; exact may_no _ _ _ _ _ _ _ _ _ _ _ _ _ _ _ (by unfold MayP; omega)
          clear q1 q2 q3 q4
          go_wp2
          go_ret
          exact ⟨rfl, HG.out.1⟩
        have d_q4 : decide (most ≤ 512) = true := by simpa using q4
        by_cases q5 : 0 ≤ ones
        case neg =>
          have d_q5 : decide (0 ≤ ones) = false := by simpa using q5
          obtain rfl : r = false := by rw [HR0.out]; exact may_no _ _ _ _ _ _ _ _ _ _ _ _ _ _ _ (by unfold MayP; omega)
          clear q1 q2 q3 q4 q5
          go_wp2
          go_ret
          exact ⟨rfl, HG.out.1⟩
        have d_q5 : decide (0 ≤ ones) = true := by simpa using q5
        by_cases q6 : ones ≤ 8 * c
        case neg =>
          have d_q6 : decide (ones ≤ 8 * c) = false := by simpa using q6
          obtain rfl : r = false := by rw [HR0.out]; exact may_no _ _ _ _ _ _ _ _ _ _ _ _ _ _ _ (by unfold MayP; omega)
          clear q1 q2 q3 q4 q5 q6
          go_wp2
          go_ret
          exact ⟨rfl, HG.out.1⟩
        have d_q6 : decide (ones ≤ 8 * c) = true := by simpa using q6
        by_cases q7 : 0 ≤ turned
        case neg =>
          have d_q7 : decide (0 ≤ turned) = false := by simpa using q7
          obtain rfl : r = false := by rw [HR0.out]; exact may_no _ _ _ _ _ _ _ _ _ _ _ _ _ _ _ (by unfold MayP; omega)
          clear q1 q2 q3 q4 q5 q6 q7
          go_wp2
          go_ret
          exact ⟨rfl, HG.out.1⟩
        have d_q7 : decide (0 ≤ turned) = true := by simpa using q7
        by_cases q8 : turned ≤ 8 * c - 1
        case neg =>
          have d_q8 : decide (turned ≤ 8 * c - 1) = false := by simpa using q8
          obtain rfl : r = false := by rw [HR0.out]; exact may_no _ _ _ _ _ _ _ _ _ _ _ _ _ _ _ (by unfold MayP; omega)
          clear q1 q2 q3 q4 q5 q6 q7 q8
          go_wp2
          go_ret
          exact ⟨rfl, HG.out.1⟩
        have d_q8 : decide (turned ≤ 8 * c - 1) = true := by simpa using q8
        by_cases q9 : 0 ≤ poker
        case neg =>
          have d_q9 : decide (0 ≤ poker) = false := by simpa using q9
          obtain rfl : r = false := by rw [HR0.out]; exact may_no _ _ _ _ _ _ _ _ _ _ _ _ _ _ _ (by unfold MayP; omega)
          clear q1 q2 q3 q4 q5 q6 q7 q8 q9
          go_wp2
          go_ret
          exact ⟨rfl, HG.out.1⟩
        have d_q9 : decide (0 ≤ poker) = true := by simpa using q9
        by_cases q10 : poker ≤ 4 * c * c
        case neg =>
          have d_q10 : decide (poker ≤ 4 * c * c) = false := by simpa using q10
          obtain rfl : r = false := by rw [HR0.out]; exact may_no _ _ _ _ _ _ _ _ _ _ _ _ _ _ _ (by unfold MayP; omega)
          clear q1 q2 q3 q4 q5 q6 q7 q8 q9 q10
          go_wp2
          go_ret
          exact ⟨rfl, HG.out.1⟩
        have d_q10 : decide (poker ≤ 4 * c * c) = true := by simpa using q10
        by_cases q11 : 0 ≤ far
        case neg =>
          have d_q11 : decide (0 ≤ far) = false := by simpa using q11
          obtain rfl : r = false := by rw [HR0.out]; exact may_no _ _ _ _ _ _ _ _ _ _ _ _ _ _ _ (by unfold MayP; omega)
          clear q1 q2 q3 q4 q5 q6 q7 q8 q9 q10 q11
          go_wp2
          go_ret
          exact ⟨rfl, HG.out.1⟩
        have d_q11 : decide (0 ≤ far) = true := by simpa using q11
        by_cases q12 : far ≤ c * c
        case neg =>
          have d_q12 : decide (far ≤ c * c) = false := by simpa using q12
          obtain rfl : r = false := by rw [HR0.out]; exact may_no _ _ _ _ _ _ _ _ _ _ _ _ _ _ _ (by unfold MayP; omega)
          clear q1 q2 q3 q4 q5 q6 q7 q8 q9 q10 q11 q12
          go_wp2
          go_ret
          exact ⟨rfl, HG.out.1⟩
        have d_q12 : decide (far ≤ c * c) = true := by simpa using q12
        obtain rfl : r = true := by rw [HR0.out]; exact may_yes _ _ _ _ _ _ _ _ _ _ _ _ _ _ _ ⟨HC1.out.1, HC1.out.2, HG.out.2.1, HG.out.2.2.1, HG.out.2.2.2.1, HG.out.2.2.2.2.1, HG.out.2.2.2.2.2.1, HG.out.2.2.2.2.2.2.1, HG.out.2.2.2.2.2.2.2.1, HG.out.2.2.2.2.2.2.2.2.1, HG.out.2.2.2.2.2.2.2.2.2.1, HG.out.2.2.2.2.2.2.2.2.2.2.1, HG.out.2.2.2.2.2.2.2.2.2.2.2.1, HG.out.2.2.2.2.2.2.2.2.2.2.2.2.1, HG.out.2.2.2.2.2.2.2.2.2.2.2.2.2.1, HG.out.2.2.2.2.2.2.2.2.2.2.2.2.2.2.1, HG.out.2.2.2.2.2.2.2.2.2.2.2.2.2.2.2.1, HG.out.2.2.2.2.2.2.2.2.2.2.2.2.2.2.2.2, q1, q2, q3, (by omega), q5, q6, q7, q8, q9, q10, q11, q12⟩
        clear q1 q2 q3 q4 q5 q6 q7 q8 q9 q10 q11 q12
        go_wp2
        go_ret
        exact ⟨rfl, HG.out.1⟩
      have d_hm : decide (512 < c) = false := by simpa using hm
      by_cases q1 : 1 ≤ run
      case neg =>
        have d_q1 : decide (1 ≤ run) = false := by simpa using q1
        obtain rfl : r = false := by rw [HR0.out]; exact may_no _ _ _ _ _ _ _ _ _ _ _ _ _ _ _ (by unfold MayP; omega)
        clear q1
        go_wp2
        go_ret
        exact ⟨rfl, HG.out.1⟩
      have d_q1 : decide (1 ≤ run) = true := by simpa using q1
      by_cases q2 : run ≤ c
      case neg =>
        have d_q2 : decide (run ≤ c) = false := by simpa using q2
        obtain rfl : r = false := by rw [HR0.out]; exact may_no _ _ _ _ _ _ _ _ _ _ _ _ _ _ _ (by unfold MayP; omega)
        clear q1 q2
        go_wp2
        go_ret
        exact ⟨rfl, HG.out.1⟩
      have d_q2 : decide (run ≤ c) = true := by simpa using q2
      by_cases q3 : 1 ≤ most
      case neg =>
        have d_q3 : decide (1 ≤ most) = false := by simpa using q3
        obtain rfl : r = false := by rw [HR0.out]; exact may_no _ _ _ _ _ _ _ _ _ _ _ _ _ _ _ (by unfold MayP; omega)
        clear q1 q2 q3
        go_wp2
        go_ret
        exact ⟨rfl, HG.out.1⟩
      have d_q3 : decide (1 ≤ most) = true := by simpa using q3
      by_cases q4 : most ≤ c
      case neg =>
        have d_q4 : decide (most ≤ c) = false := by simpa using q4
        obtain rfl : r = false := by rw [HR0.out]; exact may_no _ _ _ _ _ _ _ _ _ _ _ _ _ _ _ (by unfold MayP; omega)
        clear q1 q2 q3 q4
        go_wp2
        go_ret
        exact ⟨rfl, HG.out.1⟩
      have d_q4 : decide (most ≤ c) = true := by simpa using q4
      by_cases q5 : 0 ≤ ones
      case neg =>
        have d_q5 : decide (0 ≤ ones) = false := by simpa using q5
        obtain rfl : r = false := by rw [HR0.out]; exact may_no _ _ _ _ _ _ _ _ _ _ _ _ _ _ _ (by unfold MayP; omega)
        clear q1 q2 q3 q4 q5
        go_wp2
        go_ret
        exact ⟨rfl, HG.out.1⟩
      have d_q5 : decide (0 ≤ ones) = true := by simpa using q5
      by_cases q6 : ones ≤ 8 * c
      case neg =>
        have d_q6 : decide (ones ≤ 8 * c) = false := by simpa using q6
        obtain rfl : r = false := by rw [HR0.out]; exact may_no _ _ _ _ _ _ _ _ _ _ _ _ _ _ _ (by unfold MayP; omega)
        clear q1 q2 q3 q4 q5 q6
        go_wp2
        go_ret
        exact ⟨rfl, HG.out.1⟩
      have d_q6 : decide (ones ≤ 8 * c) = true := by simpa using q6
      by_cases q7 : 0 ≤ turned
      case neg =>
        have d_q7 : decide (0 ≤ turned) = false := by simpa using q7
        obtain rfl : r = false := by rw [HR0.out]; exact may_no _ _ _ _ _ _ _ _ _ _ _ _ _ _ _ (by unfold MayP; omega)
        clear q1 q2 q3 q4 q5 q6 q7
        go_wp2
        go_ret
        exact ⟨rfl, HG.out.1⟩
      have d_q7 : decide (0 ≤ turned) = true := by simpa using q7
      by_cases q8 : turned ≤ 8 * c - 1
      case neg =>
        have d_q8 : decide (turned ≤ 8 * c - 1) = false := by simpa using q8
        obtain rfl : r = false := by rw [HR0.out]; exact may_no _ _ _ _ _ _ _ _ _ _ _ _ _ _ _ (by unfold MayP; omega)
        clear q1 q2 q3 q4 q5 q6 q7 q8
        go_wp2
        go_ret
        exact ⟨rfl, HG.out.1⟩
      have d_q8 : decide (turned ≤ 8 * c - 1) = true := by simpa using q8
      by_cases q9 : 0 ≤ poker
      case neg =>
        have d_q9 : decide (0 ≤ poker) = false := by simpa using q9
        obtain rfl : r = false := by rw [HR0.out]; exact may_no _ _ _ _ _ _ _ _ _ _ _ _ _ _ _ (by unfold MayP; omega)
        clear q1 q2 q3 q4 q5 q6 q7 q8 q9
        go_wp2
        go_ret
        exact ⟨rfl, HG.out.1⟩
      have d_q9 : decide (0 ≤ poker) = true := by simpa using q9
      by_cases q10 : poker ≤ 4 * c * c
      case neg =>
        have d_q10 : decide (poker ≤ 4 * c * c) = false := by simpa using q10
        obtain rfl : r = false := by rw [HR0.out]; exact may_no _ _ _ _ _ _ _ _ _ _ _ _ _ _ _ (by unfold MayP; omega)
        clear q1 q2 q3 q4 q5 q6 q7 q8 q9 q10
        go_wp2
        go_ret
        exact ⟨rfl, HG.out.1⟩
      have d_q10 : decide (poker ≤ 4 * c * c) = true := by simpa using q10
      by_cases q11 : 0 ≤ far
      case neg =>
        have d_q11 : decide (0 ≤ far) = false := by simpa using q11
        obtain rfl : r = false := by rw [HR0.out]; exact may_no _ _ _ _ _ _ _ _ _ _ _ _ _ _ _ (by unfold MayP; omega)
        clear q1 q2 q3 q4 q5 q6 q7 q8 q9 q10 q11
        go_wp2
        go_ret
        exact ⟨rfl, HG.out.1⟩
      have d_q11 : decide (0 ≤ far) = true := by simpa using q11
      by_cases q12 : far ≤ c * c
      case neg =>
        have d_q12 : decide (far ≤ c * c) = false := by simpa using q12
        obtain rfl : r = false := by rw [HR0.out]; exact may_no _ _ _ _ _ _ _ _ _ _ _ _ _ _ _ (by unfold MayP; omega)
        clear q1 q2 q3 q4 q5 q6 q7 q8 q9 q10 q11 q12
        go_wp2
        go_ret
        exact ⟨rfl, HG.out.1⟩
      have d_q12 : decide (far ≤ c * c) = true := by simpa using q12
      obtain rfl : r = true := by rw [HR0.out]; exact may_yes _ _ _ _ _ _ _ _ _ _ _ _ _ _ _ ⟨HC1.out.1, HC1.out.2, HG.out.2.1, HG.out.2.2.1, HG.out.2.2.2.1, HG.out.2.2.2.2.1, HG.out.2.2.2.2.2.1, HG.out.2.2.2.2.2.2.1, HG.out.2.2.2.2.2.2.2.1, HG.out.2.2.2.2.2.2.2.2.1, HG.out.2.2.2.2.2.2.2.2.2.1, HG.out.2.2.2.2.2.2.2.2.2.2.1, HG.out.2.2.2.2.2.2.2.2.2.2.2.1, HG.out.2.2.2.2.2.2.2.2.2.2.2.2.1, HG.out.2.2.2.2.2.2.2.2.2.2.2.2.2.1, HG.out.2.2.2.2.2.2.2.2.2.2.2.2.2.2.1, HG.out.2.2.2.2.2.2.2.2.2.2.2.2.2.2.2.1, HG.out.2.2.2.2.2.2.2.2.2.2.2.2.2.2.2.2, q1, q2, q3, (by omega), q5, q6, q7, q8, q9, q10, q11, q12⟩
      clear q1 q2 q3 q4 q5 q6 q7 q8 q9 q10 q11 q12
      go_wp2
      go_ret
      exact ⟨rfl, HG.out.1⟩
end Go.Proofs.Ytaejoohbmdckhaa
