import Derived.Test.YtaejoohbmdckhaaSick
namespace Go.Proofs.Ytaejoohbmdckhaa
open Go.RowKit
set_option linter.unusedVariables false
set_option linter.unusedSimpArgs false
/-- d tells whether P. -/
def Is (d : Bool) (P : Prop) : Prop := d = true ↔ P
/-- What Judge answers. -/
def JV (c run most ones e0 e1 e2 e3 e4 e5 e6 e7 far poker turned : Int) : Int := if MayP c run most ones e0 e1 e2 e3 e4 e5 e6 e7 far poker turned then (if SickP c run most ones e0 e1 e2 e3 e4 e5 e6 e7 far poker turned then 62 else 0) else 2
theorem jv2 (c run most ones e0 e1 e2 e3 e4 e5 e6 e7 far poker turned : Int) (h : ¬ MayP c run most ones e0 e1 e2 e3 e4 e5 e6 e7 far poker turned) : JV c run most ones e0 e1 e2 e3 e4 e5 e6 e7 far poker turned = 2 := if_neg h
theorem jv62 (c run most ones e0 e1 e2 e3 e4 e5 e6 e7 far poker turned : Int) (h : MayP c run most ones e0 e1 e2 e3 e4 e5 e6 e7 far poker turned) (k : SickP c run most ones e0 e1 e2 e3 e4 e5 e6 e7 far poker turned) : JV c run most ones e0 e1 e2 e3 e4 e5 e6 e7 far poker turned = 62 := by unfold JV; rw [if_pos h, if_pos k]
theorem jv0 (c run most ones e0 e1 e2 e3 e4 e5 e6 e7 far poker turned : Int) (h : MayP c run most ones e0 e1 e2 e3 e4 e5 e6 e7 far poker turned) (k : ¬ SickP c run most ones e0 e1 e2 e3 e4 e5 e6 e7 far poker turned) : JV c run most ones e0 e1 e2 e3 e4 e5 e6 e7 far poker turned = 0 := by unfold JV; rw [if_pos h, if_neg k]
set_option maxHeartbeats 8000000 in
set_option maxRecDepth 100000 in
theorem rjudge_ok (c run most ones e0 e1 e2 e3 e4 e5 e6 e7 far poker turned : Int) (w : World) :
    Calls Try.prog 9 #[.agg #[.int .i64 c, .int .i64 run, .int .i64 most, .int .i64 ones, .int .i64 e0, .int .i64 e1, .int .i64 e2, .int .i64 e3, .int .i64 e4, .int .i64 e5, .int .i64 e6, .int .i64 e7, .int .i64 far, .int .i64 poker, .int .i64 turned]] w fun e w' => e = .returned (.int .i64 (JV c run most ones e0 e1 e2 e3 e4 e5 e6 e7 far poker turned)) ∧ Below w.heap.size w w' := by
  obtain ⟨r, HR0⟩ : ∃ r, Hid (r = JV c run most ones e0 e1 e2 e3 e4 e5 e6 e7 far poker turned) := ⟨_, rfl⟩
  rw [← HR0.out]
  by_cases hc1 : 64 ≤ c
  case neg =>
    have d_hc1 : decide (c < 64) = true := by simp; omega
    obtain rfl : r = 2 := by rw [HR0.out]; exact jv2 _ _ _ _ _ _ _ _ _ _ _ _ _ _ _ (by unfold MayP; omega)
    clear hc1
    go_enter Try.func9, Try.ntmps9
    go_wp2
    go_ret
    exact ⟨rfl, (Below.refl _ w).alloc (Nat.le_refl _) _⟩
  have d_hc1 : decide (c < 64) = false := by simp; omega
  by_cases hc2 : c ≤ 1048576
  case neg =>
    have d_hc2 : decide (1048576 < c) = true := by simp; omega
    obtain rfl : r = 2 := by rw [HR0.out]; exact jv2 _ _ _ _ _ _ _ _ _ _ _ _ _ _ _ (by unfold MayP; omega)
    clear hc1 hc2
    go_enter Try.func9, Try.ntmps9
    go_wp2
    go_ret
    exact ⟨rfl, (Below.refl _ w).alloc (Nat.le_refl _) _⟩
  have d_hc2 : decide (1048576 < c) = false := by simp; omega
  have w1 : IntKind.i64.wrap (-c) = -c := wrap_in _ (by omega) (by omega)
  have w2 : IntKind.i64.wrap (8 * c) = 8 * c := wrap_in _ (by omega) (by omega)
  have w3 : IntKind.i64.wrap (8 * c - 1) = 8 * c - 1 := wrap_in _ (by omega) (by omega)
  have w4 : IntKind.i64.wrap (4 * c) = 4 * c := wrap_in _ (by omega) (by omega)
  have w5 : IntKind.i64.wrap (4 * c * c) = 4 * c * c := by have hs := sq_le hc1 hc2; rw [Int.mul_assoc]; exact wrap_in _ (by omega) (by omega)
  have w6 : IntKind.i64.wrap (c * c) = c * c := by have hs := sq_le hc1 hc2; exact wrap_in _ (by omega) (by omega)
  have HA : Hid (64 ≤ c ∧ c ≤ 1048576) := ⟨hc1, hc2⟩
  clear hc1 hc2
  have HB : Hid (Below w.heap.size w (w.alloc (.cells #[.int .i64 c, .int .i64 run, .int .i64 most, .int .i64 ones, .int .i64 e0, .int .i64 e1, .int .i64 e2, .int .i64 e3, .int .i64 e4, .int .i64 e5, .int .i64 e6, .int .i64 e7, .int .i64 far, .int .i64 poker, .int .i64 turned] 36)) ∧ (w.alloc (.cells #[.int .i64 c, .int .i64 run, .int .i64 most, .int .i64 ones, .int .i64 e0, .int .i64 e1, .int .i64 e2, .int .i64 e3, .int .i64 e4, .int .i64 e5, .int .i64 e6, .int .i64 e7, .int .i64 far, .int .i64 poker, .int .i64 turned] 36)).rangeAt w.heap.size 0 [.int .i64 c, .int .i64 run, .int .i64 most, .int .i64 ones, .int .i64 e0, .int .i64 e1, .int .i64 e2, .int .i64 e3, .int .i64 e4, .int .i64 e5, .int .i64 e6, .int .i64 e7, .int .i64 far, .int .i64 poker, .int .i64 turned] ∧ (w.alloc (.cells #[.int .i64 c, .int .i64 run, .int .i64 most, .int .i64 ones, .int .i64 e0, .int .i64 e1, .int .i64 e2, .int .i64 e3, .int .i64 e4, .int .i64 e5, .int .i64 e6, .int .i64 e7, .int .i64 far, .int .i64 poker, .int .i64 turned] 36)).heap.size = w.heap.size + 1) := ⟨(Below.refl _ w).alloc (Nat.le_refl _) _, rangeAt_new w _ _, by simp⟩
  go_enter Try.func9, Try.ntmps9
  go_upto_region 4 with fail
  generalize w.alloc (.cells #[.int .i64 c, .int .i64 run, .int .i64 most, .int .i64 ones, .int .i64 e0, .int .i64 e1, .int .i64 e2, .int .i64 e3, .int .i64 e4, .int .i64 e5, .int .i64 e6, .int .i64 e7, .int .i64 far, .int .i64 poker, .int .i64 turned] 36) = wa at HB ⊢
  have HC : Hid (∀ wr, Below (w.heap.size + 1) wa wr → wr.cell? ⟨w.heap.size, 0, none⟩ = some (.int .i64 c) ∧ wr.cell? ⟨w.heap.size, 1, none⟩ = some (.int .i64 run) ∧ wr.cell? ⟨w.heap.size, 2, none⟩ = some (.int .i64 most) ∧ wr.cell? ⟨w.heap.size, 3, none⟩ = some (.int .i64 ones) ∧ wr.cell? ⟨w.heap.size, 4, none⟩ = some (.int .i64 e0) ∧ wr.cell? ⟨w.heap.size, 5, none⟩ = some (.int .i64 e1) ∧ wr.cell? ⟨w.heap.size, 6, none⟩ = some (.int .i64 e2) ∧ wr.cell? ⟨w.heap.size, 7, none⟩ = some (.int .i64 e3) ∧ wr.cell? ⟨w.heap.size, 8, none⟩ = some (.int .i64 e4) ∧ wr.cell? ⟨w.heap.size, 9, none⟩ = some (.int .i64 e5) ∧ wr.cell? ⟨w.heap.size, 10, none⟩ = some (.int .i64 e6) ∧ wr.cell? ⟨w.heap.size, 11, none⟩ = some (.int .i64 e7) ∧ wr.cell? ⟨w.heap.size, 12, none⟩ = some (.int .i64 far) ∧ wr.cell? ⟨w.heap.size, 13, none⟩ = some (.int .i64 poker) ∧ wr.cell? ⟨w.heap.size, 14, none⟩ = some (.int .i64 turned)) := fun wr h => ⟨by rw [h.cell (show w.heap.size < _ by omega)]; have q := HB.out.2.1 0 _ rfl; simpa using q, by rw [h.cell (show w.heap.size < _ by omega)]; have q := HB.out.2.1 1 _ rfl; simpa using q, by rw [h.cell (show w.heap.size < _ by omega)]; have q := HB.out.2.1 2 _ rfl; simpa using q, by rw [h.cell (show w.heap.size < _ by omega)]; have q := HB.out.2.1 3 _ rfl; simpa using q, by rw [h.cell (show w.heap.size < _ by omega)]; have q := HB.out.2.1 4 _ rfl; simpa using q, by rw [h.cell (show w.heap.size < _ by omega)]; have q := HB.out.2.1 5 _ rfl; simpa using q, by rw [h.cell (show w.heap.size < _ by omega)]; have q := HB.out.2.1 6 _ rfl; simpa using q, by rw [h.cell (show w.heap.size < _ by omega)]; have q := HB.out.2.1 7 _ rfl; simpa using q, by rw [h.cell (show w.heap.size < _ by omega)]; have q := HB.out.2.1 8 _ rfl; simpa using q, by rw [h.cell (show w.heap.size < _ by omega)]; have q := HB.out.2.1 9 _ rfl; simpa using q, by rw [h.cell (show w.heap.size < _ by omega)]; have q := HB.out.2.1 10 _ rfl; simpa using q, by rw [h.cell (show w.heap.size < _ by omega)]; have q := HB.out.2.1 11 _ rfl; simpa using q, by rw [h.cell (show w.heap.size < _ by omega)]; have q := HB.out.2.1 12 _ rfl; simpa using q, by rw [h.cell (show w.heap.size < _ by omega)]; have q := HB.out.2.1 13 _ rfl; simpa using q, by rw [h.cell (show w.heap.size < _ by omega)]; have q := HB.out.2.1 14 _ rfl; simpa using q⟩
  go_cut [62] from 20 to 62 (fun b wx => (∃ d : Bool, b = .bool d ∧ Hid (Is d (¬ (1 ≤ run ∧ run ≤ c ∧ 1 ≤ most ∧ most ≤ min c 512 ∧ 0 ≤ ones ∧ ones ≤ 8 * c ∧ 0 ≤ turned ∧ turned ≤ 8 * c - 1 ∧ 0 ≤ poker ∧ poker ≤ 4 * c * c ∧ 0 ≤ far ∧ far ≤ c * c)))) ∧ wx = wa)
  case first =>
    obtain ⟨k0, k1, k2, k3, k4, k5, k6, k7, k8, k9, k10, k11, k12, k13, k14⟩ := HC.out wa (Below.refl _ _)
    by_cases hm : 512 < c
    case pos =>
      by_cases q1 : 1 ≤ run
      case neg =>
        have d_q1 : decide (run < 1) = true := by simp; omega
        have hd : true = true ↔ ¬ (1 ≤ run ∧ run ≤ c ∧ 1 ≤ most ∧ most ≤ min c 512 ∧ 0 ≤ ones ∧ ones ≤ 8 * c ∧ 0 ≤ turned ∧ turned ≤ 8 * c - 1 ∧ 0 ≤ poker ∧ poker ≤ 4 * c * c ∧ 0 ≤ far ∧ far ≤ c * c) := ⟨fun _ => by omega, fun _ => rfl⟩
        have HD : Hid (Is true (¬ (1 ≤ run ∧ run ≤ c ∧ 1 ≤ most ∧ most ≤ min c 512 ∧ 0 ≤ ones ∧ ones ≤ 8 * c ∧ 0 ≤ turned ∧ turned ≤ 8 * c - 1 ∧ 0 ≤ poker ∧ poker ≤ 4 * c * c ∧ 0 ≤ far ∧ far ≤ c * c))) := hd
        clear hd q1
        go_wp2
        go_meet
        exact ⟨⟨_, rfl, HD⟩, rfl⟩
      have d_q1 : decide (run < 1) = false := by simp; omega
      by_cases q2 : run ≤ c
      case neg =>
        have d_q2 : decide (c < run) = true := by simp; omega
        have hd : true = true ↔ ¬ (1 ≤ run ∧ run ≤ c ∧ 1 ≤ most ∧ most ≤ min c 512 ∧ 0 ≤ ones ∧ ones ≤ 8 * c ∧ 0 ≤ turned ∧ turned ≤ 8 * c - 1 ∧ 0 ≤ poker ∧ poker ≤ 4 * c * c ∧ 0 ≤ far ∧ far ≤ c * c) := ⟨fun _ => by omega, fun _ => rfl⟩
        have HD : Hid (Is true (¬ (1 ≤ run ∧ run ≤ c ∧ 1 ≤ most ∧ most ≤ min c 512 ∧ 0 ≤ ones ∧ ones ≤ 8 * c ∧ 0 ≤ turned ∧ turned ≤ 8 * c - 1 ∧ 0 ≤ poker ∧ poker ≤ 4 * c * c ∧ 0 ≤ far ∧ far ≤ c * c))) := hd
        clear hd q1 q2
        go_wp2
        go_meet
        exact ⟨⟨_, rfl, HD⟩, rfl⟩
      have d_q2 : decide (c < run) = false := by simp; omega
      by_cases q3 : 1 ≤ most
      case neg =>
        have d_q3 : decide (most < 1) = true := by simp; omega
        have hd : true = true ↔ ¬ (1 ≤ run ∧ run ≤ c ∧ 1 ≤ most ∧ most ≤ min c 512 ∧ 0 ≤ ones ∧ ones ≤ 8 * c ∧ 0 ≤ turned ∧ turned ≤ 8 * c - 1 ∧ 0 ≤ poker ∧ poker ≤ 4 * c * c ∧ 0 ≤ far ∧ far ≤ c * c) := ⟨fun _ => by omega, fun _ => rfl⟩
        have HD : Hid (Is true (¬ (1 ≤ run ∧ run ≤ c ∧ 1 ≤ most ∧ most ≤ min c 512 ∧ 0 ≤ ones ∧ ones ≤ 8 * c ∧ 0 ≤ turned ∧ turned ≤ 8 * c - 1 ∧ 0 ≤ poker ∧ poker ≤ 4 * c * c ∧ 0 ≤ far ∧ far ≤ c * c))) := hd
        clear hd q1 q2 q3
        go_wp2
        go_meet
        exact ⟨⟨_, rfl, HD⟩, rfl⟩
      have d_q3 : decide (most < 1) = false := by simp; omega
      by_cases q4 : most ≤ 512
      case neg =>
        have d_q4 : decide (512 < most) = true := by simp; omega
        have hd : true = true ↔ ¬ (1 ≤ run ∧ run ≤ c ∧ 1 ≤ most ∧ most ≤ min c 512 ∧ 0 ≤ ones ∧ ones ≤ 8 * c ∧ 0 ≤ turned ∧ turned ≤ 8 * c - 1 ∧ 0 ≤ poker ∧ poker ≤ 4 * c * c ∧ 0 ≤ far ∧ far ≤ c * c) := ⟨fun _ => by omega, fun _ => rfl⟩
        have HD : Hid (Is true (¬ (1 ≤ run ∧ run ≤ c ∧ 1 ≤ most ∧ most ≤ min c 512 ∧ 0 ≤ ones ∧ ones ≤ 8 * c ∧ 0 ≤ turned ∧ turned ≤ 8 * c - 1 ∧ 0 ≤ poker ∧ poker ≤ 4 * c * c ∧ 0 ≤ far ∧ far ≤ c * c))) := hd
        clear hd q1 q2 q3 q4
        go_wp2
        go_meet
        exact ⟨⟨_, rfl, HD⟩, rfl⟩
      have d_q4 : decide (512 < most) = false := by simp; omega
      by_cases q5 : 0 ≤ ones
      case neg =>
        have d_q5 : decide (ones < 0) = true := by simp; omega
        have hd : true = true ↔ ¬ (1 ≤ run ∧ run ≤ c ∧ 1 ≤ most ∧ most ≤ min c 512 ∧ 0 ≤ ones ∧ ones ≤ 8 * c ∧ 0 ≤ turned ∧ turned ≤ 8 * c - 1 ∧ 0 ≤ poker ∧ poker ≤ 4 * c * c ∧ 0 ≤ far ∧ far ≤ c * c) := ⟨fun _ => by omega, fun _ => rfl⟩
        have HD : Hid (Is true (¬ (1 ≤ run ∧ run ≤ c ∧ 1 ≤ most ∧ most ≤ min c 512 ∧ 0 ≤ ones ∧ ones ≤ 8 * c ∧ 0 ≤ turned ∧ turned ≤ 8 * c - 1 ∧ 0 ≤ poker ∧ poker ≤ 4 * c * c ∧ 0 ≤ far ∧ far ≤ c * c))) := hd
        clear hd q1 q2 q3 q4 q5
        go_wp2
        go_meet
        exact ⟨⟨_, rfl, HD⟩, rfl⟩
      have d_q5 : decide (ones < 0) = false := by simp; omega
      by_cases q6 : ones ≤ 8 * c
      case neg =>
        have d_q6 : decide (8 * c < ones) = true := by simp; omega
        have hd : true = true ↔ ¬ (1 ≤ run ∧ run ≤ c ∧ 1 ≤ most ∧ most ≤ min c 512 ∧ 0 ≤ ones ∧ ones ≤ 8 * c ∧ 0 ≤ turned ∧ turned ≤ 8 * c - 1 ∧ 0 ≤ poker ∧ poker ≤ 4 * c * c ∧ 0 ≤ far ∧ far ≤ c * c) := ⟨fun _ => by omega, fun _ => rfl⟩
        have HD : Hid (Is true (¬ (1 ≤ run ∧ run ≤ c ∧ 1 ≤ most ∧ most ≤ min c 512 ∧ 0 ≤ ones ∧ ones ≤ 8 * c ∧ 0 ≤ turned ∧ turned ≤ 8 * c - 1 ∧ 0 ≤ poker ∧ poker ≤ 4 * c * c ∧ 0 ≤ far ∧ far ≤ c * c))) := hd
        clear hd q1 q2 q3 q4 q5 q6
        go_wp2
        go_meet
        exact ⟨⟨_, rfl, HD⟩, rfl⟩
      have d_q6 : decide (8 * c < ones) = false := by simp; omega
      by_cases q7 : 0 ≤ turned
      case neg =>
        have d_q7 : decide (turned < 0) = true := by simp; omega
        have hd : true = true ↔ ¬ (1 ≤ run ∧ run ≤ c ∧ 1 ≤ most ∧ most ≤ min c 512 ∧ 0 ≤ ones ∧ ones ≤ 8 * c ∧ 0 ≤ turned ∧ turned ≤ 8 * c - 1 ∧ 0 ≤ poker ∧ poker ≤ 4 * c * c ∧ 0 ≤ far ∧ far ≤ c * c) := ⟨fun _ => by omega, fun _ => rfl⟩
        have HD : Hid (Is true (¬ (1 ≤ run ∧ run ≤ c ∧ 1 ≤ most ∧ most ≤ min c 512 ∧ 0 ≤ ones ∧ ones ≤ 8 * c ∧ 0 ≤ turned ∧ turned ≤ 8 * c - 1 ∧ 0 ≤ poker ∧ poker ≤ 4 * c * c ∧ 0 ≤ far ∧ far ≤ c * c))) := hd
        clear hd q1 q2 q3 q4 q5 q6 q7
        go_wp2
        go_meet
        exact ⟨⟨_, rfl, HD⟩, rfl⟩
      have d_q7 : decide (turned < 0) = false := by simp; omega
      by_cases q8 : turned ≤ 8 * c - 1
      case neg =>
        have d_q8 : decide (8 * c - 1 < turned) = true := by simp; omega
        have hd : true = true ↔ ¬ (1 ≤ run ∧ run ≤ c ∧ 1 ≤ most ∧ most ≤ min c 512 ∧ 0 ≤ ones ∧ ones ≤ 8 * c ∧ 0 ≤ turned ∧ turned ≤ 8 * c - 1 ∧ 0 ≤ poker ∧ poker ≤ 4 * c * c ∧ 0 ≤ far ∧ far ≤ c * c) := ⟨fun _ => by omega, fun _ => rfl⟩
        have HD : Hid (Is true (¬ (1 ≤ run ∧ run ≤ c ∧ 1 ≤ most ∧ most ≤ min c 512 ∧ 0 ≤ ones ∧ ones ≤ 8 * c ∧ 0 ≤ turned ∧ turned ≤ 8 * c - 1 ∧ 0 ≤ poker ∧ poker ≤ 4 * c * c ∧ 0 ≤ far ∧ far ≤ c * c))) := hd
        clear hd q1 q2 q3 q4 q5 q6 q7 q8
        go_wp2
        go_meet
        exact ⟨⟨_, rfl, HD⟩, rfl⟩
      have d_q8 : decide (8 * c - 1 < turned) = false := by simp; omega
      by_cases q9 : 0 ≤ poker
      case neg =>
        have d_q9 : decide (poker < 0) = true := by simp; omega
        have hd : true = true ↔ ¬ (1 ≤ run ∧ run ≤ c ∧ 1 ≤ most ∧ most ≤ min c 512 ∧ 0 ≤ ones ∧ ones ≤ 8 * c ∧ 0 ≤ turned ∧ turned ≤ 8 * c - 1 ∧ 0 ≤ poker ∧ poker ≤ 4 * c * c ∧ 0 ≤ far ∧ far ≤ c * c) := ⟨fun _ => by omega, fun _ => rfl⟩
        have HD : Hid (Is true (¬ (1 ≤ run ∧ run ≤ c ∧ 1 ≤ most ∧ most ≤ min c 512 ∧ 0 ≤ ones ∧ ones ≤ 8 * c ∧ 0 ≤ turned ∧ turned ≤ 8 * c - 1 ∧ 0 ≤ poker ∧ poker ≤ 4 * c * c ∧ 0 ≤ far ∧ far ≤ c * c))) := hd
        clear hd q1 q2 q3 q4 q5 q6 q7 q8 q9
        go_wp2
        go_meet
        exact ⟨⟨_, rfl, HD⟩, rfl⟩
      have d_q9 : decide (poker < 0) = false := by simp; omega
      by_cases q10 : poker ≤ 4 * c * c
      case neg =>
        have d_q10 : decide (4 * c * c < poker) = true := by simp; omega
        have hd : true = true ↔ ¬ (1 ≤ run ∧ run ≤ c ∧ 1 ≤ most ∧ most ≤ min c 512 ∧ 0 ≤ ones ∧ ones ≤ 8 * c ∧ 0 ≤ turned ∧ turned ≤ 8 * c - 1 ∧ 0 ≤ poker ∧ poker ≤ 4 * c * c ∧ 0 ≤ far ∧ far ≤ c * c) := ⟨fun _ => by omega, fun _ => rfl⟩
        have HD : Hid (Is true (¬ (1 ≤ run ∧ run ≤ c ∧ 1 ≤ most ∧ most ≤ min c 512 ∧ 0 ≤ ones ∧ ones ≤ 8 * c ∧ 0 ≤ turned ∧ turned ≤ 8 * c - 1 ∧ 0 ≤ poker ∧ poker ≤ 4 * c * c ∧ 0 ≤ far ∧ far ≤ c * c))) := hd
        clear hd q1 q2 q3 q4 q5 q6 q7 q8 q9 q10
        go_wp2
        go_meet
        exact ⟨⟨_, rfl, HD⟩, rfl⟩
      have d_q10 : decide (4 * c * c < poker) = false := by simp; omega
      by_cases q11 : 0 ≤ far
      case neg =>
        have d_q11 : decide (far < 0) = true := by simp; omega
        have hd : true = true ↔ ¬ (1 ≤ run ∧ run ≤ c ∧ 1 ≤ most ∧ most ≤ min c 512 ∧ 0 ≤ ones ∧ ones ≤ 8 * c ∧ 0 ≤ turned ∧ turned ≤ 8 * c - 1 ∧ 0 ≤ poker ∧ poker ≤ 4 * c * c ∧ 0 ≤ far ∧ far ≤ c * c) := ⟨fun _ => by omega, fun _ => rfl⟩
        have HD : Hid (Is true (¬ (1 ≤ run ∧ run ≤ c ∧ 1 ≤ most ∧ most ≤ min c 512 ∧ 0 ≤ ones ∧ ones ≤ 8 * c ∧ 0 ≤ turned ∧ turned ≤ 8 * c - 1 ∧ 0 ≤ poker ∧ poker ≤ 4 * c * c ∧ 0 ≤ far ∧ far ≤ c * c))) := hd
        clear hd q1 q2 q3 q4 q5 q6 q7 q8 q9 q10 q11
        go_wp2
        go_meet
        exact ⟨⟨_, rfl, HD⟩, rfl⟩
      have d_q11 : decide (far < 0) = false := by simp; omega
      by_cases q12 : far ≤ c * c
      case neg =>
        have d_q12 : decide (c * c < far) = true := by simp; omega
        have hd : true = true ↔ ¬ (1 ≤ run ∧ run ≤ c ∧ 1 ≤ most ∧ most ≤ min c 512 ∧ 0 ≤ ones ∧ ones ≤ 8 * c ∧ 0 ≤ turned ∧ turned ≤ 8 * c - 1 ∧ 0 ≤ poker ∧ poker ≤ 4 * c * c ∧ 0 ≤ far ∧ far ≤ c * c) := ⟨fun _ => by omega, fun _ => rfl⟩
        have HD : Hid (Is true (¬ (1 ≤ run ∧ run ≤ c ∧ 1 ≤ most ∧ most ≤ min c 512 ∧ 0 ≤ ones ∧ ones ≤ 8 * c ∧ 0 ≤ turned ∧ turned ≤ 8 * c - 1 ∧ 0 ≤ poker ∧ poker ≤ 4 * c * c ∧ 0 ≤ far ∧ far ≤ c * c))) := hd
        clear hd q1 q2 q3 q4 q5 q6 q7 q8 q9 q10 q11 q12
        go_wp2
        go_meet
        exact ⟨⟨_, rfl, HD⟩, rfl⟩
      have d_q12 : decide (c * c < far) = false := by simp; omega
      have hd : false = true ↔ ¬ (1 ≤ run ∧ run ≤ c ∧ 1 ≤ most ∧ most ≤ min c 512 ∧ 0 ≤ ones ∧ ones ≤ 8 * c ∧ 0 ≤ turned ∧ turned ≤ 8 * c - 1 ∧ 0 ≤ poker ∧ poker ≤ 4 * c * c ∧ 0 ≤ far ∧ far ≤ c * c) := ⟨fun h => Bool.noConfusion h, fun h => absurd (by omega) h⟩
      have HD : Hid (Is false (¬ (1 ≤ run ∧ run ≤ c ∧ 1 ≤ most ∧ most ≤ min c 512 ∧ 0 ≤ ones ∧ ones ≤ 8 * c ∧ 0 ≤ turned ∧ turned ≤ 8 * c - 1 ∧ 0 ≤ poker ∧ poker ≤ 4 * c * c ∧ 0 ≤ far ∧ far ≤ c * c))) := hd
      clear hd q1 q2 q3 q4 q5 q6 q7 q8 q9 q10 q11 q12
      go_wp2
      go_meet
      exact ⟨⟨_, rfl, HD⟩, rfl⟩
    by_cases q1 : 1 ≤ run
    case neg =>
      have d_q1 : decide (run < 1) = true := by simp; omega
      have hd : true = true ↔ ¬ (1 ≤ run ∧ run ≤ c ∧ 1 ≤ most ∧ most ≤ min c 512 ∧ 0 ≤ ones ∧ ones ≤ 8 * c ∧ 0 ≤ turned ∧ turned ≤ 8 * c - 1 ∧ 0 ≤ poker ∧ poker ≤ 4 * c * c ∧ 0 ≤ far ∧ far ≤ c * c) := ⟨fun _ => by omega, fun _ => rfl⟩
      have HD : Hid (Is true (¬ (1 ≤ run ∧ run ≤ c ∧ 1 ≤ most ∧ most ≤ min c 512 ∧ 0 ≤ ones ∧ ones ≤ 8 * c ∧ 0 ≤ turned ∧ turned ≤ 8 * c - 1 ∧ 0 ≤ poker ∧ poker ≤ 4 * c * c ∧ 0 ≤ far ∧ far ≤ c * c))) := hd
      clear hd q1
      go_wp2
      go_meet
      exact ⟨⟨_, rfl, HD⟩, rfl⟩
    have d_q1 : decide (run < 1) = false := by simp; omega
    by_cases q2 : run ≤ c
    case neg =>
      have d_q2 : decide (c < run) = true := by simp; omega
      have hd : true = true ↔ ¬ (1 ≤ run ∧ run ≤ c ∧ 1 ≤ most ∧ most ≤ min c 512 ∧ 0 ≤ ones ∧ ones ≤ 8 * c ∧ 0 ≤ turned ∧ turned ≤ 8 * c - 1 ∧ 0 ≤ poker ∧ poker ≤ 4 * c * c ∧ 0 ≤ far ∧ far ≤ c * c) := ⟨fun _ => by omega, fun _ => rfl⟩
      have HD : Hid (Is true (¬ (1 ≤ run ∧ run ≤ c ∧ 1 ≤ most ∧ most ≤ min c 512 ∧ 0 ≤ ones ∧ ones ≤ 8 * c ∧ 0 ≤ turned ∧ turned ≤ 8 * c - 1 ∧ 0 ≤ poker ∧ poker ≤ 4 * c * c ∧ 0 ≤ far ∧ far ≤ c * c))) := hd
      clear hd q1 q2
      go_wp2
      go_meet
      exact ⟨⟨_, rfl, HD⟩, rfl⟩
    have d_q2 : decide (c < run) = false := by simp; omega
    by_cases q3 : 1 ≤ most
    case neg =>
      have d_q3 : decide (most < 1) = true := by simp; omega
      have hd : true = true ↔ ¬ (1 ≤ run ∧ run ≤ c ∧ 1 ≤ most ∧ most ≤ min c 512 ∧ 0 ≤ ones ∧ ones ≤ 8 * c ∧ 0 ≤ turned ∧ turned ≤ 8 * c - 1 ∧ 0 ≤ poker ∧ poker ≤ 4 * c * c ∧ 0 ≤ far ∧ far ≤ c * c) := ⟨fun _ => by omega, fun _ => rfl⟩
      have HD : Hid (Is true (¬ (1 ≤ run ∧ run ≤ c ∧ 1 ≤ most ∧ most ≤ min c 512 ∧ 0 ≤ ones ∧ ones ≤ 8 * c ∧ 0 ≤ turned ∧ turned ≤ 8 * c - 1 ∧ 0 ≤ poker ∧ poker ≤ 4 * c * c ∧ 0 ≤ far ∧ far ≤ c * c))) := hd
      clear hd q1 q2 q3
      go_wp2
      go_meet
      exact ⟨⟨_, rfl, HD⟩, rfl⟩
    have d_q3 : decide (most < 1) = false := by simp; omega
    by_cases q4 : most ≤ c
    case neg =>
      have d_q4 : decide (c < most) = true := by simp; omega
      have hd : true = true ↔ ¬ (1 ≤ run ∧ run ≤ c ∧ 1 ≤ most ∧ most ≤ min c 512 ∧ 0 ≤ ones ∧ ones ≤ 8 * c ∧ 0 ≤ turned ∧ turned ≤ 8 * c - 1 ∧ 0 ≤ poker ∧ poker ≤ 4 * c * c ∧ 0 ≤ far ∧ far ≤ c * c) := ⟨fun _ => by omega, fun _ => rfl⟩
      have HD : Hid (Is true (¬ (1 ≤ run ∧ run ≤ c ∧ 1 ≤ most ∧ most ≤ min c 512 ∧ 0 ≤ ones ∧ ones ≤ 8 * c ∧ 0 ≤ turned ∧ turned ≤ 8 * c - 1 ∧ 0 ≤ poker ∧ poker ≤ 4 * c * c ∧ 0 ≤ far ∧ far ≤ c * c))) := hd
      clear hd q1 q2 q3 q4
      go_wp2
      go_meet
      exact ⟨⟨_, rfl, HD⟩, rfl⟩
    have d_q4 : decide (c < most) = false := by simp; omega
    by_cases q5 : 0 ≤ ones
    case neg =>
      have d_q5 : decide (ones < 0) = true := by simp; omega
      have hd : true = true ↔ ¬ (1 ≤ run ∧ run ≤ c ∧ 1 ≤ most ∧ most ≤ min c 512 ∧ 0 ≤ ones ∧ ones ≤ 8 * c ∧ 0 ≤ turned ∧ turned ≤ 8 * c - 1 ∧ 0 ≤ poker ∧ poker ≤ 4 * c * c ∧ 0 ≤ far ∧ far ≤ c * c) := ⟨fun _ => by omega, fun _ => rfl⟩
      have HD : Hid (Is true (¬ (1 ≤ run ∧ run ≤ c ∧ 1 ≤ most ∧ most ≤ min c 512 ∧ 0 ≤ ones ∧ ones ≤ 8 * c ∧ 0 ≤ turned ∧ turned ≤ 8 * c - 1 ∧ 0 ≤ poker ∧ poker ≤ 4 * c * c ∧ 0 ≤ far ∧ far ≤ c * c))) := hd
      clear hd q1 q2 q3 q4 q5
      go_wp2
      go_meet
      exact ⟨⟨_, rfl, HD⟩, rfl⟩
    have d_q5 : decide (ones < 0) = false := by simp; omega
    by_cases q6 : ones ≤ 8 * c
    case neg =>
      have d_q6 : decide (8 * c < ones) = true := by simp; omega
      have hd : true = true ↔ ¬ (1 ≤ run ∧ run ≤ c ∧ 1 ≤ most ∧ most ≤ min c 512 ∧ 0 ≤ ones ∧ ones ≤ 8 * c ∧ 0 ≤ turned ∧ turned ≤ 8 * c - 1 ∧ 0 ≤ poker ∧ poker ≤ 4 * c * c ∧ 0 ≤ far ∧ far ≤ c * c) := ⟨fun _ => by omega, fun _ => rfl⟩
      have HD : Hid (Is true (¬ (1 ≤ run ∧ run ≤ c ∧ 1 ≤ most ∧ most ≤ min c 512 ∧ 0 ≤ ones ∧ ones ≤ 8 * c ∧ 0 ≤ turned ∧ turned ≤ 8 * c - 1 ∧ 0 ≤ poker ∧ poker ≤ 4 * c * c ∧ 0 ≤ far ∧ far ≤ c * c))) := hd
      clear hd q1 q2 q3 q4 q5 q6
      go_wp2
      go_meet
      exact ⟨⟨_, rfl, HD⟩, rfl⟩
    have d_q6 : decide (8 * c < ones) = false := by simp; omega
    by_cases q7 : 0 ≤ turned
    case neg =>
      have d_q7 : decide (turned < 0) = true := by simp; omega
      have hd : true = true ↔ ¬ (1 ≤ run ∧ run ≤ c ∧ 1 ≤ most ∧ most ≤ min c 512 ∧ 0 ≤ ones ∧ ones ≤ 8 * c ∧ 0 ≤ turned ∧ turned ≤ 8 * c - 1 ∧ 0 ≤ poker ∧ poker ≤ 4 * c * c ∧ 0 ≤ far ∧ far ≤ c * c) := ⟨fun _ => by omega, fun _ => rfl⟩
      have HD : Hid (Is true (¬ (1 ≤ run ∧ run ≤ c ∧ 1 ≤ most ∧ most ≤ min c 512 ∧ 0 ≤ ones ∧ ones ≤ 8 * c ∧ 0 ≤ turned ∧ turned ≤ 8 * c - 1 ∧ 0 ≤ poker ∧ poker ≤ 4 * c * c ∧ 0 ≤ far ∧ far ≤ c * c))) := hd
      clear hd q1 q2 q3 q4 q5 q6 q7
      go_wp2
      go_meet
      exact ⟨⟨_, rfl, HD⟩, rfl⟩
    have d_q7 : decide (turned < 0) = false := by simp; omega
    by_cases q8 : turned ≤ 8 * c - 1
    case neg =>
      have d_q8 : decide (8 * c - 1 < turned) = true := by simp; omega
      have hd : true = true ↔ ¬ (1 ≤ run ∧ run ≤ c ∧ 1 ≤ most ∧ most ≤ min c 512 ∧ 0 ≤ ones ∧ ones ≤ 8 * c ∧ 0 ≤ turned ∧ turned ≤ 8 * c - 1 ∧ 0 ≤ poker ∧ poker ≤ 4 * c * c ∧ 0 ≤ far ∧ far ≤ c * c) := ⟨fun _ => by omega, fun _ => rfl⟩
      have HD : Hid (Is true (¬ (1 ≤ run ∧ run ≤ c ∧ 1 ≤ most ∧ most ≤ min c 512 ∧ 0 ≤ ones ∧ ones ≤ 8 * c ∧ 0 ≤ turned ∧ turned ≤ 8 * c - 1 ∧ 0 ≤ poker ∧ poker ≤ 4 * c * c ∧ 0 ≤ far ∧ far ≤ c * c))) := hd
      clear hd q1 q2 q3 q4 q5 q6 q7 q8
      go_wp2
      go_meet
      exact ⟨⟨_, rfl, HD⟩, rfl⟩
    have d_q8 : decide (8 * c - 1 < turned) = false := by simp; omega
    by_cases q9 : 0 ≤ poker
    case neg =>
      have d_q9 : decide (poker < 0) = true := by simp; omega
      have hd : true = true ↔ ¬ (1 ≤ run ∧ run ≤ c ∧ 1 ≤ most ∧ most ≤ min c 512 ∧ 0 ≤ ones ∧ ones ≤ 8 * c ∧ 0 ≤ turned ∧ turned ≤ 8 * c - 1 ∧ 0 ≤ poker ∧ poker ≤ 4 * c * c ∧ 0 ≤ far ∧ far ≤ c * c) := ⟨fun _ => by omega, fun _ => rfl⟩
      have HD : Hid (Is true (¬ (1 ≤ run ∧ run ≤ c ∧ 1 ≤ most ∧ most ≤ min c 512 ∧ 0 ≤ ones ∧ ones ≤ 8 * c ∧ 0 ≤ turned ∧ turned ≤ 8 * c - 1 ∧ 0 ≤ poker ∧ poker ≤ 4 * c * c ∧ 0 ≤ far ∧ far ≤ c * c))) := hd
      clear hd q1 q2 q3 q4 q5 q6 q7 q8 q9
      go_wp2
      go_meet
      exact ⟨⟨_, rfl, HD⟩, rfl⟩
    have d_q9 : decide (poker < 0) = false := by simp; omega
    by_cases q10 : poker ≤ 4 * c * c
    case neg =>
      have d_q10 : decide (4 * c * c < poker) = true := by simp; omega
      have hd : true = true ↔ ¬ (1 ≤ run ∧ run ≤ c ∧ 1 ≤ most ∧ most ≤ min c 512 ∧ 0 ≤ ones ∧ ones ≤ 8 * c ∧ 0 ≤ turned ∧ turned ≤ 8 * c - 1 ∧ 0 ≤ poker ∧ poker ≤ 4 * c * c ∧ 0 ≤ far ∧ far ≤ c * c) := ⟨fun _ => by omega, fun _ => rfl⟩
      have HD : Hid (Is true (¬ (1 ≤ run ∧ run ≤ c ∧ 1 ≤ most ∧ most ≤ min c 512 ∧ 0 ≤ ones ∧ ones ≤ 8 * c ∧ 0 ≤ turned ∧ turned ≤ 8 * c - 1 ∧ 0 ≤ poker ∧ poker ≤ 4 * c * c ∧ 0 ≤ far ∧ far ≤ c * c))) := hd
      clear hd q1 q2 q3 q4 q5 q6 q7 q8 q9 q10
      go_wp2
      go_meet
      exact ⟨⟨_, rfl, HD⟩, rfl⟩
    have d_q10 : decide (4 * c * c < poker) = false := by simp; omega
    by_cases q11 : 0 ≤ far
    case neg =>
      have d_q11 : decide (far < 0) = true := by simp; omega
      have hd : true = true ↔ ¬ (1 ≤ run ∧ run ≤ c ∧ 1 ≤ most ∧ most ≤ min c 512 ∧ 0 ≤ ones ∧ ones ≤ 8 * c ∧ 0 ≤ turned ∧ turned ≤ 8 * c - 1 ∧ 0 ≤ poker ∧ poker ≤ 4 * c * c ∧ 0 ≤ far ∧ far ≤ c * c) := ⟨fun _ => by omega, fun _ => rfl⟩
      have HD : Hid (Is true (¬ (1 ≤ run ∧ run ≤ c ∧ 1 ≤ most ∧ most ≤ min c 512 ∧ 0 ≤ ones ∧ ones ≤ 8 * c ∧ 0 ≤ turned ∧ turned ≤ 8 * c - 1 ∧ 0 ≤ poker ∧ poker ≤ 4 * c * c ∧ 0 ≤ far ∧ far ≤ c * c))) := hd
      clear hd q1 q2 q3 q4 q5 q6 q7 q8 q9 q10 q11
      go_wp2
      go_meet
      exact ⟨⟨_, rfl, HD⟩, rfl⟩
    have d_q11 : decide (far < 0) = false := by simp; omega
    by_cases q12 : far ≤ c * c
    case neg =>
      have d_q12 : decide (c * c < far) = true := by simp; omega
      have hd : true = true ↔ ¬ (1 ≤ run ∧ run ≤ c ∧ 1 ≤ most ∧ most ≤ min c 512 ∧ 0 ≤ ones ∧ ones ≤ 8 * c ∧ 0 ≤ turned ∧ turned ≤ 8 * c - 1 ∧ 0 ≤ poker ∧ poker ≤ 4 * c * c ∧ 0 ≤ far ∧ far ≤ c * c) := ⟨fun _ => by omega, fun _ => rfl⟩
      have HD : Hid (Is true (¬ (1 ≤ run ∧ run ≤ c ∧ 1 ≤ most ∧ most ≤ min c 512 ∧ 0 ≤ ones ∧ ones ≤ 8 * c ∧ 0 ≤ turned ∧ turned ≤ 8 * c - 1 ∧ 0 ≤ poker ∧ poker ≤ 4 * c * c ∧ 0 ≤ far ∧ far ≤ c * c))) := hd
      clear hd q1 q2 q3 q4 q5 q6 q7 q8 q9 q10 q11 q12
      go_wp2
      go_meet
      exact ⟨⟨_, rfl, HD⟩, rfl⟩
    have d_q12 : decide (c * c < far) = false := by simp; omega
    have hd : false = true ↔ ¬ (1 ≤ run ∧ run ≤ c ∧ 1 ≤ most ∧ most ≤ min c 512 ∧ 0 ≤ ones ∧ ones ≤ 8 * c ∧ 0 ≤ turned ∧ turned ≤ 8 * c - 1 ∧ 0 ≤ poker ∧ poker ≤ 4 * c * c ∧ 0 ≤ far ∧ far ≤ c * c) := ⟨fun h => Bool.noConfusion h, fun h => absurd (by omega) h⟩
    have HD : Hid (Is false (¬ (1 ≤ run ∧ run ≤ c ∧ 1 ≤ most ∧ most ≤ min c 512 ∧ 0 ≤ ones ∧ ones ≤ 8 * c ∧ 0 ≤ turned ∧ turned ≤ 8 * c - 1 ∧ 0 ≤ poker ∧ poker ≤ 4 * c * c ∧ 0 ≤ far ∧ far ≤ c * c))) := hd
    clear hd q1 q2 q3 q4 q5 q6 q7 q8 q9 q10 q11 q12
    go_wp2
    go_meet
    exact ⟨⟨_, rfl, HD⟩, rfl⟩
  case rest =>
  obtain ⟨⟨d, rfl, HD⟩, hwc⟩ := hcut
  obtain rfl := hwc.symm
  clear hwc
  cases d
  case true =>
    obtain rfl : r = 2 := by
      rw [HR0.out]
      refine jv2 _ _ _ _ _ _ _ _ _ _ _ _ _ _ _ fun h => ?_
      have h2 := HD.out.1 rfl
      unfold MayP at h
      exact h2 ⟨h.2.2.2.2.2.2.2.2.2.2.2.2.2.2.2.2.2.2.1, h.2.2.2.2.2.2.2.2.2.2.2.2.2.2.2.2.2.2.2.1, h.2.2.2.2.2.2.2.2.2.2.2.2.2.2.2.2.2.2.2.2.1, h.2.2.2.2.2.2.2.2.2.2.2.2.2.2.2.2.2.2.2.2.2.1, h.2.2.2.2.2.2.2.2.2.2.2.2.2.2.2.2.2.2.2.2.2.2.1, h.2.2.2.2.2.2.2.2.2.2.2.2.2.2.2.2.2.2.2.2.2.2.2.1, h.2.2.2.2.2.2.2.2.2.2.2.2.2.2.2.2.2.2.2.2.2.2.2.2.1, h.2.2.2.2.2.2.2.2.2.2.2.2.2.2.2.2.2.2.2.2.2.2.2.2.2.1, h.2.2.2.2.2.2.2.2.2.2.2.2.2.2.2.2.2.2.2.2.2.2.2.2.2.2.1, h.2.2.2.2.2.2.2.2.2.2.2.2.2.2.2.2.2.2.2.2.2.2.2.2.2.2.2.1, h.2.2.2.2.2.2.2.2.2.2.2.2.2.2.2.2.2.2.2.2.2.2.2.2.2.2.2.2.1, h.2.2.2.2.2.2.2.2.2.2.2.2.2.2.2.2.2.2.2.2.2.2.2.2.2.2.2.2.2⟩
    go_wp2
    go_ret
    exact ⟨rfl, HB.out.1⟩
  have HE : Hid (1 ≤ run ∧ run ≤ c ∧ 1 ≤ most ∧ most ≤ min c 512 ∧ 0 ≤ ones ∧ ones ≤ 8 * c ∧ 0 ≤ turned ∧ turned ≤ 8 * c - 1 ∧ 0 ≤ poker ∧ poker ≤ 4 * c * c ∧ 0 ≤ far ∧ far ≤ c * c) := by
    have hd := HD.out
    show 1 ≤ run ∧ run ≤ c ∧ 1 ≤ most ∧ most ≤ min c 512 ∧ 0 ≤ ones ∧ ones ≤ 8 * c ∧ 0 ≤ turned ∧ turned ≤ 8 * c - 1 ∧ 0 ≤ poker ∧ poker ≤ 4 * c * c ∧ 0 ≤ far ∧ far ≤ c * c
    by_cases hx : 1 ≤ run ∧ run ≤ c ∧ 1 ≤ most ∧ most ≤ min c 512 ∧ 0 ≤ ones ∧ ones ≤ 8 * c ∧ 0 ≤ turned ∧ turned ≤ 8 * c - 1 ∧ 0 ≤ poker ∧ poker ≤ 4 * c * c ∧ 0 ≤ far ∧ far ≤ c * c
    · exact hx
    · exact absurd (hd.2 hx) (by simp)
  clear HD
  go_wp2
  go_loopw [4] (fun i wr => ∃ k : Nat, k ≤ 4 ∧ i = .int .i64 (k : Nat) ∧ Hid (Below (w.heap.size + 1) wa wr ∧ wa.heap.size ≤ wr.heap.size ∧ (0 < k → -c ≤ e0 ∧ e0 ≤ c ∧ -c ≤ e1 ∧ e1 ≤ c) ∧ (1 < k → -c ≤ e2 ∧ e2 ≤ c ∧ -c ≤ e3 ∧ e3 ≤ c) ∧ (2 < k → -c ≤ e4 ∧ e4 ≤ c ∧ -c ≤ e5 ∧ e5 ≤ c) ∧ (3 < k → -c ≤ e6 ∧ e6 ≤ c ∧ -c ≤ e7 ∧ e7 ≤ c))) (fun i _ => 4 - (intOf i).toNat)
  case atStart => exact ⟨0, by omega, rfl, Below.refl _ _, Nat.le_refl _, by omega, by omega, by omega, by omega⟩
  case round =>
    obtain ⟨k, hk, rfl, HR⟩ := hrel
    have hcell := HC.out wr HR.out.1
    obtain ⟨k0, k1, k2, k3, k4, k5, k6, k7, k8, k9, k10, k11, k12, k13, k14⟩ := hcell
    obtain rfl | rfl | rfl | rfl | rfl : k = 0 ∨ k = 1 ∨ k = 2 ∨ k = 3 ∨ k = 4 := by omega
    · by_cases q1 : -c ≤ e0
      case neg =>
        have d_q1 : decide (e0 < -c) = true := by simp; omega
        obtain rfl : r = 2 := by rw [HR0.out]; exact jv2 _ _ _ _ _ _ _ _ _ _ _ _ _ _ _ (by unfold MayP; omega)
        clear q1
        go_wp2
        go_ret
        exact ⟨rfl, HB.out.1.trans (HR.out.1.mono (by omega))⟩
      have d_q1 : decide (e0 < -c) = false := by simp; omega
      by_cases q2 : e0 ≤ c
      case neg =>
        have d_q2 : decide (c < e0) = true := by simp; omega
        obtain rfl : r = 2 := by rw [HR0.out]; exact jv2 _ _ _ _ _ _ _ _ _ _ _ _ _ _ _ (by unfold MayP; omega)
        clear q1 q2
        go_wp2
        go_ret
        exact ⟨rfl, HB.out.1.trans (HR.out.1.mono (by omega))⟩
      have d_q2 : decide (c < e0) = false := by simp; omega
      by_cases q3 : -c ≤ e1
      case neg =>
        have d_q3 : decide (e1 < -c) = true := by simp; omega
        obtain rfl : r = 2 := by rw [HR0.out]; exact jv2 _ _ _ _ _ _ _ _ _ _ _ _ _ _ _ (by unfold MayP; omega)
        clear q1 q2 q3
        go_wp2
        go_ret
        exact ⟨rfl, HB.out.1.trans (HR.out.1.mono (by omega))⟩
      have d_q3 : decide (e1 < -c) = false := by simp; omega
      by_cases q4 : e1 ≤ c
      case neg =>
        have d_q4 : decide (c < e1) = true := by simp; omega
        obtain rfl : r = 2 := by rw [HR0.out]; exact jv2 _ _ _ _ _ _ _ _ _ _ _ _ _ _ _ (by unfold MayP; omega)
        clear q1 q2 q3 q4
        go_wp2
        go_ret
        exact ⟨rfl, HB.out.1.trans (HR.out.1.mono (by omega))⟩
      have d_q4 : decide (c < e1) = false := by simp; omega
      have HQ : Hid (-c ≤ e0 ∧ e0 ≤ c ∧ -c ≤ e1 ∧ e1 ≤ c) := ⟨q1, q2, q3, q4⟩
      clear q1 q2 q3 q4
      go_wp2
      refine ⟨⟨1, by omega, rfl, HR.out.1, HR.out.2.1, (fun _ => HQ.out), (by omega), (by omega), (by omega)⟩, by simp only [intOf]; omega⟩
    · by_cases q1 : -c ≤ e2
      case neg =>
        have d_q1 : decide (e2 < -c) = true := by simp; omega
        obtain rfl : r = 2 := by rw [HR0.out]; exact jv2 _ _ _ _ _ _ _ _ _ _ _ _ _ _ _ (by unfold MayP; omega)
        clear q1
        go_wp2
        go_ret
        exact ⟨rfl, HB.out.1.trans (HR.out.1.mono (by omega))⟩
      have d_q1 : decide (e2 < -c) = false := by simp; omega
      by_cases q2 : e2 ≤ c
      case neg =>
        have d_q2 : decide (c < e2) = true := by simp; omega
        obtain rfl : r = 2 := by rw [HR0.out]; exact jv2 _ _ _ _ _ _ _ _ _ _ _ _ _ _ _ (by unfold MayP; omega)
        clear q1 q2
        go_wp2
        go_ret
        exact ⟨rfl, HB.out.1.trans (HR.out.1.mono (by omega))⟩
      have d_q2 : decide (c < e2) = false := by simp; omega
      by_cases q3 : -c ≤ e3
      case neg =>
        have d_q3 : decide (e3 < -c) = true := by simp; omega
        obtain rfl : r = 2 := by rw [HR0.out]; exact jv2 _ _ _ _ _ _ _ _ _ _ _ _ _ _ _ (by unfold MayP; omega)
        clear q1 q2 q3
        go_wp2
        go_ret
        exact ⟨rfl, HB.out.1.trans (HR.out.1.mono (by omega))⟩
      have d_q3 : decide (e3 < -c) = false := by simp; omega
      by_cases q4 : e3 ≤ c
      case neg =>
        have d_q4 : decide (c < e3) = true := by simp; omega
        obtain rfl : r = 2 := by rw [HR0.out]; exact jv2 _ _ _ _ _ _ _ _ _ _ _ _ _ _ _ (by unfold MayP; omega)
        clear q1 q2 q3 q4
        go_wp2
        go_ret
        exact ⟨rfl, HB.out.1.trans (HR.out.1.mono (by omega))⟩
      have d_q4 : decide (c < e3) = false := by simp; omega
      have HQ : Hid (-c ≤ e2 ∧ e2 ≤ c ∧ -c ≤ e3 ∧ e3 ≤ c) := ⟨q1, q2, q3, q4⟩
      clear q1 q2 q3 q4
      go_wp2
      refine ⟨⟨2, by omega, rfl, HR.out.1, HR.out.2.1, (fun _ => HR.out.2.2.1 (by omega)), (fun _ => HQ.out), (by omega), (by omega)⟩, by simp only [intOf]; omega⟩
    · by_cases q1 : -c ≤ e4
      case neg =>
        have d_q1 : decide (e4 < -c) = true := by simp; omega
        obtain rfl : r = 2 := by rw [HR0.out]; exact jv2 _ _ _ _ _ _ _ _ _ _ _ _ _ _ _ (by unfold MayP; omega)
        clear q1
        go_wp2
        go_ret
        exact ⟨rfl, HB.out.1.trans (HR.out.1.mono (by omega))⟩
      have d_q1 : decide (e4 < -c) = false := by simp; omega
      by_cases q2 : e4 ≤ c
      case neg =>
        have d_q2 : decide (c < e4) = true := by simp; omega
        obtain rfl : r = 2 := by rw [HR0.out]; exact jv2 _ _ _ _ _ _ _ _ _ _ _ _ _ _ _ (by unfold MayP; omega)
        clear q1 q2
        go_wp2
        go_ret
        exact ⟨rfl, HB.out.1.trans (HR.out.1.mono (by omega))⟩
      have d_q2 : decide (c < e4) = false := by simp; omega
      by_cases q3 : -c ≤ e5
      case neg =>
        have d_q3 : decide (e5 < -c) = true := by simp; omega
        obtain rfl : r = 2 := by rw [HR0.out]; exact jv2 _ _ _ _ _ _ _ _ _ _ _ _ _ _ _ (by unfold MayP; omega)
        clear q1 q2 q3
        go_wp2
        go_ret
        exact ⟨rfl, HB.out.1.trans (HR.out.1.mono (by omega))⟩
      have d_q3 : decide (e5 < -c) = false := by simp; omega
      by_cases q4 : e5 ≤ c
      case neg =>
        have d_q4 : decide (c < e5) = true := by simp; omega
        obtain rfl : r = 2 := by rw [HR0.out]; exact jv2 _ _ _ _ _ _ _ _ _ _ _ _ _ _ _ (by unfold MayP; omega)
        clear q1 q2 q3 q4
        go_wp2
        go_ret
        exact ⟨rfl, HB.out.1.trans (HR.out.1.mono (by omega))⟩
      have d_q4 : decide (c < e5) = false := by simp; omega
      have HQ : Hid (-c ≤ e4 ∧ e4 ≤ c ∧ -c ≤ e5 ∧ e5 ≤ c) := ⟨q1, q2, q3, q4⟩
      clear q1 q2 q3 q4
      go_wp2
      refine ⟨⟨3, by omega, rfl, HR.out.1, HR.out.2.1, (fun _ => HR.out.2.2.1 (by omega)), (fun _ => HR.out.2.2.2.1 (by omega)), (fun _ => HQ.out), (by omega)⟩, by simp only [intOf]; omega⟩
    · by_cases q1 : -c ≤ e6
      case neg =>
        have d_q1 : decide (e6 < -c) = true := by simp; omega
        obtain rfl : r = 2 := by rw [HR0.out]; exact jv2 _ _ _ _ _ _ _ _ _ _ _ _ _ _ _ (by unfold MayP; omega)
        clear q1
        go_wp2
        go_ret
        exact ⟨rfl, HB.out.1.trans (HR.out.1.mono (by omega))⟩
      have d_q1 : decide (e6 < -c) = false := by simp; omega
      by_cases q2 : e6 ≤ c
      case neg =>
        have d_q2 : decide (c < e6) = true := by simp; omega
        obtain rfl : r = 2 := by rw [HR0.out]; exact jv2 _ _ _ _ _ _ _ _ _ _ _ _ _ _ _ (by unfold MayP; omega)
        clear q1 q2
        go_wp2
        go_ret
        exact ⟨rfl, HB.out.1.trans (HR.out.1.mono (by omega))⟩
      have d_q2 : decide (c < e6) = false := by simp; omega
      by_cases q3 : -c ≤ e7
      case neg =>
        have d_q3 : decide (e7 < -c) = true := by simp; omega
        obtain rfl : r = 2 := by rw [HR0.out]; exact jv2 _ _ _ _ _ _ _ _ _ _ _ _ _ _ _ (by unfold MayP; omega)
        clear q1 q2 q3
        go_wp2
        go_ret
        exact ⟨rfl, HB.out.1.trans (HR.out.1.mono (by omega))⟩
      have d_q3 : decide (e7 < -c) = false := by simp; omega
      by_cases q4 : e7 ≤ c
      case neg =>
        have d_q4 : decide (c < e7) = true := by simp; omega
        obtain rfl : r = 2 := by rw [HR0.out]; exact jv2 _ _ _ _ _ _ _ _ _ _ _ _ _ _ _ (by unfold MayP; omega)
        clear q1 q2 q3 q4
        go_wp2
        go_ret
        exact ⟨rfl, HB.out.1.trans (HR.out.1.mono (by omega))⟩
      have d_q4 : decide (c < e7) = false := by simp; omega
      have HQ : Hid (-c ≤ e6 ∧ e6 ≤ c ∧ -c ≤ e7 ∧ e7 ≤ c) := ⟨q1, q2, q3, q4⟩
      clear q1 q2 q3 q4
      go_wp2
      refine ⟨⟨4, by omega, rfl, HR.out.1, HR.out.2.1, (fun _ => HR.out.2.2.1 (by omega)), (fun _ => HR.out.2.2.2.1 (by omega)), (fun _ => HR.out.2.2.2.2.1 (by omega)), (fun _ => HQ.out)⟩, by simp only [intOf]; omega⟩
    · have hM : MayP c run most ones e0 e1 e2 e3 e4 e5 e6 e7 far poker turned := by
        obtain ⟨g1, g2, g3, g4, g5, g6⟩ := HR.out
        have g3 := g3 (by omega)
        have g4 := g4 (by omega)
        have g5 := g5 (by omega)
        have g6 := g6 (by omega)
        have ha := HA.out
        have hb := HE.out
        unfold MayP
        omega
      obtain ⟨f0, f1, f2, f3, f4, f5, f6, f7, f8, f9, f10, f11, f12, f13, f14, f15, f16, f17, f18, f19, f20, f21, f22, f23, f24, f25, f26, f27, f28⟩ := fits _ _ _ _ _ _ _ _ _ _ _ _ _ _ _ hM
      have HM : Hid (MayP c run most ones e0 e1 e2 e3 e4 e5 e6 e7 far poker turned) := hM
      clear hM w2 w3 w4 w5
      have hW : Below w.heap.size w wr := HB.out.1.trans (HR.out.1.mono (by omega))
      have HS0 := HR.out.1
      have HS1 := HR.out.2.1
      clear HR
      go_upto_region 11 with fail
      go_cut [103] from 87 to 103 (fun b wx => (∃ d : Bool, b = .bool d ∧ Hid (Is d ((if c ≤ 65536 then (4 : Int) else 6) < run ∨ 20 < most))) ∧ wx = wr)
      case first =>
        by_cases q1 : 6 < run
        case pos =>
          have d_q1 : decide (6 < run) = true := by simpa using q1
          have hd : true = true ↔ ((if c ≤ 65536 then (4 : Int) else 6) < run ∨ 20 < most) := ⟨fun _ => by by_cases hz : c ≤ 65536 <;> simp only [hz, if_true, if_false] <;> omega, fun _ => rfl⟩
          have HD : Hid (Is true ((if c ≤ 65536 then (4 : Int) else 6) < run ∨ 20 < most)) := hd
          clear hd q1
          go_wp2
          go_meet
          exact ⟨⟨_, rfl, HD⟩, rfl⟩
        have d_q1 : decide (6 < run) = false := by simpa using q1
        by_cases hl : c ≤ 65536
        case pos =>
          have d_hl : decide (c ≤ 65536) = true := by simpa using hl
          by_cases q2 : 4 < run
          case pos =>
            have d_q2 : decide (4 < run) = true := by simpa using q2
            have hd : true = true ↔ ((if c ≤ 65536 then (4 : Int) else 6) < run ∨ 20 < most) := ⟨fun _ => by rw [if_pos hl]; omega, fun _ => rfl⟩
            have HD : Hid (Is true ((if c ≤ 65536 then (4 : Int) else 6) < run ∨ 20 < most)) := hd
            clear hd q1 q2 hl
            go_wp2
            go_meet
            exact ⟨⟨_, rfl, HD⟩, rfl⟩
          have d_q2 : decide (4 < run) = false := by simpa using q2
          by_cases q3 : 20 < most
          case pos =>
            have d_q3 : decide (20 < most) = true := by simpa using q3
            have hd : true = true ↔ ((if c ≤ 65536 then (4 : Int) else 6) < run ∨ 20 < most) := ⟨fun _ => by omega, fun _ => rfl⟩
            have HD : Hid (Is true ((if c ≤ 65536 then (4 : Int) else 6) < run ∨ 20 < most)) := hd
            clear hd q1 q2 q3 hl
            go_wp2
            go_meet
            exact ⟨⟨_, rfl, HD⟩, rfl⟩
          have d_q3 : decide (20 < most) = false := by simpa using q3
          have hd : false = true ↔ ((if c ≤ 65536 then (4 : Int) else 6) < run ∨ 20 < most) := ⟨fun h => Bool.noConfusion h, fun h => absurd h (by rw [if_pos hl]; omega)⟩
          have HD : Hid (Is false ((if c ≤ 65536 then (4 : Int) else 6) < run ∨ 20 < most)) := hd
          clear hd q1 q2 q3 hl
          go_wp2
          go_meet
          exact ⟨⟨_, rfl, HD⟩, rfl⟩
        have d_hl : decide (c ≤ 65536) = false := by simpa using hl
        by_cases q2 : 4 < run
        case pos =>
          have d_q2 : decide (4 < run) = true := by simpa using q2
          by_cases q3 : 20 < most
          case pos =>
            have d_q3 : decide (20 < most) = true := by simpa using q3
            have hd : true = true ↔ ((if c ≤ 65536 then (4 : Int) else 6) < run ∨ 20 < most) := ⟨fun _ => by omega, fun _ => rfl⟩
            have HD : Hid (Is true ((if c ≤ 65536 then (4 : Int) else 6) < run ∨ 20 < most)) := hd
            clear hd q1 q2 q3 hl
            go_wp2
            go_meet
            exact ⟨⟨_, rfl, HD⟩, rfl⟩
          have d_q3 : decide (20 < most) = false := by simpa using q3
          have hd : false = true ↔ ((if c ≤ 65536 then (4 : Int) else 6) < run ∨ 20 < most) := ⟨fun h => Bool.noConfusion h, fun h => absurd h (by rw [if_neg hl]; omega)⟩
          have HD : Hid (Is false ((if c ≤ 65536 then (4 : Int) else 6) < run ∨ 20 < most)) := hd
          clear hd q1 q2 q3 hl
          go_wp2
          go_meet
          exact ⟨⟨_, rfl, HD⟩, rfl⟩
        have d_q2 : decide (4 < run) = false := by simpa using q2
        by_cases q3 : 20 < most
        case pos =>
          have d_q3 : decide (20 < most) = true := by simpa using q3
          have hd : true = true ↔ ((if c ≤ 65536 then (4 : Int) else 6) < run ∨ 20 < most) := ⟨fun _ => by omega, fun _ => rfl⟩
          have HD : Hid (Is true ((if c ≤ 65536 then (4 : Int) else 6) < run ∨ 20 < most)) := hd
          clear hd q1 q2 q3 hl
          go_wp2
          go_meet
          exact ⟨⟨_, rfl, HD⟩, rfl⟩
        have d_q3 : decide (20 < most) = false := by simpa using q3
        have hd : false = true ↔ ((if c ≤ 65536 then (4 : Int) else 6) < run ∨ 20 < most) := ⟨fun h => Bool.noConfusion h, fun h => absurd h (by rw [if_neg hl]; omega)⟩
        have HD : Hid (Is false ((if c ≤ 65536 then (4 : Int) else 6) < run ∨ 20 < most)) := hd
        clear hd q1 q2 q3 hl
        go_wp2
        go_meet
        exact ⟨⟨_, rfl, HD⟩, rfl⟩
      case rest =>
      obtain ⟨⟨d, rfl, HD⟩, hwc⟩ := hcut
      obtain rfl := hwc.symm
      clear hwc
      cases d
      case true =>
        obtain rfl : r = 62 := by
          rw [HR0.out]
          refine jv62 _ _ _ _ _ _ _ _ _ _ _ _ _ _ _ HM.out ?_
          have h := HD.out.1 rfl
          unfold SickP
          rcases h with h | h
          · exact .inr (.inr (.inr (.inr (.inl h))))
          · exact .inr (.inr (.inr (.inr (.inr (.inl h)))))
        go_wp2
        go_ret
        exact ⟨rfl, hW⟩
      have HL : Hid (¬ ((if c ≤ 65536 then (4 : Int) else 6) < run ∨ 20 < most)) := by
        have hd := HD.out
        show ¬ ((if c ≤ 65536 then (4 : Int) else 6) < run ∨ 20 < most)
        exact fun h => absurd (hd.2 h) (by simp)
      clear HD
      go_upto_region 16 with fail
      go_cut [151] from 118 to 151 (fun b wx => (∃ d : Bool, b = .bool d ∧ Hid (Is d (288 * c < (2 * ones - 8 * c) * (2 * ones - 8 * c) ∨ 36 * (8 * c - 1) < (2 * turned - (8 * c - 1)) * (2 * turned - (8 * c - 1)) ∨ 200 * c < 16 * poker - 4 * c * c ∨ 64 * c < far))) ∧ wx = wr)
      case first =>
        by_cases q1 : 288 * c < (2 * ones - 8 * c) * (2 * ones - 8 * c)
        case pos =>
          have d_q1 : decide (288 * c < (2 * ones - 8 * c) * (2 * ones - 8 * c)) = true := by simpa using q1
          have hd : true = true ↔ (288 * c < (2 * ones - 8 * c) * (2 * ones - 8 * c) ∨ 36 * (8 * c - 1) < (2 * turned - (8 * c - 1)) * (2 * turned - (8 * c - 1)) ∨ 200 * c < 16 * poker - 4 * c * c ∨ 64 * c < far) := ⟨fun _ => by omega, fun _ => rfl⟩
          have HD : Hid (Is true (288 * c < (2 * ones - 8 * c) * (2 * ones - 8 * c) ∨ 36 * (8 * c - 1) < (2 * turned - (8 * c - 1)) * (2 * turned - (8 * c - 1)) ∨ 200 * c < 16 * poker - 4 * c * c ∨ 64 * c < far)) := hd
          clear hd q1
          go_wp2
          go_meet
          exact ⟨⟨_, rfl, HD⟩, rfl⟩
        have d_q1 : decide (288 * c < (2 * ones - 8 * c) * (2 * ones - 8 * c)) = false := by simpa using q1
        by_cases q2 : 36 * (8 * c - 1) < (2 * turned - (8 * c - 1)) * (2 * turned - (8 * c - 1))
        case pos =>
          have d_q2 : decide (36 * (8 * c - 1) < (2 * turned - (8 * c - 1)) * (2 * turned - (8 * c - 1))) = true := by simpa using q2
          have hd : true = true ↔ (288 * c < (2 * ones - 8 * c) * (2 * ones - 8 * c) ∨ 36 * (8 * c - 1) < (2 * turned - (8 * c - 1)) * (2 * turned - (8 * c - 1)) ∨ 200 * c < 16 * poker - 4 * c * c ∨ 64 * c < far) := ⟨fun _ => by omega, fun _ => rfl⟩
          have HD : Hid (Is true (288 * c < (2 * ones - 8 * c) * (2 * ones - 8 * c) ∨ 36 * (8 * c - 1) < (2 * turned - (8 * c - 1)) * (2 * turned - (8 * c - 1)) ∨ 200 * c < 16 * poker - 4 * c * c ∨ 64 * c < far)) := hd
          clear hd q1 q2
          go_wp2
          go_meet
          exact ⟨⟨_, rfl, HD⟩, rfl⟩
        have d_q2 : decide (36 * (8 * c - 1) < (2 * turned - (8 * c - 1)) * (2 * turned - (8 * c - 1))) = false := by simpa using q2
        by_cases q3 : 200 * c < 16 * poker - 4 * c * c
        case pos =>
          have d_q3 : decide (200 * c < 16 * poker - 4 * c * c) = true := by simpa using q3
          have hd : true = true ↔ (288 * c < (2 * ones - 8 * c) * (2 * ones - 8 * c) ∨ 36 * (8 * c - 1) < (2 * turned - (8 * c - 1)) * (2 * turned - (8 * c - 1)) ∨ 200 * c < 16 * poker - 4 * c * c ∨ 64 * c < far) := ⟨fun _ => by omega, fun _ => rfl⟩
          have HD : Hid (Is true (288 * c < (2 * ones - 8 * c) * (2 * ones - 8 * c) ∨ 36 * (8 * c - 1) < (2 * turned - (8 * c - 1)) * (2 * turned - (8 * c - 1)) ∨ 200 * c < 16 * poker - 4 * c * c ∨ 64 * c < far)) := hd
          clear hd q1 q2 q3
          go_wp2
          go_meet
          exact ⟨⟨_, rfl, HD⟩, rfl⟩
        have d_q3 : decide (200 * c < 16 * poker - 4 * c * c) = false := by simpa using q3
        by_cases q4 : 64 * c < far
        case pos =>
          have d_q4 : decide (64 * c < far) = true := by simpa using q4
          have hd : true = true ↔ (288 * c < (2 * ones - 8 * c) * (2 * ones - 8 * c) ∨ 36 * (8 * c - 1) < (2 * turned - (8 * c - 1)) * (2 * turned - (8 * c - 1)) ∨ 200 * c < 16 * poker - 4 * c * c ∨ 64 * c < far) := ⟨fun _ => by omega, fun _ => rfl⟩
          have HD : Hid (Is true (288 * c < (2 * ones - 8 * c) * (2 * ones - 8 * c) ∨ 36 * (8 * c - 1) < (2 * turned - (8 * c - 1)) * (2 * turned - (8 * c - 1)) ∨ 200 * c < 16 * poker - 4 * c * c ∨ 64 * c < far)) := hd
          clear hd q1 q2 q3 q4
          go_wp2
          go_meet
          exact ⟨⟨_, rfl, HD⟩, rfl⟩
        have d_q4 : decide (64 * c < far) = false := by simpa using q4
        have hd : false = true ↔ (288 * c < (2 * ones - 8 * c) * (2 * ones - 8 * c) ∨ 36 * (8 * c - 1) < (2 * turned - (8 * c - 1)) * (2 * turned - (8 * c - 1)) ∨ 200 * c < 16 * poker - 4 * c * c ∨ 64 * c < far) := ⟨fun h => Bool.noConfusion h, fun h => absurd h (by omega)⟩
        have HD : Hid (Is false (288 * c < (2 * ones - 8 * c) * (2 * ones - 8 * c) ∨ 36 * (8 * c - 1) < (2 * turned - (8 * c - 1)) * (2 * turned - (8 * c - 1)) ∨ 200 * c < 16 * poker - 4 * c * c ∨ 64 * c < far)) := hd
        clear hd q1 q2 q3 q4
        go_wp2
        go_meet
        exact ⟨⟨_, rfl, HD⟩, rfl⟩
      case rest =>
      obtain ⟨⟨d, rfl, HD⟩, hwc⟩ := hcut
      obtain rfl := hwc.symm
      clear hwc
      cases d
      case true =>
        obtain rfl : r = 62 := by
          rw [HR0.out]
          refine jv62 _ _ _ _ _ _ _ _ _ _ _ _ _ _ _ HM.out ?_
          have h := HD.out.1 rfl
          unfold SickP
          exact .inr (.inr (.inr (.inr (.inr (.inr h)))))
        go_wp2
        go_ret
        exact ⟨rfl, hW⟩
      have HQ : Hid (¬ (288 * c < (2 * ones - 8 * c) * (2 * ones - 8 * c) ∨ 36 * (8 * c - 1) < (2 * turned - (8 * c - 1)) * (2 * turned - (8 * c - 1)) ∨ 200 * c < 16 * poker - 4 * c * c ∨ 64 * c < far)) := by
        have hd := HD.out
        show ¬ (288 * c < (2 * ones - 8 * c) * (2 * ones - 8 * c) ∨ 36 * (8 * c - 1) < (2 * turned - (8 * c - 1)) * (2 * turned - (8 * c - 1)) ∨ 200 * c < 16 * poker - 4 * c * c ∨ 64 * c < far)
        exact fun h => absurd (hd.2 h) (by simp)
      clear HD
      go_wp2
      go_loopw [8, 9] (fun i s9 wr => ∃ k : Nat, k ≤ 4 ∧ i = .int .i64 (k : Nat) ∧ Hid (Below (w.heap.size + 1) wa wr ∧ wa.heap.size ≤ wr.heap.size ∧ (0 < k → ¬ 32 * c < e0 * e0 + e1 * e1) ∧ (1 < k → ¬ 32 * c < e2 * e2 + e3 * e3) ∧ (2 < k → ¬ 32 * c < e4 * e4 + e5 * e5) ∧ (3 < k → ¬ 32 * c < e6 * e6 + e7 * e7))) (fun i _ _ => 4 - (intOf i).toNat)
      case atStart => exact ⟨0, by omega, rfl, HS0, HS1, by omega, by omega, by omega, by omega⟩
      case round =>
        obtain ⟨k, hk, rfl, HT⟩ := hrel
        have hcell := HC.out wr HT.out.1
        clear k0 k1 k2 k3 k4 k5 k6 k7 k8 k9 k10 k11 k12 k13 k14
        obtain ⟨k0, k1, k2, k3, k4, k5, k6, k7, k8, k9, k10, k11, k12, k13, k14⟩ := hcell
        obtain rfl | rfl | rfl | rfl | rfl : k = 0 ∨ k = 1 ∨ k = 2 ∨ k = 3 ∨ k = 4 := by omega
        · by_cases q1 : 32 * c < e0 * e0 + e1 * e1
          case pos =>
            have d_q1 : decide (32 * c < e0 * e0 + e1 * e1) = true := by simpa using q1
            obtain rfl : r = 62 := by rw [HR0.out]; exact jv62 _ _ _ _ _ _ _ _ _ _ _ _ _ _ _ HM.out (by unfold SickP; omega)
            clear q1
            go_wp2
            go_ret
            exact ⟨rfl, HB.out.1.trans ((HT.out.1.alloc (by have := HT.out.2.1; have := HB.out.2.2; simp; omega) _).mono (by omega))⟩
          have d_q1 : decide (32 * c < e0 * e0 + e1 * e1) = false := by simpa using q1
          have HZ : Hid (¬ 32 * c < e0 * e0 + e1 * e1) := q1
          clear q1
          go_wp2
          refine ⟨⟨1, by omega, rfl, (HT.out.1.alloc (by have := HT.out.2.1; have := HB.out.2.2; simp; omega) _), (by have := HT.out.2.1; simp; omega), (fun _ => HZ.out), (by omega), (by omega), (by omega)⟩, by simp only [intOf]; omega⟩
        · by_cases q1 : 32 * c < e2 * e2 + e3 * e3
          case pos =>
            have d_q1 : decide (32 * c < e2 * e2 + e3 * e3) = true := by simpa using q1
            obtain rfl : r = 62 := by rw [HR0.out]; exact jv62 _ _ _ _ _ _ _ _ _ _ _ _ _ _ _ HM.out (by unfold SickP; omega)
            clear q1
            go_wp2
            go_ret
            exact ⟨rfl, HB.out.1.trans ((HT.out.1.alloc (by have := HT.out.2.1; have := HB.out.2.2; simp; omega) _).mono (by omega))⟩
          have d_q1 : decide (32 * c < e2 * e2 + e3 * e3) = false := by simpa using q1
          have HZ : Hid (¬ 32 * c < e2 * e2 + e3 * e3) := q1
          clear q1
          go_wp2
          refine ⟨⟨2, by omega, rfl, (HT.out.1.alloc (by have := HT.out.2.1; have := HB.out.2.2; simp; omega) _), (by have := HT.out.2.1; simp; omega), (fun _ => HT.out.2.2.1 (by omega)), (fun _ => HZ.out), (by omega), (by omega)⟩, by simp only [intOf]; omega⟩
        · by_cases q1 : 32 * c < e4 * e4 + e5 * e5
          case pos =>
            have d_q1 : decide (32 * c < e4 * e4 + e5 * e5) = true := by simpa using q1
            obtain rfl : r = 62 := by rw [HR0.out]; exact jv62 _ _ _ _ _ _ _ _ _ _ _ _ _ _ _ HM.out (by unfold SickP; omega)
            clear q1
            go_wp2
            go_ret
            exact ⟨rfl, HB.out.1.trans ((HT.out.1.alloc (by have := HT.out.2.1; have := HB.out.2.2; simp; omega) _).mono (by omega))⟩
          have d_q1 : decide (32 * c < e4 * e4 + e5 * e5) = false := by simpa using q1
          have HZ : Hid (¬ 32 * c < e4 * e4 + e5 * e5) := q1
          clear q1
          go_wp2
          refine ⟨⟨3, by omega, rfl, (HT.out.1.alloc (by have := HT.out.2.1; have := HB.out.2.2; simp; omega) _), (by have := HT.out.2.1; simp; omega), (fun _ => HT.out.2.2.1 (by omega)), (fun _ => HT.out.2.2.2.1 (by omega)), (fun _ => HZ.out), (by omega)⟩, by simp only [intOf]; omega⟩
        · by_cases q1 : 32 * c < e6 * e6 + e7 * e7
          case pos =>
            have d_q1 : decide (32 * c < e6 * e6 + e7 * e7) = true := by simpa using q1
            obtain rfl : r = 62 := by rw [HR0.out]; exact jv62 _ _ _ _ _ _ _ _ _ _ _ _ _ _ _ HM.out (by unfold SickP; omega)
            clear q1
            go_wp2
            go_ret
            exact ⟨rfl, HB.out.1.trans ((HT.out.1.alloc (by have := HT.out.2.1; have := HB.out.2.2; simp; omega) _).mono (by omega))⟩
          have d_q1 : decide (32 * c < e6 * e6 + e7 * e7) = false := by simpa using q1
          have HZ : Hid (¬ 32 * c < e6 * e6 + e7 * e7) := q1
          clear q1
          go_wp2
          refine ⟨⟨4, by omega, rfl, (HT.out.1.alloc (by have := HT.out.2.1; have := HB.out.2.2; simp; omega) _), (by have := HT.out.2.1; simp; omega), (fun _ => HT.out.2.2.1 (by omega)), (fun _ => HT.out.2.2.2.1 (by omega)), (fun _ => HT.out.2.2.2.2.1 (by omega)), (fun _ => HZ.out)⟩, by simp only [intOf]; omega⟩
        · obtain rfl : r = 0 := by
            rw [HR0.out]
            refine jv0 _ _ _ _ _ _ _ _ _ _ _ _ _ _ _ HM.out ?_
            have g1 := HT.out.2.2.1 (by omega)
            have g2 := HT.out.2.2.2.1 (by omega)
            have g3 := HT.out.2.2.2.2.1 (by omega)
            have g4 := HT.out.2.2.2.2.2 (by omega)
            have v := HQ.out
            have u := HL.out
            rintro (h | h | h | h | h | h | h)
            · exact g1 h
            · exact g2 h
            · exact g3 h
            · exact g4 h
            · exact u (.inl h)
            · exact u (.inr h)
            · exact v h
          go_wp2
          go_ret
          exact ⟨rfl, HB.out.1.trans (HT.out.1.mono (by omega))⟩
end Go.Proofs.Ytaejoohbmdckhaa
