import Derived.Test.YtmfnhdflmnmooaaNxd
import Derived.WalkKit
import Derived.Below
import Derived.ProofKit
import Derived.Deep.RegionHeld3
import Derived.BigRegion
import Derived.BigQuiet
import Derived.Deep.QuietTactic
import Derived.Laws.Bits64
import Derived.Deep.Cut
namespace Go.Proofs.Ytmfnhdflmnmooaa
open Go.RowKit
set_option linter.unusedVariables false
set_option linter.unusedSimpArgs false
def modeB (m : Int) : Bool := m == 1 || m == 2
theorem isMode_ok (m : Int) (w : World) : Calls Try.prog 58 #[.int .i64 m] w fun e w' => e = .returned (.bool (modeB m)) ∧ w' = w := by
  unfold modeB
  by_cases h : m = 1
  · subst h
    go_enter Try.func58, Try.ntmps58
    go_wp2
    go_ret
    exact ⟨rfl, rfl⟩
  · have q1 : (m == 1) = false := by simpa using h
    go_enter Try.func58, Try.ntmps58
    go_wp2
    go_ret
    exact ⟨by simp [q1], rfl⟩
def hotB (h : Nat) : Bool := decide (1 ≤ h) && decide (h ≤ 4096)
theorem isHot_ok (h : Nat) (w : World) : Calls Try.prog 59 #[.int .u64 (h : Nat)] w fun e w' => e = .returned (.bool (hotB h)) ∧ w' = w := by
  unfold hotB
  by_cases h1 : 1 ≤ h
  · have q1 : decide ((1 : Int) ≤ (h : Nat)) = true := by simp; omega
    rw [decide_eq_true h1]
    go_enter Try.func59, Try.ntmps59
    go_wp2
    go_ret
    exact ⟨by simp; omega, rfl⟩
  · have q1 : decide ((1 : Int) ≤ (h : Nat)) = false := by simp; omega
    rw [decide_eq_false h1]
    go_enter Try.func59, Try.ntmps59
    go_wp2
    go_ret
    exact ⟨rfl, rfl⟩
/-- Rounded up to a multiple. -/
def ru (n s : Nat) : Nat := (n + (s - 1)) / s * s
theorem roundedUp_512 (n : Nat) (h : n ≤ 1099511627776) (w : World) : Calls Try.prog 60 #[.int .i64 (n : Nat), .int .i64 512] w fun e w' => e = .returned (.int .i64 (ru n 512 : Nat)) ∧ w' = w := by
  have q1 : (((n : Nat) : Int) + 512 - 1).tdiv 512 = (((n + 511) / 512 : Nat) : Int) := by
    rw [Int.tdiv_eq_ediv_of_nonneg (by omega)]
    omega
  obtain ⟨x, hx⟩ : ∃ x : Nat, x = (n + 511) / 512 := ⟨_, rfl⟩
  rw [← hx] at q1
  have hxb : x ≤ 1099511627776 := by omega
  have hr : ru n 512 = x * 512 := by rw [ru, hx]
  rw [hr]
  clear hr hx
  go_enter Try.func60, Try.ntmps60
  go_wp2
  go_ret
  exact ⟨by simp, rfl⟩
theorem whole_512 (n : Nat) (h : n ≤ 1099511627776) (w : World) : Calls Try.prog 62 #[.int .i64 (n : Nat), .int .i64 512] w fun e w' => e = .returned (.int .i64 (ru n 512 : Nat)) ∧ w' = w := by
  obtain ⟨R, hR⟩ : ∃ R : Nat, R = ru n 512 := ⟨_, rfl⟩
  have r1 : n ≤ R := by rw [hR, ru]; omega
  have r2 : R < n + 512 := by rw [hR, ru]; omega
  have r3 : R % 512 = 0 := by rw [hR, ru]; omega
  rw [← hR]
  clear hR
  go_enter Try.func62, Try.ntmps62
  go_wp2
  go_loopw [0] (fun vi wr => ∃ i : Nat, n ≤ i ∧ i ≤ R ∧ vi = .int .i64 (i : Nat) ∧ wr = w) (fun vi _ => R - (intOf vi).toNat)
  case atStart => exact ⟨n, Nat.le_refl _, r1, rfl, rfl⟩
  case round =>
    obtain ⟨i, hi1, hi2, rfl, hw⟩ := hrel
    obtain rfl := hw.symm
    have ei : ((i : Nat) : Int).tmod 512 = ((i % 512 : Nat) : Int) := by
      rw [Int.tmod_eq_emod_of_nonneg (by omega)]
      omega
    obtain ⟨y, hy⟩ : ∃ y : Nat, y = i % 512 := ⟨_, rfl⟩
    rw [← hy] at ei
    by_cases h0 : y = 0
    · have q : (((y : Nat) : Int) == 0) = true := by simpa using h0
      obtain rfl : i = R := by omega
      go_wp2
      go_ret
      exact ⟨rfl, rfl⟩
    · have q : (((y : Nat) : Int) == 0) = false := by simpa using h0
      have hne : i < R := by omega
      go_wp2
      go_roundw
      case rel => exact ⟨i + 1, by omega, by omega, by go_num, trivial⟩
      case measure => simp [intOf]; omega
theorem roundedUp_1024 (n : Nat) (h : n ≤ 1099511627776) (w : World) : Calls Try.prog 60 #[.int .i64 (n : Nat), .int .i64 1024] w fun e w' => e = .returned (.int .i64 (ru n 1024 : Nat)) ∧ w' = w := by
  have q1 : (((n : Nat) : Int) + 1024 - 1).tdiv 1024 = (((n + 1023) / 1024 : Nat) : Int) := by
    rw [Int.tdiv_eq_ediv_of_nonneg (by omega)]
    omega
  obtain ⟨x, hx⟩ : ∃ x : Nat, x = (n + 1023) / 1024 := ⟨_, rfl⟩
  rw [← hx] at q1
  have hxb : x ≤ 1099511627776 := by omega
  have hr : ru n 1024 = x * 1024 := by rw [ru, hx]
  rw [hr]
  clear hr hx
  go_enter Try.func60, Try.ntmps60
  go_wp2
  go_ret
  exact ⟨by simp, rfl⟩
theorem whole_1024 (n : Nat) (h : n ≤ 1099511627776) (w : World) : Calls Try.prog 62 #[.int .i64 (n : Nat), .int .i64 1024] w fun e w' => e = .returned (.int .i64 (ru n 1024 : Nat)) ∧ w' = w := by
  obtain ⟨R, hR⟩ : ∃ R : Nat, R = ru n 1024 := ⟨_, rfl⟩
  have r1 : n ≤ R := by rw [hR, ru]; omega
  have r2 : R < n + 1024 := by rw [hR, ru]; omega
  have r3 : R % 1024 = 0 := by rw [hR, ru]; omega
  rw [← hR]
  clear hR
  go_enter Try.func62, Try.ntmps62
  go_wp2
  go_loopw [0] (fun vi wr => ∃ i : Nat, n ≤ i ∧ i ≤ R ∧ vi = .int .i64 (i : Nat) ∧ wr = w) (fun vi _ => R - (intOf vi).toNat)
  case atStart => exact ⟨n, Nat.le_refl _, r1, rfl, rfl⟩
  case round =>
    obtain ⟨i, hi1, hi2, rfl, hw⟩ := hrel
    obtain rfl := hw.symm
    have ei : ((i : Nat) : Int).tmod 1024 = ((i % 1024 : Nat) : Int) := by
      rw [Int.tmod_eq_emod_of_nonneg (by omega)]
      omega
    obtain ⟨y, hy⟩ : ∃ y : Nat, y = i % 1024 := ⟨_, rfl⟩
    rw [← hy] at ei
    by_cases h0 : y = 0
    · have q : (((y : Nat) : Int) == 0) = true := by simpa using h0
      obtain rfl : i = R := by omega
      go_wp2
      go_ret
      exact ⟨rfl, rfl⟩
    · have q : (((y : Nat) : Int) == 0) = false := by simpa using h0
      have hne : i < R := by omega
      go_wp2
      go_roundw
      case rel => exact ⟨i + 1, by omega, by omega, by go_num, trivial⟩
      case measure => simp [intOf]; omega
theorem roundedUp_2048 (n : Nat) (h : n ≤ 1099511627776) (w : World) : Calls Try.prog 60 #[.int .i64 (n : Nat), .int .i64 2048] w fun e w' => e = .returned (.int .i64 (ru n 2048 : Nat)) ∧ w' = w := by
  have q1 : (((n : Nat) : Int) + 2048 - 1).tdiv 2048 = (((n + 2047) / 2048 : Nat) : Int) := by
    rw [Int.tdiv_eq_ediv_of_nonneg (by omega)]
    omega
  obtain ⟨x, hx⟩ : ∃ x : Nat, x = (n + 2047) / 2048 := ⟨_, rfl⟩
  rw [← hx] at q1
  have hxb : x ≤ 1099511627776 := by omega
  have hr : ru n 2048 = x * 2048 := by rw [ru, hx]
  rw [hr]
  clear hr hx
  go_enter Try.func60, Try.ntmps60
  go_wp2
  go_ret
  exact ⟨by simp, rfl⟩
theorem whole_2048 (n : Nat) (h : n ≤ 1099511627776) (w : World) : Calls Try.prog 62 #[.int .i64 (n : Nat), .int .i64 2048] w fun e w' => e = .returned (.int .i64 (ru n 2048 : Nat)) ∧ w' = w := by
  obtain ⟨R, hR⟩ : ∃ R : Nat, R = ru n 2048 := ⟨_, rfl⟩
  have r1 : n ≤ R := by rw [hR, ru]; omega
  have r2 : R < n + 2048 := by rw [hR, ru]; omega
  have r3 : R % 2048 = 0 := by rw [hR, ru]; omega
  rw [← hR]
  clear hR
  go_enter Try.func62, Try.ntmps62
  go_wp2
  go_loopw [0] (fun vi wr => ∃ i : Nat, n ≤ i ∧ i ≤ R ∧ vi = .int .i64 (i : Nat) ∧ wr = w) (fun vi _ => R - (intOf vi).toNat)
  case atStart => exact ⟨n, Nat.le_refl _, r1, rfl, rfl⟩
  case round =>
    obtain ⟨i, hi1, hi2, rfl, hw⟩ := hrel
    obtain rfl := hw.symm
    have ei : ((i : Nat) : Int).tmod 2048 = ((i % 2048 : Nat) : Int) := by
      rw [Int.tmod_eq_emod_of_nonneg (by omega)]
      omega
    obtain ⟨y, hy⟩ : ∃ y : Nat, y = i % 2048 := ⟨_, rfl⟩
    rw [← hy] at ei
    by_cases h0 : y = 0
    · have q : (((y : Nat) : Int) == 0) = true := by simpa using h0
      obtain rfl : i = R := by omega
      go_wp2
      go_ret
      exact ⟨rfl, rfl⟩
    · have q : (((y : Nat) : Int) == 0) = false := by simpa using h0
      have hne : i < R := by omega
      go_wp2
      go_roundw
      case rel => exact ⟨i + 1, by omega, by omega, by go_num, trivial⟩
      case measure => simp [intOf]; omega
theorem roundedUp_4096 (n : Nat) (h : n ≤ 1099511627776) (w : World) : Calls Try.prog 60 #[.int .i64 (n : Nat), .int .i64 4096] w fun e w' => e = .returned (.int .i64 (ru n 4096 : Nat)) ∧ w' = w := by
  have q1 : (((n : Nat) : Int) + 4096 - 1).tdiv 4096 = (((n + 4095) / 4096 : Nat) : Int) := by
    rw [Int.tdiv_eq_ediv_of_nonneg (by omega)]
    omega
  obtain ⟨x, hx⟩ : ∃ x : Nat, x = (n + 4095) / 4096 := ⟨_, rfl⟩
  rw [← hx] at q1
  have hxb : x ≤ 1099511627776 := by omega
  have hr : ru n 4096 = x * 4096 := by rw [ru, hx]
  rw [hr]
  clear hr hx
  go_enter Try.func60, Try.ntmps60
  go_wp2
  go_ret
  exact ⟨by simp, rfl⟩
theorem whole_4096 (n : Nat) (h : n ≤ 1099511627776) (w : World) : Calls Try.prog 62 #[.int .i64 (n : Nat), .int .i64 4096] w fun e w' => e = .returned (.int .i64 (ru n 4096 : Nat)) ∧ w' = w := by
  obtain ⟨R, hR⟩ : ∃ R : Nat, R = ru n 4096 := ⟨_, rfl⟩
  have r1 : n ≤ R := by rw [hR, ru]; omega
  have r2 : R < n + 4096 := by rw [hR, ru]; omega
  have r3 : R % 4096 = 0 := by rw [hR, ru]; omega
  rw [← hR]
  clear hR
  go_enter Try.func62, Try.ntmps62
  go_wp2
  go_loopw [0] (fun vi wr => ∃ i : Nat, n ≤ i ∧ i ≤ R ∧ vi = .int .i64 (i : Nat) ∧ wr = w) (fun vi _ => R - (intOf vi).toNat)
  case atStart => exact ⟨n, Nat.le_refl _, r1, rfl, rfl⟩
  case round =>
    obtain ⟨i, hi1, hi2, rfl, hw⟩ := hrel
    obtain rfl := hw.symm
    have ei : ((i : Nat) : Int).tmod 4096 = ((i % 4096 : Nat) : Int) := by
      rw [Int.tmod_eq_emod_of_nonneg (by omega)]
      omega
    obtain ⟨y, hy⟩ : ∃ y : Nat, y = i % 4096 := ⟨_, rfl⟩
    rw [← hy] at ei
    by_cases h0 : y = 0
    · have q : (((y : Nat) : Int) == 0) = true := by simpa using h0
      obtain rfl : i = R := by omega
      go_wp2
      go_ret
      exact ⟨rfl, rfl⟩
    · have q : (((y : Nat) : Int) == 0) = false := by simpa using h0
      have hne : i < R := by omega
      go_wp2
      go_roundw
      case rel => exact ⟨i + 1, by omega, by omega, by go_num, trivial⟩
      case measure => simp [intOf]; omega
def isU (s : Nat) : Prop := s = 512 ∨ s = 1024 ∨ s = 2048 ∨ s = 4096
theorem roundedUp_ok (n s : Nat) (hs : isU s) (h : n ≤ 1099511627776) (w : World) : Calls Try.prog 60 #[.int .i64 (n : Nat), .int .i64 (s : Nat)] w fun e w' => e = .returned (.int .i64 (ru n s : Nat)) ∧ w' = w := by
  rcases hs with rfl | rfl | rfl | rfl
  · exact roundedUp_512 n h w
  · exact roundedUp_1024 n h w
  · exact roundedUp_2048 n h w
  · exact roundedUp_4096 n h w
theorem whole_ok (n s : Nat) (hs : isU s) (h : n ≤ 1099511627776) (w : World) : Calls Try.prog 62 #[.int .i64 (n : Nat), .int .i64 (s : Nat)] w fun e w' => e = .returned (.int .i64 (ru n s : Nat)) ∧ w' = w := by
  rcases hs with rfl | rfl | rfl | rfl
  · exact whole_512 n h w
  · exact whole_1024 n h w
  · exact whole_2048 n h w
  · exact whole_4096 n h w
theorem ru_le (n s : Nat) (hs : isU s) : ru n s ≤ n + 4095 := by
  rcases hs with rfl | rfl | rfl | rfl <;> (unfold ru; omega)
def nd (u : Nat) (m : Int) (h : Nat) : Nat := if m = 2 then h * 32 else h * u
theorem nd_le {u : Nat} (hu : isU u) (m : Int) {h : Nat} (hh : h ≤ 4096) : nd u m h ≤ 16777216 := by
  unfold nd
  rcases hu with rfl | rfl | rfl | rfl <;> (split <;> omega)
theorem sumSize_ok (u : Nat) (hu : isU u) (m : Int) (h : Nat) (hh : h ≤ 4096) (w : World) : Calls Try.prog 68 #[.int .i64 (u : Nat), .int .i64 m, .int .u64 (h : Nat)] w fun e w' => e = .returned (.int .i64 (nd u m h : Nat)) ∧ w' = w := by
  unfold nd
  by_cases c : m = 2
  · subst c
    rw [if_pos rfl]
    go_enter Try.func68, Try.ntmps68
    go_wp2
    go_ret
    exact ⟨by simp, rfl⟩
  · rw [if_neg c]
    have q : (m == 2) = false := by simpa using c
    rcases hu with rfl | rfl | rfl | rfl
    all_goals
      go_enter Try.func68, Try.ntmps68
      go_wp2
      go_ret
      exact ⟨by simp, rfl⟩
theorem needs_ok (u : Nat) (hu : isU u) (m : Int) (hm : modeB m = true) (h : Nat) (hh : h ≤ 4096) (w : World) : Calls Try.prog 63 #[.int .i64 (u : Nat), .int .i64 m, .int .u64 (h : Nat)] w fun e w' => e = .returned (.int .i64 (nd u m h : Nat)) ∧ w' = w := by
  have hm' : m = 1 ∨ m = 2 := by simpa [modeB] using hm
  unfold nd
  rcases hm' with rfl | rfl
  · rw [if_neg (by omega)]
    rcases hu with rfl | rfl | rfl | rfl
    all_goals
      go_enter Try.func63, Try.ntmps63
      go_wp2
      go_ret
      exact ⟨by simp, rfl⟩
  · rw [if_pos rfl]
    go_enter Try.func63, Try.ntmps63
    go_wp2
    go_ret
    exact ⟨by simp, rfl⟩
theorem jSize_ok (u : Nat) (hu : isU u) (m : Int) (h : Nat) (hh : h ≤ 4096) (w : World) : Calls Try.prog 61 #[.int .i64 (u : Nat), .int .i64 m, .int .u64 (h : Nat)] w fun e w' => e = .returned (.int .i64 (ru (nd u m h) u : Nat)) ∧ w' = w := by
  have HA : Hid (∀ v, Calls Try.prog 68 #[.int .i64 (u : Nat), .int .i64 m, .int .u64 (h : Nat)] v fun e w' => e = .returned (.int .i64 (nd u m h : Nat)) ∧ w' = v) := fun v => sumSize_ok u hu m h hh v
  have HB : Hid (∀ v, Calls Try.prog 60 #[.int .i64 (nd u m h : Nat), .int .i64 (u : Nat)] v fun e w' => e = .returned (.int .i64 (ru (nd u m h) u : Nat)) ∧ w' = v) := fun v => roundedUp_ok _ u hu (by have := nd_le hu m hh; omega) v
  generalize ru (nd u m h) u = y at *
  generalize nd u m h = x at *
  clear hu hh
  go_enter Try.func61, Try.ntmps61
  go_wp2_with first | (go_at_call 68; refine (HA.out _).mono ?_; rintro e5 w5 ⟨rfl, hw5⟩; obtain rfl := hw5.symm) | (go_at_call 60; refine (HB.out _).mono ?_; rintro e6 w6 ⟨rfl, hw6⟩; obtain rfl := hw6.symm)
  go_ret
  exact ⟨rfl, rfl⟩
def roomG (u m : Int) (h : Nat) : Bool := unitB u && modeB m && hotB h
def roomF (u m : Int) (h : Nat) : Nat := if roomG u m h then ru (ru (nd u.toNat m h) u.toNat) 4096 else 0
def roomE (u m : Int) (h : Nat) : Int := if roomG u m h then 0 else 2
theorem unitB_isU {u : Int} (h : unitB u = true) : ∃ n : Nat, u = n ∧ isU n := by
  rcases unitB_cases h with rfl | rfl | rfl | rfl
  · exact ⟨512, rfl, .inl rfl⟩
  · exact ⟨1024, rfl, .inr (.inl rfl)⟩
  · exact ⟨2048, rfl, .inr (.inr (.inl rfl))⟩
  · exact ⟨4096, rfl, .inr (.inr (.inr rfl))⟩
theorem room_ok (u m : Int) (h : Nat) (w : World) : Calls Try.prog 35 #[.int .i64 u, .int .i64 m, .int .u64 (h : Nat)] w fun e w' => e = .returned (.tuple #[.int .i64 (roomF u m h : Nat), .int .i64 (roomE u m h)]) ∧ w' = w := by
  have H1 : Hid (∀ v, Calls Try.prog 41 #[.int .i64 u] v fun e w' => e = .returned (.bool (unitB u)) ∧ w' = v) := fun v => isUnit_ok u v
  have H2 : Hid (∀ v, Calls Try.prog 58 #[.int .i64 m] v fun e w' => e = .returned (.bool (modeB m)) ∧ w' = v) := fun v => isMode_ok m v
  have H3 : Hid (∀ v, Calls Try.prog 59 #[.int .u64 (h : Nat)] v fun e w' => e = .returned (.bool (hotB h)) ∧ w' = v) := fun v => isHot_ok h v
  cases h1 : unitB u with
  | false =>
    rw [h1] at H1
    have e1 : roomF u m h = 0 := by simp [roomF, roomG, h1]
    have e2 : roomE u m h = 2 := by simp [roomE, roomG, h1]
    rw [e1, e2]
    go_enter Try.func35, Try.ntmps35
    go_wp2_with (go_at_call 41; refine (H1.out _).mono ?_; rintro e5 w5 ⟨rfl, hw5⟩; obtain rfl := hw5.symm)
    go_ret2
    exact ⟨rfl, rfl⟩
  | true =>
  cases h2 : modeB m with
  | false =>
    rw [h1] at H1
    rw [h2] at H2
    have e1 : roomF u m h = 0 := by simp [roomF, roomG, h2]
    have e2 : roomE u m h = 2 := by simp [roomE, roomG, h2]
    rw [e1, e2]
    go_enter Try.func35, Try.ntmps35
    go_wp2_with first | (go_at_call 41; refine (H1.out _).mono ?_; rintro e5 w5 ⟨rfl, hw5⟩; obtain rfl := hw5.symm) | (go_at_call 58; refine (H2.out _).mono ?_; rintro e6 w6 ⟨rfl, hw6⟩; obtain rfl := hw6.symm)
    go_ret2
    exact ⟨rfl, rfl⟩
  | true =>
  cases h3 : hotB h with
  | false =>
    rw [h1] at H1
    rw [h2] at H2
    rw [h3] at H3
    have e1 : roomF u m h = 0 := by simp [roomF, roomG, h3]
    have e2 : roomE u m h = 2 := by simp [roomE, roomG, h3]
    rw [e1, e2]
    go_enter Try.func35, Try.ntmps35
    go_wp2_with first | (go_at_call 41; refine (H1.out _).mono ?_; rintro e5 w5 ⟨rfl, hw5⟩; obtain rfl := hw5.symm) | (go_at_call 58; refine (H2.out _).mono ?_; rintro e6 w6 ⟨rfl, hw6⟩; obtain rfl := hw6.symm) | (go_at_call 59; refine (H3.out _).mono ?_; rintro e7 w7 ⟨rfl, hw7⟩; obtain rfl := hw7.symm)
    go_ret2
    exact ⟨rfl, rfl⟩
  | true =>
    rw [h1] at H1
    rw [h2] at H2
    rw [h3] at H3
    have hh : h ≤ 4096 := by simp [hotB] at h3; omega
    obtain ⟨n, rfl, hn⟩ := unitB_isU h1
    have e1 : roomF n m h = ru (ru (nd n m h) n) 4096 := by simp [roomF, roomG, h1, h2, h3]
    have e2 : roomE n m h = 0 := by simp [roomE, roomG, h1, h2, h3]
    rw [e1, e2]
    have l1 := nd_le hn m hh
    have l2 := ru_le (nd n m h) n hn
    have H4 : Hid (∀ v, Calls Try.prog 61 #[.int .i64 (n : Nat), .int .i64 m, .int .u64 (h : Nat)] v fun e w' => e = .returned (.int .i64 (ru (nd n m h) n : Nat)) ∧ w' = v) := fun v => jSize_ok n hn m h hh v
    have H5 : Hid (∀ v, Calls Try.prog 60 #[.int .i64 (ru (nd n m h) n : Nat), .int .i64 4096] v fun e w' => e = .returned (.int .i64 (ru (ru (nd n m h) n) 4096 : Nat)) ∧ w' = v) := fun v => roundedUp_4096 _ (by omega) v
    generalize ru (ru (nd n m h) n) 4096 = z at *
    generalize ru (nd n m h) n = y at *
    clear e1 e2 l1 l2 hh hn h1 h2 h3
    go_enter Try.func35, Try.ntmps35
    go_wp2_with first | (go_at_call 41; refine (H1.out _).mono ?_; rintro e5 w5 ⟨rfl, hw5⟩; obtain rfl := hw5.symm) | (go_at_call 58; refine (H2.out _).mono ?_; rintro e6 w6 ⟨rfl, hw6⟩; obtain rfl := hw6.symm) | (go_at_call 59; refine (H3.out _).mono ?_; rintro e7 w7 ⟨rfl, hw7⟩; obtain rfl := hw7.symm) | (go_at_call 61; refine (H4.out _).mono ?_; rintro e8 w8 ⟨rfl, hw8⟩; obtain rfl := hw8.symm) | (go_at_call 60; refine (H5.out _).mono ?_; rintro e9 w9 ⟨rfl, hw9⟩; obtain rfl := hw9.symm)
    go_ret2
    exact ⟨rfl, rfl⟩
theorem rroom_ok (u m : Int) (h : Nat) (w : World) : Calls Try.prog 36 #[.int .i64 u, .int .i64 m, .int .u64 (h : Nat)] w fun e w' => e = .returned (.tuple #[.int .i64 (roomF u m h : Nat), .int .i64 (roomE u m h)]) ∧ w' = w := by
  have H1 : Hid (∀ v, Calls Try.prog 55 #[.int .i64 u] v fun e w' => e = .returned (.bool (unitB u)) ∧ w' = v) := fun v => runit_ok u v
  cases h1 : unitB u with
  | false =>
    rw [h1] at H1
    have e1 : roomF u m h = 0 := by simp [roomF, roomG, h1]
    have e2 : roomE u m h = 2 := by simp [roomE, roomG, h1]
    rw [e1, e2]
    go_enter Try.func36, Try.ntmps36
    go_wp2_with (go_at_call 55; refine (H1.out _).mono ?_; rintro e5 w5 ⟨rfl, hw5⟩; obtain rfl := hw5.symm)
    go_ret2
    exact ⟨rfl, rfl⟩
  | true =>
  rw [h1] at H1
  cases h2 : modeB m with
  | false =>
    have e1 : roomF u m h = 0 := by simp [roomF, roomG, h2]
    have e2 : roomE u m h = 2 := by simp [roomE, roomG, h2]
    rw [e1, e2]
    simp [modeB] at h2
    have q1 : (m == 1) = false := by simpa using h2.1
    have q2 : (m == 2) = false := by simpa using h2.2
    go_enter Try.func36, Try.ntmps36
    go_wp2_with (go_at_call 55; refine (H1.out _).mono ?_; rintro e5 w5 ⟨rfl, hw5⟩; obtain rfl := hw5.symm)
    go_ret2
    exact ⟨rfl, rfl⟩
  | true =>
  have hm' : m = 1 ∨ m = 2 := by simpa [modeB] using h2
  cases h3 : hotB h with
  | false =>
    have e1 : roomF u m h = 0 := by simp [roomF, roomG, h3]
    have e2 : roomE u m h = 2 := by simp [roomE, roomG, h3]
    rw [e1, e2]
    have h3' : h < 1 ∨ 4096 < h := by simp [hotB] at h3; omega
    by_cases c : h < 1
    · have q1 : decide (((h : Nat) : Int) < 1) = true := by simp; omega
      clear h3' h3
      rcases hm' with rfl | rfl
      all_goals
        go_enter Try.func36, Try.ntmps36
        go_wp2_with (go_at_call 55; refine (H1.out _).mono ?_; rintro e5 w5 ⟨rfl, hw5⟩; obtain rfl := hw5.symm)
        go_ret2
        exact ⟨rfl, rfl⟩
    · have q1 : decide (((h : Nat) : Int) < 1) = false := by simp; omega
      have q2 : decide ((4096 : Int) < (h : Nat)) = true := by simp; omega
      clear h3' h3
      rcases hm' with rfl | rfl
      all_goals
        go_enter Try.func36, Try.ntmps36
        go_wp2_with (go_at_call 55; refine (H1.out _).mono ?_; rintro e5 w5 ⟨rfl, hw5⟩; obtain rfl := hw5.symm)
        go_ret2
        exact ⟨rfl, rfl⟩
  | true =>
    have hh : 1 ≤ h ∧ h ≤ 4096 := by simp [hotB] at h3; omega
    have q1 : decide (((h : Nat) : Int) < 1) = false := by simp; omega
    have q2 : decide ((4096 : Int) < (h : Nat)) = false := by simp; omega
    obtain ⟨n, rfl, hn⟩ := unitB_isU h1
    have e1 : roomF n m h = ru (ru (nd n m h) n) 4096 := by simp [roomF, roomG, h1, h2, h3]
    have e2 : roomE n m h = 0 := by simp [roomE, roomG, h1, h2, h3]
    rw [e1, e2]
    have l1 := nd_le hn m hh.2
    have l2 := ru_le (nd n m h) n hn
    have H4 : Hid (∀ v, Calls Try.prog 63 #[.int .i64 (n : Nat), .int .i64 m, .int .u64 (h : Nat)] v fun e w' => e = .returned (.int .i64 (nd n m h : Nat)) ∧ w' = v) := fun v => needs_ok n hn m h2 h hh.2 v
    have H5 : Hid (∀ v, Calls Try.prog 62 #[.int .i64 (nd n m h : Nat), .int .i64 (n : Nat)] v fun e w' => e = .returned (.int .i64 (ru (nd n m h) n : Nat)) ∧ w' = v) := fun v => whole_ok _ n hn (by omega) v
    have H6 : Hid (∀ v, Calls Try.prog 62 #[.int .i64 (ru (nd n m h) n : Nat), .int .i64 4096] v fun e w' => e = .returned (.int .i64 (ru (ru (nd n m h) n) 4096 : Nat)) ∧ w' = v) := fun v => whole_4096 _ (by omega) v
    generalize ru (ru (nd n m h) n) 4096 = z at *
    generalize ru (nd n m h) n = y at *
    generalize nd n m h = x at *
    clear e1 e2 l1 l2 hh hn h1 h2 h3
    rcases hm' with rfl | rfl
    all_goals
      go_enter Try.func36, Try.ntmps36
      go_upto_region 4 with first | (go_at_call 55; refine (H1.out _).mono ?_; rintro e5 w5 ⟨rfl, hw5⟩; obtain rfl := hw5.symm) | (go_at_call 63; refine (H4.out _).mono ?_; rintro e6 w6 ⟨rfl, hw6⟩; obtain rfl := hw6.symm) | (go_at_call 62; refine (H5.out _).mono ?_; rintro e8 w8 ⟨rfl, hw8⟩; obtain rfl := hw8.symm)
      go_wp2_with (go_at_call 62; refine (H6.out _).mono ?_; rintro e7 w7 ⟨rfl, hw7⟩; obtain rfl := hw7.symm)
      go_ret2
      exact ⟨rfl, rfl⟩
theorem num_ok (x : Int) (w : World) : Calls Try.prog 9 #[.int .i64 x] w fun e w' => e = .returned (.int .i64 x) ∧ w' = w := by
  go_enter Try.func9, Try.ntmps9
  go_wp2
  go_ret
  exact ⟨rfl, rfl⟩
theorem room_512 (w : World) : Calls Try.prog 35 #[.int .i64 512, .int .i64 1, .int .u64 2] w fun e w' => e = .returned (.tuple #[.int .i64 4096, .int .i64 0]) ∧ w' = w := by
  have q := room_ok 512 1 2 w
  have e1 : roomF 512 1 2 = 4096 := by decide
  have e2 : roomE 512 1 2 = 0 := by decide
  rw [e1, e2] at q
  exact q
theorem rooms_ok (u m : Int) (h : Nat) (w : World) : Calls Try.prog 13 #[.int .i64 u, .int .i64 m, .int .u64 (h : Nat)] w fun e w' => e = .returned (.bool true) ∧ w' = w := by
  have H1 : Hid (∀ v, Calls Try.prog 35 #[.int .i64 u, .int .i64 m, .int .u64 (h : Nat)] v fun e w' => e = .returned (.tuple #[.int .i64 (roomF u m h : Nat), .int .i64 (roomE u m h)]) ∧ w' = v) := fun v => room_ok u m h v
  have H2 : Hid (∀ v, Calls Try.prog 36 #[.int .i64 u, .int .i64 m, .int .u64 (h : Nat)] v fun e w' => e = .returned (.tuple #[.int .i64 (roomF u m h : Nat), .int .i64 (roomE u m h)]) ∧ w' = v) := fun v => rroom_ok u m h v
  generalize roomF u m h = x at *
  generalize roomE u m h = y at *
  go_enter Try.func13, Try.ntmps13
  go_upto_region 3 with first | (go_at_call 36; refine (H2.out _).mono ?_; rintro e5 w5 ⟨rfl, hw5⟩; obtain rfl := hw5.symm) | (go_at_call 35; refine (H1.out _).mono ?_; rintro e7 w7 ⟨rfl, hw7⟩; obtain rfl := hw7.symm)
  go_wp2_with first | (go_at_call 35; refine (room_512 _).mono ?_; rintro e6 w6 ⟨rfl, hw6⟩; obtain rfl := hw6.symm) | (go_at_call 9; refine (num_ok _ _).mono ?_; rintro e8 w8 ⟨rfl, hw8⟩; obtain rfl := hw8.symm)
  go_ret
  exact ⟨rfl, rfl⟩
end Go.Proofs.Ytmfnhdflmnmooaa
