import Derived.Test.YtffejkfkkciaaaaEsg
namespace Go.Proofs.Ytffejkfkkciaaaa
open Go.RowKit
set_option linter.unusedVariables false
set_option linter.unusedSimpArgs false
theorem mayNeed_ok (x : Nat) (w : World) : Calls Try.prog 45 #[.int .i64 (x : Nat)] w fun e w' => e = .returned (.bool (decide (1 ≤ x ∧ x ≤ 16))) ∧ w' = w := by
  by_cases h1 : 1 ≤ x
  · have g1 : (1 : Int) ≤ (x : Int) := by omega
    by_cases h2 : x ≤ 16
    · have g2 : (x : Int) ≤ 16 := by omega
      go_enter Try.func45, Try.ntmps45
      go_wp2
      go_ret
      simp [h1, h2]
    · have g2 : ¬ (x : Int) ≤ 16 := by omega
      go_enter Try.func45, Try.ntmps45
      go_wp2
      go_ret
      simp [h1, h2]
  · have g1 : ¬ (1 : Int) ≤ (x : Int) := by omega
    go_enter Try.func45, Try.ntmps45
    go_wp2
    go_ret
    simp [h1]
theorem mayShare_ok (x : Nat) (w : World) : Calls Try.prog 46 #[.int .i64 (x : Nat)] w fun e w' => e = .returned (.bool (decide (1 ≤ x ∧ x ≤ 64))) ∧ w' = w := by
  by_cases h1 : 1 ≤ x
  · have g1 : (1 : Int) ≤ (x : Int) := by omega
    by_cases h2 : x ≤ 64
    · have g2 : (x : Int) ≤ 64 := by omega
      go_enter Try.func46, Try.ntmps46
      go_wp2
      go_ret
      simp [h1, h2]
    · have g2 : ¬ (x : Int) ≤ 64 := by omega
      go_enter Try.func46, Try.ntmps46
      go_wp2
      go_ret
      simp [h1, h2]
  · have g1 : ¬ (1 : Int) ≤ (x : Int) := by omega
    go_enter Try.func46, Try.ntmps46
    go_wp2
    go_ret
    simp [h1]
/-- The bytes ahead of the code. -/
def unc (s : Nat) : Nat := 9 + s + (9 + s) % 2
theorem uncoded_ok (s : Nat) (hs : s ≤ 1000) (w : World) : Calls Try.prog 38 #[.int .i64 (s : Nat)] w fun e w' => e = .returned (.int .i64 (unc s : Nat)) ∧ w' = w := by
  have e1 : IntKind.i64.wrap (5 + (s : Int)) = ((5 + s : Nat) : Int) := by rw [IntKind.wrap_i64]; omega
  obtain ⟨a, HA⟩ : ∃ a, Hid (5 + s = a) := ⟨_, rfl⟩
  have ha := HA.out
  rw [ha] at e1
  have e2 : IntKind.i64.wrap ((a : Int) + 4) = ((a + 4 : Nat) : Int) := by rw [IntKind.wrap_i64]; omega
  obtain ⟨b, HB⟩ : ∃ b, Hid (a + 4 = b) := ⟨_, rfl⟩
  have hb := HB.out
  rw [hb] at e2
  obtain ⟨m, HM⟩ : ∃ m, Hid (b % 2 = m) := ⟨_, rfl⟩
  have hm := HM.out
  have e3 : (b : Int).tmod 2 = (m : Int) := by rw [Int.tmod_eq_emod_of_nonneg (by omega)]; omega
  have e4 : IntKind.i64.wrap (m : Int) = (m : Int) := by rw [IntKind.wrap_i64]; omega
  have e5 : IntKind.i64.wrap ((b : Int) + (m : Int)) = ((b + m : Nat) : Int) := by rw [IntKind.wrap_i64]; omega
  have HU : Hid (unc s = b + m) := by show 9 + s + (9 + s) % 2 = b + m; rw [show 9 + s = b by omega, hm]
  rw [HU.out]
  obtain ⟨r, HR⟩ : ∃ r, Hid (b + m = r) := ⟨_, rfl⟩
  rw [HR.out] at e5 ⊢
  clear ha hb hm
  go_enter Try.func38, Try.ntmps38
  go_wp2
  go_ret
  exact ⟨rfl, rfl⟩
theorem rowSize_ok (s : Nat) (hs : s ≤ 1000) (w : World) : Calls Try.prog 24 #[.int .i64 (s : Nat)] w fun e w' => e = .returned (.int .i64 (unc s + 4 : Nat)) ∧ w' = w := by
  have H1 : Hid (∀ u, Calls Try.prog 38 #[.int .i64 (s : Nat)] u fun e w' => e = .returned (.int .i64 (unc s : Nat)) ∧ w' = u) := fun u => uncoded_ok s hs u
  obtain ⟨r, HR⟩ : ∃ r, Hid (unc s = r) := ⟨_, rfl⟩
  have hr : r ≤ 2000 := by rw [← HR.out]; unfold unc; omega
  have e5 : IntKind.i64.wrap ((r : Int) + 4) = ((r + 4 : Nat) : Int) := by rw [IntKind.wrap_i64]; omega
  rw [HR.out] at H1 ⊢
  go_enter Try.func24, Try.ntmps24
  go_wp2_with (first
    | (go_at_call 38; refine (H1.out _).mono ?_; rintro e1 w5 ⟨rfl, hw⟩; obtain rfl := hw.symm; clear hw H1))
  go_ret
  exact ⟨rfl, rfl⟩
end Go.Proofs.Ytffejkfkkciaaaa
