import Derived.Test.YtcopkohklgbpgaaProg
import Derived.WalkKit
namespace Go.Proofs.Ytcopkohklgbpgaa.shredRandoms
open Go.RowKit

theorem walk (a0 a1 : Int) (w : World) :
    Calls Try.prog 4 #[.int .i64 a0, .int .i64 a1] w fun e w' => e = .returned (.bool true) ∧ Grown w w' := by
  by_cases h1 : a0 < 1
  · have e1 : decide (a0 < 1) = true := by simpa using h1
    clear h1
    go_enter Try.func4, Try.ntmps4
    go_wp2
    go_ret
    exact ⟨rfl, Grown.refl _⟩
  by_cases h2 : 1024 < a0
  · have e1 : decide (a0 < 1) = false := by simpa using h1
    have e2 : decide (1024 < a0) = true := by simpa using h2
    clear h1 h2
    go_enter Try.func4, Try.ntmps4
    go_wp2
    go_ret
    exact ⟨rfl, Grown.refl _⟩
  by_cases h3 : a1 < 1
  · have e1 : decide (a0 < 1) = false := by simpa using h1
    have e2 : decide (1024 < a0) = false := by simpa using h2
    have e3 : decide (a1 < 1) = true := by simpa using h3
    have e3' : decide (1 ≤ a1) = false := by simp; omega
    clear h1 h2 h3
    go_enter Try.func4, Try.ntmps4
    go_wp2
    go_ret
    exact ⟨rfl, Grown.refl _⟩
  by_cases h4 : 4000 < a1
  · have e1 : decide (a0 < 1) = false := by simpa using h1
    have e2 : decide (1024 < a0) = false := by simpa using h2
    have e3 : decide (a1 < 1) = false := by simpa using h3
    have e3' : decide (1 ≤ a1) = true := by simp; omega
    have e4 : decide (4000 < a1) = true := by simpa using h4
    have e4' : decide (a1 ≤ 4000) = false := by simp; omega
    clear h1 h2 h3 h4
    go_enter Try.func4, Try.ntmps4
    go_wp2
    go_ret
    exact ⟨rfl, Grown.refl _⟩
  have e1 : decide (a0 < 1) = false := by simpa using h1
  have e2 : decide (1024 < a0) = false := by simpa using h2
  have e3 : decide (a1 < 1) = false := by simpa using h3
  have e3' : decide (1 ≤ a1) = true := by simp; omega
  have e4 : decide (4000 < a1) = false := by simpa using h4
  have e4' : decide (a1 ≤ 4000) = true := by simp; omega
  clear h1 h2 h3 h4
  go_enter Try.func4, Try.ntmps4
  go_wp2
  go_ret
  exact ⟨rfl, Grown.refl _⟩

end Go.Proofs.Ytcopkohklgbpgaa.shredRandoms
