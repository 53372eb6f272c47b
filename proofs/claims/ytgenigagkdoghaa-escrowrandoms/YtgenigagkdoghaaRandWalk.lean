import Derived.Test.YtgenigagkdoghaaProg
import Derived.WalkKit
namespace Go.Proofs.Ytgenigagkdoghaa.escrowRandoms
open Go.RowKit

theorem walk (a b : Int) (w : World) :
    Calls Try.prog 3 #[.int .i64 a, .int .i64 b] w fun e w' => e = .returned (.bool true) ∧ Grown w w' := by
  by_cases h1 : a < 1
  · have k0 : ¬ 1 ≤ a := by omega
    go_enter Try.func3, Try.ntmps3
    go_wp2
    go_ret
    exact ⟨rfl, Grown.refl _⟩
  by_cases h2 : 16 < a
  · have k0 : 1 ≤ a := by omega
    have k1 : ¬ a ≤ 16 := by omega
    go_enter Try.func3, Try.ntmps3
    go_wp2
    go_ret
    exact ⟨rfl, Grown.refl _⟩
  by_cases h3 : b < 1
  · have k0 : 1 ≤ a := by omega
    have k1 : a ≤ 16 := by omega
    have k2 : ¬ 1 ≤ b := by omega
    go_enter Try.func3, Try.ntmps3
    go_wp2
    go_ret
    exact ⟨rfl, Grown.refl _⟩
  by_cases h4 : 64 < b
  · have k0 : 1 ≤ a := by omega
    have k1 : a ≤ 16 := by omega
    have k2 : 1 ≤ b := by omega
    have k3 : ¬ b ≤ 64 := by omega
    go_enter Try.func3, Try.ntmps3
    go_wp2
    go_ret
    exact ⟨rfl, Grown.refl _⟩
  have k0 : 1 ≤ a := by omega
  have k1 : a ≤ 16 := by omega
  have k2 : 1 ≤ b := by omega
  have k3 : b ≤ 64 := by omega
  go_enter Try.func3, Try.ntmps3
  go_wp2
  go_ret
  exact ⟨rfl, Grown.refl _⟩

end Go.Proofs.Ytgenigagkdoghaa.escrowRandoms
