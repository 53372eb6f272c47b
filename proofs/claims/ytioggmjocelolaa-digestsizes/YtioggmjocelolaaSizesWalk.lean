import Derived.Test.YtioggmjocelolaaProg
import Derived.WalkKit
namespace Go.Proofs.Ytioggmjocelolaa.digestSizes
open Go.RowKit

theorem walk (a0 : Int) (w : World) :
    Calls Try.prog 6 #[.int .i64 a0] w fun e w' => e = .returned (.bool true) ∧ Grown w w' := by
  by_cases h1 : a0 = 224
  · subst h1
    go_enter Try.func6, Try.ntmps6
    go_wp2
    go_ret
    exact ⟨rfl, Grown.refl _⟩
  by_cases h2 : a0 = 256
  · subst h2
    go_enter Try.func6, Try.ntmps6
    go_wp2
    go_ret
    exact ⟨rfl, Grown.refl _⟩
  by_cases h3 : a0 = 384
  · subst h3
    go_enter Try.func6, Try.ntmps6
    go_wp2
    go_ret
    exact ⟨rfl, Grown.refl _⟩
  by_cases h4 : a0 = 512
  · subst h4
    go_enter Try.func6, Try.ntmps6
    go_wp2
    go_ret
    exact ⟨rfl, Grown.refl _⟩
  have e1 : (a0 == 224) = false := by simpa using h1
  have e2 : (a0 == 256) = false := by simpa using h2
  have e3 : (a0 == 384) = false := by simpa using h3
  have e4 : (a0 == 512) = false := by simpa using h4
  clear h1 h2 h3 h4
  go_enter Try.func6, Try.ntmps6
  go_wp2
  go_ret
  exact ⟨rfl, Grown.refl _⟩

end Go.Proofs.Ytioggmjocelolaa.digestSizes
