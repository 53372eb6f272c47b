import Derived.Test.YtffejkfkkciaaaaBxe
namespace Go.Proofs.Ytffejkfkkciaaaa
open Go.RowKit
theorem own_cap {w : World} {B n : Nat} {a : Option Addr} {m c : Nat} {l : List Value} (h : w.ownsRow B 5 1 (.slice a m c) n l) (h1 : 1 ≤ n) : n ≤ c ∧ c ≤ 9223372036854775807 := by
  rcases h.2 with ⟨_, q⟩ | ⟨g', cap', cur, q, _, _, h3, h4, _⟩
  · omega
  · injection q with _ _ q2; rw [q2]; exact ⟨h3, h4⟩
end Go.Proofs.Ytffejkfkkciaaaa
