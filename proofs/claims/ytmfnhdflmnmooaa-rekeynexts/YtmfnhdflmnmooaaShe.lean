import Derived.Test.YtmfnhdflmnmooaaShd
namespace Go.Proofs.Ytmfnhdflmnmooaa
open Go.RowKit
set_option linter.unusedVariables false
set_option linter.unusedSimpArgs false
/-- The document's loop over the heads. -/
def hd (i : Nat) : Nat := 16384 * 2 ^ i
def seen (H : Int) : Nat → Bool
  | 0 => false
  | i + 1 => seen H i || H == (hd i : Nat)
theorem seen_9 (H : Int) : seen H 9 = headB H := by
  simp [seen, hd, headB]
theorem hd_succ (i : Nat) : hd (i + 1) = 2 * hd i := by unfold hd; rw [Nat.pow_succ]; omega
theorem hd_le (i : Nat) (h : i ≤ 8) : hd i ≤ 4194304 := by
  match i, h with
  | 0, _ => decide
  | 1, _ => decide
  | 2, _ => decide
  | 3, _ => decide
  | 4, _ => decide
  | 5, _ => decide
  | 6, _ => decide
  | 7, _ => decide
  | 8, _ => decide
theorem hd_gt (i : Nat) (h : hd i ≤ 4194304) (hi : i ≤ 9) : i ≤ 8 := by
  rcases Nat.lt_or_ge i 9 with q | q
  · omega
  · obtain rfl : i = 9 := by omega
    exact absurd h (by decide)
end Go.Proofs.Ytmfnhdflmnmooaa
