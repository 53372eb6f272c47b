import Derived.Test.YtlnhnheplppeaaaDoorPure
namespace Go.Proofs.YtlnhnheplppeaaaDoor
theorem l1 (n b0 b1 b2 b3 : Nat) (h : b0 < 128) : letN n b0 b1 b2 b3 = 1 := by simp [letN, h]
theorem l0 (n b0 b1 b2 b3 : Nat) (h : (128 ≤ b0 ∧ b0 < 192) ∨ 248 ≤ b0) : letN n b0 b1 b2 b3 = 0 := by
  unfold letN
  rw [if_neg (by omega), if_neg (by omega), if_neg (by omega), if_neg (by omega)]
theorem l2_0 (n b0 b1 b2 b3 : Nat) (h0 : 192 ≤ b0) (h1 : b0 < 224) (h : n < 2 ∨ b1 < 128 ∨ 192 ≤ b1 ∨ (b0 - 192) * 64 + b1 - 128 < 128) : letN n b0 b1 b2 b3 = 0 := by
  unfold letN
  rw [if_neg (by omega), if_pos ⟨h0, h1⟩]
  (repeat' split) <;> omega
theorem l2_2 (n b0 b1 b2 b3 : Nat) (h0 : 192 ≤ b0) (h1 : b0 < 224) (h : 2 ≤ n ∧ 128 ≤ b1 ∧ b1 < 192 ∧ 128 ≤ (b0 - 192) * 64 + b1 - 128) : letN n b0 b1 b2 b3 = 2 := by
  unfold letN
  rw [if_neg (by omega), if_pos ⟨h0, h1⟩]
  (repeat' split) <;> omega
theorem l3_0 (n b0 b1 b2 b3 : Nat) (h0 : 224 ≤ b0) (h1 : b0 < 240) (h : n < 3 ∨ b1 < 128 ∨ 192 ≤ b1 ∨ b2 < 128 ∨ 192 ≤ b2 ∨ ((b0 - 224) * 64 + b1 - 128) * 64 + b2 - 128 < 2048 ∨ (55296 ≤ ((b0 - 224) * 64 + b1 - 128) * 64 + b2 - 128 ∧ ((b0 - 224) * 64 + b1 - 128) * 64 + b2 - 128 < 57344)) : letN n b0 b1 b2 b3 = 0 := by
  unfold letN
  rw [if_neg (by omega), if_neg (by omega), if_pos ⟨h0, h1⟩]
  (repeat' split) <;> omega
theorem l3_3 (n b0 b1 b2 b3 : Nat) (h0 : 224 ≤ b0) (h1 : b0 < 240) (h : 3 ≤ n ∧ 128 ≤ b1 ∧ b1 < 192 ∧ 128 ≤ b2 ∧ b2 < 192 ∧ 2048 ≤ ((b0 - 224) * 64 + b1 - 128) * 64 + b2 - 128 ∧ (((b0 - 224) * 64 + b1 - 128) * 64 + b2 - 128 < 55296 ∨ 57344 ≤ ((b0 - 224) * 64 + b1 - 128) * 64 + b2 - 128)) : letN n b0 b1 b2 b3 = 3 := by
  unfold letN
  rw [if_neg (by omega), if_neg (by omega), if_pos ⟨h0, h1⟩]
  (repeat' split) <;> omega
theorem l4_0 (n b0 b1 b2 b3 : Nat) (h0 : 240 ≤ b0) (h1 : b0 < 248) (h : n < 4 ∨ b1 < 128 ∨ 192 ≤ b1 ∨ b2 < 128 ∨ 192 ≤ b2 ∨ b3 < 128 ∨ 192 ≤ b3 ∨ (((b0 - 240) * 64 + b1 - 128) * 64 + b2 - 128) * 64 + b3 - 128 < 65536 ∨ 1114111 < (((b0 - 240) * 64 + b1 - 128) * 64 + b2 - 128) * 64 + b3 - 128) : letN n b0 b1 b2 b3 = 0 := by
  unfold letN
  rw [if_neg (by omega), if_neg (by omega), if_neg (by omega), if_pos ⟨h0, h1⟩]
  (repeat' split) <;> omega
theorem l4_4 (n b0 b1 b2 b3 : Nat) (h0 : 240 ≤ b0) (h1 : b0 < 248) (h : 4 ≤ n ∧ 128 ≤ b1 ∧ b1 < 192 ∧ 128 ≤ b2 ∧ b2 < 192 ∧ 128 ≤ b3 ∧ b3 < 192 ∧ 65536 ≤ (((b0 - 240) * 64 + b1 - 128) * 64 + b2 - 128) * 64 + b3 - 128 ∧ (((b0 - 240) * 64 + b1 - 128) * 64 + b2 - 128) * 64 + b3 - 128 ≤ 1114111) : letN n b0 b1 b2 b3 = 4 := by
  unfold letN
  rw [if_neg (by omega), if_neg (by omega), if_neg (by omega), if_pos ⟨h0, h1⟩]
  (repeat' split) <;> omega
end Go.Proofs.YtlnhnheplppeaaaDoor
