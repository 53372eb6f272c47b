import Derived.Lib.ValidLaws
namespace Go.Proofs.YtlnhnheplppeaaaDoor
open Go.Lib
/-- cofferref07.Letter's number of bytes, at the head of what is left (n bytes that begin b0 b1 b2 b3). -/
def letN (n b0 b1 b2 b3 : Nat) : Nat :=
  if b0 < 128 then 1
  else if 192 ≤ b0 ∧ b0 < 224 then
    (if n < 2 then 0 else if b1 < 128 ∨ 192 ≤ b1 then 0
     else if (b0 - 192) * 64 + b1 - 128 < 128 then 0 else 2)
  else if 224 ≤ b0 ∧ b0 < 240 then
    (if n < 3 then 0 else if b1 < 128 ∨ 192 ≤ b1 then 0 else if b2 < 128 ∨ 192 ≤ b2 then 0
     else if ((b0 - 224) * 64 + b1 - 128) * 64 + b2 - 128 < 2048 ∨ (55296 ≤ ((b0 - 224) * 64 + b1 - 128) * 64 + b2 - 128 ∧ ((b0 - 224) * 64 + b1 - 128) * 64 + b2 - 128 < 57344) then 0 else 3)
  else if 240 ≤ b0 ∧ b0 < 248 then
    (if n < 4 then 0 else if b1 < 128 ∨ 192 ≤ b1 then 0 else if b2 < 128 ∨ 192 ≤ b2 then 0 else if b3 < 128 ∨ 192 ≤ b3 then 0
     else if (((b0 - 240) * 64 + b1 - 128) * 64 + b2 - 128) * 64 + b3 - 128 < 65536 ∨ 1114111 < (((b0 - 240) * 64 + b1 - 128) * 64 + b2 - 128) * 64 + b3 - 128 then 0 else 4)
  else 0
set_option maxRecDepth 100000 in
set_option maxHeartbeats 4000000 in
/-- It is the model's decoder. -/
theorem letN_decode (n b0 b1 b2 b3 : Nat) (hn : 1 ≤ n) (h0 : b0 < 256) (h1 : b1 < 256) (h2 : b2 < 256) (h3 : b3 < 256) :
    (letN n b0 b1 b2 b3 = 0 ∧ decodeN n b0 b1 b2 b3 = (65533, 1)) ∨ (1 ≤ letN n b0 b1 b2 b3 ∧ letN n b0 b1 b2 b3 ≤ n ∧ (decodeN n b0 b1 b2 b3).2 = letN n b0 b1 b2 b3 ∧ ¬ ((decodeN n b0 b1 b2 b3).1 = 65533 ∧ (decodeN n b0 b1 b2 b3).2 = 1)) := by
  unfold letN decodeN
  repeat' split
  all_goals first | (exfalso; omega) | (left; exact ⟨rfl, rfl⟩) | (right; refine ⟨by omega, by omega, rfl, ?_⟩; simp only; omega)
end Go.Proofs.YtlnhnheplppeaaaDoor
