import Derived.Test.YtffejkfkkciaaaaPure
namespace Go.Proofs.Ytffejkfkkciaaaa
open Go.RowKit
def both (a b : Nat) : Bool := Nat.beq (tmsN 8 0 a b) (Nat.mod (refR 7 (refP a b 8)) 256)
set_option maxRecDepth 100000 in
theorem both_0 : allB (fun a => allB (both a) 256) 64 = true := by decide +kernel
set_option maxRecDepth 100000 in
theorem both_1 : allB (fun a => allB (both (Nat.add 64 a)) 256) 64 = true := by decide +kernel
set_option maxRecDepth 100000 in
theorem both_2 : allB (fun a => allB (both (Nat.add 128 a)) 256) 64 = true := by decide +kernel
set_option maxRecDepth 100000 in
theorem both_3 : allB (fun a => allB (both (Nat.add 192 a)) 256) 64 = true := by decide +kernel
theorem both_eq (a b : Nat) (ha : a < 256) (hb : b < 256) : Nat.mod (refR 7 (refP a b 8)) 256 = tmsN 8 0 a b := by
  have h : both a b = true := by
    by_cases h0 : a < 64
    · exact allB_at (allB_at both_0 h0) hb
    · by_cases h1 : a < 128
      · have q := allB_at (allB_at both_1 (show a - 64 < 64 by omega)) hb
        rwa [show Nat.add 64 (a - 64) = a from Nat.add_sub_of_le (by omega)] at q
      · by_cases h2 : a < 192
        · have q := allB_at (allB_at both_2 (show a - 128 < 64 by omega)) hb
          rwa [show Nat.add 128 (a - 128) = a from Nat.add_sub_of_le (by omega)] at q
        · have q := allB_at (allB_at both_3 (show a - 192 < 64 by omega)) hb
          rwa [show Nat.add 192 (a - 192) = a from Nat.add_sub_of_le (by omega)] at q
  exact (Nat.eq_of_beq_eq_true h).symm
end Go.Proofs.Ytffejkfkkciaaaa
