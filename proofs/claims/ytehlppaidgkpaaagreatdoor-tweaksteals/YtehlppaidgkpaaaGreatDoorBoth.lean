import Derived.Test.YtehlppaidgkpaaaGreatDoorPart02
namespace Go.Proofs.YtehlppaidgkpaaaGreatDoor
open Go.RowKit
def both (a b : Nat) : Bool := Nat.beq (tmsN 8 0 a b) (Nat.mod (refR 7 (refP a b 8)) 256)
set_option maxRecDepth 100000 in
theorem both_all : allB (fun a => allB (both a) 256) 256 = true := by decide +kernel
theorem both_eq (a b : Nat) (ha : a < 256) (hb : b < 256) : Nat.mod (refR 7 (refP a b 8)) 256 = tmsN 8 0 a b := (Nat.eq_of_beq_eq_true (allB_at (allB_at both_all ha) hb)).symm
end Go.Proofs.YtehlppaidgkpaaaGreatDoor
