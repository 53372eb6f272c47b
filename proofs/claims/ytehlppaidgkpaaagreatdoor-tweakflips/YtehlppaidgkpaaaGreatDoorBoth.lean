import Derived.Test.YtehlppaidgkpaaaGreatDoorPart00
namespace Go.Proofs.YtehlppaidgkpaaaGreatDoor
open Go.RowKit
def both (a b:Nat):Bool:=Nat.beq (Fu 8 0 a b) (Nat.mod (Wy 7 (Gx a b 8)) 256)
set_option maxRecDepth 100000 in
theorem Pa:Me (fun a=>Me (both a) 256) 256=true:=by decide +kernel
theorem I4 (a b:Nat) (ha:a<256) (hb:b<256):Nat.mod (Wy 7 (Gx a b 8)) 256=Fu 8 0 a b:=(Nat.eq_of_beq_eq_true (V0 (V0 Pa ha) hb)).symm
end Go.Proofs.YtehlppaidgkpaaaGreatDoor
