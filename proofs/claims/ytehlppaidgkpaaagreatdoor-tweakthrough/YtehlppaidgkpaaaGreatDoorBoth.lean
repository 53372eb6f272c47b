import Derived.Test.YtehlppaidgkpaaaGreatDoorPart00
namespace Go.Proofs.YtehlppaidgkpaaaGreatDoor
open Go.RowKit
def both (a b:Nat):Bool:=Nat.beq (Fy 8 0 a b) (Nat.mod (Wu 7 (Gv a b 8)) 256)
set_option maxRecDepth 100000 in
theorem Uv:U5 (fun a=>U5 (both a) 256) 256=true:=by decide +kernel
theorem Ia (a b:Nat) (ha:a<256) (hb:b<256):Nat.mod (Wu 7 (Gv a b 8)) 256=Fy 8 0 a b:=(Nat.eq_of_beq_eq_true (Cc (Cc Uv ha) hb)).symm
end Go.Proofs.YtehlppaidgkpaaaGreatDoor
