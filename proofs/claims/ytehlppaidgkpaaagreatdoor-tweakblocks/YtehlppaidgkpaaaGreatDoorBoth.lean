import Derived.Test.YtehlppaidgkpaaaGreatDoorPart00
namespace Go.Proofs.YtehlppaidgkpaaaGreatDoor
open Go.RowKit
def both (a b:Nat):Bool:=Nat.beq (Hw 8 0 a b) (Nat.mod (Gj 7 (Fo a b 8)) 256)
set_option maxRecDepth 100000 in
theorem Ij:L5 (fun a=>L5 (both a) 256) 256=true:=by decide +kernel
theorem Za6 (a b:Nat) (ha:a<256) (hb:b<256):Nat.mod (Gj 7 (Fo a b 8)) 256=Hw 8 0 a b:=(Nat.eq_of_beq_eq_true (Wk (Wk Ij ha) hb)).symm
end Go.Proofs.YtehlppaidgkpaaaGreatDoor
