import Derived.Test.YtehlppaidgkpaaaGreatDoorPart00
namespace Go.Proofs.YtehlppaidgkpaaaGreatDoor
open Go.RowKit
def Zgo (a b:Nat):Bool:=Nat.beq (Dn 8 0 a b) (Nat.mod (G6 7 (F8 a b 8)) 256)
set_option maxRecDepth 100000 in
theorem I8:Rs (fun a=>Rs (Zgo a) 256) 256=true:=by decide +kernel
theorem Zbw (a b:Nat) (ha:a<256) (hb:b<256):Nat.mod (G6 7 (F8 a b 8)) 256=Dn 8 0 a b:=(Nat.eq_of_beq_eq_true (W1 (W1 I8 ha) hb)).symm
end Go.Proofs.YtehlppaidgkpaaaGreatDoor
