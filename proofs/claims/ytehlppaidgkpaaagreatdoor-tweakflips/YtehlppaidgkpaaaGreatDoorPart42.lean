import Derived.Test.YtehlppaidgkpaaaGreatDoorPart41
import Derived.Great.BuildSlice
import Derived.Test.YtehlppaidgkpaaaGreatDoorPart00
namespace Go.Proofs.YtehlppaidgkpaaaGreatDoor
open Go.RowKit
set_option linter.unusedVariables false
set_option linter.unusedSimpArgs false
def flV (zs:List Int) (j:Nat):BitVec 128:=cutV (zs++[1]) j
def hsF (kd fi:BitVec 128) (zs:List Int):Nat→BitVec 128
 | 0=>kd
 | 1=>fi
 | 2=>0#128
 | i+3=>flV zs i
end Go.Proofs.YtehlppaidgkpaaaGreatDoor
