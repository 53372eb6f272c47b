import Derived.Test.YtehlppaidgkpaaaGreatDoorPart43
import Derived.Great.BuildSlice
namespace Go.Proofs.YtehlppaidgkpaaaGreatDoor
open Go.RowKit
set_option linter.unusedVariables false
set_option linter.unusedSimpArgs false
def flV (zs:List Int) (j:Nat):BitVec 128:=cutV (zs++[1]) j
end Go.Proofs.YtehlppaidgkpaaaGreatDoor
