import Derived.Test.YtehlppaidgkpaaaGreatDoorProg
namespace Go.Proofs.YtehlppaidgkpaaaGreatDoor.Fld
set_option linter.unusedVariables false
def TX (v:BitVec 128):BitVec 128:=(v <<< 1) ^^^ (if v.getLsbD 127 then 0x87#128 else 0#128)
end Go.Proofs.YtehlppaidgkpaaaGreatDoor.Fld
