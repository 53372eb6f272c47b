import Derived.Test.YtehlppaidgkpaaaGreatDoorPart00
import Derived.Test.YtehlppaidgkpaaaGreatDoorDgWide
import Derived.Test.YtehlppaidgkpaaaGreatDoorPart18
namespace Go.Proofs.YtehlppaidgkpaaaGreatDoor.Dg
open Go.RowKit
set_option linter.unusedVariables false
set_option linter.unusedSimpArgs false
theorem Qo:(Tryz.prog.info? 137).map (·.size)=some 8:=by kernel_rfl
end Go.Proofs.YtehlppaidgkpaaaGreatDoor.Dg
