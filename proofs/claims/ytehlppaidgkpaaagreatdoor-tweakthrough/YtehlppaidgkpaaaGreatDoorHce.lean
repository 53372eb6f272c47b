import Derived.Test.YtehlppaidgkpaaaGreatDoorPart45
import Derived.Deep.Cut
namespace Go.Proofs.YtehlppaidgkpaaaGreatDoor
open Go.RowKit
set_option linter.unusedVariables false
set_option linter.unusedSimpArgs false
theorem Ix {b:Nat} {u:World} {o:Obj} (h:b<u.heap.size):b<(u.alloc o).heap.size:=by simp;omega
end Go.Proofs.YtehlppaidgkpaaaGreatDoor
