import Derived.Test.YtehlppaidgkpaaaGreatDoorFdEqZ
import Derived.WalkKit
import Derived.Deep.RegionHeld3
import Derived.StillTail
namespace Go.Proofs.YtehlppaidgkpaaaGreatDoor.Fd
open Go.RowKit
set_option linter.unusedVariables false
set_option linter.unusedSimpArgs false
theorem Zh {B:Nat} {w w':World} {g o n:Nat} (h:w.there g o n) (hb:Below B w w') (hg:g<B):w'.there g o n:=fun j hj=>by
 have e:w'.heap[g]?=w.heap[g]?:=hb.block g hg
 rw[World.cell?_of_block (a:=⟨g,o+j,none⟩) e,World.frozen?_of_block (a:=⟨g,o+j,none⟩) e]
 exact h j hj
end Go.Proofs.YtehlppaidgkpaaaGreatDoor.Fd
