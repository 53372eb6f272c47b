import Derived.Test.YtcnikfikpnnblaaGreatDoorPart30
import Derived.Test.YtcnikfikpnnblaaGreatDoorPart36
namespace Go.Proofs.YtcnikfikpnnblaaGreatDoor
open Go.RowKit
set_option linter.unusedVariables false
set_option linter.unusedSimpArgs false
structure Env (w : World) (G o cp : Nat) : Prop where
 pow : Pow w
 md : MdAt w G o cp
 rc : RC w
theorem RC.lt {w : World} (h : RC w) : 3 < w.heap.size := World.block_lt_of_cell? w ⟨3, 0, none⟩ (h 0 (by decide))
theorem Env.below {w w' : World} {G o cp : Nat} (h : Env w G o cp) (b : Below w.heap.size w w') : Env w' G o cp :=
 ⟨h.pow.below b, h.md.below b, h.rc.belowB b h.rc.lt⟩
end Go.Proofs.YtcnikfikpnnblaaGreatDoor
