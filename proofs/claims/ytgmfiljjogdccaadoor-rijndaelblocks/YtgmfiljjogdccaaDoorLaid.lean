import Derived.Test.YtgmfiljjogdccaaDoorPart11
import Derived.ProofKit
import Derived.OpenShut
import Derived.ChangeOld
import Derived.Deep.DeepHandedRow
import Derived.Lib.LaidTab
namespace Go.Proofs.YtgmfiljjogdccaaDoor
open Go.ChangeShapes Go.WideShapes Go.ChangeAt Go.RowKit
theorem own : ownKnob Tryd.prog.godebug = none := by kernel_rfl
theorem laidOut : laidOutB Tryd.prog = true := by kernel_rfl
/-- The table, as the document lays it. -/
def rconL : List Int := [1, 2, 4, 8, 16, 32, 64, 128, 27, 54]
/-- A block that holds a table. -/
def refilled (zs : List Int) : Obj → Obj
  | .cells _ t frozen => .cells (zs.map (Value.int .u8)).toArray t frozen
  | o => o
theorem rcon_at : ∀ i : Fin 10, rconL.getD i.1 0 = (rcT i.1 : Nat) := by decide +kernel
theorem rc_of {W : World} (h : laidMet Tryd.prog [("coffer/rijndael.rcon", Lib.tabData .u8 rconL)] W) : RC W := by
  have hr : Lib.TabIs Tryd.prog W "coffer/rijndael.rcon" .u8 rconL := Lib.tabIs_of_head (g := 0) (t := 104) (e := 5) (n := 10) (by kernel_rfl) (by kernel_rfl) (by kernel_rfl) (by kernel_rfl) (by kernel_rfl) (by kernel_rfl) h
  intro i hi
  have hc := hr.cell (g := 0) (by kernel_rfl) i (by simpa [rconL] using hi)
  rw [hc, ← rcon_at ⟨i, hi⟩]
end Go.Proofs.YtgmfiljjogdccaaDoor
