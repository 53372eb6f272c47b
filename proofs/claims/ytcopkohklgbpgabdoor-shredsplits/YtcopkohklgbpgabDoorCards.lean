/-
  DERIVED. GIVEN WITH THE SEED: THE CARDS: each row of YtcopkohklgbpgabDoorRows.lean that lists a variable, with what it lists TIED to the program's text (the seventh form; the later family's looks); each row that meets fmt, with fmt's text TOLD by the authors' own Lean function (tested against real Go, not proved from fmt's source: count such statements apart). THE CARD IS WHAT COUNTS. Prove the row's statement (the work); the ties are given (YtcopkohklgbpgabDoorTie.lean); close each card by the builder's one call (the guide's Derived/Test/ToyasCard.lean, 'card_holds'). Laid BY PROGRAM, IN A SANDBOX (cutbox-door.mjs). By AI agents, Wed Nov 11 2026. No macro, syntax, notation, axiom, sorry.
-/
import Derived.Test.YtcopkohklgbpgabDoorRows
import GoSem.ClaimSeven
namespace Go.Proofs.YtcopkohklgbpgabDoor
namespace Rows

/-- THE TIED CARD OF 'cofferlaw04.ShredSplits'. -/
def shredSplitsCard : Claim7 := { stood := { row := shredSplitsRow, standIns := [], harness := (true, "ecf67849cdab0d2908d0c1f17f4adb5db2991e94488a893250d2ef3ae070449f"), looks := false }, kinds := [], alts := [], laidByText := true, laidKinds := [.data, .data, .data, .data], laidTests := true, laidLooks := .later }
def ShredSplitsCardSaid : Prop := Claim7.holds Tryd.pinned (.plain (OpenSpec.ofChange shredSplitsSpec)) shredSplitsCard

/-- THE SECOND FORM's CARD OF 'cofferlaw04.ShredSplits'. -/
def shredSplitsUptoCard : Claim7 := { stood := { row := shredSplitsUptoRow, standIns := [], harness := (true, "ecf67849cdab0d2908d0c1f17f4adb5db2991e94488a893250d2ef3ae070449f"), looks := false }, kinds := [], alts := [], laidByText := true, laidKinds := [.data, .data, .data, .data], laidTests := true, laidLooks := .later }
def ShredSplitsUptoCardSaid : Prop := Claim7.holds Tryd.pinned (.plain (OpenSpec.upto shredSplitsSpec)) shredSplitsUptoCard
end Rows
end Go.Proofs.YtcopkohklgbpgabDoor
