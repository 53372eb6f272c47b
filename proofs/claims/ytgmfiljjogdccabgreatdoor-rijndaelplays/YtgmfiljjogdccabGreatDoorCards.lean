/-
  DERIVED. GIVEN WITH THE SEED: THE CARDS: each row of YtgmfiljjogdccabGreatDoorRows.lean that lists a variable, with what it lists TIED to the program's text (the seventh form; the later family's looks); each row that meets fmt, with fmt's text TOLD by the authors' own Lean function (tested against real Go, not proved from fmt's source: count such statements apart). THE CARD IS WHAT COUNTS. Prove the row's statement (the work); the ties are given (YtgmfiljjogdccabGreatDoorTie.lean); close each card by the builder's one call (the guide's Derived/Test/ToyasCard.lean, 'card_holds'). Laid BY PROGRAM, IN A SANDBOX (cutbox-door.mjs). By AI agents, Wed Nov 11 2026. No macro, syntax, notation, axiom, sorry.
-/
import Derived.Test.YtgmfiljjogdccabGreatDoorRows
import GoSem.ClaimSeven
namespace Go.Proofs.YtgmfiljjogdccabGreatDoor
namespace Rows

/-- THE TIED CARD OF 'cofferlaw02.RijndaelPlays'. -/
def rijndaelPlaysCard : Claim7 := { stood := { row := rijndaelPlaysRow, standIns := [], harness := (true, "2ea471a22bc01649c7805db9c835bcdfa1fb4b6a493c165c4cef48e8104ec1bf"), looks := false }, kinds := [], alts := [], laidByText := true, laidKinds := [.called], laidTests := true, laidLooks := .later }
def RijndaelPlaysCardSaid : Prop := Claim7.holds Tryz.pinned (.plain (OpenSpec.ofChange rijndaelPlaysSpec)) rijndaelPlaysCard

/-- THE SECOND FORM's CARD OF 'cofferlaw02.RijndaelPlays'. -/
def rijndaelPlaysUptoCard : Claim7 := { stood := { row := rijndaelPlaysUptoRow, standIns := [], harness := (true, "2ea471a22bc01649c7805db9c835bcdfa1fb4b6a493c165c4cef48e8104ec1bf"), looks := false }, kinds := [], alts := [], laidByText := true, laidKinds := [.called], laidTests := true, laidLooks := .later }
def RijndaelPlaysUptoCardSaid : Prop := Claim7.holds Tryz.pinned (.plain (OpenSpec.upto rijndaelPlaysSpec)) rijndaelPlaysUptoCard
end Rows
end Go.Proofs.YtgmfiljjogdccabGreatDoor
