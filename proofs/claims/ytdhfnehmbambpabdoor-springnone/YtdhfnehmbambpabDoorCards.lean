/-
  DERIVED. GIVEN WITH THE SEED: THE CARDS: each row of YtdhfnehmbambpabDoorRows.lean that lists a variable, with what it lists TIED to the program's text (the seventh form; the later family's looks); each row that meets fmt, with fmt's text TOLD by the authors' own Lean function (tested against real Go, not proved from fmt's source: count such statements apart). THE CARD IS WHAT COUNTS. Prove the row's statement (the work); the ties are given (YtdhfnehmbambpabDoorTie.lean); close each card by the builder's one call (the guide's Derived/Test/ToyasCard.lean, 'card_holds'). Laid BY PROGRAM, IN A SANDBOX (cutbox-door.mjs). By AI agents, Wed Nov 11 2026. No macro, syntax, notation, axiom, sorry.
-/
import Derived.Test.YtdhfnehmbambpabDoorRows
import GoSem.ClaimSeven
namespace Go.Proofs.YtdhfnehmbambpabDoor
namespace Rows

/-- THE TIED CARD OF 'cofferlaw06.SpringNone'. -/
def springNoneCard : Claim7 := { stood := { row := springNoneRow, standIns := [], harness := (true, "93308b27cfdffdebf367eb593b2ccc3b668e14d1525b97dfb542cc0fafa3c7c3"), looks := false }, kinds := [], alts := [], laidByText := true, laidKinds := [.data, .data], laidTests := true, laidLooks := .later }
def SpringNoneCardSaid : Prop := Claim7.holds Tryd.pinned (.plain (OpenSpec.ofChange springNoneSpec)) springNoneCard

/-- THE TIED CARD OF 'cofferlaw06.SpringNews'. -/
def springNewsCard : Claim7 := { stood := { row := springNewsRow, standIns := [], harness := (true, "93308b27cfdffdebf367eb593b2ccc3b668e14d1525b97dfb542cc0fafa3c7c3"), looks := false }, kinds := [], alts := [], laidByText := true, laidKinds := [.data, .data, .data, .data], laidTests := true, laidLooks := .later }
def SpringNewsCardSaid : Prop := Claim7.holds Tryd.pinned (.plain (OpenSpec.ofChange springNewsSpec)) springNewsCard

/-- THE TIED CARD OF 'cofferlaw06.SpringPlays'. -/
def springPlaysCard : Claim7 := { stood := { row := springPlaysRow, standIns := [], harness := (true, "93308b27cfdffdebf367eb593b2ccc3b668e14d1525b97dfb542cc0fafa3c7c3"), looks := false }, kinds := [], alts := [], laidByText := true, laidKinds := [.data, .data, .data, .data], laidTests := true, laidLooks := .later }
def SpringPlaysCardSaid : Prop := Claim7.holds Tryd.pinned (.plain (OpenSpec.ofChange springPlaysSpec)) springPlaysCard

/-- THE SECOND FORM's CARD OF 'cofferlaw06.SpringNone'. -/
def springNoneUptoCard : Claim7 := { stood := { row := springNoneUptoRow, standIns := [], harness := (true, "93308b27cfdffdebf367eb593b2ccc3b668e14d1525b97dfb542cc0fafa3c7c3"), looks := false }, kinds := [], alts := [], laidByText := true, laidKinds := [.data, .data], laidTests := true, laidLooks := .later }
def SpringNoneUptoCardSaid : Prop := Claim7.holds Tryd.pinned (.plain (OpenSpec.upto springNoneSpec)) springNoneUptoCard

/-- THE SECOND FORM's CARD OF 'cofferlaw06.SpringNews'. -/
def springNewsUptoCard : Claim7 := { stood := { row := springNewsUptoRow, standIns := [], harness := (true, "93308b27cfdffdebf367eb593b2ccc3b668e14d1525b97dfb542cc0fafa3c7c3"), looks := false }, kinds := [], alts := [], laidByText := true, laidKinds := [.data, .data, .data, .data], laidTests := true, laidLooks := .later }
def SpringNewsUptoCardSaid : Prop := Claim7.holds Tryd.pinned (.plain (OpenSpec.upto springNewsSpec)) springNewsUptoCard

/-- THE SECOND FORM's CARD OF 'cofferlaw06.SpringPlays'. -/
def springPlaysUptoCard : Claim7 := { stood := { row := springPlaysUptoRow, standIns := [], harness := (true, "93308b27cfdffdebf367eb593b2ccc3b668e14d1525b97dfb542cc0fafa3c7c3"), looks := false }, kinds := [], alts := [], laidByText := true, laidKinds := [.data, .data, .data, .data], laidTests := true, laidLooks := .later }
def SpringPlaysUptoCardSaid : Prop := Claim7.holds Tryd.pinned (.plain (OpenSpec.upto springPlaysSpec)) springPlaysUptoCard
end Rows
end Go.Proofs.YtdhfnehmbambpabDoor
