/-
  DERIVED. GIVEN WITH THE SEED: THE CARDS: each row of YtkeklmkaleomkaaDoorRows.lean that lists a variable, with what it lists TIED to the program's text (the seventh form; the later family's looks); each row that meets fmt, with fmt's text TOLD by the authors' own Lean function (tested against real Go, not proved from fmt's source: count such statements apart). THE CARD IS WHAT COUNTS. Prove the row's statement (the work); the ties are given (YtkeklmkaleomkaaDoorTie.lean); close each card by the builder's one call (the guide's Derived/Test/ToyasCard.lean, 'card_holds'). Laid BY PROGRAM, IN A SANDBOX (cutbox-door.mjs). By AI agents, Wed Nov 11 2026. No macro, syntax, notation, axiom, sorry.
-/
import Derived.Test.YtkeklmkaleomkaaDoorRows
import GoSem.ClaimSeven
namespace Go.Proofs.YtkeklmkaleomkaaDoor
namespace Rows

/-- THE TIED CARD OF 'cofferlaw06.SpringPrefixes'. -/
def springPrefixesCard : Claim7 := { stood := { row := springPrefixesRow, standIns := [], harness := (true, "cb1dec2fc0b553e637b7fa6895d5a81d68cd6d43ba295d0682cccb04976b10fb"), looks := false }, kinds := [], alts := [], laidByText := true, laidKinds := [.data, .data], laidTests := true, laidLooks := .later }
def SpringPrefixesCardSaid : Prop := Claim7.holds Tryd.pinned (.plain (OpenSpec.ofChange springPrefixesSpec)) springPrefixesCard

/-- THE TIED CARD OF 'cofferlaw06.SpringRepeats'. -/
def springRepeatsCard : Claim7 := { stood := { row := springRepeatsRow, standIns := [], harness := (true, "cb1dec2fc0b553e637b7fa6895d5a81d68cd6d43ba295d0682cccb04976b10fb"), looks := false }, kinds := [], alts := [], laidByText := true, laidKinds := [.data, .data], laidTests := true, laidLooks := .later }
def SpringRepeatsCardSaid : Prop := Claim7.holds Tryd.pinned (.plain (OpenSpec.ofChange springRepeatsSpec)) springRepeatsCard

/-- THE TIED CARD OF 'cofferlaw06.SpringThirsts'. -/
def springThirstsCard : Claim7 := { stood := { row := springThirstsRow, standIns := [], harness := (true, "cb1dec2fc0b553e637b7fa6895d5a81d68cd6d43ba295d0682cccb04976b10fb"), looks := false }, kinds := [], alts := [], laidByText := true, laidKinds := [.data, .data], laidTests := true, laidLooks := .later }
def SpringThirstsCardSaid : Prop := Claim7.holds Tryd.pinned (.plain (OpenSpec.ofChange springThirstsSpec)) springThirstsCard

/-- THE TIED CARD OF 'cofferlaw06.SpringNews'. -/
def springNewsCard : Claim7 := { stood := { row := springNewsRow, standIns := [], harness := (true, "cb1dec2fc0b553e637b7fa6895d5a81d68cd6d43ba295d0682cccb04976b10fb"), looks := false }, kinds := [], alts := [], laidByText := true, laidKinds := [.data, .data, .data, .data], laidTests := true, laidLooks := .later }
def SpringNewsCardSaid : Prop := Claim7.holds Tryd.pinned (.plain (OpenSpec.ofChange springNewsSpec)) springNewsCard

/-- THE TIED CARD OF 'cofferlaw06.SpringPlays'. -/
def springPlaysCard : Claim7 := { stood := { row := springPlaysRow, standIns := [], harness := (true, "cb1dec2fc0b553e637b7fa6895d5a81d68cd6d43ba295d0682cccb04976b10fb"), looks := false }, kinds := [], alts := [], laidByText := true, laidKinds := [.data, .data, .data, .data], laidTests := true, laidLooks := .later }
def SpringPlaysCardSaid : Prop := Claim7.holds Tryd.pinned (.plain (OpenSpec.ofChange springPlaysSpec)) springPlaysCard

/-- THE SECOND FORM's CARD OF 'cofferlaw06.SpringPrefixes'. -/
def springPrefixesUptoCard : Claim7 := { stood := { row := springPrefixesUptoRow, standIns := [], harness := (true, "cb1dec2fc0b553e637b7fa6895d5a81d68cd6d43ba295d0682cccb04976b10fb"), looks := false }, kinds := [], alts := [], laidByText := true, laidKinds := [.data, .data], laidTests := true, laidLooks := .later }
def SpringPrefixesUptoCardSaid : Prop := Claim7.holds Tryd.pinned (.plain (OpenSpec.upto springPrefixesSpec)) springPrefixesUptoCard

/-- THE SECOND FORM's CARD OF 'cofferlaw06.SpringRepeats'. -/
def springRepeatsUptoCard : Claim7 := { stood := { row := springRepeatsUptoRow, standIns := [], harness := (true, "cb1dec2fc0b553e637b7fa6895d5a81d68cd6d43ba295d0682cccb04976b10fb"), looks := false }, kinds := [], alts := [], laidByText := true, laidKinds := [.data, .data], laidTests := true, laidLooks := .later }
def SpringRepeatsUptoCardSaid : Prop := Claim7.holds Tryd.pinned (.plain (OpenSpec.upto springRepeatsSpec)) springRepeatsUptoCard

/-- THE SECOND FORM's CARD OF 'cofferlaw06.SpringThirsts'. -/
def springThirstsUptoCard : Claim7 := { stood := { row := springThirstsUptoRow, standIns := [], harness := (true, "cb1dec2fc0b553e637b7fa6895d5a81d68cd6d43ba295d0682cccb04976b10fb"), looks := false }, kinds := [], alts := [], laidByText := true, laidKinds := [.data, .data], laidTests := true, laidLooks := .later }
def SpringThirstsUptoCardSaid : Prop := Claim7.holds Tryd.pinned (.plain (OpenSpec.upto springThirstsSpec)) springThirstsUptoCard

/-- THE SECOND FORM's CARD OF 'cofferlaw06.SpringNews'. -/
def springNewsUptoCard : Claim7 := { stood := { row := springNewsUptoRow, standIns := [], harness := (true, "cb1dec2fc0b553e637b7fa6895d5a81d68cd6d43ba295d0682cccb04976b10fb"), looks := false }, kinds := [], alts := [], laidByText := true, laidKinds := [.data, .data, .data, .data], laidTests := true, laidLooks := .later }
def SpringNewsUptoCardSaid : Prop := Claim7.holds Tryd.pinned (.plain (OpenSpec.upto springNewsSpec)) springNewsUptoCard

/-- THE SECOND FORM's CARD OF 'cofferlaw06.SpringPlays'. -/
def springPlaysUptoCard : Claim7 := { stood := { row := springPlaysUptoRow, standIns := [], harness := (true, "cb1dec2fc0b553e637b7fa6895d5a81d68cd6d43ba295d0682cccb04976b10fb"), looks := false }, kinds := [], alts := [], laidByText := true, laidKinds := [.data, .data, .data, .data], laidTests := true, laidLooks := .later }
def SpringPlaysUptoCardSaid : Prop := Claim7.holds Tryd.pinned (.plain (OpenSpec.upto springPlaysSpec)) springPlaysUptoCard
end Rows
end Go.Proofs.YtkeklmkaleomkaaDoor
