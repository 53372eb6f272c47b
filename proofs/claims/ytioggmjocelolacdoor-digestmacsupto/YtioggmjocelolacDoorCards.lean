/-
  DERIVED. GIVEN WITH THE SEED: THE CARDS: each row of YtioggmjocelolacDoorRows.lean that lists a variable, with what it lists TIED to the program's text (the seventh form; the later family's looks); each row that meets fmt, with fmt's text TOLD by the authors' own Lean function (tested against real Go, not proved from fmt's source: count such statements apart). THE CARD IS WHAT COUNTS. Prove the row's statement (the work); the ties are given (YtioggmjocelolacDoorTie.lean); close each card by the builder's one call (the guide's Derived/Test/ToyasCard.lean, 'card_holds'). Laid BY PROGRAM, IN A SANDBOX (cutbox-door.mjs). By AI agents, Wed Nov 11 2026. No macro, syntax, notation, axiom, sorry.
-/
import Derived.Test.YtioggmjocelolacDoorRows
import GoSem.ClaimSeven
namespace Go.Proofs.YtioggmjocelolacDoor
namespace Rows

/-- THE TIED CARD OF 'cofferlaw01.DigestVectors'. -/
def digestVectorsCard : Claim7 := { stood := { row := digestVectorsRow, standIns := [], harness := (true, "ddd62288ac56b89fb853cd3cec6b3abf42417a3119bf52651fd6b9095db19078"), looks := false }, kinds := [], alts := [], laidByText := true, laidKinds := [.data, .data], laidTests := true, laidLooks := .later }
def DigestVectorsCardSaid : Prop := Claim7.holds Tryd.pinned (.plain (OpenSpec.ofChange digestVectorsSpec)) digestVectorsCard

/-- THE TIED CARD OF 'cofferlaw01.DigestStretches'. -/
def digestStretchesCard : Claim7 := { stood := { row := digestStretchesRow, standIns := [], harness := (true, "ddd62288ac56b89fb853cd3cec6b3abf42417a3119bf52651fd6b9095db19078"), looks := false }, kinds := [], alts := [], laidByText := true, laidKinds := [.data, .data, .data, .data], laidTests := true, laidLooks := .later }
def DigestStretchesCardSaid : Prop := Claim7.holds Tryd.pinned (.plain (OpenSpec.ofChange digestStretchesSpec)) digestStretchesCard

/-- THE TIED CARD OF 'cofferlaw01.DigestCodes'. -/
def digestCodesCard : Claim7 := { stood := { row := digestCodesRow, standIns := [], harness := (true, "ddd62288ac56b89fb853cd3cec6b3abf42417a3119bf52651fd6b9095db19078"), looks := false }, kinds := [], alts := [], laidByText := true, laidKinds := [.data, .data, .data, .data], laidTests := true, laidLooks := .later }
def DigestCodesCardSaid : Prop := Claim7.holds Tryd.pinned (.plain (OpenSpec.ofChange digestCodesSpec)) digestCodesCard

/-- THE TIED CARD OF 'cofferlaw01.DigestExpands'. -/
def digestExpandsCard : Claim7 := { stood := { row := digestExpandsRow, standIns := [], harness := (true, "ddd62288ac56b89fb853cd3cec6b3abf42417a3119bf52651fd6b9095db19078"), looks := false }, kinds := [], alts := [], laidByText := true, laidKinds := [.data, .data, .data, .data], laidTests := true, laidLooks := .later }
def DigestExpandsCardSaid : Prop := Claim7.holds Tryd.pinned (.plain (OpenSpec.ofChange digestExpandsSpec)) digestExpandsCard

/-- THE TIED CARD OF 'cofferlaw01.DigestStreams'. -/
def digestStreamsCard : Claim7 := { stood := { row := digestStreamsRow, standIns := [], harness := (true, "ddd62288ac56b89fb853cd3cec6b3abf42417a3119bf52651fd6b9095db19078"), looks := false }, kinds := [], alts := [], laidByText := true, laidKinds := [.data, .data, .data, .data], laidTests := true, laidLooks := .later }
def DigestStreamsCardSaid : Prop := Claim7.holds Tryd.pinned (.plain (OpenSpec.ofChange digestStreamsSpec)) digestStreamsCard

/-- THE TIED CARD OF 'cofferlaw01.DigestMacs'. -/
def digestMacsCard : Claim7 := { stood := { row := digestMacsRow, standIns := [], harness := (true, "ddd62288ac56b89fb853cd3cec6b3abf42417a3119bf52651fd6b9095db19078"), looks := false }, kinds := [], alts := [], laidByText := true, laidKinds := [.data, .data, .data, .data], laidTests := true, laidLooks := .later }
def DigestMacsCardSaid : Prop := Claim7.holds Tryd.pinned (.plain (OpenSpec.ofChange digestMacsSpec)) digestMacsCard

/-- THE SECOND FORM's CARD OF 'cofferlaw01.DigestVectors'. -/
def digestVectorsUptoCard : Claim7 := { stood := { row := digestVectorsUptoRow, standIns := [], harness := (true, "ddd62288ac56b89fb853cd3cec6b3abf42417a3119bf52651fd6b9095db19078"), looks := false }, kinds := [], alts := [], laidByText := true, laidKinds := [.data, .data], laidTests := true, laidLooks := .later }
def DigestVectorsUptoCardSaid : Prop := Claim7.holds Tryd.pinned (.plain (OpenSpec.upto digestVectorsSpec)) digestVectorsUptoCard

/-- THE SECOND FORM's CARD OF 'cofferlaw01.DigestStretches'. -/
def digestStretchesUptoCard : Claim7 := { stood := { row := digestStretchesUptoRow, standIns := [], harness := (true, "ddd62288ac56b89fb853cd3cec6b3abf42417a3119bf52651fd6b9095db19078"), looks := false }, kinds := [], alts := [], laidByText := true, laidKinds := [.data, .data, .data, .data], laidTests := true, laidLooks := .later }
def DigestStretchesUptoCardSaid : Prop := Claim7.holds Tryd.pinned (.plain (OpenSpec.upto digestStretchesSpec)) digestStretchesUptoCard

/-- THE SECOND FORM's CARD OF 'cofferlaw01.DigestCodes'. -/
def digestCodesUptoCard : Claim7 := { stood := { row := digestCodesUptoRow, standIns := [], harness := (true, "ddd62288ac56b89fb853cd3cec6b3abf42417a3119bf52651fd6b9095db19078"), looks := false }, kinds := [], alts := [], laidByText := true, laidKinds := [.data, .data, .data, .data], laidTests := true, laidLooks := .later }
def DigestCodesUptoCardSaid : Prop := Claim7.holds Tryd.pinned (.plain (OpenSpec.upto digestCodesSpec)) digestCodesUptoCard

/-- THE SECOND FORM's CARD OF 'cofferlaw01.DigestExpands'. -/
def digestExpandsUptoCard : Claim7 := { stood := { row := digestExpandsUptoRow, standIns := [], harness := (true, "ddd62288ac56b89fb853cd3cec6b3abf42417a3119bf52651fd6b9095db19078"), looks := false }, kinds := [], alts := [], laidByText := true, laidKinds := [.data, .data, .data, .data], laidTests := true, laidLooks := .later }
def DigestExpandsUptoCardSaid : Prop := Claim7.holds Tryd.pinned (.plain (OpenSpec.upto digestExpandsSpec)) digestExpandsUptoCard

/-- THE SECOND FORM's CARD OF 'cofferlaw01.DigestStreams'. -/
def digestStreamsUptoCard : Claim7 := { stood := { row := digestStreamsUptoRow, standIns := [], harness := (true, "ddd62288ac56b89fb853cd3cec6b3abf42417a3119bf52651fd6b9095db19078"), looks := false }, kinds := [], alts := [], laidByText := true, laidKinds := [.data, .data, .data, .data], laidTests := true, laidLooks := .later }
def DigestStreamsUptoCardSaid : Prop := Claim7.holds Tryd.pinned (.plain (OpenSpec.upto digestStreamsSpec)) digestStreamsUptoCard

/-- THE SECOND FORM's CARD OF 'cofferlaw01.DigestMacs'. -/
def digestMacsUptoCard : Claim7 := { stood := { row := digestMacsUptoRow, standIns := [], harness := (true, "ddd62288ac56b89fb853cd3cec6b3abf42417a3119bf52651fd6b9095db19078"), looks := false }, kinds := [], alts := [], laidByText := true, laidKinds := [.data, .data, .data, .data], laidTests := true, laidLooks := .later }
def DigestMacsUptoCardSaid : Prop := Claim7.holds Tryd.pinned (.plain (OpenSpec.upto digestMacsSpec)) digestMacsUptoCard
end Rows
end Go.Proofs.YtioggmjocelolacDoor
