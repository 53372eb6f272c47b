/-
  DERIVED. GIVEN WITH THE SEED: THE CARDS: each row of YtcnikfikpnnblaaGreatDoorRows.lean that lists a variable, with what it lists TIED to the program's text (the seventh form; the later family's looks); each row that meets fmt, with fmt's text TOLD by the authors' own Lean function (tested against real Go, not proved from fmt's source: count such statements apart). THE CARD IS WHAT COUNTS. Prove the row's statement (the work); the ties are given (YtcnikfikpnnblaaGreatDoorTie.lean); close each card by the builder's one call (the guide's Derived/Test/ToyasCard.lean, 'card_holds'). Laid BY PROGRAM, IN A SANDBOX (cutbox-door.mjs). By AI agents, Wed Nov 11 2026. No macro, syntax, notation, axiom, sorry.
-/
import Derived.Test.YtcnikfikpnnblaaGreatDoorRows
import GoSem.ClaimSeven
namespace Go.Proofs.YtcnikfikpnnblaaGreatDoor
namespace Rows

/-- THE TIED CARD OF 'cofferlaw03.TweakVectors'. -/
def tweakVectorsCard : Claim7 := { stood := { row := tweakVectorsRow, standIns := [], harness := (true, "4046b8de9c64ca2a1bb539b674c8b6f171fc96f19e067b26b02b17ebfeeeff3e"), looks := false }, kinds := [], alts := [], laidByText := true, laidKinds := [.data, .data, .data, .called, .data, .data], laidTests := true, laidLooks := .later }
def TweakVectorsCardSaid : Prop := Claim7.holds Tryz.pinned (.plain (OpenSpec.ofChange tweakVectorsSpec)) tweakVectorsCard

/-- THE TIED CARD OF 'cofferlaw03.TweakMakes'. -/
def tweakMakesCard : Claim7 := { stood := { row := tweakMakesRow, standIns := [], harness := (true, "4046b8de9c64ca2a1bb539b674c8b6f171fc96f19e067b26b02b17ebfeeeff3e"), looks := false }, kinds := [], alts := [], laidByText := true, laidKinds := [.data, .data, .data, .data, .data, .data, .called, .data, .data], laidTests := true, laidLooks := .later }
def TweakMakesCardSaid : Prop := Claim7.holds Tryz.pinned (.plain (OpenSpec.ofChange tweakMakesSpec)) tweakMakesCard

/-- THE TIED CARD OF 'cofferlaw03.TweakRows'. -/
def tweakRowsCard : Claim7 := { stood := { row := tweakRowsRow, standIns := [], harness := (true, "4046b8de9c64ca2a1bb539b674c8b6f171fc96f19e067b26b02b17ebfeeeff3e"), looks := false }, kinds := [], alts := [], laidByText := true, laidKinds := [.data, .data, .data, .data, .data, .data, .called, .data, .data], laidTests := true, laidLooks := .later }
def TweakRowsCardSaid : Prop := Claim7.holds Tryz.pinned (.plain (OpenSpec.ofChange tweakRowsSpec)) tweakRowsCard

/-- THE TIED CARD OF 'cofferlaw03.TweakBack'. -/
def tweakBackCard : Claim7 := { stood := { row := tweakBackRow, standIns := [], harness := (true, "4046b8de9c64ca2a1bb539b674c8b6f171fc96f19e067b26b02b17ebfeeeff3e"), looks := false }, kinds := [], alts := [], laidByText := true, laidKinds := [.data, .data, .data, .data, .data, .data, .called, .data, .data], laidTests := true, laidLooks := .later }
def TweakBackCardSaid : Prop := Claim7.holds Tryz.pinned (.plain (OpenSpec.ofChange tweakBackSpec)) tweakBackCard

/-- THE TIED CARD OF 'cofferlaw03.TweakWide'. -/
def tweakWideCard : Claim7 := { stood := { row := tweakWideRow, standIns := [], harness := (true, "4046b8de9c64ca2a1bb539b674c8b6f171fc96f19e067b26b02b17ebfeeeff3e"), looks := false }, kinds := [], alts := [], laidByText := true, laidKinds := [.data, .data, .data, .data, .data, .data, .called, .data, .data], laidTests := true, laidLooks := .later }
def TweakWideCardSaid : Prop := Claim7.holds Tryz.pinned (.plain (OpenSpec.ofChange tweakWideSpec)) tweakWideCard

/-- THE TIED CARD OF 'cofferlaw03.TweakStarts'. -/
def tweakStartsCard : Claim7 := { stood := { row := tweakStartsRow, standIns := [], harness := (true, "4046b8de9c64ca2a1bb539b674c8b6f171fc96f19e067b26b02b17ebfeeeff3e"), looks := false }, kinds := [], alts := [], laidByText := true, laidKinds := [.data, .data, .data, .data, .data, .data, .called, .data, .data], laidTests := true, laidLooks := .later }
def TweakStartsCardSaid : Prop := Claim7.holds Tryz.pinned (.plain (OpenSpec.ofChange tweakStartsSpec)) tweakStartsCard

/-- THE SECOND FORM's CARD OF 'cofferlaw03.TweakVectors'. -/
def tweakVectorsUptoCard : Claim7 := { stood := { row := tweakVectorsUptoRow, standIns := [], harness := (true, "4046b8de9c64ca2a1bb539b674c8b6f171fc96f19e067b26b02b17ebfeeeff3e"), looks := false }, kinds := [], alts := [], laidByText := true, laidKinds := [.data, .data, .data, .called, .data, .data], laidTests := true, laidLooks := .later }
def TweakVectorsUptoCardSaid : Prop := Claim7.holds Tryz.pinned (.plain (OpenSpec.upto tweakVectorsSpec)) tweakVectorsUptoCard

/-- THE SECOND FORM's CARD OF 'cofferlaw03.TweakMakes'. -/
def tweakMakesUptoCard : Claim7 := { stood := { row := tweakMakesUptoRow, standIns := [], harness := (true, "4046b8de9c64ca2a1bb539b674c8b6f171fc96f19e067b26b02b17ebfeeeff3e"), looks := false }, kinds := [], alts := [], laidByText := true, laidKinds := [.data, .data, .data, .data, .data, .data, .called, .data, .data], laidTests := true, laidLooks := .later }
def TweakMakesUptoCardSaid : Prop := Claim7.holds Tryz.pinned (.plain (OpenSpec.upto tweakMakesSpec)) tweakMakesUptoCard

/-- THE SECOND FORM's CARD OF 'cofferlaw03.TweakRows'. -/
def tweakRowsUptoCard : Claim7 := { stood := { row := tweakRowsUptoRow, standIns := [], harness := (true, "4046b8de9c64ca2a1bb539b674c8b6f171fc96f19e067b26b02b17ebfeeeff3e"), looks := false }, kinds := [], alts := [], laidByText := true, laidKinds := [.data, .data, .data, .data, .data, .data, .called, .data, .data], laidTests := true, laidLooks := .later }
def TweakRowsUptoCardSaid : Prop := Claim7.holds Tryz.pinned (.plain (OpenSpec.upto tweakRowsSpec)) tweakRowsUptoCard

/-- THE SECOND FORM's CARD OF 'cofferlaw03.TweakBack'. -/
def tweakBackUptoCard : Claim7 := { stood := { row := tweakBackUptoRow, standIns := [], harness := (true, "4046b8de9c64ca2a1bb539b674c8b6f171fc96f19e067b26b02b17ebfeeeff3e"), looks := false }, kinds := [], alts := [], laidByText := true, laidKinds := [.data, .data, .data, .data, .data, .data, .called, .data, .data], laidTests := true, laidLooks := .later }
def TweakBackUptoCardSaid : Prop := Claim7.holds Tryz.pinned (.plain (OpenSpec.upto tweakBackSpec)) tweakBackUptoCard

/-- THE SECOND FORM's CARD OF 'cofferlaw03.TweakWide'. -/
def tweakWideUptoCard : Claim7 := { stood := { row := tweakWideUptoRow, standIns := [], harness := (true, "4046b8de9c64ca2a1bb539b674c8b6f171fc96f19e067b26b02b17ebfeeeff3e"), looks := false }, kinds := [], alts := [], laidByText := true, laidKinds := [.data, .data, .data, .data, .data, .data, .called, .data, .data], laidTests := true, laidLooks := .later }
def TweakWideUptoCardSaid : Prop := Claim7.holds Tryz.pinned (.plain (OpenSpec.upto tweakWideSpec)) tweakWideUptoCard

/-- THE SECOND FORM's CARD OF 'cofferlaw03.TweakStarts'. -/
def tweakStartsUptoCard : Claim7 := { stood := { row := tweakStartsUptoRow, standIns := [], harness := (true, "4046b8de9c64ca2a1bb539b674c8b6f171fc96f19e067b26b02b17ebfeeeff3e"), looks := false }, kinds := [], alts := [], laidByText := true, laidKinds := [.data, .data, .data, .data, .data, .data, .called, .data, .data], laidTests := true, laidLooks := .later }
def TweakStartsUptoCardSaid : Prop := Claim7.holds Tryz.pinned (.plain (OpenSpec.upto tweakStartsSpec)) tweakStartsUptoCard
end Rows
end Go.Proofs.YtcnikfikpnnblaaGreatDoor
