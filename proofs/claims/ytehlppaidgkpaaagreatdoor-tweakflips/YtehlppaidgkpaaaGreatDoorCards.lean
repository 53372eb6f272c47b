/-
  DERIVED. GIVEN WITH THE SEED: THE CARDS: each row of YtehlppaidgkpaaaGreatDoorRows.lean that lists a variable, with what it lists TIED to the program's text (the seventh form; the later family's looks); each row that meets fmt, with fmt's text TOLD by the authors' own Lean function (tested against real Go, not proved from fmt's source: count such statements apart). THE CARD IS WHAT COUNTS. Prove the row's statement (the work); the ties are given (YtehlppaidgkpaaaGreatDoorTie.lean); close each card by the builder's one call (the guide's Derived/Test/ToyasCard.lean, 'card_holds'). Laid BY PROGRAM, IN A SANDBOX (cutbox-door.mjs). By AI agents, Wed Nov 11 2026. No macro, syntax, notation, axiom, sorry.
-/
import Derived.Test.YtehlppaidgkpaaaGreatDoorRows
import GoSem.ClaimSeven
namespace Go.Proofs.YtehlppaidgkpaaaGreatDoor
namespace Rows

/-- THE TIED CARD OF 'cofferlaw03.TweakBlocks'. -/
def tweakBlocksCard : Claim7 := { stood := { row := tweakBlocksRow, standIns := [], harness := (true, "53baaecaf0993a9e952da00388201ef4a22fa02772e555c884be04e2c87d3c1f"), looks := false }, kinds := [], alts := [], laidByText := true, laidKinds := [.data, .data, .data, .data, .data, .data, .called, .data, .data], laidTests := true, laidLooks := .later }
def TweakBlocksCardSaid : Prop := Claim7.holds Tryz.pinned (.plain (OpenSpec.ofChange tweakBlocksSpec)) tweakBlocksCard

/-- THE TIED CARD OF 'cofferlaw03.TweakFlips'. -/
def tweakFlipsCard : Claim7 := { stood := { row := tweakFlipsRow, standIns := [], harness := (true, "53baaecaf0993a9e952da00388201ef4a22fa02772e555c884be04e2c87d3c1f"), looks := false }, kinds := [], alts := [], laidByText := true, laidKinds := [.data, .data, .data, .data, .data, .data, .called, .data, .data], laidTests := true, laidLooks := .later }
def TweakFlipsCardSaid : Prop := Claim7.holds Tryz.pinned (.plain (OpenSpec.ofChange tweakFlipsSpec)) tweakFlipsCard

/-- THE TIED CARD OF 'cofferlaw03.TweakSteals'. -/
def tweakStealsCard : Claim7 := { stood := { row := tweakStealsRow, standIns := [], harness := (true, "53baaecaf0993a9e952da00388201ef4a22fa02772e555c884be04e2c87d3c1f"), looks := false }, kinds := [], alts := [], laidByText := true, laidKinds := [.data, .data, .data, .data, .data, .data, .called, .data, .data], laidTests := true, laidLooks := .later }
def TweakStealsCardSaid : Prop := Claim7.holds Tryz.pinned (.plain (OpenSpec.ofChange tweakStealsSpec)) tweakStealsCard

/-- THE TIED CARD OF 'cofferlaw03.TweakBack'. -/
def tweakBackCard : Claim7 := { stood := { row := tweakBackRow, standIns := [], harness := (true, "53baaecaf0993a9e952da00388201ef4a22fa02772e555c884be04e2c87d3c1f"), looks := false }, kinds := [], alts := [], laidByText := true, laidKinds := [.data, .data, .data, .data, .data, .data, .called, .data, .data], laidTests := true, laidLooks := .later }
def TweakBackCardSaid : Prop := Claim7.holds Tryz.pinned (.plain (OpenSpec.ofChange tweakBackSpec)) tweakBackCard

/-- THE TIED CARD OF 'cofferlaw03.TweakThrough'. -/
def tweakThroughCard : Claim7 := { stood := { row := tweakThroughRow, standIns := [], harness := (true, "53baaecaf0993a9e952da00388201ef4a22fa02772e555c884be04e2c87d3c1f"), looks := false }, kinds := [], alts := [], laidByText := true, laidKinds := [.data, .data, .data, .data, .data, .data, .called, .data, .data], laidTests := true, laidLooks := .later }
def TweakThroughCardSaid : Prop := Claim7.holds Tryz.pinned (.plain (OpenSpec.ofChange tweakThroughSpec)) tweakThroughCard

/-- THE TIED CARD OF 'cofferlaw03.TweakStarts'. -/
def tweakStartsCard : Claim7 := { stood := { row := tweakStartsRow, standIns := [], harness := (true, "53baaecaf0993a9e952da00388201ef4a22fa02772e555c884be04e2c87d3c1f"), looks := false }, kinds := [], alts := [], laidByText := true, laidKinds := [.data, .data, .data, .data, .data, .data, .called, .data, .data], laidTests := true, laidLooks := .later }
def TweakStartsCardSaid : Prop := Claim7.holds Tryz.pinned (.plain (OpenSpec.ofChange tweakStartsSpec)) tweakStartsCard

/-- THE SECOND FORM's CARD OF 'cofferlaw03.TweakBlocks'. -/
def tweakBlocksUptoCard : Claim7 := { stood := { row := tweakBlocksUptoRow, standIns := [], harness := (true, "53baaecaf0993a9e952da00388201ef4a22fa02772e555c884be04e2c87d3c1f"), looks := false }, kinds := [], alts := [], laidByText := true, laidKinds := [.data, .data, .data, .data, .data, .data, .called, .data, .data], laidTests := true, laidLooks := .later }
def TweakBlocksUptoCardSaid : Prop := Claim7.holds Tryz.pinned (.plain (OpenSpec.upto tweakBlocksSpec)) tweakBlocksUptoCard

/-- THE SECOND FORM's CARD OF 'cofferlaw03.TweakFlips'. -/
def tweakFlipsUptoCard : Claim7 := { stood := { row := tweakFlipsUptoRow, standIns := [], harness := (true, "53baaecaf0993a9e952da00388201ef4a22fa02772e555c884be04e2c87d3c1f"), looks := false }, kinds := [], alts := [], laidByText := true, laidKinds := [.data, .data, .data, .data, .data, .data, .called, .data, .data], laidTests := true, laidLooks := .later }
def TweakFlipsUptoCardSaid : Prop := Claim7.holds Tryz.pinned (.plain (OpenSpec.upto tweakFlipsSpec)) tweakFlipsUptoCard

/-- THE SECOND FORM's CARD OF 'cofferlaw03.TweakSteals'. -/
def tweakStealsUptoCard : Claim7 := { stood := { row := tweakStealsUptoRow, standIns := [], harness := (true, "53baaecaf0993a9e952da00388201ef4a22fa02772e555c884be04e2c87d3c1f"), looks := false }, kinds := [], alts := [], laidByText := true, laidKinds := [.data, .data, .data, .data, .data, .data, .called, .data, .data], laidTests := true, laidLooks := .later }
def TweakStealsUptoCardSaid : Prop := Claim7.holds Tryz.pinned (.plain (OpenSpec.upto tweakStealsSpec)) tweakStealsUptoCard

/-- THE SECOND FORM's CARD OF 'cofferlaw03.TweakBack'. -/
def tweakBackUptoCard : Claim7 := { stood := { row := tweakBackUptoRow, standIns := [], harness := (true, "53baaecaf0993a9e952da00388201ef4a22fa02772e555c884be04e2c87d3c1f"), looks := false }, kinds := [], alts := [], laidByText := true, laidKinds := [.data, .data, .data, .data, .data, .data, .called, .data, .data], laidTests := true, laidLooks := .later }
def TweakBackUptoCardSaid : Prop := Claim7.holds Tryz.pinned (.plain (OpenSpec.upto tweakBackSpec)) tweakBackUptoCard

/-- THE SECOND FORM's CARD OF 'cofferlaw03.TweakThrough'. -/
def tweakThroughUptoCard : Claim7 := { stood := { row := tweakThroughUptoRow, standIns := [], harness := (true, "53baaecaf0993a9e952da00388201ef4a22fa02772e555c884be04e2c87d3c1f"), looks := false }, kinds := [], alts := [], laidByText := true, laidKinds := [.data, .data, .data, .data, .data, .data, .called, .data, .data], laidTests := true, laidLooks := .later }
def TweakThroughUptoCardSaid : Prop := Claim7.holds Tryz.pinned (.plain (OpenSpec.upto tweakThroughSpec)) tweakThroughUptoCard

/-- THE SECOND FORM's CARD OF 'cofferlaw03.TweakStarts'. -/
def tweakStartsUptoCard : Claim7 := { stood := { row := tweakStartsUptoRow, standIns := [], harness := (true, "53baaecaf0993a9e952da00388201ef4a22fa02772e555c884be04e2c87d3c1f"), looks := false }, kinds := [], alts := [], laidByText := true, laidKinds := [.data, .data, .data, .data, .data, .data, .called, .data, .data], laidTests := true, laidLooks := .later }
def TweakStartsUptoCardSaid : Prop := Claim7.holds Tryz.pinned (.plain (OpenSpec.upto tweakStartsSpec)) tweakStartsUptoCard
end Rows
end Go.Proofs.YtehlppaidgkpaaaGreatDoor
