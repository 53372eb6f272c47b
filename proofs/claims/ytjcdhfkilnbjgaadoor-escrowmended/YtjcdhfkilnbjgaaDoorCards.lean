/-
  DERIVED. GIVEN WITH THE SEED: THE CARDS: each row of YtjcdhfkilnbjgaaDoorRows.lean that lists a variable, with what it lists TIED to the program's text (the seventh form; the later family's looks); each row that meets fmt, with fmt's text TOLD by the authors' own Lean function (tested against real Go, not proved from fmt's source: count such statements apart). THE CARD IS WHAT COUNTS. Prove the row's statement (the work); the ties are given (YtjcdhfkilnbjgaaDoorTie.lean); close each card by the builder's one call (the guide's Derived/Test/ToyasCard.lean, 'card_holds'). Laid BY PROGRAM, IN A SANDBOX (cutbox-door.mjs). By AI agents, Wed Nov 11 2026. No macro, syntax, notation, axiom, sorry.
-/
import Derived.Test.YtjcdhfkilnbjgaaDoorRows
import GoSem.ClaimSeven
namespace Go.Proofs.YtjcdhfkilnbjgaaDoor
namespace Rows

/-- THE TIED CARD OF 'cofferlaw11.EscrowStray'. -/
def escrowStrayCard : Claim7 := { stood := { row := escrowStrayRow, standIns := [], harness := (true, "c720e73cac15ca6d69a94872cef1b5126372cfefa56e8d6756542c7f647faaed"), looks := false }, kinds := [], alts := [], laidByText := true, laidKinds := [.data, .data], laidTests := true, laidLooks := .later }
def EscrowStrayCardSaid : Prop := Claim7.holds Tryd.pinned (.plain (OpenSpec.ofChange escrowStraySpec)) escrowStrayCard

/-- THE TIED CARD OF 'cofferlaw11.EscrowFar'. -/
def escrowFarCard : Claim7 := { stood := { row := escrowFarRow, standIns := [], harness := (true, "c720e73cac15ca6d69a94872cef1b5126372cfefa56e8d6756542c7f647faaed"), looks := false }, kinds := [], alts := [], laidByText := true, laidKinds := [.data, .data], laidTests := true, laidLooks := .later }
def EscrowFarCardSaid : Prop := Claim7.holds Tryd.pinned (.plain (OpenSpec.ofChange escrowFarSpec)) escrowFarCard

/-- THE TIED CARD OF 'cofferlaw11.EscrowExtends'. -/
def escrowExtendsCard : Claim7 := { stood := { row := escrowExtendsRow, standIns := [], harness := (true, "c720e73cac15ca6d69a94872cef1b5126372cfefa56e8d6756542c7f647faaed"), looks := false }, kinds := [], alts := [], laidByText := true, laidKinds := [.data, .data], laidTests := true, laidLooks := .later }
def EscrowExtendsCardSaid : Prop := Claim7.holds Tryd.pinned (.plain (OpenSpec.ofChange escrowExtendsSpec)) escrowExtendsCard

/-- THE TIED CARD OF 'cofferlaw11.EscrowAny'. -/
def escrowAnyCard : Claim7 := { stood := { row := escrowAnyRow, standIns := [], harness := (true, "c720e73cac15ca6d69a94872cef1b5126372cfefa56e8d6756542c7f647faaed"), looks := false }, kinds := [], alts := [], laidByText := true, laidKinds := [.data, .data], laidTests := true, laidLooks := .later }
def EscrowAnyCardSaid : Prop := Claim7.holds Tryd.pinned (.plain (OpenSpec.ofChange escrowAnySpec)) escrowAnyCard

/-- THE TIED CARD OF 'cofferlaw11.EscrowMended'. -/
def escrowMendedCard : Claim7 := { stood := { row := escrowMendedRow, standIns := [], harness := (true, "c720e73cac15ca6d69a94872cef1b5126372cfefa56e8d6756542c7f647faaed"), looks := false }, kinds := [], alts := [], laidByText := true, laidKinds := [.data, .data], laidTests := true, laidLooks := .later }
def EscrowMendedCardSaid : Prop := Claim7.holds Tryd.pinned (.plain (OpenSpec.ofChange escrowMendedSpec)) escrowMendedCard

/-- THE SECOND FORM's CARD OF 'cofferlaw11.EscrowStray'. -/
def escrowStrayUptoCard : Claim7 := { stood := { row := escrowStrayUptoRow, standIns := [], harness := (true, "c720e73cac15ca6d69a94872cef1b5126372cfefa56e8d6756542c7f647faaed"), looks := false }, kinds := [], alts := [], laidByText := true, laidKinds := [.data, .data], laidTests := true, laidLooks := .later }
def EscrowStrayUptoCardSaid : Prop := Claim7.holds Tryd.pinned (.plain (OpenSpec.upto escrowStraySpec)) escrowStrayUptoCard

/-- THE SECOND FORM's CARD OF 'cofferlaw11.EscrowFar'. -/
def escrowFarUptoCard : Claim7 := { stood := { row := escrowFarUptoRow, standIns := [], harness := (true, "c720e73cac15ca6d69a94872cef1b5126372cfefa56e8d6756542c7f647faaed"), looks := false }, kinds := [], alts := [], laidByText := true, laidKinds := [.data, .data], laidTests := true, laidLooks := .later }
def EscrowFarUptoCardSaid : Prop := Claim7.holds Tryd.pinned (.plain (OpenSpec.upto escrowFarSpec)) escrowFarUptoCard

/-- THE SECOND FORM's CARD OF 'cofferlaw11.EscrowExtends'. -/
def escrowExtendsUptoCard : Claim7 := { stood := { row := escrowExtendsUptoRow, standIns := [], harness := (true, "c720e73cac15ca6d69a94872cef1b5126372cfefa56e8d6756542c7f647faaed"), looks := false }, kinds := [], alts := [], laidByText := true, laidKinds := [.data, .data], laidTests := true, laidLooks := .later }
def EscrowExtendsUptoCardSaid : Prop := Claim7.holds Tryd.pinned (.plain (OpenSpec.upto escrowExtendsSpec)) escrowExtendsUptoCard

/-- THE SECOND FORM's CARD OF 'cofferlaw11.EscrowAny'. -/
def escrowAnyUptoCard : Claim7 := { stood := { row := escrowAnyUptoRow, standIns := [], harness := (true, "c720e73cac15ca6d69a94872cef1b5126372cfefa56e8d6756542c7f647faaed"), looks := false }, kinds := [], alts := [], laidByText := true, laidKinds := [.data, .data], laidTests := true, laidLooks := .later }
def EscrowAnyUptoCardSaid : Prop := Claim7.holds Tryd.pinned (.plain (OpenSpec.upto escrowAnySpec)) escrowAnyUptoCard

/-- THE SECOND FORM's CARD OF 'cofferlaw11.EscrowMended'. -/
def escrowMendedUptoCard : Claim7 := { stood := { row := escrowMendedUptoRow, standIns := [], harness := (true, "c720e73cac15ca6d69a94872cef1b5126372cfefa56e8d6756542c7f647faaed"), looks := false }, kinds := [], alts := [], laidByText := true, laidKinds := [.data, .data], laidTests := true, laidLooks := .later }
def EscrowMendedUptoCardSaid : Prop := Claim7.holds Tryd.pinned (.plain (OpenSpec.upto escrowMendedSpec)) escrowMendedUptoCard
end Rows
end Go.Proofs.YtjcdhfkilnbjgaaDoor
