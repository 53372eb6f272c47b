/-
  DERIVED. GIVEN WITH THE SEED: THE CARDS: each row of YtinmhgackihakaaDoorRows.lean that lists a variable, with what it lists TIED to the program's text (the seventh form; the later family's looks); each row that meets fmt, with fmt's text TOLD by the authors' own Lean function (tested against real Go, not proved from fmt's source: count such statements apart). THE CARD IS WHAT COUNTS. Prove the row's statement (the work); the ties are given (YtinmhgackihakaaDoorTie.lean); close each card by the builder's one call (the guide's Derived/Test/ToyasCard.lean, 'card_holds'). Laid BY PROGRAM, IN A SANDBOX (cutbox-door.mjs). By AI agents, Wed Nov 11 2026. No macro, syntax, notation, axiom, sorry.
-/
import Derived.Test.YtinmhgackihakaaDoorRows
import GoSem.ClaimSeven
namespace Go.Proofs.YtinmhgackihakaaDoor
namespace Rows

/-- THE TIED CARD OF 'cofferlaw11.EscrowFar'. -/
def escrowFarCard : Claim7 := { stood := { row := escrowFarRow, standIns := [], harness := (true, "8c76c32cc47978d44fe8451dcf9abd3e31706ef523e251d3786f7b56921e0ba6"), looks := false }, kinds := [], alts := [], laidByText := true, laidKinds := [.data, .data], laidTests := true, laidLooks := .later }
def EscrowFarCardSaid : Prop := Claim7.holds Tryd.pinned (.plain (OpenSpec.ofChange escrowFarSpec)) escrowFarCard

/-- THE TIED CARD OF 'cofferlaw11.EscrowHides'. -/
def escrowHidesCard : Claim7 := { stood := { row := escrowHidesRow, standIns := [], harness := (true, "8c76c32cc47978d44fe8451dcf9abd3e31706ef523e251d3786f7b56921e0ba6"), looks := false }, kinds := [], alts := [], laidByText := true, laidKinds := [.data, .data], laidTests := true, laidLooks := .later }
def EscrowHidesCardSaid : Prop := Claim7.holds Tryd.pinned (.plain (OpenSpec.ofChange escrowHidesSpec)) escrowHidesCard

/-- THE SECOND FORM's CARD OF 'cofferlaw11.EscrowFar'. -/
def escrowFarUptoCard : Claim7 := { stood := { row := escrowFarUptoRow, standIns := [], harness := (true, "8c76c32cc47978d44fe8451dcf9abd3e31706ef523e251d3786f7b56921e0ba6"), looks := false }, kinds := [], alts := [], laidByText := true, laidKinds := [.data, .data], laidTests := true, laidLooks := .later }
def EscrowFarUptoCardSaid : Prop := Claim7.holds Tryd.pinned (.plain (OpenSpec.upto escrowFarSpec)) escrowFarUptoCard

/-- THE SECOND FORM's CARD OF 'cofferlaw11.EscrowHides'. -/
def escrowHidesUptoCard : Claim7 := { stood := { row := escrowHidesUptoRow, standIns := [], harness := (true, "8c76c32cc47978d44fe8451dcf9abd3e31706ef523e251d3786f7b56921e0ba6"), looks := false }, kinds := [], alts := [], laidByText := true, laidKinds := [.data, .data], laidTests := true, laidLooks := .later }
def EscrowHidesUptoCardSaid : Prop := Claim7.holds Tryd.pinned (.plain (OpenSpec.upto escrowHidesSpec)) escrowHidesUptoCard
end Rows
end Go.Proofs.YtinmhgackihakaaDoor
