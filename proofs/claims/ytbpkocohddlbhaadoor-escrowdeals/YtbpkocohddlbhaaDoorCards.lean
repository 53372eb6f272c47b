/-
  DERIVED. GIVEN WITH THE SEED: THE CARDS: each row of YtbpkocohddlbhaaDoorRows.lean that lists a variable, with what it lists TIED to the program's text (the seventh form; the later family's looks); each row that meets fmt, with fmt's text TOLD by the authors' own Lean function (tested against real Go, not proved from fmt's source: count such statements apart). THE CARD IS WHAT COUNTS. Prove the row's statement (the work); the ties are given (YtbpkocohddlbhaaDoorTie.lean); close each card by the builder's one call (the guide's Derived/Test/ToyasCard.lean, 'card_holds'). Laid BY PROGRAM, IN A SANDBOX (cutbox-door.mjs). By AI agents, Wed Nov 11 2026. No macro, syntax, notation, axiom, sorry.
-/
import Derived.Test.YtbpkocohddlbhaaDoorRows
import GoSem.ClaimSeven
namespace Go.Proofs.YtbpkocohddlbhaaDoor
namespace Rows

/-- THE TIED CARD OF 'cofferlaw11.EscrowDeals'. -/
def escrowDealsCard : Claim7 := { stood := { row := escrowDealsRow, standIns := [], harness := (true, "e71b4042a99af66d3ec21e1cdc3748c9e08d207594ac580b74225969b6e77b04"), looks := false }, kinds := [], alts := [], laidByText := true, laidKinds := [.data, .data, .data, .data], laidTests := true, laidLooks := .later }
def EscrowDealsCardSaid : Prop := Claim7.holds Tryd.pinned (.plain (OpenSpec.ofChange escrowDealsSpec)) escrowDealsCard

/-- THE SECOND FORM's CARD OF 'cofferlaw11.EscrowDeals'. -/
def escrowDealsUptoCard : Claim7 := { stood := { row := escrowDealsUptoRow, standIns := [], harness := (true, "e71b4042a99af66d3ec21e1cdc3748c9e08d207594ac580b74225969b6e77b04"), looks := false }, kinds := [], alts := [], laidByText := true, laidKinds := [.data, .data, .data, .data], laidTests := true, laidLooks := .later }
def EscrowDealsUptoCardSaid : Prop := Claim7.holds Tryd.pinned (.plain (OpenSpec.upto escrowDealsSpec)) escrowDealsUptoCard
end Rows
end Go.Proofs.YtbpkocohddlbhaaDoor
