/-
  No cell of these rows narrows 'for every input' (looked for: loops, veiled, ifaces, maps, wideKeys, modest, calm, conditions, laid).
  DERIVED. THE GIVEN ROWS OF THIS SEAT. 2 by the template 'for every input the law returns true; each argument reads behind the call as it read before'; 0 by the template 'total and deterministic' (their statements: YtgenigagkdoghaaTotals.lean).
  GIVEN WITH THE SEED: the statements are not yours to turn. If you find one false, say at which input.
  Laid BY PROGRAM, IN A SANDBOX (cutbox-rows.mjs): the forced cells as the released guide's own fill.sh prints them over the translation daf4544f9f18a006… (all of the seat's roots in one cut). By AI agents, Wed Nov 11 2026. No macro, syntax, notation, axiom, sorry.
-/
import Derived.Test.YtgenigagkdoghaaChecked
import GoSem.Claim
import GoSem.ClaimJoined
import GoSem.ClaimMapViews
import Derived.JoinedTies
import Derived.KernelRfl
namespace Go.Proofs.Ytgenigagkdoghaa
/- THE CELL 'sum', in the pinned program and in every row, IS THE sha256 OF THE DUMP (.gsa) THAT YtgenigagkdoghaaProg.lean LOADS. Nothing in Lean hashes anything: it is a label: what it is worth is what the hold of that sum in a sandbox is worth. -/
noncomputable def Try.pinned : Pinned := { name := "ytgenigagkdoghaa", sum := "daf4544f9f18a006b53acccdd97757afa5509e7355c9c35dfee3dfc084a3cfcc", checked := Try.checked }
namespace Rows
def none {H : Type} : Left H := { results := [], args := [] }

/-- 'cofferlaw11.EscrowRandoms': WHATEVER THE INPUT: true; the input reads as it did. -/
def escrowRandomsSpec : ChangeSpec := { name := "escrowRandoms", fn := fun _ => fun
  | [d1, d2] => { results := [.lit (.bool true)], args := [d1, d2] }
  | _ => none }
def escrowRandomsRow : OpenClaim := { program := "ytgenigagkdoghaa", sum := "daf4544f9f18a006b53acccdd97757afa5509e7355c9c35dfee3dfc084a3cfcc", func := "coffer/cofferlaw11.EscrowRandoms", spec := "escrowRandoms", apart := false }
def EscrowRandomsSaid : Prop := escrowRandomsRow.holds Try.pinned (OpenSpec.ofChange escrowRandomsSpec)

/-- ITS FALSE NEIGHBOUR: 'it returns false'. Refute it at one input. -/
def escrowRandomsWrong : ChangeSpec := { name := "escrowRandoms", fn := fun _ => fun
  | [d1, d2] => { results := [.lit (.bool false)], args := [d1, d2] }
  | _ => none }
def EscrowRandomsWrongFalsely : Prop := escrowRandomsRow.holds Try.pinned (OpenSpec.ofChange escrowRandomsWrong)

/-- 'cofferlaw11.EscrowWords': WHATEVER THE INPUT: true; the input reads as it did. -/
def escrowWordsSpec : ChangeSpec := { name := "escrowWords", fn := fun _ => fun
  | [d] => { results := [.lit (.bool true)], args := [d] }
  | _ => none }
def escrowWordsRow : OpenClaim := { program := "ytgenigagkdoghaa", sum := "daf4544f9f18a006b53acccdd97757afa5509e7355c9c35dfee3dfc084a3cfcc", func := "coffer/cofferlaw11.EscrowWords", spec := "escrowWords", inPlace := ["internal/abi.NoEscape"], apart := false }
def EscrowWordsSaid : Prop := escrowWordsRow.holds Try.pinned (OpenSpec.ofChange escrowWordsSpec)

/-- ITS FALSE NEIGHBOUR: 'it returns false'. Refute it at one input. -/
def escrowWordsWrong : ChangeSpec := { name := "escrowWords", fn := fun _ => fun
  | [d] => { results := [.lit (.bool false)], args := [d] }
  | _ => none }
def EscrowWordsWrongFalsely : Prop := escrowWordsRow.holds Try.pinned (OpenSpec.ofChange escrowWordsWrong)

/- THE SECOND FORM. 'bulk': how many values and letters a reading holds, each counted each time it is reached (what is shared counts as often as it is met; a slice's spare places count too). A statement '..UptoSaid' is the law's where the arguments, and the package variables that the reading takes, are together of bulk at most 1048576: NARROWER than '..Said'. Prove '..Said' where nothing that the law and all that it calls make is longer than what came in: it says more and counts as full. Else prove '..UptoSaid'. A law counts once. -/
mutual
def uptoBulk {H : Type} : DataW H → Nat
  | .lit (.string bytes) => bytes.length + 1
  | .lit _ => 1
  | .nil => 1
  | .ptr d => uptoBulk d + 1
  | .slice elems spare => uptoBulkAll elems + uptoBulkAll spare + 1
  | .agg parts => uptoBulkAll parts + 1
  | .iface _ d => uptoBulk d + 1
  | .map entries => uptoBulkEntries entries + 1
  | .held _ => 1
def uptoBulkAll {H : Type} : List (DataW H) → Nat
  | [] => 0
  | d :: r => uptoBulk d + uptoBulkAll r
def uptoBulkEntries {H : Type} : List (Lit × DataW H) → Nat
  | [] => 0
  | x :: r => uptoBulkEntry x + uptoBulkEntries r
def uptoBulkEntry {H : Type} : Lit × DataW H → Nat
  | (.string bytes, d) => bytes.length + uptoBulk d + 1
  | (_, d) => uptoBulk d + 1
 end
def uptoSmall : (H : Type) → List (DataW H) → Bool := fun _ ds => decide (uptoBulkAll ds ≤ 1048576)
def OpenSpec.upto (s : _root_.Go.ChangeSpec) : _root_.Go.OpenSpec := { _root_.Go.OpenSpec.ofChange s with cond := some uptoSmall }

/-- 'cofferlaw11.EscrowRandoms', WHERE WHAT IT READS IS OF BULK AT MOST 1048576: true; the input reads as it did. -/
def escrowRandomsUptoRow : OpenClaim := { program := "ytgenigagkdoghaa", sum := "daf4544f9f18a006b53acccdd97757afa5509e7355c9c35dfee3dfc084a3cfcc", func := "coffer/cofferlaw11.EscrowRandoms", spec := "escrowRandoms", apart := false, narrowed := true }
def EscrowRandomsUptoSaid : Prop := escrowRandomsUptoRow.holds Try.pinned (OpenSpec.upto escrowRandomsSpec)

/-- 'cofferlaw11.EscrowWords', WHERE WHAT IT READS IS OF BULK AT MOST 1048576: true; the input reads as it did. -/
def escrowWordsUptoRow : OpenClaim := { program := "ytgenigagkdoghaa", sum := "daf4544f9f18a006b53acccdd97757afa5509e7355c9c35dfee3dfc084a3cfcc", func := "coffer/cofferlaw11.EscrowWords", spec := "escrowWords", inPlace := ["internal/abi.NoEscape"], apart := false, narrowed := true }
def EscrowWordsUptoSaid : Prop := escrowWordsUptoRow.holds Try.pinned (OpenSpec.upto escrowWordsSpec)

end Rows
end Go.Proofs.Ytgenigagkdoghaa
