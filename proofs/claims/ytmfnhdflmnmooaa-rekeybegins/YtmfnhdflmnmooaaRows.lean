/-
  No cell of these rows narrows 'for every input' (looked for: loops, veiled, ifaces, maps, wideKeys, modest, calm, conditions, laid).
  DERIVED. THE GIVEN ROWS OF THIS SEAT. 2 by the template 'for every input the law returns true; each argument reads behind the call as it read before'; 0 by the template 'total and deterministic' (their statements: YtmfnhdflmnmooaaTotals.lean).
  GIVEN WITH THE SEED: the statements are not yours to turn. If you find one false, say at which input.
  Laid BY PROGRAM, IN A SANDBOX (cutbox-rows.mjs): the forced cells as the released guide's own fill.sh prints them over the translation d5e1f9220cbb4ea0… (all of the seat's roots in one cut). By AI agents, Wed Nov 11 2026. No macro, syntax, notation, axiom, sorry.
-/
import Derived.Test.YtmfnhdflmnmooaaChecked
import GoSem.Claim
import GoSem.ClaimJoined
import GoSem.ClaimMapViews
import Derived.JoinedTies
import Derived.KernelRfl
namespace Go.Proofs.Ytmfnhdflmnmooaa
/- THE CELL 'sum', in the pinned program and in every row, IS THE sha256 OF THE DUMP (.gsa) THAT YtmfnhdflmnmooaaProg.lean LOADS. Nothing in Lean hashes anything: it is a label: what it is worth is what the hold of that sum in a sandbox is worth. -/
noncomputable def Try.pinned : Pinned := { name := "ytmfnhdflmnmooaa", sum := "d5e1f9220cbb4ea01724a738c663e11e7fb50a63b0a1b1dab76dab0910e01011", checked := Try.checked }
namespace Rows
def none {H : Type} : Left H := { results := [], args := [] }

/-- 'cofferlaw13.RekeyBegins': WHATEVER THE INPUT: true; the input reads as it did. -/
def rekeyBeginsSpec : ChangeSpec := { name := "rekeyBegins", fn := fun _ => fun
  | [d] => { results := [.lit (.bool true)], args := [d] }
  | _ => none }
def rekeyBeginsRow : OpenClaim := { program := "ytmfnhdflmnmooaa", sum := "d5e1f9220cbb4ea01724a738c663e11e7fb50a63b0a1b1dab76dab0910e01011", func := "coffer/cofferlaw13.RekeyBegins", spec := "rekeyBegins", unfollowed := true, recurses := true, apart := false }
def RekeyBeginsSaid : Prop := rekeyBeginsRow.holds Try.pinned (OpenSpec.ofChange rekeyBeginsSpec)

/-- ITS FALSE NEIGHBOUR: 'it returns false'. Refute it at one input. -/
def rekeyBeginsWrong : ChangeSpec := { name := "rekeyBegins", fn := fun _ => fun
  | [d] => { results := [.lit (.bool false)], args := [d] }
  | _ => none }
def RekeyBeginsWrongFalsely : Prop := rekeyBeginsRow.holds Try.pinned (OpenSpec.ofChange rekeyBeginsWrong)

/-- 'cofferlaw13.RekeyNexts': WHATEVER THE INPUT: true; the input reads as it did. -/
def rekeyNextsSpec : ChangeSpec := { name := "rekeyNexts", fn := fun _ => fun
  | [d] => { results := [.lit (.bool true)], args := [d] }
  | _ => none }
def rekeyNextsRow : OpenClaim := { program := "ytmfnhdflmnmooaa", sum := "d5e1f9220cbb4ea01724a738c663e11e7fb50a63b0a1b1dab76dab0910e01011", func := "coffer/cofferlaw13.RekeyNexts", spec := "rekeyNexts", unfollowed := true, recurses := true, apart := false }
def RekeyNextsSaid : Prop := rekeyNextsRow.holds Try.pinned (OpenSpec.ofChange rekeyNextsSpec)

/-- ITS FALSE NEIGHBOUR: 'it returns false'. Refute it at one input. -/
def rekeyNextsWrong : ChangeSpec := { name := "rekeyNexts", fn := fun _ => fun
  | [d] => { results := [.lit (.bool false)], args := [d] }
  | _ => none }
def RekeyNextsWrongFalsely : Prop := rekeyNextsRow.holds Try.pinned (OpenSpec.ofChange rekeyNextsWrong)

/- THE SECOND FORM. 'bulk': how many values and letters a reading holds, each counted each time it is reached (what is shared counts as often as it is met; a slice's spare places count too). A statement '..UptoSaid' is the law's where the arguments, and the package variables that the reading takes, are together of bulk at most 1048576: NARROWER than '..Said'. Prove '..Said' where nothing that the law and all that it calls make is longer than what came in: it says more and counts as full. Else prove '..UptoSaid'. A law counts once. -/
mutual
def uptoBulk {H : Type} : DataW H → Nat
  | .lit (.string bytes) => bytes.length + 1
  | .lit _ => 1
  | .nil => 1
  | .ptr d => uptoBulk d + 1
  | .slice elems spare => uptoBulkAll elems + uptoBulkAll spare + 1
  | .agg parts => uptoBulkAll parts + 1
  | .iface _ d => uptoBulk d + 1
  | .map entries => uptoBulkEntries entries + 1
  | .held _ => 1
def uptoBulkAll {H : Type} : List (DataW H) → Nat
  | [] => 0
  | d :: r => uptoBulk d + uptoBulkAll r
def uptoBulkEntries {H : Type} : List (Lit × DataW H) → Nat
  | [] => 0
  | x :: r => uptoBulkEntry x + uptoBulkEntries r
def uptoBulkEntry {H : Type} : Lit × DataW H → Nat
  | (.string bytes, d) => bytes.length + uptoBulk d + 1
  | (_, d) => uptoBulk d + 1
 end
def uptoSmall : (H : Type) → List (DataW H) → Bool := fun _ ds => decide (uptoBulkAll ds ≤ 1048576)
def OpenSpec.upto (s : _root_.Go.ChangeSpec) : _root_.Go.OpenSpec := { _root_.Go.OpenSpec.ofChange s with cond := some uptoSmall }

/-- 'cofferlaw13.RekeyBegins', WHERE WHAT IT READS IS OF BULK AT MOST 1048576: true; the input reads as it did. -/
def rekeyBeginsUptoRow : OpenClaim := { program := "ytmfnhdflmnmooaa", sum := "d5e1f9220cbb4ea01724a738c663e11e7fb50a63b0a1b1dab76dab0910e01011", func := "coffer/cofferlaw13.RekeyBegins", spec := "rekeyBegins", unfollowed := true, recurses := true, apart := false, narrowed := true }
def RekeyBeginsUptoSaid : Prop := rekeyBeginsUptoRow.holds Try.pinned (OpenSpec.upto rekeyBeginsSpec)

/-- 'cofferlaw13.RekeyNexts', WHERE WHAT IT READS IS OF BULK AT MOST 1048576: true; the input reads as it did. -/
def rekeyNextsUptoRow : OpenClaim := { program := "ytmfnhdflmnmooaa", sum := "d5e1f9220cbb4ea01724a738c663e11e7fb50a63b0a1b1dab76dab0910e01011", func := "coffer/cofferlaw13.RekeyNexts", spec := "rekeyNexts", unfollowed := true, recurses := true, apart := false, narrowed := true }
def RekeyNextsUptoSaid : Prop := rekeyNextsUptoRow.holds Try.pinned (OpenSpec.upto rekeyNextsSpec)

end Rows
end Go.Proofs.Ytmfnhdflmnmooaa
