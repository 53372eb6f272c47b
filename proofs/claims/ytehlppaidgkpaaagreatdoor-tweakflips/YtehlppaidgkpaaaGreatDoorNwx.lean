import Derived.Test.YtehlppaidgkpaaaGreatDoorPart32
namespace Go.Proofs.YtehlppaidgkpaaaGreatDoor
open Go.RowKit
set_option linter.unusedVariables false
set_option linter.unusedSimpArgs false
def Lf (w:World) (S:ByteArray) (st wd:Nat) (zs:List Int) (Ψ:World→Nat→Value→Value→Value→Prop) (e:Ending) (w':World):Prop:=
 ∃ c sh kv mp ov fv sv pv,e=.returned (.tuple #[.pointer (some ⟨c,0,none⟩),.int .i64 0])∧w.heap.size≤c∧Bx w' c 70 [.pointer (some ⟨sh,0,none⟩),fv,sv,pv]∧ShA w.heap.size w' sh S st wd zs kv mp ov∧Ψ w' sh fv sv pv∧Below w.heap.size w w'
def Lg (B sh:Nat) (S:ByteArray) (st wd:Nat) (zs:List Int) (kv:Value) (mp:Option Addr) (Ψ:World→Nat→Value→Value→Value→Prop) (fv:Value) (u:World) (e:Ending) (u':World):Prop:=
 ∃ f1 x1 y1 f2 x2 y2 ov',e=.returned (.tuple #[.func (.func f1) x1 y1,.func (.func f2) x2 y2])∧ShA B u' sh S st wd zs kv mp ov'∧Fs B sh u u'∧Ψ u' sh fv (.func (.func f1) x1 y1) (.func (.func f2) x2 y2)
def Oc (u u':World):Prop:=u.heap.size≤u'.heap.size∧∃ (c:Nat) (cs:Array Value) (fr:Nat×Nat),u.heap[c]?=some (Obj.cells cs 70 fr)∧∀ b,b≠c→u'.heap[b]?=u.heap[b]?
end Go.Proofs.YtehlppaidgkpaaaGreatDoor
