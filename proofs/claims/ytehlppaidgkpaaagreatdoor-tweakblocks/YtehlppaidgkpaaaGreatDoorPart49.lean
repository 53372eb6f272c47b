import Derived.Test.YtehlppaidgkpaaaGreatDoorHcb
import Derived.Test.YtehlppaidgkpaaaGreatDoorPart00
namespace Go.Proofs.YtehlppaidgkpaaaGreatDoor
open Go.RowKit
set_option linter.unusedVariables false
set_option linter.unusedSimpArgs false
def hsF (kd fi:BitVec 128) (zs:List Int):Nat→BitVec 128
 | 0=>kd
 | 1=>fi
 | 2=>0#128
 | i+3=>flV zs i
theorem Ny (w:World):(execOp (fun _=>undef) { dst:=some 0,op:=Op.alloc 27,type:=0,pos:="",after:=#[],guard:=none }).run Tryz.prog w=.ok (.value (.pointer (some ⟨w.heap.size,0,none⟩))) (w.alloc (.cells ZZ.toArray 27)):=by kernel_rfl
theorem Jr {ops:Array Oper} {o:Oper} {a:Act} {w:World} {K:Act→World→Prop} {Q:Exit→Act→World→Prop} {E:Prop} (hgd:o.guard=none) (d:Nat) (hd:o.dst=some d) (ho:o.op=.alloc 27)
  (h:∀ u b,Hid (u=w.alloc (.cells ZZ.toArray 27))→Hid (b=w.heap.size)→K (a.put (some d) (.pointer (some ⟨b,0,none⟩))) u):if Region.wanted o (yielded ops a.tmps)=true then Oper.wp Tryz.prog o a w K Q else E:=by
 have hw:Region.wanted o (yielded ops a.tmps)=true:=by simp [Region.wanted,hgd]
 rw[if_pos hw]
 have z:=h _ _ rfl rfl
 rw[←hd] at z
 have q:(execOp a.eval o).run Tryz.prog w=.ok (.value (.pointer (some ⟨w.heap.size,0,none⟩))) (w.alloc (.cells ZZ.toArray 27)):=by
  have e:=Ny w
  simp only[execOp,ho] at e ⊢
  exact e
 unfold Oper.wp
 rw[q]
 exact z
end Go.Proofs.YtehlppaidgkpaaaGreatDoor
