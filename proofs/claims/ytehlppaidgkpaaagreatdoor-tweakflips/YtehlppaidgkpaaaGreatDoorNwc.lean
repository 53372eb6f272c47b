import Derived.Test.YtehlppaidgkpaaaGreatDoorPart29
namespace Go.Proofs.YtehlppaidgkpaaaGreatDoor
open Go.RowKit
set_option linter.unusedVariables false
set_option linter.unusedSimpArgs false
theorem ShA.other {B:Nat} {w w':World} {sh c:Nat} {S:ByteArray} {st wd:Nat} {zs:List Int} {kv:Value} {mp:Option Addr} {ov:Value} {cs:Array Value} {fr:Nat×Nat} (h:ShA B w sh S st wd zs kv mp ov) (hc:w.heap[c]?=some (.cells cs 70 fr)) (hk:∀ b,b≠c→w'.heap[b]?=w.heap[b]?) (hs:w.heap.size≤w'.heap.size):ShA B w' sh S st wd zs kv mp ov:=by
 refine ⟨h.le,h.box.keep (hk _ (Z4 h.box hc (by decide))),Y5 h.key fun g q=>?_,h.main.keep (fun g e=>?_) hs,?_⟩
 ·obtain ⟨cur,hg⟩:=Qg h.key q
  exact hk _ (Z4 hg hc (by decide))
 ·obtain ⟨_,_,R,hR⟩:=h.main.lt g e
  exact hk _ (Z4 hR hc (by decide))
 ·obtain ⟨n,os,hn,ho⟩:=h.oth
  exact ⟨n,os,hn,Y5 ho fun g q=>by
   obtain ⟨cur,hg⟩:=Qg ho q
   exact hk _ (Z4 hg hc (by decide))⟩
theorem Rk {B c:Nat} {w w':World} {ov:Value} {cs:Array Value} {fr:Nat×Nat} (h:∃ n os,n≤1∧w.ownsRow B 71 1 ov n os) (hc:w.heap[c]?=some (.cells cs 70 fr)) (hk:∀ b,b≠c→w'.heap[b]?=w.heap[b]?):∃ n os,n≤1∧w'.ownsRow B 71 1 ov n os:=by
 obtain ⟨n,os,hn,ho⟩:=h
 exact ⟨n,os,hn,Y5 ho fun g q=>by
  obtain ⟨cur,hg⟩:=Qg ho q
  exact hk _ (Z4 hg hc (by decide))⟩
theorem Z0 {w:World} {c i b j:Nat} {x y:Value} (h:w.cell? ⟨b,j,none⟩=some x) (hne:b≠c∨j≠i):(w.setCell ⟨c,i,none⟩ y).cell? ⟨b,j,none⟩=some x:=by
 have q:=World.cell?_setCells_out c [y] i w ⟨b,j,none⟩ (fun e _=>by rcases hne with q | q;exact absurd e q;simp;omega)
 simp only[World.setCells] at q
 rw[q];exact h
theorem MK.base {w:World} {B B':Nat} {mp:Option Addr} {wd:Nat} {zs:List Int} (h:MK w B mp wd zs) (hb:B'≤B):MK w B' mp wd zs:=by
 rcases h with q | ⟨g,nk,e,hB,rest⟩
 ·exact .inl q
 ·exact .inr ⟨g,nk,e,Nat.le_trans hb hB,rest⟩
theorem ShA.base {B B':Nat} {w:World} {sh:Nat} {S:ByteArray} {st wd:Nat} {zs:List Int} {kv:Value} {mp:Option Addr} {ov:Value} (h:ShA B w sh S st wd zs kv mp ov) (hb:B'≤B):ShA B' w sh S st wd zs kv mp ov:=
 ⟨Nat.le_trans hb h.le,h.box,G0 h.key hb,h.main.base hb,by obtain ⟨n,os,hn,ho⟩:=h.oth;exact ⟨n,os,hn,G0 ho hb⟩⟩
end Go.Proofs.YtehlppaidgkpaaaGreatDoor
