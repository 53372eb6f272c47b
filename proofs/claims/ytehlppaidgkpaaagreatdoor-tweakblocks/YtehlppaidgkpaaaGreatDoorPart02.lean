import Derived.Test.YtehlppaidgkpaaaGreatDoorPart00
import Derived.Deep.Draws
import Derived.Deep.Upon
import Derived.Test.YtehlppaidgkpaaaGreatDoorProg
import Derived.WalkKit
import Derived.Deep.QuietTactic
import Derived.BigQuiet
import Derived.Laws.BitsAllLaws
import Derived.Laws.AppendOwnNone
import Derived.Deep.DeepMust
namespace Go.Proofs.YtehlppaidgkpaaaGreatDoor
open Go.RowKit
structure Sm (w w':World):Prop where
 os:w'.os=w.os
 tape:w'.tape=w.tape
 output:w'.output=w.output
 heap:w'.heap=w.heap
theorem Sm.refl (w:World):Sm w w:=⟨rfl,rfl,rfl,rfl⟩
theorem Sm.cell {w v:World} (h:Sm w v) (p:Addr):v.cell? p=w.cell? p:=World.cell?_of_block (by rw[h.heap])
theorem Sm.frozen {w v:World} (h:Sm w v) (p:Addr):v.frozen? p=w.frozen? p:=World.frozen?_of_block (by rw[h.heap])
theorem Yu (b:Nat):∀ (vs:List Value) (o:Nat) (w:World),(w.setCells b o vs).os=w.os
 | [],_,_=>rfl
 | v::r,o,w=>by rw[World.setCells,Yu b r (o+1)];rfl
theorem Yd (b:Nat):∀ (vs:List Value) (o:Nat) (w:World),(w.setCells b o vs).tape=w.tape
 | [],_,_=>rfl
 | v::r,o,w=>by rw[World.setCells,Yd b r (o+1)];rfl
theorem Z7 (b:Nat):∀ (vs:List Value) (o:Nat) (w:World),(w.setCells b o vs).output=w.output
 | [],_,_=>rfl
 | v::r,o,w=>by rw[World.setCells,Z7 b r (o+1)];rfl
structure Touch (w w':World) (g o n:Nat):Prop where
 os:w'.os=w.os
 tape:w'.tape=w.tape
 output:w'.output=w.output
 size:w.heap.size≤w'.heap.size
 block:∀ k,k<w.heap.size→k≠g→w'.heap[k]?=w.heap[k]?
 cell:∀ j,(j<o∨o+n≤j)→w'.cell? ⟨g,j,none⟩=w.cell? ⟨g,j,none⟩
 there:∀ o' n',w.there g o' n'→w'.there g o' n'
theorem Sm.touch {w v:World} (h:Sm w v) (g o n:Nat):Touch w v g o n:=
 ⟨h.os,h.tape,h.output,by rw[h.heap];exact Nat.le_refl _,fun k _ _=>by rw[h.heap],fun j _=>h.cell _,fun o' n' ht j hj=>by rw[h.cell,h.frozen];exact ht j hj⟩
theorem Touch.refl (w:World) (g o n:Nat):Touch w w g o n:=(Sm.refl w).touch g o n
theorem Touch.trans {a b c:World} {g o n:Nat} (h:Touch a b g o n) (k:Touch b c g o n):Touch a c g o n:=
 ⟨k.os.trans h.os,k.tape.trans h.tape,k.output.trans h.output,Nat.le_trans h.size k.size,fun i hi hne=>(k.block i (Nat.lt_of_lt_of_le hi h.size) hne).trans (h.block i hi hne),fun j hj=>(k.cell j hj).trans (h.cell j hj),fun o' n' ht=>k.there o' n' (h.there o' n' ht)⟩
theorem Touch.setCells {a b:World} {g o n:Nat} (h:Touch a b g o n) (o':Nat) (vs:List Value) (h1:o≤o') (h2:o'+vs.length≤o+n):Touch a (b.setCells g o' vs) g o n:=by
 refine h.trans ⟨?_,?_,?_,?_,?_,?_,?_⟩
 ·exact Yu g vs o' b
 ·exact Yd g vs o' b
 ·exact Z7 g vs o' b
 ·rw[Yf];exact Nat.le_refl _
 ·intro k hk hne
  exact World.heap_setCells_other b g o' vs hk hne
 ·intro j hj
  exact World.cell?_setCells_out g vs o' b ⟨g,j,none⟩ (fun _ _=>by rcases hj with h | h;exact .inl (by show j<o';omega);exact .inr (by show o'+vs.length≤j;omega))
 ·intro o2 n2 ht
  exact World.there_setCells ht g o' vs
theorem Touch.setCell {a b:World} {g o n:Nat} (h:Touch a b g o n) (j:Nat) (u:Value) (h1:o≤j) (h2:j<o+n):Touch a (b.setCell ⟨g,j,none⟩ u) g o n:=
 h.setCells j [u] h1 (by simp;omega)
theorem Touch.alloc {a b:World} {g o n:Nat} (h:Touch a b g o n) (ob:Obj) (hg:g<a.heap.size):Touch a (b.alloc ob) g o n:=by
 have hs:=h.size
 refine h.trans ⟨rfl,rfl,rfl,by simp,?_,?_,?_⟩
 ·intro k hk _
  exact Below.heap_alloc b ob k hk
 ·intro j _
  exact World.cell?_alloc_past ob g j (by omega)
 ·intro o' n' ht
  exact World.there_alloc ht ob
theorem Touch.drewN {a b:World} {g o n:Nat} (h:Touch a b g o n) (m:Nat):Touch a (b.drewN m) g o n:=⟨h.os,h.tape,h.output,h.size,h.block,h.cell,h.there⟩
theorem Touch.below {a b c:World} {g o n:Nat} (h:Touch a b g o n) (k:Below b.heap.size b c) (hg:g<a.heap.size):Touch a c g o n:=by
 have hs:=h.size
 refine h.trans ⟨k.os,k.tape,k.output,k.size,fun i hi _=>k.block i hi,fun j _=>k.cell (p:=⟨g,j,none⟩) (show g<_ by omega),?_⟩
 intro o' n' ht j hj
 rw[k.cell (p:=⟨g,o'+j,none⟩) (show g<_ by omega),k.frozen (p:=⟨g,o'+j,none⟩) (show g<_ by omega)]
 exact ht j hj
theorem Touch.toBelow {a b:World} {g o n B:Nat} (h:Touch a b g o n) (hg:B≤g) (hB:B≤a.heap.size):Below B a b:=
 ⟨h.os,h.tape,h.output,h.size,fun k hk=>h.block k (by omega) (by omega)⟩
theorem Touch.far {a b:World} {g o n:Nat} (h:Touch a b g o n) {p:Addr} (hp:p.block<a.heap.size) (hne:p.block≠g):b.cell? p=a.cell? p:=World.cell?_of_block (h.block p.block hp hne)
theorem Touch.farFrozen {a b:World} {g o n:Nat} (h:Touch a b g o n) {p:Addr} (hp:p.block<a.heap.size) (hne:p.block≠g):b.frozen? p=a.frozen? p:=World.frozen?_of_block (h.block p.block hp hne)
def Zi (w:World) (v:Value) (zs:List Int):Prop:=
 ∃ a cap,v=.slice a zs.length cap∧zs.length≤cap∧cap≤maxLen∧(a=none→cap=0) ∧
  (zs=[]∨∃ b off,a=some ⟨b,off,none⟩∧∀ i,i<zs.length→w.cell? ⟨b,off+i,none⟩=some (.int .u8 (zs.getD i 0)))
theorem B2 {a b:Bool} (h:a=b):Ending.returned (.bool a)=.returned (.bool b):=by rw[h]
theorem Es {xs ys:List Int} {n:Nat} (hx:xs.length=n) (hy:ys.length=n) (h:∀ j,j<n→xs.getD j 0=ys.getD j 0):xs=ys:=by
 apply List.ext_getElem (by omega)
 intro i h1 h2
 have:=h i (by omega)
 simpa [List.getD,List.getElem?_eq_getElem h1,List.getElem?_eq_getElem h2] using this
set_option maxHeartbeats 400000 in
theorem S5 (b1 o1 b2 o2 c1 c2 n:Nat) (xs ys:List Int) (w:World) (hx:xs.length=n) (hy:ys.length=n) (hn:n≤9223372036854775807)
  (h1:∀ i,i<n→w.cell? ⟨b1,o1+i,none⟩=some (.int .u8 (xs.getD i 0)))
  (h2:∀ i,i<n→w.cell? ⟨b2,o2+i,none⟩=some (.int .u8 (ys.getD i 0))) :
  Calls Tryz.prog 16 #[.slice (some ⟨b1,o1,none⟩) n c1,.slice (some ⟨b2,o2,none⟩) n c2] w fun e w'=>e=.returned (.bool (decide (xs=ys)))∧∃ m,w'=w.drewN m:=by
 have HX:Hid (xs.length=n):=hx
 have HY:Hid (ys.length=n):=hy
 clear hx hy
 go_enter Tryz.func16,Tryz.ntmps16
 go_wp2
 go_loopw [5] (fun i wr=>∃ k:Nat,k≤n∧i=.int .i64 k∧Hid (∀ j,j<k→xs.getD j 0=ys.getD j 0)∧∃ m,wr=w.drewN m) (fun i _=>n-(intOf i).toNat)
 case atStart=>exact ⟨0,Nat.zero_le _,rfl,(fun j hj=>by omega),0,rfl⟩
 case round=>
  obtain ⟨k,hk,rfl,HE,m,rfl⟩:=hrel
  by_cases hlt:k<n
  ·have g1:=h1 k hlt
   have g2:=h2 k hlt
   clear h1 h2
   go_wp2
   go_quiet (fail)
   go_wp2
   ·have hne:(xs[k]?.getD 0 != ys[k]?.getD 0)=true:=by assumption
    go_ret
    refine ⟨B2 ?_,_,World.drewN_drewN _ _ _⟩
    have:xs≠ys:=by
     intro h
     subst h
     simp at hne
    simp [this]
   ·have heq:(xs[k]?.getD 0 != ys[k]?.getD 0)=false:=by assumption
    go_roundw
    case rel=>
     refine ⟨k+1,by omega,by go_num,?_,_,rfl⟩
     intro j hj
     by_cases hjk:j<k
     ·exact HE.out j hjk
     ·obtain rfl:j=k:=by omega
      simpa using heq
    case measure=>simp [intOf];omega
  ·go_wp2
   go_ret
   have:=Es HX.out HY.out (fun j hj=>HE.out j (by omega))
   exact ⟨B2 (by simp [this]),_,rfl⟩
theorem Dr (a1 a2:Option Addr) (c1 c2:Nat) (w:World) :
  Calls Tryz.prog 16 #[.slice a1 0 c1,.slice a2 0 c2] w fun e w'=>e=.returned (.bool true)∧∃ m,w'=w.drewN m:=by
 go_enter Tryz.func16,Tryz.ntmps16
 go_wp2
 go_loop [5] (fun i=>i=.int .i64 0) (fun _=>0)
 case atStart=>rfl
 case round=>
  subst hrel
  go_wp2
  go_ret
  exact ⟨rfl,0,rfl⟩
theorem By (a1 a2:Option Addr) (l1 l2 c1 c2:Nat) (w:World) (h:l1≠l2) :
  Calls Tryz.prog 16 #[.slice a1 l1 c1,.slice a2 l2 c2] w fun e w'=>e=.returned (.bool false)∧∃ m,w'=w.drewN m:=by
 have hb:((l1:Int) != (l2:Int))=true:=by rw[bne_iff_ne];omega
 clear h
 go_enter Tryz.func16,Tryz.ntmps16
 go_wp2
 go_ret
 exact ⟨rfl,0,rfl⟩
theorem U6 (v1 v2:Value) (xs ys:List Int) (w:World) (h1:Zi w v1 xs) (h2:Zi w v2 ys) :
  Calls Tryz.prog 16 #[v1,v2] w fun e w'=>e=.returned (.bool (decide (xs=ys)))∧∃ m,w'=w.drewN m:=by
 obtain ⟨a1,c1,rfl,hl1,hm1,_,k1⟩:=h1
 obtain ⟨a2,c2,rfl,hl2,hm2,_,k2⟩:=h2
 by_cases hl:xs.length=ys.length
 ·rcases k1 with rfl | ⟨b1,o1,rfl,g1⟩
  ·have:ys=[]:=List.eq_nil_of_length_eq_zero (by simpa using hl.symm)
   subst this
   simpa using Dr a1 a2 c1 c2 w
  ·rcases k2 with rfl | ⟨b2,o2,rfl,g2⟩
   ·have:xs=[]:=List.eq_nil_of_length_eq_zero (by simpa using hl)
    subst this
    simpa using Dr _ a2 c1 c2 w
   ·rw[←hl]
    exact S5 b1 o1 b2 o2 c1 c2 xs.length xs ys w rfl hl.symm (by unfold maxLen at hm1;omega) g1 (by rw[hl];exact g2)
 ·have hne:xs≠ys:=fun h=>hl (by rw[h])
  have hd:decide (xs=ys)=false:=by simpa using hne
  rw[hd]
  exact By a1 a2 _ _ c1 c2 w hl
def Zg (zs:List Int):Prop:=∀ i,0≤zs.getD i 0∧zs.getD i 0<256
theorem Tryz.info5:(Tryz.prog.info? 5).map (fun i=>(i.zero,i.size,i.bytes))=some (some (.int .u8 0),1,1):=by kernel_rfl
def marks (k:Nat):List Int:=(List.range k).map fun (i:Nat)=>(181+(i:Int))
theorem Fy (k:Nat):marks (k+1)=marks k++[(181+(k:Int))]:=by simp [marks,List.range_succ]
def Za (zs:List Int):List Value:=zs.map (Value.int .u8)
theorem Xm (a b:List Int):Za (a++b)=Za a++Za b:=by simp [Za]
theorem Zz (a:List Int):(Za a).length=a.length:=by simp [Za]
theorem X1 (a:List Int):∀ u∈Za a,u.oneCell'=true:=by
 intro u hu
 obtain ⟨_,_,rfl⟩:=List.mem_map.1 hu
 rfl
theorem Qw (a:List Int) (w:World) (b off:Nat) (h:∀ i,i<a.length→w.cell? ⟨b,off+i,none⟩=some (.int .u8 (a.getD i 0))) :
  ∀ j u,(Za a)[j]?=some u→w.cell? ((⟨b,off,none⟩:Addr).add j)=some u:=by
 intro j u hu
 simp only[Za,List.getElem?_map,Option.map_eq_some_iff] at hu
 obtain ⟨z,hz,rfl⟩:=hu
 have hj:j<a.length:=(List.getElem?_eq_some_iff.1 hz).1
 have:=h j hj
 rw[List.getD_eq_getElem?_getD,hz] at this
 rw[Addr.add_lit]
 simpa using this
set_option maxHeartbeats 800000 in
set_option maxRecDepth 100000 in
theorem Tt (x:Addr) (n cap:Nat) (zs:List Int) (w:World) (hz:Hid (zs.length=n)) (hn:n+70≤140737488355328)
  (h1:Hid (∀ j u,(Za zs)[j]?=some u→w.cell? (x.add j)=some u)) :
  Calls Tryz.prog 12 #[.slice (some x) n cap] w fun e w'=>∃ g c,e=.returned (.slice (some ⟨g,0,none⟩) n c)∧w'.ownsRow w.heap.size 5 1 (.slice (some ⟨g,0,none⟩) (n+70) c) (n+70) (Za (zs++marks 70))∧Below w.heap.size w w':=by
 obtain ⟨i0,hi,hz0,hz1,hz2⟩:=info_parts Tryz.info5
 go_enter Tryz.func12,Tryz.ntmps12
 go_wp2_with (first
  | (at_builtin;go_must (refine wpList_append_own _ rfl (.tmp 6) (.tmp 7) 22 rfl w.heap.size 5 i0 (.int .u8 0) 1 1 Tryz.underlying22 hi hz0 hz1 hz2 rfl (by decide) _ 0 [] rfl (World.ownsRow_nil _ _ _ _) x n cap (Za zs) rfl ?_ h1.out (X1 zs) ?_ ?_ (Nat.le_refl _) ?_)))
 ·rw[Zz,hz.out,Nat.mul_one]
 ·unfold maxLen;omega
 ·omega
 intro v1 w1 hown hgrow hnil
 have hb0:Below w.heap.size w w1:=(Below.refl _ _).grown hgrow (Nat.le_refl _) (by intro k hk;cases hk)
 have HB:Hid (Below w.heap.size w w1):=hb0
 clear hgrow hb0 hnil
 go_wp2
 go_loopw [3,4] (fun v i wr=>∃ k:Nat,k≤70∧i=.int .i64 k∧wr.ownsRow w.heap.size 5 1 v (n+k) (Za (zs++marks k))∧Hid (Below w.heap.size w wr)) (fun _ i _=>70-(intOf i).toNat)
 case atStart=>exact ⟨0,by omega,rfl,by simpa [marks] using hown,HB⟩
 case round=>
  obtain ⟨k,hk,rfl,hown2,HB2⟩:=hrel
  clear hown HB
  by_cases hlt:k<70
  ·go_wp2_with (first
    | (at_builtin;go_must (refine wpList_append_own _ rfl (.tmp 13) (.tmp 17) 22 rfl w.heap.size 5 i0 (.int .u8 0) 1 1 Tryz.underlying22 hi hz0 hz1 hz2 rfl (by decide) _ _ _ rfl (hown2.alloc _) ⟨wr.heap.size,0,none⟩ 1 1 [.int .u8 (181+(k:Int))] rfl rfl ?_ ?_ ?_ ?_ ?_ ?_)))
   ·intro j u hj
    match j,hj with
    | 0,hj=>simp at hj;subst hj;simp [Addr.add]
   ·intro u hu;simp at hu;subst hu;rfl
   ·unfold maxLen;omega
   ·omega
   ·have:=HB2.out.size;simp;omega
   intro v2 w2 hown3 hgrow2 hnil2
   have HB3:Hid (Below w.heap.size w w2):=(HB2.out.alloc HB2.out.size _).grown hgrow2 (by have:=HB2.out.size;simp;omega) (fun q hq=>(hown2.lt q hq).1)
   have ho3:w2.ownsRow w.heap.size 5 1 v2 (n+(k+1)) (Za (zs++marks (k+1))):=by
    rw[Fy,←List.append_assoc,Xm]
    simpa [Za,Nat.add_assoc] using hown3
   have HO3:Hid (w2.ownsRow w.heap.size 5 1 v2 (n+(k+1)) (Za (zs++marks (k+1)))):=ho3
   clear ho3 hown3 hgrow2 hnil2 hown2 HB2
   go_wp2
   go_roundw
   case rel=>exact ⟨k+1,by omega,by go_num,HO3,HB3⟩
   case measure=>simp [intOf];omega
  ·obtain rfl:k=70:=by omega
   obtain ⟨hlen,hcase⟩:=hown2
   rcases hcase with ⟨_,hc⟩ | ⟨g,c,cur,rfl,hg1,hg2,hg3,hg4,hg5,hg6⟩
   ·omega
   have HO:Hid (wr.ownsRow w.heap.size 5 1 (.slice (some ⟨g,0,none⟩) (n+70) c) (n+70) (Za (zs++marks 70))):=⟨hlen,.inr ⟨g,c,cur,rfl,hg1,hg2,hg3,hg4,hg5,hg6⟩⟩
   clear hlen hg1 hg2 hg5 hg6 hlt
   unfold maxLen at hg4
   go_wp2
   go_ret
   exact ⟨g,c,rfl,HO,HB2⟩
set_option maxHeartbeats 800000 in
set_option maxRecDepth 100000 in
theorem Ey (w:World) :
  Calls Tryz.prog 12 #[.slice none 0 0] w fun e w'=>∃ g c,e=.returned (.slice (some ⟨g,0,none⟩) 0 c)∧w'.ownsRow w.heap.size 5 1 (.slice (some ⟨g,0,none⟩) 70 c) 70 (Za (marks 70))∧Below w.heap.size w w':=by
 obtain ⟨i0,hi,hz0,hz1,hz2⟩:=info_parts Tryz.info5
 go_enter Tryz.func12,Tryz.ntmps12
 go_wp2_with (first
  | (at_builtin;go_must (refine wpList_append_own_none rfl (.tmp 6) (.tmp 7) 22 rfl w.heap.size 5 i0 1 Tryz.underlying22 hi _ 0 [] rfl (World.ownsRow_nil _ _ _ _) rfl ?_)))
 go_wp2
 go_loopw [3,4] (fun v i wr=>∃ k:Nat,k≤70∧i=.int .i64 k∧wr.ownsRow w.heap.size 5 1 v k (Za (marks k))∧Hid (Below w.heap.size w wr)) (fun _ i _=>70-(intOf i).toNat)
 case atStart=>exact ⟨0,by omega,rfl,World.ownsRow_nil _ _ _ _,Below.refl _ _⟩
 case round=>
  obtain ⟨k,hk,rfl,hown2,HB2⟩:=hrel
  by_cases hlt:k<70
  ·go_wp2_with (first
    | (at_builtin;go_must (refine wpList_append_own _ rfl (.tmp 13) (.tmp 17) 22 rfl w.heap.size 5 i0 (.int .u8 0) 1 1 Tryz.underlying22 hi hz0 hz1 hz2 rfl (by decide) _ _ _ rfl (hown2.alloc _) ⟨wr.heap.size,0,none⟩ 1 1 [.int .u8 (181+(k:Int))] rfl rfl ?_ ?_ ?_ ?_ ?_ ?_)))
   ·intro j u hj
    match j,hj with
    | 0,hj=>simp at hj;subst hj;simp [Addr.add]
   ·intro u hu;simp at hu;subst hu;rfl
   ·unfold maxLen;omega
   ·omega
   ·have:=HB2.out.size;simp;omega
   intro v2 w2 hown3 hgrow2 hnil2
   have HB3:Hid (Below w.heap.size w w2):=(HB2.out.alloc HB2.out.size _).grown hgrow2 (by have:=HB2.out.size;simp;omega) (fun q hq=>(hown2.lt q hq).1)
   have ho3:w2.ownsRow w.heap.size 5 1 v2 (k+1) (Za (marks (k+1))):=by
    rw[Fy,Xm]
    simpa [Za] using hown3
   have HO3:Hid (w2.ownsRow w.heap.size 5 1 v2 (k+1) (Za (marks (k+1)))):=ho3
   clear ho3 hown3 hgrow2 hnil2 hown2 HB2
   go_wp2
   go_roundw
   case rel=>exact ⟨k+1,by omega,by go_num,HO3,HB3⟩
   case measure=>simp [intOf];omega
  ·obtain rfl:k=70:=by omega
   obtain ⟨hlen,hcase⟩:=hown2
   rcases hcase with ⟨_,hc⟩ | ⟨g,c,cur,rfl,hg1,hg2,hg3,hg4,hg5,hg6⟩
   ·omega
   have HO:Hid (wr.ownsRow w.heap.size 5 1 (.slice (some ⟨g,0,none⟩) 70 c) 70 (Za (marks 70))):=⟨hlen,.inr ⟨g,c,cur,rfl,hg1,hg2,hg3,hg4,hg5,hg6⟩⟩
   clear hlen hg1 hg2 hg5 hg6 hlt
   unfold maxLen at hg4
   go_wp2
   go_ret
   exact ⟨g,c,rfl,HO,HB2⟩
end Go.Proofs.YtehlppaidgkpaaaGreatDoor
namespace Go.Proofs.YtehlppaidgkpaaaGreatDoor.Dg
open Go.RowKit
def Vu (h:Int) (f:Value) (st half:List Int) (fed:Int):List Value:=
 .int .i64 h::f::(st.map (Value.int .u64)++(half.map (Value.int .u8)++[.int .u64 fed]))
def Cg:List Value:=Vu 0 .nilFunc (List.replicate 8 0) (List.replicate 128 0) 0
def Q3 (h:Int):List Value:=Vu h .nilFunc (List.replicate 8 0) (List.replicate 128 0) 0
theorem W5 (h:Int):(Q3 h).length=139:=by simp [Q3,Vu]
theorem Hx:Cg.length=139:=by simp [Cg,Vu]
theorem Ut (h:Int):(Q3 h).toArray.all (·.oneCell')=true:=by kernel_rfl
theorem Vf:(Tryz.prog.info? 141).map (·.size)=some 139:=by kernel_rfl
theorem Za0 (h:Int):Tryz.zeroCells141.setIfInBounds 0 (.int .i64 h)=(Q3 h).toArray:=by kernel_rfl
theorem Wc:Tryz.zeroCells141=Cg.toArray:=by kernel_rfl
theorem Ro (h:Int):(Q3 h).toArray.size=139:=by simp [W5]
theorem Gw:Cg.toArray.size=139:=by simp [Hx]
def Yg (h:Int):Int:=if h=224∨h=256 then 64 else if h=384∨h=512 then 128 else 0
set_option maxHeartbeats 400000 in
theorem Xa (h:Int) (w:World):Calls Tryz.prog 91 #[.int .i64 h] w fun e w'=>e=.returned (.int .i64 (Yg h))∧w'=w:=by
 by_cases h1:h=224
 ·subst h1
  go_enter Tryz.func91,Tryz.ntmps91
  go_wp2
  go_ret
  exact ⟨rfl,rfl⟩
 by_cases h2:h=256
 ·subst h2
  go_enter Tryz.func91,Tryz.ntmps91
  go_wp2
  go_ret
  exact ⟨rfl,rfl⟩
 by_cases h3:h=384
 ·subst h3
  go_enter Tryz.func91,Tryz.ntmps91
  go_wp2
  go_ret
  exact ⟨rfl,rfl⟩
 by_cases h4:h=512
 ·subst h4
  go_enter Tryz.func91,Tryz.ntmps91
  go_wp2
  go_ret
  exact ⟨rfl,rfl⟩
 have hb:Yg h=0:=by simp [Yg,h1,h2,h3,h4]
 rw[hb]
 clear hb
 have e1:(h==224)=false:=by simpa using h1
 have e2:(h==256)=false:=by simpa using h2
 have e3:(h==384)=false:=by simpa using h3
 have e4:(h==512)=false:=by simpa using h4
 clear h1 h2 h3 h4
 go_enter Tryz.func91,Tryz.ntmps91
 go_wp2
 go_ret
 exact ⟨rfl,rfl⟩
theorem Tryz.info5:(Tryz.prog.info? 5).map (fun i=>(i.zero,i.size,i.bytes))=some (some (.int .u8 0),1,1):=by kernel_rfl
def Za (zs:List Int):List Value:=zs.map (Value.int .u8)
theorem Zz (a:List Int):(Za a).length=a.length:=by simp [Za]
theorem X1 (a:List Int):∀ u∈Za a,u.oneCell'=true:=by
 intro u hu
 obtain ⟨_,_,rfl⟩:=List.mem_map.1 hu
 rfl
theorem Qw (a:List Int) (w:World) (b off:Nat) (h:∀ i,i<a.length→w.cell? ⟨b,off+i,none⟩=some (.int .u8 (a.getD i 0))) :
  ∀ j u,(Za a)[j]?=some u→w.cell? ((⟨b,off,none⟩:Addr).add j)=some u:=by
 intro j u hu
 simp only[Za,List.getElem?_map,Option.map_eq_some_iff] at hu
 obtain ⟨z,hz,rfl⟩:=hu
 have hj:j<a.length:=(List.getElem?_eq_some_iff.1 hz).1
 have:=h j hj
 rw[List.getD_eq_getElem?_getD,hz] at this
 rw[Addr.add_lit]
 simpa using this
end Go.Proofs.YtehlppaidgkpaaaGreatDoor.Dg
