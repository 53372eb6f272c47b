import Derived.Test.YtehlppaidgkpaaaGreatDoorNvx
import Derived.Test.YtehlppaidgkpaaaGreatDoorPart28
import Derived.Test.YtehlppaidgkpaaaGreatDoorPart10
import Derived.Deep.RegionHeld3
import Derived.Maps.AppendAt
import Derived.Test.YtehlppaidgkpaaaGreatDoorNwx
import Derived.Test.YtehlppaidgkpaaaGreatDoorPart40
import Derived.Test.YtehlppaidgkpaaaGreatDoorPart44
import Derived.Test.YtehlppaidgkpaaaGreatDoorPart32
import Derived.Test.YtehlppaidgkpaaaGreatDoorPart41
import Derived.Deep.Cut
import Derived.Test.YtehlppaidgkpaaaGreatDoorPart39
import Derived.Test.YtehlppaidgkpaaaGreatDoorPart43
import Derived.Test.YtehlppaidgkpaaaGreatDoorPart50
namespace Go.Proofs.YtehlppaidgkpaaaGreatDoor
open Go.RowKit
set_option linter.unusedVariables false
set_option linter.unusedSimpArgs false
theorem Cd:∀ i:Fin 3,∀ k:Fin 17,∀ j:Fin 52,j.1<1+17*i.1+k.1→spN j.1≠sxN i.1 k.1:=by decide +kernel
theorem Zcr (i k:Nat) (hi:i<3) (hk:k<17) (v:Value) (zs:List Int) (w:World) (hv:Zf w v zs) (hb:Zj zs) (hl:zs.length=mK k*(16+8*i)+mM k) (hP:Pow w) (hrc:RC w) (Φ:World→Nat→Value→Value→Prop) (Ψ:World→Nat→Value→Value→Value→Prop) (hΦ:Hid (∀ u u' s o x,Oc u u'→Φ u s o x→Φ u' s o x)) (hΨ:Hid (∀ u u' sh a b c,Oc u u'→Ψ u sh a b c→Ψ u' sh a b c))
  (HNB:Hid (mB k=.nilFunc→∀ u sh,Φ u sh (.slice none 0 0) .nilFunc))
  (HBG:Hid (∀ bg,mB k=fV bg→∀ B sh kv mp u,Below w.heap.size w u→w.heap.size≤B→B≤u.heap.size→ShA B u sh (sxN i k) (mS k) (16+8*i) zs kv mp (.slice none 0 0)→Calls Tryz.prog bg #[.pointer (some ⟨sh,0,none⟩)] u fun e u'=>Hid (Lh B sh (sxN i k) (mS k) (16+8*i) zs kv mp Φ u e u')))
  (HBU:Hid (∀ fv B sh kv mp ov u,(fv=.nilFunc∨∃ fn xs ys,fv=.func (.func fn) xs ys)→Φ u sh ov fv→Below w.heap.size w u→w.heap.size≤B→B≤u.heap.size→ShA B u sh (sxN i k) (mS k) (16+8*i) zs kv mp ov→(∃ n os,n≤1∧u.ownsRow B 71 1 ov n os)→Calls Tryz.prog (mU k) #[.pointer (some ⟨sh,0,none⟩),fv] u fun e u'=>Hid (Lg B sh (sxN i k) (mS k) (16+8*i) zs kv mp Ψ fv u e u'))) :
  Calls Tryz.prog 26 #[.string (sxN i k),v] w fun e w'=>Lf w (sxN i k) (mS k) (16+8*i) zs Ψ e w':=by
 have q8:16+8*i=4*(4+2*i):=by omega
 have hpos:1<w.heap.size:=World.block_lt_of_cell? w ⟨1,0,none⟩ (hrc 0 (by decide))
 have hm1:=M4 k
 have hm2:=M3 k
 have hx:mK k*(16+8*i)≤2*32:=Nat.mul_le_mul hm1 (by omega)
 have hk1:1≤mK k:=by
  have q:∀ k,k<17→1≤mK k:=by decide
  exact q k hk
 have hx2:16+8*i≤mK k*(16+8*i):=Nat.le_mul_of_pos_left _ hk1
 have hf:∀ j,j<1+17*i+k→spN j≠sxN i k:=fun j hj=>Cd ⟨i,hi⟩ ⟨k,hk⟩ ⟨j,by omega⟩ hj
 refine L9 (sxN i k) (nmB k) (16+8*i) (mK k) (mM k) (mS k) (mU k) (mB k) v zs w Φ Ψ hΦ hΨ ?_ hv hm1 (by omega) hm2 hl ?_ ?_ (Rt k hk) ?_ HNB HBG HBU
 ·rcases Tw k hk with q | ⟨bg,_,q⟩
  ·exact .inl q
  ·exact .inr ⟨bg,q⟩
 ·have q:=In (sxN i k) (1+17*i+k) w hP (by omega) (Km i k hk) hf
  rw[Mp i k hk] at q
  exact q
 ·intro u hu
  have q:=Sx (sxN i k) (nmB k) (4+2*i) (mK k) (mM k) (mS k) (mB k) (fV (mU k)) v zs u (Zas k) rfl (hv.below hu) hb (by omega) (by omega) (by omega) (hrc.belowB hu hpos) (Nat.lt_of_lt_of_le hpos hu.size)
  rw[←q8] at q
  exact q.mono fun e u' h=>h
 ·intro bg hbg
  rcases Tw k hk with q | ⟨bg',hb',q⟩
  ·rw[q] at hbg;cases hbg
  ·rw[q] at hbg
   obtain rfl:bg'=bg:=by injection hbg with e;injection e
   exact R6 bg' hb'
def Fq (u:World) (x:Nat×Nat×(Nat→Nat)):Prop:=Zm u x.1 x.2.1 x.2.2∧∃ R:Array Value,u.heap[x.1]?=some (.cells R 135 (0,0))
theorem Fq.keep {u u':World} {x:Nat×Nat×(Nat→Nat)} (h:Fq u x) (e:u'.heap[x.1]?=u.heap[x.1]?) (hs:u.heap.size≤u'.heap.size):Fq u' x:=⟨h.1.sameK e hs,by obtain ⟨R,hR⟩:=h.2;exact ⟨R,e.trans hR⟩⟩
def esK (zs:List Int):Nat→Nat:=Yn 8 (Ql (Dg.Qd 256 zs))
def Bgf (A:Nat) (zs:List Int) (k:Nat) (u:World) (ov:Value) (LE:List (Nat×Nat×(Nat→Nat))) (fn:Nat) (cs:Array Value):Prop:=
 (k≠13∧k≠6∧LE=[]∧fn=sbN k∧cs=#[])∨((k=13∨k=6)∧∃ ge bx,LE=[(ge,14,esK zs)]∧fn=187∧cs=#[.pointer (some ⟨bx,0,none⟩)]∧A≤ge∧A≤bx∧Fq u (ge,14,esK zs)∧Bx u bx 71 [.pointer (some ⟨ge,0,none⟩)]∧ov.ownBlock≠some bx)
theorem Bgf.keep {A:Nat} {zs:List Int} {k:Nat} {u u':World} {ov:Value} {LE:List (Nat×Nat×(Nat→Nat))} {fn:Nat} {cs:Array Value} (h:Bgf A zs k u ov LE fn cs) (hs:u.heap.size≤u'.heap.size) (h1:∀ x,Fq u x→u'.heap[x.1]?=u.heap[x.1]?) (h2:∀ b v,Bx u b 71 [v]→ov.ownBlock≠some b→u'.heap[b]?=u.heap[b]?):Bgf A zs k u' ov LE fn cs:=by
 rcases h with h | ⟨h0,ge,bx,a1,a2,a3,a4,a5,a6,a7,a8⟩
 ·exact .inl h
 ·exact .inr ⟨h0,ge,bx,a1,a2,a3,a4,a5,a6.keep (h1 _ a6) hs,a7.keep (h2 bx _ a7 a8),a8⟩
theorem Bgf.nov {A:Nat} {zs:List Int} {k:Nat} {u:World} {ov:Value} {LE:List (Nat×Nat×(Nat→Nat))} {fn:Nat} {cs:Array Value} (h:Bgf A zs k u ov LE fn cs):Bgf A zs k u (.slice none 0 0) LE fn cs:=by
 rcases h with h | ⟨h0,ge,bx,a1,a2,a3,a4,a5,a6,a7,a8⟩
 ·exact .inl h
 ·exact .inr ⟨h0,ge,bx,a1,a2,a3,a4,a5,a6,a7,by simp [Value.ownBlock]⟩
def PhB (A:Nat) (zs:List Int) (k:Nat) (u:World) (sh:Nat) (ov fv:Value):Prop:=∃ LE fn cs shc g,fv=.func (.func fn) #[] cs∧Bgf A zs k u ov LE fn cs∧Bx u sh 115 shc∧shc[4]?=some (.pointer (some ⟨g,0,none⟩))∧∀ x,x∈LE→g<x.1
theorem PhB.oc {A:Nat} {zs:List Int} {k:Nat} {u u':World} {sh:Nat} {ov fv:Value} (ho:Oc u u') (h:PhB A zs k u sh ov fv):PhB A zs k u' sh ov fv:=by
 obtain ⟨hz,c,cs0,fr,hc,hk⟩:=ho
 obtain ⟨LE,fn,cs,shc,g,h1,h2,h3,h4,h5⟩:=h
 refine ⟨LE,fn,cs,shc,g,h1,h2.keep hz (fun x hx=>?_) (fun b v hb _=>hk b (Z4 hb hc (by decide))),h3.keep (hk sh (Z4 h3 hc (by decide))),h4,h5⟩
 obtain ⟨R,hR⟩:=hx.2
 exact hk _ (Z4 hR hc (by decide))
theorem Zc8 (A:Nat) (i k:Nat) (hi:i<3) (hk:k=2∨k=3∨k=4∨k=10∨k=11∨k=12∨k=15∨k=16∨k=13∨k=6) (bg:Nat) (hbg:mB k=fV bg) (S:ByteArray) (st:Nat) (zs:List Int) (B sh:Nat) (kv:Value) (mp:Option Addr) (u:World) (hA:A≤B) (hB:B≤u.heap.size) (h:ShA B u sh S st (16+8*i) zs kv mp (.slice none 0 0)) (hn:zs.length≤1000) (hT:Dg.Tables u) (hrc:RC u) :
  Calls Tryz.prog bg #[.pointer (some ⟨sh,0,none⟩)] u fun e u'=>Hid (Lh B sh S st (16+8*i) zs kv mp (PhB A zs k) u e u'):=by
 obtain ⟨g,nk,hm,hgB,_,_,hgK,R,hR⟩:∃ g nk,mp=some ⟨g,0,none⟩∧B≤g∧(nk=4∨nk=6∨nk=8)∧16+8*i=4*nk∧Zm u g (nk+6) (Yn nk (Ql (zs.take (16+8*i))))∧∃ R:Array Value,u.heap[g]?=some (.cells R 135 (0,0)):=by
  rcases h.main with ⟨h0,_⟩ | h
  ·omega
  ·exact h
 by_cases he:k=13∨k=6
 ·obtain rfl:bg=153:=by rcases he with rfl | rfl<;>(injection hbg with e;injection e with e;exact e.symm)
  refine (Fn B sh S st (16+8*i) zs kv mp u h hB hn hT hrc).mono fun e u' hh=>?_
  obtain ⟨ge,bx,ov',rfl,p1,p2,p3,p4,p5,p6,p7,p8,p9⟩:=hh.out
  refine ⟨187,#[],_,ov',rfl,p6,p7,p8,[(ge,14,esK zs)],187,_,_,g,rfl,.inr ⟨he,ge,bx,rfl,rfl,rfl,by omega,by omega,⟨p3,p4⟩,p5,?_⟩,p6.box,by rw[hm];rfl,?_⟩
  ·exact p9
  ·intro x hx
   obtain rfl:x=(ge,14,esK zs):=by simpa using hx
   have:=hgK.ciph.here
   show g<ge
   omega
 ·have hx:bg=sbG k:=by
   rcases hk with rfl | rfl | rfl | rfl | rfl | rfl | rfl | rfl | rfl | rfl<;>first | exact absurd (by decide) he | (injection hbg with e;injection e with e;rw[←e];rfl)
  rw[hx]
  refine (Zca k _ u).mono ?_
  rintro e u' ⟨rfl,hw⟩
  obtain rfl:=hw.symm
  exact ⟨sbN k,#[],#[],.slice none 0 0,rfl,h,⟨0,[],by omega,World.ownsRow_nil _ _ _ _⟩,Fs.of_below (Below.refl _ _) hB,[],sbN k,#[],_,g,rfl,.inl ⟨fun e=>he (.inl e),fun e=>he (.inr e),rfl,rfl,rfl⟩,h.box,by rw[hm];rfl,fun x hx=>by cases hx⟩
theorem Ic {A:Nat} {w':World} {x:Nat×Nat×(Nat→Nat)} (hA:A≤x.1) (hK:Fq w' x):KlP A w'.heap.size [x] w'∧Sti A w'.heap.size [x] w' w':=by
 have e:∀ y,y∈[x]→y=x:=fun y hy=>by simpa using hy
 exact ⟨⟨fun y hy=>by rw[e y hy];exact ⟨hA,hK.1.ciph.here⟩,fun y z hy hz _=>by rw[e y hy,e z hz],fun y hy=>by rw[e y hy];exact hK.2⟩,fun y hy=>by rw[e y hy];exact hK.1,fun b _ _ _=>rfl,Nat.le_refl _⟩
theorem Ej {A:Nat} {w':World} {sh:Nat} {S:ByteArray} {st i:Nat} {zs:List Int} {kv:Value} {mp:Option Addr} {ov:Value} (h:ShA A w' sh S st (16+8*i) zs kv mp ov):∃ x:Nat×Nat×(Nat→Nat),mp=some ⟨x.1,0,none⟩∧A≤x.1∧Fq w' x:=by
 rcases h.main with ⟨h0,_⟩ | ⟨g,nk,hm,hB,_,_,hK,hR⟩
 ·omega
 ·exact ⟨(g,nk+6,Yn nk (Ql (zs.take (16+8*i)))),hm,hB,hK,hR⟩
def PsC (A:Nat) (zs:List Int) (k:Nat) (u:World) (sh:Nat) (fv sv pv:Value):Prop:=∃ LE fn cs shc g,fv=.func (.func fn) #[] cs∧Bgf A zs k u (.slice none 0 0) LE fn cs∧Bx u sh 115 shc∧shc[4]?=some (.pointer (some ⟨g,0,none⟩))∧(∀ x,x∈LE→g<x.1)∧sv=bV 177 [.pointer (some ⟨sh,0,none⟩),fv]∧pv=bV 178 [.pointer (some ⟨sh,0,none⟩),fv]
theorem PsC.oc {A:Nat} {zs:List Int} {k:Nat} {u u':World} {sh:Nat} {fv sv pv:Value} (ho:Oc u u') (h:PsC A zs k u sh fv sv pv):PsC A zs k u' sh fv sv pv:=by
 obtain ⟨hz,c,cs0,fr,hc,hk⟩:=ho
 obtain ⟨LE,fn,cs,shc,g,h1,h2,h3,h4,h5,h9,h10⟩:=h
 have hK:∀ x,Fq u x→u'.heap[x.1]?=u.heap[x.1]?:=fun x hx=>by
  obtain ⟨R,hR⟩:=hx.2
  exact hk _ (Z4 hR hc (by decide))
 exact ⟨LE,fn,cs,shc,g,h1,h2.keep hz hK (fun b v hb _=>hk b (Z4 hb hc (by decide))),h3.keep (hk sh (Z4 h3 hc (by decide))),h4,h5,h9,h10⟩
theorem Zct (i k:Nat) (hi:i<3) (hk:k=2∨k=3∨k=4∨k=6) (v:Value) (zs:List Int) (w:World) (hv:Zf w v zs) (hb:Zj zs) (hl:zs.length=16+8*i) (hP:Pow w) (hrc:RC w) (hT:Dg.Tables w) :
  Calls Tryz.prog 26 #[.string (sxN i k),v] w fun e w'=>Lf w (sxN i k) 16 (16+8*i) zs (PsC w.heap.size zs k) e w':=by
 have hpos:1<w.heap.size:=World.block_lt_of_cell? w ⟨1,0,none⟩ (hrc 0 (by decide))
 have e1:mS k=16∧mK k=1∧mM k=0∧mU k=148∧k<17∧mB k≠.nilFunc:=by rcases hk with rfl | rfl | rfl | rfl<;>exact ⟨rfl,rfl,rfl,rfl,by decide,by intro e;cases e⟩
 have q:=Zcr i k hi e1.2.2.2.2.1 v zs w hv hb (by rw[e1.2.1,e1.2.2.1,hl];omega) hP hrc (PhB w.heap.size zs k) (PsC w.heap.size zs k) (fun u u' s o x ho h=>h.oc ho) (fun u u' sh a b c ho h=>h.oc ho) (fun e=>absurd e e1.2.2.2.2.2)
  (fun bg hbg B sh kv mp u hu hB1 hB2 hA=>Zc8 w.heap.size i k hi (by rcases hk with rfl | rfl | rfl | rfl<;>decide) bg hbg _ _ zs B sh kv mp u hB1 hB2 hA (by omega) (hT.below hu (by have:=hT.size;omega)) (hrc.belowB hu hpos)) ?_
 ·rw[e1.1] at q;exact q
 ·intro fv B sh kv mp ov u _ hΦ hu hB1 hB2 hA few
  obtain ⟨LE,fn,cs,shc,g,h1,h2,h3,h4,h5⟩:=hΦ
  subst h1
  rw[e1.2.2.2.1]
  refine (Wv sh fn #[] cs u).mono ?_
  intro e u' hh
  obtain ⟨rfl,hbe⟩:=hh.out
  refine ⟨_,_,_,_,_,_,ov,rfl,hA.below hbe,Fs.of_below hbe hB2,LE,fn,cs,_,g,rfl,(h2.keep hbe.size (fun x hx=>hbe.block _ hx.1.ciph.here) (fun b v hb _=>hbe.block _ hb.lt)).nov,h3.below hbe,h4,h5,rfl,rfl⟩
def cbM (D:BitVec 128→BitVec 128) (z:Nat→BitVec 128) (a:BitVec 128):Nat→BitVec 128
 | 0=>a
 | j+1=>z j
def cbO (D:BitVec 128→BitVec 128) (z:Nat→BitVec 128) (a:BitVec 128) (j:Nat):BitVec 128:=D (z j) ^^^ cbM D z a j
theorem Rr {B:Nat} {Ks:Nat→Prop} {I:World→Prop} (hC:Cst B Ks I) (sh p q:Nat) (E:BitVec 128→BitVec 128) (a:BitVec 128) (b off cp k:Nat) (zs:List Int) (w:World) (h:CbX B Ks I sh p q a w) (HDO:DoI Ks I 214 (.pointer (some ⟨sh,0,none⟩)) E)
  (hl:zs.length=16*k) (hk0:0<k) (hl3:zs.length≤4096) (hc1:zs.length≤cp) (hb:Zj zs) (hbg:¬ KsQ Ks q b) (hz:∀ i,i<zs.length→w.cell? ⟨b,off+i,none⟩=some (.int .u8 (zs.getD i 0))) :
  Calls Tryz.prog 211 #[.slice (some ⟨b,off,none⟩) zs.length cp,.func (.func 216) #[] #[.pointer (some ⟨p,0,none⟩),.pointer (some ⟨q,0,none⟩)]] w fun e w'=>Hid (e=.returned (.slice (some ⟨w.heap.size,0,none⟩) zs.length zs.length)∧Bx w' w.heap.size 5 (bkL (fun j=>cbO E (cutV zs) a j) k)∧I w'∧Gk (KsQ Ks q) w w'):=by
 have hBw:B≤w.heap.size:=hC.size w h.inv
 have hpl:p<w.heap.size:=World.block_lt_of_cell? w _ h.cp
 have hql:q<w.heap.size:=h.bq.lt
 have hbl:b<w.heap.size:=World.block_lt_of_cell? w _ (hz 0 (by omega))
 obtain ⟨J,HJ⟩:∃ J:Nat→World→Prop,Hid (J=fun j u=>CbX B Ks I sh p q (cbM E (cutV zs) a j) u∧(∀ i,i<zs.length→u.cell? ⟨b,off+i,none⟩=some (.int .u8 (zs.getD i 0)))∧(∀ c,c<w.heap.size→¬ KsQ Ks q c→u.heap[c]?=w.heap[c]?)):=⟨_,rfl⟩
 obtain ⟨F,HF⟩:∃ F:Nat→BitVec 128,Hid (F=fun j=>cbO E (cutV zs) a j):=⟨_,rfl⟩
 have hLow:Mh w.heap.size J:=by
  rw[HJ.out]
  intro k u u' h hz hk hsz
  obtain ⟨h1,h2,h3⟩:=h
  have cc:∀ b o x,b<w.heap.size→u.cell? ⟨b,o,none⟩=some x→u'.cell? ⟨b,o,none⟩=some x:=fun b o x hb hx=>by
   rw[World.cell?_of_block (a:=⟨b,o,none⟩) (hk b hb)];exact hx
  exact ⟨⟨hC.stay u u' h1.inv (fun c hc=>hk c (by omega)) hsz,cc _ _ _ hpl h1.cp,h1.bq.keep (hk q hql),h1.pB,h1.qB,h1.ne⟩,fun i hi=>cc _ _ _ hbl (h2 i hi),fun c hc hn=>(hk c hc).trans (h3 c hc hn)⟩
 have hJ0:J 0 w:=by rw[HJ.out];exact ⟨h,hz,fun _ _ _=>rfl⟩
 refine (Mc 216 p q (fun args w=>Zu Tryz.func216 (by rfl) (by rfl) args w) J F b off cp k zs w hLow hJ0 (by omega) (by omega) hl3 hc1 hb (fun j u h i hi=>by rw[HJ.out] at h;exact h.2.1 i hi) (fun j u hj h hsz=>?_)).mono ?_
 ·rw[HJ.out] at h ⊢
  obtain ⟨h1,h2,h3⟩:=h
  refine (Ix hC sh p q j E _ (cutV zs j) u HDO h1).mono ?_
  intro e w' hh
  obtain ⟨rfl,k1,k2⟩:=hh.out
  exact ⟨by rw[HF.out];rfl,⟨k1,fun i hi=>k2.cell hbg (h2 i hi),fun c hc hn=>(k2.block c (by omega) hn).trans (h3 c hc hn)⟩,Kp.of_gk k2 (fun c hc=>by rcases hc with hc | rfl;(have:=hC.low c hc;omega);exact hql)⟩
 ·intro e w' hh
  obtain ⟨rfl,hu⟩:=hh.out
  have h:=hu.inv
  rw[HJ.out] at h
  refine ⟨rfl,?_,h.1.inv,⟨hu.os,hu.tape,hu.output,hu.size,fun c hc hn=>h.2.2 c hc hn⟩⟩
  have z:=hu.row
  rw[Le F _ k hl,HF.out] at z
  exact z
set_option maxHeartbeats 800000 in
set_option maxRecDepth 100000 in
theorem N9 {B:Nat} {Ks:Nat→Prop} {I:World→Prop} (hC:Cst B Ks I) (sh fn:Nat) (cs:Array Value) (hE:∀ args u,(callFunc fn args).run Tryz.prog u=.ok (.enter fn args) u) (E:BitVec 128→BitVec 128) (fi:BitVec 128) (s b off cp k:Nat) (zs:List Int) (w:World) (hI:I w)
  (HF:∀ u,I u→Calls Tryz.prog fn (#[.int .u64 (s:Nat),.int .i64 (zs.length:Nat)]++cs) u fun e w'=>Hid (e=.returned (Fd.BV fi)∧I w'∧Gk Ks u w')) (HDO:DoI Ks I 214 (.pointer (some ⟨sh,0,none⟩)) E)
  (hl:zs.length=16*k) (hk0:0<k) (hl3:zs.length≤4096) (hc1:zs.length≤cp) (hb:Zj zs) (hbg:¬ Ks b) (hz:∀ i,i<zs.length→w.cell? ⟨b,off+i,none⟩=some (.int .u8 (zs.getD i 0))) :
  Calls Tryz.prog 178 #[.agg #[.pointer (some ⟨sh,0,none⟩),.func (.func fn) #[] cs],.int .u64 (s:Nat),.slice (some ⟨b,off,none⟩) zs.length cp] w fun e w'=>Hid (∃ x,e=.returned (.slice (some ⟨x,0,none⟩) zs.length zs.length)∧w.heap.size≤x∧Bx w' x 5 (bkL (fun j=>cbO E (cutV zs) fi j) k)∧I w'∧Gk Ks w w'):=by
 obtain ⟨w1,hw1⟩:∃ w1,w1=w.alloc (.cells #[.pointer (some ⟨sh,0,none⟩),.func (.func fn) #[] cs] 242):=⟨_,rfl⟩
 have hb1:Below w.heap.size w w1:=by rw[hw1];exact (Below.refl _ _).alloc (Nat.le_refl _) _
 have hB1:Bx w1 w.heap.size 242 [.pointer (some ⟨sh,0,none⟩),.func (.func fn) #[] cs]:=by rw[hw1];exact Bx.new w 242 [.pointer (some ⟨sh,0,none⟩),.func (.func fn) #[] cs]
 have hbl:b<w.heap.size:=World.block_lt_of_cell? w _ (hz 0 (by omega))
 obtain ⟨f,Hf⟩:∃ f:Nat→BitVec 128,Hid (f=fun j=>cbO E (cutV zs) fi j):=⟨_,rfl⟩
 have HRW:Hid (∀ u p q,CbX B Ks I sh p q fi u→w.heap.size≤q→Gk Ks w u→Calls Tryz.prog 211 #[.slice (some ⟨b,off,none⟩) zs.length cp,.func (.func 216) #[] #[.pointer (some ⟨p,0,none⟩),.pointer (some ⟨q,0,none⟩)]] u fun e w'=>Hid (e=.returned (.slice (some ⟨u.heap.size,0,none⟩) zs.length zs.length)∧Bx w' u.heap.size 5 (bkL f k)∧I w'∧Gk (KsQ Ks q) u w')):=fun u p q h hq hg=>by
  rw[Hf.out]
  exact Rr hC sh p q E fi b off cp k zs u h HDO hl hk0 hl3 hc1 hb (fun e=>by rcases e with e | rfl;exact hbg e;omega) (fun i hi=>hg.cell hbg (hz i hi))
 obtain ⟨n,HNL⟩:∃ n,Hid (zs.length=n):=⟨_,rfl⟩
 obtain ⟨FI,HFI⟩:∃ L,Hid (L=Fd.BL fi):=⟨_,rfl⟩
 have HFN:Hid (∀ u,I u→Calls Tryz.prog fn (#[.int .u64 (s:Nat),.int .i64 (zs.length:Nat)]++cs) u fun e w'=>Hid (e=.returned (.agg FI.toArray)∧I w'∧Gk Ks u w')):=fun u hu=>by rw[HFI.out];exact HF u hu
 have HLN:Hid (FI.length=16∧(∀ x∈FI,x.oneCell'=true)):=by rw[HFI.out];exact ⟨Fd.Xm _,Ys _⟩
 have HW1:Hid (Below w.heap.size w w1∧Bx w1 w.heap.size 242 [.pointer (some ⟨sh,0,none⟩),.func (.func fn) #[] cs]∧I w1∧B≤w.heap.size):=⟨hb1,hB1,hC.below hI hb1,hC.size w hI⟩
 rw[HNL.out] at HRW HFN ⊢
 rw[←Hf.out]
 have c1:w1.cell? ⟨w.heap.size,1,none⟩=some (.func (.func fn) #[] cs):=hB1.cell 1 _ rfl
 clear hI HF HDO hl hk0 hl3 hc1 hb hbg hz hb1 hB1 hbl
 go_enter Tryz.func178,Tryz.ntmps178
 go_upto_region 1 with fail
 rw[←hw1]
 clear hw1
 obtain ⟨M,HMM⟩:∃ M,Hid (w.heap.size=M):=⟨_,rfl⟩
 rw[HMM.out] at HW1 c1 ⊢
 go_upto_region 2 with (first
  | (refine Zg (by rfl) 27 (.tmp 7) (.tmp 13) (by rfl) ZZ FI w2.heap.size (by rfl) (by rfl) HZB.out (by rw[HLN.out.1];rfl) (by rw[HLN.out.1];kernel_rfl) HLN.out.2 ?_;intro u3 hb3 hg3)
  | (refine (HFN.out _ HW1.out.2.2.1).mono ?_;intro e2 w2 hh;obtain ⟨rfl,hi2,hg2⟩:=hh.out;have H2:Hid (I w2∧Gk Ks w1 w2):=⟨hi2,hg2⟩;have HZB:Hid (Bx (w2.alloc (.cells #[.int .u8 0,.int .u8 0,.int .u8 0,.int .u8 0,.int .u8 0,.int .u8 0,.int .u8 0,.int .u8 0,.int .u8 0,.int .u8 0,.int .u8 0,.int .u8 0,.int .u8 0,.int .u8 0,.int .u8 0,.int .u8 0] 27)) w2.heap.size 27 ZZ):=Bx.new w2 27 ZZ;clear hh hi2 hg2))
 have HX:Hid (CbX B Ks I sh M w2.heap.size fi u3∧M≤w2.heap.size∧Gk Ks w u3):=by
  have hal:Below w2.heap.size w2 (w2.alloc (.cells #[.int .u8 0,.int .u8 0,.int .u8 0,.int .u8 0,.int .u8 0,.int .u8 0,.int .u8 0,.int .u8 0,.int .u8 0,.int .u8 0,.int .u8 0,.int .u8 0,.int .u8 0,.int .u8 0,.int .u8 0,.int .u8 0] 27)):=(Below.refl _ _).alloc (Nat.le_refl _) _
  have hBM:=HW1.out.2.2.2
  have hb2:=HW1.out.2.1.gk H2.out.2 (hC.new hBM)
  have hlt:=hb2.lt
  have hb2':=hb2.below hal
  have hb4:Bx u3 M 242 [.pointer (some ⟨sh,0,none⟩),.func (.func fn) #[] cs]:=hb2'.keep (hg3.block M hb2'.lt (fun e=>by injection e with e;omega))
  refine ⟨⟨hC.gb (hC.below H2.out.1 hal) hg3 (by omega),hb4.cell 0 _ rfl,by rw[←HFI.out];exact hb3,hBM,by omega,by omega⟩,by omega,?_⟩
  have g1:Gk Ks w w1:=Gk.of_below (by rw[HMM.out];exact HW1.out.1)
  have g2:=(g1.trans H2.out.2).below hal
  exact g2.gb hg3 (by rw[HMM.out];omega)
 obtain ⟨Q,HQ⟩:∃ Q,Hid (w2.heap.size=Q):=⟨_,rfl⟩
 rw[HQ.out] at HX ⊢
 clear hb3 hg3 HZB c1
 rw[HMM.out] at HRW
 go_wp2_with (first
  | (go_at_call 211;refine (HRW.out _ _ _ HX.out.1 HX.out.2.1 HX.out.2.2).mono ?_;intro e4 w4 hh;obtain ⟨rfl,h4⟩:=hh.out;have H4:Hid (Bx w4 u3.heap.size 5 (bkL f k)∧I w4∧Gk (KsQ Ks Q) u3 w4):=h4;clear hh h4))
 go_ret
 have hg:=HX.out.2.2.narrow H4.out.2.2 (by rw[HMM.out];exact HX.out.2.1)
 exact ⟨_,rfl,HX.out.2.2.size,H4.out.1,H4.out.2.1,hg⟩
theorem Nj (x y:Nat) (hx:x<18446744073709551616) (hy:y≤4096):∃ x0 x1 A B T T0 T1:Nat,x%4294967296=x0∧x/4294967296=x1∧x1*y=A∧x0*y=B∧A+B/4294967296=T∧T%4294967296=T0∧T/4294967296=T1∧T1=x*y/18446744073709551616∧A<18446744073709551616∧B<18446744073709551616∧T<18446744073709551616∧x0<4294967296∧T0<4294967296:=by
 refine ⟨_,_,_,_,_,_,_,rfl,rfl,rfl,rfl,rfl,rfl,rfl,?_,?_,?_,?_,Nat.mod_lt _ (by decide),Nat.mod_lt _ (by decide)⟩
 all_goals
  have e:x=x/4294967296*4294967296+x%4294967296:=by omega
  have h0:x%4294967296<4294967296:=Nat.mod_lt _ (by decide)
  have h1:x/4294967296<4294967296:=by omega
  generalize x%4294967296=x0 at e h0 ⊢
  generalize x/4294967296=x1 at e h1 ⊢
  have a1:x1*y≤4294967295*4096:=Nat.mul_le_mul (by omega) hy
  have a0:x0*y≤4294967295*4096:=Nat.mul_le_mul (by omega) hy
  have e2:x*y=x1*y*4294967296+x0*y:=by rw[e,Nat.add_mul,Nat.mul_right_comm]
  generalize x1*y=A at a1 e2 ⊢
  generalize x0*y=B at a0 e2 ⊢
 ·rw[e2];omega
 ·omega
 ·omega
 ·omega
set_option maxHeartbeats 800000 in
set_option maxRecDepth 100000 in
theorem Rb (x y:Nat) (w:World) (hx:x<18446744073709551616) (hy:y≤4096) :
  Calls Tryz.prog 184 #[.int .u64 (x:Nat),.int .u64 (y:Nat)] w fun e w'=>Hid (e=.returned (.tuple #[.int .u64 (x*y/18446744073709551616:Nat),.int .u64 (x*y%18446744073709551616:Nat)])∧w'=w):=by
 obtain ⟨x0,x1,A,B,T,T0,T1,p0,p1,pA,pB,pT,pT0,pT1,pF,hA,hB,hT,hx0,hT0⟩:=Nj x y hx hy
 have q0:bits BinOp.and IntKind.u64 (x:Int) 4294967295=(x0:Int):=by rw[Qa x hx,p0]
 have q1:(x:Int)/4294967296=(x1:Int):=by omega
 have q2:bits BinOp.and IntKind.u64 (y:Int) 4294967295=(y:Int):=by rw[Qa y (by omega)];omega
 have q3:(y:Int)/4294967296=0:=by omega
 have q4:(x1:Int)*(y:Int)=(A:Int):=by rw[←pA];simp
 have q5:(x0:Int)*(y:Int)=(B:Int):=by rw[←pB];simp
 have q6:IntKind.u64.wrap (A:Int)=(A:Int):=Zx A hA
 have q7:IntKind.u64.wrap (B:Int)=(B:Int):=Zx B hB
 have q8:IntKind.u64.wrap ((A:Int)+(B:Int)/4294967296)=(T:Int):=by rw[IntKind.wrap_u64];omega
 have q9:(T:Int)/4294967296=(T1:Int):=by omega
 have q10:bits BinOp.and IntKind.u64 (T:Int) 4294967295=(T0:Int):=by rw[Qa T hT,pT0]
 have q11:IntKind.u64.wrap (T0:Int)=(T0:Int):=Zx T0 (by omega)
 have q12:(T0:Int)/4294967296=0:=by omega
 have q13:IntKind.u64.wrap (T1:Int)=(T1:Int):=Zx T1 (by omega)
 have q14:IntKind.u64.wrap ((x:Int)*(y:Int))=((x*y%18446744073709551616:Nat):Int):=by rw[IntKind.wrap_u64];simp
 have q15:IntKind.u64.wrap 0=0:=by decide
 rw[←pF]
 clear p0 p1 pA pB pT pT0 pT1 pF hA hB hT hx0 hT0 hx hy
 go_enter Tryz.func184,Tryz.ntmps184
 go_wp2
 go_ret2
 exact ⟨rfl,rfl⟩
def ebV (s n:Nat):BitVec 128:=BitVec.ofNat 128 (s*n)
theorem Ur (s n:Nat) (hs:s<18446744073709551616) (hn:n≤1024):Fd.hiV (ebV s n)=s*n/18446744073709551616∧Fd.loV (ebV s n)=s*n%18446744073709551616:=by
 have h:s*n≤18446744073709551615*1024:=Nat.mul_le_mul (by omega) hn
 unfold Fd.hiV Fd.loV ebV
 rw[BitVec.toNat_ofNat]
 generalize s*n=M at h ⊢
 constructor<;>omega
set_option maxHeartbeats 800000 in
set_option maxRecDepth 100000 in
theorem Uj (s n:Nat) (w:World) (hs:s<18446744073709551616) (hn:n≤1024) :
  Calls Tryz.prog 191 #[.int .u64 (s:Nat),.int .i64 (n:Nat)] w fun e w'=>Hid (e=.returned (Fd.BV (ebV s n))∧Below w.heap.size w w'):=by
 obtain ⟨M,HMM⟩:∃ M,Hid (M=Fd.BL (ebV s n)):=⟨_,rfl⟩
 obtain ⟨h1,h2⟩:=Ur s n hs hn
 obtain ⟨a,HA⟩:∃ a,Hid (s*n/18446744073709551616=a):=⟨_,rfl⟩
 obtain ⟨b,HB⟩:∃ b,Hid (s*n%18446744073709551616=b):=⟨_,rfl⟩
 have HM:Hid (∀ u,Calls Tryz.prog 184 #[.int .u64 (s:Nat),.int .u64 (n:Nat)] u fun e w'=>Hid (e=.returned (.tuple #[.int .u64 (a:Nat),.int .u64 (b:Nat)])∧w'=u)):=fun u=>by
  have q:=Rb s n u hs (by omega);rw[HA.out,HB.out] at q;exact q
 rw[HA.out] at h1
 rw[HB.out] at h2
 have HG:Hid (∀ u,Calls Tryz.prog 38 #[.int .u64 (a:Nat),.int .u64 (b:Nat)] u fun e w'=>Hid (e=.returned (.agg M.toArray)∧Below u.heap.size u w')):=fun u=>by
  rw[HMM.out]
  have q:=Fd.Wb (ebV s n) u
  rw[h1,h2] at q
  exact q.mono fun e w' hh=>hh
 have HLN:Hid (M.length=16∧(∀ x∈M,x.oneCell'=true)):=by rw[HMM.out];exact ⟨rfl,Ys _⟩
 have q2:IntKind.u64.wrap (n:Int)=(n:Int):=Zx n (by omega)
 show Calls Tryz.prog 191 #[_,_] w fun e w'=>Hid (e=.returned (.agg (Fd.BL (ebV s n)).toArray)∧_)
 rw[←HMM.out]
 obtain ⟨w1,hw1⟩:∃ w1,w1=w.alloc (.cells ZZ.toArray 27):=⟨_,rfl⟩
 have HB1:Hid (Bx w1 w.heap.size 27 ZZ∧Below w.heap.size w w1):=by rw[hw1];exact ⟨Bx.new w 27 ZZ,(Below.refl _ _).alloc (Nat.le_refl _) _⟩
 clear hs hn h1 h2
 go_enter Tryz.func191,Tryz.ntmps191
 go_upto_region 1 with fail
 rw[show w.alloc (.cells _ 27)=w1 from hw1.symm]
 clear hw1
 obtain ⟨m,HM2⟩:∃ m,Hid (w.heap.size=m):=⟨_,rfl⟩
 rw[HM2.out] at HB1 ⊢
 go_wp2_with (first
  | (go_at_call 184;refine (HM.out _).mono ?_;intro e2 w2 hh;obtain ⟨rfl,rfl⟩:=hh.out;clear hh)
  | (go_at_call 38;refine (HG.out _).mono ?_;intro e4 w4 hh;obtain ⟨rfl,hb4⟩:=hh.out;have HB4:Hid (Bx w4 m 27 ZZ∧Below m w w4):=⟨HB1.out.1.below hb4,HB1.out.2.trans (hb4.mono (by have:=HB1.out.1.lt;omega))⟩;clear hh hb4)
  | (refine Zg (by rfl) 27 (.tmp 4) (.tmp 11) (by rfl) ZZ M m (by rfl) (by rfl) HB4.out.1 (by rw[HLN.out.1];rfl) (by rw[HLN.out.1];kernel_rfl) HLN.out.2 ?_;intro u9 hb9 hg9))
 refine Y4 (b:=m) M rfl rfl hb9.range Tryz.underlying27 rfl (by rw[HLN.out.1];kernel_rfl) ⟨rfl,?_⟩
 have hfin:Below m w u9:=HB4.out.2.trans (Yd hg9 (by have:=HB4.out.1.lt;omega) (by omega))
 first | exact hfin | (rw[HM2.out];exact hfin)
set_option maxHeartbeats 800000 in
set_option maxRecDepth 100000 in
theorem Uq {B:Nat} {Ks:Nat→Prop} {I:World→Prop} (hC:Cst B Ks I) (p g:Nat) (E:BitVec 128→BitVec 128) (s n:Nat) (w:World) (hs:s<18446744073709551616) (hn:n≤1024) (hI:I w) (hp:w.cell? ⟨p,0,none⟩=some (.pointer (some ⟨g,0,none⟩))) (hpk:¬ Ks p) (HU:DoI Ks I 190 (.pointer (some ⟨g,0,none⟩)) E) :
  Calls Tryz.prog 189 #[.int .u64 (s:Nat),.int .i64 (n:Nat),.pointer (some ⟨p,0,none⟩)] w fun e w'=>Hid (e=.returned (Fd.BV (E (ebV s n)))∧I w'∧Gk Ks w w'):=by
 obtain ⟨v,HV⟩:∃ v,Hid (v=ebV s n):=⟨_,rfl⟩
 obtain ⟨L,HL⟩:∃ L,Hid (L=Fd.BL v):=⟨_,rfl⟩
 obtain ⟨M,HMM⟩:∃ M,Hid (M=Fd.BL (E v)):=⟨_,rfl⟩
 have HG:Hid (∀ u,Calls Tryz.prog 191 #[.int .u64 (s:Nat),.int .i64 (n:Nat)] u fun e w'=>Hid (e=.returned (.agg L.toArray)∧Below u.heap.size u w')):=fun u=>by
  rw[HL.out,HV.out];exact Uj s n u hs hn
 have HK:Hid (∀ u,I u→Calls Tryz.prog 190 #[.pointer (some ⟨g,0,none⟩),.agg L.toArray] u fun e w'=>Hid (e=.returned (.agg M.toArray)∧I w'∧Gk Ks u w')):=fun u hu=>by
  rw[HL.out,HMM.out];exact HU v u hu
 have HLN:Hid (M.length=16∧(∀ x∈M,x.oneCell'=true)):=by rw[HMM.out];exact ⟨rfl,Ys _⟩
 rw[←HV.out]
 show Calls Tryz.prog 189 #[_,_,_] w fun e w'=>Hid (e=.returned (.agg (Fd.BL (E v)).toArray)∧_)
 rw[←HMM.out]
 obtain ⟨w1,hw1⟩:∃ w1,w1=w.alloc (.cells ZZ.toArray 27):=⟨_,rfl⟩
 have hb1:Below w.heap.size w w1:=by rw[hw1];exact (Below.refl _ _).alloc (Nat.le_refl _) _
 have HB1:Hid (Bx w1 w.heap.size 27 ZZ∧Below w.heap.size w w1∧B≤w.heap.size):=by rw[hw1];exact ⟨Bx.new w 27 ZZ,(Below.refl _ _).alloc (Nat.le_refl _) _,hC.size w hI⟩
 have hpl:p<w.heap.size:=World.block_lt_of_cell? w _ hp
 have c0:w1.cell? ⟨p,0,none⟩=some (.pointer (some ⟨g,0,none⟩)):=by rw[hb1.cell hpl];exact hp
 have HID:Hid (I w1.drew∧Gk Ks w w1.drew):=⟨hC.below (hC.below hI hb1) (Below.refl _ _).drew,(Gk.of_below hb1).below (Below.refl _ _).drew⟩
 have HPK:Hid (¬ Ks p∧p<w.heap.size):=⟨hpk,hpl⟩
 clear hs hn hI hp hpk hb1 hpl HU
 go_enter Tryz.func189,Tryz.ntmps189
 go_upto_region 1 with fail
 rw[show w.alloc (.cells _ 27)=w1 from hw1.symm]
 clear hw1
 obtain ⟨m,HM2⟩:∃ m,Hid (w.heap.size=m):=⟨_,rfl⟩
 rw[HM2.out] at HB1 HPK ⊢
 have HNK:Hid (¬ Ks m):=hC.new HB1.out.2.2
 have HW1:Hid (m<w1.heap.size):=HB1.out.1.lt
 have hU:Tryz.prog.underlying 27=some (.array 16 5):=Tryz.underlying27
 have hiM:(Tryz.prog.info? 27).map (·.size)=some M.length:=by rw[HLN.out.1];kernel_rfl
 have hM16:M.length=16:=HLN.out.1
 have hM1:∀ v∈M,v.oneCell'=true:=HLN.out.2
 have ht1:w1.there m 0 16:=Xr HB1.out.1 rfl
 go_region_held3 (fun u=>u.cell? ⟨p,0,none⟩=some (.pointer (some ⟨g,0,none⟩))∧u.there m 0 16) (first | exact ⟨c0,ht1⟩ | exact hS2 | exact hS3 | exact hS4 | go_keep)
  (first
   | (go_at_call 191;refine (HG.out _).mono ?_;intro e2 w2 hh;obtain ⟨rfl,hb2⟩:=hh.out;have HB2:Hid (Bx w2 m 27 ZZ∧I w2∧Gk Ks w w2):=⟨(HB1.out.1.below (Below.refl _ _).drew).below hb2,hC.below HID.out.1 hb2,HID.out.2.below hb2⟩;have hS2:w2.cell? ⟨p,0,none⟩=some (.pointer (some ⟨g,0,none⟩))∧w2.there m 0 16:=⟨(hb2.cell (by have:=HPK.out.2;have:=HW1.out;simp;omega)).trans (by simpa using c0),Xr HB2.out.1 rfl⟩;clear hh hb2)
   | (go_at_call 190;refine (HK.out _ HB2.out.2.1).mono ?_;intro e3 w3 hh;obtain ⟨rfl,h1,h2⟩:=hh.out;have HB3:Hid (Bx w3 m 27 ZZ∧I w3∧Gk Ks w w3):=⟨HB2.out.1.gk h2 HNK.out,h1,HB2.out.2.2.trans h2⟩;have hS3:w3.cell? ⟨p,0,none⟩=some (.pointer (some ⟨g,0,none⟩))∧w3.there m 0 16:=⟨h2.cell HPK.out.1 hS2.1,Xr HB3.out.1 rfl⟩;have hS4:=Hg hS3.1 HPK.out.2 HB3.out.1 hM16;clear hh h1 h2))
 have HB9:Hid (Bx (w3.setCells m 0 M) m 27 M∧w3.grownBy (w3.setCells m 0 M) (some m)):=⟨HB3.out.1.store M (by rw[hM16];rfl),Yc m M 0 w3⟩
 obtain ⟨u9,hu9⟩:∃ u9,u9=w3.setCells m 0 M:=⟨_,rfl⟩
 rw[←hu9] at HB9 ⊢
 clear hu9 hS2 hS3 hS4
 go_wp2
 exact Y4 (b:=m) M rfl rfl HB9.out.1.range Tryz.underlying27 rfl hiM ⟨rfl,hC.gb HB3.out.2.1 HB9.out.2 HB1.out.2.2,HB3.out.2.2.gb HB9.out.2 (by have:=HM2.out;omega)⟩
theorem Li:Fd.BL (0:BitVec 128)=ZZ:=by rfl
set_option maxHeartbeats 800000 in
set_option maxRecDepth 100000 in
theorem Ex (s n:Int) (w:World):Calls Tryz.prog 176 #[.int .u64 s,.int .i64 n] w fun e w'=>Hid (e=.returned (Fd.BV (0:BitVec 128))∧Below w.heap.size w w'):=by
 show Calls Tryz.prog 176 #[_,_] w fun e w'=>Hid (e=.returned (.agg (Fd.BL 0).toArray)∧_)
 rw[Li]
 obtain ⟨w1,hw1⟩:∃ w1,w1=w.alloc (.cells ZZ.toArray 27):=⟨_,rfl⟩
 have HB1:Hid (Bx w1 w.heap.size 27 ZZ∧Below w.heap.size w w1):=by rw[hw1];exact ⟨Bx.new w 27 ZZ,(Below.refl _ _).alloc (Nat.le_refl _) _⟩
 go_enter Tryz.func176,Tryz.ntmps176
 go_upto_region 1 with fail
 rw[show w.alloc (.cells _ 27)=w1 from hw1.symm]
 clear hw1
 go_wp2_with (refine Zg (by rfl) 27 (.tmp 4) (.tmp 5) (by rfl) ZZ ZZ w.heap.size (by rfl) (by rfl) HB1.out.1 rfl (by kernel_rfl) (Li ▸ Ys 0) ?_;intro u9 hb9 hg9)
 refine Y4 (b:=w.heap.size) ZZ rfl rfl hb9.range Tryz.underlying27 rfl (by kernel_rfl) ⟨rfl,HB1.out.2.trans (Yd hg9 HB1.out.2.size (Nat.le_refl _))⟩
end Go.Proofs.YtehlppaidgkpaaaGreatDoor
