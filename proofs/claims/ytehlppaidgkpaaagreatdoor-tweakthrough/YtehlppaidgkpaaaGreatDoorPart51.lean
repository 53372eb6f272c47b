import Derived.Test.YtehlppaidgkpaaaGreatDoorPart50
import Derived.Test.YtehlppaidgkpaaaGreatDoorPart34
import Derived.Test.YtehlppaidgkpaaaGreatDoorPart40
import Derived.Test.YtehlppaidgkpaaaGreatDoorPart18
import Derived.Test.YtehlppaidgkpaaaGreatDoorPart43
import Derived.Test.YtehlppaidgkpaaaGreatDoorPart38
import Derived.Test.YtehlppaidgkpaaaGreatDoorPart47
import Derived.Deep.QuietTactic
namespace Go.Proofs.YtehlppaidgkpaaaGreatDoor
open Go.RowKit
set_option linter.unusedVariables false
set_option linter.unusedSimpArgs false
def J0 (u:World) (x:Nat×Nat×(Nat→Nat)):Prop:=Zr u x.1 x.2.1 x.2.2∧∃ R:Array Value,u.heap[x.1]?=some (.cells R 135 (0,0))
theorem J0.keep {u u':World} {x:Nat×Nat×(Nat→Nat)} (h:J0 u x) (e:u'.heap[x.1]?=u.heap[x.1]?) (hs:u.heap.size≤u'.heap.size):J0 u' x:=⟨h.1.sameK e hs,by obtain ⟨R,hR⟩:=h.2;exact ⟨R,e.trans hR⟩⟩
def esK (zs:List Int):Nat→Nat:=Zn 8 (Yk (Dg.Xw 256 zs))
def Bgf (A:Nat) (zs:List Int) (k:Nat) (u:World) (ov:Value) (LE:List (Nat×Nat×(Nat→Nat))) (fn:Nat) (cs:Array Value):Prop:=
 (k≠13∧k≠6∧LE=[]∧fn=sbN k∧cs=#[])∨((k=13∨k=6)∧∃ ge bx,LE=[(ge,14,esK zs)]∧fn=187∧cs=#[.pointer (some ⟨bx,0,none⟩)]∧A≤ge∧A≤bx∧J0 u (ge,14,esK zs)∧Bx u bx 71 [.pointer (some ⟨ge,0,none⟩)]∧ov.ownBlock≠some bx)
theorem Bgf.keep {A:Nat} {zs:List Int} {k:Nat} {u u':World} {ov:Value} {LE:List (Nat×Nat×(Nat→Nat))} {fn:Nat} {cs:Array Value} (h:Bgf A zs k u ov LE fn cs) (hs:u.heap.size≤u'.heap.size) (h1:∀ x,J0 u x→u'.heap[x.1]?=u.heap[x.1]?) (h2:∀ b v,Bx u b 71 [v]→ov.ownBlock≠some b→u'.heap[b]?=u.heap[b]?):Bgf A zs k u' ov LE fn cs:=by
 rcases h with h | ⟨h0,ge,bx,a1,a2,a3,a4,a5,a6,a7,a8⟩
 ·exact .inl h
 ·exact .inr ⟨h0,ge,bx,a1,a2,a3,a4,a5,a6.keep (h1 _ a6) hs,a7.keep (h2 bx _ a7 a8),a8⟩
theorem Bgf.nov {A:Nat} {zs:List Int} {k:Nat} {u:World} {ov:Value} {LE:List (Nat×Nat×(Nat→Nat))} {fn:Nat} {cs:Array Value} (h:Bgf A zs k u ov LE fn cs):Bgf A zs k u (.slice none 0 0) LE fn cs:=by
 rcases h with h | ⟨h0,ge,bx,a1,a2,a3,a4,a5,a6,a7,a8⟩
 ·exact .inl h
 ·exact .inr ⟨h0,ge,bx,a1,a2,a3,a4,a5,a6,a7,by simp [Value.ownBlock]⟩
def PhB (A:Nat) (zs:List Int) (k:Nat) (u:World) (sh:Nat) (ov fv:Value):Prop:=∃ LE fn cs shc g,fv=.func (.func fn) #[] cs∧Bgf A zs k u ov LE fn cs∧Bx u sh 115 shc∧shc[4]?=some (.pointer (some ⟨g,0,none⟩))∧∀ x,x∈LE→g<x.1
theorem PhB.oc {A:Nat} {zs:List Int} {k:Nat} {u u':World} {sh:Nat} {ov fv:Value} (ho:Oc u u') (h:PhB A zs k u sh ov fv):PhB A zs k u' sh ov fv:=by
 obtain ⟨hz,c,cs0,fr,hc,hk⟩:=ho
 obtain ⟨LE,fn,cs,shc,g,h1,h2,h3,h4,h5⟩:=h
 refine ⟨LE,fn,cs,shc,g,h1,h2.keep hz (fun x hx=>?_) (fun b v hb _=>hk b (Zo hb hc (by decide))),h3.keep (hk sh (Zo h3 hc (by decide))),h4,h5⟩
 obtain ⟨R,hR⟩:=hx.2
 exact hk _ (Zo hR hc (by decide))
def PsX (A:Nat) (zs:List Int) (k nk:Nat) (u:World) (sh:Nat) (fv sv pv:Value):Prop:=∃ LE fn cs shc g go,fv=.func (.func fn) #[] cs∧Bgf A zs k u (.slice none 0 0) LE fn cs∧Bx u sh 115 shc∧shc[4]?=some (.pointer (some ⟨g,0,none⟩))∧(∀ x,x∈LE→g<x.1∧x.1<go)∧g<go∧A≤go∧J0 u (go,nk+6,Zn nk (Yk (zs.drop (4*nk))))∧sv=bV 201 [.pointer (some ⟨sh,0,none⟩),fv,.pointer (some ⟨go,0,none⟩)]∧pv=bV 202 [.pointer (some ⟨sh,0,none⟩),fv,.pointer (some ⟨go,0,none⟩)]
theorem PsX.oc {A:Nat} {zs:List Int} {k nk:Nat} {u u':World} {sh:Nat} {fv sv pv:Value} (ho:Oc u u') (h:PsX A zs k nk u sh fv sv pv):PsX A zs k nk u' sh fv sv pv:=by
 obtain ⟨hz,c,cs0,fr,hc,hk⟩:=ho
 obtain ⟨LE,fn,cs,shc,g,go,h1,h2,h3,h4,h5,h6,h7,h8,h9,h10⟩:=h
 have hK:∀ x,J0 u x→u'.heap[x.1]?=u.heap[x.1]?:=fun x hx=>by
  obtain ⟨R,hR⟩:=hx.2
  exact hk _ (Zo hR hc (by decide))
 exact ⟨LE,fn,cs,shc,g,go,h1,h2.keep hz hK (fun b v hb _=>hk b (Zo hb hc (by decide))),h3.keep (hk sh (Zo h3 hc (by decide))),h4,h5,h6,h7,h8.keep (hK _ h8) hz,h9,h10⟩
theorem Iy (A:Nat) (i k:Nat) (hi:i<3) (hk:k=2∨k=3∨k=4∨k=10∨k=11∨k=12∨k=15∨k=16∨k=13∨k=6) (bg:Nat) (hbg:mB k=fV bg) (S:ByteArray) (st:Nat) (zs:List Int) (B sh:Nat) (kv:Value) (mp:Option Addr) (u:World) (hA:A≤B) (hB:B≤u.heap.size) (h:ShA B u sh S st (16+8*i) zs kv mp (.slice none 0 0)) (hn:zs.length≤1000) (hT:Dg.Tables u) (hrc:RC u) :
  Calls Tryz.prog bg #[.pointer (some ⟨sh,0,none⟩)] u fun e u'=>Hid (Lc B sh S st (16+8*i) zs kv mp (PhB A zs k) u e u'):=by
 obtain ⟨g,nk,hm,hgB,_,_,hgK,R,hR⟩:∃ g nk,mp=some ⟨g,0,none⟩∧B≤g∧(nk=4∨nk=6∨nk=8)∧16+8*i=4*nk∧Zr u g (nk+6) (Zn nk (Yk (zs.take (16+8*i))))∧∃ R:Array Value,u.heap[g]?=some (.cells R 135 (0,0)):=by
  rcases h.main with ⟨h0,_⟩ | h
  ·omega
  ·exact h
 by_cases he:k=13∨k=6
 ·obtain rfl:bg=153:=by rcases he with rfl | rfl<;>(injection hbg with e;injection e with e;exact e.symm)
  refine (Fq B sh S st (16+8*i) zs kv mp u h hB hn hT hrc).mono fun e u' hh=>?_
  obtain ⟨ge,bx,ov',rfl,p1,p2,p3,p4,p5,p6,p7,p8,p9⟩:=hh.out
  refine ⟨187,#[],_,ov',rfl,p6,p7,p8,[(ge,14,esK zs)],187,_,_,g,rfl,.inr ⟨he,ge,bx,rfl,rfl,rfl,by omega,by omega,⟨p3,p4⟩,p5,?_⟩,p6.box,by rw[hm];rfl,?_⟩
  ·exact p9
  ·intro x hx
   obtain rfl:x=(ge,14,esK zs):=by simpa using hx
   have:=hgK.ciph.here
   show g<ge
   omega
 ·have hx:bg=sbG k:=by
   rcases hk with rfl | rfl | rfl | rfl | rfl | rfl | rfl | rfl | rfl | rfl<;>first | exact absurd (by decide) he | (injection hbg with e;injection e with e;rw[←e];rfl)
  rw[hx]
  refine (Za9 k _ u).mono ?_
  rintro e u' ⟨rfl,hw⟩
  obtain rfl:=hw.symm
  exact ⟨sbN k,#[],#[],.slice none 0 0,rfl,h,⟨0,[],by omega,World.ownsRow_nil _ _ _ _⟩,Fs.of_below (Below.refl _ _) hB,[],sbN k,#[],_,g,rfl,.inl ⟨fun e=>he (.inl e),fun e=>he (.inr e),rfl,rfl,rfl⟩,h.box,by rw[hm];rfl,fun x hx=>by cases hx⟩
theorem P9 {w:World} {B:Nat} {v:Value} {n:Nat} {xs:List Value} (h:w.ownsRow B 71 1 v n xs) {b:Nat} {t:TypeId} {cs:Array Value} {fr:Nat×Nat} (hb:w.heap[b]?=some (.cells cs t fr)) (ht:t≠71):v.ownBlock≠some b:=fun e=>by
 obtain ⟨cur,hc⟩:=Xs h e
 exact Zo hb hc ht rfl
theorem Zbp (i k:Nat) (hi:i<3) (hk:k=10∨k=11∨k=12∨k=13) (v:Value) (zs:List Int) (w:World) (hv:Zf w v zs) (hb:Zd zs) (hl:zs.length=2*(16+8*i)) (hP:Pow w) (hrc:RC w) (hT:Dg.Tables w) :
  Calls Tryz.prog 26 #[.string (sxN i k),v] w fun e w'=>Hu w (sxN i k) 1 (16+8*i) zs (PsX w.heap.size zs k (4+2*i)) e w':=by
 have q8:16+8*i=4*(4+2*i):=by omega
 have hpos:1<w.heap.size:=World.block_lt_of_cell? w ⟨1,0,none⟩ (hrc 0 (by decide))
 have e1:mS k=1∧mK k=2∧mM k=0∧mU k=158∧k<17∧mB k≠.nilFunc:=by rcases hk with rfl | rfl | rfl | rfl<;>exact ⟨rfl,rfl,rfl,rfl,by decide,by intro e;cases e⟩
 have q:=Zbr i k hi e1.2.2.2.2.1 v zs w hv hb (by rw[e1.2.1,e1.2.2.1,hl];omega) hP hrc (PhB w.heap.size zs k) (PsX w.heap.size zs k (4+2*i)) (fun u u' s o x ho h=>h.oc ho) (fun u u' sh a b c ho h=>h.oc ho) (fun e=>absurd e e1.2.2.2.2.2)
  (fun bg hbg B sh kv mp u hu hB1 hB2 hA=>Iy w.heap.size i k hi (by rcases hk with rfl | rfl | rfl | rfl<;>decide) bg hbg _ _ zs B sh kv mp u hB1 hB2 hA (by omega) (hT.below hu (by have:=hT.size;omega)) (hrc.belowB hu hpos)) ?_
 ·rw[e1.1] at q;exact q
 ·intro fv B sh kv mp ov u _ hΦ hu hB1 hB2 hA few
  obtain ⟨LE,fn,cs,shc,g,h1,h2,h3,h4,h5⟩:=hΦ
  subst h1
  rw[e1.2.2.2.1]
  rw[e1.1] at hA ⊢
  have hA2:=hA
  rw[q8] at hA2
  refine (D4 B sh (sxN i k) 1 (4+2*i) zs kv mp ov fn #[] cs u hA2 hB2 few (by omega) (by omega) hb (hrc.belowB hu hpos) (Nat.lt_of_lt_of_le hpos hu.size)).mono ?_
  intro e u' hh
  obtain ⟨go,ov',rfl,hgo,hK,hR,hS,hF,hkp⟩:=hh.out
  rw[←q8] at hS
  obtain ⟨n0,os0,_,ho0⟩:=few
  have hKk:∀ x,J0 u x→u'.heap[x.1]?=u.heap[x.1]?:=fun x hx=>by
   obtain ⟨R,hR⟩:=hx.2
   exact hkp _ hx.1.ciph.here (Zo hR h3 (by decide)) (P9 ho0 hR (by decide))
  have hgo2:g<go:=by
   rcases hA.main with ⟨q,_⟩ | ⟨g',nk,hm,_,_,_,hg,_⟩
   ·omega
   ·have e:shc=shL (sxN i k) 1 kv (16+8*i) mp ov:=by
     have p:=h3.symm.trans hA.box
     injection p with p
     injection p with p
     exact List.toArray_inj p
    rw[e,hm] at h4
    injection h4 with h4
    injection h4 with h4
    injection h4 with h4
    injection h4 with h4
    have:=hg.ciph.here
    omega
  refine ⟨_,_,_,_,_,_,ov',rfl,hS,hF,LE,fn,cs,_,g,go,rfl,(h2.keep hF.bel.size hKk (fun b v hb ho=>hkp b hb.lt (Zo hb h3 (by decide)) ho)).nov,hS.box,?_,fun x hx=>⟨h5 x hx,?_⟩,hgo2,by have:=hu.size;omega,⟨hK,hR⟩,rfl,rfl⟩
  ·have e:shc=shL (sxN i k) 1 kv (16+8*i) mp ov:=by
    have p:=h3.symm.trans hA.box
    injection p with p
    injection p with p
    exact List.toArray_inj p
   rw[e] at h4
   exact h4
  ·rcases h2 with ⟨_,_,e,_⟩ | ⟨_,ge,bx,e,_,_,_,_,a6,_⟩
   ·rw[e] at hx;cases hx
   ·rw[e] at hx
    obtain rfl:x=(ge,14,esK zs):=by simpa using hx
    have:=a6.1.ciph.here
    show ge<go
    omega
theorem Ni (E:BitVec 128→BitVec 128) (f:Nat→BitVec 128) (zs:List Int) (k:Nat) (h:zs.length=16*k):G5 E f zs k=bkZ (Ww E f zs) (16*k) k:=by
 apply Ej
 ·rw[Qx,Y0,h]
 ·intro i hi
  rw[Qx] at hi
  rw[Dq E f zs k i hi,D7 _ _ _ i (by omega),if_pos (by omega)]
  unfold Th
  rw[if_pos (.inl h)]
theorem Kt.mono {fn:Nat} {Ks:Nat→Prop} {I:World→Prop} {c:Nat} {F:Nat→List Int→List Int} (h:Kt fn Ks I 1 c F) (st:Nat):Kt fn Ks I st c F:=fun s b off cp zs u hI hs h1 h2 _ h4 h5 h6=>h s b off cp zs u hI hs h1 h2 (Nat.mod_one _) h4 h5 h6
theorem Ek {A:Nat} {w':World} {x:Nat×Nat×(Nat→Nat)} (hA:A≤x.1) (hK:J0 w' x):KlP A w'.heap.size [x] w'∧Sti A w'.heap.size [x] w' w':=by
 have e:∀ y,y∈[x]→y=x:=fun y hy=>by simpa using hy
 exact ⟨⟨fun y hy=>by rw[e y hy];exact ⟨hA,hK.1.ciph.here⟩,fun y z hy hz _=>by rw[e y hy,e z hz],fun y hy=>by rw[e y hy];exact hK.2⟩,fun y hy=>by rw[e y hy];exact hK.1,fun b _ _ _=>rfl,Nat.le_refl _⟩
theorem Ul {A B:Nat} {L:List (Nat×Nat×(Nat→Nat))} {w0:World} (hL:KlP A B L w0) (c sh fn:Nat) (cs:Array Value) (F0:Nat→Nat→BitVec 128) (shc:List Value) (pv:Value) (x:Nat×Nat×(Nat→Nat)) (hc:Bx w0 c 70 [.pointer (some ⟨sh,0,none⟩),.func (.func fn) #[] cs,bV 177 [.pointer (some ⟨sh,0,none⟩),.func (.func fn) #[] cs],pv]) (hs:Bx w0 sh 115 shc) (hcA:A≤c∧c<B) (hsA:A≤sh∧sh<B)
  (h1:shc[1]?=some (.int .i64 (16:Nat))) (h4:shc[4]?=some (.pointer (some ⟨x.1,0,none⟩))) (h6:shc[6]?=some (.bool false)) (hx:x∈L) (hE:∀ args u,(callFunc fn args).run Tryz.prog u=.ok (.enter fn args) u) (HF:Pc (Xo L) (Sti A B L w0) fn cs F0) :
  Kt 13 (Xo L) (Sti A B L w0) 16 c (fun s zs=>bkZ (fun j=>cbS (Yy x.2.1 x.2.2) (cutV zs) (F0 s zs.length) j) zs.length (zs.length/16)):=by
 intro s b off cp zs u hI hs64 hl0 hl1 hlst hzb hbk hv
 have hC:=hL.cst
 have hcu:=hI.bx hL hc hcA.1 hcA.2 (by decide)
 have hsu:=hI.bx hL hs hsA.1 hsA.2 (by decide)
 obtain ⟨_,hcp,hz⟩:=Xg hv
 have hm:zs.length≤maxLen:=by unfold maxLen;omega
 have q:=Gr c sh 177 [.pointer (some ⟨sh,0,none⟩),.func (.func fn) #[] cs] (s:Nat) (some ⟨b,off,none⟩) zs.length cp 16 u (hcu.cell 0 _ rfl) (hcu.cell 2 _ rfl) (hsu.cell 1 _ h1) (hsu.cell 6 _ h6) hl0 (by omega) hlst (by decide) (fun args u=>Zp Tryz.func177 (by rfl) (by rfl) args u)
  (fun v w'=>∃ X,v=.slice (some ⟨X,0,none⟩) zs.length zs.length∧u.heap.size≤X∧Bx w' X 5 (bkL (fun j=>cbS (Yy x.2.1 x.2.2) (cutV zs) (F0 s zs.length) j) (zs.length/16))∧Sti A B L w0 w'∧Gk (Xo L) u w') ?_
 ·refine q.mono fun e w' hh=>?_
  obtain ⟨y',kk,d,rfl,X,hX,p1,p2,p3,p4⟩:=hh.out
  rw[hX]
  refine ⟨X,zs.length,rfl,p1,?_,p3,p4⟩
  rw[Hs,show 16*(zs.length/16)=zs.length by omega] at p2
  have hv2:=Gl p2 (by rw[Y0];exact hm)
  rw[Y0] at hv2
  exact hv2
 ·refine (N9 hC sh fn cs hE (Yy x.2.1 x.2.2) (F0 s zs.length) s b off cp (zs.length/16) zs u hI (fun u2 hu2=>HF s zs.length u2 hs64 hl1 hu2) (H7 hL sh shc hsA.1 hsA.2 hs x hx h4) (by omega) (by omega) (by omega) hcp hzb hbk hz).mono fun e w' hh=>?_
  obtain ⟨X,rfl,p1,p2,p3,p4⟩:=hh.out
  exact ⟨_,_,_,rfl,X,rfl,p1,p2,p3,p4⟩
theorem Pj {u v:World} {Ks:Nat→Prop} {b n d:Nat} {L:List Int} (h:Zf u (.slice (some ⟨b,0,none⟩) n d) L) (hb:¬ Ks b) (hg:Gk Ks u v):Zf v (.slice (some ⟨b,0,none⟩) n d) L:=by
 obtain ⟨z1,z2,z3⟩:=Xg h
 have z4:=W1 (w:=v) (b:=b) (off:=0) (c:=d) (zs:=L) (by omega) (by obtain ⟨_,_,ze,_,zm,_⟩:=h;injection ze with _ _ ze;omega) (fun i hi=>hg.cell hb (z3 i hi))
 rw[z1] at z4
 exact z4
end Go.Proofs.YtehlppaidgkpaaaGreatDoor
