import Derived.Test.YtehlppaidgkpaaaGreatDoorPart52
import Derived.Test.YtehlppaidgkpaaaGreatDoorPart32
import Derived.Test.YtehlppaidgkpaaaGreatDoorPart43
import Derived.Test.YtehlppaidgkpaaaGreatDoorPart47
import Derived.Deep.QuietTactic
namespace Go.Proofs.YtehlppaidgkpaaaGreatDoor
open Go.RowKit
set_option linter.unusedVariables false
set_option linter.unusedSimpArgs false
def Vp (u:World) (x:Nat×Nat×(Nat→Nat)):Prop:=Zp u x.1 x.2.1 x.2.2∧∃ R:Array Value,u.heap[x.1]?=some (.cells R 135 (0,0))
theorem Vp.keep {u u':World} {x:Nat×Nat×(Nat→Nat)} (h:Vp u x) (e:u'.heap[x.1]?=u.heap[x.1]?) (hs:u.heap.size≤u'.heap.size):Vp u' x:=⟨h.1.sameK e hs,by obtain ⟨R,hR⟩:=h.2;exact ⟨R,e.trans hR⟩⟩
def esK (zs:List Int):Nat→Nat:=Z6 8 (Y4 (Dg.Qg 256 zs))
def Bgf (A:Nat) (zs:List Int) (k:Nat) (u:World) (ov:Value) (LE:List (Nat×Nat×(Nat→Nat))) (fn:Nat) (cs:Array Value):Prop:=
 (k≠13∧k≠6∧LE=[]∧fn=sbN k∧cs=#[])∨((k=13∨k=6)∧∃ ge bx,LE=[(ge,14,esK zs)]∧fn=187∧cs=#[.pointer (some ⟨bx,0,none⟩)]∧A≤ge∧A≤bx∧Vp u (ge,14,esK zs)∧Bx u bx 71 [.pointer (some ⟨ge,0,none⟩)]∧ov.ownBlock≠some bx)
theorem Bgf.keep {A:Nat} {zs:List Int} {k:Nat} {u u':World} {ov:Value} {LE:List (Nat×Nat×(Nat→Nat))} {fn:Nat} {cs:Array Value} (h:Bgf A zs k u ov LE fn cs) (hs:u.heap.size≤u'.heap.size) (h1:∀ x,Vp u x→u'.heap[x.1]?=u.heap[x.1]?) (h2:∀ b v,Bx u b 71 [v]→ov.ownBlock≠some b→u'.heap[b]?=u.heap[b]?):Bgf A zs k u' ov LE fn cs:=by
 rcases h with h | ⟨h0,ge,bx,a1,a2,a3,a4,a5,a6,a7,a8⟩
 ·exact .inl h
 ·exact .inr ⟨h0,ge,bx,a1,a2,a3,a4,a5,a6.keep (h1 _ a6) hs,a7.keep (h2 bx _ a7 a8),a8⟩
theorem Bgf.nov {A:Nat} {zs:List Int} {k:Nat} {u:World} {ov:Value} {LE:List (Nat×Nat×(Nat→Nat))} {fn:Nat} {cs:Array Value} (h:Bgf A zs k u ov LE fn cs):Bgf A zs k u (.slice none 0 0) LE fn cs:=by
 rcases h with h | ⟨h0,ge,bx,a1,a2,a3,a4,a5,a6,a7,a8⟩
 ·exact .inl h
 ·exact .inr ⟨h0,ge,bx,a1,a2,a3,a4,a5,a6,a7,by simp [Value.ownBlock]⟩
def PhB (A:Nat) (zs:List Int) (k:Nat) (u:World) (sh:Nat) (ov fv:Value):Prop:=∃ LE fn cs shc g,fv=.func (.func fn) #[] cs∧Bgf A zs k u ov LE fn cs∧Bx u sh 115 shc∧shc[4]?=some (.pointer (some ⟨g,0,none⟩))∧∀ x,x∈LE→g<x.1
theorem PhB.oc {A:Nat} {zs:List Int} {k:Nat} {u u':World} {sh:Nat} {ov fv:Value} (ho:Oc u u') (h:PhB A zs k u sh ov fv):PhB A zs k u' sh ov fv:=by
 obtain ⟨hz,c,cs0,fr,hc,hk⟩:=ho
 obtain ⟨LE,fn,cs,shc,g,h1,h2,h3,h4,h5⟩:=h
 refine ⟨LE,fn,cs,shc,g,h1,h2.keep hz (fun x hx=>?_) (fun b v hb _=>hk b (Zs hb hc (by decide))),h3.keep (hk sh (Zs h3 hc (by decide))),h4,h5⟩
 obtain ⟨R,hR⟩:=hx.2
 exact hk _ (Zs hR hc (by decide))
def PsX (A:Nat) (zs:List Int) (k nk:Nat) (u:World) (sh:Nat) (fv sv pv:Value):Prop:=∃ LE fn cs shc g go,fv=.func (.func fn) #[] cs∧Bgf A zs k u (.slice none 0 0) LE fn cs∧Bx u sh 115 shc∧shc[4]?=some (.pointer (some ⟨g,0,none⟩))∧(∀ x,x∈LE→g<x.1∧x.1<go)∧g<go∧A≤go∧Vp u (go,nk+6,Z6 nk (Y4 (zs.drop (4*nk))))∧sv=bV 201 [.pointer (some ⟨sh,0,none⟩),fv,.pointer (some ⟨go,0,none⟩)]∧pv=bV 202 [.pointer (some ⟨sh,0,none⟩),fv,.pointer (some ⟨go,0,none⟩)]
theorem PsX.oc {A:Nat} {zs:List Int} {k nk:Nat} {u u':World} {sh:Nat} {fv sv pv:Value} (ho:Oc u u') (h:PsX A zs k nk u sh fv sv pv):PsX A zs k nk u' sh fv sv pv:=by
 obtain ⟨hz,c,cs0,fr,hc,hk⟩:=ho
 obtain ⟨LE,fn,cs,shc,g,go,h1,h2,h3,h4,h5,h6,h7,h8,h9,h10⟩:=h
 have hK:∀ x,Vp u x→u'.heap[x.1]?=u.heap[x.1]?:=fun x hx=>by
  obtain ⟨R,hR⟩:=hx.2
  exact hk _ (Zs hR hc (by decide))
 exact ⟨LE,fn,cs,shc,g,go,h1,h2.keep hz hK (fun b v hb _=>hk b (Zs hb hc (by decide))),h3.keep (hk sh (Zs h3 hc (by decide))),h4,h5,h6,h7,h8.keep (hK _ h8) hz,h9,h10⟩
theorem Ze3 (A:Nat) (i k:Nat) (hi:i<3) (hk:k=2∨k=3∨k=4∨k=10∨k=11∨k=12∨k=15∨k=16∨k=13∨k=6) (bg:Nat) (hbg:mB k=fV bg) (S:ByteArray) (st:Nat) (zs:List Int) (B sh:Nat) (kv:Value) (mp:Option Addr) (u:World) (hA:A≤B) (hB:B≤u.heap.size) (h:ShA B u sh S st (16+8*i) zs kv mp (.slice none 0 0)) (hn:zs.length≤1000) (hT:Dg.Tables u) (hrc:RC u) :
  Calls Tryz.prog bg #[.pointer (some ⟨sh,0,none⟩)] u fun e u'=>Hid (Sk B sh S st (16+8*i) zs kv mp (PhB A zs k) u e u'):=by
 obtain ⟨g,nk,hm,hgB,_,_,hgK,R,hR⟩:∃ g nk,mp=some ⟨g,0,none⟩∧B≤g∧(nk=4∨nk=6∨nk=8)∧16+8*i=4*nk∧Zp u g (nk+6) (Z6 nk (Y4 (zs.take (16+8*i))))∧∃ R:Array Value,u.heap[g]?=some (.cells R 135 (0,0)):=by
  rcases h.main with ⟨h0,_⟩ | h
  ·omega
  ·exact h
 by_cases he:k=13∨k=6
 ·obtain rfl:bg=153:=by rcases he with rfl | rfl<;>(injection hbg with e;injection e with e;exact e.symm)
  refine (Ho B sh S st (16+8*i) zs kv mp u h hB hn hT hrc).mono fun e u' hh=>?_
  obtain ⟨ge,bx,ov',rfl,p1,p2,p3,p4,p5,p6,p7,p8,p9⟩:=hh.out
  refine ⟨187,#[],_,ov',rfl,p6,p7,p8,[(ge,14,esK zs)],187,_,_,g,rfl,.inr ⟨he,ge,bx,rfl,rfl,rfl,by omega,by omega,⟨p3,p4⟩,p5,?_⟩,p6.box,by rw[hm];rfl,?_⟩
  ·exact p9
  ·intro x hx
   obtain rfl:x=(ge,14,esK zs):=by simpa using hx
   have:=hgK.ciph.here
   show g<ge
   omega
 ·have hx:bg=sbG k:=by
   rcases hk with rfl | rfl | rfl | rfl | rfl | rfl | rfl | rfl | rfl | rfl<;>first | exact absurd (by decide) he | (injection hbg with e;injection e with e;rw[←e];rfl)
  rw[hx]
  refine (Zd7 k _ u).mono ?_
  rintro e u' ⟨rfl,hw⟩
  obtain rfl:=hw.symm
  exact ⟨sbN k,#[],#[],.slice none 0 0,rfl,h,⟨0,[],by omega,World.ownsRow_nil _ _ _ _⟩,Fs.of_below (Below.refl _ _) hB,[],sbN k,#[],_,g,rfl,.inl ⟨fun e=>he (.inl e),fun e=>he (.inr e),rfl,rfl,rfl⟩,h.box,by rw[hm];rfl,fun x hx=>by cases hx⟩
theorem O8 {w:World} {B:Nat} {v:Value} {n:Nat} {xs:List Value} (h:w.ownsRow B 71 1 v n xs) {b:Nat} {t:TypeId} {cs:Array Value} {fr:Nat×Nat} (hb:w.heap[b]?=some (.cells cs t fr)) (ht:t≠71):v.ownBlock≠some b:=fun e=>by
 obtain ⟨cur,hc⟩:=Xk h e
 exact Zs hb hc ht rfl
theorem Zep (i k:Nat) (hi:i<3) (hk:k=10∨k=11∨k=12∨k=13) (v:Value) (zs:List Int) (w:World) (hv:Zi w v zs) (hb:Zg zs) (hl:zs.length=2*(16+8*i)) (hP:Pow w) (hrc:RC w) (hT:Dg.Tables w) :
  Calls Tryz.prog 26 #[.string (sxN i k),v] w fun e w'=>N4 w (sxN i k) 1 (16+8*i) zs (PsX w.heap.size zs k (4+2*i)) e w':=by
 have q8:16+8*i=4*(4+2*i):=by omega
 have hpos:1<w.heap.size:=World.block_lt_of_cell? w ⟨1,0,none⟩ (hrc 0 (by decide))
 have e1:mS k=1∧mK k=2∧mM k=0∧mU k=158∧k<17∧mB k≠.nilFunc:=by rcases hk with rfl | rfl | rfl | rfl<;>exact ⟨rfl,rfl,rfl,rfl,by decide,by intro e;cases e⟩
 have q:=Zfo i k hi e1.2.2.2.2.1 v zs w hv hb (by rw[e1.2.1,e1.2.2.1,hl];omega) hP hrc (PhB w.heap.size zs k) (PsX w.heap.size zs k (4+2*i)) (fun u u' s o x ho h=>h.oc ho) (fun u u' sh a b c ho h=>h.oc ho) (fun e=>absurd e e1.2.2.2.2.2)
  (fun bg hbg B sh kv mp u hu hB1 hB2 hA=>Ze3 w.heap.size i k hi (by rcases hk with rfl | rfl | rfl | rfl<;>decide) bg hbg _ _ zs B sh kv mp u hB1 hB2 hA (by omega) (hT.below hu (by have:=hT.size;omega)) (hrc.belowB hu hpos)) ?_
 ·rw[e1.1] at q;exact q
 ·intro fv B sh kv mp ov u _ hΦ hu hB1 hB2 hA few
  obtain ⟨LE,fn,cs,shc,g,h1,h2,h3,h4,h5⟩:=hΦ
  subst h1
  rw[e1.2.2.2.1]
  rw[e1.1] at hA ⊢
  have hA2:=hA
  rw[q8] at hA2
  refine (Bc B sh (sxN i k) 1 (4+2*i) zs kv mp ov fn #[] cs u hA2 hB2 few (by omega) (by omega) hb (hrc.belowB hu hpos) (Nat.lt_of_lt_of_le hpos hu.size)).mono ?_
  intro e u' hh
  obtain ⟨go,ov',rfl,hgo,hK,hR,hS,hF,hkp⟩:=hh.out
  rw[←q8] at hS
  obtain ⟨n0,os0,_,ho0⟩:=few
  have hKk:∀ x,Vp u x→u'.heap[x.1]?=u.heap[x.1]?:=fun x hx=>by
   obtain ⟨R,hR⟩:=hx.2
   exact hkp _ hx.1.ciph.here (Zs hR h3 (by decide)) (O8 ho0 hR (by decide))
  have hgo2:g<go:=by
   rcases hA.main with ⟨q,_⟩ | ⟨g',nk,hm,_,_,_,hg,_⟩
   ·omega
   ·have e:shc=shL (sxN i k) 1 kv (16+8*i) mp ov:=by
     have p:=h3.symm.trans hA.box
     injection p with p
     injection p with p
     exact List.toArray_inj p
    rw[e,hm] at h4
    injection h4 with h4
    injection h4 with h4
    injection h4 with h4
    injection h4 with h4
    have:=hg.ciph.here
    omega
  refine ⟨_,_,_,_,_,_,ov',rfl,hS,hF,LE,fn,cs,_,g,go,rfl,(h2.keep hF.bel.size hKk (fun b v hb ho=>hkp b hb.lt (Zs hb h3 (by decide)) ho)).nov,hS.box,?_,fun x hx=>⟨h5 x hx,?_⟩,hgo2,by have:=hu.size;omega,⟨hK,hR⟩,rfl,rfl⟩
  ·have e:shc=shL (sxN i k) 1 kv (16+8*i) mp ov:=by
    have p:=h3.symm.trans hA.box
    injection p with p
    injection p with p
    exact List.toArray_inj p
   rw[e] at h4
   exact h4
  ·rcases h2 with ⟨_,_,e,_⟩ | ⟨_,ge,bx,e,_,_,_,_,a6,_⟩
   ·rw[e] at hx;cases hx
   ·rw[e] at hx
    obtain rfl:x=(ge,14,esK zs):=by simpa using hx
    have:=a6.1.ciph.here
    show ge<go
    omega
def QX (F:Nat→List Int→List Int):Prop:=∃ (nr:Nat) (K:Nat→Nat) (t:Nat→BitVec 128),(∀ j,K j<4294967296)∧∀ s zs,F s zs=Cy (Yz nr K) (dbN (t s)) zs (zs.length/16)
theorem Zfq (i k:Nat) (hi:i<3) (hk:k=10∨k=11∨k=12∨k=13) (v:Value) (zs:List Int) (w:World) (hv:Zi w v zs) (hb:Zg zs) (hl:zs.length=2*(16+8*i)) (hP:Pow w) (hrc:RC w) (hT:Dg.Tables w) :
  Calls Tryz.prog 26 #[.string (sxN i k),v] w fun e w'=>I0 w (N5 QX 1) e w':=by
 refine (Zep i k hi hk v zs w hv hb hl hP hrc hT).mono fun e w' h=>?_
 obtain ⟨c,sh,kv,mp,ov,fv,sv,pv,rfl,hc0,hcb,hsh,⟨LE,fn,cs,shc,g,go,h1,h2,h3,h4,h5,h6,h7,h8,h9,h10⟩,hbel⟩:=h
 refine ⟨c,rfl,?_,hbel⟩
 obtain ⟨g',nk,hm,hgB,_,hwd,hgK,hgR⟩:∃ g nk,mp=some ⟨g,0,none⟩∧w.heap.size≤g∧(nk=4∨nk=6∨nk=8)∧16+8*i=4*nk∧Zp w' g (nk+6) (Z6 nk (Y4 (zs.take (16+8*i))))∧∃ R:Array Value,w'.heap[g]?=some (.cells R 135 (0,0)):=by
  rcases hsh.main with ⟨h0,_⟩ | h
  ·omega
  ·exact h
 have e:shc=shL (sxN i k) 1 kv (16+8*i) mp ov:=by
  have p:=h3.symm.trans hsh.box
  injection p with p
  injection p with p
  exact List.toArray_inj p
 obtain rfl:g'=g:=by
  rw[e,hm] at h4
  injection h4 with h4
  injection h4 with h4
  injection h4 with h4
  injection h4 with h4
 subst h1
 subst h9
 have hxm:Vp w' (g',nk+6,Z6 nk (Y4 (zs.take (16+8*i)))):=⟨hgK,hgR⟩
 have hLE:∀ x,x∈LE→w.heap.size≤x.1∧Vp w' x:=fun x hx=>by
  rcases h2 with ⟨_,_,e,_⟩ | ⟨_,ge,bx,e,_,_,a4,_,a6,_⟩
  ·rw[e] at hx;cases hx
  ·rw[e] at hx
   obtain rfl:x=(ge,14,esK zs):=by simpa using hx
   exact ⟨a4,a6⟩
 have hLone:∀ x y,x∈LE→y∈LE→x=y:=fun x y hx hy=>by
  rcases h2 with ⟨_,_,e,_⟩ | ⟨_,ge,bx,e,_⟩
  ·rw[e] at hx;cases hx
  ·rw[e] at hx hy
   rw[show x=(ge,14,esK zs) by simpa using hx,show y=(ge,14,esK zs) by simpa using hy]
 obtain ⟨x0,hx0⟩:∃ x:Nat×Nat×(Nat→Nat),x=(g',nk+6,Z6 nk (Y4 (zs.take (16+8*i)))):=⟨_,rfl⟩
 obtain ⟨y0,hy0⟩:∃ x:Nat×Nat×(Nat→Nat),x=(go,(4+2*i)+6,Z6 (4+2*i) (Y4 (zs.drop (4*(4+2*i))))):=⟨_,rfl⟩
 have ex1:x0.1=g':=by rw[hx0]
 have ey1:y0.1=go:=by rw[hy0]
 have hKx:Vp w' x0:=by rw[hx0];exact hxm
 have hKy:Vp w' y0:=by rw[hy0];exact h8
 have hKall:∀ x,x∈x0::y0::LE→w.heap.size≤x.1∧Vp w' x:=fun x hx=>by
  simp only[List.mem_cons] at hx
  rcases hx with rfl | rfl | hx
  ·exact ⟨by rw[ex1];exact hgB,hKx⟩
  ·exact ⟨by rw[ey1];exact h7,hKy⟩
  ·exact hLE x hx
 have hL:KlP w.heap.size w'.heap.size (x0::y0::LE) w':=by
  refine ⟨fun x hx=>⟨(hKall x hx).1,(hKall x hx).2.1.ciph.here⟩,fun x y hx hy hxy=>?_,fun x hx=>(hKall x hx).2.2⟩
  simp only[List.mem_cons] at hx hy
  rcases hx with rfl | rfl | hx<;>rcases hy with rfl | rfl | hy
  ·rfl
  ·omega
  ·have:=(h5 y hy).1;omega
  ·omega
  ·rfl
  ·have:=(h5 y hy).2;omega
  ·have:=(h5 x hx).1;omega
  ·have:=(h5 x hx).2;omega
  ·exact hLone x y hx hy
 have hI:Sti w.heap.size w'.heap.size (x0::y0::LE) w' w':=⟨fun x hx=>(hKall x hx).2.1,fun b _ _ _=>rfl,Nat.le_refl _⟩
 have hc1:w.heap.size≤c∧c<w'.heap.size:=⟨hc0,hcb.lt⟩
 have hs1:w.heap.size≤sh∧sh<w'.heap.size:=⟨hsh.le,hsh.box.lt⟩
 have k4:(shL (sxN i k) 1 kv (16+8*i) mp ov)[4]?=some (.pointer (some ⟨x0.1,0,none⟩)):=by rw[hm,ex1];rfl
 rw[←ey1] at hcb
 rcases h2 with ⟨_,_,e1,e2,e3⟩ | ⟨_,ge,bx,e1,e2,e3,a4,a5,a6,a7,_⟩
 ·subst e2 e3
  refine ⟨_,_,_,_,hL,hI,Un hL c sh (sbN k) 1 #[] (sbF k) _ pv x0 y0 (by decide) hcb hsh.box hc1 hs1 rfl k4 rfl (by simp) (by simp) (U4 k) (Uf hL.cst (sbN k) (sbF k) (Zd8 k)),x0.2.1,x0.2.2,fun s=>Yz y0.2.1 y0.2.2 (sbF k s 0),hKx.1.ciph.small,fun s zs=>rfl⟩
 ·subst e2 e3
  have hz:((ge,14,esK zs):Nat×Nat×(Nat→Nat))∈x0::y0::LE:=by rw[e1];simp
  refine ⟨_,_,_,_,hL,hI,Un hL c sh 187 1 #[.pointer (some ⟨bx,0,none⟩)] (fun s _=>Yz 14 (esK zs) (plV true s)) _ pv x0 y0 (by decide) hcb hsh.box hc1 hs1 rfl k4 rfl (by simp) (by simp) (fun args u=>Zr Tryz.func187 (by rfl) (by rfl) args u) (fun s n u hs hn hIu=>?_),x0.2.1,x0.2.2,fun s=>Yz y0.2.1 y0.2.2 (Yz 14 (esK zs) (plV true s)),hKx.1.ciph.small,fun s zs=>rfl⟩
  exact Et hL.cst bx ge (Yz 14 (esK zs)) s (n:Nat) u hs hIu ((hIu.bx hL a7 a5 a7.lt (by decide)).cell 0 _ rfl) (hL.not a7 (by decide)) (Ri hL (ge,14,esK zs) hz)
def QBl (F:Nat→List Int→List Int):Prop:=∃ E:Nat→Nat→Nat→BitVec 128→BitVec 128,(∀ s k j a b,E s k j a=E s k j b→a=b)∧∀ s zs k,zs.length=16*k→F s zs=bkZ (fun j=>E s k j (cutV zs j)) (16*k) k
def Gp (L:List Int) (m j:Nat) (x:BitVec 128):List Int:=(List.range (16*m)).map fun p=>if p/16=j then ((Fd.byV x (p%16):Nat):Int) else L.getD p 0
theorem Nt (L:List Int) (m j:Nat) (x:BitVec 128):(Gp L m j x).length=16*m:=by simp [Gp]
theorem Ky (L:List Int) (m j:Nat) (x:BitVec 128) (p:Nat) (hp:p<16*m):(Gp L m j x).getD p 0=if p/16=j then ((Fd.byV x (p%16):Nat):Int) else L.getD p 0:=by
 rw[List.getD_eq_getElem?_getD,Gp,List.getElem?_map,List.getElem?_range hp];rfl
theorem Lz {L:List Int} (h:Zg L) (m j:Nat) (x:BitVec 128):Zg (Gp L m j x):=fun p=>by
 by_cases hp:p<16*m
 ·rw[Ky L m j x p hp]
  split
  ·have:=Fd.Qx x (p%16);omega
  ·exact h p
 ·rw[List.getD_eq_getElem?_getD,List.getElem?_eq_none (by rw[Nt];omega)];simp
theorem Sd {L:List Int} (hb:Zg L) (j i:Nat) (hi:i<16):((Fd.byV (cutV L j) i:Nat):Int)=L.getD (16*j+i) 0:=by
 unfold cutV
 rw[Fd.Vm _ (fun i=>V6 hb _) i hi]
 unfold Y4
 have:=hb (16*j+i)
 omega
theorem In (L:List Int) (m j:Nat) (x:BitVec 128) (i:Nat) (hi:i<m) (hn:i≠j):cutV (Gp L m j x) i=cutV L i:=by
 unfold cutV
 congr 1
 exact Fr _ _ 16 fun q hq=>by
  unfold Y4
  rw[Ky L m j x _ (by omega),if_neg (by omega)]
theorem Dy (L:List Int) (m j:Nat) (x:BitVec 128) (hj:j<m):cutV (Gp L m j x) j=x:=Sc fun i hi=>by
 rw[Ky L m j x _ (by omega),if_pos (by omega),show (16*j+i)%16=i by omega]
theorem Il {L:List Int} (hb:Zg L) (m j:Nat) (x:BitVec 128) (hj:j<m):(∀ p,p<16*m→p/16=j→L.getD p 0=(Gp L m j x).getD p 0)↔cutV L j=x:=by
 constructor
 ·intro h
  apply Fd.Ji
  intro i hi
  have h1:=h (16*j+i) (by omega) (by omega)
  rw[Ky L m j x _ (by omega),if_pos (by omega),show (16*j+i)%16=i by omega,←Sd hb j i hi] at h1
  omega
 ·intro h p hp hpj
  rw[Ky L m j x p hp,if_pos hpj,←h,Sd hb j (p%16) (by omega),show 16*j+p%16=p by omega]
theorem Ty {L:List Int} (E:Nat→BitVec 128→BitVec 128) (m j:Nat) (x:BitVec 128) (hj:j<m) (p:Nat) (hp:p<16*m) (hn:p/16≠j):(bkZ (fun i=>E i (cutV L i)) (16*m) m).getD p 0=(bkZ (fun i=>E i (cutV (Gp L m j x) i)) (16*m) m).getD p 0:=by
 rw[Q8 _ _ _ p hp,Q8 _ _ _ p hp,if_pos hp,if_pos hp,In L m j x (p/16) (by omega) hn]
theorem Tz {L:List Int} (E:Nat→BitVec 128→BitVec 128) (hE:∀ i a b,E i a=E i b→a=b) (m j:Nat) (x:BitVec 128) (hj:j<m):(∀ p,16*j≤p→p<16*j+16→(bkZ (fun i=>E i (cutV L i)) (16*m) m).getD p 0=(bkZ (fun i=>E i (cutV (Gp L m j x) i)) (16*m) m).getD p 0)↔cutV L j=x:=by
 constructor
 ·intro h
  apply hE j
  apply Fd.Ji
  intro i hi
  have h1:=h (16*j+i) (by omega) (by omega)
  rw[Q8 _ _ _ _ (by omega),Q8 _ _ _ _ (by omega),if_pos (by omega),if_pos (by omega),show (16*j+i)/16=j by omega,show (16*j+i)%16=i by omega,Dy L m j x hj] at h1
  omega
 ·intro h p h1 h2
  rw[Q8 _ _ _ p (by omega),Q8 _ _ _ p (by omega),if_pos (by omega),if_pos (by omega),show p/16=j by omega,Dy L m j x hj,h]
theorem Mz (E:BitVec 128→BitVec 128) (f:Nat→BitVec 128) (zs:List Int) (k:Nat) (h:zs.length=16*k):Cy E f zs k=bkZ (Gm E f zs) (16*k) k:=by
 apply Zak
 ·rw[Jg,Xq,h]
 ·intro i hi
  rw[Jg] at hi
  rw[R2 E f zs k i hi,Q8 _ _ _ i (by omega),if_pos (by omega)]
  unfold Zad
  rw[if_pos (.inl h)]
theorem Zdu {F:Nat→List Int→List Int} (h:∃ (nr:Nat) (K:Nat→Nat) (t:Nat→BitVec 128),(∀ j,K j<4294967296)∧∀ s zs,F s zs=Cy (Yz nr K) (dbN (t s)) zs (zs.length/16)):QBl F:=by
 obtain ⟨nr,K,t,hK,hF⟩:=h
 refine ⟨fun s k j a=>Yz nr K (a ^^^ dbN (t s) j) ^^^ dbN (t s) j,fun s k j a b h=>R0 nr K hK _ a b h,fun s zs k hk=>?_⟩
 rw[hF,show zs.length/16=k by omega,Mz _ _ _ _ hk]
 rfl
theorem Gg.mono {fn:Nat} {Ks:Nat→Prop} {I:World→Prop} {c:Nat} {F:Nat→List Int→List Int} (h:Gg fn Ks I 1 c F) (st:Nat):Gg fn Ks I st c F:=fun s b off cp zs u hI hs h1 h2 _ h4 h5 h6=>h s b off cp zs u hI hs h1 h2 (Nat.mod_one _) h4 h5 h6
theorem Zcw {A B:Nat} {L:List (Nat×Nat×(Nat→Nat))} {w0:World} (hL:KlP A B L w0) (c sh wd:Nat) (fv pv kv:Value) (kz:List Int) (shc:List Value) (x:Nat×Nat×(Nat→Nat)) (hc:Bx w0 c 70 [.pointer (some ⟨sh,0,none⟩),fv,bV 203 [.pointer (some ⟨sh,0,none⟩),fV 183],pv]) (hs:Bx w0 sh 115 shc) (hcA:A≤c∧c<B) (hsA:A≤sh∧sh<B) (ho:w0.ownsRow A 5 1 kv kz.length (Za kz)) (hoB:B=w0.heap.size)
  (h1:shc[1]?=some (.int .i64 (16:Nat))) (h2:shc[2]?=some kv) (h3:shc[3]?=some (.int .i64 (wd:Nat))) (h4:shc[4]?=some (.pointer (some ⟨x.1,0,none⟩))) (h6:shc[6]?=some (.bool false)) (hx:x∈L) (hwd:wd+16≤kz.length) (hzl:kz.length≤1000) (hkb:Zg kz) :
  Gg 13 (Qo L) (Sti A B L w0) 16 c (fun s zs=>bkZ (fun j=>lrB x.2.1 x.2.2 (cutV (kz.drop wd) 0) (s*(zs.length/16)+1+j) (cutV zs j)) zs.length (zs.length/16)):=by
 intro s b off cp zs u hI hs64 hl0 hl1 hlst hzb hbk hv
 have hcu:=hI.bx hL hc hcA.1 hcA.2 (by decide)
 have hsu:=hI.bx hL hs hsA.1 hsA.2 (by decide)
 obtain ⟨_,hcp,hz⟩:=Xw hv
 have hm:zs.length≤maxLen:=by unfold maxLen;omega
 have hou:u.ownsRow A 5 1 kv kz.length (Za kz):=Ys ho fun q e=>by
  obtain ⟨cur,hq⟩:=Xk ho e
  refine hI.rest q (Z2 ho e).1 (by rw[hoB];exact (Z2 ho e).2) fun hk=>?_
  obtain ⟨y,hy,ey⟩:=hk
  obtain ⟨R,hR⟩:=hL.typ y hy
  exact Zs hq hR (by decide) ey.symm
 have hne:sh≠x.1:=fun e=>hL.not hs (by decide) ⟨x,hx,e.symm⟩
 have q:=Fl c sh 203 [.pointer (some ⟨sh,0,none⟩),fV 183] (s:Nat) (some ⟨b,off,none⟩) zs.length cp 16 u (hcu.cell 0 _ rfl) (hcu.cell 2 _ rfl) (hsu.cell 1 _ h1) (hsu.cell 6 _ h6) hl0 (by omega) hlst (by decide) (fun args u=>Zr Tryz.func203 (by rfl) (by rfl) args u)
  (fun v w'=>∃ X,v=.slice (some ⟨X,0,none⟩) zs.length zs.length∧u.heap.size≤X∧Bx w' X 5 (bkL (fun j=>lrB x.2.1 x.2.2 (cutV (kz.drop wd) 0) (s*(zs.length/16)+1+j) (cutV zs j)) (zs.length/16))∧Sti A B L w0 w'∧Gk (Qo L) u w') ?_
 ·refine q.mono fun e w' hh=>?_
  obtain ⟨y',kk,d,rfl,X,hX,p1,p2,p3,p4⟩:=hh.out
  rw[hX]
  refine ⟨X,zs.length,rfl,p1,?_,p3,p4⟩
  rw[Dz,show 16*(zs.length/16)=zs.length by omega] at p2
  have hv2:=Fg p2 (by rw[Xq];exact hm)
  rw[Xq] at hv2
  exact hv2
 ·refine (M5 x.1 x.2.1 x.2.2 sh wd kz kv s b off cp (zs.length/16) zs u (hI.key x hx) (hsu.cell 4 _ h4) hne (Xz hou rfl) (hsu.cell 2 _ h2) (hsu.cell 3 _ h3) hwd hzl hs64 hkb (by omega) (by omega) hcp hzb (fun e=>hbk ⟨x,hx,e.symm⟩) hz).mono fun e w' hh=>?_
  obtain ⟨X,rfl,p1,p2,p3,p4⟩:=hh.out
  exact ⟨_,_,_,rfl,X,rfl,p1,p2,hI.gb hL hx p4 p3,Gk.of_gb p4 ⟨x,hx,rfl⟩⟩
theorem Sa {A:Nat} {w':World} {x:Nat×Nat×(Nat→Nat)} (hA:A≤x.1) (hK:Vp w' x):KlP A w'.heap.size [x] w'∧Sti A w'.heap.size [x] w' w':=by
 have e:∀ y,y∈[x]→y=x:=fun y hy=>by simpa using hy
 exact ⟨⟨fun y hy=>by rw[e y hy];exact ⟨hA,hK.1.ciph.here⟩,fun y z hy hz _=>by rw[e y hy,e z hz],fun y hy=>by rw[e y hy];exact hK.2⟩,fun y hy=>by rw[e y hy];exact hK.1,fun b _ _ _=>rfl,Nat.le_refl _⟩
theorem Rp {A:Nat} {w':World} {sh:Nat} {S:ByteArray} {st i:Nat} {zs:List Int} {kv:Value} {mp:Option Addr} {ov:Value} (h:ShA A w' sh S st (16+8*i) zs kv mp ov):∃ x:Nat×Nat×(Nat→Nat),mp=some ⟨x.1,0,none⟩∧A≤x.1∧Vp w' x:=by
 rcases h.main with ⟨h0,_⟩ | ⟨g,nk,hm,hB,_,_,hK,hR⟩
 ·omega
 ·exact ⟨(g,nk+6,Z6 nk (Y4 (zs.take (16+8*i)))),hm,hB,hK,hR⟩
theorem Zfr (i:Nat) (hi:i<3) (v:Value) (zs:List Int) (w:World) (hv:Zi w v zs) (hb:Zg zs) (hl:zs.length=16+8*i) (hP:Pow w) (hrc:RC w) :
  Calls Tryz.prog 26 #[.string (sxN i 0),v] w fun e w'=>I0 w (N5 QBl 16) e w':=by
 refine (Zac i hi v zs w (fun j hj=>Vz ⟨i,hi⟩ ⟨0,by decide⟩ ⟨j,by omega⟩ hj) hv hb (by omega) hP hrc).mono fun e w' h=>?_
 obtain ⟨c,sh,kv,mp,ov,fv,sv,pv,rfl,hc0,hcb,hsh,⟨rfl,rfl,rfl⟩,hbel⟩:=h
 obtain ⟨x,hm,hA,hK⟩:=Rp hsh
 obtain ⟨hL,hI⟩:=Sa hA hK
 refine ⟨c,rfl,⟨_,_,_,_,hL,hI,Zde hL c sh _ _ _ x hcb hsh.box ⟨hc0,hcb.lt⟩ ⟨hsh.le,hsh.box.lt⟩ rfl (by rw[hm];rfl) rfl (by simp),fun s k j a=>Yz x.2.1 x.2.2 a,fun s k j a b h=>Nk _ _ hK.1.ciph.small a b h,fun s zs k hk=>by show bkZ _ zs.length (zs.length/16)=_;rw[hk,show 16*k/16=k by omega]⟩,hbel⟩
theorem Ze1 (i:Nat) (hi:i<3) (v:Value) (zs:List Int) (w:World) (hv:Zi w v zs) (hb:Zg zs) (hl:zs.length=16+8*i+16) (hP:Pow w) (hrc:RC w) (hT:Dg.Tables w) :
  Calls Tryz.prog 26 #[.string (sxN i 14),v] w fun e w'=>I0 w (N5 QBl 16) e w':=by
 refine (Zco i hi v zs w (fun j hj=>Vz ⟨i,hi⟩ ⟨14,by decide⟩ ⟨j,by omega⟩ hj) hv hb (by omega) hP hT hrc).mono fun e w' h=>?_
 obtain ⟨c,sh,kv,mp,ov,fv,sv,pv,rfl,hc0,hcb,hsh,⟨rfl,rfl,rfl⟩,hbel⟩:=h
 obtain ⟨x,hm,hA,hK⟩:=Rp hsh
 obtain ⟨hL,hI⟩:=Sa hA hK
 refine ⟨c,rfl,⟨_,_,_,_,hL,hI,Zcw hL c sh (16+8*i) _ _ kv zs _ x hcb hsh.box ⟨hc0,hcb.lt⟩ ⟨hsh.le,hsh.box.lt⟩ hsh.key rfl rfl rfl rfl (by rw[hm];rfl) rfl (by simp) (by omega) (by omega) hb,fun s k j a=>lrB x.2.1 x.2.2 (cutV (zs.drop (16+8*i)) 0) (s*k+1+j) a,fun s k j a b h=>R0 _ _ hK.1.ciph.small _ a b h,fun s zs k hk=>by show bkZ _ zs.length (zs.length/16)=_;rw[hk,show 16*k/16=k by omega]⟩,hbel⟩
theorem Ze0 (i k:Nat) (hi:i<3) (hk:k=10∨k=11∨k=12∨k=13) (v:Value) (zs:List Int) (w:World) (hv:Zi w v zs) (hb:Zg zs) (hl:zs.length=2*(16+8*i)) (hP:Pow w) (hrc:RC w) (hT:Dg.Tables w) :
  Calls Tryz.prog 26 #[.string (sxN i k),v] w fun e w'=>I0 w (N5 QBl 16) e w':=by
 refine (Zfq i k hi hk v zs w hv hb hl hP hrc hT).mono fun e w' h=>?_
 obtain ⟨c,rfl,⟨B,L,w0,F,h1,h2,h3,h4⟩,hb⟩:=h
 exact ⟨c,rfl,⟨B,L,w0,F,h1,h2,h3.mono 16,Zdu h4⟩,hb⟩
def bmK (q:Nat):Nat:=if q=0 then 0 else 9+q
theorem Zet (q t:Nat) (hq:q<6) (ht:t<3) (v:Value) (bs:List Int) (u:World) (G o cp:Nat) (hE:Env u G o cp) (hv:Zi u v bs) (hbb:Zg bs) :
  Calls Tryz.prog 10 #[.agg #[.int .i64 (1+bmK q+17*t:Nat),v]] u fun e w'=>I1 u (N5 QBl 16) e w':=by
 obtain ⟨k,hk⟩:∃ k,k=bmK q:=⟨_,rfl⟩
 have hkc:k=0∨(k=10∨k=11∨k=12∨k=13)∨k=14:=by unfold bmK at hk;split at hk<;>omega
 have hk17:k<17:=by omega
 rw[←hk]
 have hf:∀ j,j<1+17*t+k→spN j≠sxN t k:=fun j hj=>Vz ⟨t,ht⟩ ⟨k,hk17⟩ ⟨j,by omega⟩ hj
 refine P3 (1+k+17*t:Nat) (1+17*t+k) v bs u G o cp (N5 QBl 16) (Ez QBl 16) hE.md (by omega) (by rw[Yr _ (by omega)];omega) hv ?_ ?_
 ·intro u2 x2 hu2 hv2
  have hE2:=hE.below hu2
  rw[V8 t k hk17,Qn t k hk17] at *
  rcases hkc with rfl | h | rfl
  ·exact Zfr t ht x2 _ u2 hv2 (Kv hbb _) (by rw[Jw];show 1*(16+8*t)+0=_;omega) hE2.pow hE2.rc
  ·exact Ze0 t k ht h x2 _ u2 hv2 (Kv hbb _) (by rw[Jw];rcases h with rfl | rfl | rfl | rfl<;>rfl) hE2.pow hE2.rc hE2.tb
  ·exact Ze1 t ht x2 _ u2 hv2 (Kv hbb _) (by rw[Jw];show 1*(16+8*t)+16=_;omega) hE2.pow hE2.rc hE2.tb
 ·intro u2 x2 hu2 hv2
  have hE2:=hE.below hu2
  rw[V8 t k hk17,Qn t k hk17] at *
  exact Zee t k ht hk17 x2 _ u2 G o cp hf hv2 (Kv hbb _) (by rw[Jw]) hE2.md hE2.rt
theorem Zdn (nn at':Int):∃ n m j x:Nat,ftN nn true=n∧n=16*m∧1≤m∧m≤32∧j<m∧IntKind.u64.wrap at'=(x:Int)∧(n:Int).tdiv 16=(m:Int)∧(n:Int)/16=(m:Int)∧IntKind.i64.wrap (m:Int)=(m:Int)∧IntKind.u64.wrap (m:Int)=(m:Int)∧((m:Int)==0)=false∧(m:Int)≠0∧¬ m=0∧(x:Int)%(m:Int)=(j:Int)∧(x:Int).tmod (m:Int)=(j:Int)∧IntKind.i64.wrap (j:Int)=(j:Int)∧IntKind.u64.wrap (j:Int)=(j:Int)∧wrap64 (j:Int)=(j:Int)∧IntKind.i64.wrap (16*(j:Int))=((16*j:Nat):Int)∧wrap64 ((16*j:Nat):Int)=((16*j:Nat):Int)∧IntKind.i64.wrap (((16*j:Nat):Int)+16)=((16*j+16:Nat):Int):=by
 obtain ⟨m,h1,h2,h3⟩:=Tm nn
 have h0:0≤IntKind.u64.wrap at':=by unfold IntKind.wrap;simp [IntKind.signed,IntKind.bits];omega
 obtain ⟨x,hx⟩:∃ x:Nat,IntKind.u64.wrap at'=(x:Int):=⟨(IntKind.u64.wrap at').toNat,by omega⟩
 have hj:x%m<m:=Nat.mod_lt _ h2
 refine ⟨16*m,m,x%m,x,h1,rfl,h2,h3,hj,hx,?_,by omega,?_,Yr _ (by omega),by simp;omega,by omega,by omega,rfl,?_,?_,Yr _ (by omega),?_,?_,?_,?_⟩
 ·rw[Int.tdiv_eq_ediv_of_nonneg (by omega)];omega
 ·rw[IntKind.wrap_i64];omega
 ·rw[Int.tmod_eq_emod_of_nonneg (by omega)];rfl
 ·rw[IntKind.wrap_i64];omega
 ·unfold wrap64;omega
 ·rw[IntKind.wrap_i64];omega
 ·unfold wrap64;omega
 ·rw[IntKind.wrap_i64];omega
theorem Eb (i n:Nat) (h:i<n) (hn:n≤512):(i:Int).tdiv 16=((i/16:Nat):Int)∧(i:Int)/16=((i/16:Nat):Int)∧IntKind.i64.wrap ((i/16:Nat):Int)=((i/16:Nat):Int)∧IntKind.i64.wrap ((i:Int)+1)=((i+1:Nat):Int)∧wrap64 ((i:Int)+1)=((i+1:Nat):Int)∧(i:Int)<(n:Int)∧(0:Int)≤(i:Int)∧wrap64 (i:Int)=(i:Int)∧wrap64 ((i/16:Nat):Int)=((i/16:Nat):Int):=by
 refine ⟨?_,by omega,?_,?_,?_,by omega,by omega,?_,?_⟩
 ·rw[Int.tdiv_eq_ediv_of_nonneg (by omega)];omega
 ·rw[IntKind.wrap_i64];omega
 ·rw[IntKind.wrap_i64];omega
 ·unfold wrap64;omega
 ·unfold wrap64;omega
 ·unfold wrap64;omega
structure BlI (L Z U V:List Int) (n b d z dz x1 d1 x2 d2:Nat) (w:World):Prop where
 l:Zi w (.slice (some ⟨b,0,none⟩) n d) L
 z:Zi w (.slice (some ⟨z,0,none⟩) n dz) Z
 u:Zi w (.slice (some ⟨x1,0,none⟩) n d1) U
 v:Zi w (.slice (some ⟨x2,0,none⟩) n d2) V
theorem Jd {w:World} {b n d:Nat} {L:List Int} (h:Zi w (.slice (some ⟨b,0,none⟩) n d) L) (i:Nat) (hi:i<n):w.cell? ⟨b,i,none⟩=some (.int .u8 (L.getD i 0)):=by
 obtain ⟨h1,_,h3⟩:=Xw h
 have:=h3 i (by omega)
 rwa [Nat.zero_add] at this
theorem Ko {u v:World} {Ks:Nat→Prop} {b n d:Nat} {L:List Int} (h:Zi u (.slice (some ⟨b,0,none⟩) n d) L) (hb:¬ Ks b) (hg:Gk Ks u v):Zi v (.slice (some ⟨b,0,none⟩) n d) L:=by
 obtain ⟨z1,z2,z3⟩:=Xw h
 have z4:=Gu (w:=v) (b:=b) (off:=0) (c:=d) (zs:=L) (by omega) (by obtain ⟨_,_,ze,_,zm,_⟩:=h;injection ze with _ _ ze;omega) (fun i hi=>hg.cell hb (z3 i hi))
 rw[z1] at z4
 exact z4
theorem M4 {B:Nat} {w:World} {v:Value} {L:List Int} (h:X8 B w v L):∃ g c cur,v=.slice (some ⟨g,0,none⟩) L.length c∧B≤g∧Bx w g 5 cur∧L.length≤c∧c≤maxLen∧L.length≤cur.length∧∀ i,i<L.length→cur[i]?=some (.int .u8 (L.getD i 0)):=by
 obtain ⟨g,c,rfl,ho⟩:=h
 rcases ho.2 with ⟨q,_⟩ | ⟨g',cap,cur,q,hB,hh,hn,hm,hs,ht⟩
 ·cases q
 ·injection q with q1 q2 q3
  injection q1 with q1
  injection q1 with q1
  subst q1 q3
  refine ⟨g,c,cur.toList,rfl,hB,by unfold Bx;simpa using hh,by omega,hm,by simp;omega,fun i hi=>?_⟩
  have e:(cur.toList.take ((L.length+70)*1))[i]?=(Za (L++marks 70))[i]?:=by rw[ht]
  rw[List.getElem?_take,if_pos (by omega)] at e
  rw[e,Wb _ i (by rw[List.length_append];omega),List.getD_eq_getElem?_getD,List.getElem?_append_left hi,←List.getD_eq_getElem?_getD]
theorem Im (L:List Int) (m j:Nat) (x:BitVec 128) (hj:j<m) (cur:List Value) (hl:16*m≤cur.length) (hc:∀ i,i<16*m→cur[i]?=some (.int .u8 (L.getD i 0))) (p:Nat) (hp:p<16*m):(splice cur (16*j) (Fd.BL x))[p]?=some (.int .u8 ((Gp L m j x).getD p 0)):=by
 rw[Ky L m j x p hp]
 have hb:(Fd.BL x).length=16:=Fd.Zq x
 have ht:(cur.take (16*j)).length=16*j:=by rw[List.length_take];omega
 unfold splice
 by_cases h1:p<16*j
 ·rw[if_neg (by omega),List.getElem?_append_left (by omega),List.getElem?_take,if_pos h1,hc p hp]
 ·rw[List.getElem?_append_right (by omega),ht]
  by_cases h2:p<16*j+16
  ·rw[if_pos (by omega),List.getElem?_append_left (by omega),L9 _ _ (by omega),show p-16*j=p%16 by omega]
  ·rw[if_neg (by omega),List.getElem?_append_right (by omega),hb,List.getElem?_drop,show 16*j+16+(p-16*j-16)=p by omega,hc p hp]
set_option maxHeartbeats 800000 in
set_option maxRecDepth 100000 in
theorem C5 (nm : Int) (v : Value) (bs : List Int) (s : Nat) (bv : Value) (ys : List Int) (nn at' : Int) (xx : BitVec 128) (w : World) (G o cp : Nat) (hE : Env w G o cp) (hv : Zi w v bs) (hbb : Zg bs) (hbv : Zi w bv ys) (hyb : Zg ys) (hs : s < 18446744073709551616) :
    Calls Tryz.prog 3 #[.agg #[.int .i64 nm, v], .int .u64 (s : Nat), bv, .int .i64 nn, .int .i64 at', Fd.BV xx] w fun e w' => Hid (e = .returned (.bool true) ∧ Below w.heap.size w w') := by
  obtain ⟨va, vc, he, hvr⟩ := id hv
  clear hvr
  obtain ⟨nl, HNL⟩ : ∃ n, Hid (bs.length = n) := ⟨_, rfl⟩
  rw [HNL.out] at he
  subst he
  obtain ⟨N, HN⟩ : ∃ N : Nat, Hid (IntKind.u64.wrap nm % 3000 = (N : Int)) := ⟨(IntKind.u64.wrap nm % 3000).toNat, by show _ = _; omega⟩
  obtain ⟨q, HQ⟩ : ∃ q : Nat, Hid (N % 6 = q) := ⟨_, rfl⟩
  obtain ⟨t, HT⟩ : ∃ t : Nat, Hid (N / 6 % 3 = t) := ⟨_, rfl⟩
  have hq6 : q < 6 := by rw [← HQ.out]; omega
  have ht3 : t < 3 := by rw [← HT.out]; omega
  obtain ⟨T, HTT⟩ : ∃ T : Nat, Hid (1 + bmK q + 17 * t = T) := ⟨_, rfl⟩
  obtain ⟨BX, HBXX⟩ : ∃ BX, Hid (BX = Fd.BL xx) := ⟨_, rfl⟩
  have HBL : Hid (BX.length = 16 ∧ ∀ x ∈ BX, x.oneCell' = true) := by rw [HBXX.out]; exact ⟨Fd.Zq _, Yt _⟩
  have H9 : Hid (∀ u, (∀ i, i < 6 → u.cell? ⟨w.heap.size + 2, i, none⟩ = some (.int .i64 ((1 + bmK i : Nat) : Int))) → Calls Tryz.prog 9 #[.agg #[.int .i64 nm, .slice va nl vc], .slice (some ⟨w.heap.size + 2, 0, none⟩) 6 6] u fun e w' => Hid (e = .returned (.agg #[.int .i64 (T : Nat), .slice va nl vc]) ∧ Below u.heap.size u w')) := fun u hu => by
    have p := Zem nm va nl vc (w.heap.size + 2) 6 6 (fun i => 1 + bmK i) u N HN.out (by decide) (by decide) hu (fun i hi => by unfold bmK; split <;> omega)
    rw [HQ.out, HT.out, HTT.out] at p
    exact p
  have H10 : Hid (∀ u, Below w.heap.size w u → Calls Tryz.prog 10 #[.agg #[.int .i64 (T : Nat), .slice va nl vc]] u fun e w' => I1 u (N5 QBl 16) e w') := fun u hu => by
    have p := Zet q t hq6 ht3 (.slice va nl vc) bs u G o cp (hE.below hu) (hv.below hu) hbb
    rw [HTT.out] at p
    exact p
  obtain ⟨n, m, j, x, hnn, hn16, hm1, hm32, hjm, e0, e1, e2, e3, e4, e5, e6, e7, e8, e9, e10, e11, e12, e13, e14, e15⟩ := Zdn nn at'
  obtain ⟨L, HLL⟩ : ∃ L, Hid (ftL ys n = L) := ⟨_, rfl⟩
  have HLB : Hid (L.length = n ∧ Zg L) := by rw [← HLL.out]; exact ⟨Zaq _ _, Tn hyb _⟩
  have H11 : Hid (∀ u, Below w.heap.size w u → Calls Tryz.prog 11 #[bv, .int .i64 nn, .bool true] u fun e w' => Hid (∃ b d, e = .returned (.slice (some ⟨b, 0, none⟩) n d) ∧ u.heap.size ≤ b ∧ Zi w' (.slice (some ⟨b, 0, none⟩) n d) L ∧ Below u.heap.size u w')) := fun u hu => by
    refine (Zc6 bv ys nn true u (hbv.below hu)).mono fun e w' hh => ?_
    obtain ⟨y, d, rfl, ho, hbl⟩ := hh.out
    rw [hnn] at ho ⊢
    rw [HLL.out] at ho
    have hvw := Xz ho HLB.out.1
    rcases ho.2 with ⟨_, z⟩ | ⟨b, c2, cur, z, z1, _, z3, z4, _⟩
    · omega
    · injection z with z5 z6 z7
      subst z5 z7
      exact ⟨b, _, rfl, z1, hvw, hbl⟩
  have H14 : Hid (∀ u, Calls Tryz.prog 14 #[.int .i64 0] u fun e w' => e = .returned (.int .i64 0) ∧ w' = u) := fun u => Pr 0 u
  obtain ⟨J, HJ⟩ : ∃ J, Hid (16 * j = J) := ⟨_, rfl⟩
  obtain ⟨J2, HJ2⟩ : ∃ J2, Hid (J + 16 = J2) := ⟨_, rfl⟩
  rw [HJ.out] at e13 e14 e15
  rw [HJ2.out] at e15
  have HNU : Hid (n = 16 * m ∧ 1 ≤ m ∧ m ≤ 32 ∧ j < m ∧ J = 16 * j ∧ J2 = J + 16 ∧ s < 18446744073709551616) := ⟨hn16, hm1, hm32, hjm, HJ.out.symm, HJ2.out.symm, hs⟩
  clear hv hbb hbv hyb hE hq6 ht3 hnn hn16 hm1 hm32 hjm hs HJ HJ2
  obtain ⟨wa, hwa⟩ : ∃ wa, wa = ((w.alloc (.cells #[.int .i64 nm, .slice va nl vc] 24)).alloc (.cells BX.toArray 27)).alloc (.cells #[.int .i64 1, .int .i64 11, .int .i64 12, .int .i64 13, .int .i64 14, .int .i64 15] 3) := ⟨_, rfl⟩
  have hB3 : Bx wa (w.heap.size + 2) 3 [.int .i64 1, .int .i64 11, .int .i64 12, .int .i64 13, .int .i64 14, .int .i64 15] := by
    have q := Bx.new ((w.alloc (.cells #[.int .i64 nm, .slice va nl vc] 24)).alloc (.cells BX.toArray 27)) 3 [.int .i64 1, .int .i64 11, .int .i64 12, .int .i64 13, .int .i64 14, .int .i64 15]
    rw [show ((w.alloc (.cells #[.int .i64 nm, .slice va nl vc] 24)).alloc (.cells BX.toArray 27)).heap.size = w.heap.size + 2 by simp] at q
    rw [hwa]
    exact q
  have c16 : ∀ i, i < 6 → wa.cell? ⟨w.heap.size + 2, i, none⟩ = some (.int .i64 ((1 + bmK i : Nat) : Int)) := by
    intro i hi
    match i, hi with
    | 0, _ => exact hB3.cell 0 (.int .i64 1) rfl
    | 1, _ => exact hB3.cell 1 (.int .i64 11) rfl
    | 2, _ => exact hB3.cell 2 (.int .i64 12) rfl
    | 3, _ => exact hB3.cell 3 (.int .i64 13) rfl
    | 4, _ => exact hB3.cell 4 (.int .i64 14) rfl
    | 5, _ => exact hB3.cell 5 (.int .i64 15) rfl
  clear hB3
  have HBX : Hid (Bx wa w.heap.size 24 [.int .i64 nm, .slice va nl vc] ∧ Bx wa (w.heap.size + 1) 27 BX ∧ Below w.heap.size w wa ∧ (∀ i, i < 6 → wa.cell? ⟨w.heap.size + 2, i, none⟩ = some (.int .i64 ((1 + bmK i : Nat) : Int)))) := by
    refine ⟨?_, ?_, ?_, c16⟩
    · rw [hwa]; exact ((Bx.new w 24 [.int .i64 nm, .slice va nl vc]).below ((Below.refl _ _).alloc (Nat.le_refl _) _)).below ((Below.refl _ _).alloc (Nat.le_refl _) _)
    · rw [hwa]
      have q := Bx.new (w.alloc (.cells #[.int .i64 nm, .slice va nl vc] 24)) 27 BX
      rw [show (w.alloc (.cells #[.int .i64 nm, .slice va nl vc] 24)).heap.size = w.heap.size + 1 by simp] at q
      exact q.below ((Below.refl _ _).alloc (Nat.le_refl _) _)
    · rw [hwa]; exact (((Below.refl _ _).alloc (Nat.le_refl _) _).alloc (by simp) _).alloc (by simp; omega) _
  clear c16
  show Calls Tryz.prog 3 #[_, _, _, _, _, .agg (Fd.BL xx).toArray] w _
  rw [← HBXX.out]
  go_enter Tryz.func3, Tryz.ntmps3
  go_upto_region 1 with fail
  obtain ⟨M, HM⟩ : ∃ M, Hid (w.heap.size = M) := ⟨_, rfl⟩
  go_upto_region 2 with (first
    | (go_at_call 9; refine (H9.out _ (by rw [← hwa]; exact HBX.out.2.2.2)).mono ?_; rw [← hwa]; intro e2 w2 hh; obtain ⟨rfl, hb2⟩ := hh.out; have HB2 : Hid (Bx w2 w.heap.size 24 [.int .i64 nm, .slice va nl vc] ∧ Bx w2 (w.heap.size + 1) 27 BX ∧ Below w.heap.size w w2) := ⟨HBX.out.1.below hb2, HBX.out.2.1.below hb2, HBX.out.2.2.1.trans (hb2.mono HBX.out.2.2.1.size)⟩; clear hh hb2 H9 HBX)
    | (refine Zm (by rfl) 24 (.tmp 6) (.tmp 28) (by rfl) [.int .i64 nm, .slice va nl vc] [.int .i64 (T : Nat), .slice va nl vc] w.heap.size (by rfl) (by rfl) HB2.out.1 rfl (by kernel_rfl) (by intro v hv; simp at hv; rcases hv with rfl | rfl <;> rfl) ?_; intro w3 hb3 hg3; have HB3 : Hid (Bx w3 w.heap.size 24 [.int .i64 (T : Nat), .slice va nl vc] ∧ Bx w3 (w.heap.size + 1) 27 BX ∧ Below w.heap.size w w3) := ⟨hb3, HB2.out.2.1.keep (hg3.block _ HB2.out.2.1.lt (fun e => by injection e with e; omega)), HB2.out.2.2.trans (Yi hg3 HB2.out.2.2.size (Nat.le_refl _))⟩; clear hb3 hg3))
  have d0 : w3.cell? ⟨w.heap.size, 0, none⟩ = some (.int .i64 (T : Nat)) := HB3.out.1.cell 0 _ rfl
  have d1 : w3.cell? ⟨w.heap.size, 1, none⟩ = some (.slice va nl vc) := HB3.out.1.cell 1 _ rfl
  go_upto_region 5 with (first
    | (go_at_call 10; refine (H10.out _ HB3.out.2.2).mono ?_; intro e4 w4 hh; obtain ⟨A, c, rr, rfl, hA4, hcip, hbel⟩ := hh; obtain ⟨B, Lk, w0, F, hKl, hSti, hSeal, E, hEi, hF⟩ := hcip; have HC4 : Hid (KlP A B Lk w0 ∧ Gg 13 (Qo Lk) (Sti A B Lk w0) 16 c F ∧ (∀ s zs k, zs.length = 16 * k → F s zs = bkZ (fun j => E s k j (cutV zs j)) (16 * k) k) ∧ (∀ s k j a b, E s k j a = E s k j b → a = b) ∧ w.heap.size ≤ A ∧ w.heap.size + 1 < A) := ⟨hKl, hSeal, hF, hEi, Nat.le_trans HB3.out.2.2.size hA4, Nat.lt_of_lt_of_le HB3.out.2.1.lt hA4⟩; have HI4 : Hid (Sti A B Lk w0 w4 ∧ Below w.heap.size w w4 ∧ Bx w4 (w.heap.size + 1) 27 BX) := ⟨hSti, HB3.out.2.2.trans (hbel.mono HB3.out.2.2.size), HB3.out.2.1.below hbel⟩; clear hA4 hbel hKl hSti hSeal hF hEi H10 d0 d1 HB3))
  go_upto_region 6 with (first
    | (go_at_call 11; refine (H11.out _ HI4.out.2.1).mono ?_; intro e5 w5 hh; obtain ⟨b, d, rfl, p1, p4, p5⟩ := hh.out; have HV5 : Hid (Zi w5 (.slice (some ⟨b, 0, none⟩) n d) L ∧ ¬ Qo Lk b ∧ b < w5.heap.size) := ⟨p4, HC4.out.1.cst.new (Nat.le_trans HI4.out.1.size p1), (by clear e0 e1 e2 e3 e4 e5 e6 e7 e8 e9 e10 e11 e12 e13 e14 e15; obtain ⟨z1, _, z3⟩ := Xw p4; exact World.block_lt_of_cell? w5 _ (z3 0 (by have := HNU.out; omega)))⟩; have HI5 : Hid (Sti A B Lk w0 w5 ∧ Below w.heap.size w w5 ∧ Bx w5 (w.heap.size + 1) 27 BX) := ⟨HC4.out.1.cst.below HI4.out.1 p5, HI4.out.2.1.trans (p5.mono HI4.out.2.1.size), HI4.out.2.2.below p5⟩; clear hh p1 p4 p5 H11))
  go_upto_region 7 with fail
  have H12 : Hid (Calls Tryz.prog 12 #[.slice (some ⟨b, 0, none⟩) n d] w5 fun e w' => Hid (∃ z dz cur, e = .returned (.slice (some ⟨z, 0, none⟩) n dz) ∧ w5.heap.size ≤ z ∧ Bx w' z 5 cur ∧ n ≤ dz ∧ dz ≤ maxLen ∧ n ≤ cur.length ∧ (∀ i, i < n → cur[i]? = some (.int .u8 (L.getD i 0))) ∧ Below w5.heap.size w5 w')) := by
    clear e0 e1 e2 e3 e4 e5 e6 e7 e8 e9 e10 e11 e12 e13 e14 e15
    refine (Nl _ L w5 (by rw [HLB.out.1]; have := HNU.out; omega) HV5.out.1).mono fun e w' hh => ?_
    obtain ⟨v', rfl, hm, hb⟩ := hh
    obtain ⟨g, c, cur, rfl, h1, h2, h3, h4, h5, h6⟩ := M4 hm
    rw [HLB.out.1] at h3 h5 h6 ⊢
    exact ⟨g, c, cur, rfl, h1, h2, h3, h4, h5, h6, hb⟩
  go_upto_region 8 with (go_at_call 12; refine H12.out.mono ?_; intro e6 w6 hh; obtain ⟨z, dz, cur, rfl, p1, p2, p3, p4, p5, p6, p7⟩ := hh.out; have HZ6 : Hid (w5.heap.size ≤ z ∧ Bx w6 z 5 cur ∧ n ≤ dz ∧ dz ≤ maxLen ∧ n ≤ cur.length ∧ (∀ i, i < n → cur[i]? = some (.int .u8 (L.getD i 0))) ∧ Below w5.heap.size w5 w6) := ⟨p1, p2, p3, p4, p5, p6, p7⟩; clear hh p1 p2 p3 p4 p5 p6 p7 H12)
  have hsl1 : ∀ u : World, (Instr.slice 22 (.slice (some ⟨z, 0, none⟩) n dz) (some (.int .i64 (J : Nat))) none none).run Tryz.prog u = .ok (.slice (some ⟨z, J, none⟩) (n - J) (dz - J)) u := fun u => by
    clear e0 e1 e2 e3 e4 e5 e6 e7 e8 e9 e10 e11 e12 e13 e14 e15
    have := HZ6.out.2.2.1; have := HNU.out
    rw [Ku u _ n dz J (by omega) (by omega), Zb6 _ _ _ _ _ (by omega), Nat.zero_add]
  have HFT : Hid (J + 16 ≤ cur.length ∧ Nat.min 16 (n - J) = 16) := by clear e0 e1 e2 e3 e4 e5 e6 e7 e8 e9 e10 e11 e12 e13 e14 e15; have := HZ6.out.2.2.2.2.1; have := HNU.out; exact ⟨by omega, Nat.min_eq_left (by omega)⟩
  have HX6 : Hid (Bx w6 (w.heap.size + 1) 27 BX) := HI5.out.2.2.below HZ6.out.2.2.2.2.2.2
  go_region_held3 (fun _ => True) (first | trivial | go_keep)
    (first | (refine Jq rfl (.tmp 53) (.tmp 54) rfl Tryz.underlying22 (by kernel_rfl) z J (n - J) (dz - J) 16 16 ⟨w.heap.size + 1, 0, none⟩ (by first | rfl | simp) (by first | rfl | simp) cur 5 HZ6.out.2.1 BX (by rw [HBL.out.1, HFT.out.2]) (fun i v hv => by rw [Addr.add_mid]; exact HX6.out.range i v hv) (by rw [HBL.out.1]; exact HFT.out.1) HBL.out.2 ?_; intro w7 HG7 HB7))
  obtain ⟨Z, HZ⟩ : ∃ Z, Hid (Gp L m j xx = Z) := ⟨_, rfl⟩
  have HZB : Hid (Z.length = n ∧ Zg Z) := by clear e0 e1 e2 e3 e4 e5 e6 e7 e8 e9 e10 e11 e12 e13 e14 e15; rw [← HZ.out, Nt]; exact ⟨by have := HNU.out; omega, Lz HLB.out.2 m j xx⟩
  have HV7 : Hid (Zi w7 (.slice (some ⟨b, 0, none⟩) n d) L ∧ Zi w7 (.slice (some ⟨z, 0, none⟩) n dz) Z ∧ Sti A B Lk w0 w7 ∧ ¬ Qo Lk z ∧ Below w.heap.size w w7) := by
    clear e0 e1 e2 e3 e4 e5 e6 e7 e8 e9 e10 e11 e12 e13 e14 e15
    have hz := HNU.out
    have h6 : Sti A B Lk w0 w6 := HC4.out.1.cst.below HI5.out.1 HZ6.out.2.2.2.2.2.2
    have hbz : b ≠ z := by have := HV5.out.2.2; have := HZ6.out.1; omega
    have hBz : B ≤ z := Nat.le_trans HI5.out.1.size HZ6.out.1
    have hg : w6.grownBy w7 (some z) := ⟨HB7.out.os, HB7.out.tape, HB7.out.output, HB7.out.size, HB7.out.block⟩
    refine ⟨?_, ?_, HC4.out.1.cst.gb h6 hg hBz, HC4.out.1.cst.new hBz, ?_⟩
    · obtain ⟨y1, y2, y3⟩ := Xw HV5.out.1
      have y4 := Gu (w := w7) (b := b) (off := 0) (c := d) (zs := L) (by omega) (by obtain ⟨_, _, ze, _, zm, _⟩ := HV5.out.1; injection ze with _ _ ze; omega) (fun i hi => by
        have c5 := y3 i hi
        have c6 : w6.cell? ⟨b, 0 + i, none⟩ = some (.int .u8 (L.getD i 0)) := (HZ6.out.2.2.2.2.2.2.cell HV5.out.2.2).trans c5
        rw [World.cell?_of_block (a := ⟨b, 0 + i, none⟩) (hg.block b (World.block_lt_of_cell? w6 _ c6) (fun e => hbz (by injection e)))]
        exact c6)
      rw [y1] at y4
      exact y4
    · have hbx : Bx w7 z 5 (splice cur J BX) := HG7.out
      have y4 := Gu (w := w7) (b := z) (off := 0) (c := dz) (zs := Z) (by rw [HZB.out.1]; exact HZ6.out.2.2.1) HZ6.out.2.2.2.1 (fun i hi => by
        rw [HZB.out.1] at hi
        rw [Nat.zero_add, ← HZ.out]
        refine hbx.cell i _ ?_
        rw [HBXX.out, hz.2.2.2.2.1]
        exact Im L m j xx hz.2.2.2.1 cur (by have := HZ6.out.2.2.2.2.1; omega) (fun q hq => HZ6.out.2.2.2.2.2.1 q (by omega)) i (by omega))
      rw [HZB.out.1] at y4
      exact y4
    · have h1 := HI5.out.2.1.trans (HZ6.out.2.2.2.2.2.2.mono HI5.out.2.1.size)
      exact h1.trans (Yi hg h1.size (Nat.le_trans HI5.out.2.1.size HZ6.out.1))
  clear HG7 HB7 HX6 HFT hsl1
  have HS1 : Hid (∀ (bb dd : Nat) (X : List Int) (u : World), X.length = n → Zg X → ¬ Qo Lk bb → Sti A B Lk w0 u → Zi u (.slice (some ⟨bb, 0, none⟩) n dd) X → Calls Tryz.prog 13 #[.pointer (some ⟨c, 0, none⟩), .int .u64 (s : Nat), .slice (some ⟨bb, 0, none⟩) n dd] u fun e u' => Hid (∃ x d2, e = .returned (.tuple #[.slice (some ⟨x, 0, none⟩) n d2, .int .i64 0]) ∧ u.heap.size ≤ x ∧ Zi u' (.slice (some ⟨x, 0, none⟩) n d2) (bkZ (fun i => E s m i (cutV X i)) n m) ∧ Sti A B Lk w0 u' ∧ Gk (Qo Lk) u u')) := by
    clear e0 e1 e2 e3 e4 e5 e6 e7 e8 e9 e10 e11 e12 e13 e14 e15
    intro bb dd X u hX hXb hk hI hv
    have hz := HNU.out
    have p := HC4.out.2.1 s bb 0 dd X u hI hz.2.2.2.2.2.2 (by omega) (by omega) (by omega) hXb hk (by rw [hX]; exact hv)
    rw [HC4.out.2.2.1 s X m (by omega), hX, ← hz.1] at p
    exact p
  obtain ⟨U, HU⟩ : ∃ U, Hid (bkZ (fun i => E s m i (cutV L i)) n m = U) := ⟨_, rfl⟩
  obtain ⟨V, HV⟩ : ∃ V, Hid (bkZ (fun i => E s m i (cutV Z i)) n m = V) := ⟨_, rfl⟩
  have HSA : Hid (Calls Tryz.prog 13 #[.pointer (some ⟨c, 0, none⟩), .int .u64 (s : Nat), .slice (some ⟨b, 0, none⟩) n d] w7 fun e u' => Hid (∃ x d2, e = .returned (.tuple #[.slice (some ⟨x, 0, none⟩) n d2, .int .i64 0]) ∧ w7.heap.size ≤ x ∧ Zi u' (.slice (some ⟨x, 0, none⟩) n d2) U ∧ Sti A B Lk w0 u' ∧ Gk (Qo Lk) w7 u')) := by
    rw [← HU.out]; exact HS1.out b d L w7 HLB.out.1 HLB.out.2 HV5.out.2.1 HV7.out.2.2.1 HV7.out.1
  go_upto_region 10 with (go_at_call 13; refine HSA.out.mono ?_; intro e8 w8 hh; obtain ⟨x1, d1, rfl, p1, p2, p3, p4⟩ := hh.out; have HP8 : Hid (w7.heap.size ≤ x1 ∧ Zi w8 (.slice (some ⟨x1, 0, none⟩) n d1) U ∧ Sti A B Lk w0 w8 ∧ Gk (Qo Lk) w7 w8) := ⟨p1, p2, p3, p4⟩; clear hh p1 p2 p3 p4 HSA)
  have HSB : Hid (Calls Tryz.prog 13 #[.pointer (some ⟨c, 0, none⟩), .int .u64 (s : Nat), .slice (some ⟨z, 0, none⟩) n dz] w8 fun e u' => Hid (∃ x d2, e = .returned (.tuple #[.slice (some ⟨x, 0, none⟩) n d2, .int .i64 0]) ∧ w8.heap.size ≤ x ∧ Zi u' (.slice (some ⟨x, 0, none⟩) n d2) V ∧ Sti A B Lk w0 u' ∧ Gk (Qo Lk) w8 u')) := by
    rw [← HV.out]; exact HS1.out z dz Z w8 HZB.out.1 HZB.out.2 HV7.out.2.2.2.1 HP8.out.2.2.1 (Ko HV7.out.2.1 HV7.out.2.2.2.1 HP8.out.2.2.2)
  go_upto_region 11 with (go_at_call 13; refine HSB.out.mono ?_; intro e9 w9 hh; obtain ⟨x2, d2, rfl, p1, p2, p3, p4⟩ := hh.out; have HP9 : Hid (w8.heap.size ≤ x2 ∧ Zi w9 (.slice (some ⟨x2, 0, none⟩) n d2) V ∧ Sti A B Lk w0 w9 ∧ Gk (Qo Lk) w8 w9) := ⟨p1, p2, p3, p4⟩; clear hh p1 p2 p3 p4 HSB)
  have HBI : Hid (BlI L Z U V n b d z dz x1 d1 x2 d2 w9 ∧ Below w.heap.size w w9) := by
    clear e0 e1 e2 e3 e4 e5 e6 e7 e8 e9 e10 e11 e12 e13 e14 e15
    have hk1 : ¬ Qo Lk x1 := HC4.out.1.cst.new (Nat.le_trans HV7.out.2.2.1.size HP8.out.1)
    have hlow : ∀ {u v : World}, Gk (Qo Lk) u v → w.heap.size ≤ u.heap.size → Below w.heap.size u v := fun {u v} hg hu => ⟨hg.os, hg.tape, hg.output, hg.size, fun k hk => hg.block k (Nat.lt_of_lt_of_le hk hu) (fun e => by obtain ⟨x, hx, rfl⟩ := e; have := (HC4.out.1.low x hx).1; have := HC4.out.2.2.2.2.1; omega)⟩
    have hb7 := HV7.out.2.2.2.2
    exact ⟨⟨Ko (Ko HV7.out.1 HV5.out.2.1 HP8.out.2.2.2) HV5.out.2.1 HP9.out.2.2.2, Ko (Ko HV7.out.2.1 HV7.out.2.2.2.1 HP8.out.2.2.2) HV7.out.2.2.2.1 HP9.out.2.2.2, Ko HP8.out.2.1 hk1 HP9.out.2.2.2, HP9.out.2.1⟩, hb7.trans ((hlow HP8.out.2.2.2 hb7.size).trans (hlow HP9.out.2.2.2 (Nat.le_trans hb7.size HP8.out.2.2.2.size)))⟩
  have HQ : Hid ((∀ p, p < n → p / 16 ≠ j → U.getD p 0 = V.getD p 0) ∧ ((∀ p, p < n → p / 16 = j → L.getD p 0 = Z.getD p 0) ↔ cutV L j = xx) ∧ ((∀ p, J ≤ p → p < J2 → U.getD p 0 = V.getD p 0) ↔ cutV L j = xx)) := by
    clear e0 e1 e2 e3 e4 e5 e6 e7 e8 e9 e10 e11 e12 e13 e14 e15
    have hz := HNU.out
    rw [← HU.out, ← HV.out, ← HZ.out, hz.2.2.2.2.2.1, hz.2.2.2.2.1, hz.1]
    exact ⟨fun p hp hn => Ty (E s m) m j xx hz.2.2.2.1 p hp hn, Il HLB.out.2 m j xx hz.2.2.2.1, Tz (E s m) (HC4.out.2.2.2.1 s m) m j xx hz.2.2.2.1⟩
  go_upto_region 13 with (go_at_call 14; refine (H14.out _).mono ?_; rintro e10 w10 ⟨rfl, hw⟩; obtain rfl := hw.symm; clear hw)
  have HN5 : Hid (n ≤ 512) := by clear e0 e1 e2 e3 e4 e5 e6 e7 e8 e9 e10 e11 e12 e13 e14 e15; have := HNU.out; show n ≤ 512; omega
  clear e0 e1 e2 e3 e4 e5 e6 e7 e8 e9 e10 e11 e12 e14 HV5 HI5 HZ6 HV7 HS1 HP8 HP9 HI4 HC4 H14
  go_wp2
  go_loopw [22, 23] (fun vs vi wr => ∃ (bb : Bool) (i q : Nat), vs = .bool bb ∧ vi = .int .i64 (i : Nat) ∧ i ≤ n ∧ Hid (bb = true ↔ ∀ p, p < i → p / 16 = j → L.getD p 0 = Z.getD p 0) ∧ wr = w9.drewN q) (fun _ vi _ => n - (intOf vi).toNat)
  case atStart => exact ⟨true, 0, 0, rfl, rfl, Nat.zero_le _, ⟨fun _ p hp => absurd hp (Nat.not_lt_zero _), fun _ => rfl⟩, rfl⟩
  case round =>
    obtain ⟨bb, i, q, rfl, rfl, hi, HB, rfl⟩ := hrel
    by_cases hlt : i < n
    · obtain ⟨i1, i2, i3, i4, i5, i6, i7, i8, i9⟩ := Eb i n hlt HN5.out
      obtain ⟨qi, HQI⟩ : ∃ qi, Hid (i / 16 = qi) := ⟨_, rfl⟩
      rw [HQI.out] at i1 i2 i3 i9
      obtain ⟨l, HLi⟩ : ∃ l, Hid (L.getD i 0 = l) := ⟨_, rfl⟩
      obtain ⟨y, HYi⟩ : ∃ y, Hid (Z.getD i 0 = y) := ⟨_, rfl⟩
      obtain ⟨a, HAi⟩ : ∃ a, Hid (U.getD i 0 = a) := ⟨_, rfl⟩
      have cL : w9.cell? ⟨b, i, none⟩ = some (.int .u8 l) := by rw [← HLi.out]; exact Jd HBI.out.1.l i hlt
      have cZ : w9.cell? ⟨z, i, none⟩ = some (.int .u8 y) := by rw [← HYi.out]; exact Jd HBI.out.1.z i hlt
      have cU : w9.cell? ⟨x1, i, none⟩ = some (.int .u8 a) := by rw [← HAi.out]; exact Jd HBI.out.1.u i hlt
      have HLT : Hid (i < n) := hlt
      clear hlt hi
      by_cases hj : qi = j
      · have j0 : ((qi : Int) == (j : Int)) = true := by rw [hj]; simp
        have j1 : (qi : Int) = (j : Int) := by rw [hj]
        have HJJ : Hid (i / 16 = j) := by rw [HQI.out]; exact hj
        clear cU hj j1
        cases bb with
        | false =>
          go_upto_region 18 with fail
          go_quiet (fail)
          go_wp2
          refine ⟨⟨false, i + 1, _, rfl, by simp, HLT.out, ⟨(fun h => by cases h), (fun h => HB.out.2 fun p hp hpj => h p (Nat.lt_succ_of_lt hp) hpj)⟩, rfl⟩, ?_⟩
          have := HLT.out
          simp [intOf]; omega
        | true =>
          have HA0 : Hid (∀ p, p < i → p / 16 = j → L.getD p 0 = Z.getD p 0) := HB.out.1 rfl
          by_cases hly : l = y
          · have k0 : (l == y) = true := by rw [hly]; simp
            have HLY : Hid (l = y) := hly
            clear hly
            go_upto_region 18 with fail
            go_quiet (fail)
            go_wp2
            refine ⟨⟨true, i + 1, _, rfl, by simp, HLT.out, ⟨(fun _ p hp hpj => by
              rcases Nat.lt_succ_iff_lt_or_eq.1 hp with h | rfl
              · exact HA0.out p h hpj
              · rw [HLi.out, HYi.out]; exact HLY.out), (fun _ => rfl)⟩, rfl⟩, ?_⟩
            have := HLT.out
            simp [intOf]; omega
          · have k0 : (l == y) = false := by simp [hly]
            have HLY : Hid (¬ l = y) := hly
            clear hly
            go_upto_region 18 with fail
            go_quiet (fail)
            go_wp2
            refine ⟨⟨false, i + 1, _, rfl, by simp, HLT.out, ⟨(fun h => by cases h), (fun h => absurd (by
              have q := h i (Nat.lt_succ_self _) HJJ.out
              rw [HLi.out, HYi.out] at q
              exact q) HLY.out)⟩, rfl⟩, ?_⟩
            have := HLT.out
            simp [intOf]; omega
      · have j0 : ((qi : Int) == (j : Int)) = false := by simp; omega
        have HJJ : Hid (¬ i / 16 = j) := by rw [HQI.out]; exact hj
        have cV : w9.cell? ⟨x2, i, none⟩ = some (.int .u8 a) := by rw [← HAi.out, HQ.out.1 i HLT.out HJJ.out]; exact Jd HBI.out.1.v i HLT.out
        clear cL cZ hj
        go_upto_region 19 with fail
        go_quiet (fail)
        go_wp2
        refine ⟨⟨bb, i + 1, _, rfl, by simp, HLT.out, ⟨(fun h p hp hpj => by
          rcases Nat.lt_succ_iff_lt_or_eq.1 hp with h2 | rfl
          · exact HB.out.1 h p h2 hpj
          · exact absurd hpj HJJ.out), (fun h => HB.out.2 fun p hp hpj => h p (Nat.lt_succ_of_lt hp) hpj)⟩, rfl⟩, ?_⟩
        have := HLT.out
        simp [intOf]; omega
    · have hin : i = n := Nat.le_antisymm hi (Nat.le_of_not_lt hlt)
      have h0 : ¬ (i : Int) < (n : Int) := by rw [hin]; exact Int.lt_irrefl _
      have HBB : Hid (bb = true ↔ cutV L j = xx) := by
        have p1 := HB.out
        rw [hin] at p1
        exact p1.trans HQ.out.2.1
      have HJN : Hid (J2 = J + 16 ∧ J2 ≤ n ∧ n ≤ 512) := by clear e13 e15 h0; have := HNU.out; have := HN5.out; show _ ∧ _; omega
      clear hin hi hlt HB
      go_wp2
      go_loopw [24, 25] (fun va vi wr => ∃ (cc : Bool) (p q2 : Nat), va = .bool cc ∧ vi = .int .i64 (p : Nat) ∧ J ≤ p ∧ p ≤ J2 ∧ Hid (cc = true ↔ ∀ r, J ≤ r → r < p → U.getD r 0 = V.getD r 0) ∧ wr = w9.drewN q2) (fun _ vi _ => J2 - (intOf vi).toNat)
      case atStart => exact ⟨true, J, q, rfl, rfl, Nat.le_refl _, by have := HJN.out.1; omega, ⟨fun _ r h1 h2 => absurd h2 (Nat.not_lt.2 h1), fun _ => rfl⟩, rfl⟩
      case round =>
        obtain ⟨cc, p, q2, rfl, rfl, hp1, hp2, HC, rfl⟩ := hrel
        by_cases hlt : p < J2
        · obtain ⟨i1, i2, i3, i4, i5, i6, i7, i8, i9⟩ := Eb p n (Nat.lt_of_lt_of_le hlt HJN.out.2.1) HJN.out.2.2
          have i10 : (p : Int) < (J2 : Int) := Int.ofNat_lt.2 hlt
          have HPN : Hid (p < n ∧ J ≤ p ∧ p < J2) := ⟨Nat.lt_of_lt_of_le hlt HJN.out.2.1, hp1, hlt⟩
          obtain ⟨l, HLi⟩ : ∃ l, Hid (U.getD p 0 = l) := ⟨_, rfl⟩
          obtain ⟨y, HYi⟩ : ∃ y, Hid (V.getD p 0 = y) := ⟨_, rfl⟩
          have cU : w9.cell? ⟨x1, p, none⟩ = some (.int .u8 l) := by rw [← HLi.out]; exact Jd HBI.out.1.u p HPN.out.1
          have cV : w9.cell? ⟨x2, p, none⟩ = some (.int .u8 y) := by rw [← HYi.out]; exact Jd HBI.out.1.v p HPN.out.1
          clear hlt hp1 hp2 i1 i2 i3 i9
          cases cc with
          | false =>
            go_upto_region 25 with fail
            go_quiet (fail)
            go_wp2
            refine ⟨⟨false, p + 1, _, rfl, by simp, Nat.le_succ_of_le HPN.out.2.1, HPN.out.2.2, ⟨(fun h => by cases h), (fun h => HC.out.2 fun r h1 h2 => h r h1 (Nat.lt_succ_of_lt h2))⟩, rfl⟩, ?_⟩
            have := HPN.out
            simp [intOf]; omega
          | true =>
            have HA0 : Hid (∀ r, J ≤ r → r < p → U.getD r 0 = V.getD r 0) := HC.out.1 rfl
            by_cases hly : l = y
            · have k0 : (l == y) = true := by rw [hly]; simp
              have HLY : Hid (l = y) := hly
              clear hly
              go_upto_region 25 with fail
              go_quiet (fail)
              go_wp2
              refine ⟨⟨true, p + 1, _, rfl, by simp, Nat.le_succ_of_le HPN.out.2.1, HPN.out.2.2, ⟨(fun _ r h1 h2 => by
                rcases Nat.lt_succ_iff_lt_or_eq.1 h2 with h | rfl
                · exact HA0.out r h1 h
                · rw [HLi.out, HYi.out]; exact HLY.out), (fun _ => rfl)⟩, rfl⟩, ?_⟩
              have := HPN.out
              simp [intOf]; omega
            · have k0 : (l == y) = false := by simp [hly]
              have HLY : Hid (¬ l = y) := hly
              clear hly
              go_upto_region 25 with fail
              go_quiet (fail)
              go_wp2
              refine ⟨⟨false, p + 1, _, rfl, by simp, Nat.le_succ_of_le HPN.out.2.1, HPN.out.2.2, ⟨(fun h => by cases h), (fun h => absurd (by
                have q := h p HPN.out.2.1 (Nat.lt_succ_self _)
                rw [HLi.out, HYi.out] at q
                exact q) HLY.out)⟩, rfl⟩, ?_⟩
              have := HPN.out
              simp [intOf]; omega
        · have hpe : p = J2 := Nat.le_antisymm hp2 (Nat.le_of_not_lt hlt)
          have h1 : ¬ (p : Int) < (J2 : Int) := by rw [hpe]; exact Int.lt_irrefl _
          have hbc : bb = cc := by
            have p1 := HC.out
            rw [hpe] at p1
            have p2 := HBB.out.trans (p1.trans HQ.out.2.2).symm
            cases bb <;> cases cc <;> simp_all
          clear hpe hp1 hp2 hlt
          subst hbc
          have hee : (bb == bb) = true := by simp
          go_wp2
          go_ret
          refine ⟨by first | rfl | simp, ?_⟩
          exact Below.drewN HBI.out.2 _
end Go.Proofs.YtehlppaidgkpaaaGreatDoor
