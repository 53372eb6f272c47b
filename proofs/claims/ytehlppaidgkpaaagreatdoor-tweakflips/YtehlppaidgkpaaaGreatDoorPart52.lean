import Derived.Test.YtehlppaidgkpaaaGreatDoorPart51
import Derived.Test.YtehlppaidgkpaaaGreatDoorPart50
import Derived.Test.YtehlppaidgkpaaaGreatDoorPart44
import Derived.Deep.QuietTactic
namespace Go.Proofs.YtehlppaidgkpaaaGreatDoor
open Go.RowKit
set_option linter.unusedVariables false
set_option linter.unusedSimpArgs false
theorem Ec {A B:Nat} {L:List (Nat×Nat×(Nat→Nat))} {w0:World} (hL:KlP A B L w0) (sh:Nat) (cs:List Value) (hA:A≤sh) (hB:sh<B) (hs:Bx w0 sh 115 cs) (x:Nat×Nat×(Nat→Nat)) (hx:x∈L) (hg:cs[4]?=some (.pointer (some ⟨x.1,0,none⟩))):DoI (Qr L) (Sti A B L w0) 214 (.pointer (some ⟨sh,0,none⟩)) (Kg x.2.1 x.2.2):=fun v u h=>by
 have hb:=h.bx hL hs hA hB (by decide)
 refine (N4 sh x.1 x.2.1 x.2.2 v u (fun e=>hL.not hs (by decide) ⟨x,hx,e.symm⟩) (hb.cell 4 _ hg) (h.key x hx)).mono fun e w' hh=>?_
 obtain ⟨rfl,h1,h2⟩:=hh.out
 exact ⟨rfl,h.gb hL hx h2 h1,Gk.of_gb h2 ⟨x,hx,rfl⟩⟩
theorem Fj {A B:Nat} {L:List (Nat×Nat×(Nat→Nat))} {w0:World} (hL:KlP A B L w0) (c sh fn:Nat) (cs:Array Value) (F0:Nat→Nat→BitVec 128) (shc:List Value) (sv:Value) (x:Nat×Nat×(Nat→Nat)) (hc:Bx w0 c 70 [.pointer (some ⟨sh,0,none⟩),.func (.func fn) #[] cs,sv,bV 178 [.pointer (some ⟨sh,0,none⟩),.func (.func fn) #[] cs]]) (hs:Bx w0 sh 115 shc) (hcA:A≤c∧c<B) (hsA:A≤sh∧sh<B)
  (h1:shc[1]?=some (.int .i64 (16:Nat))) (h4:shc[4]?=some (.pointer (some ⟨x.1,0,none⟩))) (h6:shc[6]?=some (.bool false)) (hx:x∈L) (hE:∀ args u,(callFunc fn args).run Tryz.prog u=.ok (.enter fn args) u) (HF:Od (Qr L) (Sti A B L w0) fn cs F0) :
  Pq 15 (Qr L) (Sti A B L w0) 16 c (fun s zs=>bkZ (fun j=>cbO (Kg x.2.1 x.2.2) (cutV zs) (F0 s zs.length) j) zs.length (zs.length/16)):=by
 intro s b off cp zs u hI hs64 hl0 hl1 hlst hzb hbk hv
 have hC:=hL.cst
 have hcu:=hI.bx hL hc hcA.1 hcA.2 (by decide)
 have hsu:=hI.bx hL hs hsA.1 hsA.2 (by decide)
 obtain ⟨_,hcp,hz⟩:=Qv hv
 have hm:zs.length≤maxLen:=by unfold maxLen;omega
 have q:=Tl c sh 178 [.pointer (some ⟨sh,0,none⟩),.func (.func fn) #[] cs] (s:Nat) (some ⟨b,off,none⟩) zs.length cp 16 u (hcu.cell 0 _ rfl) (hcu.cell 3 _ rfl) (hsu.cell 1 _ h1) (hsu.cell 6 _ h6) hl0 (by omega) hlst (by decide) (fun args u=>Zu Tryz.func178 (by rfl) (by rfl) args u)
  (fun v w'=>∃ X,v=.slice (some ⟨X,0,none⟩) zs.length zs.length∧u.heap.size≤X∧Bx w' X 5 (bkL (fun j=>cbO (Kg x.2.1 x.2.2) (cutV zs) (F0 s zs.length) j) (zs.length/16))∧Sti A B L w0 w'∧Gk (Qr L) u w') ?_
 ·refine q.mono fun e w' hh=>?_
  obtain ⟨y',kk,d,rfl,X,hX,p1,p2,p3,p4⟩:=hh.out
  rw[hX]
  refine ⟨X,zs.length,rfl,p1,?_,p3,p4⟩
  rw[Ru,show 16*(zs.length/16)=zs.length by omega] at p2
  have hv2:=Sg p2 (by rw[Gn];exact hm)
  rw[Gn] at hv2
  exact hv2
 ·refine (N9 hC sh fn cs hE (Kg x.2.1 x.2.2) (F0 s zs.length) s b off cp (zs.length/16) zs u hI (fun u2 hu2=>HF s zs.length u2 hs64 hl1 hu2) (Ec hL sh shc hsA.1 hsA.2 hs x hx h4) (by omega) (by omega) (by omega) hcp hzb hbk hz).mono fun e w' hh=>?_
  obtain ⟨X,rfl,p1,p2,p3,p4⟩:=hh.out
  exact ⟨_,_,_,rfl,X,rfl,p1,p2,p3,p4⟩
def Sa (Q:(Nat→List Int→List Int)→Prop) (st:Nat) (A c:Nat) (u:World):Prop:=∃ B L w0 F,KlP A B L w0∧Sti A B L w0 u∧Pq 15 (Qr L) (Sti A B L w0) st c F∧Q F
theorem Uv (Q:(Nat→List Int→List Int)→Prop) (st:Nat):Zc9 (Sa Q st):=fun A c u u' h hk hs=>by
 obtain ⟨B,L,w0,F,h1,h2,h3,h4⟩:=h
 exact ⟨B,L,w0,F,h1,h2.stay h1 (fun b hA hB=>hk b hA (Nat.lt_of_lt_of_le hB h2.size)) hs,h3,h4⟩
def QFl (F:Nat→List Int→List Int):Prop:=∃ (D:BitVec 128→BitVec 128) (f:Nat→Nat→BitVec 128),(∀ a b,D a=D b→a=b)∧∀ s zs,F s zs=bkZ (fun j=>cbO D (cutV zs) (f s zs.length) j) zs.length (zs.length/16)
theorem Zc6 (i k:Nat) (hi:i<3) (hk:k=2∨k=3∨k=4∨k=6) (v:Value) (zs:List Int) (w:World) (hv:Zf w v zs) (hb:Zj zs) (hl:zs.length=16+8*i) (hP:Pow w) (hrc:RC w) (hT:Dg.Tables w) :
  Calls Tryz.prog 26 #[.string (sxN i k),v] w fun e w'=>Zby w (Sa QFl 16) e w':=by
 refine (Zct i k hi hk v zs w hv hb hl hP hrc hT).mono fun e w' h=>?_
 obtain ⟨c,sh,kv,mp,ov,fv,sv,pv,rfl,hc0,hcb,hsh,⟨LE,fn,cs,shc,g,h1,h2,h3,h4,h5,h9,h10⟩,hbel⟩:=h
 refine ⟨c,rfl,?_,hbel⟩
 obtain ⟨g',nk,hm,hgB,_,hwd,hgK,hgR⟩:∃ g nk,mp=some ⟨g,0,none⟩∧w.heap.size≤g∧(nk=4∨nk=6∨nk=8)∧16+8*i=4*nk∧Zm w' g (nk+6) (Yn nk (Ql (zs.take (16+8*i))))∧∃ R:Array Value,w'.heap[g]?=some (.cells R 135 (0,0)):=by
  rcases hsh.main with ⟨h0,_⟩ | h
  ·omega
  ·exact h
 have e:shc=shL (sxN i k) 16 kv (16+8*i) mp ov:=by
  have p:=h3.symm.trans hsh.box
  injection p with p
  injection p with p
  exact List.toArray_inj p
 obtain rfl:g'=g:=by
  rw[e,hm] at h4
  injection h4 with h4
  injection h4 with h4
  injection h4 with h4
  injection h4 with h4
 subst h1
 subst h10
 obtain rfl:nk=4+2*i:=by omega
 rw[List.take_of_length_le (Nat.le_of_eq hl)] at hgK
 have hLE:∀ x,x∈LE→w.heap.size≤x.1∧Fq w' x:=fun x hx=>by
  rcases h2 with ⟨_,_,e,_⟩ | ⟨_,ge,bx,e,_,_,a4,_,a6,_⟩
  ·rw[e] at hx;cases hx
  ·rw[e] at hx
   obtain rfl:x=(ge,14,esK zs):=by simpa using hx
   exact ⟨a4,a6⟩
 have hLone:∀ x y,x∈LE→y∈LE→x=y:=fun x y hx hy=>by
  rcases h2 with ⟨_,_,e,_⟩ | ⟨_,ge,bx,e,_⟩
  ·rw[e] at hx;cases hx
  ·rw[e] at hx hy
   rw[show x=(ge,14,esK zs) by simpa using hx,show y=(ge,14,esK zs) by simpa using hy]
 obtain ⟨x0,hx0⟩:∃ x:Nat×Nat×(Nat→Nat),x=(g',4+2*i+6,Yn (4+2*i) (Ql zs)):=⟨_,rfl⟩
 have ex1:x0.1=g':=by rw[hx0]
 have ex2:x0.2.1=10+2*i:=by rw[hx0];show 4+2*i+6=_;omega
 have ex3:x0.2.2=Yn (4+2*i) (Ql zs):=by rw[hx0]
 have hKx:Fq w' x0:=by rw[hx0];exact ⟨hgK,hgR⟩
 have hKall:∀ x,x∈x0::LE→w.heap.size≤x.1∧Fq w' x:=fun x hx=>by
  simp only[List.mem_cons] at hx
  rcases hx with rfl | hx
  ·exact ⟨by rw[ex1];exact hgB,hKx⟩
  ·exact hLE x hx
 have hL:KlP w.heap.size w'.heap.size (x0::LE) w':=by
  refine ⟨fun x hx=>⟨(hKall x hx).1,(hKall x hx).2.1.ciph.here⟩,fun x y hx hy hxy=>?_,fun x hx=>(hKall x hx).2.2⟩
  simp only[List.mem_cons] at hx hy
  rcases hx with rfl | hx<;>rcases hy with rfl | hy
  ·rfl
  ·have:=h5 y hy;omega
  ·have:=h5 x hx;omega
  ·exact hLone x y hx hy
 have hI:Sti w.heap.size w'.heap.size (x0::LE) w' w':=⟨fun x hx=>(hKall x hx).2.1,fun b _ _ _=>rfl,Nat.le_refl _⟩
 have hc1:w.heap.size≤c∧c<w'.heap.size:=⟨hc0,hcb.lt⟩
 have hs1:w.heap.size≤sh∧sh<w'.heap.size:=⟨hsh.le,hsh.box.lt⟩
 have k4:(shL (sxN i k) 16 kv (16+8*i) mp ov)[4]?=some (.pointer (some ⟨x0.1,0,none⟩)):=by rw[hm,ex1];rfl
 rcases h2 with ⟨n1,n2,e1,e2,e3⟩ | ⟨he,ge,bx,e1,e2,e3,a4,a5,a6,a7,_⟩
 ·subst e2 e3
  exact ⟨_,_,_,_,hL,hI,Fj hL c sh (sbN k) #[] (sbF k) _ _ x0 hcb hsh.box hc1 hs1 rfl k4 rfl (by simp) (S0 k) (Wj hL.cst (sbN k) (sbF k) (Zcb k)),Kg x0.2.1 x0.2.2,sbF k,Kf _ _ hKx.1.ciph.small,fun s ys=>rfl⟩
 ·subst e2 e3
  have hz:((ge,14,esK zs):Nat×Nat×(Nat→Nat))∈x0::LE:=by rw[e1];simp
  have HBE:Od (Qr (x0::LE)) (Sti w.heap.size w'.heap.size (x0::LE) w') 187 #[.pointer (some ⟨bx,0,none⟩)] (fun s _=>Js 14 (esK zs) (plV true s)):=fun s n u hs hn hIu=>Un hL.cst bx ge (Js 14 (esK zs)) s (n:Nat) u hs hIu ((hIu.bx hL a7 a5 a7.lt (by decide)).cell 0 _ rfl) (hL.not a7 (by decide)) (Ea hL (ge,14,esK zs) hz)
  exact ⟨_,_,_,_,hL,hI,Fj hL c sh 187 #[.pointer (some ⟨bx,0,none⟩)] (fun s _=>Js 14 (esK zs) (plV true s)) _ _ x0 hcb hsh.box hc1 hs1 rfl k4 rfl (by simp) (fun args u=>Zu Tryz.func187 (by rfl) (by rfl) args u) HBE,Kg x0.2.1 x0.2.2,fun s _=>Js 14 (esK zs) (plV true s),Kf _ _ hKx.1.ciph.small,fun s ys=>rfl⟩
def BgH (A k:Nat) (u:World) (sh fn:Nat) (cs:Array Value):Prop:=(k=1∧fn=176∧cs=#[])∨(k=5∧fn=183∧cs=#[])∨(k=7∧fn=189∧∃ bx,cs=#[.pointer (some ⟨bx,0,none⟩)]∧A≤bx∧Bx u bx 64 [.pointer (some ⟨sh,0,none⟩)])
theorem BgH.keep {A k:Nat} {u u':World} {sh fn:Nat} {cs:Array Value} (h:BgH A k u sh fn cs) (hk:∀ b v,Bx u b 64 [v]→u'.heap[b]?=u.heap[b]?):BgH A k u' sh fn cs:=by
 rcases h with h | h | ⟨h0,h1,bx,h2,h3,h4⟩
 ·exact .inl h
 ·exact .inr (.inl h)
 ·exact .inr (.inr ⟨h0,h1,bx,h2,h3,h4.keep (hk _ _ h4)⟩)
def PhH (A k:Nat) (u:World) (sh:Nat) (ov fv:Value):Prop:=∃ fn cs,fv=.func (.func fn) #[] cs∧BgH A k u sh fn cs
theorem PhH.oc {A k:Nat} {u u':World} {sh:Nat} {ov fv:Value} (ho:Oc u u') (h:PhH A k u sh ov fv):PhH A k u' sh ov fv:=by
 obtain ⟨hz,c,cs0,fr,hc,hk⟩:=ho
 obtain ⟨fn,cs,h1,h2⟩:=h
 exact ⟨fn,cs,h1,h2.keep (fun b v hb=>hk b (Z4 hb hc (by decide)))⟩
def PsH (A k:Nat) (u:World) (sh:Nat) (fv sv pv:Value):Prop:=∃ fn cs,fv=.func (.func fn) #[] cs∧BgH A k u sh fn cs∧sv=bV 177 [.pointer (some ⟨sh,0,none⟩),fv]∧pv=bV 178 [.pointer (some ⟨sh,0,none⟩),fv]
theorem PsH.oc {A k:Nat} {u u':World} {sh:Nat} {fv sv pv:Value} (ho:Oc u u') (h:PsH A k u sh fv sv pv):PsH A k u' sh fv sv pv:=by
 obtain ⟨hz,c,cs0,fr,hc,hk⟩:=ho
 obtain ⟨fn,cs,h1,h2,h3⟩:=h
 exact ⟨fn,cs,h1,h2.keep (fun b v hb=>hk b (Z4 hb hc (by decide))),h3⟩
theorem Zcs (i k:Nat) (hi:i<3) (hk:k=1∨k=5∨k=7) (v:Value) (zs:List Int) (w:World) (hv:Zf w v zs) (hb:Zj zs) (hl:zs.length=16+8*i) (hP:Pow w) (hrc:RC w) :
  Calls Tryz.prog 26 #[.string (sxN i k),v] w fun e w'=>Lf w (sxN i k) 16 (16+8*i) zs (PsH w.heap.size k) e w':=by
 have e1:mS k=16∧mK k=1∧mM k=0∧mU k=148∧k<17∧mB k≠.nilFunc:=by rcases hk with rfl | rfl | rfl<;>exact ⟨rfl,rfl,rfl,rfl,by decide,by intro e;cases e⟩
 have q:=Zcr i k hi e1.2.2.2.2.1 v zs w hv hb (by rw[e1.2.1,e1.2.2.1,hl];omega) hP hrc (PhH w.heap.size k) (PsH w.heap.size k) (fun u u' s o x ho h=>h.oc ho) (fun u u' sh a b c ho h=>h.oc ho) (fun e=>absurd e e1.2.2.2.2.2) ?_ ?_
 ·rw[e1.1] at q;exact q
 ·intro bg hbg B sh kv mp u hu hB1 hB2 hA
  rcases hk with rfl | rfl | rfl
  ·obtain rfl:bg=147:=by injection hbg with e;injection e with e;exact e.symm
   refine (Dy _ u).mono ?_
   rintro e u' ⟨rfl,hw⟩
   obtain rfl:=hw.symm
   exact ⟨176,#[],#[],.slice none 0 0,rfl,hA,⟨0,[],by omega,World.ownsRow_nil _ _ _ _⟩,Fs.of_below (Below.refl _ _) hB2,176,#[],rfl,.inl ⟨rfl,rfl,rfl⟩⟩
  ·obtain rfl:bg=152:=by injection hbg with e;injection e with e;exact e.symm
   refine (F8 _ u).mono ?_
   rintro e u' ⟨rfl,hw⟩
   obtain rfl:=hw.symm
   exact ⟨183,#[],#[],.slice none 0 0,rfl,hA,⟨0,[],by omega,World.ownsRow_nil _ _ _ _⟩,Fs.of_below (Below.refl _ _) hB2,183,#[],rfl,.inr (.inl ⟨rfl,rfl,rfl⟩)⟩
  ·obtain rfl:bg=154:=by injection hbg with e;injection e with e;exact e.symm
   refine (F7 sh u).mono ?_
   rintro e u' ⟨rfl,hx,hbe⟩
   exact ⟨189,#[],_,.slice none 0 0,rfl,hA.below hbe,⟨0,[],by omega,World.ownsRow_nil _ _ _ _⟩,Fs.of_below hbe hB2,189,_,rfl,.inr (.inr ⟨rfl,rfl,_,rfl,by omega,hx⟩)⟩
 ·intro fv B sh kv mp ov u _ hΦ hu hB1 hB2 hA few
  obtain ⟨fn,cs,h1,h2⟩:=hΦ
  subst h1
  rw[e1.2.2.2.1]
  refine (Wv sh fn #[] cs u).mono ?_
  intro e u' hh
  obtain ⟨rfl,hbe⟩:=hh.out
  exact ⟨_,_,_,_,_,_,ov,rfl,hA.below hbe,Fs.of_below hbe hB2,fn,cs,rfl,h2.keep (fun b v hb=>hbe.block _ hb.lt),rfl,rfl⟩
theorem Zc5 (i k:Nat) (hi:i<3) (hk:k=1∨k=5∨k=7) (v:Value) (zs:List Int) (w:World) (hv:Zf w v zs) (hb:Zj zs) (hl:zs.length=16+8*i) (hP:Pow w) (hrc:RC w) :
  Calls Tryz.prog 26 #[.string (sxN i k),v] w fun e w'=>Zby w (Sa QFl 16) e w':=by
 refine (Zcs i k hi hk v zs w hv hb hl hP hrc).mono fun e w' h=>?_
 obtain ⟨c,sh,kv,mp,ov,fv,sv,pv,rfl,hc0,hcb,hsh,⟨fn,cs,h1,h2,h9,h10⟩,hbel⟩:=h
 refine ⟨c,rfl,?_,hbel⟩
 obtain ⟨x,hm,hA,hK⟩:=Ej hsh
 obtain ⟨hL,hI⟩:=Ic hA hK
 subst h1
 subst h10
 have hc1:w.heap.size≤c∧c<w'.heap.size:=⟨hc0,hcb.lt⟩
 have hs1:w.heap.size≤sh∧sh<w'.heap.size:=⟨hsh.le,hsh.box.lt⟩
 have k4:(shL (sxN i k) 16 kv (16+8*i) mp ov)[4]?=some (.pointer (some ⟨x.1,0,none⟩)):=by rw[hm];rfl
 rcases h2 with ⟨_,e2,e3⟩ | ⟨_,e2,e3⟩ | ⟨_,e2,bx,e3,a5,a7⟩
 ·subst e2 e3
  exact ⟨_,_,_,_,hL,hI,Fj hL c sh 176 #[] (fun _ _=>0) _ _ x hcb hsh.box hc1 hs1 rfl k4 rfl (by simp) (fun args u=>Zu Tryz.func176 (by rfl) (by rfl) args u) (Wj hL.cst 176 (fun _ _=>0) (fun s n u _ _=>Ex s n u)),Kg x.2.1 x.2.2,fun _ _=>0,Kf _ _ hK.1.ciph.small,fun s ys=>rfl⟩
 ·subst e2 e3
  exact ⟨_,_,_,_,hL,hI,Fj hL c sh 183 #[] (fun s n=>Fd.rv (F5 s (n/16))) _ _ x hcb hsh.box hc1 hs1 rfl k4 rfl (by simp) (fun args u=>Zu Tryz.func183 (by rfl) (by rfl) args u) (Wj hL.cst 183 (fun s n=>Fd.rv (F5 s (n/16))) (fun s n u hs hn=>Ph s n u hs hn)),Kg x.2.1 x.2.2,fun s n=>Fd.rv (F5 s (n/16)),Kf _ _ hK.1.ciph.small,fun s ys=>rfl⟩
 ·subst e2 e3
  have HBE:Od (Qr [x]) (Sti w.heap.size w'.heap.size [x] w') 189 #[.pointer (some ⟨bx,0,none⟩)] (fun s n=>Js x.2.1 x.2.2 (ebV s n)):=fun s n u hs hn hIu=>Uq hL.cst bx sh (Js x.2.1 x.2.2) s n u hs hn hIu ((hIu.bx hL a7 a5 a7.lt (by decide)).cell 0 _ rfl) (hL.not a7 (by decide)) (Eb hL sh _ hs1.1 hs1.2 hsh.box x (by simp) k4)
  exact ⟨_,_,_,_,hL,hI,Fj hL c sh 189 #[.pointer (some ⟨bx,0,none⟩)] (fun s n=>Js x.2.1 x.2.2 (ebV s n)) _ _ x hcb hsh.box hc1 hs1 rfl k4 rfl (by simp) (fun args u=>Zu Tryz.func189 (by rfl) (by rfl) args u) HBE,Kg x.2.1 x.2.2,fun s n=>Js x.2.1 x.2.2 (ebV s n),Kf _ _ hK.1.ciph.small,fun s ys=>rfl⟩
theorem Zcw (q t:Nat) (hq:q<7) (ht:t<3) (v:Value) (bs:List Int) (u:World) (G o cp:Nat) (hE:Env u G o cp) (hv:Zf u v bs) (hbb:Zj bs) :
  Calls Tryz.prog 10 #[.agg #[.int .i64 (1+(q+1)+17*t:Nat),v]] u fun e w'=>Ps u (Sa QFl 16) e w':=by
 obtain ⟨k,hk⟩:∃ k,k=q+1:=⟨_,rfl⟩
 have hkc:(k=1∨k=5∨k=7)∨(k=2∨k=3∨k=4∨k=6):=by omega
 have hk17:k<17:=by omega
 rw[←hk]
 have hf:∀ j,j<1+17*t+k→spN j≠sxN t k:=fun j hj=>Cd ⟨t,ht⟩ ⟨k,hk17⟩ ⟨j,by omega⟩ hj
 have hkl:mK k*(16+8*t)+mM k=16+8*t:=by
  have e:mK k=1∧mM k=0:=by rcases hkc with (h | h | h) | (h | h | h | h)<;>rw[h]<;>exact ⟨rfl,rfl⟩
  rw[e.1,e.2];omega
 refine Tv (1+k+17*t:Nat) (1+17*t+k) v bs u G o cp (Sa QFl 16) (Uv QFl 16) hE.md (by omega) (by rw[Zx _ (by omega)];omega) hv ?_ ?_
 ·intro u2 x2 hu2 hv2
  have hE2:=hE.below hu2
  rw[Vp t k hk17,Km t k hk17] at *
  rcases hkc with h | h
  ·exact Zc5 t k ht h x2 _ u2 hv2 (Wc hbb _) (by rw[Ko];exact hkl) hE2.pow hE2.rc
  ·exact Zc6 t k ht h x2 _ u2 hv2 (Wc hbb _) (by rw[Ko];exact hkl) hE2.pow hE2.rc hE2.tb
 ·intro u2 x2 hu2 hv2
  have hE2:=hE.below hu2
  rw[Vp t k hk17,Km t k hk17] at *
  exact Zcg t k ht hk17 x2 _ u2 G o cp hf hv2 (Wc hbb _) (by rw[Ko]) hE2.md hE2.rt
theorem Vs (D:BitVec 128→BitVec 128) (z:Nat→BitVec 128) (a:BitVec 128):cbM D z a 0=a:=rfl
theorem Vt (D:BitVec 128→BitVec 128) (z:Nat→BitVec 128) (a:BitVec 128) (k:Nat):cbM D z a (k+1)=z k:=rfl
theorem Ue {L:List Int} (D:BitVec 128→BitVec 128) (f:BitVec 128) (m j:Nat) (y:BitVec 128) (p:Nat) (hp:p<16*m) (h1:p/16≠j) (h2:p/16≠j+1):(bkZ (fun i=>cbO D (cutV L) f i) (16*m) m).getD p 0=(bkZ (fun i=>cbO D (cutV (Ju L m j y)) f i) (16*m) m).getD p 0:=by
 rw[Jv _ _ _ p hp,Jv _ _ _ p hp,if_pos hp,if_pos hp]
 have e:cbO D (cutV (Ju L m j y)) f (p/16)=cbO D (cutV L) f (p/16):=by
  unfold cbO
  rw[Vw L m j y (p/16) (by omega) h1]
  congr 1
  have hm:p/16<m:=by omega
  revert h1 h2 hm
  cases p/16 with
  | zero=>intro _ _ _;rw[Vs,Vs]
  | succ k=>intro h1 h2 hm;rw[Vt,Vt];exact Vw L m j y k (by omega) (by omega)
 rw[e]
theorem Ij {L:List Int} (D:BitVec 128→BitVec 128) (f:BitVec 128) (m j:Nat) (x:BitVec 128) (p:Nat) (hp:p<16*m) (hn:p/16=j+1):bits .xor .u8 ((bkZ (fun i=>cbO D (cutV L) f i) (16*m) m).getD p 0) ((bkZ (fun i=>cbO D (cutV (Ju L m j (cutV L j ^^^ x))) f i) (16*m) m).getD p 0)=((Fd.byV x (p%16):Nat):Int):=by
 rw[Jv _ _ _ p hp,Jv _ _ _ p hp,if_pos hp,if_pos hp,hn]
 have e1:cbO D (cutV L) f (j+1)=D (cutV L (j+1)) ^^^ cutV L j:=rfl
 have e2:cbO D (cutV (Ju L m j (cutV L j ^^^ x))) f (j+1)=D (cutV L (j+1)) ^^^ (cutV L j ^^^ x):=by
  show D (cutV (Ju L m j (cutV L j ^^^ x)) (j+1)) ^^^ cutV (Ju L m j (cutV L j ^^^ x)) j=_
  rw[Vw L m j _ (j+1) (by omega) (by omega),Wi L m j _ (by omega)]
 rw[e1,e2,Fd.Q5 _ _ (Fd.Q3 _ _) (Fd.Q3 _ _),←Fd.Gj,←BitVec.xor_assoc (D (cutV L (j+1))),←BitVec.xor_assoc (D (cutV L (j+1)) ^^^ cutV L j),BitVec.xor_self,BitVec.zero_xor]
theorem Sf (a x:BitVec 128) (h:a=a ^^^ x):x=0#128:=by
 have e:a ^^^ a=a ^^^ (a ^^^ x):=by rw[←h]
 rw[BitVec.xor_self,←BitVec.xor_assoc,BitVec.xor_self,BitVec.zero_xor] at e
 exact e.symm
theorem Ii {L:List Int} (D:BitVec 128→BitVec 128) (hD:∀ a b,D a=D b→a=b) (f:BitVec 128) (m j:Nat) (x:BitVec 128) (hj:j<m):(∀ p,p<16*m→p/16=j→(bkZ (fun i=>cbO D (cutV L) f i) (16*m) m).getD p 0=(bkZ (fun i=>cbO D (cutV (Ju L m j (cutV L j ^^^ x))) f i) (16*m) m).getD p 0)↔x=0#128:=by
 have hM:cbM D (cutV (Ju L m j (cutV L j ^^^ x))) f j=cbM D (cutV L) f j:=by
  cases j with
  | zero=>rw[Vs,Vs]
  | succ k=>rw[Vt,Vt];exact Vw L m (k+1) _ k (by omega) (by omega)
 constructor
 ·intro h
  have e:cbO D (cutV L) f j=cbO D (cutV (Ju L m j (cutV L j ^^^ x))) f j:=by
   apply Fd.We
   intro i hi
   have h1:=h (16*j+i) (by omega) (by omega)
   rw[Jv _ _ _ _ (by omega),Jv _ _ _ _ (by omega),if_pos (by omega),if_pos (by omega),show (16*j+i)/16=j by omega,show (16*j+i)%16=i by omega] at h1
   omega
  unfold cbO at e
  rw[hM,Wi L m j _ hj] at e
  exact Sf _ _ (hD _ _ (P0 _ _ _ e))
 ·intro h p hp hpj
  have e:cbO D (cutV (Ju L m j (cutV L j ^^^ x))) f j=cbO D (cutV L) f j:=by
   unfold cbO
   rw[hM,Wi L m j _ hj,h,show cutV L j ^^^ 0#128=cutV L j from BitVec.xor_zero]
  rw[Jv _ _ _ p hp,Jv _ _ _ p hp,if_pos hp,if_pos hp,hpj,e]
def flZ (L:List Int) (j:Nat) (x:BitVec 128) (k p:Nat):Int:=if 16*j≤p∧p<16*j+k then ((Fd.byV (cutV L j ^^^ x) (p-16*j):Nat):Int) else L.getD p 0
theorem Ug (L:List Int) (j:Nat) (x:BitVec 128) (p:Nat):flZ L j x 0 p=L.getD p 0:=if_neg (by omega)
theorem Uh (L:List Int) (j:Nat) (x:BitVec 128) (k p:Nat) (hp:p≠16*j+k):flZ L j x (k+1) p=flZ L j x k p:=by
 unfold flZ
 by_cases h:16*j≤p∧p<16*j+k
 ·rw[if_pos h,if_pos (by omega)]
 ·rw[if_neg h,if_neg (by omega)]
theorem Za4 (L:List Int) (j:Nat) (x:BitVec 128) (k:Nat):flZ L j x (k+1) (16*j+k)=((Fd.byV (cutV L j ^^^ x) k:Nat):Int):=by
 unfold flZ
 rw[if_pos (by omega),show 16*j+k-16*j=k by omega]
theorem Ui {L:List Int} (hb:Zj L) (j:Nat) (x:BitVec 128) (k:Nat) (hk:k<16):bits .xor .u8 (L.getD (16*j+k) 0) ((Fd.byV x k:Nat):Int)=((Fd.byV (cutV L j ^^^ x) k:Nat):Int):=by
 rw[←It hb j k hk,Fd.Q5 _ _ (Fd.Q3 _ _) (Fd.Q3 _ _),←Fd.Gj]
theorem Il (L:List Int) (m j:Nat) (x:BitVec 128) (p:Nat) (hp:p<16*m):flZ L j x 16 p=(Ju L m j (cutV L j ^^^ x)).getD p 0:=by
 rw[Gm L m j _ p hp]
 unfold flZ
 by_cases h:p/16=j
 ·rw[if_pos (by omega),if_pos h,show p-16*j=p%16 by omega]
 ·rw[if_neg (by omega),if_neg h]
theorem Ik (L:List Int) (j:Nat) (x:BitVec 128) (k n:Nat) (cu:List Value) (hl:n≤cu.length) (hk:16*j+k<n) (h:∀ p,p<n→cu[p]?=some (.int .u8 (flZ L j x k p))) (p:Nat) (hp:p<n):(cu.set (16*j+k) (.int .u8 ((Fd.byV (cutV L j ^^^ x) k:Nat):Int)))[p]?=some (.int .u8 (flZ L j x (k+1) p)):=by
 by_cases e:p=16*j+k
 ·rw[e,Za4,List.getElem?_set_self (by omega)]
 ·rw[Uh L j x k p e,List.getElem?_set_ne (by omega)]
  exact h p hp
theorem Zbt (nn at':Int):∃ n m j x:Nat,ftN nn true=n∧n=16*m∧1≤m∧m≤32∧j<m∧IntKind.u64.wrap at'=(x:Int)∧(n:Int).tdiv 16=(m:Int)∧(n:Int)/16=(m:Int)∧IntKind.i64.wrap (m:Int)=(m:Int)∧IntKind.u64.wrap (m:Int)=(m:Int)∧((m:Int)==0)=false∧(m:Int)≠0∧¬ m=0∧(x:Int)%(m:Int)=(j:Int)∧(x:Int).tmod (m:Int)=(j:Int)∧IntKind.i64.wrap (j:Int)=(j:Int)∧IntKind.u64.wrap (j:Int)=(j:Int)∧wrap64 (j:Int)=(j:Int)∧IntKind.i64.wrap (16*(j:Int))=((16*j:Nat):Int)∧wrap64 ((16*j:Nat):Int)=((16*j:Nat):Int)∧IntKind.i64.wrap (((16*j:Nat):Int)+16)=((16*j+16:Nat):Int):=by
 obtain ⟨m,h1,h2,h3⟩:=Rh nn
 have h0:0≤IntKind.u64.wrap at':=by unfold IntKind.wrap;simp [IntKind.signed,IntKind.bits];omega
 obtain ⟨x,hx⟩:∃ x:Nat,IntKind.u64.wrap at'=(x:Int):=⟨(IntKind.u64.wrap at').toNat,by omega⟩
 have hj:x%m<m:=Nat.mod_lt _ h2
 refine ⟨16*m,m,x%m,x,h1,rfl,h2,h3,hj,hx,?_,by omega,?_,Zx _ (by omega),by simp;omega,by omega,by omega,rfl,?_,?_,Zx _ (by omega),?_,?_,?_,?_⟩
 ·rw[Int.tdiv_eq_ediv_of_nonneg (by omega)];omega
 ·rw[IntKind.wrap_i64];omega
 ·rw[Int.tmod_eq_emod_of_nonneg (by omega)];rfl
 ·rw[IntKind.wrap_i64];omega
 ·unfold wrap64;omega
 ·rw[IntKind.wrap_i64];omega
 ·unfold wrap64;omega
 ·rw[IntKind.wrap_i64];omega
theorem Zaw (i n:Nat) (h:i<n) (hn:n≤512):(i:Int).tdiv 16=((i/16:Nat):Int)∧(i:Int)/16=((i/16:Nat):Int)∧IntKind.i64.wrap ((i/16:Nat):Int)=((i/16:Nat):Int)∧IntKind.i64.wrap ((i:Int)+1)=((i+1:Nat):Int)∧wrap64 ((i:Int)+1)=((i+1:Nat):Int)∧(i:Int)<(n:Int)∧(0:Int)≤(i:Int)∧wrap64 (i:Int)=(i:Int)∧wrap64 ((i/16:Nat):Int)=((i/16:Nat):Int):=by
 refine ⟨?_,by omega,?_,?_,?_,by omega,by omega,?_,?_⟩
 ·rw[Int.tdiv_eq_ediv_of_nonneg (by omega)];omega
 ·rw[IntKind.wrap_i64];omega
 ·rw[IntKind.wrap_i64];omega
 ·unfold wrap64;omega
 ·unfold wrap64;omega
 ·unfold wrap64;omega
theorem Gt {w:World} {b n d:Nat} {L:List Int} (h:Zf w (.slice (some ⟨b,0,none⟩) n d) L) (i:Nat) (hi:i<n):w.cell? ⟨b,i,none⟩=some (.int .u8 (L.getD i 0)):=by
 obtain ⟨h1,_,h3⟩:=Qv h
 have:=h3 i (by omega)
 rwa [Nat.zero_add] at this
theorem Mk {u v:World} {Ks:Nat→Prop} {b n d:Nat} {L:List Int} (h:Zf u (.slice (some ⟨b,0,none⟩) n d) L) (hb:¬ Ks b) (hg:Gk Ks u v):Zf v (.slice (some ⟨b,0,none⟩) n d) L:=by
 obtain ⟨z1,z2,z3⟩:=Qv h
 have z4:=W7 (w:=v) (b:=b) (off:=0) (c:=d) (zs:=L) (by omega) (by obtain ⟨_,_,ze,_,zm,_⟩:=h;injection ze with _ _ ze;omega) (fun i hi=>hg.cell hb (z3 i hi))
 rw[z1] at z4
 exact z4
theorem Nl {B:Nat} {w:World} {v:Value} {L:List Int} (h:X4 B w v L):∃ g c cur,v=.slice (some ⟨g,0,none⟩) L.length c∧B≤g∧Bx w g 5 cur∧L.length≤c∧c≤maxLen∧L.length≤cur.length∧∀ i,i<L.length→cur[i]?=some (.int .u8 (L.getD i 0)):=by
 obtain ⟨g,c,rfl,ho⟩:=h
 rcases ho.2 with ⟨q,_⟩ | ⟨g',cap,cur,q,hB,hh,hn,hm,hs,ht⟩
 ·cases q
 ·injection q with q1 q2 q3
  injection q1 with q1
  injection q1 with q1
  subst q1 q3
  refine ⟨g,c,cur.toList,rfl,hB,by unfold Bx;simpa using hh,by omega,hm,by simp;omega,fun i hi=>?_⟩
  have e:(cur.toList.take ((L.length+70)*1))[i]?=(Za (L++marks 70))[i]?:=by rw[ht]
  rw[List.getElem?_take,if_pos (by omega)] at e
  rw[e,Fi _ i (by rw[List.length_append];omega),List.getD_eq_getElem?_getD,List.getElem?_append_left hi,←List.getD_eq_getElem?_getD]
end Go.Proofs.YtehlppaidgkpaaaGreatDoor
