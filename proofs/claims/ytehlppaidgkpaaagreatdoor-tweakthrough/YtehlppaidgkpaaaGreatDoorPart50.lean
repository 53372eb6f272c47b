import Derived.Test.YtehlppaidgkpaaaGreatDoorPart47
import Derived.Test.YtehlppaidgkpaaaGreatDoorXtm
import Derived.Test.YtehlppaidgkpaaaGreatDoorPart43
import Derived.Test.YtehlppaidgkpaaaGreatDoorPart39
import Derived.Test.YtehlppaidgkpaaaGreatDoorPart40
import Derived.Test.YtehlppaidgkpaaaGreatDoorPart24
import Derived.Test.YtehlppaidgkpaaaGreatDoorNvx
import Derived.Test.YtehlppaidgkpaaaGreatDoorPart28
namespace Go.Proofs.YtehlppaidgkpaaaGreatDoor
open Go.RowKit
set_option linter.unusedVariables false
set_option linter.unusedSimpArgs false
theorem Nn {B:Nat} {Ks:Nat→Prop} {I:World→Prop} (hC:Cst B Ks I) (fn sh:Nat) (hE:∀ args u,(callFunc fn args).run Tryz.prog u=.ok (.enter fn args) u) (E:BitVec 128→BitVec 128) (r n c:Nat) (f:Nat→BitVec 128) (b off cp:Nat) (zs:List Int) (w:World) (hI:I w) (HDO:DoI Ks I fn (.pointer (some ⟨sh,0,none⟩)) E) (rg:∀ j,j<n→w.rangeAt r (0+j*16) (Fd.BL (f j))) (n4:¬ Ks r) (hnc:n≤c)
  (hl0:16≤zs.length) (hl3:zs.length≤4096) (hkn:zs.length≤16*n) (hc1:zs.length≤cp) (hb:Zd zs) (hbg:¬ Ks b) (hz:∀ i,i<zs.length→w.cell? ⟨b,off+i,none⟩=some (.int .u8 (zs.getD i 0))) :
  Calls Tryz.prog 229 #[.slice (some ⟨b,off,none⟩) zs.length cp,.slice (some ⟨r,0,none⟩) n c,.func (.func fn) #[.pointer (some ⟨sh,0,none⟩)] #[]] w fun e w'=>Hid (∃ x,e=.returned (.slice (some ⟨x,0,none⟩) zs.length zs.length)∧w.heap.size≤x∧Bx w' x 5 (Wv E f zs (zs.length/16))∧I w'∧Gk Ks w w'):=by
 by_cases h:zs.length=16*(zs.length/16)
 ·exact F7 hC fn sh hE E r n c f b off cp (zs.length/16) zs w hI HDO rg n4 hnc (by omega) h hl3 hkn hc1 hb hbg hz
 ·exact Dr hC fn sh hE E r n c f b off cp (zs.length/16) zs w hI HDO rg n4 hnc (by omega) (by omega) (by omega) hl3 hkn hc1 hb hbg hz
def R8 (E:BitVec 128→BitVec 128) (t:BitVec 128) (zs:List Int):List Value:=Wv E (dbN t) zs (zs.length/16)
set_option maxHeartbeats 1600000 in
set_option maxRecDepth 100000 in
theorem R9 {B:Nat} {Ks:Nat→Prop} {I:World→Prop} (hC:Cst B Ks I) (fn sh g2:Nat) (cs:Array Value) (hE:∀ args u,(callFunc fn args).run Tryz.prog u=.ok (.enter fn args) u) (E U:BitVec 128→BitVec 128) (fi:BitVec 128) (s:Nat) (b off cp:Nat) (zs:List Int) (w:World) (hI:I w)
  (HF:∀ u,I u→Calls Tryz.prog fn (#[.int .u64 (s:Nat),.int .i64 (zs.length:Nat)]++cs) u fun e w'=>Hid (e=.returned (Fd.BV fi)∧I w'∧Gk Ks u w'))
  (HU:DoI Ks I 188 (.pointer (some ⟨g2,0,none⟩)) U) (HDO:DoI Ks I 190 (.pointer (some ⟨sh,0,none⟩)) E)
  (hl0:16≤zs.length) (hl3:zs.length≤4096) (hc1:zs.length≤cp) (hb:Zd zs) (hbg:¬ Ks b) (hz:∀ i,i<zs.length→w.cell? ⟨b,off+i,none⟩=some (.int .u8 (zs.getD i 0))) :
  Calls Tryz.prog 201 #[.agg #[.pointer (some ⟨sh,0,none⟩),.func (.func fn) #[] cs,.pointer (some ⟨g2,0,none⟩)],.int .u64 (s:Nat),.slice (some ⟨b,off,none⟩) zs.length cp] w fun e w'=>Hid (∃ x,e=.returned (.slice (some ⟨x,0,none⟩) zs.length zs.length)∧w.heap.size≤x∧Bx w' x 5 (R8 E (U fi) zs)∧I w'∧Gk Ks w w'):=by
 obtain ⟨w1,hw1⟩:∃ w1,w1=w.alloc (.cells #[.pointer (some ⟨sh,0,none⟩),.func (.func fn) #[] cs,.pointer (some ⟨g2,0,none⟩)] 252):=⟨_,rfl⟩
 have hBw:B≤w.heap.size:=hC.size w hI
 have hb1:Below w.heap.size w w1:=by rw[hw1];exact (Below.refl _ _).alloc (Nat.le_refl _) _
 have hB1:Bx w1 w.heap.size 252 [.pointer (some ⟨sh,0,none⟩),.func (.func fn) #[] cs,.pointer (some ⟨g2,0,none⟩)]:=by rw[hw1];exact Bx.new w 252 [.pointer (some ⟨sh,0,none⟩),.func (.func fn) #[] cs,.pointer (some ⟨g2,0,none⟩)]
 obtain ⟨k,HK⟩:∃ k,Hid ((zs.length+15)/16=k):=⟨_,rfl⟩
 obtain ⟨f,Hf⟩:∃ f:Nat→BitVec 128,Hid (f=dbN (U fi)):=⟨_,rfl⟩
 obtain ⟨Y,HY⟩:∃ Y,Hid (Y=R8 E (U fi) zs):=⟨_,rfl⟩
 obtain ⟨N,HNL⟩:∃ n,Hid (zs.length=n):=⟨_,rfl⟩
 have HM:Hid (∀ u,I u→Calls Tryz.prog 230 #[.agg #[.pointer (some ⟨sh,0,none⟩),.func (.func fn) #[] cs,.pointer (some ⟨g2,0,none⟩)],.int .u64 (s:Nat),.int .i64 (N:Nat)] u fun e w'=>Hid (∃ x,e=.returned (.slice (some ⟨x,0,none⟩) k k)∧u.heap.size≤x∧Bx w' x 27 (bkL f k)∧I w'∧Gk Ks u w')):=fun u hu=>by
  have q:=Ld hC fn sh g2 cs hE U fi s zs.length k u hu (by have:=HK.out;omega) (by have:=HK.out;omega) hl3 HF HU
  rw[HNL.out,←Hf.out] at q
  exact q
 have HD:Hid (∀ u r,I u→Gk Ks w u→w.heap.size≤r→Bx u r 27 (bkL f k)→Calls Tryz.prog 229 #[.slice (some ⟨b,off,none⟩) N cp,.slice (some ⟨r,0,none⟩) k k,.func (.func 190) #[.pointer (some ⟨sh,0,none⟩)] #[]] u fun e w'=>Hid (∃ x,e=.returned (.slice (some ⟨x,0,none⟩) N N)∧u.heap.size≤x∧Bx w' x 5 Y∧I w'∧Gk Ks u w')):=fun u r hu hg hr hx=>by
  have q:=Nn hC 190 sh (fun args w=>Zp Tryz.func190 (by rfl) (by rfl) args w) E r k k f b off cp zs u hu HDO (fun j hj i x hx'=>?_) (hC.new (by omega)) (Nat.le_refl _) hl0 hl3 (by have:=HK.out;omega) hc1 hb hbg (fun i hi=>hg.cell hbg (hz i hi))
  ·rw[HNL.out] at q
   rw[HY.out,R8,HNL.out,←Hf.out]
   exact q
  ·have hi:i<16:=by have:=(List.getElem?_eq_some_iff.1 hx').1;rw[Fd.Zl] at this;exact this
   rw[Fd.X5 _ i hi] at hx'
   have e:=Md f k j i hj hi
   rw[hx'] at e
   rw[show 0+j*16+i=16*j+i by omega]
   exact hx.cell _ _ e
 rw[HNL.out,←HY.out]
 have HW1:Hid (Below w.heap.size w w1∧Bx w1 w.heap.size 252 [.pointer (some ⟨sh,0,none⟩),.func (.func fn) #[] cs,.pointer (some ⟨g2,0,none⟩)]∧I w1∧B≤w.heap.size):=⟨hb1,hB1,hC.below hI hb1,hBw⟩
 clear hI HF HU HDO hl0 hl3 hc1 hb hbg hz hb1 hB1 hBw
 go_enter Tryz.func201,Tryz.ntmps201
 go_upto_region 1 with fail
 rw[←hw1]
 clear hw1
 obtain ⟨M,HMM⟩:∃ M,Hid (w.heap.size=M):=⟨_,rfl⟩
 have HNK:Hid (¬ Ks M):=by show ¬ Ks M;rw[←HMM.out];exact hC.new HW1.out.2.2.2
 rw[HMM.out] at HW1 HD ⊢
 have c0:w1.cell? ⟨M,0,none⟩=some (.pointer (some ⟨sh,0,none⟩)):=HW1.out.2.1.cell 0 _ rfl
 have c1:w1.cell? ⟨M,1,none⟩=some (.func (.func fn) #[] cs):=HW1.out.2.1.cell 1 _ rfl
 have c2:w1.cell? ⟨M,2,none⟩=some (.pointer (some ⟨g2,0,none⟩)):=HW1.out.2.1.cell 2 _ rfl
 have HS1:Hid (M+1≤w1.heap.size):=HW1.out.2.1.lt
 have HID:Hid (I w1.drew∧Gk Ks w w1.drew):=⟨hC.below HW1.out.2.2.1 (Below.refl _ _).drew,(Gk.of_below (by rw[HMM.out];exact HW1.out.1)).below (Below.refl _ _).drew⟩
 have HDL:Hid (∀ r,w1.drew.heap.size≤r→M≤r):=fun r hr=>by have:=HS1.out;simp at hr;omega
 go_region_held3 (fun u=>u.cell? ⟨M,0,none⟩=some (.pointer (some ⟨sh,0,none⟩))∧u.cell? ⟨M,1,none⟩=some (.func (.func fn) #[] cs)∧u.cell? ⟨M,2,none⟩=some (.pointer (some ⟨g2,0,none⟩))) (first | exact ⟨c0,c1,c2⟩ | exact hS2 | exact hS3 | go_keep) (first
  | (go_at_call 230;refine (HM.out _ HID.out.1).mono ?_;intro e2 w2 hh;obtain ⟨r,rfl,hr,hx,hi2,hg2⟩:=hh.out;have hS2:w2.cell? ⟨M,0,none⟩=some (.pointer (some ⟨sh,0,none⟩))∧w2.cell? ⟨M,1,none⟩=some (.func (.func fn) #[] cs)∧w2.cell? ⟨M,2,none⟩=some (.pointer (some ⟨g2,0,none⟩)):=⟨hg2.cell HNK.out (by simpa using c0),hg2.cell HNK.out (by simpa using c1),hg2.cell HNK.out (by simpa using c2)⟩;have HB2:Hid (M≤r∧Bx w2 r 27 (bkL f k)∧I w2∧Gk Ks w w2):=⟨HDL.out _ hr,hx,hi2,HID.out.2.trans hg2⟩;clear hh hr hx hi2 hg2)
  | (go_at_call 229;refine (HD.out _ r HB2.out.2.2.1 HB2.out.2.2.2 HB2.out.1 HB2.out.2.1).mono ?_;intro e3 w3 hh;obtain ⟨z,rfl,h1,h2,h3,h4⟩:=hh.out;have HX:Hid (w2.heap.size≤z∧Bx w3 z 5 Y∧I w3∧Gk Ks w2 w3):=⟨h1,h2,h3,h4⟩;have hS3:w3.cell? ⟨M,0,none⟩=some (.pointer (some ⟨sh,0,none⟩))∧w3.cell? ⟨M,1,none⟩=some (.func (.func fn) #[] cs)∧w3.cell? ⟨M,2,none⟩=some (.pointer (some ⟨g2,0,none⟩)):=⟨h4.cell HNK.out hS2.1,h4.cell HNK.out hS2.2.1,h4.cell HNK.out hS2.2.2⟩;clear hh h1 h2 h3 h4))
 all_goals (
  (try go_wp2)
  go_ret
  obtain ⟨y1,y2,y3,y4⟩:=HX.out
  obtain ⟨z1,z2,z3,z4⟩:=HB2.out
  exact ⟨z,rfl,by have:=z4.size;have:=HMM.out;omega,y2,y3,z4.trans y4⟩)
def Xo (L:List (Nat×Nat×(Nat→Nat))) (c:Nat):Prop:=∃ x,x∈L∧x.1=c
structure Sti (A B:Nat) (L:List (Nat×Nat×(Nat→Nat))) (w0 u:World):Prop where
 key:∀ x,x∈L→Zr u x.1 x.2.1 x.2.2
 rest:∀ b,A≤b→b<B→¬ Xo L b→u.heap[b]?=w0.heap[b]?
 size:B≤u.heap.size
structure KlP (A B:Nat) (L:List (Nat×Nat×(Nat→Nat))) (w0:World):Prop where
 low:∀ x,x∈L→A≤x.1∧x.1<B
 one:∀ x y,x∈L→y∈L→x.1=y.1→x=y
 typ:∀ x,x∈L→∃ R:Array Value,w0.heap[x.1]?=some (.cells R 135 (0,0))
theorem Sti.stay {A B:Nat} {L:List (Nat×Nat×(Nat→Nat))} {w0 u v:World} (hL:KlP A B L w0) (h:Sti A B L w0 u) (hk:∀ c,A≤c→c<B→v.heap[c]?=u.heap[c]?) (hs:u.heap.size≤v.heap.size):Sti A B L w0 v:=
 ⟨fun x hx=>(h.key x hx).sameK (hk _ (hL.low x hx).1 (hL.low x hx).2) hs,fun b h1 h2 h3=>(hk b h1 h2).trans (h.rest b h1 h2 h3),Nat.le_trans h.size hs⟩
theorem KlP.cst {A B:Nat} {L:List (Nat×Nat×(Nat→Nat))} {w0:World} (hL:KlP A B L w0):Cst B (Xo L) (Sti A B L w0):=
 ⟨fun c h=>by obtain ⟨x,hx,rfl⟩:=h;exact (hL.low x hx).2,fun u h=>h.size,fun u v h hk hs=>h.stay hL (fun c _ hc=>hk c hc) hs⟩
theorem Sti.gb {A B:Nat} {L:List (Nat×Nat×(Nat→Nat))} {w0 u v:World} (hL:KlP A B L w0) (h:Sti A B L w0 u) {x:Nat×Nat×(Nat→Nat)} (hx:x∈L) (hb:u.grownBy v (some x.1)) (hK:Zr v x.1 x.2.1 x.2.2):Sti A B L w0 v:=by
 refine ⟨fun y hy=>?_,fun b h1 h2 h3=>(hb.block b (Nat.lt_of_lt_of_le h2 h.size) (fun e=>h3 (by injection e with e;exact ⟨x,hx,e.symm⟩))).trans (h.rest b h1 h2 h3),Nat.le_trans h.size hb.size⟩
 by_cases e:y.1=x.1
 ·rw[hL.one y x hy hx e];exact hK
 ·exact (h.key y hy).sameK (hb.block y.1 (h.key y hy).ciph.here (fun q=>by injection q with q;exact e q)) hb.size
theorem KlP.not {A B:Nat} {L:List (Nat×Nat×(Nat→Nat))} {w0:World} (hL:KlP A B L w0) {b:Nat} {t:TypeId} {cs:List Value} (hb:Bx w0 b t cs) (ht:t≠135):¬ Xo L b:=fun h=>by
 obtain ⟨x,hx,e⟩:=h
 obtain ⟨R,hR⟩:=hL.typ x hx
 exact Zo hb hR ht e.symm
theorem Sti.bx {A B:Nat} {L:List (Nat×Nat×(Nat→Nat))} {w0 u:World} (hL:KlP A B L w0) (h:Sti A B L w0 u) {b:Nat} {t:TypeId} {cs:List Value} (hb:Bx w0 b t cs) (hA:A≤b) (hB:b<B) (ht:t≠135):Bx u b t cs:=hb.keep (h.rest b hA hB (hL.not hb ht))
theorem H7 {A B:Nat} {L:List (Nat×Nat×(Nat→Nat))} {w0:World} (hL:KlP A B L w0) (sh:Nat) (cs:List Value) (hA:A≤sh) (hB:sh<B) (hs:Bx w0 sh 115 cs) (x:Nat×Nat×(Nat→Nat)) (hx:x∈L) (hg:cs[4]?=some (.pointer (some ⟨x.1,0,none⟩))):DoI (Xo L) (Sti A B L w0) 190 (.pointer (some ⟨sh,0,none⟩)) (Yy x.2.1 x.2.2):=fun v u h=>by
 have hb:=h.bx hL hs hA hB (by decide)
 refine (Nz sh x.1 x.2.1 x.2.2 v u (fun e=>hL.not hs (by decide) ⟨x,hx,e.symm⟩) (hb.cell 4 _ hg) (h.key x hx)).mono fun e w' hh=>?_
 obtain ⟨rfl,h1,h2⟩:=hh.out
 exact ⟨rfl,h.gb hL hx h2 h1,Gk.of_gb h2 ⟨x,hx,rfl⟩⟩
theorem Mn {A B:Nat} {L:List (Nat×Nat×(Nat→Nat))} {w0:World} (hL:KlP A B L w0) (x:Nat×Nat×(Nat→Nat)) (hx:x∈L):DoI (Xo L) (Sti A B L w0) 188 (.pointer (some ⟨x.1,0,none⟩)) (Yy x.2.1 x.2.2):=fun v u h=>by
 refine (Cj x.1 x.2.1 x.2.2 v u (h.key x hx)).mono fun e w' hh=>?_
 obtain ⟨rfl,h1,h2⟩:=hh.out
 exact ⟨rfl,h.gb hL hx h2 h1,Gk.of_gb h2 ⟨x,hx,rfl⟩⟩
def Pc (Ks:Nat→Prop) (I:World→Prop) (fn:Nat) (cs:Array Value) (F:Nat→Nat→BitVec 128):Prop:=∀ (s n:Nat) (u:World),s<18446744073709551616→n≤1024→I u→Calls Tryz.prog fn (#[.int .u64 (s:Nat),.int .i64 (n:Nat)]++cs) u fun e w'=>Hid (e=.returned (Fd.BV (F s n))∧I w'∧Gk Ks u w')
def Kt (fn:Nat) (Ks:Nat→Prop) (I:World→Prop) (st c:Nat) (F:Nat→List Int→List Int):Prop:=∀ (s b off cp:Nat) (zs:List Int) (u:World),I u→s<18446744073709551616→16≤zs.length→zs.length≤1024→zs.length%st=0→Zd zs→¬ Ks b→Zf u (.slice (some ⟨b,off,none⟩) zs.length cp) zs →
 Calls Tryz.prog fn #[.pointer (some ⟨c,0,none⟩),.int .u64 (s:Nat),.slice (some ⟨b,off,none⟩) zs.length cp] u fun e u'=>Hid (∃ x d,e=.returned (.tuple #[.slice (some ⟨x,0,none⟩) zs.length d,.int .i64 0])∧u.heap.size≤x∧Zf u' (.slice (some ⟨x,0,none⟩) zs.length d) (F s zs)∧I u'∧Gk Ks u u')
def Zce (Q:(Nat→List Int→List Int)→Prop) (st:Nat) (A c:Nat) (u:World):Prop:=∃ B L w0 F,KlP A B L w0∧Sti A B L w0 u∧Kt 13 (Xo L) (Sti A B L w0) st c F∧Q F
theorem Xg {w:World} {b off n c:Nat} {zs:List Int} (h:Zf w (.slice (some ⟨b,off,none⟩) n c) zs):zs.length=n∧n≤c∧∀ i,i<zs.length→w.cell? ⟨b,off+i,none⟩=some (.int .u8 (zs.getD i 0)):=by
 obtain ⟨a,cap,he,hle,_,_,h4⟩:=h
 injection he with h1 h2 h3
 subst h1
 refine ⟨h2.symm,by rw[h2,h3];exact hle,?_⟩
 rcases h4 with h4 | ⟨b',o',e,h4⟩
 ·intro i hi;rw[h4] at hi;simp at hi
 ·injection e with e;injection e with e1 e2;subst e1 e2;exact h4
theorem W1 {w:World} {b off c:Nat} {zs:List Int} (h1:zs.length≤c) (h2:c≤maxLen) (h:∀ i,i<zs.length→w.cell? ⟨b,off+i,none⟩=some (.int .u8 (zs.getD i 0))):Zf w (.slice (some ⟨b,off,none⟩) zs.length c) zs:=
 ⟨some ⟨b,off,none⟩,c,rfl,h1,h2,(fun e=>by cases e),.inr ⟨b,off,rfl,h⟩⟩
theorem Fk (L:List Int) (i:Nat) (hi:i<L.length):(Za L)[i]?=some (.int .u8 (L.getD i 0)):=by
 simp [Za,List.getElem?_map,List.getElem?_eq_getElem hi,List.getD_eq_getElem?_getD]
theorem Gl {w:World} {x:Nat} {t:TypeId} {zs:List Int} (h:Bx w x t (Za zs)) (hm:zs.length≤maxLen):Zf w (.slice (some ⟨x,0,none⟩) zs.length zs.length) zs:=
 W1 (Nat.le_refl _) hm fun i hi=>by rw[Nat.zero_add];exact h.cell i _ (Fk zs i hi)
theorem Wq (L:List Int):(Za L).length=L.length:=by simp [Za]
theorem Hs (F:Nat→BitVec 128) (k:Nat):bkL F k=Za (bkZ F (16*k) k):=by
 apply List.ext_getElem?
 intro i
 by_cases hi:i<16*k
 ·rw[Fk _ i (by rw[Y0];exact hi),←Gh F (16*k) k rfl]
  exact U1 F (16*k) k i (Nat.le_refl _) hi
 ·rw[List.getElem?_eq_none (by rw[Z2];omega),List.getElem?_eq_none (by rw[Wq,Y0];omega)]
def Th (E:BitVec 128→BitVec 128) (f:Nat→BitVec 128) (zs:List Int) (k i:Nat):BitVec 128:=
 if zs.length=16*k∨i<16*(k-1) then Ww E f zs (i/16) else if i<16*k then Tg E f zs k else Ww E f zs (k-1)
def G5 (E:BitVec 128→BitVec 128) (f:Nat→BitVec 128) (zs:List Int) (k:Nat):List Int:=(List.range zs.length).map fun i=>((Fd.byV (Th E f zs k i) (i%16):Nat):Int)
theorem Qx (E:BitVec 128→BitVec 128) (f:Nat→BitVec 128) (zs:List Int) (k:Nat):(G5 E f zs k).length=zs.length:=by simp [G5]
theorem Dq (E:BitVec 128→BitVec 128) (f:Nat→BitVec 128) (zs:List Int) (k i:Nat) (hi:i<zs.length):(G5 E f zs k).getD i 0=((Fd.byV (Th E f zs k i) (i%16):Nat):Int):=by
 rw[List.getD_eq_getElem?_getD,G5,List.getElem?_map,List.getElem?_range hi];rfl
theorem Nj (E:BitVec 128→BitVec 128) (f:Nat→BitVec 128) (zs:List Int) (k:Nat):Zd (G5 E f zs k):=fun i=>by
 by_cases hi:i<zs.length
 ·rw[Dq E f zs k i hi];have:=Fd.Qi (Th E f zs k i) (i%16);omega
 ·rw[List.getD_eq_getElem?_getD,List.getElem?_eq_none (by rw[Qx];omega)];simp
theorem M9 (F:Nat→BitVec 128) (k i:Nat) (hi:i<16*k):(bkL F k)[i]?=some (.int .u8 (Fd.byV (F (i/16)) (i%16):Nat)):=by
 have h:=Md F k (i/16) (i%16) (by omega) (by omega)
 rw[show 16*(i/16)+i%16=i by omega] at h
 exact h
theorem Pd (v:BitVec 128) (i:Nat) (hi:i<16):(Fd.BL v)[i]?=some (.int .u8 (Fd.byV v i:Nat)):=Fd.X5 v i hi
theorem Nk (E:BitVec 128→BitVec 128) (f:Nat→BitVec 128) (zs:List Int) (k:Nat) (hk:k=zs.length/16) (h1:1≤k):Wv E f zs k=Za (G5 E f zs k):=by
 apply List.ext_getElem?
 intro i
 by_cases hi:i<zs.length
 ·rw[Fk _ i (by rw[Qx];exact hi),Dq E f zs k i hi]
  unfold Wv Th
  by_cases he:zs.length=16*k
  ·rw[if_pos he,if_pos (.inl he),M9 _ _ _ (by omega)]
  ·rw[if_neg he]
   unfold splice
   have hl1:((bkL (Ww E f zs) k++(Fd.BL (Ww E f zs (k-1))).take (zs.length-16*k)).take (16*(k-1))).length=16*(k-1):=by
    rw[List.length_take,List.length_append,Z2];omega
   have hl2:(Fd.BL (Tg E f zs k)).length=16:=Fd.Zl _
   by_cases h2:i<16*(k-1)
   ·rw[if_pos (.inr h2),List.getElem?_append_left (by omega),List.getElem?_take,if_pos h2,List.getElem?_append_left (by rw[Z2];omega),M9 _ _ _ (by omega)]
   ·rw[if_neg (by omega),List.getElem?_append_right (by omega),hl1]
    by_cases h3:i<16*k
    ·rw[if_pos h3,List.getElem?_append_left (by omega),Pd _ _ (by omega),show i-16*(k-1)=i%16 by omega]
    ·rw[if_neg h3,List.getElem?_append_right (by omega),hl2,List.getElem?_drop,List.getElem?_append_right (by rw[Z2];omega),Z2,List.getElem?_take,if_pos (by omega),Pd _ _ (by omega),show 16*(k-1)+16+(i-16*(k-1)-16)-16*k=i%16 by omega]
 ·have hl:(Wv E f zs k).length≤zs.length:=by
   unfold Wv splice
   split
   ·rw[Z2];omega
   ·have:=Fd.Zl (Tg E f zs k)
    have:=Fd.Zl (Ww E f zs (k-1))
    simp only[List.length_append,List.length_take,List.length_drop,Z2]
    omega
  rw[List.getElem?_eq_none (by omega),List.getElem?_eq_none (by rw[Wq,Qx];omega)]
theorem I3 {A B:Nat} {L:List (Nat×Nat×(Nat→Nat))} {w0:World} (hL:KlP A B L w0) (c sh fn st:Nat) (cs:Array Value) (F0:Nat→Nat→BitVec 128) (shc:List Value) (pv:Value) (x y:Nat×Nat×(Nat→Nat)) (hst:0<st) (hc:Bx w0 c 70 [.pointer (some ⟨sh,0,none⟩),.func (.func fn) #[] cs,bV 201 [.pointer (some ⟨sh,0,none⟩),.func (.func fn) #[] cs,.pointer (some ⟨y.1,0,none⟩)],pv]) (hs:Bx w0 sh 115 shc) (hcA:A≤c∧c<B) (hsA:A≤sh∧sh<B)
  (h1:shc[1]?=some (.int .i64 (st:Nat))) (h4:shc[4]?=some (.pointer (some ⟨x.1,0,none⟩))) (h6:shc[6]?=some (.bool false)) (hx:x∈L) (hy:y∈L) (hE:∀ args u,(callFunc fn args).run Tryz.prog u=.ok (.enter fn args) u) (HF:Pc (Xo L) (Sti A B L w0) fn cs F0) :
  Kt 13 (Xo L) (Sti A B L w0) st c (fun s zs=>G5 (Yy x.2.1 x.2.2) (dbN (Yy y.2.1 y.2.2 (F0 s zs.length))) zs (zs.length/16)):=by
 intro s b off cp zs u hI hs64 hl0 hl1 hlst hzb hbk hv
 have hC:=hL.cst
 have hcu:=hI.bx hL hc hcA.1 hcA.2 (by decide)
 have hsu:=hI.bx hL hs hsA.1 hsA.2 (by decide)
 obtain ⟨_,hcp,hz⟩:=Xg hv
 have hm:zs.length≤maxLen:=by unfold maxLen;omega
 have q:=Gr c sh 201 [.pointer (some ⟨sh,0,none⟩),.func (.func fn) #[] cs,.pointer (some ⟨y.1,0,none⟩)] (s:Nat) (some ⟨b,off,none⟩) zs.length cp st u (hcu.cell 0 _ rfl) (hcu.cell 2 _ rfl) (hsu.cell 1 _ h1) (hsu.cell 6 _ h6) hl0 (by omega) hlst hst (fun args u=>Zp Tryz.func201 (by rfl) (by rfl) args u)
  (fun v w'=>∃ X,v=.slice (some ⟨X,0,none⟩) zs.length zs.length∧u.heap.size≤X∧Bx w' X 5 (R8 (Yy x.2.1 x.2.2) (Yy y.2.1 y.2.2 (F0 s zs.length)) zs)∧Sti A B L w0 w'∧Gk (Xo L) u w') ?_
 ·refine q.mono fun e w' hh=>?_
  obtain ⟨y',kk,d,rfl,X,hX,p1,p2,p3,p4⟩:=hh.out
  rw[hX]
  refine ⟨X,zs.length,rfl,p1,?_,p3,p4⟩
  rw[R8,Nk _ _ _ _ rfl (by omega)] at p2
  have hv2:=Gl p2 (by rw[Qx];exact hm)
  rw[Qx] at hv2
  exact hv2
 ·refine (R9 hC fn sh y.1 cs hE (Yy x.2.1 x.2.2) (Yy y.2.1 y.2.2) (F0 s zs.length) s b off cp zs u hI (fun u2 hu2=>HF s zs.length u2 hs64 hl1 hu2) (Mn hL y hy) (H7 hL sh shc hsA.1 hsA.2 hs x hx h4) hl0 (by omega) hcp hzb hbk hz).mono fun e w' hh=>?_
  obtain ⟨X,rfl,p1,p2,p3,p4⟩:=hh.out
  exact ⟨_,_,_,rfl,X,rfl,p1,p2,p3,p4⟩
theorem Zao {A B:Nat} {L:List (Nat×Nat×(Nat→Nat))} {w0:World} (hL:KlP A B L w0) (c sh:Nat) (fv pv:Value) (shc:List Value) (x:Nat×Nat×(Nat→Nat)) (hc:Bx w0 c 70 [.pointer (some ⟨sh,0,none⟩),fv,bV 174 [.pointer (some ⟨sh,0,none⟩)],pv]) (hs:Bx w0 sh 115 shc) (hcA:A≤c∧c<B) (hsA:A≤sh∧sh<B)
  (h1:shc[1]?=some (.int .i64 (16:Nat))) (h4:shc[4]?=some (.pointer (some ⟨x.1,0,none⟩))) (h6:shc[6]?=some (.bool false)) (hx:x∈L) :
  Kt 13 (Xo L) (Sti A B L w0) 16 c (fun s zs=>bkZ (fun j=>Yy x.2.1 x.2.2 (cutV zs j)) zs.length (zs.length/16)):=by
 intro s b off cp zs u hI hs64 hl0 hl1 hlst hzb hbk hv
 have hC:=hL.cst
 have hcu:=hI.bx hL hc hcA.1 hcA.2 (by decide)
 have hsu:=hI.bx hL hs hsA.1 hsA.2 (by decide)
 obtain ⟨_,hcp,hz⟩:=Xg hv
 have hm:zs.length≤maxLen:=by unfold maxLen;omega
 have q:=Gr c sh 174 [.pointer (some ⟨sh,0,none⟩)] (s:Nat) (some ⟨b,off,none⟩) zs.length cp 16 u (hcu.cell 0 _ rfl) (hcu.cell 2 _ rfl) (hsu.cell 1 _ h1) (hsu.cell 6 _ h6) hl0 (by omega) hlst (by decide) (fun args u=>Zp Tryz.func174 (by rfl) (by rfl) args u)
  (fun v w'=>∃ X,v=.slice (some ⟨X,0,none⟩) zs.length zs.length∧u.heap.size≤X∧Bx w' X 5 (bkL (fun j=>Yy x.2.1 x.2.2 (cutV zs j)) (zs.length/16))∧Sti A B L w0 w'∧Gk (Xo L) u w') ?_
 ·refine q.mono fun e w' hh=>?_
  obtain ⟨y',kk,d,rfl,X,hX,p1,p2,p3,p4⟩:=hh.out
  rw[hX]
  refine ⟨X,zs.length,rfl,p1,?_,p3,p4⟩
  rw[Hs,show 16*(zs.length/16)=zs.length by omega] at p2
  have hv2:=Gl p2 (by rw[Y0];exact hm)
  rw[Y0] at hv2
  exact hv2
 ·refine (N3 hC sh (Yy x.2.1 x.2.2) (s:Nat) b off cp (zs.length/16) zs u hI (H7 hL sh shc hsA.1 hsA.2 hs x hx h4) (by omega) (by omega) (by omega) hcp hzb hbk hz).mono fun e w' hh=>?_
  obtain ⟨X,rfl,p1,p2,p3,p4⟩:=hh.out
  exact ⟨_,_,_,rfl,X,rfl,p1,p2,p3,p4⟩
set_option maxHeartbeats 800000 in
set_option maxRecDepth 100000 in
theorem Nc (s:Nat) (n:Int) (w:World) (hs:s<18446744073709551616) :
  Calls Tryz.prog 181 #[.int .u64 (s:Nat),.int .i64 n] w fun e w'=>Hid (e=.returned (Fd.BV (Fd.rv (plV true s)))∧Below w.heap.size w w'):=by
 obtain ⟨M,HMM⟩:∃ M,Hid (M=Fd.BL (Fd.rv (plV true s))):=⟨_,rfl⟩
 have HG:Hid (∀ u,Calls Tryz.prog 182 #[.int .u64 0,.int .u64 (s:Nat)] u fun e w'=>Hid (e=.returned (.agg M.toArray)∧Below u.heap.size u w')):=fun u=>by
  rw[HMM.out];unfold plV;rw[if_pos rfl]
  obtain ⟨h1,h2⟩:=G4 s hs
  have q:=Fd.Zax (BitVec.ofNat 128 s) u
  rw[h1,h2] at q
  exact q.mono fun e w' hh=>hh
 have HLN:Hid (M.length=16∧(∀ x∈M,x.oneCell'=true)):=by rw[HMM.out];exact ⟨rfl,Yh _⟩
 show Calls Tryz.prog 181 #[_,_] w fun e w'=>Hid (e=.returned (.agg (Fd.BL (Fd.rv (plV true s))).toArray)∧_)
 rw[←HMM.out]
 obtain ⟨w1,hw1⟩:∃ w1,w1=w.alloc (.cells ZZ.toArray 27):=⟨_,rfl⟩
 have HB1:Hid (Bx w1 w.heap.size 27 ZZ∧Below w.heap.size w w1):=by rw[hw1];exact ⟨Bx.new w 27 ZZ,(Below.refl _ _).alloc (Nat.le_refl _) _⟩
 clear hs
 go_enter Tryz.func181,Tryz.ntmps181
 go_upto_region 1 with fail
 rw[show w.alloc (.cells _ 27)=w1 from hw1.symm]
 clear hw1
 obtain ⟨m,HM2⟩:∃ m,Hid (w.heap.size=m):=⟨_,rfl⟩
 rw[HM2.out] at HB1 ⊢
 go_wp2_with (first
  | (go_at_call 182;refine (HG.out _).mono ?_;intro e4 w4 hh;obtain ⟨rfl,hb4⟩:=hh.out;have HB4:Hid (Bx w4 m 27 ZZ∧Below m w w4):=⟨HB1.out.1.below hb4,HB1.out.2.trans (hb4.mono (by have:=HB1.out.1.lt;omega))⟩;clear hh hb4)
  | (refine Ze (by rfl) 27 (.tmp 4) (.tmp 6) (by rfl) ZZ M m (by rfl) (by rfl) HB4.out.1 (by rw[HLN.out.1];rfl) (by rw[HLN.out.1];kernel_rfl) HLN.out.2 ?_;intro u9 hb9 hg9))
 refine Xl (b:=m) M rfl rfl hb9.range Tryz.underlying27 rfl (by rw[HLN.out.1];kernel_rfl) ⟨rfl,?_⟩
 have hfin:Below m w u9:=HB4.out.2.trans (Zm hg9 (by have:=HB4.out.1.lt;omega) (by omega))
 first | exact hfin | (rw[HM2.out];exact hfin)
theorem Ls {w:World} {p m:Nat} {x:Value} {M:List Value} (hp:w.cell? ⟨p,0,none⟩=some x) (hpm:p<m) (hb:Bx w m 27 ZZ) (hM:M.length=16):(w.setCells m 0 M).cell? ⟨p,0,none⟩=some x∧(w.setCells m 0 M).there m 0 16:=by
 refine ⟨?_,Y7 (hb.store M (by rw[hM];rfl)) hM⟩
 rw[World.cell?_of_block (a:=⟨p,0,none⟩) ((Z5 m M 0 w).block p (World.block_lt_of_cell? w _ hp) (fun e=>by injection e with e;omega))]
 exact hp
set_option maxHeartbeats 800000 in
set_option maxRecDepth 100000 in
theorem T9 {B:Nat} {Ks:Nat→Prop} {I:World→Prop} (hC:Cst B Ks I) (p g:Nat) (E:BitVec 128→BitVec 128) (s:Nat) (n:Int) (w:World) (hs:s<18446744073709551616) (hI:I w) (hp:w.cell? ⟨p,0,none⟩=some (.pointer (some ⟨g,0,none⟩))) (hpk:¬ Ks p) (HU:DoI Ks I 188 (.pointer (some ⟨g,0,none⟩)) E) :
  Calls Tryz.prog 187 #[.int .u64 (s:Nat),.int .i64 n,.pointer (some ⟨p,0,none⟩)] w fun e w'=>Hid (e=.returned (Fd.BV (E (plV true s)))∧I w'∧Gk Ks w w'):=by
 obtain ⟨v,HV⟩:∃ v,Hid (v=plV true s):=⟨_,rfl⟩
 obtain ⟨L,HL⟩:∃ L,Hid (L=Fd.BL v):=⟨_,rfl⟩
 obtain ⟨M,HMM⟩:∃ M,Hid (M=Fd.BL (E v)):=⟨_,rfl⟩
 have HG:Hid (∀ u,Calls Tryz.prog 38 #[.int .u64 0,.int .u64 (s:Nat)] u fun e w'=>Hid (e=.returned (.agg L.toArray)∧Below u.heap.size u w')):=fun u=>by
  rw[HL.out,HV.out];unfold plV;rw[if_pos rfl];exact Kz s hs u
 have HK:Hid (∀ u,I u→Calls Tryz.prog 188 #[.pointer (some ⟨g,0,none⟩),.agg L.toArray] u fun e w'=>Hid (e=.returned (.agg M.toArray)∧I w'∧Gk Ks u w')):=fun u hu=>by
  rw[HL.out,HMM.out];exact HU v u hu
 have HLN:Hid (M.length=16∧(∀ x∈M,x.oneCell'=true)):=by rw[HMM.out];exact ⟨rfl,Yh _⟩
 rw[←HV.out]
 show Calls Tryz.prog 187 #[_,_,_] w fun e w'=>Hid (e=.returned (.agg (Fd.BL (E v)).toArray)∧_)
 rw[←HMM.out]
 obtain ⟨w1,hw1⟩:∃ w1,w1=w.alloc (.cells ZZ.toArray 27):=⟨_,rfl⟩
 have hb1:Below w.heap.size w w1:=by rw[hw1];exact (Below.refl _ _).alloc (Nat.le_refl _) _
 have HB1:Hid (Bx w1 w.heap.size 27 ZZ∧Below w.heap.size w w1∧B≤w.heap.size):=by rw[hw1];exact ⟨Bx.new w 27 ZZ,(Below.refl _ _).alloc (Nat.le_refl _) _,hC.size w hI⟩
 have hpl:p<w.heap.size:=World.block_lt_of_cell? w _ hp
 have c0:w1.cell? ⟨p,0,none⟩=some (.pointer (some ⟨g,0,none⟩)):=by rw[hb1.cell hpl];exact hp
 have HID:Hid (I w1.drew∧Gk Ks w w1.drew):=⟨hC.below (hC.below hI hb1) (Below.refl _ _).drew,(Gk.of_below hb1).below (Below.refl _ _).drew⟩
 have HPK:Hid (¬ Ks p∧p<w.heap.size):=⟨hpk,hpl⟩
 clear hs hI hp hpk hb1 hpl HU
 go_enter Tryz.func187,Tryz.ntmps187
 go_upto_region 1 with fail
 rw[show w.alloc (.cells _ 27)=w1 from hw1.symm]
 clear hw1
 obtain ⟨m,HM2⟩:∃ m,Hid (w.heap.size=m):=⟨_,rfl⟩
 rw[HM2.out] at HB1 HPK ⊢
 have HNK:Hid (¬ Ks m):=hC.new HB1.out.2.2
 have HW1:Hid (m<w1.heap.size):=HB1.out.1.lt
 have hU:Tryz.prog.underlying 27=some (.array 16 5):=Tryz.underlying27
 have hiM:(Tryz.prog.info? 27).map (·.size)=some M.length:=by rw[HLN.out.1];kernel_rfl
 have hM16:M.length=16:=HLN.out.1
 have hM1:∀ v∈M,v.oneCell'=true:=HLN.out.2
 have ht1:w1.there m 0 16:=Y7 HB1.out.1 rfl
 go_region_held3 (fun u=>u.cell? ⟨p,0,none⟩=some (.pointer (some ⟨g,0,none⟩))∧u.there m 0 16) (first | exact ⟨c0,ht1⟩ | exact hS2 | exact hS3 | exact hS4 | go_keep)
  (first
   | (go_at_call 38;refine (HG.out _).mono ?_;intro e2 w2 hh;obtain ⟨rfl,hb2⟩:=hh.out;have HB2:Hid (Bx w2 m 27 ZZ∧I w2∧Gk Ks w w2):=⟨(HB1.out.1.below (Below.refl _ _).drew).below hb2,hC.below HID.out.1 hb2,HID.out.2.below hb2⟩;have hS2:w2.cell? ⟨p,0,none⟩=some (.pointer (some ⟨g,0,none⟩))∧w2.there m 0 16:=⟨(hb2.cell (by have:=HPK.out.2;have:=HW1.out;simp;omega)).trans (by simpa using c0),Y7 HB2.out.1 rfl⟩;clear hh hb2)
   | (go_at_call 188;refine (HK.out _ HB2.out.2.1).mono ?_;intro e3 w3 hh;obtain ⟨rfl,h1,h2⟩:=hh.out;have HB3:Hid (Bx w3 m 27 ZZ∧I w3∧Gk Ks w w3):=⟨HB2.out.1.gk h2 HNK.out,h1,HB2.out.2.2.trans h2⟩;have hS3:w3.cell? ⟨p,0,none⟩=some (.pointer (some ⟨g,0,none⟩))∧w3.there m 0 16:=⟨h2.cell HPK.out.1 hS2.1,Y7 HB3.out.1 rfl⟩;have hS4:=Ls hS3.1 HPK.out.2 HB3.out.1 hM16;clear hh h1 h2))
 have HB9:Hid (Bx (w3.setCells m 0 M) m 27 M∧w3.grownBy (w3.setCells m 0 M) (some m)):=⟨HB3.out.1.store M (by rw[hM16];rfl),Z5 m M 0 w3⟩
 obtain ⟨u9,hu9⟩:∃ u9,u9=w3.setCells m 0 M:=⟨_,rfl⟩
 rw[←hu9] at HB9 ⊢
 clear hu9 hS2 hS3 hS4
 go_wp2
 exact Xl (b:=m) M rfl rfl HB9.out.1.range Tryz.underlying27 rfl hiM ⟨rfl,hC.gb HB3.out.2.1 HB9.out.2 HB1.out.2.2,HB3.out.2.2.gb HB9.out.2 (by have:=HM2.out;omega)⟩
theorem Wg {B:Nat} {Ks:Nat→Prop} {I:World→Prop} (hC:Cst B Ks I) (fn:Nat) (F:Nat→Nat→BitVec 128) (h:∀ (s n:Nat) (u:World),s<18446744073709551616→n≤1024→Calls Tryz.prog fn #[.int .u64 (s:Nat),.int .i64 (n:Nat)] u fun e w'=>Hid (e=.returned (Fd.BV (F s n))∧Below u.heap.size u w')):Pc Ks I fn #[] F:=fun s n u hs hn hI=>by
 rw[Array.append_empty]
 refine (h s n u hs hn).mono fun e w' hh=>?_
 obtain ⟨rfl,hb⟩:=hh.out
 exact ⟨rfl,hC.below hI hb,Gk.of_below hb⟩
def sbN (k:Nat):Nat:=if k=10∨k=15∨k=2 then 179 else if k=11∨k=16∨k=3 then 180 else 181
def sbG (k:Nat):Nat:=if k=10∨k=15∨k=2 then 149 else if k=11∨k=16∨k=3 then 150 else 151
def sbF (k:Nat) (s n:Nat):BitVec 128:=if k=10∨k=15∨k=2 then plV false s else if k=11∨k=16∨k=3 then plV true s else Fd.rv (plV true s)
theorem St (k:Nat) (s n:Nat) (u:World) (hs:s<18446744073709551616) (hn:n≤1024):Calls Tryz.prog (sbN k) #[.int .u64 (s:Nat),.int .i64 (n:Nat)] u fun e w'=>Hid (e=.returned (Fd.BV (sbF k s n))∧Below u.heap.size u w'):=by
 unfold sbN sbF
 split
 ·exact S9 s n u hs
 ·split
  ·exact Nd s n u hs
  ·exact Nc s n u hs
theorem Gs (k:Nat):∀ args u,(callFunc (sbN k) args).run Tryz.prog u=.ok (.enter (sbN k) args) u:=by
 unfold sbN
 split
 ·exact fun args u=>Zp Tryz.func179 (by rfl) (by rfl) args u
 ·split
  ·exact fun args u=>Zp Tryz.func180 (by rfl) (by rfl) args u
  ·exact fun args u=>Zp Tryz.func181 (by rfl) (by rfl) args u
theorem Za9 (k:Nat) (p:Value) (w:World):Calls Tryz.prog (sbG k) #[p] w fun e w'=>e=.returned (fV (sbN k))∧w'=w:=by
 unfold sbN sbG
 split
 ·exact Kq p w
 ·split
  ·exact Wz p w
  ·exact Vy p w
theorem Gm:∀ i:Fin 3,∀ k:Fin 17,∀ j:Fin 52,j.1<1+17*i.1+k.1→spN j.1≠sxN i.1 k.1:=by decide +kernel
theorem Zbr (i k:Nat) (hi:i<3) (hk:k<17) (v:Value) (zs:List Int) (w:World) (hv:Zf w v zs) (hb:Zd zs) (hl:zs.length=mK k*(16+8*i)+mM k) (hP:Pow w) (hrc:RC w) (Φ:World→Nat→Value→Value→Prop) (Ψ:World→Nat→Value→Value→Value→Prop) (hΦ:Hid (∀ u u' s o x,Oc u u'→Φ u s o x→Φ u' s o x)) (hΨ:Hid (∀ u u' sh a b c,Oc u u'→Ψ u sh a b c→Ψ u' sh a b c))
  (HNB:Hid (mB k=.nilFunc→∀ u sh,Φ u sh (.slice none 0 0) .nilFunc))
  (HBG:Hid (∀ bg,mB k=fV bg→∀ B sh kv mp u,Below w.heap.size w u→w.heap.size≤B→B≤u.heap.size→ShA B u sh (sxN i k) (mS k) (16+8*i) zs kv mp (.slice none 0 0)→Calls Tryz.prog bg #[.pointer (some ⟨sh,0,none⟩)] u fun e u'=>Hid (Lc B sh (sxN i k) (mS k) (16+8*i) zs kv mp Φ u e u')))
  (HBU:Hid (∀ fv B sh kv mp ov u,(fv=.nilFunc∨∃ fn xs ys,fv=.func (.func fn) xs ys)→Φ u sh ov fv→Below w.heap.size w u→w.heap.size≤B→B≤u.heap.size→ShA B u sh (sxN i k) (mS k) (16+8*i) zs kv mp ov→(∃ n os,n≤1∧u.ownsRow B 71 1 ov n os)→Calls Tryz.prog (mU k) #[.pointer (some ⟨sh,0,none⟩),fv] u fun e u'=>Hid (Fx B sh (sxN i k) (mS k) (16+8*i) zs kv mp Ψ fv u e u'))) :
  Calls Tryz.prog 26 #[.string (sxN i k),v] w fun e w'=>Hu w (sxN i k) (mS k) (16+8*i) zs Ψ e w':=by
 have q8:16+8*i=4*(4+2*i):=by omega
 have hpos:1<w.heap.size:=World.block_lt_of_cell? w ⟨1,0,none⟩ (hrc 0 (by decide))
 have hm1:=M2 k
 have hm2:=M1 k
 have hx:mK k*(16+8*i)≤2*32:=Nat.mul_le_mul hm1 (by omega)
 have hk1:1≤mK k:=by
  have q:∀ k,k<17→1≤mK k:=by decide
  exact q k hk
 have hx2:16+8*i≤mK k*(16+8*i):=Nat.le_mul_of_pos_left _ hk1
 have hf:∀ j,j<1+17*i+k→spN j≠sxN i k:=fun j hj=>Gm ⟨i,hi⟩ ⟨k,hk⟩ ⟨j,by omega⟩ hj
 refine Ra (sxN i k) (nmB k) (16+8*i) (mK k) (mM k) (mS k) (mU k) (mB k) v zs w Φ Ψ hΦ hΨ ?_ hv hm1 (by omega) hm2 hl ?_ ?_ (Rr k hk) ?_ HNB HBG HBU
 ·rcases Tn k hk with q | ⟨bg,_,q⟩
  ·exact .inl q
  ·exact .inr ⟨bg,q⟩
 ·have q:=Dv (sxN i k) (1+17*i+k) w hP (by omega) (Q5 i k hk) hf
  rw[W5 i k hk] at q
  exact q
 ·intro u hu
  have q:=Gq (sxN i k) (nmB k) (4+2*i) (mK k) (mM k) (mS k) (mB k) (fV (mU k)) v zs u (O7 k) rfl (hv.below hu) hb (by omega) (by omega) (by omega) (hrc.belowB hu hpos) (Nat.lt_of_lt_of_le hpos hu.size)
  rw[←q8] at q
  exact q.mono fun e u' h=>h
 ·intro bg hbg
  rcases Tn k hk with q | ⟨bg',hb',q⟩
  ·rw[q] at hbg;cases hbg
  ·rw[q] at hbg
   obtain rfl:bg'=bg:=by injection hbg with e;injection e
   exact R2 bg' hb'
set_option maxHeartbeats 800000 in
set_option maxRecDepth 100000 in
theorem D4 (B sh:Nat) (S:ByteArray) (st nk:Nat) (zs:List Int) (kv:Value) (mp:Option Addr) (ov:Value) (fn:Nat) (xs ys:Array Value) (w:World) (h:ShA B w sh S st (4*nk) zs kv mp ov) (hB:B≤w.heap.size) (hfew:∃ n os,n≤1∧w.ownsRow B 71 1 ov n os)
  (hnk:nk=4∨nk=6∨nk=8) (hl:zs.length=2*(4*nk)) (hb:Zd zs) (hrc:RC w) (hpos:1<w.heap.size) :
  Calls Tryz.prog 158 #[.pointer (some ⟨sh,0,none⟩),.func (.func fn) xs ys] w fun e w'=>Hid (∃ go ov',e=.returned (.tuple #[bV 201 [.pointer (some ⟨sh,0,none⟩),.func (.func fn) xs ys,.pointer (some ⟨go,0,none⟩)],bV 202 [.pointer (some ⟨sh,0,none⟩),.func (.func fn) xs ys,.pointer (some ⟨go,0,none⟩)]])∧w.heap.size≤go∧Zr w' go (nk+6) (Zn nk (Yk (zs.drop (4*nk))))∧(∃ R:Array Value,w'.heap[go]?=some (.cells R 135 (0,0)))∧ShA B w' sh S st (4*nk) zs kv mp ov'∧Fs B sh w w'∧∀ b,b<w.heap.size→b≠sh→ov.ownBlock≠some b→w'.heap[b]?=w.heap[b]?):=by
 have HR:Hid (Calls Tryz.prog 192 #[.pointer (some ⟨sh,0,none⟩)] w fun e w'=>Hid (∃ y d,e=.returned (.slice y (zs.length-4*nk) d)∧Zf w' (.slice y (zs.length-4*nk) d) (zs.drop (4*nk))∧Below w.heap.size w w')):=Mu B sh S st (4*nk) zs kv mp ov w h (by omega)
 have hb':Zd (zs.drop (4*nk)):=fun i=>by
  rw[List.getD_eq_getElem?_getD,List.getElem?_drop,←List.getD_eq_getElem?_getD];exact hb _
 have HK:Hid (∀ u v,Below w.heap.size w u→Zf u v (zs.drop (4*nk))→Calls Tryz.prog 186 #[.pointer (some ⟨sh,0,none⟩),v] u fun e w'=>Hid (∃ g ov',e=.returned (.pointer (some ⟨g,0,none⟩))∧u.heap.size≤g∧Zr w' g (nk+6) (Zn nk (Yk (zs.drop (4*nk))))∧(∃ R:Array Value,w'.heap[g]?=some (.cells R 135 (0,0)))∧ShA B w' sh S st (4*nk) zs kv mp ov'∧(∀ n os,u.ownsRow B 71 1 ov n os→∃ os',w'.ownsRow B 71 1 ov' (n+1) os')∧Fs B sh u w'∧∀ b,b<u.heap.size→b≠sh→ov.ownBlock≠some b→w'.heap[b]?=u.heap[b]?)):=fun u v hu hv=>by
  obtain ⟨n0,os0,hn0,ho0⟩:=hfew
  exact Df B sh S st (4*nk) zs kv mp ov v (zs.drop (4*nk)) nk u (h.below hu) (Nat.le_trans hB hu.size) ⟨n0,os0,by omega,ownsRow_below ho0 hu⟩ hnk (by rw[List.length_drop];omega) hv hb' (fun i hi=>(hu.cell (p:=⟨1,i,none⟩) hpos).trans (hrc i hi)) (Nat.lt_of_lt_of_le hpos hu.size)
 have HB0:Hid (B≤w.heap.size):=hB
 clear h hfew hl hb hrc hpos hB hb'
 go_enter Tryz.func158,Tryz.ntmps158
 go_upto_region 2 with (first
  | (go_at_call 192;refine HR.out.mono ?_;intro e1 w1 hh;obtain ⟨y,d,rfl,hv1,hb1⟩:=hh.out;have HV1:Hid (Zf w1 (.slice y (zs.length-4*nk) d) (zs.drop (4*nk))∧Below w.heap.size w w1):=⟨hv1,hb1⟩;clear hh hv1 hb1)
  | (go_at_call 186;refine (HK.out _ _ HV1.out.2 HV1.out.1).mono ?_;intro e2 w2 hh;obtain ⟨go,ov',rfl,hg2,hK2,hR2,hS2,hO2,hF2,hk2⟩:=hh.out;have HS2:Hid (w1.heap.size≤go∧Zr w2 go (nk+6) (Zn nk (Yk (zs.drop (4*nk))))∧ShA B w2 sh S st (4*nk) zs kv mp ov'∧Fs B sh w1 w2∧(∃ R:Array Value,w2.heap[go]?=some (.cells R 135 (0,0)))∧∀ b,b<w1.heap.size→b≠sh→ov.ownBlock≠some b→w2.heap[b]?=w1.heap[b]?):=⟨hg2,hK2,hS2,hF2,hR2,hk2⟩;clear hh hg2 hK2 hR2 hS2 hO2 hF2 hk2))
 obtain ⟨w3,hw3⟩:∃ w3,w3=w2.alloc (.cells #[.pointer (some ⟨sh,0,none⟩),.func (.func fn) xs ys,.pointer (some ⟨go,0,none⟩)] 252):=⟨_,rfl⟩
 have HW:Hid (Bx w3 w2.heap.size 252 [.pointer (some ⟨sh,0,none⟩),.func (.func fn) xs ys,.pointer (some ⟨go,0,none⟩)]∧Below w2.heap.size w2 w3):=by rw[hw3];exact ⟨Bx.new w2 252 _,(Below.refl _ _).alloc (Nat.le_refl _) _⟩
 rw[←hw3]
 clear hw3
 have d0:w3.cell? ⟨w2.heap.size,0,none⟩=some (.pointer (some ⟨sh,0,none⟩)):=HW.out.1.cell 0 _ rfl
 have d1:w3.cell? ⟨w2.heap.size,1,none⟩=some (.func (.func fn) xs ys):=HW.out.1.cell 1 _ rfl
 have d2:w3.cell? ⟨w2.heap.size,2,none⟩=some (.pointer (some ⟨go,0,none⟩)):=HW.out.1.cell 2 _ rfl
 go_region
 all_goals go_wp2
 all_goals go_ret2
 all_goals (
  have hb:=HW.out.2.drew
  exact ⟨go,ov',rfl,Nat.le_trans HV1.out.2.size HS2.out.1,HS2.out.2.1.sameK (hb.block go HS2.out.2.1.ciph.here) hb.size,(by obtain ⟨R,hR⟩:=HS2.out.2.2.2.2.1;exact ⟨R,(hb.block go HS2.out.2.1.ciph.here).trans hR⟩),HS2.out.2.2.1.below hb,(Fs.of_below HV1.out.2 HB0.out).trans (HS2.out.2.2.2.1.trans (Fs.of_below hb (Nat.le_trans (Nat.le_trans HB0.out HV1.out.2.size) HS2.out.2.2.2.1.bel.size))),fun b h1 h2 h3=>(hb.block b (Nat.lt_of_lt_of_le (Nat.lt_of_lt_of_le h1 HV1.out.2.size) HS2.out.2.2.2.1.bel.size)).trans ((HS2.out.2.2.2.2.2 b (Nat.lt_of_lt_of_le h1 HV1.out.2.size) h2 h3).trans (HV1.out.2.block b h1))⟩)
theorem J4 (b o i j cap:Nat) (h:i<cap):sliced (some ⟨b,o,none⟩) i j cap 1=.slice (some ⟨b,o+i,none⟩) (j-i) (cap-i):=by
 unfold sliced
 rw[if_neg (by omega),Option.map_some,Addr.add_mid,Nat.mul_one]
theorem Ej {X Y:List Int} (hl:X.length=Y.length) (h:∀ i,i<X.length→X.getD i 0=Y.getD i 0):X=Y:=by
 apply List.ext_getElem hl
 intro i h1 h2
 have q:=h i h1
 rw[List.getD_eq_getElem?_getD,List.getD_eq_getElem?_getD,List.getElem?_eq_getElem h1,List.getElem?_eq_getElem h2] at q
 simpa using q
end Go.Proofs.YtehlppaidgkpaaaGreatDoor
