import Derived.Test.YtehlppaidgkpaaaGreatDoorPart45
import Derived.Test.YtehlppaidgkpaaaGreatDoorLrm
import Derived.Test.YtehlppaidgkpaaaGreatDoorPart40
import Derived.Test.YtehlppaidgkpaaaGreatDoorFdDot
namespace Go.Proofs.YtehlppaidgkpaaaGreatDoor
open Go.RowKit
set_option linter.unusedVariables false
set_option linter.unusedSimpArgs false
def lrB (nr:Nat) (K:Nat→Nat) (a:BitVec 128) (m:Nat) (x:BitVec 128):BitVec 128:=Yz nr K (x ^^^ Pw a m) ^^^ Pw a m
set_option maxHeartbeats 1600000 in
set_option maxRecDepth 100000 in
theorem M5 (g nr:Nat) (K:Nat→Nat) (sh wd:Nat) (zs:List Int) (kv:Value) (s:Nat) (b off cp k:Nat) (xs:List Int) (w:World) (hK:Zp w g nr K) (csh:w.cell? ⟨sh,4,none⟩=some (.pointer (some ⟨g,0,none⟩))) (n1:sh≠g)
  (hv:Zi w kv zs) (c2:w.cell? ⟨sh,2,none⟩=some kv) (c3:w.cell? ⟨sh,3,none⟩=some (.int .i64 (wd:Nat))) (hwd:wd+16≤zs.length) (hzl:zs.length≤1000) (hs:s<18446744073709551616) (hzb:Zg zs)
  (hl:xs.length=16*k) (hk:k≤64) (hc1:xs.length≤cp) (hb:Zg xs) (hbg:b≠g) (hz:∀ i,i<xs.length→w.cell? ⟨b,off+i,none⟩=some (.int .u8 (xs.getD i 0))) :
  Calls Tryz.prog 203 #[.agg #[.pointer (some ⟨sh,0,none⟩),.func (.func 183) #[] #[]],.int .u64 (s:Nat),.slice (some ⟨b,off,none⟩) xs.length cp] w fun e w'=>Hid (∃ x,e=.returned (.slice (some ⟨x,0,none⟩) xs.length xs.length)∧w.heap.size≤x∧Bx w' x 5 (bkL (fun j=>lrB nr K (cutV (zs.drop wd) 0) (s*k+1+j) (cutV xs j)) k)∧Zp w' g nr K∧w.grownBy w' (some g)):=by
 obtain ⟨w1,hw1⟩:∃ w1,w1=w.alloc (.cells #[.pointer (some ⟨sh,0,none⟩),.func (.func 183) #[] #[]] 253):=⟨_,rfl⟩
 have hgl:g<w.heap.size:=hK.ciph.here
 have hb1:Below w.heap.size w w1:=by rw[hw1];exact (Below.refl _ _).alloc (Nat.le_refl _) _
 have hB1:Bx w1 w.heap.size 253 [.pointer (some ⟨sh,0,none⟩),.func (.func 183) #[] #[]]:=by rw[hw1];exact Bx.new w 253 [.pointer (some ⟨sh,0,none⟩),.func (.func 183) #[] #[]]
 obtain ⟨f,Hf⟩:∃ f:Nat→BitVec 128,Hid (f=fun j=>Pw (cutV (zs.drop wd) 0) (s*k+1+j)):=⟨_,rfl⟩
 obtain ⟨Y,HY⟩:∃ Y,Hid (Y=bkL (fun j=>lrB nr K (cutV (zs.drop wd) 0) (s*k+1+j) (cutV xs j)) k):=⟨_,rfl⟩
 obtain ⟨N,HNL⟩:∃ n,Hid (xs.length=n):=⟨_,rfl⟩
 have HM:Hid (∀ u,Below w.heap.size w u→Calls Tryz.prog 231 #[.agg #[.pointer (some ⟨sh,0,none⟩),.func (.func 183) #[] #[]],.int .u64 (s:Nat),.int .i64 (N:Nat)] u fun e w'=>Hid (∃ x,e=.returned (.slice (some ⟨x,0,none⟩) k k)∧u.heap.size≤x∧Bx w' x 27 (bkL f k)∧Below u.heap.size u w')):=fun u hu=>by
  have cc:∀ o x,w.cell? ⟨sh,o,none⟩=some x→u.cell? ⟨sh,o,none⟩=some x:=fun o x hx=>(hu.cell (World.block_lt_of_cell? w _ hx)).trans hx
  have q:=Pz sh wd zs kv s N k u (hv.below hu) (cc _ _ c2) (cc _ _ c3) hwd hzl (by rw[←HNL.out];exact hl) hk hs hzb
  rw[←Hf.out] at q
  exact q
 have HD:Hid (∀ u r,Below w.heap.size w u→w.heap.size≤r→Bx u r 27 (bkL f k)→Calls Tryz.prog 229 #[.slice (some ⟨b,off,none⟩) N cp,.slice (some ⟨r,0,none⟩) k k,.func (.func 190) #[.pointer (some ⟨sh,0,none⟩)] #[]] u fun e w'=>Hid (∃ x,e=.returned (.slice (some ⟨x,0,none⟩) N N)∧u.heap.size≤x∧Bx w' x 5 Y∧Zp w' g nr K∧u.grownBy w' (some g))):=fun u r hu hr hx=>by
  have cc:∀ b o x,w.cell? ⟨b,o,none⟩=some x→u.cell? ⟨b,o,none⟩=some x:=fun b o x hx=>(hu.cell (World.block_lt_of_cell? w _ hx)).trans hx
  have q:=Ti g nr K sh r k k f b off cp k xs u (hK.below hu hgl) (cc _ _ _ csh) (fun j hj i x hx'=>?_) n1 (by omega) (Nat.le_refl _) hl (Nat.le_refl _) hk hc1 hb hbg (fun i hi=>cc _ _ _ (hz i hi))
  ·rw[HNL.out] at q
   rw[HY.out]
   rw[Hf.out] at q
   exact q
  ·have hi:i<16:=by have:=(List.getElem?_eq_some_iff.1 hx').1;rw[Fd.Zq] at this;exact this
   rw[Fd.Qc _ i hi] at hx'
   have e:=Bg f k j i hj hi
   rw[hx'] at e
   rw[show 0+j*16+i=16*j+i by omega]
   exact hx.cell _ _ e
 rw[HNL.out,←HY.out]
 have HW1:Hid (Below w.heap.size w w1∧Bx w1 w.heap.size 253 [.pointer (some ⟨sh,0,none⟩),.func (.func 183) #[] #[]]∧g<w.heap.size):=⟨hb1,hB1,hgl⟩
 clear hK csh n1 hv c2 c3 hwd hzl hs hzb hl hk hc1 hb hbg hz hgl hb1 hB1
 go_enter Tryz.func203,Tryz.ntmps203
 go_upto_region 1 with fail
 rw[←hw1]
 clear hw1
 obtain ⟨M,HMM⟩:∃ M,Hid (w.heap.size=M):=⟨_,rfl⟩
 rw[HMM.out] at HW1 HM HD ⊢
 have c0:w1.cell? ⟨M,0,none⟩=some (.pointer (some ⟨sh,0,none⟩)):=HW1.out.2.1.cell 0 _ rfl
 have c1:w1.cell? ⟨M,1,none⟩=some (.func (.func 183) #[] #[]):=HW1.out.2.1.cell 1 _ rfl
 have HS1:Hid (M+1≤w1.heap.size):=HW1.out.2.1.lt
 have HWD:Hid (Below M w w1.drew):=HW1.out.1.trans (((Below.refl w1.heap.size w1).drew).mono (Nat.le_of_succ_le HS1.out))
 have HDL:Hid (∀ r,w1.drew.heap.size≤r→M≤r):=fun r hr=>by have:=HS1.out;simp at hr;omega
 go_region_held3 (fun u=>u.cell? ⟨M,0,none⟩=some (.pointer (some ⟨sh,0,none⟩))∧u.cell? ⟨M,1,none⟩=some (.func (.func 183) #[] #[])) (first | exact ⟨c0,c1⟩ | exact hS2 | exact hS3 | go_keep) (first
  | (go_at_call 231;refine (HM.out _ HWD.out).mono ?_;intro e2 w2 hh;obtain ⟨r,rfl,hr,hx,hb2⟩:=hh.out;have hbw:Below w1.heap.size w1 w2:=(Below.refl w1.heap.size w1).drew.trans hb2;have hS2:w2.cell? ⟨M,0,none⟩=some (.pointer (some ⟨sh,0,none⟩))∧w2.cell? ⟨M,1,none⟩=some (.func (.func 183) #[] #[]):=⟨(hbw.cell (World.block_lt_of_cell? w1 _ c0)).trans c0,(hbw.cell (World.block_lt_of_cell? w1 _ c1)).trans c1⟩;clear hbw;have HB2:Hid (M≤r∧Bx w2 r 27 (bkL f k)∧Below M w w2):=⟨HDL.out _ hr,hx,HW1.out.1.trans (((Below.refl w1.heap.size w1).drew.trans hb2).mono (Nat.le_of_succ_le HS1.out))⟩;clear hh hr hx hb2)
  | (go_at_call 229;refine (HD.out _ r HB2.out.2.2 HB2.out.1 HB2.out.2.1).mono ?_;intro e3 w3 hh;obtain ⟨z,rfl,h1,h2,h3,h4⟩:=hh.out;have HX:Hid (w2.heap.size≤z∧Bx w3 z 5 Y∧Zp w3 g nr K∧w2.grownBy w3 (some g)):=⟨h1,h2,h3,h4⟩;have hS3:w3.cell? ⟨M,0,none⟩=some (.pointer (some ⟨sh,0,none⟩))∧w3.cell? ⟨M,1,none⟩=some (.func (.func 183) #[] #[]):=⟨(World.cell?_of_block (a:=⟨M,0,none⟩) (h4.block M (World.block_lt_of_cell? w2 _ hS2.1) (fun e=>by injection e with e;have:=HW1.out.2.2;omega))).trans hS2.1,(World.cell?_of_block (a:=⟨M,1,none⟩) (h4.block M (World.block_lt_of_cell? w2 _ hS2.2) (fun e=>by injection e with e;have:=HW1.out.2.2;omega))).trans hS2.2⟩;clear hh h1 h2 h3 h4))
 all_goals (
  (try go_wp2)
  go_ret
  obtain ⟨y1,y2,y3,y4⟩:=HX.out
  obtain ⟨z1,z2,z3⟩:=HB2.out
  exact ⟨z,rfl,by have:=z3.size;have:=HMM.out;omega,y2,y3,⟨y4.os.trans z3.os,y4.tape.trans z3.tape,y4.output.trans z3.output,Nat.le_trans z3.size y4.size,fun i hi hn=>(y4.block i (Nat.lt_of_lt_of_le hi z3.size) hn).trans (z3.block i (by rw[←HMM.out];exact hi))⟩⟩)
theorem Fr (F G:Nat→Nat):∀ n,(∀ i,i<n→F i=G i)→Fd.pk F n=Fd.pk G n
 | 0,_=>rfl
 | n+1,h=>by rw[Fd.pk,Fd.pk,Fr F G n (fun i hi=>h i (by omega)),h n (by omega)]
def bkZ (F:Nat→BitVec 128) (n k:Nat):List Int:=(List.range n).map fun i=>if i<16*k then ((Fd.byV (F (i/16)) (i%16):Nat):Int) else 0
theorem Xq (F:Nat→BitVec 128) (n k:Nat):(bkZ F n k).length=n:=by simp [bkZ]
theorem Q8 (F:Nat→BitVec 128) (n k i:Nat) (hi:i<n):(bkZ F n k).getD i 0=if i<16*k then ((Fd.byV (F (i/16)) (i%16):Nat):Int) else 0:=by
 rw[List.getD_eq_getElem?_getD,bkZ,List.getElem?_map,List.getElem?_range hi];rfl
theorem T3 (F:Nat→BitVec 128) (n k:Nat):Zg (bkZ F n k):=fun i=>by
 by_cases hi:i<n
 ·rw[Q8 F n k i hi];split
  ·have:=Fd.Qx (F (i/16)) (i%16);omega
  ·omega
 ·rw[List.getD_eq_getElem?_getD,List.getElem?_eq_none (by rw[Xq];omega)];simp
theorem Iq (F:Nat→BitVec 128) (n k i:Nat) (hk:16*k≤n) (hi:i<n):(bkR F n k)[i]?=some (.int .u8 ((bkZ F n k).getD i 0)):=by
 rw[Q8 F n k i hi,bkR]
 by_cases h:i<16*k
 ·rw[if_pos h,List.getElem?_append_left (by rw[Zu];exact h)]
  have q:=Bg F k (i/16) (i%16) (by omega) (by omega)
  rw[show 16*(i/16)+i%16=i by omega] at q
  exact q
 ·rw[if_neg h,List.getElem?_append_right (by rw[Zu];omega),Zu,List.getElem?_replicate,if_pos (by omega)]
theorem Sc {zs:List Int} {j:Nat} {v:BitVec 128} (h:∀ i,i<16→zs.getD (16*j+i) 0=((Fd.byV v i:Nat):Int)):cutV zs j=v:=by
 have e:cutV zs j=BitVec.ofNat 128 (Fd.pk (fun i=>Fd.byV v i) 16):=by
  unfold cutV
  rw[Fr _ (fun i=>Fd.byV v i) 16 fun i hi=>by unfold Y4;rw[h i hi];simp]
 rw[e]
 apply Fd.Ji
 intro i hi
 exact Fd.Vm _ (fun i=>Fd.Qx v i) i hi
theorem Ex (F:Nat→BitVec 128) (n k j:Nat) (hk:16*k≤n) (hj:j<k):cutV (bkZ F n k) j=F j:=Sc fun i hi=>by
 rw[Q8 F n k _ (by omega),if_pos (by omega),show (16*j+i)/16=j by omega,show (16*j+i)%16=i by omega]
def stB (zs:List Int) (k r:Nat) (q:BitVec 128):BitVec 128:=BitVec.ofNat 128 (Fd.pk (fun i=>if i<r then Y4 zs (16*k+i) else Fd.byV q i) 16)
theorem Zb4 {zs:List Int} (hb:Zg zs) (k r:Nat) (q:BitVec 128) (i:Nat) (hi:i<16):Fd.byV (stB zs k r q) i=if i<r then Y4 zs (16*k+i) else Fd.byV q i:=by
 rw[stB,Fd.Vm _ (fun i=>by split;exact V6 hb _;exact Fd.Qx _ _) i hi]
theorem Su {zs:List Int} (hb:Zg zs) (k r:Nat) (q:BitVec 128) (hl:zs.length=16*k+r) (hr:r<16):splice (Fd.BL q) 0 (Za (zs.drop (16*k)))=Fd.BL (stB zs k r q):=by
 have hlen:(Za (zs.drop (16*k))).length=r:=by simp [Za];omega
 apply List.ext_getElem?
 intro i
 by_cases hi:i<16
 ·rw[Fd.Qc _ i hi,Zb4 hb k r q i hi]
  simp only[splice,List.take_zero,List.nil_append,hlen,Nat.zero_add]
  by_cases h:i<r
  ·rw[if_pos h,List.getElem?_append_left (by omega)]
   have:i+16*k<zs.length:=by omega
   simp [Za,List.getElem?_drop,List.getElem?_eq_getElem (show 16*k+i<zs.length by omega)]
   have q:=Gz hb (16*k+i)
   rw[List.getD_eq_getElem?_getD,List.getElem?_eq_getElem (show 16*k+i<zs.length by omega)] at q
   simpa using q.symm
  ·rw[if_neg h,List.getElem?_append_right (by omega),hlen,List.getElem?_drop,show r+(i-r)=i by omega,Fd.Qc _ i hi]
 ·have hl16:(splice (Fd.BL q) 0 (Za (zs.drop (16*k)))).length=16:=by
   simp only[splice,List.take_zero,List.nil_append,List.length_append,List.length_drop,hlen,Fd.Zq]
   omega
  rw[List.getElem?_eq_none (by rw[hl16];omega),List.getElem?_eq_none (by rw[Fd.Zq];omega)]
def Gm (E:BitVec 128→BitVec 128) (f:Nat→BitVec 128) (zs:List Int) (j:Nat):BitVec 128:=E (cutV zs j ^^^ f j) ^^^ f j
def Pv (E:BitVec 128→BitVec 128) (f:Nat→BitVec 128) (zs:List Int) (k:Nat):BitVec 128:=E (stB zs k (zs.length-16*k) (Gm E f zs (k-1)) ^^^ f k) ^^^ f k
def Gl (E:BitVec 128→BitVec 128) (f:Nat→BitVec 128) (zs:List Int) (k:Nat):List Value:=
 if zs.length=16*k then bkL (Gm E f zs) k else splice (bkL (Gm E f zs) k++(Fd.BL (Gm E f zs (k-1))).take (zs.length-16*k)) (16*(k-1)) (Fd.BL (Pv E f zs k))
structure Ot (w u:World):Prop where
 os:u.os=w.os
 tape:u.tape=w.tape
 output:u.output=w.output
 size:w.heap.size≤u.heap.size
theorem Ot.of_bwi {J:Nat→World→Prop} {F:Nat→BitVec 128} {n:Nat} {w u:World} {k:Nat} (h:BwI J F n w u k):Ot w u:=⟨h.os,h.tape,h.output,h.size⟩
theorem Ot.below {w u v:World} {B:Nat} (h:Ot w u) (hb:Below B u v):Ot w v:=⟨hb.os.trans h.os,hb.tape.trans h.tape,hb.output.trans h.output,Nat.le_trans h.size hb.size⟩
theorem Ot.gb {w u v:World} {g:Option Nat} (h:Ot w u) (hb:u.grownBy v g):Ot w v:=⟨hb.os.trans h.os,hb.tape.trans h.tape,hb.output.trans h.output,Nat.le_trans h.size hb.size⟩
theorem Ot.gk {w u v:World} {Ks:Nat→Prop} (h:Ot w u) (hb:Gk Ks u v):Ot w v:=⟨hb.os.trans h.os,hb.tape.trans h.tape,hb.output.trans h.output,Nat.le_trans h.size hb.size⟩
def MdJ (Ks:Nat→Prop) (I:World→Prop) (fn sh p q r n c:Nat) (f:Nat→BitVec 128) (b off:Nat) (zs:List Int) (w1:World) (_:Nat) (u:World):Prop:=
 MkX Ks I fn sh p q r 0 n c f u∧(∀ i,i<zs.length→u.cell? ⟨b,off+i,none⟩=some (.int .u8 (zs.getD i 0)))∧(∀ c,c<w1.heap.size→¬ Ks c→u.heap[c]?=w1.heap[c]?)
theorem MdJ.low {B B1:Nat} {Ks:Nat→Prop} {I:World→Prop} (hC:Cst B Ks I) (hB:B≤B1) {fn sh p q r n c:Nat} {f:Nat→BitVec 128} {b off:Nat} {zs:List Int} {w1:World} (hs:w1.heap.size=B1) (hp:p<B1) (hq:q<B1) (hr:r<B1) (hb:b<B1):Dj B1 (MdJ Ks I fn sh p q r n c f b off zs w1):=by
 intro k u u' h hz hk hsz
 obtain ⟨h1,h2,h3⟩:=h
 have cc:∀ b o x,b<B1→u.cell? ⟨b,o,none⟩=some x→u'.cell? ⟨b,o,none⟩=some x:=fun b o x hb hx=>by
  rw[World.cell?_of_block (a:=⟨b,o,none⟩) (hk b hb)];exact hx
 refine ⟨⟨hC.stay u u' h1.inv (fun c hc=>hk c (by omega)) hsz,cc _ _ _ hp h1.cp,cc _ _ _ hq h1.cq,fun j hj i x hx=>cc _ _ _ hr (h1.rg j hj i x hx),h1.n2,h1.n3,h1.n4⟩,fun i hi=>cc _ _ _ hb (h2 i hi),?_⟩
 exact fun c hc hn=>(hk c (by omega)).trans (h3 c hc hn)
set_option maxHeartbeats 3200000 in
set_option maxRecDepth 100000 in
theorem Dc {B:Nat} {Ks:Nat→Prop} {I:World→Prop} (hC:Cst B Ks I) (fn sh:Nat) (hE:∀ args u,(callFunc fn args).run Tryz.prog u=.ok (.enter fn args) u) (E:BitVec 128→BitVec 128) (r n c:Nat) (f:Nat→BitVec 128) (b off cp k:Nat) (zs:List Int) (w:World) (hI:I w) (HDO:DoI Ks I fn (.pointer (some ⟨sh,0,none⟩)) E) (rg:∀ j,j<n→w.rangeAt r (0+j*16) (Fd.BL (f j))) (n4:¬ Ks r) (hnc:n≤c)
  (hk0:0<k) (hl:zs.length=16*k) (hl3:zs.length≤4096) (hkn:zs.length≤16*n) (hc1:zs.length≤cp) (hb:Zg zs) (hbg:¬ Ks b) (hz:∀ i,i<zs.length→w.cell? ⟨b,off+i,none⟩=some (.int .u8 (zs.getD i 0))) :
  Calls Tryz.prog 229 #[.slice (some ⟨b,off,none⟩) zs.length cp,.slice (some ⟨r,0,none⟩) n c,.func (.func fn) #[.pointer (some ⟨sh,0,none⟩)] #[]] w fun e w'=>Hid (∃ x,e=.returned (.slice (some ⟨x,0,none⟩) zs.length zs.length)∧w.heap.size≤x∧Bx w' x 5 (Gl E f zs k)∧I w'∧Gk Ks w w'):=by
 obtain ⟨w1,hw1⟩:∃ w1,w1=(w.alloc (.cells #[.slice (some ⟨r,0,none⟩) n c] 237)).alloc (.cells #[.func (.func fn) #[.pointer (some ⟨sh,0,none⟩)] #[]] 52):=⟨_,rfl⟩
 have hBw:B≤w.heap.size:=hC.size w hI
 have hb1:Below w.heap.size w w1:=by rw[hw1];exact ((Below.refl _ _).alloc (Nat.le_refl _) _).alloc (by simp) _
 have hs1:w1.heap.size=w.heap.size+2:=by rw[hw1];simp
 have cc:∀ b o x,w.cell? ⟨b,o,none⟩=some x→w1.cell? ⟨b,o,none⟩=some x:=fun b o x hx=>(hb1.cell (World.block_lt_of_cell? w _ hx)).trans hx
 have HM:Hid (MkX Ks I fn sh (w.heap.size+1) w.heap.size r 0 n c f w1):=by
  have c2:Bx w1 w.heap.size 237 [.slice (some ⟨r,0,none⟩) n c]:=by rw[hw1];exact (Bx.new w 237 [.slice (some ⟨r,0,none⟩) n c]).below ((Below.refl _ _).alloc (Nat.le_refl _) _)
  have c3:Bx w1 (w.heap.size+1) 52 [.func (.func fn) #[.pointer (some ⟨sh,0,none⟩)] #[]]:=by rw[hw1];have q:=Bx.new (w.alloc (.cells #[.slice (some ⟨r,0,none⟩) n c] 237)) 52 [.func (.func fn) #[.pointer (some ⟨sh,0,none⟩)] #[]];simpa using q
  exact ⟨hC.below hI hb1,c3.cell 0 _ rfl,c2.cell 0 _ rfl,fun j hj i x hx=>cc _ _ _ (rg j hj i x hx),hC.new (by omega),hC.new hBw,n4⟩
 have hrl:r<w.heap.size:=World.block_lt_of_cell? w _ (rg 0 (by omega) 0 _ (Fd.Qc _ 0 (by decide)))
 have hbl:b<w.heap.size:=World.block_lt_of_cell? w _ (hz 0 (by omega))
 obtain ⟨J,HJ⟩:∃ J,Hid (J=MdJ Ks I fn sh (w.heap.size+1) w.heap.size r n c f b off zs w1):=⟨_,rfl⟩
 have hLow:Dj w1.heap.size J:=by rw[HJ.out];exact MdJ.low hC (by omega) rfl (by omega) (by omega) (by omega) (by omega)
 have hJ0:J 0 w1:=by rw[HJ.out];exact ⟨HM.out,fun i hi=>cc _ _ _ (hz i hi),fun _ _ _=>rfl⟩
 obtain ⟨F,HF⟩:∃ F,Hid (F=Gm E f zs):=⟨_,rfl⟩
 have HK:Hid (∀ j v u,j<n→J 0 u→w1.heap.size≤u.heap.size→Calls Tryz.prog 243 #[.int .i64 (j:Nat),Fd.BV v,.pointer (some ⟨w.heap.size+1,0,none⟩),.pointer (some ⟨w.heap.size,0,none⟩)] u fun e w'=>Hid (e=.returned (Fd.BV (E (v ^^^ f j) ^^^ f j))∧J 0 w'∧Gk Ks u w')):=fun j v u hj hu hsz=>by
  rw[HJ.out] at hu ⊢
  obtain ⟨h1,h2,h3⟩:=hu
  refine (Na hC fn sh _ _ r 0 n c j hE E f v u HDO h1 hj hnc).mono ?_
  intro e w' hh
  obtain ⟨rfl,k1,k2⟩:=hh.out
  exact ⟨rfl,⟨k1,fun i hi=>k2.cell hbg (h2 i hi),fun c hc hn=>(k2.block c (by omega) hn).trans (h3 c hc hn)⟩,k2⟩
 have hJc:∀ j u,J j u→J 0 u:=fun j u h=>by rw[HJ.out] at h ⊢;exact h
 have hJd:∀ j u,J 0 u→J j u:=fun j u h=>by rw[HJ.out] at h ⊢;exact h
 have HB:Hid (Calls Tryz.prog 211 #[.slice (some ⟨b,off,none⟩) zs.length cp,.func (.func 243) #[] #[.pointer (some ⟨w.heap.size+1,0,none⟩),.pointer (some ⟨w.heap.size,0,none⟩)]] w1 fun e w'=>Hid (e=.returned (.slice (some ⟨w1.heap.size,0,none⟩) zs.length zs.length)∧BwI J F zs.length w1 w' k)):=by
  refine Hj 243 (w.heap.size+1) w.heap.size (fun args w=>Zr Tryz.func243 (by rfl) (by rfl) args w) J F b off cp k zs w1 hLow hJ0 (by omega) (by omega) hl3 hc1 hb (fun j u h i hi=>by rw[HJ.out] at h;exact h.2.1 i hi) (fun j u hj h hsz=>?_)
  refine (HK.out j (cutV zs j) u (by omega) (hJc j u h) hsz).mono ?_
  intro e w' hh
  obtain ⟨rfl,k1,k2⟩:=hh.out
  exact ⟨by rw[HF.out];rfl,hJd _ _ k1,Kp.of_gk k2 (fun c hc=>by have:=hC.low c hc;omega)⟩
 have HEQ:Hid (zs.length=16*k):=hl
 obtain ⟨N,HNL⟩:∃ n,Hid (zs.length=n):=⟨_,rfl⟩
 have HN:Hid (N<16*k+16∧16*k≤N∧N≤cp∧N≤4096∧0<k∧N≤16*n):=by rw[←HNL.out];exact ⟨by omega,by omega,hc1,hl3,hk0,hkn⟩
 rw[HNL.out] at HB ⊢
 obtain ⟨Y,HY⟩:∃ Y,Hid (Y=Gl E f zs k):=⟨_,rfl⟩
 rw[←HY.out]
 have q1:(N:Int).tdiv 16=(k:Int):=by rw[Int.tdiv_eq_ediv_of_nonneg (by omega)];have:=HN.out;omega
 have q3:IntKind.i64.wrap (k:Int)=(k:Int):=by rw[IntKind.wrap_i64];have:=HN.out;omega
 have q4:(N:Int)/16=(k:Int):=by have:=HN.out;omega
 have HJF:Hid (∀ u,BwI J F N w1 u k→I u∧Gk Ks w u):=fun u hu=>by
  have h:=hu.inv
  rw[HJ.out] at h
  refine ⟨h.1.inv,⟨hu.os.trans hb1.os,hu.tape.trans hb1.tape,hu.output.trans hb1.output,Nat.le_trans hb1.size hu.size,fun c hc hn=>(h.2.2 c (by omega) hn).trans (hb1.block c hc)⟩⟩
 have q5:IntKind.i64.wrap ((k:Int)*16)=(N:Int):=by rw[IntKind.wrap_i64];have:=HEQ.out;have:=HNL.out;omega
 obtain ⟨y,d,hsl⟩:∃ y d,sliced (some ⟨b,off,none⟩) N N cp 1=.slice y 0 d:=⟨_,_,by unfold sliced;rw[Nat.sub_self]⟩
 have hS:∀ u:World,(Instr.slice 22 (.slice (some ⟨b,off,none⟩) N cp) (some (.int .i64 (N:Nat))) none none).run Tryz.prog u=.ok (.slice y 0 d) u:=fun u=>by
  rw[Ku u (some ⟨b,off,none⟩) N cp N (Nat.le_refl _) HN.out.2.2.1,hsl]
 have HYF:Hid (Y=bkR F N k):=by
  show _=_
  rw[HY.out,Gl,if_pos HEQ.out,HF.out,G9 _ N k (by rw[←HNL.out];exact HEQ.out)]
 clear hsl hI HDO rg n4 hnc hk0 hl hl3 hkn hc1 hb hbg hz hb1 cc HM hrl hbl hLow hJ0 hJc hJd HK hBw
 go_enter Tryz.func229,Tryz.ntmps229
 go_upto_region 2 with fail
 rw[←hw1]
 clear hw1
 go_wp2_with (first
  | (go_at_call 211;refine HB.out.mono ?_;intro e2 w2 hh;obtain ⟨rfl,h2⟩:=hh.out;have HX:Hid (BwI J F N w1 w2 k):=h2;clear hh h2 HB))
 go_ret
 refine ⟨_,rfl,by omega,?_,(HJF.out _ HX.out).1,(HJF.out _ HX.out).2⟩
 have z:=HX.out.row
 rw[hs1,←HYF.out] at z
 exact z
set_option maxHeartbeats 3200000 in
set_option maxRecDepth 100000 in
theorem Cz {B:Nat} {Ks:Nat→Prop} {I:World→Prop} (hC:Cst B Ks I) (fn sh:Nat) (hE:∀ args u,(callFunc fn args).run Tryz.prog u=.ok (.enter fn args) u) (E:BitVec 128→BitVec 128) (r n c:Nat) (f:Nat→BitVec 128) (b off cp k:Nat) (zs:List Int) (w:World) (hI:I w) (HDO:DoI Ks I fn (.pointer (some ⟨sh,0,none⟩)) E) (rg:∀ j,j<n→w.rangeAt r (0+j*16) (Fd.BL (f j))) (n4:¬ Ks r) (hnc:n≤c)
  (hk0:0<k) (hl1:16*k<zs.length) (hl2:zs.length<16*k+16) (hl3:zs.length≤4096) (hkn:zs.length≤16*n) (hc1:zs.length≤cp) (hb:Zg zs) (hbg:¬ Ks b) (hz:∀ i,i<zs.length→w.cell? ⟨b,off+i,none⟩=some (.int .u8 (zs.getD i 0))) :
  Calls Tryz.prog 229 #[.slice (some ⟨b,off,none⟩) zs.length cp,.slice (some ⟨r,0,none⟩) n c,.func (.func fn) #[.pointer (some ⟨sh,0,none⟩)] #[]] w fun e w'=>Hid (∃ x,e=.returned (.slice (some ⟨x,0,none⟩) zs.length zs.length)∧w.heap.size≤x∧Bx w' x 5 (Gl E f zs k)∧I w'∧Gk Ks w w'):=by
 obtain ⟨w1,hw1⟩:∃ w1,w1=(w.alloc (.cells #[.slice (some ⟨r,0,none⟩) n c] 237)).alloc (.cells #[.func (.func fn) #[.pointer (some ⟨sh,0,none⟩)] #[]] 52):=⟨_,rfl⟩
 have hBw:B≤w.heap.size:=hC.size w hI
 have hb1:Below w.heap.size w w1:=by rw[hw1];exact ((Below.refl _ _).alloc (Nat.le_refl _) _).alloc (by simp) _
 have hs1:w1.heap.size=w.heap.size+2:=by rw[hw1];simp
 have cc:∀ b o x,w.cell? ⟨b,o,none⟩=some x→w1.cell? ⟨b,o,none⟩=some x:=fun b o x hx=>(hb1.cell (World.block_lt_of_cell? w _ hx)).trans hx
 have HM:Hid (MkX Ks I fn sh (w.heap.size+1) w.heap.size r 0 n c f w1):=by
  have c2:Bx w1 w.heap.size 237 [.slice (some ⟨r,0,none⟩) n c]:=by rw[hw1];exact (Bx.new w 237 [.slice (some ⟨r,0,none⟩) n c]).below ((Below.refl _ _).alloc (Nat.le_refl _) _)
  have c3:Bx w1 (w.heap.size+1) 52 [.func (.func fn) #[.pointer (some ⟨sh,0,none⟩)] #[]]:=by rw[hw1];have q:=Bx.new (w.alloc (.cells #[.slice (some ⟨r,0,none⟩) n c] 237)) 52 [.func (.func fn) #[.pointer (some ⟨sh,0,none⟩)] #[]];simpa using q
  exact ⟨hC.below hI hb1,c3.cell 0 _ rfl,c2.cell 0 _ rfl,fun j hj i x hx=>cc _ _ _ (rg j hj i x hx),hC.new (by omega),hC.new hBw,n4⟩
 have hrl:r<w.heap.size:=World.block_lt_of_cell? w _ (rg 0 (by omega) 0 _ (Fd.Qc _ 0 (by decide)))
 have hbl:b<w.heap.size:=World.block_lt_of_cell? w _ (hz 0 (by omega))
 obtain ⟨J,HJ⟩:∃ J,Hid (J=MdJ Ks I fn sh (w.heap.size+1) w.heap.size r n c f b off zs w1):=⟨_,rfl⟩
 have hLow:Dj w1.heap.size J:=by rw[HJ.out];exact MdJ.low hC (by omega) rfl (by omega) (by omega) (by omega) (by omega)
 have hJ0:J 0 w1:=by rw[HJ.out];exact ⟨HM.out,fun i hi=>cc _ _ _ (hz i hi),fun _ _ _=>rfl⟩
 obtain ⟨F,HF⟩:∃ F,Hid (F=Gm E f zs):=⟨_,rfl⟩
 have HK:Hid (∀ j v u,j<n→J 0 u→w1.heap.size≤u.heap.size→Calls Tryz.prog 243 #[.int .i64 (j:Nat),Fd.BV v,.pointer (some ⟨w.heap.size+1,0,none⟩),.pointer (some ⟨w.heap.size,0,none⟩)] u fun e w'=>Hid (e=.returned (Fd.BV (E (v ^^^ f j) ^^^ f j))∧J 0 w'∧Gk Ks u w')):=fun j v u hj hu hsz=>by
  rw[HJ.out] at hu ⊢
  obtain ⟨h1,h2,h3⟩:=hu
  refine (Na hC fn sh _ _ r 0 n c j hE E f v u HDO h1 hj hnc).mono ?_
  intro e w' hh
  obtain ⟨rfl,k1,k2⟩:=hh.out
  exact ⟨rfl,⟨k1,fun i hi=>k2.cell hbg (h2 i hi),fun c hc hn=>(k2.block c (by omega) hn).trans (h3 c hc hn)⟩,k2⟩
 have hJc:∀ j u,J j u→J 0 u:=fun j u h=>by rw[HJ.out] at h ⊢;exact h
 have hJd:∀ j u,J 0 u→J j u:=fun j u h=>by rw[HJ.out] at h ⊢;exact h
 have HB:Hid (Calls Tryz.prog 211 #[.slice (some ⟨b,off,none⟩) zs.length cp,.func (.func 243) #[] #[.pointer (some ⟨w.heap.size+1,0,none⟩),.pointer (some ⟨w.heap.size,0,none⟩)]] w1 fun e w'=>Hid (e=.returned (.slice (some ⟨w1.heap.size,0,none⟩) zs.length zs.length)∧BwI J F zs.length w1 w' k)):=by
  refine Hj 243 (w.heap.size+1) w.heap.size (fun args w=>Zr Tryz.func243 (by rfl) (by rfl) args w) J F b off cp k zs w1 hLow hJ0 (by omega) (by omega) hl3 hc1 hb (fun j u h i hi=>by rw[HJ.out] at h;exact h.2.1 i hi) (fun j u hj h hsz=>?_)
  refine (HK.out j (cutV zs j) u (by omega) (hJc j u h) hsz).mono ?_
  intro e w' hh
  obtain ⟨rfl,k1,k2⟩:=hh.out
  exact ⟨by rw[HF.out];rfl,hJd _ _ k1,Kp.of_gk k2 (fun c hc=>by have:=hC.low c hc;omega)⟩
 have HEQ:Hid (¬ zs.length=16*k):=(by omega:¬ zs.length=16*k)
 obtain ⟨N,HNL⟩:∃ n,Hid (zs.length=n):=⟨_,rfl⟩
 have HN:Hid (N<16*k+16∧16*k≤N∧N≤cp∧N≤4096∧0<k∧N≤16*n):=by rw[←HNL.out];exact ⟨by omega,by omega,hc1,hl3,hk0,hkn⟩
 rw[HNL.out] at HB ⊢
 obtain ⟨Y,HY⟩:∃ Y,Hid (Y=Gl E f zs k):=⟨_,rfl⟩
 rw[←HY.out]
 have q1:(N:Int).tdiv 16=(k:Int):=by rw[Int.tdiv_eq_ediv_of_nonneg (by omega)];have:=HN.out;omega
 have q3:IntKind.i64.wrap (k:Int)=(k:Int):=by rw[IntKind.wrap_i64];have:=HN.out;omega
 have q4:(N:Int)/16=(k:Int):=by have:=HN.out;omega
 have HJF:Hid (∀ u,BwI J F N w1 u k→I u∧Gk Ks w u):=fun u hu=>by
  have h:=hu.inv
  rw[HJ.out] at h
  refine ⟨h.1.inv,⟨hu.os.trans hb1.os,hu.tape.trans hb1.tape,hu.output.trans hb1.output,Nat.le_trans hb1.size hu.size,fun c hc hn=>(h.2.2 c (by omega) hn).trans (hb1.block c hc)⟩⟩
 obtain ⟨rr,HRR⟩:∃ r,Hid (N-16*k=r):=⟨_,rfl⟩
 obtain ⟨o16,HO⟩:∃ o,Hid (16*k=o):=⟨_,rfl⟩
 obtain ⟨km,HKM⟩:∃ o,Hid (k-1=o):=⟨_,rfl⟩
 have HRL:Hid (0<rr∧rr<16∧N=o16+rr∧k=km+1∧o16=16*k):=by have:=HRR.out;have:=HN.out;have:=HO.out;have:=HKM.out;have:=HEQ.out;have:=HNL.out;exact ⟨by omega,by omega,by omega,by omega,by omega⟩
 have q5:IntKind.i64.wrap ((k:Int)*16)=(o16:Int):=by rw[IntKind.wrap_i64];have:=HRL.out;have:=HN.out;omega
 have q6:IntKind.i64.wrap ((k:Int)-1)=(km:Int):=by rw[IntKind.wrap_i64];have:=HRL.out;have:=HN.out;omega
 have g0:(0:Int)<(rr:Int):=by have:=HRL.out;omega
 have hS:∀ u:World,(Instr.slice 22 (.slice (some ⟨b,off,none⟩) N cp) (some (.int .i64 (o16:Nat))) none none).run Tryz.prog u=.ok (.slice (some ⟨b,off+o16,none⟩) rr (cp-o16)) u:=fun u=>by
  rw[Ku u (some ⟨b,off,none⟩) N cp o16 (by have:=HRL.out;omega) HN.out.2.2.1,sliced,if_neg (by have:=HRL.out;have:=HN.out;omega),Option.map_some,Nat.mul_one,Addr.add_mid,show N-o16=rr by have:=HRL.out;omega]
 have hS2:∀ (u:World) (x:Nat),(Instr.slice 22 (.slice (some ⟨x,0,none⟩) N N) (some (.int .i64 (o16:Nat))) none none).run Tryz.prog u=.ok (.slice (some ⟨x,o16,none⟩) rr rr) u:=fun u x=>by
  rw[Ku u (some ⟨x,0,none⟩) N N o16 (by have:=HRL.out;omega) (Nat.le_refl _),sliced,if_neg (by have:=HRL.out;have:=HN.out;omega),Option.map_some,Nat.mul_one,Addr.add_mid,show N-o16=rr by have:=HRL.out;omega,Nat.zero_add]
 obtain ⟨LF,HLF⟩:∃ L,Hid (L=Fd.BL (F km)):=⟨_,rfl⟩
 obtain ⟨xb,HXB⟩:∃ v,Hid (v=stB zs k rr (F km)):=⟨_,rfl⟩
 obtain ⟨LX,HLX⟩:∃ L,Hid (L=Fd.BL xb):=⟨_,rfl⟩
 obtain ⟨yb,HYB⟩:∃ v,Hid (v=E (xb ^^^ f k) ^^^ f k):=⟨_,rfl⟩
 obtain ⟨cs,HCS⟩:∃ L,Hid (L=Za (zs.drop (16*k))):=⟨_,rfl⟩
 have HLL:Hid (LF.length=16∧(∀ x∈LF,x.oneCell'=true)∧cs.length=rr∧(∀ x∈cs,x.oneCell'=true)∧splice LF 0 cs=LX∧LX.length=16):=by
  rw[HLF.out,HCS.out,HLX.out,HXB.out]
  refine ⟨Fd.Zq _,Yt _,?_,?_,Su hb k rr (F km) (by have:=HRL.out;have:=HNL.out;omega) HRL.out.2.1,Fd.Zq _⟩
  ·simp [Za];have:=HRL.out;have:=HNL.out;omega
  ·intro v hv
   simp only[Za,List.mem_map] at hv
   obtain ⟨z,_,rfl⟩:=hv
   rfl
 have HCUT:Hid (∀ u,Bx u w1.heap.size 5 (bkR F N k)→Calls Tryz.prog 197 #[.slice (some ⟨w1.heap.size,0,none⟩) N N,.int .i64 (km:Nat)] u fun e w'=>Hid (e=.returned (.agg LF.toArray)∧Below u.heap.size u w')):=fun u hu=>by
  have q:=He w1.heap.size 0 N km (bkZ F N k) u (by rw[Xq];have:=HRL.out;have:=HN.out;omega) (by rw[Xq];exact Nat.le_refl _) (by rw[Xq];have:=HN.out;omega) (T3 F N k) (fun i hi=>by
   rw[Xq] at hi
   rw[Nat.zero_add]
   exact hu.cell i _ (Iq F N k i HN.out.2.1 hi))
  rw[Xq,Ex F N k km HN.out.2.1 (by have:=HRL.out;omega)] at q
  rw[HLF.out]
  exact q
 have HMK:Hid (∀ u,J 0 u→w1.heap.size≤u.heap.size→Calls Tryz.prog 243 #[.int .i64 (k:Nat),.agg LX.toArray,.pointer (some ⟨w.heap.size+1,0,none⟩),.pointer (some ⟨w.heap.size,0,none⟩)] u fun e w'=>Hid (e=.returned (Fd.BV yb)∧J 0 w'∧Gk Ks u w')):=fun u hu hsz=>by
  rw[HLX.out,HYB.out];exact HK.out k xb u (by have:=HRL.out;have:=HN.out;omega) hu hsz
 have HJZ:Hid (∀ u,J 0 u→∀ i x,cs[i]?=some x→u.cell? ((⟨b,off+o16,none⟩:Addr).add i)=some x):=fun u hu i x hx=>by
  rw[HJ.out] at hu
  have hi:i<rr:=by have:=(List.getElem?_eq_some_iff.1 hx).1;have:=HLL.out.2.2.1;omega
  have hlt:16*k+i<zs.length:=by have:=HRL.out;have:=HNL.out;omega
  rw[HCS.out] at hx
  simp only[Za,List.getElem?_map,List.getElem?_drop,List.getElem?_eq_getElem hlt,Option.map_some,Option.some.injEq] at hx
  subst hx
  rw[Addr.add_mid,show off+o16+i=off+(16*k+i) by have:=HRL.out;omega,hu.2.1 _ hlt,List.getD_eq_getElem?_getD,List.getElem?_eq_getElem hlt]
  rfl
 have HY2:Hid (splice (splice (bkR F N k) o16 (LF.take rr)) (16*km) (Fd.BL yb)=Y):=by
  show _=_
  rw[HY.out,Gl,if_neg HEQ.out,HNL.out,HKM.out,←HF.out,Pv,HNL.out,HRR.out,HKM.out,←HF.out,←HXB.out,←HYB.out,←HLF.out]
  have e:splice (bkR F N k) o16 (LF.take rr)=bkL F k++LF.take rr:=by
   have hlt:(LF.take rr).length=rr:=by rw[List.length_take,HLL.out.1];have:=HRL.out;omega
   rw[bkR,splice,hlt,List.take_append_of_le_length (by rw[Zu];have:=HRL.out;omega),List.take_of_length_le (by rw[Zu];have:=HRL.out;omega),List.drop_of_length_le (by rw[List.length_append,Zu,List.length_replicate];have:=HRL.out;omega),List.append_nil]
  rw[e]
 have HJG:Hid (∀ u,J 0 u→Ot w1 u→I u∧Gk Ks w u):=fun u hu ho=>by
  rw[HJ.out] at hu
  exact ⟨hu.1.inv,⟨ho.os.trans hb1.os,ho.tape.trans hb1.tape,ho.output.trans hb1.output,Nat.le_trans hb1.size ho.size,fun c hc hn=>(hu.2.2 c (by omega) hn).trans (hb1.block c hc)⟩⟩
 have HSZ:Hid (B≤w.heap.size∧w1.heap.size=w.heap.size+2):=⟨hBw,hs1⟩
 have hJ0:True:=trivial
 clear hI HDO rg n4 hnc hk0 hl1 hl2 hl3 hkn hc1 hb hbg hz hb1 cc HM hrl hbl hJ0 HK hBw HF
 go_enter Tryz.func229,Tryz.ntmps229
 go_upto_region 2 with fail
 rw[←hw1]
 clear hw1
 obtain ⟨x,HXX⟩:∃ x,Hid (w1.heap.size=x):=⟨_,rfl⟩
 obtain ⟨p,HPP⟩:∃ x,Hid (w.heap.size=x):=⟨_,rfl⟩
 rw[HXX.out] at HB HCUT
 rw[HPP.out] at HB HMK ⊢
 go_upto_region 6 with (first
  | (go_at_call 211;refine HB.out.mono ?_;intro e2 w2 hh;obtain ⟨rfl,h2⟩:=hh.out;have HX:Hid (BwI J F N w1 w2 k):=h2;clear hh h2 HB))
 have HX0:Hid (J 0 w2∧Bx w2 x 5 (bkR F N k)∧w1.heap.size≤w2.heap.size):=⟨hJc _ _ HX.out.inv,by rw[←HXX.out];exact HX.out.row,HX.out.size⟩
 go_upto_region 7 with (first
  | (go_at_call 197;refine (HCUT.out _ HX0.out.2.1).mono ?_;intro e3 w3 hh;obtain ⟨rfl,hb3⟩:=hh.out;have HB3:Hid (Below w2.heap.size w2 w3):=hb3;clear hh hb3)
  | (refine Zm (by rfl) 27 (.tmp 11) (.tmp 29) (by rfl) ZZ LF w3.heap.size (by rfl) (by rfl) (Bx.new w3 27 ZZ) (by rw[HLL.out.1];rfl) (by rw[HLL.out.1];kernel_rfl) HLL.out.2.1 ?_;intro w4 hb4 hg4;have HB4:Hid (Bx w4 w3.heap.size 27 LF∧Below w3.heap.size w3 w4):=⟨hb4,((Below.refl _ _).alloc (Nat.le_refl _) _).trans (Yi hg4 (by simp) (Nat.le_refl _))⟩;clear hb4 hg4))
 obtain ⟨y,HYY⟩:∃ x,Hid (w3.heap.size=x):=⟨_,rfl⟩
 rw[HYY.out] at HB4 ⊢
 have HL4:Hid (J 0 w4∧Bx w4 x 5 (bkR F N k)∧Bx w4 y 27 LF∧x<y∧w1.heap.size≤w4.heap.size):=by
  have s2:=HX0.out.2.2
  have s3:=HB3.out.size
  have s4:=HB4.out.2.size
  have hy:=HYY.out
  have hb4:Below w2.heap.size w2 w4:=HB3.out.trans (HB4.out.2.mono (by omega))
  exact ⟨hLow 0 w2 w4 HX0.out.1 s2 (fun c hc=>hb4.block c (by omega)) hb4.size,HX0.out.2.1.below hb4,HB4.out.1,by have:=HX0.out.2.1.lt;omega,by omega⟩
 have HO4:Hid (Ot w1 w4):=(Ot.of_bwi HX.out).below (HB3.out.trans (HB4.out.2.mono (by have:=HB3.out.size;have:=HYY.out;omega)))
 clear HB3 HB4 HX0 HX
 have HTK:Hid ((LF.take rr).length=Nat.min 16 rr∧(∀ x∈LF.take rr,x.oneCell'=true)∧o16+(LF.take rr).length≤(bkR F N k).length):=by
  have hlt:(LF.take rr).length=rr:=by rw[List.length_take,HLL.out.1];have:=HRL.out;omega
  refine ⟨by rw[hlt];have:=HRL.out;exact (Nat.min_eq_right (by omega)).symm,fun v hv=>HLL.out.2.1 v (List.mem_of_mem_take hv),?_⟩
  rw[hlt,Wi F N k HN.out.2.1];have:=HRL.out;omega
 have HD4:Hid (∀ q,Bx (w4.drewN q) x 5 (bkR F N k)∧Bx (w4.drewN q) y 27 LF):=fun q=>⟨HL4.out.2.1.below (Below.drewN (Below.refl _ _) _),HL4.out.2.2.1.below (Below.drewN (Below.refl _ _) _)⟩
 go_region_held3 (fun _=>True) (first | trivial | go_keep)
  (first
   | (refine Jq rfl (.tmp 33) (.tmp 34) rfl Tryz.underlying22 (by kernel_rfl) x o16 rr rr 16 16 ⟨y,0,none⟩ (by first | rfl | simp) (by first | rfl | simp) (bkR F N k) 5 (by first | exact HL4.out.2.1 | exact (HD4.out 1).1) (LF.take rr) HTK.out.1 (fun i v hv=>by rw[Addr.add_mid];rw[List.getElem?_take] at hv;split at hv<;>first | cases hv | exact HL4.out.2.2.1.range i v hv | exact (HD4.out 1).2.range i v hv) HTK.out.2.2 HTK.out.2.1 ?_;intro w5 HG5 HB5))
 have HL5:Hid (J 0 w5∧Bx w5 x 5 (splice (bkR F N k) o16 (LF.take rr))∧Bx w5 y 27 LF∧Ot w1 w5∧w1.heap.size≤w5.heap.size):=by
  have hg:w4.grownBy w5 (some x):=by
   have q:=HB5.out
   exact ⟨q.os,q.tape,q.output,q.size,q.block⟩
  have hxy:=HL4.out.2.2.2.1
  exact ⟨hLow 0 w4 w5 HL4.out.1 HL4.out.2.2.2.2 (fun c hc=>hg.block c (by have:=HL4.out.2.2.2.2;omega) (fun e=>by injection e with e;have:=HXX.out;omega)) hg.size,HG5.out,HL4.out.2.2.1.keep (hg.block y HL4.out.2.2.1.lt (fun e=>by injection e with e;omega)),HO4.out.gb hg,Nat.le_trans HL4.out.2.2.2.2 hg.size⟩
 have HXY:Hid (x<y):=HL4.out.2.2.2.1
 clear HG5 HB5 HL4 HD4 HO4
 go_upto_region 9 with (first
  | (refine wpList_copy_splice rfl (.tmp 36) (.tmp 37) 22 22 rfl 5 Tryz.underlying22 (by kernel_rfl) _ _ 16 16 rr _ rfl rfl y 0 LF 27 HL5.out.2.2.1 cs (by rw[HLL.out.2.2.1];exact (Nat.min_eq_left (by have:=HRL.out;omega)).symm) (fun _=>⟨rfl,_,rfl,HJZ.out w5 HL5.out.1⟩) (by rw[HLL.out.2.2.1,HLL.out.1];have:=HRL.out;omega) HLL.out.2.2.2.1 y w5 (Below.refl _ _) (Nat.le_refl _) ?_;intro w6 HG6 hb6;have HB6:Hid (Below y w5 w6):=hb6;clear hb6))
 have HL6:Hid (J 0 w6∧Bx w6 x 5 (splice (bkR F N k) o16 (LF.take rr))∧Bx w6 y 27 LX∧Ot w1 w6∧w1.heap.size≤w6.heap.size):=by
  have hb:=HB6.out
  have hxy:=HXY.out
  have q:=HG6.out
  rw[HLL.out.2.2.2.2.1] at q
  exact ⟨hLow 0 w5 w6 HL5.out.1 HL5.out.2.2.2.2 (fun c hc=>hb.block c (by have:=HXX.out;omega)) hb.size,HL5.out.2.1.keep (hb.block x hxy),q,HL5.out.2.2.2.1.below hb,Nat.le_trans HL5.out.2.2.2.2 hb.size⟩
 clear HG6 HB6 HL5
 have HLAY:Hid (∀ u,Bx u x 5 (splice (bkR F N k) o16 (LF.take rr))→Calls Tryz.prog 234 #[.slice (some ⟨x,0,none⟩) N N,.int .i64 (km:Nat),Fd.BV yb] u fun e w'=>Hid (e=.returned (.tuple #[])∧Bx w' x 5 Y∧u.grownBy w' (some x))):=fun u hu=>by
  have hlt:(LF.take rr).length=rr:=by rw[List.length_take,HLL.out.1];have:=HRL.out;omega
  have q:=C4 x N N km yb _ u (by have:=HRL.out;omega) (Nat.le_refl _) (by have:=HN.out;omega) (by simp only[splice,List.length_append,List.length_take,List.length_drop,Wi F N k HN.out.2.1,hlt];have:=HRL.out;omega) hu
  rw[HY2.out] at q
  exact q
 go_wp2_with (first
  | (refine wpList_load_mid (by rfl) 27 (.tmp 11) (by rfl) y 0 (by rfl) LX _ HL6.out.2.2.1.range Tryz.underlying27 rfl (by rw[HLL.out.2.2.2.2.2];kernel_rfl) ?_)
  | (go_at_call 243;refine (HMK.out _ HL6.out.1 HL6.out.2.2.2.2).mono ?_;intro e7 w7 hh;obtain ⟨rfl,hk7,hg7⟩:=hh.out;have HL7:Hid (J 0 w7∧Bx w7 x 5 (splice (bkR F N k) o16 (LF.take rr))∧Ot w1 w7∧w1.heap.size≤w7.heap.size):=⟨hk7,HL6.out.2.1.gk hg7 (hC.new (by have:=HSZ.out;have:=HXX.out;omega)),HL6.out.2.2.2.1.gk hg7,Nat.le_trans HL6.out.2.2.2.2 hg7.size⟩;clear hh hk7 hg7 HMK)
  | (go_at_call 234;refine (HLAY.out _ HL7.out.2.1).mono ?_;intro e8 w8 hh;obtain ⟨rfl,hx8,hg8⟩:=hh.out;have HL8:Hid (J 0 w8∧Bx w8 x 5 Y∧Ot w1 w8):=⟨hLow 0 w7 w8 HL7.out.1 HL7.out.2.2.2 (fun c hc=>hg8.block c (by have:=HL7.out.2.2.2;omega) (fun e=>by injection e with e;have:=HXX.out;omega)) hg8.size,hx8,HL7.out.2.2.1.gb hg8⟩;clear hh hx8 hg8 HLAY))
 go_ret
 refine ⟨x,rfl,?_,HL8.out.2.1,?_⟩
 ·have:=HSZ.out;have:=HXX.out;have:=HPP.out;omega
 ·exact HJG.out _ HL8.out.1 HL8.out.2.2
theorem Fx (n:Nat) (h:n<18446744073709551616):Fd.hiV (BitVec.ofNat 128 n)=0∧Fd.loV (BitVec.ofNat 128 n)=n:=by
 unfold Fd.hiV Fd.loV
 rw[BitVec.toNat_ofNat]
 constructor<;>omega
theorem Vi (n:Nat) (h:n<18446744073709551616) (w:World):Calls Tryz.prog 38 #[.int .u64 0,.int .u64 (n:Nat)] w fun e w'=>Hid (e=.returned (Fd.BV (BitVec.ofNat 128 n))∧Below w.heap.size w w'):=by
 have q:=Fd.Wx (BitVec.ofNat 128 n) w
 rw[(Fx n h).1,(Fx n h).2] at q
 exact q.mono fun e w' hh=>hh
def plV (b:Bool) (s:Nat):BitVec 128:=BitVec.ofNat 128 (if b then s else s%4294967296)
set_option maxHeartbeats 800000 in
set_option maxRecDepth 100000 in
theorem Pn (s:Nat) (n:Int) (w:World) (hs:s<18446744073709551616) :
  Calls Tryz.prog 179 #[.int .u64 (s:Nat),.int .i64 n] w fun e w'=>Hid (e=.returned (Fd.BV (plV false s))∧Below w.heap.size w w'):=by
 obtain ⟨x,HX⟩:∃ x,Hid (s%4294967296=x):=⟨_,rfl⟩
 have hx:bits BinOp.and IntKind.u64 (s:Int) 4294967295=(x:Int):=by rw[Kq s hs,HX.out]
 obtain ⟨M,HMM⟩:∃ M,Hid (M=Fd.BL (plV false s)):=⟨_,rfl⟩
 have HG:Hid (∀ u,Calls Tryz.prog 38 #[.int .u64 0,.int .u64 (x:Nat)] u fun e w'=>Hid (e=.returned (.agg M.toArray)∧Below u.heap.size u w')):=fun u=>by
  rw[HMM.out];unfold plV;rw[if_neg (by decide),HX.out];exact Vi x (by rw[←HX.out];omega) u
 have HLN:Hid (M.length=16∧(∀ x∈M,x.oneCell'=true)):=by rw[HMM.out];exact ⟨rfl,Yt _⟩
 show Calls Tryz.prog 179 #[_,_] w fun e w'=>Hid (e=.returned (.agg (Fd.BL (plV false s)).toArray)∧_)
 rw[←HMM.out]
 obtain ⟨w1,hw1⟩:∃ w1,w1=w.alloc (.cells ZZ.toArray 27):=⟨_,rfl⟩
 have HB1:Hid (Bx w1 w.heap.size 27 ZZ∧Below w.heap.size w w1):=by rw[hw1];exact ⟨Bx.new w 27 ZZ,(Below.refl _ _).alloc (Nat.le_refl _) _⟩
 clear hs
 go_enter Tryz.func179,Tryz.ntmps179
 go_upto_region 1 with fail
 rw[show w.alloc (.cells _ 27)=w1 from hw1.symm]
 clear hw1
 obtain ⟨m,HM2⟩:∃ m,Hid (w.heap.size=m):=⟨_,rfl⟩
 rw[HM2.out] at HB1 ⊢
 go_wp2_with (first
  | (go_at_call 38;refine (HG.out _).mono ?_;intro e4 w4 hh;obtain ⟨rfl,hb4⟩:=hh.out;have HB4:Hid (Bx w4 m 27 ZZ∧Below m w w4):=⟨HB1.out.1.below hb4,HB1.out.2.trans (hb4.mono (by have:=HB1.out.1.lt;omega))⟩;clear hh hb4)
  | (refine Zm (by rfl) 27 (.tmp 4) (.tmp 7) (by rfl) ZZ M m (by rfl) (by rfl) HB4.out.1 (by rw[HLN.out.1];rfl) (by rw[HLN.out.1];kernel_rfl) HLN.out.2 ?_;intro u9 hb9 hg9))
 refine Xo (b:=m) M rfl rfl hb9.range Tryz.underlying27 rfl (by rw[HLN.out.1];kernel_rfl) ⟨rfl,?_⟩
 have hfin:Below m w u9:=HB4.out.2.trans (Yi hg9 (by have:=HB4.out.1.lt;omega) (by omega))
 first | exact hfin | (rw[HM2.out];exact hfin)
set_option maxHeartbeats 800000 in
set_option maxRecDepth 100000 in
theorem Mu (s:Nat) (n:Int) (w:World) (hs:s<18446744073709551616) :
  Calls Tryz.prog 180 #[.int .u64 (s:Nat),.int .i64 n] w fun e w'=>Hid (e=.returned (Fd.BV (plV true s))∧Below w.heap.size w w'):=by
 obtain ⟨M,HMM⟩:∃ M,Hid (M=Fd.BL (plV true s)):=⟨_,rfl⟩
 have HG:Hid (∀ u,Calls Tryz.prog 38 #[.int .u64 0,.int .u64 (s:Nat)] u fun e w'=>Hid (e=.returned (.agg M.toArray)∧Below u.heap.size u w')):=fun u=>by
  rw[HMM.out];unfold plV;rw[if_pos rfl];exact Vi s hs u
 have HLN:Hid (M.length=16∧(∀ x∈M,x.oneCell'=true)):=by rw[HMM.out];exact ⟨rfl,Yt _⟩
 show Calls Tryz.prog 180 #[_,_] w fun e w'=>Hid (e=.returned (.agg (Fd.BL (plV true s)).toArray)∧_)
 rw[←HMM.out]
 obtain ⟨w1,hw1⟩:∃ w1,w1=w.alloc (.cells ZZ.toArray 27):=⟨_,rfl⟩
 have HB1:Hid (Bx w1 w.heap.size 27 ZZ∧Below w.heap.size w w1):=by rw[hw1];exact ⟨Bx.new w 27 ZZ,(Below.refl _ _).alloc (Nat.le_refl _) _⟩
 clear hs
 go_enter Tryz.func180,Tryz.ntmps180
 go_upto_region 1 with fail
 rw[show w.alloc (.cells _ 27)=w1 from hw1.symm]
 clear hw1
 obtain ⟨m,HM2⟩:∃ m,Hid (w.heap.size=m):=⟨_,rfl⟩
 rw[HM2.out] at HB1 ⊢
 go_wp2_with (first
  | (go_at_call 38;refine (HG.out _).mono ?_;intro e4 w4 hh;obtain ⟨rfl,hb4⟩:=hh.out;have HB4:Hid (Bx w4 m 27 ZZ∧Below m w w4):=⟨HB1.out.1.below hb4,HB1.out.2.trans (hb4.mono (by have:=HB1.out.1.lt;omega))⟩;clear hh hb4)
  | (refine Zm (by rfl) 27 (.tmp 4) (.tmp 6) (by rfl) ZZ M m (by rfl) (by rfl) HB4.out.1 (by rw[HLN.out.1];rfl) (by rw[HLN.out.1];kernel_rfl) HLN.out.2 ?_;intro u9 hb9 hg9))
 refine Xo (b:=m) M rfl rfl hb9.range Tryz.underlying27 rfl (by rw[HLN.out.1];kernel_rfl) ⟨rfl,?_⟩
 have hfin:Below m w u9:=HB4.out.2.trans (Yi hg9 (by have:=HB4.out.1.lt;omega) (by omega))
 first | exact hfin | (rw[HM2.out];exact hfin)
structure EcX (Ks:Nat→Prop) (I:World→Prop) (sh p:Nat) (u:World):Prop where
 inv:I u
 cp:u.cell? ⟨p,0,none⟩=some (.pointer (some ⟨sh,0,none⟩))
 n2:¬ Ks p
theorem EcX.grown {Ks:Nat→Prop} {I:World→Prop} {sh p:Nat} {u v:World} (h:EcX Ks I sh p u) (hk:Gk Ks u v) (hi:I v):EcX Ks I sh p v:=⟨hi,hk.cell h.n2 h.cp,h.n2⟩
theorem EcX.below {Ks:Nat→Prop} {I:World→Prop} {B sh p:Nat} {u v:World} (h:EcX Ks I sh p u) (hC:Cst B Ks I) (hb:Below u.heap.size u v):EcX Ks I sh p v:=h.grown (Gk.of_below hb) (hC.below h.inv hb)
set_option maxHeartbeats 800000 in
set_option maxRecDepth 100000 in
theorem Zaw {B:Nat} {Ks:Nat→Prop} {I:World→Prop} (hC:Cst B Ks I) (sh p:Nat) (j:Int) (E:BitVec 128→BitVec 128) (v:BitVec 128) (w:World) (HDO:DoI Ks I 190 (.pointer (some ⟨sh,0,none⟩)) E) (h:EcX Ks I sh p w) :
  Calls Tryz.prog 212 #[.int .i64 j,Fd.BV v,.pointer (some ⟨p,0,none⟩)] w fun e w'=>Hid (e=.returned (Fd.BV (E v))∧EcX Ks I sh p w'∧Gk Ks w w'):=by
 obtain ⟨L,HL⟩:∃ L,Hid (L=Fd.BL v):=⟨_,rfl⟩
 obtain ⟨M,HM⟩:∃ M,Hid (M=Fd.BL (E v)):=⟨_,rfl⟩
 have HK:Hid (∀ u,I u→Calls Tryz.prog 190 #[.pointer (some ⟨sh,0,none⟩),.agg L.toArray] u fun e w'=>Hid (e=.returned (.agg M.toArray)∧I w'∧Gk Ks u w')):=fun u hu=>by rw[HL.out,HM.out];exact HDO v u hu
 have HL16:Hid (L.length=16∧M.length=16∧(∀ x∈M,x.oneCell'=true)):=by rw[HL.out,HM.out];exact ⟨rfl,rfl,Yt _⟩
 show Calls Tryz.prog 212 #[_,.agg (Fd.BL v).toArray,_] w fun e w'=>Hid (e=.returned (.agg (Fd.BL (E v)).toArray)∧_)
 rw[←HL.out,←HM.out]
 obtain ⟨w1,hw1⟩:∃ w1,w1=(w.alloc (.cells L.toArray 27)).alloc (.cells ZZ.toArray 27):=⟨_,rfl⟩
 have HB1:Hid (Bx w1 w.heap.size 27 L∧Bx w1 (w.heap.size+1) 27 ZZ∧Below w.heap.size w w1∧EcX Ks I sh p w1∧B≤w.heap.size):=by
  have hb:Below w.heap.size w w1:=by rw[hw1];exact ((Below.refl _ _).alloc (Nat.le_refl _) _).alloc (by simp) _
  refine ⟨?_,?_,hb,h.below hC hb,hC.size w h.inv⟩
  ·rw[hw1];exact (Bx.new w 27 L).below ((Below.refl _ _).alloc (Nat.le_refl _) _)
  ·rw[hw1];have q:=Bx.new (w.alloc (.cells L.toArray 27)) 27 ZZ;simpa using q
 have hw2:w1=(w.alloc (.cells L.toArray 27)).alloc (.cells #[.int .u8 0,.int .u8 0,.int .u8 0,.int .u8 0,.int .u8 0,.int .u8 0,.int .u8 0,.int .u8 0,.int .u8 0,.int .u8 0,.int .u8 0,.int .u8 0,.int .u8 0,.int .u8 0,.int .u8 0,.int .u8 0] 27):=hw1
 clear hw1
 have H0:Hid (EcX Ks I sh p w):=h
 clear h HDO
 have c0:w1.cell? ⟨p,0,none⟩=some (.pointer (some ⟨sh,0,none⟩)):=HB1.out.2.2.2.1.cp
 go_enter Tryz.func212,Tryz.ntmps212
 go_upto_region 1 with fail
 rw[←hw2]
 clear hw2
 obtain ⟨m,HMM⟩:∃ m,Hid (w.heap.size=m):=⟨_,rfl⟩
 rw[HMM.out] at HB1 ⊢
 go_wp2_with (first
  | (refine wpList_load_mid (by rfl) 27 (.tmp 4) (by rfl) m 0 (by rfl) L _ HB1.out.1.range Tryz.underlying27 rfl (by rw[HL16.out.1];kernel_rfl) ?_)
  | (go_at_call 190;refine (HK.out _ HB1.out.2.2.2.1.inv).mono ?_;intro e2 w2 hh;obtain ⟨rfl,hk2,hg2⟩:=hh.out;have HB2:Hid (I w2∧Gk Ks w1 w2∧Bx w2 (m+1) 27 ZZ):=⟨hk2,hg2,HB1.out.2.1.gk hg2 (hC.new (Nat.le_succ_of_le HB1.out.2.2.2.2))⟩;clear hh hk2 hg2)
  | (refine Zm (by rfl) 27 (.tmp 5) (.tmp 9) (by rfl) ZZ M (m+1) (by rfl) (by rfl) HB2.out.2.2 (by rw[HL16.out.2.1];rfl) (by rw[HL16.out.2.1];kernel_rfl) HL16.out.2.2 ?_;intro u9 hb9 hg9))
 have hgk:Gk Ks w u9:=((Gk.of_below (by rw[HMM.out];exact HB1.out.2.2.1)).trans HB2.out.2.1).gb hg9 (by rw[HMM.out];omega)
 have hi9:I u9:=hC.gb HB2.out.1 hg9 (Nat.le_succ_of_le HB1.out.2.2.2.2)
 refine Xo (b:=m+1) M rfl rfl hb9.range Tryz.underlying27 rfl (by rw[HL16.out.2.1];kernel_rfl) ⟨rfl,H0.out.grown hgk hi9,hgk⟩
set_option maxHeartbeats 800000 in
set_option maxRecDepth 100000 in
theorem Lp {B:Nat} {Ks:Nat→Prop} {I:World→Prop} (hC:Cst B Ks I) (sh:Nat) (E:BitVec 128→BitVec 128) (s:Int) (b off cp k:Nat) (zs:List Int) (w:World) (hI:I w) (HDO:DoI Ks I 190 (.pointer (some ⟨sh,0,none⟩)) E)
  (hl:zs.length=16*k) (hk0:0<k) (hl3:zs.length≤4096) (hc1:zs.length≤cp) (hb:Zg zs) (hbg:¬ Ks b) (hz:∀ i,i<zs.length→w.cell? ⟨b,off+i,none⟩=some (.int .u8 (zs.getD i 0))) :
  Calls Tryz.prog 174 #[.agg #[.pointer (some ⟨sh,0,none⟩)],.int .u64 s,.slice (some ⟨b,off,none⟩) zs.length cp] w fun e w'=>Hid (∃ x,e=.returned (.slice (some ⟨x,0,none⟩) zs.length zs.length)∧w.heap.size≤x∧Bx w' x 5 (bkL (fun j=>E (cutV zs j)) k)∧I w'∧Gk Ks w w'):=by
 obtain ⟨w1,hw1⟩:∃ w1,w1=w.alloc (.cells #[.pointer (some ⟨sh,0,none⟩)] 240):=⟨_,rfl⟩
 have hBw:B≤w.heap.size:=hC.size w hI
 have hb1:Below w.heap.size w w1:=by rw[hw1];exact (Below.refl _ _).alloc (Nat.le_refl _) _
 have hs1:w1.heap.size=w.heap.size+1:=by rw[hw1];simp
 have hB1:Bx w1 w.heap.size 240 [.pointer (some ⟨sh,0,none⟩)]:=by rw[hw1];exact Bx.new w 240 [.pointer (some ⟨sh,0,none⟩)]
 have cc:∀ b o x,w.cell? ⟨b,o,none⟩=some x→w1.cell? ⟨b,o,none⟩=some x:=fun b o x hx=>(hb1.cell (World.block_lt_of_cell? w _ hx)).trans hx
 have hbl:b<w.heap.size:=World.block_lt_of_cell? w _ (hz 0 (by omega))
 obtain ⟨J,HJ⟩:∃ J:Nat→World→Prop,Hid (J=fun _ u=>EcX Ks I sh w.heap.size u∧(∀ i,i<zs.length→u.cell? ⟨b,off+i,none⟩=some (.int .u8 (zs.getD i 0)))∧(∀ c,c<w1.heap.size→¬ Ks c→u.heap[c]?=w1.heap[c]?)):=⟨_,rfl⟩
 obtain ⟨F,HF⟩:∃ F:Nat→BitVec 128,Hid (F=fun j=>E (cutV zs j)):=⟨_,rfl⟩
 have hLow:Dj w1.heap.size J:=by
  rw[HJ.out]
  intro k u u' h hz hk hsz
  obtain ⟨h1,h2,h3⟩:=h
  have cc:∀ b o x,b<w1.heap.size→u.cell? ⟨b,o,none⟩=some x→u'.cell? ⟨b,o,none⟩=some x:=fun b o x hb hx=>by
   rw[World.cell?_of_block (a:=⟨b,o,none⟩) (hk b hb)];exact hx
  exact ⟨⟨hC.stay u u' h1.inv (fun c hc=>hk c (by omega)) hsz,cc _ _ _ (by omega) h1.cp,h1.n2⟩,fun i hi=>cc _ _ _ (by omega) (h2 i hi),fun c hc hn=>(hk c hc).trans (h3 c hc hn)⟩
 have hJ0:J 0 w1:=by rw[HJ.out];exact ⟨⟨hC.below hI hb1,hB1.cell 0 _ rfl,hC.new hBw⟩,fun i hi=>cc _ _ _ (hz i hi),fun _ _ _=>rfl⟩
 have HB:Hid (Calls Tryz.prog 211 #[.slice (some ⟨b,off,none⟩) zs.length cp,.func (.func 212) #[] #[.pointer (some ⟨w.heap.size,0,none⟩)]] w1 fun e w'=>Hid (e=.returned (.slice (some ⟨w1.heap.size,0,none⟩) zs.length zs.length)∧BwI J F zs.length w1 w' k)):=by
  refine Ly 212 w.heap.size (fun args w=>Zr Tryz.func212 (by rfl) (by rfl) args w) J F b off cp k zs w1 hLow hJ0 (by omega) (by omega) hl3 hc1 hb (fun j u h i hi=>by rw[HJ.out] at h;exact h.2.1 i hi) (fun j u hj h hsz=>?_)
  rw[HJ.out] at h ⊢
  obtain ⟨h1,h2,h3⟩:=h
  refine (Zaw hC sh w.heap.size j E (cutV zs j) u HDO h1).mono ?_
  intro e w' hh
  obtain ⟨rfl,k1,k2⟩:=hh.out
  exact ⟨by rw[HF.out],⟨k1,fun i hi=>k2.cell hbg (h2 i hi),fun c hc hn=>(k2.block c (by omega) hn).trans (h3 c hc hn)⟩,Kp.of_gk k2 (fun c hc=>by have:=hC.low c hc;omega)⟩
 have HJF:Hid (∀ u,BwI J F zs.length w1 u k→I u∧Gk Ks w u∧Bx u w1.heap.size 5 (bkL F k)):=fun u hu=>by
  have h:=hu.inv
  rw[HJ.out] at h
  refine ⟨h.1.inv,⟨hu.os.trans hb1.os,hu.tape.trans hb1.tape,hu.output.trans hb1.output,Nat.le_trans hb1.size hu.size,fun c hc hn=>(h.2.2 c (by omega) hn).trans (hb1.block c hc)⟩,?_⟩
  have z:=hu.row
  rw[G9 F _ k hl] at z
  exact z
 obtain ⟨N,HNL⟩:∃ n,Hid (zs.length=n):=⟨_,rfl⟩
 rw[HNL.out] at HB HJF ⊢
 rw[←HF.out]
 have HS1:Hid (w1.heap.size=w.heap.size+1):=hs1
 clear hI HDO hl hk0 hl3 hc1 hb hbg hz hb1 hB1 cc hbl hLow hJ0 hBw hs1
 go_enter Tryz.func174,Tryz.ntmps174
 go_upto_region 1 with fail
 rw[←hw1]
 clear hw1
 go_wp2_with (first
  | (go_at_call 211;refine HB.out.mono ?_;intro e2 w2 hh;obtain ⟨rfl,h2⟩:=hh.out;have HX:Hid (BwI J F N w1 w2 k):=h2;clear hh h2 HB))
 go_ret
 obtain ⟨z1,z2,z3⟩:=HJF.out _ HX.out
 exact ⟨_,rfl,by have:=HS1.out;omega,z3,z1,z2⟩
theorem Tm (nn:Int):∃ m,ftN nn true=16*m∧0<m∧m≤32:=by
 unfold ftN
 have h:(IntKind.u64.wrap nn%497).toNat<497:=by omega
 refine ⟨(16+(IntKind.u64.wrap nn%497).toNat)/16,?_,by omega,by omega⟩
 simp;omega
end Go.Proofs.YtehlppaidgkpaaaGreatDoor
