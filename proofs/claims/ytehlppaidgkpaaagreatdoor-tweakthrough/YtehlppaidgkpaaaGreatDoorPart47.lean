import Derived.Test.YtehlppaidgkpaaaGreatDoorPart43
import Derived.Test.YtehlppaidgkpaaaGreatDoorPart00
namespace Go.Proofs.YtehlppaidgkpaaaGreatDoor
open Go.RowKit
set_option linter.unusedVariables false
set_option linter.unusedSimpArgs false
def bkZ (F:Nat→BitVec 128) (n k:Nat):List Int:=(List.range n).map fun i=>if i<16*k then ((Fd.byV (F (i/16)) (i%16):Nat):Int) else 0
theorem Y0 (F:Nat→BitVec 128) (n k:Nat):(bkZ F n k).length=n:=by simp [bkZ]
theorem D7 (F:Nat→BitVec 128) (n k i:Nat) (hi:i<n):(bkZ F n k).getD i 0=if i<16*k then ((Fd.byV (F (i/16)) (i%16):Nat):Int) else 0:=by
 rw[List.getD_eq_getElem?_getD,bkZ,List.getElem?_map,List.getElem?_range hi];rfl
theorem Wf (F:Nat→BitVec 128) (n k:Nat):Zd (bkZ F n k):=fun i=>by
 by_cases hi:i<n
 ·rw[D7 F n k i hi];split
  ·have:=Fd.Qi (F (i/16)) (i%16);omega
  ·omega
 ·rw[List.getD_eq_getElem?_getD,List.getElem?_eq_none (by rw[Y0];omega)];simp
theorem U1 (F:Nat→BitVec 128) (n k i:Nat) (hk:16*k≤n) (hi:i<n):(bkR F n k)[i]?=some (.int .u8 ((bkZ F n k).getD i 0)):=by
 rw[D7 F n k i hi,bkR]
 by_cases h:i<16*k
 ·rw[if_pos h,List.getElem?_append_left (by rw[Z2];exact h)]
  have q:=Md F k (i/16) (i%16) (by omega) (by omega)
  rw[show 16*(i/16)+i%16=i by omega] at q
  exact q
 ·rw[if_neg h,List.getElem?_append_right (by rw[Z2];omega),Z2,List.getElem?_replicate,if_pos (by omega)]
theorem Ex {zs:List Int} {j:Nat} {v:BitVec 128} (h:∀ i,i<16→zs.getD (16*j+i) 0=((Fd.byV v i:Nat):Int)):cutV zs j=v:=by
 have e:cutV zs j=BitVec.ofNat 128 (Fd.pk (fun i=>Fd.byV v i) 16):=by
  unfold cutV
  rw[Gx _ (fun i=>Fd.byV v i) 16 fun i hi=>by unfold Yk;rw[h i hi];simp]
 rw[e]
 apply Fd.Rh
 intro i hi
 exact Fd.Fm _ (fun i=>Fd.Qi v i) i hi
theorem Qy (F:Nat→BitVec 128) (n k j:Nat) (hk:16*k≤n) (hj:j<k):cutV (bkZ F n k) j=F j:=Ex fun i hi=>by
 rw[D7 F n k _ (by omega),if_pos (by omega),show (16*j+i)/16=j by omega,show (16*j+i)%16=i by omega]
def stB (zs:List Int) (k r:Nat) (q:BitVec 128):BitVec 128:=BitVec.ofNat 128 (Fd.pk (fun i=>if i<r then Yk zs (16*k+i) else Fd.byV q i) 16)
theorem Od {zs:List Int} (hb:Zd zs) (k r:Nat) (q:BitVec 128) (i:Nat) (hi:i<16):Fd.byV (stB zs k r q) i=if i<r then Yk zs (16*k+i) else Fd.byV q i:=by
 rw[stB,Fd.Fm _ (fun i=>by split;exact Ga hb _;exact Fd.Qi _ _) i hi]
theorem Lo {zs:List Int} (hb:Zd zs) (k r:Nat) (q:BitVec 128) (hl:zs.length=16*k+r) (hr:r<16):splice (Fd.BL q) 0 (Za (zs.drop (16*k)))=Fd.BL (stB zs k r q):=by
 have hlen:(Za (zs.drop (16*k))).length=r:=by simp [Za];omega
 apply List.ext_getElem?
 intro i
 by_cases hi:i<16
 ·rw[Fd.X5 _ i hi,Od hb k r q i hi]
  simp only[splice,List.take_zero,List.nil_append,hlen,Nat.zero_add]
  by_cases h:i<r
  ·rw[if_pos h,List.getElem?_append_left (by omega)]
   have:i+16*k<zs.length:=by omega
   simp [Za,List.getElem?_drop,List.getElem?_eq_getElem (show 16*k+i<zs.length by omega)]
   have q:=Gb hb (16*k+i)
   rw[List.getD_eq_getElem?_getD,List.getElem?_eq_getElem (show 16*k+i<zs.length by omega)] at q
   simpa using q.symm
  ·rw[if_neg h,List.getElem?_append_right (by omega),hlen,List.getElem?_drop,show r+(i-r)=i by omega,Fd.X5 _ i hi]
 ·have hl16:(splice (Fd.BL q) 0 (Za (zs.drop (16*k)))).length=16:=by
   simp only[splice,List.take_zero,List.nil_append,List.length_append,List.length_drop,hlen,Fd.Zl]
   omega
  rw[List.getElem?_eq_none (by rw[hl16];omega),List.getElem?_eq_none (by rw[Fd.Zl];omega)]
def Ww (E:BitVec 128→BitVec 128) (f:Nat→BitVec 128) (zs:List Int) (j:Nat):BitVec 128:=E (cutV zs j ^^^ f j) ^^^ f j
def Tg (E:BitVec 128→BitVec 128) (f:Nat→BitVec 128) (zs:List Int) (k:Nat):BitVec 128:=E (stB zs k (zs.length-16*k) (Ww E f zs (k-1)) ^^^ f k) ^^^ f k
def Wv (E:BitVec 128→BitVec 128) (f:Nat→BitVec 128) (zs:List Int) (k:Nat):List Value:=
 if zs.length=16*k then bkL (Ww E f zs) k else splice (bkL (Ww E f zs) k++(Fd.BL (Ww E f zs (k-1))).take (zs.length-16*k)) (16*(k-1)) (Fd.BL (Tg E f zs k))
structure Ot (w u:World):Prop where
 os:u.os=w.os
 tape:u.tape=w.tape
 output:u.output=w.output
 size:w.heap.size≤u.heap.size
theorem Ot.of_bwi {J:Nat→World→Prop} {F:Nat→BitVec 128} {n:Nat} {w u:World} {k:Nat} (h:BwI J F n w u k):Ot w u:=⟨h.os,h.tape,h.output,h.size⟩
theorem Ot.below {w u v:World} {B:Nat} (h:Ot w u) (hb:Below B u v):Ot w v:=⟨hb.os.trans h.os,hb.tape.trans h.tape,hb.output.trans h.output,Nat.le_trans h.size hb.size⟩
theorem Ot.gb {w u v:World} {g:Option Nat} (h:Ot w u) (hb:u.grownBy v g):Ot w v:=⟨hb.os.trans h.os,hb.tape.trans h.tape,hb.output.trans h.output,Nat.le_trans h.size hb.size⟩
theorem Ot.gk {w u v:World} {Ks:Nat→Prop} (h:Ot w u) (hb:Gk Ks u v):Ot w v:=⟨hb.os.trans h.os,hb.tape.trans h.tape,hb.output.trans h.output,Nat.le_trans h.size hb.size⟩
def MdJ (Ks:Nat→Prop) (I:World→Prop) (fn sh p q r n c:Nat) (f:Nat→BitVec 128) (b off:Nat) (zs:List Int) (w1:World) (_:Nat) (u:World):Prop:=
 MkX Ks I fn sh p q r 0 n c f u∧(∀ i,i<zs.length→u.cell? ⟨b,off+i,none⟩=some (.int .u8 (zs.getD i 0)))∧(∀ c,c<w1.heap.size→¬ Ks c→u.heap[c]?=w1.heap[c]?)
theorem MdJ.low {B B1:Nat} {Ks:Nat→Prop} {I:World→Prop} (hC:Cst B Ks I) (hB:B≤B1) {fn sh p q r n c:Nat} {f:Nat→BitVec 128} {b off:Nat} {zs:List Int} {w1:World} (hs:w1.heap.size=B1) (hp:p<B1) (hq:q<B1) (hr:r<B1) (hb:b<B1):Fv B1 (MdJ Ks I fn sh p q r n c f b off zs w1):=by
 intro k u u' h hz hk hsz
 obtain ⟨h1,h2,h3⟩:=h
 have cc:∀ b o x,b<B1→u.cell? ⟨b,o,none⟩=some x→u'.cell? ⟨b,o,none⟩=some x:=fun b o x hb hx=>by
  rw[World.cell?_of_block (a:=⟨b,o,none⟩) (hk b hb)];exact hx
 refine ⟨⟨hC.stay u u' h1.inv (fun c hc=>hk c (by omega)) hsz,cc _ _ _ hp h1.cp,cc _ _ _ hq h1.cq,fun j hj i x hx=>cc _ _ _ hr (h1.rg j hj i x hx),h1.n2,h1.n3,h1.n4⟩,fun i hi=>cc _ _ _ hb (h2 i hi),?_⟩
 exact fun c hc hn=>(hk c (by omega)).trans (h3 c hc hn)
set_option maxHeartbeats 3200000 in
set_option maxRecDepth 100000 in
theorem F7 {B:Nat} {Ks:Nat→Prop} {I:World→Prop} (hC:Cst B Ks I) (fn sh:Nat) (hE:∀ args u,(callFunc fn args).run Tryz.prog u=.ok (.enter fn args) u) (E:BitVec 128→BitVec 128) (r n c:Nat) (f:Nat→BitVec 128) (b off cp k:Nat) (zs:List Int) (w:World) (hI:I w) (HDO:DoI Ks I fn (.pointer (some ⟨sh,0,none⟩)) E) (rg:∀ j,j<n→w.rangeAt r (0+j*16) (Fd.BL (f j))) (n4:¬ Ks r) (hnc:n≤c)
  (hk0:0<k) (hl:zs.length=16*k) (hl3:zs.length≤4096) (hkn:zs.length≤16*n) (hc1:zs.length≤cp) (hb:Zd zs) (hbg:¬ Ks b) (hz:∀ i,i<zs.length→w.cell? ⟨b,off+i,none⟩=some (.int .u8 (zs.getD i 0))) :
  Calls Tryz.prog 229 #[.slice (some ⟨b,off,none⟩) zs.length cp,.slice (some ⟨r,0,none⟩) n c,.func (.func fn) #[.pointer (some ⟨sh,0,none⟩)] #[]] w fun e w'=>Hid (∃ x,e=.returned (.slice (some ⟨x,0,none⟩) zs.length zs.length)∧w.heap.size≤x∧Bx w' x 5 (Wv E f zs k)∧I w'∧Gk Ks w w'):=by
 obtain ⟨w1,hw1⟩:∃ w1,w1=(w.alloc (.cells #[.slice (some ⟨r,0,none⟩) n c] 237)).alloc (.cells #[.func (.func fn) #[.pointer (some ⟨sh,0,none⟩)] #[]] 52):=⟨_,rfl⟩
 have hBw:B≤w.heap.size:=hC.size w hI
 have hb1:Below w.heap.size w w1:=by rw[hw1];exact ((Below.refl _ _).alloc (Nat.le_refl _) _).alloc (by simp) _
 have hs1:w1.heap.size=w.heap.size+2:=by rw[hw1];simp
 have cc:∀ b o x,w.cell? ⟨b,o,none⟩=some x→w1.cell? ⟨b,o,none⟩=some x:=fun b o x hx=>(hb1.cell (World.block_lt_of_cell? w _ hx)).trans hx
 have HM:Hid (MkX Ks I fn sh (w.heap.size+1) w.heap.size r 0 n c f w1):=by
  have c2:Bx w1 w.heap.size 237 [.slice (some ⟨r,0,none⟩) n c]:=by rw[hw1];exact (Bx.new w 237 [.slice (some ⟨r,0,none⟩) n c]).below ((Below.refl _ _).alloc (Nat.le_refl _) _)
  have c3:Bx w1 (w.heap.size+1) 52 [.func (.func fn) #[.pointer (some ⟨sh,0,none⟩)] #[]]:=by rw[hw1];have q:=Bx.new (w.alloc (.cells #[.slice (some ⟨r,0,none⟩) n c] 237)) 52 [.func (.func fn) #[.pointer (some ⟨sh,0,none⟩)] #[]];simpa using q
  exact ⟨hC.below hI hb1,c3.cell 0 _ rfl,c2.cell 0 _ rfl,fun j hj i x hx=>cc _ _ _ (rg j hj i x hx),hC.new (by omega),hC.new hBw,n4⟩
 have hrl:r<w.heap.size:=World.block_lt_of_cell? w _ (rg 0 (by omega) 0 _ (Fd.X5 _ 0 (by decide)))
 have hbl:b<w.heap.size:=World.block_lt_of_cell? w _ (hz 0 (by omega))
 obtain ⟨J,HJ⟩:∃ J,Hid (J=MdJ Ks I fn sh (w.heap.size+1) w.heap.size r n c f b off zs w1):=⟨_,rfl⟩
 have hLow:Fv w1.heap.size J:=by rw[HJ.out];exact MdJ.low hC (by omega) rfl (by omega) (by omega) (by omega) (by omega)
 have hJ0:J 0 w1:=by rw[HJ.out];exact ⟨HM.out,fun i hi=>cc _ _ _ (hz i hi),fun _ _ _=>rfl⟩
 obtain ⟨F,HF⟩:∃ F,Hid (F=Ww E f zs):=⟨_,rfl⟩
 have HK:Hid (∀ j v u,j<n→J 0 u→w1.heap.size≤u.heap.size→Calls Tryz.prog 243 #[.int .i64 (j:Nat),Fd.BV v,.pointer (some ⟨w.heap.size+1,0,none⟩),.pointer (some ⟨w.heap.size,0,none⟩)] u fun e w'=>Hid (e=.returned (Fd.BV (E (v ^^^ f j) ^^^ f j))∧J 0 w'∧Gk Ks u w')):=fun j v u hj hu hsz=>by
  rw[HJ.out] at hu ⊢
  obtain ⟨h1,h2,h3⟩:=hu
  refine (C5 hC fn sh _ _ r 0 n c j hE E f v u HDO h1 hj hnc).mono ?_
  intro e w' hh
  obtain ⟨rfl,k1,k2⟩:=hh.out
  exact ⟨rfl,⟨k1,fun i hi=>k2.cell hbg (h2 i hi),fun c hc hn=>(k2.block c (by omega) hn).trans (h3 c hc hn)⟩,k2⟩
 have hJc:∀ j u,J j u→J 0 u:=fun j u h=>by rw[HJ.out] at h ⊢;exact h
 have hJd:∀ j u,J 0 u→J j u:=fun j u h=>by rw[HJ.out] at h ⊢;exact h
 have HB:Hid (Calls Tryz.prog 211 #[.slice (some ⟨b,off,none⟩) zs.length cp,.func (.func 243) #[] #[.pointer (some ⟨w.heap.size+1,0,none⟩),.pointer (some ⟨w.heap.size,0,none⟩)]] w1 fun e w'=>Hid (e=.returned (.slice (some ⟨w1.heap.size,0,none⟩) zs.length zs.length)∧BwI J F zs.length w1 w' k)):=by
  refine Va 243 (w.heap.size+1) w.heap.size (fun args w=>Zp Tryz.func243 (by rfl) (by rfl) args w) J F b off cp k zs w1 hLow hJ0 (by omega) (by omega) hl3 hc1 hb (fun j u h i hi=>by rw[HJ.out] at h;exact h.2.1 i hi) (fun j u hj h hsz=>?_)
  refine (HK.out j (cutV zs j) u (by omega) (hJc j u h) hsz).mono ?_
  intro e w' hh
  obtain ⟨rfl,k1,k2⟩:=hh.out
  exact ⟨by rw[HF.out];rfl,hJd _ _ k1,Kp.of_gk k2 (fun c hc=>by have:=hC.low c hc;omega)⟩
 have HEQ:Hid (zs.length=16*k):=hl
 obtain ⟨N,HNL⟩:∃ n,Hid (zs.length=n):=⟨_,rfl⟩
 have HN:Hid (N<16*k+16∧16*k≤N∧N≤cp∧N≤4096∧0<k∧N≤16*n):=by rw[←HNL.out];exact ⟨by omega,by omega,hc1,hl3,hk0,hkn⟩
 rw[HNL.out] at HB ⊢
 obtain ⟨Y,HY⟩:∃ Y,Hid (Y=Wv E f zs k):=⟨_,rfl⟩
 rw[←HY.out]
 have q1:(N:Int).tdiv 16=(k:Int):=by rw[Int.tdiv_eq_ediv_of_nonneg (by omega)];have:=HN.out;omega
 have q3:IntKind.i64.wrap (k:Int)=(k:Int):=by rw[IntKind.wrap_i64];have:=HN.out;omega
 have q4:(N:Int)/16=(k:Int):=by have:=HN.out;omega
 have HJF:Hid (∀ u,BwI J F N w1 u k→I u∧Gk Ks w u):=fun u hu=>by
  have h:=hu.inv
  rw[HJ.out] at h
  refine ⟨h.1.inv,⟨hu.os.trans hb1.os,hu.tape.trans hb1.tape,hu.output.trans hb1.output,Nat.le_trans hb1.size hu.size,fun c hc hn=>(h.2.2 c (by omega) hn).trans (hb1.block c hc)⟩⟩
 have q5:IntKind.i64.wrap ((k:Int)*16)=(N:Int):=by rw[IntKind.wrap_i64];have:=HEQ.out;have:=HNL.out;omega
 obtain ⟨y,d,hsl⟩:∃ y d,sliced (some ⟨b,off,none⟩) N N cp 1=.slice y 0 d:=⟨_,_,by unfold sliced;rw[Nat.sub_self]⟩
 have hS:∀ u:World,(Instr.slice 22 (.slice (some ⟨b,off,none⟩) N cp) (some (.int .i64 (N:Nat))) none none).run Tryz.prog u=.ok (.slice y 0 d) u:=fun u=>by
  rw[Jn u (some ⟨b,off,none⟩) N cp N (Nat.le_refl _) HN.out.2.2.1,hsl]
 have HYF:Hid (Y=bkR F N k):=by
  show _=_
  rw[HY.out,Wv,if_pos HEQ.out,HF.out,Gh _ N k (by rw[←HNL.out];exact HEQ.out)]
 clear hsl hI HDO rg n4 hnc hk0 hl hl3 hkn hc1 hb hbg hz hb1 cc HM hrl hbl hLow hJ0 hJc hJd HK hBw
 go_enter Tryz.func229,Tryz.ntmps229
 go_upto_region 2 with fail
 rw[←hw1]
 clear hw1
 go_wp2_with (first
  | (go_at_call 211;refine HB.out.mono ?_;intro e2 w2 hh;obtain ⟨rfl,h2⟩:=hh.out;have HX:Hid (BwI J F N w1 w2 k):=h2;clear hh h2 HB))
 go_ret
 refine ⟨_,rfl,by omega,?_,(HJF.out _ HX.out).1,(HJF.out _ HX.out).2⟩
 have z:=HX.out.row
 rw[hs1,←HYF.out] at z
 exact z
set_option maxHeartbeats 3200000 in
set_option maxRecDepth 100000 in
theorem Dr {B:Nat} {Ks:Nat→Prop} {I:World→Prop} (hC:Cst B Ks I) (fn sh:Nat) (hE:∀ args u,(callFunc fn args).run Tryz.prog u=.ok (.enter fn args) u) (E:BitVec 128→BitVec 128) (r n c:Nat) (f:Nat→BitVec 128) (b off cp k:Nat) (zs:List Int) (w:World) (hI:I w) (HDO:DoI Ks I fn (.pointer (some ⟨sh,0,none⟩)) E) (rg:∀ j,j<n→w.rangeAt r (0+j*16) (Fd.BL (f j))) (n4:¬ Ks r) (hnc:n≤c)
  (hk0:0<k) (hl1:16*k<zs.length) (hl2:zs.length<16*k+16) (hl3:zs.length≤4096) (hkn:zs.length≤16*n) (hc1:zs.length≤cp) (hb:Zd zs) (hbg:¬ Ks b) (hz:∀ i,i<zs.length→w.cell? ⟨b,off+i,none⟩=some (.int .u8 (zs.getD i 0))) :
  Calls Tryz.prog 229 #[.slice (some ⟨b,off,none⟩) zs.length cp,.slice (some ⟨r,0,none⟩) n c,.func (.func fn) #[.pointer (some ⟨sh,0,none⟩)] #[]] w fun e w'=>Hid (∃ x,e=.returned (.slice (some ⟨x,0,none⟩) zs.length zs.length)∧w.heap.size≤x∧Bx w' x 5 (Wv E f zs k)∧I w'∧Gk Ks w w'):=by
 obtain ⟨w1,hw1⟩:∃ w1,w1=(w.alloc (.cells #[.slice (some ⟨r,0,none⟩) n c] 237)).alloc (.cells #[.func (.func fn) #[.pointer (some ⟨sh,0,none⟩)] #[]] 52):=⟨_,rfl⟩
 have hBw:B≤w.heap.size:=hC.size w hI
 have hb1:Below w.heap.size w w1:=by rw[hw1];exact ((Below.refl _ _).alloc (Nat.le_refl _) _).alloc (by simp) _
 have hs1:w1.heap.size=w.heap.size+2:=by rw[hw1];simp
 have cc:∀ b o x,w.cell? ⟨b,o,none⟩=some x→w1.cell? ⟨b,o,none⟩=some x:=fun b o x hx=>(hb1.cell (World.block_lt_of_cell? w _ hx)).trans hx
 have HM:Hid (MkX Ks I fn sh (w.heap.size+1) w.heap.size r 0 n c f w1):=by
  have c2:Bx w1 w.heap.size 237 [.slice (some ⟨r,0,none⟩) n c]:=by rw[hw1];exact (Bx.new w 237 [.slice (some ⟨r,0,none⟩) n c]).below ((Below.refl _ _).alloc (Nat.le_refl _) _)
  have c3:Bx w1 (w.heap.size+1) 52 [.func (.func fn) #[.pointer (some ⟨sh,0,none⟩)] #[]]:=by rw[hw1];have q:=Bx.new (w.alloc (.cells #[.slice (some ⟨r,0,none⟩) n c] 237)) 52 [.func (.func fn) #[.pointer (some ⟨sh,0,none⟩)] #[]];simpa using q
  exact ⟨hC.below hI hb1,c3.cell 0 _ rfl,c2.cell 0 _ rfl,fun j hj i x hx=>cc _ _ _ (rg j hj i x hx),hC.new (by omega),hC.new hBw,n4⟩
 have hrl:r<w.heap.size:=World.block_lt_of_cell? w _ (rg 0 (by omega) 0 _ (Fd.X5 _ 0 (by decide)))
 have hbl:b<w.heap.size:=World.block_lt_of_cell? w _ (hz 0 (by omega))
 obtain ⟨J,HJ⟩:∃ J,Hid (J=MdJ Ks I fn sh (w.heap.size+1) w.heap.size r n c f b off zs w1):=⟨_,rfl⟩
 have hLow:Fv w1.heap.size J:=by rw[HJ.out];exact MdJ.low hC (by omega) rfl (by omega) (by omega) (by omega) (by omega)
 have hJ0:J 0 w1:=by rw[HJ.out];exact ⟨HM.out,fun i hi=>cc _ _ _ (hz i hi),fun _ _ _=>rfl⟩
 obtain ⟨F,HF⟩:∃ F,Hid (F=Ww E f zs):=⟨_,rfl⟩
 have HK:Hid (∀ j v u,j<n→J 0 u→w1.heap.size≤u.heap.size→Calls Tryz.prog 243 #[.int .i64 (j:Nat),Fd.BV v,.pointer (some ⟨w.heap.size+1,0,none⟩),.pointer (some ⟨w.heap.size,0,none⟩)] u fun e w'=>Hid (e=.returned (Fd.BV (E (v ^^^ f j) ^^^ f j))∧J 0 w'∧Gk Ks u w')):=fun j v u hj hu hsz=>by
  rw[HJ.out] at hu ⊢
  obtain ⟨h1,h2,h3⟩:=hu
  refine (C5 hC fn sh _ _ r 0 n c j hE E f v u HDO h1 hj hnc).mono ?_
  intro e w' hh
  obtain ⟨rfl,k1,k2⟩:=hh.out
  exact ⟨rfl,⟨k1,fun i hi=>k2.cell hbg (h2 i hi),fun c hc hn=>(k2.block c (by omega) hn).trans (h3 c hc hn)⟩,k2⟩
 have hJc:∀ j u,J j u→J 0 u:=fun j u h=>by rw[HJ.out] at h ⊢;exact h
 have hJd:∀ j u,J 0 u→J j u:=fun j u h=>by rw[HJ.out] at h ⊢;exact h
 have HB:Hid (Calls Tryz.prog 211 #[.slice (some ⟨b,off,none⟩) zs.length cp,.func (.func 243) #[] #[.pointer (some ⟨w.heap.size+1,0,none⟩),.pointer (some ⟨w.heap.size,0,none⟩)]] w1 fun e w'=>Hid (e=.returned (.slice (some ⟨w1.heap.size,0,none⟩) zs.length zs.length)∧BwI J F zs.length w1 w' k)):=by
  refine Va 243 (w.heap.size+1) w.heap.size (fun args w=>Zp Tryz.func243 (by rfl) (by rfl) args w) J F b off cp k zs w1 hLow hJ0 (by omega) (by omega) hl3 hc1 hb (fun j u h i hi=>by rw[HJ.out] at h;exact h.2.1 i hi) (fun j u hj h hsz=>?_)
  refine (HK.out j (cutV zs j) u (by omega) (hJc j u h) hsz).mono ?_
  intro e w' hh
  obtain ⟨rfl,k1,k2⟩:=hh.out
  exact ⟨by rw[HF.out];rfl,hJd _ _ k1,Kp.of_gk k2 (fun c hc=>by have:=hC.low c hc;omega)⟩
 have HEQ:Hid (¬ zs.length=16*k):=(by omega:¬ zs.length=16*k)
 obtain ⟨N,HNL⟩:∃ n,Hid (zs.length=n):=⟨_,rfl⟩
 have HN:Hid (N<16*k+16∧16*k≤N∧N≤cp∧N≤4096∧0<k∧N≤16*n):=by rw[←HNL.out];exact ⟨by omega,by omega,hc1,hl3,hk0,hkn⟩
 rw[HNL.out] at HB ⊢
 obtain ⟨Y,HY⟩:∃ Y,Hid (Y=Wv E f zs k):=⟨_,rfl⟩
 rw[←HY.out]
 have q1:(N:Int).tdiv 16=(k:Int):=by rw[Int.tdiv_eq_ediv_of_nonneg (by omega)];have:=HN.out;omega
 have q3:IntKind.i64.wrap (k:Int)=(k:Int):=by rw[IntKind.wrap_i64];have:=HN.out;omega
 have q4:(N:Int)/16=(k:Int):=by have:=HN.out;omega
 have HJF:Hid (∀ u,BwI J F N w1 u k→I u∧Gk Ks w u):=fun u hu=>by
  have h:=hu.inv
  rw[HJ.out] at h
  refine ⟨h.1.inv,⟨hu.os.trans hb1.os,hu.tape.trans hb1.tape,hu.output.trans hb1.output,Nat.le_trans hb1.size hu.size,fun c hc hn=>(h.2.2 c (by omega) hn).trans (hb1.block c hc)⟩⟩
 obtain ⟨rr,HRR⟩:∃ r,Hid (N-16*k=r):=⟨_,rfl⟩
 obtain ⟨o16,HO⟩:∃ o,Hid (16*k=o):=⟨_,rfl⟩
 obtain ⟨km,HKM⟩:∃ o,Hid (k-1=o):=⟨_,rfl⟩
 have HRL:Hid (0<rr∧rr<16∧N=o16+rr∧k=km+1∧o16=16*k):=by have:=HRR.out;have:=HN.out;have:=HO.out;have:=HKM.out;have:=HEQ.out;have:=HNL.out;exact ⟨by omega,by omega,by omega,by omega,by omega⟩
 have q5:IntKind.i64.wrap ((k:Int)*16)=(o16:Int):=by rw[IntKind.wrap_i64];have:=HRL.out;have:=HN.out;omega
 have q6:IntKind.i64.wrap ((k:Int)-1)=(km:Int):=by rw[IntKind.wrap_i64];have:=HRL.out;have:=HN.out;omega
 have g0:(0:Int)<(rr:Int):=by have:=HRL.out;omega
 have hS:∀ u:World,(Instr.slice 22 (.slice (some ⟨b,off,none⟩) N cp) (some (.int .i64 (o16:Nat))) none none).run Tryz.prog u=.ok (.slice (some ⟨b,off+o16,none⟩) rr (cp-o16)) u:=fun u=>by
  rw[Jn u (some ⟨b,off,none⟩) N cp o16 (by have:=HRL.out;omega) HN.out.2.2.1,sliced,if_neg (by have:=HRL.out;have:=HN.out;omega),Option.map_some,Nat.mul_one,Addr.add_mid,show N-o16=rr by have:=HRL.out;omega]
 have hS2:∀ (u:World) (x:Nat),(Instr.slice 22 (.slice (some ⟨x,0,none⟩) N N) (some (.int .i64 (o16:Nat))) none none).run Tryz.prog u=.ok (.slice (some ⟨x,o16,none⟩) rr rr) u:=fun u x=>by
  rw[Jn u (some ⟨x,0,none⟩) N N o16 (by have:=HRL.out;omega) (Nat.le_refl _),sliced,if_neg (by have:=HRL.out;have:=HN.out;omega),Option.map_some,Nat.mul_one,Addr.add_mid,show N-o16=rr by have:=HRL.out;omega,Nat.zero_add]
 obtain ⟨LF,HLF⟩:∃ L,Hid (L=Fd.BL (F km)):=⟨_,rfl⟩
 obtain ⟨xb,HXB⟩:∃ v,Hid (v=stB zs k rr (F km)):=⟨_,rfl⟩
 obtain ⟨LX,HLX⟩:∃ L,Hid (L=Fd.BL xb):=⟨_,rfl⟩
 obtain ⟨yb,HYB⟩:∃ v,Hid (v=E (xb ^^^ f k) ^^^ f k):=⟨_,rfl⟩
 obtain ⟨cs,HCS⟩:∃ L,Hid (L=Za (zs.drop (16*k))):=⟨_,rfl⟩
 have HLL:Hid (LF.length=16∧(∀ x∈LF,x.oneCell'=true)∧cs.length=rr∧(∀ x∈cs,x.oneCell'=true)∧splice LF 0 cs=LX∧LX.length=16):=by
  rw[HLF.out,HCS.out,HLX.out,HXB.out]
  refine ⟨Fd.Zl _,Yh _,?_,?_,Lo hb k rr (F km) (by have:=HRL.out;have:=HNL.out;omega) HRL.out.2.1,Fd.Zl _⟩
  ·simp [Za];have:=HRL.out;have:=HNL.out;omega
  ·intro v hv
   simp only[Za,List.mem_map] at hv
   obtain ⟨z,_,rfl⟩:=hv
   rfl
 have HCUT:Hid (∀ u,Bx u w1.heap.size 5 (bkR F N k)→Calls Tryz.prog 197 #[.slice (some ⟨w1.heap.size,0,none⟩) N N,.int .i64 (km:Nat)] u fun e w'=>Hid (e=.returned (.agg LF.toArray)∧Below u.heap.size u w')):=fun u hu=>by
  have q:=N4 w1.heap.size 0 N km (bkZ F N k) u (by rw[Y0];have:=HRL.out;have:=HN.out;omega) (by rw[Y0];exact Nat.le_refl _) (by rw[Y0];have:=HN.out;omega) (Wf F N k) (fun i hi=>by
   rw[Y0] at hi
   rw[Nat.zero_add]
   exact hu.cell i _ (U1 F N k i HN.out.2.1 hi))
  rw[Y0,Qy F N k km HN.out.2.1 (by have:=HRL.out;omega)] at q
  rw[HLF.out]
  exact q
 have HMK:Hid (∀ u,J 0 u→w1.heap.size≤u.heap.size→Calls Tryz.prog 243 #[.int .i64 (k:Nat),.agg LX.toArray,.pointer (some ⟨w.heap.size+1,0,none⟩),.pointer (some ⟨w.heap.size,0,none⟩)] u fun e w'=>Hid (e=.returned (Fd.BV yb)∧J 0 w'∧Gk Ks u w')):=fun u hu hsz=>by
  rw[HLX.out,HYB.out];exact HK.out k xb u (by have:=HRL.out;have:=HN.out;omega) hu hsz
 have HJZ:Hid (∀ u,J 0 u→∀ i x,cs[i]?=some x→u.cell? ((⟨b,off+o16,none⟩:Addr).add i)=some x):=fun u hu i x hx=>by
  rw[HJ.out] at hu
  have hi:i<rr:=by have:=(List.getElem?_eq_some_iff.1 hx).1;have:=HLL.out.2.2.1;omega
  have hlt:16*k+i<zs.length:=by have:=HRL.out;have:=HNL.out;omega
  rw[HCS.out] at hx
  simp only[Za,List.getElem?_map,List.getElem?_drop,List.getElem?_eq_getElem hlt,Option.map_some,Option.some.injEq] at hx
  subst hx
  rw[Addr.add_mid,show off+o16+i=off+(16*k+i) by have:=HRL.out;omega,hu.2.1 _ hlt,List.getD_eq_getElem?_getD,List.getElem?_eq_getElem hlt]
  rfl
 have HY2:Hid (splice (splice (bkR F N k) o16 (LF.take rr)) (16*km) (Fd.BL yb)=Y):=by
  show _=_
  rw[HY.out,Wv,if_neg HEQ.out,HNL.out,HKM.out,←HF.out,Tg,HNL.out,HRR.out,HKM.out,←HF.out,←HXB.out,←HYB.out,←HLF.out]
  have e:splice (bkR F N k) o16 (LF.take rr)=bkL F k++LF.take rr:=by
   have hlt:(LF.take rr).length=rr:=by rw[List.length_take,HLL.out.1];have:=HRL.out;omega
   rw[bkR,splice,hlt,List.take_append_of_le_length (by rw[Z2];have:=HRL.out;omega),List.take_of_length_le (by rw[Z2];have:=HRL.out;omega),List.drop_of_length_le (by rw[List.length_append,Z2,List.length_replicate];have:=HRL.out;omega),List.append_nil]
  rw[e]
 have HJG:Hid (∀ u,J 0 u→Ot w1 u→I u∧Gk Ks w u):=fun u hu ho=>by
  rw[HJ.out] at hu
  exact ⟨hu.1.inv,⟨ho.os.trans hb1.os,ho.tape.trans hb1.tape,ho.output.trans hb1.output,Nat.le_trans hb1.size ho.size,fun c hc hn=>(hu.2.2 c (by omega) hn).trans (hb1.block c hc)⟩⟩
 have HSZ:Hid (B≤w.heap.size∧w1.heap.size=w.heap.size+2):=⟨hBw,hs1⟩
 have hJ0:True:=trivial
 clear hI HDO rg n4 hnc hk0 hl1 hl2 hl3 hkn hc1 hb hbg hz hb1 cc HM hrl hbl hJ0 HK hBw HF
 go_enter Tryz.func229,Tryz.ntmps229
 go_upto_region 2 with fail
 rw[←hw1]
 clear hw1
 obtain ⟨x,HXX⟩:∃ x,Hid (w1.heap.size=x):=⟨_,rfl⟩
 obtain ⟨p,HPP⟩:∃ x,Hid (w.heap.size=x):=⟨_,rfl⟩
 rw[HXX.out] at HB HCUT
 rw[HPP.out] at HB HMK ⊢
 go_upto_region 6 with (first
  | (go_at_call 211;refine HB.out.mono ?_;intro e2 w2 hh;obtain ⟨rfl,h2⟩:=hh.out;have HX:Hid (BwI J F N w1 w2 k):=h2;clear hh h2 HB))
 have HX0:Hid (J 0 w2∧Bx w2 x 5 (bkR F N k)∧w1.heap.size≤w2.heap.size):=⟨hJc _ _ HX.out.inv,by rw[←HXX.out];exact HX.out.row,HX.out.size⟩
 go_upto_region 7 with (first
  | (go_at_call 197;refine (HCUT.out _ HX0.out.2.1).mono ?_;intro e3 w3 hh;obtain ⟨rfl,hb3⟩:=hh.out;have HB3:Hid (Below w2.heap.size w2 w3):=hb3;clear hh hb3)
  | (refine Ze (by rfl) 27 (.tmp 11) (.tmp 29) (by rfl) ZZ LF w3.heap.size (by rfl) (by rfl) (Bx.new w3 27 ZZ) (by rw[HLL.out.1];rfl) (by rw[HLL.out.1];kernel_rfl) HLL.out.2.1 ?_;intro w4 hb4 hg4;have HB4:Hid (Bx w4 w3.heap.size 27 LF∧Below w3.heap.size w3 w4):=⟨hb4,((Below.refl _ _).alloc (Nat.le_refl _) _).trans (Zm hg4 (by simp) (Nat.le_refl _))⟩;clear hb4 hg4))
 obtain ⟨y,HYY⟩:∃ x,Hid (w3.heap.size=x):=⟨_,rfl⟩
 rw[HYY.out] at HB4 ⊢
 have HL4:Hid (J 0 w4∧Bx w4 x 5 (bkR F N k)∧Bx w4 y 27 LF∧x<y∧w1.heap.size≤w4.heap.size):=by
  have s2:=HX0.out.2.2
  have s3:=HB3.out.size
  have s4:=HB4.out.2.size
  have hy:=HYY.out
  have hb4:Below w2.heap.size w2 w4:=HB3.out.trans (HB4.out.2.mono (by omega))
  exact ⟨hLow 0 w2 w4 HX0.out.1 s2 (fun c hc=>hb4.block c (by omega)) hb4.size,HX0.out.2.1.below hb4,HB4.out.1,by have:=HX0.out.2.1.lt;omega,by omega⟩
 have HO4:Hid (Ot w1 w4):=(Ot.of_bwi HX.out).below (HB3.out.trans (HB4.out.2.mono (by have:=HB3.out.size;have:=HYY.out;omega)))
 clear HB3 HB4 HX0 HX
 have HTK:Hid ((LF.take rr).length=Nat.min 16 rr∧(∀ x∈LF.take rr,x.oneCell'=true)∧o16+(LF.take rr).length≤(bkR F N k).length):=by
  have hlt:(LF.take rr).length=rr:=by rw[List.length_take,HLL.out.1];have:=HRL.out;omega
  refine ⟨by rw[hlt];have:=HRL.out;exact (Nat.min_eq_right (by omega)).symm,fun v hv=>HLL.out.2.1 v (List.mem_of_mem_take hv),?_⟩
  rw[hlt,Gg F N k HN.out.2.1];have:=HRL.out;omega
 have HD4:Hid (∀ q,Bx (w4.drewN q) x 5 (bkR F N k)∧Bx (w4.drewN q) y 27 LF):=fun q=>⟨HL4.out.2.1.below (Below.drewN (Below.refl _ _) _),HL4.out.2.2.1.below (Below.drewN (Below.refl _ _) _)⟩
 go_region_held3 (fun _=>True) (first | trivial | go_keep)
  (first
   | (refine Vg rfl (.tmp 33) (.tmp 34) rfl Tryz.underlying22 (by kernel_rfl) x o16 rr rr 16 16 ⟨y,0,none⟩ (by first | rfl | simp) (by first | rfl | simp) (bkR F N k) 5 (by first | exact HL4.out.2.1 | exact (HD4.out 1).1) (LF.take rr) HTK.out.1 (fun i v hv=>by rw[Addr.add_mid];rw[List.getElem?_take] at hv;split at hv<;>first | cases hv | exact HL4.out.2.2.1.range i v hv | exact (HD4.out 1).2.range i v hv) HTK.out.2.2 HTK.out.2.1 ?_;intro w5 HG5 HB5))
 have HL5:Hid (J 0 w5∧Bx w5 x 5 (splice (bkR F N k) o16 (LF.take rr))∧Bx w5 y 27 LF∧Ot w1 w5∧w1.heap.size≤w5.heap.size):=by
  have hg:w4.grownBy w5 (some x):=by
   have q:=HB5.out
   exact ⟨q.os,q.tape,q.output,q.size,q.block⟩
  have hxy:=HL4.out.2.2.2.1
  exact ⟨hLow 0 w4 w5 HL4.out.1 HL4.out.2.2.2.2 (fun c hc=>hg.block c (by have:=HL4.out.2.2.2.2;omega) (fun e=>by injection e with e;have:=HXX.out;omega)) hg.size,HG5.out,HL4.out.2.2.1.keep (hg.block y HL4.out.2.2.1.lt (fun e=>by injection e with e;omega)),HO4.out.gb hg,Nat.le_trans HL4.out.2.2.2.2 hg.size⟩
 have HXY:Hid (x<y):=HL4.out.2.2.2.1
 clear HG5 HB5 HL4 HD4 HO4
 go_upto_region 9 with (first
  | (refine wpList_copy_splice rfl (.tmp 36) (.tmp 37) 22 22 rfl 5 Tryz.underlying22 (by kernel_rfl) _ _ 16 16 rr _ rfl rfl y 0 LF 27 HL5.out.2.2.1 cs (by rw[HLL.out.2.2.1];exact (Nat.min_eq_left (by have:=HRL.out;omega)).symm) (fun _=>⟨rfl,_,rfl,HJZ.out w5 HL5.out.1⟩) (by rw[HLL.out.2.2.1,HLL.out.1];have:=HRL.out;omega) HLL.out.2.2.2.1 y w5 (Below.refl _ _) (Nat.le_refl _) ?_;intro w6 HG6 hb6;have HB6:Hid (Below y w5 w6):=hb6;clear hb6))
 have HL6:Hid (J 0 w6∧Bx w6 x 5 (splice (bkR F N k) o16 (LF.take rr))∧Bx w6 y 27 LX∧Ot w1 w6∧w1.heap.size≤w6.heap.size):=by
  have hb:=HB6.out
  have hxy:=HXY.out
  have q:=HG6.out
  rw[HLL.out.2.2.2.2.1] at q
  exact ⟨hLow 0 w5 w6 HL5.out.1 HL5.out.2.2.2.2 (fun c hc=>hb.block c (by have:=HXX.out;omega)) hb.size,HL5.out.2.1.keep (hb.block x hxy),q,HL5.out.2.2.2.1.below hb,Nat.le_trans HL5.out.2.2.2.2 hb.size⟩
 clear HG6 HB6 HL5
 have HLAY:Hid (∀ u,Bx u x 5 (splice (bkR F N k) o16 (LF.take rr))→Calls Tryz.prog 234 #[.slice (some ⟨x,0,none⟩) N N,.int .i64 (km:Nat),Fd.BV yb] u fun e w'=>Hid (e=.returned (.tuple #[])∧Bx w' x 5 Y∧u.grownBy w' (some x))):=fun u hu=>by
  have hlt:(LF.take rr).length=rr:=by rw[List.length_take,HLL.out.1];have:=HRL.out;omega
  have q:=Nq x N N km yb _ u (by have:=HRL.out;omega) (Nat.le_refl _) (by have:=HN.out;omega) (by simp only[splice,List.length_append,List.length_take,List.length_drop,Gg F N k HN.out.2.1,hlt];have:=HRL.out;omega) hu
  rw[HY2.out] at q
  exact q
 go_wp2_with (first
  | (refine wpList_load_mid (by rfl) 27 (.tmp 11) (by rfl) y 0 (by rfl) LX _ HL6.out.2.2.1.range Tryz.underlying27 rfl (by rw[HLL.out.2.2.2.2.2];kernel_rfl) ?_)
  | (go_at_call 243;refine (HMK.out _ HL6.out.1 HL6.out.2.2.2.2).mono ?_;intro e7 w7 hh;obtain ⟨rfl,hk7,hg7⟩:=hh.out;have HL7:Hid (J 0 w7∧Bx w7 x 5 (splice (bkR F N k) o16 (LF.take rr))∧Ot w1 w7∧w1.heap.size≤w7.heap.size):=⟨hk7,HL6.out.2.1.gk hg7 (hC.new (by have:=HSZ.out;have:=HXX.out;omega)),HL6.out.2.2.2.1.gk hg7,Nat.le_trans HL6.out.2.2.2.2 hg7.size⟩;clear hh hk7 hg7 HMK)
  | (go_at_call 234;refine (HLAY.out _ HL7.out.2.1).mono ?_;intro e8 w8 hh;obtain ⟨rfl,hx8,hg8⟩:=hh.out;have HL8:Hid (J 0 w8∧Bx w8 x 5 Y∧Ot w1 w8):=⟨hLow 0 w7 w8 HL7.out.1 HL7.out.2.2.2 (fun c hc=>hg8.block c (by have:=HL7.out.2.2.2;omega) (fun e=>by injection e with e;have:=HXX.out;omega)) hg8.size,hx8,HL7.out.2.2.1.gb hg8⟩;clear hh hx8 hg8 HLAY))
 go_ret
 refine ⟨x,rfl,?_,HL8.out.2.1,?_⟩
 ·have:=HSZ.out;have:=HXX.out;have:=HPP.out;omega
 ·exact HJG.out _ HL8.out.1 HL8.out.2.2
structure CbX (B:Nat) (Ks:Nat→Prop) (I:World→Prop) (sh p q:Nat) (a:BitVec 128) (u:World):Prop where
 inv:I u
 cp:u.cell? ⟨p,0,none⟩=some (.pointer (some ⟨sh,0,none⟩))
 bq:Bx u q 27 (Fd.BL a)
 pB:B≤p
 qB:B≤q
 ne:p≠q
theorem CbX.grown {B:Nat} {Ks:Nat→Prop} {I:World→Prop} {sh p q:Nat} {a:BitVec 128} {u v:World} (h:CbX B Ks I sh p q a u) (hC:Cst B Ks I) (hk:Gk Ks u v) (hi:I v):CbX B Ks I sh p q a v:=
 ⟨hi,hk.cell (hC.new h.pB) h.cp,h.bq.gk hk (hC.new h.qB),h.pB,h.qB,h.ne⟩
theorem CbX.below {B:Nat} {Ks:Nat→Prop} {I:World→Prop} {sh p q:Nat} {a:BitVec 128} {u v:World} (h:CbX B Ks I sh p q a u) (hC:Cst B Ks I) (hb:Below u.heap.size u v):CbX B Ks I sh p q a v:=h.grown hC (Gk.of_below hb) (hC.below h.inv hb)
def KsQ (Ks:Nat→Prop) (q:Nat) (c:Nat):Prop:=Ks c∨c=q
theorem Gk.wide {Ks:Nat→Prop} {u v:World} (h:Gk Ks u v) (q:Nat):Gk (KsQ Ks q) u v:=⟨h.os,h.tape,h.output,h.size,fun c hc hn=>h.block c hc (fun e=>hn (.inl e))⟩
theorem CbX.write {B:Nat} {Ks:Nat→Prop} {I:World→Prop} {sh p q:Nat} {a b:BitVec 128} {u v:World} (h:CbX B Ks I sh p q a u) (hC:Cst B Ks I) (hb:u.grownBy v (some q)) (hq:Bx v q 27 (Fd.BL b)):CbX B Ks I sh p q b v:=
 ⟨hC.gb h.inv hb h.qB,by rw[World.cell?_of_block (a:=⟨p,0,none⟩) (hb.block p (World.block_lt_of_cell? u _ h.cp) (fun e=>h.ne (by injection e)))];exact h.cp,hq,h.pB,h.qB,h.ne⟩
def CbS (sh p q m:Nat) (L X:List Value) (u:World):Prop:=u.cell? ⟨p,0,none⟩=some (.pointer (some ⟨sh,0,none⟩))∧u.rangeAt m 0 L∧u.rangeAt q 0 X∧u.there q 0 16
set_option maxHeartbeats 1600000 in
set_option maxRecDepth 100000 in
theorem E4 {B:Nat} {Ks:Nat→Prop} {I:World→Prop} (hC:Cst B Ks I) (sh p q:Nat) (j:Int) (E:BitVec 128→BitVec 128) (a v:BitVec 128) (w:World) (HDO:DoI Ks I 190 (.pointer (some ⟨sh,0,none⟩)) E) (h:CbX B Ks I sh p q a w) :
  Calls Tryz.prog 215 #[.int .i64 j,Fd.BV v,.pointer (some ⟨p,0,none⟩),.pointer (some ⟨q,0,none⟩)] w fun e w'=>Hid (e=.returned (Fd.BV (E (v ^^^ a)))∧CbX B Ks I sh p q (E (v ^^^ a)) w'∧Gk (KsQ Ks q) w w'):=by
 obtain ⟨L,HL⟩:∃ L,Hid (L=Fd.BL v):=⟨_,rfl⟩
 obtain ⟨X,HX⟩:∃ X,Hid (X=Fd.BL a):=⟨_,rfl⟩
 obtain ⟨L2,HL2⟩:∃ X,Hid (X=Fd.BL (v ^^^ a)):=⟨_,rfl⟩
 obtain ⟨L3,HL3⟩:∃ X,Hid (X=Fd.BL (E (v ^^^ a))):=⟨_,rfl⟩
 have HX1:Hid (∀ u,Calls Tryz.prog 196 #[.agg L.toArray,.agg X.toArray] u fun e w'=>Hid (e=.returned (.agg L2.toArray)∧Below u.heap.size u w')):=fun u=>by
  rw[HL.out,HX.out,HL2.out];exact (Fd.Bo v a u).mono fun e w' hh=>hh
 have HE:Hid (∀ u,I u→Calls Tryz.prog 190 #[.pointer (some ⟨sh,0,none⟩),.agg L2.toArray] u fun e w'=>Hid (e=.returned (.agg L3.toArray)∧I w'∧Gk Ks u w')):=fun u hu=>by
  rw[HL2.out,HL3.out];exact HDO (v ^^^ a) u hu
 have HLN:Hid (L.length=16∧X.length=16∧L3.length=16∧(∀ x∈L3,x.oneCell'=true)):=by rw[HL.out,HX.out,HL3.out];exact ⟨rfl,rfl,rfl,Yh _⟩
 show Calls Tryz.prog 215 #[_,.agg (Fd.BL v).toArray,_,_] w fun e w'=>Hid (e=.returned (.agg (Fd.BL (E (v ^^^ a))).toArray)∧_)
 rw[←HL.out,←HL3.out]
 obtain ⟨w1,hw1⟩:∃ w1,w1=(w.alloc (.cells L.toArray 27)).alloc (.cells ZZ.toArray 27):=⟨_,rfl⟩
 have HB1:Hid (Bx w1 w.heap.size 27 L∧Bx w1 (w.heap.size+1) 27 ZZ∧Below w.heap.size w w1∧CbX B Ks I sh p q a w1∧B≤w.heap.size∧q<w.heap.size):=by
  have hb:Below w.heap.size w w1:=by rw[hw1];exact ((Below.refl _ _).alloc (Nat.le_refl _) _).alloc (by simp) _
  refine ⟨?_,?_,hb,h.below hC hb,hC.size w h.inv,h.bq.lt⟩
  ·rw[hw1];exact (Bx.new w 27 L).below ((Below.refl _ _).alloc (Nat.le_refl _) _)
  ·rw[hw1];have q:=Bx.new (w.alloc (.cells L.toArray 27)) 27 ZZ;simpa using q
 have hw2:w1=(w.alloc (.cells L.toArray 27)).alloc (.cells #[.int .u8 0,.int .u8 0,.int .u8 0,.int .u8 0,.int .u8 0,.int .u8 0,.int .u8 0,.int .u8 0,.int .u8 0,.int .u8 0,.int .u8 0,.int .u8 0,.int .u8 0,.int .u8 0,.int .u8 0,.int .u8 0] 27):=hw1
 clear hw1 h HDO
 go_enter Tryz.func215,Tryz.ntmps215
 go_upto_region 1 with fail
 rw[←hw2]
 clear hw2
 obtain ⟨m,HMM⟩:∃ m,Hid (w.heap.size=m):=⟨_,rfl⟩
 rw[HMM.out] at HB1 ⊢
 have HW1:Hid (m+1<w1.heap.size):=HB1.out.2.1.lt
 have hU:Tryz.prog.underlying 27=some (.array 16 5):=Tryz.underlying27
 have hiL:(Tryz.prog.info? 27).map (·.size)=some L.length:=by rw[HLN.out.1];kernel_rfl
 have hiX:(Tryz.prog.info? 27).map (·.size)=some X.length:=by rw[HLN.out.2.1];kernel_rfl
 have hi3:(Tryz.prog.info? 27).map (·.size)=some L3.length:=by rw[HLN.out.2.2.1];kernel_rfl
 have h316:L3.length=16:=HLN.out.2.2.1
 have h31:∀ v∈L3,v.oneCell'=true:=HLN.out.2.2.2
 have HR:Hid (∀ u,CbX B Ks I sh p q a u→Bx u m 27 L→CbS sh p q m L X u):=fun u a b=>by rw[HX.out];exact ⟨a.cp,b.range,a.bq.range,Y7 a.bq rfl⟩
 have hS1:=HR.out w1 HB1.out.2.2.2.1 HB1.out.1
 have hS0:CbS sh p q m L X w1.drew:=by
  obtain ⟨c1,c2,c3,c4⟩:=hS1
  exact ⟨by simpa using c1,by simpa using c2,by simpa using c3,by simpa using c4⟩
 refine wp_region_noPanic ?_
 refine Yl (fun u=>CbS sh p q m L X u) 6 (by kernel_rfl) (by decide) (by decide +kernel) (by decide +kernel) (by decide +kernel) (fun inv=>?_)
 refine tT 0 7 (.pointer (some ⟨p,0,none⟩)) inv rfl rfl (by decide +kernel) hS0 (Or.inl ⟨by rfl,fun w' hS'=>by obtain ⟨c1,c2,c3,c4⟩:=hS';go_simp⟩) (fun inv=>?_)
 simp only[pU]
 refine tT 1 8 (.pointer (some ⟨sh,0,none⟩)) inv rfl rfl (by decide +kernel) hS0 (Or.inl ⟨by rfl,fun w' hS'=>by obtain ⟨c1,c2,c3,c4⟩:=hS';go_simp⟩) (fun inv=>?_)
 simp only[pU]
 refine tT 2 9 (.agg L.toArray) inv rfl rfl (by decide +kernel) hS0 (yieldsIf_load_mid (by rfl) 27 (.tmp 5) rfl m 0 rfl L _ (fun u hu=>hu.2.1) Tryz.underlying27 rfl hiL) (fun inv=>?_)
 simp only[pU]
 refine tT 3 10 (.agg X.toArray) inv rfl rfl (by decide +kernel) hS0 (yieldsIf_load_mid (by rfl) 27 (.tmp 3) rfl q 0 rfl X _ (fun u hu=>hu.2.2.1) Tryz.underlying27 rfl hiX) (fun inv=>?_)
 simp only[pU]
 refine Ye (i:=4) inv (by decide +kernel) (by decide) rfl (fun KK hK=>?_)
 go_simp
 refine (HX1.out _).mono ?_
 intro e2 w2 hh
 obtain ⟨rfl,hb2⟩:=hh.out
 have HB2:Hid (Bx w2 m 27 L∧Bx w2 (m+1) 27 ZZ∧Below w1.heap.size w1 w2∧CbX B Ks I sh p q a w2):=(have hb:=(Below.refl w1.heap.size w1).drew.trans hb2;⟨HB1.out.1.below hb,HB1.out.2.1.below hb,hb,HB1.out.2.2.2.1.below hC hb⟩)
 clear hh hb2
 go_wp2_with fail
 refine hK.out _ _ (HR.out w2 HB2.out.2.2.2 HB2.out.1) (fun inv'=>?_)
 clear hK KK inv;have inv:=inv';clear inv'
 try simp only[pU]
 refine Ye (i:=5) inv (by decide +kernel) (by decide) rfl (fun KK hK=>?_)
 go_simp
 refine (HE.out _ HB2.out.2.2.2.inv).mono ?_
 intro e3 w3 hh
 obtain ⟨rfl,hk3,hg3⟩:=hh.out
 have HB3:Hid (Bx w3 m 27 L∧Bx w3 (m+1) 27 ZZ∧Gk Ks w2 w3∧CbX B Ks I sh p q a w3):=⟨HB2.out.1.gk hg3 (hC.new HB1.out.2.2.2.2.1),HB2.out.2.1.gk hg3 (hC.new (Nat.le_succ_of_le HB1.out.2.2.2.2.1)),hg3,HB2.out.2.2.2.grown hC hg3 hk3⟩
 clear hh hk3 hg3
 go_wp2_with fail
 refine hK.out _ _ (HR.out w3 HB3.out.2.2.2 HB3.out.1) (fun inv'=>?_)
 clear hK KK inv;have inv:=inv';clear inv'
 try simp only[pU]
 refine Z6 (i:=6) (by decide +kernel) (by decide) rfl (fun KK hK=>?_)
 rw[if_pos (by rfl)]
 refine wp_store_mid 27 (.tmp 3) (.tmp 12) rfl q 0 L3.toArray rfl rfl (by rw[List.size_toArray,h316];exact Y7 HB3.out.2.2.2.bq (Fd.Zl _)) (by rw[List.size_toArray];exact hi3) (all_oneCell_toArray h31) ?_
 refine hK.out _ _ ?_
 clear hK KK
 try simp only[pU]
 refine X2 (by decide +kernel) ?_ _
 refine NoPanic.normal ?_
 have HB9:Hid (Bx (w3.setCells q 0 L3.toArray.toList) q 27 L3∧w3.grownBy (w3.setCells q 0 L3.toArray.toList) (some q)):=⟨HB3.out.2.2.2.bq.store L3 (by rw[h316];rfl),Z5 q L3 0 w3⟩
 obtain ⟨u9,hu9⟩:∃ u9,u9=w3.setCells q 0 L3.toArray.toList:=⟨_,rfl⟩
 rw[←hu9] at HB9 ⊢
 have HQM:Hid (q<m):=HB1.out.2.2.2.2.2
 have HBZ:Hid (Bx u9 (m+1) 27 ZZ):=HB3.out.2.1.keep (HB9.out.2.block (m+1) HB3.out.2.1.lt (fun e=>by injection e with e;have:=HQM.out;omega))
 clear hu9 hS0 hS1 inv
 go_wp2_with (first
  | (refine wpList_load_mid (by rfl) 27 (.tmp 3) (by rfl) q 0 (by rfl) L3 _ HB9.out.1.range Tryz.underlying27 rfl hi3 ?_)
  | (refine Ze (by rfl) 27 (.tmp 6) (.tmp 13) (by rfl) ZZ L3 (m+1) (by rfl) (by rfl) HBZ.out (by rw[h316];rfl) hi3 h31 ?_;intro u8 hb8 hg8))
 have hX9:CbX B Ks I sh p q (E (v ^^^ a)) u9:=HB3.out.2.2.2.write hC HB9.out.2 (by rw[←HL3.out];exact HB9.out.1)
 have hX8:CbX B Ks I sh p q (E (v ^^^ a)) u8:=by
  refine ⟨hC.gb hX9.inv hg8 (Nat.le_succ_of_le HB1.out.2.2.2.2.1),?_,hX9.bq.keep (hg8.block q hX9.bq.lt (fun e=>by injection e with e;have:=HQM.out;omega)),hX9.pB,hX9.qB,hX9.ne⟩
  have hpl:p<w1.heap.size:=World.block_lt_of_cell? w1 _ HB1.out.2.2.2.1.cp
  by_cases hpm:p=m+1
  ·exfalso
   have c:=HB3.out.2.2.2.cp
   rw[hpm,HB3.out.2.1.cell 0 (.int .u8 0) rfl] at c
   injection c with c
   cases c
  ·rw[World.cell?_of_block (a:=⟨p,0,none⟩) (hg8.block p (World.block_lt_of_cell? u9 _ hX9.cp) (fun e=>hpm (by injection e)))]
   exact hX9.cp
 have g1:Gk (KsQ Ks q) w w3:=((Gk.of_below (by rw[HMM.out];exact HB1.out.2.2.1)).trans ((Gk.of_below HB2.out.2.2.1).trans HB3.out.2.2.1)).wide q
 have g2:Gk (KsQ Ks q) w u9:=g1.trans (Gk.of_gb HB9.out.2 (.inr rfl))
 have g3:Gk (KsQ Ks q) w u8:=g2.gb hg8 (by rw[HMM.out];omega)
 refine Xl (b:=m+1) L3 rfl rfl hb8.range Tryz.underlying27 rfl hi3 ⟨rfl,hX8,g3⟩
theorem Gk.narrow {Ks:Nat→Prop} {u v x:World} {q:Nat} (h:Gk Ks u v) (k:Gk (KsQ Ks q) v x) (hq:u.heap.size≤q):Gk Ks u x:=
 ⟨k.os.trans h.os,k.tape.trans h.tape,k.output.trans h.output,Nat.le_trans h.size k.size,fun c hc hn=>(k.block c (Nat.lt_of_lt_of_le hc h.size) (fun e=>e.elim hn (fun e=>by omega))).trans (h.block c hc hn)⟩
def cbN (E:BitVec 128→BitVec 128) (z:Nat→BitVec 128) (a:BitVec 128):Nat→BitVec 128
 | 0=>a
 | j+1=>E (z j ^^^ cbN E z a j)
def cbS (E:BitVec 128→BitVec 128) (z:Nat→BitVec 128) (a:BitVec 128) (j:Nat):BitVec 128:=cbN E z a (j+1)
theorem Rp {B:Nat} {Ks:Nat→Prop} {I:World→Prop} (hC:Cst B Ks I) (sh p q:Nat) (E:BitVec 128→BitVec 128) (a:BitVec 128) (b off cp k:Nat) (zs:List Int) (w:World) (h:CbX B Ks I sh p q a w) (HDO:DoI Ks I 190 (.pointer (some ⟨sh,0,none⟩)) E)
  (hl:zs.length=16*k) (hk0:0<k) (hl3:zs.length≤4096) (hc1:zs.length≤cp) (hb:Zd zs) (hbg:¬ KsQ Ks q b) (hz:∀ i,i<zs.length→w.cell? ⟨b,off+i,none⟩=some (.int .u8 (zs.getD i 0))) :
  Calls Tryz.prog 211 #[.slice (some ⟨b,off,none⟩) zs.length cp,.func (.func 215) #[] #[.pointer (some ⟨p,0,none⟩),.pointer (some ⟨q,0,none⟩)]] w fun e w'=>Hid (e=.returned (.slice (some ⟨w.heap.size,0,none⟩) zs.length zs.length)∧Bx w' w.heap.size 5 (bkL (fun j=>cbS E (cutV zs) a j) k)∧I w'∧Gk (KsQ Ks q) w w'):=by
 have hBw:B≤w.heap.size:=hC.size w h.inv
 have hpl:p<w.heap.size:=World.block_lt_of_cell? w _ h.cp
 have hql:q<w.heap.size:=h.bq.lt
 have hbl:b<w.heap.size:=World.block_lt_of_cell? w _ (hz 0 (by omega))
 obtain ⟨J,HJ⟩:∃ J:Nat→World→Prop,Hid (J=fun j u=>CbX B Ks I sh p q (cbN E (cutV zs) a j) u∧(∀ i,i<zs.length→u.cell? ⟨b,off+i,none⟩=some (.int .u8 (zs.getD i 0)))∧(∀ c,c<w.heap.size→¬ KsQ Ks q c→u.heap[c]?=w.heap[c]?)):=⟨_,rfl⟩
 obtain ⟨F,HF⟩:∃ F:Nat→BitVec 128,Hid (F=fun j=>cbS E (cutV zs) a j):=⟨_,rfl⟩
 have hLow:Fv w.heap.size J:=by
  rw[HJ.out]
  intro k u u' h hz hk hsz
  obtain ⟨h1,h2,h3⟩:=h
  have cc:∀ b o x,b<w.heap.size→u.cell? ⟨b,o,none⟩=some x→u'.cell? ⟨b,o,none⟩=some x:=fun b o x hb hx=>by
   rw[World.cell?_of_block (a:=⟨b,o,none⟩) (hk b hb)];exact hx
  exact ⟨⟨hC.stay u u' h1.inv (fun c hc=>hk c (by omega)) hsz,cc _ _ _ hpl h1.cp,h1.bq.keep (hk q hql),h1.pB,h1.qB,h1.ne⟩,fun i hi=>cc _ _ _ hbl (h2 i hi),fun c hc hn=>(hk c hc).trans (h3 c hc hn)⟩
 have hJ0:J 0 w:=by rw[HJ.out];exact ⟨h,hz,fun _ _ _=>rfl⟩
 refine (Va 215 p q (fun args w=>Zp Tryz.func215 (by rfl) (by rfl) args w) J F b off cp k zs w hLow hJ0 (by omega) (by omega) hl3 hc1 hb (fun j u h i hi=>by rw[HJ.out] at h;exact h.2.1 i hi) (fun j u hj h hsz=>?_)).mono ?_
 ·rw[HJ.out] at h ⊢
  obtain ⟨h1,h2,h3⟩:=h
  refine (E4 hC sh p q j E _ (cutV zs j) u HDO h1).mono ?_
  intro e w' hh
  obtain ⟨rfl,k1,k2⟩:=hh.out
  exact ⟨by rw[HF.out];rfl,⟨k1,fun i hi=>k2.cell hbg (h2 i hi),fun c hc hn=>(k2.block c (by omega) hn).trans (h3 c hc hn)⟩,Kp.of_gk k2 (fun c hc=>by rcases hc with hc | rfl;(have:=hC.low c hc;omega);exact hql)⟩
 ·intro e w' hh
  obtain ⟨rfl,hu⟩:=hh.out
  have h:=hu.inv
  rw[HJ.out] at h
  refine ⟨rfl,?_,h.1.inv,⟨hu.os,hu.tape,hu.output,hu.size,fun c hc hn=>h.2.2 c hc hn⟩⟩
  have z:=hu.row
  rw[Gh F _ k hl,HF.out] at z
  exact z
set_option maxHeartbeats 800000 in
set_option maxRecDepth 100000 in
theorem N9 {B:Nat} {Ks:Nat→Prop} {I:World→Prop} (hC:Cst B Ks I) (sh fn:Nat) (cs:Array Value) (hE:∀ args u,(callFunc fn args).run Tryz.prog u=.ok (.enter fn args) u) (E:BitVec 128→BitVec 128) (fi:BitVec 128) (s b off cp k:Nat) (zs:List Int) (w:World) (hI:I w)
  (HF:∀ u,I u→Calls Tryz.prog fn (#[.int .u64 (s:Nat),.int .i64 (zs.length:Nat)]++cs) u fun e w'=>Hid (e=.returned (Fd.BV fi)∧I w'∧Gk Ks u w')) (HDO:DoI Ks I 190 (.pointer (some ⟨sh,0,none⟩)) E)
  (hl:zs.length=16*k) (hk0:0<k) (hl3:zs.length≤4096) (hc1:zs.length≤cp) (hb:Zd zs) (hbg:¬ Ks b) (hz:∀ i,i<zs.length→w.cell? ⟨b,off+i,none⟩=some (.int .u8 (zs.getD i 0))) :
  Calls Tryz.prog 177 #[.agg #[.pointer (some ⟨sh,0,none⟩),.func (.func fn) #[] cs],.int .u64 (s:Nat),.slice (some ⟨b,off,none⟩) zs.length cp] w fun e w'=>Hid (∃ x,e=.returned (.slice (some ⟨x,0,none⟩) zs.length zs.length)∧w.heap.size≤x∧Bx w' x 5 (bkL (fun j=>cbS E (cutV zs) fi j) k)∧I w'∧Gk Ks w w'):=by
 obtain ⟨w1,hw1⟩:∃ w1,w1=w.alloc (.cells #[.pointer (some ⟨sh,0,none⟩),.func (.func fn) #[] cs] 242):=⟨_,rfl⟩
 have hb1:Below w.heap.size w w1:=by rw[hw1];exact (Below.refl _ _).alloc (Nat.le_refl _) _
 have hB1:Bx w1 w.heap.size 242 [.pointer (some ⟨sh,0,none⟩),.func (.func fn) #[] cs]:=by rw[hw1];exact Bx.new w 242 [.pointer (some ⟨sh,0,none⟩),.func (.func fn) #[] cs]
 have hbl:b<w.heap.size:=World.block_lt_of_cell? w _ (hz 0 (by omega))
 obtain ⟨f,Hf⟩:∃ f:Nat→BitVec 128,Hid (f=fun j=>cbS E (cutV zs) fi j):=⟨_,rfl⟩
 have HRW:Hid (∀ u p q,CbX B Ks I sh p q fi u→w.heap.size≤q→Gk Ks w u→Calls Tryz.prog 211 #[.slice (some ⟨b,off,none⟩) zs.length cp,.func (.func 215) #[] #[.pointer (some ⟨p,0,none⟩),.pointer (some ⟨q,0,none⟩)]] u fun e w'=>Hid (e=.returned (.slice (some ⟨u.heap.size,0,none⟩) zs.length zs.length)∧Bx w' u.heap.size 5 (bkL f k)∧I w'∧Gk (KsQ Ks q) u w')):=fun u p q h hq hg=>by
  rw[Hf.out]
  exact Rp hC sh p q E fi b off cp k zs u h HDO hl hk0 hl3 hc1 hb (fun e=>by rcases e with e | rfl;exact hbg e;omega) (fun i hi=>hg.cell hbg (hz i hi))
 obtain ⟨n,HNL⟩:∃ n,Hid (zs.length=n):=⟨_,rfl⟩
 obtain ⟨FI,HFI⟩:∃ L,Hid (L=Fd.BL fi):=⟨_,rfl⟩
 have HFN:Hid (∀ u,I u→Calls Tryz.prog fn (#[.int .u64 (s:Nat),.int .i64 (zs.length:Nat)]++cs) u fun e w'=>Hid (e=.returned (.agg FI.toArray)∧I w'∧Gk Ks u w')):=fun u hu=>by rw[HFI.out];exact HF u hu
 have HLN:Hid (FI.length=16∧(∀ x∈FI,x.oneCell'=true)):=by rw[HFI.out];exact ⟨Fd.Zl _,Yh _⟩
 have HW1:Hid (Below w.heap.size w w1∧Bx w1 w.heap.size 242 [.pointer (some ⟨sh,0,none⟩),.func (.func fn) #[] cs]∧I w1∧B≤w.heap.size):=⟨hb1,hB1,hC.below hI hb1,hC.size w hI⟩
 rw[HNL.out] at HRW HFN ⊢
 rw[←Hf.out]
 have c1:w1.cell? ⟨w.heap.size,1,none⟩=some (.func (.func fn) #[] cs):=hB1.cell 1 _ rfl
 clear hI HF HDO hl hk0 hl3 hc1 hb hbg hz hb1 hB1 hbl
 go_enter Tryz.func177,Tryz.ntmps177
 go_upto_region 1 with fail
 rw[←hw1]
 clear hw1
 obtain ⟨M,HMM⟩:∃ M,Hid (w.heap.size=M):=⟨_,rfl⟩
 rw[HMM.out] at HW1 c1 ⊢
 go_upto_region 2 with (first
  | (refine Ze (by rfl) 27 (.tmp 7) (.tmp 13) (by rfl) ZZ FI w2.heap.size (by rfl) (by rfl) HZB.out (by rw[HLN.out.1];rfl) (by rw[HLN.out.1];kernel_rfl) HLN.out.2 ?_;intro u3 hb3 hg3)
  | (refine (HFN.out _ HW1.out.2.2.1).mono ?_;intro e2 w2 hh;obtain ⟨rfl,hi2,hg2⟩:=hh.out;have H2:Hid (I w2∧Gk Ks w1 w2):=⟨hi2,hg2⟩;have HZB:Hid (Bx (w2.alloc (.cells #[.int .u8 0,.int .u8 0,.int .u8 0,.int .u8 0,.int .u8 0,.int .u8 0,.int .u8 0,.int .u8 0,.int .u8 0,.int .u8 0,.int .u8 0,.int .u8 0,.int .u8 0,.int .u8 0,.int .u8 0,.int .u8 0] 27)) w2.heap.size 27 ZZ):=Bx.new w2 27 ZZ;clear hh hi2 hg2))
 have HX:Hid (CbX B Ks I sh M w2.heap.size fi u3∧M≤w2.heap.size∧Gk Ks w u3):=by
  have hal:Below w2.heap.size w2 (w2.alloc (.cells #[.int .u8 0,.int .u8 0,.int .u8 0,.int .u8 0,.int .u8 0,.int .u8 0,.int .u8 0,.int .u8 0,.int .u8 0,.int .u8 0,.int .u8 0,.int .u8 0,.int .u8 0,.int .u8 0,.int .u8 0,.int .u8 0] 27)):=(Below.refl _ _).alloc (Nat.le_refl _) _
  have hBM:=HW1.out.2.2.2
  have hb2:=HW1.out.2.1.gk H2.out.2 (hC.new hBM)
  have hlt:=hb2.lt
  have hb2':=hb2.below hal
  have hb4:Bx u3 M 242 [.pointer (some ⟨sh,0,none⟩),.func (.func fn) #[] cs]:=hb2'.keep (hg3.block M hb2'.lt (fun e=>by injection e with e;omega))
  refine ⟨⟨hC.gb (hC.below H2.out.1 hal) hg3 (by omega),hb4.cell 0 _ rfl,by rw[←HFI.out];exact hb3,hBM,by omega,by omega⟩,by omega,?_⟩
  have g1:Gk Ks w w1:=Gk.of_below (by rw[HMM.out];exact HW1.out.1)
  have g2:=(g1.trans H2.out.2).below hal
  exact g2.gb hg3 (by rw[HMM.out];omega)
 obtain ⟨Q,HQ⟩:∃ Q,Hid (w2.heap.size=Q):=⟨_,rfl⟩
 rw[HQ.out] at HX ⊢
 clear hb3 hg3 HZB c1
 rw[HMM.out] at HRW
 go_wp2_with (first
  | (go_at_call 211;refine (HRW.out _ _ _ HX.out.1 HX.out.2.1 HX.out.2.2).mono ?_;intro e4 w4 hh;obtain ⟨rfl,h4⟩:=hh.out;have H4:Hid (Bx w4 u3.heap.size 5 (bkL f k)∧I w4∧Gk (KsQ Ks Q) u3 w4):=h4;clear hh h4))
 go_ret
 have hg:=HX.out.2.2.narrow H4.out.2.2 (by rw[HMM.out];exact HX.out.2.1)
 exact ⟨_,rfl,HX.out.2.2.size,H4.out.1,H4.out.2.1,hg⟩
end Go.Proofs.YtehlppaidgkpaaaGreatDoor
