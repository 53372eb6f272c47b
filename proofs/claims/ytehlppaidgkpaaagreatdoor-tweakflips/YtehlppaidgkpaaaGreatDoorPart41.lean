import Derived.Test.YtehlppaidgkpaaaGreatDoorPart40
import Derived.OwnWalk
import Derived.Test.YtehlppaidgkpaaaGreatDoorPart39
import Derived.Test.YtehlppaidgkpaaaGreatDoorFdDot
import Derived.Test.YtehlppaidgkpaaaGreatDoorPart38
namespace Go.Proofs.YtehlppaidgkpaaaGreatDoor
open Go.RowKit
set_option linter.unusedVariables false
set_option linter.unusedSimpArgs false
def bkL (F:Nat→BitVec 128) (k:Nat):List Value:=(List.range k).flatMap fun j=>Fd.BL (F j)
theorem Fl (F:Nat→BitVec 128) (k:Nat):bkL F (k+1)=bkL F k++Fd.BL (F k):=by simp [bkL,List.range_succ]
theorem Xt (F:Nat→BitVec 128) (k:Nat):(bkL F k).length=16*k:=by
 induction k with
 | zero=>rfl
 | succ k ih=>rw[Fl,List.length_append,ih,Fd.Xm];omega
theorem Zbv (F : Nat → BitVec 128) (k j i : Nat) (hj : j < k) (hi : i < 16) : (bkL F k)[16 * j + i]? = some (.int .u8 (Fd.byV (F j) i : Nat)) := by
  induction k with
  | zero => omega
  | succ k ih =>
    rw [Fl]
    by_cases h : j < k
    · rw [List.getElem?_append_left (by rw [Xt]; omega)]; exact ih h
    · obtain rfl : j = k := by omega
      rw [List.getElem?_append_right (by rw [Xt]; omega), Xt, show 16 * j + i - 16 * j = i by omega, Fd.Jz _ i hi]
def bkR (F:Nat→BitVec 128) (n k:Nat):List Value:=bkL F k++List.replicate (n-16*k) (.int .u8 0)
theorem Ld (F:Nat→BitVec 128) (n k:Nat) (h:16*k≤n):(bkR F n k).length=n:=by
 rw[bkR,List.length_append,Xt,List.length_replicate];omega
theorem Pe (F:Nat→BitVec 128) (n k:Nat) (h:16*k+16≤n):splice (bkR F n k) (16*k) (Fd.BL (F k))=bkR F n (k+1):=by
 have e1:(bkR F n k).take (16*k)=bkL F k:=by rw[bkR,List.take_append_of_le_length (by rw[Xt];omega),List.take_of_length_le (by rw[Xt];omega)]
 have e2:(bkR F n k).drop (16*k+16)=List.replicate (n-16*(k+1)) (.int .u8 0):=by
  rw[bkR,List.drop_append,Xt,List.drop_of_length_le (by rw[Xt];omega),List.drop_replicate,List.nil_append,show n-16*k-(16*k+16-16*k)=n-16*(k+1) by omega]
 simp only[splice,Fd.Xm]
 rw[e1,e2,bkR,Fl]
 simp
theorem Bd (F:Nat→BitVec 128) (n:Nat):bkR F n 0=List.replicate n (.int .u8 0):=by simp [bkR,bkL]
theorem Le (F:Nat→BitVec 128) (n k:Nat) (h:n=16*k):bkR F n k=bkL F k:=by simp [bkR,h]
theorem Cn {w:World} {base n g:Nat} {e:TypeId} {xs:List Value} (h:w.ownsRow base e 1 (.slice (some ⟨g,0,none⟩) n n) n xs):Bx w g e xs:=by
 obtain ⟨h1,h2⟩:=h
 rcases h2 with ⟨q,_⟩ | ⟨g',cap,cur,q,_,hh,_,_,hs,ht⟩
 ·cases q
 ·injection q with q1 q2 q3
  injection q1 with q1
  injection q1 with q1
  subst q1 q3
  have:xs.toArray=cur:=by
   rw[←ht,List.take_of_length_le (by simp;omega)]
  unfold Bx;rw[hh,this]
theorem Dp (j k:Nat) (h:j<k):k-(intOf (.int .i64 ((j+1:Nat):Int))).toNat<k-(intOf (.int .i64 ((j:Nat):Int))).toNat:=by
 simp [intOf];omega
theorem Gz (F G:Nat→Nat):∀ n,(∀ i,i<n→F i=G i)→Fd.pk F n=Fd.pk G n
 | 0,_=>rfl
 | n+1,h=>by rw[Fd.pk,Fd.pk,Gz F G n (fun i hi=>h i (by omega)),h n (by omega)]
theorem G5 (n:Nat) (h:n<18446744073709551616):Fd.hiV (BitVec.ofNat 128 n)=0∧Fd.loV (BitVec.ofNat 128 n)=n:=by
 unfold Fd.hiV Fd.loV
 rw[BitVec.toNat_ofNat]
 constructor<;>omega
theorem K7 (n:Nat) (h:n<18446744073709551616) (w:World):Calls Tryz.prog 38 #[.int .u64 0,.int .u64 (n:Nat)] w fun e w'=>Hid (e=.returned (Fd.BV (BitVec.ofNat 128 n))∧Below w.heap.size w w'):=by
 have q:=Fd.Wb (BitVec.ofNat 128 n) w
 rw[(G5 n h).1,(G5 n h).2] at q
 exact q.mono fun e w' hh=>hh
def plV (b:Bool) (s:Nat):BitVec 128:=BitVec.ofNat 128 (if b then s else s%4294967296)
set_option maxHeartbeats 800000 in
set_option maxRecDepth 100000 in
theorem Ti (s:Nat) (n:Int) (w:World) (hs:s<18446744073709551616) :
  Calls Tryz.prog 179 #[.int .u64 (s:Nat),.int .i64 n] w fun e w'=>Hid (e=.returned (Fd.BV (plV false s))∧Below w.heap.size w w'):=by
 obtain ⟨x,HX⟩:∃ x,Hid (s%4294967296=x):=⟨_,rfl⟩
 have hx:bits BinOp.and IntKind.u64 (s:Int) 4294967295=(x:Int):=by rw[Qa s hs,HX.out]
 obtain ⟨M,HMM⟩:∃ M,Hid (M=Fd.BL (plV false s)):=⟨_,rfl⟩
 have HG:Hid (∀ u,Calls Tryz.prog 38 #[.int .u64 0,.int .u64 (x:Nat)] u fun e w'=>Hid (e=.returned (.agg M.toArray)∧Below u.heap.size u w')):=fun u=>by
  rw[HMM.out];unfold plV;rw[if_neg (by decide),HX.out];exact K7 x (by rw[←HX.out];omega) u
 have HLN:Hid (M.length=16∧(∀ x∈M,x.oneCell'=true)):=by rw[HMM.out];exact ⟨rfl,Ys _⟩
 show Calls Tryz.prog 179 #[_,_] w fun e w'=>Hid (e=.returned (.agg (Fd.BL (plV false s)).toArray)∧_)
 rw[←HMM.out]
 obtain ⟨w1,hw1⟩:∃ w1,w1=w.alloc (.cells ZZ.toArray 27):=⟨_,rfl⟩
 have HB1:Hid (Bx w1 w.heap.size 27 ZZ∧Below w.heap.size w w1):=by rw[hw1];exact ⟨Bx.new w 27 ZZ,(Below.refl _ _).alloc (Nat.le_refl _) _⟩
 clear hs
 go_enter Tryz.func179,Tryz.ntmps179
 go_upto_region 1 with fail
 rw[show w.alloc (.cells _ 27)=w1 from hw1.symm]
 clear hw1
 obtain ⟨m,HM2⟩:∃ m,Hid (w.heap.size=m):=⟨_,rfl⟩
 rw[HM2.out] at HB1 ⊢
 go_wp2_with (first
  | (go_at_call 38;refine (HG.out _).mono ?_;intro e4 w4 hh;obtain ⟨rfl,hb4⟩:=hh.out;have HB4:Hid (Bx w4 m 27 ZZ∧Below m w w4):=⟨HB1.out.1.below hb4,HB1.out.2.trans (hb4.mono (by have:=HB1.out.1.lt;omega))⟩;clear hh hb4)
  | (refine Zg (by rfl) 27 (.tmp 4) (.tmp 7) (by rfl) ZZ M m (by rfl) (by rfl) HB4.out.1 (by rw[HLN.out.1];rfl) (by rw[HLN.out.1];kernel_rfl) HLN.out.2 ?_;intro u9 hb9 hg9))
 refine Y4 (b:=m) M rfl rfl hb9.range Tryz.underlying27 rfl (by rw[HLN.out.1];kernel_rfl) ⟨rfl,?_⟩
 have hfin:Below m w u9:=HB4.out.2.trans (Yd hg9 (by have:=HB4.out.1.lt;omega) (by omega))
 first | exact hfin | (rw[HM2.out];exact hfin)
set_option maxHeartbeats 800000 in
set_option maxRecDepth 100000 in
theorem Nd (s:Nat) (n:Int) (w:World) (hs:s<18446744073709551616) :
  Calls Tryz.prog 180 #[.int .u64 (s:Nat),.int .i64 n] w fun e w'=>Hid (e=.returned (Fd.BV (plV true s))∧Below w.heap.size w w'):=by
 obtain ⟨M,HMM⟩:∃ M,Hid (M=Fd.BL (plV true s)):=⟨_,rfl⟩
 have HG:Hid (∀ u,Calls Tryz.prog 38 #[.int .u64 0,.int .u64 (s:Nat)] u fun e w'=>Hid (e=.returned (.agg M.toArray)∧Below u.heap.size u w')):=fun u=>by
  rw[HMM.out];unfold plV;rw[if_pos rfl];exact K7 s hs u
 have HLN:Hid (M.length=16∧(∀ x∈M,x.oneCell'=true)):=by rw[HMM.out];exact ⟨rfl,Ys _⟩
 show Calls Tryz.prog 180 #[_,_] w fun e w'=>Hid (e=.returned (.agg (Fd.BL (plV true s)).toArray)∧_)
 rw[←HMM.out]
 obtain ⟨w1,hw1⟩:∃ w1,w1=w.alloc (.cells ZZ.toArray 27):=⟨_,rfl⟩
 have HB1:Hid (Bx w1 w.heap.size 27 ZZ∧Below w.heap.size w w1):=by rw[hw1];exact ⟨Bx.new w 27 ZZ,(Below.refl _ _).alloc (Nat.le_refl _) _⟩
 clear hs
 go_enter Tryz.func180,Tryz.ntmps180
 go_upto_region 1 with fail
 rw[show w.alloc (.cells _ 27)=w1 from hw1.symm]
 clear hw1
 obtain ⟨m,HM2⟩:∃ m,Hid (w.heap.size=m):=⟨_,rfl⟩
 rw[HM2.out] at HB1 ⊢
 go_wp2_with (first
  | (go_at_call 38;refine (HG.out _).mono ?_;intro e4 w4 hh;obtain ⟨rfl,hb4⟩:=hh.out;have HB4:Hid (Bx w4 m 27 ZZ∧Below m w w4):=⟨HB1.out.1.below hb4,HB1.out.2.trans (hb4.mono (by have:=HB1.out.1.lt;omega))⟩;clear hh hb4)
  | (refine Zg (by rfl) 27 (.tmp 4) (.tmp 6) (by rfl) ZZ M m (by rfl) (by rfl) HB4.out.1 (by rw[HLN.out.1];rfl) (by rw[HLN.out.1];kernel_rfl) HLN.out.2 ?_;intro u9 hb9 hg9))
 refine Y4 (b:=m) M rfl rfl hb9.range Tryz.underlying27 rfl (by rw[HLN.out.1];kernel_rfl) ⟨rfl,?_⟩
 have hfin:Below m w u9:=HB4.out.2.trans (Yd hg9 (by have:=HB4.out.1.lt;omega) (by omega))
 first | exact hfin | (rw[HM2.out];exact hfin)
structure Kp (B:Nat) (u v:World):Prop where
 os:v.os=u.os
 tape:v.tape=u.tape
 output:v.output=u.output
 size:u.heap.size≤v.heap.size
 block:∀ c,B≤c→c<u.heap.size→v.heap[c]?=u.heap[c]?
def Mh (B:Nat) (J:Nat→World→Prop):Prop:=∀ k u u',J k u→B≤u.heap.size→(∀ c,c<B→u'.heap[c]?=u.heap[c]?)→u.heap.size≤u'.heap.size→J k u'
structure BwI (J:Nat→World→Prop) (F:Nat→BitVec 128) (n:Nat) (w wr:World) (k:Nat):Prop where
 row:Bx wr w.heap.size 5 (bkR F n k)
 inv:J k wr
 os:wr.os=w.os
 tape:wr.tape=w.tape
 output:wr.output=w.output
 size:w.heap.size≤wr.heap.size
theorem BwI.below {J:Nat→World→Prop} {F:Nat→BitVec 128} {n:Nat} {w wr u:World} {k:Nat} (h:BwI J F n w wr k) (hJ:Mh w.heap.size J) (hb:Below wr.heap.size wr u):BwI J F n w u k:=
 ⟨h.row.below hb,hJ k wr u h.inv h.size (fun c hc=>hb.block c (Nat.lt_of_lt_of_le hc h.size)) hb.size,hb.os.trans h.os,hb.tape.trans h.tape,hb.output.trans h.output,Nat.le_trans h.size hb.size⟩
structure BwM (J:Nat→World→Prop) (F:Nat→BitVec 128) (n:Nat) (w wr:World) (k:Nat):Prop where
 row:Bx wr w.heap.size 5 (bkR F n k)
 inv:J (k+1) wr
 os:wr.os=w.os
 tape:wr.tape=w.tape
 output:wr.output=w.output
 size:w.heap.size≤wr.heap.size
theorem BwI.does {J:Nat→World→Prop} {F:Nat→BitVec 128} {n:Nat} {w wr u:World} {k:Nat} (h:BwI J F n w wr k) (h1:J (k+1) u) (hb:Kp w.heap.size wr u):BwM J F n w u k:=
 ⟨h.row.keep (hb.block _ (Nat.le_refl _) h.row.lt),h1,hb.os.trans h.os,hb.tape.trans h.tape,hb.output.trans h.output,Nat.le_trans h.size hb.size⟩
theorem BwM.lay {J:Nat→World→Prop} {F:Nat→BitVec 128} {n:Nat} {w wr u:World} {k:Nat} (h:BwM J F n w wr k) (hJ:Mh w.heap.size J) (hk:16*k+16≤n) (h1:Bx u w.heap.size 5 (splice (bkR F n k) (16*k) (Fd.BL (F k)))) (hb:wr.grownBy u (some w.heap.size)):BwI J F n w u (k+1):=by
 rw[Pe F n k hk] at h1
 exact ⟨h1,hJ (k+1) wr u h.inv h.size (fun c hc=>hb.block c (Nat.lt_of_lt_of_le hc h.size) (fun e=>by injection e with e;omega)) hb.size,hb.os.trans h.os,hb.tape.trans h.tape,hb.output.trans h.output,Nat.le_trans h.size hb.size⟩
theorem Ce (j k:Nat) (h:j<k) (hk:k≤256):wrap64 ((j:Int)+1)=((j+1:Nat):Int)∧IntKind.i64.wrap ((j:Int)+1)=((j+1:Nat):Int)∧(j:Int)<(k:Int):=by
 refine ⟨?_,?_,by omega⟩
 ·unfold wrap64;omega
 ·rw[IntKind.wrap_i64];omega
theorem Hk (i n b:Nat) (hb:b≤64) (h:i=b) (hn:n≤4096):i*n≤281474976710656∧n≤maxLen:=by
 have:b*n≤64*4096:=Nat.mul_le_mul hb hn
 subst h
 refine ⟨by omega,by unfold maxLen;omega⟩
set_option maxHeartbeats 1600000 in
set_option maxRecDepth 100000 in
theorem Zbr (fn p:Nat) (hE:∀ args u,(callFunc fn args).run Tryz.prog u=.ok (.enter fn args) u) (J:Nat→World→Prop) (F:Nat→BitVec 128) (b off c k:Nat) (zs:List Int) (w:World) (hJ:Mh w.heap.size J) (h0:J 0 w) (hl1:16*k≤zs.length) (hl2:zs.length<16*k+16) (hl3:zs.length≤4096) (hc1:zs.length≤c) (hb:Zj zs)
   (hz:∀ j u,J j u→∀ i,i<zs.length→u.cell? ⟨b,off+i,none⟩=some (.int .u8 (zs.getD i 0)))
   (HD:∀ j u,j<k→J j u→w.heap.size≤u.heap.size→Calls Tryz.prog fn #[.int .i64 (j:Nat),Fd.BV (cutV zs j),.pointer (some ⟨p,0,none⟩)] u fun e w'=>Hid (e=.returned (Fd.BV (F j))∧J (j+1) w'∧Kp w.heap.size u w')) :
   Calls Tryz.prog 211 #[.slice (some ⟨b,off,none⟩) zs.length c,.func (.func fn) #[] #[.pointer (some ⟨p,0,none⟩)]] w fun e w'=>Hid (e=.returned (.slice (some ⟨w.heap.size,0,none⟩) zs.length zs.length)∧BwI J F zs.length w w' k):=by
 obtain ⟨n,HNL⟩:∃ n,Hid (zs.length=n):=⟨_,rfl⟩
 have HJ0:Hid (Mh w.heap.size J∧J 0 w):=⟨hJ,h0⟩
 have HC:Hid (∀ u j,j<k→BwI J F n w u j→Calls Tryz.prog 197 #[.slice (some ⟨b,off,none⟩) n c,.int .i64 (j:Nat)] u fun e w'=>Hid (e=.returned (Fd.BV (cutV zs j))∧Below u.heap.size u w')):=fun u j hj hu=>by
   have q:=Ut b off c j zs u (by omega) hc1 (by omega) hb (fun i hi=>hz j u hu.inv i hi)
   rw[HNL.out] at q;exact q
 have HK:Hid (∀ u j,j<k→BwI J F n w u j→Calls Tryz.prog fn #[.int .i64 (j:Nat),Fd.BV (cutV zs j),.pointer (some ⟨p,0,none⟩)] u fun e w'=>Hid (e=.returned (Fd.BV (F j))∧J (j+1) w'∧Kp w.heap.size u w')):=fun u j hj hu=>HD j u hj hu.inv hu.size
 have HLY:Hid (∀ u j,j<k→BwM J F n w u j→Calls Tryz.prog 234 #[.slice (some ⟨w.heap.size,0,none⟩) n n,.int .i64 (j:Nat),Fd.BV (F j)] u fun e w'=>Hid (e=.returned (.tuple #[])∧BwI J F n w w' (j+1))):=fun u j hj hu=>by
   have hle:16*j+16≤n:=by rw[←HNL.out];omega
   refine (T2 w.heap.size n n j (F j) (bkR F n j) u hle (Nat.le_refl _) (by rw[←HNL.out];omega) (by rw[Ld F n j (by omega)];omega) hu.row).mono ?_
   intro e w' hh
   obtain ⟨rfl,h1,h2⟩:=hh.out
   exact ⟨rfl,hu.lay HJ0.out.1 hle h1 h2⟩
 have HN:Hid (16*k≤n∧n<16*k+16∧n≤4096):=by rw[←HNL.out];exact ⟨hl1,hl2,hl3⟩
 rw[HNL.out]
 obtain ⟨i0,hi0,hz0,hz1,hz2⟩:=info_parts Tryz.info5
 have HI0:Hid (Tryz.prog.info? 5=some i0∧i0.zero=some (.int .u8 0)∧i0.size=1∧i0.bytes=1):=⟨hi0,hz0,hz1,hz2⟩
 have q1:(n:Int).tdiv 16=(k:Int):=by rw[Int.tdiv_eq_ediv_of_nonneg (by omega)];have:=HN.out;omega
 have q3:IntKind.i64.wrap (k:Int)=(k:Int):=by rw[IntKind.wrap_i64];have:=HN.out;omega
 have q4:(n:Int)/16=(k:Int):=by have:=HN.out;omega
 have HK64:Hid (k≤256):=(by have:=HN.out;omega:k≤256)
 have HMF:Hid (i0.bytes*n≤281474976710656∧n≤maxLen):=Hk i0.bytes n 1 (by decide) HI0.out.2.2.2 (by have:=HN.out;omega)
 clear hl1 hl2 hl3 hc1 hb hz hi0 hz0 hz1 hz2 hJ h0 HD
 go_enter Tryz.func211,Tryz.ntmps211
 go_upto_region 2 with (first
   | (at_make;go_must (refine wpList_make_full _ rfl _ _ 22 rfl w.heap.size 5 i0 (.int .u8 0) 1 Tryz.underlying22 HI0.out.1 HI0.out.2.1 HI0.out.2.2.1 .i64 .i64 (n:Nat) (n:Nat) n rfl rfl rfl rfl HMF.out.1 HMF.out.2 (Nat.le_refl _) ?_;intro w1 hown hgrow;have HW1:Hid (BwI J F n w w1 0):=⟨by rw[Bd];have z:=Cn hown;rw[show (Value.int .u8 0).cells=#[.int .u8 0] from rfl,toList_madeCells_one,Nat.mul_one] at z;exact z,HJ0.out.1 0 w w1 HJ0.out.2 (Nat.le_refl _) (fun c hc=>hgrow.block c hc (by simp)) hgrow.size,hgrow.os,hgrow.tape,hgrow.output,hgrow.size⟩;clear hown hgrow)))
 go_upto_region 3 with fail
 go_loopw [13] (fun v wr=>∃ j:Nat,j≤k∧v=.int .i64 (j:Nat)∧Hid (BwI J F n w wr j)) (fun v _=>k-(intOf v).toNat)
 case atStart=>exact ⟨0,Nat.zero_le _,rfl,HW1⟩
 case round=>
  as_aux_lemma=>
   obtain ⟨j,hj,rfl,HI⟩:=hrel
   by_cases hlt:j<k
   ·have HJ:Hid (j<k):=hlt
    obtain ⟨ej,ej2,g1⟩:=Ce j k hlt HK64.out
    go_wp2_with (first
     | (go_at_call 197;refine (HC.out _ _ HJ.out HI.out).mono ?_;intro e2 w2 hh;obtain ⟨rfl,hb2⟩:=hh.out;have HI2:Hid (BwI J F n w w2 j):=HI.out.below HJ0.out.1 hb2;clear hh hb2)
     | (go_at_call 234;refine (HLY.out _ _ HJ.out HI3.out).mono ?_;intro e4 w4 hh;obtain ⟨rfl,hi4⟩:=hh.out;have HI4:Hid (BwI J F n w w4 (j+1)):=hi4;clear hh hi4)
     | (refine (HK.out _ _ HJ.out HI2.out).mono ?_;intro e3 w3 hh;obtain ⟨rfl,hm3,hg3⟩:=hh.out;have HI3:Hid (BwM J F n w w3 j):=HI2.out.does hm3 hg3;clear hh hm3 hg3))
    exact ⟨⟨j+1,HJ.out,by first | rfl | simp,HI4⟩,by first | exact Dp j k HJ.out | (simpa using Dp j k HJ.out)⟩
   ·have g1:¬ (j:Int)<(k:Int):=by omega
    have HE:Hid (BwI J F n w wr k):=by
     have p:=HI.out
     rw[show j=k by omega] at p
     exact p
    clear HI
    go_wp2
    go_ret
    exact ⟨rfl,HE.out⟩
set_option maxHeartbeats 1600000 in
set_option maxRecDepth 100000 in
theorem Mc (fn p q:Nat) (hE:∀ args u,(callFunc fn args).run Tryz.prog u=.ok (.enter fn args) u) (J:Nat→World→Prop) (F:Nat→BitVec 128) (b off c k:Nat) (zs:List Int) (w:World) (hJ:Mh w.heap.size J) (h0:J 0 w) (hl1:16*k≤zs.length) (hl2:zs.length<16*k+16) (hl3:zs.length≤4096) (hc1:zs.length≤c) (hb:Zj zs)
   (hz:∀ j u,J j u→∀ i,i<zs.length→u.cell? ⟨b,off+i,none⟩=some (.int .u8 (zs.getD i 0)))
   (HD:∀ j u,j<k→J j u→w.heap.size≤u.heap.size→Calls Tryz.prog fn #[.int .i64 (j:Nat),Fd.BV (cutV zs j),.pointer (some ⟨p,0,none⟩),.pointer (some ⟨q,0,none⟩)] u fun e w'=>Hid (e=.returned (Fd.BV (F j))∧J (j+1) w'∧Kp w.heap.size u w')) :
   Calls Tryz.prog 211 #[.slice (some ⟨b,off,none⟩) zs.length c,.func (.func fn) #[] #[.pointer (some ⟨p,0,none⟩),.pointer (some ⟨q,0,none⟩)]] w fun e w'=>Hid (e=.returned (.slice (some ⟨w.heap.size,0,none⟩) zs.length zs.length)∧BwI J F zs.length w w' k):=by
 obtain ⟨n,HNL⟩:∃ n,Hid (zs.length=n):=⟨_,rfl⟩
 have HJ0:Hid (Mh w.heap.size J∧J 0 w):=⟨hJ,h0⟩
 have HC:Hid (∀ u j,j<k→BwI J F n w u j→Calls Tryz.prog 197 #[.slice (some ⟨b,off,none⟩) n c,.int .i64 (j:Nat)] u fun e w'=>Hid (e=.returned (Fd.BV (cutV zs j))∧Below u.heap.size u w')):=fun u j hj hu=>by
   have q:=Ut b off c j zs u (by omega) hc1 (by omega) hb (fun i hi=>hz j u hu.inv i hi)
   rw[HNL.out] at q;exact q
 have HK:Hid (∀ u j,j<k→BwI J F n w u j→Calls Tryz.prog fn #[.int .i64 (j:Nat),Fd.BV (cutV zs j),.pointer (some ⟨p,0,none⟩),.pointer (some ⟨q,0,none⟩)] u fun e w'=>Hid (e=.returned (Fd.BV (F j))∧J (j+1) w'∧Kp w.heap.size u w')):=fun u j hj hu=>HD j u hj hu.inv hu.size
 have HLY:Hid (∀ u j,j<k→BwM J F n w u j→Calls Tryz.prog 234 #[.slice (some ⟨w.heap.size,0,none⟩) n n,.int .i64 (j:Nat),Fd.BV (F j)] u fun e w'=>Hid (e=.returned (.tuple #[])∧BwI J F n w w' (j+1))):=fun u j hj hu=>by
   have hle:16*j+16≤n:=by rw[←HNL.out];omega
   refine (T2 w.heap.size n n j (F j) (bkR F n j) u hle (Nat.le_refl _) (by rw[←HNL.out];omega) (by rw[Ld F n j (by omega)];omega) hu.row).mono ?_
   intro e w' hh
   obtain ⟨rfl,h1,h2⟩:=hh.out
   exact ⟨rfl,hu.lay HJ0.out.1 hle h1 h2⟩
 have HN:Hid (16*k≤n∧n<16*k+16∧n≤4096):=by rw[←HNL.out];exact ⟨hl1,hl2,hl3⟩
 rw[HNL.out]
 obtain ⟨i0,hi0,hz0,hz1,hz2⟩:=info_parts Tryz.info5
 have HI0:Hid (Tryz.prog.info? 5=some i0∧i0.zero=some (.int .u8 0)∧i0.size=1∧i0.bytes=1):=⟨hi0,hz0,hz1,hz2⟩
 have q1:(n:Int).tdiv 16=(k:Int):=by rw[Int.tdiv_eq_ediv_of_nonneg (by omega)];have:=HN.out;omega
 have q3:IntKind.i64.wrap (k:Int)=(k:Int):=by rw[IntKind.wrap_i64];have:=HN.out;omega
 have q4:(n:Int)/16=(k:Int):=by have:=HN.out;omega
 have HK64:Hid (k≤256):=(by have:=HN.out;omega:k≤256)
 have HMF:Hid (i0.bytes*n≤281474976710656∧n≤maxLen):=Hk i0.bytes n 1 (by decide) HI0.out.2.2.2 (by have:=HN.out;omega)
 clear hl1 hl2 hl3 hc1 hb hz hi0 hz0 hz1 hz2 hJ h0 HD
 go_enter Tryz.func211,Tryz.ntmps211
 go_upto_region 2 with (first
   | (at_make;go_must (refine wpList_make_full _ rfl _ _ 22 rfl w.heap.size 5 i0 (.int .u8 0) 1 Tryz.underlying22 HI0.out.1 HI0.out.2.1 HI0.out.2.2.1 .i64 .i64 (n:Nat) (n:Nat) n rfl rfl rfl rfl HMF.out.1 HMF.out.2 (Nat.le_refl _) ?_;intro w1 hown hgrow;have HW1:Hid (BwI J F n w w1 0):=⟨by rw[Bd];have z:=Cn hown;rw[show (Value.int .u8 0).cells=#[.int .u8 0] from rfl,toList_madeCells_one,Nat.mul_one] at z;exact z,HJ0.out.1 0 w w1 HJ0.out.2 (Nat.le_refl _) (fun c hc=>hgrow.block c hc (by simp)) hgrow.size,hgrow.os,hgrow.tape,hgrow.output,hgrow.size⟩;clear hown hgrow)))
 go_upto_region 3 with fail
 go_loopw [13] (fun v wr=>∃ j:Nat,j≤k∧v=.int .i64 (j:Nat)∧Hid (BwI J F n w wr j)) (fun v _=>k-(intOf v).toNat)
 case atStart=>exact ⟨0,Nat.zero_le _,rfl,HW1⟩
 case round=>
  as_aux_lemma=>
   obtain ⟨j,hj,rfl,HI⟩:=hrel
   by_cases hlt:j<k
   ·have HJ:Hid (j<k):=hlt
    obtain ⟨ej,ej2,g1⟩:=Ce j k hlt HK64.out
    go_wp2_with (first
     | (go_at_call 197;refine (HC.out _ _ HJ.out HI.out).mono ?_;intro e2 w2 hh;obtain ⟨rfl,hb2⟩:=hh.out;have HI2:Hid (BwI J F n w w2 j):=HI.out.below HJ0.out.1 hb2;clear hh hb2)
     | (go_at_call 234;refine (HLY.out _ _ HJ.out HI3.out).mono ?_;intro e4 w4 hh;obtain ⟨rfl,hi4⟩:=hh.out;have HI4:Hid (BwI J F n w w4 (j+1)):=hi4;clear hh hi4)
     | (refine (HK.out _ _ HJ.out HI2.out).mono ?_;intro e3 w3 hh;obtain ⟨rfl,hm3,hg3⟩:=hh.out;have HI3:Hid (BwM J F n w w3 j):=HI2.out.does hm3 hg3;clear hh hm3 hg3))
    exact ⟨⟨j+1,HJ.out,by first | rfl | simp,HI4⟩,by first | exact Dp j k HJ.out | (simpa using Dp j k HJ.out)⟩
   ·have g1:¬ (j:Int)<(k:Int):=by omega
    have HE:Hid (BwI J F n w wr k):=by
     have p:=HI.out
     rw[show j=k by omega] at p
     exact p
    clear HI
    go_wp2
    go_ret
    exact ⟨rfl,HE.out⟩
structure Gk (Ks:Nat→Prop) (u v:World):Prop where
 os:v.os=u.os
 tape:v.tape=u.tape
 output:v.output=u.output
 size:u.heap.size≤v.heap.size
 block:∀ c,c<u.heap.size→¬ Ks c→v.heap[c]?=u.heap[c]?
theorem Gk.trans {Ks:Nat→Prop} {u v x:World} (h:Gk Ks u v) (k:Gk Ks v x):Gk Ks u x:=
 ⟨k.os.trans h.os,k.tape.trans h.tape,k.output.trans h.output,Nat.le_trans h.size k.size,fun c hc hn=>(k.block c (Nat.lt_of_lt_of_le hc h.size) hn).trans (h.block c hc hn)⟩
theorem Gk.of_below {Ks:Nat→Prop} {u v:World} (h:Below u.heap.size u v):Gk Ks u v:=⟨h.os,h.tape,h.output,h.size,fun c hc _=>h.block c hc⟩
theorem Gk.of_gb {Ks:Nat→Prop} {u v:World} {g:Nat} (h:u.grownBy v (some g)) (hg:Ks g):Gk Ks u v:=⟨h.os,h.tape,h.output,h.size,fun c hc hn=>h.block c hc (fun e=>hn (by injection e with e;rw[e];exact hg))⟩
theorem Gk.below {Ks:Nat→Prop} {u v x:World} (h:Gk Ks u v) (hb:Below v.heap.size v x):Gk Ks u x:=h.trans (Gk.of_below hb)
theorem Gk.gb {Ks:Nat→Prop} {u v x:World} {g:Nat} (h:Gk Ks u v) (hb:v.grownBy x (some g)) (hg:u.heap.size≤g):Gk Ks u x:=
 ⟨hb.os.trans h.os,hb.tape.trans h.tape,hb.output.trans h.output,Nat.le_trans h.size hb.size,fun c hc hn=>(hb.block c (Nat.lt_of_lt_of_le hc h.size) (fun e=>by injection e with e;omega)).trans (h.block c hc hn)⟩
theorem Gk.cell {Ks:Nat→Prop} {u v:World} (h:Gk Ks u v) {b o:Nat} {x:Value} (hb:¬ Ks b) (hx:u.cell? ⟨b,o,none⟩=some x):v.cell? ⟨b,o,none⟩=some x:=by
 rw[World.cell?_of_block (a:=⟨b,o,none⟩) (h.block b (World.block_lt_of_cell? u _ hx) hb)];exact hx
theorem Bx.gk {Ks:Nat→Prop} {u v:World} {b:Nat} {t:TypeId} {cs:List Value} (h:Bx u b t cs) (hg:Gk Ks u v) (hb:¬ Ks b):Bx v b t cs:=h.keep (hg.block b h.lt hb)
theorem Kp.of_gk {Ks:Nat→Prop} {B:Nat} {u v:World} (h:Gk Ks u v) (hK:∀ c,Ks c→c<B):Kp B u v:=⟨h.os,h.tape,h.output,h.size,fun c hc hl=>h.block c hl (fun e=>by have:=hK c e;omega)⟩
structure Cst (B:Nat) (Ks:Nat→Prop) (I:World→Prop):Prop where
 low:∀ c,Ks c→c<B
 size:∀ u,I u→B≤u.heap.size
 stay:∀ u v,I u→(∀ c,c<B→v.heap[c]?=u.heap[c]?)→u.heap.size≤v.heap.size→I v
theorem Cst.below {B:Nat} {Ks:Nat→Prop} {I:World→Prop} (h:Cst B Ks I) {u v:World} (hu:I u) (hb:Below u.heap.size u v):I v:=h.stay u v hu (fun c hc=>hb.block c (Nat.lt_of_lt_of_le hc (h.size u hu))) hb.size
theorem Cst.gb {B:Nat} {Ks:Nat→Prop} {I:World→Prop} (h:Cst B Ks I) {u v:World} {g:Nat} (hu:I u) (hb:u.grownBy v (some g)) (hg:B≤g):I v:=h.stay u v hu (fun c hc=>hb.block c (Nat.lt_of_lt_of_le hc (h.size u hu)) (fun e=>by injection e with e;omega)) hb.size
theorem Cst.new {B:Nat} {Ks:Nat→Prop} {I:World→Prop} (h:Cst B Ks I) {c:Nat} (hc:B≤c):¬ Ks c:=fun e=>by have:=h.low c e;omega
def DoI (Ks:Nat→Prop) (I:World→Prop) (fn:Nat) (pre:Value) (E:BitVec 128→BitVec 128):Prop:=∀ v u,I u→Calls Tryz.prog fn #[pre,Fd.BV v] u fun e w'=>Hid (e=.returned (Fd.BV (E v))∧I w'∧Gk Ks u w')
theorem Rh (nn:Int):∃ m,ftN nn true=16*m∧0<m∧m≤32:=by
 unfold ftN
 have h:(IntKind.u64.wrap nn%497).toNat<497:=by omega
 refine ⟨(16+(IntKind.u64.wrap nn%497).toNat)/16,?_,by omega,by omega⟩
 simp;omega
end Go.Proofs.YtehlppaidgkpaaaGreatDoor
