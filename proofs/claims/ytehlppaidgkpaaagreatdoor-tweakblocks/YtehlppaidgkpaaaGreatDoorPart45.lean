import Derived.Test.YtehlppaidgkpaaaGreatDoorPart44
import Derived.Test.YtehlppaidgkpaaaGreatDoorPart00
namespace Go.Proofs.YtehlppaidgkpaaaGreatDoor
open Go.RowKit
set_option linter.unusedVariables false
set_option linter.unusedSimpArgs false
structure Kp (B:Nat) (u v:World):Prop where
 os:v.os=u.os
 tape:v.tape=u.tape
 output:v.output=u.output
 size:u.heap.size≤v.heap.size
 block:∀ c,B≤c→c<u.heap.size→v.heap[c]?=u.heap[c]?
def Dj (B:Nat) (J:Nat→World→Prop):Prop:=∀ k u u',J k u→B≤u.heap.size→(∀ c,c<B→u'.heap[c]?=u.heap[c]?)→u.heap.size≤u'.heap.size→J k u'
structure BwI (J:Nat→World→Prop) (F:Nat→BitVec 128) (n:Nat) (w wr:World) (k:Nat):Prop where
 row:Bx wr w.heap.size 5 (bkR F n k)
 inv:J k wr
 os:wr.os=w.os
 tape:wr.tape=w.tape
 output:wr.output=w.output
 size:w.heap.size≤wr.heap.size
theorem BwI.below {J:Nat→World→Prop} {F:Nat→BitVec 128} {n:Nat} {w wr u:World} {k:Nat} (h:BwI J F n w wr k) (hJ:Dj w.heap.size J) (hb:Below wr.heap.size wr u):BwI J F n w u k:=
 ⟨h.row.below hb,hJ k wr u h.inv h.size (fun c hc=>hb.block c (Nat.lt_of_lt_of_le hc h.size)) hb.size,hb.os.trans h.os,hb.tape.trans h.tape,hb.output.trans h.output,Nat.le_trans h.size hb.size⟩
structure BwM (J:Nat→World→Prop) (F:Nat→BitVec 128) (n:Nat) (w wr:World) (k:Nat):Prop where
 row:Bx wr w.heap.size 5 (bkR F n k)
 inv:J (k+1) wr
 os:wr.os=w.os
 tape:wr.tape=w.tape
 output:wr.output=w.output
 size:w.heap.size≤wr.heap.size
theorem BwI.does {J:Nat→World→Prop} {F:Nat→BitVec 128} {n:Nat} {w wr u:World} {k:Nat} (h:BwI J F n w wr k) (h1:J (k+1) u) (hb:Kp w.heap.size wr u):BwM J F n w u k:=
 ⟨h.row.keep (hb.block _ (Nat.le_refl _) h.row.lt),h1,hb.os.trans h.os,hb.tape.trans h.tape,hb.output.trans h.output,Nat.le_trans h.size hb.size⟩
theorem BwM.lay {J:Nat→World→Prop} {F:Nat→BitVec 128} {n:Nat} {w wr u:World} {k:Nat} (h:BwM J F n w wr k) (hJ:Dj w.heap.size J) (hk:16*k+16≤n) (h1:Bx u w.heap.size 5 (splice (bkR F n k) (16*k) (Fd.BL (F k)))) (hb:wr.grownBy u (some w.heap.size)):BwI J F n w u (k+1):=by
 rw[Nv F n k hk] at h1
 exact ⟨h1,hJ (k+1) wr u h.inv h.size (fun c hc=>hb.block c (Nat.lt_of_lt_of_le hc h.size) (fun e=>by injection e with e;omega)) hb.size,hb.os.trans h.os,hb.tape.trans h.tape,hb.output.trans h.output,Nat.le_trans h.size hb.size⟩
theorem Fj (j k:Nat) (h:j<k) (hk:k≤256):wrap64 ((j:Int)+1)=((j+1:Nat):Int)∧IntKind.i64.wrap ((j:Int)+1)=((j+1:Nat):Int)∧(j:Int)<(k:Int):=by
 refine ⟨?_,?_,by omega⟩
 ·unfold wrap64;omega
 ·rw[IntKind.wrap_i64];omega
theorem Wt (i n b:Nat) (hb:b≤64) (h:i=b) (hn:n≤4096):i*n≤281474976710656∧n≤maxLen:=by
 have:b*n≤64*4096:=Nat.mul_le_mul hb hn
 subst h
 refine ⟨by omega,by unfold maxLen;omega⟩
set_option maxHeartbeats 1600000 in
set_option maxRecDepth 100000 in
theorem Ly (fn p:Nat) (hE:∀ args u,(callFunc fn args).run Tryz.prog u=.ok (.enter fn args) u) (J:Nat→World→Prop) (F:Nat→BitVec 128) (b off c k:Nat) (zs:List Int) (w:World) (hJ:Dj w.heap.size J) (h0:J 0 w) (hl1:16*k≤zs.length) (hl2:zs.length<16*k+16) (hl3:zs.length≤4096) (hc1:zs.length≤c) (hb:Zg zs)
   (hz:∀ j u,J j u→∀ i,i<zs.length→u.cell? ⟨b,off+i,none⟩=some (.int .u8 (zs.getD i 0)))
   (HD:∀ j u,j<k→J j u→w.heap.size≤u.heap.size→Calls Tryz.prog fn #[.int .i64 (j:Nat),Fd.BV (cutV zs j),.pointer (some ⟨p,0,none⟩)] u fun e w'=>Hid (e=.returned (Fd.BV (F j))∧J (j+1) w'∧Kp w.heap.size u w')) :
   Calls Tryz.prog 211 #[.slice (some ⟨b,off,none⟩) zs.length c,.func (.func fn) #[] #[.pointer (some ⟨p,0,none⟩)]] w fun e w'=>Hid (e=.returned (.slice (some ⟨w.heap.size,0,none⟩) zs.length zs.length)∧BwI J F zs.length w w' k):=by
 obtain ⟨n,HNL⟩:∃ n,Hid (zs.length=n):=⟨_,rfl⟩
 have HJ0:Hid (Dj w.heap.size J∧J 0 w):=⟨hJ,h0⟩
 have HC:Hid (∀ u j,j<k→BwI J F n w u j→Calls Tryz.prog 197 #[.slice (some ⟨b,off,none⟩) n c,.int .i64 (j:Nat)] u fun e w'=>Hid (e=.returned (Fd.BV (cutV zs j))∧Below u.heap.size u w')):=fun u j hj hu=>by
   have q:=He b off c j zs u (by omega) hc1 (by omega) hb (fun i hi=>hz j u hu.inv i hi)
   rw[HNL.out] at q;exact q
 have HK:Hid (∀ u j,j<k→BwI J F n w u j→Calls Tryz.prog fn #[.int .i64 (j:Nat),Fd.BV (cutV zs j),.pointer (some ⟨p,0,none⟩)] u fun e w'=>Hid (e=.returned (Fd.BV (F j))∧J (j+1) w'∧Kp w.heap.size u w')):=fun u j hj hu=>HD j u hj hu.inv hu.size
 have HLY:Hid (∀ u j,j<k→BwM J F n w u j→Calls Tryz.prog 234 #[.slice (some ⟨w.heap.size,0,none⟩) n n,.int .i64 (j:Nat),Fd.BV (F j)] u fun e w'=>Hid (e=.returned (.tuple #[])∧BwI J F n w w' (j+1))):=fun u j hj hu=>by
   have hle:16*j+16≤n:=by rw[←HNL.out];omega
   refine (C4 w.heap.size n n j (F j) (bkR F n j) u hle (Nat.le_refl _) (by rw[←HNL.out];omega) (by rw[Wi F n j (by omega)];omega) hu.row).mono ?_
   intro e w' hh
   obtain ⟨rfl,h1,h2⟩:=hh.out
   exact ⟨rfl,hu.lay HJ0.out.1 hle h1 h2⟩
 have HN:Hid (16*k≤n∧n<16*k+16∧n≤4096):=by rw[←HNL.out];exact ⟨hl1,hl2,hl3⟩
 rw[HNL.out]
 obtain ⟨i0,hi0,hz0,hz1,hz2⟩:=info_parts Tryz.info5
 have HI0:Hid (Tryz.prog.info? 5=some i0∧i0.zero=some (.int .u8 0)∧i0.size=1∧i0.bytes=1):=⟨hi0,hz0,hz1,hz2⟩
 have q1:(n:Int).tdiv 16=(k:Int):=by rw[Int.tdiv_eq_ediv_of_nonneg (by omega)];have:=HN.out;omega
 have q3:IntKind.i64.wrap (k:Int)=(k:Int):=by rw[IntKind.wrap_i64];have:=HN.out;omega
 have q4:(n:Int)/16=(k:Int):=by have:=HN.out;omega
 have HK64:Hid (k≤256):=(by have:=HN.out;omega:k≤256)
 have HMF:Hid (i0.bytes*n≤281474976710656∧n≤maxLen):=Wt i0.bytes n 1 (by decide) HI0.out.2.2.2 (by have:=HN.out;omega)
 clear hl1 hl2 hl3 hc1 hb hz hi0 hz0 hz1 hz2 hJ h0 HD
 go_enter Tryz.func211,Tryz.ntmps211
 go_upto_region 2 with (first
   | (at_make;go_must (refine wpList_make_full _ rfl _ _ 22 rfl w.heap.size 5 i0 (.int .u8 0) 1 Tryz.underlying22 HI0.out.1 HI0.out.2.1 HI0.out.2.2.1 .i64 .i64 (n:Nat) (n:Nat) n rfl rfl rfl rfl HMF.out.1 HMF.out.2 (Nat.le_refl _) ?_;intro w1 hown hgrow;have HW1:Hid (BwI J F n w w1 0):=⟨by rw[Hl];have z:=Ft hown;rw[show (Value.int .u8 0).cells=#[.int .u8 0] from rfl,toList_madeCells_one,Nat.mul_one] at z;exact z,HJ0.out.1 0 w w1 HJ0.out.2 (Nat.le_refl _) (fun c hc=>hgrow.block c hc (by simp)) hgrow.size,hgrow.os,hgrow.tape,hgrow.output,hgrow.size⟩;clear hown hgrow)))
 go_upto_region 3 with fail
 go_loopw [13] (fun v wr=>∃ j:Nat,j≤k∧v=.int .i64 (j:Nat)∧Hid (BwI J F n w wr j)) (fun v _=>k-(intOf v).toNat)
 case atStart=>exact ⟨0,Nat.zero_le _,rfl,HW1⟩
 case round=>
  as_aux_lemma=>
   obtain ⟨j,hj,rfl,HI⟩:=hrel
   by_cases hlt:j<k
   ·have HJ:Hid (j<k):=hlt
    obtain ⟨ej,ej2,g1⟩:=Fj j k hlt HK64.out
    go_wp2_with (first
     | (go_at_call 197;refine (HC.out _ _ HJ.out HI.out).mono ?_;intro e2 w2 hh;obtain ⟨rfl,hb2⟩:=hh.out;have HI2:Hid (BwI J F n w w2 j):=HI.out.below HJ0.out.1 hb2;clear hh hb2)
     | (go_at_call 234;refine (HLY.out _ _ HJ.out HI3.out).mono ?_;intro e4 w4 hh;obtain ⟨rfl,hi4⟩:=hh.out;have HI4:Hid (BwI J F n w w4 (j+1)):=hi4;clear hh hi4)
     | (refine (HK.out _ _ HJ.out HI2.out).mono ?_;intro e3 w3 hh;obtain ⟨rfl,hm3,hg3⟩:=hh.out;have HI3:Hid (BwM J F n w w3 j):=HI2.out.does hm3 hg3;clear hh hm3 hg3))
    exact ⟨⟨j+1,HJ.out,by first | rfl | simp,HI4⟩,by first | exact Q6 j k HJ.out | (simpa using Q6 j k HJ.out)⟩
   ·have g1:¬ (j:Int)<(k:Int):=by omega
    have HE:Hid (BwI J F n w wr k):=by
     have p:=HI.out
     rw[show j=k by omega] at p
     exact p
    clear HI
    go_wp2
    go_ret
    exact ⟨rfl,HE.out⟩
set_option maxHeartbeats 1600000 in
set_option maxRecDepth 100000 in
theorem Hj (fn p q:Nat) (hE:∀ args u,(callFunc fn args).run Tryz.prog u=.ok (.enter fn args) u) (J:Nat→World→Prop) (F:Nat→BitVec 128) (b off c k:Nat) (zs:List Int) (w:World) (hJ:Dj w.heap.size J) (h0:J 0 w) (hl1:16*k≤zs.length) (hl2:zs.length<16*k+16) (hl3:zs.length≤4096) (hc1:zs.length≤c) (hb:Zg zs)
   (hz:∀ j u,J j u→∀ i,i<zs.length→u.cell? ⟨b,off+i,none⟩=some (.int .u8 (zs.getD i 0)))
   (HD:∀ j u,j<k→J j u→w.heap.size≤u.heap.size→Calls Tryz.prog fn #[.int .i64 (j:Nat),Fd.BV (cutV zs j),.pointer (some ⟨p,0,none⟩),.pointer (some ⟨q,0,none⟩)] u fun e w'=>Hid (e=.returned (Fd.BV (F j))∧J (j+1) w'∧Kp w.heap.size u w')) :
   Calls Tryz.prog 211 #[.slice (some ⟨b,off,none⟩) zs.length c,.func (.func fn) #[] #[.pointer (some ⟨p,0,none⟩),.pointer (some ⟨q,0,none⟩)]] w fun e w'=>Hid (e=.returned (.slice (some ⟨w.heap.size,0,none⟩) zs.length zs.length)∧BwI J F zs.length w w' k):=by
 obtain ⟨n,HNL⟩:∃ n,Hid (zs.length=n):=⟨_,rfl⟩
 have HJ0:Hid (Dj w.heap.size J∧J 0 w):=⟨hJ,h0⟩
 have HC:Hid (∀ u j,j<k→BwI J F n w u j→Calls Tryz.prog 197 #[.slice (some ⟨b,off,none⟩) n c,.int .i64 (j:Nat)] u fun e w'=>Hid (e=.returned (Fd.BV (cutV zs j))∧Below u.heap.size u w')):=fun u j hj hu=>by
   have q:=He b off c j zs u (by omega) hc1 (by omega) hb (fun i hi=>hz j u hu.inv i hi)
   rw[HNL.out] at q;exact q
 have HK:Hid (∀ u j,j<k→BwI J F n w u j→Calls Tryz.prog fn #[.int .i64 (j:Nat),Fd.BV (cutV zs j),.pointer (some ⟨p,0,none⟩),.pointer (some ⟨q,0,none⟩)] u fun e w'=>Hid (e=.returned (Fd.BV (F j))∧J (j+1) w'∧Kp w.heap.size u w')):=fun u j hj hu=>HD j u hj hu.inv hu.size
 have HLY:Hid (∀ u j,j<k→BwM J F n w u j→Calls Tryz.prog 234 #[.slice (some ⟨w.heap.size,0,none⟩) n n,.int .i64 (j:Nat),Fd.BV (F j)] u fun e w'=>Hid (e=.returned (.tuple #[])∧BwI J F n w w' (j+1))):=fun u j hj hu=>by
   have hle:16*j+16≤n:=by rw[←HNL.out];omega
   refine (C4 w.heap.size n n j (F j) (bkR F n j) u hle (Nat.le_refl _) (by rw[←HNL.out];omega) (by rw[Wi F n j (by omega)];omega) hu.row).mono ?_
   intro e w' hh
   obtain ⟨rfl,h1,h2⟩:=hh.out
   exact ⟨rfl,hu.lay HJ0.out.1 hle h1 h2⟩
 have HN:Hid (16*k≤n∧n<16*k+16∧n≤4096):=by rw[←HNL.out];exact ⟨hl1,hl2,hl3⟩
 rw[HNL.out]
 obtain ⟨i0,hi0,hz0,hz1,hz2⟩:=info_parts Tryz.info5
 have HI0:Hid (Tryz.prog.info? 5=some i0∧i0.zero=some (.int .u8 0)∧i0.size=1∧i0.bytes=1):=⟨hi0,hz0,hz1,hz2⟩
 have q1:(n:Int).tdiv 16=(k:Int):=by rw[Int.tdiv_eq_ediv_of_nonneg (by omega)];have:=HN.out;omega
 have q3:IntKind.i64.wrap (k:Int)=(k:Int):=by rw[IntKind.wrap_i64];have:=HN.out;omega
 have q4:(n:Int)/16=(k:Int):=by have:=HN.out;omega
 have HK64:Hid (k≤256):=(by have:=HN.out;omega:k≤256)
 have HMF:Hid (i0.bytes*n≤281474976710656∧n≤maxLen):=Wt i0.bytes n 1 (by decide) HI0.out.2.2.2 (by have:=HN.out;omega)
 clear hl1 hl2 hl3 hc1 hb hz hi0 hz0 hz1 hz2 hJ h0 HD
 go_enter Tryz.func211,Tryz.ntmps211
 go_upto_region 2 with (first
   | (at_make;go_must (refine wpList_make_full _ rfl _ _ 22 rfl w.heap.size 5 i0 (.int .u8 0) 1 Tryz.underlying22 HI0.out.1 HI0.out.2.1 HI0.out.2.2.1 .i64 .i64 (n:Nat) (n:Nat) n rfl rfl rfl rfl HMF.out.1 HMF.out.2 (Nat.le_refl _) ?_;intro w1 hown hgrow;have HW1:Hid (BwI J F n w w1 0):=⟨by rw[Hl];have z:=Ft hown;rw[show (Value.int .u8 0).cells=#[.int .u8 0] from rfl,toList_madeCells_one,Nat.mul_one] at z;exact z,HJ0.out.1 0 w w1 HJ0.out.2 (Nat.le_refl _) (fun c hc=>hgrow.block c hc (by simp)) hgrow.size,hgrow.os,hgrow.tape,hgrow.output,hgrow.size⟩;clear hown hgrow)))
 go_upto_region 3 with fail
 go_loopw [13] (fun v wr=>∃ j:Nat,j≤k∧v=.int .i64 (j:Nat)∧Hid (BwI J F n w wr j)) (fun v _=>k-(intOf v).toNat)
 case atStart=>exact ⟨0,Nat.zero_le _,rfl,HW1⟩
 case round=>
  as_aux_lemma=>
   obtain ⟨j,hj,rfl,HI⟩:=hrel
   by_cases hlt:j<k
   ·have HJ:Hid (j<k):=hlt
    obtain ⟨ej,ej2,g1⟩:=Fj j k hlt HK64.out
    go_wp2_with (first
     | (go_at_call 197;refine (HC.out _ _ HJ.out HI.out).mono ?_;intro e2 w2 hh;obtain ⟨rfl,hb2⟩:=hh.out;have HI2:Hid (BwI J F n w w2 j):=HI.out.below HJ0.out.1 hb2;clear hh hb2)
     | (go_at_call 234;refine (HLY.out _ _ HJ.out HI3.out).mono ?_;intro e4 w4 hh;obtain ⟨rfl,hi4⟩:=hh.out;have HI4:Hid (BwI J F n w w4 (j+1)):=hi4;clear hh hi4)
     | (refine (HK.out _ _ HJ.out HI2.out).mono ?_;intro e3 w3 hh;obtain ⟨rfl,hm3,hg3⟩:=hh.out;have HI3:Hid (BwM J F n w w3 j):=HI2.out.does hm3 hg3;clear hh hm3 hg3))
    exact ⟨⟨j+1,HJ.out,by first | rfl | simp,HI4⟩,by first | exact Q6 j k HJ.out | (simpa using Q6 j k HJ.out)⟩
   ·have g1:¬ (j:Int)<(k:Int):=by omega
    have HE:Hid (BwI J F n w wr k):=by
     have p:=HI.out
     rw[show j=k by omega] at p
     exact p
    clear HI
    go_wp2
    go_ret
    exact ⟨rfl,HE.out⟩
structure Gk (Ks:Nat→Prop) (u v:World):Prop where
 os:v.os=u.os
 tape:v.tape=u.tape
 output:v.output=u.output
 size:u.heap.size≤v.heap.size
 block:∀ c,c<u.heap.size→¬ Ks c→v.heap[c]?=u.heap[c]?
theorem Gk.trans {Ks:Nat→Prop} {u v x:World} (h:Gk Ks u v) (k:Gk Ks v x):Gk Ks u x:=
 ⟨k.os.trans h.os,k.tape.trans h.tape,k.output.trans h.output,Nat.le_trans h.size k.size,fun c hc hn=>(k.block c (Nat.lt_of_lt_of_le hc h.size) hn).trans (h.block c hc hn)⟩
theorem Gk.of_below {Ks:Nat→Prop} {u v:World} (h:Below u.heap.size u v):Gk Ks u v:=⟨h.os,h.tape,h.output,h.size,fun c hc _=>h.block c hc⟩
theorem Gk.of_gb {Ks:Nat→Prop} {u v:World} {g:Nat} (h:u.grownBy v (some g)) (hg:Ks g):Gk Ks u v:=⟨h.os,h.tape,h.output,h.size,fun c hc hn=>h.block c hc (fun e=>hn (by injection e with e;rw[e];exact hg))⟩
theorem Gk.below {Ks:Nat→Prop} {u v x:World} (h:Gk Ks u v) (hb:Below v.heap.size v x):Gk Ks u x:=h.trans (Gk.of_below hb)
theorem Gk.gb {Ks:Nat→Prop} {u v x:World} {g:Nat} (h:Gk Ks u v) (hb:v.grownBy x (some g)) (hg:u.heap.size≤g):Gk Ks u x:=
 ⟨hb.os.trans h.os,hb.tape.trans h.tape,hb.output.trans h.output,Nat.le_trans h.size hb.size,fun c hc hn=>(hb.block c (Nat.lt_of_lt_of_le hc h.size) (fun e=>by injection e with e;omega)).trans (h.block c hc hn)⟩
theorem Gk.cell {Ks:Nat→Prop} {u v:World} (h:Gk Ks u v) {b o:Nat} {x:Value} (hb:¬ Ks b) (hx:u.cell? ⟨b,o,none⟩=some x):v.cell? ⟨b,o,none⟩=some x:=by
 rw[World.cell?_of_block (a:=⟨b,o,none⟩) (h.block b (World.block_lt_of_cell? u _ hx) hb)];exact hx
theorem Bx.gk {Ks:Nat→Prop} {u v:World} {b:Nat} {t:TypeId} {cs:List Value} (h:Bx u b t cs) (hg:Gk Ks u v) (hb:¬ Ks b):Bx v b t cs:=h.keep (hg.block b h.lt hb)
theorem Kp.of_gk {Ks:Nat→Prop} {B:Nat} {u v:World} (h:Gk Ks u v) (hK:∀ c,Ks c→c<B):Kp B u v:=⟨h.os,h.tape,h.output,h.size,fun c hc hl=>h.block c hl (fun e=>by have:=hK c e;omega)⟩
structure Cst (B:Nat) (Ks:Nat→Prop) (I:World→Prop):Prop where
 low:∀ c,Ks c→c<B
 size:∀ u,I u→B≤u.heap.size
 stay:∀ u v,I u→(∀ c,c<B→v.heap[c]?=u.heap[c]?)→u.heap.size≤v.heap.size→I v
theorem Cst.below {B:Nat} {Ks:Nat→Prop} {I:World→Prop} (h:Cst B Ks I) {u v:World} (hu:I u) (hb:Below u.heap.size u v):I v:=h.stay u v hu (fun c hc=>hb.block c (Nat.lt_of_lt_of_le hc (h.size u hu))) hb.size
theorem Cst.gb {B:Nat} {Ks:Nat→Prop} {I:World→Prop} (h:Cst B Ks I) {u v:World} {g:Nat} (hu:I u) (hb:u.grownBy v (some g)) (hg:B≤g):I v:=h.stay u v hu (fun c hc=>hb.block c (Nat.lt_of_lt_of_le hc (h.size u hu)) (fun e=>by injection e with e;omega)) hb.size
theorem Cst.new {B:Nat} {Ks:Nat→Prop} {I:World→Prop} (h:Cst B Ks I) {c:Nat} (hc:B≤c):¬ Ks c:=fun e=>by have:=h.low c e;omega
def DoI (Ks:Nat→Prop) (I:World→Prop) (fn:Nat) (pre:Value) (E:BitVec 128→BitVec 128):Prop:=∀ v u,I u→Calls Tryz.prog fn #[pre,Fd.BV v] u fun e w'=>Hid (e=.returned (Fd.BV (E v))∧I w'∧Gk Ks u w')
structure MkX (Ks:Nat→Prop) (I:World→Prop) (fn sh p q r o n c:Nat) (f:Nat→BitVec 128) (u:World):Prop where
 inv:I u
 cp:u.cell? ⟨p,0,none⟩=some (.func (.func fn) #[.pointer (some ⟨sh,0,none⟩)] #[])
 cq:u.cell? ⟨q,0,none⟩=some (.slice (some ⟨r,o,none⟩) n c)
 rg:∀ j,j<n→u.rangeAt r (o+j*16) (Fd.BL (f j))
 n2:¬ Ks p
 n3:¬ Ks q
 n4:¬ Ks r
theorem MkX.grown {Ks:Nat→Prop} {I:World→Prop} {fn sh p q r o n c:Nat} {f:Nat→BitVec 128} {u u':World} (h:MkX Ks I fn sh p q r o n c f u) (hk:Gk Ks u u') (hi:I u'):MkX Ks I fn sh p q r o n c f u':=
 ⟨hi,hk.cell h.n2 h.cp,hk.cell h.n3 h.cq,fun j hj i x hx=>hk.cell h.n4 (h.rg j hj i x hx),h.n2,h.n3,h.n4⟩
theorem MkX.below {Ks:Nat→Prop} {I:World→Prop} {B fn sh p q r o n c:Nat} {f:Nat→BitVec 128} {u u':World} (h:MkX Ks I fn sh p q r o n c f u) (hC:Cst B Ks I) (hb:Below u.heap.size u u'):MkX Ks I fn sh p q r o n c f u':=h.grown (Gk.of_below hb) (hC.below h.inv hb)
def MkS (fn p q r o n c j m sh:Nat) (L X:List Value) (u:World):Prop:=u.cell? ⟨p,0,none⟩=some (.func (.func fn) #[.pointer (some ⟨sh,0,none⟩)] #[])∧u.cell? ⟨q,0,none⟩=some (.slice (some ⟨r,o,none⟩) n c)∧u.rangeAt m 0 L∧u.rangeAt r (o+j*16) X∧u.there (m+1) 0 16
theorem MkX.reads {Ks:Nat→Prop} {I:World→Prop} {fn sh p q r o n c j m:Nat} {f:Nat→BitVec 128} {u:World} {L:List Value} (h:MkX Ks I fn sh p q r o n c f u) (hj:j<n) (h1:Bx u m 27 L) {Z:List Value} (h2:Bx u (m+1) 27 Z) (hZ:Z.length=16):MkS fn p q r o n c j m sh L (Fd.BL (f j)) u:=
 ⟨h.cp,h.cq,h1.range,h.rg j hj,Y6 h2 hZ⟩
set_option maxHeartbeats 1600000 in
set_option maxRecDepth 100000 in
theorem Na {B:Nat} {Ks:Nat→Prop} {I:World→Prop} (hC:Cst B Ks I) (fn sh p q r o n c j:Nat) (hE:∀ args u,(callFunc fn args).run Tryz.prog u=.ok (.enter fn args) u) (E:BitVec 128→BitVec 128) (f:Nat→BitVec 128) (v:BitVec 128) (w:World) (HDO:DoI Ks I fn (.pointer (some ⟨sh,0,none⟩)) E) (h:MkX Ks I fn sh p q r o n c f w) (hj:j<n) (hn:n≤c) :
  Calls Tryz.prog 243 #[.int .i64 (j:Nat),Fd.BV v,.pointer (some ⟨p,0,none⟩),.pointer (some ⟨q,0,none⟩)] w fun e w'=>Hid (e=.returned (Fd.BV (E (v ^^^ f j) ^^^ f j))∧MkX Ks I fn sh p q r o n c f w'∧Gk Ks w w'):=by
 obtain ⟨L,HL⟩:∃ L,Hid (L=Fd.BL v):=⟨_,rfl⟩
 obtain ⟨X,HX⟩:∃ X,Hid (X=Fd.BL (f j)):=⟨_,rfl⟩
 obtain ⟨L2,HL2⟩:∃ X,Hid (X=Fd.BL (v ^^^ f j)):=⟨_,rfl⟩
 obtain ⟨L3,HL3⟩:∃ X,Hid (X=Fd.BL (E (v ^^^ f j))):=⟨_,rfl⟩
 obtain ⟨L4,HL4⟩:∃ X,Hid (X=Fd.BL (E (v ^^^ f j) ^^^ f j)):=⟨_,rfl⟩
 have HX1:Hid (∀ u,Calls Tryz.prog 196 #[.agg L.toArray,.agg X.toArray] u fun e w'=>Hid (e=.returned (.agg L2.toArray)∧Below u.heap.size u w')):=fun u=>by
  rw[HL.out,HX.out,HL2.out];exact (Fd.D6 v (f j) u).mono fun e w' hh=>hh
 have HX2:Hid (∀ u,Calls Tryz.prog 196 #[.agg L3.toArray,.agg X.toArray] u fun e w'=>Hid (e=.returned (.agg L4.toArray)∧Below u.heap.size u w')):=fun u=>by
  rw[HL3.out,HX.out,HL4.out];exact (Fd.D6 _ (f j) u).mono fun e w' hh=>hh
 have HE:Hid (∀ u,MkX Ks I fn sh p q r o n c f u→Calls Tryz.prog fn #[.pointer (some ⟨sh,0,none⟩),.agg L2.toArray] u fun e w'=>Hid (e=.returned (.agg L3.toArray)∧I w'∧Gk Ks u w')):=fun u hu=>by
  rw[HL2.out,HL3.out];exact HDO (v ^^^ f j) u hu.inv
 have HLN:Hid (L.length=16∧X.length=16∧L4.length=16∧(∀ x∈L4,x.oneCell'=true)):=by rw[HL.out,HX.out,HL4.out];exact ⟨rfl,rfl,rfl,Yt _⟩
 show Calls Tryz.prog 243 #[_,.agg (Fd.BL v).toArray,_,_] w fun e w'=>Hid (e=.returned (.agg (Fd.BL (E (v ^^^ f j) ^^^ f j)).toArray)∧_)
 rw[←HL.out,←HL4.out]
 obtain ⟨w1,hw1⟩:∃ w1,w1=(w.alloc (.cells L.toArray 27)).alloc (.cells ZZ.toArray 27):=⟨_,rfl⟩
 have HB1:Hid (Bx w1 w.heap.size 27 L∧Bx w1 (w.heap.size+1) 27 ZZ∧Below w.heap.size w w1∧MkX Ks I fn sh p q r o n c f w1∧B≤w.heap.size):=by
  have hb:Below w.heap.size w w1:=by rw[hw1];exact ((Below.refl _ _).alloc (Nat.le_refl _) _).alloc (by simp) _
  refine ⟨?_,?_,hb,h.below hC hb,hC.size w h.inv⟩
  ·rw[hw1];exact (Bx.new w 27 L).below ((Below.refl _ _).alloc (Nat.le_refl _) _)
  ·rw[hw1];have q:=Bx.new (w.alloc (.cells L.toArray 27)) 27 ZZ;simpa using q
 have hw2:w1=(w.alloc (.cells L.toArray 27)).alloc (.cells #[.int .u8 0,.int .u8 0,.int .u8 0,.int .u8 0,.int .u8 0,.int .u8 0,.int .u8 0,.int .u8 0,.int .u8 0,.int .u8 0,.int .u8 0,.int .u8 0,.int .u8 0,.int .u8 0,.int .u8 0,.int .u8 0] 27):=hw1
 have HB0:Hid (MkX Ks I fn sh p q r o n c f w):=h
 clear hw1 h HDO
 go_enter Tryz.func243,Tryz.ntmps243
 go_upto_region 1 with fail
 rw[←hw2]
 clear hw2
 obtain ⟨m,HMM⟩:∃ m,Hid (w.heap.size=m):=⟨_,rfl⟩
 rw[HMM.out] at HB1 ⊢
 have HW1:Hid (m+1<w1.heap.size):=HB1.out.2.1.lt
 have hU:Tryz.prog.underlying 27=some (.array 16 5):=Tryz.underlying27
 have hiL:(Tryz.prog.info? 27).map (·.size)=some L.length:=by rw[HLN.out.1];kernel_rfl
 have hiX:(Tryz.prog.info? 27).map (·.size)=some X.length:=by rw[HLN.out.2.1];kernel_rfl
 have hi4:(Tryz.prog.info? 27).map (·.size)=some L4.length:=by rw[HLN.out.2.2.1];kernel_rfl
 have h416:L4.length=16:=HLN.out.2.2.1
 have h41:∀ v∈L4,v.oneCell'=true:=HLN.out.2.2.2
 have HJ:Hid (j<n):=hj
 have g0:(0:Int)≤(j:Int):=by omega
 have g1:(j:Int)<(n:Int):=by omega
 have HR:Hid (∀ u Z,MkX Ks I fn sh p q r o n c f u→Bx u m 27 L→Bx u (m+1) 27 Z→Z.length=16→MkS fn p q r o n c j m sh L X u):=fun u Z a b d e=>by rw[HX.out];exact a.reads HJ.out b d e
 have hS1:=HR.out w1 ZZ HB1.out.2.2.2.1 HB1.out.1 HB1.out.2.1 rfl
 clear hj hn
 have hS0:MkS fn p q r o n c j m sh L X w1.drew:=by
  obtain ⟨c1,c2,c3,c4,c5⟩:=hS1
  exact ⟨by simpa using c1,by simpa using c2,by simpa using c3,by simpa using c4,by simpa using c5⟩
 refine wp_region_noPanic ?_
 refine Yb (fun u=>MkS fn p q r o n c j m sh L X u) 13 (by kernel_rfl) (by decide) (by decide +kernel) (by decide +kernel) (by decide +kernel) (fun inv=>?_)
 refine tT 0 7 (.func (.func fn) #[.pointer (some ⟨sh,0,none⟩)] #[]) inv rfl rfl (by decide +kernel) hS0 (Or.inl ⟨by rfl,fun w' hS'=>by obtain ⟨c1,c2,c3,c4,c5⟩:=hS';go_simp⟩) (fun inv=>?_)
 simp only[pU]
 refine tT 1 8 (.agg L.toArray) inv rfl rfl (by decide +kernel) hS0 (yieldsIf_load_mid (by rfl) 27 (.tmp 5) rfl m 0 rfl L _ (fun u hu=>hu.2.2.1) Tryz.underlying27 rfl hiL) (fun inv=>?_)
 simp only[pU]
 refine tT 2 9 (.slice (some ⟨r,o,none⟩) n c) inv rfl rfl (by decide +kernel) hS0 (Or.inl ⟨by rfl,fun w' hS'=>by obtain ⟨c1,c2,c3,c4,c5⟩:=hS';go_simp⟩) (fun inv=>?_)
 simp only[pU]
 refine tT 3 10 (.int .i64 (j:Nat)) inv rfl rfl (by decide +kernel) hS0 (Or.inl ⟨by rfl,fun w' hS'=>by obtain ⟨c1,c2,c3,c4,c5⟩:=hS';go_simp⟩) (fun inv=>?_)
 simp only[pU]
 refine tT 4 11 (.pointer (some ⟨r,o+j*16,none⟩)) inv rfl rfl (by decide +kernel) hS0 (Or.inl ⟨by rfl,fun w' hS'=>by obtain ⟨c1,c2,c3,c4,c5⟩:=hS';go_simp⟩) (fun inv=>?_)
 simp only[pU]
 refine tT 5 12 (.agg X.toArray) inv rfl rfl (by decide +kernel) hS0 (yieldsIf_load_mid (by rfl) 27 (.tmp 11) rfl r (o+j*16) rfl X _ (fun u hu=>hu.2.2.2.1) Tryz.underlying27 rfl hiX) (fun inv=>?_)
 simp only[pU]
 refine tT 8 15 (.slice (some ⟨r,o,none⟩) n c) inv rfl rfl (by decide +kernel) hS0 (Or.inl ⟨by rfl,fun w' hS'=>by obtain ⟨c1,c2,c3,c4,c5⟩:=hS';go_simp⟩) (fun inv=>?_)
 simp only[pU]
 refine tT 9 16 (.int .i64 (j:Nat)) inv rfl rfl (by decide +kernel) hS0 (Or.inl ⟨by rfl,fun w' hS'=>by obtain ⟨c1,c2,c3,c4,c5⟩:=hS';go_simp⟩) (fun inv=>?_)
 simp only[pU]
 refine tT 10 17 (.pointer (some ⟨r,o+j*16,none⟩)) inv rfl rfl (by decide +kernel) hS0 (Or.inl ⟨by rfl,fun w' hS'=>by obtain ⟨c1,c2,c3,c4,c5⟩:=hS';go_simp⟩) (fun inv=>?_)
 simp only[pU]
 refine tT 11 18 (.agg X.toArray) inv rfl rfl (by decide +kernel) hS0 (yieldsIf_load_mid (by rfl) 27 (.tmp 17) rfl r (o+j*16) rfl X _ (fun u hu=>hu.2.2.2.1) Tryz.underlying27 rfl hiX) (fun inv=>?_)
 simp only[pU]
 refine Zv (i:=6) inv (by decide +kernel) (by decide) rfl (fun KK hK=>?_)
 go_simp
 refine (HX1.out _).mono ?_
 intro e2 w2 hh
 obtain ⟨rfl,hb2⟩:=hh.out
 have HB2:Hid (Bx w2 m 27 L∧Bx w2 (m+1) 27 ZZ∧Below w1.heap.size w1 w2∧MkX Ks I fn sh p q r o n c f w2):=(have hb:=(Below.refl w1.heap.size w1).drew.trans hb2;⟨HB1.out.1.below hb,HB1.out.2.1.below hb,hb,HB1.out.2.2.2.1.below hC hb⟩)
 clear hh hb2
 go_wp2_with fail
 refine hK.out _ _ (HR.out w2 ZZ HB2.out.2.2.2 HB2.out.1 HB2.out.2.1 rfl) (fun inv'=>?_)
 clear hK KK inv;have inv:=inv';clear inv'
 try simp only[pU]
 refine Zv (i:=7) inv (by decide +kernel) (by decide) rfl (fun KK hK=>?_)
 go_simp
 refine (HE.out _ HB2.out.2.2.2).mono ?_
 intro e3 w3 hh
 obtain ⟨rfl,hk3,hg3⟩:=hh.out
 have HB3:Hid (Bx w3 m 27 L∧Bx w3 (m+1) 27 ZZ∧Gk Ks w2 w3∧MkX Ks I fn sh p q r o n c f w3):=⟨HB2.out.1.gk hg3 (hC.new HB1.out.2.2.2.2),HB2.out.2.1.gk hg3 (hC.new (Nat.le_succ_of_le HB1.out.2.2.2.2)),hg3,HB2.out.2.2.2.grown hg3 hk3⟩
 clear hh hk3 hg3
 go_wp2_with fail
 refine hK.out _ _ (HR.out w3 ZZ HB3.out.2.2.2 HB3.out.1 HB3.out.2.1 rfl) (fun inv'=>?_)
 clear hK KK inv;have inv:=inv';clear inv'
 try simp only[pU]
 refine Zv (i:=12) inv (by decide +kernel) (by decide) rfl (fun KK hK=>?_)
 go_simp
 refine (HX2.out _).mono ?_
 intro e4 w4 hh
 obtain ⟨rfl,hb4⟩:=hh.out
 have HB4:Hid (Bx w4 m 27 L∧Bx w4 (m+1) 27 ZZ∧Below w3.heap.size w3 w4∧MkX Ks I fn sh p q r o n c f w4):=⟨HB3.out.1.below hb4,HB3.out.2.1.below hb4,hb4,HB3.out.2.2.2.below hC hb4⟩
 clear hh hb4
 go_wp2_with fail
 refine hK.out _ _ (HR.out w4 ZZ HB4.out.2.2.2 HB4.out.1 HB4.out.2.1 rfl) (fun inv'=>?_)
 clear hK KK inv;have inv:=inv';clear inv'
 try simp only[pU]
 refine Z9 (i:=13) (by decide +kernel) (by decide) rfl (fun KK hK=>?_)
 rw[if_pos (by rfl)]
 refine wp_store_mid 27 (.tmp 6) (.tmp 19) rfl (m+1) 0 L4.toArray rfl rfl (by simpa [h416] using Y6 HB4.out.2.1 rfl) (by rw[List.size_toArray];exact hi4) (all_oneCell_toArray h41) ?_
 refine hK.out _ _ ?_
 clear hK KK
 try simp only[pU]
 refine Y8 (by decide +kernel) ?_ _
 refine NoPanic.normal ?_
 have HB9:Hid (Bx (w4.setCells (m+1) 0 L4.toArray.toList) (m+1) 27 L4∧w4.grownBy (w4.setCells (m+1) 0 L4.toArray.toList) (some (m+1))):=⟨HB4.out.2.1.store L4 (by rw[h416];rfl),Z5 (m+1) L4 0 w4⟩
 obtain ⟨u9,hu9⟩:∃ u9,u9=w4.setCells (m+1) 0 L4.toArray.toList:=⟨_,rfl⟩
 rw[←hu9] at HB9 ⊢
 clear hu9 hS0 hS1 inv
 go_wp2
 have hgm:=HB1.out.2.2.2.2
 have hg9:=HB9.out.2
 have hb4:=HB4.out.2.2.1
 have hg3:=HB3.out.2.2.1
 have hb2:=HB2.out.2.2.1
 have hb1:=HB1.out.2.2.1
 have hw1:=HW1.out
 have s2:=hb2.size
 have s3:=hg3.size
 have s4:=hb4.size
 have hgw:Gk Ks w w4:=(Gk.of_below (by rw[HMM.out];exact hb1)).trans ((Gk.of_below hb2).trans (hg3.trans (Gk.of_below hb4)))
 have hg:Gk Ks w u9:=hgw.gb hg9 (by rw[HMM.out];omega)
 refine Xo (b:=m+1) L4 rfl rfl HB9.out.1.range Tryz.underlying27 rfl hi4 ⟨rfl,HB0.out.grown hg (hC.gb HB4.out.2.2.2.inv hg9 (by omega)),hg⟩
set_option maxHeartbeats 1600000 in
set_option maxRecDepth 100000 in
theorem Ti (g nr:Nat) (K:Nat→Nat) (sh r n c:Nat) (f:Nat→BitVec 128) (b off cp k:Nat) (zs:List Int) (w:World) (hK:Zp w g nr K) (csh:w.cell? ⟨sh,4,none⟩=some (.pointer (some ⟨g,0,none⟩))) (rg:∀ j,j<n→w.rangeAt r (0+j*16) (Fd.BL (f j))) (n1:sh≠g) (n4:r≠g) (hnc:n≤c)
  (hl:zs.length=16*k) (hkn:k≤n) (hk:k≤64) (hc1:zs.length≤cp) (hb:Zg zs) (hbg:b≠g) (hz:∀ i,i<zs.length→w.cell? ⟨b,off+i,none⟩=some (.int .u8 (zs.getD i 0))) :
  Calls Tryz.prog 229 #[.slice (some ⟨b,off,none⟩) zs.length cp,.slice (some ⟨r,0,none⟩) n c,.func (.func 190) #[.pointer (some ⟨sh,0,none⟩)] #[]] w fun e w'=>Hid (∃ x,e=.returned (.slice (some ⟨x,0,none⟩) zs.length zs.length)∧w.heap.size≤x∧Bx w' x 5 (bkL (fun j=>Yz nr K (cutV zs j ^^^ f j) ^^^ f j) k)∧Zp w' g nr K∧w.grownBy w' (some g)):=by
 obtain ⟨w1,hw1⟩:∃ w1,w1=(w.alloc (.cells #[.slice (some ⟨r,0,none⟩) n c] 237)).alloc (.cells #[.func (.func 190) #[.pointer (some ⟨sh,0,none⟩)] #[]] 52):=⟨_,rfl⟩
 have hgl:g<w.heap.size:=hK.ciph.here
 have hb1:Below w.heap.size w w1:=by rw[hw1];exact ((Below.refl _ _).alloc (Nat.le_refl _) _).alloc (by simp) _
 have hs1:w1.heap.size=w.heap.size+2:=by rw[hw1];simp
 have HM:Hid (MkW g nr K sh (w.heap.size+1) w.heap.size r 0 n c f w1):=by
  have c2:Bx w1 w.heap.size 237 [.slice (some ⟨r,0,none⟩) n c]:=by rw[hw1];exact (Bx.new w 237 [.slice (some ⟨r,0,none⟩) n c]).below ((Below.refl _ _).alloc (Nat.le_refl _) _)
  have c3:Bx w1 (w.heap.size+1) 52 [.func (.func 190) #[.pointer (some ⟨sh,0,none⟩)] #[]]:=by rw[hw1];have q:=Bx.new (w.alloc (.cells #[.slice (some ⟨r,0,none⟩) n c] 237)) 52 [.func (.func 190) #[.pointer (some ⟨sh,0,none⟩)] #[]];simpa using q
  refine ⟨hK.below hb1 hgl,(hb1.cell (World.block_lt_of_cell? w _ csh)).trans csh,c3.cell 0 _ rfl,c2.cell 0 _ rfl,fun j hj i x hx=>?_,n1,by omega,by omega,n4⟩
  have q:=rg j hj i x hx
  exact (hb1.cell (World.block_lt_of_cell? w _ q)).trans q
 have HB:Hid (Calls Tryz.prog 211 #[.slice (some ⟨b,off,none⟩) zs.length cp,.func (.func 243) #[] #[.pointer (some ⟨w.heap.size+1,0,none⟩),.pointer (some ⟨w.heap.size,0,none⟩)]] w1 fun e w'=>Hid (e=.returned (.slice (some ⟨w1.heap.size,0,none⟩) zs.length zs.length)∧Bx w' w1.heap.size 5 (bkL (fun j=>Yz nr K (cutV zs j ^^^ f j) ^^^ f j) k)∧MkW g nr K sh (w.heap.size+1) w.heap.size r 0 n c f w'∧w1.grownBy w' (some g))):=
  Bf g nr K sh (w.heap.size+1) w.heap.size r 0 n c f b off cp k zs w1 HM.out hnc hl hkn hk hc1 hb hbg (fun i hi=>(hb1.cell (World.block_lt_of_cell? w _ (hz i hi))).trans (hz i hi))
 obtain ⟨N,HNL⟩:∃ n,Hid (zs.length=n):=⟨_,rfl⟩
 have HN:Hid (N=16*k∧k≤64∧N≤cp):=⟨by rw[←HNL.out];exact hl,hk,by rw[←HNL.out];exact hc1⟩
 rw[HNL.out] at HB ⊢
 obtain ⟨Y,HY⟩:∃ Y,Hid (Y=bkL (fun j=>Yz nr K (cutV zs j ^^^ f j) ^^^ f j) k):=⟨_,rfl⟩
 rw[←HY.out] at HB ⊢
 have q1:(N:Int).tdiv 16=(k:Int):=by rw[HN.out.1,Int.tdiv_eq_ediv_of_nonneg (by omega)];omega
 have q3:IntKind.i64.wrap (k:Int)=(k:Int):=by rw[IntKind.wrap_i64];omega
 have q4:(N:Int)/16=(k:Int):=by rw[HN.out.1];omega
 have q5:IntKind.i64.wrap ((k:Int)*16)=(N:Int):=by rw[IntKind.wrap_i64];rw[HN.out.1];omega
 obtain ⟨y,d,hsl⟩:∃ y d,sliced (some ⟨b,off,none⟩) N N cp 1=.slice y 0 d:=⟨_,_,by unfold sliced;rw[Nat.sub_self]⟩
 have hS:∀ u:World,(Instr.slice 22 (.slice (some ⟨b,off,none⟩) N cp) (some (.int .i64 (N:Nat))) none none).run Tryz.prog u=.ok (.slice y 0 d) u:=fun u=>by
  rw[Ku u (some ⟨b,off,none⟩) N cp N (Nat.le_refl _) HN.out.2.2,hsl]
 clear hsl
 have HW:Hid (Below w.heap.size w w1∧g<w.heap.size):=⟨hb1,hgl⟩
 clear hK csh rg n1 n4 hnc hl hkn hk hc1 hb hbg hz hgl hb1 HM
 go_enter Tryz.func229,Tryz.ntmps229
 go_upto_region 2 with fail
 rw[←hw1]
 clear hw1
 go_wp2_with (first
  | (go_at_call 211;refine HB.out.mono ?_;intro e2 w2 hh;obtain ⟨rfl,h2,h3,h4⟩:=hh.out;have HX:Hid (Bx w2 w1.heap.size 5 Y∧Zp w2 g nr K∧w1.grownBy w2 (some g)):=⟨h2,h3.key,h4⟩;clear hh h2 h3 h4 HB))
 go_ret
 obtain ⟨z1,z2⟩:=HW.out
 obtain ⟨y1,y2,y3⟩:=HX.out
 rw[hs1] at y1
 exact ⟨_,rfl,by omega,y1,y2,⟨y3.os.trans z1.os,y3.tape.trans z1.tape,y3.output.trans z1.output,Nat.le_trans z1.size y3.size,fun i hi hn=>(y3.block i (Nat.lt_of_lt_of_le hi z1.size) hn).trans (z1.block i hi)⟩⟩
end Go.Proofs.YtehlppaidgkpaaaGreatDoor
