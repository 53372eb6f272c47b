import Derived.Test.YtehlppaidgkpaaaGreatDoorDgRLaid
import Derived.Test.YtehlppaidgkpaaaGreatDoorPart22
import Derived.Test.YtehlppaidgkpaaaGreatDoorPart27
import Derived.Test.YtehlppaidgkpaaaGreatDoorPart28
import Derived.Test.YtehlppaidgkpaaaGreatDoorEnc
import Derived.Test.YtehlppaidgkpaaaGreatDoorPart00
import Derived.Conc.RwLone
import Derived.Defers
namespace Go.Proofs.YtehlppaidgkpaaaGreatDoor.Dg
open Go.RowKit
set_option linter.unusedVariables false
theorem Cz (bs:Nat) (zs:List Int) (P:Nat):fnz (Ye bs zs) P=if P<zs.length then fnz zs P else if P=zs.length then 128 else if P<zs.length+1+Y6 bs zs.length then 0 else fnz (Z1 bs zs.length) (P-(zs.length+1+Y6 bs zs.length)):=by
 unfold Ye
 by_cases h1:P<zs.length
 ·rw[if_pos h1,List.append_assoc,Fb _ _ _ h1]
 ·rw[if_neg h1]
  have e:(zs++([128]++List.replicate (Y6 bs zs.length) 0)).length=zs.length+1+Y6 bs zs.length:=by simp;omega
  by_cases h2:P=zs.length
  ·rw[if_pos h2,h2,List.append_assoc]
   have:=Jk zs ([128]++List.replicate (Y6 bs zs.length) (0:Int)++Z1 bs zs.length) 0
   rw[Nat.add_zero] at this
   rw[this]
   rfl
  ·rw[if_neg h2]
   by_cases h3:P<zs.length+1+Y6 bs zs.length
   ·rw[if_pos h3,Fb _ _ _ (by rw[e];exact h3)]
    have:=Jk zs ([128]++List.replicate (Y6 bs zs.length) (0:Int)) (P-zs.length)
    rw[show zs.length+(P-zs.length)=P by omega] at this
    rw[this]
    have h4:=Jk [128] (List.replicate (Y6 bs zs.length) (0:Int)) (P-zs.length-1)
    rw[show [(128:Int)].length+(P-zs.length-1)=P-zs.length by simp;omega] at h4
    rw[h4]
    simp only[fnz,List.getD,List.getElem?_replicate]
    split<;>rfl
   ·rw[if_neg h3]
    have:=Jk (zs++([128]++List.replicate (Y6 bs zs.length) (0:Int))) (Z1 bs zs.length) (P-(zs.length+1+Y6 bs zs.length))
    rw[e,show zs.length+1+Y6 bs zs.length+(P-(zs.length+1+Y6 bs zs.length))=P by omega] at this
    exact this
theorem Ud (bs n j:Nat) (hj:j<bs/8):fnz (Z1 bs n) j=if 8≤bs/8-1-j then 0 else ((n:Int)*8)/2^(8*(bs/8-1-j))%256:=by
 rw[fnz,List.getD_eq_getElem?_getD,Q4 bs n j hj]
 rfl
theorem Ke (wd:Bool) (zs:List Int):(Ye (bsz wd) zs).length=bsz wd*(zs.length/bsz wd+X6 (bsz wd) zs.length):=by
 rw[Xl]
 cases wd
 ·simp only[bsz,Bool.false_eq_true,if_false]
  unfold Y6 X6
  split<;>omega
 ·simp only[bsz,if_true]
  unfold Y6 X6
  split<;>omega
theorem T4 (wd:Bool) (zs:List Int) (k:Nat) (hk:k<bsz wd*X6 (bsz wd) zs.length):fnz (Ye (bsz wd) zs) (bsz wd*(zs.length/bsz wd)+k)=Qf (bsz wd) (fun i=>fnz zs (bsz wd*(zs.length/bsz wd)+i)) zs.length k:=by
 have hb:=Ke wd zs
 rw[Xl] at hb
 rw[Cz]
 unfold Qf
 have hd:bsz wd*(zs.length/bsz wd)+zs.length%bsz wd=zs.length:=Nat.div_add_mod _ _
 by_cases h1:k<zs.length%bsz wd
 ·rw[if_pos (by omega),if_pos h1]
 ·rw[if_neg (by omega),if_neg h1]
  by_cases h2:k=zs.length%bsz wd
  ·rw[if_pos (by omega),if_pos h2]
  ·rw[if_neg (by omega),if_neg h2]
   rw[Nat.mul_add] at hb
   rw[Nat.mul_comm (X6 _ _)]
   by_cases h3:bsz wd*(zs.length/bsz wd)+k<zs.length+1+Y6 (bsz wd) zs.length
   ·rw[if_pos h3,if_pos (by cases wd<;>simp only[bsz,Bool.false_eq_true,if_false,if_true] at*<;> omega)]
   ·rw[if_neg h3,Ud _ _ _ (by omega)]
    have e:bsz wd/8-1-(bsz wd*(zs.length/bsz wd)+k-(zs.length+1+Y6 (bsz wd) zs.length))=bsz wd*X6 (bsz wd) zs.length-1-k:=by omega
    rw[e]
    by_cases h4:k+8<bsz wd*X6 (bsz wd) zs.length
    ·rw[if_pos (by omega),if_pos h4]
    ·rw[if_neg (by omega),if_neg h4]
theorem Rl (wd:Bool) (s0:Zb) (zs:List Int):TT wd (fnz (Ye (bsz wd) zs)) s0 ((Ye (bsz wd) zs).length/bsz wd)=Wz wd s0 0 zs:=by
 have hb:=Lc wd
 rw[Ke,Nat.mul_div_cancel_left _ hb,Wl]
 unfold Wz
 rw[Nat.zero_add]
 have h1:TT wd (fnz (Ye (bsz wd) zs)) s0 (zs.length/bsz wd)=TT wd (fnz zs) s0 (zs.length/bsz wd):=Y7 wd s0 _ fun j hj=>by
  have:=Nat.mul_div_le zs.length (bsz wd)
  rw[Cz,if_pos (by omega)]
 rw[h1]
 exact Y7 wd _ _ fun k hk=>T4 wd zs k hk
theorem Tj (bs n:Nat):1≤X6 bs n:=by unfold X6;split<;>omega
set_option linter.unusedSimpArgs false
theorem Mem.laterN {w wr wn:World} {L:List (List Value)} (h:Mem w wr L) (hb:Below (w.heap.size+L.length) wr wn):Mem w wn L:=by
 refine ⟨h.below.trans (hb.mono (by omega)),Nat.le_trans h.size hb.size,fun i cs hi=>?_⟩
 have hl:i<L.length:=(List.getElem?_eq_some_iff.1 hi).1
 obtain ⟨h1,h2⟩:=h.holds i cs hi
 refine ⟨fun j v hv=>?_,fun j hj=>?_⟩
 ·rw[hb.cell (p:=⟨w.heap.size+i,0+j,none⟩) (by show w.heap.size+i<_;omega)]
  exact h1 j v hv
 ·rw[hb.cell (p:=⟨w.heap.size+i,0+j,none⟩) (by show w.heap.size+i<_;omega),hb.frozen (p:=⟨w.heap.size+i,0+j,none⟩) (by show w.heap.size+i<_;omega)]
  exact h2 j hj
theorem Ng {w:World} {B n:Nat} {v:Value} {cs:List Value} (h:w.ownsRow B 5 1 v n cs):∃ a c,v=.slice a n c:=by
 rcases h.2 with ⟨rfl,e⟩ | ⟨g,c,cur,rfl,_⟩
 ·exact ⟨none,0,by rw[e]⟩
 ·exact ⟨some ⟨g,0,none⟩,c,rfl⟩
theorem L6 {w:World} {B B' n:Nat} {v:Value} {cs:List Value} (h:w.ownsRow B 5 1 v n cs) (hB:B'≤B):w.ownsRow B' 5 1 v n cs:=by
 obtain ⟨h1,h2⟩:=h
 refine ⟨h1,?_⟩
 rcases h2 with h2 | ⟨g,c,cur,e,q1,q⟩
 ·exact .inl h2
 ·exact .inr ⟨g,c,cur,e,Nat.le_trans hB q1,q⟩
theorem Ls (wd:Bool) (s:Zb) (l:Nat) (hl:l<64):(Yq wd s)[l]?=some (X0 (wsz wd) s l):=by simp [Yq,hl]
theorem Zai (j:Nat):(2:Int)^(8*j)=256^j:=by rw[Int.pow_mul];rfl
theorem O3 (s:Zb) (i j l:Nat) (hl:l=4*i+(4-(j+1))) (hj:j<4) (hi:i<8):X0 (wsz false) s l=fnz s.list i/2^(8*j)%256:=by
 show X0 4 s l=_
 unfold X0
 rw[if_pos (by omega),show l/4=i by omega,show 4-1-l%4=j by omega,Zai]
set_option maxHeartbeats 3200000 in
set_option maxRecDepth 100000 in
theorem O7 (h:Int) (k:X8 h) (hwd:Xe h=false) (m:Nat) (hm:Hid (Yr h=4*m∧m≤8)) (v:Value) (zs:List Int) (w:World) (hT:RTab w) (hv:Zf w v zs) (hn:zs.length≤140737488351232) :
  Calls Tryz.prog 49 #[.int .i64 h,v] w fun e w'=>∃ v',e=.returned v'∧w'.ownsRow w.heap.size 5 1 v' (Yr h) (Za (Qd h zs))∧Below w.heap.size w w':=by
 have HT:Hid (RTab w):=hT
 have HV:Hid (Zf w v zs):=hv
 have hn2:Hid (zs.length≤140737488351232):=hn
 have hb48:Hid (∀ u,Calls Tryz.prog 68 #[.int .i64 h] u fun e w'=>e=.returned (.int .i64 64)∧w'=u):=fun u=>by
  have:=V6 h k u
  rw[hwd] at this
  exact this
 obtain ⟨i0,hi,hz0,hz1,hz2⟩:=info_parts Tryz.info5
 clear hT hv hn
 go_enter Tryz.func49,Tryz.ntmps49
 go_wp2_with (go_at_call 68;refine (hb48.out _).mono ?_;rintro e1 wx ⟨rfl,hwx⟩;obtain rfl:=hwx.symm)
 go_upto_region 5 with (go_at_call 69;refine (B7 k w HT).mono ?_)
 rintro e w1 ⟨rfl,hb1⟩
 obtain ⟨E0,HE0⟩:∃ E0:Zb,Hid (E0=Zq h):=⟨_,rfl⟩
 rw[←HE0.out]
 have HN1:Hid (w.heap.size≤w1.heap.size):=hb1.size
 have HMa:Hid (Mem w1 (w1.alloc (.cells #[.int .u64 0,.int .u64 0,.int .u64 0,.int .u64 0,.int .u64 0,.int .u64 0,.int .u64 0,.int .u64 0] 137)) [[.int .u64 0,.int .u64 0,.int .u64 0,.int .u64 0,.int .u64 0,.int .u64 0,.int .u64 0,.int .u64 0]]):=(Mem.nil w1).alloc rfl _ _
 have HBa:Hid (Below w.heap.size w (w1.alloc (.cells #[.int .u64 0,.int .u64 0,.int .u64 0,.int .u64 0,.int .u64 0,.int .u64 0,.int .u64 0,.int .u64 0] 137))):=hb1.alloc hb1.size _
 have HYa:Hid ((w1.alloc (.cells #[.int .u64 0,.int .u64 0,.int .u64 0,.int .u64 0,.int .u64 0,.int .u64 0,.int .u64 0,.int .u64 0] 137)).there w1.heap.size 0 E0.cells.toArray.size):=(HMa.out.holds 0 _ rfl).2
 clear hb1
 go_upto_region 5 with (refine wpList_store_mid (by rfl) 137 (.tmp 6) (.tmp 18) (by rfl) w1.heap.size 0 E0.cells.toArray (by rfl) (by rfl) HYa.out Qi (Xi E0) ?_)
 have HM2:Hid (Mem w1 ((w1.alloc (.cells #[.int .u64 0,.int .u64 0,.int .u64 0,.int .u64 0,.int .u64 0,.int .u64 0,.int .u64 0,.int .u64 0] 137)).setCells w1.heap.size 0 E0.cells) [E0.cells]):=(HMa.out.store 0 rfl E0.cells rfl).congr rfl
 have HB2:Hid (Below w.heap.size w ((w1.alloc (.cells #[.int .u64 0,.int .u64 0,.int .u64 0,.int .u64 0,.int .u64 0,.int .u64 0,.int .u64 0,.int .u64 0] 137)).setCells w1.heap.size 0 E0.cells)):=below_setCells _ HN1.out _ _ _ HBa.out
 clear HMa HBa HYa
 generalize (w1.alloc (.cells #[.int .u64 0,.int .u64 0,.int .u64 0,.int .u64 0,.int .u64 0,.int .u64 0,.int .u64 0,.int .u64 0] 137)).setCells w1.heap.size 0 E0.cells=w2 at HM2 HB2 ⊢
 have H50:Hid (Calls Tryz.prog 70 #[v,.int .i64 64] w2 fun e w'=>∃ v',e=.returned v'∧w'.ownsRow w2.heap.size 5 1 v' (Ye (bsz false) zs).length (Za (Ye (bsz false) zs))∧Below w2.heap.size w2 w'):=L4 false v zs w2 (HV.out.kept fun b hb=>HB2.out.block b hb) hn2.out
 go_upto_region 6 with (go_at_call 70;refine H50.out.mono ?_)
 clear H50
 rintro e w3 ⟨v3,rfl,ho3,hb3⟩
 obtain ⟨Z,HZ⟩:∃ Z,Hid (Z=Ye (bsz false) zs):=⟨_,rfl⟩
 rw[←HZ.out] at ho3
 obtain ⟨L,HLZ⟩:∃ L,Hid (L=Z.length):=⟨_,rfl⟩
 rw[←HLZ.out] at ho3
 have HL1:Hid (64≤L∧L=64*(L/64)):=by
  have h1:=Ke false zs
  have h2:=Tj (bsz false) zs.length
  rw[←HZ.out,←HLZ.out] at h1
  have h3:L=64*(zs.length/bsz false+X6 (bsz false) zs.length):=h1
  generalize zs.length/bsz false=x1 at h3
  generalize X6 (bsz false) zs.length=x2 at h2 h3
  show 64≤L∧L=64*(L/64)
  omega
 obtain ⟨g,c,rfl⟩:=Ya ho3 (by have:=HL1.out;omega)
 have HGN:Hid (g≠w1.heap.size):=by
  have h1:=(ho3.lt g rfl).1
  have h2:=HM2.out.size
  simp at h2
  show g≠w1.heap.size
  omega
 have HL:Hid (L=64*(L/64)∧L≤c∧c≤9223372036854775807∧g<w3.heap.size∧∀ i,i<L→w3.cell? ⟨g,0+i,none⟩=some (.int .u8 (fnz Z i))):=by
  have h1:=Sh ho3 HLZ.out.symm
  obtain ⟨a',cap',e1,q1,q2,q3,q4⟩:=h1
  injection e1 with e1 e2 e3
  subst e3
  refine ⟨HL1.out.2,by rw[←HLZ.out] at q1;exact q1,by unfold maxLen at q2;omega,(ho3.lt g rfl).2,fun i hi=>?_⟩
  rcases q4 with q4 | ⟨b',p',e4,q5⟩
  ·rw[HLZ.out,q4] at hi
   simp at hi
  ·rw[←e1] at e4
   injection e4 with e4
   injection e4 with e5 e6
   subst e5 e6
   exact q5 i (by rw[←HLZ.out];exact hi)
 have HM3:Hid (Mem w1 w3 [E0.cells]):=HM2.out.later hb3
 have HB3:Hid (Below w.heap.size w w3):=HB2.out.trans (hb3.mono HB2.out.size)
 have HT3:Hid (RTab w3):=HT.out.below HB3.out HT.out.size
 clear HM2 HB2 ho3 hb3 HV
 have hTw:=HT3.out
 go_upto_region 13 with (first
  | (refine wpList_load_mid (by rfl) 137 (.tmp 6) (by rfl) w1.heap.size 0 (by rfl) E0.cells _ ((HM3.out.holds 0 _ rfl).1) Tryz.underlying137 rfl Qi ?_)
  | (go_at_call 71;refine (Dh E0.a E0.b E0.c E0.d E0.e E0.f E0.g E0.k (fnz Z) g 0 L (L/64) c w3 hTw HL.out.1 HL.out.2.1 HL.out.2.2.1 HL.out.2.2.2.1 HL.out.2.2.2.2).mono ?_)
  | fail)
 rintro e w4 ⟨rfl,hb4⟩
 obtain ⟨E1,HE1⟩:∃ E1:Zb,Hid (E1=(Z7 Zp (fnz Z) ⟨E0.a,E0.b,E0.c,E0.d,E0.e,E0.f,E0.g,E0.k⟩ (L/64)).low):=⟨_,rfl⟩
 rw[←HE1.out]
 have HM4:Hid (Mem w1 w4 [E0.cells]):=HM3.out.later hb4
 have HB4:Hid (Below w.heap.size w w4):=HB3.out.trans (hb4.mono HB3.out.size)
 have HM5:Hid (Mem w1 (w4.setCells w1.heap.size 0 E1.cells) [E1.cells]):=(HM4.out.store 0 rfl E1.cells rfl).congr rfl
 have HB5:Hid (Below w.heap.size w (w4.setCells w1.heap.size 0 E1.cells)):=below_setCells _ HN1.out _ _ _ HB4.out
 have HY:Hid (w4.there w1.heap.size 0 E1.cells.toArray.size):=(HM4.out.holds 0 _ rfl).2
 have HEE:Hid (E1=Wz (Xe h) (Zq h) 0 zs):=by
  rw[HE1.out,hwd,←Rl false,←HE0.out,←HZ.out]
  have hL:L=Z.length:=HLZ.out
  have h1:1≤L/64:=by have:=HL1.out;omega
  obtain ⟨t,ht⟩:∃ t,L/64=t+1:=⟨L/64-1,by omega⟩
  have e:Z7 Zp (fnz Z) ⟨E0.a,E0.b,E0.c,E0.d,E0.e,E0.f,E0.g,E0.k⟩ (L/64)=TT false (fnz Z) E0 (Z.length/bsz false):=by rw[←hL];rfl
  rw[←e,ht]
  exact M5 _ _ _
 clear HM3 HB3 HE1 HM4 HB4 hb4 hTw
 go_upto_region 13 with (refine wpList_store_mid (by rfl) 137 (.tmp 6) (.tmp 28) (by rfl) w1.heap.size 0 E1.cells.toArray (by rfl) (by rfl) HY.out Qi (Xi E1) ?_)
 clear HY
 change Code.wp _ _ _ _ (w4.setCells w1.heap.size 0 E1.cells) at *
 generalize w4.setCells w1.heap.size 0 E1.cells=w5 at HM5 HB5 ⊢
 go_wp2
 go_loopw [10,11] (fun v vi wr=>∃ i l c:Nat,∃ a:Option Addr,Hid (i≤m∧l=4*i)∧vi=.int .i64 i∧v=.slice a l c∧Hid (wr.ownsRow (w1.heap.size+1) 5 1 (.slice a l c) l (Za ((Yq false E1).take l)))∧Hid (Mem w1 wr [E1.cells])∧Hid (Below w.heap.size w wr)) (fun _ vi _=>m-(intOf vi).toNat)
 case atStart=>exact ⟨0,0,0,none,⟨Nat.zero_le _,rfl⟩,rfl,rfl,World.ownsRow_nil _ _ _ _,HM5,HB5⟩
 case round=>
  obtain ⟨i,l,c0,a,HI,rfl,rfl,HO6,HM6,HB6⟩:=hrel
  clear HM5 HB5
  by_cases him:i<m
  ·have hi8:i<8:=by have:=hm.out;omega
   have hls:l<Yr h:=by have:=HI.out;have:=hm.out;omega
   have hls':(l:Int)<(Yr h:Nat):=by omega
   go_wp2_with (go_at_call 73;refine (Gv h k _).mono ?_;rintro e1 wx ⟨rfl,hwx⟩;obtain rfl:=hwx.symm)
   go_loopw [10,12] (fun v vj wr=>∃ q l c:Nat,∃ a:Option Addr,Hid (q≤4∧l=4*i+(4-q))∧vj=.int .i64 ((q:Int)-1)∧v=.slice a l c∧Hid (wr.ownsRow (w1.heap.size+1) 5 1 (.slice a l c) l (Za ((Yq false E1).take l)))∧Hid (Mem w1 wr [E1.cells])∧Hid (Below w.heap.size w wr)) (fun _ vj _=>(intOf vj+1).toNat)
   case atStart=>exact ⟨4,l,c0,a,⟨by omega,by have:=HI.out;omega⟩,rfl,rfl,HO6,HM6,HB6⟩
   case round=>
    obtain ⟨q,l2,c2,a2,HL2,rfl,rfl,HO7,HM7,HB7⟩:=hrel
    clear HO6 HM6 HB6
    rcases q with _ | j
    ·rw[show ((0:Nat):Int)-1=-1 from rfl]
     go_wp2
     go_roundw
     case rel=>exact ⟨i+1,l2,c2,a2,⟨by omega,by have:=HL2.out;omega⟩,by go_num,rfl,HO7,HM7,HB7⟩
     case measure=>simp [intOf];omega
    ·rw[show ((j+1:Nat):Int)-1=(j:Int) by omega]
     have hj:j<4:=by have:=HL2.out;omega
     have hls2:l2<Yr h:=by have:=HL2.out;have:=hm.out;omega
     have hls3:(l2:Int)<(Yr h:Nat):=by omega
     have hl64:l2<64:=by have:=HL2.out;omega
     have hj0:(0:Int)≤(j:Int):=by omega
     have hw1:IntKind.i64.wrap (8*(j:Int))=8*(j:Int):=by rw[IntKind.wrap_i64];omega
     have hw2:IntKind.u64.wrap (8*(j:Int))=8*(j:Int):=by rw[IntKind.wrap_u64];omega
     have f0:wr.cell? ⟨w1.heap.size,i,none⟩=some (.int .u64 (fnz E1.list i)):=HM7.out.cell 0 rfl i _ (by rw[Uy];exact V2 _ _ i hi8)
     have hbase:w1.heap.size+1≤wr.heap.size:=HM7.out.size
     go_wp2_with (first
      | (go_at_call 73;refine (Gv h k _).mono ?_;rintro e1 wx ⟨rfl,hwx⟩;obtain rfl:=hwx.symm)
      | (at_builtin;go_must (refine wpList_append_own _ rfl (.tmp 62) (.tmp 71) 22 rfl (w1.heap.size+1) 5 i0 (.int .u8 0) 1 1 Tryz.underlying22 hi hz0 hz1 hz2 rfl (by decide) _ _ _ rfl (HO7.out.alloc _) ⟨wr.heap.size,0,none⟩ 1 1 [.int .u8 (fnz E1.list i/2^(8*j)%256)] rfl rfl (one_cell _ _ _) (one_one _) (by unfold maxLen;omega) (by omega) (by rw[size_alloc];omega) ?_)))
     intro v8 w8 hown8 hgrow8 hnil8
     have hb8:Below (w1.heap.size+1) wr w8:=((Below.refl (w1.heap.size+1) wr).alloc hbase _).grown hgrow8 (by rw[size_alloc];omega) (fun q hq=>(HO7.out.lt q hq).1)
     have HM8:Hid (Mem w1 w8 [E1.cells]):=HM7.out.laterN hb8
     have HB8:Hid (Below w.heap.size w w8):=HB7.out.trans (hb8.mono (by have:=HN1.out;omega))
     have ho8:w8.ownsRow (w1.heap.size+1) 5 1 v8 (l2+1) (Za ((Yq false E1).take (l2+1))):=by
      have e:Za ((Yq false E1).take (l2+1))=Za ((Yq false E1).take l2)++[.int .u8 (fnz E1.list i/2^(8*j)%256)]:=by
       rw[List.take_add_one,Ls _ _ l2 hl64,O3 E1 i j l2 (by have:=HL2.out;omega) hj hi8]
       simp [Za]
      rw[e]
      exact hown8
     clear hown8 hgrow8 hnil8 hb8
     obtain ⟨a8,c8,rfl⟩:=Ng ho8
     have HO8:Hid (w8.ownsRow (w1.heap.size+1) 5 1 (.slice a8 (l2+1) c8) (l2+1) (Za ((Yq false E1).take (l2+1)))):=ho8
     clear ho8 HO7 HM7 HB7
     go_wp2
     go_roundw
     case rel=>exact ⟨j,l2+1,c8,a8,⟨by omega,by have:=HL2.out;omega⟩,rfl,rfl,HO8,HM8,HB8⟩
     case measure=>simp [intOf]
  ·have hls:¬ l<Yr h:=by have:=HI.out;have:=hm.out;omega
   have hls':¬ (l:Int)<(Yr h:Nat):=by omega
   go_wp2_with (go_at_call 73;refine (Gv h k _).mono ?_;rintro e1 wx ⟨rfl,hwx⟩;obtain rfl:=hwx.symm)
   go_ret
   have hl:l=Yr h:=by have:=HI.out;have:=hm.out;omega
   refine ⟨_,rfl,?_,HB6.out⟩
   have e:Qd h zs=(Yq false E1).take l:=by rw[hl,HEE.out,←hwd];rfl
   rw[e,←hl]
   exact L6 HO6.out (by have:=HN1.out;omega)
theorem El {h:Int} (k:X8 h) (v:Value) (zs:List Int) (w:World) (hT:RTab w) (hv:Zf w v zs) (hn:zs.length≤140737488351232) :
  Calls Tryz.prog 49 #[.int .i64 h,v] w fun e w'=>∃ v',e=.returned v'∧w'.ownsRow w.heap.size 5 1 v' (Yr h) (Za (Qd h zs))∧Below w.heap.size w w':=by
 obtain rfl:h=256:=k
 exact O7 256 rfl rfl 8 ⟨rfl,by decide⟩ v zs w hT hv hn
end Go.Proofs.YtehlppaidgkpaaaGreatDoor.Dg
namespace Go.Proofs.YtehlppaidgkpaaaGreatDoor
open Go.RowKit Go.RwLone
set_option linter.unusedVariables false
theorem Jf {w v:World} {g o n:Nat} (h:Touch w v g o n) {b:Nat} (hb:w.heap.size≤b) (vs:List Value) (o':Nat) (hg:g<w.heap.size):Touch w (v.setCells b o' vs) g o n:=
 ⟨by rw[Yj];exact h.os,by rw[Z2];exact h.tape,by rw[Zv];exact h.output,by rw[Z5];exact h.size,
  fun k hk hne=>by rw[World.heap_setCells_other v b o' vs (by have:=h.size;omega) (by omega)];exact h.block k hk hne,
  fun j hj=>by rw[World.cell?_setCells_out b vs o' v ⟨g,j,none⟩ (fun e _=>absurd e (by simp;omega))];exact h.cell j hj,
  fun o2 n2 ht=>World.there_setCells (h.there o2 n2 ht) b o' vs⟩
theorem Zm.touch {w w':World} {g nr:Nat} {K:Nat→Nat} (h:Zm w g nr K) (ht:Touch w w' g 4 1) (hc:w'.cell? ⟨g,4,none⟩=some (.int .i32 0)):Zm w' g nr K:=by
 refine ⟨⟨(ht.cell 6 (by omega)).trans h.ciph.rounds,fun i hi=>(ht.cell (6+1+i) (by omega)).trans (h.ciph.words i hi),h.ciph.small,⟨fun b hb=>(ht.cell _ (by omega)).trans (h.ciph.tab.s b hb),fun b hb=>(ht.cell _ (by omega)).trans (h.ciph.tab.u b hb),fun b hb=>(ht.cell _ (by omega)).trans (h.ciph.tab.m b hb),fun b hb=>(ht.cell _ (by omega)).trans (h.ciph.tab.n b hb)⟩,Nat.lt_of_lt_of_le h.ciph.here ht.size,h.ciph.some,h.ciph.most⟩,hc,ht.there _ _ h.room⟩
theorem Wd {w:World} {g nr:Nat} {K:Nat→Nat} (h:Zm w g nr K) (c:Int):X5 (w.setCell ⟨g,4,none⟩ (.int .i32 c)) g 6 nr K:=by
 have ht:Touch w (w.setCell ⟨g,4,none⟩ (.int .i32 c)) g 4 1:=(Touch.refl w g 4 1).setCell 4 _ (by omega) (by omega)
 exact ⟨(ht.cell 6 (by omega)).trans h.ciph.rounds,fun i hi=>(ht.cell (6+1+i) (by omega)).trans (h.ciph.words i hi),h.ciph.small,⟨fun b hb=>(ht.cell _ (by omega)).trans (h.ciph.tab.s b hb),fun b hb=>(ht.cell _ (by omega)).trans (h.ciph.tab.u b hb),fun b hb=>(ht.cell _ (by omega)).trans (h.ciph.tab.m b hb),fun b hb=>(ht.cell _ (by omega)).trans (h.ciph.tab.n b hb)⟩,Nat.lt_of_lt_of_le h.ciph.here ht.size,h.ciph.some,h.ciph.most⟩
theorem Y9 {w:World} {g o n:Nat} (h:w.there g o n) (j:Nat) (hj:j<n):∃ v,w.cell? ⟨g,o+j,none⟩=some v:=Option.isSome_iff_exists.1 (h j hj).1
set_option maxHeartbeats 1600000 in
set_option maxRecDepth 100000 in
theorem M7 (g nr:Nat) (K:Nat→Nat) (w:World) (h:Zm w g nr K):Calls Tryz.prog 53 #[.pointer (some ⟨g,0,none⟩)] w fun e w'=>e=.returned (.int .i64 0)∧w'=w.setCell ⟨g,4,none⟩ (.int .i32 1):=by
 obtain ⟨x0,c0⟩:=Y9 h.room 0 (by decide)
 obtain ⟨x3,c3⟩:=Y9 h.room 3 (by decide)
 have hz:=(h.room 4 (by decide)).2
 have hc:=h.count
 have KL:Hid (Calls Tryz.prog 79 #[.pointer (some ⟨g,0,none⟩)] w fun e w'=>e=.returned (.tuple #[])∧w'=w.setCell ⟨g,4,none⟩ (.int .i32 1)):=by
  have h:=rlock_open B4 g 0 0 x0 x3 w c0 c3 hc hz (by decide +kernel)
  rw[show wrap32 (0+1)=1 by decide +kernel] at h
  exact h
 have cr:(w.setCell ⟨g,4,none⟩ (.int .i32 1)).cell? ⟨g,6,none⟩=some (.int .i64 (nr:Nat)):=(Wd h 1).rounds
 have hn:(((nr:Nat):Int)==0)=false:=by have:=h.ciph.some;simp;omega
 clear c0 c3 hz hc h
 go_enter Tryz.func53,Tryz.ntmps53
 go_wp2_with (first | (go_at_call 79;refine KL.out.mono ?_))
 rintro e1 w1 ⟨rfl,hw1⟩
 obtain rfl:=hw1.symm
 go_wp2
 go_ret
 exact ⟨rfl,rfl⟩
set_option linter.unusedSimpArgs false
set_option maxHeartbeats 3200000 in
set_option maxRecDepth 100000 in
theorem Id (g nr:Nat) (K:Nat→Nat) (s:W4) (w:World) (h:Zm w g nr K) (hs:s.ok) :
  Calls Tryz.prog 32 #[.pointer (some ⟨g,0,none⟩),s.blk] w fun e w'=>e=.returned (.tuple #[(N2 nr K s).blk,.int .i64 0])∧Zm w' g nr K∧Touch w w' g 4 1:=by
 have HK:Hid (Zm w g nr K):=h
 have HG:Hid (g<w.heap.size):=h.ciph.here
 clear h
 obtain ⟨⟨n0,n1,n2,n3⟩,HN⟩:∃ t,Hid (t=N2 nr K s):=⟨_,rfl⟩
 have HB2:Hid (Below w.heap.size w ((w.alloc (.cells #[.int .u8 (bt0 s.a:Nat),.int .u8 (bt1 s.a:Nat),.int .u8 (bt2 s.a:Nat),.int .u8 (bt3 s.a:Nat),.int .u8 (bt0 s.b:Nat),.int .u8 (bt1 s.b:Nat),.int .u8 (bt2 s.b:Nat),.int .u8 (bt3 s.b:Nat),.int .u8 (bt0 s.c:Nat),.int .u8 (bt1 s.c:Nat),.int .u8 (bt2 s.c:Nat),.int .u8 (bt3 s.c:Nat),.int .u8 (bt0 s.d:Nat),.int .u8 (bt1 s.d:Nat),.int .u8 (bt2 s.d:Nat),.int .u8 (bt3 s.d:Nat)] 27)).alloc (.cells #[.int .u8 0,.int .u8 0,.int .u8 0,.int .u8 0,.int .u8 0,.int .u8 0,.int .u8 0,.int .u8 0,.int .u8 0,.int .u8 0,.int .u8 0,.int .u8 0,.int .u8 0,.int .u8 0,.int .u8 0,.int .u8 0] 27))):=(Ym w _ _ 27 27).1
 have HK2:Hid (Zm ((w.alloc (.cells #[.int .u8 (bt0 s.a:Nat),.int .u8 (bt1 s.a:Nat),.int .u8 (bt2 s.a:Nat),.int .u8 (bt3 s.a:Nat),.int .u8 (bt0 s.b:Nat),.int .u8 (bt1 s.b:Nat),.int .u8 (bt2 s.b:Nat),.int .u8 (bt3 s.b:Nat),.int .u8 (bt0 s.c:Nat),.int .u8 (bt1 s.c:Nat),.int .u8 (bt2 s.c:Nat),.int .u8 (bt3 s.c:Nat),.int .u8 (bt0 s.d:Nat),.int .u8 (bt1 s.d:Nat),.int .u8 (bt2 s.d:Nat),.int .u8 (bt3 s.d:Nat)] 27)).alloc (.cells #[.int .u8 0,.int .u8 0,.int .u8 0,.int .u8 0,.int .u8 0,.int .u8 0,.int .u8 0,.int .u8 0,.int .u8 0,.int .u8 0,.int .u8 0,.int .u8 0,.int .u8 0,.int .u8 0,.int .u8 0,.int .u8 0] 27)) g nr K):=HK.out.below HB2.out HG.out
 have HH:Hid (Calls Tryz.prog 53 #[.pointer (some ⟨g,0,none⟩)] ((w.alloc (.cells #[.int .u8 (bt0 s.a:Nat),.int .u8 (bt1 s.a:Nat),.int .u8 (bt2 s.a:Nat),.int .u8 (bt3 s.a:Nat),.int .u8 (bt0 s.b:Nat),.int .u8 (bt1 s.b:Nat),.int .u8 (bt2 s.b:Nat),.int .u8 (bt3 s.b:Nat),.int .u8 (bt0 s.c:Nat),.int .u8 (bt1 s.c:Nat),.int .u8 (bt2 s.c:Nat),.int .u8 (bt3 s.c:Nat),.int .u8 (bt0 s.d:Nat),.int .u8 (bt1 s.d:Nat),.int .u8 (bt2 s.d:Nat),.int .u8 (bt3 s.d:Nat)] 27)).alloc (.cells #[.int .u8 0,.int .u8 0,.int .u8 0,.int .u8 0,.int .u8 0,.int .u8 0,.int .u8 0,.int .u8 0,.int .u8 0,.int .u8 0,.int .u8 0,.int .u8 0,.int .u8 0,.int .u8 0,.int .u8 0,.int .u8 0] 27)) fun e w'=>e=.returned (.int .i64 0)∧w'=(((w.alloc (.cells #[.int .u8 (bt0 s.a:Nat),.int .u8 (bt1 s.a:Nat),.int .u8 (bt2 s.a:Nat),.int .u8 (bt3 s.a:Nat),.int .u8 (bt0 s.b:Nat),.int .u8 (bt1 s.b:Nat),.int .u8 (bt2 s.b:Nat),.int .u8 (bt3 s.b:Nat),.int .u8 (bt0 s.c:Nat),.int .u8 (bt1 s.c:Nat),.int .u8 (bt2 s.c:Nat),.int .u8 (bt3 s.c:Nat),.int .u8 (bt0 s.d:Nat),.int .u8 (bt1 s.d:Nat),.int .u8 (bt2 s.d:Nat),.int .u8 (bt3 s.d:Nat)] 27)).alloc (.cells #[.int .u8 0,.int .u8 0,.int .u8 0,.int .u8 0,.int .u8 0,.int .u8 0,.int .u8 0,.int .u8 0,.int .u8 0,.int .u8 0,.int .u8 0,.int .u8 0,.int .u8 0,.int .u8 0,.int .u8 0,.int .u8 0] 27))).setCell ⟨g,4,none⟩ (.int .i32 1)):=M7 g nr K _ HK2.out
 have HE:Hid (∀ u,X5 u g 6 nr K→Calls Tryz.prog 55 #[.pointer (some ⟨g,6,none⟩),.agg #[.int .u8 (bt0 s.a:Nat),.int .u8 (bt1 s.a:Nat),.int .u8 (bt2 s.a:Nat),.int .u8 (bt3 s.a:Nat),.int .u8 (bt0 s.b:Nat),.int .u8 (bt1 s.b:Nat),.int .u8 (bt2 s.b:Nat),.int .u8 (bt3 s.b:Nat),.int .u8 (bt0 s.c:Nat),.int .u8 (bt1 s.c:Nat),.int .u8 (bt2 s.c:Nat),.int .u8 (bt3 s.c:Nat),.int .u8 (bt0 s.d:Nat),.int .u8 (bt1 s.d:Nat),.int .u8 (bt2 s.d:Nat),.int .u8 (bt3 s.d:Nat)]] u fun e u'=>e=.returned (.agg #[.int .u8 (bt0 n0:Nat),.int .u8 (bt1 n0:Nat),.int .u8 (bt2 n0:Nat),.int .u8 (bt3 n0:Nat),.int .u8 (bt0 n1:Nat),.int .u8 (bt1 n1:Nat),.int .u8 (bt2 n1:Nat),.int .u8 (bt3 n1:Nat),.int .u8 (bt0 n2:Nat),.int .u8 (bt1 n2:Nat),.int .u8 (bt2 n2:Nat),.int .u8 (bt3 n2:Nat),.int .u8 (bt0 n3:Nat),.int .u8 (bt1 n3:Nat),.int .u8 (bt2 n3:Nat),.int .u8 (bt3 n3:Nat)])∧Below u.heap.size u u'):=fun u hu=>by
  have:=Zbc g 6 nr K s u hu hs
  rw[←HN.out] at this
  exact this
 clear hs
 have HSZ:Hid (((w.alloc (.cells #[.int .u8 (bt0 s.a:Nat),.int .u8 (bt1 s.a:Nat),.int .u8 (bt2 s.a:Nat),.int .u8 (bt3 s.a:Nat),.int .u8 (bt0 s.b:Nat),.int .u8 (bt1 s.b:Nat),.int .u8 (bt2 s.b:Nat),.int .u8 (bt3 s.b:Nat),.int .u8 (bt0 s.c:Nat),.int .u8 (bt1 s.c:Nat),.int .u8 (bt2 s.c:Nat),.int .u8 (bt3 s.c:Nat),.int .u8 (bt0 s.d:Nat),.int .u8 (bt1 s.d:Nat),.int .u8 (bt2 s.d:Nat),.int .u8 (bt3 s.d:Nat)] 27)).alloc (.cells #[.int .u8 0,.int .u8 0,.int .u8 0,.int .u8 0,.int .u8 0,.int .u8 0,.int .u8 0,.int .u8 0,.int .u8 0,.int .u8 0,.int .u8 0,.int .u8 0,.int .u8 0,.int .u8 0,.int .u8 0,.int .u8 0] 27)).heap.size=w.heap.size+2):=by show _=_;simp
 have HTH:Hid (((w.alloc (.cells #[.int .u8 (bt0 s.a:Nat),.int .u8 (bt1 s.a:Nat),.int .u8 (bt2 s.a:Nat),.int .u8 (bt3 s.a:Nat),.int .u8 (bt0 s.b:Nat),.int .u8 (bt1 s.b:Nat),.int .u8 (bt2 s.b:Nat),.int .u8 (bt3 s.b:Nat),.int .u8 (bt0 s.c:Nat),.int .u8 (bt1 s.c:Nat),.int .u8 (bt2 s.c:Nat),.int .u8 (bt3 s.c:Nat),.int .u8 (bt0 s.d:Nat),.int .u8 (bt1 s.d:Nat),.int .u8 (bt2 s.d:Nat),.int .u8 (bt3 s.d:Nat)] 27)).alloc (.cells #[.int .u8 0,.int .u8 0,.int .u8 0,.int .u8 0,.int .u8 0,.int .u8 0,.int .u8 0,.int .u8 0,.int .u8 0,.int .u8 0,.int .u8 0,.int .u8 0,.int .u8 0,.int .u8 0,.int .u8 0,.int .u8 0] 27)).there (w.heap.size+1) 0 16):=Kk w _ _ 27 27 rfl
 have HRG:Hid (((w.alloc (.cells #[.int .u8 (bt0 s.a:Nat),.int .u8 (bt1 s.a:Nat),.int .u8 (bt2 s.a:Nat),.int .u8 (bt3 s.a:Nat),.int .u8 (bt0 s.b:Nat),.int .u8 (bt1 s.b:Nat),.int .u8 (bt2 s.b:Nat),.int .u8 (bt3 s.b:Nat),.int .u8 (bt0 s.c:Nat),.int .u8 (bt1 s.c:Nat),.int .u8 (bt2 s.c:Nat),.int .u8 (bt3 s.c:Nat),.int .u8 (bt0 s.d:Nat),.int .u8 (bt1 s.d:Nat),.int .u8 (bt2 s.d:Nat),.int .u8 (bt3 s.d:Nat)] 27)).alloc (.cells #[.int .u8 0,.int .u8 0,.int .u8 0,.int .u8 0,.int .u8 0,.int .u8 0,.int .u8 0,.int .u8 0,.int .u8 0,.int .u8 0,.int .u8 0,.int .u8 0,.int .u8 0,.int .u8 0,.int .u8 0,.int .u8 0] 27)).rangeAt w.heap.size 0 [.int .u8 (bt0 s.a:Nat),.int .u8 (bt1 s.a:Nat),.int .u8 (bt2 s.a:Nat),.int .u8 (bt3 s.a:Nat),.int .u8 (bt0 s.b:Nat),.int .u8 (bt1 s.b:Nat),.int .u8 (bt2 s.b:Nat),.int .u8 (bt3 s.b:Nat),.int .u8 (bt0 s.c:Nat),.int .u8 (bt1 s.c:Nat),.int .u8 (bt2 s.c:Nat),.int .u8 (bt3 s.c:Nat),.int .u8 (bt0 s.d:Nat),.int .u8 (bt1 s.d:Nat),.int .u8 (bt2 s.d:Nat),.int .u8 (bt3 s.d:Nat)]):=fun j v hv=>by simpa using (Ym w #[.int .u8 (bt0 s.a:Nat),.int .u8 (bt1 s.a:Nat),.int .u8 (bt2 s.a:Nat),.int .u8 (bt3 s.a:Nat),.int .u8 (bt0 s.b:Nat),.int .u8 (bt1 s.b:Nat),.int .u8 (bt2 s.b:Nat),.int .u8 (bt3 s.b:Nat),.int .u8 (bt0 s.c:Nat),.int .u8 (bt1 s.c:Nat),.int .u8 (bt2 s.c:Nat),.int .u8 (bt3 s.c:Nat),.int .u8 (bt0 s.d:Nat),.int .u8 (bt1 s.d:Nat),.int .u8 (bt2 s.d:Nat),.int .u8 (bt3 s.d:Nat)] #[.int .u8 0,.int .u8 0,.int .u8 0,.int .u8 0,.int .u8 0,.int .u8 0,.int .u8 0,.int .u8 0,.int .u8 0,.int .u8 0,.int .u8 0,.int .u8 0,.int .u8 0,.int .u8 0,.int .u8 0,.int .u8 0] 27 27).2 j v (by simpa using hv)
 show Calls Tryz.prog 32 #[.pointer (some ⟨g,0,none⟩),.agg #[.int .u8 (bt0 s.a:Nat),.int .u8 (bt1 s.a:Nat),.int .u8 (bt2 s.a:Nat),.int .u8 (bt3 s.a:Nat),.int .u8 (bt0 s.b:Nat),.int .u8 (bt1 s.b:Nat),.int .u8 (bt2 s.b:Nat),.int .u8 (bt3 s.b:Nat),.int .u8 (bt0 s.c:Nat),.int .u8 (bt1 s.c:Nat),.int .u8 (bt2 s.c:Nat),.int .u8 (bt3 s.c:Nat),.int .u8 (bt0 s.d:Nat),.int .u8 (bt1 s.d:Nat),.int .u8 (bt2 s.d:Nat),.int .u8 (bt3 s.d:Nat)]] w _
 go_enter_defers Tryz.func32,Tryz.ntmps32
 go_wp2_with (first | (go_at_call 53;refine HH.out.mono ?_))
 rintro e1 w1 ⟨rfl,hw1⟩
 have H1:Hid (X5 w1 g 6 nr K∧Touch ((w.alloc (.cells #[.int .u8 (bt0 s.a:Nat),.int .u8 (bt1 s.a:Nat),.int .u8 (bt2 s.a:Nat),.int .u8 (bt3 s.a:Nat),.int .u8 (bt0 s.b:Nat),.int .u8 (bt1 s.b:Nat),.int .u8 (bt2 s.b:Nat),.int .u8 (bt3 s.b:Nat),.int .u8 (bt0 s.c:Nat),.int .u8 (bt1 s.c:Nat),.int .u8 (bt2 s.c:Nat),.int .u8 (bt3 s.c:Nat),.int .u8 (bt0 s.d:Nat),.int .u8 (bt1 s.d:Nat),.int .u8 (bt2 s.d:Nat),.int .u8 (bt3 s.d:Nat)] 27)).alloc (.cells #[.int .u8 0,.int .u8 0,.int .u8 0,.int .u8 0,.int .u8 0,.int .u8 0,.int .u8 0,.int .u8 0,.int .u8 0,.int .u8 0,.int .u8 0,.int .u8 0,.int .u8 0,.int .u8 0,.int .u8 0,.int .u8 0] 27)) w1 g 4 1∧w1.cell? ⟨g,4,none⟩=some (.int .i32 1)):=by
  rw[hw1]
  refine ⟨Wd HK2.out 1,(Touch.refl _ g 4 1).setCell 4 _ (by omega) (by omega),?_⟩
  have:=(HK2.out.room 4 (by decide)).1
  exact World.cell?_setCell_same' _ _ _ (by simpa using this)
 clear hw1 HH
 have gl:Hid (∀ u,Below w1.heap.size w1 u→u.rangeAt w.heap.size 0 [.int .u8 (bt0 s.a:Nat),.int .u8 (bt1 s.a:Nat),.int .u8 (bt2 s.a:Nat),.int .u8 (bt3 s.a:Nat),.int .u8 (bt0 s.b:Nat),.int .u8 (bt1 s.b:Nat),.int .u8 (bt2 s.b:Nat),.int .u8 (bt3 s.b:Nat),.int .u8 (bt0 s.c:Nat),.int .u8 (bt1 s.c:Nat),.int .u8 (bt2 s.c:Nat),.int .u8 (bt3 s.c:Nat),.int .u8 (bt0 s.d:Nat),.int .u8 (bt1 s.d:Nat),.int .u8 (bt2 s.d:Nat),.int .u8 (bt3 s.d:Nat)]):=fun u hu j v hv=>by
  have hs:=H1.out.2.1.size
  have hz:=HSZ.out
  have hgw:=HG.out
  rw[hu.cell (p:=⟨w.heap.size,0+j,none⟩) (show w.heap.size<_ by omega),H1.out.2.1.far (p:=⟨w.heap.size,0+j,none⟩) (show w.heap.size<_ by omega) (show w.heap.size≠g by omega)]
  exact HRG.out j v hv
 go_wp2_with fail
 have hS0:Below w1.heap.size w1 w1.drew:=(Below.refl _ _).drew
 refine wp_region_noPanic ?_
 refine Z3 (fun u=>Below w1.heap.size w1 u) 4 (by kernel_rfl) (by decide) (by kernel_rfl) (by kernel_rfl) (by kernel_rfl) (fun inv=>?_)
 refine tT 0 16 (.pointer (some ⟨g,0,none⟩)) inv rfl rfl (by decide +kernel) (hS0) (Or.inl ⟨by rfl,fun w' hS'=>by go_simp⟩) (fun inv=>?_)
 simp only[pU]
 refine tT 1 17 (.pointer (some ⟨g,0,none⟩)) inv rfl rfl (by decide +kernel) (hS0) (Or.inl ⟨by rfl,fun w' hS'=>by go_simp⟩) (fun inv=>?_)
 simp only[pU]
 refine tT 2 18 (.pointer (some ⟨g,6,none⟩)) inv rfl rfl (by decide +kernel) (hS0) (Or.inl ⟨by rfl,fun w' hS'=>by go_simp⟩) (fun inv=>?_)
 simp only[pU]
 refine tT 3 19 (.agg #[.int .u8 (bt0 s.a:Nat),.int .u8 (bt1 s.a:Nat),.int .u8 (bt2 s.a:Nat),.int .u8 (bt3 s.a:Nat),.int .u8 (bt0 s.b:Nat),.int .u8 (bt1 s.b:Nat),.int .u8 (bt2 s.b:Nat),.int .u8 (bt3 s.b:Nat),.int .u8 (bt0 s.c:Nat),.int .u8 (bt1 s.c:Nat),.int .u8 (bt2 s.c:Nat),.int .u8 (bt3 s.c:Nat),.int .u8 (bt0 s.d:Nat),.int .u8 (bt1 s.d:Nat),.int .u8 (bt2 s.d:Nat),.int .u8 (bt3 s.d:Nat)]) inv rfl rfl (by decide +kernel) (hS0) (yieldsIf_load_mid (by rfl) 27 (.tmp 3) rfl w.heap.size 0 rfl [.int .u8 (bt0 s.a:Nat),.int .u8 (bt1 s.a:Nat),.int .u8 (bt2 s.a:Nat),.int .u8 (bt3 s.a:Nat),.int .u8 (bt0 s.b:Nat),.int .u8 (bt1 s.b:Nat),.int .u8 (bt2 s.b:Nat),.int .u8 (bt3 s.b:Nat),.int .u8 (bt0 s.c:Nat),.int .u8 (bt1 s.c:Nat),.int .u8 (bt2 s.c:Nat),.int .u8 (bt3 s.c:Nat),.int .u8 (bt0 s.d:Nat),.int .u8 (bt1 s.d:Nat),.int .u8 (bt2 s.d:Nat),.int .u8 (bt3 s.d:Nat)] _ (fun u hu=>gl.out u hu) Tryz.underlying27 rfl Qz) (fun inv=>?_)
 simp only[pU]
 refine Zn (i:=4) (by kernel_rfl) (by decide) rfl (fun K hK=>?_)
 go_simp
 refine (HE.out _ (H1.out.1.below hS0 H1.out.1.here)).mono ?_
 rintro e1 u2 ⟨rfl,hu2⟩
 go_wp2_with fail
 refine hK.out _ _ ?_
 clear hK K
 try simp only[pU]
 have HT2:Hid (u2.there (w.heap.size+1) 0 16∧Touch w u2 g 4 1∧u2.cell? ⟨g,4,none⟩=some (.int .i32 1)):=by
  have hs:=H1.out.2.1.size
  have hz:=HSZ.out
  have hgw:=HG.out
  have hg1:=H1.out.1.here
  have hb:Below w1.heap.size w1 u2:=hS0.trans (hu2.mono (Nat.le_refl _))
  refine ⟨Zh (fun j hj=>?_) hb (by omega),?_,(hb.cell hg1).trans H1.out.2.2⟩
  ·rw[H1.out.2.1.far (p:=⟨w.heap.size+1,0+j,none⟩) (show w.heap.size+1<_ by omega) (show w.heap.size+1≠g by omega),H1.out.2.1.farFrozen (p:=⟨w.heap.size+1,0+j,none⟩) (show w.heap.size+1<_ by omega) (show w.heap.size+1≠g by omega)]
   exact HTH.out j hj
  ·exact ((((Touch.refl w g 4 1).alloc _ hgw).alloc _ hgw).trans H1.out.2.1).below hb hgw
 refine Zn (i:=5) (by kernel_rfl) (by decide) rfl (fun K hK=>?_)
 rw[if_pos (by rfl)]
 refine wp_store_mid 27 (.tmp 4) (.tmp 20) rfl (w.heap.size+1) 0 #[.int .u8 (bt0 n0:Nat),.int .u8 (bt1 n0:Nat),.int .u8 (bt2 n0:Nat),.int .u8 (bt3 n0:Nat),.int .u8 (bt0 n1:Nat),.int .u8 (bt1 n1:Nat),.int .u8 (bt2 n1:Nat),.int .u8 (bt3 n1:Nat),.int .u8 (bt0 n2:Nat),.int .u8 (bt1 n2:Nat),.int .u8 (bt2 n2:Nat),.int .u8 (bt3 n2:Nat),.int .u8 (bt0 n3:Nat),.int .u8 (bt1 n3:Nat),.int .u8 (bt2 n3:Nat),.int .u8 (bt3 n3:Nat)] rfl rfl (HT2.out.1) (Qz) (by kernel_rfl) ?_
 refine hK.out _ _ ?_
 clear hK K
 try simp only[pU]
 refine Zn (i:=6) (by kernel_rfl) (by decide) rfl (fun K hK=>?_)
 go_simp
 refine hK.out _ _ ?_
 clear hK K
 try simp only[pU]
 refine Xj (by kernel_rfl) ?_ _
 refine NoPanic.normal ?_
 have HF:Hid ((u2.setCells (w.heap.size+1) 0 [.int .u8 (bt0 n0:Nat),.int .u8 (bt1 n0:Nat),.int .u8 (bt2 n0:Nat),.int .u8 (bt3 n0:Nat),.int .u8 (bt0 n1:Nat),.int .u8 (bt1 n1:Nat),.int .u8 (bt2 n1:Nat),.int .u8 (bt3 n1:Nat),.int .u8 (bt0 n2:Nat),.int .u8 (bt1 n2:Nat),.int .u8 (bt2 n2:Nat),.int .u8 (bt3 n2:Nat),.int .u8 (bt0 n3:Nat),.int .u8 (bt1 n3:Nat),.int .u8 (bt2 n3:Nat),.int .u8 (bt3 n3:Nat)]).rangeAt (w.heap.size+1) 0 [.int .u8 (bt0 n0:Nat),.int .u8 (bt1 n0:Nat),.int .u8 (bt2 n0:Nat),.int .u8 (bt3 n0:Nat),.int .u8 (bt0 n1:Nat),.int .u8 (bt1 n1:Nat),.int .u8 (bt2 n1:Nat),.int .u8 (bt3 n1:Nat),.int .u8 (bt0 n2:Nat),.int .u8 (bt1 n2:Nat),.int .u8 (bt2 n2:Nat),.int .u8 (bt3 n2:Nat),.int .u8 (bt0 n3:Nat),.int .u8 (bt1 n3:Nat),.int .u8 (bt2 n3:Nat),.int .u8 (bt3 n3:Nat)]∧Touch w (u2.setCells (w.heap.size+1) 0 [.int .u8 (bt0 n0:Nat),.int .u8 (bt1 n0:Nat),.int .u8 (bt2 n0:Nat),.int .u8 (bt3 n0:Nat),.int .u8 (bt0 n1:Nat),.int .u8 (bt1 n1:Nat),.int .u8 (bt2 n1:Nat),.int .u8 (bt3 n1:Nat),.int .u8 (bt0 n2:Nat),.int .u8 (bt1 n2:Nat),.int .u8 (bt2 n2:Nat),.int .u8 (bt3 n2:Nat),.int .u8 (bt0 n3:Nat),.int .u8 (bt1 n3:Nat),.int .u8 (bt2 n3:Nat),.int .u8 (bt3 n3:Nat)]) g 4 1∧(u2.setCells (w.heap.size+1) 0 [.int .u8 (bt0 n0:Nat),.int .u8 (bt1 n0:Nat),.int .u8 (bt2 n0:Nat),.int .u8 (bt3 n0:Nat),.int .u8 (bt0 n1:Nat),.int .u8 (bt1 n1:Nat),.int .u8 (bt2 n1:Nat),.int .u8 (bt3 n1:Nat),.int .u8 (bt0 n2:Nat),.int .u8 (bt1 n2:Nat),.int .u8 (bt2 n2:Nat),.int .u8 (bt3 n2:Nat),.int .u8 (bt0 n3:Nat),.int .u8 (bt1 n3:Nat),.int .u8 (bt2 n3:Nat),.int .u8 (bt3 n3:Nat)]).cell? ⟨g,4,none⟩=some (.int .i32 1)):=by
  have hgw:=HG.out
  refine ⟨World.rangeAt_setCells_same _ _ _ _ HT2.out.1,Jf HT2.out.2.1 (Nat.le_succ _) _ _ hgw,?_⟩
  rw[World.cell?_setCells_out (w.heap.size+1) _ 0 u2 ⟨g,4,none⟩ (fun e _=>absurd e (by simp;omega))]
  exact HT2.out.2.2
 generalize u2.setCells (w.heap.size+1) 0 [.int .u8 (bt0 n0:Nat),.int .u8 (bt1 n0:Nat),.int .u8 (bt2 n0:Nat),.int .u8 (bt3 n0:Nat),.int .u8 (bt0 n1:Nat),.int .u8 (bt1 n1:Nat),.int .u8 (bt2 n1:Nat),.int .u8 (bt3 n1:Nat),.int .u8 (bt0 n2:Nat),.int .u8 (bt1 n2:Nat),.int .u8 (bt2 n2:Nat),.int .u8 (bt3 n2:Nat),.int .u8 (bt0 n3:Nat),.int .u8 (bt1 n3:Nat),.int .u8 (bt2 n3:Nat),.int .u8 (bt3 n3:Nat)]=w3 at HF ⊢
 clear hu2 hS0 gl
 go_wp2
 have hroom:w3.there g 0 1091:=HF.out.2.1.there _ _ HK.out.room
 obtain ⟨x0,c0⟩:=Y9 hroom 0 (by decide)
 obtain ⟨x2,c2⟩:=Y9 hroom 2 (by decide)
 have hz:=(hroom 4 (by decide)).2
 have hcnt:=HF.out.2.2
 refine leaves_cons (f:=54) (args:=#[.pointer (some ⟨g,0,none⟩)]) (by simp) (by simp [go_sem]) ?_
 refine (runlock_deferred B4 g 0 1 x0 x2 .returning _ c0 c2 hcnt hz (by decide +kernel)).mono ?_
 rintro e5 u5 w5 ⟨rfl,rfl,hw5⟩
 rw[show wrap32 (1+-1)=0 by decide +kernel] at hw5
 have hw5':w5=w3.setCells g 4 [.int .i32 0]:=hw5
 have hg:g≠w.heap.size+1:=by have:=HG.out;omega
 have ht5:Touch w w5 g 4 1:=by rw[hw5'];exact HF.out.2.1.setCells 4 _ (by omega) (by simp)
 have hc5:w5.cell? ⟨g,4,none⟩=some (.int .i32 0):=by
  rw[hw5]
  exact World.cell?_setCell_same' _ _ _ (by rw[show (0+4)=4 from rfl,hcnt];rfl)
 have hr5:w5.rangeAt (w.heap.size+1) 0 [.int .u8 (bt0 n0:Nat),.int .u8 (bt1 n0:Nat),.int .u8 (bt2 n0:Nat),.int .u8 (bt3 n0:Nat),.int .u8 (bt0 n1:Nat),.int .u8 (bt1 n1:Nat),.int .u8 (bt2 n1:Nat),.int .u8 (bt3 n1:Nat),.int .u8 (bt0 n2:Nat),.int .u8 (bt1 n2:Nat),.int .u8 (bt2 n2:Nat),.int .u8 (bt3 n2:Nat),.int .u8 (bt0 n3:Nat),.int .u8 (bt1 n3:Nat),.int .u8 (bt2 n3:Nat),.int .u8 (bt3 n3:Nat)]:=by rw[hw5'];exact World.rangeAt_setCells_apart HF.out.1 _ _ _ (Or.inl (Ne.symm hg))
 have hl:=run_loadVar_mid (P:=Tryz.prog) w5 (w.heap.size+1) 0 27 [.int .u8 (bt0 n0:Nat),.int .u8 (bt1 n0:Nat),.int .u8 (bt2 n0:Nat),.int .u8 (bt3 n0:Nat),.int .u8 (bt0 n1:Nat),.int .u8 (bt1 n1:Nat),.int .u8 (bt2 n1:Nat),.int .u8 (bt3 n1:Nat),.int .u8 (bt0 n2:Nat),.int .u8 (bt1 n2:Nat),.int .u8 (bt2 n2:Nat),.int .u8 (bt3 n2:Nat),.int .u8 (bt0 n3:Nat),.int .u8 (bt1 n3:Nat),.int .u8 (bt2 n3:Nat),.int .u8 (bt3 n3:Nat)] _ hr5 Tryz.underlying27 rfl Qz
 refine ⟨.tuple #[.agg #[.int .u8 (bt0 n0:Nat),.int .u8 (bt1 n0:Nat),.int .u8 (bt2 n0:Nat),.int .u8 (bt3 n0:Nat),.int .u8 (bt0 n1:Nat),.int .u8 (bt1 n1:Nat),.int .u8 (bt2 n1:Nat),.int .u8 (bt3 n1:Nat),.int .u8 (bt0 n2:Nat),.int .u8 (bt1 n2:Nat),.int .u8 (bt2 n2:Nat),.int .u8 (bt3 n2:Nat),.int .u8 (bt0 n3:Nat),.int .u8 (bt1 n3:Nat),.int .u8 (bt2 n3:Nat),.int .u8 (bt3 n3:Nat)],.int .i64 0],?_,?_,HK.out.touch ht5 hc5,ht5⟩
 ·rw[results_cell_tmp Tryz.results32]
  simp [asAddr,hl]
 ·rw[←HN.out]
  exact rfl
end Go.Proofs.YtehlppaidgkpaaaGreatDoor
