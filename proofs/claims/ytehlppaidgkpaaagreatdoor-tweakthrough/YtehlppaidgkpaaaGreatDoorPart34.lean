import Derived.Test.YtehlppaidgkpaaaGreatDoorNwc
import Derived.Test.YtehlppaidgkpaaaGreatDoorPart25
import Derived.Test.YtehlppaidgkpaaaGreatDoorPart13
import Derived.Test.YtehlppaidgkpaaaGreatDoorDgRLaid
import Derived.Test.YtehlppaidgkpaaaGreatDoorPart24
import Derived.Test.YtehlppaidgkpaaaGreatDoorPart28
import Derived.Test.YtehlppaidgkpaaaGreatDoorEnc
import Derived.Test.YtehlppaidgkpaaaGreatDoorPart00
import Derived.Conc.RwLone
import Derived.Defers
namespace Go.Proofs.YtehlppaidgkpaaaGreatDoor
open Go.RowKit
set_option linter.unusedVariables false
set_option linter.unusedSimpArgs false
theorem Ku (h:Int) (zs:List Int):Zd (Dg.Xw h zs):=fun i=>by
 unfold Dg.Xw
 rw[List.getD_eq_getElem?_getD,List.getElem?_take]
 split
 ·unfold Dg.Yt
  rw[List.getElem?_map]
  cases (List.range 64)[i]? with
  | none=>simp
  | some q=>simp only[Option.map_some,Option.getD_some];unfold Dg.X8;omega
 ·simp
theorem Qg (zs:List Int):(Dg.Xw 256 zs).length=4*8:=Dg.Cp 256 rfl zs
theorem Zp {P:Program} {f:FuncId} {fn:Func} {c:Code} (hf:P.funcs[f]?=some fn) (hn:(fn.name=="runtime.NumGoroutine")=false) (hb:fn.body=some c) (args:Array Value) (w:World):(callFunc f args).run P w=.ok (.enter f args) w:=by
 have h1:fn.name ≠ "runtime.NumGoroutine":=by simpa using hn
 simp [callFunc,hf,h1,hb]
theorem Ba {S:ByteArray} {j k:Nat} (h1:spN j=S) (h2:∀ i,i<j→spN i≠S) (k1:spN k=S) (k2:∀ i,i<k→spN i≠S):j=k:=by
 rcases Nat.lt_trichotomy j k with q | q | q
 ·exact absurd h1 (k2 j q)
 ·exact q
 ·exact absurd k1 (h2 k q)
theorem Dv (S:ByteArray) (j:Nat) (w:World) (hT:Pow w) (hj:j<52) (h1:spN j=S) (h2:∀ i,i<j→spN i≠S):Calls Tryz.prog 42 #[.string S] w fun e w'=>Hid (e=.returned (.tuple #[.agg (sxF j).toArray,.bool true])∧Below w.heap.size w w'):=by
 refine (find_ok S w hT).mono ?_
 rintro e w' ⟨⟨k,hk,e1,e2,rfl⟩ | ⟨hn,_⟩,hb⟩
 ·rw[Ba h1 h2 e1 e2];exact ⟨rfl,hb⟩
 ·exact absurd h1 (hn j hj)
def Qd (bg:Nat):Prop:=bg=147∨bg=149∨bg=150∨bg=151∨bg=152∨bg=153∨bg=154∨bg=156
theorem Tn (k:Nat) (hk:k<17):mB k=.nilFunc∨∃ bg,Qd bg∧mB k=fV bg:=by
 match k,hk with
 | 0,_=>exact .inl rfl
 | 1,_=>exact .inr ⟨147,by unfold Qd;simp,rfl⟩
 | 2,_=>exact .inr ⟨149,by unfold Qd;simp,rfl⟩
 | 3,_=>exact .inr ⟨150,by unfold Qd;simp,rfl⟩
 | 4,_=>exact .inr ⟨151,by unfold Qd;simp,rfl⟩
 | 5,_=>exact .inr ⟨152,by unfold Qd;simp,rfl⟩
 | 6,_=>exact .inr ⟨153,by unfold Qd;simp,rfl⟩
 | 7,_=>exact .inr ⟨154,by unfold Qd;simp,rfl⟩
 | 8,_=>exact .inr ⟨154,by unfold Qd;simp,rfl⟩
 | 9,_=>exact .inr ⟨156,by unfold Qd;simp,rfl⟩
 | 10,_=>exact .inr ⟨149,by unfold Qd;simp,rfl⟩
 | 11,_=>exact .inr ⟨150,by unfold Qd;simp,rfl⟩
 | 12,_=>exact .inr ⟨151,by unfold Qd;simp,rfl⟩
 | 13,_=>exact .inr ⟨153,by unfold Qd;simp,rfl⟩
 | 14,_=>exact .inr ⟨152,by unfold Qd;simp,rfl⟩
 | 15,_=>exact .inr ⟨149,by unfold Qd;simp,rfl⟩
 | 16,_=>exact .inr ⟨150,by unfold Qd;simp,rfl⟩
 | n+17,h=>exact absurd h (by omega)
theorem R2 (bg:Nat) (h:Qd bg) (args:Array Value) (w:World):(callFunc bg args).run Tryz.prog w=.ok (.enter bg args) w:=by
 rcases h with rfl | rfl | rfl | rfl | rfl | rfl | rfl | rfl
 ·exact Zp Tryz.func147 (by rfl) (by rfl) args w
 ·exact Zp Tryz.func149 (by rfl) (by rfl) args w
 ·exact Zp Tryz.func150 (by rfl) (by rfl) args w
 ·exact Zp Tryz.func151 (by rfl) (by rfl) args w
 ·exact Zp Tryz.func152 (by rfl) (by rfl) args w
 ·exact Zp Tryz.func153 (by rfl) (by rfl) args w
 ·exact Zp Tryz.func154 (by rfl) (by rfl) args w
 ·exact Zp Tryz.func156 (by rfl) (by rfl) args w
theorem Rr (k:Nat) (hk:k<17) (args:Array Value) (w:World):(callFunc (mU k) args).run Tryz.prog w=.ok (.enter (mU k) args) w:=by
 have:mU k=146∨mU k=148∨mU k=155∨mU k=157∨mU k=158∨mU k=159∨mU k=160:=by
  have q:∀ k,k<17→(mU k=146∨mU k=148∨mU k=155∨mU k=157∨mU k=158∨mU k=159∨mU k=160):=by decide
  exact q k hk
 rcases this with h | h | h | h | h | h | h<;>rw[h]
 ·exact Zp Tryz.func146 (by rfl) (by rfl) args w
 ·exact Zp Tryz.func148 (by rfl) (by rfl) args w
 ·exact Zp Tryz.func155 (by rfl) (by rfl) args w
 ·exact Zp Tryz.func157 (by rfl) (by rfl) args w
 ·exact Zp Tryz.func158 (by rfl) (by rfl) args w
 ·exact Zp Tryz.func159 (by rfl) (by rfl) args w
 ·exact Zp Tryz.func160 (by rfl) (by rfl) args w
theorem RC.belowB {B:Nat} {w w':World} (h:RC w) (hb:Below B w w') (h0:1<B):RC w':=fun i hi=>(hb.cell (p:=⟨1,i,none⟩) h0).trans (h i hi)
theorem Tl (c sh:Nat) (w:World) (h:w.cell? ⟨c,0,none⟩=some (.pointer (some ⟨sh,0,none⟩))):Calls Tryz.prog 74 #[.pointer (some ⟨c,0,none⟩)] w fun e w'=>e=.returned (.bool true)∧w'=w:=by
 go_enter Tryz.func74,Tryz.ntmps74
 go_wp2
 go_ret
 exact ⟨rfl,rfl⟩
theorem Nh (x:Int) (w:World):Calls Tryz.prog 14 #[.int .i64 x] w fun e w'=>e=.returned (.int .i64 x)∧w'=w:=by
 go_enter Tryz.func14,Tryz.ntmps14
 go_wp2
 go_ret
 exact ⟨rfl,rfl⟩
end Go.Proofs.YtehlppaidgkpaaaGreatDoor
namespace Go.Proofs.YtehlppaidgkpaaaGreatDoor.Dg
open Go.RowKit
set_option linter.unusedVariables false
theorem C9 (bs:Nat) (zs:List Int) (P:Nat):fnz (Ym bs zs) P=if P<zs.length then fnz zs P else if P=zs.length then 128 else if P<zs.length+1+Y6 bs zs.length then 0 else fnz (Z7 bs zs.length) (P-(zs.length+1+Y6 bs zs.length)):=by
 unfold Ym
 by_cases h1:P<zs.length
 ·rw[if_pos h1,List.append_assoc,Fb _ _ _ h1]
 ·rw[if_neg h1]
  have e:(zs++([128]++List.replicate (Y6 bs zs.length) 0)).length=zs.length+1+Y6 bs zs.length:=by simp;omega
  by_cases h2:P=zs.length
  ·rw[if_pos h2,h2,List.append_assoc]
   have:=Ji zs ([128]++List.replicate (Y6 bs zs.length) (0:Int)++Z7 bs zs.length) 0
   rw[Nat.add_zero] at this
   rw[this]
   rfl
  ·rw[if_neg h2]
   by_cases h3:P<zs.length+1+Y6 bs zs.length
   ·rw[if_pos h3,Fb _ _ _ (by rw[e];exact h3)]
    have:=Ji zs ([128]++List.replicate (Y6 bs zs.length) (0:Int)) (P-zs.length)
    rw[show zs.length+(P-zs.length)=P by omega] at this
    rw[this]
    have h4:=Ji [128] (List.replicate (Y6 bs zs.length) (0:Int)) (P-zs.length-1)
    rw[show [(128:Int)].length+(P-zs.length-1)=P-zs.length by simp;omega] at h4
    rw[h4]
    simp only[fnz,List.getD,List.getElem?_replicate]
    split<;>rfl
   ·rw[if_neg h3]
    have:=Ji (zs++([128]++List.replicate (Y6 bs zs.length) (0:Int))) (Z7 bs zs.length) (P-(zs.length+1+Y6 bs zs.length))
    rw[e,show zs.length+1+Y6 bs zs.length+(P-(zs.length+1+Y6 bs zs.length))=P by omega] at this
    exact this
theorem T4 (bs n j:Nat) (hj:j<bs/8):fnz (Z7 bs n) j=if 8≤bs/8-1-j then 0 else ((n:Int)*8)/2^(8*(bs/8-1-j))%256:=by
 rw[fnz,List.getD_eq_getElem?_getD,Q0 bs n j hj]
 rfl
theorem Ke (wd:Bool) (zs:List Int):(Ym (bsz wd) zs).length=bsz wd*(zs.length/bsz wd+Qc (bsz wd) zs.length):=by
 rw[Xm]
 cases wd
 ·simp only[bsz,Bool.false_eq_true,if_false]
  unfold Y6 Qc
  split<;>omega
 ·simp only[bsz,if_true]
  unfold Y6 Qc
  split<;>omega
theorem Tv (wd:Bool) (zs:List Int) (k:Nat) (hk:k<bsz wd*Qc (bsz wd) zs.length):fnz (Ym (bsz wd) zs) (bsz wd*(zs.length/bsz wd)+k)=Qm (bsz wd) (fun i=>fnz zs (bsz wd*(zs.length/bsz wd)+i)) zs.length k:=by
 have hb:=Ke wd zs
 rw[Xm] at hb
 rw[C9]
 unfold Qm
 have hd:bsz wd*(zs.length/bsz wd)+zs.length%bsz wd=zs.length:=Nat.div_add_mod _ _
 by_cases h1:k<zs.length%bsz wd
 ·rw[if_pos (by omega),if_pos h1]
 ·rw[if_neg (by omega),if_neg h1]
  by_cases h2:k=zs.length%bsz wd
  ·rw[if_pos (by omega),if_pos h2]
  ·rw[if_neg (by omega),if_neg h2]
   rw[Nat.mul_add] at hb
   rw[Nat.mul_comm (Qc _ _)]
   by_cases h3:bsz wd*(zs.length/bsz wd)+k<zs.length+1+Y6 (bsz wd) zs.length
   ·rw[if_pos h3,if_pos (by cases wd<;>simp only[bsz,Bool.false_eq_true,if_false,if_true] at*<;> omega)]
   ·rw[if_neg h3,T4 _ _ _ (by omega)]
    have e:bsz wd/8-1-(bsz wd*(zs.length/bsz wd)+k-(zs.length+1+Y6 (bsz wd) zs.length))=bsz wd*Qc (bsz wd) zs.length-1-k:=by omega
    rw[e]
    by_cases h4:k+8<bsz wd*Qc (bsz wd) zs.length
    ·rw[if_pos (by omega),if_pos h4]
    ·rw[if_neg (by omega),if_neg h4]
theorem Ri (wd:Bool) (s0:Zb) (zs:List Int):TT wd (fnz (Ym (bsz wd) zs)) s0 ((Ym (bsz wd) zs).length/bsz wd)=Wx wd s0 0 zs:=by
 have hb:=M7 wd
 rw[Ke,Nat.mul_div_cancel_left _ hb,Wh]
 unfold Wx
 rw[Nat.zero_add]
 have h1:TT wd (fnz (Ym (bsz wd) zs)) s0 (zs.length/bsz wd)=TT wd (fnz zs) s0 (zs.length/bsz wd):=Y8 wd s0 _ fun j hj=>by
  have:=Nat.mul_div_le zs.length (bsz wd)
  rw[C9,if_pos (by omega)]
 rw[h1]
 exact Y8 wd _ _ fun k hk=>Tv wd zs k hk
theorem Ta (bs n:Nat):1≤Qc bs n:=by unfold Qc;split<;>omega
set_option linter.unusedSimpArgs false
theorem Mem.laterN {w wr wn:World} {L:List (List Value)} (h:Mem w wr L) (hb:Below (w.heap.size+L.length) wr wn):Mem w wn L:=by
 refine ⟨h.below.trans (hb.mono (by omega)),Nat.le_trans h.size hb.size,fun i cs hi=>?_⟩
 have hl:i<L.length:=(List.getElem?_eq_some_iff.1 hi).1
 obtain ⟨h1,h2⟩:=h.holds i cs hi
 refine ⟨fun j v hv=>?_,fun j hj=>?_⟩
 ·rw[hb.cell (p:=⟨w.heap.size+i,0+j,none⟩) (by show w.heap.size+i<_;omega)]
  exact h1 j v hv
 ·rw[hb.cell (p:=⟨w.heap.size+i,0+j,none⟩) (by show w.heap.size+i<_;omega),hb.frozen (p:=⟨w.heap.size+i,0+j,none⟩) (by show w.heap.size+i<_;omega)]
  exact h2 j hj
theorem Ng {w:World} {B n:Nat} {v:Value} {cs:List Value} (h:w.ownsRow B 5 1 v n cs):∃ a c,v=.slice a n c:=by
 rcases h.2 with ⟨rfl,e⟩ | ⟨g,c,cur,rfl,_⟩
 ·exact ⟨none,0,by rw[e]⟩
 ·exact ⟨some ⟨g,0,none⟩,c,rfl⟩
theorem L6 {w:World} {B B' n:Nat} {v:Value} {cs:List Value} (h:w.ownsRow B 5 1 v n cs) (hB:B'≤B):w.ownsRow B' 5 1 v n cs:=by
 obtain ⟨h1,h2⟩:=h
 refine ⟨h1,?_⟩
 rcases h2 with h2 | ⟨g,c,cur,e,q1,q⟩
 ·exact .inl h2
 ·exact .inr ⟨g,c,cur,e,Nat.le_trans hB q1,q⟩
theorem Lq (wd:Bool) (s:Zb) (l:Nat) (hl:l<64):(Yt wd s)[l]?=some (X8 (wsz wd) s l):=by simp [Yt,hl]
theorem Oy (j:Nat):(2:Int)^(8*j)=256^j:=by rw[Int.pow_mul];rfl
theorem Oe (s:Zb) (i j l:Nat) (hl:l=4*i+(4-(j+1))) (hj:j<4) (hi:i<8):X8 (wsz false) s l=fnz s.list i/2^(8*j)%256:=by
 show X8 4 s l=_
 unfold X8
 rw[if_pos (by omega),show l/4=i by omega,show 4-1-l%4=j by omega,Oy]
set_option maxHeartbeats 3200000 in
set_option maxRecDepth 100000 in
theorem Oi (h:Int) (k:Qe h) (hwd:Xf h=false) (m:Nat) (hm:Hid (Yw h=4*m∧m≤8)) (v:Value) (zs:List Int) (w:World) (hT:RTab w) (hv:Zf w v zs) (hn:zs.length≤140737488351232) :
  Calls Tryz.prog 49 #[.int .i64 h,v] w fun e w'=>∃ v',e=.returned v'∧w'.ownsRow w.heap.size 5 1 v' (Yw h) (Za (Xw h zs))∧Below w.heap.size w w':=by
 have HT:Hid (RTab w):=hT
 have HV:Hid (Zf w v zs):=hv
 have hn2:Hid (zs.length≤140737488351232):=hn
 have hb48:Hid (∀ u,Calls Tryz.prog 68 #[.int .i64 h] u fun e w'=>e=.returned (.int .i64 64)∧w'=u):=fun u=>by
  have:=V4 h k u
  rw[hwd] at this
  exact this
 obtain ⟨i0,hi,hz0,hz1,hz2⟩:=info_parts Tryz.info5
 clear hT hv hn
 go_enter Tryz.func49,Tryz.ntmps49
 go_wp2_with (go_at_call 68;refine (hb48.out _).mono ?_;rintro e1 wx ⟨rfl,hwx⟩;obtain rfl:=hwx.symm)
 go_upto_region 5 with (go_at_call 69;refine (B7 k w HT).mono ?_)
 rintro e w1 ⟨rfl,hb1⟩
 obtain ⟨E0,HE0⟩:∃ E0:Zb,Hid (E0=Zt h):=⟨_,rfl⟩
 rw[←HE0.out]
 have HN1:Hid (w.heap.size≤w1.heap.size):=hb1.size
 have HMa:Hid (Mem w1 (w1.alloc (.cells #[.int .u64 0,.int .u64 0,.int .u64 0,.int .u64 0,.int .u64 0,.int .u64 0,.int .u64 0,.int .u64 0] 137)) [[.int .u64 0,.int .u64 0,.int .u64 0,.int .u64 0,.int .u64 0,.int .u64 0,.int .u64 0,.int .u64 0]]):=(Mem.nil w1).alloc rfl _ _
 have HBa:Hid (Below w.heap.size w (w1.alloc (.cells #[.int .u64 0,.int .u64 0,.int .u64 0,.int .u64 0,.int .u64 0,.int .u64 0,.int .u64 0,.int .u64 0] 137))):=hb1.alloc hb1.size _
 have HYa:Hid ((w1.alloc (.cells #[.int .u64 0,.int .u64 0,.int .u64 0,.int .u64 0,.int .u64 0,.int .u64 0,.int .u64 0,.int .u64 0] 137)).there w1.heap.size 0 E0.cells.toArray.size):=(HMa.out.holds 0 _ rfl).2
 clear hb1
 go_upto_region 5 with (refine wpList_store_mid (by rfl) 137 (.tmp 6) (.tmp 18) (by rfl) w1.heap.size 0 E0.cells.toArray (by rfl) (by rfl) HYa.out Qo (Xk E0) ?_)
 have HM2:Hid (Mem w1 ((w1.alloc (.cells #[.int .u64 0,.int .u64 0,.int .u64 0,.int .u64 0,.int .u64 0,.int .u64 0,.int .u64 0,.int .u64 0] 137)).setCells w1.heap.size 0 E0.cells) [E0.cells]):=(HMa.out.store 0 rfl E0.cells rfl).congr rfl
 have HB2:Hid (Below w.heap.size w ((w1.alloc (.cells #[.int .u64 0,.int .u64 0,.int .u64 0,.int .u64 0,.int .u64 0,.int .u64 0,.int .u64 0,.int .u64 0] 137)).setCells w1.heap.size 0 E0.cells)):=below_setCells _ HN1.out _ _ _ HBa.out
 clear HMa HBa HYa
 generalize (w1.alloc (.cells #[.int .u64 0,.int .u64 0,.int .u64 0,.int .u64 0,.int .u64 0,.int .u64 0,.int .u64 0,.int .u64 0] 137)).setCells w1.heap.size 0 E0.cells=w2 at HM2 HB2 ⊢
 have H50:Hid (Calls Tryz.prog 70 #[v,.int .i64 64] w2 fun e w'=>∃ v',e=.returned v'∧w'.ownsRow w2.heap.size 5 1 v' (Ym (bsz false) zs).length (Za (Ym (bsz false) zs))∧Below w2.heap.size w2 w'):=L1 false v zs w2 (HV.out.kept fun b hb=>HB2.out.block b hb) hn2.out
 go_upto_region 6 with (go_at_call 70;refine H50.out.mono ?_)
 clear H50
 rintro e w3 ⟨v3,rfl,ho3,hb3⟩
 obtain ⟨Z,HZ⟩:∃ Z,Hid (Z=Ym (bsz false) zs):=⟨_,rfl⟩
 rw[←HZ.out] at ho3
 obtain ⟨L,HLZ⟩:∃ L,Hid (L=Z.length):=⟨_,rfl⟩
 rw[←HLZ.out] at ho3
 have HL1:Hid (64≤L∧L=64*(L/64)):=by
  have h1:=Ke false zs
  have h2:=Ta (bsz false) zs.length
  rw[←HZ.out,←HLZ.out] at h1
  have h3:L=64*(zs.length/bsz false+Qc (bsz false) zs.length):=h1
  generalize zs.length/bsz false=x1 at h3
  generalize Qc (bsz false) zs.length=x2 at h2 h3
  show 64≤L∧L=64*(L/64)
  omega
 obtain ⟨g,c,rfl⟩:=Yj ho3 (by have:=HL1.out;omega)
 have HGN:Hid (g≠w1.heap.size):=by
  have h1:=(ho3.lt g rfl).1
  have h2:=HM2.out.size
  simp at h2
  show g≠w1.heap.size
  omega
 have HL:Hid (L=64*(L/64)∧L≤c∧c≤9223372036854775807∧g<w3.heap.size∧∀ i,i<L→w3.cell? ⟨g,0+i,none⟩=some (.int .u8 (fnz Z i))):=by
  have h1:=Sb ho3 HLZ.out.symm
  obtain ⟨a',cap',e1,q1,q2,q3,q4⟩:=h1
  injection e1 with e1 e2 e3
  subst e3
  refine ⟨HL1.out.2,by rw[←HLZ.out] at q1;exact q1,by unfold maxLen at q2;omega,(ho3.lt g rfl).2,fun i hi=>?_⟩
  rcases q4 with q4 | ⟨b',p',e4,q5⟩
  ·rw[HLZ.out,q4] at hi
   simp at hi
  ·rw[←e1] at e4
   injection e4 with e4
   injection e4 with e5 e6
   subst e5 e6
   exact q5 i (by rw[←HLZ.out];exact hi)
 have HM3:Hid (Mem w1 w3 [E0.cells]):=HM2.out.later hb3
 have HB3:Hid (Below w.heap.size w w3):=HB2.out.trans (hb3.mono HB2.out.size)
 have HT3:Hid (RTab w3):=HT.out.below HB3.out HT.out.size
 clear HM2 HB2 ho3 hb3 HV
 have hTw:=HT3.out
 go_upto_region 13 with (first
  | (refine wpList_load_mid (by rfl) 137 (.tmp 6) (by rfl) w1.heap.size 0 (by rfl) E0.cells _ ((HM3.out.holds 0 _ rfl).1) Tryz.underlying137 rfl Qo ?_)
  | (go_at_call 71;refine (Dm E0.a E0.b E0.c E0.d E0.e E0.f E0.g E0.k (fnz Z) g 0 L (L/64) c w3 hTw HL.out.1 HL.out.2.1 HL.out.2.2.1 HL.out.2.2.2.1 HL.out.2.2.2.2).mono ?_)
  | fail)
 rintro e w4 ⟨rfl,hb4⟩
 obtain ⟨E1,HE1⟩:∃ E1:Zb,Hid (E1=(Yg Zs (fnz Z) ⟨E0.a,E0.b,E0.c,E0.d,E0.e,E0.f,E0.g,E0.k⟩ (L/64)).low):=⟨_,rfl⟩
 rw[←HE1.out]
 have HM4:Hid (Mem w1 w4 [E0.cells]):=HM3.out.later hb4
 have HB4:Hid (Below w.heap.size w w4):=HB3.out.trans (hb4.mono HB3.out.size)
 have HM5:Hid (Mem w1 (w4.setCells w1.heap.size 0 E1.cells) [E1.cells]):=(HM4.out.store 0 rfl E1.cells rfl).congr rfl
 have HB5:Hid (Below w.heap.size w (w4.setCells w1.heap.size 0 E1.cells)):=below_setCells _ HN1.out _ _ _ HB4.out
 have HY:Hid (w4.there w1.heap.size 0 E1.cells.toArray.size):=(HM4.out.holds 0 _ rfl).2
 have HEE:Hid (E1=Wx (Xf h) (Zt h) 0 zs):=by
  rw[HE1.out,hwd,←Ri false,←HE0.out,←HZ.out]
  have hL:L=Z.length:=HLZ.out
  have h1:1≤L/64:=by have:=HL1.out;omega
  obtain ⟨t,ht⟩:∃ t,L/64=t+1:=⟨L/64-1,by omega⟩
  have e:Yg Zs (fnz Z) ⟨E0.a,E0.b,E0.c,E0.d,E0.e,E0.f,E0.g,E0.k⟩ (L/64)=TT false (fnz Z) E0 (Z.length/bsz false):=by rw[←hL];rfl
  rw[←e,ht]
  exact M3 _ _ _
 clear HM3 HB3 HE1 HM4 HB4 hb4 hTw
 go_upto_region 13 with (refine wpList_store_mid (by rfl) 137 (.tmp 6) (.tmp 28) (by rfl) w1.heap.size 0 E1.cells.toArray (by rfl) (by rfl) HY.out Qo (Xk E1) ?_)
 clear HY
 change Code.wp _ _ _ _ (w4.setCells w1.heap.size 0 E1.cells) at *
 generalize w4.setCells w1.heap.size 0 E1.cells=w5 at HM5 HB5 ⊢
 go_wp2
 go_loopw [10,11] (fun v vi wr=>∃ i l c:Nat,∃ a:Option Addr,Hid (i≤m∧l=4*i)∧vi=.int .i64 i∧v=.slice a l c∧Hid (wr.ownsRow (w1.heap.size+1) 5 1 (.slice a l c) l (Za ((Yt false E1).take l)))∧Hid (Mem w1 wr [E1.cells])∧Hid (Below w.heap.size w wr)) (fun _ vi _=>m-(intOf vi).toNat)
 case atStart=>exact ⟨0,0,0,none,⟨Nat.zero_le _,rfl⟩,rfl,rfl,World.ownsRow_nil _ _ _ _,HM5,HB5⟩
 case round=>
  obtain ⟨i,l,c0,a,HI,rfl,rfl,HO6,HM6,HB6⟩:=hrel
  clear HM5 HB5
  by_cases him:i<m
  ·have hi8:i<8:=by have:=hm.out;omega
   have hls:l<Yw h:=by have:=HI.out;have:=hm.out;omega
   have hls':(l:Int)<(Yw h:Nat):=by omega
   go_wp2_with (go_at_call 73;refine (Gt h k _).mono ?_;rintro e1 wx ⟨rfl,hwx⟩;obtain rfl:=hwx.symm)
   go_loopw [10,12] (fun v vj wr=>∃ q l c:Nat,∃ a:Option Addr,Hid (q≤4∧l=4*i+(4-q))∧vj=.int .i64 ((q:Int)-1)∧v=.slice a l c∧Hid (wr.ownsRow (w1.heap.size+1) 5 1 (.slice a l c) l (Za ((Yt false E1).take l)))∧Hid (Mem w1 wr [E1.cells])∧Hid (Below w.heap.size w wr)) (fun _ vj _=>(intOf vj+1).toNat)
   case atStart=>exact ⟨4,l,c0,a,⟨by omega,by have:=HI.out;omega⟩,rfl,rfl,HO6,HM6,HB6⟩
   case round=>
    obtain ⟨q,l2,c2,a2,HL2,rfl,rfl,HO7,HM7,HB7⟩:=hrel
    clear HO6 HM6 HB6
    rcases q with _ | j
    ·rw[show ((0:Nat):Int)-1=-1 from rfl]
     go_wp2
     go_roundw
     case rel=>exact ⟨i+1,l2,c2,a2,⟨by omega,by have:=HL2.out;omega⟩,by go_num,rfl,HO7,HM7,HB7⟩
     case measure=>simp [intOf];omega
    ·rw[show ((j+1:Nat):Int)-1=(j:Int) by omega]
     have hj:j<4:=by have:=HL2.out;omega
     have hls2:l2<Yw h:=by have:=HL2.out;have:=hm.out;omega
     have hls3:(l2:Int)<(Yw h:Nat):=by omega
     have hl64:l2<64:=by have:=HL2.out;omega
     have hj0:(0:Int)≤(j:Int):=by omega
     have hw1:IntKind.i64.wrap (8*(j:Int))=8*(j:Int):=by rw[IntKind.wrap_i64];omega
     have hw2:IntKind.u64.wrap (8*(j:Int))=8*(j:Int):=by rw[IntKind.wrap_u64];omega
     have f0:wr.cell? ⟨w1.heap.size,i,none⟩=some (.int .u64 (fnz E1.list i)):=HM7.out.cell 0 rfl i _ (by rw[Ui];exact V0 _ _ i hi8)
     have hbase:w1.heap.size+1≤wr.heap.size:=HM7.out.size
     go_wp2_with (first
      | (go_at_call 73;refine (Gt h k _).mono ?_;rintro e1 wx ⟨rfl,hwx⟩;obtain rfl:=hwx.symm)
      | (at_builtin;go_must (refine wpList_append_own _ rfl (.tmp 62) (.tmp 71) 22 rfl (w1.heap.size+1) 5 i0 (.int .u8 0) 1 1 Tryz.underlying22 hi hz0 hz1 hz2 rfl (by decide) _ _ _ rfl (HO7.out.alloc _) ⟨wr.heap.size,0,none⟩ 1 1 [.int .u8 (fnz E1.list i/2^(8*j)%256)] rfl rfl (one_cell _ _ _) (one_one _) (by unfold maxLen;omega) (by omega) (by rw[size_alloc];omega) ?_)))
     intro v8 w8 hown8 hgrow8 hnil8
     have hb8:Below (w1.heap.size+1) wr w8:=((Below.refl (w1.heap.size+1) wr).alloc hbase _).grown hgrow8 (by rw[size_alloc];omega) (fun q hq=>(HO7.out.lt q hq).1)
     have HM8:Hid (Mem w1 w8 [E1.cells]):=HM7.out.laterN hb8
     have HB8:Hid (Below w.heap.size w w8):=HB7.out.trans (hb8.mono (by have:=HN1.out;omega))
     have ho8:w8.ownsRow (w1.heap.size+1) 5 1 v8 (l2+1) (Za ((Yt false E1).take (l2+1))):=by
      have e:Za ((Yt false E1).take (l2+1))=Za ((Yt false E1).take l2)++[.int .u8 (fnz E1.list i/2^(8*j)%256)]:=by
       rw[List.take_add_one,Lq _ _ l2 hl64,Oe E1 i j l2 (by have:=HL2.out;omega) hj hi8]
       simp [Za]
      rw[e]
      exact hown8
     clear hown8 hgrow8 hnil8 hb8
     obtain ⟨a8,c8,rfl⟩:=Ng ho8
     have HO8:Hid (w8.ownsRow (w1.heap.size+1) 5 1 (.slice a8 (l2+1) c8) (l2+1) (Za ((Yt false E1).take (l2+1)))):=ho8
     clear ho8 HO7 HM7 HB7
     go_wp2
     go_roundw
     case rel=>exact ⟨j,l2+1,c8,a8,⟨by omega,by have:=HL2.out;omega⟩,rfl,rfl,HO8,HM8,HB8⟩
     case measure=>simp [intOf]
  ·have hls:¬ l<Yw h:=by have:=HI.out;have:=hm.out;omega
   have hls':¬ (l:Int)<(Yw h:Nat):=by omega
   go_wp2_with (go_at_call 73;refine (Gt h k _).mono ?_;rintro e1 wx ⟨rfl,hwx⟩;obtain rfl:=hwx.symm)
   go_ret
   have hl:l=Yw h:=by have:=HI.out;have:=hm.out;omega
   refine ⟨_,rfl,?_,HB6.out⟩
   have e:Xw h zs=(Yt false E1).take l:=by rw[hl,HEE.out,←hwd];rfl
   rw[e,←hl]
   exact L6 HO6.out (by have:=HN1.out;omega)
theorem Py {h:Int} (k:Qe h) (v:Value) (zs:List Int) (w:World) (hT:RTab w) (hv:Zf w v zs) (hn:zs.length≤140737488351232) :
  Calls Tryz.prog 49 #[.int .i64 h,v] w fun e w'=>∃ v',e=.returned v'∧w'.ownsRow w.heap.size 5 1 v' (Yw h) (Za (Xw h zs))∧Below w.heap.size w w':=by
 obtain rfl:h=256:=k
 exact Oi 256 rfl rfl 8 ⟨rfl,by decide⟩ v zs w hT hv hn
end Go.Proofs.YtehlppaidgkpaaaGreatDoor.Dg
namespace Go.Proofs.YtehlppaidgkpaaaGreatDoor
open Go.RowKit Go.RwLone
set_option linter.unusedVariables false
theorem Ki {w v:World} {g o n:Nat} (h:Touch w v g o n) {b:Nat} (hb:w.heap.size≤b) (vs:List Value) (o':Nat) (hg:g<w.heap.size):Touch w (v.setCells b o' vs) g o n:=
 ⟨by rw[Yq];exact h.os,by rw[Z9];exact h.tape,by rw[Z1];exact h.output,by rw[Yc];exact h.size,
  fun k hk hne=>by rw[World.heap_setCells_other v b o' vs (by have:=h.size;omega) (by omega)];exact h.block k hk hne,
  fun j hj=>by rw[World.cell?_setCells_out b vs o' v ⟨g,j,none⟩ (fun e _=>absurd e (by simp;omega))];exact h.cell j hj,
  fun o2 n2 ht=>World.there_setCells (h.there o2 n2 ht) b o' vs⟩
theorem Zr.touch {w w':World} {g nr:Nat} {K:Nat→Nat} (h:Zr w g nr K) (ht:Touch w w' g 4 1) (hc:w'.cell? ⟨g,4,none⟩=some (.int .i32 0)):Zr w' g nr K:=by
 refine ⟨⟨(ht.cell 6 (by omega)).trans h.ciph.rounds,fun i hi=>(ht.cell (6+1+i) (by omega)).trans (h.ciph.words i hi),h.ciph.small,⟨fun b hb=>(ht.cell _ (by omega)).trans (h.ciph.tab.s b hb),fun b hb=>(ht.cell _ (by omega)).trans (h.ciph.tab.u b hb),fun b hb=>(ht.cell _ (by omega)).trans (h.ciph.tab.m b hb),fun b hb=>(ht.cell _ (by omega)).trans (h.ciph.tab.n b hb)⟩,Nat.lt_of_lt_of_le h.ciph.here ht.size,h.ciph.some,h.ciph.most⟩,hc,ht.there _ _ h.room⟩
theorem Hp {w:World} {g nr:Nat} {K:Nat→Nat} (h:Zr w g nr K) (c:Int):J3 (w.setCell ⟨g,4,none⟩ (.int .i32 c)) g 6 nr K:=by
 have ht:Touch w (w.setCell ⟨g,4,none⟩ (.int .i32 c)) g 4 1:=(Touch.refl w g 4 1).setCell 4 _ (by omega) (by omega)
 exact ⟨(ht.cell 6 (by omega)).trans h.ciph.rounds,fun i hi=>(ht.cell (6+1+i) (by omega)).trans (h.ciph.words i hi),h.ciph.small,⟨fun b hb=>(ht.cell _ (by omega)).trans (h.ciph.tab.s b hb),fun b hb=>(ht.cell _ (by omega)).trans (h.ciph.tab.u b hb),fun b hb=>(ht.cell _ (by omega)).trans (h.ciph.tab.m b hb),fun b hb=>(ht.cell _ (by omega)).trans (h.ciph.tab.n b hb)⟩,Nat.lt_of_lt_of_le h.ciph.here ht.size,h.ciph.some,h.ciph.most⟩
theorem Qk {w:World} {g o n:Nat} (h:w.there g o n) (j:Nat) (hj:j<n):∃ v,w.cell? ⟨g,o+j,none⟩=some v:=Option.isSome_iff_exists.1 (h j hj).1
set_option maxHeartbeats 1600000 in
set_option maxRecDepth 100000 in
theorem En (g nr:Nat) (K:Nat→Nat) (w:World) (h:Zr w g nr K):Calls Tryz.prog 53 #[.pointer (some ⟨g,0,none⟩)] w fun e w'=>e=.returned (.int .i64 0)∧w'=w.setCell ⟨g,4,none⟩ (.int .i32 1):=by
 obtain ⟨x0,c0⟩:=Qk h.room 0 (by decide)
 obtain ⟨x3,c3⟩:=Qk h.room 3 (by decide)
 have hz:=(h.room 4 (by decide)).2
 have hc:=h.count
 have KL:Hid (Calls Tryz.prog 79 #[.pointer (some ⟨g,0,none⟩)] w fun e w'=>e=.returned (.tuple #[])∧w'=w.setCell ⟨g,4,none⟩ (.int .i32 1)):=by
  have h:=rlock_open Sx g 0 0 x0 x3 w c0 c3 hc hz (by decide +kernel)
  rw[show wrap32 (0+1)=1 by decide +kernel] at h
  exact h
 have cr:(w.setCell ⟨g,4,none⟩ (.int .i32 1)).cell? ⟨g,6,none⟩=some (.int .i64 (nr:Nat)):=(Hp h 1).rounds
 have hn:(((nr:Nat):Int)==0)=false:=by have:=h.ciph.some;simp;omega
 clear c0 c3 hz hc h
 go_enter Tryz.func53,Tryz.ntmps53
 go_wp2_with (first | (go_at_call 79;refine KL.out.mono ?_))
 rintro e1 w1 ⟨rfl,hw1⟩
 obtain rfl:=hw1.symm
 go_wp2
 go_ret
 exact ⟨rfl,rfl⟩
set_option linter.unusedSimpArgs false
set_option maxHeartbeats 3200000 in
set_option maxRecDepth 100000 in
theorem El (g nr:Nat) (K:Nat→Nat) (s:W4) (w:World) (h:Zr w g nr K) (hs:s.ok) :
  Calls Tryz.prog 32 #[.pointer (some ⟨g,0,none⟩),s.blk] w fun e w'=>e=.returned (.tuple #[(Ub nr K s).blk,.int .i64 0])∧Zr w' g nr K∧Touch w w' g 4 1:=by
 have HK:Hid (Zr w g nr K):=h
 have HG:Hid (g<w.heap.size):=h.ciph.here
 clear h
 obtain ⟨⟨n0,n1,n2,n3⟩,HN⟩:∃ t,Hid (t=Ub nr K s):=⟨_,rfl⟩
 have HB2:Hid (Below w.heap.size w ((w.alloc (.cells #[.int .u8 (bt0 s.a:Nat),.int .u8 (bt1 s.a:Nat),.int .u8 (bt2 s.a:Nat),.int .u8 (bt3 s.a:Nat),.int .u8 (bt0 s.b:Nat),.int .u8 (bt1 s.b:Nat),.int .u8 (bt2 s.b:Nat),.int .u8 (bt3 s.b:Nat),.int .u8 (bt0 s.c:Nat),.int .u8 (bt1 s.c:Nat),.int .u8 (bt2 s.c:Nat),.int .u8 (bt3 s.c:Nat),.int .u8 (bt0 s.d:Nat),.int .u8 (bt1 s.d:Nat),.int .u8 (bt2 s.d:Nat),.int .u8 (bt3 s.d:Nat)] 27)).alloc (.cells #[.int .u8 0,.int .u8 0,.int .u8 0,.int .u8 0,.int .u8 0,.int .u8 0,.int .u8 0,.int .u8 0,.int .u8 0,.int .u8 0,.int .u8 0,.int .u8 0,.int .u8 0,.int .u8 0,.int .u8 0,.int .u8 0] 27))):=(Xv w _ _ 27 27).1
 have HK2:Hid (Zr ((w.alloc (.cells #[.int .u8 (bt0 s.a:Nat),.int .u8 (bt1 s.a:Nat),.int .u8 (bt2 s.a:Nat),.int .u8 (bt3 s.a:Nat),.int .u8 (bt0 s.b:Nat),.int .u8 (bt1 s.b:Nat),.int .u8 (bt2 s.b:Nat),.int .u8 (bt3 s.b:Nat),.int .u8 (bt0 s.c:Nat),.int .u8 (bt1 s.c:Nat),.int .u8 (bt2 s.c:Nat),.int .u8 (bt3 s.c:Nat),.int .u8 (bt0 s.d:Nat),.int .u8 (bt1 s.d:Nat),.int .u8 (bt2 s.d:Nat),.int .u8 (bt3 s.d:Nat)] 27)).alloc (.cells #[.int .u8 0,.int .u8 0,.int .u8 0,.int .u8 0,.int .u8 0,.int .u8 0,.int .u8 0,.int .u8 0,.int .u8 0,.int .u8 0,.int .u8 0,.int .u8 0,.int .u8 0,.int .u8 0,.int .u8 0,.int .u8 0] 27)) g nr K):=HK.out.below HB2.out HG.out
 have HH:Hid (Calls Tryz.prog 53 #[.pointer (some ⟨g,0,none⟩)] ((w.alloc (.cells #[.int .u8 (bt0 s.a:Nat),.int .u8 (bt1 s.a:Nat),.int .u8 (bt2 s.a:Nat),.int .u8 (bt3 s.a:Nat),.int .u8 (bt0 s.b:Nat),.int .u8 (bt1 s.b:Nat),.int .u8 (bt2 s.b:Nat),.int .u8 (bt3 s.b:Nat),.int .u8 (bt0 s.c:Nat),.int .u8 (bt1 s.c:Nat),.int .u8 (bt2 s.c:Nat),.int .u8 (bt3 s.c:Nat),.int .u8 (bt0 s.d:Nat),.int .u8 (bt1 s.d:Nat),.int .u8 (bt2 s.d:Nat),.int .u8 (bt3 s.d:Nat)] 27)).alloc (.cells #[.int .u8 0,.int .u8 0,.int .u8 0,.int .u8 0,.int .u8 0,.int .u8 0,.int .u8 0,.int .u8 0,.int .u8 0,.int .u8 0,.int .u8 0,.int .u8 0,.int .u8 0,.int .u8 0,.int .u8 0,.int .u8 0] 27)) fun e w'=>e=.returned (.int .i64 0)∧w'=(((w.alloc (.cells #[.int .u8 (bt0 s.a:Nat),.int .u8 (bt1 s.a:Nat),.int .u8 (bt2 s.a:Nat),.int .u8 (bt3 s.a:Nat),.int .u8 (bt0 s.b:Nat),.int .u8 (bt1 s.b:Nat),.int .u8 (bt2 s.b:Nat),.int .u8 (bt3 s.b:Nat),.int .u8 (bt0 s.c:Nat),.int .u8 (bt1 s.c:Nat),.int .u8 (bt2 s.c:Nat),.int .u8 (bt3 s.c:Nat),.int .u8 (bt0 s.d:Nat),.int .u8 (bt1 s.d:Nat),.int .u8 (bt2 s.d:Nat),.int .u8 (bt3 s.d:Nat)] 27)).alloc (.cells #[.int .u8 0,.int .u8 0,.int .u8 0,.int .u8 0,.int .u8 0,.int .u8 0,.int .u8 0,.int .u8 0,.int .u8 0,.int .u8 0,.int .u8 0,.int .u8 0,.int .u8 0,.int .u8 0,.int .u8 0,.int .u8 0] 27))).setCell ⟨g,4,none⟩ (.int .i32 1)):=En g nr K _ HK2.out
 have HE:Hid (∀ u,J3 u g 6 nr K→Calls Tryz.prog 55 #[.pointer (some ⟨g,6,none⟩),.agg #[.int .u8 (bt0 s.a:Nat),.int .u8 (bt1 s.a:Nat),.int .u8 (bt2 s.a:Nat),.int .u8 (bt3 s.a:Nat),.int .u8 (bt0 s.b:Nat),.int .u8 (bt1 s.b:Nat),.int .u8 (bt2 s.b:Nat),.int .u8 (bt3 s.b:Nat),.int .u8 (bt0 s.c:Nat),.int .u8 (bt1 s.c:Nat),.int .u8 (bt2 s.c:Nat),.int .u8 (bt3 s.c:Nat),.int .u8 (bt0 s.d:Nat),.int .u8 (bt1 s.d:Nat),.int .u8 (bt2 s.d:Nat),.int .u8 (bt3 s.d:Nat)]] u fun e u'=>e=.returned (.agg #[.int .u8 (bt0 n0:Nat),.int .u8 (bt1 n0:Nat),.int .u8 (bt2 n0:Nat),.int .u8 (bt3 n0:Nat),.int .u8 (bt0 n1:Nat),.int .u8 (bt1 n1:Nat),.int .u8 (bt2 n1:Nat),.int .u8 (bt3 n1:Nat),.int .u8 (bt0 n2:Nat),.int .u8 (bt1 n2:Nat),.int .u8 (bt2 n2:Nat),.int .u8 (bt3 n2:Nat),.int .u8 (bt0 n3:Nat),.int .u8 (bt1 n3:Nat),.int .u8 (bt2 n3:Nat),.int .u8 (bt3 n3:Nat)])∧Below u.heap.size u u'):=fun u hu=>by
  have:=Zan g 6 nr K s u hu hs
  rw[←HN.out] at this
  exact this
 clear hs
 have HSZ:Hid (((w.alloc (.cells #[.int .u8 (bt0 s.a:Nat),.int .u8 (bt1 s.a:Nat),.int .u8 (bt2 s.a:Nat),.int .u8 (bt3 s.a:Nat),.int .u8 (bt0 s.b:Nat),.int .u8 (bt1 s.b:Nat),.int .u8 (bt2 s.b:Nat),.int .u8 (bt3 s.b:Nat),.int .u8 (bt0 s.c:Nat),.int .u8 (bt1 s.c:Nat),.int .u8 (bt2 s.c:Nat),.int .u8 (bt3 s.c:Nat),.int .u8 (bt0 s.d:Nat),.int .u8 (bt1 s.d:Nat),.int .u8 (bt2 s.d:Nat),.int .u8 (bt3 s.d:Nat)] 27)).alloc (.cells #[.int .u8 0,.int .u8 0,.int .u8 0,.int .u8 0,.int .u8 0,.int .u8 0,.int .u8 0,.int .u8 0,.int .u8 0,.int .u8 0,.int .u8 0,.int .u8 0,.int .u8 0,.int .u8 0,.int .u8 0,.int .u8 0] 27)).heap.size=w.heap.size+2):=by show _=_;simp
 have HTH:Hid (((w.alloc (.cells #[.int .u8 (bt0 s.a:Nat),.int .u8 (bt1 s.a:Nat),.int .u8 (bt2 s.a:Nat),.int .u8 (bt3 s.a:Nat),.int .u8 (bt0 s.b:Nat),.int .u8 (bt1 s.b:Nat),.int .u8 (bt2 s.b:Nat),.int .u8 (bt3 s.b:Nat),.int .u8 (bt0 s.c:Nat),.int .u8 (bt1 s.c:Nat),.int .u8 (bt2 s.c:Nat),.int .u8 (bt3 s.c:Nat),.int .u8 (bt0 s.d:Nat),.int .u8 (bt1 s.d:Nat),.int .u8 (bt2 s.d:Nat),.int .u8 (bt3 s.d:Nat)] 27)).alloc (.cells #[.int .u8 0,.int .u8 0,.int .u8 0,.int .u8 0,.int .u8 0,.int .u8 0,.int .u8 0,.int .u8 0,.int .u8 0,.int .u8 0,.int .u8 0,.int .u8 0,.int .u8 0,.int .u8 0,.int .u8 0,.int .u8 0] 27)).there (w.heap.size+1) 0 16):=Hl w _ _ 27 27 rfl
 have HRG:Hid (((w.alloc (.cells #[.int .u8 (bt0 s.a:Nat),.int .u8 (bt1 s.a:Nat),.int .u8 (bt2 s.a:Nat),.int .u8 (bt3 s.a:Nat),.int .u8 (bt0 s.b:Nat),.int .u8 (bt1 s.b:Nat),.int .u8 (bt2 s.b:Nat),.int .u8 (bt3 s.b:Nat),.int .u8 (bt0 s.c:Nat),.int .u8 (bt1 s.c:Nat),.int .u8 (bt2 s.c:Nat),.int .u8 (bt3 s.c:Nat),.int .u8 (bt0 s.d:Nat),.int .u8 (bt1 s.d:Nat),.int .u8 (bt2 s.d:Nat),.int .u8 (bt3 s.d:Nat)] 27)).alloc (.cells #[.int .u8 0,.int .u8 0,.int .u8 0,.int .u8 0,.int .u8 0,.int .u8 0,.int .u8 0,.int .u8 0,.int .u8 0,.int .u8 0,.int .u8 0,.int .u8 0,.int .u8 0,.int .u8 0,.int .u8 0,.int .u8 0] 27)).rangeAt w.heap.size 0 [.int .u8 (bt0 s.a:Nat),.int .u8 (bt1 s.a:Nat),.int .u8 (bt2 s.a:Nat),.int .u8 (bt3 s.a:Nat),.int .u8 (bt0 s.b:Nat),.int .u8 (bt1 s.b:Nat),.int .u8 (bt2 s.b:Nat),.int .u8 (bt3 s.b:Nat),.int .u8 (bt0 s.c:Nat),.int .u8 (bt1 s.c:Nat),.int .u8 (bt2 s.c:Nat),.int .u8 (bt3 s.c:Nat),.int .u8 (bt0 s.d:Nat),.int .u8 (bt1 s.d:Nat),.int .u8 (bt2 s.d:Nat),.int .u8 (bt3 s.d:Nat)]):=fun j v hv=>by simpa using (Xv w #[.int .u8 (bt0 s.a:Nat),.int .u8 (bt1 s.a:Nat),.int .u8 (bt2 s.a:Nat),.int .u8 (bt3 s.a:Nat),.int .u8 (bt0 s.b:Nat),.int .u8 (bt1 s.b:Nat),.int .u8 (bt2 s.b:Nat),.int .u8 (bt3 s.b:Nat),.int .u8 (bt0 s.c:Nat),.int .u8 (bt1 s.c:Nat),.int .u8 (bt2 s.c:Nat),.int .u8 (bt3 s.c:Nat),.int .u8 (bt0 s.d:Nat),.int .u8 (bt1 s.d:Nat),.int .u8 (bt2 s.d:Nat),.int .u8 (bt3 s.d:Nat)] #[.int .u8 0,.int .u8 0,.int .u8 0,.int .u8 0,.int .u8 0,.int .u8 0,.int .u8 0,.int .u8 0,.int .u8 0,.int .u8 0,.int .u8 0,.int .u8 0,.int .u8 0,.int .u8 0,.int .u8 0,.int .u8 0] 27 27).2 j v (by simpa using hv)
 show Calls Tryz.prog 32 #[.pointer (some ⟨g,0,none⟩),.agg #[.int .u8 (bt0 s.a:Nat),.int .u8 (bt1 s.a:Nat),.int .u8 (bt2 s.a:Nat),.int .u8 (bt3 s.a:Nat),.int .u8 (bt0 s.b:Nat),.int .u8 (bt1 s.b:Nat),.int .u8 (bt2 s.b:Nat),.int .u8 (bt3 s.b:Nat),.int .u8 (bt0 s.c:Nat),.int .u8 (bt1 s.c:Nat),.int .u8 (bt2 s.c:Nat),.int .u8 (bt3 s.c:Nat),.int .u8 (bt0 s.d:Nat),.int .u8 (bt1 s.d:Nat),.int .u8 (bt2 s.d:Nat),.int .u8 (bt3 s.d:Nat)]] w _
 go_enter_defers Tryz.func32,Tryz.ntmps32
 go_wp2_with (first | (go_at_call 53;refine HH.out.mono ?_))
 rintro e1 w1 ⟨rfl,hw1⟩
 have H1:Hid (J3 w1 g 6 nr K∧Touch ((w.alloc (.cells #[.int .u8 (bt0 s.a:Nat),.int .u8 (bt1 s.a:Nat),.int .u8 (bt2 s.a:Nat),.int .u8 (bt3 s.a:Nat),.int .u8 (bt0 s.b:Nat),.int .u8 (bt1 s.b:Nat),.int .u8 (bt2 s.b:Nat),.int .u8 (bt3 s.b:Nat),.int .u8 (bt0 s.c:Nat),.int .u8 (bt1 s.c:Nat),.int .u8 (bt2 s.c:Nat),.int .u8 (bt3 s.c:Nat),.int .u8 (bt0 s.d:Nat),.int .u8 (bt1 s.d:Nat),.int .u8 (bt2 s.d:Nat),.int .u8 (bt3 s.d:Nat)] 27)).alloc (.cells #[.int .u8 0,.int .u8 0,.int .u8 0,.int .u8 0,.int .u8 0,.int .u8 0,.int .u8 0,.int .u8 0,.int .u8 0,.int .u8 0,.int .u8 0,.int .u8 0,.int .u8 0,.int .u8 0,.int .u8 0,.int .u8 0] 27)) w1 g 4 1∧w1.cell? ⟨g,4,none⟩=some (.int .i32 1)):=by
  rw[hw1]
  refine ⟨Hp HK2.out 1,(Touch.refl _ g 4 1).setCell 4 _ (by omega) (by omega),?_⟩
  have:=(HK2.out.room 4 (by decide)).1
  exact World.cell?_setCell_same' _ _ _ (by simpa using this)
 clear hw1 HH
 have gl:Hid (∀ u,Below w1.heap.size w1 u→u.rangeAt w.heap.size 0 [.int .u8 (bt0 s.a:Nat),.int .u8 (bt1 s.a:Nat),.int .u8 (bt2 s.a:Nat),.int .u8 (bt3 s.a:Nat),.int .u8 (bt0 s.b:Nat),.int .u8 (bt1 s.b:Nat),.int .u8 (bt2 s.b:Nat),.int .u8 (bt3 s.b:Nat),.int .u8 (bt0 s.c:Nat),.int .u8 (bt1 s.c:Nat),.int .u8 (bt2 s.c:Nat),.int .u8 (bt3 s.c:Nat),.int .u8 (bt0 s.d:Nat),.int .u8 (bt1 s.d:Nat),.int .u8 (bt2 s.d:Nat),.int .u8 (bt3 s.d:Nat)]):=fun u hu j v hv=>by
  have hs:=H1.out.2.1.size
  have hz:=HSZ.out
  have hgw:=HG.out
  rw[hu.cell (p:=⟨w.heap.size,0+j,none⟩) (show w.heap.size<_ by omega),H1.out.2.1.far (p:=⟨w.heap.size,0+j,none⟩) (show w.heap.size<_ by omega) (show w.heap.size≠g by omega)]
  exact HRG.out j v hv
 go_wp2_with fail
 have hS0:Below w1.heap.size w1 w1.drew:=(Below.refl _ _).drew
 refine wp_region_noPanic ?_
 refine Yl (fun u=>Below w1.heap.size w1 u) 4 (by kernel_rfl) (by decide) (by kernel_rfl) (by kernel_rfl) (by kernel_rfl) (fun inv=>?_)
 refine tT 0 16 (.pointer (some ⟨g,0,none⟩)) inv rfl rfl (by decide +kernel) (hS0) (Or.inl ⟨by rfl,fun w' hS'=>by go_simp⟩) (fun inv=>?_)
 simp only[pU]
 refine tT 1 17 (.pointer (some ⟨g,0,none⟩)) inv rfl rfl (by decide +kernel) (hS0) (Or.inl ⟨by rfl,fun w' hS'=>by go_simp⟩) (fun inv=>?_)
 simp only[pU]
 refine tT 2 18 (.pointer (some ⟨g,6,none⟩)) inv rfl rfl (by decide +kernel) (hS0) (Or.inl ⟨by rfl,fun w' hS'=>by go_simp⟩) (fun inv=>?_)
 simp only[pU]
 refine tT 3 19 (.agg #[.int .u8 (bt0 s.a:Nat),.int .u8 (bt1 s.a:Nat),.int .u8 (bt2 s.a:Nat),.int .u8 (bt3 s.a:Nat),.int .u8 (bt0 s.b:Nat),.int .u8 (bt1 s.b:Nat),.int .u8 (bt2 s.b:Nat),.int .u8 (bt3 s.b:Nat),.int .u8 (bt0 s.c:Nat),.int .u8 (bt1 s.c:Nat),.int .u8 (bt2 s.c:Nat),.int .u8 (bt3 s.c:Nat),.int .u8 (bt0 s.d:Nat),.int .u8 (bt1 s.d:Nat),.int .u8 (bt2 s.d:Nat),.int .u8 (bt3 s.d:Nat)]) inv rfl rfl (by decide +kernel) (hS0) (yieldsIf_load_mid (by rfl) 27 (.tmp 3) rfl w.heap.size 0 rfl [.int .u8 (bt0 s.a:Nat),.int .u8 (bt1 s.a:Nat),.int .u8 (bt2 s.a:Nat),.int .u8 (bt3 s.a:Nat),.int .u8 (bt0 s.b:Nat),.int .u8 (bt1 s.b:Nat),.int .u8 (bt2 s.b:Nat),.int .u8 (bt3 s.b:Nat),.int .u8 (bt0 s.c:Nat),.int .u8 (bt1 s.c:Nat),.int .u8 (bt2 s.c:Nat),.int .u8 (bt3 s.c:Nat),.int .u8 (bt0 s.d:Nat),.int .u8 (bt1 s.d:Nat),.int .u8 (bt2 s.d:Nat),.int .u8 (bt3 s.d:Nat)] _ (fun u hu=>gl.out u hu) Tryz.underlying27 rfl Gp) (fun inv=>?_)
 simp only[pU]
 refine Z6 (i:=4) (by kernel_rfl) (by decide) rfl (fun K hK=>?_)
 go_simp
 refine (HE.out _ (H1.out.1.below hS0 H1.out.1.here)).mono ?_
 rintro e1 u2 ⟨rfl,hu2⟩
 go_wp2_with fail
 refine hK.out _ _ ?_
 clear hK K
 try simp only[pU]
 have HT2:Hid (u2.there (w.heap.size+1) 0 16∧Touch w u2 g 4 1∧u2.cell? ⟨g,4,none⟩=some (.int .i32 1)):=by
  have hs:=H1.out.2.1.size
  have hz:=HSZ.out
  have hgw:=HG.out
  have hg1:=H1.out.1.here
  have hb:Below w1.heap.size w1 u2:=hS0.trans (hu2.mono (Nat.le_refl _))
  refine ⟨Zq (fun j hj=>?_) hb (by omega),?_,(hb.cell hg1).trans H1.out.2.2⟩
  ·rw[H1.out.2.1.far (p:=⟨w.heap.size+1,0+j,none⟩) (show w.heap.size+1<_ by omega) (show w.heap.size+1≠g by omega),H1.out.2.1.farFrozen (p:=⟨w.heap.size+1,0+j,none⟩) (show w.heap.size+1<_ by omega) (show w.heap.size+1≠g by omega)]
   exact HTH.out j hj
  ·exact ((((Touch.refl w g 4 1).alloc _ hgw).alloc _ hgw).trans H1.out.2.1).below hb hgw
 refine Z6 (i:=5) (by kernel_rfl) (by decide) rfl (fun K hK=>?_)
 rw[if_pos (by rfl)]
 refine wp_store_mid 27 (.tmp 4) (.tmp 20) rfl (w.heap.size+1) 0 #[.int .u8 (bt0 n0:Nat),.int .u8 (bt1 n0:Nat),.int .u8 (bt2 n0:Nat),.int .u8 (bt3 n0:Nat),.int .u8 (bt0 n1:Nat),.int .u8 (bt1 n1:Nat),.int .u8 (bt2 n1:Nat),.int .u8 (bt3 n1:Nat),.int .u8 (bt0 n2:Nat),.int .u8 (bt1 n2:Nat),.int .u8 (bt2 n2:Nat),.int .u8 (bt3 n2:Nat),.int .u8 (bt0 n3:Nat),.int .u8 (bt1 n3:Nat),.int .u8 (bt2 n3:Nat),.int .u8 (bt3 n3:Nat)] rfl rfl (HT2.out.1) (Gp) (by kernel_rfl) ?_
 refine hK.out _ _ ?_
 clear hK K
 try simp only[pU]
 refine Z6 (i:=6) (by kernel_rfl) (by decide) rfl (fun K hK=>?_)
 go_simp
 refine hK.out _ _ ?_
 clear hK K
 try simp only[pU]
 refine X2 (by kernel_rfl) ?_ _
 refine NoPanic.normal ?_
 have HF:Hid ((u2.setCells (w.heap.size+1) 0 [.int .u8 (bt0 n0:Nat),.int .u8 (bt1 n0:Nat),.int .u8 (bt2 n0:Nat),.int .u8 (bt3 n0:Nat),.int .u8 (bt0 n1:Nat),.int .u8 (bt1 n1:Nat),.int .u8 (bt2 n1:Nat),.int .u8 (bt3 n1:Nat),.int .u8 (bt0 n2:Nat),.int .u8 (bt1 n2:Nat),.int .u8 (bt2 n2:Nat),.int .u8 (bt3 n2:Nat),.int .u8 (bt0 n3:Nat),.int .u8 (bt1 n3:Nat),.int .u8 (bt2 n3:Nat),.int .u8 (bt3 n3:Nat)]).rangeAt (w.heap.size+1) 0 [.int .u8 (bt0 n0:Nat),.int .u8 (bt1 n0:Nat),.int .u8 (bt2 n0:Nat),.int .u8 (bt3 n0:Nat),.int .u8 (bt0 n1:Nat),.int .u8 (bt1 n1:Nat),.int .u8 (bt2 n1:Nat),.int .u8 (bt3 n1:Nat),.int .u8 (bt0 n2:Nat),.int .u8 (bt1 n2:Nat),.int .u8 (bt2 n2:Nat),.int .u8 (bt3 n2:Nat),.int .u8 (bt0 n3:Nat),.int .u8 (bt1 n3:Nat),.int .u8 (bt2 n3:Nat),.int .u8 (bt3 n3:Nat)]∧Touch w (u2.setCells (w.heap.size+1) 0 [.int .u8 (bt0 n0:Nat),.int .u8 (bt1 n0:Nat),.int .u8 (bt2 n0:Nat),.int .u8 (bt3 n0:Nat),.int .u8 (bt0 n1:Nat),.int .u8 (bt1 n1:Nat),.int .u8 (bt2 n1:Nat),.int .u8 (bt3 n1:Nat),.int .u8 (bt0 n2:Nat),.int .u8 (bt1 n2:Nat),.int .u8 (bt2 n2:Nat),.int .u8 (bt3 n2:Nat),.int .u8 (bt0 n3:Nat),.int .u8 (bt1 n3:Nat),.int .u8 (bt2 n3:Nat),.int .u8 (bt3 n3:Nat)]) g 4 1∧(u2.setCells (w.heap.size+1) 0 [.int .u8 (bt0 n0:Nat),.int .u8 (bt1 n0:Nat),.int .u8 (bt2 n0:Nat),.int .u8 (bt3 n0:Nat),.int .u8 (bt0 n1:Nat),.int .u8 (bt1 n1:Nat),.int .u8 (bt2 n1:Nat),.int .u8 (bt3 n1:Nat),.int .u8 (bt0 n2:Nat),.int .u8 (bt1 n2:Nat),.int .u8 (bt2 n2:Nat),.int .u8 (bt3 n2:Nat),.int .u8 (bt0 n3:Nat),.int .u8 (bt1 n3:Nat),.int .u8 (bt2 n3:Nat),.int .u8 (bt3 n3:Nat)]).cell? ⟨g,4,none⟩=some (.int .i32 1)):=by
  have hgw:=HG.out
  refine ⟨World.rangeAt_setCells_same _ _ _ _ HT2.out.1,Ki HT2.out.2.1 (Nat.le_succ _) _ _ hgw,?_⟩
  rw[World.cell?_setCells_out (w.heap.size+1) _ 0 u2 ⟨g,4,none⟩ (fun e _=>absurd e (by simp;omega))]
  exact HT2.out.2.2
 generalize u2.setCells (w.heap.size+1) 0 [.int .u8 (bt0 n0:Nat),.int .u8 (bt1 n0:Nat),.int .u8 (bt2 n0:Nat),.int .u8 (bt3 n0:Nat),.int .u8 (bt0 n1:Nat),.int .u8 (bt1 n1:Nat),.int .u8 (bt2 n1:Nat),.int .u8 (bt3 n1:Nat),.int .u8 (bt0 n2:Nat),.int .u8 (bt1 n2:Nat),.int .u8 (bt2 n2:Nat),.int .u8 (bt3 n2:Nat),.int .u8 (bt0 n3:Nat),.int .u8 (bt1 n3:Nat),.int .u8 (bt2 n3:Nat),.int .u8 (bt3 n3:Nat)]=w3 at HF ⊢
 clear hu2 hS0 gl
 go_wp2
 have hroom:w3.there g 0 1091:=HF.out.2.1.there _ _ HK.out.room
 obtain ⟨x0,c0⟩:=Qk hroom 0 (by decide)
 obtain ⟨x2,c2⟩:=Qk hroom 2 (by decide)
 have hz:=(hroom 4 (by decide)).2
 have hcnt:=HF.out.2.2
 refine leaves_cons (f:=54) (args:=#[.pointer (some ⟨g,0,none⟩)]) (by simp) (by simp [go_sem]) ?_
 refine (runlock_deferred Sx g 0 1 x0 x2 .returning _ c0 c2 hcnt hz (by decide +kernel)).mono ?_
 rintro e5 u5 w5 ⟨rfl,rfl,hw5⟩
 rw[show wrap32 (1+-1)=0 by decide +kernel] at hw5
 have hw5':w5=w3.setCells g 4 [.int .i32 0]:=hw5
 have hg:g≠w.heap.size+1:=by have:=HG.out;omega
 have ht5:Touch w w5 g 4 1:=by rw[hw5'];exact HF.out.2.1.setCells 4 _ (by omega) (by simp)
 have hc5:w5.cell? ⟨g,4,none⟩=some (.int .i32 0):=by
  rw[hw5]
  exact World.cell?_setCell_same' _ _ _ (by rw[show (0+4)=4 from rfl,hcnt];rfl)
 have hr5:w5.rangeAt (w.heap.size+1) 0 [.int .u8 (bt0 n0:Nat),.int .u8 (bt1 n0:Nat),.int .u8 (bt2 n0:Nat),.int .u8 (bt3 n0:Nat),.int .u8 (bt0 n1:Nat),.int .u8 (bt1 n1:Nat),.int .u8 (bt2 n1:Nat),.int .u8 (bt3 n1:Nat),.int .u8 (bt0 n2:Nat),.int .u8 (bt1 n2:Nat),.int .u8 (bt2 n2:Nat),.int .u8 (bt3 n2:Nat),.int .u8 (bt0 n3:Nat),.int .u8 (bt1 n3:Nat),.int .u8 (bt2 n3:Nat),.int .u8 (bt3 n3:Nat)]:=by rw[hw5'];exact World.rangeAt_setCells_apart HF.out.1 _ _ _ (Or.inl (Ne.symm hg))
 have hl:=run_loadVar_mid (P:=Tryz.prog) w5 (w.heap.size+1) 0 27 [.int .u8 (bt0 n0:Nat),.int .u8 (bt1 n0:Nat),.int .u8 (bt2 n0:Nat),.int .u8 (bt3 n0:Nat),.int .u8 (bt0 n1:Nat),.int .u8 (bt1 n1:Nat),.int .u8 (bt2 n1:Nat),.int .u8 (bt3 n1:Nat),.int .u8 (bt0 n2:Nat),.int .u8 (bt1 n2:Nat),.int .u8 (bt2 n2:Nat),.int .u8 (bt3 n2:Nat),.int .u8 (bt0 n3:Nat),.int .u8 (bt1 n3:Nat),.int .u8 (bt2 n3:Nat),.int .u8 (bt3 n3:Nat)] _ hr5 Tryz.underlying27 rfl Gp
 refine ⟨.tuple #[.agg #[.int .u8 (bt0 n0:Nat),.int .u8 (bt1 n0:Nat),.int .u8 (bt2 n0:Nat),.int .u8 (bt3 n0:Nat),.int .u8 (bt0 n1:Nat),.int .u8 (bt1 n1:Nat),.int .u8 (bt2 n1:Nat),.int .u8 (bt3 n1:Nat),.int .u8 (bt0 n2:Nat),.int .u8 (bt1 n2:Nat),.int .u8 (bt2 n2:Nat),.int .u8 (bt3 n2:Nat),.int .u8 (bt0 n3:Nat),.int .u8 (bt1 n3:Nat),.int .u8 (bt2 n3:Nat),.int .u8 (bt3 n3:Nat)],.int .i64 0],?_,?_,HK.out.touch ht5 hc5,ht5⟩
 ·rw[results_cell_tmp Tryz.results32]
  simp [asAddr,hl]
 ·rw[←HN.out]
  exact rfl
open Go.RowKit
set_option maxHeartbeats 1600000 in
set_option maxRecDepth 100000 in
theorem Fq (B sh:Nat) (S:ByteArray) (st wd:Nat) (zs:List Int) (kv:Value) (mp:Option Addr) (w:World) (h:ShA B w sh S st wd zs kv mp (.slice none 0 0)) (hB:B≤w.heap.size) (hn:zs.length≤1000) (hT:Dg.Tables w) (hrc:RC w) :
  Calls Tryz.prog 153 #[.pointer (some ⟨sh,0,none⟩)] w fun e w'=>Hid (∃ go bx ov',e=.returned (.func (.func 187) #[] #[.pointer (some ⟨bx,0,none⟩)])∧w.heap.size≤go∧w.heap.size≤bx∧Zr w' go (8+6) (Zn 8 (Yk (Dg.Xw 256 zs)))∧(∃ R:Array Value,w'.heap[go]?=some (.cells R 135 (0,0)))∧Bx w' bx 71 [.pointer (some ⟨go,0,none⟩)]∧ShA B w' sh S st wd zs kv mp ov'∧(∃ n os,n≤1∧w'.ownsRow B 71 1 ov' n os)∧Fs B sh w w'∧ov'.ownBlock≠some bx):=by
 have hpos:1<w.heap.size:=by have:=hT.size;omega
 have hv0:=h.view
 obtain ⟨xa,xc,hkv,_⟩:=h.view
 have c2:w.cell? ⟨sh,2,none⟩=some kv:=h.box.cell 2 _ rfl
 have HSM:Hid (Calls Tryz.prog 21 #[.int .i64 256,.slice (some ⟨w.heap.size,0,none⟩) 1 1] (w.alloc (.cells #[kv] 22)) fun e w'=>Hid (∃ b,e=.returned (.tuple #[.slice (some ⟨b,0,none⟩) 32 32,.int .i64 0])∧Zf w' (.slice (some ⟨b,0,none⟩) 32 32) (Dg.Xw 256 zs)∧Below w.heap.size w w')):=by
  have hal:Below w.heap.size w (w.alloc (.cells #[kv] 22)):=(Below.refl _ _).alloc (Nat.le_refl _) _
  refine (Dg.Zb0 256 [zs] _ _ (show _=_ from rfl) (fun u g hu hg=>?_) (hT.below hal (by have:=hT.size;omega)) ?_).mono ?_
  ·have q:Dg.Fu (w.alloc (.cells #[kv] 22)) g (.slice (some ⟨w.heap.size,0,none⟩) 1 1) [zs]:=Dg.Vm 22 kv zs g hv0 (by simp at hg;omega) (fun h0 b off l c e=>by
    have:=W3 hv0 h0 b off l c e
    simp at hg;omega)
   obtain ⟨a,c,e1,e2,e3,e4⟩:=q
   refine ⟨a,c,e1,e2,e3,?_⟩
   rcases e4 with e4 | ⟨b,p,e5,e6,e7⟩
   ·exact .inl e4
   ·refine .inr ⟨b,p,e5,e6,fun i hi=>?_⟩
    obtain ⟨x,x1,x2,x3⟩:=e7 i hi
    exact ⟨x,by rw[hu.cell (World.block_lt_of_cell? _ _ x1)];exact x1,Dg.Zf.kept x2 hu.block,x3⟩
  ·show ([zs]:List (List Int)).flatten.length≤33554432
   simp;omega
  ·rintro e w' ⟨b,he,ho,hb⟩
   refine ⟨b,he,?_,hal.trans (hb.mono hal.size)⟩
   rw[show ([zs]:List (List Int)).flatten=zs by simp] at ho
   exact Xz (n:=32) ho (Qg zs)
 subst hkv
 have HK:Hid (∀ u v,Below w.heap.size w u→Zf u v (Dg.Xw 256 zs)→Calls Tryz.prog 186 #[.pointer (some ⟨sh,0,none⟩),v] u fun e w'=>Hid (∃ g ov',e=.returned (.pointer (some ⟨g,0,none⟩))∧u.heap.size≤g∧Zr w' g (8+6) (Zn 8 (Yk (Dg.Xw 256 zs)))∧(∃ R:Array Value,w'.heap[g]?=some (.cells R 135 (0,0)))∧ShA B w' sh S st wd zs (.slice xa zs.length xc) mp ov'∧(∀ n os,u.ownsRow B 71 1 (.slice none 0 0) n os→∃ os',w'.ownsRow B 71 1 ov' (n+1) os')∧Fs B sh u w')):=fun u v hu hv=>
  Wk B sh S st wd zs _ mp _ v (Dg.Xw 256 zs) 8 u (h.below hu) (Nat.le_trans hB hu.size) ⟨0,[],by omega,World.ownsRow_nil _ _ _ _⟩ (.inr (.inr rfl)) (Qg zs) hv (Ku _ _) (fun i hi=>(hu.cell (p:=⟨1,i,none⟩) hpos).trans (hrc i hi)) (Nat.lt_of_lt_of_le hpos hu.size)
 have HB0:Hid (B≤w.heap.size):=hB
 have hlt:sh<w.heap.size:=h.box.lt
 obtain ⟨n,HNL⟩:∃ n,Hid (zs.length=n):=⟨_,rfl⟩
 rw[HNL.out] at c2 HSM HK
 clear h hB hT hrc hv0 hpos
 go_enter Tryz.func153,Tryz.ntmps153
 go_upto_region 3 with (first
  | (go_at_call 21;refine HSM.out.mono ?_;intro e1 w1 hh;obtain ⟨b1,rfl,hv1,hb1⟩:=hh.out;have HV1:Hid (Zf w1 (.slice (some ⟨b1,0,none⟩) 32 32) (Dg.Xw 256 zs)∧Below w.heap.size w w1):=⟨hv1,hb1⟩;clear hh hv1 hb1)
  | (go_at_call 186;refine (HK.out _ _ HV1.out.2 HV1.out.1).mono ?_;intro e2 w2 hh;obtain ⟨go,ov',rfl,hg2,hK2,hR2,hS2,hO2,hF2⟩:=hh.out;have HS2:Hid (w1.heap.size≤go∧Zr w2 go (8+6) (Zn 8 (Yk (Dg.Xw 256 zs)))∧(∃ R:Array Value,w2.heap[go]?=some (.cells R 135 (0,0)))∧ShA B w2 sh S st wd zs (.slice xa n xc) mp ov'∧(∃ os',w2.ownsRow B 71 1 ov' 1 os')∧Fs B sh w1 w2):=⟨hg2,hK2,hR2,hS2,hO2 0 [] (World.ownsRow_nil _ _ _ _),hF2⟩;clear hh hg2 hK2 hR2 hS2 hO2 hF2))
 go_wp2
 go_ret
 have hal:Below w2.heap.size w2 (w2.alloc (.cells #[.pointer (some ⟨go,0,none⟩)] 71)):=(Below.refl _ _).alloc (Nat.le_refl _) _
 obtain ⟨hg,hK,⟨R,hR⟩,hS,⟨os',ho'⟩,hF⟩:=HS2.out
 have hs2:w.heap.size≤w2.heap.size:=Nat.le_trans HV1.out.2.size hF.bel.size
 rw[HNL.out]
 exact ⟨go,w2.heap.size,ov',rfl,Nat.le_trans HV1.out.2.size hg,hs2,hK.sameK (hal.block go hK.ciph.here) hal.size,⟨R,by rw[hal.block go hK.ciph.here];exact hR⟩,Bx.new w2 71 _,hS.below hal,⟨1,os',by omega,ownsRow_below ho' hal⟩,(Fs.of_below HV1.out.2 HB0.out).trans (hF.trans (Fs.of_below hal (Nat.le_trans HB0.out hs2))),fun e=>by have:=(Z3 ho' e).2;omega⟩
end Go.Proofs.YtehlppaidgkpaaaGreatDoor
