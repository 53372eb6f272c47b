import Derived.Test.YtehlppaidgkpaaaGreatDoorNwc
import Derived.Test.YtehlppaidgkpaaaGreatDoorPart27
import Derived.Test.YtehlppaidgkpaaaGreatDoorPart10
import Derived.Test.YtehlppaidgkpaaaGreatDoorPart00
import Derived.Test.YtehlppaidgkpaaaGreatDoorEnc
namespace Go.Proofs.YtehlppaidgkpaaaGreatDoor
open Go.RowKit
set_option linter.unusedVariables false
set_option linter.unusedSimpArgs false
theorem Gu (h:Int) (zs:List Int):Zj (Dg.Qd h zs):=fun i=>by
 unfold Dg.Qd
 rw[List.getD_eq_getElem?_getD,List.getElem?_take]
 split
 ·unfold Dg.Yq
  rw[List.getElem?_map]
  cases (List.range 64)[i]? with
  | none=>simp
  | some q=>simp only[Option.map_some,Option.getD_some];unfold Dg.X0;omega
 ·simp
theorem Jo (zs:List Int):(Dg.Qd 256 zs).length=4*8:=Dg.Cc 256 rfl zs
theorem Zu {P:Program} {f:FuncId} {fn:Func} {c:Code} (hf:P.funcs[f]?=some fn) (hn:(fn.name=="runtime.NumGoroutine")=false) (hb:fn.body=some c) (args:Array Value) (w:World):(callFunc f args).run P w=.ok (.enter f args) w:=by
 have h1:fn.name ≠ "runtime.NumGoroutine":=by simpa using hn
 simp [callFunc,hf,h1,hb]
theorem C4 {S:ByteArray} {j k:Nat} (h1:spN j=S) (h2:∀ i,i<j→spN i≠S) (k1:spN k=S) (k2:∀ i,i<k→spN i≠S):j=k:=by
 rcases Nat.lt_trichotomy j k with q | q | q
 ·exact absurd h1 (k2 j q)
 ·exact q
 ·exact absurd k1 (h2 k q)
theorem In (S:ByteArray) (j:Nat) (w:World) (hT:Pow w) (hj:j<52) (h1:spN j=S) (h2:∀ i,i<j→spN i≠S):Calls Tryz.prog 42 #[.string S] w fun e w'=>Hid (e=.returned (.tuple #[.agg (sxF j).toArray,.bool true])∧Below w.heap.size w w'):=by
 refine (find_ok S w hT).mono ?_
 rintro e w' ⟨⟨k,hk,e1,e2,rfl⟩ | ⟨hn,_⟩,hb⟩
 ·rw[C4 h1 h2 e1 e2];exact ⟨rfl,hb⟩
 ·exact absurd h1 (hn j hj)
def X7 (bg:Nat):Prop:=bg=147∨bg=149∨bg=150∨bg=151∨bg=152∨bg=153∨bg=154∨bg=156
theorem Tw (k:Nat) (hk:k<17):mB k=.nilFunc∨∃ bg,X7 bg∧mB k=fV bg:=by
 match k,hk with
 | 0,_=>exact .inl rfl
 | 1,_=>exact .inr ⟨147,by unfold X7;simp,rfl⟩
 | 2,_=>exact .inr ⟨149,by unfold X7;simp,rfl⟩
 | 3,_=>exact .inr ⟨150,by unfold X7;simp,rfl⟩
 | 4,_=>exact .inr ⟨151,by unfold X7;simp,rfl⟩
 | 5,_=>exact .inr ⟨152,by unfold X7;simp,rfl⟩
 | 6,_=>exact .inr ⟨153,by unfold X7;simp,rfl⟩
 | 7,_=>exact .inr ⟨154,by unfold X7;simp,rfl⟩
 | 8,_=>exact .inr ⟨154,by unfold X7;simp,rfl⟩
 | 9,_=>exact .inr ⟨156,by unfold X7;simp,rfl⟩
 | 10,_=>exact .inr ⟨149,by unfold X7;simp,rfl⟩
 | 11,_=>exact .inr ⟨150,by unfold X7;simp,rfl⟩
 | 12,_=>exact .inr ⟨151,by unfold X7;simp,rfl⟩
 | 13,_=>exact .inr ⟨153,by unfold X7;simp,rfl⟩
 | 14,_=>exact .inr ⟨152,by unfold X7;simp,rfl⟩
 | 15,_=>exact .inr ⟨149,by unfold X7;simp,rfl⟩
 | 16,_=>exact .inr ⟨150,by unfold X7;simp,rfl⟩
 | n+17,h=>exact absurd h (by omega)
theorem R6 (bg:Nat) (h:X7 bg) (args:Array Value) (w:World):(callFunc bg args).run Tryz.prog w=.ok (.enter bg args) w:=by
 rcases h with rfl | rfl | rfl | rfl | rfl | rfl | rfl | rfl
 ·exact Zu Tryz.func147 (by rfl) (by rfl) args w
 ·exact Zu Tryz.func149 (by rfl) (by rfl) args w
 ·exact Zu Tryz.func150 (by rfl) (by rfl) args w
 ·exact Zu Tryz.func151 (by rfl) (by rfl) args w
 ·exact Zu Tryz.func152 (by rfl) (by rfl) args w
 ·exact Zu Tryz.func153 (by rfl) (by rfl) args w
 ·exact Zu Tryz.func154 (by rfl) (by rfl) args w
 ·exact Zu Tryz.func156 (by rfl) (by rfl) args w
theorem Rt (k:Nat) (hk:k<17) (args:Array Value) (w:World):(callFunc (mU k) args).run Tryz.prog w=.ok (.enter (mU k) args) w:=by
 have:mU k=146∨mU k=148∨mU k=155∨mU k=157∨mU k=158∨mU k=159∨mU k=160:=by
  have q:∀ k,k<17→(mU k=146∨mU k=148∨mU k=155∨mU k=157∨mU k=158∨mU k=159∨mU k=160):=by decide
  exact q k hk
 rcases this with h | h | h | h | h | h | h<;>rw[h]
 ·exact Zu Tryz.func146 (by rfl) (by rfl) args w
 ·exact Zu Tryz.func148 (by rfl) (by rfl) args w
 ·exact Zu Tryz.func155 (by rfl) (by rfl) args w
 ·exact Zu Tryz.func157 (by rfl) (by rfl) args w
 ·exact Zu Tryz.func158 (by rfl) (by rfl) args w
 ·exact Zu Tryz.func159 (by rfl) (by rfl) args w
 ·exact Zu Tryz.func160 (by rfl) (by rfl) args w
theorem RC.belowB {B:Nat} {w w':World} (h:RC w) (hb:Below B w w') (h0:1<B):RC w':=fun i hi=>(hb.cell (p:=⟨1,i,none⟩) h0).trans (h i hi)
theorem Tu (c sh:Nat) (w:World) (h:w.cell? ⟨c,0,none⟩=some (.pointer (some ⟨sh,0,none⟩))):Calls Tryz.prog 74 #[.pointer (some ⟨c,0,none⟩)] w fun e w'=>e=.returned (.bool true)∧w'=w:=by
 go_enter Tryz.func74,Tryz.ntmps74
 go_wp2
 go_ret
 exact ⟨rfl,rfl⟩
theorem Tm (x:Int) (w:World):Calls Tryz.prog 14 #[.int .i64 x] w fun e w'=>e=.returned (.int .i64 x)∧w'=w:=by
 go_enter Tryz.func14,Tryz.ntmps14
 go_wp2
 go_ret
 exact ⟨rfl,rfl⟩
set_option maxHeartbeats 1600000 in
set_option maxRecDepth 100000 in
theorem Fn (B sh:Nat) (S:ByteArray) (st wd:Nat) (zs:List Int) (kv:Value) (mp:Option Addr) (w:World) (h:ShA B w sh S st wd zs kv mp (.slice none 0 0)) (hB:B≤w.heap.size) (hn:zs.length≤1000) (hT:Dg.Tables w) (hrc:RC w) :
  Calls Tryz.prog 153 #[.pointer (some ⟨sh,0,none⟩)] w fun e w'=>Hid (∃ go bx ov',e=.returned (.func (.func 187) #[] #[.pointer (some ⟨bx,0,none⟩)])∧w.heap.size≤go∧w.heap.size≤bx∧Zm w' go (8+6) (Yn 8 (Ql (Dg.Qd 256 zs)))∧(∃ R:Array Value,w'.heap[go]?=some (.cells R 135 (0,0)))∧Bx w' bx 71 [.pointer (some ⟨go,0,none⟩)]∧ShA B w' sh S st wd zs kv mp ov'∧(∃ n os,n≤1∧w'.ownsRow B 71 1 ov' n os)∧Fs B sh w w'∧ov'.ownBlock≠some bx):=by
 have hpos:1<w.heap.size:=by have:=hT.size;omega
 have hv0:=h.view
 obtain ⟨xa,xc,hkv,_⟩:=h.view
 have c2:w.cell? ⟨sh,2,none⟩=some kv:=h.box.cell 2 _ rfl
 have HSM:Hid (Calls Tryz.prog 21 #[.int .i64 256,.slice (some ⟨w.heap.size,0,none⟩) 1 1] (w.alloc (.cells #[kv] 22)) fun e w'=>Hid (∃ b,e=.returned (.tuple #[.slice (some ⟨b,0,none⟩) 32 32,.int .i64 0])∧Zf w' (.slice (some ⟨b,0,none⟩) 32 32) (Dg.Qd 256 zs)∧Below w.heap.size w w')):=by
  have hal:Below w.heap.size w (w.alloc (.cells #[kv] 22)):=(Below.refl _ _).alloc (Nat.le_refl _) _
  refine (Dg.Zdh 256 [zs] _ _ (show _=_ from rfl) (fun u g hu hg=>?_) (hT.below hal (by have:=hT.size;omega)) ?_).mono ?_
  ·have q:Dg.Hp (w.alloc (.cells #[kv] 22)) g (.slice (some ⟨w.heap.size,0,none⟩) 1 1) [zs]:=Dg.Dk 22 kv zs g hv0 (by simp at hg;omega) (fun h0 b off l c e=>by
    have:=Ht hv0 h0 b off l c e
    simp at hg;omega)
   obtain ⟨a,c,e1,e2,e3,e4⟩:=q
   refine ⟨a,c,e1,e2,e3,?_⟩
   rcases e4 with e4 | ⟨b,p,e5,e6,e7⟩
   ·exact .inl e4
   ·refine .inr ⟨b,p,e5,e6,fun i hi=>?_⟩
    obtain ⟨x,x1,x2,x3⟩:=e7 i hi
    exact ⟨x,by rw[hu.cell (World.block_lt_of_cell? _ _ x1)];exact x1,Dg.Zf.kept x2 hu.block,x3⟩
  ·show ([zs]:List (List Int)).flatten.length≤33554432
   simp;omega
  ·rintro e w' ⟨b,he,ho,hb⟩
   refine ⟨b,he,?_,hal.trans (hb.mono hal.size)⟩
   rw[show ([zs]:List (List Int)).flatten=zs by simp] at ho
   exact X9 (n:=32) ho (Jo zs)
 subst hkv
 have HK:Hid (∀ u v,Below w.heap.size w u→Zf u v (Dg.Qd 256 zs)→Calls Tryz.prog 186 #[.pointer (some ⟨sh,0,none⟩),v] u fun e w'=>Hid (∃ g ov',e=.returned (.pointer (some ⟨g,0,none⟩))∧u.heap.size≤g∧Zm w' g (8+6) (Yn 8 (Ql (Dg.Qd 256 zs)))∧(∃ R:Array Value,w'.heap[g]?=some (.cells R 135 (0,0)))∧ShA B w' sh S st wd zs (.slice xa zs.length xc) mp ov'∧(∀ n os,u.ownsRow B 71 1 (.slice none 0 0) n os→∃ os',w'.ownsRow B 71 1 ov' (n+1) os')∧Fs B sh u w')):=fun u v hu hv=>
  Cg B sh S st wd zs _ mp _ v (Dg.Qd 256 zs) 8 u (h.below hu) (Nat.le_trans hB hu.size) ⟨0,[],by omega,World.ownsRow_nil _ _ _ _⟩ (.inr (.inr rfl)) (Jo zs) hv (Gu _ _) (fun i hi=>(hu.cell (p:=⟨1,i,none⟩) hpos).trans (hrc i hi)) (Nat.lt_of_lt_of_le hpos hu.size)
 have HB0:Hid (B≤w.heap.size):=hB
 have hlt:sh<w.heap.size:=h.box.lt
 obtain ⟨n,HNL⟩:∃ n,Hid (zs.length=n):=⟨_,rfl⟩
 rw[HNL.out] at c2 HSM HK
 clear h hB hT hrc hv0 hpos
 go_enter Tryz.func153,Tryz.ntmps153
 go_upto_region 3 with (first
  | (go_at_call 21;refine HSM.out.mono ?_;intro e1 w1 hh;obtain ⟨b1,rfl,hv1,hb1⟩:=hh.out;have HV1:Hid (Zf w1 (.slice (some ⟨b1,0,none⟩) 32 32) (Dg.Qd 256 zs)∧Below w.heap.size w w1):=⟨hv1,hb1⟩;clear hh hv1 hb1)
  | (go_at_call 186;refine (HK.out _ _ HV1.out.2 HV1.out.1).mono ?_;intro e2 w2 hh;obtain ⟨go,ov',rfl,hg2,hK2,hR2,hS2,hO2,hF2⟩:=hh.out;have HS2:Hid (w1.heap.size≤go∧Zm w2 go (8+6) (Yn 8 (Ql (Dg.Qd 256 zs)))∧(∃ R:Array Value,w2.heap[go]?=some (.cells R 135 (0,0)))∧ShA B w2 sh S st wd zs (.slice xa n xc) mp ov'∧(∃ os',w2.ownsRow B 71 1 ov' 1 os')∧Fs B sh w1 w2):=⟨hg2,hK2,hR2,hS2,hO2 0 [] (World.ownsRow_nil _ _ _ _),hF2⟩;clear hh hg2 hK2 hR2 hS2 hO2 hF2))
 go_wp2
 go_ret
 have hal:Below w2.heap.size w2 (w2.alloc (.cells #[.pointer (some ⟨go,0,none⟩)] 71)):=(Below.refl _ _).alloc (Nat.le_refl _) _
 obtain ⟨hg,hK,⟨R,hR⟩,hS,⟨os',ho'⟩,hF⟩:=HS2.out
 have hs2:w.heap.size≤w2.heap.size:=Nat.le_trans HV1.out.2.size hF.bel.size
 rw[HNL.out]
 exact ⟨go,w2.heap.size,ov',rfl,Nat.le_trans HV1.out.2.size hg,hs2,hK.sameK (hal.block go hK.ciph.here) hal.size,⟨R,by rw[hal.block go hK.ciph.here];exact hR⟩,Bx.new w2 71 _,hS.below hal,⟨1,os',by omega,ownsRow_below ho' hal⟩,(Fs.of_below HV1.out.2 HB0.out).trans (hF.trans (Fs.of_below hal (Nat.le_trans HB0.out hs2))),fun e=>by have:=(Zy ho' e).2;omega⟩
set_option maxHeartbeats 6400000 in
set_option maxRecDepth 100000 in
theorem Zbe {Q:Exit→Act→World→Prop} (s1 s2 s3 s4 s6 s7 s8 s9 s10 s11 s12 s13 s14 s15 s16 s17 s18 s19 s20 s21 s22 s23 s24 s25 s26 s27 s28 s29 s30 s31 s32 s33 s34 s35 s36 s37 s38 s39 s40 s41 s42 s43 s44 s45 s46 s47 s48 s49 s50 s51 s52 s53 s54 s55 s56 s57 s58 s59 s60 s61 s62 s63 s64 s65 s66 s67 s68 s69 s70 s71 s72 s73 s74 s75 s76 s77 s78 s79 s80 s81 s82 s83 s84 s85 s86 s87 s88 s89 s90 s91 s92 s93 s94 s95 s96 s97 s98 s99 s100 s101 s102 s103 s104 s105 s106 s107 s108 s109 s110 s111 s112 s113 s114 s115 s116 s117 s118 s119 s120 s121 s122 s123 s124 s125 s126 s127 s128:Value) (g o A n0 n1 n2 n3 y0 y1 y2 y3:Nat) (wr:World)
  (k0:Hid (∀ u,Below (A+1) wr u→Calls Tryz.prog 266 #[.pointer (some ⟨g,o,none⟩),.int .u32 (n0:Nat)] u fun e u'=>e=.returned (.int .u32 (y0:Nat))∧Below (A+1) wr u'))
  (k1:Hid (∀ u,Below (A+1) wr u→Calls Tryz.prog 266 #[.pointer (some ⟨g,o,none⟩),.int .u32 (n1:Nat)] u fun e u'=>e=.returned (.int .u32 (y1:Nat))∧Below (A+1) wr u'))
  (k2:Hid (∀ u,Below (A+1) wr u→Calls Tryz.prog 266 #[.pointer (some ⟨g,o,none⟩),.int .u32 (n2:Nat)] u fun e u'=>e=.returned (.int .u32 (y2:Nat))∧Below (A+1) wr u'))
  (k3:Hid (∀ u,Below (A+1) wr u→Calls Tryz.prog 266 #[.pointer (some ⟨g,o,none⟩),.int .u32 (n3:Nat)] u fun e u'=>e=.returned (.int .u32 (y3:Nat))∧Below (A+1) wr u'))
  (g0:Hid (∀ u,Below (A+1) wr u→u.cell? ⟨A,0,none⟩=some (.int .u32 (n0:Nat))))
  (g1:Hid (∀ u,Below (A+1) wr u→u.cell? ⟨A,1,none⟩=some (.int .u32 (n1:Nat))))
  (g2:Hid (∀ u,Below (A+1) wr u→u.cell? ⟨A,2,none⟩=some (.int .u32 (n2:Nat))))
  (g3:Hid (∀ u,Below (A+1) wr u→u.cell? ⟨A,3,none⟩=some (.int .u32 (n3:Nat))))
  (hth:wr.there A 0 4)
  (HQ:∀ v3,Below (A+1) wr v3→Q .normal ⟨#[.pointer (some ⟨g,o,none⟩),s1,s2,s3,s4,.pointer (some ⟨A,0,none⟩),s6,s7,s8,s9,s10,s11,s12,s13,s14,s15,s16,s17,s18,s19,s20,s21,s22,s23,s24,s25,s26,s27,s28,s29,s30,s31,s32,s33,s34,s35,s36,s37,s38,s39,s40,s41,s42,s43,s44,s45,s46,s47,s48,s49,s50,s51,s52,s53,s54,s55,s56,s57,s58,s59,s60,s61,s62,s63,s64,s65,s66,s67,.pointer (some ⟨g,o,none⟩),.pointer (some ⟨A,0,none⟩),.int .u32 (n0:Nat),.int .u32 (y0:Nat),.pointer (some ⟨g,o,none⟩),.pointer (some ⟨A,1,none⟩),.int .u32 (n1:Nat),.int .u32 (y1:Nat),.pointer (some ⟨g,o,none⟩),.pointer (some ⟨A,2,none⟩),.int .u32 (n2:Nat),.int .u32 (y2:Nat),.pointer (some ⟨g,o,none⟩),.pointer (some ⟨A,3,none⟩),.int .u32 (n3:Nat),.int .u32 (y3:Nat),.agg #[.int .u32 (y0:Nat),.int .u32 (y1:Nat),.int .u32 (y2:Nat),.int .u32 (y3:Nat)],s85,s86,s87,s88,s89,s90,s91,s92,s93,s94,s95,s96,s97,s98,s99,s100,s101,s102,s103,s104,s105,s106,s107,s108,s109,s110,s111,s112,s113,s114,s115,s116,s117,s118,s119,s120,s121,s122,s123,s124,s125,s126,s127,s128],[]⟩ (v3.setCells A 0 [.int .u32 (y0:Nat),.int .u32 (y1:Nat),.int .u32 (y2:Nat),.int .u32 (y3:Nat)])) :
  (Code.region 6 #[{ dst:=some 68,op:=Op.move (Operand.tmp 0),type:=175,pos:="cipher.go:128",after:=#[],guard:=none },{ dst:=some 69,op:=Op.indexAddr 177 (Operand.tmp 5) (Operand.const (Value.int IntKind.i64 0)),type:=0,pos:="cipher.go:128",after:=#[],guard:=none },{ dst:=some 70,op:=Op.load 116 (Operand.tmp 69),type:=116,pos:="cipher.go:128",after:=#[{ on:=1,ground:=Ground.data }],guard:=none },{ dst:=some 71,op:=Op.call { callee:=Callee.value (Operand.func 266),args:=#[Operand.tmp 68,Operand.tmp 70],argTypes:=#[175,116] },type:=116,pos:="cipher.go:128",after:=#[{ on:=0,ground:=Ground.data },{ on:=2,ground:=Ground.data }],guard:=none },{ dst:=some 72,op:=Op.move (Operand.tmp 0),type:=175,pos:="cipher.go:128",after:=#[],guard:=none },{ dst:=some 73,op:=Op.indexAddr 177 (Operand.tmp 5) (Operand.const (Value.int IntKind.i64 1)),type:=0,pos:="cipher.go:128",after:=#[],guard:=none },{ dst:=some 74,op:=Op.load 116 (Operand.tmp 73),type:=116,pos:="cipher.go:128",after:=#[{ on:=5,ground:=Ground.data }],guard:=none },{ dst:=some 75,op:=Op.call { callee:=Callee.value (Operand.func 266),args:=#[Operand.tmp 72,Operand.tmp 74],argTypes:=#[175,116] },type:=116,pos:="cipher.go:128",after:=#[{ on:=4,ground:=Ground.data },{ on:=6,ground:=Ground.data },{ on:=3,ground:=Ground.chain }],guard:=none },{ dst:=some 76,op:=Op.move (Operand.tmp 0),type:=175,pos:="cipher.go:128",after:=#[],guard:=none },{ dst:=some 77,op:=Op.indexAddr 177 (Operand.tmp 5) (Operand.const (Value.int IntKind.i64 2)),type:=0,pos:="cipher.go:128",after:=#[],guard:=none },{ dst:=some 78,op:=Op.load 116 (Operand.tmp 77),type:=116,pos:="cipher.go:128",after:=#[{ on:=9,ground:=Ground.data }],guard:=none },{ dst:=some 79,op:=Op.call { callee:=Callee.value (Operand.func 266),args:=#[Operand.tmp 76,Operand.tmp 78],argTypes:=#[175,116] },type:=116,pos:="cipher.go:128",after:=#[{ on:=8,ground:=Ground.data },{ on:=10,ground:=Ground.data },{ on:=7,ground:=Ground.chain }],guard:=none },{ dst:=some 80,op:=Op.move (Operand.tmp 0),type:=175,pos:="cipher.go:128",after:=#[],guard:=none },{ dst:=some 81,op:=Op.indexAddr 177 (Operand.tmp 5) (Operand.const (Value.int IntKind.i64 3)),type:=0,pos:="cipher.go:128",after:=#[],guard:=none },{ dst:=some 82,op:=Op.load 116 (Operand.tmp 81),type:=116,pos:="cipher.go:128",after:=#[{ on:=13,ground:=Ground.data }],guard:=none },{ dst:=some 83,op:=Op.call { callee:=Callee.value (Operand.func 266),args:=#[Operand.tmp 80,Operand.tmp 82],argTypes:=#[175,116] },type:=116,pos:="cipher.go:128",after:=#[{ on:=12,ground:=Ground.data },{ on:=14,ground:=Ground.data },{ on:=11,ground:=Ground.chain }],guard:=none },{ dst:=some 84,op:=Op.build 177 #[(0,Operand.tmp 71),(1,Operand.tmp 75),(2,Operand.tmp 79),(3,Operand.tmp 83)],type:=177,pos:="cipher.go:128",after:=#[{ on:=3,ground:=Ground.data },{ on:=7,ground:=Ground.data },{ on:=11,ground:=Ground.data },{ on:=15,ground:=Ground.data }],guard:=none },{ dst:=none,op:=Op.store 177 (Operand.tmp 5) (Operand.tmp 84),type:=0,pos:="cipher.go:128",after:=#[{ on:=16,ground:=Ground.data },{ on:=15,ground:=Ground.chain },{ on:=0,ground:=Ground.phase },{ on:=1,ground:=Ground.phase },{ on:=2,ground:=Ground.phase },{ on:=3,ground:=Ground.phase },{ on:=4,ground:=Ground.phase },{ on:=5,ground:=Ground.phase },{ on:=6,ground:=Ground.phase },{ on:=7,ground:=Ground.phase },{ on:=8,ground:=Ground.phase },{ on:=9,ground:=Ground.phase },{ on:=10,ground:=Ground.phase },{ on:=11,ground:=Ground.phase },{ on:=12,ground:=Ground.phase },{ on:=13,ground:=Ground.phase },{ on:=14,ground:=Ground.phase },{ on:=15,ground:=Ground.phase },{ on:=16,ground:=Ground.phase }],guard:=none }] true).wp Tryz.prog Q ⟨#[.pointer (some ⟨g,o,none⟩),s1,s2,s3,s4,.pointer (some ⟨A,0,none⟩),s6,s7,s8,s9,s10,s11,s12,s13,s14,s15,s16,s17,s18,s19,s20,s21,s22,s23,s24,s25,s26,s27,s28,s29,s30,s31,s32,s33,s34,s35,s36,s37,s38,s39,s40,s41,s42,s43,s44,s45,s46,s47,s48,s49,s50,s51,s52,s53,s54,s55,s56,s57,s58,s59,s60,s61,s62,s63,s64,s65,s66,s67,s68,s69,s70,s71,s72,s73,s74,s75,s76,s77,s78,s79,s80,s81,s82,s83,s84,s85,s86,s87,s88,s89,s90,s91,s92,s93,s94,s95,s96,s97,s98,s99,s100,s101,s102,s103,s104,s105,s106,s107,s108,s109,s110,s111,s112,s113,s114,s115,s116,s117,s118,s119,s120,s121,s122,s123,s124,s125,s126,s127,s128],[]⟩ wr:=by
 have hS0:Below (A+1) wr wr.drew:=(Below.refl _ _).drew
 refine wp_region_noPanic ?_
 refine Z3 (fun u=>Below (A+1) wr u) 17 (by kernel_rfl) (by decide) (by decide +kernel) (by decide +kernel) (by decide +kernel) (fun inv=>?_)
 refine tT 0 68 (.pointer (some ⟨g,o,none⟩)) inv rfl rfl (by decide +kernel) (hS0) (Or.inl ⟨by rfl,fun w' hS'=>by go_simp⟩) (fun inv=>?_)
 simp only[pU]
 refine tT 1 69 (.pointer (some ⟨A,0,none⟩)) inv rfl rfl (by decide +kernel) (hS0) (Or.inl ⟨by rfl,fun w' hS'=>by go_simp⟩) (fun inv=>?_)
 simp only[pU]
 refine tT 2 70 (.int .u32 (n0:Nat)) inv rfl rfl (by decide +kernel) (hS0) (Or.inl ⟨by rfl,fun w' hS'=>by have q:=g0.out w' hS';go_simp⟩) (fun inv=>?_)
 simp only[pU]
 refine tT 4 72 (.pointer (some ⟨g,o,none⟩)) inv rfl rfl (by decide +kernel) (hS0) (Or.inl ⟨by rfl,fun w' hS'=>by go_simp⟩) (fun inv=>?_)
 simp only[pU]
 refine tT 5 73 (.pointer (some ⟨A,1,none⟩)) inv rfl rfl (by decide +kernel) (hS0) (Or.inl ⟨by rfl,fun w' hS'=>by go_simp⟩) (fun inv=>?_)
 simp only[pU]
 refine tT 6 74 (.int .u32 (n1:Nat)) inv rfl rfl (by decide +kernel) (hS0) (Or.inl ⟨by rfl,fun w' hS'=>by have q:=g1.out w' hS';go_simp⟩) (fun inv=>?_)
 simp only[pU]
 refine tT 8 76 (.pointer (some ⟨g,o,none⟩)) inv rfl rfl (by decide +kernel) (hS0) (Or.inl ⟨by rfl,fun w' hS'=>by go_simp⟩) (fun inv=>?_)
 simp only[pU]
 refine tT 9 77 (.pointer (some ⟨A,2,none⟩)) inv rfl rfl (by decide +kernel) (hS0) (Or.inl ⟨by rfl,fun w' hS'=>by go_simp⟩) (fun inv=>?_)
 simp only[pU]
 refine tT 10 78 (.int .u32 (n2:Nat)) inv rfl rfl (by decide +kernel) (hS0) (Or.inl ⟨by rfl,fun w' hS'=>by have q:=g2.out w' hS';go_simp⟩) (fun inv=>?_)
 simp only[pU]
 refine tT 12 80 (.pointer (some ⟨g,o,none⟩)) inv rfl rfl (by decide +kernel) (hS0) (Or.inl ⟨by rfl,fun w' hS'=>by go_simp⟩) (fun inv=>?_)
 simp only[pU]
 refine tT 13 81 (.pointer (some ⟨A,3,none⟩)) inv rfl rfl (by decide +kernel) (hS0) (Or.inl ⟨by rfl,fun w' hS'=>by go_simp⟩) (fun inv=>?_)
 simp only[pU]
 refine tT 14 82 (.int .u32 (n3:Nat)) inv rfl rfl (by decide +kernel) (hS0) (Or.inl ⟨by rfl,fun w' hS'=>by have q:=g3.out w' hS';go_simp⟩) (fun inv=>?_)
 simp only[pU]
 refine Zo (i:=3) inv (by decide +kernel) (by decide) rfl (fun K hK=>?_)
 go_simp
 refine (k0.out _ hS0).mono ?_
 rintro e1 v0 ⟨rfl,hv0⟩
 go_wp2_with fail
 refine hK.out _ _ hv0 (fun inv'=>?_)
 clear hK K inv;have inv:=inv';clear inv'
 try simp only[pU]
 refine Zo (i:=7) inv (by decide +kernel) (by decide) rfl (fun K hK=>?_)
 go_simp
 refine (k1.out _ hv0).mono ?_
 rintro e1 v1 ⟨rfl,hv1⟩
 go_wp2_with fail
 refine hK.out _ _ hv1 (fun inv'=>?_)
 clear hK K inv;have inv:=inv';clear inv'
 try simp only[pU]
 refine Zo (i:=11) inv (by decide +kernel) (by decide) rfl (fun K hK=>?_)
 go_simp
 refine (k2.out _ hv1).mono ?_
 rintro e1 v2 ⟨rfl,hv2⟩
 go_wp2_with fail
 refine hK.out _ _ hv2 (fun inv'=>?_)
 clear hK K inv;have inv:=inv';clear inv'
 try simp only[pU]
 refine Zo (i:=15) inv (by decide +kernel) (by decide) rfl (fun K hK=>?_)
 go_simp
 refine (k3.out _ hv2).mono ?_
 rintro e1 v3 ⟨rfl,hv3⟩
 go_wp2_with fail
 refine hK.out _ _ hv3 (fun inv'=>?_)
 clear hK K inv;have inv:=inv';clear inv'
 try simp only[pU]
 refine tT 16 84 (.agg #[.int .u32 (y0:Nat),.int .u32 (y1:Nat),.int .u32 (y2:Nat),.int .u32 (y3:Nat)]) inv rfl rfl (by decide +kernel) (hv3) (Yx (by rfl) 177 #[(0,.tmp 71),(1,.tmp 75),(2,.tmp 79),(3,.tmp 83)] rfl _ (by simp only[List.map_toArray,List.map_cons,List.map_nil];kernel_rfl)) (fun inv=>?_)
 simp only[pU]
 refine Zn (i:=17) (by decide +kernel) (by decide) rfl (fun K hK=>?_)
 rw[if_pos (by rfl)]
 refine wp_store_mid 177 (.tmp 5) (.tmp 84) rfl A 0 #[.int .u32 (y0:Nat),.int .u32 (y1:Nat),.int .u32 (y2:Nat),.int .u32 (y3:Nat)] rfl rfl (Zh hth hv3 (Nat.lt_succ_self A)) (Kn) (by kernel_rfl) ?_
 refine hK.out _ _ ?_
 clear hK K
 try simp only[pU]
 refine Xj (by decide +kernel) ?_ _
 refine NoPanic.normal ?_
 exact HQ _ hv3
end Go.Proofs.YtehlppaidgkpaaaGreatDoor
