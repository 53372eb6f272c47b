import Derived.Test.YtehlppaidgkpaaaGreatDoorNwc
import Derived.Test.YtehlppaidgkpaaaGreatDoorPart27
import Derived.Test.YtehlppaidgkpaaaGreatDoorPart12
namespace Go.Proofs.YtehlppaidgkpaaaGreatDoor
open Go.RowKit
set_option linter.unusedVariables false
set_option linter.unusedSimpArgs false
theorem Fi (h:Int) (zs:List Int):Zg (Dg.Qg h zs):=fun i=>by
 unfold Dg.Qg
 rw[List.getD_eq_getElem?_getD,List.getElem?_take]
 split
 ·unfold Dg.Yx
  rw[List.getElem?_map]
  cases (List.range 64)[i]? with
  | none=>simp
  | some q=>simp only[Option.map_some,Option.getD_some];unfold Dg.X4;omega
 ·simp
theorem Jp (zs:List Int):(Dg.Qg 256 zs).length=4*8:=Dg.Bu 256 rfl zs
theorem Zr {P:Program} {f:FuncId} {fn:Func} {c:Code} (hf:P.funcs[f]?=some fn) (hn:(fn.name=="runtime.NumGoroutine")=false) (hb:fn.body=some c) (args:Array Value) (w:World):(callFunc f args).run P w=.ok (.enter f args) w:=by
 have h1:fn.name ≠ "runtime.NumGoroutine":=by simpa using hn
 simp [callFunc,hf,h1,hb]
theorem Ni {S:ByteArray} {j k:Nat} (h1:spN j=S) (h2:∀ i,i<j→spN i≠S) (k1:spN k=S) (k2:∀ i,i<k→spN i≠S):j=k:=by
 rcases Nat.lt_trichotomy j k with q | q | q
 ·exact absurd h1 (k2 j q)
 ·exact q
 ·exact absurd k1 (h2 k q)
theorem G7 (S:ByteArray) (j:Nat) (w:World) (hT:Pow w) (hj:j<52) (h1:spN j=S) (h2:∀ i,i<j→spN i≠S):Calls Tryz.prog 42 #[.string S] w fun e w'=>Hid (e=.returned (.tuple #[.agg (sxF j).toArray,.bool true])∧Below w.heap.size w w'):=by
 refine (find_ok S w hT).mono ?_
 rintro e w' ⟨⟨k,hk,e1,e2,rfl⟩ | ⟨hn,_⟩,hb⟩
 ·rw[Ni h1 h2 e1 e2];exact ⟨rfl,hb⟩
 ·exact absurd h1 (hn j hj)
def Qa (bg:Nat):Prop:=bg=147∨bg=149∨bg=150∨bg=151∨bg=152∨bg=153∨bg=154∨bg=156
theorem P4 (k:Nat) (hk:k<17):mB k=.nilFunc∨∃ bg,Qa bg∧mB k=fV bg:=by
 match k,hk with
 | 0,_=>exact .inl rfl
 | 1,_=>exact .inr ⟨147,by unfold Qa;simp,rfl⟩
 | 2,_=>exact .inr ⟨149,by unfold Qa;simp,rfl⟩
 | 3,_=>exact .inr ⟨150,by unfold Qa;simp,rfl⟩
 | 4,_=>exact .inr ⟨151,by unfold Qa;simp,rfl⟩
 | 5,_=>exact .inr ⟨152,by unfold Qa;simp,rfl⟩
 | 6,_=>exact .inr ⟨153,by unfold Qa;simp,rfl⟩
 | 7,_=>exact .inr ⟨154,by unfold Qa;simp,rfl⟩
 | 8,_=>exact .inr ⟨154,by unfold Qa;simp,rfl⟩
 | 9,_=>exact .inr ⟨156,by unfold Qa;simp,rfl⟩
 | 10,_=>exact .inr ⟨149,by unfold Qa;simp,rfl⟩
 | 11,_=>exact .inr ⟨150,by unfold Qa;simp,rfl⟩
 | 12,_=>exact .inr ⟨151,by unfold Qa;simp,rfl⟩
 | 13,_=>exact .inr ⟨153,by unfold Qa;simp,rfl⟩
 | 14,_=>exact .inr ⟨152,by unfold Qa;simp,rfl⟩
 | 15,_=>exact .inr ⟨149,by unfold Qa;simp,rfl⟩
 | 16,_=>exact .inr ⟨150,by unfold Qa;simp,rfl⟩
 | n+17,h=>exact absurd h (by omega)
theorem Ue (bg:Nat) (h:Qa bg) (args:Array Value) (w:World):(callFunc bg args).run Tryz.prog w=.ok (.enter bg args) w:=by
 rcases h with rfl | rfl | rfl | rfl | rfl | rfl | rfl | rfl
 ·exact Zr Tryz.func147 (by rfl) (by rfl) args w
 ·exact Zr Tryz.func149 (by rfl) (by rfl) args w
 ·exact Zr Tryz.func150 (by rfl) (by rfl) args w
 ·exact Zr Tryz.func151 (by rfl) (by rfl) args w
 ·exact Zr Tryz.func152 (by rfl) (by rfl) args w
 ·exact Zr Tryz.func153 (by rfl) (by rfl) args w
 ·exact Zr Tryz.func154 (by rfl) (by rfl) args w
 ·exact Zr Tryz.func156 (by rfl) (by rfl) args w
theorem T2 (k:Nat) (hk:k<17) (args:Array Value) (w:World):(callFunc (mU k) args).run Tryz.prog w=.ok (.enter (mU k) args) w:=by
 have:mU k=146∨mU k=148∨mU k=155∨mU k=157∨mU k=158∨mU k=159∨mU k=160:=by
  have q:∀ k,k<17→(mU k=146∨mU k=148∨mU k=155∨mU k=157∨mU k=158∨mU k=159∨mU k=160):=by decide
  exact q k hk
 rcases this with h | h | h | h | h | h | h<;>rw[h]
 ·exact Zr Tryz.func146 (by rfl) (by rfl) args w
 ·exact Zr Tryz.func148 (by rfl) (by rfl) args w
 ·exact Zr Tryz.func155 (by rfl) (by rfl) args w
 ·exact Zr Tryz.func157 (by rfl) (by rfl) args w
 ·exact Zr Tryz.func158 (by rfl) (by rfl) args w
 ·exact Zr Tryz.func159 (by rfl) (by rfl) args w
 ·exact Zr Tryz.func160 (by rfl) (by rfl) args w
theorem RC.belowB {B:Nat} {w w':World} (h:RC w) (hb:Below B w w') (h0:1<B):RC w':=fun i hi=>(hb.cell (p:=⟨1,i,none⟩) h0).trans (h i hi)
theorem P2 (c sh:Nat) (w:World) (h:w.cell? ⟨c,0,none⟩=some (.pointer (some ⟨sh,0,none⟩))):Calls Tryz.prog 74 #[.pointer (some ⟨c,0,none⟩)] w fun e w'=>e=.returned (.bool true)∧w'=w:=by
 go_enter Tryz.func74,Tryz.ntmps74
 go_wp2
 go_ret
 exact ⟨rfl,rfl⟩
theorem Pr (x:Int) (w:World):Calls Tryz.prog 14 #[.int .i64 x] w fun e w'=>e=.returned (.int .i64 x)∧w'=w:=by
 go_enter Tryz.func14,Tryz.ntmps14
 go_wp2
 go_ret
 exact ⟨rfl,rfl⟩
set_option maxHeartbeats 1600000 in
set_option maxRecDepth 100000 in
theorem Ho (B sh:Nat) (S:ByteArray) (st wd:Nat) (zs:List Int) (kv:Value) (mp:Option Addr) (w:World) (h:ShA B w sh S st wd zs kv mp (.slice none 0 0)) (hB:B≤w.heap.size) (hn:zs.length≤1000) (hT:Dg.Tables w) (hrc:RC w) :
  Calls Tryz.prog 153 #[.pointer (some ⟨sh,0,none⟩)] w fun e w'=>Hid (∃ go bx ov',e=.returned (.func (.func 187) #[] #[.pointer (some ⟨bx,0,none⟩)])∧w.heap.size≤go∧w.heap.size≤bx∧Zp w' go (8+6) (Z6 8 (Y4 (Dg.Qg 256 zs)))∧(∃ R:Array Value,w'.heap[go]?=some (.cells R 135 (0,0)))∧Bx w' bx 71 [.pointer (some ⟨go,0,none⟩)]∧ShA B w' sh S st wd zs kv mp ov'∧(∃ n os,n≤1∧w'.ownsRow B 71 1 ov' n os)∧Fs B sh w w'∧ov'.ownBlock≠some bx):=by
 have hpos:1<w.heap.size:=by have:=hT.size;omega
 have hv0:=h.view
 obtain ⟨xa,xc,hkv,_⟩:=h.view
 have c2:w.cell? ⟨sh,2,none⟩=some kv:=h.box.cell 2 _ rfl
 have HSM:Hid (Calls Tryz.prog 21 #[.int .i64 256,.slice (some ⟨w.heap.size,0,none⟩) 1 1] (w.alloc (.cells #[kv] 22)) fun e w'=>Hid (∃ b,e=.returned (.tuple #[.slice (some ⟨b,0,none⟩) 32 32,.int .i64 0])∧Zi w' (.slice (some ⟨b,0,none⟩) 32 32) (Dg.Qg 256 zs)∧Below w.heap.size w w')):=by
  have hal:Below w.heap.size w (w.alloc (.cells #[kv] 22)):=(Below.refl _ _).alloc (Nat.le_refl _) _
  refine (Dg.Zfp 256 [zs] _ _ (show _=_ from rfl) (fun u g hu hg=>?_) (hT.below hal (by have:=hT.size;omega)) ?_).mono ?_
  ·have q:Dg.D5 (w.alloc (.cells #[kv] 22)) g (.slice (some ⟨w.heap.size,0,none⟩) 1 1) [zs]:=Dg.Cw 22 kv zs g hv0 (by simp at hg;omega) (fun h0 b off l c e=>by
    have:=Cd hv0 h0 b off l c e
    simp at hg;omega)
   obtain ⟨a,c,e1,e2,e3,e4⟩:=q
   refine ⟨a,c,e1,e2,e3,?_⟩
   rcases e4 with e4 | ⟨b,p,e5,e6,e7⟩
   ·exact .inl e4
   ·refine .inr ⟨b,p,e5,e6,fun i hi=>?_⟩
    obtain ⟨x,x1,x2,x3⟩:=e7 i hi
    exact ⟨x,by rw[hu.cell (World.block_lt_of_cell? _ _ x1)];exact x1,Dg.Zi.kept x2 hu.block,x3⟩
  ·show ([zs]:List (List Int)).flatten.length≤33554432
   simp;omega
  ·rintro e w' ⟨b,he,ho,hb⟩
   refine ⟨b,he,?_,hal.trans (hb.mono hal.size)⟩
   rw[show ([zs]:List (List Int)).flatten=zs by simp] at ho
   exact Xz (n:=32) ho (Jp zs)
 subst hkv
 have HK:Hid (∀ u v,Below w.heap.size w u→Zi u v (Dg.Qg 256 zs)→Calls Tryz.prog 186 #[.pointer (some ⟨sh,0,none⟩),v] u fun e w'=>Hid (∃ g ov',e=.returned (.pointer (some ⟨g,0,none⟩))∧u.heap.size≤g∧Zp w' g (8+6) (Z6 8 (Y4 (Dg.Qg 256 zs)))∧(∃ R:Array Value,w'.heap[g]?=some (.cells R 135 (0,0)))∧ShA B w' sh S st wd zs (.slice xa zs.length xc) mp ov'∧(∀ n os,u.ownsRow B 71 1 (.slice none 0 0) n os→∃ os',w'.ownsRow B 71 1 ov' (n+1) os')∧Fs B sh u w')):=fun u v hu hv=>
  W6 B sh S st wd zs _ mp _ v (Dg.Qg 256 zs) 8 u (h.below hu) (Nat.le_trans hB hu.size) ⟨0,[],by omega,World.ownsRow_nil _ _ _ _⟩ (.inr (.inr rfl)) (Jp zs) hv (Fi _ _) (fun i hi=>(hu.cell (p:=⟨1,i,none⟩) hpos).trans (hrc i hi)) (Nat.lt_of_lt_of_le hpos hu.size)
 have HB0:Hid (B≤w.heap.size):=hB
 have hlt:sh<w.heap.size:=h.box.lt
 obtain ⟨n,HNL⟩:∃ n,Hid (zs.length=n):=⟨_,rfl⟩
 rw[HNL.out] at c2 HSM HK
 clear h hB hT hrc hv0 hpos
 go_enter Tryz.func153,Tryz.ntmps153
 go_upto_region 3 with (first
  | (go_at_call 21;refine HSM.out.mono ?_;intro e1 w1 hh;obtain ⟨b1,rfl,hv1,hb1⟩:=hh.out;have HV1:Hid (Zi w1 (.slice (some ⟨b1,0,none⟩) 32 32) (Dg.Qg 256 zs)∧Below w.heap.size w w1):=⟨hv1,hb1⟩;clear hh hv1 hb1)
  | (go_at_call 186;refine (HK.out _ _ HV1.out.2 HV1.out.1).mono ?_;intro e2 w2 hh;obtain ⟨go,ov',rfl,hg2,hK2,hR2,hS2,hO2,hF2⟩:=hh.out;have HS2:Hid (w1.heap.size≤go∧Zp w2 go (8+6) (Z6 8 (Y4 (Dg.Qg 256 zs)))∧(∃ R:Array Value,w2.heap[go]?=some (.cells R 135 (0,0)))∧ShA B w2 sh S st wd zs (.slice xa n xc) mp ov'∧(∃ os',w2.ownsRow B 71 1 ov' 1 os')∧Fs B sh w1 w2):=⟨hg2,hK2,hR2,hS2,hO2 0 [] (World.ownsRow_nil _ _ _ _),hF2⟩;clear hh hg2 hK2 hR2 hS2 hO2 hF2))
 go_wp2
 go_ret
 have hal:Below w2.heap.size w2 (w2.alloc (.cells #[.pointer (some ⟨go,0,none⟩)] 71)):=(Below.refl _ _).alloc (Nat.le_refl _) _
 obtain ⟨hg,hK,⟨R,hR⟩,hS,⟨os',ho'⟩,hF⟩:=HS2.out
 have hs2:w.heap.size≤w2.heap.size:=Nat.le_trans HV1.out.2.size hF.bel.size
 rw[HNL.out]
 exact ⟨go,w2.heap.size,ov',rfl,Nat.le_trans HV1.out.2.size hg,hs2,hK.sameK (hal.block go hK.ciph.here) hal.size,⟨R,by rw[hal.block go hK.ciph.here];exact hR⟩,Bx.new w2 71 _,hS.below hal,⟨1,os',by omega,ownsRow_below ho' hal⟩,(Fs.of_below HV1.out.2 HB0.out).trans (hF.trans (Fs.of_below hal (Nat.le_trans HB0.out hs2))),fun e=>by have:=(Z2 ho' e).2;omega⟩
end Go.Proofs.YtehlppaidgkpaaaGreatDoor
