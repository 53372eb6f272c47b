import Derived.Test.YtehlppaidgkpaaaGreatDoorPart28
import Derived.Deep.QuietTactic
import Derived.BigQuiet
import Derived.Deep.Draws
import Derived.Deep.RegionWith
import Derived.Laws.EntriesVeiled
import Derived.WalkSmall
namespace Go.Proofs.YtehlppaidgkpaaaGreatDoor
open Go.RowKit
set_option linter.unusedVariables false
set_option linter.unusedSimpArgs false
def ShP (B:Nat) (w:World) (S:ByteArray) (st wd:Nat) (zs:List Int) (e:Ending) (w':World):Prop:=
 ∃ sh kv mp,e=.returned (.pointer (some ⟨sh,0,none⟩))∧w.heap.size≤sh∧ShA w.heap.size w' sh S st wd zs kv mp (.slice none 0 0)∧Below w.heap.size w w'
theorem G0 {w:World} {B B':Nat} {e:TypeId} {K:Nat} {v:Value} {n:Nat} {xs:List Value} (h:w.ownsRow B e K v n xs) (hb:B'≤B):w.ownsRow B' e K v n xs:=by
 refine ⟨h.1,?_⟩
 rcases h.2 with q | ⟨g,cap,cur,e1,e2,rest⟩
 ·exact .inl q
 ·exact .inr ⟨g,cap,cur,e1,Nat.le_trans hb e2,rest⟩
theorem U7 (S:ByteArray) (a b:Int) (x:Option Addr) (n c:Nat) (p:Option Addr):Tryz.prog.built 115 [(0,.string S),(1,.int .i64 a),(2,.slice x n c),(3,.int .i64 b),(4,.pointer p)]=some #[.string S,.int .i64 a,.slice x n c,.int .i64 b,.pointer p,.slice none 0 0,.bool false]:=by kernel_rfl
set_option maxHeartbeats 1600000 in
set_option maxRecDepth 100000 in
theorem Lt (S T:ByteArray) (wd a b st:Nat) (f g:Value) (v:Value) (zs:List Int) (w:World) (hf:f.oneCell'=true) (hg:g.oneCell'=true) (hv:Zf w v zs) (hn:zs.length≤100000) (hwd:wd≤zs.length)
  (HN:Hid (∀ u:World,Below w.heap.size w u→∀ x:Value,Zf u x (zs.take wd)→Calls Tryz.prog 31 #[x] u fun e u'=>Hid (∃ mp c,e=.returned (.tuple #[.pointer mp,.int .i64 c])∧MK u' w.heap.size mp wd zs∧Below u.heap.size u u'))) :
  Calls Tryz.prog 44 #[.agg #[.string S,.int .i64 (wd:Nat),.string T,.int .i64 (a:Nat),.int .i64 (b:Nat),.int .i64 (st:Nat),f,g],v] w fun e w'=>ShP w.heap.size w S st wd zs e w':=by
 have HF:Hid (f.oneCell'=true∧g.oneCell'=true):=⟨hf,hg⟩
 have hsF:∀ u ad md,(store ad f md).run Tryz.prog u=stored Tryz.prog u ad f md:=fun u ad md=>run_store Tryz.prog u ad f md hf
 have hsG:∀ u ad md,(store ad g md).run Tryz.prog u=stored Tryz.prog u ad g md:=fun u ad md=>run_store Tryz.prog u ad g md hg
 have HV:Hid (Zf w v zs):=hv
 obtain ⟨va,vc,rfl,h1,h2,h3,h4⟩:=hv
 obtain ⟨n,HNL⟩:∃ n,Hid (zs.length=n):=⟨_,rfl⟩
 rw[HNL.out] at hwd h1 hn HV ⊢
 obtain ⟨ka,kc,hk⟩:∃ ka kc,sliced va 0 wd vc 1=.slice ka wd kc:=⟨_,_,rfl⟩
 have HKV:Hid (sliced va 0 wd vc 1=.slice ka wd kc):=hk
 have hsl:=fun u:World=>Ms u va n vc wd (by omega)
 rw[hk] at hsl
 clear hk
 have HVC:Hid (n≤vc∧n≤100000∧wd≤n):=⟨h1,hn,hwd⟩
 clear hf hg h2 h3 h4 h1 hn hwd
 go_enter Tryz.func44,Tryz.ntmps44
 go_upto_region 1 with fail
 obtain ⟨w1,hw1⟩:∃ w1,w1=w.alloc (.cells #[.string S,.int .i64 (wd:Nat),.string T,.int .i64 (a:Nat),.int .i64 (b:Nat),.int .i64 (st:Nat),f,g] 96):=⟨_,rfl⟩
 have HB1:Hid (Bx w1 w.heap.size 96 [.string S,.int .i64 (wd:Nat),.string T,.int .i64 (a:Nat),.int .i64 (b:Nat),.int .i64 (st:Nat),f,g]∧Below w.heap.size w w1):=by
  rw[hw1];exact ⟨Bx.new w 96 _,(Below.refl _ _).alloc (Nat.le_refl _) _⟩
 rw[←hw1]
 clear hw1 hsF hsG
 obtain ⟨m,HM⟩:∃ m,Hid (w.heap.size=m):=⟨_,rfl⟩
 rw[HM.out] at HB1 HN ⊢
 have d1:w1.cell? ⟨m,1,none⟩=some (.int .i64 (wd:Nat)):=HB1.out.1.cell 1 _ rfl
 have g0:(0:Int)≤(wd:Int):=by omega
 have KN:Hid (Calls Tryz.prog 31 #[.slice ka wd kc] w1 fun e u'=>Hid (∃ mp c,e=.returned (.tuple #[.pointer mp,.int .i64 c])∧MK u' m mp wd zs∧Below w1.heap.size w1 u')):=by
  refine HN.out w1 HB1.out.2 _ ?_
  have q:=J3 (Zf.below HV.out (by rw[HM.out];exact HB1.out.2)) 0 wd (Nat.zero_le _) HVC.out.2.2
  rw[HKV.out] at q
  simpa using q
 go_upto_region 2 with (go_at_call 31;refine KN.out.mono ?_;intro e2 w2 hh;obtain ⟨mp,cc,rfl,hK2,hb2⟩:=hh.out;have HK2:Hid (MK w2 m mp wd zs∧Below w1.heap.size w1 w2):=⟨hK2,hb2⟩;clear hh hK2 hb2 KN)
 have HB2:Hid (Bx w2 m 96 [.string S,.int .i64 (wd:Nat),.string T,.int .i64 (a:Nat),.int .i64 (b:Nat),.int .i64 (st:Nat),f,g]∧Below m w w2):=⟨HB1.out.1.below HK2.out.2,HB1.out.2.trans (HK2.out.2.mono (by have:=HB1.out.1.lt;omega))⟩
 clear d1 hsl
 have HS2:Hid (∀ u:World,Below w2.heap.size w2 u→u.cell? ⟨m,0,none⟩=some (.string S)∧u.cell? ⟨m,1,none⟩=some (.int .i64 (wd:Nat))∧u.cell? ⟨m,5,none⟩=some (.int .i64 (st:Nat))):=fun u hu=>by
  have q:=HB2.out.1.below hu
  exact ⟨q.cell 0 _ rfl,q.cell 1 _ rfl,q.cell 5 _ rfl⟩
 obtain ⟨d0,d1,d5⟩:=HS2.out w2 (Below.refl _ _)
 have KC:Hid (∀ u:World,Below w2.heap.size w2 u→Calls Tryz.prog 66 #[.slice va n vc] u fun e u'=>Hid (∃ v',e=.returned v'∧u'.ownsRow u.heap.size 5 1 v' n (Za zs)∧Below u.heap.size u u')):=fun u hu=>by
  have hv:Zf u (.slice va n vc) zs:=Zf.kept HV.out (fun k hk=>by rw[hu.block k (Nat.lt_of_lt_of_le hk HB2.out.2.size)];exact HB2.out.2.block k (by rw[←HM.out];exact hk))
  have q:=Rq (.slice va n vc) zs u (by rw[HNL.out];exact HVC.out.2.1) hv
  rw[HNL.out] at q
  exact q.mono fun e u' hh=>hh
 have hbd:∀ (x:Option Addr) (l c:Nat) w,(Instr.build 115 #[(0,.string S),(1,.int .i64 (st:Nat)),(2,.slice x l c),(3,.int .i64 (wd:Nat)),(4,.pointer mp)]).run Tryz.prog w=.ok (.agg #[.string S,.int .i64 (st:Nat),.slice x l c,.int .i64 (wd:Nat),.pointer mp,.slice none 0 0,.bool false]) w:=fun x l c w=>run_build w _ _ _ (U7 S _ _ x l c mp)
 go_region_held3 (fun u=>u.cell? ⟨m,0,none⟩=some (.string S)∧u.cell? ⟨m,1,none⟩=some (.int .i64 (wd:Nat))∧u.cell? ⟨m,5,none⟩=some (.int .i64 (st:Nat))) (first | exact ⟨d0,d1,d5⟩ | exact hS3 | go_keep)
  ((go_at_call 66;refine (KC.out w2.drew (Below.refl _ _).drew).mono ?_;intro e3 w3 hh;obtain ⟨v3,rfl,ho3x,hb3x⟩:=hh.out;have hb3:Below w2.heap.size w2 w3:=⟨hb3x.os,hb3x.tape,hb3x.output,hb3x.size,hb3x.block⟩;have hS3:=HS2.out w3 hb3;have HO3:Hid (w3.ownsRow w2.heap.size 5 1 v3 n (Za zs)∧Below w2.heap.size w2 w3):=⟨ho3x,hb3⟩;obtain ⟨xa,xl,xc,rfl⟩:∃ x l c,v3=.slice x l c:=(by rcases HO3.out.1.2 with ⟨q,_⟩ | ⟨_,_,_,q,_⟩<;>exact ⟨_,_,_,q⟩)))
 go_wp2
 go_ret
 have hb3:=HO3.out.2
 have hbe:Below w.heap.size w w3:=by rw[HM.out];exact HB2.out.2.trans (hb3.mono (by have:=HB2.out.1.lt;omega))
 have hal:Below w3.heap.size w3 (w3.alloc (.cells #[.string S,.int .i64 (st:Nat),.slice xa xl xc,.int .i64 (wd:Nat),.pointer mp,.slice none 0 0,.bool false] 115)):=(Below.refl _ _).alloc (Nat.le_refl _) _
 have hlo:w.heap.size≤w2.heap.size:=by have:=HB2.out.1.lt;have:=HM.out;omega
 refine ⟨w3.heap.size,.slice xa xl xc,mp,rfl,hbe.size,⟨hbe.size,Bx.new w3 115 _,?_,?_,0,[],by omega,World.ownsRow_nil _ _ _ _⟩,hbe.trans (hal.mono hbe.size)⟩
 ·have q:=ownsRow_below HO3.out.1 hal
  rw[HNL.out]
  exact G0 q hlo
 ·rw[HM.out]
  exact (HK2.out.1.keep (fun g e=>hb3.block g (HK2.out.1.lt g e).1) hb3.size).keep (fun g e=>hal.block g (Nat.lt_of_lt_of_le (HK2.out.1.lt g e).1 hb3.size)) hal.size
theorem Sx (S T:ByteArray) (nk a b st:Nat) (f g:Value) (v:Value) (zs:List Int) (w:World) (hf:f.oneCell'=true) (hg:g.oneCell'=true) (hv:Zf w v zs) (hb:Zj zs) (hn:zs.length≤100000) (hnk:nk=4∨nk=6∨nk=8) (hwd:4*nk≤zs.length) (hrc:RC w) (hpos:1<w.heap.size) :
  Calls Tryz.prog 44 #[.agg #[.string S,.int .i64 ((4*nk:Nat):Int),.string T,.int .i64 (a:Nat),.int .i64 (b:Nat),.int .i64 (st:Nat),f,g],v] w fun e w'=>ShP w.heap.size w S st (4*nk) zs e w':=by
 refine Lt S T (4*nk) a b st f g v zs w hf hg hv hn hwd (fun u hu x hx=>?_)
 have hb':Zj (zs.take (4*nk)):=fun i=>by
  rw[List.getD_eq_getElem?_getD,List.getElem?_take]
  split
  ·exact hb i
  ·simp
 refine (Cq x (zs.take (4*nk)) nk u hnk (by simp;omega) hx hb' (fun i hi=>(hu.cell (p:=⟨1,i,none⟩) hpos).trans (hrc i hi)) (Nat.lt_of_lt_of_le hpos hu.size)).mono ?_
 intro e u' hh
 obtain ⟨g,rfl,hg1,hK,hb1,R,hR⟩:=hh.out
 exact ⟨_,_,rfl,.inr ⟨g,nk,rfl,Nat.le_trans hu.size hg1,hnk,rfl,hK,R,hR⟩,hb1⟩
theorem ShA.view {B:Nat} {w:World} {sh:Nat} {S:ByteArray} {st wd:Nat} {zs:List Int} {kv:Value} {mp:Option Addr} {ov:Value} (h:ShA B w sh S st wd zs kv mp ov):Zf w kv zs:=X9 h.key rfl
def bV (n:Nat) (cs:List Value):Value:=.func (.func n) #[.agg cs.toArray] #[]
theorem Dy (p:Value) (w:World):Calls Tryz.prog 147 #[p] w fun e w'=>e=.returned (fV 176)∧w'=w:=by
 go_enter Tryz.func147,Tryz.ntmps147
 go_wp2
 go_ret
 exact ⟨rfl,rfl⟩
theorem F6 (p:Value) (w:World):Calls Tryz.prog 149 #[p] w fun e w'=>e=.returned (fV 179)∧w'=w:=by
 go_enter Tryz.func149,Tryz.ntmps149
 go_wp2
 go_ret
 exact ⟨rfl,rfl⟩
theorem W1 (p:Value) (w:World):Calls Tryz.prog 150 #[p] w fun e w'=>e=.returned (fV 180)∧w'=w:=by
 go_enter Tryz.func150,Tryz.ntmps150
 go_wp2
 go_ret
 exact ⟨rfl,rfl⟩
theorem Vz (p:Value) (w:World):Calls Tryz.prog 151 #[p] w fun e w'=>e=.returned (fV 181)∧w'=w:=by
 go_enter Tryz.func151,Tryz.ntmps151
 go_wp2
 go_ret
 exact ⟨rfl,rfl⟩
theorem F8 (p:Value) (w:World):Calls Tryz.prog 152 #[p] w fun e w'=>e=.returned (fV 183)∧w'=w:=by
 go_enter Tryz.func152,Tryz.ntmps152
 go_wp2
 go_ret
 exact ⟨rfl,rfl⟩
theorem F7 (sh:Nat) (w:World):Calls Tryz.prog 154 #[.pointer (some ⟨sh,0,none⟩)] w fun e w'=>e=.returned (.func (.func 189) #[] #[.pointer (some ⟨w.heap.size,0,none⟩)])∧Bx w' w.heap.size 64 [.pointer (some ⟨sh,0,none⟩)]∧Below w.heap.size w w':=by
 go_enter Tryz.func154,Tryz.ntmps154
 go_wp2
 go_ret
 exact ⟨rfl,Bx.new w 64 _,(Below.refl _ _).alloc (Nat.le_refl _) _⟩
set_option maxHeartbeats 800000 in
set_option maxRecDepth 100000 in
theorem Wv (sh:Nat) (fn:Nat) (xs ys:Array Value) (w:World):Calls Tryz.prog 148 #[.pointer (some ⟨sh,0,none⟩),.func (.func fn) xs ys] w fun e w'=>Hid (e=.returned (.tuple #[bV 177 [.pointer (some ⟨sh,0,none⟩),.func (.func fn) xs ys],bV 178 [.pointer (some ⟨sh,0,none⟩),.func (.func fn) xs ys]])∧Below w.heap.size w w'):=by
 go_enter Tryz.func148,Tryz.ntmps148
 go_upto_region 2 with fail
 obtain ⟨w1,hw1⟩:∃ w1,w1=w.alloc (.cells #[.pointer (some ⟨sh,0,none⟩),.func (.func fn) xs ys] 242):=⟨_,rfl⟩
 have HW:Hid (Bx w1 w.heap.size 242 [.pointer (some ⟨sh,0,none⟩),.func (.func fn) xs ys]∧Below w.heap.size w w1):=by rw[hw1];exact ⟨Bx.new w 242 _,(Below.refl _ _).alloc (Nat.le_refl _) _⟩
 rw[←hw1]
 clear hw1
 have d0:w1.cell? ⟨w.heap.size,0,none⟩=some (.pointer (some ⟨sh,0,none⟩)):=HW.out.1.cell 0 _ rfl
 have d1:w1.cell? ⟨w.heap.size,1,none⟩=some (.func (.func fn) xs ys):=HW.out.1.cell 1 _ rfl
 go_region
 all_goals go_wp2
 all_goals go_ret2
 all_goals exact ⟨rfl,HW.out.2.drew⟩
end Go.Proofs.YtehlppaidgkpaaaGreatDoor
