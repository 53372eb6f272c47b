import Derived.Test.YtehlppaidgkpaaaGreatDoorPart03
import Derived.Test.YtehlppaidgkpaaaGreatDoorPart00
import Derived.Deep.RegionHeld3
import Derived.Deep.QuietTactic
import Derived.BigQuiet
import Derived.BigRegion
namespace Go.Proofs.YtehlppaidgkpaaaGreatDoor.Dg
open Go.RowKit
set_option linter.unusedVariables false
structure Zb where
 (a b c d e f g k:Int)
def Zb.list (s:Zb):List Int:=[s.a,s.b,s.c,s.d,s.e,s.f,s.g,s.k]
def Zb.cells (s:Zb):List Value:=s.list.map (Value.int .u64)
def Zb.map (f:Int→Int) (s:Zb):Zb:=⟨f s.a,f s.b,f s.c,f s.d,f s.e,f s.f,f s.g,f s.k⟩
def Zb.zip (f:Int→Int→Int) (s t:Zb):Zb:=⟨f s.a t.a,f s.b t.b,f s.c t.c,f s.d t.d,f s.e t.e,f s.f t.f,f s.g t.g,f s.k t.k⟩
theorem Yb {k:IntKind} {x y:Int} (h:x=y):Value.int k x=Value.int k y:=by rw[h]
theorem step_cells {w:World} {g o q:Nat} {A B:List Value} (h:w.rangeAt g o (A.take q++B.drop q)) (ht:w.there g o 8) (hq:q<8) (v':Value) (hv:A[q]?=some v') (hA:A.length=8:=by rfl) (hB:B.length=8:=by rfl) :
  (w.setCell ⟨g,o+q,none⟩ v').rangeAt g o (A.take (q+1)++B.drop (q+1)):=by
 intro j x hx
 by_cases hj:j=q
 ·subst hj
  have hx':(A.take (j+1)++B.drop (j+1))[j]?=A[j]?:=by
   rw[List.getElem?_append_left (by simp;omega)]
   simp
  rw[hx',hv] at hx
  obtain rfl:=Option.some.inj hx
  exact World.cell?_setCell_same' _ _ _ (ht j hq).1
 ·have hx':(A.take q++B.drop q)[j]?=some x:=by
   by_cases hjq:j<q
   ·rw[List.getElem?_append_left (by simp;omega)] at hx ⊢
    simp only[List.getElem?_take] at hx ⊢
    rw[if_pos (by omega)] at hx ⊢
    exact hx
   ·rw[List.getElem?_append_right (by simp;omega)] at hx ⊢
    simp only[List.length_take,List.getElem?_drop] at hx ⊢
    rw[show min (q+1) A.length=q+1 by omega] at hx
    rw[show min q A.length=q by omega]
    rw[show q+1+(j-(q+1))=j by omega] at hx
    rw[show q+(j-q)=j by omega]
    exact hx
  have h0:=h j x hx'
  have:(w.setCells g (o+q) [v']).cell? ⟨g,o+j,none⟩=w.cell? ⟨g,o+j,none⟩:=World.cell?_setCells_out g [v'] (o+q) w ⟨g,o+j,none⟩ (fun _ _=>by
   show o+j<o+q∨o+q+1≤o+j
   omega)
  exact this.trans h0
def Og (s:Zb) (kc wv:Int):Int:=(s.k+(bits .xor .u32 (bits .xor .u32 (Yz s.e 26) (Yz s.e 21)) (Yz s.e 7))+(bits .xor .u32 (bits .and .u32 s.e s.f) (bits .and .u32 (bits .xor .u32 (if IntKind.u32.signed=true then -1 else IntKind.u32.max) s.e) s.g))+kc/4294967296+wv)%4294967296
def Zb6 (s:Zb):Int:=((bits .xor .u32 (bits .xor .u32 (Yz s.a 30) (Yz s.a 19)) (Yz s.a 10))+(bits .xor .u32 (bits .xor .u32 (bits .and .u32 s.a s.b) (bits .and .u32 s.a s.c)) (bits .and .u32 s.b s.c)))%4294967296
def De (s:Zb) (kc wv:Int):Zb:=⟨(Og s kc wv+Zb6 s)%4294967296,s.a,s.b,s.c,(s.d+Og s kc wv)%4294967296,s.e,s.f,s.g⟩
def Yo (C W:Nat→Int):Nat→Zb→Zb
 | 0,s=>s
 | t+1,s=>De (Yo C W t s) (C t) (W t)
set_option maxHeartbeats 3200000 in
set_option maxRecDepth 100000 in
theorem Fy (g o wb:Nat) (h0 h1 h2 h3 h4 h5 h6 h7:Int) (W C:Nat→Int) (w:World)
  (hr:w.rangeAt g o (Zb.cells ⟨h0,h1,h2,h3,h4,h5,h6,h7⟩)) (ht:w.there g o 8)
  (hW:∀ t,t<64→w.cell? ⟨wb,t,none⟩=some (.int .u32 (W t)))
  (hC:∀ t,t<64→w.cell? ⟨5,t,none⟩=some (.int .u64 (C t))) :
  Calls Tryz.prog 124 #[.pointer (some ⟨g,o,none⟩),.pointer (some ⟨wb,0,none⟩)] w fun e w'=>e=.returned (.tuple #[])∧Touch w w' g o 8∧w'.rangeAt g o (Zb.cells (Zb.zip (fun h x=>(h+x)%4294967296) ⟨h0,h1,h2,h3,h4,h5,h6,h7⟩ (Yo C W 64 ⟨h0%4294967296,h1%4294967296,h2%4294967296,h3%4294967296,h4%4294967296,h5%4294967296,h6%4294967296,h7%4294967296⟩))):=by
 have HW:Hid (∀ t,t<64→w.cell? ⟨wb,t,none⟩=some (.int .u32 (W t))):=hW
 have HC:Hid (∀ t,t<64→w.cell? ⟨5,t,none⟩=some (.int .u64 (C t))):=hC
 have HR:Hid (w.rangeAt g o (Zb.cells ⟨h0,h1,h2,h3,h4,h5,h6,h7⟩)):=hr
 have HT:Hid (w.there g o 8):=ht
 have c0:w.cell? ⟨g,o,none⟩=some (.int .u64 h0):=hr 0 _ rfl
 have c1:w.cell? ⟨g,o+1,none⟩=some (.int .u64 h1):=hr 1 _ rfl
 have c2:w.cell? ⟨g,o+2,none⟩=some (.int .u64 h2):=hr 2 _ rfl
 have c3:w.cell? ⟨g,o+3,none⟩=some (.int .u64 h3):=hr 3 _ rfl
 have c4:w.cell? ⟨g,o+4,none⟩=some (.int .u64 h4):=hr 4 _ rfl
 have c5:w.cell? ⟨g,o+5,none⟩=some (.int .u64 h5):=hr 5 _ rfl
 have c6:w.cell? ⟨g,o+6,none⟩=some (.int .u64 h6):=hr 6 _ rfl
 have c7:w.cell? ⟨g,o+7,none⟩=some (.int .u64 h7):=hr 7 _ rfl
 clear hW hC hr ht
 go_enter Tryz.func124,Tryz.ntmps124
 go_wp2
 go_quiet (fail)
 go_wp2
 go_quiet (fail)
 clear c0 c1 c2 c3 c4 c5 c6 c7
 go_wp2
 go_loopw [4,5,6,7,8,9,10,11,59] (fun va vb vc vd ve vf vg vk i wr=>∃ t:Nat,∃ s:Zb,t≤64∧i=.int .i64 t∧va=.int .u32 s.a∧vb=.int .u32 s.b∧vc=.int .u32 s.c∧vd=.int .u32 s.d∧ve=.int .u32 s.e∧vf=.int .u32 s.f∧vg=.int .u32 s.g∧vk=.int .u32 s.k∧Hid (s=Yo C W t ⟨h0%4294967296,h1%4294967296,h2%4294967296,h3%4294967296,h4%4294967296,h5%4294967296,h6%4294967296,h7%4294967296⟩)∧Hid (Sm w wr)) (fun _ _ _ _ _ _ _ _ i _=>64-(intOf i).toNat)
 case atStart=>exact ⟨0,⟨h0%4294967296,h1%4294967296,h2%4294967296,h3%4294967296,h4%4294967296,h5%4294967296,h6%4294967296,h7%4294967296⟩,by omega,rfl,rfl,rfl,rfl,rfl,rfl,rfl,rfl,rfl,rfl,((Sm.refl w).drewN _).drewN _⟩
 case round=>
  obtain ⟨t,⟨a,b,c,d,e,f,g1,k⟩,ht,rfl,rfl,rfl,rfl,rfl,rfl,rfl,rfl,rfl,HS,HM⟩:=hrel
  by_cases hlt:t<64
  ·have hw:wr.cell? ⟨wb,t,none⟩=some (.int .u32 (W t)):=by rw[HM.out.cell];exact HW.out t hlt
   have hc:wr.cell? ⟨5,t,none⟩=some (.int .u64 (C t)):=by rw[HM.out.cell];exact HC.out t hlt
   go_wp2_with (first | (go_at_call 78;(first | refine (Yi 6 (by decide +kernel)).mono ?_ | refine (Yi 11 (by decide +kernel)).mono ?_ | refine (Yi 25 (by decide +kernel)).mono ?_ | refine (Yi 2 (by decide +kernel)).mono ?_ | refine (Yi 13 (by decide +kernel)).mono ?_ | refine (Yi 22 (by decide +kernel)).mono ?_);(rintro e1 w1 ⟨rfl,hw1⟩;obtain rfl:=hw1.symm)))
   go_quiet (fail)
   go_wp2_with (first | (go_at_call 78;(first | refine (Yi 6 (by decide +kernel)).mono ?_ | refine (Yi 11 (by decide +kernel)).mono ?_ | refine (Yi 25 (by decide +kernel)).mono ?_ | refine (Yi 2 (by decide +kernel)).mono ?_ | refine (Yi 13 (by decide +kernel)).mono ?_ | refine (Yi 22 (by decide +kernel)).mono ?_);(rintro e1 w1 ⟨rfl,hw1⟩;obtain rfl:=hw1.symm)))
   go_roundw
   case rel=>
    refine ⟨t+1,De ⟨a,b,c,d,e,f,g1,k⟩ (C t) (W t),by omega,by go_num,rfl,rfl,rfl,rfl,rfl,rfl,rfl,rfl,?_,HM.out.drewN _⟩
    have:=HS.out
    rw[this]
    exact rfl
   case measure=>simp [intOf];omega
  ·obtain rfl:t=64:=by omega
   clear hlt ht HW HC
   have HE:Hid (Zb.zip (fun h x=>(h+x)%4294967296) ⟨h0,h1,h2,h3,h4,h5,h6,h7⟩ (Yo C W 64 ⟨h0%4294967296,h1%4294967296,h2%4294967296,h3%4294967296,h4%4294967296,h5%4294967296,h6%4294967296,h7%4294967296⟩)=⟨((h0+a)%4294967296),((h1+b)%4294967296),((h2+c)%4294967296),((h3+d)%4294967296),((h4+e)%4294967296),((h5+f)%4294967296),((h6+g1)%4294967296),((h7+k)%4294967296)⟩):=by
    rw[←HS.out]
    exact rfl
   clear HS
   go_wp2
   go_loopw [137] (fun i wr=>∃ q:Nat,q≤8∧i=.int .i64 q∧Hid (Touch w wr g o 8)∧Hid (wr.rangeAt g o ((Zb.cells ⟨((h0+a)%4294967296),((h1+b)%4294967296),((h2+c)%4294967296),((h3+d)%4294967296),((h4+e)%4294967296),((h5+f)%4294967296),((h6+g1)%4294967296),((h7+k)%4294967296)⟩).take q++(Zb.cells ⟨h0,h1,h2,h3,h4,h5,h6,h7⟩).drop q))) (fun i _=>8-(intOf i).toNat)
   case atStart=>exact ⟨0,by omega,rfl,HM.out.touch _ _ _,fun j v hv=>by rw[HM.out.cell];exact HR.out j v hv⟩
   case round=>
    obtain ⟨q,hq,rfl,HT1,HR1⟩:=hrel
    have hq9:q=0∨q=1∨q=2∨q=3∨q=4∨q=5∨q=6∨q=7∨q=8:=by omega
    clear hq HM
    rcases hq9 with rfl | rfl | rfl | rfl | rfl | rfl | rfl | rfl | rfl
    ·have hcell:wr.cell? ⟨g,o,none⟩=some (.int .u64 h0):=HR1.out 0 _ rfl
     have hfr:wr.frozen? ⟨g,o,none⟩=false:=((HT1.out.there _ _ HT.out) 0 (by omega)).2
     have hrun:Sem.run Tryz.prog (Instr.index 198 (.agg #[.int .u32 a,.int .u32 b,.int .u32 c,.int .u32 d,.int .u32 e,.int .u32 f,.int .u32 g1,.int .u32 k]) (.int .i64 0)) wr=.ok (.int .u32 a) wr:=by kernel_rfl
     go_wp2
     go_region
     go_wp2
     go_roundw
     case rel=>
      refine ⟨1,by omega,rfl,?_,?_⟩
      ·exact (HT1.out.setCell (o) _ (by omega) (by omega)).drew
      ·exact (World.rangeAt_drew _ _ _ _).2 (step_cells (q:=0) HR1.out (HT1.out.there _ _ HT.out) (by omega) _ rfl)
     case measure=>simp [intOf]
    ·have hcell:wr.cell? ⟨g,o+1,none⟩=some (.int .u64 h1):=HR1.out 1 _ rfl
     have hfr:wr.frozen? ⟨g,o+1,none⟩=false:=((HT1.out.there _ _ HT.out) 1 (by omega)).2
     have hrun:Sem.run Tryz.prog (Instr.index 198 (.agg #[.int .u32 a,.int .u32 b,.int .u32 c,.int .u32 d,.int .u32 e,.int .u32 f,.int .u32 g1,.int .u32 k]) (.int .i64 1)) wr=.ok (.int .u32 b) wr:=by kernel_rfl
     go_wp2
     go_region
     go_wp2
     go_roundw
     case rel=>
      refine ⟨2,by omega,rfl,?_,?_⟩
      ·exact (HT1.out.setCell (o+1) _ (by omega) (by omega)).drew
      ·exact (World.rangeAt_drew _ _ _ _).2 (step_cells (q:=1) HR1.out (HT1.out.there _ _ HT.out) (by omega) _ rfl)
     case measure=>simp [intOf]
    ·have hcell:wr.cell? ⟨g,o+2,none⟩=some (.int .u64 h2):=HR1.out 2 _ rfl
     have hfr:wr.frozen? ⟨g,o+2,none⟩=false:=((HT1.out.there _ _ HT.out) 2 (by omega)).2
     have hrun:Sem.run Tryz.prog (Instr.index 198 (.agg #[.int .u32 a,.int .u32 b,.int .u32 c,.int .u32 d,.int .u32 e,.int .u32 f,.int .u32 g1,.int .u32 k]) (.int .i64 2)) wr=.ok (.int .u32 c) wr:=by kernel_rfl
     go_wp2
     go_region
     go_wp2
     go_roundw
     case rel=>
      refine ⟨3,by omega,rfl,?_,?_⟩
      ·exact (HT1.out.setCell (o+2) _ (by omega) (by omega)).drew
      ·exact (World.rangeAt_drew _ _ _ _).2 (step_cells (q:=2) HR1.out (HT1.out.there _ _ HT.out) (by omega) _ rfl)
     case measure=>simp [intOf]
    ·have hcell:wr.cell? ⟨g,o+3,none⟩=some (.int .u64 h3):=HR1.out 3 _ rfl
     have hfr:wr.frozen? ⟨g,o+3,none⟩=false:=((HT1.out.there _ _ HT.out) 3 (by omega)).2
     have hrun:Sem.run Tryz.prog (Instr.index 198 (.agg #[.int .u32 a,.int .u32 b,.int .u32 c,.int .u32 d,.int .u32 e,.int .u32 f,.int .u32 g1,.int .u32 k]) (.int .i64 3)) wr=.ok (.int .u32 d) wr:=by kernel_rfl
     go_wp2
     go_region
     go_wp2
     go_roundw
     case rel=>
      refine ⟨4,by omega,rfl,?_,?_⟩
      ·exact (HT1.out.setCell (o+3) _ (by omega) (by omega)).drew
      ·exact (World.rangeAt_drew _ _ _ _).2 (step_cells (q:=3) HR1.out (HT1.out.there _ _ HT.out) (by omega) _ rfl)
     case measure=>simp [intOf]
    ·have hcell:wr.cell? ⟨g,o+4,none⟩=some (.int .u64 h4):=HR1.out 4 _ rfl
     have hfr:wr.frozen? ⟨g,o+4,none⟩=false:=((HT1.out.there _ _ HT.out) 4 (by omega)).2
     have hrun:Sem.run Tryz.prog (Instr.index 198 (.agg #[.int .u32 a,.int .u32 b,.int .u32 c,.int .u32 d,.int .u32 e,.int .u32 f,.int .u32 g1,.int .u32 k]) (.int .i64 4)) wr=.ok (.int .u32 e) wr:=by kernel_rfl
     go_wp2
     go_region
     go_wp2
     go_roundw
     case rel=>
      refine ⟨5,by omega,rfl,?_,?_⟩
      ·exact (HT1.out.setCell (o+4) _ (by omega) (by omega)).drew
      ·exact (World.rangeAt_drew _ _ _ _).2 (step_cells (q:=4) HR1.out (HT1.out.there _ _ HT.out) (by omega) _ rfl)
     case measure=>simp [intOf]
    ·have hcell:wr.cell? ⟨g,o+5,none⟩=some (.int .u64 h5):=HR1.out 5 _ rfl
     have hfr:wr.frozen? ⟨g,o+5,none⟩=false:=((HT1.out.there _ _ HT.out) 5 (by omega)).2
     have hrun:Sem.run Tryz.prog (Instr.index 198 (.agg #[.int .u32 a,.int .u32 b,.int .u32 c,.int .u32 d,.int .u32 e,.int .u32 f,.int .u32 g1,.int .u32 k]) (.int .i64 5)) wr=.ok (.int .u32 f) wr:=by kernel_rfl
     go_wp2
     go_region
     go_wp2
     go_roundw
     case rel=>
      refine ⟨6,by omega,rfl,?_,?_⟩
      ·exact (HT1.out.setCell (o+5) _ (by omega) (by omega)).drew
      ·exact (World.rangeAt_drew _ _ _ _).2 (step_cells (q:=5) HR1.out (HT1.out.there _ _ HT.out) (by omega) _ rfl)
     case measure=>simp [intOf]
    ·have hcell:wr.cell? ⟨g,o+6,none⟩=some (.int .u64 h6):=HR1.out 6 _ rfl
     have hfr:wr.frozen? ⟨g,o+6,none⟩=false:=((HT1.out.there _ _ HT.out) 6 (by omega)).2
     have hrun:Sem.run Tryz.prog (Instr.index 198 (.agg #[.int .u32 a,.int .u32 b,.int .u32 c,.int .u32 d,.int .u32 e,.int .u32 f,.int .u32 g1,.int .u32 k]) (.int .i64 6)) wr=.ok (.int .u32 g1) wr:=by kernel_rfl
     go_wp2
     go_region
     go_wp2
     go_roundw
     case rel=>
      refine ⟨7,by omega,rfl,?_,?_⟩
      ·exact (HT1.out.setCell (o+6) _ (by omega) (by omega)).drew
      ·exact (World.rangeAt_drew _ _ _ _).2 (step_cells (q:=6) HR1.out (HT1.out.there _ _ HT.out) (by omega) _ rfl)
     case measure=>simp [intOf]
    ·have hcell:wr.cell? ⟨g,o+7,none⟩=some (.int .u64 h7):=HR1.out 7 _ rfl
     have hfr:wr.frozen? ⟨g,o+7,none⟩=false:=((HT1.out.there _ _ HT.out) 7 (by omega)).2
     have hrun:Sem.run Tryz.prog (Instr.index 198 (.agg #[.int .u32 a,.int .u32 b,.int .u32 c,.int .u32 d,.int .u32 e,.int .u32 f,.int .u32 g1,.int .u32 k]) (.int .i64 7)) wr=.ok (.int .u32 k) wr:=by kernel_rfl
     go_wp2
     go_region
     go_wp2
     go_roundw
     case rel=>
      refine ⟨8,by omega,rfl,?_,?_⟩
      ·exact (HT1.out.setCell (o+7) _ (by omega) (by omega)).drew
      ·exact (World.rangeAt_drew _ _ _ _).2 (step_cells (q:=7) HR1.out (HT1.out.there _ _ HT.out) (by omega) _ rfl)
     case measure=>simp [intOf]
    ·go_wp2
     go_end0
     refine ⟨rfl,HT1.out,?_⟩
     rw[HE.out]
     exact HR1.out
end Go.Proofs.YtehlppaidgkpaaaGreatDoor.Dg
