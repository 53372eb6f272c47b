import Derived.Test.YtehlppaidgkpaaaGreatDoorDgNR
import Derived.Test.YtehlppaidgkpaaaGreatDoorPart00
import Derived.Deep.RegionHeld3
import Derived.Deep.QuietTactic
import Derived.BigQuiet
import Derived.BigRegion
namespace Go.Proofs.YtehlppaidgkpaaaGreatDoor.Dg
open Go.RowKit
set_option linter.unusedVariables false
def Rg (s:Zd) (kc wv:Int):Int:=(s.k+(bits .xor .u64 (bits .xor .u64 (Qk s.e 50) (Qk s.e 46)) (Qk s.e 23))+(bits .xor .u64 (bits .and .u64 s.e s.f) (bits .and .u64 (bits .xor .u64 (if IntKind.u64.signed=true then -1 else IntKind.u64.max) s.e) s.g))+kc+wv)%18446744073709551616
def Uv (s:Zd):Int:=((bits .xor .u64 (bits .xor .u64 (Qk s.a 36) (Qk s.a 30)) (Qk s.a 25))+(bits .xor .u64 (bits .xor .u64 (bits .and .u64 s.a s.b) (bits .and .u64 s.a s.c)) (bits .and .u64 s.b s.c)))%18446744073709551616
def Gy (s:Zd) (kc wv:Int):Zd:=⟨(Rg s kc wv+Uv s)%18446744073709551616,s.a,s.b,s.c,(s.d+Rg s kc wv)%18446744073709551616,s.e,s.f,s.g⟩
def X5 (C W:Nat→Int):Nat→Zd→Zd
 | 0,s=>s
 | t+1,s=>Gy (X5 C W t s) (C t) (W t)
set_option maxHeartbeats 3200000 in
set_option maxRecDepth 100000 in
theorem Hz (g o wb:Nat) (h0 h1 h2 h3 h4 h5 h6 h7:Int) (W C:Nat→Int) (w:World)
  (hr:w.rangeAt g o (Zd.cells ⟨h0,h1,h2,h3,h4,h5,h6,h7⟩)) (ht:w.there g o 8)
  (hW:∀ t,t<80→w.cell? ⟨wb,t,none⟩=some (.int .u64 (W t)))
  (hC:∀ t,t<80→w.cell? ⟨5,t,none⟩=some (.int .u64 (C t))) :
  Calls Tryz.prog 126 #[.pointer (some ⟨g,o,none⟩),.pointer (some ⟨wb,0,none⟩)] w fun e w'=>e=.returned (.tuple #[])∧Touch w w' g o 8∧w'.rangeAt g o (Zd.cells (Zd.zip (fun h x=>(h+x)%18446744073709551616) ⟨h0,h1,h2,h3,h4,h5,h6,h7⟩ (X5 C W 80 ⟨h0,h1,h2,h3,h4,h5,h6,h7⟩))):=by
 have HW:Hid (∀ t,t<80→w.cell? ⟨wb,t,none⟩=some (.int .u64 (W t))):=hW
 have HC:Hid (∀ t,t<80→w.cell? ⟨5,t,none⟩=some (.int .u64 (C t))):=hC
 have HR:Hid (w.rangeAt g o (Zd.cells ⟨h0,h1,h2,h3,h4,h5,h6,h7⟩)):=hr
 have HT:Hid (w.there g o 8):=ht
 have c0:w.cell? ⟨g,o,none⟩=some (.int .u64 h0):=hr 0 _ rfl
 have c1:w.cell? ⟨g,o+1,none⟩=some (.int .u64 h1):=hr 1 _ rfl
 have c2:w.cell? ⟨g,o+2,none⟩=some (.int .u64 h2):=hr 2 _ rfl
 have c3:w.cell? ⟨g,o+3,none⟩=some (.int .u64 h3):=hr 3 _ rfl
 have c4:w.cell? ⟨g,o+4,none⟩=some (.int .u64 h4):=hr 4 _ rfl
 have c5:w.cell? ⟨g,o+5,none⟩=some (.int .u64 h5):=hr 5 _ rfl
 have c6:w.cell? ⟨g,o+6,none⟩=some (.int .u64 h6):=hr 6 _ rfl
 have c7:w.cell? ⟨g,o+7,none⟩=some (.int .u64 h7):=hr 7 _ rfl
 clear hW hC hr ht
 go_enter Tryz.func126,Tryz.ntmps126
 go_wp2
 go_quiet (fail)
 go_wp2
 go_quiet (fail)
 clear c0 c1 c2 c3 c4 c5 c6 c7
 go_wp2
 go_loopw [4,5,6,7,8,9,10,11,51] (fun va vb vc vd ve vf vg vk i wr=>∃ t:Nat,∃ s:Zd,t≤80∧i=.int .i64 t∧va=.int .u64 s.a∧vb=.int .u64 s.b∧vc=.int .u64 s.c∧vd=.int .u64 s.d∧ve=.int .u64 s.e∧vf=.int .u64 s.f∧vg=.int .u64 s.g∧vk=.int .u64 s.k∧Hid (s=X5 C W t ⟨h0,h1,h2,h3,h4,h5,h6,h7⟩)∧Hid (Sm w wr)) (fun _ _ _ _ _ _ _ _ i _=>80-(intOf i).toNat)
 case atStart=>exact ⟨0,⟨h0,h1,h2,h3,h4,h5,h6,h7⟩,by omega,rfl,rfl,rfl,rfl,rfl,rfl,rfl,rfl,rfl,rfl,((Sm.refl w).drewN _).drewN _⟩
 case round=>
  obtain ⟨t,⟨a,b,c,d,e,f,g1,k⟩,ht,rfl,rfl,rfl,rfl,rfl,rfl,rfl,rfl,rfl,HS,HM⟩:=hrel
  by_cases hlt:t<80
  ·have hw:wr.cell? ⟨wb,t,none⟩=some (.int .u64 (W t)):=by rw[HM.out.cell];exact HW.out t hlt
   have hc:wr.cell? ⟨5,t,none⟩=some (.int .u64 (C t)):=by rw[HM.out.cell];exact HC.out t hlt
   go_wp2_with (first | (go_at_call 125;(first | refine (Yp 14 (by decide +kernel)).mono ?_ | refine (Yp 18 (by decide +kernel)).mono ?_ | refine (Yp 41 (by decide +kernel)).mono ?_ | refine (Yp 28 (by decide +kernel)).mono ?_ | refine (Yp 34 (by decide +kernel)).mono ?_ | refine (Yp 39 (by decide +kernel)).mono ?_);(rintro e1 w1 ⟨rfl,hw1⟩;obtain rfl:=hw1.symm)))
   go_quiet (fail)
   go_wp2_with (first | (go_at_call 125;(first | refine (Yp 14 (by decide +kernel)).mono ?_ | refine (Yp 18 (by decide +kernel)).mono ?_ | refine (Yp 41 (by decide +kernel)).mono ?_ | refine (Yp 28 (by decide +kernel)).mono ?_ | refine (Yp 34 (by decide +kernel)).mono ?_ | refine (Yp 39 (by decide +kernel)).mono ?_);(rintro e1 w1 ⟨rfl,hw1⟩;obtain rfl:=hw1.symm)))
   go_roundw
   case rel=>
    refine ⟨t+1,Gy ⟨a,b,c,d,e,f,g1,k⟩ (C t) (W t),by omega,by go_num,(Ye (by simp only[Gy,Rg,Uv,IntKind.wrap_u64,Int.emod_add_emod,Int.add_emod_emod])),rfl,rfl,rfl,(Ye (by simp only[Gy,Rg,Uv,IntKind.wrap_u64,Int.emod_add_emod,Int.add_emod_emod])),rfl,rfl,rfl,?_,HM.out.drewN _⟩
    have:=HS.out
    rw[this]
    exact rfl
   case measure=>simp [intOf];omega
  ·obtain rfl:t=80:=by omega
   clear hlt ht HW HC
   have HE:Hid (Zd.zip (fun h x=>(h+x)%18446744073709551616) ⟨h0,h1,h2,h3,h4,h5,h6,h7⟩ (X5 C W 80 ⟨h0,h1,h2,h3,h4,h5,h6,h7⟩)=⟨((h0+a)%18446744073709551616),((h1+b)%18446744073709551616),((h2+c)%18446744073709551616),((h3+d)%18446744073709551616),((h4+e)%18446744073709551616),((h5+f)%18446744073709551616),((h6+g1)%18446744073709551616),((h7+k)%18446744073709551616)⟩):=by
    rw[←HS.out]
    exact rfl
   clear HS
   go_wp2
   go_loopw [127] (fun i wr=>∃ q:Nat,q≤8∧i=.int .i64 q∧Hid (Touch w wr g o 8)∧Hid (wr.rangeAt g o ((Zd.cells ⟨((h0+a)%18446744073709551616),((h1+b)%18446744073709551616),((h2+c)%18446744073709551616),((h3+d)%18446744073709551616),((h4+e)%18446744073709551616),((h5+f)%18446744073709551616),((h6+g1)%18446744073709551616),((h7+k)%18446744073709551616)⟩).take q++(Zd.cells ⟨h0,h1,h2,h3,h4,h5,h6,h7⟩).drop q))) (fun i _=>8-(intOf i).toNat)
   case atStart=>exact ⟨0,by omega,rfl,HM.out.touch _ _ _,fun j v hv=>by rw[HM.out.cell];exact HR.out j v hv⟩
   case round=>
    obtain ⟨q,hq,rfl,HT1,HR1⟩:=hrel
    have hq9:q=0∨q=1∨q=2∨q=3∨q=4∨q=5∨q=6∨q=7∨q=8:=by omega
    clear hq HM
    rcases hq9 with rfl | rfl | rfl | rfl | rfl | rfl | rfl | rfl | rfl
    ·have hcell:wr.cell? ⟨g,o,none⟩=some (.int .u64 h0):=HR1.out 0 _ rfl
     have hfr:wr.frozen? ⟨g,o,none⟩=false:=((HT1.out.there _ _ HT.out) 0 (by omega)).2
     have hrun:Sem.run Tryz.prog (Instr.index 137 (.agg #[.int .u64 a,.int .u64 b,.int .u64 c,.int .u64 d,.int .u64 e,.int .u64 f,.int .u64 g1,.int .u64 k]) (.int .i64 0)) wr=.ok (.int .u64 a) wr:=by kernel_rfl
     go_wp2
     go_region
     go_wp2
     go_roundw
     case rel=>
      refine ⟨1,by omega,rfl,?_,?_⟩
      ·exact (HT1.out.setCell (o) _ (by omega) (by omega)).drew
      ·exact (World.rangeAt_drew _ _ _ _).2 (step_cells (q:=0) HR1.out (HT1.out.there _ _ HT.out) (by omega) _ (by rw[IntKind.wrap_u64];exact rfl))
     case measure=>simp [intOf]
    ·have hcell:wr.cell? ⟨g,o+1,none⟩=some (.int .u64 h1):=HR1.out 1 _ rfl
     have hfr:wr.frozen? ⟨g,o+1,none⟩=false:=((HT1.out.there _ _ HT.out) 1 (by omega)).2
     have hrun:Sem.run Tryz.prog (Instr.index 137 (.agg #[.int .u64 a,.int .u64 b,.int .u64 c,.int .u64 d,.int .u64 e,.int .u64 f,.int .u64 g1,.int .u64 k]) (.int .i64 1)) wr=.ok (.int .u64 b) wr:=by kernel_rfl
     go_wp2
     go_region
     go_wp2
     go_roundw
     case rel=>
      refine ⟨2,by omega,rfl,?_,?_⟩
      ·exact (HT1.out.setCell (o+1) _ (by omega) (by omega)).drew
      ·exact (World.rangeAt_drew _ _ _ _).2 (step_cells (q:=1) HR1.out (HT1.out.there _ _ HT.out) (by omega) _ (by rw[IntKind.wrap_u64];exact rfl))
     case measure=>simp [intOf]
    ·have hcell:wr.cell? ⟨g,o+2,none⟩=some (.int .u64 h2):=HR1.out 2 _ rfl
     have hfr:wr.frozen? ⟨g,o+2,none⟩=false:=((HT1.out.there _ _ HT.out) 2 (by omega)).2
     have hrun:Sem.run Tryz.prog (Instr.index 137 (.agg #[.int .u64 a,.int .u64 b,.int .u64 c,.int .u64 d,.int .u64 e,.int .u64 f,.int .u64 g1,.int .u64 k]) (.int .i64 2)) wr=.ok (.int .u64 c) wr:=by kernel_rfl
     go_wp2
     go_region
     go_wp2
     go_roundw
     case rel=>
      refine ⟨3,by omega,rfl,?_,?_⟩
      ·exact (HT1.out.setCell (o+2) _ (by omega) (by omega)).drew
      ·exact (World.rangeAt_drew _ _ _ _).2 (step_cells (q:=2) HR1.out (HT1.out.there _ _ HT.out) (by omega) _ (by rw[IntKind.wrap_u64];exact rfl))
     case measure=>simp [intOf]
    ·have hcell:wr.cell? ⟨g,o+3,none⟩=some (.int .u64 h3):=HR1.out 3 _ rfl
     have hfr:wr.frozen? ⟨g,o+3,none⟩=false:=((HT1.out.there _ _ HT.out) 3 (by omega)).2
     have hrun:Sem.run Tryz.prog (Instr.index 137 (.agg #[.int .u64 a,.int .u64 b,.int .u64 c,.int .u64 d,.int .u64 e,.int .u64 f,.int .u64 g1,.int .u64 k]) (.int .i64 3)) wr=.ok (.int .u64 d) wr:=by kernel_rfl
     go_wp2
     go_region
     go_wp2
     go_roundw
     case rel=>
      refine ⟨4,by omega,rfl,?_,?_⟩
      ·exact (HT1.out.setCell (o+3) _ (by omega) (by omega)).drew
      ·exact (World.rangeAt_drew _ _ _ _).2 (step_cells (q:=3) HR1.out (HT1.out.there _ _ HT.out) (by omega) _ (by rw[IntKind.wrap_u64];exact rfl))
     case measure=>simp [intOf]
    ·have hcell:wr.cell? ⟨g,o+4,none⟩=some (.int .u64 h4):=HR1.out 4 _ rfl
     have hfr:wr.frozen? ⟨g,o+4,none⟩=false:=((HT1.out.there _ _ HT.out) 4 (by omega)).2
     have hrun:Sem.run Tryz.prog (Instr.index 137 (.agg #[.int .u64 a,.int .u64 b,.int .u64 c,.int .u64 d,.int .u64 e,.int .u64 f,.int .u64 g1,.int .u64 k]) (.int .i64 4)) wr=.ok (.int .u64 e) wr:=by kernel_rfl
     go_wp2
     go_region
     go_wp2
     go_roundw
     case rel=>
      refine ⟨5,by omega,rfl,?_,?_⟩
      ·exact (HT1.out.setCell (o+4) _ (by omega) (by omega)).drew
      ·exact (World.rangeAt_drew _ _ _ _).2 (step_cells (q:=4) HR1.out (HT1.out.there _ _ HT.out) (by omega) _ (by rw[IntKind.wrap_u64];exact rfl))
     case measure=>simp [intOf]
    ·have hcell:wr.cell? ⟨g,o+5,none⟩=some (.int .u64 h5):=HR1.out 5 _ rfl
     have hfr:wr.frozen? ⟨g,o+5,none⟩=false:=((HT1.out.there _ _ HT.out) 5 (by omega)).2
     have hrun:Sem.run Tryz.prog (Instr.index 137 (.agg #[.int .u64 a,.int .u64 b,.int .u64 c,.int .u64 d,.int .u64 e,.int .u64 f,.int .u64 g1,.int .u64 k]) (.int .i64 5)) wr=.ok (.int .u64 f) wr:=by kernel_rfl
     go_wp2
     go_region
     go_wp2
     go_roundw
     case rel=>
      refine ⟨6,by omega,rfl,?_,?_⟩
      ·exact (HT1.out.setCell (o+5) _ (by omega) (by omega)).drew
      ·exact (World.rangeAt_drew _ _ _ _).2 (step_cells (q:=5) HR1.out (HT1.out.there _ _ HT.out) (by omega) _ (by rw[IntKind.wrap_u64];exact rfl))
     case measure=>simp [intOf]
    ·have hcell:wr.cell? ⟨g,o+6,none⟩=some (.int .u64 h6):=HR1.out 6 _ rfl
     have hfr:wr.frozen? ⟨g,o+6,none⟩=false:=((HT1.out.there _ _ HT.out) 6 (by omega)).2
     have hrun:Sem.run Tryz.prog (Instr.index 137 (.agg #[.int .u64 a,.int .u64 b,.int .u64 c,.int .u64 d,.int .u64 e,.int .u64 f,.int .u64 g1,.int .u64 k]) (.int .i64 6)) wr=.ok (.int .u64 g1) wr:=by kernel_rfl
     go_wp2
     go_region
     go_wp2
     go_roundw
     case rel=>
      refine ⟨7,by omega,rfl,?_,?_⟩
      ·exact (HT1.out.setCell (o+6) _ (by omega) (by omega)).drew
      ·exact (World.rangeAt_drew _ _ _ _).2 (step_cells (q:=6) HR1.out (HT1.out.there _ _ HT.out) (by omega) _ (by rw[IntKind.wrap_u64];exact rfl))
     case measure=>simp [intOf]
    ·have hcell:wr.cell? ⟨g,o+7,none⟩=some (.int .u64 h7):=HR1.out 7 _ rfl
     have hfr:wr.frozen? ⟨g,o+7,none⟩=false:=((HT1.out.there _ _ HT.out) 7 (by omega)).2
     have hrun:Sem.run Tryz.prog (Instr.index 137 (.agg #[.int .u64 a,.int .u64 b,.int .u64 c,.int .u64 d,.int .u64 e,.int .u64 f,.int .u64 g1,.int .u64 k]) (.int .i64 7)) wr=.ok (.int .u64 k) wr:=by kernel_rfl
     go_wp2
     go_region
     go_wp2
     go_roundw
     case rel=>
      refine ⟨8,by omega,rfl,?_,?_⟩
      ·exact (HT1.out.setCell (o+7) _ (by omega) (by omega)).drew
      ·exact (World.rangeAt_drew _ _ _ _).2 (step_cells (q:=7) HR1.out (HT1.out.there _ _ HT.out) (by omega) _ (by rw[IntKind.wrap_u64];exact rfl))
     case measure=>simp [intOf]
    ·go_wp2
     go_end0
     refine ⟨rfl,HT1.out,?_⟩
     rw[HE.out]
     exact HR1.out
end Go.Proofs.YtehlppaidgkpaaaGreatDoor.Dg
