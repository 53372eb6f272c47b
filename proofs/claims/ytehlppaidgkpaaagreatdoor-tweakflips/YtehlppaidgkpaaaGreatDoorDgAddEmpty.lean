import Derived.Test.YtehlppaidgkpaaaGreatDoorDgAdd
namespace Go.Proofs.YtehlppaidgkpaaaGreatDoor.Dg
open Go.RowKit
set_option linter.unusedVariables false
set_option linter.unusedSimpArgs false
theorem Hn (w:World) (x y:Option Addr) (dl dc c:Nat):(Builtin.copy_ #[22,22] 3 #[.slice x dl dc,.slice y 0 c]).run Tryz.prog w=.ok (.int .i64 0) w:=
 run_copy_none (P:=Tryz.prog) w 22 22 3 5 x y dl dc 0 c Tryz.underlying22 (by kernel_rfl) (by show min _ _=0;omega)
set_option maxHeartbeats 3200000 in
set_option maxRecDepth 100000 in
theorem Bi (g o:Nat) (h:Int) (s:Zb) (half:Nat→Int) (fed cap:Nat) (a:Option Addr) (w:World) (hblk:Z6 h=64) (HK:Hid (TK w g o h false s half fed)) (hfn:fed≤4611686018427387904) (hcm:cap≤9223372036854775807) (ha:a=none→cap=0) :
  Calls Tryz.prog 95 #[.pointer (some ⟨g,o,none⟩),.slice a 0 cap] w fun e w'=>e=.returned (.tuple #[])∧Touch w w' g o 139∧TK w' g o h false s half fed:=by
 have c0:=HK.out.hash
 have c138:=HK.out.fed
 have f138:w.frozen? ⟨g,o+138,none⟩=false:=(HK.out.there 138 (by omega)).2
 have hgw:g<w.heap.size:=lt_of_cell c0
 have HT1:Hid (Touch w (w.setCell ⟨g,o+138,none⟩ (.int .u64 fed)) g o 139):=(Touch.refl _ _ _ _).setCell _ _ (by omega) (by omega)
 have HK1:Hid (TK (w.setCell ⟨g,o+138,none⟩ (.int .u64 fed)) g o h false s half fed):=HK.out.setFed _ _ rfl
 by_cases hu:fed%64=0
 ·have r0:((fed:Int)%64)=0:=by omega
  go_enter Tryz.func95,Tryz.ntmps95
  go_wp2_with (first | (go_at_call 91;refine (Xa _ _).mono ?_;rintro e1 w1 ⟨rfl,hw1⟩;obtain rfl:=hw1.symm;rw[hblk]))
  generalize w.setCell ⟨g,o+138,none⟩ (.int .u64 fed)=w1 at HT1 HK1 ⊢
  clear c0 c138 f138
  have c1':w1.cell? ⟨g,o+1,none⟩=some (.func (.func 92) #[] #[]):=HK1.out.fn
  have HA:Hid (∀ v,Sm w1 v→Calls Tryz.prog 92 #[.pointer (some ⟨g,o+2,none⟩),.slice a 0 cap] v fun e w'=>e=.returned (.tuple #[])∧Touch w w' g o 139∧TK w' g o h false s half fed):=by
   intro v hsm
   have hs1:=HT1.out.size
   have hgv:g<v.heap.size:=by rw[hsm.heap];omega
   refine (Kb _ a cap v).mono ?_
   rintro e w' ⟨rfl,hb⟩
   have ht:=(Touch.refl v g (o+2) 8).below hb hgv
   exact ⟨rfl,HT1.out.trans ((hsm.touch g o 139).trans ((Touch.refl v g o 139).below hb hgv)),(HK1.out.sm hsm).words ht (Qe (HK1.out.sm hsm).st hb hgv)⟩
  go_region_held3 (fun v=>v.cell? ⟨g,o+1,none⟩=some (.func (.func 92) #[] #[])) (first | go_keep | exact hk2.fn) ((go_at_call 92;refine (HA.out w1.drew (Sm.refl w1).drew).mono ?_;rintro e2 w2 ⟨rfl,ht2,hk2⟩))
  have HT2:Hid (Touch w w2 g o 139):=ht2
  have HK2:Hid (TK w2 g o h false s half fed):=hk2
  have hcp:∀ x,(Builtin.copy_ #[22,22] 3 #[.slice (some ⟨g,o+10,none⟩) 64 128,.slice x 0 cap]).run Tryz.prog w2.drew=.ok (.int .i64 0) w2.drew:=fun x=>Hn w2.drew _ _ _ _ _
  clear ht2 hk2 HA c1' HT1 HK1
  go_wp2
  go_region
  go_wp2
  go_end0
  exact ⟨rfl,HT2.out.drew,HK2.out.sm (Sm.refl w2).drew⟩
 ·obtain ⟨used,hus⟩:∃ u,u=fed%64:=⟨_,rfl⟩
  have r0:((fed:Int)%64)=(used:Int):=by omega
  have hu2:(0:Int)<(used:Int):=by omega
  have hu3:(used:Int)<64:=by omega
  have hu4:(used:Int)≤64:=by omega
  have hcp:∀ w,(Builtin.copy_ #[22,22] 3 #[.slice (some ⟨g,o+10+used,none⟩) (64-used) (128-used),.slice a 0 cap]).run Tryz.prog w=.ok (.int .i64 0) w:=fun w=>Hn w _ _ _ _ _
  clear hus hu
  go_enter Tryz.func95,Tryz.ntmps95
  go_wp2_with (first | (go_at_call 91;refine (Xa _ _).mono ?_;rintro e1 w1 ⟨rfl,hw1⟩;obtain rfl:=hw1.symm;rw[hblk]))
  refine bodyPost_ret (results_none rfl _ _ _) rfl ?_
  exact ⟨rfl,HT1.out,HK1.out⟩
end Go.Proofs.YtehlppaidgkpaaaGreatDoor.Dg
