import Derived.Test.YtehlppaidgkpaaaGreatDoorPart18
namespace Go.Proofs.YtehlppaidgkpaaaGreatDoor
open Go.RowKit
set_option linter.unusedVariables false
def Jq (w:World) (g o b sb:Nat):World:=
 (((w.setCell ⟨g,o+61+b,none⟩ (.int .u8 (sb:Nat))).setCell ⟨g,o+317+sb,none⟩ (.int .u8 (b:Nat))).setCell ⟨g,o+573+b,none⟩ (.int .u32 (wd (x2 sb) sb sb (x3 sb):Nat))).setCell ⟨g,o+829+b,none⟩ (.int .u32 (wd (x14 b) (x9 b) (x13 b) (x11 b):Nat))
theorem Dv (a:Nat) (h:a<256) (w:World):Calls Tryz.prog 163 #[.int .u8 a] w fun e w'=>∃ z:Nat,z<256∧Hid (z=Y1 a)∧e=.returned (.int .u8 (z:Nat))∧w'=w:=
 (Us a h w).mono fun e w' ⟨h1,h2⟩=>⟨_,Wf ⟨a,h⟩,rfl,h1,h2⟩
set_option maxHeartbeats 3200000 in
set_option maxRecDepth 100000 in
theorem Fe (g o b sb:Nat) (w:World) (hb:b<256) (hsb:sb<256) (ht:w.there g o 1085) :
  Calls Tryz.prog 115 #[.pointer (some ⟨g,o,none⟩),.int .u8 b,.int .u8 sb] w fun e w'=>e=.returned (.tuple #[])∧∃ m,w'=(Jq w g o b sb).drewN m:=by
 have t1:=ht (61+b) (by omega)
 have t2:=ht (317+sb) (by omega)
 rw[←Nat.add_assoc] at t1 t2
 obtain ⟨p1,q1⟩:=t1
 obtain ⟨p2,q2⟩:=t2
 obtain ⟨v1,c1⟩:=Option.isSome_iff_exists.1 p1
 obtain ⟨v2,c2⟩:=Option.isSome_iff_exists.1 p2
 clear p1 p2
 have HT:Hid (w.there g o 1085):=ht
 clear ht
 go_enter Tryz.func115,Tryz.ntmps115
 go_wp2
 go_region
 go_wp2_with (first | (go_at_call 163;(refine (Dv sb hsb _).mono ?_)))
 rintro e1 w1 ⟨z,hz,HZ,rfl,hw1⟩
 have ht1:w1.there g o 1085:=by rw[hw1];exact (World.there_drew _ _ _ _).2 (World.there_setCells (World.there_setCells HT.out _ _ [_]) _ _ [_])
 have HW1:Hid (w1=(((w.setCell ⟨g,o+61+b,none⟩ (.int .u8 (sb:Nat))).setCell ⟨g,o+317+sb,none⟩ (.int .u8 (b:Nat))).drew)):=hw1
 clear hw1 HT c1 c2 q1 q2
 have t3:=ht1 (573+b) (by omega)
 rw[←Nat.add_assoc] at t3
 obtain ⟨p3,q3⟩:=t3
 obtain ⟨v3,c3⟩:=Option.isSome_iff_exists.1 p3
 clear p3
 have HT1:Hid (w1.there g o 1085):=ht1
 clear ht1
 obtain ⟨m0,HM0⟩:∃ m:Nat,Hid (m=wd (x2 sb) sb sb (x3 sb)):=⟨_,rfl⟩
 have hx3:=Zd hz hsb
 have hk0:Hid (∀ u,Calls Tryz.prog 123 #[.int .u8 (z:Nat),.int .u8 (sb:Nat),.int .u8 (sb:Nat),.int .u8 (bits .xor .u8 (z:Int) (sb:Int))] u fun e u'=>e=.returned (.int .u32 (m0:Nat))∧u'=u):=fun u=>by
  rw[Q5 _ _ hz hsb,HM0.out,HZ.out]
  rw[HZ.out] at hz hx3
  exact Q6 _ _ _ _ hz hsb hsb hx3 u
 clear hx3
 have hbi:((b:Nat):Int)<256:=by omega
 go_wp2
 go_region_held3 (fun _=>True) (trivial) ((go_at_call 123;refine (hk0.out _).mono ?_;rintro e2 w2 ⟨rfl,hw2⟩;obtain rfl:=hw2.symm))
 have HT2:Hid ((w1.setCell ⟨g,o+573+b,none⟩ (.int .u32 (m0:Nat))).drew.there g o 1085):=(World.there_drew _ _ _ _).2 (World.there_setCells HT1.out _ _ [_])
 obtain ⟨w2,HW2⟩:∃ w2,Hid (w2=(w1.setCell ⟨g,o+573+b,none⟩ (.int .u32 (m0:Nat))).drew):=⟨_,rfl⟩
 rw[←HW2.out] at HT2 ⊢
 clear hk0 c3 q3 HT1
 go_wp2_with (first | (go_at_call 163;(refine (Dv b hb _).mono ?_)))
 rintro e3 w3 ⟨d2,hd2,HD2,rfl,hw3⟩
 obtain rfl:=hw3.symm
 go_wp2_with (first | (go_at_call 163;(refine (Dv d2 hd2 _).mono ?_)))
 rintro e4 w4 ⟨d4,hd4,HD4,rfl,hw4⟩
 obtain rfl:=hw4.symm
 go_wp2_with (first | (go_at_call 163;(refine (Dv d4 hd4 _).mono ?_)))
 rintro e5 w5 ⟨d8,hd8,HD8,rfl,hw5⟩
 obtain rfl:=hw5.symm
 have t4:=HT2.out (829+b) (by omega)
 rw[←Nat.add_assoc] at t4
 obtain ⟨p4,q4⟩:=t4
 obtain ⟨v4,c4⟩:=Option.isSome_iff_exists.1 p4
 clear p4
 obtain ⟨n0,HN0⟩:∃ m:Nat,Hid (m=wd (x14 b) (x9 b) (x13 b) (x11 b)):=⟨_,rfl⟩
 have hk1:Hid (∀ u,Calls Tryz.prog 123 #[.int .u8 (bits .xor .u8 (bits .xor .u8 (d8:Int) (d4:Int)) (d2:Int)),.int .u8 (bits .xor .u8 (d8:Int) (b:Int)),.int .u8 (bits .xor .u8 (bits .xor .u8 (d8:Int) (d4:Int)) (b:Int)),.int .u8 (bits .xor .u8 (bits .xor .u8 (d8:Int) (d2:Int)) (b:Int))] u fun e u'=>e=.returned (.int .u32 (n0:Nat))∧u'=u):=fun u=>by
  rw[Q5 _ _ hd8 hd4,Q5 _ _ hd8 hd2,Q5 _ _ hd8 hb,Q5 _ _ (Zd hd8 hd4) hd2,Q5 _ _ (Zd hd8 hd4) hb,Q5 _ _ (Zd hd8 hd2) hb]
  have h:=Q6 _ _ _ _ (Zd (Zd hd8 hd4) hd2) (Zd hd8 hb) (Zd (Zd hd8 hd4) hb) (Zd (Zd hd8 hd2) hb) u
  have e:n0=wd (Nat.xor (Nat.xor d8 d4) d2) (Nat.xor d8 b) (Nat.xor (Nat.xor d8 d4) b) (Nat.xor (Nat.xor d8 d2) b):=by
   rw[HN0.out,HD8.out,HD4.out,HD2.out]
   exact rfl
  rw[e]
  exact h
 go_wp2
 go_region_held3 (fun _=>True) (trivial) ((go_at_call 123;refine (hk1.out _).mono ?_;rintro e6 w6 ⟨rfl,hw6⟩;obtain rfl:=hw6.symm))
 go_wp2
 go_end0
 refine ⟨rfl,3,?_⟩
 rw[HN0.out,HW2.out,HM0.out,HW1.out]
 exact rfl
end Go.Proofs.YtehlppaidgkpaaaGreatDoor
