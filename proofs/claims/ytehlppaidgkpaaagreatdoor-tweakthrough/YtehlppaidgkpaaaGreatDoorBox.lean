import Derived.Test.YtehlppaidgkpaaaGreatDoorBoth
namespace Go.Proofs.YtehlppaidgkpaaaGreatDoor
open Go.RowKit
set_option linter.unusedVariables false
theorem Jf (a b:Nat) (ha:a<256) (hb:b<256) (w:World):Calls Tryz.prog 113 #[.int .u8 a,.int .u8 b] w fun e w'=>e=.returned (.int .u8 (Fy 8 0 a b:Nat))∧w'=w:=by
 rw[←Ia a b ha hb]
 exact Cv a b ha hb w
theorem Lz (x k s:Int) (w:World) (hb:bits .and .u64 (IntKind.u64.wrap k) 7=s) (h0:0≤s) (h1:s≤8) (h2:IntKind.u64.wrap (8-s)=8-s):Calls Tryz.prog 164 #[.int .u8 x,.int .i64 k] w fun e w'=>e=.returned (.int .u8 (bits .or .u8 (x*2^s.toNat%256) (x/2^(8-s).toNat)))∧w'=w:=by
 have h3:0≤8-s:=by omega
 go_enter Tryz.func164,Tryz.ntmps164
 go_wp2
 go_ret
 exact ⟨rfl,rfl⟩
def Wt (x s:Nat):Nat:=Nat.lor (Nat.mod (Nat.mul x (Nat.pow 2 s)) 256) (Nat.div x (Nat.pow 2 (Nat.sub 8 s)))
theorem Pz:∀ x:Fin 256,∀ s:Fin 8,bits .or .u8 ((x.1:Int)*2^s.1%256) ((x.1:Int)/2^(8-s.1))=(Wt x.1 s.1:Nat):=by decide +kernel
theorem Ir:∀ s:Fin 8,bits .and .u64 (IntKind.u64.wrap (s.1:Int)) 7=(s.1:Int)∧IntKind.u64.wrap (8-(s.1:Int))=8-(s.1:Int):=by decide +kernel
theorem Zcp {x:Nat} {w:World} (s:Nat) (hx:x<256) (hs:s<8):Calls Tryz.prog 164 #[.int .u8 x,.int .i64 s] w fun e w'=>e=.returned (.int .u8 (Wt x s:Nat))∧w'=w:=by
 have h:=Lz x s s w (Ir ⟨s,hs⟩).1 (by omega) (by omega) (Ir ⟨s,hs⟩).2
 have e:bits .or .u8 ((x:Int)*2^(s:Int).toNat%256) ((x:Int)/2^(8-(s:Int)).toNat)=(Wt x s:Nat):=by
  rw[show (8-(s:Int)).toNat=8-s by omega,show (s:Int).toNat=s by omega]
  exact Pz ⟨x,hx⟩ ⟨s,hs⟩
 rw[e] at h
 exact h
theorem Dl {x:Nat} {w:World} (s:Nat) (hx:x<256) (hs:s<8):Calls Tryz.prog 164 #[.int .u8 x,.int .i64 s] w fun e w'=>∃ y:Nat,Hid (y=Wt x s)∧e=.returned (.int .u8 y)∧w'=w:=
 (Zcp s hx hs).mono fun e w' ⟨h1,h2⟩=>⟨_,rfl,h1,h2⟩
def Db (y:Nat):Nat:=Nat.xor (Nat.xor (Nat.xor (Nat.xor (Nat.xor y (Wt y 1)) (Wt y 2)) (Wt y 3)) (Wt y 4)) 99
theorem Pr:∀ y:Fin 256,bits .xor .u8 (bits .xor .u8 (bits .xor .u8 (bits .xor .u8 (bits .xor .u8 (y.1:Int) (Wt y.1 1:Nat)) (Wt y.1 2:Nat)) (Wt y.1 3:Nat)) (Wt y.1 4:Nat)) 99=(Db y.1:Nat):=by decide +kernel
theorem B3:∀ y:Fin 256,Db y.1<256:=by decide +kernel
theorem Lp (y:Nat) (hy:y<256) (w:World):Calls Tryz.prog 116 #[.int .u8 y] w fun e w'=>∃ z:Nat,z<256∧Hid (z=Db y)∧e=.returned (.int .u8 z)∧w'=w:=by
 go_enter Tryz.func116,Tryz.ntmps116
 go_wp2_with (first | (go_at_call 164;(refine (Dl 1 hy (by decide)).mono ?_)))
 rintro e1 w1 ⟨y1,H1,rfl,hw1⟩
 obtain rfl:=hw1.symm
 go_wp2_with (first | (go_at_call 164;(refine (Dl 2 hy (by decide)).mono ?_)))
 rintro e1 w1 ⟨y2,H2,rfl,hw1⟩
 obtain rfl:=hw1.symm
 go_wp2_with (first | (go_at_call 164;(refine (Dl 3 hy (by decide)).mono ?_)))
 rintro e1 w1 ⟨y3,H3,rfl,hw1⟩
 obtain rfl:=hw1.symm
 go_wp2_with (first | (go_at_call 164;(refine (Dl 4 hy (by decide)).mono ?_)))
 rintro e1 w1 ⟨y4,H4,rfl,hw1⟩
 obtain rfl:=hw1.symm
 go_wp2
 go_ret
 refine ⟨Db y,B3 ⟨y,hy⟩,rfl,Xt ?_,rfl⟩
 rw[H1.out,H2.out,H3.out,H4.out]
 exact Pr ⟨y,hy⟩
def Zcr (y i:Nat):Nat:=Nat.mod (Nat.xor (Nat.xor (Nat.xor (Nat.xor (Nat.xor (y/2^i) (y/2^((i+4)%8))) (y/2^((i+5)%8))) (y/2^((i+6)%8))) (y/2^((i+7)%8))) (99/2^i)) 2
def Jm (y:Nat):Nat→Nat
 | 0=>0
 | i+1=>Jm y i+Zcr y i*2^i
theorem Pq:∀ y:Fin 256,Jm y.1 8=Db y.1:=by decide +kernel
theorem Rz:∀ y:Fin 256,wrap64 ((Jm y.1 0:Nat)+wrap64 ((bits .xor .i64 (bits .xor .i64 (bits .xor .i64 (bits .xor .i64 (bits .xor .i64 (y.1:Int) ((y.1:Int)/16)) ((y.1:Int)/32)) ((y.1:Int)/64)) ((y.1:Int)/128)) 99).tmod 2))=(Jm y.1 1:Nat):=by decide +kernel
theorem Ry:∀ y:Fin 256,wrap64 ((Jm y.1 1:Nat)+wrap64 ((bits .xor .i64 (bits .xor .i64 (bits .xor .i64 (bits .xor .i64 (bits .xor .i64 ((y.1:Int)/2) ((y.1:Int)/32)) ((y.1:Int)/64)) ((y.1:Int)/128)) (y.1:Int)) 49).tmod 2*2))=(Jm y.1 2:Nat):=by decide +kernel
theorem Rx:∀ y:Fin 256,wrap64 ((Jm y.1 2:Nat)+wrap64 ((bits .xor .i64 (bits .xor .i64 (bits .xor .i64 (bits .xor .i64 (bits .xor .i64 ((y.1:Int)/4) ((y.1:Int)/64)) ((y.1:Int)/128)) (y.1:Int)) ((y.1:Int)/2)) 24).tmod 2*4))=(Jm y.1 3:Nat):=by decide +kernel
theorem Rw:∀ y:Fin 256,wrap64 ((Jm y.1 3:Nat)+wrap64 ((bits .xor .i64 (bits .xor .i64 (bits .xor .i64 (bits .xor .i64 (bits .xor .i64 ((y.1:Int)/8) ((y.1:Int)/128)) (y.1:Int)) ((y.1:Int)/2)) ((y.1:Int)/4)) 12).tmod 2*8))=(Jm y.1 4:Nat):=by decide +kernel
theorem Rv:∀ y:Fin 256,wrap64 ((Jm y.1 4:Nat)+wrap64 ((bits .xor .i64 (bits .xor .i64 (bits .xor .i64 (bits .xor .i64 (bits .xor .i64 ((y.1:Int)/16) (y.1:Int)) ((y.1:Int)/2)) ((y.1:Int)/4)) ((y.1:Int)/8)) 6).tmod 2*16))=(Jm y.1 5:Nat):=by decide +kernel
theorem Ru:∀ y:Fin 256,wrap64 ((Jm y.1 5:Nat)+wrap64 ((bits .xor .i64 (bits .xor .i64 (bits .xor .i64 (bits .xor .i64 (bits .xor .i64 ((y.1:Int)/32) ((y.1:Int)/2)) ((y.1:Int)/4)) ((y.1:Int)/8)) ((y.1:Int)/16)) 3).tmod 2*32))=(Jm y.1 6:Nat):=by decide +kernel
theorem Rt:∀ y:Fin 256,wrap64 ((Jm y.1 6:Nat)+wrap64 ((bits .xor .i64 (bits .xor .i64 (bits .xor .i64 (bits .xor .i64 (bits .xor .i64 ((y.1:Int)/64) ((y.1:Int)/4)) ((y.1:Int)/8)) ((y.1:Int)/16)) ((y.1:Int)/32)) 1).tmod 2*64))=(Jm y.1 7:Nat):=by decide +kernel
theorem Rs:∀ y:Fin 256,wrap64 ((Jm y.1 7:Nat)+wrap64 ((bits .xor .i64 (bits .xor .i64 (bits .xor .i64 (bits .xor .i64 (bits .xor .i64 ((y.1:Int)/128) ((y.1:Int)/8)) ((y.1:Int)/16)) ((y.1:Int)/32)) ((y.1:Int)/64)) 0).tmod 2*128))=(Jm y.1 8:Nat):=by decide +kernel
theorem Gw (y:Nat) (hy:y<256) (w:World):Calls Tryz.prog 162 #[.int .i64 y] w fun e w'=>∃ z:Nat,z<256∧Hid (z=Db y)∧e=.returned (.int .u8 z)∧w'=w:=by
 go_enter Tryz.func162,Tryz.ntmps162
 go_wp2
 go_loopw [3,4] (fun vs i wr=>∃ k:Nat,k≤8∧i=.int .i64 k∧vs=.int .i64 (Jm y k:Nat)∧wr=w) (fun _ i _=>8-(intOf i).toNat)
 case atStart=>exact ⟨0,by omega,rfl,rfl,rfl⟩
 case round=>
  obtain ⟨k,hk,rfl,rfl,hw⟩:=hrel
  obtain rfl:=hw.symm
  have h9:k=0∨k=1∨k=2∨k=3∨k=4∨k=5∨k=6∨k=7∨k=8:=by omega
  clear hk
  rcases h9 with rfl | rfl | rfl | rfl | rfl | rfl | rfl | rfl | rfl
  ·go_wp2
   exact ⟨⟨1,by omega,rfl,Ya (Rz ⟨y,hy⟩),trivial⟩,by decide +kernel⟩
  ·go_wp2
   exact ⟨⟨2,by omega,rfl,Ya (Ry ⟨y,hy⟩),trivial⟩,by decide +kernel⟩
  ·go_wp2
   exact ⟨⟨3,by omega,rfl,Ya (Rx ⟨y,hy⟩),trivial⟩,by decide +kernel⟩
  ·go_wp2
   exact ⟨⟨4,by omega,rfl,Ya (Rw ⟨y,hy⟩),trivial⟩,by decide +kernel⟩
  ·go_wp2
   exact ⟨⟨5,by omega,rfl,Ya (Rv ⟨y,hy⟩),trivial⟩,by decide +kernel⟩
  ·go_wp2
   exact ⟨⟨6,by omega,rfl,Ya (Ru ⟨y,hy⟩),trivial⟩,by decide +kernel⟩
  ·go_wp2
   exact ⟨⟨7,by omega,rfl,Ya (Rt ⟨y,hy⟩),trivial⟩,by decide +kernel⟩
  ·go_wp2
   exact ⟨⟨8,by omega,rfl,Ya (Rs ⟨y,hy⟩),trivial⟩,by decide +kernel⟩
  ·go_wp2
   go_ret
   refine ⟨Db y,B3 ⟨y,hy⟩,rfl,Xt ?_,rfl⟩
   have h1:=Pq ⟨y,hy⟩
   have h2:=B3 ⟨y,hy⟩
   simp only at h1 h2
   omega
end Go.Proofs.YtehlppaidgkpaaaGreatDoor
