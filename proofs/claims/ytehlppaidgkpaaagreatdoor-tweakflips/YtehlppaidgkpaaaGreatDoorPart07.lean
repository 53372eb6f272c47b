import Derived.Test.YtehlppaidgkpaaaGreatDoorBoth
import Derived.Test.YtehlppaidgkpaaaGreatDoorDgNarrow
import Derived.Test.YtehlppaidgkpaaaGreatDoorDgWR
namespace Go.Proofs.YtehlppaidgkpaaaGreatDoor
open Go.RowKit
set_option linter.unusedVariables false
theorem Ji (a b:Nat) (ha:a<256) (hb:b<256) (w:World):Calls Tryz.prog 113 #[.int .u8 a,.int .u8 b] w fun e w'=>e=.returned (.int .u8 (Fu 8 0 a b:Nat))∧w'=w:=by
 rw[←I4 a b ha hb]
 exact Ck a b ha hb w
theorem L0 (x k s:Int) (w:World) (hb:bits .and .u64 (IntKind.u64.wrap k) 7=s) (h0:0≤s) (h1:s≤8) (h2:IntKind.u64.wrap (8-s)=8-s):Calls Tryz.prog 164 #[.int .u8 x,.int .i64 k] w fun e w'=>e=.returned (.int .u8 (bits .or .u8 (x*2^s.toNat%256) (x/2^(8-s).toNat)))∧w'=w:=by
 have h3:0≤8-s:=by omega
 go_enter Tryz.func164,Tryz.ntmps164
 go_wp2
 go_ret
 exact ⟨rfl,rfl⟩
def Wx (x s:Nat):Nat:=Nat.lor (Nat.mod (Nat.mul x (Nat.pow 2 s)) 256) (Nat.div x (Nat.pow 2 (Nat.sub 8 s)))
theorem Em:∀ x:Fin 256,∀ s:Fin 8,bits .or .u8 ((x.1:Int)*2^s.1%256) ((x.1:Int)/2^(8-s.1))=(Wx x.1 s.1:Nat):=by decide +kernel
theorem Oi:∀ s:Fin 8,bits .and .u64 (IntKind.u64.wrap (s.1:Int)) 7=(s.1:Int)∧IntKind.u64.wrap (8-(s.1:Int))=8-(s.1:Int):=by decide +kernel
theorem Zdg {x:Nat} {w:World} (s:Nat) (hx:x<256) (hs:s<8):Calls Tryz.prog 164 #[.int .u8 x,.int .i64 s] w fun e w'=>e=.returned (.int .u8 (Wx x s:Nat))∧w'=w:=by
 have h:=L0 x s s w (Oi ⟨s,hs⟩).1 (by omega) (by omega) (Oi ⟨s,hs⟩).2
 have e:bits .or .u8 ((x:Int)*2^(s:Int).toNat%256) ((x:Int)/2^(8-(s:Int)).toNat)=(Wx x s:Nat):=by
  rw[show (8-(s:Int)).toNat=8-s by omega,show (s:Int).toNat=s by omega]
  exact Em ⟨x,hx⟩ ⟨s,hs⟩
 rw[e] at h
 exact h
theorem Df {x:Nat} {w:World} (s:Nat) (hx:x<256) (hs:s<8):Calls Tryz.prog 164 #[.int .u8 x,.int .i64 s] w fun e w'=>∃ y:Nat,Hid (y=Wx x s)∧e=.returned (.int .u8 y)∧w'=w:=
 (Zdg s hx hs).mono fun e w' ⟨h1,h2⟩=>⟨_,rfl,h1,h2⟩
def H6 (y:Nat):Nat:=Nat.xor (Nat.xor (Nat.xor (Nat.xor (Nat.xor y (Wx y 1)) (Wx y 2)) (Wx y 3)) (Wx y 4)) 99
theorem Ed:∀ y:Fin 256,bits .xor .u8 (bits .xor .u8 (bits .xor .u8 (bits .xor .u8 (bits .xor .u8 (y.1:Int) (Wx y.1 1:Nat)) (Wx y.1 2:Nat)) (Wx y.1 3:Nat)) (Wx y.1 4:Nat)) 99=(H6 y.1:Nat):=by decide +kernel
theorem B1:∀ y:Fin 256,H6 y.1<256:=by decide +kernel
theorem Lr (y:Nat) (hy:y<256) (w:World):Calls Tryz.prog 116 #[.int .u8 y] w fun e w'=>∃ z:Nat,z<256∧Hid (z=H6 y)∧e=.returned (.int .u8 z)∧w'=w:=by
 go_enter Tryz.func116,Tryz.ntmps116
 go_wp2_with (first | (go_at_call 164;(refine (Df 1 hy (by decide)).mono ?_)))
 rintro e1 w1 ⟨y1,H1,rfl,hw1⟩
 obtain rfl:=hw1.symm
 go_wp2_with (first | (go_at_call 164;(refine (Df 2 hy (by decide)).mono ?_)))
 rintro e1 w1 ⟨y2,H2,rfl,hw1⟩
 obtain rfl:=hw1.symm
 go_wp2_with (first | (go_at_call 164;(refine (Df 3 hy (by decide)).mono ?_)))
 rintro e1 w1 ⟨y3,H3,rfl,hw1⟩
 obtain rfl:=hw1.symm
 go_wp2_with (first | (go_at_call 164;(refine (Df 4 hy (by decide)).mono ?_)))
 rintro e1 w1 ⟨y4,H4,rfl,hw1⟩
 obtain rfl:=hw1.symm
 go_wp2
 go_ret
 refine ⟨H6 y,B1 ⟨y,hy⟩,rfl,Xk ?_,rfl⟩
 rw[H1.out,H2.out,H3.out,H4.out]
 exact Ed ⟨y,hy⟩
def Zdj (y i:Nat):Nat:=Nat.mod (Nat.xor (Nat.xor (Nat.xor (Nat.xor (Nat.xor (y/2^i) (y/2^((i+4)%8))) (y/2^((i+5)%8))) (y/2^((i+6)%8))) (y/2^((i+7)%8))) (99/2^i)) 2
def Jn (y:Nat):Nat→Nat
 | 0=>0
 | i+1=>Jn y i+Zdj y i*2^i
theorem P9:∀ y:Fin 256,Jn y.1 8=H6 y.1:=by decide +kernel
theorem R3:∀ y:Fin 256,wrap64 ((Jn y.1 0:Nat)+wrap64 ((bits .xor .i64 (bits .xor .i64 (bits .xor .i64 (bits .xor .i64 (bits .xor .i64 (y.1:Int) ((y.1:Int)/16)) ((y.1:Int)/32)) ((y.1:Int)/64)) ((y.1:Int)/128)) 99).tmod 2))=(Jn y.1 1:Nat):=by decide +kernel
theorem R2:∀ y:Fin 256,wrap64 ((Jn y.1 1:Nat)+wrap64 ((bits .xor .i64 (bits .xor .i64 (bits .xor .i64 (bits .xor .i64 (bits .xor .i64 ((y.1:Int)/2) ((y.1:Int)/32)) ((y.1:Int)/64)) ((y.1:Int)/128)) (y.1:Int)) 49).tmod 2*2))=(Jn y.1 2:Nat):=by decide +kernel
theorem R0:∀ y:Fin 256,wrap64 ((Jn y.1 2:Nat)+wrap64 ((bits .xor .i64 (bits .xor .i64 (bits .xor .i64 (bits .xor .i64 (bits .xor .i64 ((y.1:Int)/4) ((y.1:Int)/64)) ((y.1:Int)/128)) (y.1:Int)) ((y.1:Int)/2)) 24).tmod 2*4))=(Jn y.1 3:Nat):=by decide +kernel
theorem Rz:∀ y:Fin 256,wrap64 ((Jn y.1 3:Nat)+wrap64 ((bits .xor .i64 (bits .xor .i64 (bits .xor .i64 (bits .xor .i64 (bits .xor .i64 ((y.1:Int)/8) ((y.1:Int)/128)) (y.1:Int)) ((y.1:Int)/2)) ((y.1:Int)/4)) 12).tmod 2*8))=(Jn y.1 4:Nat):=by decide +kernel
theorem Ry:∀ y:Fin 256,wrap64 ((Jn y.1 4:Nat)+wrap64 ((bits .xor .i64 (bits .xor .i64 (bits .xor .i64 (bits .xor .i64 (bits .xor .i64 ((y.1:Int)/16) (y.1:Int)) ((y.1:Int)/2)) ((y.1:Int)/4)) ((y.1:Int)/8)) 6).tmod 2*16))=(Jn y.1 5:Nat):=by decide +kernel
theorem Rx:∀ y:Fin 256,wrap64 ((Jn y.1 5:Nat)+wrap64 ((bits .xor .i64 (bits .xor .i64 (bits .xor .i64 (bits .xor .i64 (bits .xor .i64 ((y.1:Int)/32) ((y.1:Int)/2)) ((y.1:Int)/4)) ((y.1:Int)/8)) ((y.1:Int)/16)) 3).tmod 2*32))=(Jn y.1 6:Nat):=by decide +kernel
theorem Rw:∀ y:Fin 256,wrap64 ((Jn y.1 6:Nat)+wrap64 ((bits .xor .i64 (bits .xor .i64 (bits .xor .i64 (bits .xor .i64 (bits .xor .i64 ((y.1:Int)/64) ((y.1:Int)/4)) ((y.1:Int)/8)) ((y.1:Int)/16)) ((y.1:Int)/32)) 1).tmod 2*64))=(Jn y.1 7:Nat):=by decide +kernel
theorem Rv:∀ y:Fin 256,wrap64 ((Jn y.1 7:Nat)+wrap64 ((bits .xor .i64 (bits .xor .i64 (bits .xor .i64 (bits .xor .i64 (bits .xor .i64 ((y.1:Int)/128) ((y.1:Int)/8)) ((y.1:Int)/16)) ((y.1:Int)/32)) ((y.1:Int)/64)) 0).tmod 2*128))=(Jn y.1 8:Nat):=by decide +kernel
theorem Gy (y:Nat) (hy:y<256) (w:World):Calls Tryz.prog 162 #[.int .i64 y] w fun e w'=>∃ z:Nat,z<256∧Hid (z=H6 y)∧e=.returned (.int .u8 z)∧w'=w:=by
 go_enter Tryz.func162,Tryz.ntmps162
 go_wp2
 go_loopw [3,4] (fun vs i wr=>∃ k:Nat,k≤8∧i=.int .i64 k∧vs=.int .i64 (Jn y k:Nat)∧wr=w) (fun _ i _=>8-(intOf i).toNat)
 case atStart=>exact ⟨0,by omega,rfl,rfl,rfl⟩
 case round=>
  obtain ⟨k,hk,rfl,rfl,hw⟩:=hrel
  obtain rfl:=hw.symm
  have h9:k=0∨k=1∨k=2∨k=3∨k=4∨k=5∨k=6∨k=7∨k=8:=by omega
  clear hk
  rcases h9 with rfl | rfl | rfl | rfl | rfl | rfl | rfl | rfl | rfl
  ·go_wp2
   exact ⟨⟨1,by omega,rfl,Yb (R3 ⟨y,hy⟩),trivial⟩,by decide +kernel⟩
  ·go_wp2
   exact ⟨⟨2,by omega,rfl,Yb (R2 ⟨y,hy⟩),trivial⟩,by decide +kernel⟩
  ·go_wp2
   exact ⟨⟨3,by omega,rfl,Yb (R0 ⟨y,hy⟩),trivial⟩,by decide +kernel⟩
  ·go_wp2
   exact ⟨⟨4,by omega,rfl,Yb (Rz ⟨y,hy⟩),trivial⟩,by decide +kernel⟩
  ·go_wp2
   exact ⟨⟨5,by omega,rfl,Yb (Ry ⟨y,hy⟩),trivial⟩,by decide +kernel⟩
  ·go_wp2
   exact ⟨⟨6,by omega,rfl,Yb (Rx ⟨y,hy⟩),trivial⟩,by decide +kernel⟩
  ·go_wp2
   exact ⟨⟨7,by omega,rfl,Yb (Rw ⟨y,hy⟩),trivial⟩,by decide +kernel⟩
  ·go_wp2
   exact ⟨⟨8,by omega,rfl,Yb (Rv ⟨y,hy⟩),trivial⟩,by decide +kernel⟩
  ·go_wp2
   go_ret
   refine ⟨H6 y,B1 ⟨y,hy⟩,rfl,Xk ?_,rfl⟩
   have h1:=P9 ⟨y,hy⟩
   have h2:=B1 ⟨y,hy⟩
   simp only at h1 h2
   omega
end Go.Proofs.YtehlppaidgkpaaaGreatDoor
namespace Go.Proofs.YtehlppaidgkpaaaGreatDoor.Dg
open Go.RowKit
set_option linter.unusedVariables false
theorem Nz {w:World} {k t N:Nat} {F:Nat→Value} (h:∀ j,j<t→w.cell? ⟨k,j,none⟩=some (F j)) (ht:w.there k 0 N) (htN:t<N) (u:Value) (hu:u=F t) :
 (∀ j,j<t+1→(w.setCell ⟨k,t,none⟩ u).cell? ⟨k,j,none⟩=some (F j))∧(w.setCell ⟨k,t,none⟩ u).there k 0 N:=Xv h ht htN u hu
theorem B9 {w:World} {g o k t:Nat} {cs:List Value} (h:w.rangeAt g o cs) (u:Value) (hne:g≠k):(w.setCell ⟨k,t,none⟩ u).rangeAt g o cs:=
 World.rangeAt_setCells_apart h k t [u] (.inl hne)
def Ka (B:Nat→Int) (t:Nat):Nat→Int
 | 0=>0
 | k+1=>bits .or .u64 (Ka B t k*256%18446744073709551616) (B (8*t+k)%18446744073709551616)
def Nn (x:Int):Int:=bits .xor .u64 (bits .xor .u64 (Qj x 45) (Qj x 3)) (x/64)
def No (x:Int):Int:=bits .xor .u64 (bits .xor .u64 (Qj x 63) (Qj x 56)) (x/128)
def Zs (B:Nat→Int) (t:Nat):Int:=
 if t<16 then Ka B t 8 else (Nn (Zs B (t-2))+Zs B (t-7)+No (Zs B (t-15))+Zs B (t-16))%18446744073709551616
termination_by t
decreasing_by all_goals omega
def Vv (C B:Nat→Int) (s:Zb):Zb:=Zb.zip (fun h x=>(h+x)%18446744073709551616) s (X1 C (Zs B) 80 s)
def Xy (C B:Nat→Int) (s:Zb):Nat→Zb
 | 0=>s
 | i+1=>Vv C (fun j=>B (128*i+j)) (Xy C B s i)
set_option maxHeartbeats 6400000 in
set_option maxRecDepth 100000 in
theorem Lm (g o b p n cap:Nat) (s:Zb) (C B:Nat→Int) (w:World) (hg:g<w.heap.size) (hcap:n≤cap) (hcm:cap≤maxLen)
  (hr:w.rangeAt g o s.cells) (ht:w.there g o 8)
  (hB:∀ i,i<n→w.cell? ⟨b,p+i,none⟩=some (.int .u8 (B i)))
  (hsep:b≠g∨p+n≤o∨o+8≤p)
  (hC:∀ t,t<80→w.cell? ⟨5,t,none⟩=some (.int .u64 (C t))) (hg3:5≠g) :
  Calls Tryz.prog 93 #[.pointer (some ⟨g,o,none⟩),.slice (some ⟨b,p,none⟩) n cap] w fun e w'=>e=.returned (.tuple #[])∧Touch w w' g o 8∧w'.rangeAt g o (Xy C B s (n/128)).cells:=by
 have HR:Hid (w.rangeAt g o s.cells):=hr
 have HT:Hid (w.there g o 8):=ht
 have HB:Hid (∀ i,i<n→w.cell? ⟨b,p+i,none⟩=some (.int .u8 (B i))):=hB
 have HC:Hid (∀ t,t<80→w.cell? ⟨5,t,none⟩=some (.int .u64 (C t))):=hC
 have HS:Hid (b≠g∨p+n≤o∨o+8≤p):=hsep
 have hcm':cap≤9223372036854775807:=by unfold maxLen at hcm;omega
 clear hr ht hB hC hcm hsep
 go_enter Tryz.func93,Tryz.ntmps93
 go_wp2
 go_loopw [1] (fun v wr=>∃ i q:Nat,128*i≤n∧(n=128*i∨q=p+128*i)∧v=.slice (some ⟨b,q,none⟩) (n-128*i) (cap-128*i)∧Hid (Touch w wr g o 8)∧Hid (wr.there w.heap.size 0 80∧w.heap.size<wr.heap.size)∧Hid (wr.rangeAt g o (Xy C B s i).cells)) (fun v _=>lenOf v)
 case atStart=>exact ⟨0,p,by omega,.inr (by omega),rfl,(Touch.refl _ _ _ _).alloc _ hg,⟨Zk w _ 197 80 (by decide),by simp⟩,World.rangeAt_alloc HR.out _⟩
 case round=>
  obtain ⟨i,q,hi,hq0,rfl,HT1,HN1,HR1⟩:=hrel
  by_cases hlt:128≤n-128*i
  ·have hq:q=p+128*i:=by omega
   obtain ⟨m,hm⟩:∃ m,m=n-128*i:=⟨_,rfl⟩
   obtain ⟨c,hc⟩:∃ c,c=cap-128*i:=⟨_,rfl⟩
   have hmc:m≤c:=by omega
   have hcc:c≤9223372036854775807:=by omega
   rw[←hm,←hc]
   rw[←hm] at hlt
   have HQ:Hid (q=p+128*i∧m=n-128*i∧c=cap-128*i):=⟨hq,hm,hc⟩
   have HBq:Hid (∀ j,j<128→w.cell? ⟨b,q+j,none⟩=some (.int .u8 (B (128*i+j)))):=fun j hj=>by
    have:=HB.out (128*i+j) (by omega)
    rw[←Nat.add_assoc,←hq] at this
    exact this
   have HSq:Hid (b≠g∨q+128≤o∨o+8≤q):=by rcases HS.out with h | h;exact .inl h;exact .inr (by omega)
   clear hq hm hc hq0
   go_wp2
   rw[show decide ((128:Int)≤(m:Int))=true by simp;omega]
   go_loopw [19] (fun v wr=>∃ t:Nat,t≤16∧v=.int .i64 t∧Hid (Touch w wr g o 8)∧Hid (wr.there w.heap.size 0 80∧w.heap.size<wr.heap.size)∧Hid (wr.rangeAt g o (Xy C B s i).cells)∧Hid (∀ j,j<t→wr.cell? ⟨w.heap.size,j,none⟩=some (.int .u64 (Zs (fun j=>B (128*i+j)) j)))) (fun v _=>16-(intOf v).toNat)
   case atStart=>exact ⟨0,by omega,rfl,HT1,HN1,HR1,fun j hj=>by omega⟩
   case round=>
    obtain ⟨t,ht,rfl,HT2,HN2,HR2,HF2⟩:=hrel
    clear HT1 HN1 HR1
    by_cases h16:t<16
    ·have fw:wr.frozen? ⟨w.heap.size,t,none⟩=false:=by simpa using (HN2.out.1 t (by omega)).2
     obtain ⟨u,fu⟩:∃ u,wr.cell? ⟨w.heap.size,t,none⟩=some u:=by simpa [Option.isSome_iff_exists] using (HN2.out.1 t (by omega)).1
     go_wp2
     go_loop [6,30] (fun x v=>∃ k:Nat,k≤8∧v=.int .i64 k∧x=.int .u64 (Ka (fun j=>B (128*i+j)) t k)) (fun _ v=>8-(intOf v).toNat)
     case atStart=>exact ⟨0,by omega,rfl,rfl⟩
     case round=>
      obtain ⟨k,hk,rfl,rfl⟩:=hrel
      by_cases h8:k<8
      ·have f0:wr.cell? ⟨b,q+8*t+k,none⟩=some (.int .u8 (B (128*i+(8*t+k)))):=HT2.out.outside (by have:=HBq.out (8*t+k) (by omega);rw[←Nat.add_assoc] at this;exact this) (by rcases HSq.out with h | h;exact .inl h;exact .inr (by omega))
       go_wp2
       go_round
       case rel=>exact ⟨k+1,by omega,by go_num,Yb (by rw[IntKind.wrap_u64,IntKind.wrap_u64];exact rfl)⟩
       case measure=>simp [intOf];omega
      ·obtain rfl:k=8:=by omega
       go_wp2
       go_roundw
       case rel=>
        have hfill:=Nz (F:=fun j=>.int .u64 (Zs (fun j=>B (128*i+j)) j)) HF2.out HN2.out.1 (show t<80 by omega) (.int .u64 (Ka (fun j=>B (128*i+j)) t 8)) (by rw[Zs,if_pos h16])
        exact ⟨t+1,by omega,by go_num,HT2.out.setNew w.heap.size t _ (Nat.le_refl _) hg,⟨hfill.2,by simpa using HN2.out.2⟩,B9 HR2.out _ (by omega),hfill.1⟩
       case measure=>simp [intOf];omega
    ·obtain rfl:t=16:=by omega
     clear h16 ht HBq HSq
     go_wp2
     rw[show ((16:Nat):Int)=16 from rfl]
     go_loopw [9] (fun v wr=>∃ t:Nat,t≤64∧v=.int .i64 (16+(t:Int))∧Hid (Touch w wr g o 8)∧Hid (wr.there w.heap.size 0 80∧w.heap.size<wr.heap.size)∧Hid (wr.rangeAt g o (Xy C B s i).cells)∧Hid (∀ j,j<16+t→wr.cell? ⟨w.heap.size,j,none⟩=some (.int .u64 (Zs (fun j=>B (128*i+j)) j)))) (fun v _=>80-(intOf v).toNat)
     case atStart=>exact ⟨0,by omega,rfl,HT2,HN2,HR2,HF2⟩
     case round=>
      obtain ⟨t,ht,rfl,HT3,HN3,HR3,HF3⟩:=hrel
      clear HT2 HN2 HR2 HF2
      by_cases h48:t<64
      ·have f2:wr.cell? ⟨w.heap.size,t+14,none⟩=some (.int .u64 (Zs (fun j=>B (128*i+j)) (t+14))):=HF3.out _ (by omega)
       have f15:wr.cell? ⟨w.heap.size,t+1,none⟩=some (.int .u64 (Zs (fun j=>B (128*i+j)) (t+1))):=HF3.out _ (by omega)
       have f7:wr.cell? ⟨w.heap.size,t+9,none⟩=some (.int .u64 (Zs (fun j=>B (128*i+j)) (t+9))):=HF3.out _ (by omega)
       have f16:wr.cell? ⟨w.heap.size,t,none⟩=some (.int .u64 (Zs (fun j=>B (128*i+j)) t)):=HF3.out _ (by omega)
       have fw:wr.frozen? ⟨w.heap.size,t+16,none⟩=false:=by simpa using (HN3.out.1 (t+16) (by omega)).2
       obtain ⟨u,fu⟩:∃ u,wr.cell? ⟨w.heap.size,t+16,none⟩=some u:=by simpa [Option.isSome_iff_exists] using (HN3.out.1 (t+16) (by omega)).1
       have e2:(16+(t:Int)-2).toNat=t+14:=by omega
       have e15:(16+(t:Int)-15).toNat=t+1:=by omega
       have e7:(16+(t:Int)-7).toNat=t+9:=by omega
       have e16:(16+(t:Int)-16).toNat=t:=by omega
       have e0:(16+(t:Int)).toNat=t+16:=by omega
       go_wp2
       go_quiet (fail)
       go_wp2_with (first | (go_at_call 125;(first | refine (Yh 19 (by decide +kernel)).mono ?_ | refine (Yh 61 (by decide +kernel)).mono ?_ | refine (Yh 1 (by decide +kernel)).mono ?_ | refine (Yh 8 (by decide +kernel)).mono ?_);(rintro e1 w1 ⟨rfl,hw1⟩;obtain rfl:=hw1.symm)))
       go_region
       go_wp2
       go_roundw
       case rel=>
        have hv:Zs (fun j=>B (128*i+j)) (t+16)=(Nn (Zs (fun j=>B (128*i+j)) (t+14))+Zs (fun j=>B (128*i+j)) (t+9)+No (Zs (fun j=>B (128*i+j)) (t+1))+Zs (fun j=>B (128*i+j)) t)%18446744073709551616:=by
         rw[Zs,if_neg (by omega)]
         rw[show t+16-2=t+14 by omega,show t+16-7=t+9 by omega,show t+16-15=t+1 by omega,show t+16-16=t by omega]
        have hF:∀ j,j<t+16→wr.cell? ⟨w.heap.size,j,none⟩=some (.int .u64 (Zs (fun j=>B (128*i+j)) j)):=fun j hj=>HF3.out j (by omega)
        have hfill:=Xv (w:=wr.drewN nq) (F:=fun j=>.int .u64 (Zs (fun j=>B (128*i+j)) j)) hF HN3.out.1 (show t+16<80 by omega) (.int .u64 (IntKind.u64.wrap (IntKind.u64.wrap (IntKind.u64.wrap (Nn (Zs (fun j=>B (128*i+j)) (t+14))+Zs (fun j=>B (128*i+j)) (t+9))+No (Zs (fun j=>B (128*i+j)) (t+1)))+Zs (fun j=>B (128*i+j)) t))) (Yb (by rw[hv];simp only[IntKind.wrap_u64,Int.emod_add_emod]))
        exact ⟨t+1,by omega,by go_num,((HT3.out.drewN nq).setNew w.heap.size (t+16) _ (Nat.le_refl _) hg).drew,⟨hfill.2,by simpa using HN3.out.2⟩,V7 (w:=wr.drewN nq) HR3.out _ (by omega),fun j hj=>hfill.1 j (by omega)⟩
       case measure=>simp [intOf];omega
      ·obtain rfl:t=64:=by omega
       clear h48 ht
       go_wp2_with fail
       have hs:=HT3.out.size
       refine (Fx g o w.heap.size _ _ _ _ _ _ _ _ (Zs (fun j=>B (128*i+j))) C wr HR3.out (HT3.out.there _ _ HT.out) (fun j hj=>HF3.out j (by omega)) (fun j hj=>HT3.out.outside (HC.out j hj) (.inl hg3))).mono ?_
       rintro e w4 ⟨rfl,ht4,hr4⟩
       have HT4:Hid (Touch w w4 g o 8):=HT3.out.trans ht4
       have HN4:Hid (w4.there w.heap.size 0 80∧w.heap.size<w4.heap.size):=⟨ht4.thereFar HN3.out.1 HN3.out.2 (by omega),Nat.lt_of_lt_of_le HN3.out.2 ht4.size⟩
       have HR4:Hid (w4.rangeAt g o (Xy C B s (i+1)).cells):=hr4
       clear ht4 hr4 HT3 HN3 HR3 HF3 hs
       go_wp2
       go_roundw
       case rel=>
        obtain ⟨h1,h2,h3⟩:=HQ.out
        exact ⟨i+1,if c=128 then q else q+128,by omega,(by split<;>omega),Cf (by split<;>rfl) (by omega) (by omega),HT4,HN4,HR4⟩
       case measure=>simp [lenOf];omega
  ·go_wp2
   go_end0
   refine ⟨rfl,HT1.out,?_⟩
   rw[show n/128=i by omega]
   exact HR1.out
end Go.Proofs.YtehlppaidgkpaaaGreatDoor.Dg
