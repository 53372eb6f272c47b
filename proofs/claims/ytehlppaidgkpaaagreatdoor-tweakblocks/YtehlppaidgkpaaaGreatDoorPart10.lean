import Derived.Test.YtehlppaidgkpaaaGreatDoorNmc
import Derived.Deep.OwnRows
import Derived.Test.YtehlppaidgkpaaaGreatDoorFdFld
import Derived.Test.YtehlppaidgkpaaaGreatDoorPart00
import Derived.Lib.SliceRun
import Derived.Deep.CutRange
import Derived.Deep.RegionHeld3
import Derived.BigRegion
import Derived.Deep.QuietTactic
import Derived.BigQuiet
namespace Go.Proofs.YtehlppaidgkpaaaGreatDoor
open Go.RowKit
set_option linter.unusedVariables false
def spN (j:Nat):ByteArray:=match sxF j with
 | .string s::_=>s
 | _=>⟨#[]⟩
theorem Zb2 (j : Nat) : ∃ (a x y z : Int) (s : ByteArray) (f g : Value), sxF j = [.string (spN j), .int .i64 a, .string s, .int .i64 x, .int .i64 y, .int .i64 z, f, g] ∧ f.oneCell' = true ∧ g.oneCell' = true := by
  cases j with
  | zero => exact ⟨_, _, _, _, _, _, _, rfl, rfl, rfl⟩
  | succ j =>
    obtain ⟨a, b, c, f, g, h, hf⟩ := G0 (j % 17) (Nat.mod_lt _ (by decide))
    refine ⟨((16 + 8 * (j / 17) : Nat) : Int), a, b, c, nmB (j % 17), f, .func (.func g) #[] #[], ?_, by rcases hf with rfl | ⟨m, rfl⟩ <;> rfl, rfl⟩
    rw [spN, sxF, h]
theorem On {w0 w1 wr:World} {g cap i j:Nat} (h:w1.ownsRow w0.heap.size 96 8 (.slice (some ⟨g,0,none⟩) 52 cap) 52 (fl sxF 52)) (b:Below w1.heap.size w1 wr) (hi:i<52) (hj:j<8):wr.cell? ⟨g,i*8+j,none⟩=(sxF i)[j]?:=by
 have hlt:=(Z2 h (g:=g) rfl).2
 rw[b.cell (p:=⟨g,i*8+j,none⟩) hlt]
 have e:=Eo sxF 8 Rh 52 i j hi hj
 have hx:j<(sxF i).length:=by rw[Rh];exact hj
 rw[List.getElem?_eq_getElem hx] at e ⊢
 have q:=World.ownsRow.cells h (g:=g) rfl (i*8+j) _ e
 rw[Addr.add_lit,Nat.zero_add] at q
 exact q
end Go.Proofs.YtehlppaidgkpaaaGreatDoor
namespace Go.Proofs.YtehlppaidgkpaaaGreatDoor.Fd
open Go.RowKit Go.Proofs.YtehlppaidgkpaaaGreatDoor.Fld
set_option linter.unusedVariables false
def hiV (v:BitVec 128):Nat:=v.toNat/18446744073709551616
def loV (v:BitVec 128):Nat:=v.toNat%18446744073709551616
theorem Q7 (v:BitVec 128):hiV v<18446744073709551616:=by have:=v.isLt;unfold hiV;omega
theorem Wu (v:BitVec 128):loV v<18446744073709551616:=by unfold loV;omega
theorem Sb (a b:BitVec 128):hiV (a ^^^ b)=Nat.xor (hiV a) (hiV b):=by
 have h:∀ x:Nat,x/18446744073709551616=x >>> 64:=fun x=>(Nat.shiftRight_eq_div_pow x 64).symm
 unfold hiV
 rw[BitVec.toNat_xor,h,h,h,Nat.shiftRight_xor_distrib]
 rfl
theorem R8 (a b:BitVec 128):loV (a ^^^ b)=Nat.xor (loV a) (loV b):=by
 unfold loV
 rw[BitVec.toNat_xor]
 exact Nat.xor_mod_two_pow (n:=64)
theorem Zao (v:BitVec 128):hiV (v <<< 1)=hiV v*2%18446744073709551616+loV v/9223372036854775808:=by
 have:=v.isLt
 unfold hiV loV
 rw[BitVec.toNat_shiftLeft,Nat.shiftLeft_eq]
 omega
theorem Zaj (v:BitVec 128):loV (v <<< 1)=loV v*2%18446744073709551616:=by
 have:=v.isLt
 unfold loV
 rw[BitVec.toNat_shiftLeft,Nat.shiftLeft_eq]
 omega
theorem Si (v:BitVec 128) (k:Nat):v.getLsbD k=decide (v.toNat/2^k%2=1):=by
 rw[←BitVec.testBit_toNat,Nat.testBit_eq_decide_div_mod_eq]
theorem Zba (v:BitVec 128):(if v.getLsbD 127 then 1 else 0)=hiV v/9223372036854775808:=by
 have:=v.isLt
 rw[Si]
 unfold hiV
 have e:(2:Nat)^127=170141183460469231731687303715884105728:=by decide
 rw[e]
 by_cases h:v.toNat/170141183460469231731687303715884105728%2=1
 ·simp only[h,decide_true,if_true];omega
 ·simp only[h,decide_false];rw[if_neg (by decide)];omega
def PV (v:BitVec 128):Value:=.agg #[.int .u64 (hiV v:Nat),.int .u64 (loV v:Nat)]
theorem wraps_u64 (n:Int) (h₀:0≤n) (h₁:n<18446744073709551616):IntKind.u64.wrap n=n:=by simp [IntKind.wrap,IntKind.bits,IntKind.signed];omega
theorem Z3:(Tryz.prog.info? 82).map (·.size)=some 2:=by kernel_rfl
theorem Bi (w:World) (o1 o2 o3:Obj):Below w.heap.size w (((w.alloc o1).alloc o2).alloc o3):=(((Below.refl _ w).alloc (Nat.le_refl _) _).alloc (by simp) _).alloc (by simp;omega) _
theorem Mq (w:World) (o1 o2:Obj) (C:Array Value) (t:TypeId):(((w.alloc o1).alloc o2).alloc (.cells C t)).rangeAt (w.heap.size+1+1) 0 C.toList:=by have h:=Zt ((w.alloc o1).alloc o2) C t;simpa using h
theorem Pk (w:World) (o1:Obj) (C:Array Value) (t:TypeId):((w.alloc o1).alloc (.cells C t)).rangeAt (w.heap.size+1) 0 C.toList:=by have h:=Zt (w.alloc o1) C t;simpa using h
theorem Bo (a k:Nat):IntKind.u64.wrap (((a:Nat):Int)*((k:Nat):Int))=((a*k%18446744073709551616:Nat):Int):=by simp [IntKind.wrap,IntKind.bits,IntKind.signed]
theorem Hn (w:World) (o1 o2:Obj):Below w.heap.size w ((w.alloc o1).alloc o2):=((Below.refl _ w).alloc (Nat.le_refl _) _).alloc (by simp) _
theorem Jk (a b:Nat) (ha:a<18446744073709551616) (hb:b<18446744073709551616) :
  bits .xor .u64 a b=((Nat.xor a b:Nat):Int)∧bits .and .u64 a b=((Nat.land a b:Nat):Int)∧bits .or .u64 a b=((Nat.lor a b:Nat):Int):=by
 have ha':a%2^IntKind.u64.bits=a:=Nat.mod_eq_of_lt (by simpa [IntKind.bits] using ha)
 have hb':b%2^IntKind.u64.bits=b:=Nat.mod_eq_of_lt (by simpa [IntKind.bits] using hb)
 refine ⟨?_,?_,?_⟩
 ·simp only[bits,BitVec.ofInt_natCast,BitVec.toNat_xor,BitVec.toNat_ofNat,ha',hb']
  have:a ^^^ b<18446744073709551616:=Nat.xor_lt_two_pow (n:=64) ha hb
  exact wraps_u64 _ (Int.natCast_nonneg _) (by omega)
 ·simp only[bits,BitVec.ofInt_natCast,BitVec.toNat_and,BitVec.toNat_ofNat,ha',hb']
  have:a &&& b<18446744073709551616:=Nat.and_lt_two_pow (n:=64) a hb
  exact wraps_u64 _ (Int.natCast_nonneg _) (by omega)
 ·simp only[bits,BitVec.ofInt_natCast,BitVec.toNat_or,BitVec.toNat_ofNat,ha',hb']
  have:a ||| b<18446744073709551616:=Nat.or_lt_two_pow (n:=64) ha hb
  exact wraps_u64 _ (Int.natCast_nonneg _) (by omega)
theorem Zbo (a:Nat) (ha:a<18446744073709551616):bits .and .u64 (a:Int) 1=((a%2:Nat):Int):=by
 have h:=(Jk a 1 ha (by decide)).2.1
 have e:Nat.land a 1=a%2:=Nat.and_one_is_mod a
 rw[e] at h
 exact h
theorem Jl (v:BitVec 128) (k:Nat):(if v.getLsbD k then 1 else 0)=v.toNat/2^k%2:=by
 rw[Si]
 by_cases h:v.toNat/2^k%2=1
 ·simp [h]
 ·simp only[h,decide_false];rw[if_neg (by decide)];omega
theorem Zdp (v:BitVec 128) (k:Nat) (hk:k<64):(if v.getLsbD k then 1 else 0)=loV v/2^k%2:=by
 rw[Jl]
 have e:(18446744073709551616:Nat)=2^k*(2*2^(63-k)):=by
  have:(18446744073709551616:Nat)=2^64:=by decide
  rw[this,show (64:Nat)=k+(1+(63-k)) by omega,Nat.pow_add,Nat.pow_add]
 unfold loV
 rw[e,Nat.mod_mul_right_div_self,Nat.mod_mul_right_mod]
theorem Zdq (v:BitVec 128) (k:Nat) (hk:64≤k):(if v.getLsbD k then 1 else 0)=hiV v/2^(k-64)%2:=by
 rw[Jl]
 have e:(2:Nat)^k=18446744073709551616*2^(k-64):=by
  have:(18446744073709551616:Nat)=2^64:=by decide
  rw[this,←Nat.pow_add,show 64+(k-64)=k by omega]
 unfold hiV
 rw[e,Nat.div_div_eq_div_mul]
theorem J3 (a k:Nat):((a:Nat):Int)/2^k=((a/2^k:Nat):Int):=by push_cast;rfl
set_option maxHeartbeats 800000 in
set_option maxRecDepth 100000 in
theorem Zdo (v:BitVec 128) (k:Nat) (w:World) (hk:k<128):Calls Tryz.prog 261 #[PV v,.int .i64 (k:Nat)] w fun e w'=>e=.returned (.int .u64 ((if v.getLsbD k then 1 else 0:Nat):Int))∧Below w.heap.size w w':=by
 obtain ⟨c,HC⟩:∃ c:Nat,Hid (c=if v.getLsbD k then 1 else 0):=⟨_,rfl⟩
 rw[←HC.out]
 have HB:Hid (Below w.heap.size w (w.alloc (.cells #[.int .u64 (hiV v:Nat),.int .u64 (loV v:Nat)] 82))):=(Below.refl _ w).alloc (Nat.le_refl _) _
 by_cases h64:k<64
 ·have i64:((k:Nat):Int)<64:=by omega
  have ha:bits .and .u64 (((loV v:Nat):Int)/2^k) 1=((c:Nat):Int):=by
   rw[J3,Zbo _ (Nat.lt_of_le_of_lt (Nat.div_le_self _ _) (Wu v)),HC.out,Zdp v k h64]
  unfold PV
  obtain ⟨hi,HH⟩:∃ x,Hid (x=hiV v):=⟨_,rfl⟩
  obtain ⟨lo,HL⟩:∃ x,Hid (x=loV v):=⟨_,rfl⟩
  rw[←HL.out] at ha
  rw[←HH.out,←HL.out] at HB ⊢
  go_enter Tryz.func261,Tryz.ntmps261
  go_wp2
  go_ret
  exact ⟨rfl,HB.out⟩
 ·have i64:¬ ((k:Nat):Int)<64:=by omega
  have ha:bits .and .u64 (((hiV v:Nat):Int)/2^(k-64)) 1=((c:Nat):Int):=by
   rw[J3,Zbo _ (Nat.lt_of_le_of_lt (Nat.div_le_self _ _) (Q7 v)),HC.out,Zdq v k (by omega)]
  unfold PV
  obtain ⟨hi,HH⟩:∃ x,Hid (x=hiV v):=⟨_,rfl⟩
  obtain ⟨lo,HL⟩:∃ x,Hid (x=loV v):=⟨_,rfl⟩
  rw[←HH.out] at ha
  rw[←HH.out,←HL.out] at HB ⊢
  go_enter Tryz.func261,Tryz.ntmps261
  go_wp2
  go_ret
  exact ⟨rfl,HB.out⟩
set_option maxHeartbeats 800000 in
set_option maxRecDepth 100000 in
theorem O6 (a b:BitVec 128) (c:Bool) (w:World):Calls Tryz.prog 260 #[PV a,PV b,.int .u64 ((if c then 1 else 0:Nat):Int)] w fun e w'=>e=.returned (PV (a ^^^ (if c then b else 0#128)))∧Below w.heap.size w w':=by
 obtain ⟨r,HR⟩:∃ r,Hid (r=a ^^^ (if c then b else 0#128)):=⟨_,rfl⟩
 rw[←HR.out]
 have h1:bits .xor .u64 ((hiV a:Nat):Int) (((hiV b*(if c then 1 else 0:Nat):Nat)):Int)=((hiV r:Nat):Int):=by
  have:hiV b*(if c then 1 else 0:Nat)<18446744073709551616:=by have:=Q7 b;cases c<;>simp<;>omega
  rw[(Jk _ _ (Q7 a) this).1,HR.out,Sb]
  cases c
  ·simp [hiV]
  ·simp
 have h2:bits .xor .u64 ((loV a:Nat):Int) (((loV b*(if c then 1 else 0:Nat):Nat)):Int)=((loV r:Nat):Int):=by
  have:loV b*(if c then 1 else 0:Nat)<18446744073709551616:=by have:=Wu b;cases c<;>simp<;>omega
  rw[(Jk _ _ (Wu a) this).1,HR.out,R8]
  cases c
  ·simp [loV]
  ·simp
 have b1:=Q7 b
 have b2:=Wu b
 unfold PV
 obtain ⟨ah,HA⟩:∃ x,Hid (x=hiV a):=⟨_,rfl⟩
 obtain ⟨al,HAL⟩:∃ x,Hid (x=loV a):=⟨_,rfl⟩
 obtain ⟨bh,HB⟩:∃ x,Hid (x=hiV b):=⟨_,rfl⟩
 obtain ⟨bl,HBL⟩:∃ x,Hid (x=loV b):=⟨_,rfl⟩
 obtain ⟨rh,HRH⟩:∃ x,Hid (x=hiV r):=⟨_,rfl⟩
 obtain ⟨rl,HRL⟩:∃ x,Hid (x=loV r):=⟨_,rfl⟩
 rw[←HA.out,←HB.out,←HRH.out] at h1
 rw[←HAL.out,←HBL.out,←HRL.out] at h2
 rw[←HB.out] at b1
 rw[←HBL.out] at b2
 rw[←HA.out,←HAL.out,←HB.out,←HBL.out,←HRH.out,←HRL.out]
 have HBB:Hid (Below w.heap.size w (((w.alloc (.cells #[.int .u64 (ah:Nat),.int .u64 (al:Nat)] 82)).alloc (.cells #[.int .u64 (bh:Nat),.int .u64 (bl:Nat)] 82)).alloc (.cells #[.int .u64 (rh:Nat),.int .u64 (rl:Nat)] 82))):=Bi w _ _ _
 cases c
 ·simp at h1 h2
  go_enter Tryz.func260,Tryz.ntmps260
  go_wp2
  refine Z4 [.int .u64 (rh:Nat),.int .u64 (rl:Nat)] Tryz.results260 rfl (Mq w _ _ #[.int .u64 (rh:Nat),.int .u64 (rl:Nat)] 82) Tryz.underlying82 rfl Z3 ⟨rfl,HBB.out⟩
 ·simp at h1 h2
  go_enter Tryz.func260,Tryz.ntmps260
  go_wp2
  refine Z4 [.int .u64 (rh:Nat),.int .u64 (rl:Nat)] Tryz.results260 rfl (Mq w _ _ #[.int .u64 (rh:Nat),.int .u64 (rl:Nat)] 82) Tryz.underlying82 rfl Z3 ⟨rfl,HBB.out⟩
theorem Ze8 (v:BitVec 128):hiV (TX v)=hiV v*2%18446744073709551616+loV v/9223372036854775808:=by
 unfold TX
 rw[Sb,Zao]
 have:hiV (if v.getLsbD 127 then 0x87#128 else 0#128)=0:=by split<;>decide
 rw[this]
 exact Nat.xor_zero _
theorem Ze7 (v:BitVec 128):loV (TX v)=Nat.xor (loV v*2%18446744073709551616) (135*(hiV v/9223372036854775808)):=by
 unfold TX
 rw[R8,Zaj,←Zba]
 congr 1
 split<;>decide
theorem Pp (a b k:Nat) (ha:a%2^k=0) (hb:b<2^k):Nat.lor a b=a+b:=by
 have e:a=2^k*(a/2^k):=by
  have:=Nat.div_add_mod a (2^k)
  omega
 have h:=Nat.two_pow_add_eq_or_of_lt hb (a/2^k)
 rw[←e] at h
 exact h.symm
set_option maxHeartbeats 800000 in
set_option maxRecDepth 100000 in
theorem Dp (v:BitVec 128) (w:World):Calls Tryz.prog 37 #[PV v] w fun e w'=>e=.returned (PV (TX v))∧Below w.heap.size w w':=by
 have h1:=Q7 v
 have h2:=Wu v
 have e1:bits .or .u64 (IntKind.u64.wrap (((hiV v:Nat):Int)*2)) (((loV v:Nat):Int)/9223372036854775808)=((hiV (TX v):Nat):Int):=by
  have q1:=Bo (hiV v) 2
  have q2:((loV v:Nat):Int)/9223372036854775808=((loV v/9223372036854775808:Nat):Int):=by omega
  rw[show (2:Int)=((2:Nat):Int) from rfl,q1,q2,(Jk _ _ (by omega) (by omega)).2.2,Ze8,Pp _ _ 1 (by omega) (by omega)]
 have e2:bits .xor .u64 (IntKind.u64.wrap (((loV v:Nat):Int)*2)) (135*(((hiV v:Nat):Int)/9223372036854775808))=((loV (TX v):Nat):Int):=by
  have q1:=Bo (loV v) 2
  have q2:135*(((hiV v:Nat):Int)/9223372036854775808)=((135*(hiV v/9223372036854775808):Nat):Int):=by omega
  rw[q2,show (2:Int)=((2:Nat):Int) from rfl,q1,(Jk _ _ (by omega) (by omega)).1,Ze7]
 unfold PV
 obtain ⟨rh,HRH⟩:∃ x,Hid (x=hiV (TX v)):=⟨_,rfl⟩
 obtain ⟨rl,HRL⟩:∃ x,Hid (x=loV (TX v)):=⟨_,rfl⟩
 rw[←HRH.out] at e1
 rw[←HRL.out] at e2
 rw[←HRH.out,←HRL.out]
 obtain ⟨ah,HA⟩:∃ x,Hid (x=hiV v):=⟨_,rfl⟩
 obtain ⟨al,HAL⟩:∃ x,Hid (x=loV v):=⟨_,rfl⟩
 rw[←HA.out] at h1 e1 e2 ⊢
 rw[←HAL.out] at h2 e1 e2 ⊢
 have HBB:Hid (Below w.heap.size w ((w.alloc (.cells #[.int .u64 (ah:Nat),.int .u64 (al:Nat)] 82)).alloc (.cells #[.int .u64 (rh:Nat),.int .u64 (rl:Nat)] 82))):=Hn w _ _
 go_enter Tryz.func37,Tryz.ntmps37
 go_wp2
 refine Z4 [.int .u64 (rh:Nat),.int .u64 (rl:Nat)] Tryz.results37 rfl (Pk w _ #[.int .u64 (rh:Nat),.int .u64 (rl:Nat)] 82) Tryz.underlying82 rfl Z3 ⟨rfl,HBB.out⟩
set_option linter.unusedSimpArgs false
def byV (v:BitVec 128) (i:Nat):Nat:=v.toNat/256^i%256
theorem Qx (v:BitVec 128) (i:Nat):byV v i<256:=Nat.mod_lt _ (by decide)
def BL (v:BitVec 128):List Value:=[.int .u8 (byV v 0:Nat),.int .u8 (byV v 1:Nat),.int .u8 (byV v 2:Nat),.int .u8 (byV v 3:Nat),.int .u8 (byV v 4:Nat),.int .u8 (byV v 5:Nat),.int .u8 (byV v 6:Nat),.int .u8 (byV v 7:Nat),.int .u8 (byV v 8:Nat),.int .u8 (byV v 9:Nat),.int .u8 (byV v 10:Nat),.int .u8 (byV v 11:Nat),.int .u8 (byV v 12:Nat),.int .u8 (byV v 13:Nat),.int .u8 (byV v 14:Nat),.int .u8 (byV v 15:Nat)]
def BV (v:BitVec 128):Value:=.agg #[.int .u8 (byV v 0:Nat),.int .u8 (byV v 1:Nat),.int .u8 (byV v 2:Nat),.int .u8 (byV v 3:Nat),.int .u8 (byV v 4:Nat),.int .u8 (byV v 5:Nat),.int .u8 (byV v 6:Nat),.int .u8 (byV v 7:Nat),.int .u8 (byV v 8:Nat),.int .u8 (byV v 9:Nat),.int .u8 (byV v 10:Nat),.int .u8 (byV v 11:Nat),.int .u8 (byV v 12:Nat),.int .u8 (byV v 13:Nat),.int .u8 (byV v 14:Nat),.int .u8 (byV v 15:Nat)]
theorem Qc (v:BitVec 128) (j:Nat) (hj:j<16):(BL v)[j]?=some (.int .u8 (byV v j:Nat)):=by
 have h16:j=0∨j=1∨j=2∨j=3∨j=4∨j=5∨j=6∨j=7∨j=8∨j=9∨j=10∨j=11∨j=12∨j=13∨j=14∨j=15:=by omega
 rcases h16 with rfl | rfl | rfl | rfl | rfl | rfl | rfl | rfl | rfl | rfl | rfl | rfl | rfl | rfl | rfl | rfl<;>rfl
theorem V7 (x k:Nat):x%256^(k+1)=x%256^k+(x/256^k%256)*256^k:=by
 rw[Nat.pow_succ,Nat.mod_mul,Nat.mul_comm]
theorem E9 (v:BitVec 128) (k:Nat):byV v (8+k)=hiV v/256^k%256:=by
 unfold byV hiV
 rw[Nat.pow_add,show (256:Nat)^8=18446744073709551616 from by decide,Nat.div_div_eq_div_mul]
theorem O9 (x k:Nat) (hk:k<8):bits .or .u64 ((x%256^k:Nat):Int) (((x/256^k%256)*256^k:Nat):Int)=((x%256^(k+1):Nat):Int):=by
 have hp:0<256^k:=Nat.pow_pos (by decide)
 have h1:x%256^k<256^k:=Nat.mod_lt _ hp
 have h2:256^k≤256^7:=Nat.pow_le_pow_right (by decide) (by omega)
 have h3:(x/256^k%256)*256^k≤255*256^k:=Nat.mul_le_mul_right _ (by omega)
 have e7:(256:Nat)^7=72057594037927936:=by decide
 have hb:=(Jk (x%256^k) ((x/256^k%256)*256^k) (by omega) (by omega)).2.2
 have hc:Nat.lor (x%256^k) ((x/256^k%256)*256^k)=x%256^k+(x/256^k%256)*256^k:=by
  have e:(256:Nat)^k=2^(8*k):=by rw[Nat.pow_mul]
  have h:=Pp ((x/256^k%256)*256^k) (x%256^k) (8*k) (by rw[←e];exact Nat.mul_mod_left _ _) (by rw[←e];exact h1)
  have hcm:Nat.lor (x%256^k) ((x/256^k%256)*256^k)=Nat.lor ((x/256^k%256)*256^k) (x%256^k):=Nat.or_comm _ _
  rw[hcm,h,Nat.add_comm]
 rw[hb,hc,←V7]
theorem B5 (x k:Nat) (hk:k<8):bits .or .u64 ((x%256^k:Nat):Int) (IntKind.u64.wrap (((x/256^k%256:Nat):Int)*2^(8*k)))=((x%256^(k+1):Nat):Int):=by
 have e:(256:Nat)^k=2^(8*k):=by rw[Nat.pow_mul]
 have h2:256^k≤256^7:=Nat.pow_le_pow_right (by decide) (by omega)
 have h3:(x/256^k%256)*256^k≤255*256^k:=Nat.mul_le_mul_right _ (by omega)
 have e7:(256:Nat)^7=72057594037927936:=by decide
 have hw:IntKind.u64.wrap (((x/256^k%256:Nat):Int)*2^(8*k))=(((x/256^k%256)*256^k:Nat):Int):=by
  have q:((x/256^k%256:Nat):Int)*2^(8*k)=(((x/256^k%256)*256^k:Nat):Int):=by rw[e,Int.natCast_mul,Int.natCast_pow];rfl
  rw[q]
  exact wraps_u64 _ (Int.natCast_nonneg _) (by omega)
 rw[hw]
 exact O9 x k hk
set_option maxHeartbeats 1600000 in
set_option maxRecDepth 100000 in
theorem Va (v:BitVec 128) (w:World):Calls Tryz.prog 61 #[BV v] w fun e w'=>e=.returned (.tuple #[.int .u64 (hiV v:Nat),.int .u64 (loV v:Nat)])∧Below w.heap.size w w':=by
 have HC:Hid (∀ j,j<16→(w.alloc (.cells #[.int .u8 (byV v 0:Nat),.int .u8 (byV v 1:Nat),.int .u8 (byV v 2:Nat),.int .u8 (byV v 3:Nat),.int .u8 (byV v 4:Nat),.int .u8 (byV v 5:Nat),.int .u8 (byV v 6:Nat),.int .u8 (byV v 7:Nat),.int .u8 (byV v 8:Nat),.int .u8 (byV v 9:Nat),.int .u8 (byV v 10:Nat),.int .u8 (byV v 11:Nat),.int .u8 (byV v 12:Nat),.int .u8 (byV v 13:Nat),.int .u8 (byV v 14:Nat),.int .u8 (byV v 15:Nat)] 27)).cell? ⟨w.heap.size,j,none⟩=some (.int .u8 (byV v j:Nat))):=fun j hj=>by
  have h:=Zt w #[.int .u8 (byV v 0:Nat),.int .u8 (byV v 1:Nat),.int .u8 (byV v 2:Nat),.int .u8 (byV v 3:Nat),.int .u8 (byV v 4:Nat),.int .u8 (byV v 5:Nat),.int .u8 (byV v 6:Nat),.int .u8 (byV v 7:Nat),.int .u8 (byV v 8:Nat),.int .u8 (byV v 9:Nat),.int .u8 (byV v 10:Nat),.int .u8 (byV v 11:Nat),.int .u8 (byV v 12:Nat),.int .u8 (byV v 13:Nat),.int .u8 (byV v 14:Nat),.int .u8 (byV v 15:Nat)] 27 j _ (Qc v j hj)
  rwa [Nat.zero_add] at h
 have HB:Hid (Below w.heap.size w (w.alloc (.cells #[.int .u8 (byV v 0:Nat),.int .u8 (byV v 1:Nat),.int .u8 (byV v 2:Nat),.int .u8 (byV v 3:Nat),.int .u8 (byV v 4:Nat),.int .u8 (byV v 5:Nat),.int .u8 (byV v 6:Nat),.int .u8 (byV v 7:Nat),.int .u8 (byV v 8:Nat),.int .u8 (byV v 9:Nat),.int .u8 (byV v 10:Nat),.int .u8 (byV v 11:Nat),.int .u8 (byV v 12:Nat),.int .u8 (byV v 13:Nat),.int .u8 (byV v 14:Nat),.int .u8 (byV v 15:Nat)] 27))):=(Below.refl _ w).alloc (Nat.le_refl _) _
 unfold BV
 go_enter Tryz.func61,Tryz.ntmps61
 go_upto_region 1 with fail
 generalize w.alloc (.cells #[.int .u8 (byV v 0:Nat),.int .u8 (byV v 1:Nat),.int .u8 (byV v 2:Nat),.int .u8 (byV v 3:Nat),.int .u8 (byV v 4:Nat),.int .u8 (byV v 5:Nat),.int .u8 (byV v 6:Nat),.int .u8 (byV v 7:Nat),.int .u8 (byV v 8:Nat),.int .u8 (byV v 9:Nat),.int .u8 (byV v 10:Nat),.int .u8 (byV v 11:Nat),.int .u8 (byV v 12:Nat),.int .u8 (byV v 13:Nat),.int .u8 (byV v 14:Nat),.int .u8 (byV v 15:Nat)] 27)=w1 at HC HB ⊢
 go_wp2
 go_loop [2,3,5] (fun h l i=>∃ k:Nat,k≤8∧h=.int .u64 ((hiV v%256^k:Nat):Int)∧l=.int .u64 ((v.toNat%256^k:Nat):Int)∧i=.int .i64 (k:Nat)) (fun _ _ i=>8-(intOf i).toNat)
 case atStart=>exact ⟨0,by omega,Ye (by simp [Nat.mod_one]),Ye (by simp [Nat.mod_one]),rfl⟩
 case round=>
  obtain ⟨k,hk,rfl,rfl,rfl⟩:=hrel
  by_cases hlt:k<8
  ·have c1:=HC.out k (by omega)
   have c2:=HC.out (8+k) (by omega)
   obtain ⟨b1,HB1⟩:∃ x,Hid (x=byV v k):=⟨_,rfl⟩
   obtain ⟨b2,HB2⟩:∃ x,Hid (x=byV v (8+k)):=⟨_,rfl⟩
   rw[←HB1.out] at c1
   rw[←HB2.out] at c2
   have hb1:b1<256:=by rw[HB1.out];exact Qx _ _
   have hb2:b2<256:=by rw[HB2.out];exact Qx _ _
   have hki:((k:Nat):Int)<8:=by omega
   obtain ⟨l0,HL0⟩:∃ x,Hid (x=v.toNat%256^k):=⟨_,rfl⟩
   obtain ⟨h0,HH0⟩:∃ x,Hid (x=hiV v%256^k):=⟨_,rfl⟩
   rw[←HL0.out,←HH0.out]
   go_wp2
   refine ⟨⟨k+1,by omega,Ye ?_,Ye ?_,rfl⟩,by simp only[intOf];omega⟩
   ·rw[HH0.out,HB2.out,E9];exact B5 (hiV v) k hlt
   ·rw[HL0.out,HB1.out];exact B5 v.toNat k hlt
  ·obtain rfl:k=8:=by omega
   have e1:hiV v%256^8=hiV v:=Nat.mod_eq_of_lt (by rw[show (256:Nat)^8=18446744073709551616 from by decide];exact Q7 v)
   have e2:v.toNat%256^8=loV v:=by rw[show (256:Nat)^8=18446744073709551616 from by decide];rfl
   rw[e1,e2]
   clear e1 e2 hlt hk
   go_wp2
   go_ret2
   exact ⟨rfl,HB.out⟩
theorem Nn (x k:Nat):(((x:Nat):Int)/2^(8*k))%256=((x/256^k%256:Nat):Int):=by
 rw[J3,Nat.pow_mul,show (2:Nat)^8=256 from by decide]
 omega
theorem Zdl (v:BitVec 128) (k:Nat) (hk:k<8):byV v k=loV v/256^k%256:=by
 unfold byV loV
 have e:(18446744073709551616:Nat)=256^k*(256*256^(7-k)):=by
  have:(18446744073709551616:Nat)=256^8:=by decide
  rw[this,show (8:Nat)=k+(1+(7-k)) by omega,Nat.pow_add,Nat.pow_add]
 rw[e,Nat.mod_mul_right_div_self,Nat.mod_mul_right_mod]
theorem Sf (a b:BitVec 128) (j:Nat):byV (a ^^^ b) j=Nat.xor (byV a j) (byV b j):=by
 unfold byV
 have h:∀ x:Nat,x/256^j=x >>> (8*j):=fun x=>by rw[Nat.shiftRight_eq_div_pow,Nat.pow_mul]
 rw[BitVec.toNat_xor,h,h,h,Nat.shiftRight_xor_distrib]
 exact Nat.xor_mod_two_pow (n:=8)
theorem Ja (a b:Nat) (ha:a<256) (hb:b<256):bits .xor .u8 (a:Int) b=(Nat.xor a b:Nat):=by
 have ha':a%2^IntKind.u8.bits=a:=Nat.mod_eq_of_lt (by simpa [IntKind.bits] using ha)
 have hb':b%2^IntKind.u8.bits=b:=Nat.mod_eq_of_lt (by simpa [IntKind.bits] using hb)
 simp only[bits,BitVec.ofInt_natCast,BitVec.toNat_xor,BitVec.toNat_ofNat,ha',hb']
 have:a ^^^ b<256:=Nat.xor_lt_two_pow (n:=8) ha hb
 have hw:∀ n:Int,0≤n→n<256→IntKind.u8.wrap n=n:=fun n h0 h1=>by simp [IntKind.wrap,IntKind.bits,IntKind.signed];omega
 exact hw _ (Int.natCast_nonneg _) (by omega)
theorem Yl:(Tryz.prog.info? 27).map (·.size)=some 16:=by kernel_rfl
theorem Y2 (w:World) (g i j:Nat) (v:Value) (h:i≠j):(w.setCell ⟨g,i,none⟩ v).cell? ⟨g,j,none⟩=w.cell? ⟨g,j,none⟩:=
 World.cell?_setCell_other w ⟨g,i,none⟩ ⟨g,j,none⟩ v (fun e=>h (by cases e;rfl))
theorem Zq (v:BitVec 128):(BL v).length=16:=rfl
theorem W3 (v:BitVec 128):(BL v).toArray.all (·.oneCell')=true:=by kernel_rfl
theorem Ht {w:World} {B:Nat} {v:BitVec 128} (h:∀ j,j<16→w.cell? ⟨B,j,none⟩=some (.int .u8 (byV v j:Nat))):w.rangeAt B 0 (BL v):=fun j x hx=>by
 have hj:j<16:=(List.getElem?_eq_some_iff.1 hx).1
 rw[Qc v j hj] at hx
 rw[Nat.zero_add,h j hj]
 exact hx
set_option maxHeartbeats 1600000 in
set_option maxRecDepth 100000 in
theorem Wx (v:BitVec 128) (w:World):Calls Tryz.prog 38 #[.int .u64 (hiV v:Nat),.int .u64 (loV v:Nat)] w fun e w'=>e=.returned (BV v)∧Below w.heap.size w w':=by
 have h1:=Q7 v
 have h2:=Wu v
 obtain ⟨hi,HH⟩:∃ x,Hid (x=hiV v):=⟨_,rfl⟩
 obtain ⟨lo,HL⟩:∃ x,Hid (x=loV v):=⟨_,rfl⟩
 rw[←HH.out] at h1 ⊢
 rw[←HL.out] at h2 ⊢
 have HT:Hid (Below w.heap.size w ((w.alloc (.cells #[.int .u8 0,.int .u8 0,.int .u8 0,.int .u8 0,.int .u8 0,.int .u8 0,.int .u8 0,.int .u8 0,.int .u8 0,.int .u8 0,.int .u8 0,.int .u8 0,.int .u8 0,.int .u8 0,.int .u8 0,.int .u8 0] 27)).alloc (.cells #[.int .u8 0,.int .u8 0,.int .u8 0,.int .u8 0,.int .u8 0,.int .u8 0,.int .u8 0,.int .u8 0,.int .u8 0,.int .u8 0,.int .u8 0,.int .u8 0,.int .u8 0,.int .u8 0,.int .u8 0,.int .u8 0] 27))∧((w.alloc (.cells #[.int .u8 0,.int .u8 0,.int .u8 0,.int .u8 0,.int .u8 0,.int .u8 0,.int .u8 0,.int .u8 0,.int .u8 0,.int .u8 0,.int .u8 0,.int .u8 0,.int .u8 0,.int .u8 0,.int .u8 0,.int .u8 0] 27)).alloc (.cells #[.int .u8 0,.int .u8 0,.int .u8 0,.int .u8 0,.int .u8 0,.int .u8 0,.int .u8 0,.int .u8 0,.int .u8 0,.int .u8 0,.int .u8 0,.int .u8 0,.int .u8 0,.int .u8 0,.int .u8 0,.int .u8 0] 27)).there (w.heap.size+1) 0 16∧((w.alloc (.cells #[.int .u8 0,.int .u8 0,.int .u8 0,.int .u8 0,.int .u8 0,.int .u8 0,.int .u8 0,.int .u8 0,.int .u8 0,.int .u8 0,.int .u8 0,.int .u8 0,.int .u8 0,.int .u8 0,.int .u8 0,.int .u8 0] 27)).alloc (.cells #[.int .u8 0,.int .u8 0,.int .u8 0,.int .u8 0,.int .u8 0,.int .u8 0,.int .u8 0,.int .u8 0,.int .u8 0,.int .u8 0,.int .u8 0,.int .u8 0,.int .u8 0,.int .u8 0,.int .u8 0,.int .u8 0] 27)).there w.heap.size 0 16∧((w.alloc (.cells #[.int .u8 0,.int .u8 0,.int .u8 0,.int .u8 0,.int .u8 0,.int .u8 0,.int .u8 0,.int .u8 0,.int .u8 0,.int .u8 0,.int .u8 0,.int .u8 0,.int .u8 0,.int .u8 0,.int .u8 0,.int .u8 0] 27)).alloc (.cells #[.int .u8 0,.int .u8 0,.int .u8 0,.int .u8 0,.int .u8 0,.int .u8 0,.int .u8 0,.int .u8 0,.int .u8 0,.int .u8 0,.int .u8 0,.int .u8 0,.int .u8 0,.int .u8 0,.int .u8 0,.int .u8 0] 27)).heap.size=w.heap.size+2):=
  ⟨Hn w _ _,by have h:=Zf (w.alloc (.cells #[.int .u8 0,.int .u8 0,.int .u8 0,.int .u8 0,.int .u8 0,.int .u8 0,.int .u8 0,.int .u8 0,.int .u8 0,.int .u8 0,.int .u8 0,.int .u8 0,.int .u8 0,.int .u8 0,.int .u8 0,.int .u8 0] 27)) #[.int .u8 0,.int .u8 0,.int .u8 0,.int .u8 0,.int .u8 0,.int .u8 0,.int .u8 0,.int .u8 0,.int .u8 0,.int .u8 0,.int .u8 0,.int .u8 0,.int .u8 0,.int .u8 0,.int .u8 0,.int .u8 0] 27 16 (Nat.le_refl _);simpa using h,World.there_alloc (Zf w _ 27 16 (Nat.le_refl _)) _,by simp⟩
 go_enter Tryz.func38,Tryz.ntmps38
 go_upto_region 2 with fail
 generalize (w.alloc (.cells #[.int .u8 0,.int .u8 0,.int .u8 0,.int .u8 0,.int .u8 0,.int .u8 0,.int .u8 0,.int .u8 0,.int .u8 0,.int .u8 0,.int .u8 0,.int .u8 0,.int .u8 0,.int .u8 0,.int .u8 0,.int .u8 0] 27)).alloc (.cells #[.int .u8 0,.int .u8 0,.int .u8 0,.int .u8 0,.int .u8 0,.int .u8 0,.int .u8 0,.int .u8 0,.int .u8 0,.int .u8 0,.int .u8 0,.int .u8 0,.int .u8 0,.int .u8 0,.int .u8 0,.int .u8 0] 27)=w2 at HT ⊢
 go_wp2
 go_loopw [7] (fun i wr=>∃ k:Nat,k≤8∧i=.int .i64 (k:Nat)∧Hid (Touch w2 wr (w.heap.size+1) 0 16∧∀ j,j<k→wr.cell? ⟨w.heap.size+1,j,none⟩=some (.int .u8 (byV v j:Nat))∧wr.cell? ⟨w.heap.size+1,8+j,none⟩=some (.int .u8 (byV v (8+j):Nat)))) (fun i _=>8-(intOf i).toNat)
 case atStart=>exact ⟨0,by omega,rfl,Touch.refl _ _ _ _,fun j hj=>by omega⟩
 case round=>
  obtain ⟨k,hk,rfl,HR⟩:=hrel
  by_cases hlt:k<8
  ·have t:=HR.out.1.there _ _ HT.out.2.1 k (by omega)
   have t':=HR.out.1.there _ _ HT.out.2.1 (8+k) (by omega)
   rw[Nat.zero_add] at t t'
   obtain ⟨t1,f1⟩:=t
   obtain ⟨t2,f2⟩:=t'
   obtain ⟨x1,c1⟩:=Option.isSome_iff_exists.1 t1
   obtain ⟨x2,c2⟩:=Option.isSome_iff_exists.1 t2
   clear t1 t2
   have hki:((k:Nat):Int)<8:=by omega
   have m1:=Nn lo k
   have m2:=Nn hi k
   obtain ⟨b1,HB1⟩:∃ x,Hid (x=lo/256^k%256):=⟨_,rfl⟩
   obtain ⟨b2,HB2⟩:∃ x,Hid (x=hi/256^k%256):=⟨_,rfl⟩
   rw[←HB1.out] at m1
   rw[←HB2.out] at m2
   go_wp2
   go_region
   go_wp2
   have e1:b1=byV v k:=by rw[HB1.out,HL.out,Zdl v k hlt]
   have e2:b2=byV v (8+k):=by rw[HB2.out,HH.out,E9]
   refine ⟨⟨k+1,by omega,rfl,(((HR.out.1).setCell k _ (by omega) (by omega)).setCell (8+k) _ (by omega) (by omega)).drew,fun j hj=>?_⟩,by simp only[intOf];omega⟩
   show ((wr.setCell _ _).setCell _ _).cell? _=_∧((wr.setCell _ _).setCell _ _).cell? _=_
   by_cases hjk:j=k
   ·subst hjk
    constructor
    ·rw[Y2 _ _ _ _ _ (by omega),World.cell?_setCell_same' _ _ _ (by rw[c1];rfl),e1]
    ·rw[World.cell?_setCell_same' _ _ _ (by rw[Y2 _ _ _ _ _ (by omega),c2];rfl),e2]
   ·have hj':=HR.out.2 j (by omega)
    constructor
    ·rw[Y2 _ _ _ _ _ (by omega),Y2 _ _ _ _ _ (by omega)];exact hj'.1
    ·rw[Y2 _ _ _ _ _ (by omega),Y2 _ _ _ _ _ (by omega)];exact hj'.2
  ·obtain rfl:k=8:=by omega
   have H4:Hid (wr.rangeAt (w.heap.size+1) 0 (BL v)∧wr.there w.heap.size 0 16∧Below w.heap.size w wr):=by
    obtain ⟨t1,t2,t3,t4⟩:=HT.out
    obtain ⟨p1,p2⟩:=HR.out
    refine ⟨Ht (fun j hj=>?_),fun j hj=>?_,t1.trans (p1.toBelow (Nat.le_succ _) (by omega))⟩
    ·by_cases h8:j<8
     ·exact (p2 j h8).1
     ·have h:=(p2 (j-8) (by omega)).2
      rwa [show 8+(j-8)=j by omega] at h
    ·rw[p1.far (p:=⟨w.heap.size,0+j,none⟩) (show w.heap.size<_ by omega) (show w.heap.size≠_ by omega),p1.farFrozen (p:=⟨w.heap.size,0+j,none⟩) (show w.heap.size<_ by omega) (show w.heap.size≠_ by omega)]
     exact t3 j hj
   clear HR hlt hk
   obtain ⟨L,HLL⟩:∃ L,Hid (L=BL v):=⟨_,rfl⟩
   rw[←HLL.out] at H4
   have HLl:Hid (L.length=16):=by show _=_;rw[HLL.out];rfl
   have HLo:Hid (L.toArray.all (·.oneCell')=true):=by show _=_;rw[HLL.out];exact W3 v
   have hTH:wr.there w.heap.size 0 L.length:=by rw[HLl.out];exact H4.out.2.1
   go_wp2_with (first
    | (refine wpList_load_mid (by rfl) 27 (.tmp 5) (by rfl) (w.heap.size+1) 0 (by rfl) L _ H4.out.1 Tryz.underlying27 rfl (by rw[HLl.out];exact Yl) ?_)
    | (refine wpList_store_mid (by rfl) 27 (.tmp 4) (.tmp 26) (by rfl) w.heap.size 0 L.toArray (by rfl) (by rfl) (by simpa using hTH) (by rw[List.size_toArray,HLl.out];exact Yl) HLo.out ?_))
   refine Z4 L Tryz.results38 rfl (World.rangeAt_setCells_same _ _ _ _ hTH) Tryz.underlying27 rfl (by rw[HLl.out];exact Yl) ⟨?_,Zb _ (Nat.le_refl _) _ _ _ H4.out.2.2⟩
   rw[HLL.out]
   rfl
set_option maxHeartbeats 1600000 in
set_option maxRecDepth 100000 in
theorem D6 (a b:BitVec 128) (w:World):Calls Tryz.prog 196 #[BV a,BV b] w fun e w'=>e=.returned (BV (a ^^^ b))∧Below w.heap.size w w':=by
 have HC:Hid (Below w.heap.size w (((w.alloc (.cells #[.int .u8 (byV a 0:Nat),.int .u8 (byV a 1:Nat),.int .u8 (byV a 2:Nat),.int .u8 (byV a 3:Nat),.int .u8 (byV a 4:Nat),.int .u8 (byV a 5:Nat),.int .u8 (byV a 6:Nat),.int .u8 (byV a 7:Nat),.int .u8 (byV a 8:Nat),.int .u8 (byV a 9:Nat),.int .u8 (byV a 10:Nat),.int .u8 (byV a 11:Nat),.int .u8 (byV a 12:Nat),.int .u8 (byV a 13:Nat),.int .u8 (byV a 14:Nat),.int .u8 (byV a 15:Nat)] 27)).alloc (.cells #[.int .u8 (byV b 0:Nat),.int .u8 (byV b 1:Nat),.int .u8 (byV b 2:Nat),.int .u8 (byV b 3:Nat),.int .u8 (byV b 4:Nat),.int .u8 (byV b 5:Nat),.int .u8 (byV b 6:Nat),.int .u8 (byV b 7:Nat),.int .u8 (byV b 8:Nat),.int .u8 (byV b 9:Nat),.int .u8 (byV b 10:Nat),.int .u8 (byV b 11:Nat),.int .u8 (byV b 12:Nat),.int .u8 (byV b 13:Nat),.int .u8 (byV b 14:Nat),.int .u8 (byV b 15:Nat)] 27)).alloc (.cells #[.int .u8 0,.int .u8 0,.int .u8 0,.int .u8 0,.int .u8 0,.int .u8 0,.int .u8 0,.int .u8 0,.int .u8 0,.int .u8 0,.int .u8 0,.int .u8 0,.int .u8 0,.int .u8 0,.int .u8 0,.int .u8 0] 27))∧(∀ j,j<16→(((w.alloc (.cells #[.int .u8 (byV a 0:Nat),.int .u8 (byV a 1:Nat),.int .u8 (byV a 2:Nat),.int .u8 (byV a 3:Nat),.int .u8 (byV a 4:Nat),.int .u8 (byV a 5:Nat),.int .u8 (byV a 6:Nat),.int .u8 (byV a 7:Nat),.int .u8 (byV a 8:Nat),.int .u8 (byV a 9:Nat),.int .u8 (byV a 10:Nat),.int .u8 (byV a 11:Nat),.int .u8 (byV a 12:Nat),.int .u8 (byV a 13:Nat),.int .u8 (byV a 14:Nat),.int .u8 (byV a 15:Nat)] 27)).alloc (.cells #[.int .u8 (byV b 0:Nat),.int .u8 (byV b 1:Nat),.int .u8 (byV b 2:Nat),.int .u8 (byV b 3:Nat),.int .u8 (byV b 4:Nat),.int .u8 (byV b 5:Nat),.int .u8 (byV b 6:Nat),.int .u8 (byV b 7:Nat),.int .u8 (byV b 8:Nat),.int .u8 (byV b 9:Nat),.int .u8 (byV b 10:Nat),.int .u8 (byV b 11:Nat),.int .u8 (byV b 12:Nat),.int .u8 (byV b 13:Nat),.int .u8 (byV b 14:Nat),.int .u8 (byV b 15:Nat)] 27)).alloc (.cells #[.int .u8 0,.int .u8 0,.int .u8 0,.int .u8 0,.int .u8 0,.int .u8 0,.int .u8 0,.int .u8 0,.int .u8 0,.int .u8 0,.int .u8 0,.int .u8 0,.int .u8 0,.int .u8 0,.int .u8 0,.int .u8 0] 27)).cell? ⟨w.heap.size,j,none⟩=some (.int .u8 (byV a j:Nat)))∧(∀ j,j<16→(((w.alloc (.cells #[.int .u8 (byV a 0:Nat),.int .u8 (byV a 1:Nat),.int .u8 (byV a 2:Nat),.int .u8 (byV a 3:Nat),.int .u8 (byV a 4:Nat),.int .u8 (byV a 5:Nat),.int .u8 (byV a 6:Nat),.int .u8 (byV a 7:Nat),.int .u8 (byV a 8:Nat),.int .u8 (byV a 9:Nat),.int .u8 (byV a 10:Nat),.int .u8 (byV a 11:Nat),.int .u8 (byV a 12:Nat),.int .u8 (byV a 13:Nat),.int .u8 (byV a 14:Nat),.int .u8 (byV a 15:Nat)] 27)).alloc (.cells #[.int .u8 (byV b 0:Nat),.int .u8 (byV b 1:Nat),.int .u8 (byV b 2:Nat),.int .u8 (byV b 3:Nat),.int .u8 (byV b 4:Nat),.int .u8 (byV b 5:Nat),.int .u8 (byV b 6:Nat),.int .u8 (byV b 7:Nat),.int .u8 (byV b 8:Nat),.int .u8 (byV b 9:Nat),.int .u8 (byV b 10:Nat),.int .u8 (byV b 11:Nat),.int .u8 (byV b 12:Nat),.int .u8 (byV b 13:Nat),.int .u8 (byV b 14:Nat),.int .u8 (byV b 15:Nat)] 27)).alloc (.cells #[.int .u8 0,.int .u8 0,.int .u8 0,.int .u8 0,.int .u8 0,.int .u8 0,.int .u8 0,.int .u8 0,.int .u8 0,.int .u8 0,.int .u8 0,.int .u8 0,.int .u8 0,.int .u8 0,.int .u8 0,.int .u8 0] 27)).cell? ⟨w.heap.size+1,j,none⟩=some (.int .u8 (byV b j:Nat)))∧(((w.alloc (.cells #[.int .u8 (byV a 0:Nat),.int .u8 (byV a 1:Nat),.int .u8 (byV a 2:Nat),.int .u8 (byV a 3:Nat),.int .u8 (byV a 4:Nat),.int .u8 (byV a 5:Nat),.int .u8 (byV a 6:Nat),.int .u8 (byV a 7:Nat),.int .u8 (byV a 8:Nat),.int .u8 (byV a 9:Nat),.int .u8 (byV a 10:Nat),.int .u8 (byV a 11:Nat),.int .u8 (byV a 12:Nat),.int .u8 (byV a 13:Nat),.int .u8 (byV a 14:Nat),.int .u8 (byV a 15:Nat)] 27)).alloc (.cells #[.int .u8 (byV b 0:Nat),.int .u8 (byV b 1:Nat),.int .u8 (byV b 2:Nat),.int .u8 (byV b 3:Nat),.int .u8 (byV b 4:Nat),.int .u8 (byV b 5:Nat),.int .u8 (byV b 6:Nat),.int .u8 (byV b 7:Nat),.int .u8 (byV b 8:Nat),.int .u8 (byV b 9:Nat),.int .u8 (byV b 10:Nat),.int .u8 (byV b 11:Nat),.int .u8 (byV b 12:Nat),.int .u8 (byV b 13:Nat),.int .u8 (byV b 14:Nat),.int .u8 (byV b 15:Nat)] 27)).alloc (.cells #[.int .u8 0,.int .u8 0,.int .u8 0,.int .u8 0,.int .u8 0,.int .u8 0,.int .u8 0,.int .u8 0,.int .u8 0,.int .u8 0,.int .u8 0,.int .u8 0,.int .u8 0,.int .u8 0,.int .u8 0,.int .u8 0] 27)).there w.heap.size 0 16∧(((w.alloc (.cells #[.int .u8 (byV a 0:Nat),.int .u8 (byV a 1:Nat),.int .u8 (byV a 2:Nat),.int .u8 (byV a 3:Nat),.int .u8 (byV a 4:Nat),.int .u8 (byV a 5:Nat),.int .u8 (byV a 6:Nat),.int .u8 (byV a 7:Nat),.int .u8 (byV a 8:Nat),.int .u8 (byV a 9:Nat),.int .u8 (byV a 10:Nat),.int .u8 (byV a 11:Nat),.int .u8 (byV a 12:Nat),.int .u8 (byV a 13:Nat),.int .u8 (byV a 14:Nat),.int .u8 (byV a 15:Nat)] 27)).alloc (.cells #[.int .u8 (byV b 0:Nat),.int .u8 (byV b 1:Nat),.int .u8 (byV b 2:Nat),.int .u8 (byV b 3:Nat),.int .u8 (byV b 4:Nat),.int .u8 (byV b 5:Nat),.int .u8 (byV b 6:Nat),.int .u8 (byV b 7:Nat),.int .u8 (byV b 8:Nat),.int .u8 (byV b 9:Nat),.int .u8 (byV b 10:Nat),.int .u8 (byV b 11:Nat),.int .u8 (byV b 12:Nat),.int .u8 (byV b 13:Nat),.int .u8 (byV b 14:Nat),.int .u8 (byV b 15:Nat)] 27)).alloc (.cells #[.int .u8 0,.int .u8 0,.int .u8 0,.int .u8 0,.int .u8 0,.int .u8 0,.int .u8 0,.int .u8 0,.int .u8 0,.int .u8 0,.int .u8 0,.int .u8 0,.int .u8 0,.int .u8 0,.int .u8 0,.int .u8 0] 27)).there (w.heap.size+2) 0 16∧(((w.alloc (.cells #[.int .u8 (byV a 0:Nat),.int .u8 (byV a 1:Nat),.int .u8 (byV a 2:Nat),.int .u8 (byV a 3:Nat),.int .u8 (byV a 4:Nat),.int .u8 (byV a 5:Nat),.int .u8 (byV a 6:Nat),.int .u8 (byV a 7:Nat),.int .u8 (byV a 8:Nat),.int .u8 (byV a 9:Nat),.int .u8 (byV a 10:Nat),.int .u8 (byV a 11:Nat),.int .u8 (byV a 12:Nat),.int .u8 (byV a 13:Nat),.int .u8 (byV a 14:Nat),.int .u8 (byV a 15:Nat)] 27)).alloc (.cells #[.int .u8 (byV b 0:Nat),.int .u8 (byV b 1:Nat),.int .u8 (byV b 2:Nat),.int .u8 (byV b 3:Nat),.int .u8 (byV b 4:Nat),.int .u8 (byV b 5:Nat),.int .u8 (byV b 6:Nat),.int .u8 (byV b 7:Nat),.int .u8 (byV b 8:Nat),.int .u8 (byV b 9:Nat),.int .u8 (byV b 10:Nat),.int .u8 (byV b 11:Nat),.int .u8 (byV b 12:Nat),.int .u8 (byV b 13:Nat),.int .u8 (byV b 14:Nat),.int .u8 (byV b 15:Nat)] 27)).alloc (.cells #[.int .u8 0,.int .u8 0,.int .u8 0,.int .u8 0,.int .u8 0,.int .u8 0,.int .u8 0,.int .u8 0,.int .u8 0,.int .u8 0,.int .u8 0,.int .u8 0,.int .u8 0,.int .u8 0,.int .u8 0,.int .u8 0] 27)).heap.size=w.heap.size+3):=by
  refine ⟨Bi w _ _ _,fun j hj=>?_,fun j hj=>?_,World.there_alloc (World.there_alloc (Zf w _ 27 16 (Nat.le_refl _)) _) _,?_,by simp⟩
  ·have h:=Zt w #[.int .u8 (byV a 0:Nat),.int .u8 (byV a 1:Nat),.int .u8 (byV a 2:Nat),.int .u8 (byV a 3:Nat),.int .u8 (byV a 4:Nat),.int .u8 (byV a 5:Nat),.int .u8 (byV a 6:Nat),.int .u8 (byV a 7:Nat),.int .u8 (byV a 8:Nat),.int .u8 (byV a 9:Nat),.int .u8 (byV a 10:Nat),.int .u8 (byV a 11:Nat),.int .u8 (byV a 12:Nat),.int .u8 (byV a 13:Nat),.int .u8 (byV a 14:Nat),.int .u8 (byV a 15:Nat)] 27 j _ (Qc a j hj)
   rw[Nat.zero_add] at h
   rw[World.cell?_alloc_lt _ _ _ (show w.heap.size<_ by simp;omega),World.cell?_alloc_lt _ _ _ (show w.heap.size<_ by simp)]
   exact h
  ·have h:=Zt (w.alloc (.cells #[.int .u8 (byV a 0:Nat),.int .u8 (byV a 1:Nat),.int .u8 (byV a 2:Nat),.int .u8 (byV a 3:Nat),.int .u8 (byV a 4:Nat),.int .u8 (byV a 5:Nat),.int .u8 (byV a 6:Nat),.int .u8 (byV a 7:Nat),.int .u8 (byV a 8:Nat),.int .u8 (byV a 9:Nat),.int .u8 (byV a 10:Nat),.int .u8 (byV a 11:Nat),.int .u8 (byV a 12:Nat),.int .u8 (byV a 13:Nat),.int .u8 (byV a 14:Nat),.int .u8 (byV a 15:Nat)] 27)) #[.int .u8 (byV b 0:Nat),.int .u8 (byV b 1:Nat),.int .u8 (byV b 2:Nat),.int .u8 (byV b 3:Nat),.int .u8 (byV b 4:Nat),.int .u8 (byV b 5:Nat),.int .u8 (byV b 6:Nat),.int .u8 (byV b 7:Nat),.int .u8 (byV b 8:Nat),.int .u8 (byV b 9:Nat),.int .u8 (byV b 10:Nat),.int .u8 (byV b 11:Nat),.int .u8 (byV b 12:Nat),.int .u8 (byV b 13:Nat),.int .u8 (byV b 14:Nat),.int .u8 (byV b 15:Nat)] 27 j _ (Qc b j hj)
   rw[Nat.zero_add] at h
   rw[World.cell?_alloc_lt _ _ _ (show w.heap.size+1<_ by simp)]
   simpa using h
  ·have h:=Zf ((w.alloc (.cells #[.int .u8 (byV a 0:Nat),.int .u8 (byV a 1:Nat),.int .u8 (byV a 2:Nat),.int .u8 (byV a 3:Nat),.int .u8 (byV a 4:Nat),.int .u8 (byV a 5:Nat),.int .u8 (byV a 6:Nat),.int .u8 (byV a 7:Nat),.int .u8 (byV a 8:Nat),.int .u8 (byV a 9:Nat),.int .u8 (byV a 10:Nat),.int .u8 (byV a 11:Nat),.int .u8 (byV a 12:Nat),.int .u8 (byV a 13:Nat),.int .u8 (byV a 14:Nat),.int .u8 (byV a 15:Nat)] 27)).alloc (.cells #[.int .u8 (byV b 0:Nat),.int .u8 (byV b 1:Nat),.int .u8 (byV b 2:Nat),.int .u8 (byV b 3:Nat),.int .u8 (byV b 4:Nat),.int .u8 (byV b 5:Nat),.int .u8 (byV b 6:Nat),.int .u8 (byV b 7:Nat),.int .u8 (byV b 8:Nat),.int .u8 (byV b 9:Nat),.int .u8 (byV b 10:Nat),.int .u8 (byV b 11:Nat),.int .u8 (byV b 12:Nat),.int .u8 (byV b 13:Nat),.int .u8 (byV b 14:Nat),.int .u8 (byV b 15:Nat)] 27)) #[.int .u8 0,.int .u8 0,.int .u8 0,.int .u8 0,.int .u8 0,.int .u8 0,.int .u8 0,.int .u8 0,.int .u8 0,.int .u8 0,.int .u8 0,.int .u8 0,.int .u8 0,.int .u8 0,.int .u8 0,.int .u8 0] 27 16 (Nat.le_refl _)
   simpa using h
 unfold BV
 show Calls Tryz.prog 196 #[.agg #[.int .u8 (byV a 0:Nat),.int .u8 (byV a 1:Nat),.int .u8 (byV a 2:Nat),.int .u8 (byV a 3:Nat),.int .u8 (byV a 4:Nat),.int .u8 (byV a 5:Nat),.int .u8 (byV a 6:Nat),.int .u8 (byV a 7:Nat),.int .u8 (byV a 8:Nat),.int .u8 (byV a 9:Nat),.int .u8 (byV a 10:Nat),.int .u8 (byV a 11:Nat),.int .u8 (byV a 12:Nat),.int .u8 (byV a 13:Nat),.int .u8 (byV a 14:Nat),.int .u8 (byV a 15:Nat)],.agg #[.int .u8 (byV b 0:Nat),.int .u8 (byV b 1:Nat),.int .u8 (byV b 2:Nat),.int .u8 (byV b 3:Nat),.int .u8 (byV b 4:Nat),.int .u8 (byV b 5:Nat),.int .u8 (byV b 6:Nat),.int .u8 (byV b 7:Nat),.int .u8 (byV b 8:Nat),.int .u8 (byV b 9:Nat),.int .u8 (byV b 10:Nat),.int .u8 (byV b 11:Nat),.int .u8 (byV b 12:Nat),.int .u8 (byV b 13:Nat),.int .u8 (byV b 14:Nat),.int .u8 (byV b 15:Nat)]] w _
 go_enter Tryz.func196,Tryz.ntmps196
 go_upto_region 1 with fail
 generalize ((w.alloc (.cells #[.int .u8 (byV a 0:Nat),.int .u8 (byV a 1:Nat),.int .u8 (byV a 2:Nat),.int .u8 (byV a 3:Nat),.int .u8 (byV a 4:Nat),.int .u8 (byV a 5:Nat),.int .u8 (byV a 6:Nat),.int .u8 (byV a 7:Nat),.int .u8 (byV a 8:Nat),.int .u8 (byV a 9:Nat),.int .u8 (byV a 10:Nat),.int .u8 (byV a 11:Nat),.int .u8 (byV a 12:Nat),.int .u8 (byV a 13:Nat),.int .u8 (byV a 14:Nat),.int .u8 (byV a 15:Nat)] 27)).alloc (.cells #[.int .u8 (byV b 0:Nat),.int .u8 (byV b 1:Nat),.int .u8 (byV b 2:Nat),.int .u8 (byV b 3:Nat),.int .u8 (byV b 4:Nat),.int .u8 (byV b 5:Nat),.int .u8 (byV b 6:Nat),.int .u8 (byV b 7:Nat),.int .u8 (byV b 8:Nat),.int .u8 (byV b 9:Nat),.int .u8 (byV b 10:Nat),.int .u8 (byV b 11:Nat),.int .u8 (byV b 12:Nat),.int .u8 (byV b 13:Nat),.int .u8 (byV b 14:Nat),.int .u8 (byV b 15:Nat)] 27)).alloc (.cells #[.int .u8 0,.int .u8 0,.int .u8 0,.int .u8 0,.int .u8 0,.int .u8 0,.int .u8 0,.int .u8 0,.int .u8 0,.int .u8 0,.int .u8 0,.int .u8 0,.int .u8 0,.int .u8 0,.int .u8 0,.int .u8 0] 27)=w2 at HC ⊢
 go_wp2
 go_loopw [6] (fun i wr=>∃ k:Nat,k≤16∧i=.int .i64 (k:Nat)∧Hid (Touch w2 wr w.heap.size 0 16∧∀ j,j<16→wr.cell? ⟨w.heap.size,j,none⟩=some (.int .u8 ((if j<k then byV (a ^^^ b) j else byV a j:Nat):Int)))) (fun i _=>16-(intOf i).toNat)
 case atStart=>exact ⟨0,by omega,rfl,Touch.refl _ _ _ _,fun j hj=>by rw[if_neg (by omega)];exact HC.out.2.1 j hj⟩
 case round=>
  obtain ⟨k,hk,rfl,HR⟩:=hrel
  by_cases hlt:k<16
  ·have c1:=HR.out.2 k hlt
   rw[if_neg (Nat.lt_irrefl k)] at c1
   have f1:=(HR.out.1.there _ _ HC.out.2.2.2.1 k hlt).2
   rw[Nat.zero_add] at f1
   have c2:wr.cell? ⟨w.heap.size+1,k,none⟩=some (.int .u8 (byV b k:Nat)):=by
    have hz:=HC.out.2.2.2.2.2
    rw[HR.out.1.far (p:=⟨w.heap.size+1,k,none⟩) (show w.heap.size+1<_ by omega) (show w.heap.size+1≠_ by omega)]
    exact HC.out.2.2.1 k hlt
   have hx:bits .xor .u8 ((byV a k:Nat):Int) ((byV b k:Nat):Int)=((byV (a ^^^ b) k:Nat):Int):=by rw[Sf];exact Ja _ _ (Qx _ _) (Qx _ _)
   obtain ⟨x1,HX1⟩:∃ x,Hid (x=byV a k):=⟨_,rfl⟩
   obtain ⟨x2,HX2⟩:∃ x,Hid (x=byV b k):=⟨_,rfl⟩
   obtain ⟨x3,HX3⟩:∃ x,Hid (x=byV (a ^^^ b) k):=⟨_,rfl⟩
   rw[←HX1.out] at c1 hx
   rw[←HX2.out] at c2 hx
   rw[←HX3.out] at hx
   have hki:((k:Nat):Int)<16:=by omega
   go_wp2
   go_region
   go_wp2
   refine ⟨⟨k+1,by omega,rfl,(HR.out.1.setCell k _ (by omega) (by omega)).drew,fun j hj=>?_⟩,by simp only[intOf];omega⟩
   show (wr.setCell _ _).cell? _=_
   by_cases hjk:j=k
   ·subst hjk
    rw[if_pos (by omega),World.cell?_setCell_same' _ _ _ (by rw[c1];rfl),HX3.out]
   ·rw[Y2 _ _ _ _ _ (by omega),HR.out.2 j hj]
    congr 3
    by_cases h:j<k
    ·rw[if_pos h,if_pos (by omega)]
    ·rw[if_neg h,if_neg (by omega)]
  ·obtain rfl:k=16:=by omega
   have H4:Hid (wr.rangeAt w.heap.size 0 (BL (a ^^^ b))∧wr.there (w.heap.size+2) 0 16∧Below w.heap.size w wr):=by
    obtain ⟨t1,t2,t3,t4,t5,t6⟩:=HC.out
    obtain ⟨p1,p2⟩:=HR.out
    refine ⟨Ht (fun j hj=>?_),fun j hj=>?_,t1.trans (p1.toBelow (Nat.le_refl _) (by omega))⟩
    ·have h:=p2 j hj
     rwa [if_pos hj] at h
    ·rw[p1.far (p:=⟨w.heap.size+2,0+j,none⟩) (show w.heap.size+2<_ by omega) (show w.heap.size+2≠_ by omega),p1.farFrozen (p:=⟨w.heap.size+2,0+j,none⟩) (show w.heap.size+2<_ by omega) (show w.heap.size+2≠_ by omega)]
     exact t5 j hj
   clear HR hlt hk
   obtain ⟨L,HLL⟩:∃ L,Hid (L=BL (a ^^^ b)):=⟨_,rfl⟩
   rw[←HLL.out] at H4
   have HLl:Hid (L.length=16):=by show _=_;rw[HLL.out];rfl
   have HLo:Hid (L.toArray.all (·.oneCell')=true):=by show _=_;rw[HLL.out];exact W3 _
   have hTH:wr.there (w.heap.size+2) 0 L.length:=by rw[HLl.out];exact H4.out.2.1
   go_wp2_with (first
    | (refine wpList_load_mid (by rfl) 27 (.tmp 2) (by rfl) w.heap.size 0 (by rfl) L _ H4.out.1 Tryz.underlying27 rfl (by rw[HLl.out];exact Yl) ?_)
    | (refine wpList_store_mid (by rfl) 27 (.tmp 4) (.tmp 18) (by rfl) (w.heap.size+2) 0 L.toArray (by rfl) (by rfl) (by simpa using hTH) (by rw[List.size_toArray,HLl.out];exact Yl) HLo.out ?_))
   refine Z4 L Tryz.results196 rfl (World.rangeAt_setCells_same _ _ _ _ hTH) Tryz.underlying27 rfl (by rw[HLl.out];exact Yl) ⟨?_,Zb _ (by omega) _ _ _ H4.out.2.2⟩
   rw[HLL.out]
   rfl
end Go.Proofs.YtehlppaidgkpaaaGreatDoor.Fd
