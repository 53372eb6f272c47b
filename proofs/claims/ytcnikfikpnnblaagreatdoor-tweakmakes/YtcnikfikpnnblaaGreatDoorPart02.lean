import Derived.Test.YtcnikfikpnnblaaGreatDoorProg
import Derived.WalkKit
import Derived.Laws.BitsLemmas
import Derived.Test.YtcnikfikpnnblaaGreatDoorPart00
import Derived.Laws.BitsAllLaws
import Derived.Test.YtcnikfikpnnblaaGreatDoorPart01
import Derived.Deep.Draws
import Derived.Deep.Upon
import Derived.Deep.RegionHeld3
namespace Go.Proofs.YtcnikfikpnnblaaGreatDoor
open Go.RowKit
/-- The product by x. -/
def dblN (a : Nat) : Nat := Nat.xor (Nat.mod (Nat.mul a 2) 256) (Nat.mul (Nat.div a 128) 27)
/-- Times, k rounds of it. -/
def tmsN : Nat → Nat → Nat → Nat → Nat
 | 0, p, _, _ => p
 | k + 1, p, a, b => tmsN k (Nat.xor p (Nat.mul (Nat.mod b 2) a)) (dblN a) (Nat.div b 2)
def refP (a b : Nat) : Nat → Nat
 | 0 => 0
 | i + 1 => Nat.xor (refP a b i) (Nat.mul (Nat.mod (Nat.div b (Nat.pow 2 i)) 2) (Nat.mul a (Nat.pow 2 i)))
def refR : Nat → Nat → Nat
 | 0, p => p
 | i + 1, p => refR i (Nat.xor p (Nat.mul (Nat.mod (Nat.div p (Nat.pow 2 (Nat.add i 8))) 2) (Nat.mul 283 (Nat.pow 2 i))))
def allB (f : Nat → Bool) : Nat → Bool
 | 0 => true
 | n + 1 => and (f n) (allB f n)
theorem allB_at {f : Nat → Bool} : ∀ {n : Nat}, allB f n = true → ∀ {i}, i < n → f i = true
 | 0, _, i, h => by omega
 | n + 1, ha, i, h => by
  simp only [allB, Bool.and_eq_true] at ha
  by_cases hi : i = n
  ·subst hi; exact ha.1
  ·exact allB_at ha.2 (by omega)
theorem dbl_eq : ∀ a : Fin 256, bits .xor .u8 ((a.1 : Int) * 2 % 256) (bits .and .u8 27 (-((a.1 : Int) / 128) % 256)) = (dblN a.1 : Nat) := by decide +kernel
theorem dbl_lt : ∀ a : Fin 256, dblN a.1 < 256 := by decide +kernel
theorem and_one : ∀ b : Fin 256, bits .and .u8 (b.1 : Int) 1 = ((b.1 % 2 : Nat) : Int) := by decide +kernel
theorem and_all : ∀ b : Fin 256, bits .and .u8 (b.1 : Int) 255 = (b.1 : Int) := by decide +kernel
theorem and_none : ∀ b : Fin 256, bits .and .u8 (b.1 : Int) 0 = 0 := by decide +kernel
theorem bits_xor (k : IntKind) (j : Nat) (hj : j ≤ k.bits) (hk : ∀ n : Int, 0 ≤ n → n < 2 ^ j → k.wrap n = n) (a b : Nat) (ha : a < 2 ^ j) (hb : b < 2 ^ j) :
  bits .xor k a b = ((Nat.xor a b : Nat) : Int) := by
 have hp : 2 ^ j ≤ 2 ^ k.bits := Nat.pow_le_pow_right (by decide) hj
 have ha' : a % 2 ^ k.bits = a := Nat.mod_eq_of_lt (Nat.lt_of_lt_of_le ha hp)
 have hb' : b % 2 ^ k.bits = b := Nat.mod_eq_of_lt (Nat.lt_of_lt_of_le hb hp)
 have cast : ∀ n : Nat, n < 2 ^ j → ((n : Nat) : Int) < 2 ^ j := fun n h => by exact_mod_cast h
 simp only [bits, BitVec.ofInt_natCast, BitVec.toNat_xor, BitVec.toNat_ofNat, ha', hb']
 exact hk _ (Int.natCast_nonneg _) (cast _ (Nat.xor_lt_two_pow ha hb))
theorem wraps_i64 (n : Int) (h₀ : 0 ≤ n) (h₁ : n < 2 ^ 63) : IntKind.i64.wrap n = n := by rw [IntKind.wrap_i64]; omega
theorem xor8 (a b : Nat) (ha : a < 256) (hb : b < 256) : bits .xor .u8 (a : Int) b = (Nat.xor a b : Nat) := bits_xor .u8 8 (by decide) wraps_u8 a b ha hb
theorem xor15 (a b : Nat) (ha : a < 32768) (hb : b < 32768) : bits .xor .i64 (a : Int) b = (Nat.xor a b : Nat) := bits_xor .i64 15 (by decide) (fun n h0 h1 => wraps_i64 n h0 (by omega)) a b ha hb
theorem xor_lt15 {a b : Nat} (ha : a < 32768) (hb : b < 32768) : Nat.xor a b < 32768 := Nat.xor_lt_two_pow (n := 15) ha hb
theorem bit_eq (b k : Nat) : (((b : Int) / 2 ^ k).tmod 2 == 1) = (Nat.mod (Nat.div b (Nat.pow 2 k)) 2 == 1) := by
 have e : ((b : Int) / 2 ^ k) = ((b / 2 ^ k : Nat) : Int) := by push_cast; rfl
 rw [e, show (2 : Int) = ((2 : Nat) : Int) from rfl, ← Int.ofNat_tmod]
 show _ = (b / 2 ^ k % 2 == 1)
 have : b / 2 ^ k % 2 = 0 ∨ b / 2 ^ k % 2 = 1 := by omega
 rcases this with h | h <;> rw [h] <;> rfl
theorem bit_cases (n : Nat) : Nat.mod n 2 = 0 ∨ Nat.mod n 2 = 1 := by
 have : n % 2 = 0 ∨ n % 2 = 1 := by omega
 exact this
theorem xor_lt8 {a b : Nat} (ha : a < 256) (hb : b < 256) : Nat.xor a b < 256 := Nat.xor_lt_two_pow (n := 8) ha hb
theorem mask_eq (a b : Nat) (ha : a < 256) (hb : b < 256) : bits .and .u8 (a : Int) (-(bits .and .u8 (b : Int) 1) % 256) = (Nat.mul (Nat.mod b 2) a : Nat) := by
 have h1 := and_one ⟨b, hb⟩
 simp only at h1
 rw [h1]
 have : b % 2 = 0 ∨ b % 2 = 1 := by omega
 rcases this with h | h
 ·rw [h]
  have := and_none ⟨a, ha⟩
  simp only at this
  have e : Nat.mod b 2 = 0 := h
  rw [e]
  simpa using this
 ·rw [h]
  have := and_all ⟨a, ha⟩
  simp only at this
  have e : Nat.mod b 2 = 1 := h
  rw [e]
  simpa using this
theorem ret_int {k : IntKind} {x y : Int} (h : x = y) : Ending.returned (.int k x) = .returned (.int k y) := by rw [h]
theorem val_eq {k : IntKind} {x y : Int} (h : x = y) : Value.int k x = Value.int k y := by rw [h]
theorem dbl_ok (a : Nat) (h : a < 256) (w : World) : Calls Tryz.prog 224 #[.int .u8 a] w fun e w' => e = .returned (.int .u8 (dblN a : Nat)) ∧ w' = w := by
 go_enter Tryz.func224, Tryz.ntmps224
 go_wp2
 go_ret
 exact ⟨ret_int (dbl_eq ⟨a, h⟩), rfl⟩
theorem tms_lt : ∀ (k p a b : Nat), p < 256 → a < 256 → b < 256 → tmsN k p a b < 256
 | 0, p, a, b, hp, _, _ => hp
 | k + 1, p, a, b, hp, ha, hb => by
  have : Nat.mul (Nat.mod b 2) a < 256 := by
   have : b % 2 = 0 ∨ b % 2 = 1 := by omega
   rcases this with h | h
   ·rw [show Nat.mod b 2 = 0 from h]; simp
   ·rw [show Nat.mod b 2 = 1 from h]; simpa using ha
  exact tms_lt k _ _ _ (xor_lt8 hp this) (dbl_lt ⟨a, ha⟩) (by show b / 2 < 256; omega)
theorem times_ok (a b : Nat) (ha : a < 256) (hb : b < 256) (w : World) : Calls Tryz.prog 168 #[.int .u8 a, .int .u8 b] w fun e w' => e = .returned (.int .u8 (tmsN 8 0 a b : Nat)) ∧ w' = w := by
 go_enter Tryz.func168, Tryz.ntmps168
 go_wp2
 go_loopw [0, 1, 5, 6] (fun va vb vp i wr => ∃ k x y p : Nat, k ≤ 8 ∧ x < 256 ∧ y < 256 ∧ p < 256 ∧ i = .int .i64 k ∧ va = .int .u8 x ∧ vb = .int .u8 y ∧ vp = .int .u8 p ∧ Hid (tmsN 8 0 a b = tmsN (8 - k) p x y) ∧ wr = w) (fun _ _ _ i _ => 8 - (intOf i).toNat)
 case atStart => exact ⟨0, a, b, 0, by omega, ha, hb, by omega, rfl, rfl, rfl, rfl, rfl, rfl⟩
 case round =>
  obtain ⟨k, x, y, p, hk, hx, hy, hp, rfl, rfl, rfl, rfl, HS, hw⟩ := hrel
  obtain rfl := hw.symm
  by_cases hlt : k < 8
  ·go_wp2_with (first | (go_at_call 224; (refine (dbl_ok x hx _).mono ?_); (rintro e1 w1 ⟨rfl, hw1⟩; obtain rfl := hw1.symm)))
   go_roundw
   case rel =>
    have hm : Nat.mul (Nat.mod y 2) x < 256 := by
     have : y % 2 = 0 ∨ y % 2 = 1 := by omega
     rcases this with h | h
     ·rw [show Nat.mod y 2 = 0 from h]; simp
     ·rw [show Nat.mod y 2 = 1 from h]; simpa using hx
    refine ⟨k + 1, dblN x, y / 2, Nat.xor p (Nat.mul (Nat.mod y 2) x), by omega, dbl_lt ⟨x, hx⟩, by omega, xor_lt8 hp hm, by go_num, rfl, val_eq (by omega), val_eq ?_, ?_, trivial⟩
    ·rw [mask_eq x y hx hy, xor8 _ _ hp hm]
    ·have := HS.out
     rw [show 8 - k = 8 - (k + 1) + 1 by omega] at this
     exact this
   case measure => simp [intOf]; omega
  ·obtain rfl : k = 8 := by omega
   go_wp2
   go_ret
   exact ⟨ret_int (by rw [HS.out]; rfl), rfl⟩
theorem refTimes_ok (a b : Nat) (ha : a < 256) (hb : b < 256) (w : World) : Calls Tryz.prog 103 #[.int .u8 a, .int .u8 b] w fun e w' => e = .returned (.int .u8 (Nat.mod (refR 7 (refP a b 8)) 256 : Nat)) ∧ w' = w := by
 go_enter Tryz.func103, Tryz.ntmps103
 go_wp2
 go_loopw [5, 6] (fun vp i wr => ∃ k p : Nat, k ≤ 8 ∧ i = .int .i64 k ∧ vp = .int .i64 p ∧ p < 32768 ∧ Hid (p = refP a b k) ∧ wr = w) (fun _ i _ => 8 - (intOf i).toNat)
 case atStart => exact ⟨0, 0, by omega, rfl, rfl, by omega, rfl, rfl⟩
 case round =>
  obtain ⟨k, p, hk, rfl, rfl, hp, HS, hw⟩ := hrel
  obtain rfl := hw.symm
  by_cases hlt : k < 8
  ·have hsh : wrap64 ((a : Int) * 2 ^ k) = (Nat.mul a (Nat.pow 2 k) : Nat) ∧ Nat.mul a (Nat.pow 2 k) < 32768 := by
    have h8 : k = 0 ∨ k = 1 ∨ k = 2 ∨ k = 3 ∨ k = 4 ∨ k = 5 ∨ k = 6 ∨ k = 7 := by omega
    show wrap64 ((a : Int) * 2 ^ k) = (a * 2 ^ k : Nat) ∧ a * 2 ^ k < 32768
    rcases h8 with rfl | rfl | rfl | rfl | rfl | rfl | rfl | rfl <;> (unfold wrap64; omega)
   have hbit := bit_eq b k
   have HB : Hid ((((b : Int) / 2 ^ k).tmod 2 == 1) = (Nat.mod (Nat.div b (Nat.pow 2 k)) 2 == 1)) := hbit
   have HSH : Hid (wrap64 ((a : Int) * 2 ^ k) = (Nat.mul a (Nat.pow 2 k) : Nat) ∧ Nat.mul a (Nat.pow 2 k) < 32768) := hsh
   clear hbit hsh
   go_wp2
   ·have hc : (((b : Int) / 2 ^ k).tmod 2 == 1) = true := by assumption
    have h1 : Nat.mod (Nat.div b (Nat.pow 2 k)) 2 = 1 := by
     rw [HB.out] at hc
     exact eq_of_beq hc
    obtain ⟨e1, e2⟩ := HSH.out
    refine ⟨⟨k + 1, Nat.xor p (Nat.mul a (Nat.pow 2 k)), by omega, rfl, val_eq ?_, xor_lt15 hp e2, ?_, trivial⟩, ?_⟩
    ·rw [e1, xor15 _ _ hp e2]
    ·show Nat.xor p (Nat.mul a (Nat.pow 2 k)) = _
     rw [HS.out]
     show _ = Nat.xor (refP a b k) (Nat.mul (Nat.mod (Nat.div b (Nat.pow 2 k)) 2) (Nat.mul a (Nat.pow 2 k)))
     rw [h1]
     simp
    ·simp [intOf]; omega
   ·have hc : (((b : Int) / 2 ^ k).tmod 2 == 1) = false := by assumption
    have h1 : Nat.mod (Nat.div b (Nat.pow 2 k)) 2 = 0 := by
     rw [HB.out] at hc
     rcases bit_cases (Nat.div b (Nat.pow 2 k)) with h | h
     ·exact h
     ·rw [h] at hc; cases hc
    refine ⟨⟨k + 1, p, by omega, rfl, rfl, hp, ?_, trivial⟩, ?_⟩
    ·show p = _
     rw [HS.out]
     show _ = Nat.xor (refP a b k) (Nat.mul (Nat.mod (Nat.div b (Nat.pow 2 k)) 2) (Nat.mul a (Nat.pow 2 k)))
     rw [h1]
     simp
    ·simp [intOf]; omega
  ·obtain rfl : k = 8 := by omega
   clear hlt hk
   go_wp2
   go_loopw [5, 7] (fun vp i wr => ∃ j p : Nat, j ≤ 7 ∧ i = .int .i64 (j + 7) ∧ vp = .int .i64 p ∧ p < 32768 ∧ Hid (refR 7 (refP a b 8) = refR j p) ∧ wr = w) (fun _ i _ => (intOf i).toNat)
   case atStart => exact ⟨7, p, by omega, rfl, rfl, hp, (by rw [← HS.out] : refR 7 (refP a b 8) = refR 7 p), rfl⟩
   case round =>
    clear HS hp
    obtain ⟨j, p, hj, rfl, rfl, hp, HS, hw⟩ := hrel
    obtain rfl := hw.symm
    cases j with
    | zero =>
     go_wp2
     go_ret
     refine ⟨ret_int ?_, rfl⟩
     rw [HS.out]
     show _ = ((p % 256 : Nat) : Int)
     omega
    | succ j =>
     have HB : Hid ((((p : Int) / 2 ^ (j + 1 + 7)).tmod 2 == 1) = (Nat.mod (Nat.div p (Nat.pow 2 (Nat.add j 8))) 2 == 1)) := bit_eq p (j + 8)
     have HSH : Hid (wrap64 (283 * 2 ^ j) = (Nat.mul 283 (Nat.pow 2 j) : Nat) ∧ Nat.mul 283 (Nat.pow 2 j) < 32768) := by
      have h8 : j = 0 ∨ j = 1 ∨ j = 2 ∨ j = 3 ∨ j = 4 ∨ j = 5 ∨ j = 6 := by omega
      rcases h8 with rfl | rfl | rfl | rfl | rfl | rfl | rfl <;> exact ⟨by decide +kernel, by decide⟩
     have HR : Hid (refR (j + 1) p = refR j (Nat.xor p (Nat.mul (Nat.mod (Nat.div p (Nat.pow 2 (Nat.add j 8))) 2) (Nat.mul 283 (Nat.pow 2 j))))) := rfl
     go_wp2
     ·have hc : (((p : Int) / 2 ^ (j + 1 + 7)).tmod 2 == 1) = true := by assumption
      have h1 : Nat.mod (Nat.div p (Nat.pow 2 (Nat.add j 8))) 2 = 1 := by
       rw [HB.out] at hc
       exact eq_of_beq hc
      obtain ⟨e1, e2⟩ := HSH.out
      refine ⟨⟨j, Nat.xor p (Nat.mul 283 (Nat.pow 2 j)), by omega, val_eq (by omega), val_eq ?_, xor_lt15 hp e2, ?_, trivial⟩, ?_⟩
      ·rw [e1, xor15 _ _ hp e2]
      ·show refR 7 (refP a b 8) = _
       rw [HS.out, HR.out, h1]
       simp
      ·simp only [intOf]; omega
     ·have hc : (((p : Int) / 2 ^ (j + 1 + 7)).tmod 2 == 1) = false := by assumption
      have h1 : Nat.mod (Nat.div p (Nat.pow 2 (Nat.add j 8))) 2 = 0 := by
       rw [HB.out] at hc
       rcases bit_cases (Nat.div p (Nat.pow 2 (Nat.add j 8))) with h | h
       ·exact h
       ·rw [h] at hc; cases hc
      refine ⟨⟨j, p, by omega, val_eq (by omega), rfl, hp, ?_, trivial⟩, ?_⟩
      ·show refR 7 (refP a b 8) = _
       rw [HS.out, HR.out, h1]
       simp
      ·simp only [intOf]; omega
end Go.Proofs.YtcnikfikpnnblaaGreatDoor
namespace Go.Proofs.YtcnikfikpnnblaaGreatDoor
open Go.RowKit
def both (a b : Nat) : Bool := Nat.beq (tmsN 8 0 a b) (Nat.mod (refR 7 (refP a b 8)) 256)
set_option maxRecDepth 100000 in
theorem both_all : allB (fun a => allB (both a) 256) 256 = true := by decide +kernel
theorem both_eq (a b : Nat) (ha : a < 256) (hb : b < 256) : Nat.mod (refR 7 (refP a b 8)) 256 = tmsN 8 0 a b := (Nat.eq_of_beq_eq_true (allB_at (allB_at both_all ha) hb)).symm
end Go.Proofs.YtcnikfikpnnblaaGreatDoor
namespace Go.Proofs.YtcnikfikpnnblaaGreatDoor
/-- Numbers that are bytes. -/
def AllBytes (zs : List Int) : Prop := ∀ i, 0 ≤ zs.getD i 0 ∧ zs.getD i 0 < 256
end Go.Proofs.YtcnikfikpnnblaaGreatDoor
namespace Go.Proofs.YtcnikfikpnnblaaGreatDoor.Dg
open Go.RowKit
/-- A rotation to the left by s. -/
def rotl32 (x : Int) (s : Nat) : Int := bits .or .u32 (x * 2 ^ s % 4294967296) (x / 2 ^ (32 - s))
def rotl64 (x : Int) (s : Nat) : Int := bits .or .u64 (x * 2 ^ s % 18446744073709551616) (x / 2 ^ (64 - s))
theorem wrap64 (x : Int) (h0 : 0 ≤ x) (h1 : x ≤ 64) : IntKind.u64.wrap x = x := by
 simp [IntKind.wrap, IntKind.bits, IntKind.signed]
 omega
set_option maxHeartbeats 400000 in
theorem rot32_core (x k s : Int) (w : World) (hb : bits .and .u64 (IntKind.u64.wrap k) 31 = s) (h0 : 0 ≤ s) (h1 : s ≤ 32) : Calls Tryz.prog 108 #[.int .u32 x, .int .i64 k] w fun e w' => e = .returned (.int .u32 (rotl32 x s.toNat)) ∧ w' = w := by
 have hs : IntKind.u64.wrap (32 - s) = 32 - s := wrap64 _ (by omega) (by omega)
 have h2 : 0 ≤ 32 - s := by omega
 go_enter Tryz.func108, Tryz.ntmps108
 go_wp2
 go_ret
 refine ⟨?_, rfl⟩
 have e2 : (32 - s).toNat = 32 - s.toNat := by omega
 rw [e2]
 exact rfl
set_option maxHeartbeats 400000 in
theorem rot64_core (x k s : Int) (w : World) (hb : bits .and .u64 (IntKind.u64.wrap k) 63 = s) (h0 : 0 ≤ s) (h1 : s ≤ 64) : Calls Tryz.prog 277 #[.int .u64 x, .int .i64 k] w fun e w' => e = .returned (.int .u64 (rotl64 x s.toNat)) ∧ w' = w := by
 have hs : IntKind.u64.wrap (64 - s) = 64 - s := wrap64 _ (by omega) (by omega)
 have h2 : 0 ≤ 64 - s := by omega
 go_enter Tryz.func277, Tryz.ntmps277
 go_wp2
 go_ret
 refine ⟨?_, rfl⟩
 have e2 : (64 - s).toNat = 64 - s.toNat := by omega
 rw [e2]
 exact rfl
theorem rot32_of {x k : Int} {w : World} (n : Nat) (hb : bits .and .u64 (IntKind.u64.wrap k) 31 = ((32 - n : Nat) : Int)) : Calls Tryz.prog 108 #[.int .u32 x, .int .i64 k] w fun e w' => e = .returned (.int .u32 (rotl32 x (32 - n))) ∧ w' = w := by
 have h := rot32_core x k ((32 - n : Nat) : Int) w hb (by omega) (by omega)
 simpa using h
theorem rot64_of {x k : Int} {w : World} (n : Nat) (hb : bits .and .u64 (IntKind.u64.wrap k) 63 = ((64 - n : Nat) : Int)) : Calls Tryz.prog 277 #[.int .u64 x, .int .i64 k] w fun e w' => e = .returned (.int .u64 (rotl64 x (64 - n))) ∧ w' = w := by
 have h := rot64_core x k ((64 - n : Nat) : Int) w hb (by omega) (by omega)
 simpa using h
end Go.Proofs.YtcnikfikpnnblaaGreatDoor.Dg
namespace Go.Proofs.YtcnikfikpnnblaaGreatDoor.Dg
open Go.RowKit

/-- A world that differs in what it drew alone. -/
structure Sm (w w' : World) : Prop where
 os : w'.os = w.os
 tape : w'.tape = w.tape
 output : w'.output = w.output
 heap : w'.heap = w.heap
theorem Sm.refl (w : World) : Sm w w := ⟨rfl, rfl, rfl, rfl⟩
theorem Sm.drewN {w v : World} (h : Sm w v) (m : Nat) : Sm w (v.drewN m) := ⟨h.os, h.tape, h.output, h.heap⟩
theorem Sm.trans {a b c : World} (h : Sm a b) (k : Sm b c) : Sm a c := ⟨k.os.trans h.os, k.tape.trans h.tape, k.output.trans h.output, k.heap.trans h.heap⟩
theorem Sm.cell {w v : World} (h : Sm w v) (p : Addr) : v.cell? p = w.cell? p := World.cell?_of_block (by rw [h.heap])
theorem Sm.frozen {w v : World} (h : Sm w v) (p : Addr) : v.frozen? p = w.frozen? p := World.frozen?_of_block (by rw [h.heap])

theorem setCells_os (b : Nat) : ∀ (vs : List Value) (o : Nat) (w : World), (w.setCells b o vs).os = w.os
 | [], _, _ => rfl
 | v :: r, o, w => by rw [World.setCells, setCells_os b r (o + 1)]; rfl
theorem setCells_tape (b : Nat) : ∀ (vs : List Value) (o : Nat) (w : World), (w.setCells b o vs).tape = w.tape
 | [], _, _ => rfl
 | v :: r, o, w => by rw [World.setCells, setCells_tape b r (o + 1)]; rfl
theorem setCells_output (b : Nat) : ∀ (vs : List Value) (o : Nat) (w : World), (w.setCells b o vs).output = w.output
 | [], _, _ => rfl
 | v :: r, o, w => by rw [World.setCells, setCells_output b r (o + 1)]; rfl

/-- From w to w' nothing of what was there is changed but n cells of block g from o on; what could be written there can be still. -/
structure Touch (w w' : World) (g o n : Nat) : Prop where
 os : w'.os = w.os
 tape : w'.tape = w.tape
 output : w'.output = w.output
 size : w.heap.size ≤ w'.heap.size
 block : ∀ k, k < w.heap.size → k ≠ g → w'.heap[k]? = w.heap[k]?
 cell : ∀ j, (j < o ∨ o + n ≤ j) → w'.cell? ⟨g, j, none⟩ = w.cell? ⟨g, j, none⟩
 there : ∀ o' n', w.there g o' n' → w'.there g o' n'

theorem Sm.touch {w v : World} (h : Sm w v) (g o n : Nat) : Touch w v g o n :=
 ⟨h.os, h.tape, h.output, by rw [h.heap]; exact Nat.le_refl _, fun k _ _ => by rw [h.heap], fun j _ => h.cell _, fun o' n' ht j hj => by rw [h.cell, h.frozen]; exact ht j hj⟩
theorem Touch.refl (w : World) (g o n : Nat) : Touch w w g o n := (Sm.refl w).touch g o n
theorem Touch.trans {a b c : World} {g o n : Nat} (h : Touch a b g o n) (k : Touch b c g o n) : Touch a c g o n :=
 ⟨k.os.trans h.os, k.tape.trans h.tape, k.output.trans h.output, Nat.le_trans h.size k.size, fun i hi hne => (k.block i (Nat.lt_of_lt_of_le hi h.size) hne).trans (h.block i hi hne), fun j hj => (k.cell j hj).trans (h.cell j hj), fun o' n' ht => k.there o' n' (h.there o' n' ht)⟩
theorem Touch.mono {a b : World} {g o n : Nat} (h : Touch a b g o n) (o' n' : Nat) (h1 : o' ≤ o) (h2 : o + n ≤ o' + n') : Touch a b g o' n' :=
 ⟨h.os, h.tape, h.output, h.size, h.block, fun j hj => h.cell j (by omega), h.there⟩
theorem Touch.setCells {a b : World} {g o n : Nat} (h : Touch a b g o n) (o' : Nat) (vs : List Value) (h1 : o ≤ o') (h2 : o' + vs.length ≤ o + n) : Touch a (b.setCells g o' vs) g o n := by
 refine h.trans ⟨?_, ?_, ?_, ?_, ?_, ?_, ?_⟩
 ·exact setCells_os g vs o' b
 ·exact setCells_tape g vs o' b
 ·exact setCells_output g vs o' b
 ·rw [size_setCells]; exact Nat.le_refl _
 ·intro k hk hne
  exact World.heap_setCells_other b g o' vs hk hne
 ·intro j hj
  exact World.cell?_setCells_out g vs o' b ⟨g, j, none⟩ (fun _ _ => by rcases hj with h | h; exact .inl (by show j < o'; omega); exact .inr (by show o' + vs.length ≤ j; omega))
 ·intro o2 n2 ht
  exact World.there_setCells ht g o' vs
theorem Touch.setCell {a b : World} {g o n : Nat} (h : Touch a b g o n) (j : Nat) (u : Value) (h1 : o ≤ j) (h2 : j < o + n) : Touch a (b.setCell ⟨g, j, none⟩ u) g o n :=
 h.setCells j [u] h1 (by simp; omega)
theorem Touch.alloc {a b : World} {g o n : Nat} (h : Touch a b g o n) (ob : Obj) (hg : g < a.heap.size) : Touch a (b.alloc ob) g o n := by
 have hs := h.size
 refine h.trans ⟨rfl, rfl, rfl, by simp, ?_, ?_, ?_⟩
 ·intro k hk _
  exact Below.heap_alloc b ob k hk
 ·intro j _
  exact World.cell?_alloc_past ob g j (by omega)
 ·intro o' n' ht
  exact World.there_alloc ht ob
theorem Touch.drew {a b : World} {g o n : Nat} (h : Touch a b g o n) : Touch a b.drew g o n := ⟨h.os, h.tape, h.output, h.size, h.block, h.cell, h.there⟩
theorem Touch.drewN {a b : World} {g o n : Nat} (h : Touch a b g o n) (m : Nat) : Touch a (b.drewN m) g o n := ⟨h.os, h.tape, h.output, h.size, h.block, h.cell, h.there⟩
/-- What only makes new blocks touches nothing. -/
theorem Touch.below {a b c : World} {g o n : Nat} (h : Touch a b g o n) (k : Below b.heap.size b c) (hg : g < a.heap.size) : Touch a c g o n := by
 have hs := h.size
 refine h.trans ⟨k.os, k.tape, k.output, k.size, fun i hi _ => k.block i hi, fun j _ => k.cell (p := ⟨g, j, none⟩) (show g < _ by omega), ?_⟩
 intro o' n' ht j hj
 rw [k.cell (p := ⟨g, o' + j, none⟩) (show g < _ by omega), k.frozen (p := ⟨g, o' + j, none⟩) (show g < _ by omega)]
 exact ht j hj
theorem Touch.toBelow {a b : World} {g o n B : Nat} (h : Touch a b g o n) (hg : B ≤ g) (hB : B ≤ a.heap.size) : Below B a b :=
 ⟨h.os, h.tape, h.output, h.size, fun k hk => h.block k (by omega) (by omega)⟩
theorem Touch.far {a b : World} {g o n : Nat} (h : Touch a b g o n) {p : Addr} (hp : p.block < a.heap.size) (hne : p.block ≠ g) : b.cell? p = a.cell? p := World.cell?_of_block (h.block p.block hp hne)
theorem Touch.farFrozen {a b : World} {g o n : Nat} (h : Touch a b g o n) {p : Addr} (hp : p.block < a.heap.size) (hne : p.block ≠ g) : b.frozen? p = a.frozen? p := World.frozen?_of_block (h.block p.block hp hne)
end Go.Proofs.YtcnikfikpnnblaaGreatDoor.Dg
namespace Go.Proofs.YtcnikfikpnnblaaGreatDoor.Dg
/-- Numbers that are bytes. -/
def AllBytes (zs : List Int) : Prop := ∀ i, 0 ≤ zs.getD i 0 ∧ zs.getD i 0 < 256
end Go.Proofs.YtcnikfikpnnblaaGreatDoor.Dg
namespace Go.Proofs.YtcnikfikpnnblaaGreatDoor.Dg
variable {P : Program} {ops : Array Oper} {Q : Exit → Act → World → Prop} {md : Region.Mode}

/-- An operation that yields in whatever world is taken first; its slot is written out. -/
theorem take_at (i d : Nat) (v : Value) {oi : Oper} {fuel : Nat} {listed : Array Bool} {tmps : Array Value} {ds : List Deferred} {w : World} (hi : ops[i]? = some oi) (hd : oi.dst = some d)
  (hs : Region.noSelect ops = true) (hf : Region.free md ops listed i = true) (hr : (Region.ready md ops listed).contains i = true)
  (hQ : ∀ c a w, Q (.panic c) (a.put oi.dst v) w → Q (.panic c) a w) (hy : Yields P ops oi v ⟨tmps, ds⟩)
  (h : wpAny P md ops Q fuel (listed.setIfInBounds i true) ⟨tmps.setIfInBounds d v, ds⟩ w) : wpAny P md ops Q (fuel + 1) listed ⟨tmps, ds⟩ w := by
 refine wpAny_take hi hs hf hr hQ hy ?_
 rw [hd]
 exact h
variable {S : World → Prop}
/-- The same under what every world of the region meets. -/
theorem takeH_at (i d : Nat) (v : Value) {oi : Oper} {fuel : Nat} {listed : Array Bool} {tmps : Array Value} {ds : List Deferred} {w : World} (hi : ops[i]? = some oi) (hd : oi.dst = some d)
  (hs : Region.noSelect ops = true) (hf : Region.free md ops listed i = true) (hr : (Region.ready md ops listed).contains i = true)
  (hQ : ∀ c a w, Q (.panic c) (a.put oi.dst v) w → Q (.panic c) a w) (hS : S w) (hy : YieldsIf P ops S oi v ⟨tmps, ds⟩)
  (h : wpAnyH P md ops Q S fuel (listed.setIfInBounds i true) ⟨tmps.setIfInBounds d v, ds⟩ w) : wpAnyH P md ops Q S (fuel + 1) listed ⟨tmps, ds⟩ w := by
 refine wpAnyH_take hi hs hf hr hQ hy hS ?_
 rw [hd]
 exact h
end Go.Proofs.YtcnikfikpnnblaaGreatDoor.Dg
namespace Go.Proofs.YtcnikfikpnnblaaGreatDoor
/-- A slot is written. -/
theorem pU {α : Type} : (∀ (l : List α) (i : Nat) (a : α), l.toArray.setIfInBounds i a = (l.set i a).toArray) ∧ (∀ (x : α) (l : List α) (a : α), (x :: l).set 0 a = a :: l) ∧ (∀ (x : α) (l : List α) (n : Nat) (a : α), (x :: l).set (n + 1) a = x :: l.set n a) :=
  ⟨fun l i a => by simp, fun x l a => rfl, fun x l n a => rfl⟩
end Go.Proofs.YtcnikfikpnnblaaGreatDoor
