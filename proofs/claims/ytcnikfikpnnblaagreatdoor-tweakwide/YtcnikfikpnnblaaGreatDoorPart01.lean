import Derived.Test.YtcnikfikpnnblaaGreatDoorProg
import Derived.WalkKit
import Derived.Laws.BitsLemmas
import Derived.Test.YtcnikfikpnnblaaGreatDoorPart00
import Derived.Deep.Draws
import Derived.Deep.Upon
import Derived.Deep.QuietTactic
import Derived.BigQuiet
import Derived.Laws.BitsAllLaws
namespace Go.Proofs.YtcnikfikpnnblaaGreatDoor
open Go.RowKit
/-- The product by x. -/
def dblN (a : Nat) : Nat := Nat.xor (Nat.mod (Nat.mul a 2) 256) (Nat.mul (Nat.div a 128) 27)
/-- Times, k rounds of it. -/
def tmsN : Nat → Nat → Nat → Nat → Nat
 | 0, p, _, _ => p
 | k + 1, p, a, b => tmsN k (Nat.xor p (Nat.mul (Nat.mod b 2) a)) (dblN a) (Nat.div b 2)
def refP (a b : Nat) : Nat → Nat
 | 0 => 0
 | i + 1 => Nat.xor (refP a b i) (Nat.mul (Nat.mod (Nat.div b (Nat.pow 2 i)) 2) (Nat.mul a (Nat.pow 2 i)))
def refR : Nat → Nat → Nat
 | 0, p => p
 | i + 1, p => refR i (Nat.xor p (Nat.mul (Nat.mod (Nat.div p (Nat.pow 2 (Nat.add i 8))) 2) (Nat.mul 283 (Nat.pow 2 i))))
def allB (f : Nat → Bool) : Nat → Bool
 | 0 => true
 | n + 1 => and (f n) (allB f n)
theorem allB_at {f : Nat → Bool} : ∀ {n : Nat}, allB f n = true → ∀ {i}, i < n → f i = true
 | 0, _, i, h => by omega
 | n + 1, ha, i, h => by
  simp only [allB, Bool.and_eq_true] at ha
  by_cases hi : i = n
  ·subst hi; exact ha.1
  ·exact allB_at ha.2 (by omega)
theorem dbl_eq : ∀ a : Fin 256, bits .xor .u8 ((a.1 : Int) * 2 % 256) (bits .and .u8 27 (-((a.1 : Int) / 128) % 256)) = (dblN a.1 : Nat) := by decide +kernel
theorem dbl_lt : ∀ a : Fin 256, dblN a.1 < 256 := by decide +kernel
theorem and_one : ∀ b : Fin 256, bits .and .u8 (b.1 : Int) 1 = ((b.1 % 2 : Nat) : Int) := by decide +kernel
theorem and_all : ∀ b : Fin 256, bits .and .u8 (b.1 : Int) 255 = (b.1 : Int) := by decide +kernel
theorem and_none : ∀ b : Fin 256, bits .and .u8 (b.1 : Int) 0 = 0 := by decide +kernel
theorem bits_xor (k : IntKind) (j : Nat) (hj : j ≤ k.bits) (hk : ∀ n : Int, 0 ≤ n → n < 2 ^ j → k.wrap n = n) (a b : Nat) (ha : a < 2 ^ j) (hb : b < 2 ^ j) :
  bits .xor k a b = ((Nat.xor a b : Nat) : Int) := by
 have hp : 2 ^ j ≤ 2 ^ k.bits := Nat.pow_le_pow_right (by decide) hj
 have ha' : a % 2 ^ k.bits = a := Nat.mod_eq_of_lt (Nat.lt_of_lt_of_le ha hp)
 have hb' : b % 2 ^ k.bits = b := Nat.mod_eq_of_lt (Nat.lt_of_lt_of_le hb hp)
 have cast : ∀ n : Nat, n < 2 ^ j → ((n : Nat) : Int) < 2 ^ j := fun n h => by exact_mod_cast h
 simp only [bits, BitVec.ofInt_natCast, BitVec.toNat_xor, BitVec.toNat_ofNat, ha', hb']
 exact hk _ (Int.natCast_nonneg _) (cast _ (Nat.xor_lt_two_pow ha hb))
theorem wraps_i64 (n : Int) (h₀ : 0 ≤ n) (h₁ : n < 2 ^ 63) : IntKind.i64.wrap n = n := by rw [IntKind.wrap_i64]; omega
theorem xor8 (a b : Nat) (ha : a < 256) (hb : b < 256) : bits .xor .u8 (a : Int) b = (Nat.xor a b : Nat) := bits_xor .u8 8 (by decide) wraps_u8 a b ha hb
theorem xor15 (a b : Nat) (ha : a < 32768) (hb : b < 32768) : bits .xor .i64 (a : Int) b = (Nat.xor a b : Nat) := bits_xor .i64 15 (by decide) (fun n h0 h1 => wraps_i64 n h0 (by omega)) a b ha hb
theorem xor_lt15 {a b : Nat} (ha : a < 32768) (hb : b < 32768) : Nat.xor a b < 32768 := Nat.xor_lt_two_pow (n := 15) ha hb
theorem bit_eq (b k : Nat) : (((b : Int) / 2 ^ k).tmod 2 == 1) = (Nat.mod (Nat.div b (Nat.pow 2 k)) 2 == 1) := by
 have e : ((b : Int) / 2 ^ k) = ((b / 2 ^ k : Nat) : Int) := by push_cast; rfl
 rw [e, show (2 : Int) = ((2 : Nat) : Int) from rfl, ← Int.ofNat_tmod]
 show _ = (b / 2 ^ k % 2 == 1)
 have : b / 2 ^ k % 2 = 0 ∨ b / 2 ^ k % 2 = 1 := by omega
 rcases this with h | h <;> rw [h] <;> rfl
theorem bit_cases (n : Nat) : Nat.mod n 2 = 0 ∨ Nat.mod n 2 = 1 := by
 have : n % 2 = 0 ∨ n % 2 = 1 := by omega
 exact this
theorem xor_lt8 {a b : Nat} (ha : a < 256) (hb : b < 256) : Nat.xor a b < 256 := Nat.xor_lt_two_pow (n := 8) ha hb
theorem mask_eq (a b : Nat) (ha : a < 256) (hb : b < 256) : bits .and .u8 (a : Int) (-(bits .and .u8 (b : Int) 1) % 256) = (Nat.mul (Nat.mod b 2) a : Nat) := by
 have h1 := and_one ⟨b, hb⟩
 simp only at h1
 rw [h1]
 have : b % 2 = 0 ∨ b % 2 = 1 := by omega
 rcases this with h | h
 ·rw [h]
  have := and_none ⟨a, ha⟩
  simp only at this
  have e : Nat.mod b 2 = 0 := h
  rw [e]
  simpa using this
 ·rw [h]
  have := and_all ⟨a, ha⟩
  simp only at this
  have e : Nat.mod b 2 = 1 := h
  rw [e]
  simpa using this
theorem ret_int {k : IntKind} {x y : Int} (h : x = y) : Ending.returned (.int k x) = .returned (.int k y) := by rw [h]
theorem val_eq {k : IntKind} {x y : Int} (h : x = y) : Value.int k x = Value.int k y := by rw [h]
theorem dbl_ok (a : Nat) (h : a < 256) (w : World) : Calls Tryz.prog 224 #[.int .u8 a] w fun e w' => e = .returned (.int .u8 (dblN a : Nat)) ∧ w' = w := by
 go_enter Tryz.func224, Tryz.ntmps224
 go_wp2
 go_ret
 exact ⟨ret_int (dbl_eq ⟨a, h⟩), rfl⟩
theorem tms_lt : ∀ (k p a b : Nat), p < 256 → a < 256 → b < 256 → tmsN k p a b < 256
 | 0, p, a, b, hp, _, _ => hp
 | k + 1, p, a, b, hp, ha, hb => by
  have : Nat.mul (Nat.mod b 2) a < 256 := by
   have : b % 2 = 0 ∨ b % 2 = 1 := by omega
   rcases this with h | h
   ·rw [show Nat.mod b 2 = 0 from h]; simp
   ·rw [show Nat.mod b 2 = 1 from h]; simpa using ha
  exact tms_lt k _ _ _ (xor_lt8 hp this) (dbl_lt ⟨a, ha⟩) (by show b / 2 < 256; omega)
theorem times_ok (a b : Nat) (ha : a < 256) (hb : b < 256) (w : World) : Calls Tryz.prog 168 #[.int .u8 a, .int .u8 b] w fun e w' => e = .returned (.int .u8 (tmsN 8 0 a b : Nat)) ∧ w' = w := by
 go_enter Tryz.func168, Tryz.ntmps168
 go_wp2
 go_loopw [0, 1, 5, 6] (fun va vb vp i wr => ∃ k x y p : Nat, k ≤ 8 ∧ x < 256 ∧ y < 256 ∧ p < 256 ∧ i = .int .i64 k ∧ va = .int .u8 x ∧ vb = .int .u8 y ∧ vp = .int .u8 p ∧ Hid (tmsN 8 0 a b = tmsN (8 - k) p x y) ∧ wr = w) (fun _ _ _ i _ => 8 - (intOf i).toNat)
 case atStart => exact ⟨0, a, b, 0, by omega, ha, hb, by omega, rfl, rfl, rfl, rfl, rfl, rfl⟩
 case round =>
  obtain ⟨k, x, y, p, hk, hx, hy, hp, rfl, rfl, rfl, rfl, HS, hw⟩ := hrel
  obtain rfl := hw.symm
  by_cases hlt : k < 8
  ·go_wp2_with (first | (go_at_call 224; (refine (dbl_ok x hx _).mono ?_); (rintro e1 w1 ⟨rfl, hw1⟩; obtain rfl := hw1.symm)))
   go_roundw
   case rel =>
    have hm : Nat.mul (Nat.mod y 2) x < 256 := by
     have : y % 2 = 0 ∨ y % 2 = 1 := by omega
     rcases this with h | h
     ·rw [show Nat.mod y 2 = 0 from h]; simp
     ·rw [show Nat.mod y 2 = 1 from h]; simpa using hx
    refine ⟨k + 1, dblN x, y / 2, Nat.xor p (Nat.mul (Nat.mod y 2) x), by omega, dbl_lt ⟨x, hx⟩, by omega, xor_lt8 hp hm, by go_num, rfl, val_eq (by omega), val_eq ?_, ?_, trivial⟩
    ·rw [mask_eq x y hx hy, xor8 _ _ hp hm]
    ·have := HS.out
     rw [show 8 - k = 8 - (k + 1) + 1 by omega] at this
     exact this
   case measure => simp [intOf]; omega
  ·obtain rfl : k = 8 := by omega
   go_wp2
   go_ret
   exact ⟨ret_int (by rw [HS.out]; rfl), rfl⟩
theorem refTimes_ok (a b : Nat) (ha : a < 256) (hb : b < 256) (w : World) : Calls Tryz.prog 103 #[.int .u8 a, .int .u8 b] w fun e w' => e = .returned (.int .u8 (Nat.mod (refR 7 (refP a b 8)) 256 : Nat)) ∧ w' = w := by
 go_enter Tryz.func103, Tryz.ntmps103
 go_wp2
 go_loopw [5, 6] (fun vp i wr => ∃ k p : Nat, k ≤ 8 ∧ i = .int .i64 k ∧ vp = .int .i64 p ∧ p < 32768 ∧ Hid (p = refP a b k) ∧ wr = w) (fun _ i _ => 8 - (intOf i).toNat)
 case atStart => exact ⟨0, 0, by omega, rfl, rfl, by omega, rfl, rfl⟩
 case round =>
  obtain ⟨k, p, hk, rfl, rfl, hp, HS, hw⟩ := hrel
  obtain rfl := hw.symm
  by_cases hlt : k < 8
  ·have hsh : wrap64 ((a : Int) * 2 ^ k) = (Nat.mul a (Nat.pow 2 k) : Nat) ∧ Nat.mul a (Nat.pow 2 k) < 32768 := by
    have h8 : k = 0 ∨ k = 1 ∨ k = 2 ∨ k = 3 ∨ k = 4 ∨ k = 5 ∨ k = 6 ∨ k = 7 := by omega
    show wrap64 ((a : Int) * 2 ^ k) = (a * 2 ^ k : Nat) ∧ a * 2 ^ k < 32768
    rcases h8 with rfl | rfl | rfl | rfl | rfl | rfl | rfl | rfl <;> (unfold wrap64; omega)
   have hbit := bit_eq b k
   have HB : Hid ((((b : Int) / 2 ^ k).tmod 2 == 1) = (Nat.mod (Nat.div b (Nat.pow 2 k)) 2 == 1)) := hbit
   have HSH : Hid (wrap64 ((a : Int) * 2 ^ k) = (Nat.mul a (Nat.pow 2 k) : Nat) ∧ Nat.mul a (Nat.pow 2 k) < 32768) := hsh
   clear hbit hsh
   go_wp2
   ·have hc : (((b : Int) / 2 ^ k).tmod 2 == 1) = true := by assumption
    have h1 : Nat.mod (Nat.div b (Nat.pow 2 k)) 2 = 1 := by
     rw [HB.out] at hc
     exact eq_of_beq hc
    obtain ⟨e1, e2⟩ := HSH.out
    refine ⟨⟨k + 1, Nat.xor p (Nat.mul a (Nat.pow 2 k)), by omega, rfl, val_eq ?_, xor_lt15 hp e2, ?_, trivial⟩, ?_⟩
    ·rw [e1, xor15 _ _ hp e2]
    ·show Nat.xor p (Nat.mul a (Nat.pow 2 k)) = _
     rw [HS.out]
     show _ = Nat.xor (refP a b k) (Nat.mul (Nat.mod (Nat.div b (Nat.pow 2 k)) 2) (Nat.mul a (Nat.pow 2 k)))
     rw [h1]
     simp
    ·simp [intOf]; omega
   ·have hc : (((b : Int) / 2 ^ k).tmod 2 == 1) = false := by assumption
    have h1 : Nat.mod (Nat.div b (Nat.pow 2 k)) 2 = 0 := by
     rw [HB.out] at hc
     rcases bit_cases (Nat.div b (Nat.pow 2 k)) with h | h
     ·exact h
     ·rw [h] at hc; cases hc
    refine ⟨⟨k + 1, p, by omega, rfl, rfl, hp, ?_, trivial⟩, ?_⟩
    ·show p = _
     rw [HS.out]
     show _ = Nat.xor (refP a b k) (Nat.mul (Nat.mod (Nat.div b (Nat.pow 2 k)) 2) (Nat.mul a (Nat.pow 2 k)))
     rw [h1]
     simp
    ·simp [intOf]; omega
  ·obtain rfl : k = 8 := by omega
   clear hlt hk
   go_wp2
   go_loopw [5, 7] (fun vp i wr => ∃ j p : Nat, j ≤ 7 ∧ i = .int .i64 (j + 7) ∧ vp = .int .i64 p ∧ p < 32768 ∧ Hid (refR 7 (refP a b 8) = refR j p) ∧ wr = w) (fun _ i _ => (intOf i).toNat)
   case atStart => exact ⟨7, p, by omega, rfl, rfl, hp, (by rw [← HS.out] : refR 7 (refP a b 8) = refR 7 p), rfl⟩
   case round =>
    clear HS hp
    obtain ⟨j, p, hj, rfl, rfl, hp, HS, hw⟩ := hrel
    obtain rfl := hw.symm
    cases j with
    | zero =>
     go_wp2
     go_ret
     refine ⟨ret_int ?_, rfl⟩
     rw [HS.out]
     show _ = ((p % 256 : Nat) : Int)
     omega
    | succ j =>
     have HB : Hid ((((p : Int) / 2 ^ (j + 1 + 7)).tmod 2 == 1) = (Nat.mod (Nat.div p (Nat.pow 2 (Nat.add j 8))) 2 == 1)) := bit_eq p (j + 8)
     have HSH : Hid (wrap64 (283 * 2 ^ j) = (Nat.mul 283 (Nat.pow 2 j) : Nat) ∧ Nat.mul 283 (Nat.pow 2 j) < 32768) := by
      have h8 : j = 0 ∨ j = 1 ∨ j = 2 ∨ j = 3 ∨ j = 4 ∨ j = 5 ∨ j = 6 := by omega
      rcases h8 with rfl | rfl | rfl | rfl | rfl | rfl | rfl <;> exact ⟨by decide +kernel, by decide⟩
     have HR : Hid (refR (j + 1) p = refR j (Nat.xor p (Nat.mul (Nat.mod (Nat.div p (Nat.pow 2 (Nat.add j 8))) 2) (Nat.mul 283 (Nat.pow 2 j))))) := rfl
     go_wp2
     ·have hc : (((p : Int) / 2 ^ (j + 1 + 7)).tmod 2 == 1) = true := by assumption
      have h1 : Nat.mod (Nat.div p (Nat.pow 2 (Nat.add j 8))) 2 = 1 := by
       rw [HB.out] at hc
       exact eq_of_beq hc
      obtain ⟨e1, e2⟩ := HSH.out
      refine ⟨⟨j, Nat.xor p (Nat.mul 283 (Nat.pow 2 j)), by omega, val_eq (by omega), val_eq ?_, xor_lt15 hp e2, ?_, trivial⟩, ?_⟩
      ·rw [e1, xor15 _ _ hp e2]
      ·show refR 7 (refP a b 8) = _
       rw [HS.out, HR.out, h1]
       simp
      ·simp only [intOf]; omega
     ·have hc : (((p : Int) / 2 ^ (j + 1 + 7)).tmod 2 == 1) = false := by assumption
      have h1 : Nat.mod (Nat.div p (Nat.pow 2 (Nat.add j 8))) 2 = 0 := by
       rw [HB.out] at hc
       rcases bit_cases (Nat.div p (Nat.pow 2 (Nat.add j 8))) with h | h
       ·exact h
       ·rw [h] at hc; cases hc
      refine ⟨⟨j, p, by omega, val_eq (by omega), rfl, hp, ?_, trivial⟩, ?_⟩
      ·show refR 7 (refP a b 8) = _
       rw [HS.out, HR.out, h1]
       simp
      ·simp only [intOf]; omega
end Go.Proofs.YtcnikfikpnnblaaGreatDoor
namespace Go.Proofs.YtcnikfikpnnblaaGreatDoor
open Go.RowKit

/-- A world that differs in what it drew alone. -/
structure Sm (w w' : World) : Prop where
 os : w'.os = w.os
 tape : w'.tape = w.tape
 output : w'.output = w.output
 heap : w'.heap = w.heap
theorem Sm.refl (w : World) : Sm w w := ⟨rfl, rfl, rfl, rfl⟩
theorem Sm.drewN {w v : World} (h : Sm w v) (m : Nat) : Sm w (v.drewN m) := ⟨h.os, h.tape, h.output, h.heap⟩
theorem Sm.trans {a b c : World} (h : Sm a b) (k : Sm b c) : Sm a c := ⟨k.os.trans h.os, k.tape.trans h.tape, k.output.trans h.output, k.heap.trans h.heap⟩
theorem Sm.cell {w v : World} (h : Sm w v) (p : Addr) : v.cell? p = w.cell? p := World.cell?_of_block (by rw [h.heap])
theorem Sm.frozen {w v : World} (h : Sm w v) (p : Addr) : v.frozen? p = w.frozen? p := World.frozen?_of_block (by rw [h.heap])

theorem setCells_os (b : Nat) : ∀ (vs : List Value) (o : Nat) (w : World), (w.setCells b o vs).os = w.os
 | [], _, _ => rfl
 | v :: r, o, w => by rw [World.setCells, setCells_os b r (o + 1)]; rfl
theorem setCells_tape (b : Nat) : ∀ (vs : List Value) (o : Nat) (w : World), (w.setCells b o vs).tape = w.tape
 | [], _, _ => rfl
 | v :: r, o, w => by rw [World.setCells, setCells_tape b r (o + 1)]; rfl
theorem setCells_output (b : Nat) : ∀ (vs : List Value) (o : Nat) (w : World), (w.setCells b o vs).output = w.output
 | [], _, _ => rfl
 | v :: r, o, w => by rw [World.setCells, setCells_output b r (o + 1)]; rfl

/-- From w to w' nothing of what was there is changed but n cells of block g from o on; what could be written there can be still. -/
structure Touch (w w' : World) (g o n : Nat) : Prop where
 os : w'.os = w.os
 tape : w'.tape = w.tape
 output : w'.output = w.output
 size : w.heap.size ≤ w'.heap.size
 block : ∀ k, k < w.heap.size → k ≠ g → w'.heap[k]? = w.heap[k]?
 cell : ∀ j, (j < o ∨ o + n ≤ j) → w'.cell? ⟨g, j, none⟩ = w.cell? ⟨g, j, none⟩
 there : ∀ o' n', w.there g o' n' → w'.there g o' n'

theorem Sm.touch {w v : World} (h : Sm w v) (g o n : Nat) : Touch w v g o n :=
 ⟨h.os, h.tape, h.output, by rw [h.heap]; exact Nat.le_refl _, fun k _ _ => by rw [h.heap], fun j _ => h.cell _, fun o' n' ht j hj => by rw [h.cell, h.frozen]; exact ht j hj⟩
theorem Touch.refl (w : World) (g o n : Nat) : Touch w w g o n := (Sm.refl w).touch g o n
theorem Touch.trans {a b c : World} {g o n : Nat} (h : Touch a b g o n) (k : Touch b c g o n) : Touch a c g o n :=
 ⟨k.os.trans h.os, k.tape.trans h.tape, k.output.trans h.output, Nat.le_trans h.size k.size, fun i hi hne => (k.block i (Nat.lt_of_lt_of_le hi h.size) hne).trans (h.block i hi hne), fun j hj => (k.cell j hj).trans (h.cell j hj), fun o' n' ht => k.there o' n' (h.there o' n' ht)⟩
theorem Touch.mono {a b : World} {g o n : Nat} (h : Touch a b g o n) (o' n' : Nat) (h1 : o' ≤ o) (h2 : o + n ≤ o' + n') : Touch a b g o' n' :=
 ⟨h.os, h.tape, h.output, h.size, h.block, fun j hj => h.cell j (by omega), h.there⟩
theorem Touch.setCells {a b : World} {g o n : Nat} (h : Touch a b g o n) (o' : Nat) (vs : List Value) (h1 : o ≤ o') (h2 : o' + vs.length ≤ o + n) : Touch a (b.setCells g o' vs) g o n := by
 refine h.trans ⟨?_, ?_, ?_, ?_, ?_, ?_, ?_⟩
 ·exact setCells_os g vs o' b
 ·exact setCells_tape g vs o' b
 ·exact setCells_output g vs o' b
 ·rw [sizeB_setCells]; exact Nat.le_refl _
 ·intro k hk hne
  exact World.heap_setCells_other b g o' vs hk hne
 ·intro j hj
  exact World.cell?_setCells_out g vs o' b ⟨g, j, none⟩ (fun _ _ => by rcases hj with h | h; exact .inl (by show j < o'; omega); exact .inr (by show o' + vs.length ≤ j; omega))
 ·intro o2 n2 ht
  exact World.there_setCells ht g o' vs
theorem Touch.setCell {a b : World} {g o n : Nat} (h : Touch a b g o n) (j : Nat) (u : Value) (h1 : o ≤ j) (h2 : j < o + n) : Touch a (b.setCell ⟨g, j, none⟩ u) g o n :=
 h.setCells j [u] h1 (by simp; omega)
theorem Touch.alloc {a b : World} {g o n : Nat} (h : Touch a b g o n) (ob : Obj) (hg : g < a.heap.size) : Touch a (b.alloc ob) g o n := by
 have hs := h.size
 refine h.trans ⟨rfl, rfl, rfl, by simp, ?_, ?_, ?_⟩
 ·intro k hk _
  exact Below.heap_alloc b ob k hk
 ·intro j _
  exact World.cell?_alloc_past ob g j (by omega)
 ·intro o' n' ht
  exact World.there_alloc ht ob
theorem Touch.drew {a b : World} {g o n : Nat} (h : Touch a b g o n) : Touch a b.drew g o n := ⟨h.os, h.tape, h.output, h.size, h.block, h.cell, h.there⟩
theorem Touch.drewN {a b : World} {g o n : Nat} (h : Touch a b g o n) (m : Nat) : Touch a (b.drewN m) g o n := ⟨h.os, h.tape, h.output, h.size, h.block, h.cell, h.there⟩
/-- What only makes new blocks touches nothing. -/
theorem Touch.below {a b c : World} {g o n : Nat} (h : Touch a b g o n) (k : Below b.heap.size b c) (hg : g < a.heap.size) : Touch a c g o n := by
 have hs := h.size
 refine h.trans ⟨k.os, k.tape, k.output, k.size, fun i hi _ => k.block i hi, fun j _ => k.cell (p := ⟨g, j, none⟩) (show g < _ by omega), ?_⟩
 intro o' n' ht j hj
 rw [k.cell (p := ⟨g, o' + j, none⟩) (show g < _ by omega), k.frozen (p := ⟨g, o' + j, none⟩) (show g < _ by omega)]
 exact ht j hj
theorem Touch.toBelow {a b : World} {g o n B : Nat} (h : Touch a b g o n) (hg : B ≤ g) (hB : B ≤ a.heap.size) : Below B a b :=
 ⟨h.os, h.tape, h.output, h.size, fun k hk => h.block k (by omega) (by omega)⟩
theorem Touch.far {a b : World} {g o n : Nat} (h : Touch a b g o n) {p : Addr} (hp : p.block < a.heap.size) (hne : p.block ≠ g) : b.cell? p = a.cell? p := World.cell?_of_block (h.block p.block hp hne)
theorem Touch.farFrozen {a b : World} {g o n : Nat} (h : Touch a b g o n) {p : Addr} (hp : p.block < a.heap.size) (hne : p.block ≠ g) : b.frozen? p = a.frozen? p := World.frozen?_of_block (h.block p.block hp hne)
end Go.Proofs.YtcnikfikpnnblaaGreatDoor
namespace Go.Proofs.YtcnikfikpnnblaaGreatDoor
open Go.RowKit

/-- A list of bytes behind a slice value. -/
def View (w : World) (v : Value) (zs : List Int) : Prop :=
 ∃ a cap, v = .slice a zs.length cap ∧ zs.length ≤ cap ∧ cap ≤ maxLen ∧ (a = none → cap = 0) ∧
  (zs = [] ∨ ∃ b off, a = some ⟨b, off, none⟩ ∧ ∀ i, i < zs.length → w.cell? ⟨b, off + i, none⟩ = some (.int .u8 (zs.getD i 0)))

theorem ret_bool {a b : Bool} (h : a = b) : Ending.returned (.bool a) = .returned (.bool b) := by rw [h]
theorem ext_getD {xs ys : List Int} {n : Nat} (hx : xs.length = n) (hy : ys.length = n) (h : ∀ j, j < n → xs.getD j 0 = ys.getD j 0) : xs = ys := by
 apply List.ext_getElem (by omega)
 intro i h1 h2
 have := h i (by omega)
 simpa [List.getD, List.getElem?_eq_getElem h1, List.getElem?_eq_getElem h2] using this

set_option maxHeartbeats 400000 in
theorem same_core (b1 o1 b2 o2 c1 c2 n : Nat) (xs ys : List Int) (w : World) (hx : xs.length = n) (hy : ys.length = n) (hn : n ≤ 9223372036854775807)
  (h1 : ∀ i, i < n → w.cell? ⟨b1, o1 + i, none⟩ = some (.int .u8 (xs.getD i 0)))
  (h2 : ∀ i, i < n → w.cell? ⟨b2, o2 + i, none⟩ = some (.int .u8 (ys.getD i 0))) :
  Calls Tryz.prog 30 #[.slice (some ⟨b1, o1, none⟩) n c1, .slice (some ⟨b2, o2, none⟩) n c2] w fun e w' => e = .returned (.bool (decide (xs = ys))) ∧ ∃ m, w' = w.drewN m := by
 have HX : Hid (xs.length = n) := hx
 have HY : Hid (ys.length = n) := hy
 clear hx hy
 go_enter Tryz.func30, Tryz.ntmps30
 go_wp2
 go_loopw [5] (fun i wr => ∃ k : Nat, k ≤ n ∧ i = .int .i64 k ∧ Hid (∀ j, j < k → xs.getD j 0 = ys.getD j 0) ∧ ∃ m, wr = w.drewN m) (fun i _ => n - (intOf i).toNat)
 case atStart => exact ⟨0, Nat.zero_le _, rfl, (fun j hj => by omega), 0, rfl⟩
 case round =>
  obtain ⟨k, hk, rfl, HE, m, rfl⟩ := hrel
  by_cases hlt : k < n
  ·have g1 := h1 k hlt
   have g2 := h2 k hlt
   clear h1 h2
   go_wp2
   go_quiet (fail)
   go_wp2
   ·have hne : (xs[k]?.getD 0 != ys[k]?.getD 0) = true := by assumption
    go_ret
    refine ⟨ret_bool ?_, _, World.drewN_drewN _ _ _⟩
    have : xs ≠ ys := by
     intro h
     subst h
     simp at hne
    simp [this]
   ·have heq : (xs[k]?.getD 0 != ys[k]?.getD 0) = false := by assumption
    go_roundw
    case rel =>
     refine ⟨k + 1, by omega, by go_num, ?_, _, rfl⟩
     intro j hj
     by_cases hjk : j < k
     ·exact HE.out j hjk
     ·obtain rfl : j = k := by omega
      simpa using heq
    case measure => simp [intOf]; omega
  ·go_wp2
   go_ret
   have := ext_getD HX.out HY.out (fun j hj => HE.out j (by omega))
   exact ⟨ret_bool (by simp [this]), _, rfl⟩

theorem same_zero (a1 a2 : Option Addr) (c1 c2 : Nat) (w : World) :
  Calls Tryz.prog 30 #[.slice a1 0 c1, .slice a2 0 c2] w fun e w' => e = .returned (.bool true) ∧ ∃ m, w' = w.drewN m := by
 go_enter Tryz.func30, Tryz.ntmps30
 go_wp2
 go_loop [5] (fun i => i = .int .i64 0) (fun _ => 0)
 case atStart => rfl
 case round =>
  subst hrel
  go_wp2
  go_ret
  exact ⟨rfl, 0, rfl⟩

theorem same_unlike (a1 a2 : Option Addr) (l1 l2 c1 c2 : Nat) (w : World) (h : l1 ≠ l2) :
  Calls Tryz.prog 30 #[.slice a1 l1 c1, .slice a2 l2 c2] w fun e w' => e = .returned (.bool false) ∧ ∃ m, w' = w.drewN m := by
 have hb : ((l1 : Int) != (l2 : Int)) = true := by rw [bne_iff_ne]; omega
 clear h
 go_enter Tryz.func30, Tryz.ntmps30
 go_wp2
 go_ret
 exact ⟨rfl, 0, rfl⟩

/-- cofferbook.SameBytes. -/
theorem same_any (v1 v2 : Value) (xs ys : List Int) (w : World) (h1 : View w v1 xs) (h2 : View w v2 ys) :
  Calls Tryz.prog 30 #[v1, v2] w fun e w' => e = .returned (.bool (decide (xs = ys))) ∧ ∃ m, w' = w.drewN m := by
 obtain ⟨a1, c1, rfl, hl1, hm1, _, k1⟩ := h1
 obtain ⟨a2, c2, rfl, hl2, hm2, _, k2⟩ := h2
 by_cases hl : xs.length = ys.length
 ·rcases k1 with rfl | ⟨b1, o1, rfl, g1⟩
  ·have : ys = [] := List.eq_nil_of_length_eq_zero (by simpa using hl.symm)
   subst this
   simpa using same_zero a1 a2 c1 c2 w
  ·rcases k2 with rfl | ⟨b2, o2, rfl, g2⟩
   ·have : xs = [] := List.eq_nil_of_length_eq_zero (by simpa using hl)
    subst this
    simpa using same_zero _ a2 c1 c2 w
   ·rw [← hl]
    exact same_core b1 o1 b2 o2 c1 c2 xs.length xs ys w rfl hl.symm (by unfold maxLen at hm1; omega) g1 (by rw [hl]; exact g2)
 ·have hne : xs ≠ ys := fun h => hl (by rw [h])
  have hd : decide (xs = ys) = false := by simpa using hne
  rw [hd]
  exact same_unlike a1 a2 _ _ c1 c2 w hl
end Go.Proofs.YtcnikfikpnnblaaGreatDoor
namespace Go.Proofs.YtcnikfikpnnblaaGreatDoor
/-- Numbers that are bytes. -/
def AllBytes (zs : List Int) : Prop := ∀ i, 0 ≤ zs.getD i 0 ∧ zs.getD i 0 < 256
end Go.Proofs.YtcnikfikpnnblaaGreatDoor
