import Derived.WalkKit
import Derived.Test.YtgmfiljjogdccabGreatDoorProg
import Derived.Laws.BitsLemmas
import Derived.Deep.RegionHeld3
import Derived.StillTail
import Derived.Deep.MidRow
import Derived.Laws.ResultCell
import Derived.Below
import Derived.Deep.Draws
import Derived.Deep.Upon
import Derived.Great.BuildSlice
import Derived.Maps.AppendAt
import Derived.Deep.QuietTactic
import Derived.BigQuiet
import Derived.Laws.BitsAllLaws
import Derived.Conc.RwLone
import Derived.KernelRfl
import Derived.Test.YtgmfiljjogdccabGreatDoorRows
import Derived.ProofKit
import Derived.OpenShut
import Derived.ShutString
import Derived.ChangeOld
import Derived.SizedLaws
namespace Go.Proofs.YtgmfiljjogdccabGreatDoor
/-- A slot is written. -/
theorem pU {α : Type} : (∀ (l : List α) (i : Nat) (a : α), l.toArray.setIfInBounds i a = (l.set i a).toArray) ∧ (∀ (x : α) (l : List α) (a : α), (x :: l).set 0 a = a :: l) ∧ (∀ (x : α) (l : List α) (n : Nat) (a : α), (x :: l).set (n + 1) a = x :: l.set n a) :=
  ⟨fun l i a => by simp, fun x l a => rfl, fun x l n a => rfl⟩
end Go.Proofs.YtgmfiljjogdccabGreatDoor
namespace Go.Proofs.YtgmfiljjogdccabGreatDoor
open Go.RowKit
/-- The product by x. -/
def dblN (a : Nat) : Nat := Nat.xor (Nat.mod (Nat.mul a 2) 256) (Nat.mul (Nat.div a 128) 27)
/-- Times, k rounds of it. -/
def tmsN : Nat → Nat → Nat → Nat → Nat
 | 0, p, _, _ => p
 | k + 1, p, a, b => tmsN k (Nat.xor p (Nat.mul (Nat.mod b 2) a)) (dblN a) (Nat.div b 2)
def refP (a b : Nat) : Nat → Nat
 | 0 => 0
 | i + 1 => Nat.xor (refP a b i) (Nat.mul (Nat.mod (Nat.div b (Nat.pow 2 i)) 2) (Nat.mul a (Nat.pow 2 i)))
def refR : Nat → Nat → Nat
 | 0, p => p
 | i + 1, p => refR i (Nat.xor p (Nat.mul (Nat.mod (Nat.div p (Nat.pow 2 (Nat.add i 8))) 2) (Nat.mul 283 (Nat.pow 2 i))))
def allB (f : Nat → Bool) : Nat → Bool
 | 0 => true
 | n + 1 => and (f n) (allB f n)
theorem allB_at {f : Nat → Bool} : ∀ {n : Nat}, allB f n = true → ∀ {i}, i < n → f i = true
 | 0, _, i, h => by omega
 | n + 1, ha, i, h => by
  simp only [allB, Bool.and_eq_true] at ha
  by_cases hi : i = n
  ·subst hi; exact ha.1
  ·exact allB_at ha.2 (by omega)
theorem dbl_eq : ∀ a : Fin 256, bits .xor .u8 ((a.1 : Int) * 2 % 256) (bits .and .u8 27 (-((a.1 : Int) / 128) % 256)) = (dblN a.1 : Nat) := by decide +kernel
theorem dbl_lt : ∀ a : Fin 256, dblN a.1 < 256 := by decide +kernel
theorem and_one : ∀ b : Fin 256, bits .and .u8 (b.1 : Int) 1 = ((b.1 % 2 : Nat) : Int) := by decide +kernel
theorem and_all : ∀ b : Fin 256, bits .and .u8 (b.1 : Int) 255 = (b.1 : Int) := by decide +kernel
theorem and_none : ∀ b : Fin 256, bits .and .u8 (b.1 : Int) 0 = 0 := by decide +kernel
theorem bits_xor (k : IntKind) (j : Nat) (hj : j ≤ k.bits) (hk : ∀ n : Int, 0 ≤ n → n < 2 ^ j → k.wrap n = n) (a b : Nat) (ha : a < 2 ^ j) (hb : b < 2 ^ j) :
  bits .xor k a b = ((Nat.xor a b : Nat) : Int) := by
 have hp : 2 ^ j ≤ 2 ^ k.bits := Nat.pow_le_pow_right (by decide) hj
 have ha' : a % 2 ^ k.bits = a := Nat.mod_eq_of_lt (Nat.lt_of_lt_of_le ha hp)
 have hb' : b % 2 ^ k.bits = b := Nat.mod_eq_of_lt (Nat.lt_of_lt_of_le hb hp)
 have cast : ∀ n : Nat, n < 2 ^ j → ((n : Nat) : Int) < 2 ^ j := fun n h => by exact_mod_cast h
 simp only [bits, BitVec.ofInt_natCast, BitVec.toNat_xor, BitVec.toNat_ofNat, ha', hb']
 exact hk _ (Int.natCast_nonneg _) (cast _ (Nat.xor_lt_two_pow ha hb))
theorem wraps_i64 (n : Int) (h₀ : 0 ≤ n) (h₁ : n < 2 ^ 63) : IntKind.i64.wrap n = n := by rw [IntKind.wrap_i64]; omega
theorem xor8 (a b : Nat) (ha : a < 256) (hb : b < 256) : bits .xor .u8 (a : Int) b = (Nat.xor a b : Nat) := bits_xor .u8 8 (by decide) wraps_u8 a b ha hb
theorem xor15 (a b : Nat) (ha : a < 32768) (hb : b < 32768) : bits .xor .i64 (a : Int) b = (Nat.xor a b : Nat) := bits_xor .i64 15 (by decide) (fun n h0 h1 => wraps_i64 n h0 (by omega)) a b ha hb
theorem xor_lt15 {a b : Nat} (ha : a < 32768) (hb : b < 32768) : Nat.xor a b < 32768 := Nat.xor_lt_two_pow (n := 15) ha hb
theorem bit_eq (b k : Nat) : (((b : Int) / 2 ^ k).tmod 2 == 1) = (Nat.mod (Nat.div b (Nat.pow 2 k)) 2 == 1) := by
 have e : ((b : Int) / 2 ^ k) = ((b / 2 ^ k : Nat) : Int) := by push_cast; rfl
 rw [e, show (2 : Int) = ((2 : Nat) : Int) from rfl, ← Int.ofNat_tmod]
 show _ = (b / 2 ^ k % 2 == 1)
 have : b / 2 ^ k % 2 = 0 ∨ b / 2 ^ k % 2 = 1 := by omega
 rcases this with h | h <;> rw [h] <;> rfl
theorem bit_cases (n : Nat) : Nat.mod n 2 = 0 ∨ Nat.mod n 2 = 1 := by
 have : n % 2 = 0 ∨ n % 2 = 1 := by omega
 exact this
theorem xor_lt8 {a b : Nat} (ha : a < 256) (hb : b < 256) : Nat.xor a b < 256 := Nat.xor_lt_two_pow (n := 8) ha hb
theorem mask_eq (a b : Nat) (ha : a < 256) (hb : b < 256) : bits .and .u8 (a : Int) (-(bits .and .u8 (b : Int) 1) % 256) = (Nat.mul (Nat.mod b 2) a : Nat) := by
 have h1 := and_one ⟨b, hb⟩
 simp only at h1
 rw [h1]
 have : b % 2 = 0 ∨ b % 2 = 1 := by omega
 rcases this with h | h
 ·rw [h]
  have := and_none ⟨a, ha⟩
  simp only at this
  have e : Nat.mod b 2 = 0 := h
  rw [e]
  simpa using this
 ·rw [h]
  have := and_all ⟨a, ha⟩
  simp only at this
  have e : Nat.mod b 2 = 1 := h
  rw [e]
  simpa using this
theorem ret_int {k : IntKind} {x y : Int} (h : x = y) : Ending.returned (.int k x) = .returned (.int k y) := by rw [h]
theorem val_eq {k : IntKind} {x y : Int} (h : x = y) : Value.int k x = Value.int k y := by rw [h]
theorem dbl_ok (a : Nat) (h : a < 256) (w : World) : Calls Tryz.prog 90 #[.int .u8 a] w fun e w' => e = .returned (.int .u8 (dblN a : Nat)) ∧ w' = w := by
 go_enter Tryz.func90, Tryz.ntmps90
 go_wp2
 go_ret
 exact ⟨ret_int (dbl_eq ⟨a, h⟩), rfl⟩
theorem tms_lt : ∀ (k p a b : Nat), p < 256 → a < 256 → b < 256 → tmsN k p a b < 256
 | 0, p, a, b, hp, _, _ => hp
 | k + 1, p, a, b, hp, ha, hb => by
  have : Nat.mul (Nat.mod b 2) a < 256 := by
   have : b % 2 = 0 ∨ b % 2 = 1 := by omega
   rcases this with h | h
   ·rw [show Nat.mod b 2 = 0 from h]; simp
   ·rw [show Nat.mod b 2 = 1 from h]; simpa using ha
  exact tms_lt k _ _ _ (xor_lt8 hp this) (dbl_lt ⟨a, ha⟩) (by show b / 2 < 256; omega)
theorem times_ok (a b : Nat) (ha : a < 256) (hb : b < 256) (w : World) : Calls Tryz.prog 63 #[.int .u8 a, .int .u8 b] w fun e w' => e = .returned (.int .u8 (tmsN 8 0 a b : Nat)) ∧ w' = w := by
 go_enter Tryz.func63, Tryz.ntmps63
 go_wp2
 go_loopw [0, 1, 5, 6] (fun va vb vp i wr => ∃ k x y p : Nat, k ≤ 8 ∧ x < 256 ∧ y < 256 ∧ p < 256 ∧ i = .int .i64 k ∧ va = .int .u8 x ∧ vb = .int .u8 y ∧ vp = .int .u8 p ∧ Hid (tmsN 8 0 a b = tmsN (8 - k) p x y) ∧ wr = w) (fun _ _ _ i _ => 8 - (intOf i).toNat)
 case atStart => exact ⟨0, a, b, 0, by omega, ha, hb, by omega, rfl, rfl, rfl, rfl, rfl, rfl⟩
 case round =>
  obtain ⟨k, x, y, p, hk, hx, hy, hp, rfl, rfl, rfl, rfl, HS, hw⟩ := hrel
  obtain rfl := hw.symm
  by_cases hlt : k < 8
  ·go_wp2_with (first | (go_at_call 90; (refine (dbl_ok x hx _).mono ?_); (rintro e1 w1 ⟨rfl, hw1⟩; obtain rfl := hw1.symm)))
   go_roundw
   case rel =>
    have hm : Nat.mul (Nat.mod y 2) x < 256 := by
     have : y % 2 = 0 ∨ y % 2 = 1 := by omega
     rcases this with h | h
     ·rw [show Nat.mod y 2 = 0 from h]; simp
     ·rw [show Nat.mod y 2 = 1 from h]; simpa using hx
    refine ⟨k + 1, dblN x, y / 2, Nat.xor p (Nat.mul (Nat.mod y 2) x), by omega, dbl_lt ⟨x, hx⟩, by omega, xor_lt8 hp hm, by go_num, rfl, val_eq (by omega), val_eq ?_, ?_, trivial⟩
    ·rw [mask_eq x y hx hy, xor8 _ _ hp hm]
    ·have := HS.out
     rw [show 8 - k = 8 - (k + 1) + 1 by omega] at this
     exact this
   case measure => simp [intOf]; omega
  ·obtain rfl : k = 8 := by omega
   go_wp2
   go_ret
   exact ⟨ret_int (by rw [HS.out]; rfl), rfl⟩
theorem refTimes_ok (a b : Nat) (ha : a < 256) (hb : b < 256) (w : World) : Calls Tryz.prog 10 #[.int .u8 a, .int .u8 b] w fun e w' => e = .returned (.int .u8 (Nat.mod (refR 7 (refP a b 8)) 256 : Nat)) ∧ w' = w := by
 go_enter Tryz.func10, Tryz.ntmps10
 go_wp2
 go_loopw [5, 6] (fun vp i wr => ∃ k p : Nat, k ≤ 8 ∧ i = .int .i64 k ∧ vp = .int .i64 p ∧ p < 32768 ∧ Hid (p = refP a b k) ∧ wr = w) (fun _ i _ => 8 - (intOf i).toNat)
 case atStart => exact ⟨0, 0, by omega, rfl, rfl, by omega, rfl, rfl⟩
 case round =>
  obtain ⟨k, p, hk, rfl, rfl, hp, HS, hw⟩ := hrel
  obtain rfl := hw.symm
  by_cases hlt : k < 8
  ·have hsh : wrap64 ((a : Int) * 2 ^ k) = (Nat.mul a (Nat.pow 2 k) : Nat) ∧ Nat.mul a (Nat.pow 2 k) < 32768 := by
    have h8 : k = 0 ∨ k = 1 ∨ k = 2 ∨ k = 3 ∨ k = 4 ∨ k = 5 ∨ k = 6 ∨ k = 7 := by omega
    show wrap64 ((a : Int) * 2 ^ k) = (a * 2 ^ k : Nat) ∧ a * 2 ^ k < 32768
    rcases h8 with rfl | rfl | rfl | rfl | rfl | rfl | rfl | rfl <;> (unfold wrap64; omega)
   have hbit := bit_eq b k
   have HB : Hid ((((b : Int) / 2 ^ k).tmod 2 == 1) = (Nat.mod (Nat.div b (Nat.pow 2 k)) 2 == 1)) := hbit
   have HSH : Hid (wrap64 ((a : Int) * 2 ^ k) = (Nat.mul a (Nat.pow 2 k) : Nat) ∧ Nat.mul a (Nat.pow 2 k) < 32768) := hsh
   clear hbit hsh
   go_wp2
   ·have hc : (((b : Int) / 2 ^ k).tmod 2 == 1) = true := by assumption
    have h1 : Nat.mod (Nat.div b (Nat.pow 2 k)) 2 = 1 := by
     rw [HB.out] at hc
     exact eq_of_beq hc
    obtain ⟨e1, e2⟩ := HSH.out
    refine ⟨⟨k + 1, Nat.xor p (Nat.mul a (Nat.pow 2 k)), by omega, rfl, val_eq ?_, xor_lt15 hp e2, ?_, trivial⟩, ?_⟩
    ·rw [e1, xor15 _ _ hp e2]
    ·show Nat.xor p (Nat.mul a (Nat.pow 2 k)) = _
     rw [HS.out]
     show _ = Nat.xor (refP a b k) (Nat.mul (Nat.mod (Nat.div b (Nat.pow 2 k)) 2) (Nat.mul a (Nat.pow 2 k)))
     rw [h1]
     simp
    ·simp [intOf]; omega
   ·have hc : (((b : Int) / 2 ^ k).tmod 2 == 1) = false := by assumption
    have h1 : Nat.mod (Nat.div b (Nat.pow 2 k)) 2 = 0 := by
     rw [HB.out] at hc
     rcases bit_cases (Nat.div b (Nat.pow 2 k)) with h | h
     ·exact h
     ·rw [h] at hc; cases hc
    refine ⟨⟨k + 1, p, by omega, rfl, rfl, hp, ?_, trivial⟩, ?_⟩
    ·show p = _
     rw [HS.out]
     show _ = Nat.xor (refP a b k) (Nat.mul (Nat.mod (Nat.div b (Nat.pow 2 k)) 2) (Nat.mul a (Nat.pow 2 k)))
     rw [h1]
     simp
    ·simp [intOf]; omega
  ·obtain rfl : k = 8 := by omega
   clear hlt hk
   go_wp2
   go_loopw [5, 7] (fun vp i wr => ∃ j p : Nat, j ≤ 7 ∧ i = .int .i64 (j + 7) ∧ vp = .int .i64 p ∧ p < 32768 ∧ Hid (refR 7 (refP a b 8) = refR j p) ∧ wr = w) (fun _ i _ => (intOf i).toNat)
   case atStart => exact ⟨7, p, by omega, rfl, rfl, hp, (by rw [← HS.out] : refR 7 (refP a b 8) = refR 7 p), rfl⟩
   case round =>
    clear HS hp
    obtain ⟨j, p, hj, rfl, rfl, hp, HS, hw⟩ := hrel
    obtain rfl := hw.symm
    cases j with
    | zero =>
     go_wp2
     go_ret
     refine ⟨ret_int ?_, rfl⟩
     rw [HS.out]
     show _ = ((p % 256 : Nat) : Int)
     omega
    | succ j =>
     have HB : Hid ((((p : Int) / 2 ^ (j + 1 + 7)).tmod 2 == 1) = (Nat.mod (Nat.div p (Nat.pow 2 (Nat.add j 8))) 2 == 1)) := bit_eq p (j + 8)
     have HSH : Hid (wrap64 (283 * 2 ^ j) = (Nat.mul 283 (Nat.pow 2 j) : Nat) ∧ Nat.mul 283 (Nat.pow 2 j) < 32768) := by
      have h8 : j = 0 ∨ j = 1 ∨ j = 2 ∨ j = 3 ∨ j = 4 ∨ j = 5 ∨ j = 6 := by omega
      rcases h8 with rfl | rfl | rfl | rfl | rfl | rfl | rfl <;> exact ⟨by decide +kernel, by decide⟩
     have HR : Hid (refR (j + 1) p = refR j (Nat.xor p (Nat.mul (Nat.mod (Nat.div p (Nat.pow 2 (Nat.add j 8))) 2) (Nat.mul 283 (Nat.pow 2 j))))) := rfl
     go_wp2
     ·have hc : (((p : Int) / 2 ^ (j + 1 + 7)).tmod 2 == 1) = true := by assumption
      have h1 : Nat.mod (Nat.div p (Nat.pow 2 (Nat.add j 8))) 2 = 1 := by
       rw [HB.out] at hc
       exact eq_of_beq hc
      obtain ⟨e1, e2⟩ := HSH.out
      refine ⟨⟨j, Nat.xor p (Nat.mul 283 (Nat.pow 2 j)), by omega, val_eq (by omega), val_eq ?_, xor_lt15 hp e2, ?_, trivial⟩, ?_⟩
      ·rw [e1, xor15 _ _ hp e2]
      ·show refR 7 (refP a b 8) = _
       rw [HS.out, HR.out, h1]
       simp
      ·simp only [intOf]; omega
     ·have hc : (((p : Int) / 2 ^ (j + 1 + 7)).tmod 2 == 1) = false := by assumption
      have h1 : Nat.mod (Nat.div p (Nat.pow 2 (Nat.add j 8))) 2 = 0 := by
       rw [HB.out] at hc
       rcases bit_cases (Nat.div p (Nat.pow 2 (Nat.add j 8))) with h | h
       ·exact h
       ·rw [h] at hc; cases hc
      refine ⟨⟨j, p, by omega, val_eq (by omega), rfl, hp, ?_, trivial⟩, ?_⟩
      ·show refR 7 (refP a b 8) = _
       rw [HS.out, HR.out, h1]
       simp
      ·simp only [intOf]; omega
end Go.Proofs.YtgmfiljjogdccabGreatDoor
namespace Go.Proofs.YtgmfiljjogdccabGreatDoor
set_option linter.unusedVariables false
variable {P : Program} {ops : Array Oper} {Q : Exit → Act → World → Prop} {md : Region.Mode} {S : World → Prop} {n : Nat}

/-- Whatever order is picked; S holds behind every operation of the head (the first n); the tail may do as it likes. -/
def wpTill (P : Program) (md : Region.Mode) (ops : Array Oper) (Q : Exit → Act → World → Prop) (S : World → Prop) (n : Nat) : Nat → Array Bool → Act → World → Prop
 | 0, l, a, w => Region.ready md ops l = [] ∧ Q .normal a w
 | f + 1, l, a, w =>
  (Region.ready md ops l = [] → Q .normal a w) ∧
  ∀ i, i ∈ Region.ready md ops l → wpOp P ops Q i (fun b u => (i < n → S u) ∧ wpTill P md ops Q S n f (l.setIfInBounds i true) b u) a w

theorem any_of_till (f : Nat) : ∀ (l : Array Bool) (a : Act) (w : World), wpTill P md ops Q S n f l a w → wpAny P md ops Q f l a w := by
 induction f with
 | zero => exact fun _ _ _ h => h
 | succ f ih => exact fun l a w h => ⟨h.1, fun i hi => wpOp_mono (fun b u k => ih _ b u k.2) (h.2 i hi)⟩

theorem till_first {i : Nat} {oi : Oper} {v : Value} (hi : ops[i]? = some oi) (hin : i < n) (hn : n < ops.size) (hsk : Region.sinkB md ops n = true) (hch : Region.chainB md ops n = true)
  (hsel : ∀ (j : Nat) (o : Oper) cs b, ops[j]? = some o → o.op ≠ .select cs b) (hQ : ∀ c a w, Q (.panic c) (a.put oi.dst v) w → Q (.panic c) a w) (f : Nat) :
  ∀ (l : Array Bool) (a : Act) (w : World), HeadInv md ops n l →
   (∀ j oj, ops[j]? = some oj → j ≠ i → l.getD j true = false → (∀ e ∈ oj.after, Region.binds md e = true → e.on ≠ i) → oi.apart ops oj = true) →
   i ∈ Region.ready md ops l → YieldsIf P ops S oi v a → S w → wpTill P md ops Q S n f (l.setIfInBounds i true) (a.put oi.dst v) w → wpTill P md ops Q S n (f + 1) l a w := by
 induction f with
 | zero =>
  intro l a w inv _ hr hy hS H
  refine ⟨fun h => (by rw [h] at hr; cases hr), fun j hj => ?_⟩
  by_cases hji : j = i
  ·subst hji
   exact hy.wpOp hi hS ⟨fun _ => hS, H⟩
  ·have h := ready_mono hj hji
   rw [H.1] at h
   cases h
 | succ f ih =>
  intro l a w inv hfree hr hy hS H
  refine ⟨fun h => (by rw [h] at hr; cases hr), fun j hj => ?_⟩
  by_cases hji : j = i
  ·subst hji
   exact hy.wpOp hi hS ⟨fun _ => hS, H⟩
  have hun := (mem_ready.1 hr).1
  have hjn : j < n := by
   rcases Nat.lt_or_ge j n with h | h
   ·exact h
   ·exact absurd hj (tail_waits hsk hch hn inv _ i rfl hin hun j h)
  have h1 := H.2 j (ready_mono hj hji)
  obtain ⟨hjun, oj, hoj, hall⟩ := mem_ready.1 hj
  have hnot : ∀ e ∈ oj.after, Region.binds md e = true → e.on ≠ i := fun e he hb heq => by
   have h2 := hall e he hb
   rw [heq] at h2
   rw [getD_both hun] at h2
   cases h2
  have h2 := wpOp_putIf hoj (hfree j oj hoj hji hjun hnot) (fun cs b => hsel i oi cs b hi) (fun cs b => hsel j oj cs b hoj) hQ hy h1
  refine wpOp_mono (fun b u h3 => ?_) h2
  have hSu := h3.2.1 hjn
  refine ⟨fun _ => hSu, ih (l.setIfInBounds j true) b u (inv.set hj hjn) (fun k ok hk hki hku hno => ?_) (ready_mono hr (Ne.symm hji)) h3.1 hSu ?_⟩
  ·refine hfree k ok hk hki ?_ hno
   by_cases hjk : j = k
   ·subst hjk; exact hjun
   ·rw [getD_set_ne true hjk] at hku; exact hku
  ·rw [Array.setIfInBounds_comm _ _ hji]
   exact h3.2.2

/-- What is carried along: the head's invariant, and what the region's form gives once. -/
structure Inv (md : Region.Mode) (ops : Array Oper) (n : Nat) (l : Array Bool) : Prop where
 head : HeadInv md ops n l
 lt : n < ops.size
 sink : Region.sinkB md ops n = true
 chain : Region.chainB md ops n = true
 sel : Region.noSelect ops = true
theorem Inv.set {l : Array Bool} {i : Nat} (inv : Inv md ops n l) (hi : i ∈ Region.ready md ops l) (hin : i < n) : Inv md ops n (l.setIfInBounds i true) := ⟨inv.head.set hi hin, inv.lt, inv.sink, inv.chain, inv.sel⟩

/-- An operation of the head that yields under S is taken first. -/
theorem till_at (i d : Nat) (v : Value) {oi : Oper} {f : Nat} {l : Array Bool} {tmps : Array Value} {ds : List Deferred} {w : World} (inv : Inv md ops n l) (hi : ops[i]? = some oi) (hd : oi.dst = some d)
  (hin : i < n) (hf : Region.free md ops l i = true) (hr : (Region.ready md ops l).contains i = true)
  (hQ : ∀ c a w, Q (.panic c) (a.put oi.dst v) w → Q (.panic c) a w) (hS : S w) (hy : YieldsIf P ops S oi v ⟨tmps, ds⟩)
  (h : Inv md ops n (l.setIfInBounds i true) → wpTill P md ops Q S n f (l.setIfInBounds i true) ⟨tmps.setIfInBounds d v, ds⟩ w) : wpTill P md ops Q S n (f + 1) l ⟨tmps, ds⟩ w := by
 have hr' : i ∈ Region.ready md ops l := by simpa using hr
 refine till_first hi hin inv.lt inv.sink inv.chain (Region.noSelect_spec inv.sel) hQ f l _ w inv.head (Region.free_spec hi hf) hr' hy hS ?_
 rw [hd]
 exact h (inv.set hr' hin)
theorem tT (i d : Nat) (v : Value) {oi : Oper} {f : Nat} {l : Array Bool} {tmps : Array Value} {ds : List Deferred} {w : World} (inv : Inv md ops n l) (hi : ops[i]? = some oi) (hd : oi.dst = some d)
    (hb : (decide (i < n) && (Region.free md ops l i && (Region.ready md ops l).contains i)) = true) (hS : S w) (hy : YieldsIf P ops S oi v ⟨tmps, ds⟩)
    (h : Inv md ops n (l.setIfInBounds i true) → wpTill P md ops Q S n f (l.setIfInBounds i true) ⟨tmps.setIfInBounds d v, ds⟩ w) (hQ : ∀ c a w, Q (.panic c) (a.put oi.dst v) w → Q (.panic c) a w := by exact fun _ _ _ h => h) : wpTill P md ops Q S n (f + 1) l ⟨tmps, ds⟩ w := by
  rw [Bool.and_eq_true, Bool.and_eq_true] at hb
  exact till_at i d v inv hi hd (of_decide_eq_true hb.1) hb.2.1 hb.2.2 hQ hS hy h
theorem tU (i d : Nat) (v : Value) {oi : Oper} {f : Nat} {l : Array Bool} {tmps : Array Value} {ds : List Deferred} {w : World} (inv : Inv md ops n l) (hi : ops[i]? = some oi) (hd : oi.dst = some d) (hS : S w)
    (h : Inv md ops n (l.setIfInBounds i true) → wpTill P md ops Q S n f (l.setIfInBounds i true) ⟨tmps.setIfInBounds d v, ds⟩ w)
    (hb : (decide (i < n) && (Region.free md ops l i && (Region.ready md ops l).contains i)) = true := by decide +kernel) (hw : Region.wanted oi (yielded ops tmps) = true := by rfl)
    (hy : ∀ w, S w → (execOp (Act.eval ⟨tmps, ds⟩) oi).run P w = .ok (.value v) w := by intro w' hS'; go_simp) (hQ : ∀ c a w, Q (.panic c) (a.put oi.dst v) w → Q (.panic c) a w := by exact fun _ _ _ h => h) : wpTill P md ops Q S n (f + 1) l ⟨tmps, ds⟩ w :=
  tT i d v inv hi hd hb hS (Or.inl ⟨hw, hy⟩) h hQ
theorem tV (i d : Nat) (v : Value) {X : World → Prop} {oi : Oper} {f : Nat} {l : Array Bool} {tmps : Array Value} {ds : List Deferred} {w : World} (inv : Inv md ops n l) (hi : ops[i]? = some oi) (hd : oi.dst = some d) (hS : S w) (hq : ∀ w, S w → X w)
    (h : Inv md ops n (l.setIfInBounds i true) → wpTill P md ops Q S n f (l.setIfInBounds i true) ⟨tmps.setIfInBounds d v, ds⟩ w)
    (hb : (decide (i < n) && (Region.free md ops l i && (Region.ready md ops l).contains i)) = true := by decide +kernel) (hw : Region.wanted oi (yielded ops tmps) = true := by rfl)
    (hy : ∀ w, S w → X w → (execOp (Act.eval ⟨tmps, ds⟩) oi).run P w = .ok (.value v) w := by intro w' hS' q; go_simp) (hQ : ∀ c a w, Q (.panic c) (a.put oi.dst v) w → Q (.panic c) a w := by exact fun _ _ _ h => h) : wpTill P md ops Q S n (f + 1) l ⟨tmps, ds⟩ w :=
  tT i d v inv hi hd hb hS (Or.inl ⟨hw, fun w h => hy w h (hq w h)⟩) h hQ

/-- A lone operation of the head comes up. -/
theorem till_head {i : Nat} {o : Oper} {f : Nat} {l : Array Bool} {a : Act} {w : World} (inv : Inv md ops n l) (hr : Region.ready md ops l = [i]) (hin : i < n) (ho : ops[i]? = some o)
  (h : ∀ K' : Act → World → Prop, Shut (∀ a w, S w → (Inv md ops n (l.setIfInBounds i true) → wpTill P md ops Q S n f (l.setIfInBounds i true) a w) → K' a w) → if Region.wanted o (yielded ops a.tmps) = true then Oper.wp P o a w K' Q else K' (a.put o.dst undef) w) :
  wpTill P md ops Q S n (f + 1) l a w := by
 have hi : i ∈ Region.ready md ops l := by rw [hr]; simp
 refine ⟨fun h0 => (by rw [hr] at h0; cases h0), fun j hj => ?_⟩
 rw [hr] at hj
 obtain rfl : j = i := by simpa using hj
 exact wpOp_step ho (fun K' hK => h K' (fun a w hS hW => hK a w ⟨fun _ => hS, hW (inv.set hi hin)⟩))

/-- A lone operation of the tail comes up. -/
theorem till_tail {i : Nat} {o : Oper} {f : Nat} {l : Array Bool} {a : Act} {w : World} (hr : Region.ready md ops l = [i]) (hin : n ≤ i) (ho : ops[i]? = some o)
  (h : ∀ K' : Act → World → Prop, Shut (∀ a w, wpTill P md ops Q S n f (l.setIfInBounds i true) a w → K' a w) → if Region.wanted o (yielded ops a.tmps) = true then Oper.wp P o a w K' Q else K' (a.put o.dst undef) w) :
  wpTill P md ops Q S n (f + 1) l a w := by
 refine ⟨fun h0 => (by rw [hr] at h0; cases h0), fun j hj => ?_⟩
 rw [hr] at hj
 obtain rfl : j = i := by simpa using hj
 exact wpOp_step ho (fun K' hK => h K' (fun a w hW => hK a w ⟨fun h => by omega, hW⟩))

theorem till_done {l : Array Bool} {a : Act} {w : World} (hr : Region.ready md ops l = []) (h : Q .normal a w) : ∀ f, wpTill P md ops Q S n f l a w
 | 0 => ⟨hr, h⟩
 | _ + 1 => ⟨fun _ => h, fun i hi => by rw [hr] at hi; cases hi⟩

theorem wp_region_till {id : Nat} {a : Act} {w : World} (S : World → Prop) (n : Nat) (hm : P.follows .mixedOrders = true) (hn : n < ops.size) (hsk : Region.sinkB .any ops n = true) (hch : Region.chainB .any ops n = true) (hs : Region.noSelect ops = true)
  (h : Inv .any ops n (Array.replicate ops.size false) → wpTill P .any ops Q S n ops.size (Array.replicate ops.size false) a w.drew) : (Code.region id ops true).wp P Q a w := by
 refine wp_region_any hm (any_of_till _ _ _ _ (h ⟨⟨by simp, fun j oj _ hl => ?_, fun t _ ht => ?_⟩, hn, hsk, hch, hs⟩))
 ·rw [getD_replicate_false] at hl; cases hl
 ·simp [ht]
end Go.Proofs.YtgmfiljjogdccabGreatDoor
namespace Go.Proofs.YtgmfiljjogdccabGreatDoor
open Go.RowKit
variable {P : Program}

/-- A new variable of a great type: its zero cells are handed in. -/
theorem wpList_alloc_big {ops : Array Oper} {rest : List Oper} {op : Oper} {a : Act} {w : World} {Q : Exit → Act → World → Prop} (hgd : op.guard = none) (ty : TypeId) (ho : op.op = .alloc ty)
  (cells : Array Value) (hz : ((P.info? ty).bind (·.zero)).map (·.cells) = some cells) (B : Nat) (hB : w.heap.size = B)
  (h : wpList P ops Q rest (a.put op.dst (.pointer (some ⟨B, 0, none⟩))) (w.alloc (.cells cells ty))) : wpList P ops Q (op :: rest) a w := by
 subst hB
 refine wpList_plain hgd fun K hK => ?_
 cases hi : P.info? ty with
 | none => simp [hi] at hz
 | some i =>
  cases hzz : i.zero with
  | none => simp [hi, hzz] at hz
  | some z =>
   have hc : z.cells = cells := by simpa [hi, hzz] using hz
   have hrun : (Instr.alloc ty true (.tuple #[])).run P w = .ok (.pointer (some ⟨w.heap.size, 0, none⟩)) (w.alloc (.cells cells ty)) := by
    simp [Instr.alloc, zeroValue, typeInfo, hi, hzz, newVar, newRow, hc]
   unfold Oper.wp execOp
   simp only [ho, Sem.run_bind, hrun, Result.andThen_ok, Sem.run_pure]
   exact hK _ _ h

/-- A great value that is built. -/
theorem wpList_build_big {ops : Array Oper} {rest : List Oper} {op : Oper} {a : Act} {w : World} {Q : Exit → Act → World → Prop} (hgd : op.guard = none) (ty : TypeId) (parts : Array (Nat × Operand)) (ho : op.op = .build ty parts)
  (cells : Array Value) (hb : P.built ty (parts.map fun (i, x) => (i, a.eval x)).toList = some cells)
  (h : wpList P ops Q rest (a.put op.dst (.agg cells)) w) : wpList P ops Q (op :: rest) a w := by
 refine wpList_plain hgd fun K hK => ?_
 have hrun := run_build (P := P) w ty (parts.map fun (i, x) => (i, a.eval x)) cells hb
 unfold Oper.wp execOp
 simp only [ho, Sem.run_bind, hrun, Result.andThen_ok, Sem.run_pure]
 exact hK _ _ h

theorem sizeB_setCells (b : Nat) : ∀ (vs : List Value) (o : Nat) (w : World), (w.setCells b o vs).heap.size = w.heap.size
 | [], _, _ => rfl
 | v :: r, o, w => by rw [World.setCells, sizeB_setCells b r (o + 1)]; simp [World.setCell]
theorem belowB_setCells (b : Nat) {B : Nat} (hB : B ≤ b) {a : World} : ∀ (vs : List Value) (o : Nat) (w : World), Below B a w → Below B a (w.setCells b o vs)
 | [], _, _, h => h
 | v :: r, o, w, h => by rw [World.setCells]; exact belowB_setCells b hB r (o + 1) _ (h.setCell hB _)
theorem rangeAt_new (w : World) (C : Array Value) (t : TypeId) : (w.alloc (.cells C t)).rangeAt w.heap.size 0 C.toList := fun j v hv => by
 rw [World.cell?_alloc_at C t _ _ rfl]
 simpa using hv
theorem there_new (w : World) (C : Array Value) (t : TypeId) (n : Nat) (hn : n ≤ C.size) : (w.alloc (.cells C t)).there w.heap.size 0 n := fun j hj => by
 refine ⟨?_, World.frozen?_alloc_at C t _ _ rfl⟩
 rw [World.cell?_alloc_at C t _ _ rfl]
 simp
 omega
end Go.Proofs.YtgmfiljjogdccabGreatDoor
namespace Go.Proofs.YtgmfiljjogdccabGreatDoor
open Go.RowKit

/-- A world that differs in what it drew alone. -/
structure Sm (w w' : World) : Prop where
 os : w'.os = w.os
 tape : w'.tape = w.tape
 output : w'.output = w.output
 heap : w'.heap = w.heap
theorem Sm.refl (w : World) : Sm w w := ⟨rfl, rfl, rfl, rfl⟩
theorem Sm.drewN {w v : World} (h : Sm w v) (m : Nat) : Sm w (v.drewN m) := ⟨h.os, h.tape, h.output, h.heap⟩
theorem Sm.trans {a b c : World} (h : Sm a b) (k : Sm b c) : Sm a c := ⟨k.os.trans h.os, k.tape.trans h.tape, k.output.trans h.output, k.heap.trans h.heap⟩
theorem Sm.cell {w v : World} (h : Sm w v) (p : Addr) : v.cell? p = w.cell? p := World.cell?_of_block (by rw [h.heap])
theorem Sm.frozen {w v : World} (h : Sm w v) (p : Addr) : v.frozen? p = w.frozen? p := World.frozen?_of_block (by rw [h.heap])

theorem setCells_os (b : Nat) : ∀ (vs : List Value) (o : Nat) (w : World), (w.setCells b o vs).os = w.os
 | [], _, _ => rfl
 | v :: r, o, w => by rw [World.setCells, setCells_os b r (o + 1)]; rfl
theorem setCells_tape (b : Nat) : ∀ (vs : List Value) (o : Nat) (w : World), (w.setCells b o vs).tape = w.tape
 | [], _, _ => rfl
 | v :: r, o, w => by rw [World.setCells, setCells_tape b r (o + 1)]; rfl
theorem setCells_output (b : Nat) : ∀ (vs : List Value) (o : Nat) (w : World), (w.setCells b o vs).output = w.output
 | [], _, _ => rfl
 | v :: r, o, w => by rw [World.setCells, setCells_output b r (o + 1)]; rfl

/-- From w to w' nothing of what was there is changed but n cells of block g from o on; what could be written there can be still. -/
structure Touch (w w' : World) (g o n : Nat) : Prop where
 os : w'.os = w.os
 tape : w'.tape = w.tape
 output : w'.output = w.output
 size : w.heap.size ≤ w'.heap.size
 block : ∀ k, k < w.heap.size → k ≠ g → w'.heap[k]? = w.heap[k]?
 cell : ∀ j, (j < o ∨ o + n ≤ j) → w'.cell? ⟨g, j, none⟩ = w.cell? ⟨g, j, none⟩
 there : ∀ o' n', w.there g o' n' → w'.there g o' n'

theorem Sm.touch {w v : World} (h : Sm w v) (g o n : Nat) : Touch w v g o n :=
 ⟨h.os, h.tape, h.output, by rw [h.heap]; exact Nat.le_refl _, fun k _ _ => by rw [h.heap], fun j _ => h.cell _, fun o' n' ht j hj => by rw [h.cell, h.frozen]; exact ht j hj⟩
theorem Touch.refl (w : World) (g o n : Nat) : Touch w w g o n := (Sm.refl w).touch g o n
theorem Touch.trans {a b c : World} {g o n : Nat} (h : Touch a b g o n) (k : Touch b c g o n) : Touch a c g o n :=
 ⟨k.os.trans h.os, k.tape.trans h.tape, k.output.trans h.output, Nat.le_trans h.size k.size, fun i hi hne => (k.block i (Nat.lt_of_lt_of_le hi h.size) hne).trans (h.block i hi hne), fun j hj => (k.cell j hj).trans (h.cell j hj), fun o' n' ht => k.there o' n' (h.there o' n' ht)⟩
theorem Touch.mono {a b : World} {g o n : Nat} (h : Touch a b g o n) (o' n' : Nat) (h1 : o' ≤ o) (h2 : o + n ≤ o' + n') : Touch a b g o' n' :=
 ⟨h.os, h.tape, h.output, h.size, h.block, fun j hj => h.cell j (by omega), h.there⟩
theorem Touch.setCells {a b : World} {g o n : Nat} (h : Touch a b g o n) (o' : Nat) (vs : List Value) (h1 : o ≤ o') (h2 : o' + vs.length ≤ o + n) : Touch a (b.setCells g o' vs) g o n := by
 refine h.trans ⟨?_, ?_, ?_, ?_, ?_, ?_, ?_⟩
 ·exact setCells_os g vs o' b
 ·exact setCells_tape g vs o' b
 ·exact setCells_output g vs o' b
 ·rw [sizeB_setCells]; exact Nat.le_refl _
 ·intro k hk hne
  exact World.heap_setCells_other b g o' vs hk hne
 ·intro j hj
  exact World.cell?_setCells_out g vs o' b ⟨g, j, none⟩ (fun _ _ => by rcases hj with h | h; exact .inl (by show j < o'; omega); exact .inr (by show o' + vs.length ≤ j; omega))
 ·intro o2 n2 ht
  exact World.there_setCells ht g o' vs
theorem Touch.setCell {a b : World} {g o n : Nat} (h : Touch a b g o n) (j : Nat) (u : Value) (h1 : o ≤ j) (h2 : j < o + n) : Touch a (b.setCell ⟨g, j, none⟩ u) g o n :=
 h.setCells j [u] h1 (by simp; omega)
theorem Touch.alloc {a b : World} {g o n : Nat} (h : Touch a b g o n) (ob : Obj) (hg : g < a.heap.size) : Touch a (b.alloc ob) g o n := by
 have hs := h.size
 refine h.trans ⟨rfl, rfl, rfl, by simp, ?_, ?_, ?_⟩
 ·intro k hk _
  exact Below.heap_alloc b ob k hk
 ·intro j _
  exact World.cell?_alloc_past ob g j (by omega)
 ·intro o' n' ht
  exact World.there_alloc ht ob
theorem Touch.drew {a b : World} {g o n : Nat} (h : Touch a b g o n) : Touch a b.drew g o n := ⟨h.os, h.tape, h.output, h.size, h.block, h.cell, h.there⟩
theorem Touch.drewN {a b : World} {g o n : Nat} (h : Touch a b g o n) (m : Nat) : Touch a (b.drewN m) g o n := ⟨h.os, h.tape, h.output, h.size, h.block, h.cell, h.there⟩
/-- What only makes new blocks touches nothing. -/
theorem Touch.below {a b c : World} {g o n : Nat} (h : Touch a b g o n) (k : Below b.heap.size b c) (hg : g < a.heap.size) : Touch a c g o n := by
 have hs := h.size
 refine h.trans ⟨k.os, k.tape, k.output, k.size, fun i hi _ => k.block i hi, fun j _ => k.cell (p := ⟨g, j, none⟩) (show g < _ by omega), ?_⟩
 intro o' n' ht j hj
 rw [k.cell (p := ⟨g, o' + j, none⟩) (show g < _ by omega), k.frozen (p := ⟨g, o' + j, none⟩) (show g < _ by omega)]
 exact ht j hj
theorem Touch.toBelow {a b : World} {g o n B : Nat} (h : Touch a b g o n) (hg : B ≤ g) (hB : B ≤ a.heap.size) : Below B a b :=
 ⟨h.os, h.tape, h.output, h.size, fun k hk => h.block k (by omega) (by omega)⟩
theorem Touch.far {a b : World} {g o n : Nat} (h : Touch a b g o n) {p : Addr} (hp : p.block < a.heap.size) (hne : p.block ≠ g) : b.cell? p = a.cell? p := World.cell?_of_block (h.block p.block hp hne)
theorem Touch.farFrozen {a b : World} {g o n : Nat} (h : Touch a b g o n) {p : Addr} (hp : p.block < a.heap.size) (hne : p.block ≠ g) : b.frozen? p = a.frozen? p := World.frozen?_of_block (h.block p.block hp hne)
end Go.Proofs.YtgmfiljjogdccabGreatDoor
namespace Go.Proofs.YtgmfiljjogdccabGreatDoor
open Go.RowKit
set_option linter.unusedVariables false
section
variable {P : Program} {ops : Array Oper}
/-- append of one cell to a row that the call owns: the cells that were there stay where they were, too. -/
theorem run_append1 (w : World) (t ty e : TypeId) (i : TypeInfo) (z : Value) (bytes : Nat) (ht : P.underlying t = some (.slice e)) (hi : P.info? e = some i) (hz : i.zero = some z)
  (hsize : i.size = 1) (hby : i.bytes = bytes) (hzs : z.cells.size = 1) (base n : Nat) (v : Value) (xs : List Value) (hown : w.ownsRow base e 1 v n xs) (ad c : Nat) (x : Value) (hx : w.cell? ⟨ad, 0, none⟩ = some x) (hx1 : x.oneCell' = true)
  (h63 : n + 1 ≤ maxLen) (hbytes : (n + 1) * bytes ≤ 140737488355328) (hbase : base ≤ w.heap.size) :
  ∃ g cap w', (Builtin.append_ #[t, t] ty #[v, .slice (some ⟨ad, 0, none⟩) 1 c]).run P w = .ok (.slice (some ⟨g, 0, none⟩) (n + 1) cap) w' ∧
   w'.ownsRow base e 1 (.slice (some ⟨g, 0, none⟩) (n + 1) cap) (n + 1) (xs ++ [x]) ∧ w.grownBy w' v.ownBlock ∧ (v.ownBlock = some g ∨ g = w.heap.size) ∧ (∀ g0, v.ownBlock = some g0 → ∀ j u, xs[j]? = some u → w'.cell? ⟨g0, j, none⟩ = some u) := by
 have hnews : ∀ j u, [x][j]? = some u → w.cell? ((⟨ad, 0, none⟩ : Addr).add j) = some u := by
  intro j u hj
  match j, hj with
  | 0, hj => simp at hj; subst hj; simpa [Addr.add] using hx
  | _ + 1, hj => simp at hj
 have h1 : ∀ u ∈ [x], u.oneCell' = true := by intro u hu; simp at hu; subst hu; exact hx1
 obtain ⟨v', w', hr, h2, h3, h4, h5⟩ := run_append_own_at (P := P) w base t ty e i z 1 bytes ht hi hz hsize hby hzs (by decide) v n xs hown ⟨ad, 0, none⟩ 1 c [x] (by simp) hnews h1 h63 hbytes hbase
 rcases h2.2 with ⟨_, h⟩ | ⟨g, cap, cur, rfl, _⟩
 ·omega
 refine ⟨g, cap, w', hr, h2, h3, ?_, ?_⟩
 ·rcases h5 with h5 | h5
  ·left; exact h5.symm
  ·right; simpa [Value.ownBlock] using h5
 ·intro g0 hg0 j u hj
  rcases hown.2 with ⟨rfl, _⟩ | ⟨g1, c1, cur1, rfl, hbg, hg, hnc, hcm, hcs, htake⟩
  ·simp [Value.ownBlock] at hg0
  ·obtain rfl : g1 = g0 := by simpa [Value.ownBlock] using hg0
   by_cases hroom : n + 1 ≤ c1
   ·have hfit : n * i.size + [x].length ≤ cur1.size := by rw [hcs, hsize]; simp; omega
    have hr2 := run_append_room (P := P) w t ty e i ht hi g1 n c1 cur1 hg ⟨ad, 0, none⟩ 1 c [x] (by simp [hsize]) hnews h1 hroom hfit
    rw [hr] at hr2
    injection hr2 with e1 e2
    injection e1 with e3 e4 e5
    injection e3 with e6
    injection e6 with e7
    subst e7
    have := h2.cells (g := g) rfl j u (by rw [List.getElem?_append_left (List.getElem?_eq_some_iff.1 hj).1]; exact hj)
    rw [Addr.add_lit, Nat.zero_add] at this
    exact this
   ·have holds : ∀ j u, xs[j]? = some u → w.cell? ((⟨g1, 0, none⟩ : Addr).add j) = some u := hown.cells (g := g1) rfl
    have hr2 := run_append_grow (P := P) w t ty e i z ht hi hz ⟨g1, 0, none⟩ n c1 xs (by rw [hsize]; exact hown.1) holds ⟨ad, 0, none⟩ 1 c [x] (by simp [hsize]) hnews (by omega) (by simp only [maxLen] at h63; omega) (growslice_fits (by omega) (by rw [hby]; exact hbytes))
    rw [hr] at hr2
    injection hr2 with e1 e2
    rw [e2]
    have hlt : g1 < w.heap.size := (Array.getElem?_eq_some_iff.1 hg).1
    have := holds j u hj
    have h0 : w.cell? ⟨g1, j, none⟩ = some u := by rw [Addr.add_lit, Nat.zero_add] at this; exact this
    exact (World.cell?_alloc_past (w := w.drew) _ g1 j hlt).trans h0
theorem wp_append1 {w : World} {o : Oper} {a : Act} {K : Act → World → Prop} {Q : Exit → Act → World → Prop} (s x : Operand) (t : TypeId)
  (ho : o.op = .call { callee := .builtin .append, args := #[s, x], argTypes := #[t, t] }) (e : TypeId) (i : TypeInfo) (z : Value) (bytes : Nat) (ht : P.underlying t = some (.slice e)) (hi : P.info? e = some i) (hz : i.zero = some z)
  (hsize : i.size = 1) (hby : i.bytes = bytes) (hzs : z.cells.size = 1) (base n : Nat) (v : Value) (xs : List Value) (hs : a.eval s = v) (hown : w.ownsRow base e 1 v n xs) (ad c : Nat) (y : Value) (hx : a.eval x = .slice (some ⟨ad, 0, none⟩) 1 c) (hy : w.cell? ⟨ad, 0, none⟩ = some y) (hy1 : y.oneCell' = true)
  (h63 : n + 1 ≤ maxLen) (hbytes : (n + 1) * bytes ≤ 140737488355328) (hbase : base ≤ w.heap.size)
  (h : ∀ g cap w', w'.ownsRow base e 1 (.slice (some ⟨g, 0, none⟩) (n + 1) cap) (n + 1) (xs ++ [y]) → w.grownBy w' v.ownBlock → (v.ownBlock = some g ∨ g = w.heap.size) → (∀ g0, v.ownBlock = some g0 → ∀ j u, xs[j]? = some u → w'.cell? ⟨g0, j, none⟩ = some u) → K (a.put o.dst (.slice (some ⟨g, 0, none⟩) (n + 1) cap)) w') : o.wp P a w K Q := by
 obtain ⟨g, cap, w', hr, h2, h3, h4, h5⟩ := run_append1 (P := P) w t o.type e i z bytes ht hi hz hsize hby hzs base n v xs hown ad c y hy hy1 h63 hbytes hbase
 unfold Oper.wp execOp
 simp only [ho, resolve, invoke, builtin, Sem.run_bind, Sem.run_pure, Result.andThen_ok, List.map_toArray, List.map_cons, List.map_nil, hs, hx, hr]
 exact h g cap w' h2 h3 h4 h5
theorem step_append1 {w : World} {o : Oper} {a : Act} {K : Act → World → Prop} {Q : Exit → Act → World → Prop} {E : Prop} (hgd : o.guard = none) (d : Nat) (hd : o.dst = some d) (s x : Operand) (t : TypeId)
  (ho : o.op = .call { callee := .builtin .append, args := #[s, x], argTypes := #[t, t] }) (e : TypeId) (i : TypeInfo) (z : Value) (bytes : Nat) (ht : P.underlying t = some (.slice e)) (hi : P.info? e = some i) (hz : i.zero = some z)
  (hsize : i.size = 1) (hby : i.bytes = bytes) (hzs : z.cells.size = 1) (base n : Nat) (v : Value) (xs : List Value) (hs : a.eval s = v) (hown : w.ownsRow base e 1 v n xs) (ad c : Nat) (y : Value) (hx : a.eval x = .slice (some ⟨ad, 0, none⟩) 1 c) (hy : w.cell? ⟨ad, 0, none⟩ = some y) (hy1 : y.oneCell' = true)
  (h63 : n + 1 ≤ maxLen) (hbytes : (n + 1) * bytes ≤ 140737488355328) (hbase : base ≤ w.heap.size)
  (h : ∀ g cap w', w'.ownsRow base e 1 (.slice (some ⟨g, 0, none⟩) (n + 1) cap) (n + 1) (xs ++ [y]) → w.grownBy w' v.ownBlock → (v.ownBlock = some g ∨ g = w.heap.size) → (∀ g0, v.ownBlock = some g0 → ∀ j u, xs[j]? = some u → w'.cell? ⟨g0, j, none⟩ = some u) → K (a.put (some d) (.slice (some ⟨g, 0, none⟩) (n + 1) cap)) w') :
  if Region.wanted o (yielded ops a.tmps) = true then Oper.wp P o a w K Q else E := by
 have hw : Region.wanted o (yielded ops a.tmps) = true := by simp [Region.wanted, hgd]
 rw [if_pos hw]
 rw [← hd] at h
 exact wp_append1 s x t ho e i z bytes ht hi hz hsize hby hzs base n v xs hs hown ad c y hx hy hy1 h63 hbytes hbase h
theorem step_bs {o : Oper} {a : Act} {w : World} {K : Act → World → Prop} {Q : Exit → Act → World → Prop} {E : Prop} (hgd : o.guard = none) (d : Nat) (hd : o.dst = some d) (t e : TypeId) (len : Nat) (parts : Array (Nat × Operand)) (ho : o.op = .buildSlice t len parts) (pv : Array (Nat × Value)) (hpv : (parts.map fun (i, x) => (i, a.eval x)) = pv) (cells : Array Value)
  (hr : ∀ u : World, (Instr.buildSlice t len pv).run P u = .ok (.slice (some ⟨u.heap.size, 0, none⟩) len len) (u.alloc (.cells cells e)))
  (h : K (a.put (some d) (.slice (some ⟨w.heap.size, 0, none⟩) len len)) (w.alloc (.cells cells e))) :
  if Region.wanted o (yielded ops a.tmps) = true then Oper.wp P o a w K Q else E := by
 have hw : Region.wanted o (yielded ops a.tmps) = true := by simp [Region.wanted, hgd]
 rw [if_pos hw]
 rw [← hd] at h
 unfold Oper.wp execOp
 simp only [ho, Sem.run_bind, hpv, hr w, Result.andThen_ok]
 exact h
end
end Go.Proofs.YtgmfiljjogdccabGreatDoor
namespace Go.Proofs.YtgmfiljjogdccabGreatDoor
open Go.RowKit

/-- A list of bytes behind a slice value. -/
def View (w : World) (v : Value) (zs : List Int) : Prop :=
 ∃ a cap, v = .slice a zs.length cap ∧ zs.length ≤ cap ∧ cap ≤ maxLen ∧ (a = none → cap = 0) ∧
  (zs = [] ∨ ∃ b off, a = some ⟨b, off, none⟩ ∧ ∀ i, i < zs.length → w.cell? ⟨b, off + i, none⟩ = some (.int .u8 (zs.getD i 0)))

theorem ret_bool {a b : Bool} (h : a = b) : Ending.returned (.bool a) = .returned (.bool b) := by rw [h]
theorem ext_getD {xs ys : List Int} {n : Nat} (hx : xs.length = n) (hy : ys.length = n) (h : ∀ j, j < n → xs.getD j 0 = ys.getD j 0) : xs = ys := by
 apply List.ext_getElem (by omega)
 intro i h1 h2
 have := h i (by omega)
 simpa [List.getD, List.getElem?_eq_getElem h1, List.getElem?_eq_getElem h2] using this

set_option maxHeartbeats 400000 in
theorem same_core (b1 o1 b2 o2 c1 c2 n : Nat) (xs ys : List Int) (w : World) (hx : xs.length = n) (hy : ys.length = n) (hn : n ≤ 9223372036854775807)
  (h1 : ∀ i, i < n → w.cell? ⟨b1, o1 + i, none⟩ = some (.int .u8 (xs.getD i 0)))
  (h2 : ∀ i, i < n → w.cell? ⟨b2, o2 + i, none⟩ = some (.int .u8 (ys.getD i 0))) :
  Calls Tryz.prog 47 #[.slice (some ⟨b1, o1, none⟩) n c1, .slice (some ⟨b2, o2, none⟩) n c2] w fun e w' => e = .returned (.bool (decide (xs = ys))) ∧ ∃ m, w' = w.drewN m := by
 have HX : Hid (xs.length = n) := hx
 have HY : Hid (ys.length = n) := hy
 clear hx hy
 go_enter Tryz.func47, Tryz.ntmps47
 go_wp2
 go_loopw [5] (fun i wr => ∃ k : Nat, k ≤ n ∧ i = .int .i64 k ∧ Hid (∀ j, j < k → xs.getD j 0 = ys.getD j 0) ∧ ∃ m, wr = w.drewN m) (fun i _ => n - (intOf i).toNat)
 case atStart => exact ⟨0, Nat.zero_le _, rfl, (fun j hj => by omega), 0, rfl⟩
 case round =>
  obtain ⟨k, hk, rfl, HE, m, rfl⟩ := hrel
  by_cases hlt : k < n
  ·have g1 := h1 k hlt
   have g2 := h2 k hlt
   clear h1 h2
   go_wp2
   go_quiet (fail)
   go_wp2
   ·have hne : (xs[k]?.getD 0 != ys[k]?.getD 0) = true := by assumption
    go_ret
    refine ⟨ret_bool ?_, _, World.drewN_drewN _ _ _⟩
    have : xs ≠ ys := by
     intro h
     subst h
     simp at hne
    simp [this]
   ·have heq : (xs[k]?.getD 0 != ys[k]?.getD 0) = false := by assumption
    go_roundw
    case rel =>
     refine ⟨k + 1, by omega, by go_num, ?_, _, rfl⟩
     intro j hj
     by_cases hjk : j < k
     ·exact HE.out j hjk
     ·obtain rfl : j = k := by omega
      simpa using heq
    case measure => simp [intOf]; omega
  ·go_wp2
   go_ret
   have := ext_getD HX.out HY.out (fun j hj => HE.out j (by omega))
   exact ⟨ret_bool (by simp [this]), _, rfl⟩

theorem same_zero (a1 a2 : Option Addr) (c1 c2 : Nat) (w : World) :
  Calls Tryz.prog 47 #[.slice a1 0 c1, .slice a2 0 c2] w fun e w' => e = .returned (.bool true) ∧ ∃ m, w' = w.drewN m := by
 go_enter Tryz.func47, Tryz.ntmps47
 go_wp2
 go_loop [5] (fun i => i = .int .i64 0) (fun _ => 0)
 case atStart => rfl
 case round =>
  subst hrel
  go_wp2
  go_ret
  exact ⟨rfl, 0, rfl⟩

theorem same_unlike (a1 a2 : Option Addr) (l1 l2 c1 c2 : Nat) (w : World) (h : l1 ≠ l2) :
  Calls Tryz.prog 47 #[.slice a1 l1 c1, .slice a2 l2 c2] w fun e w' => e = .returned (.bool false) ∧ ∃ m, w' = w.drewN m := by
 have hb : ((l1 : Int) != (l2 : Int)) = true := by rw [bne_iff_ne]; omega
 clear h
 go_enter Tryz.func47, Tryz.ntmps47
 go_wp2
 go_ret
 exact ⟨rfl, 0, rfl⟩

/-- cofferbook.SameBytes. -/
theorem same_any (v1 v2 : Value) (xs ys : List Int) (w : World) (h1 : View w v1 xs) (h2 : View w v2 ys) :
  Calls Tryz.prog 47 #[v1, v2] w fun e w' => e = .returned (.bool (decide (xs = ys))) ∧ ∃ m, w' = w.drewN m := by
 obtain ⟨a1, c1, rfl, hl1, hm1, _, k1⟩ := h1
 obtain ⟨a2, c2, rfl, hl2, hm2, _, k2⟩ := h2
 by_cases hl : xs.length = ys.length
 ·rcases k1 with rfl | ⟨b1, o1, rfl, g1⟩
  ·have : ys = [] := List.eq_nil_of_length_eq_zero (by simpa using hl.symm)
   subst this
   simpa using same_zero a1 a2 c1 c2 w
  ·rcases k2 with rfl | ⟨b2, o2, rfl, g2⟩
   ·have : xs = [] := List.eq_nil_of_length_eq_zero (by simpa using hl)
    subst this
    simpa using same_zero _ a2 c1 c2 w
   ·rw [← hl]
    exact same_core b1 o1 b2 o2 c1 c2 xs.length xs ys w rfl hl.symm (by unfold maxLen at hm1; omega) g1 (by rw [hl]; exact g2)
 ·have hne : xs ≠ ys := fun h => hl (by rw [h])
  have hd : decide (xs = ys) = false := by simpa using hne
  rw [hd]
  exact same_unlike a1 a2 _ _ c1 c2 w hl
end Go.Proofs.YtgmfiljjogdccabGreatDoor
namespace Go.Proofs.YtgmfiljjogdccabGreatDoor
/-- Numbers that are bytes. -/
def AllBytes (zs : List Int) : Prop := ∀ i, 0 ≤ zs.getD i 0 ∧ zs.getD i 0 < 256
end Go.Proofs.YtgmfiljjogdccabGreatDoor
namespace Go.Proofs.YtgmfiljjogdccabGreatDoor
abbrev rwLink : Go.Conc.Locks.RwLink := { lock := 81, unlock := 87, ilock := 95, iunlock := 96, lockSlow := 98, unlockSlow := 99, disable := 68, enable := 71, acquire := 83, relMerge := 67, cas32 := 97, add32 := 94, tMutex := 55, tIMutex := 53, tPMutex := 126, tPIMutex := 148, tPI32 := 147, tUP := 125, tNoCopy := 51, tU32 := 43, rlock := 65, runlock := 42, wlock := 53, wunlock := 54, i32add := 69, raceRead := 66, release := 84, rUnlockSlow := 70, semacqR := 93, semacqW := 82, semrel := 86, sfatal := 85, tRW := 60, tPRW := 123, tAI32 := 58, tPAI32 := 145, tPU32 := 127, tANoCopy := 56 }
theorem rwCore : Go.Conc.Locks.RwCore Tryz.prog rwLink :=
 ⟨Tryz.func69, Tryz.func66, Tryz.func68, Tryz.func71, Tryz.func83, Tryz.func67, Tryz.func94, Tryz.underlying60, Tryz.runUnderlying60, Tryz.sizeOf60, Tryz.isAgg60, Tryz.zeroValue60, Tryz.underlying58, Tryz.runUnderlying58, Tryz.sizeOf58, Tryz.isAgg58, Tryz.zeroValue58, Tryz.underlying123, Tryz.runUnderlying123, Tryz.sizeOf123, Tryz.isAgg123, Tryz.zeroValue123, Tryz.underlying145, Tryz.runUnderlying145, Tryz.sizeOf145, Tryz.isAgg145, Tryz.zeroValue145, Tryz.underlying127, Tryz.runUnderlying127, Tryz.sizeOf127, Tryz.isAgg127, Tryz.zeroValue127, Tryz.underlying56, Tryz.runUnderlying56, Tryz.sizeOf56, Tryz.isAgg56, Tryz.zeroValue56, Tryz.underlying43, Tryz.runUnderlying43, Tryz.sizeOf43, Tryz.isAgg43, Tryz.zeroValue43, Tryz.underlying55, Tryz.runUnderlying55, Tryz.sizeOf55, Tryz.isAgg55, Tryz.zeroValue55, Tryz.underlying126, Tryz.runUnderlying126, Tryz.sizeOf126, Tryz.isAgg126, Tryz.zeroValue126, Tryz.underlying147, Tryz.runUnderlying147, Tryz.sizeOf147, Tryz.isAgg147, Tryz.zeroValue147, Tryz.underlying125, Tryz.runUnderlying125, Tryz.sizeOf125, Tryz.isAgg125, Tryz.zeroValue125, Tryz.underlying21, Tryz.runUnderlying21, Tryz.sizeOf21, Tryz.isAgg21, Tryz.zeroValue21, (by kernel_rfl), (by kernel_rfl)⟩
theorem rwRLib : Go.Conc.Locks.RwRLib Tryz.prog rwLink := ⟨rwCore, Tryz.func65, Tryz.func42⟩
theorem muLib : Go.Conc.Locks.MuLib Tryz.prog rwLink.toMuLink :=
 ⟨Tryz.func81, Tryz.func87, Tryz.func95, Tryz.func96, Tryz.func68, Tryz.func71, Tryz.func83, Tryz.func67, Tryz.func97, Tryz.func94, Tryz.underlying53, Tryz.runUnderlying53, Tryz.sizeOf53, Tryz.isAgg53, Tryz.zeroValue53, Tryz.underlying55, Tryz.runUnderlying55, Tryz.sizeOf55, Tryz.isAgg55, Tryz.zeroValue55, Tryz.underlying126, Tryz.runUnderlying126, Tryz.sizeOf126, Tryz.isAgg126, Tryz.zeroValue126, Tryz.underlying148, Tryz.runUnderlying148, Tryz.sizeOf148, Tryz.isAgg148, Tryz.zeroValue148, Tryz.underlying147, Tryz.runUnderlying147, Tryz.sizeOf147, Tryz.isAgg147, Tryz.zeroValue147, Tryz.underlying125, Tryz.runUnderlying125, Tryz.sizeOf125, Tryz.isAgg125, Tryz.zeroValue125, Tryz.underlying51, Tryz.runUnderlying51, Tryz.sizeOf51, Tryz.isAgg51, Tryz.zeroValue51, Tryz.underlying21, Tryz.runUnderlying21, Tryz.sizeOf21, Tryz.isAgg21, Tryz.zeroValue21, (by kernel_rfl)⟩
theorem rwWLib : Go.Conc.Locks.RwWLib Tryz.prog rwLink := ⟨rwCore, muLib, Tryz.func53, Tryz.func54, Tryz.func84, Tryz.underlying3, Tryz.runUnderlying3, Tryz.sizeOf3, Tryz.isAgg3, Tryz.zeroValue3⟩
end Go.Proofs.YtgmfiljjogdccabGreatDoor
namespace Go.Proofs.YtgmfiljjogdccabGreatDoor
open Go.ChangeShapes Go.WideShapes Go.ChangeAt Go.RowKit

theorem cells5 : Tryz.prog.cellsOf 5 = 1 := by kernel_rfl
theorem bytes5 : Tryz.prog.bytesOf 5 = 1 := by kernel_rfl

/-- What came in as a list of bytes. -/
theorem open_bytes {H : Type} {enc : TypeId × Value → H} {W : World} {a : Option Addr} {len cap : Nat} {d : DataW H} {p : List MemPlace}
  (h : DataW.Trod enc Tryz.prog W 0 (fun _ => true) true 22 (.slice a len cap) d p) :
  ∃ xs : List Int, xs.length = len ∧ AllBytes xs ∧ View W (.slice a len cap) xs ∧ (d = .nil ∧ xs = [] ∨ ∃ sp, d = .slice (lits .u8 xs) sp) := by
 obtain ⟨fuel, hf⟩ := h
 rcases open_ints Tryz.underlying22 Tryz.underlying5 cells5 hf with ⟨hcs, hx⟩ | ⟨x, l, c, zs, hcs, _, hl, hm, hz, hx, hcell, hwz⟩
 ·simp [Value.cells] at hcs
  obtain ⟨rfl, rfl, rfl⟩ := hcs
  simp only [Prod.mk.injEq] at hx
  refine ⟨[], rfl, fun i => by simp, ⟨none, 0, rfl, Nat.le_refl _, by simp, fun _ => rfl, .inl rfl⟩, .inl ⟨hx.1, rfl⟩⟩
 ·simp [Value.cells] at hcs
  obtain ⟨rfl, rfl, rfl⟩ := hcs
  simp only [Prod.mk.injEq] at hx
  have hzl : zs.length = cap := by simpa using hz
  have hlen : (zs.take len).length = len := by simp; omega
  have hw : ∀ n ∈ zs, 0 ≤ n ∧ n < 256 := by
   intro n hn
   have := hwz n hn
   have h1 : IntKind.u8.min = 0 := rfl
   have h2 : IntKind.u8.max = 255 := rfl
   simp only [Lit.wf, Bool.and_eq_true, decide_eq_true_eq] at this
   omega
  refine ⟨zs.take len, hlen, ?_, ⟨some x, cap, by rw [hlen], by omega, hm, (fun h => by cases h), ?_⟩, .inr ⟨_, hx.1⟩⟩
  ·intro i
   rw [List.getD_eq_getElem?_getD]
   cases hg : (zs.take len)[i]? with
   | none => simp
   | some n =>
    have hn : n ∈ zs := List.mem_of_mem_take (List.mem_of_getElem? hg)
    simpa using hw n hn
  ·by_cases h0 : len = 0
   ·left
    subst h0
    simp
   ·right
    obtain ⟨b, off, spot⟩ := x
    have hc0 := hcell 0 (by omega)
    have hspot : spot = none := by simpa [Addr.add] using World.cell?_spot hc0
    subst hspot
    refine ⟨b, off, rfl, fun i hi => ?_⟩
    rw [hlen] at hi
    have := hcell i (by omega)
    rw [Addr.add_lit] at this
    rw [this]
    congr 2
    simp [List.getD_eq_getElem?_getD, hi]

end Go.Proofs.YtgmfiljjogdccabGreatDoor
