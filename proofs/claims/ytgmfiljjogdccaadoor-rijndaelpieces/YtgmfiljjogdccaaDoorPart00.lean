import Derived.Test.YtgmfiljjogdccaaDoorProg
import Derived.WalkKit
import Derived.Laws.BitsLemmas
import Derived.Deep.RegionHeld3
import Derived.Deep.QuietTactic
import Derived.BigQuiet
import Derived.BigRegion
import Derived.Laws.ResultCell
import Derived.Below
import Derived.StillTail
import Derived.Deep.MidRow
namespace Go.Proofs.YtgmfiljjogdccaaDoor
open Go.RowKit
/-- The product by x. -/
def dblN (a : Nat) : Nat := Nat.xor (Nat.mod (Nat.mul a 2) 256) (Nat.mul (Nat.div a 128) 27)
/-- Times, k rounds of it. -/
def tmsN : Nat → Nat → Nat → Nat → Nat
  | 0, p, _, _ => p
  | k + 1, p, a, b => tmsN k (Nat.xor p (Nat.mul (Nat.mod b 2) a)) (dblN a) (Nat.div b 2)
def refP (a b : Nat) : Nat → Nat
  | 0 => 0
  | i + 1 => Nat.xor (refP a b i) (Nat.mul (Nat.mod (Nat.div b (Nat.pow 2 i)) 2) (Nat.mul a (Nat.pow 2 i)))
def refR : Nat → Nat → Nat
  | 0, p => p
  | i + 1, p => refR i (Nat.xor p (Nat.mul (Nat.mod (Nat.div p (Nat.pow 2 (Nat.add i 8))) 2) (Nat.mul 283 (Nat.pow 2 i))))
def allB (f : Nat → Bool) : Nat → Bool
  | 0 => true
  | n + 1 => and (f n) (allB f n)
theorem allB_at {f : Nat → Bool} : ∀ {n : Nat}, allB f n = true → ∀ {i}, i < n → f i = true
  | 0, _, i, h => by omega
  | n + 1, ha, i, h => by
    simp only [allB, Bool.and_eq_true] at ha
    by_cases hi : i = n
    · subst hi; exact ha.1
    · exact allB_at ha.2 (by omega)
theorem dbl_eq : ∀ a : Fin 256, bits .xor .u8 ((a.1 : Int) * 2 % 256) (bits .and .u8 27 (-((a.1 : Int) / 128) % 256)) = (dblN a.1 : Nat) := by decide +kernel
theorem dbl_lt : ∀ a : Fin 256, dblN a.1 < 256 := by decide +kernel
theorem and_one : ∀ b : Fin 256, bits .and .u8 (b.1 : Int) 1 = ((b.1 % 2 : Nat) : Int) := by decide +kernel
theorem and_all : ∀ b : Fin 256, bits .and .u8 (b.1 : Int) 255 = (b.1 : Int) := by decide +kernel
theorem and_none : ∀ b : Fin 256, bits .and .u8 (b.1 : Int) 0 = 0 := by decide +kernel
theorem bits_xor (k : IntKind) (j : Nat) (hj : j ≤ k.bits) (hk : ∀ n : Int, 0 ≤ n → n < 2 ^ j → k.wrap n = n) (a b : Nat) (ha : a < 2 ^ j) (hb : b < 2 ^ j) :
    bits .xor k a b = ((Nat.xor a b : Nat) : Int) := by
  have hp : 2 ^ j ≤ 2 ^ k.bits := Nat.pow_le_pow_right (by decide) hj
  have ha' : a % 2 ^ k.bits = a := Nat.mod_eq_of_lt (Nat.lt_of_lt_of_le ha hp)
  have hb' : b % 2 ^ k.bits = b := Nat.mod_eq_of_lt (Nat.lt_of_lt_of_le hb hp)
  have cast : ∀ n : Nat, n < 2 ^ j → ((n : Nat) : Int) < 2 ^ j := fun n h => by exact_mod_cast h
  simp only [bits, BitVec.ofInt_natCast, BitVec.toNat_xor, BitVec.toNat_ofNat, ha', hb']
  exact hk _ (Int.natCast_nonneg _) (cast _ (Nat.xor_lt_two_pow ha hb))
theorem wraps_i64 (n : Int) (h₀ : 0 ≤ n) (h₁ : n < 2 ^ 63) : IntKind.i64.wrap n = n := by rw [IntKind.wrap_i64]; omega
theorem xor8 (a b : Nat) (ha : a < 256) (hb : b < 256) : bits .xor .u8 (a : Int) b = (Nat.xor a b : Nat) := bits_xor .u8 8 (by decide) wraps_u8 a b ha hb
theorem xor15 (a b : Nat) (ha : a < 32768) (hb : b < 32768) : bits .xor .i64 (a : Int) b = (Nat.xor a b : Nat) := bits_xor .i64 15 (by decide) (fun n h0 h1 => wraps_i64 n h0 (by omega)) a b ha hb
theorem xor_lt15 {a b : Nat} (ha : a < 32768) (hb : b < 32768) : Nat.xor a b < 32768 := Nat.xor_lt_two_pow (n := 15) ha hb
theorem bit_eq (b k : Nat) : (((b : Int) / 2 ^ k).tmod 2 == 1) = (Nat.mod (Nat.div b (Nat.pow 2 k)) 2 == 1) := by
  have e : ((b : Int) / 2 ^ k) = ((b / 2 ^ k : Nat) : Int) := by push_cast; rfl
  rw [e, show (2 : Int) = ((2 : Nat) : Int) from rfl, ← Int.ofNat_tmod]
  show _ = (b / 2 ^ k % 2 == 1)
  have : b / 2 ^ k % 2 = 0 ∨ b / 2 ^ k % 2 = 1 := by omega
  rcases this with h | h <;> rw [h] <;> rfl
theorem bit_cases (n : Nat) : Nat.mod n 2 = 0 ∨ Nat.mod n 2 = 1 := by
  have : n % 2 = 0 ∨ n % 2 = 1 := by omega
  exact this
theorem xor_lt8 {a b : Nat} (ha : a < 256) (hb : b < 256) : Nat.xor a b < 256 := Nat.xor_lt_two_pow (n := 8) ha hb
theorem mask_eq (a b : Nat) (ha : a < 256) (hb : b < 256) : bits .and .u8 (a : Int) (-(bits .and .u8 (b : Int) 1) % 256) = (Nat.mul (Nat.mod b 2) a : Nat) := by
  have h1 := and_one ⟨b, hb⟩
  simp only at h1
  rw [h1]
  have : b % 2 = 0 ∨ b % 2 = 1 := by omega
  rcases this with h | h
  · rw [h]
    have := and_none ⟨a, ha⟩
    simp only at this
    have e : Nat.mod b 2 = 0 := h
    rw [e]
    simpa using this
  · rw [h]
    have := and_all ⟨a, ha⟩
    simp only at this
    have e : Nat.mod b 2 = 1 := h
    rw [e]
    simpa using this
theorem ret_int {k : IntKind} {x y : Int} (h : x = y) : Ending.returned (.int k x) = .returned (.int k y) := by rw [h]
theorem val_eq {k : IntKind} {x y : Int} (h : x = y) : Value.int k x = Value.int k y := by rw [h]
theorem dbl_ok (a : Nat) (h : a < 256) (w : World) : Calls Tryd.prog 84 #[.int .u8 a] w fun e w' => e = .returned (.int .u8 (dblN a : Nat)) ∧ w' = w := by
  go_enter Tryd.func84, Tryd.ntmps84
  go_wp2
  go_ret
  exact ⟨ret_int (dbl_eq ⟨a, h⟩), rfl⟩
theorem tms_lt : ∀ (k p a b : Nat), p < 256 → a < 256 → b < 256 → tmsN k p a b < 256
  | 0, p, a, b, hp, _, _ => hp
  | k + 1, p, a, b, hp, ha, hb => by
    have : Nat.mul (Nat.mod b 2) a < 256 := by
      have : b % 2 = 0 ∨ b % 2 = 1 := by omega
      rcases this with h | h
      · rw [show Nat.mod b 2 = 0 from h]; simp
      · rw [show Nat.mod b 2 = 1 from h]; simpa using ha
    exact tms_lt k _ _ _ (xor_lt8 hp this) (dbl_lt ⟨a, ha⟩) (by show b / 2 < 256; omega)
theorem times_ok (a b : Nat) (ha : a < 256) (hb : b < 256) (w : World) : Calls Tryd.prog 77 #[.int .u8 a, .int .u8 b] w fun e w' => e = .returned (.int .u8 (tmsN 8 0 a b : Nat)) ∧ w' = w := by
  go_enter Tryd.func77, Tryd.ntmps77
  go_wp2
  go_loopw [0, 1, 5, 6] (fun va vb vp i wr => ∃ k x y p : Nat, k ≤ 8 ∧ x < 256 ∧ y < 256 ∧ p < 256 ∧ i = .int .i64 k ∧ va = .int .u8 x ∧ vb = .int .u8 y ∧ vp = .int .u8 p ∧ Hid (tmsN 8 0 a b = tmsN (8 - k) p x y) ∧ wr = w) (fun _ _ _ i _ => 8 - (intOf i).toNat)
  case atStart => exact ⟨0, a, b, 0, by omega, ha, hb, by omega, rfl, rfl, rfl, rfl, rfl, rfl⟩
  case round =>
    obtain ⟨k, x, y, p, hk, hx, hy, hp, rfl, rfl, rfl, rfl, HS, hw⟩ := hrel
    obtain rfl := hw.symm
    by_cases hlt : k < 8
    · go_wp2_with (first | (go_at_call 84; (refine (dbl_ok x hx _).mono ?_); (rintro e1 w1 ⟨rfl, hw1⟩; obtain rfl := hw1.symm)))
      go_roundw
      case rel =>
        have hm : Nat.mul (Nat.mod y 2) x < 256 := by
          have : y % 2 = 0 ∨ y % 2 = 1 := by omega
          rcases this with h | h
          · rw [show Nat.mod y 2 = 0 from h]; simp
          · rw [show Nat.mod y 2 = 1 from h]; simpa using hx
        refine ⟨k + 1, dblN x, y / 2, Nat.xor p (Nat.mul (Nat.mod y 2) x), by omega, dbl_lt ⟨x, hx⟩, by omega, xor_lt8 hp hm, by go_num, rfl, val_eq (by omega), val_eq ?_, ?_, trivial⟩
        · rw [mask_eq x y hx hy, xor8 _ _ hp hm]
        · have := HS.out
          rw [show 8 - k = 8 - (k + 1) + 1 by omega] at this
          exact this
      case measure => simp [intOf]; omega
    · obtain rfl : k = 8 := by omega
      go_wp2
      go_ret
      exact ⟨ret_int (by rw [HS.out]; rfl), rfl⟩
theorem refTimes_ok (a b : Nat) (ha : a < 256) (hb : b < 256) (w : World) : Calls Tryd.prog 38 #[.int .u8 a, .int .u8 b] w fun e w' => e = .returned (.int .u8 (Nat.mod (refR 7 (refP a b 8)) 256 : Nat)) ∧ w' = w := by
  go_enter Tryd.func38, Tryd.ntmps38
  go_wp2
  go_loopw [5, 6] (fun vp i wr => ∃ k p : Nat, k ≤ 8 ∧ i = .int .i64 k ∧ vp = .int .i64 p ∧ p < 32768 ∧ Hid (p = refP a b k) ∧ wr = w) (fun _ i _ => 8 - (intOf i).toNat)
  case atStart => exact ⟨0, 0, by omega, rfl, rfl, by omega, rfl, rfl⟩
  case round =>
    obtain ⟨k, p, hk, rfl, rfl, hp, HS, hw⟩ := hrel
    obtain rfl := hw.symm
    by_cases hlt : k < 8
    · have hsh : wrap64 ((a : Int) * 2 ^ k) = (Nat.mul a (Nat.pow 2 k) : Nat) ∧ Nat.mul a (Nat.pow 2 k) < 32768 := by
        have h8 : k = 0 ∨ k = 1 ∨ k = 2 ∨ k = 3 ∨ k = 4 ∨ k = 5 ∨ k = 6 ∨ k = 7 := by omega
        show wrap64 ((a : Int) * 2 ^ k) = (a * 2 ^ k : Nat) ∧ a * 2 ^ k < 32768
        rcases h8 with rfl | rfl | rfl | rfl | rfl | rfl | rfl | rfl <;> (unfold wrap64; omega)
      have hbit := bit_eq b k
      have HB : Hid ((((b : Int) / 2 ^ k).tmod 2 == 1) = (Nat.mod (Nat.div b (Nat.pow 2 k)) 2 == 1)) := hbit
      have HSH : Hid (wrap64 ((a : Int) * 2 ^ k) = (Nat.mul a (Nat.pow 2 k) : Nat) ∧ Nat.mul a (Nat.pow 2 k) < 32768) := hsh
      clear hbit hsh
      go_wp2
      · have hc : (((b : Int) / 2 ^ k).tmod 2 == 1) = true := by assumption
        have h1 : Nat.mod (Nat.div b (Nat.pow 2 k)) 2 = 1 := by
          rw [HB.out] at hc
          exact eq_of_beq hc
        obtain ⟨e1, e2⟩ := HSH.out
        refine ⟨⟨k + 1, Nat.xor p (Nat.mul a (Nat.pow 2 k)), by omega, rfl, val_eq ?_, xor_lt15 hp e2, ?_, trivial⟩, ?_⟩
        · rw [e1, xor15 _ _ hp e2]
        · show Nat.xor p (Nat.mul a (Nat.pow 2 k)) = _
          rw [HS.out]
          show _ = Nat.xor (refP a b k) (Nat.mul (Nat.mod (Nat.div b (Nat.pow 2 k)) 2) (Nat.mul a (Nat.pow 2 k)))
          rw [h1]
          simp
        · simp [intOf]; omega
      · have hc : (((b : Int) / 2 ^ k).tmod 2 == 1) = false := by assumption
        have h1 : Nat.mod (Nat.div b (Nat.pow 2 k)) 2 = 0 := by
          rw [HB.out] at hc
          rcases bit_cases (Nat.div b (Nat.pow 2 k)) with h | h
          · exact h
          · rw [h] at hc; cases hc
        refine ⟨⟨k + 1, p, by omega, rfl, rfl, hp, ?_, trivial⟩, ?_⟩
        · show p = _
          rw [HS.out]
          show _ = Nat.xor (refP a b k) (Nat.mul (Nat.mod (Nat.div b (Nat.pow 2 k)) 2) (Nat.mul a (Nat.pow 2 k)))
          rw [h1]
          simp
        · simp [intOf]; omega
    · obtain rfl : k = 8 := by omega
      clear hlt hk
      go_wp2
      go_loopw [5, 7] (fun vp i wr => ∃ j p : Nat, j ≤ 7 ∧ i = .int .i64 (j + 7) ∧ vp = .int .i64 p ∧ p < 32768 ∧ Hid (refR 7 (refP a b 8) = refR j p) ∧ wr = w) (fun _ i _ => (intOf i).toNat)
      case atStart => exact ⟨7, p, by omega, rfl, rfl, hp, (by rw [← HS.out] : refR 7 (refP a b 8) = refR 7 p), rfl⟩
      case round =>
        clear HS hp
        obtain ⟨j, p, hj, rfl, rfl, hp, HS, hw⟩ := hrel
        obtain rfl := hw.symm
        cases j with
        | zero =>
          go_wp2
          go_ret
          refine ⟨ret_int ?_, rfl⟩
          rw [HS.out]
          show _ = ((p % 256 : Nat) : Int)
          omega
        | succ j =>
          have HB : Hid ((((p : Int) / 2 ^ (j + 1 + 7)).tmod 2 == 1) = (Nat.mod (Nat.div p (Nat.pow 2 (Nat.add j 8))) 2 == 1)) := bit_eq p (j + 8)
          have HSH : Hid (wrap64 (283 * 2 ^ j) = (Nat.mul 283 (Nat.pow 2 j) : Nat) ∧ Nat.mul 283 (Nat.pow 2 j) < 32768) := by
            have h8 : j = 0 ∨ j = 1 ∨ j = 2 ∨ j = 3 ∨ j = 4 ∨ j = 5 ∨ j = 6 := by omega
            rcases h8 with rfl | rfl | rfl | rfl | rfl | rfl | rfl <;> exact ⟨by decide +kernel, by decide⟩
          have HR : Hid (refR (j + 1) p = refR j (Nat.xor p (Nat.mul (Nat.mod (Nat.div p (Nat.pow 2 (Nat.add j 8))) 2) (Nat.mul 283 (Nat.pow 2 j))))) := rfl
          go_wp2
          · have hc : (((p : Int) / 2 ^ (j + 1 + 7)).tmod 2 == 1) = true := by assumption
            have h1 : Nat.mod (Nat.div p (Nat.pow 2 (Nat.add j 8))) 2 = 1 := by
              rw [HB.out] at hc
              exact eq_of_beq hc
            obtain ⟨e1, e2⟩ := HSH.out
            refine ⟨⟨j, Nat.xor p (Nat.mul 283 (Nat.pow 2 j)), by omega, val_eq (by omega), val_eq ?_, xor_lt15 hp e2, ?_, trivial⟩, ?_⟩
            · rw [e1, xor15 _ _ hp e2]
            · show refR 7 (refP a b 8) = _
              rw [HS.out, HR.out, h1]
              simp
            · simp only [intOf]; omega
          · have hc : (((p : Int) / 2 ^ (j + 1 + 7)).tmod 2 == 1) = false := by assumption
            have h1 : Nat.mod (Nat.div p (Nat.pow 2 (Nat.add j 8))) 2 = 0 := by
              rw [HB.out] at hc
              rcases bit_cases (Nat.div p (Nat.pow 2 (Nat.add j 8))) with h | h
              · exact h
              · rw [h] at hc; cases hc
            refine ⟨⟨j, p, by omega, val_eq (by omega), rfl, hp, ?_, trivial⟩, ?_⟩
            · show refR 7 (refP a b 8) = _
              rw [HS.out, HR.out, h1]
              simp
            · simp only [intOf]; omega
end Go.Proofs.YtgmfiljjogdccaaDoor
namespace Go.Proofs.YtgmfiljjogdccaaDoor
open Go.RowKit
def both (a b : Nat) : Bool := Nat.beq (tmsN 8 0 a b) (Nat.mod (refR 7 (refP a b 8)) 256)
set_option maxRecDepth 100000 in
theorem both_all : allB (fun a => allB (both a) 256) 256 = true := by decide +kernel
theorem both_eq (a b : Nat) (ha : a < 256) (hb : b < 256) : Nat.mod (refR 7 (refP a b 8)) 256 = tmsN 8 0 a b := (Nat.eq_of_beq_eq_true (allB_at (allB_at both_all ha) hb)).symm
end Go.Proofs.YtgmfiljjogdccaaDoor
namespace Go.Proofs.YtgmfiljjogdccaaDoor
open Go.RowKit
set_option linter.unusedVariables false
theorem refTimes (a b : Nat) (ha : a < 256) (hb : b < 256) (w : World) : Calls Tryd.prog 38 #[.int .u8 a, .int .u8 b] w fun e w' => e = .returned (.int .u8 (tmsN 8 0 a b : Nat)) ∧ w' = w := by
  rw [← both_eq a b ha hb]
  exact refTimes_ok a b ha hb w
theorem times_lt {a b : Nat} (ha : a < 256) (hb : b < 256) : tmsN 8 0 a b < 256 := tms_lt 8 0 a b (by decide) ha hb
theorem times_ex (a b : Nat) (ha : a < 256) (hb : b < 256) (w : World) : Calls Tryd.prog 77 #[.int .u8 a, .int .u8 b] w fun e w' => ∃ y : Nat, y < 256 ∧ Hid (y = tmsN 8 0 a b) ∧ e = .returned (.int .u8 y) ∧ w' = w :=
  (times_ok a b ha hb w).mono fun e w' ⟨h1, h2⟩ => ⟨_, times_lt ha hb, rfl, h1, h2⟩
theorem refTimes_ex (a b : Nat) (ha : a < 256) (hb : b < 256) (w : World) : Calls Tryd.prog 38 #[.int .u8 a, .int .u8 b] w fun e w' => ∃ y : Nat, y < 256 ∧ Hid (y = tmsN 8 0 a b) ∧ e = .returned (.int .u8 y) ∧ w' = w :=
  (refTimes a b ha hb w).mono fun e w' ⟨h1, h2⟩ => ⟨_, times_lt ha hb, rfl, h1, h2⟩
theorem rot8_core (x k s : Int) (w : World) (hb : bits .and .u64 (IntKind.u64.wrap k) 7 = s) (h0 : 0 ≤ s) (h1 : s ≤ 8) (h2 : IntKind.u64.wrap (8 - s) = 8 - s) : Calls Tryd.prog 85 #[.int .u8 x, .int .i64 k] w fun e w' => e = .returned (.int .u8 (bits .or .u8 (x * 2 ^ s.toNat % 256) (x / 2 ^ (8 - s).toNat))) ∧ w' = w := by
  have h3 : 0 ≤ 8 - s := by omega
  go_enter Tryd.func85, Tryd.ntmps85
  go_wp2
  go_ret
  exact ⟨rfl, rfl⟩
def rotN (x s : Nat) : Nat := Nat.lor (Nat.mod (Nat.mul x (Nat.pow 2 s)) 256) (Nat.div x (Nat.pow 2 (Nat.sub 8 s)))
theorem rot_all : ∀ x : Fin 256, ∀ s : Fin 8, bits .or .u8 ((x.1 : Int) * 2 ^ s.1 % 256) ((x.1 : Int) / 2 ^ (8 - s.1)) = (rotN x.1 s.1 : Nat) := by decide +kernel
theorem rot_k : ∀ s : Fin 8, bits .and .u64 (IntKind.u64.wrap (s.1 : Int)) 7 = (s.1 : Int) ∧ IntKind.u64.wrap (8 - (s.1 : Int)) = 8 - (s.1 : Int) := by decide +kernel
theorem rot_lt : ∀ x : Fin 256, ∀ s : Fin 8, rotN x.1 s.1 < 256 := by decide +kernel
theorem rot8 {x : Nat} {w : World} (s : Nat) (hx : x < 256) (hs : s < 8) : Calls Tryd.prog 85 #[.int .u8 x, .int .i64 s] w fun e w' => e = .returned (.int .u8 (rotN x s : Nat)) ∧ w' = w := by
  have h := rot8_core x s s w (rot_k ⟨s, hs⟩).1 (by omega) (by omega) (rot_k ⟨s, hs⟩).2
  have e : bits .or .u8 ((x : Int) * 2 ^ (s : Int).toNat % 256) ((x : Int) / 2 ^ (8 - (s : Int)).toNat) = (rotN x s : Nat) := by
    rw [show (8 - (s : Int)).toNat = 8 - s by omega, show (s : Int).toNat = s by omega]
    exact rot_all ⟨x, hx⟩ ⟨s, hs⟩
  rw [e] at h
  exact h
theorem rot_ex {x : Nat} {w : World} (s : Nat) (hx : x < 256) (hs : s < 8) : Calls Tryd.prog 85 #[.int .u8 x, .int .i64 s] w fun e w' => ∃ y : Nat, Hid (y = rotN x s) ∧ e = .returned (.int .u8 y) ∧ w' = w :=
  (rot8 s hx hs).mono fun e w' ⟨h1, h2⟩ => ⟨_, rfl, h1, h2⟩
def sprN (y : Nat) : Nat := Nat.xor (Nat.xor (Nat.xor (Nat.xor (Nat.xor y (rotN y 1)) (rotN y 2)) (rotN y 3)) (rotN y 4)) 99
def gatN (y : Nat) : Nat := Nat.xor (Nat.xor (Nat.xor (rotN y 1) (rotN y 3)) (rotN y 6)) 5
theorem spr_all : ∀ y : Fin 256, bits .xor .u8 (bits .xor .u8 (bits .xor .u8 (bits .xor .u8 (bits .xor .u8 (y.1 : Int) (rotN y.1 1 : Nat)) (rotN y.1 2 : Nat)) (rotN y.1 3 : Nat)) (rotN y.1 4 : Nat)) 99 = (sprN y.1 : Nat) := by decide +kernel
theorem gat_all : ∀ y : Fin 256, bits .xor .u8 (bits .xor .u8 (bits .xor .u8 (rotN y.1 1 : Nat) (rotN y.1 3 : Nat)) (rotN y.1 6 : Nat)) 5 = (gatN y.1 : Nat) := by decide +kernel
theorem spr_lt : ∀ y : Fin 256, sprN y.1 < 256 := by decide +kernel
theorem gat_lt : ∀ y : Fin 256, gatN y.1 < 256 := by decide +kernel
theorem spread_ok (y : Nat) (hy : y < 256) (w : World) : Calls Tryd.prog 76 #[.int .u8 y] w fun e w' => ∃ z : Nat, z < 256 ∧ Hid (z = sprN y) ∧ e = .returned (.int .u8 z) ∧ w' = w := by
  go_enter Tryd.func76, Tryd.ntmps76
  go_wp2_with (first | (go_at_call 85; (refine (rot_ex 1 hy (by decide)).mono ?_)))
  rintro e1 w1 ⟨y1, H1, rfl, hw1⟩
  obtain rfl := hw1.symm
  go_wp2_with (first | (go_at_call 85; (refine (rot_ex 2 hy (by decide)).mono ?_)))
  rintro e1 w1 ⟨y2, H2, rfl, hw1⟩
  obtain rfl := hw1.symm
  go_wp2_with (first | (go_at_call 85; (refine (rot_ex 3 hy (by decide)).mono ?_)))
  rintro e1 w1 ⟨y3, H3, rfl, hw1⟩
  obtain rfl := hw1.symm
  go_wp2_with (first | (go_at_call 85; (refine (rot_ex 4 hy (by decide)).mono ?_)))
  rintro e1 w1 ⟨y4, H4, rfl, hw1⟩
  obtain rfl := hw1.symm
  go_wp2
  go_ret
  refine ⟨sprN y, spr_lt ⟨y, hy⟩, rfl, ret_int ?_, rfl⟩
  rw [H1.out, H2.out, H3.out, H4.out]
  exact spr_all ⟨y, hy⟩
def bitN (y i : Nat) : Nat := Nat.mod (Nat.xor (Nat.xor (Nat.xor (Nat.xor (Nat.xor (y / 2 ^ i) (y / 2 ^ ((i + 4) % 8))) (y / 2 ^ ((i + 5) % 8))) (y / 2 ^ ((i + 6) % 8))) (y / 2 ^ ((i + 7) % 8))) (99 / 2 ^ i)) 2
def sumN (y : Nat) : Nat → Nat
  | 0 => 0
  | i + 1 => sumN y i + bitN y i * 2 ^ i
theorem sum_spr : ∀ y : Fin 256, sumN y.1 8 = sprN y.1 := by decide +kernel
theorem bit_step0 : ∀ y : Fin 256, wrap64 ((sumN y.1 0 : Nat) + wrap64 ((bits .xor .i64 (bits .xor .i64 (bits .xor .i64 (bits .xor .i64 (bits .xor .i64 (y.1 : Int) ((y.1 : Int) / 16)) ((y.1 : Int) / 32)) ((y.1 : Int) / 64)) ((y.1 : Int) / 128)) 99).tmod 2)) = (sumN y.1 1 : Nat) := by decide +kernel
theorem bit_step1 : ∀ y : Fin 256, wrap64 ((sumN y.1 1 : Nat) + wrap64 ((bits .xor .i64 (bits .xor .i64 (bits .xor .i64 (bits .xor .i64 (bits .xor .i64 ((y.1 : Int) / 2) ((y.1 : Int) / 32)) ((y.1 : Int) / 64)) ((y.1 : Int) / 128)) (y.1 : Int)) 49).tmod 2 * 2)) = (sumN y.1 2 : Nat) := by decide +kernel
theorem bit_step2 : ∀ y : Fin 256, wrap64 ((sumN y.1 2 : Nat) + wrap64 ((bits .xor .i64 (bits .xor .i64 (bits .xor .i64 (bits .xor .i64 (bits .xor .i64 ((y.1 : Int) / 4) ((y.1 : Int) / 64)) ((y.1 : Int) / 128)) (y.1 : Int)) ((y.1 : Int) / 2)) 24).tmod 2 * 4)) = (sumN y.1 3 : Nat) := by decide +kernel
theorem bit_step3 : ∀ y : Fin 256, wrap64 ((sumN y.1 3 : Nat) + wrap64 ((bits .xor .i64 (bits .xor .i64 (bits .xor .i64 (bits .xor .i64 (bits .xor .i64 ((y.1 : Int) / 8) ((y.1 : Int) / 128)) (y.1 : Int)) ((y.1 : Int) / 2)) ((y.1 : Int) / 4)) 12).tmod 2 * 8)) = (sumN y.1 4 : Nat) := by decide +kernel
theorem bit_step4 : ∀ y : Fin 256, wrap64 ((sumN y.1 4 : Nat) + wrap64 ((bits .xor .i64 (bits .xor .i64 (bits .xor .i64 (bits .xor .i64 (bits .xor .i64 ((y.1 : Int) / 16) (y.1 : Int)) ((y.1 : Int) / 2)) ((y.1 : Int) / 4)) ((y.1 : Int) / 8)) 6).tmod 2 * 16)) = (sumN y.1 5 : Nat) := by decide +kernel
theorem bit_step5 : ∀ y : Fin 256, wrap64 ((sumN y.1 5 : Nat) + wrap64 ((bits .xor .i64 (bits .xor .i64 (bits .xor .i64 (bits .xor .i64 (bits .xor .i64 ((y.1 : Int) / 32) ((y.1 : Int) / 2)) ((y.1 : Int) / 4)) ((y.1 : Int) / 8)) ((y.1 : Int) / 16)) 3).tmod 2 * 32)) = (sumN y.1 6 : Nat) := by decide +kernel
theorem bit_step6 : ∀ y : Fin 256, wrap64 ((sumN y.1 6 : Nat) + wrap64 ((bits .xor .i64 (bits .xor .i64 (bits .xor .i64 (bits .xor .i64 (bits .xor .i64 ((y.1 : Int) / 64) ((y.1 : Int) / 4)) ((y.1 : Int) / 8)) ((y.1 : Int) / 16)) ((y.1 : Int) / 32)) 1).tmod 2 * 64)) = (sumN y.1 7 : Nat) := by decide +kernel
theorem bit_step7 : ∀ y : Fin 256, wrap64 ((sumN y.1 7 : Nat) + wrap64 ((bits .xor .i64 (bits .xor .i64 (bits .xor .i64 (bits .xor .i64 (bits .xor .i64 ((y.1 : Int) / 128) ((y.1 : Int) / 8)) ((y.1 : Int) / 16)) ((y.1 : Int) / 32)) ((y.1 : Int) / 64)) 0).tmod 2 * 128)) = (sumN y.1 8 : Nat) := by decide +kernel
theorem refBits_ok (y : Nat) (hy : y < 256) (w : World) : Calls Tryd.prog 55 #[.int .i64 y] w fun e w' => ∃ z : Nat, z < 256 ∧ Hid (z = sprN y) ∧ e = .returned (.int .u8 z) ∧ w' = w := by
  go_enter Tryd.func55, Tryd.ntmps55
  go_wp2
  go_loopw [3, 4] (fun vs i wr => ∃ k : Nat, k ≤ 8 ∧ i = .int .i64 k ∧ vs = .int .i64 (sumN y k : Nat) ∧ wr = w) (fun _ i _ => 8 - (intOf i).toNat)
  case atStart => exact ⟨0, by omega, rfl, rfl, rfl⟩
  case round =>
    obtain ⟨k, hk, rfl, rfl, hw⟩ := hrel
    obtain rfl := hw.symm
    have h9 : k = 0 ∨ k = 1 ∨ k = 2 ∨ k = 3 ∨ k = 4 ∨ k = 5 ∨ k = 6 ∨ k = 7 ∨ k = 8 := by omega
    clear hk
    rcases h9 with rfl | rfl | rfl | rfl | rfl | rfl | rfl | rfl | rfl
    · go_wp2
      exact ⟨⟨1, by omega, rfl, val_eq (bit_step0 ⟨y, hy⟩), trivial⟩, by decide +kernel⟩
    · go_wp2
      exact ⟨⟨2, by omega, rfl, val_eq (bit_step1 ⟨y, hy⟩), trivial⟩, by decide +kernel⟩
    · go_wp2
      exact ⟨⟨3, by omega, rfl, val_eq (bit_step2 ⟨y, hy⟩), trivial⟩, by decide +kernel⟩
    · go_wp2
      exact ⟨⟨4, by omega, rfl, val_eq (bit_step3 ⟨y, hy⟩), trivial⟩, by decide +kernel⟩
    · go_wp2
      exact ⟨⟨5, by omega, rfl, val_eq (bit_step4 ⟨y, hy⟩), trivial⟩, by decide +kernel⟩
    · go_wp2
      exact ⟨⟨6, by omega, rfl, val_eq (bit_step5 ⟨y, hy⟩), trivial⟩, by decide +kernel⟩
    · go_wp2
      exact ⟨⟨7, by omega, rfl, val_eq (bit_step6 ⟨y, hy⟩), trivial⟩, by decide +kernel⟩
    · go_wp2
      exact ⟨⟨8, by omega, rfl, val_eq (bit_step7 ⟨y, hy⟩), trivial⟩, by decide +kernel⟩
    · go_wp2
      go_ret
      refine ⟨sprN y, spr_lt ⟨y, hy⟩, rfl, ret_int ?_, rfl⟩
      have h1 := sum_spr ⟨y, hy⟩
      have h2 := spr_lt ⟨y, hy⟩
      simp only at h1 h2
      omega
end Go.Proofs.YtgmfiljjogdccaaDoor
namespace Go.Proofs.YtgmfiljjogdccaaDoor
open Go.RowKit
set_option linter.unusedVariables false
/-- Four bytes as a word, the first one highest. -/
def wd (a b c d : Nat) : Nat := a * 16777216 + b * 65536 + c * 256 + d
theorem wd_lt {a b c d : Nat} (ha : a < 256) (hb : b < 256) (hc : c < 256) (hd : d < 256) : wd a b c d < 4294967296 := by unfold wd; omega
theorem wd0 {a b c d : Nat} (ha : a < 256) (hb : b < 256) (hc : c < 256) (hd : d < 256) : ((wd a b c d : Nat) : Int) / 16777216 % 256 = a := by unfold wd; omega
theorem wd1 {a b c d : Nat} (ha : a < 256) (hb : b < 256) (hc : c < 256) (hd : d < 256) : ((wd a b c d : Nat) : Int) / 65536 % 256 = b := by unfold wd; omega
theorem wd2 {a b c d : Nat} (ha : a < 256) (hb : b < 256) (hc : c < 256) (hd : d < 256) : ((wd a b c d : Nat) : Int) / 256 % 256 = c := by unfold wd; omega
theorem wd3 {a b c d : Nat} (ha : a < 256) (hb : b < 256) (hc : c < 256) (hd : d < 256) : ((wd a b c d : Nat) : Int) % 256 = d := by unfold wd; omega
theorem wraps_u32 (n : Int) (h₀ : 0 ≤ n) (h₁ : n < 2 ^ 32) : IntKind.u32.wrap n = n := by rw [IntKind.wrap_u32]; omega
theorem xor32 (a b : Nat) (ha : a < 4294967296) (hb : b < 4294967296) : bits .xor .u32 (a : Int) b = (Nat.xor a b : Nat) := bits_xor .u32 32 (by decide) wraps_u32 a b ha hb
theorem split8 (a b x y : Nat) (hx : x < 256) (hy : y < 256) : Nat.xor (a * 256 + x) (b * 256 + y) = Nat.xor a b * 256 + Nat.xor x y := by
  have h1 : Nat.xor (a * 256 + x) (b * 256 + y) / 2 ^ 8 = Nat.xor ((a * 256 + x) / 2 ^ 8) ((b * 256 + y) / 2 ^ 8) := Nat.xor_div_two_pow
  have h2 : Nat.xor (a * 256 + x) (b * 256 + y) % 2 ^ 8 = Nat.xor ((a * 256 + x) % 2 ^ 8) ((b * 256 + y) % 2 ^ 8) := Nat.xor_mod_two_pow
  rw [show (a * 256 + x) / 2 ^ 8 = a by omega, show (b * 256 + y) / 2 ^ 8 = b by omega] at h1
  rw [show (a * 256 + x) % 2 ^ 8 = x by omega, show (b * 256 + y) % 2 ^ 8 = y by omega] at h2
  omega
theorem wd_xor (a b c d a' b' c' d' : Nat) (hb : b < 256) (hc : c < 256) (hd : d < 256) (hb' : b' < 256) (hc' : c' < 256) (hd' : d' < 256) :
    Nat.xor (wd a b c d) (wd a' b' c' d') = wd (Nat.xor a a') (Nat.xor b b') (Nat.xor c c') (Nat.xor d d') := by
  have e : ∀ a b c d, wd a b c d = ((a * 256 + b) * 256 + c) * 256 + d := fun a b c d => by unfold wd; omega
  rw [e, e, split8 _ _ _ _ hd hd', split8 _ _ _ _ hc hc', split8 _ _ _ _ hb hb', e]
theorem joins (i x y : Nat) (hx : x % 2 ^ i = 0) (hx1 : x < 4294967296) (hy : y < 2 ^ i) (hi : i ≤ 32) (hxy : x + y < 4294967296) : bits .or .u32 (x : Int) y = ((x + y : Nat) : Int) := by
  have := bits_join .u32 32 (by decide) wraps_u32 i x y (by omega) (by exact_mod_cast hx) (by omega) (by omega) (by exact_mod_cast hy) (by omega)
  simpa using this
theorem word_ok (a b c d : Nat) (ha : a < 256) (hb : b < 256) (hc : c < 256) (hd : d < 256) (w : World) : Calls Tryd.prog 83 #[.int .u8 a, .int .u8 b, .int .u8 c, .int .u8 d] w fun e w' => e = .returned (.int .u32 (wd a b c d : Nat)) ∧ w' = w := by
  go_enter Tryd.func83, Tryd.ntmps83
  go_wp2
  go_ret
  refine ⟨ret_int ?_, rfl⟩
  have e1 := joins 24 (a * 16777216) (b * 65536) (by omega) (by omega) (by omega) (by omega) (by omega)
  have e2 := joins 16 (a * 16777216 + b * 65536) (c * 256) (by omega) (by omega) (by omega) (by omega) (by omega)
  have e3 := joins 8 (a * 16777216 + b * 65536 + c * 256) d (by omega) (by omega) (by omega) (by omega) (by omega)
  rw [show ((a : Int) * 16777216) = ((a * 16777216 : Nat) : Int) by omega, show ((b : Int) * 65536) = ((b * 65536 : Nat) : Int) by omega, show ((c : Int) * 256) = ((c * 256 : Nat) : Int) by omega, e1, e2, e3]
  unfold wd
  omega
theorem rot32_core (x k s : Int) (w : World) (hb : bits .and .u64 (IntKind.u64.wrap k) 31 = s) (h0 : 0 ≤ s) (h1 : s ≤ 32) (hs : IntKind.u64.wrap (32 - s) = 32 - s) : Calls Tryd.prog 54 #[.int .u32 x, .int .i64 k] w fun e w' => e = .returned (.int .u32 (bits .or .u32 (x * 2 ^ s.toNat % 4294967296) (x / 2 ^ (32 - s).toNat))) ∧ w' = w := by
  have h2 : 0 ≤ 32 - s := by omega
  go_enter Tryd.func54, Tryd.ntmps54
  go_wp2
  go_ret
  exact ⟨rfl, rfl⟩
theorem rotr8 {a b c d : Nat} {w : World} (ha : a < 256) (hb : b < 256) (hc : c < 256) (hd : d < 256) : Calls Tryd.prog 54 #[.int .u32 (wd a b c d : Nat), .int .i64 (-8)] w fun e w' => e = .returned (.int .u32 (wd d a b c : Nat)) ∧ w' = w := by
  have h := rot32_core (wd a b c d : Nat) (-8) 24 w (by decide +kernel) (by decide) (by decide) (by decide +kernel)
  refine h.mono fun e w' ⟨h1, h2⟩ => ⟨h1.trans (ret_int ?_), h2⟩
  rw [show (24 : Int).toNat = 24 from rfl, show ((32 : Int) - 24).toNat = 8 from rfl]
  have := joins 24 (d * 16777216) (a * 65536 + b * 256 + c) (by omega) (by omega) (by omega) (by omega) (by omega)
  rw [show ((wd a b c d : Nat) : Int) * 2 ^ 24 % 4294967296 = ((d * 16777216 : Nat) : Int) by unfold wd; omega, show ((wd a b c d : Nat) : Int) / 2 ^ 8 = ((a * 65536 + b * 256 + c : Nat) : Int) by unfold wd; omega, this]
  unfold wd
  omega
theorem rotr16 {a b c d : Nat} {w : World} (ha : a < 256) (hb : b < 256) (hc : c < 256) (hd : d < 256) : Calls Tryd.prog 54 #[.int .u32 (wd a b c d : Nat), .int .i64 (-16)] w fun e w' => e = .returned (.int .u32 (wd c d a b : Nat)) ∧ w' = w := by
  have h := rot32_core (wd a b c d : Nat) (-16) 16 w (by decide +kernel) (by decide) (by decide) (by decide +kernel)
  refine h.mono fun e w' ⟨h1, h2⟩ => ⟨h1.trans (ret_int ?_), h2⟩
  rw [show (16 : Int).toNat = 16 from rfl, show ((32 : Int) - 16).toNat = 16 from rfl]
  have := joins 16 (c * 16777216 + d * 65536) (a * 256 + b) (by omega) (by omega) (by omega) (by omega) (by omega)
  rw [show ((wd a b c d : Nat) : Int) * 2 ^ 16 % 4294967296 = ((c * 16777216 + d * 65536 : Nat) : Int) by unfold wd; omega, show ((wd a b c d : Nat) : Int) / 2 ^ 16 = ((a * 256 + b : Nat) : Int) by unfold wd; omega, this]
  unfold wd
  omega
theorem rotr24 {a b c d : Nat} {w : World} (ha : a < 256) (hb : b < 256) (hc : c < 256) (hd : d < 256) : Calls Tryd.prog 54 #[.int .u32 (wd a b c d : Nat), .int .i64 (-24)] w fun e w' => e = .returned (.int .u32 (wd b c d a : Nat)) ∧ w' = w := by
  have h := rot32_core (wd a b c d : Nat) (-24) 8 w (by decide +kernel) (by decide) (by decide) (by decide +kernel)
  refine h.mono fun e w' ⟨h1, h2⟩ => ⟨h1.trans (ret_int ?_), h2⟩
  rw [show (8 : Int).toNat = 8 from rfl, show ((32 : Int) - 8).toNat = 24 from rfl]
  have := joins 8 (b * 16777216 + c * 65536 + d * 256) (a) (by omega) (by omega) (by omega) (by omega) (by omega)
  rw [show ((wd a b c d : Nat) : Int) * 2 ^ 8 % 4294967296 = ((b * 16777216 + c * 65536 + d * 256 : Nat) : Int) by unfold wd; omega, show ((wd a b c d : Nat) : Int) / 2 ^ 24 = ((a : Nat) : Int) by unfold wd; omega, this]
  unfold wd
  omega
theorem rotl8 {a b c d : Nat} {w : World} (ha : a < 256) (hb : b < 256) (hc : c < 256) (hd : d < 256) : Calls Tryd.prog 54 #[.int .u32 (wd a b c d : Nat), .int .i64 (8)] w fun e w' => e = .returned (.int .u32 (wd b c d a : Nat)) ∧ w' = w := by
  have h := rot32_core (wd a b c d : Nat) (8) 8 w (by decide +kernel) (by decide) (by decide) (by decide +kernel)
  refine h.mono fun e w' ⟨h1, h2⟩ => ⟨h1.trans (ret_int ?_), h2⟩
  rw [show (8 : Int).toNat = 8 from rfl, show ((32 : Int) - 8).toNat = 24 from rfl]
  have := joins 8 (b * 16777216 + c * 65536 + d * 256) (a) (by omega) (by omega) (by omega) (by omega) (by omega)
  rw [show ((wd a b c d : Nat) : Int) * 2 ^ 8 % 4294967296 = ((b * 16777216 + c * 65536 + d * 256 : Nat) : Int) by unfold wd; omega, show ((wd a b c d : Nat) : Int) / 2 ^ 24 = ((a : Nat) : Int) by unfold wd; omega, this]
  unfold wd
  omega
/-- S and its inverse, out of one number each. -/
def SB (b : Nat) : Nat := Nat.mod (Nat.shiftRight 2869618975290639062594974519597816386035077209210385677284518162336985023502962151465775969507961862820568736543004676439868535775640188584098917533413284844376797297285941524888791401501466624530423689326528054213168201056672989590893583853414110162539122864583953358348775951166211353578440977400428507475679327181038682772945817200201960445064847785221508011893952350688324234443749897213621340677040612747745615276448919507935121141307752692835344166708617454322778699219895865633266409040561742768581056182730443599545881830075941537620590442514083341749674612746994879540562701631131184186066652929592955206755 (Nat.mul 8 b)) 256
def UB (b : Nat) : Nat := Nat.mod (Nat.shiftRight 15785769749828884342349381641981096363179738000380205650940338083111619982568718420166261191398703005748170232611805704157196303061330872280026969925224128193193768962594508714770967646139604422718174787315048227180018877623049221087186576642191304514338137614235628241783007805847129270530950856841486400764657112140097236091222567730363620332611309375046737430203438830593833719428588466121688739068564421474273450162064709239629809347626728710072303178617319436726577534667237755444692000788692193415136619289353224918429728194544458916874716857284226411602766869706570927007876872095880586785662942963508062062930 (Nat.mul 8 b)) 256
theorem SB_lt (b : Nat) : SB b < 256 := Nat.mod_lt _ (by decide)
theorem UB_lt (b : Nat) : UB b < 256 := Nat.mod_lt _ (by decide)
theorem UB_SB : ∀ b : Fin 256, UB (SB b.1) = b.1 ∧ SB (UB b.1) = b.1 := by decide +kernel
/-- Products by 3, 9, 11, 13, 14. -/
def x2 (a : Nat) : Nat := dblN a
def x3 (a : Nat) : Nat := Nat.xor (dblN a) a
def x9 (a : Nat) : Nat := Nat.xor (dblN (dblN (dblN a))) a
def x11 (a : Nat) : Nat := Nat.xor (Nat.xor (dblN (dblN (dblN a))) (dblN a)) a
def x13 (a : Nat) : Nat := Nat.xor (Nat.xor (dblN (dblN (dblN a))) (dblN (dblN a))) a
def x14 (a : Nat) : Nat := Nat.xor (Nat.xor (dblN (dblN (dblN a))) (dblN (dblN a))) (dblN a)
theorem x_lt : ∀ a : Fin 256, x2 a.1 < 256 ∧ x3 a.1 < 256 ∧ x9 a.1 < 256 ∧ x11 a.1 < 256 ∧ x13 a.1 < 256 ∧ x14 a.1 < 256 := by decide +kernel
/-- The columns' tables. -/
def MX (b : Nat) : Nat := wd (x2 (SB b)) (SB b) (SB b) (x3 (SB b))
def UX (b : Nat) : Nat := wd (x14 b) (x9 b) (x13 b) (x11 b)
/-- A column through S and multiplied; one multiplied backwards. -/
def M8 (b : Nat) : Nat := wd (x3 (SB b)) (x2 (SB b)) (SB b) (SB b)
def M16 (b : Nat) : Nat := wd (SB b) (x3 (SB b)) (x2 (SB b)) (SB b)
def M24 (b : Nat) : Nat := wd (SB b) (SB b) (x3 (SB b)) (x2 (SB b))
def U8 (b : Nat) : Nat := wd (x11 b) (x14 b) (x9 b) (x13 b)
def U16 (b : Nat) : Nat := wd (x13 b) (x11 b) (x14 b) (x9 b)
def U24 (b : Nat) : Nat := wd (x9 b) (x13 b) (x11 b) (x14 b)
def mixc (a b c d : Nat) : Nat := Nat.xor (Nat.xor (Nat.xor (MX a) (M8 b)) (M16 c)) (M24 d)
def unmc (a b c d : Nat) : Nat := Nat.xor (Nat.xor (Nat.xor (UX a) (U8 b)) (U16 c)) (U24 d)
/-- The tables of a cipher at g, o. -/
structure Tab (w : World) (g o : Nat) : Prop where
  s : ∀ b, b < 256 → w.cell? ⟨g, o + 61 + b, none⟩ = some (.int .u8 (SB b : Nat))
  u : ∀ b, b < 256 → w.cell? ⟨g, o + 317 + b, none⟩ = some (.int .u8 (UB b : Nat))
  m : ∀ b, b < 256 → w.cell? ⟨g, o + 573 + b, none⟩ = some (.int .u32 (MX b : Nat))
  n : ∀ b, b < 256 → w.cell? ⟨g, o + 829 + b, none⟩ = some (.int .u32 (UX b : Nat))
end Go.Proofs.YtgmfiljjogdccaaDoor
namespace Go.Proofs.YtgmfiljjogdccaaDoor
open Go.RowKit
set_option linter.unusedVariables false
set_option maxHeartbeats 1600000 in
theorem last_ok (g o : Nat) (x0 x1 x2 x3 : Int) (a b c d : Nat) (w : World) (ha : a < 256) (hb : b < 256) (hc : c < 256) (hd : d < 256)
    (h0 : x0 / 16777216 % 256 = a) (h1 : x1 / 65536 % 256 = b) (h2 : x2 / 256 % 256 = c) (h3 : x3 % 256 = d) (hT : Tab w g o) :
    Calls Tryd.prog 67 #[.pointer (some ⟨g, o, none⟩), .int .u32 x0, .int .u32 x1, .int .u32 x2, .int .u32 x3] w fun e w' => e = .returned (.int .u32 (wd (SB a) (SB b) (SB c) (SB d) : Nat)) ∧ ∃ m, w' = w.drewN m := by
  have c0 := hT.s a ha
  have c1 := hT.s b hb
  have c2 := hT.s c hc
  have c3 := hT.s d hd
  clear hT
  obtain ⟨sa, Ha⟩ : ∃ s, Hid (s = SB a) := ⟨_, rfl⟩
  rw [← Ha.out] at c0
  rw [← Ha.out]
  have la : sa < 256 := by rw [Ha.out]; exact SB_lt a
  clear Ha
  obtain ⟨sb, Hb⟩ : ∃ s, Hid (s = SB b) := ⟨_, rfl⟩
  rw [← Hb.out] at c1
  rw [← Hb.out]
  have lb : sb < 256 := by rw [Hb.out]; exact SB_lt b
  clear Hb
  obtain ⟨sc, Hc⟩ : ∃ s, Hid (s = SB c) := ⟨_, rfl⟩
  rw [← Hc.out] at c2
  rw [← Hc.out]
  have lc : sc < 256 := by rw [Hc.out]; exact SB_lt c
  clear Hc
  obtain ⟨sd, Hd⟩ : ∃ s, Hid (s = SB d) := ⟨_, rfl⟩
  rw [← Hd.out] at c3
  rw [← Hd.out]
  have ld : sd < 256 := by rw [Hd.out]; exact SB_lt d
  clear Hd
  go_enter Tryd.func67, Tryd.ntmps67
  go_wp2
  go_quiet ((go_at_call 83; exact Calls.quiet_of_same (word_ok _ _ _ _ la lb lc ld _)))
  go_wp2
  go_ret
  exact ⟨rfl, _, rfl⟩
set_option maxHeartbeats 1600000 in
theorem undo_ok (g o : Nat) (x0 x1 x2 x3 : Int) (a b c d : Nat) (w : World) (ha : a < 256) (hb : b < 256) (hc : c < 256) (hd : d < 256)
    (h0 : x0 / 16777216 % 256 = a) (h1 : x1 / 65536 % 256 = b) (h2 : x2 / 256 % 256 = c) (h3 : x3 % 256 = d) (hT : Tab w g o) :
    Calls Tryd.prog 68 #[.pointer (some ⟨g, o, none⟩), .int .u32 x0, .int .u32 x1, .int .u32 x2, .int .u32 x3] w fun e w' => e = .returned (.int .u32 (wd (UB a) (UB b) (UB c) (UB d) : Nat)) ∧ ∃ m, w' = w.drewN m := by
  have c0 := hT.u a ha
  have c1 := hT.u b hb
  have c2 := hT.u c hc
  have c3 := hT.u d hd
  clear hT
  obtain ⟨sa, Ha⟩ : ∃ s, Hid (s = UB a) := ⟨_, rfl⟩
  rw [← Ha.out] at c0
  rw [← Ha.out]
  have la : sa < 256 := by rw [Ha.out]; exact UB_lt a
  clear Ha
  obtain ⟨sb, Hb⟩ : ∃ s, Hid (s = UB b) := ⟨_, rfl⟩
  rw [← Hb.out] at c1
  rw [← Hb.out]
  have lb : sb < 256 := by rw [Hb.out]; exact UB_lt b
  clear Hb
  obtain ⟨sc, Hc⟩ : ∃ s, Hid (s = UB c) := ⟨_, rfl⟩
  rw [← Hc.out] at c2
  rw [← Hc.out]
  have lc : sc < 256 := by rw [Hc.out]; exact UB_lt c
  clear Hc
  obtain ⟨sd, Hd⟩ : ∃ s, Hid (s = UB d) := ⟨_, rfl⟩
  rw [← Hd.out] at c3
  rw [← Hd.out]
  have ld : sd < 256 := by rw [Hd.out]; exact UB_lt d
  clear Hd
  go_enter Tryd.func68, Tryd.ntmps68
  go_wp2
  go_quiet ((go_at_call 83; exact Calls.quiet_of_same (word_ok _ _ _ _ la lb lc ld _)))
  go_wp2
  go_ret
  exact ⟨rfl, _, rfl⟩
theorem rotM8 {b m : Nat} {k : Int} {w : World} (hb : b < 256) (hm : Hid (m = MX b)) (hk : k = -8) : Calls Tryd.prog 54 #[.int .u32 m, .int .i64 k] w fun e w' => e = .returned (.int .u32 (M8 b : Nat)) ∧ w' = w := by
  rw [hm.out, hk]
  have hS := SB_lt b
  obtain ⟨l2, l3, _, _, _, _⟩ := x_lt ⟨SB b, hS⟩
  exact rotr8 l2 hS hS l3
theorem M8_lt {b : Nat} (hb : b < 256) : M8 b < 4294967296 := by
  have hS := SB_lt b
  obtain ⟨l2, l3, _, _, _, _⟩ := x_lt ⟨SB b, hS⟩
  exact wd_lt l3 l2 hS hS
theorem rotM16 {b m : Nat} {k : Int} {w : World} (hb : b < 256) (hm : Hid (m = MX b)) (hk : k = -16) : Calls Tryd.prog 54 #[.int .u32 m, .int .i64 k] w fun e w' => e = .returned (.int .u32 (M16 b : Nat)) ∧ w' = w := by
  rw [hm.out, hk]
  have hS := SB_lt b
  obtain ⟨l2, l3, _, _, _, _⟩ := x_lt ⟨SB b, hS⟩
  exact rotr16 l2 hS hS l3
theorem M16_lt {b : Nat} (hb : b < 256) : M16 b < 4294967296 := by
  have hS := SB_lt b
  obtain ⟨l2, l3, _, _, _, _⟩ := x_lt ⟨SB b, hS⟩
  exact wd_lt hS l3 l2 hS
theorem rotM24 {b m : Nat} {k : Int} {w : World} (hb : b < 256) (hm : Hid (m = MX b)) (hk : k = -24) : Calls Tryd.prog 54 #[.int .u32 m, .int .i64 k] w fun e w' => e = .returned (.int .u32 (M24 b : Nat)) ∧ w' = w := by
  rw [hm.out, hk]
  have hS := SB_lt b
  obtain ⟨l2, l3, _, _, _, _⟩ := x_lt ⟨SB b, hS⟩
  exact rotr24 l2 hS hS l3
theorem M24_lt {b : Nat} (hb : b < 256) : M24 b < 4294967296 := by
  have hS := SB_lt b
  obtain ⟨l2, l3, _, _, _, _⟩ := x_lt ⟨SB b, hS⟩
  exact wd_lt hS hS l3 l2
theorem MX_lt {b : Nat} (hb : b < 256) : MX b < 4294967296 := by
  have hS := SB_lt b
  obtain ⟨l2, l3, _, _, _, _⟩ := x_lt ⟨SB b, hS⟩
  exact wd_lt l2 hS hS l3
theorem rotU8 {b m : Nat} {k : Int} {w : World} (hb : b < 256) (hm : Hid (m = UX b)) (hk : k = -8) : Calls Tryd.prog 54 #[.int .u32 m, .int .i64 k] w fun e w' => e = .returned (.int .u32 (U8 b : Nat)) ∧ w' = w := by
  rw [hm.out, hk]
  obtain ⟨_, _, l9, l11, l13, l14⟩ := x_lt ⟨b, hb⟩
  exact rotr8 l14 l9 l13 l11
theorem U8_lt {b : Nat} (hb : b < 256) : U8 b < 4294967296 := by
  obtain ⟨_, _, l9, l11, l13, l14⟩ := x_lt ⟨b, hb⟩
  exact wd_lt l11 l14 l9 l13
theorem rotU16 {b m : Nat} {k : Int} {w : World} (hb : b < 256) (hm : Hid (m = UX b)) (hk : k = -16) : Calls Tryd.prog 54 #[.int .u32 m, .int .i64 k] w fun e w' => e = .returned (.int .u32 (U16 b : Nat)) ∧ w' = w := by
  rw [hm.out, hk]
  obtain ⟨_, _, l9, l11, l13, l14⟩ := x_lt ⟨b, hb⟩
  exact rotr16 l14 l9 l13 l11
theorem U16_lt {b : Nat} (hb : b < 256) : U16 b < 4294967296 := by
  obtain ⟨_, _, l9, l11, l13, l14⟩ := x_lt ⟨b, hb⟩
  exact wd_lt l13 l11 l14 l9
theorem rotU24 {b m : Nat} {k : Int} {w : World} (hb : b < 256) (hm : Hid (m = UX b)) (hk : k = -24) : Calls Tryd.prog 54 #[.int .u32 m, .int .i64 k] w fun e w' => e = .returned (.int .u32 (U24 b : Nat)) ∧ w' = w := by
  rw [hm.out, hk]
  obtain ⟨_, _, l9, l11, l13, l14⟩ := x_lt ⟨b, hb⟩
  exact rotr24 l14 l9 l13 l11
theorem U24_lt {b : Nat} (hb : b < 256) : U24 b < 4294967296 := by
  obtain ⟨_, _, l9, l11, l13, l14⟩ := x_lt ⟨b, hb⟩
  exact wd_lt l9 l13 l11 l14
theorem UX_lt {b : Nat} (hb : b < 256) : UX b < 4294967296 := by
  obtain ⟨_, _, l9, l11, l13, l14⟩ := x_lt ⟨b, hb⟩
  exact wd_lt l14 l9 l13 l11
theorem xor_lt32 {a b : Nat} (ha : a < 4294967296) (hb : b < 4294967296) : Nat.xor a b < 4294967296 := Nat.xor_lt_two_pow (n := 32) ha hb
theorem xor4 {a b c d : Nat} (ha : a < 4294967296) (hb : b < 4294967296) (hc : c < 4294967296) (hd : d < 4294967296) :
    bits .xor .u32 (bits .xor .u32 (bits .xor .u32 (a : Int) b) c) d = (Nat.xor (Nat.xor (Nat.xor a b) c) d : Nat) := by
  rw [xor32 _ _ ha hb, xor32 _ _ (xor_lt32 ha hb) hc, xor32 _ _ (xor_lt32 (xor_lt32 ha hb) hc) hd]
set_option maxHeartbeats 1600000 in
theorem mix_ok (g o : Nat) (x0 x1 x2 x3 : Int) (a b c d : Nat) (w : World) (ha : a < 256) (hb : b < 256) (hc : c < 256) (hd : d < 256)
    (h0 : x0 / 16777216 % 256 = a) (h1 : x1 / 65536 % 256 = b) (h2 : x2 / 256 % 256 = c) (h3 : x3 % 256 = d) (hT : Tab w g o) :
    Calls Tryd.prog 65 #[.pointer (some ⟨g, o, none⟩), .int .u32 x0, .int .u32 x1, .int .u32 x2, .int .u32 x3] w fun e w' => e = .returned (.int .u32 (mixc a b c d : Nat)) ∧ ∃ m, w' = w.drewN m := by
  have c0 := hT.m a ha
  have c1 := hT.m b hb
  have c2 := hT.m c hc
  have c3 := hT.m d hd
  clear hT
  obtain ⟨ma, Ha⟩ : ∃ s, Hid (s = MX a) := ⟨_, rfl⟩
  rw [← Ha.out] at c0
  obtain ⟨mb, Hb⟩ : ∃ s, Hid (s = MX b) := ⟨_, rfl⟩
  rw [← Hb.out] at c1
  obtain ⟨mc, Hc⟩ : ∃ s, Hid (s = MX c) := ⟨_, rfl⟩
  rw [← Hc.out] at c2
  obtain ⟨md, Hd⟩ : ∃ s, Hid (s = MX d) := ⟨_, rfl⟩
  rw [← Hd.out] at c3
  go_enter Tryd.func65, Tryd.ntmps65
  go_wp2
  go_quiet ((go_at_call 54; (first | exact Calls.quiet_of_same (rotM8 hb Hb (by decide)) | exact Calls.quiet_of_same (rotM16 hc Hc (by decide)) | exact Calls.quiet_of_same (rotM24 hd Hd (by decide)))))
  go_wp2
  go_ret
  refine ⟨ret_int ?_, _, rfl⟩
  rw [Ha.out]
  have h := xor4 (a := MX a) (b := M8 b) (c := M16 c) (d := M24 d) (MX_lt ha) (M8_lt hb) (M16_lt hc) (M24_lt hd)
  rw [h]
  unfold mixc
  exact Eq.refl _
set_option maxHeartbeats 1600000 in
theorem unmixed_ok (g o : Nat) (x : Int) (a b c d : Nat) (w : World) (ha : a < 256) (hb : b < 256) (hc : c < 256) (hd : d < 256)
    (h0 : x / 16777216 % 256 = a) (h1 : x / 65536 % 256 = b) (h2 : x / 256 % 256 = c) (h3 : x % 256 = d) (hT : Tab w g o) :
    Calls Tryd.prog 69 #[.pointer (some ⟨g, o, none⟩), .int .u32 x] w fun e w' => e = .returned (.int .u32 (unmc a b c d : Nat)) ∧ ∃ m, w' = w.drewN m := by
  have c0 := hT.n a ha
  have c1 := hT.n b hb
  have c2 := hT.n c hc
  have c3 := hT.n d hd
  clear hT
  obtain ⟨ma, Ha⟩ : ∃ s, Hid (s = UX a) := ⟨_, rfl⟩
  rw [← Ha.out] at c0
  obtain ⟨mb, Hb⟩ : ∃ s, Hid (s = UX b) := ⟨_, rfl⟩
  rw [← Hb.out] at c1
  obtain ⟨mc, Hc⟩ : ∃ s, Hid (s = UX c) := ⟨_, rfl⟩
  rw [← Hc.out] at c2
  obtain ⟨md, Hd⟩ : ∃ s, Hid (s = UX d) := ⟨_, rfl⟩
  rw [← Hd.out] at c3
  go_enter Tryd.func69, Tryd.ntmps69
  go_wp2
  go_quiet ((go_at_call 54; (first | exact Calls.quiet_of_same (rotU8 hb Hb (by decide)) | exact Calls.quiet_of_same (rotU16 hc Hc (by decide)) | exact Calls.quiet_of_same (rotU24 hd Hd (by decide)))))
  go_wp2
  go_ret
  refine ⟨ret_int ?_, _, rfl⟩
  rw [Ha.out]
  have h := xor4 (a := UX a) (b := U8 b) (c := U16 c) (d := U24 d) (UX_lt ha) (U8_lt hb) (U16_lt hc) (U24_lt hd)
  rw [h]
  unfold unmc
  exact Eq.refl _
end Go.Proofs.YtgmfiljjogdccaaDoor
namespace Go.Proofs.YtgmfiljjogdccaaDoor
open Go.RowKit
set_option linter.unusedVariables false
/-- Four words as an array. -/
def cols (a b c d : Nat) : Value := .agg #[.int .u32 (a : Nat), .int .u32 (b : Nat), .int .u32 (c : Nat), .int .u32 (d : Nat)]
theorem results_cell1 {fn : Func} {p : Tmp} {ty : TypeId} (h : fn.results = #[.cell p ty]) (tmps : Array Value) (P : Program) (w : World) :
    (results fn tmps).run P w = ((asAddr (tmps.getD p undef)).run P w).andThen fun a w₁ => (loadVar ty a).run P w₁ := by
  simp only [results, h]
  simp [Sem.run_bind, Result.andThen]
/-- A function that ends with an array, which lies in a cell of its own. -/
theorem ret_array {P : Program} {fn : Func} {p : Tmp} {ty : TypeId} {d : TypeDesc} {Q : Ending → World → Prop} {tmps : Array Value} {w : World} {b : Nat} (cs : List Value) (h : fn.results = #[.cell p ty])
    (hp : tmps.getD p undef = .pointer (some ⟨b, 0, none⟩)) (hr : w.rangeAt b 0 cs) (hu : P.underlying ty = some d) (hd : d.isRow = true) (hi : (P.info? ty).map (·.size) = some cs.length)
    (hq : Q (.returned (.agg cs.toArray)) w) : bodyPost P fn Q .ret ⟨tmps, []⟩ w := by
  refine bodyPost_ret (v := .agg cs.toArray) ?_ rfl hq
  rw [results_cell1 h]
  have hl := run_loadVar_mid (P := P) w b 0 ty cs d hr hu hd hi
  simp [hp, asAddr, hl]
theorem range_alloc (w : World) (C : Array Value) (t : TypeId) : ((w.alloc (.cells C t)).drew).rangeAt w.heap.size 0 C.toList := fun j v hv => by
  show (w.alloc (.cells C t)).cell? _ = _
  rw [World.cell?_alloc_at C t _ _ rfl]
  simpa using hv
theorem two_allocs (w : World) (A C : Array Value) (t t' : TypeId) : Below w.heap.size w ((w.alloc (.cells A t)).alloc (.cells C t')) ∧
    ∀ (i : Nat) (v : Value), A[i]? = some v → ((w.alloc (.cells A t)).alloc (.cells C t')).cell? ⟨w.heap.size, i, none⟩ = some v := by
  refine ⟨((Below.refl _ w).alloc (Nat.le_refl _) _).alloc (by simp) _, fun i v hv => ?_⟩
  have hb : Below (w.alloc (.cells A t)).heap.size (w.alloc (.cells A t)) ((w.alloc (.cells A t)).alloc (.cells C t')) := (Below.refl _ _).alloc (Nat.le_refl _) _
  rw [hb.cell (by simp)]
  rw [World.cell?_alloc_at A t _ _ rfl]
  simpa using hv
set_option maxHeartbeats 1600000 in
set_option maxRecDepth 100000 in
theorem add_ok (g o r : Nat) (a0 a1 a2 a3 k0 k1 k2 k3 : Nat) (w : World) (hr : r ≤ 14) (hg : g < w.heap.size)
    (l0 : a0 < 4294967296) (l1 : a1 < 4294967296) (l2 : a2 < 4294967296) (l3 : a3 < 4294967296)
    (m0 : k0 < 4294967296) (m1 : k1 < 4294967296) (m2 : k2 < 4294967296) (m3 : k3 < 4294967296)
    (c0 : w.cell? ⟨g, o + 1 + 4 * r, none⟩ = some (.int .u32 k0)) (c1 : w.cell? ⟨g, o + 1 + 4 * r + 1, none⟩ = some (.int .u32 k1))
    (c2 : w.cell? ⟨g, o + 1 + 4 * r + 2, none⟩ = some (.int .u32 k2)) (c3 : w.cell? ⟨g, o + 1 + 4 * r + 3, none⟩ = some (.int .u32 k3)) :
    Calls Tryd.prog 63 #[.pointer (some ⟨g, o, none⟩), cols a0 a1 a2 a3, .int .i64 r] w fun e w' => e = .returned (cols (Nat.xor a0 k0) (Nat.xor a1 k1) (Nat.xor a2 k2) (Nat.xor a3 k3)) ∧ Below w.heap.size w w' := by
  unfold cols
  have L : Hid (a0 < 4294967296 ∧ a1 < 4294967296 ∧ a2 < 4294967296 ∧ a3 < 4294967296 ∧ k0 < 4294967296 ∧ k1 < 4294967296 ∧ k2 < 4294967296 ∧ k3 < 4294967296) := ⟨l0, l1, l2, l3, m0, m1, m2, m3⟩
  clear l0 l1 l2 l3 m0 m1 m2 m3
  have hsl : ∀ w', Sem.run Tryd.prog (Instr.sliceAt 64 (.pointer (some ⟨g, o + 1, none⟩)) (some (.int .i64 (4 * (r : Int)))) (some (.int .i64 (4 * (r : Int) + 4))) none) w' = .ok (.slice (some ⟨g, o + 1 + 4 * r, none⟩) 4 (60 - 4 * r)) w' := by
    intro w'
    have h := run_sliceAt_array_lh (P := Tryd.prog) w' 64 ⟨g, o + 1, none⟩ (by kernel_rfl) .i64 .i64 (4 * (r : Int)) (4 * (r : Int) + 4) (by omega) (by omega) (by rw [show Tryd.prog.arrayLen 64 = 60 by kernel_rfl]; omega)
    rw [h, show Tryd.prog.arrayLen 64 = 60 by kernel_rfl, show Tryd.prog.elem 64 = 50 by kernel_rfl]
    have e1 : (4 * (r : Int)).toNat = 4 * r := by omega
    have e2 : (4 * (r : Int) + 4).toNat = 4 * r + 4 := by omega
    have e3 : (sizeOf 50).run Tryd.prog w' = .ok 1 w' := by kernel_rfl
    rw [e1, e2, e3]
    simp only [Result.andThen_ok, slicedAt]
    rw [if_neg (by omega), show 4 * r + 4 - 4 * r = 4 by omega, Nat.mul_one, Addr.add_mid]
  go_enter Tryd.func63, Tryd.ntmps63
  have H2 := two_allocs w #[.int .u32 (a0 : Nat), .int .u32 (a1 : Nat), .int .u32 (a2 : Nat), .int .u32 (a3 : Nat)] #[.int .u32 0, .int .u32 0, .int .u32 0, .int .u32 0] 115 115
  have HS : Hid ((fun u : World => u.cell? ⟨g, o + 1 + 4 * r, none⟩ = some (.int .u32 k0) ∧ u.cell? ⟨g, o + 1 + 4 * r + 1, none⟩ = some (.int .u32 k1) ∧ u.cell? ⟨g, o + 1 + 4 * r + 2, none⟩ = some (.int .u32 k2) ∧ u.cell? ⟨g, o + 1 + 4 * r + 3, none⟩ = some (.int .u32 k3) ∧
      u.cell? ⟨w.heap.size, 0, none⟩ = some (.int .u32 a0) ∧ u.cell? ⟨w.heap.size, 1, none⟩ = some (.int .u32 a1) ∧ u.cell? ⟨w.heap.size, 2, none⟩ = some (.int .u32 a2) ∧ u.cell? ⟨w.heap.size, 3, none⟩ = some (.int .u32 a3)) _) :=
    ⟨(H2.1.cell hg).trans c0, (H2.1.cell hg).trans c1, (H2.1.cell hg).trans c2, (H2.1.cell hg).trans c3, H2.2 0 _ rfl, H2.2 1 _ rfl, H2.2 2 _ rfl, H2.2 3 _ rfl⟩
  have HB : Hid (Below w.heap.size w _) := H2.1
  clear H2
  go_wp2
  go_region_held3 (fun u : World => u.cell? ⟨g, o + 1 + 4 * r, none⟩ = some (.int .u32 k0) ∧ u.cell? ⟨g, o + 1 + 4 * r + 1, none⟩ = some (.int .u32 k1) ∧ u.cell? ⟨g, o + 1 + 4 * r + 2, none⟩ = some (.int .u32 k2) ∧ u.cell? ⟨g, o + 1 + 4 * r + 3, none⟩ = some (.int .u32 k3) ∧
      u.cell? ⟨w.heap.size, 0, none⟩ = some (.int .u32 a0) ∧ u.cell? ⟨w.heap.size, 1, none⟩ = some (.int .u32 a1) ∧ u.cell? ⟨w.heap.size, 2, none⟩ = some (.int .u32 a2) ∧ u.cell? ⟨w.heap.size, 3, none⟩ = some (.int .u32 a3)) (first | exact HS.out | go_keep) (fail)
  go_wp2
  obtain ⟨l0, l1, l2, l3, m0, m1, m2, m3⟩ := L.out
  rw [xor32 _ _ l0 m0, xor32 _ _ l1 m1, xor32 _ _ l2 m2, xor32 _ _ l3 m3]
  refine ret_array [.int .u32 (Nat.xor a0 k0 : Nat), .int .u32 (Nat.xor a1 k1 : Nat), .int .u32 (Nat.xor a2 k2 : Nat), .int .u32 (Nat.xor a3 k3 : Nat)] Tryd.results63 rfl ?_ Tryd.underlying115 rfl (by kernel_rfl) ⟨rfl, ?_⟩
  · have h := range_alloc (w.alloc (.cells #[.int .u32 (a0 : Nat), .int .u32 (a1 : Nat), .int .u32 (a2 : Nat), .int .u32 (a3 : Nat)] 115)) #[.int .u32 (Nat.xor a0 k0 : Nat), .int .u32 (Nat.xor a1 k1 : Nat), .int .u32 (Nat.xor a2 k2 : Nat), .int .u32 (Nat.xor a3 k3 : Nat)] 115
    simpa using h
  · exact (((Below.refl _ w).alloc (Nat.le_refl _) _).alloc (by simp) _).drew
end Go.Proofs.YtgmfiljjogdccaaDoor
namespace Go.Proofs.YtgmfiljjogdccaaDoor
open Go.RowKit
set_option linter.unusedVariables false
/-- Sixteen bytes as an array. -/
def blk (b0 b1 b2 b3 b4 b5 b6 b7 b8 b9 b10 b11 b12 b13 b14 b15 : Nat) : Value := .agg #[.int .u8 (b0 : Nat), .int .u8 (b1 : Nat), .int .u8 (b2 : Nat), .int .u8 (b3 : Nat), .int .u8 (b4 : Nat), .int .u8 (b5 : Nat), .int .u8 (b6 : Nat), .int .u8 (b7 : Nat), .int .u8 (b8 : Nat), .int .u8 (b9 : Nat), .int .u8 (b10 : Nat), .int .u8 (b11 : Nat), .int .u8 (b12 : Nat), .int .u8 (b13 : Nat), .int .u8 (b14 : Nat), .int .u8 (b15 : Nat)]
theorem below_alloc2 {b : World} {n : Nat} {o1 o2 : Obj} (hn : b.heap.size = n) : Below n (b.alloc o1) ((b.alloc o2).drew) := by
  subst hn
  exact ⟨rfl, rfl, rfl, by simp [World.drew], fun k hk => by show (b.alloc o2).heap[k]? = _; rw [Below.heap_alloc _ _ _ hk, Below.heap_alloc _ _ _ hk]⟩
variable {P : Program} {ops : Array Oper} {md : Region.Mode} {S : World → Prop}
theorem takeH_at {Q : Exit → Act → World → Prop} (i d : Nat) (v : Value) {oi : Oper} {fuel : Nat} {listed : Array Bool} {tmps : Array Value} {ds : List Deferred} {w : World} (hi : ops[i]? = some oi) (hd : oi.dst = some d)
    (hs : Region.noSelect ops = true) (hf : Region.free md ops listed i = true) (hr : (Region.ready md ops listed).contains i = true)
    (hQ : ∀ c a w, Q (.panic c) (a.put oi.dst v) w → Q (.panic c) a w) (hS : S w) (hy : YieldsIf P ops S oi v ⟨tmps, ds⟩)
    (h : wpAnyH P md ops Q S fuel (listed.setIfInBounds i true) ⟨tmps.setIfInBounds d v, ds⟩ w) : wpAnyH P md ops Q S (fuel + 1) listed ⟨tmps, ds⟩ w := by
  refine wpAnyH_take hi hs hf hr hQ hy hS ?_
  rw [hd]
  exact h
theorem yieldsIf_build {op : Oper} {a : Act} (hw : Region.wanted op (yielded ops a.tmps) = true) (ty : TypeId) (parts : Array (Nat × Operand)) (ho : op.op = .build ty parts) (cells : Array Value) (hb : P.built ty (parts.map fun (i, x) => (i, a.eval x)).toList = some cells) : YieldsIf P ops S op (.agg cells) a :=
  .inl ⟨hw, fun w _ => by
    have hrun := run_build (P := P) w ty (parts.map fun (i, x) => (i, a.eval x)) cells hb
    unfold execOp
    simp only [ho, Sem.run_bind, hrun, Result.andThen_ok, Sem.run_pure]⟩
set_option maxHeartbeats 3200000 in
set_option maxRecDepth 100000 in
theorem fromBlock_ok (b0 b1 b2 b3 b4 b5 b6 b7 b8 b9 b10 b11 b12 b13 b14 b15 : Nat) (w : World) (l0 : b0 < 256) (l1 : b1 < 256) (l2 : b2 < 256) (l3 : b3 < 256) (l4 : b4 < 256) (l5 : b5 < 256) (l6 : b6 < 256) (l7 : b7 < 256) (l8 : b8 < 256) (l9 : b9 < 256) (l10 : b10 < 256) (l11 : b11 < 256) (l12 : b12 < 256) (l13 : b13 < 256) (l14 : b14 < 256) (l15 : b15 < 256) :
    Calls Tryd.prog 64 #[blk b0 b1 b2 b3 b4 b5 b6 b7 b8 b9 b10 b11 b12 b13 b14 b15] w fun e w' => e = .returned (cols (wd b0 b1 b2 b3) (wd b4 b5 b6 b7) (wd b8 b9 b10 b11) (wd b12 b13 b14 b15)) ∧ Below w.heap.size w w' := by
  unfold blk cols
  have H2 := two_allocs w #[.int .u8 (b0 : Nat), .int .u8 (b1 : Nat), .int .u8 (b2 : Nat), .int .u8 (b3 : Nat), .int .u8 (b4 : Nat), .int .u8 (b5 : Nat), .int .u8 (b6 : Nat), .int .u8 (b7 : Nat), .int .u8 (b8 : Nat), .int .u8 (b9 : Nat), .int .u8 (b10 : Nat), .int .u8 (b11 : Nat), .int .u8 (b12 : Nat), .int .u8 (b13 : Nat), .int .u8 (b14 : Nat), .int .u8 (b15 : Nat)] #[.int .u32 0, .int .u32 0, .int .u32 0, .int .u32 0] 42 115
  have HS2 := H2.2
  clear H2
  obtain ⟨v0, HV0⟩ : ∃ v : Nat, Hid (v = wd b0 b1 b2 b3) := ⟨_, rfl⟩
  have hc0 : Hid (∀ w', Calls Tryd.prog 83 #[.int .u8 (b0 : Nat), .int .u8 (b1 : Nat), .int .u8 (b2 : Nat), .int .u8 (b3 : Nat)] w' fun e w'' => e = .returned (.int .u32 (v0 : Nat)) ∧ w'' = w') := fun w' => by rw [HV0.out]; exact word_ok b0 b1 b2 b3 l0 l1 l2 l3 w'
  rw [← HV0.out]
  obtain ⟨v1, HV1⟩ : ∃ v : Nat, Hid (v = wd b4 b5 b6 b7) := ⟨_, rfl⟩
  have hc1 : Hid (∀ w', Calls Tryd.prog 83 #[.int .u8 (b4 : Nat), .int .u8 (b5 : Nat), .int .u8 (b6 : Nat), .int .u8 (b7 : Nat)] w' fun e w'' => e = .returned (.int .u32 (v1 : Nat)) ∧ w'' = w') := fun w' => by rw [HV1.out]; exact word_ok b4 b5 b6 b7 l4 l5 l6 l7 w'
  rw [← HV1.out]
  obtain ⟨v2, HV2⟩ : ∃ v : Nat, Hid (v = wd b8 b9 b10 b11) := ⟨_, rfl⟩
  have hc2 : Hid (∀ w', Calls Tryd.prog 83 #[.int .u8 (b8 : Nat), .int .u8 (b9 : Nat), .int .u8 (b10 : Nat), .int .u8 (b11 : Nat)] w' fun e w'' => e = .returned (.int .u32 (v2 : Nat)) ∧ w'' = w') := fun w' => by rw [HV2.out]; exact word_ok b8 b9 b10 b11 l8 l9 l10 l11 w'
  rw [← HV2.out]
  obtain ⟨v3, HV3⟩ : ∃ v : Nat, Hid (v = wd b12 b13 b14 b15) := ⟨_, rfl⟩
  have hc3 : Hid (∀ w', Calls Tryd.prog 83 #[.int .u8 (b12 : Nat), .int .u8 (b13 : Nat), .int .u8 (b14 : Nat), .int .u8 (b15 : Nat)] w' fun e w'' => e = .returned (.int .u32 (v3 : Nat)) ∧ w'' = w') := fun w' => by rw [HV3.out]; exact word_ok b12 b13 b14 b15 l12 l13 l14 l15 w'
  rw [← HV3.out]
  clear l0 l1 l2 l3 l4 l5 l6 l7 l8 l9 l10 l11 l12 l13 l14 l15
  have HF : Hid (∀ i v, #[.int .u8 (b0 : Nat), .int .u8 (b1 : Nat), .int .u8 (b2 : Nat), .int .u8 (b3 : Nat), .int .u8 (b4 : Nat), .int .u8 (b5 : Nat), .int .u8 (b6 : Nat), .int .u8 (b7 : Nat), .int .u8 (b8 : Nat), .int .u8 (b9 : Nat), .int .u8 (b10 : Nat), .int .u8 (b11 : Nat), .int .u8 (b12 : Nat), .int .u8 (b13 : Nat), .int .u8 (b14 : Nat), .int .u8 (b15 : Nat)][i]? = some v → ∀ u, Below (w.heap.size + 1) ((w.alloc (.cells #[.int .u8 (b0 : Nat), .int .u8 (b1 : Nat), .int .u8 (b2 : Nat), .int .u8 (b3 : Nat), .int .u8 (b4 : Nat), .int .u8 (b5 : Nat), .int .u8 (b6 : Nat), .int .u8 (b7 : Nat), .int .u8 (b8 : Nat), .int .u8 (b9 : Nat), .int .u8 (b10 : Nat), .int .u8 (b11 : Nat), .int .u8 (b12 : Nat), .int .u8 (b13 : Nat), .int .u8 (b14 : Nat), .int .u8 (b15 : Nat)] 42)).alloc (.cells #[.int .u32 0, .int .u32 0, .int .u32 0, .int .u32 0] 115)) u → u.cell? ⟨w.heap.size, i, none⟩ = some v) := fun i v hv u hu => (hu.cell (by simp)).trans (HS2 i v hv)
  have g0 : Hid (∀ u, Below (w.heap.size + 1) ((w.alloc (.cells #[.int .u8 (b0 : Nat), .int .u8 (b1 : Nat), .int .u8 (b2 : Nat), .int .u8 (b3 : Nat), .int .u8 (b4 : Nat), .int .u8 (b5 : Nat), .int .u8 (b6 : Nat), .int .u8 (b7 : Nat), .int .u8 (b8 : Nat), .int .u8 (b9 : Nat), .int .u8 (b10 : Nat), .int .u8 (b11 : Nat), .int .u8 (b12 : Nat), .int .u8 (b13 : Nat), .int .u8 (b14 : Nat), .int .u8 (b15 : Nat)] 42)).alloc (.cells #[.int .u32 0, .int .u32 0, .int .u32 0, .int .u32 0] 115)) u → u.cell? ⟨w.heap.size, 0, none⟩ = some (.int .u8 (b0 : Nat))) := HF.out 0 _ rfl
  have g1 : Hid (∀ u, Below (w.heap.size + 1) ((w.alloc (.cells #[.int .u8 (b0 : Nat), .int .u8 (b1 : Nat), .int .u8 (b2 : Nat), .int .u8 (b3 : Nat), .int .u8 (b4 : Nat), .int .u8 (b5 : Nat), .int .u8 (b6 : Nat), .int .u8 (b7 : Nat), .int .u8 (b8 : Nat), .int .u8 (b9 : Nat), .int .u8 (b10 : Nat), .int .u8 (b11 : Nat), .int .u8 (b12 : Nat), .int .u8 (b13 : Nat), .int .u8 (b14 : Nat), .int .u8 (b15 : Nat)] 42)).alloc (.cells #[.int .u32 0, .int .u32 0, .int .u32 0, .int .u32 0] 115)) u → u.cell? ⟨w.heap.size, 1, none⟩ = some (.int .u8 (b1 : Nat))) := HF.out 1 _ rfl
  have g2 : Hid (∀ u, Below (w.heap.size + 1) ((w.alloc (.cells #[.int .u8 (b0 : Nat), .int .u8 (b1 : Nat), .int .u8 (b2 : Nat), .int .u8 (b3 : Nat), .int .u8 (b4 : Nat), .int .u8 (b5 : Nat), .int .u8 (b6 : Nat), .int .u8 (b7 : Nat), .int .u8 (b8 : Nat), .int .u8 (b9 : Nat), .int .u8 (b10 : Nat), .int .u8 (b11 : Nat), .int .u8 (b12 : Nat), .int .u8 (b13 : Nat), .int .u8 (b14 : Nat), .int .u8 (b15 : Nat)] 42)).alloc (.cells #[.int .u32 0, .int .u32 0, .int .u32 0, .int .u32 0] 115)) u → u.cell? ⟨w.heap.size, 2, none⟩ = some (.int .u8 (b2 : Nat))) := HF.out 2 _ rfl
  have g3 : Hid (∀ u, Below (w.heap.size + 1) ((w.alloc (.cells #[.int .u8 (b0 : Nat), .int .u8 (b1 : Nat), .int .u8 (b2 : Nat), .int .u8 (b3 : Nat), .int .u8 (b4 : Nat), .int .u8 (b5 : Nat), .int .u8 (b6 : Nat), .int .u8 (b7 : Nat), .int .u8 (b8 : Nat), .int .u8 (b9 : Nat), .int .u8 (b10 : Nat), .int .u8 (b11 : Nat), .int .u8 (b12 : Nat), .int .u8 (b13 : Nat), .int .u8 (b14 : Nat), .int .u8 (b15 : Nat)] 42)).alloc (.cells #[.int .u32 0, .int .u32 0, .int .u32 0, .int .u32 0] 115)) u → u.cell? ⟨w.heap.size, 3, none⟩ = some (.int .u8 (b3 : Nat))) := HF.out 3 _ rfl
  have g4 : Hid (∀ u, Below (w.heap.size + 1) ((w.alloc (.cells #[.int .u8 (b0 : Nat), .int .u8 (b1 : Nat), .int .u8 (b2 : Nat), .int .u8 (b3 : Nat), .int .u8 (b4 : Nat), .int .u8 (b5 : Nat), .int .u8 (b6 : Nat), .int .u8 (b7 : Nat), .int .u8 (b8 : Nat), .int .u8 (b9 : Nat), .int .u8 (b10 : Nat), .int .u8 (b11 : Nat), .int .u8 (b12 : Nat), .int .u8 (b13 : Nat), .int .u8 (b14 : Nat), .int .u8 (b15 : Nat)] 42)).alloc (.cells #[.int .u32 0, .int .u32 0, .int .u32 0, .int .u32 0] 115)) u → u.cell? ⟨w.heap.size, 4, none⟩ = some (.int .u8 (b4 : Nat))) := HF.out 4 _ rfl
  have g5 : Hid (∀ u, Below (w.heap.size + 1) ((w.alloc (.cells #[.int .u8 (b0 : Nat), .int .u8 (b1 : Nat), .int .u8 (b2 : Nat), .int .u8 (b3 : Nat), .int .u8 (b4 : Nat), .int .u8 (b5 : Nat), .int .u8 (b6 : Nat), .int .u8 (b7 : Nat), .int .u8 (b8 : Nat), .int .u8 (b9 : Nat), .int .u8 (b10 : Nat), .int .u8 (b11 : Nat), .int .u8 (b12 : Nat), .int .u8 (b13 : Nat), .int .u8 (b14 : Nat), .int .u8 (b15 : Nat)] 42)).alloc (.cells #[.int .u32 0, .int .u32 0, .int .u32 0, .int .u32 0] 115)) u → u.cell? ⟨w.heap.size, 5, none⟩ = some (.int .u8 (b5 : Nat))) := HF.out 5 _ rfl
  have g6 : Hid (∀ u, Below (w.heap.size + 1) ((w.alloc (.cells #[.int .u8 (b0 : Nat), .int .u8 (b1 : Nat), .int .u8 (b2 : Nat), .int .u8 (b3 : Nat), .int .u8 (b4 : Nat), .int .u8 (b5 : Nat), .int .u8 (b6 : Nat), .int .u8 (b7 : Nat), .int .u8 (b8 : Nat), .int .u8 (b9 : Nat), .int .u8 (b10 : Nat), .int .u8 (b11 : Nat), .int .u8 (b12 : Nat), .int .u8 (b13 : Nat), .int .u8 (b14 : Nat), .int .u8 (b15 : Nat)] 42)).alloc (.cells #[.int .u32 0, .int .u32 0, .int .u32 0, .int .u32 0] 115)) u → u.cell? ⟨w.heap.size, 6, none⟩ = some (.int .u8 (b6 : Nat))) := HF.out 6 _ rfl
  have g7 : Hid (∀ u, Below (w.heap.size + 1) ((w.alloc (.cells #[.int .u8 (b0 : Nat), .int .u8 (b1 : Nat), .int .u8 (b2 : Nat), .int .u8 (b3 : Nat), .int .u8 (b4 : Nat), .int .u8 (b5 : Nat), .int .u8 (b6 : Nat), .int .u8 (b7 : Nat), .int .u8 (b8 : Nat), .int .u8 (b9 : Nat), .int .u8 (b10 : Nat), .int .u8 (b11 : Nat), .int .u8 (b12 : Nat), .int .u8 (b13 : Nat), .int .u8 (b14 : Nat), .int .u8 (b15 : Nat)] 42)).alloc (.cells #[.int .u32 0, .int .u32 0, .int .u32 0, .int .u32 0] 115)) u → u.cell? ⟨w.heap.size, 7, none⟩ = some (.int .u8 (b7 : Nat))) := HF.out 7 _ rfl
  have g8 : Hid (∀ u, Below (w.heap.size + 1) ((w.alloc (.cells #[.int .u8 (b0 : Nat), .int .u8 (b1 : Nat), .int .u8 (b2 : Nat), .int .u8 (b3 : Nat), .int .u8 (b4 : Nat), .int .u8 (b5 : Nat), .int .u8 (b6 : Nat), .int .u8 (b7 : Nat), .int .u8 (b8 : Nat), .int .u8 (b9 : Nat), .int .u8 (b10 : Nat), .int .u8 (b11 : Nat), .int .u8 (b12 : Nat), .int .u8 (b13 : Nat), .int .u8 (b14 : Nat), .int .u8 (b15 : Nat)] 42)).alloc (.cells #[.int .u32 0, .int .u32 0, .int .u32 0, .int .u32 0] 115)) u → u.cell? ⟨w.heap.size, 8, none⟩ = some (.int .u8 (b8 : Nat))) := HF.out 8 _ rfl
  have g9 : Hid (∀ u, Below (w.heap.size + 1) ((w.alloc (.cells #[.int .u8 (b0 : Nat), .int .u8 (b1 : Nat), .int .u8 (b2 : Nat), .int .u8 (b3 : Nat), .int .u8 (b4 : Nat), .int .u8 (b5 : Nat), .int .u8 (b6 : Nat), .int .u8 (b7 : Nat), .int .u8 (b8 : Nat), .int .u8 (b9 : Nat), .int .u8 (b10 : Nat), .int .u8 (b11 : Nat), .int .u8 (b12 : Nat), .int .u8 (b13 : Nat), .int .u8 (b14 : Nat), .int .u8 (b15 : Nat)] 42)).alloc (.cells #[.int .u32 0, .int .u32 0, .int .u32 0, .int .u32 0] 115)) u → u.cell? ⟨w.heap.size, 9, none⟩ = some (.int .u8 (b9 : Nat))) := HF.out 9 _ rfl
  have g10 : Hid (∀ u, Below (w.heap.size + 1) ((w.alloc (.cells #[.int .u8 (b0 : Nat), .int .u8 (b1 : Nat), .int .u8 (b2 : Nat), .int .u8 (b3 : Nat), .int .u8 (b4 : Nat), .int .u8 (b5 : Nat), .int .u8 (b6 : Nat), .int .u8 (b7 : Nat), .int .u8 (b8 : Nat), .int .u8 (b9 : Nat), .int .u8 (b10 : Nat), .int .u8 (b11 : Nat), .int .u8 (b12 : Nat), .int .u8 (b13 : Nat), .int .u8 (b14 : Nat), .int .u8 (b15 : Nat)] 42)).alloc (.cells #[.int .u32 0, .int .u32 0, .int .u32 0, .int .u32 0] 115)) u → u.cell? ⟨w.heap.size, 10, none⟩ = some (.int .u8 (b10 : Nat))) := HF.out 10 _ rfl
  have g11 : Hid (∀ u, Below (w.heap.size + 1) ((w.alloc (.cells #[.int .u8 (b0 : Nat), .int .u8 (b1 : Nat), .int .u8 (b2 : Nat), .int .u8 (b3 : Nat), .int .u8 (b4 : Nat), .int .u8 (b5 : Nat), .int .u8 (b6 : Nat), .int .u8 (b7 : Nat), .int .u8 (b8 : Nat), .int .u8 (b9 : Nat), .int .u8 (b10 : Nat), .int .u8 (b11 : Nat), .int .u8 (b12 : Nat), .int .u8 (b13 : Nat), .int .u8 (b14 : Nat), .int .u8 (b15 : Nat)] 42)).alloc (.cells #[.int .u32 0, .int .u32 0, .int .u32 0, .int .u32 0] 115)) u → u.cell? ⟨w.heap.size, 11, none⟩ = some (.int .u8 (b11 : Nat))) := HF.out 11 _ rfl
  have g12 : Hid (∀ u, Below (w.heap.size + 1) ((w.alloc (.cells #[.int .u8 (b0 : Nat), .int .u8 (b1 : Nat), .int .u8 (b2 : Nat), .int .u8 (b3 : Nat), .int .u8 (b4 : Nat), .int .u8 (b5 : Nat), .int .u8 (b6 : Nat), .int .u8 (b7 : Nat), .int .u8 (b8 : Nat), .int .u8 (b9 : Nat), .int .u8 (b10 : Nat), .int .u8 (b11 : Nat), .int .u8 (b12 : Nat), .int .u8 (b13 : Nat), .int .u8 (b14 : Nat), .int .u8 (b15 : Nat)] 42)).alloc (.cells #[.int .u32 0, .int .u32 0, .int .u32 0, .int .u32 0] 115)) u → u.cell? ⟨w.heap.size, 12, none⟩ = some (.int .u8 (b12 : Nat))) := HF.out 12 _ rfl
  have g13 : Hid (∀ u, Below (w.heap.size + 1) ((w.alloc (.cells #[.int .u8 (b0 : Nat), .int .u8 (b1 : Nat), .int .u8 (b2 : Nat), .int .u8 (b3 : Nat), .int .u8 (b4 : Nat), .int .u8 (b5 : Nat), .int .u8 (b6 : Nat), .int .u8 (b7 : Nat), .int .u8 (b8 : Nat), .int .u8 (b9 : Nat), .int .u8 (b10 : Nat), .int .u8 (b11 : Nat), .int .u8 (b12 : Nat), .int .u8 (b13 : Nat), .int .u8 (b14 : Nat), .int .u8 (b15 : Nat)] 42)).alloc (.cells #[.int .u32 0, .int .u32 0, .int .u32 0, .int .u32 0] 115)) u → u.cell? ⟨w.heap.size, 13, none⟩ = some (.int .u8 (b13 : Nat))) := HF.out 13 _ rfl
  have g14 : Hid (∀ u, Below (w.heap.size + 1) ((w.alloc (.cells #[.int .u8 (b0 : Nat), .int .u8 (b1 : Nat), .int .u8 (b2 : Nat), .int .u8 (b3 : Nat), .int .u8 (b4 : Nat), .int .u8 (b5 : Nat), .int .u8 (b6 : Nat), .int .u8 (b7 : Nat), .int .u8 (b8 : Nat), .int .u8 (b9 : Nat), .int .u8 (b10 : Nat), .int .u8 (b11 : Nat), .int .u8 (b12 : Nat), .int .u8 (b13 : Nat), .int .u8 (b14 : Nat), .int .u8 (b15 : Nat)] 42)).alloc (.cells #[.int .u32 0, .int .u32 0, .int .u32 0, .int .u32 0] 115)) u → u.cell? ⟨w.heap.size, 14, none⟩ = some (.int .u8 (b14 : Nat))) := HF.out 14 _ rfl
  have g15 : Hid (∀ u, Below (w.heap.size + 1) ((w.alloc (.cells #[.int .u8 (b0 : Nat), .int .u8 (b1 : Nat), .int .u8 (b2 : Nat), .int .u8 (b3 : Nat), .int .u8 (b4 : Nat), .int .u8 (b5 : Nat), .int .u8 (b6 : Nat), .int .u8 (b7 : Nat), .int .u8 (b8 : Nat), .int .u8 (b9 : Nat), .int .u8 (b10 : Nat), .int .u8 (b11 : Nat), .int .u8 (b12 : Nat), .int .u8 (b13 : Nat), .int .u8 (b14 : Nat), .int .u8 (b15 : Nat)] 42)).alloc (.cells #[.int .u32 0, .int .u32 0, .int .u32 0, .int .u32 0] 115)) u → u.cell? ⟨w.heap.size, 15, none⟩ = some (.int .u8 (b15 : Nat))) := HF.out 15 _ rfl
  clear HF HS2
  go_enter Tryd.func64, Tryd.ntmps64
  go_wp2
  refine wp_region_noPanic ?_
  refine wp_region_held_drew (S := fun u => Below (w.heap.size + 1) ((w.alloc (.cells #[.int .u8 (b0 : Nat), .int .u8 (b1 : Nat), .int .u8 (b2 : Nat), .int .u8 (b3 : Nat), .int .u8 (b4 : Nat), .int .u8 (b5 : Nat), .int .u8 (b6 : Nat), .int .u8 (b7 : Nat), .int .u8 (b8 : Nat), .int .u8 (b9 : Nat), .int .u8 (b10 : Nat), .int .u8 (b11 : Nat), .int .u8 (b12 : Nat), .int .u8 (b13 : Nat), .int .u8 (b14 : Nat), .int .u8 (b15 : Nat)] 42)).alloc (.cells #[.int .u32 0, .int .u32 0, .int .u32 0, .int .u32 0] 115)) u) (by kernel_rfl) ((Below.refl _ _).drew) (fun _ => ?_)
  refine takeH_at 0 3 (.pointer (some ⟨w.heap.size, 0, none⟩)) rfl rfl (by kernel_rfl) (by kernel_rfl) (by kernel_rfl) (fun _ _ _ h => h) ((Below.refl _ _).drew) (Or.inl ⟨by rfl, fun w' hS' => by go_simp⟩) ?_
  simp only [List.setIfInBounds_toArray, List.set_cons_zero, List.set_cons_succ]
  refine takeH_at 1 4 (.int .u8 (b0 : Nat)) rfl rfl (by kernel_rfl) (by kernel_rfl) (by kernel_rfl) (fun _ _ _ h => h) ((Below.refl _ _).drew) (Or.inl ⟨by rfl, fun w' hS' => by have q := g0.out w' hS'; go_simp⟩) ?_
  simp only [List.setIfInBounds_toArray, List.set_cons_zero, List.set_cons_succ]
  refine takeH_at 2 5 (.pointer (some ⟨w.heap.size, 1, none⟩)) rfl rfl (by kernel_rfl) (by kernel_rfl) (by kernel_rfl) (fun _ _ _ h => h) ((Below.refl _ _).drew) (Or.inl ⟨by rfl, fun w' hS' => by go_simp⟩) ?_
  simp only [List.setIfInBounds_toArray, List.set_cons_zero, List.set_cons_succ]
  refine takeH_at 3 6 (.int .u8 (b1 : Nat)) rfl rfl (by kernel_rfl) (by kernel_rfl) (by kernel_rfl) (fun _ _ _ h => h) ((Below.refl _ _).drew) (Or.inl ⟨by rfl, fun w' hS' => by have q := g1.out w' hS'; go_simp⟩) ?_
  simp only [List.setIfInBounds_toArray, List.set_cons_zero, List.set_cons_succ]
  refine takeH_at 4 7 (.pointer (some ⟨w.heap.size, 2, none⟩)) rfl rfl (by kernel_rfl) (by kernel_rfl) (by kernel_rfl) (fun _ _ _ h => h) ((Below.refl _ _).drew) (Or.inl ⟨by rfl, fun w' hS' => by go_simp⟩) ?_
  simp only [List.setIfInBounds_toArray, List.set_cons_zero, List.set_cons_succ]
  refine takeH_at 5 8 (.int .u8 (b2 : Nat)) rfl rfl (by kernel_rfl) (by kernel_rfl) (by kernel_rfl) (fun _ _ _ h => h) ((Below.refl _ _).drew) (Or.inl ⟨by rfl, fun w' hS' => by have q := g2.out w' hS'; go_simp⟩) ?_
  simp only [List.setIfInBounds_toArray, List.set_cons_zero, List.set_cons_succ]
  refine takeH_at 6 9 (.pointer (some ⟨w.heap.size, 3, none⟩)) rfl rfl (by kernel_rfl) (by kernel_rfl) (by kernel_rfl) (fun _ _ _ h => h) ((Below.refl _ _).drew) (Or.inl ⟨by rfl, fun w' hS' => by go_simp⟩) ?_
  simp only [List.setIfInBounds_toArray, List.set_cons_zero, List.set_cons_succ]
  refine takeH_at 7 10 (.int .u8 (b3 : Nat)) rfl rfl (by kernel_rfl) (by kernel_rfl) (by kernel_rfl) (fun _ _ _ h => h) ((Below.refl _ _).drew) (Or.inl ⟨by rfl, fun w' hS' => by have q := g3.out w' hS'; go_simp⟩) ?_
  simp only [List.setIfInBounds_toArray, List.set_cons_zero, List.set_cons_succ]
  refine takeH_at 9 12 (.pointer (some ⟨w.heap.size, 4, none⟩)) rfl rfl (by kernel_rfl) (by kernel_rfl) (by kernel_rfl) (fun _ _ _ h => h) ((Below.refl _ _).drew) (Or.inl ⟨by rfl, fun w' hS' => by go_simp⟩) ?_
  simp only [List.setIfInBounds_toArray, List.set_cons_zero, List.set_cons_succ]
  refine takeH_at 10 13 (.int .u8 (b4 : Nat)) rfl rfl (by kernel_rfl) (by kernel_rfl) (by kernel_rfl) (fun _ _ _ h => h) ((Below.refl _ _).drew) (Or.inl ⟨by rfl, fun w' hS' => by have q := g4.out w' hS'; go_simp⟩) ?_
  simp only [List.setIfInBounds_toArray, List.set_cons_zero, List.set_cons_succ]
  refine takeH_at 11 14 (.pointer (some ⟨w.heap.size, 5, none⟩)) rfl rfl (by kernel_rfl) (by kernel_rfl) (by kernel_rfl) (fun _ _ _ h => h) ((Below.refl _ _).drew) (Or.inl ⟨by rfl, fun w' hS' => by go_simp⟩) ?_
  simp only [List.setIfInBounds_toArray, List.set_cons_zero, List.set_cons_succ]
  refine takeH_at 12 15 (.int .u8 (b5 : Nat)) rfl rfl (by kernel_rfl) (by kernel_rfl) (by kernel_rfl) (fun _ _ _ h => h) ((Below.refl _ _).drew) (Or.inl ⟨by rfl, fun w' hS' => by have q := g5.out w' hS'; go_simp⟩) ?_
  simp only [List.setIfInBounds_toArray, List.set_cons_zero, List.set_cons_succ]
  refine takeH_at 13 16 (.pointer (some ⟨w.heap.size, 6, none⟩)) rfl rfl (by kernel_rfl) (by kernel_rfl) (by kernel_rfl) (fun _ _ _ h => h) ((Below.refl _ _).drew) (Or.inl ⟨by rfl, fun w' hS' => by go_simp⟩) ?_
  simp only [List.setIfInBounds_toArray, List.set_cons_zero, List.set_cons_succ]
  refine takeH_at 14 17 (.int .u8 (b6 : Nat)) rfl rfl (by kernel_rfl) (by kernel_rfl) (by kernel_rfl) (fun _ _ _ h => h) ((Below.refl _ _).drew) (Or.inl ⟨by rfl, fun w' hS' => by have q := g6.out w' hS'; go_simp⟩) ?_
  simp only [List.setIfInBounds_toArray, List.set_cons_zero, List.set_cons_succ]
  refine takeH_at 15 18 (.pointer (some ⟨w.heap.size, 7, none⟩)) rfl rfl (by kernel_rfl) (by kernel_rfl) (by kernel_rfl) (fun _ _ _ h => h) ((Below.refl _ _).drew) (Or.inl ⟨by rfl, fun w' hS' => by go_simp⟩) ?_
  simp only [List.setIfInBounds_toArray, List.set_cons_zero, List.set_cons_succ]
  refine takeH_at 16 19 (.int .u8 (b7 : Nat)) rfl rfl (by kernel_rfl) (by kernel_rfl) (by kernel_rfl) (fun _ _ _ h => h) ((Below.refl _ _).drew) (Or.inl ⟨by rfl, fun w' hS' => by have q := g7.out w' hS'; go_simp⟩) ?_
  simp only [List.setIfInBounds_toArray, List.set_cons_zero, List.set_cons_succ]
  refine takeH_at 18 21 (.pointer (some ⟨w.heap.size, 8, none⟩)) rfl rfl (by kernel_rfl) (by kernel_rfl) (by kernel_rfl) (fun _ _ _ h => h) ((Below.refl _ _).drew) (Or.inl ⟨by rfl, fun w' hS' => by go_simp⟩) ?_
  simp only [List.setIfInBounds_toArray, List.set_cons_zero, List.set_cons_succ]
  refine takeH_at 19 22 (.int .u8 (b8 : Nat)) rfl rfl (by kernel_rfl) (by kernel_rfl) (by kernel_rfl) (fun _ _ _ h => h) ((Below.refl _ _).drew) (Or.inl ⟨by rfl, fun w' hS' => by have q := g8.out w' hS'; go_simp⟩) ?_
  simp only [List.setIfInBounds_toArray, List.set_cons_zero, List.set_cons_succ]
  refine takeH_at 20 23 (.pointer (some ⟨w.heap.size, 9, none⟩)) rfl rfl (by kernel_rfl) (by kernel_rfl) (by kernel_rfl) (fun _ _ _ h => h) ((Below.refl _ _).drew) (Or.inl ⟨by rfl, fun w' hS' => by go_simp⟩) ?_
  simp only [List.setIfInBounds_toArray, List.set_cons_zero, List.set_cons_succ]
  refine takeH_at 21 24 (.int .u8 (b9 : Nat)) rfl rfl (by kernel_rfl) (by kernel_rfl) (by kernel_rfl) (fun _ _ _ h => h) ((Below.refl _ _).drew) (Or.inl ⟨by rfl, fun w' hS' => by have q := g9.out w' hS'; go_simp⟩) ?_
  simp only [List.setIfInBounds_toArray, List.set_cons_zero, List.set_cons_succ]
  refine takeH_at 22 25 (.pointer (some ⟨w.heap.size, 10, none⟩)) rfl rfl (by kernel_rfl) (by kernel_rfl) (by kernel_rfl) (fun _ _ _ h => h) ((Below.refl _ _).drew) (Or.inl ⟨by rfl, fun w' hS' => by go_simp⟩) ?_
  simp only [List.setIfInBounds_toArray, List.set_cons_zero, List.set_cons_succ]
  refine takeH_at 23 26 (.int .u8 (b10 : Nat)) rfl rfl (by kernel_rfl) (by kernel_rfl) (by kernel_rfl) (fun _ _ _ h => h) ((Below.refl _ _).drew) (Or.inl ⟨by rfl, fun w' hS' => by have q := g10.out w' hS'; go_simp⟩) ?_
  simp only [List.setIfInBounds_toArray, List.set_cons_zero, List.set_cons_succ]
  refine takeH_at 24 27 (.pointer (some ⟨w.heap.size, 11, none⟩)) rfl rfl (by kernel_rfl) (by kernel_rfl) (by kernel_rfl) (fun _ _ _ h => h) ((Below.refl _ _).drew) (Or.inl ⟨by rfl, fun w' hS' => by go_simp⟩) ?_
  simp only [List.setIfInBounds_toArray, List.set_cons_zero, List.set_cons_succ]
  refine takeH_at 25 28 (.int .u8 (b11 : Nat)) rfl rfl (by kernel_rfl) (by kernel_rfl) (by kernel_rfl) (fun _ _ _ h => h) ((Below.refl _ _).drew) (Or.inl ⟨by rfl, fun w' hS' => by have q := g11.out w' hS'; go_simp⟩) ?_
  simp only [List.setIfInBounds_toArray, List.set_cons_zero, List.set_cons_succ]
  refine takeH_at 27 30 (.pointer (some ⟨w.heap.size, 12, none⟩)) rfl rfl (by kernel_rfl) (by kernel_rfl) (by kernel_rfl) (fun _ _ _ h => h) ((Below.refl _ _).drew) (Or.inl ⟨by rfl, fun w' hS' => by go_simp⟩) ?_
  simp only [List.setIfInBounds_toArray, List.set_cons_zero, List.set_cons_succ]
  refine takeH_at 28 31 (.int .u8 (b12 : Nat)) rfl rfl (by kernel_rfl) (by kernel_rfl) (by kernel_rfl) (fun _ _ _ h => h) ((Below.refl _ _).drew) (Or.inl ⟨by rfl, fun w' hS' => by have q := g12.out w' hS'; go_simp⟩) ?_
  simp only [List.setIfInBounds_toArray, List.set_cons_zero, List.set_cons_succ]
  refine takeH_at 29 32 (.pointer (some ⟨w.heap.size, 13, none⟩)) rfl rfl (by kernel_rfl) (by kernel_rfl) (by kernel_rfl) (fun _ _ _ h => h) ((Below.refl _ _).drew) (Or.inl ⟨by rfl, fun w' hS' => by go_simp⟩) ?_
  simp only [List.setIfInBounds_toArray, List.set_cons_zero, List.set_cons_succ]
  refine takeH_at 30 33 (.int .u8 (b13 : Nat)) rfl rfl (by kernel_rfl) (by kernel_rfl) (by kernel_rfl) (fun _ _ _ h => h) ((Below.refl _ _).drew) (Or.inl ⟨by rfl, fun w' hS' => by have q := g13.out w' hS'; go_simp⟩) ?_
  simp only [List.setIfInBounds_toArray, List.set_cons_zero, List.set_cons_succ]
  refine takeH_at 31 34 (.pointer (some ⟨w.heap.size, 14, none⟩)) rfl rfl (by kernel_rfl) (by kernel_rfl) (by kernel_rfl) (fun _ _ _ h => h) ((Below.refl _ _).drew) (Or.inl ⟨by rfl, fun w' hS' => by go_simp⟩) ?_
  simp only [List.setIfInBounds_toArray, List.set_cons_zero, List.set_cons_succ]
  refine takeH_at 32 35 (.int .u8 (b14 : Nat)) rfl rfl (by kernel_rfl) (by kernel_rfl) (by kernel_rfl) (fun _ _ _ h => h) ((Below.refl _ _).drew) (Or.inl ⟨by rfl, fun w' hS' => by have q := g14.out w' hS'; go_simp⟩) ?_
  simp only [List.setIfInBounds_toArray, List.set_cons_zero, List.set_cons_succ]
  refine takeH_at 33 36 (.pointer (some ⟨w.heap.size, 15, none⟩)) rfl rfl (by kernel_rfl) (by kernel_rfl) (by kernel_rfl) (fun _ _ _ h => h) ((Below.refl _ _).drew) (Or.inl ⟨by rfl, fun w' hS' => by go_simp⟩) ?_
  simp only [List.setIfInBounds_toArray, List.set_cons_zero, List.set_cons_succ]
  refine takeH_at 34 37 (.int .u8 (b15 : Nat)) rfl rfl (by kernel_rfl) (by kernel_rfl) (by kernel_rfl) (fun _ _ _ h => h) ((Below.refl _ _).drew) (Or.inl ⟨by rfl, fun w' hS' => by have q := g15.out w' hS'; go_simp⟩) ?_
  simp only [List.setIfInBounds_toArray, List.set_cons_zero, List.set_cons_succ]
  refine wpAnyH_ready (rs := [8]) (by kernel_rfl) (by simp) ?_
  refine AllReadyH.cons rfl (fun K hK => ?_) AllReadyH.nil
  go_simp
  refine (hc0.out _).mono ?_
  rintro e1 w1 ⟨rfl, hw1⟩
  obtain rfl := hw1.symm
  go_wp2_with fail
  refine hK.out _ _ ((Below.refl _ _).drew) (fun _ => ?_)
  clear hK K
  try simp only [List.setIfInBounds_toArray, List.set_cons_zero, List.set_cons_succ]
  refine wpAnyH_ready (rs := [17]) (by kernel_rfl) (by simp) ?_
  refine AllReadyH.cons rfl (fun K hK => ?_) AllReadyH.nil
  go_simp
  refine (hc1.out _).mono ?_
  rintro e1 w1 ⟨rfl, hw1⟩
  obtain rfl := hw1.symm
  go_wp2_with fail
  refine hK.out _ _ ((Below.refl _ _).drew) (fun _ => ?_)
  clear hK K
  try simp only [List.setIfInBounds_toArray, List.set_cons_zero, List.set_cons_succ]
  refine wpAnyH_ready (rs := [26]) (by kernel_rfl) (by simp) ?_
  refine AllReadyH.cons rfl (fun K hK => ?_) AllReadyH.nil
  go_simp
  refine (hc2.out _).mono ?_
  rintro e1 w1 ⟨rfl, hw1⟩
  obtain rfl := hw1.symm
  go_wp2_with fail
  refine hK.out _ _ ((Below.refl _ _).drew) (fun _ => ?_)
  clear hK K
  try simp only [List.setIfInBounds_toArray, List.set_cons_zero, List.set_cons_succ]
  refine wpAnyH_ready (rs := [35]) (by kernel_rfl) (by simp) ?_
  refine AllReadyH.cons rfl (fun K hK => ?_) AllReadyH.nil
  go_simp
  refine (hc3.out _).mono ?_
  rintro e1 w1 ⟨rfl, hw1⟩
  obtain rfl := hw1.symm
  go_wp2_with fail
  refine hK.out _ _ ((Below.refl _ _).drew) (fun _ => ?_)
  clear hK K
  try simp only [List.setIfInBounds_toArray, List.set_cons_zero, List.set_cons_succ]
  refine takeH_at 36 39 (.agg #[.int .u32 (v0 : Nat), .int .u32 (v1 : Nat), .int .u32 (v2 : Nat), .int .u32 (v3 : Nat)]) rfl rfl (by kernel_rfl) (by kernel_rfl) (by kernel_rfl) (fun _ _ _ h => h) ((Below.refl _ _).drew) (yieldsIf_build (by rfl) 115 #[(0, .tmp 11), (1, .tmp 20), (2, .tmp 29), (3, .tmp 38)] rfl _ (by simp only [List.map_toArray, List.map_cons, List.map_nil]; kernel_rfl)) ?_
  simp only [List.setIfInBounds_toArray, List.set_cons_zero, List.set_cons_succ]
  refine wpAnyH_ready (rs := [37]) (by kernel_rfl) (by simp) ?_
  refine AllReadyH.cons rfl (fun K hK => ?_) AllReadyH.nil
  go_simp
  refine hK.out _ _ (below_alloc2 (by simp)) (fun _ => ?_)
  clear hK K
  refine wpAnyH_done (by kernel_rfl) ?_ _
  refine NoPanic.normal ?_
  go_wp2
  refine ret_array [.int .u32 (v0 : Nat), .int .u32 (v1 : Nat), .int .u32 (v2 : Nat), .int .u32 (v3 : Nat)] Tryd.results64 rfl ?_ Tryd.underlying115 rfl (by kernel_rfl) ⟨rfl, ?_⟩
  · have h := range_alloc (w.alloc (.cells #[.int .u8 (b0 : Nat), .int .u8 (b1 : Nat), .int .u8 (b2 : Nat), .int .u8 (b3 : Nat), .int .u8 (b4 : Nat), .int .u8 (b5 : Nat), .int .u8 (b6 : Nat), .int .u8 (b7 : Nat), .int .u8 (b8 : Nat), .int .u8 (b9 : Nat), .int .u8 (b10 : Nat), .int .u8 (b11 : Nat), .int .u8 (b12 : Nat), .int .u8 (b13 : Nat), .int .u8 (b14 : Nat), .int .u8 (b15 : Nat)] 42)) #[.int .u32 (v0 : Nat), .int .u32 (v1 : Nat), .int .u32 (v2 : Nat), .int .u32 (v3 : Nat)] 115
    simpa using h
  · exact (((Below.refl _ w).alloc (Nat.le_refl _) _).alloc (by simp) _).drew
def prt (b0 b1 b2 b3 b4 b5 b6 b7 b8 b9 b10 b11 b12 b13 b14 b15 : Nat) (k : Nat) : Array Value := #[.int .u8 (if 0 < k then (b0 : Int) else 0), .int .u8 (if 1 < k then (b1 : Int) else 0), .int .u8 (if 2 < k then (b2 : Int) else 0), .int .u8 (if 3 < k then (b3 : Int) else 0), .int .u8 (if 4 < k then (b4 : Int) else 0), .int .u8 (if 5 < k then (b5 : Int) else 0), .int .u8 (if 6 < k then (b6 : Int) else 0), .int .u8 (if 7 < k then (b7 : Int) else 0), .int .u8 (if 8 < k then (b8 : Int) else 0), .int .u8 (if 9 < k then (b9 : Int) else 0), .int .u8 (if 10 < k then (b10 : Int) else 0), .int .u8 (if 11 < k then (b11 : Int) else 0), .int .u8 (if 12 < k then (b12 : Int) else 0), .int .u8 (if 13 < k then (b13 : Int) else 0), .int .u8 (if 14 < k then (b14 : Int) else 0), .int .u8 (if 15 < k then (b15 : Int) else 0)]
set_option maxHeartbeats 3200000 in
set_option maxRecDepth 100000 in
theorem toBlock_core (x0 x1 x2 x3 : Nat) (b0 b1 b2 b3 b4 b5 b6 b7 b8 b9 b10 b11 b12 b13 b14 b15 : Nat) (w : World) (h0 : (x0 : Int) / 16777216 % 256 = (b0 : Nat)) (h1 : (x0 : Int) / 65536 % 256 = (b1 : Nat)) (h2 : (x0 : Int) / 256 % 256 = (b2 : Nat)) (h3 : (x0 : Int) % 256 = (b3 : Nat)) (h4 : (x1 : Int) / 16777216 % 256 = (b4 : Nat)) (h5 : (x1 : Int) / 65536 % 256 = (b5 : Nat)) (h6 : (x1 : Int) / 256 % 256 = (b6 : Nat)) (h7 : (x1 : Int) % 256 = (b7 : Nat)) (h8 : (x2 : Int) / 16777216 % 256 = (b8 : Nat)) (h9 : (x2 : Int) / 65536 % 256 = (b9 : Nat)) (h10 : (x2 : Int) / 256 % 256 = (b10 : Nat)) (h11 : (x2 : Int) % 256 = (b11 : Nat)) (h12 : (x3 : Int) / 16777216 % 256 = (b12 : Nat)) (h13 : (x3 : Int) / 65536 % 256 = (b13 : Nat)) (h14 : (x3 : Int) / 256 % 256 = (b14 : Nat)) (h15 : (x3 : Int) % 256 = (b15 : Nat)) :
    Calls Tryd.prog 66 #[.agg #[.int .u32 (x0 : Nat), .int .u32 (x1 : Nat), .int .u32 (x2 : Nat), .int .u32 (x3 : Nat)]] w fun e w' => e = .returned (blk b0 b1 b2 b3 b4 b5 b6 b7 b8 b9 b10 b11 b12 b13 b14 b15) ∧ Below w.heap.size w w' := by
  unfold blk
  go_enter Tryd.func66, Tryd.ntmps66
  go_wp2
  go_loopw [5] (fun i wr => ∃ k : Nat, k ≤ 16 ∧ i = .int .i64 k ∧ wr = (((w.alloc (.cells #[.int .u32 (x0 : Nat), .int .u32 (x1 : Nat), .int .u32 (x2 : Nat), .int .u32 (x3 : Nat)] 115)).alloc (.cells #[.int .u8 0, .int .u8 0, .int .u8 0, .int .u8 0, .int .u8 0, .int .u8 0, .int .u8 0, .int .u8 0, .int .u8 0, .int .u8 0, .int .u8 0, .int .u8 0, .int .u8 0, .int .u8 0, .int .u8 0, .int .u8 0] 42)).alloc (.cells (prt b0 b1 b2 b3 b4 b5 b6 b7 b8 b9 b10 b11 b12 b13 b14 b15 k) 42))) (fun i _ => 16 - (intOf i).toNat)
  case atStart => exact ⟨0, by omega, rfl, rfl⟩
  case round =>
    obtain ⟨k, hk, rfl, hw⟩ := hrel
    have h17 : k = 0 ∨ k = 1 ∨ k = 2 ∨ k = 3 ∨ k = 4 ∨ k = 5 ∨ k = 6 ∨ k = 7 ∨ k = 8 ∨ k = 9 ∨ k = 10 ∨ k = 11 ∨ k = 12 ∨ k = 13 ∨ k = 14 ∨ k = 15 ∨ k = 16 := by omega
    clear hk
    rcases h17 with rfl | rfl | rfl | rfl | rfl | rfl | rfl | rfl | rfl | rfl | rfl | rfl | rfl | rfl | rfl | rfl | rfl
    · rw [show prt b0 b1 b2 b3 b4 b5 b6 b7 b8 b9 b10 b11 b12 b13 b14 b15 0 = #[.int .u8 0, .int .u8 0, .int .u8 0, .int .u8 0, .int .u8 0, .int .u8 0, .int .u8 0, .int .u8 0, .int .u8 0, .int .u8 0, .int .u8 0, .int .u8 0, .int .u8 0, .int .u8 0, .int .u8 0, .int .u8 0] from rfl] at hw
      subst hw
      go_wp2
      exact ⟨⟨1, by omega, rfl, rfl⟩, by decide +kernel⟩
    · rw [show prt b0 b1 b2 b3 b4 b5 b6 b7 b8 b9 b10 b11 b12 b13 b14 b15 1 = #[.int .u8 (b0 : Nat), .int .u8 0, .int .u8 0, .int .u8 0, .int .u8 0, .int .u8 0, .int .u8 0, .int .u8 0, .int .u8 0, .int .u8 0, .int .u8 0, .int .u8 0, .int .u8 0, .int .u8 0, .int .u8 0, .int .u8 0] from rfl] at hw
      subst hw
      go_wp2
      exact ⟨⟨2, by omega, rfl, rfl⟩, by decide +kernel⟩
    · rw [show prt b0 b1 b2 b3 b4 b5 b6 b7 b8 b9 b10 b11 b12 b13 b14 b15 2 = #[.int .u8 (b0 : Nat), .int .u8 (b1 : Nat), .int .u8 0, .int .u8 0, .int .u8 0, .int .u8 0, .int .u8 0, .int .u8 0, .int .u8 0, .int .u8 0, .int .u8 0, .int .u8 0, .int .u8 0, .int .u8 0, .int .u8 0, .int .u8 0] from rfl] at hw
      subst hw
      go_wp2
      exact ⟨⟨3, by omega, rfl, rfl⟩, by decide +kernel⟩
    · rw [show prt b0 b1 b2 b3 b4 b5 b6 b7 b8 b9 b10 b11 b12 b13 b14 b15 3 = #[.int .u8 (b0 : Nat), .int .u8 (b1 : Nat), .int .u8 (b2 : Nat), .int .u8 0, .int .u8 0, .int .u8 0, .int .u8 0, .int .u8 0, .int .u8 0, .int .u8 0, .int .u8 0, .int .u8 0, .int .u8 0, .int .u8 0, .int .u8 0, .int .u8 0] from rfl] at hw
      subst hw
      go_wp2
      exact ⟨⟨4, by omega, rfl, rfl⟩, by decide +kernel⟩
    · rw [show prt b0 b1 b2 b3 b4 b5 b6 b7 b8 b9 b10 b11 b12 b13 b14 b15 4 = #[.int .u8 (b0 : Nat), .int .u8 (b1 : Nat), .int .u8 (b2 : Nat), .int .u8 (b3 : Nat), .int .u8 0, .int .u8 0, .int .u8 0, .int .u8 0, .int .u8 0, .int .u8 0, .int .u8 0, .int .u8 0, .int .u8 0, .int .u8 0, .int .u8 0, .int .u8 0] from rfl] at hw
      subst hw
      go_wp2
      exact ⟨⟨5, by omega, rfl, rfl⟩, by decide +kernel⟩
    · rw [show prt b0 b1 b2 b3 b4 b5 b6 b7 b8 b9 b10 b11 b12 b13 b14 b15 5 = #[.int .u8 (b0 : Nat), .int .u8 (b1 : Nat), .int .u8 (b2 : Nat), .int .u8 (b3 : Nat), .int .u8 (b4 : Nat), .int .u8 0, .int .u8 0, .int .u8 0, .int .u8 0, .int .u8 0, .int .u8 0, .int .u8 0, .int .u8 0, .int .u8 0, .int .u8 0, .int .u8 0] from rfl] at hw
      subst hw
      go_wp2
      exact ⟨⟨6, by omega, rfl, rfl⟩, by decide +kernel⟩
    · rw [show prt b0 b1 b2 b3 b4 b5 b6 b7 b8 b9 b10 b11 b12 b13 b14 b15 6 = #[.int .u8 (b0 : Nat), .int .u8 (b1 : Nat), .int .u8 (b2 : Nat), .int .u8 (b3 : Nat), .int .u8 (b4 : Nat), .int .u8 (b5 : Nat), .int .u8 0, .int .u8 0, .int .u8 0, .int .u8 0, .int .u8 0, .int .u8 0, .int .u8 0, .int .u8 0, .int .u8 0, .int .u8 0] from rfl] at hw
      subst hw
      go_wp2
      exact ⟨⟨7, by omega, rfl, rfl⟩, by decide +kernel⟩
    · rw [show prt b0 b1 b2 b3 b4 b5 b6 b7 b8 b9 b10 b11 b12 b13 b14 b15 7 = #[.int .u8 (b0 : Nat), .int .u8 (b1 : Nat), .int .u8 (b2 : Nat), .int .u8 (b3 : Nat), .int .u8 (b4 : Nat), .int .u8 (b5 : Nat), .int .u8 (b6 : Nat), .int .u8 0, .int .u8 0, .int .u8 0, .int .u8 0, .int .u8 0, .int .u8 0, .int .u8 0, .int .u8 0, .int .u8 0] from rfl] at hw
      subst hw
      go_wp2
      exact ⟨⟨8, by omega, rfl, rfl⟩, by decide +kernel⟩
    · rw [show prt b0 b1 b2 b3 b4 b5 b6 b7 b8 b9 b10 b11 b12 b13 b14 b15 8 = #[.int .u8 (b0 : Nat), .int .u8 (b1 : Nat), .int .u8 (b2 : Nat), .int .u8 (b3 : Nat), .int .u8 (b4 : Nat), .int .u8 (b5 : Nat), .int .u8 (b6 : Nat), .int .u8 (b7 : Nat), .int .u8 0, .int .u8 0, .int .u8 0, .int .u8 0, .int .u8 0, .int .u8 0, .int .u8 0, .int .u8 0] from rfl] at hw
      subst hw
      go_wp2
      exact ⟨⟨9, by omega, rfl, rfl⟩, by decide +kernel⟩
    · rw [show prt b0 b1 b2 b3 b4 b5 b6 b7 b8 b9 b10 b11 b12 b13 b14 b15 9 = #[.int .u8 (b0 : Nat), .int .u8 (b1 : Nat), .int .u8 (b2 : Nat), .int .u8 (b3 : Nat), .int .u8 (b4 : Nat), .int .u8 (b5 : Nat), .int .u8 (b6 : Nat), .int .u8 (b7 : Nat), .int .u8 (b8 : Nat), .int .u8 0, .int .u8 0, .int .u8 0, .int .u8 0, .int .u8 0, .int .u8 0, .int .u8 0] from rfl] at hw
      subst hw
      go_wp2
      exact ⟨⟨10, by omega, rfl, rfl⟩, by decide +kernel⟩
    · rw [show prt b0 b1 b2 b3 b4 b5 b6 b7 b8 b9 b10 b11 b12 b13 b14 b15 10 = #[.int .u8 (b0 : Nat), .int .u8 (b1 : Nat), .int .u8 (b2 : Nat), .int .u8 (b3 : Nat), .int .u8 (b4 : Nat), .int .u8 (b5 : Nat), .int .u8 (b6 : Nat), .int .u8 (b7 : Nat), .int .u8 (b8 : Nat), .int .u8 (b9 : Nat), .int .u8 0, .int .u8 0, .int .u8 0, .int .u8 0, .int .u8 0, .int .u8 0] from rfl] at hw
      subst hw
      go_wp2
      exact ⟨⟨11, by omega, rfl, rfl⟩, by decide +kernel⟩
    · rw [show prt b0 b1 b2 b3 b4 b5 b6 b7 b8 b9 b10 b11 b12 b13 b14 b15 11 = #[.int .u8 (b0 : Nat), .int .u8 (b1 : Nat), .int .u8 (b2 : Nat), .int .u8 (b3 : Nat), .int .u8 (b4 : Nat), .int .u8 (b5 : Nat), .int .u8 (b6 : Nat), .int .u8 (b7 : Nat), .int .u8 (b8 : Nat), .int .u8 (b9 : Nat), .int .u8 (b10 : Nat), .int .u8 0, .int .u8 0, .int .u8 0, .int .u8 0, .int .u8 0] from rfl] at hw
      subst hw
      go_wp2
      exact ⟨⟨12, by omega, rfl, rfl⟩, by decide +kernel⟩
    · rw [show prt b0 b1 b2 b3 b4 b5 b6 b7 b8 b9 b10 b11 b12 b13 b14 b15 12 = #[.int .u8 (b0 : Nat), .int .u8 (b1 : Nat), .int .u8 (b2 : Nat), .int .u8 (b3 : Nat), .int .u8 (b4 : Nat), .int .u8 (b5 : Nat), .int .u8 (b6 : Nat), .int .u8 (b7 : Nat), .int .u8 (b8 : Nat), .int .u8 (b9 : Nat), .int .u8 (b10 : Nat), .int .u8 (b11 : Nat), .int .u8 0, .int .u8 0, .int .u8 0, .int .u8 0] from rfl] at hw
      subst hw
      go_wp2
      exact ⟨⟨13, by omega, rfl, rfl⟩, by decide +kernel⟩
    · rw [show prt b0 b1 b2 b3 b4 b5 b6 b7 b8 b9 b10 b11 b12 b13 b14 b15 13 = #[.int .u8 (b0 : Nat), .int .u8 (b1 : Nat), .int .u8 (b2 : Nat), .int .u8 (b3 : Nat), .int .u8 (b4 : Nat), .int .u8 (b5 : Nat), .int .u8 (b6 : Nat), .int .u8 (b7 : Nat), .int .u8 (b8 : Nat), .int .u8 (b9 : Nat), .int .u8 (b10 : Nat), .int .u8 (b11 : Nat), .int .u8 (b12 : Nat), .int .u8 0, .int .u8 0, .int .u8 0] from rfl] at hw
      subst hw
      go_wp2
      exact ⟨⟨14, by omega, rfl, rfl⟩, by decide +kernel⟩
    · rw [show prt b0 b1 b2 b3 b4 b5 b6 b7 b8 b9 b10 b11 b12 b13 b14 b15 14 = #[.int .u8 (b0 : Nat), .int .u8 (b1 : Nat), .int .u8 (b2 : Nat), .int .u8 (b3 : Nat), .int .u8 (b4 : Nat), .int .u8 (b5 : Nat), .int .u8 (b6 : Nat), .int .u8 (b7 : Nat), .int .u8 (b8 : Nat), .int .u8 (b9 : Nat), .int .u8 (b10 : Nat), .int .u8 (b11 : Nat), .int .u8 (b12 : Nat), .int .u8 (b13 : Nat), .int .u8 0, .int .u8 0] from rfl] at hw
      subst hw
      go_wp2
      exact ⟨⟨15, by omega, rfl, rfl⟩, by decide +kernel⟩
    · rw [show prt b0 b1 b2 b3 b4 b5 b6 b7 b8 b9 b10 b11 b12 b13 b14 b15 15 = #[.int .u8 (b0 : Nat), .int .u8 (b1 : Nat), .int .u8 (b2 : Nat), .int .u8 (b3 : Nat), .int .u8 (b4 : Nat), .int .u8 (b5 : Nat), .int .u8 (b6 : Nat), .int .u8 (b7 : Nat), .int .u8 (b8 : Nat), .int .u8 (b9 : Nat), .int .u8 (b10 : Nat), .int .u8 (b11 : Nat), .int .u8 (b12 : Nat), .int .u8 (b13 : Nat), .int .u8 (b14 : Nat), .int .u8 0] from rfl] at hw
      subst hw
      go_wp2
      exact ⟨⟨16, by omega, rfl, rfl⟩, by decide +kernel⟩
    · rw [show prt b0 b1 b2 b3 b4 b5 b6 b7 b8 b9 b10 b11 b12 b13 b14 b15 16 = #[.int .u8 (b0 : Nat), .int .u8 (b1 : Nat), .int .u8 (b2 : Nat), .int .u8 (b3 : Nat), .int .u8 (b4 : Nat), .int .u8 (b5 : Nat), .int .u8 (b6 : Nat), .int .u8 (b7 : Nat), .int .u8 (b8 : Nat), .int .u8 (b9 : Nat), .int .u8 (b10 : Nat), .int .u8 (b11 : Nat), .int .u8 (b12 : Nat), .int .u8 (b13 : Nat), .int .u8 (b14 : Nat), .int .u8 (b15 : Nat)] from rfl] at hw
      subst hw
      go_wp2
      refine ret_array [.int .u8 (b0 : Nat), .int .u8 (b1 : Nat), .int .u8 (b2 : Nat), .int .u8 (b3 : Nat), .int .u8 (b4 : Nat), .int .u8 (b5 : Nat), .int .u8 (b6 : Nat), .int .u8 (b7 : Nat), .int .u8 (b8 : Nat), .int .u8 (b9 : Nat), .int .u8 (b10 : Nat), .int .u8 (b11 : Nat), .int .u8 (b12 : Nat), .int .u8 (b13 : Nat), .int .u8 (b14 : Nat), .int .u8 (b15 : Nat)] Tryd.results66 rfl ?_ Tryd.underlying42 rfl (by kernel_rfl) ⟨rfl, ?_⟩
      · have h := (two_allocs (w.alloc (.cells #[.int .u32 (x0 : Nat), .int .u32 (x1 : Nat), .int .u32 (x2 : Nat), .int .u32 (x3 : Nat)] 115)) #[.int .u8 (b0 : Nat), .int .u8 (b1 : Nat), .int .u8 (b2 : Nat), .int .u8 (b3 : Nat), .int .u8 (b4 : Nat), .int .u8 (b5 : Nat), .int .u8 (b6 : Nat), .int .u8 (b7 : Nat), .int .u8 (b8 : Nat), .int .u8 (b9 : Nat), .int .u8 (b10 : Nat), .int .u8 (b11 : Nat), .int .u8 (b12 : Nat), .int .u8 (b13 : Nat), .int .u8 (b14 : Nat), .int .u8 (b15 : Nat)] #[.int .u8 (b0 : Nat), .int .u8 (b1 : Nat), .int .u8 (b2 : Nat), .int .u8 (b3 : Nat), .int .u8 (b4 : Nat), .int .u8 (b5 : Nat), .int .u8 (b6 : Nat), .int .u8 (b7 : Nat), .int .u8 (b8 : Nat), .int .u8 (b9 : Nat), .int .u8 (b10 : Nat), .int .u8 (b11 : Nat), .int .u8 (b12 : Nat), .int .u8 (b13 : Nat), .int .u8 (b14 : Nat), .int .u8 (b15 : Nat)] 42 42).2
        intro j v hv
        have h' := h j v (by simpa using hv)
        simpa using h'
      · exact (((Below.refl _ w).alloc (Nat.le_refl _) _).alloc (by simp) _).alloc (by simp; omega) _
end Go.Proofs.YtgmfiljjogdccaaDoor
namespace Go.Proofs.YtgmfiljjogdccaaDoor
set_option linter.unusedVariables false
variable {P : Program} {ops : Array Oper} {Q : Exit → Act → World → Prop} {md : Region.Mode} {S : World → Prop} {n : Nat}

/-- Whatever order is picked; S holds behind every operation of the head (the first n); the tail may do as it likes. -/
def wpTill (P : Program) (md : Region.Mode) (ops : Array Oper) (Q : Exit → Act → World → Prop) (S : World → Prop) (n : Nat) : Nat → Array Bool → Act → World → Prop
  | 0, l, a, w => Region.ready md ops l = [] ∧ Q .normal a w
  | f + 1, l, a, w =>
    (Region.ready md ops l = [] → Q .normal a w) ∧
    ∀ i, i ∈ Region.ready md ops l → wpOp P ops Q i (fun b u => (i < n → S u) ∧ wpTill P md ops Q S n f (l.setIfInBounds i true) b u) a w

theorem any_of_till (f : Nat) : ∀ (l : Array Bool) (a : Act) (w : World), wpTill P md ops Q S n f l a w → wpAny P md ops Q f l a w := by
  induction f with
  | zero => exact fun _ _ _ h => h
  | succ f ih => exact fun l a w h => ⟨h.1, fun i hi => wpOp_mono (fun b u k => ih _ b u k.2) (h.2 i hi)⟩

theorem till_first {i : Nat} {oi : Oper} {v : Value} (hi : ops[i]? = some oi) (hin : i < n) (hn : n < ops.size) (hsk : Region.sinkB md ops n = true) (hch : Region.chainB md ops n = true)
    (hsel : ∀ (j : Nat) (o : Oper) cs b, ops[j]? = some o → o.op ≠ .select cs b) (hQ : ∀ c a w, Q (.panic c) (a.put oi.dst v) w → Q (.panic c) a w) (f : Nat) :
    ∀ (l : Array Bool) (a : Act) (w : World), HeadInv md ops n l →
      (∀ j oj, ops[j]? = some oj → j ≠ i → l.getD j true = false → (∀ e ∈ oj.after, Region.binds md e = true → e.on ≠ i) → oi.apart ops oj = true) →
      i ∈ Region.ready md ops l → YieldsIf P ops S oi v a → S w → wpTill P md ops Q S n f (l.setIfInBounds i true) (a.put oi.dst v) w → wpTill P md ops Q S n (f + 1) l a w := by
  induction f with
  | zero =>
    intro l a w inv _ hr hy hS H
    refine ⟨fun h => (by rw [h] at hr; cases hr), fun j hj => ?_⟩
    by_cases hji : j = i
    · subst hji
      exact hy.wpOp hi hS ⟨fun _ => hS, H⟩
    · have h := ready_mono hj hji
      rw [H.1] at h
      cases h
  | succ f ih =>
    intro l a w inv hfree hr hy hS H
    refine ⟨fun h => (by rw [h] at hr; cases hr), fun j hj => ?_⟩
    by_cases hji : j = i
    · subst hji
      exact hy.wpOp hi hS ⟨fun _ => hS, H⟩
    have hun := (mem_ready.1 hr).1
    have hjn : j < n := by
      rcases Nat.lt_or_ge j n with h | h
      · exact h
      · exact absurd hj (tail_waits hsk hch hn inv _ i rfl hin hun j h)
    have h1 := H.2 j (ready_mono hj hji)
    obtain ⟨hjun, oj, hoj, hall⟩ := mem_ready.1 hj
    have hnot : ∀ e ∈ oj.after, Region.binds md e = true → e.on ≠ i := fun e he hb heq => by
      have h2 := hall e he hb
      rw [heq] at h2
      rw [getD_both hun] at h2
      cases h2
    have h2 := wpOp_putIf hoj (hfree j oj hoj hji hjun hnot) (fun cs b => hsel i oi cs b hi) (fun cs b => hsel j oj cs b hoj) hQ hy h1
    refine wpOp_mono (fun b u h3 => ?_) h2
    have hSu := h3.2.1 hjn
    refine ⟨fun _ => hSu, ih (l.setIfInBounds j true) b u (inv.set hj hjn) (fun k ok hk hki hku hno => ?_) (ready_mono hr (Ne.symm hji)) h3.1 hSu ?_⟩
    · refine hfree k ok hk hki ?_ hno
      by_cases hjk : j = k
      · subst hjk; exact hjun
      · rw [getD_set_ne true hjk] at hku; exact hku
    · rw [Array.setIfInBounds_comm _ _ hji]
      exact h3.2.2

/-- What is carried along: the head's invariant, and what the region's form gives once. -/
structure Inv (md : Region.Mode) (ops : Array Oper) (n : Nat) (l : Array Bool) : Prop where
  head : HeadInv md ops n l
  lt : n < ops.size
  sink : Region.sinkB md ops n = true
  chain : Region.chainB md ops n = true
  sel : Region.noSelect ops = true
theorem Inv.set {l : Array Bool} {i : Nat} (inv : Inv md ops n l) (hi : i ∈ Region.ready md ops l) (hin : i < n) : Inv md ops n (l.setIfInBounds i true) := ⟨inv.head.set hi hin, inv.lt, inv.sink, inv.chain, inv.sel⟩

/-- An operation of the head that yields under S is taken first. -/
theorem till_at (i d : Nat) (v : Value) {oi : Oper} {f : Nat} {l : Array Bool} {tmps : Array Value} {ds : List Deferred} {w : World} (inv : Inv md ops n l) (hi : ops[i]? = some oi) (hd : oi.dst = some d)
    (hin : i < n) (hf : Region.free md ops l i = true) (hr : (Region.ready md ops l).contains i = true)
    (hQ : ∀ c a w, Q (.panic c) (a.put oi.dst v) w → Q (.panic c) a w) (hS : S w) (hy : YieldsIf P ops S oi v ⟨tmps, ds⟩)
    (h : Inv md ops n (l.setIfInBounds i true) → wpTill P md ops Q S n f (l.setIfInBounds i true) ⟨tmps.setIfInBounds d v, ds⟩ w) : wpTill P md ops Q S n (f + 1) l ⟨tmps, ds⟩ w := by
  have hr' : i ∈ Region.ready md ops l := by simpa using hr
  refine till_first hi hin inv.lt inv.sink inv.chain (Region.noSelect_spec inv.sel) hQ f l _ w inv.head (Region.free_spec hi hf) hr' hy hS ?_
  rw [hd]
  exact h (inv.set hr' hin)

/-- A lone operation of the head comes up. -/
theorem till_head {i : Nat} {o : Oper} {f : Nat} {l : Array Bool} {a : Act} {w : World} (inv : Inv md ops n l) (hr : Region.ready md ops l = [i]) (hin : i < n) (ho : ops[i]? = some o)
    (h : ∀ K' : Act → World → Prop, Shut (∀ a w, S w → (Inv md ops n (l.setIfInBounds i true) → wpTill P md ops Q S n f (l.setIfInBounds i true) a w) → K' a w) → if Region.wanted o (yielded ops a.tmps) = true then Oper.wp P o a w K' Q else K' (a.put o.dst undef) w) :
    wpTill P md ops Q S n (f + 1) l a w := by
  have hi : i ∈ Region.ready md ops l := by rw [hr]; simp
  refine ⟨fun h0 => (by rw [hr] at h0; cases h0), fun j hj => ?_⟩
  rw [hr] at hj
  obtain rfl : j = i := by simpa using hj
  exact wpOp_step ho (fun K' hK => h K' (fun a w hS hW => hK a w ⟨fun _ => hS, hW (inv.set hi hin)⟩))

/-- A lone operation of the tail comes up. -/
theorem till_tail {i : Nat} {o : Oper} {f : Nat} {l : Array Bool} {a : Act} {w : World} (hr : Region.ready md ops l = [i]) (hin : n ≤ i) (ho : ops[i]? = some o)
    (h : ∀ K' : Act → World → Prop, Shut (∀ a w, wpTill P md ops Q S n f (l.setIfInBounds i true) a w → K' a w) → if Region.wanted o (yielded ops a.tmps) = true then Oper.wp P o a w K' Q else K' (a.put o.dst undef) w) :
    wpTill P md ops Q S n (f + 1) l a w := by
  refine ⟨fun h0 => (by rw [hr] at h0; cases h0), fun j hj => ?_⟩
  rw [hr] at hj
  obtain rfl : j = i := by simpa using hj
  exact wpOp_step ho (fun K' hK => h K' (fun a w hW => hK a w ⟨fun h => by omega, hW⟩))

theorem till_done {l : Array Bool} {a : Act} {w : World} (hr : Region.ready md ops l = []) (h : Q .normal a w) : ∀ f, wpTill P md ops Q S n f l a w
  | 0 => ⟨hr, h⟩
  | _ + 1 => ⟨fun _ => h, fun i hi => by rw [hr] at hi; cases hi⟩

theorem wp_region_till {id : Nat} {a : Act} {w : World} (S : World → Prop) (n : Nat) (hm : P.follows .mixedOrders = true) (hn : n < ops.size) (hsk : Region.sinkB .any ops n = true) (hch : Region.chainB .any ops n = true) (hs : Region.noSelect ops = true)
    (h : Inv .any ops n (Array.replicate ops.size false) → wpTill P .any ops Q S n ops.size (Array.replicate ops.size false) a w.drew) : (Code.region id ops true).wp P Q a w := by
  refine wp_region_any hm (any_of_till _ _ _ _ (h ⟨⟨by simp, fun j oj _ hl => ?_, fun t _ ht => ?_⟩, hn, hsk, hch, hs⟩))
  · rw [getD_replicate_false] at hl; cases hl
  · simp [ht]
end Go.Proofs.YtgmfiljjogdccaaDoor
namespace Go.Proofs.YtgmfiljjogdccaaDoor
open Go.RowKit
set_option linter.unusedVariables false
/-- The bytes of a word. -/
def bt0 (x : Nat) : Nat := x / 16777216 % 256
def bt1 (x : Nat) : Nat := x / 65536 % 256
def bt2 (x : Nat) : Nat := x / 256 % 256
def bt3 (x : Nat) : Nat := x % 256
theorem bt0_lt (x : Nat) : bt0 x < 256 := Nat.mod_lt _ (by decide)
theorem bt1_lt (x : Nat) : bt1 x < 256 := Nat.mod_lt _ (by decide)
theorem bt2_lt (x : Nat) : bt2 x < 256 := Nat.mod_lt _ (by decide)
theorem bt3_lt (x : Nat) : bt3 x < 256 := Nat.mod_lt _ (by decide)
theorem wd_bt {x : Nat} (h : x < 4294967296) : wd (bt0 x) (bt1 x) (bt2 x) (bt3 x) = x := by unfold wd bt0 bt1 bt2 bt3; omega
theorem int_bt0 (x : Nat) : (x : Int) / 16777216 % 256 = (bt0 x : Nat) := by unfold bt0; omega
theorem int_bt1 (x : Nat) : (x : Int) / 65536 % 256 = (bt1 x : Nat) := by unfold bt1; omega
theorem int_bt2 (x : Nat) : (x : Int) / 256 % 256 = (bt2 x : Nat) := by unfold bt2; omega
theorem int_bt3 (x : Nat) : (x : Int) % 256 = (bt3 x : Nat) := by unfold bt3; omega
def mixw (a b c d : Nat) : Nat := mixc (bt0 a) (bt1 b) (bt2 c) (bt3 d)
def lastw (a b c d : Nat) : Nat := wd (SB (bt0 a)) (SB (bt1 b)) (SB (bt2 c)) (SB (bt3 d))
def undow (a b c d : Nat) : Nat := wd (UB (bt0 a)) (UB (bt1 b)) (UB (bt2 c)) (UB (bt3 d))
def unmw (a : Nat) : Nat := unmc (bt0 a) (bt1 a) (bt2 a) (bt3 a)
theorem mixw_lt (a b c d : Nat) : mixw a b c d < 4294967296 := xor_lt32 (xor_lt32 (xor_lt32 (MX_lt (bt0_lt a)) (M8_lt (bt1_lt b))) (M16_lt (bt2_lt c))) (M24_lt (bt3_lt d))
theorem unmw_lt (a : Nat) : unmw a < 4294967296 := xor_lt32 (xor_lt32 (xor_lt32 (UX_lt (bt0_lt a)) (U8_lt (bt1_lt a))) (U16_lt (bt2_lt a))) (U24_lt (bt3_lt a))
theorem lastw_lt (a b c d : Nat) : lastw a b c d < 4294967296 := wd_lt (SB_lt _) (SB_lt _) (SB_lt _) (SB_lt _)
theorem undow_lt (a b c d : Nat) : undow a b c d < 4294967296 := wd_lt (UB_lt _) (UB_lt _) (UB_lt _) (UB_lt _)
/-- A state: four columns. -/
structure W4 where
  (a b c d : Nat)
def W4.ok (s : W4) : Prop := s.a < 4294967296 ∧ s.b < 4294967296 ∧ s.c < 4294967296 ∧ s.d < 4294967296
def W4.val (s : W4) : Value := cols s.a s.b s.c s.d
def W4.list (s : W4) : List Value := [.int .u32 (s.a : Nat), .int .u32 (s.b : Nat), .int .u32 (s.c : Nat), .int .u32 (s.d : Nat)]
def W4.blk (s : W4) : Value := YtgmfiljjogdccaaDoor.blk (bt0 s.a) (bt1 s.a) (bt2 s.a) (bt3 s.a) (bt0 s.b) (bt1 s.b) (bt2 s.b) (bt3 s.b) (bt0 s.c) (bt1 s.c) (bt2 s.c) (bt3 s.c) (bt0 s.d) (bt1 s.d) (bt2 s.d) (bt3 s.d)
def addK (K : Nat → Nat) (r : Nat) (s : W4) : W4 := ⟨Nat.xor s.a (K (4 * r)), Nat.xor s.b (K (4 * r + 1)), Nat.xor s.c (K (4 * r + 2)), Nat.xor s.d (K (4 * r + 3))⟩
def mixS (s : W4) : W4 := ⟨mixw s.a s.b s.c s.d, mixw s.b s.c s.d s.a, mixw s.c s.d s.a s.b, mixw s.d s.a s.b s.c⟩
def lastS (s : W4) : W4 := ⟨lastw s.a s.b s.c s.d, lastw s.b s.c s.d s.a, lastw s.c s.d s.a s.b, lastw s.d s.a s.b s.c⟩
def undoS (s : W4) : W4 := ⟨undow s.a s.d s.c s.b, undow s.b s.a s.d s.c, undow s.c s.b s.a s.d, undow s.d s.c s.b s.a⟩
def unmS (s : W4) : W4 := ⟨unmw s.a, unmw s.b, unmw s.c, unmw s.d⟩
theorem mixS_ok (s : W4) : (mixS s).ok := ⟨mixw_lt _ _ _ _, mixw_lt _ _ _ _, mixw_lt _ _ _ _, mixw_lt _ _ _ _⟩
theorem lastS_ok (s : W4) : (lastS s).ok := ⟨lastw_lt _ _ _ _, lastw_lt _ _ _ _, lastw_lt _ _ _ _, lastw_lt _ _ _ _⟩
theorem undoS_ok (s : W4) : (undoS s).ok := ⟨undow_lt _ _ _ _, undow_lt _ _ _ _, undow_lt _ _ _ _, undow_lt _ _ _ _⟩
theorem unmS_ok (s : W4) : (unmS s).ok := ⟨unmw_lt _, unmw_lt _, unmw_lt _, unmw_lt _⟩
theorem addK_ok {K : Nat → Nat} (hK : ∀ i, K i < 4294967296) (r : Nat) {s : W4} (h : s.ok) : (addK K r s).ok := ⟨xor_lt32 h.1 (hK _), xor_lt32 h.2.1 (hK _), xor_lt32 h.2.2.1 (hK _), xor_lt32 h.2.2.2 (hK _)⟩
/-- Rounds 1 to r. -/
def iterE (K : Nat → Nat) : Nat → W4 → W4
  | 0, s => s
  | r + 1, s => addK K (r + 1) (mixS (iterE K r s))
def encW (nr : Nat) (K : Nat → Nat) (s : W4) : W4 := addK K nr (lastS (iterE K (nr - 1) (addK K 0 s)))
/-- Rounds r down to 1, undone. -/
def iterD (K : Nat → Nat) : Nat → W4 → W4
  | 0, s => s
  | r + 1, s => iterD K r (unmS (addK K (r + 1) (undoS s)))
def decW (nr : Nat) (K : Nat → Nat) (s : W4) : W4 := addK K 0 (undoS (iterD K (nr - 1) (addK K nr s)))
theorem iterE_ok {K : Nat → Nat} (hK : ∀ i, K i < 4294967296) {s : W4} (h : s.ok) : ∀ r, (iterE K r s).ok
  | 0 => h
  | r + 1 => addK_ok hK _ (mixS_ok _)
theorem encW_ok {K : Nat → Nat} (hK : ∀ i, K i < 4294967296) (nr : Nat) (s : W4) : (encW nr K s).ok := addK_ok hK _ (lastS_ok _)
theorem decW_ok {K : Nat → Nat} (hK : ∀ i, K i < 4294967296) (nr : Nat) (s : W4) : (decW nr K s).ok := addK_ok hK _ (undoS_ok _)

/-- A cipher at g, o. -/
structure Ciph (w : World) (g o nr : Nat) (K : Nat → Nat) : Prop where
  rounds : w.cell? ⟨g, o, none⟩ = some (.int .i64 (nr : Nat))
  words : ∀ i, i < 4 * (nr + 1) → w.cell? ⟨g, o + 1 + i, none⟩ = some (.int .u32 (K i : Nat))
  small : ∀ i, K i < 4294967296
  tab : Tab w g o
  here : g < w.heap.size
  some : 1 ≤ nr
  most : nr ≤ 14
theorem Tab.below {B : Nat} {w w' : World} {g o : Nat} (h : Tab w g o) (hb : Below B w w') (hg : g < B) : Tab w' g o :=
  ⟨fun b hb' => (hb.cell hg).trans (h.s b hb'), fun b hb' => (hb.cell hg).trans (h.u b hb'), fun b hb' => (hb.cell hg).trans (h.m b hb'), fun b hb' => (hb.cell hg).trans (h.n b hb')⟩
theorem Ciph.below {B : Nat} {w w' : World} {g o nr : Nat} {K : Nat → Nat} (h : Ciph w g o nr K) (hb : Below B w w') (hg : g < B) : Ciph w' g o nr K :=
  ⟨(hb.cell hg).trans h.rounds, fun i hi => (hb.cell hg).trans (h.words i hi), h.small, h.tab.below hb hg, Nat.lt_of_lt_of_le h.here hb.size, h.some, h.most⟩
theorem Below.drewN {B : Nat} {a w : World} (h : Below B a w) (m : Nat) : Below B a (w.drewN m) := ⟨h.os, h.tape, h.output, h.size, h.block⟩
theorem there_below {B : Nat} {w w' : World} {g o n : Nat} (h : w.there g o n) (hb : Below B w w') (hg : g < B) : w'.there g o n := fun j hj => by
  obtain ⟨h1, h2⟩ := h j hj
  exact ⟨by rw [hb.cell hg]; exact h1, by rw [hb.frozen hg]; exact h2⟩

/-- The columns' calls, as long as the cipher stands. -/
theorem mix_c {B g o nr : Nat} {K : Nat → Nat} {w : World} (hC : Ciph w g o nr K) (hg : g < B) (a b c d m : Nat) (hm : Hid (m = mixw a b c d)) : ∀ u, Below B w u →
    Calls Tryd.prog 65 #[.pointer (some ⟨g, o, none⟩), .int .u32 (a : Nat), .int .u32 (b : Nat), .int .u32 (c : Nat), .int .u32 (d : Nat)] u fun e u' => e = .returned (.int .u32 (m : Nat)) ∧ Below B w u' := fun u hu => by
  refine (mix_ok g o a b c d _ _ _ _ u (bt0_lt a) (bt1_lt b) (bt2_lt c) (bt3_lt d) (int_bt0 a) (int_bt1 b) (int_bt2 c) (int_bt3 d) (hC.tab.below hu hg)).mono fun e u' ⟨h1, k, h2⟩ => ?_
  subst h2
  exact ⟨by rw [h1, hm.out]; rfl, Below.drewN hu k⟩
theorem last_c {B g o nr : Nat} {K : Nat → Nat} {w : World} (hC : Ciph w g o nr K) (hg : g < B) (a b c d m : Nat) (hm : Hid (m = lastw a b c d)) : ∀ u, Below B w u →
    Calls Tryd.prog 67 #[.pointer (some ⟨g, o, none⟩), .int .u32 (a : Nat), .int .u32 (b : Nat), .int .u32 (c : Nat), .int .u32 (d : Nat)] u fun e u' => e = .returned (.int .u32 (m : Nat)) ∧ Below B w u' := fun u hu => by
  refine (last_ok g o a b c d _ _ _ _ u (bt0_lt a) (bt1_lt b) (bt2_lt c) (bt3_lt d) (int_bt0 a) (int_bt1 b) (int_bt2 c) (int_bt3 d) (hC.tab.below hu hg)).mono fun e u' ⟨h1, k, h2⟩ => ?_
  subst h2
  exact ⟨by rw [h1, hm.out]; rfl, Below.drewN hu k⟩
theorem undo_c {B g o nr : Nat} {K : Nat → Nat} {w : World} (hC : Ciph w g o nr K) (hg : g < B) (a b c d m : Nat) (hm : Hid (m = undow a b c d)) : ∀ u, Below B w u →
    Calls Tryd.prog 68 #[.pointer (some ⟨g, o, none⟩), .int .u32 (a : Nat), .int .u32 (b : Nat), .int .u32 (c : Nat), .int .u32 (d : Nat)] u fun e u' => e = .returned (.int .u32 (m : Nat)) ∧ Below B w u' := fun u hu => by
  refine (undo_ok g o a b c d _ _ _ _ u (bt0_lt a) (bt1_lt b) (bt2_lt c) (bt3_lt d) (int_bt0 a) (int_bt1 b) (int_bt2 c) (int_bt3 d) (hC.tab.below hu hg)).mono fun e u' ⟨h1, k, h2⟩ => ?_
  subst h2
  exact ⟨by rw [h1, hm.out]; rfl, Below.drewN hu k⟩
theorem unmix_c {B g o nr : Nat} {K : Nat → Nat} {w : World} (hC : Ciph w g o nr K) (hg : g < B) (a m : Nat) (hm : Hid (m = unmw a)) : ∀ u, Below B w u →
    Calls Tryd.prog 69 #[.pointer (some ⟨g, o, none⟩), .int .u32 (a : Nat)] u fun e u' => e = .returned (.int .u32 (m : Nat)) ∧ Below B w u' := fun u hu => by
  refine (unmixed_ok g o a _ _ _ _ u (bt0_lt a) (bt1_lt a) (bt2_lt a) (bt3_lt a) (int_bt0 a) (int_bt1 a) (int_bt2 a) (int_bt3 a) (hC.tab.below hu hg)).mono fun e u' ⟨h1, k, h2⟩ => ?_
  subst h2
  exact ⟨by rw [h1, hm.out]; rfl, Below.drewN hu k⟩
theorem add_c {B g o nr : Nat} {K : Nat → Nat} {w : World} (hC : Ciph w g o nr K) (hg : g < B) (hB : B ≤ w.heap.size) (r : Nat) (hr : r ≤ nr) (s t : W4) (hs : s.ok) (ht : Hid (t = addK K r s)) : ∀ u, Below B w u →
    Calls Tryd.prog 63 #[.pointer (some ⟨g, o, none⟩), s.val, .int .i64 (r : Nat)] u fun e u' => e = .returned t.val ∧ Below B w u' := fun u hu => by
  have hC' := hC.below hu hg
  have := hC.most
  refine (add_ok g o r s.a s.b s.c s.d _ _ _ _ u (by omega) hC'.here hs.1 hs.2.1 hs.2.2.1 hs.2.2.2 (hC.small _) (hC.small _) (hC.small _) (hC.small _) (hC'.words (4 * r) (by omega)) (hC'.words (4 * r + 1) (by omega)) (hC'.words (4 * r + 2) (by omega)) (hC'.words (4 * r + 3) (by omega))).mono fun e u' ⟨h1, h2⟩ => ?_
  exact ⟨by rw [h1, ht.out]; rfl, hu.trans (h2.mono (Nat.le_trans hB hu.size))⟩
theorem from_c (s : W4) (hs : s.ok) (w : World) : Calls Tryd.prog 64 #[s.blk] w fun e w' => e = .returned s.val ∧ Below w.heap.size w w' := by
  refine (fromBlock_ok _ _ _ _ _ _ _ _ _ _ _ _ _ _ _ _ w (bt0_lt _) (bt1_lt _) (bt2_lt _) (bt3_lt _) (bt0_lt _) (bt1_lt _) (bt2_lt _) (bt3_lt _) (bt0_lt _) (bt1_lt _) (bt2_lt _) (bt3_lt _) (bt0_lt _) (bt1_lt _) (bt2_lt _) (bt3_lt _)).mono fun e w' ⟨h1, h2⟩ => ⟨?_, h2⟩
  rw [h1, wd_bt hs.1, wd_bt hs.2.1, wd_bt hs.2.2.1, wd_bt hs.2.2.2]
  rfl
theorem to_c (s : W4) (w : World) : Calls Tryd.prog 66 #[s.val] w fun e w' => e = .returned s.blk ∧ Below w.heap.size w w' :=
  toBlock_core s.a s.b s.c s.d _ _ _ _ _ _ _ _ _ _ _ _ _ _ _ _ w (int_bt0 _) (int_bt1 _) (int_bt2 _) (int_bt3 _) (int_bt0 _) (int_bt1 _) (int_bt2 _) (int_bt3 _) (int_bt0 _) (int_bt1 _) (int_bt2 _) (int_bt3 _) (int_bt0 _) (int_bt1 _) (int_bt2 _) (int_bt3 _)
end Go.Proofs.YtgmfiljjogdccaaDoor
namespace Go.Proofs.YtgmfiljjogdccaaDoor
open Go.RowKit
set_option linter.unusedVariables false
/-- The four cells that fillRow writes. -/
def rowSet (w : World) (g o b sb : Nat) : World :=
  (((w.setCell ⟨g, o + 61 + b, none⟩ (.int .u8 (sb : Nat))).setCell ⟨g, o + 317 + sb, none⟩ (.int .u8 (b : Nat))).setCell ⟨g, o + 573 + b, none⟩ (.int .u32 (wd (x2 sb) sb sb (x3 sb) : Nat))).setCell ⟨g, o + 829 + b, none⟩ (.int .u32 (wd (x14 b) (x9 b) (x13 b) (x11 b) : Nat))
theorem dbl_ex (a : Nat) (h : a < 256) (w : World) : Calls Tryd.prog 84 #[.int .u8 a] w fun e w' => ∃ z : Nat, z < 256 ∧ Hid (z = dblN a) ∧ e = .returned (.int .u8 (z : Nat)) ∧ w' = w :=
  (dbl_ok a h w).mono fun e w' ⟨h1, h2⟩ => ⟨_, dbl_lt ⟨a, h⟩, rfl, h1, h2⟩
set_option maxHeartbeats 3200000 in
set_option maxRecDepth 100000 in
theorem fillRow_ok (g o b sb : Nat) (w : World) (hb : b < 256) (hsb : sb < 256) (ht : w.there g o 1085) :
    Calls Tryd.prog 75 #[.pointer (some ⟨g, o, none⟩), .int .u8 b, .int .u8 sb] w fun e w' => e = .returned (.tuple #[]) ∧ ∃ m, w' = (rowSet w g o b sb).drewN m := by
  have t1 := ht (61 + b) (by omega)
  have t2 := ht (317 + sb) (by omega)
  rw [← Nat.add_assoc] at t1 t2
  obtain ⟨p1, q1⟩ := t1
  obtain ⟨p2, q2⟩ := t2
  obtain ⟨v1, c1⟩ := Option.isSome_iff_exists.1 p1
  obtain ⟨v2, c2⟩ := Option.isSome_iff_exists.1 p2
  clear p1 p2
  have HT : Hid (w.there g o 1085) := ht
  clear ht
  go_enter Tryd.func75, Tryd.ntmps75
  go_wp2
  go_region
  go_wp2_with (first | (go_at_call 84; (refine (dbl_ex sb hsb _).mono ?_)))
  rintro e1 w1 ⟨z, hz, HZ, rfl, hw1⟩
  have ht1 : w1.there g o 1085 := by rw [hw1]; exact (World.there_drew _ _ _ _).2 (World.there_setCells (World.there_setCells HT.out _ _ [_]) _ _ [_])
  have HW1 : Hid (w1 = (((w.setCell ⟨g, o + 61 + b, none⟩ (.int .u8 (sb : Nat))).setCell ⟨g, o + 317 + sb, none⟩ (.int .u8 (b : Nat))).drew)) := hw1
  clear hw1 HT c1 c2 q1 q2
  have t3 := ht1 (573 + b) (by omega)
  rw [← Nat.add_assoc] at t3
  obtain ⟨p3, q3⟩ := t3
  obtain ⟨v3, c3⟩ := Option.isSome_iff_exists.1 p3
  clear p3
  have HT1 : Hid (w1.there g o 1085) := ht1
  clear ht1
  obtain ⟨m0, HM0⟩ : ∃ m : Nat, Hid (m = wd (x2 sb) sb sb (x3 sb)) := ⟨_, rfl⟩
  have hx3 := xor_lt8 hz hsb
  have hk0 : Hid (∀ u, Calls Tryd.prog 83 #[.int .u8 (z : Nat), .int .u8 (sb : Nat), .int .u8 (sb : Nat), .int .u8 (bits .xor .u8 (z : Int) (sb : Int))] u fun e u' => e = .returned (.int .u32 (m0 : Nat)) ∧ u' = u) := fun u => by
    rw [xor8 _ _ hz hsb, HM0.out, HZ.out]
    rw [HZ.out] at hz hx3
    exact word_ok _ _ _ _ hz hsb hsb hx3 u
  clear hx3
  have hbi : ((b : Nat) : Int) < 256 := by omega
  go_wp2
  go_region_held3 (fun _ => True) (trivial) ((go_at_call 83; refine (hk0.out _).mono ?_; rintro e2 w2 ⟨rfl, hw2⟩; obtain rfl := hw2.symm))
  have HT2 : Hid ((w1.setCell ⟨g, o + 573 + b, none⟩ (.int .u32 (m0 : Nat))).drew.there g o 1085) := (World.there_drew _ _ _ _).2 (World.there_setCells HT1.out _ _ [_])
  obtain ⟨w2, HW2⟩ : ∃ w2, Hid (w2 = (w1.setCell ⟨g, o + 573 + b, none⟩ (.int .u32 (m0 : Nat))).drew) := ⟨_, rfl⟩
  rw [← HW2.out] at HT2 ⊢
  clear hk0 c3 q3 HT1
  go_wp2_with (first | (go_at_call 84; (refine (dbl_ex b hb _).mono ?_)))
  rintro e3 w3 ⟨d2, hd2, HD2, rfl, hw3⟩
  obtain rfl := hw3.symm
  go_wp2_with (first | (go_at_call 84; (refine (dbl_ex d2 hd2 _).mono ?_)))
  rintro e4 w4 ⟨d4, hd4, HD4, rfl, hw4⟩
  obtain rfl := hw4.symm
  go_wp2_with (first | (go_at_call 84; (refine (dbl_ex d4 hd4 _).mono ?_)))
  rintro e5 w5 ⟨d8, hd8, HD8, rfl, hw5⟩
  obtain rfl := hw5.symm
  have t4 := HT2.out (829 + b) (by omega)
  rw [← Nat.add_assoc] at t4
  obtain ⟨p4, q4⟩ := t4
  obtain ⟨v4, c4⟩ := Option.isSome_iff_exists.1 p4
  clear p4
  obtain ⟨n0, HN0⟩ : ∃ m : Nat, Hid (m = wd (x14 b) (x9 b) (x13 b) (x11 b)) := ⟨_, rfl⟩
  have hk1 : Hid (∀ u, Calls Tryd.prog 83 #[.int .u8 (bits .xor .u8 (bits .xor .u8 (d8 : Int) (d4 : Int)) (d2 : Int)), .int .u8 (bits .xor .u8 (d8 : Int) (b : Int)), .int .u8 (bits .xor .u8 (bits .xor .u8 (d8 : Int) (d4 : Int)) (b : Int)), .int .u8 (bits .xor .u8 (bits .xor .u8 (d8 : Int) (d2 : Int)) (b : Int))] u fun e u' => e = .returned (.int .u32 (n0 : Nat)) ∧ u' = u) := fun u => by
    rw [xor8 _ _ hd8 hd4, xor8 _ _ hd8 hd2, xor8 _ _ hd8 hb, xor8 _ _ (xor_lt8 hd8 hd4) hd2, xor8 _ _ (xor_lt8 hd8 hd4) hb, xor8 _ _ (xor_lt8 hd8 hd2) hb]
    have h := word_ok _ _ _ _ (xor_lt8 (xor_lt8 hd8 hd4) hd2) (xor_lt8 hd8 hb) (xor_lt8 (xor_lt8 hd8 hd4) hb) (xor_lt8 (xor_lt8 hd8 hd2) hb) u
    have e : n0 = wd (Nat.xor (Nat.xor d8 d4) d2) (Nat.xor d8 b) (Nat.xor (Nat.xor d8 d4) b) (Nat.xor (Nat.xor d8 d2) b) := by
      rw [HN0.out, HD8.out, HD4.out, HD2.out]
      exact rfl
    rw [e]
    exact h
  go_wp2
  go_region_held3 (fun _ => True) (trivial) ((go_at_call 83; refine (hk1.out _).mono ?_; rintro e6 w6 ⟨rfl, hw6⟩; obtain rfl := hw6.symm))
  go_wp2
  go_end0
  refine ⟨rfl, 3, ?_⟩
  rw [HN0.out, HW2.out, HM0.out, HW1.out]
  exact rfl
end Go.Proofs.YtgmfiljjogdccaaDoor
namespace Go.Proofs.YtgmfiljjogdccaaDoor
open Go.RowKit
variable {P : Program}

/-- A new variable of a great type: its zero cells are handed in. -/
theorem wpList_alloc_big {ops : Array Oper} {rest : List Oper} {op : Oper} {a : Act} {w : World} {Q : Exit → Act → World → Prop} (hgd : op.guard = none) (ty : TypeId) (ho : op.op = .alloc ty)
    (cells : Array Value) (hz : ((P.info? ty).bind (·.zero)).map (·.cells) = some cells) (B : Nat) (hB : w.heap.size = B)
    (h : wpList P ops Q rest (a.put op.dst (.pointer (some ⟨B, 0, none⟩))) (w.alloc (.cells cells ty))) : wpList P ops Q (op :: rest) a w := by
  subst hB
  refine wpList_plain hgd fun K hK => ?_
  cases hi : P.info? ty with
  | none => simp [hi] at hz
  | some i =>
    cases hzz : i.zero with
    | none => simp [hi, hzz] at hz
    | some z =>
      have hc : z.cells = cells := by simpa [hi, hzz] using hz
      have hrun : (Instr.alloc ty true (.tuple #[])).run P w = .ok (.pointer (some ⟨w.heap.size, 0, none⟩)) (w.alloc (.cells cells ty)) := by
        simp [Instr.alloc, zeroValue, typeInfo, hi, hzz, newVar, newRow, hc]
      unfold Oper.wp execOp
      simp only [ho, Sem.run_bind, hrun, Result.andThen_ok, Sem.run_pure]
      exact hK _ _ h

/-- A great value that is built. -/
theorem wpList_build_big {ops : Array Oper} {rest : List Oper} {op : Oper} {a : Act} {w : World} {Q : Exit → Act → World → Prop} (hgd : op.guard = none) (ty : TypeId) (parts : Array (Nat × Operand)) (ho : op.op = .build ty parts)
    (cells : Array Value) (hb : P.built ty (parts.map fun (i, x) => (i, a.eval x)).toList = some cells)
    (h : wpList P ops Q rest (a.put op.dst (.agg cells)) w) : wpList P ops Q (op :: rest) a w := by
  refine wpList_plain hgd fun K hK => ?_
  have hrun := run_build (P := P) w ty (parts.map fun (i, x) => (i, a.eval x)) cells hb
  unfold Oper.wp execOp
  simp only [ho, Sem.run_bind, hrun, Result.andThen_ok, Sem.run_pure]
  exact hK _ _ h

theorem sizeB_setCells (b : Nat) : ∀ (vs : List Value) (o : Nat) (w : World), (w.setCells b o vs).heap.size = w.heap.size
  | [], _, _ => rfl
  | v :: r, o, w => by rw [World.setCells, sizeB_setCells b r (o + 1)]; simp [World.setCell]
theorem belowB_setCells (b : Nat) {B : Nat} (hB : B ≤ b) {a : World} : ∀ (vs : List Value) (o : Nat) (w : World), Below B a w → Below B a (w.setCells b o vs)
  | [], _, _, h => h
  | v :: r, o, w, h => by rw [World.setCells]; exact belowB_setCells b hB r (o + 1) _ (h.setCell hB _)
theorem rangeAt_new (w : World) (C : Array Value) (t : TypeId) : (w.alloc (.cells C t)).rangeAt w.heap.size 0 C.toList := fun j v hv => by
  rw [World.cell?_alloc_at C t _ _ rfl]
  simpa using hv
theorem there_new (w : World) (C : Array Value) (t : TypeId) (n : Nat) (hn : n ≤ C.size) : (w.alloc (.cells C t)).there w.heap.size 0 n := fun j hj => by
  refine ⟨?_, World.frozen?_alloc_at C t _ _ rfl⟩
  rw [World.cell?_alloc_at C t _ _ rfl]
  simp
  omega
end Go.Proofs.YtgmfiljjogdccaaDoor
