import Derived.Test.YtffejkfkkciaaaaProg
import Derived.WalkKit
import Derived.Laws.BitsLemmas
namespace Go.Proofs.Ytffejkfkkciaaaa
open Go.RowKit
/-- The product by x. -/
def dblN (a : Nat) : Nat := Nat.xor (Nat.mod (Nat.mul a 2) 256) (Nat.mul (Nat.div a 128) 27)
/-- Times, k rounds of it. -/
def tmsN : Nat → Nat → Nat → Nat → Nat
  | 0, p, _, _ => p
  | k + 1, p, a, b => tmsN k (Nat.xor p (Nat.mul (Nat.mod b 2) a)) (dblN a) (Nat.div b 2)
def refP (a b : Nat) : Nat → Nat
  | 0 => 0
  | i + 1 => Nat.xor (refP a b i) (Nat.mul (Nat.mod (Nat.div b (Nat.pow 2 i)) 2) (Nat.mul a (Nat.pow 2 i)))
def refR : Nat → Nat → Nat
  | 0, p => p
  | i + 1, p => refR i (Nat.xor p (Nat.mul (Nat.mod (Nat.div p (Nat.pow 2 (Nat.add i 8))) 2) (Nat.mul 283 (Nat.pow 2 i))))
def allB (f : Nat → Bool) : Nat → Bool
  | 0 => true
  | n + 1 => and (f n) (allB f n)
theorem allB_at {f : Nat → Bool} : ∀ {n : Nat}, allB f n = true → ∀ {i}, i < n → f i = true
  | 0, _, i, h => by omega
  | n + 1, ha, i, h => by
    simp only [allB, Bool.and_eq_true] at ha
    by_cases hi : i = n
    · subst hi; exact ha.1
    · exact allB_at ha.2 (by omega)
theorem dbl_eq : ∀ a : Fin 256, bits .xor .u8 ((a.1 : Int) * 2 % 256) (bits .and .u8 27 (-((a.1 : Int) / 128) % 256)) = (dblN a.1 : Nat) := by decide +kernel
theorem dbl_lt : ∀ a : Fin 256, dblN a.1 < 256 := by decide +kernel
theorem and_one : ∀ b : Fin 256, bits .and .u8 (b.1 : Int) 1 = ((b.1 % 2 : Nat) : Int) := by decide +kernel
theorem and_all : ∀ b : Fin 256, bits .and .u8 (b.1 : Int) 255 = (b.1 : Int) := by decide +kernel
theorem and_none : ∀ b : Fin 256, bits .and .u8 (b.1 : Int) 0 = 0 := by decide +kernel
theorem bits_xor (k : IntKind) (j : Nat) (hj : j ≤ k.bits) (hk : ∀ n : Int, 0 ≤ n → n < 2 ^ j → k.wrap n = n) (a b : Nat) (ha : a < 2 ^ j) (hb : b < 2 ^ j) :
    bits .xor k a b = ((Nat.xor a b : Nat) : Int) := by
  have hp : 2 ^ j ≤ 2 ^ k.bits := Nat.pow_le_pow_right (by decide) hj
  have ha' : a % 2 ^ k.bits = a := Nat.mod_eq_of_lt (Nat.lt_of_lt_of_le ha hp)
  have hb' : b % 2 ^ k.bits = b := Nat.mod_eq_of_lt (Nat.lt_of_lt_of_le hb hp)
  have cast : ∀ n : Nat, n < 2 ^ j → ((n : Nat) : Int) < 2 ^ j := fun n h => by exact_mod_cast h
  simp only [bits, BitVec.ofInt_natCast, BitVec.toNat_xor, BitVec.toNat_ofNat, ha', hb']
  exact hk _ (Int.natCast_nonneg _) (cast _ (Nat.xor_lt_two_pow ha hb))
theorem wraps_i64 (n : Int) (h₀ : 0 ≤ n) (h₁ : n < 2 ^ 63) : IntKind.i64.wrap n = n := by rw [IntKind.wrap_i64]; omega
theorem xor8 (a b : Nat) (ha : a < 256) (hb : b < 256) : bits .xor .u8 (a : Int) b = (Nat.xor a b : Nat) := bits_xor .u8 8 (by decide) wraps_u8 a b ha hb
theorem xor15 (a b : Nat) (ha : a < 32768) (hb : b < 32768) : bits .xor .i64 (a : Int) b = (Nat.xor a b : Nat) := bits_xor .i64 15 (by decide) (fun n h0 h1 => wraps_i64 n h0 (by omega)) a b ha hb
theorem xor_lt15 {a b : Nat} (ha : a < 32768) (hb : b < 32768) : Nat.xor a b < 32768 := Nat.xor_lt_two_pow (n := 15) ha hb
theorem bit_eq (b k : Nat) : (((b : Int) / 2 ^ k).tmod 2 == 1) = (Nat.mod (Nat.div b (Nat.pow 2 k)) 2 == 1) := by
  have e : ((b : Int) / 2 ^ k) = ((b / 2 ^ k : Nat) : Int) := by push_cast; rfl
  rw [e, show (2 : Int) = ((2 : Nat) : Int) from rfl, ← Int.ofNat_tmod]
  show _ = (b / 2 ^ k % 2 == 1)
  have : b / 2 ^ k % 2 = 0 ∨ b / 2 ^ k % 2 = 1 := by omega
  rcases this with h | h <;> rw [h] <;> rfl
theorem bit_cases (n : Nat) : Nat.mod n 2 = 0 ∨ Nat.mod n 2 = 1 := by
  have : n % 2 = 0 ∨ n % 2 = 1 := by omega
  exact this
theorem xor_lt8 {a b : Nat} (ha : a < 256) (hb : b < 256) : Nat.xor a b < 256 := Nat.xor_lt_two_pow (n := 8) ha hb
theorem mask_eq (a b : Nat) (ha : a < 256) (hb : b < 256) : bits .and .u8 (a : Int) (-(bits .and .u8 (b : Int) 1) % 256) = (Nat.mul (Nat.mod b 2) a : Nat) := by
  have h1 := and_one ⟨b, hb⟩
  simp only at h1
  rw [h1]
  have : b % 2 = 0 ∨ b % 2 = 1 := by omega
  rcases this with h | h
  · rw [h]
    have := and_none ⟨a, ha⟩
    simp only at this
    have e : Nat.mod b 2 = 0 := h
    rw [e]
    simpa using this
  · rw [h]
    have := and_all ⟨a, ha⟩
    simp only at this
    have e : Nat.mod b 2 = 1 := h
    rw [e]
    simpa using this
theorem ret_int {k : IntKind} {x y : Int} (h : x = y) : Ending.returned (.int k x) = .returned (.int k y) := by rw [h]
theorem val_eq {k : IntKind} {x y : Int} (h : x = y) : Value.int k x = Value.int k y := by rw [h]
theorem dbl_ok (a : Nat) (h : a < 256) (w : World) : Calls Try.prog 58 #[.int .u8 a] w fun e w' => e = .returned (.int .u8 (dblN a : Nat)) ∧ w' = w := by
  go_enter Try.func58, Try.ntmps58
  go_wp2
  go_ret
  exact ⟨ret_int (dbl_eq ⟨a, h⟩), rfl⟩
theorem tms_lt : ∀ (k p a b : Nat), p < 256 → a < 256 → b < 256 → tmsN k p a b < 256
  | 0, p, a, b, hp, _, _ => hp
  | k + 1, p, a, b, hp, ha, hb => by
    have : Nat.mul (Nat.mod b 2) a < 256 := by
      have : b % 2 = 0 ∨ b % 2 = 1 := by omega
      rcases this with h | h
      · rw [show Nat.mod b 2 = 0 from h]; simp
      · rw [show Nat.mod b 2 = 1 from h]; simpa using ha
    exact tms_lt k _ _ _ (xor_lt8 hp this) (dbl_lt ⟨a, ha⟩) (by show b / 2 < 256; omega)
theorem times_ok (a b : Nat) (ha : a < 256) (hb : b < 256) (w : World) : Calls Try.prog 53 #[.int .u8 a, .int .u8 b] w fun e w' => e = .returned (.int .u8 (tmsN 8 0 a b : Nat)) ∧ w' = w := by
  go_enter Try.func53, Try.ntmps53
  go_wp2
  go_loopw [0, 1, 5, 6] (fun va vb vp i wr => ∃ k x y p : Nat, k ≤ 8 ∧ x < 256 ∧ y < 256 ∧ p < 256 ∧ i = .int .i64 k ∧ va = .int .u8 x ∧ vb = .int .u8 y ∧ vp = .int .u8 p ∧ Hid (tmsN 8 0 a b = tmsN (8 - k) p x y) ∧ wr = w) (fun _ _ _ i _ => 8 - (intOf i).toNat)
  case atStart => exact ⟨0, a, b, 0, by omega, ha, hb, by omega, rfl, rfl, rfl, rfl, rfl, rfl⟩
  case round =>
    obtain ⟨k, x, y, p, hk, hx, hy, hp, rfl, rfl, rfl, rfl, HS, hw⟩ := hrel
    obtain rfl := hw.symm
    by_cases hlt : k < 8
    · go_wp2_with (first | (go_at_call 58; (refine (dbl_ok x hx _).mono ?_); (rintro e1 w1 ⟨rfl, hw1⟩; obtain rfl := hw1.symm)))
      go_roundw
      case rel =>
        have hm : Nat.mul (Nat.mod y 2) x < 256 := by
          have : y % 2 = 0 ∨ y % 2 = 1 := by omega
          rcases this with h | h
          · rw [show Nat.mod y 2 = 0 from h]; simp
          · rw [show Nat.mod y 2 = 1 from h]; simpa using hx
        refine ⟨k + 1, dblN x, y / 2, Nat.xor p (Nat.mul (Nat.mod y 2) x), by omega, dbl_lt ⟨x, hx⟩, by omega, xor_lt8 hp hm, by go_num, rfl, val_eq (by omega), val_eq ?_, ?_, trivial⟩
        · rw [mask_eq x y hx hy, xor8 _ _ hp hm]
        · have := HS.out
          rw [show 8 - k = 8 - (k + 1) + 1 by omega] at this
          exact this
      case measure => simp [intOf]; omega
    · obtain rfl : k = 8 := by omega
      go_wp2
      go_ret
      exact ⟨ret_int (by rw [HS.out]; rfl), rfl⟩
theorem refTimes_ok (a b : Nat) (ha : a < 256) (hb : b < 256) (w : World) : Calls Try.prog 32 #[.int .u8 a, .int .u8 b] w fun e w' => e = .returned (.int .u8 (Nat.mod (refR 7 (refP a b 8)) 256 : Nat)) ∧ w' = w := by
  go_enter Try.func32, Try.ntmps32
  go_wp2
  go_loopw [5, 6] (fun vp i wr => ∃ k p : Nat, k ≤ 8 ∧ i = .int .i64 k ∧ vp = .int .i64 p ∧ p < 32768 ∧ Hid (p = refP a b k) ∧ wr = w) (fun _ i _ => 8 - (intOf i).toNat)
  case atStart => exact ⟨0, 0, by omega, rfl, rfl, by omega, rfl, rfl⟩
  case round =>
    obtain ⟨k, p, hk, rfl, rfl, hp, HS, hw⟩ := hrel
    obtain rfl := hw.symm
    by_cases hlt : k < 8
    · have hsh : wrap64 ((a : Int) * 2 ^ k) = (Nat.mul a (Nat.pow 2 k) : Nat) ∧ Nat.mul a (Nat.pow 2 k) < 32768 := by
        have h8 : k = 0 ∨ k = 1 ∨ k = 2 ∨ k = 3 ∨ k = 4 ∨ k = 5 ∨ k = 6 ∨ k = 7 := by omega
        show wrap64 ((a : Int) * 2 ^ k) = (a * 2 ^ k : Nat) ∧ a * 2 ^ k < 32768
        rcases h8 with rfl | rfl | rfl | rfl | rfl | rfl | rfl | rfl <;> (unfold wrap64; omega)
      have hbit := bit_eq b k
      have HB : Hid ((((b : Int) / 2 ^ k).tmod 2 == 1) = (Nat.mod (Nat.div b (Nat.pow 2 k)) 2 == 1)) := hbit
      have HSH : Hid (wrap64 ((a : Int) * 2 ^ k) = (Nat.mul a (Nat.pow 2 k) : Nat) ∧ Nat.mul a (Nat.pow 2 k) < 32768) := hsh
      clear hbit hsh
      go_wp2
      · have hc : (((b : Int) / 2 ^ k).tmod 2 == 1) = true := by assumption
        have h1 : Nat.mod (Nat.div b (Nat.pow 2 k)) 2 = 1 := by
          rw [HB.out] at hc
          exact eq_of_beq hc
        obtain ⟨e1, e2⟩ := HSH.out
        refine ⟨⟨k + 1, Nat.xor p (Nat.mul a (Nat.pow 2 k)), by omega, rfl, val_eq ?_, xor_lt15 hp e2, ?_, trivial⟩, ?_⟩
        · rw [e1, xor15 _ _ hp e2]
        · show Nat.xor p (Nat.mul a (Nat.pow 2 k)) = _
          rw [HS.out]
          show _ = Nat.xor (refP a b k) (Nat.mul (Nat.mod (Nat.div b (Nat.pow 2 k)) 2) (Nat.mul a (Nat.pow 2 k)))
          rw [h1]
          simp
        · simp [intOf]; omega
      · have hc : (((b : Int) / 2 ^ k).tmod 2 == 1) = false := by assumption
        have h1 : Nat.mod (Nat.div b (Nat.pow 2 k)) 2 = 0 := by
          rw [HB.out] at hc
          rcases bit_cases (Nat.div b (Nat.pow 2 k)) with h | h
          · exact h
          · rw [h] at hc; cases hc
        refine ⟨⟨k + 1, p, by omega, rfl, rfl, hp, ?_, trivial⟩, ?_⟩
        · show p = _
          rw [HS.out]
          show _ = Nat.xor (refP a b k) (Nat.mul (Nat.mod (Nat.div b (Nat.pow 2 k)) 2) (Nat.mul a (Nat.pow 2 k)))
          rw [h1]
          simp
        · simp [intOf]; omega
    · obtain rfl : k = 8 := by omega
      clear hlt hk
      go_wp2
      go_loopw [5, 7] (fun vp i wr => ∃ j p : Nat, j ≤ 7 ∧ i = .int .i64 (j + 7) ∧ vp = .int .i64 p ∧ p < 32768 ∧ Hid (refR 7 (refP a b 8) = refR j p) ∧ wr = w) (fun _ i _ => (intOf i).toNat)
      case atStart => exact ⟨7, p, by omega, rfl, rfl, hp, (by rw [← HS.out] : refR 7 (refP a b 8) = refR 7 p), rfl⟩
      case round =>
        clear HS hp
        obtain ⟨j, p, hj, rfl, rfl, hp, HS, hw⟩ := hrel
        obtain rfl := hw.symm
        cases j with
        | zero =>
          go_wp2
          go_ret
          refine ⟨ret_int ?_, rfl⟩
          rw [HS.out]
          show _ = ((p % 256 : Nat) : Int)
          omega
        | succ j =>
          have HB : Hid ((((p : Int) / 2 ^ (j + 1 + 7)).tmod 2 == 1) = (Nat.mod (Nat.div p (Nat.pow 2 (Nat.add j 8))) 2 == 1)) := bit_eq p (j + 8)
          have HSH : Hid (wrap64 (283 * 2 ^ j) = (Nat.mul 283 (Nat.pow 2 j) : Nat) ∧ Nat.mul 283 (Nat.pow 2 j) < 32768) := by
            have h8 : j = 0 ∨ j = 1 ∨ j = 2 ∨ j = 3 ∨ j = 4 ∨ j = 5 ∨ j = 6 := by omega
            rcases h8 with rfl | rfl | rfl | rfl | rfl | rfl | rfl <;> exact ⟨by decide +kernel, by decide⟩
          have HR : Hid (refR (j + 1) p = refR j (Nat.xor p (Nat.mul (Nat.mod (Nat.div p (Nat.pow 2 (Nat.add j 8))) 2) (Nat.mul 283 (Nat.pow 2 j))))) := rfl
          go_wp2
          · have hc : (((p : Int) / 2 ^ (j + 1 + 7)).tmod 2 == 1) = true := by assumption
            have h1 : Nat.mod (Nat.div p (Nat.pow 2 (Nat.add j 8))) 2 = 1 := by
              rw [HB.out] at hc
              exact eq_of_beq hc
            obtain ⟨e1, e2⟩ := HSH.out
            refine ⟨⟨j, Nat.xor p (Nat.mul 283 (Nat.pow 2 j)), by omega, val_eq (by omega), val_eq ?_, xor_lt15 hp e2, ?_, trivial⟩, ?_⟩
            · rw [e1, xor15 _ _ hp e2]
            · show refR 7 (refP a b 8) = _
              rw [HS.out, HR.out, h1]
              simp
            · simp only [intOf]; omega
          · have hc : (((p : Int) / 2 ^ (j + 1 + 7)).tmod 2 == 1) = false := by assumption
            have h1 : Nat.mod (Nat.div p (Nat.pow 2 (Nat.add j 8))) 2 = 0 := by
              rw [HB.out] at hc
              rcases bit_cases (Nat.div p (Nat.pow 2 (Nat.add j 8))) with h | h
              · exact h
              · rw [h] at hc; cases hc
            refine ⟨⟨j, p, by omega, val_eq (by omega), rfl, hp, ?_, trivial⟩, ?_⟩
            · show refR 7 (refP a b 8) = _
              rw [HS.out, HR.out, h1]
              simp
            · simp only [intOf]; omega
end Go.Proofs.Ytffejkfkkciaaaa
