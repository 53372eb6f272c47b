import Derived.Laws.ComplexArith
namespace Go.Proofs.Ytaejoohbmdckhaa
set_option linter.unusedVariables false
open Ieee
/-- The word of a whole number. -/
def fw (z : Int) : Nat := Ieee.double.nearest (decide (z < 0)) z.natAbs 0
theorem log2_mul_pow (n k : Nat) (h : n ≠ 0) : (n * 2 ^ k).log2 = n.log2 + k := by
  have hp := Nat.two_pow_pos k
  refine (Nat.log2_eq_iff (Nat.mul_ne_zero h (by omega))).2 ⟨?_, ?_⟩
  · rw [Nat.pow_add]
    exact Nat.mul_le_mul_right _ (Nat.log2_self_le h)
  · rw [show n.log2 + k + 1 = (n.log2 + 1) + k by omega, Nat.pow_add]
    exact Nat.mul_lt_mul_of_pos_right Nat.lt_log2_self hp
theorem log2_le {n : Nat} (h0 : n ≠ 0) (h : n < 2 ^ 21) : n.log2 < 21 := (Nat.log2_lt h0).2 h
theorem log2_bounds {n : Nat} (h0 : n ≠ 0) : 2 ^ n.log2 ≤ n ∧ n < 2 ^ (n.log2 + 1) := ⟨Nat.log2_self_le h0, Nat.lt_log2_self⟩
theorem cut_exact (neg : Bool) (n d : Nat) (h0 : n ≠ 0) (hd : d ≤ (n * 2 ^ d).log2 + 2) : Toward.even.cut neg (n * 2 ^ d) d = n := by
  have h : min d ((n * 2 ^ d).log2 + 2) = d := Nat.min_eq_left hd
  have hp : 0 < 2 ^ d := Nat.two_pow_pos d
  have h1 : n * 2 ^ d / 2 ^ d = n := Nat.mul_div_cancel _ hp
  have h2 : n * 2 ^ d % 2 ^ d = 0 := Nat.mul_mod_left ..
  simp only [Toward.cut]
  rw [h, Nat.shiftLeft_eq, Nat.one_mul, h1, h2]
  have h3 : ¬ (2 ^ d < 2 * 0) := by omega
  have h4 : (2 ^ d == 2 * 0) = false := by rw [beq_eq_false_iff_ne]; omega
  simp [h4]
/-- The rung of a whole number that is not nought. -/
def rg (n : Nat) : Nat := (n.log2 + 1022) * 2 ^ 52 + n * 2 ^ (52 - n.log2)
theorem nearest_any (neg : Bool) (n k : Nat) (h0 : n ≠ 0) (hn : n < 2 ^ 21) : Ieee.double.nearest neg (n * 2 ^ k) (-(k : Int)) = Ieee.double.word neg (rg n) := by
  have hl := log2_le h0 hn
  have hm : n * 2 ^ k ≠ 0 := by have := Nat.two_pow_pos k; exact Nat.mul_ne_zero h0 (by omega)
  have e2 := log2_mul_pow n k h0
  simp only [Format.nearest]
  rw [if_neg hm, e2]
  have hL : max (-(k : Int) + ((n.log2 + k : Nat) : Int) - (Ieee.double.fractionBits : Nat)) Ieee.double.leastPlace = (n.log2 : Int) - 52 := by
    have h1 : Ieee.double.leastPlace = -1074 := by decide
    have h2 : Ieee.double.fractionBits = 52 := rfl
    rw [h1, h2]
    omega
  rw [hL]
  have hkept : Toward.even.cut neg ((n * 2 ^ k) <<< (-(k : Int) - ((n.log2 : Int) - 52)).toNat) (((n.log2 : Int) - 52) - -(k : Int)).toNat = n * 2 ^ (52 - n.log2) := by
    by_cases hc : k + n.log2 ≤ 52
    · have e3 : (((n.log2 : Int) - 52) - -(k : Int)).toNat = 0 := by omega
      have e4 : (-(k : Int) - ((n.log2 : Int) - 52)).toNat = 52 - n.log2 - k := by omega
      rw [e3, e4, Nat.shiftLeft_eq, Nat.mul_assoc, ← Nat.pow_add, show k + (52 - n.log2 - k) = 52 - n.log2 by omega]
      have := cut_exact neg (n * 2 ^ (52 - n.log2)) 0 (Nat.mul_ne_zero h0 (by have := Nat.two_pow_pos (52 - n.log2); omega)) (by omega)
      simpa using this
    · have e3 : (((n.log2 : Int) - 52) - -(k : Int)).toNat = k + n.log2 - 52 := by omega
      have e4 : (-(k : Int) - ((n.log2 : Int) - 52)).toNat = 0 := by omega
      rw [e3, e4, Nat.shiftLeft_eq, Nat.pow_zero, Nat.mul_one]
      have e5 : n * 2 ^ k = n * 2 ^ (52 - n.log2) * 2 ^ (k + n.log2 - 52) := by rw [Nat.mul_assoc, ← Nat.pow_add, show 52 - n.log2 + (k + n.log2 - 52) = k by omega]
      rw [e5]
      refine cut_exact neg (n * 2 ^ (52 - n.log2)) _ (Nat.mul_ne_zero h0 (by have := Nat.two_pow_pos (52 - n.log2); omega)) ?_
      rw [← e5, e2]
      omega
  rw [hkept]
  congr 1
  have h1 : Ieee.double.leastPlace = -1074 := by decide
  have h2 : Ieee.double.binade = 2 ^ 52 := by decide
  have h3 : Ieee.double.infRung = 2047 * 2 ^ 52 := by decide
  rw [h1, h2, h3, show ((n.log2 : Int) - 52 - -1074).toNat = n.log2 + 1022 by omega]
  unfold rg
  refine Nat.min_eq_left ?_
  have hb := (log2_bounds h0).2
  have hb2 : n * 2 ^ (52 - n.log2) < 2 ^ 53 := by
    have : n * 2 ^ (52 - n.log2) < 2 ^ (n.log2 + 1) * 2 ^ (52 - n.log2) := Nat.mul_lt_mul_of_pos_right hb (Nat.two_pow_pos _)
    rw [← Nat.pow_add, show n.log2 + 1 + (52 - n.log2) = 53 by omega] at this
    exact this
  omega
theorem rg_bounds {n : Nat} (h0 : n ≠ 0) (hn : n < 2 ^ 21) : 2 ^ 52 ≤ n * 2 ^ (52 - n.log2) ∧ n * 2 ^ (52 - n.log2) < 2 ^ 53 := by
  have hl := log2_le h0 hn
  have hb := log2_bounds h0
  constructor
  · have : 2 ^ n.log2 * 2 ^ (52 - n.log2) ≤ n * 2 ^ (52 - n.log2) := Nat.mul_le_mul_right _ hb.1
    rw [← Nat.pow_add, show n.log2 + (52 - n.log2) = 52 by omega] at this
    exact this
  · have : n * 2 ^ (52 - n.log2) < 2 ^ (n.log2 + 1) * 2 ^ (52 - n.log2) := Nat.mul_lt_mul_of_pos_right hb.2 (Nat.two_pow_pos _)
    rw [← Nat.pow_add, show n.log2 + 1 + (52 - n.log2) = 53 by omega] at this
    exact this
theorem read_rg (neg : Bool) (n : Nat) (h0 : n ≠ 0) (hn : n < 2 ^ 21) : Ieee.double.read (Ieee.double.word neg (rg n)) = .number neg (n * 2 ^ (52 - n.log2)) ((n.log2 : Int) - 52) := by
  have hl := log2_le h0 hn
  obtain ⟨b1, b2⟩ := rg_bounds h0 hn
  have hsw : Ieee.double.signWeight = 2 ^ 63 := by decide
  have h1 : Ieee.double.leastPlace = -1074 := by decide
  have h2 : Ieee.double.binade = 2 ^ 52 := by decide
  have h3 : Ieee.double.infRung = 2047 * 2 ^ 52 := by decide
  have hr : rg n < 2 ^ 63 := by unfold rg; omega
  have e1 : (Ieee.double.word neg (rg n) / Ieee.double.signWeight % 2 == 1) = neg := by
    rw [Format.word, hsw]
    cases neg
    · simp only [Bool.false_eq_true, if_false]; rw [Nat.div_eq_of_lt hr]; rfl
    · simp only [if_true]; rw [show (2 ^ 63 + rg n) / 2 ^ 63 = 1 by omega]; rfl
  have e2 : Ieee.double.word neg (rg n) % Ieee.double.signWeight = rg n := by
    rw [Format.word, hsw]
    cases neg
    · simp only [Bool.false_eq_true, if_false]; exact Nat.mod_eq_of_lt hr
    · simp only [if_true]; omega
  simp only [Format.read]
  rw [e1, e2, h1, h2, h3]
  have c1 : ¬ rg n < 2 ^ 52 := by unfold rg; omega
  have c2 : rg n < 2047 * 2 ^ 52 := by unfold rg; omega
  rw [if_neg c1, if_pos c2]
  have d1 : rg n / 2 ^ 52 = n.log2 + 1023 := by unfold rg; omega
  have d2 : 2 ^ 52 + rg n % 2 ^ 52 = n * 2 ^ (52 - n.log2) := by unfold rg; omega
  rw [d1, d2]
  have d3 : (-1074 : Int) + ((n.log2 + 1023 - 1 : Nat) : Int) = (n.log2 : Int) - 52 := by omega
  rw [d3]
theorem fw_pos {z : Int} (h0 : z ≠ 0) (hz : z.natAbs < 2 ^ 21) : fw z = Ieee.double.word (decide (z < 0)) (rg z.natAbs) := by
  have := nearest_any (decide (z < 0)) z.natAbs 0 (by omega) hz
  unfold fw
  simpa using this
theorem fw_zero : fw 0 = 0 := by decide
/-- What is read of it: so many units of 2^-p. -/
theorem read_fw (z : Int) (hz : z.natAbs < 2 ^ 21) : ∃ s m p, Ieee.double.read (fw z) = .number s m (-(p : Nat)) ∧ signed s m 0 = z * 2 ^ p ∧ p ≤ 1074 ∧ s = decide (z < 0) := by
  by_cases h0 : z = 0
  · subst h0
    refine ⟨false, 0, 1074, ?_, ?_, Nat.le_refl _, rfl⟩
    · rw [fw_zero]; decide
    · rw [Int.zero_mul]; rfl
  · have hl := log2_le (n := z.natAbs) (by omega) hz
    refine ⟨decide (z < 0), z.natAbs * 2 ^ (52 - z.natAbs.log2), 52 - z.natAbs.log2, ?_, ?_, by omega, rfl⟩
    · rw [fw_pos h0 hz, read_rg _ _ (by omega) hz]
      have d3 : ((z.natAbs.log2 : Nat) : Int) - 52 = -((52 - z.natAbs.log2 : Nat) : Int) := by omega
      rw [d3]
    · rw [signed, Nat.shiftLeft_eq, Nat.pow_zero, Nat.mul_one]
      have e : ((z.natAbs * 2 ^ (52 - z.natAbs.log2) : Nat) : Int) = (z.natAbs : Int) * 2 ^ (52 - z.natAbs.log2) := by simp
      rw [e]
      by_cases hn : z < 0
      · simp only [hn, decide_true, if_true]
        rw [show (z.natAbs : Int) = -z by omega, Int.neg_mul, Int.neg_neg]
      · simp only [hn, decide_false, Bool.false_eq_true, if_false]
        rw [show (z.natAbs : Int) = z by omega]

theorem signed_int (s : Bool) (m u : Nat) : signed s m u = signed s m 0 * 2 ^ u := by
  unfold signed
  rw [Nat.shiftLeft_eq, Nat.shiftLeft_eq, Nat.pow_zero, Nat.mul_one]
  cases s <;> simp [Int.neg_mul]
theorem natAbs_mul_pow (z : Int) (k : Nat) : (z * 2 ^ k).natAbs = z.natAbs * 2 ^ k := by
  rw [Int.natAbs_mul, Int.natAbs_pow]
  rfl
/-- The sum of two whole numbers is whole. -/
theorem add_fw (a b : Int) (ha : a.natAbs < 2 ^ 20) (hb : b.natAbs < 2 ^ 20) : Ieee.double.add (fw a) (fw b) = some (fw (a + b)) := by
  obtain ⟨s, m, p, r1, v1, p1, q1⟩ := read_fw a (by omega)
  obtain ⟨t, n, q, r2, v2, p2, q2⟩ := read_fw b (by omega)
  unfold Format.add
  rw [r1, r2]
  simp only [Datum.sum, Option.map_some, Option.some.injEq]
  obtain ⟨k, hk, hkl⟩ : ∃ k : Nat, min (-(p : Int)) (-(q : Int)) = -(k : Int) ∧ k = max p q := ⟨max p q, by omega, rfl⟩
  rw [hk]
  have e1 : signed s m (-(p : Int) - -(k : Int)).toNat = a * 2 ^ k := by
    rw [signed_int, v1, Int.mul_assoc, ← Int.pow_add, show p + (-(p : Int) - -(k : Int)).toNat = k by omega]
  have e2 : signed t n (-(q : Int) - -(k : Int)).toNat = b * 2 ^ k := by
    rw [signed_int, v2, Int.mul_assoc, ← Int.pow_add, show q + (-(q : Int) - -(k : Int)).toNat = k by omega]
  rw [e1, e2, ← Int.add_mul]
  have hp : (0 : Int) < 2 ^ k := Int.pow_pos (by omega)
  have hs : (if (a + b) * 2 ^ k = 0 then s && t else decide ((a + b) * 2 ^ k < 0)) = (if a + b = 0 then s && t else decide (a + b < 0)) := by
    by_cases h : a + b = 0
    · rw [h, Int.zero_mul]
    · have h1 : (a + b) * 2 ^ k ≠ 0 := Int.mul_ne_zero h (by omega)
      rw [if_neg h1, if_neg h]
      congr 1
      rw [eq_iff_iff]
      constructor
      · intro h2
        by_cases h3 : a + b < 0
        · exact h3
        · have := Int.mul_nonneg (show 0 ≤ a + b by omega) (Int.le_of_lt hp)
          omega
      · intro h2
        exact Int.mul_neg_of_neg_of_pos h2 hp
  simp only [Format.write]
  rw [hs, natAbs_mul_pow]
  by_cases h : a + b = 0
  · rw [h]
    simp only [if_true]
    have hst : (s && t) = false := by
      rw [q1, q2]
      by_cases h1 : a < 0
      · simp; omega
      · simp [h1]
    rw [hst, fw_zero]
    simp only [Int.natAbs_zero, Nat.zero_mul, Format.nearest, if_true]
    rfl
  · rw [if_neg h, nearest_any _ _ _ (by omega) (by omega), fw_pos h (by omega)]
/-- A whole number as an integer. -/
theorem toInt_fw (a : Int) (ha : a.natAbs < 2 ^ 20) : floatToIntVal .f64 (fw a) .i64 = some a := by
  obtain ⟨s, m, p, r1, v1, p1, q1⟩ := read_fw a (by omega)
  have hm : m = a.natAbs * 2 ^ p := by
    have := congrArg Int.natAbs v1
    rw [natAbs_mul_pow] at this
    rw [← this]
    unfold signed
    rw [Nat.shiftLeft_eq, Nat.pow_zero, Nat.mul_one]
    cases s <;> simp
  have hcut : Toward.zero.cut s (m <<< (-(p : Int)).toNat) (-(-(p : Int))).toNat = a.natAbs := by
    rw [show (-(p : Int)).toNat = 0 by omega, show (-(-(p : Int))).toNat = p by omega, Nat.shiftLeft_eq, Nat.pow_zero, Nat.mul_one, hm]
    simp only [Toward.cut]
    by_cases h0 : a = 0
    · subst h0
      simp
    · have hmn : min p ((a.natAbs * 2 ^ p).log2 + 2) = p := Nat.min_eq_left (by rw [log2_mul_pow _ _ (by omega)]; omega)
      rw [hmn, Nat.shiftLeft_eq, Nat.one_mul, Nat.mul_div_cancel _ (Nat.two_pow_pos p)]
      rfl
  have hr : (FloatKind.f64.decode (fw a)).toInt .zero = some a := by
    show (Ieee.double.read (fw a)).toInt .zero = some a
    rw [r1]
    simp only [Datum.toInt, Datum.integral]
    rw [hcut, q1]
    unfold signed
    rw [Nat.shiftLeft_eq, Nat.pow_zero, Nat.mul_one]
    by_cases h : a < 0
    · simp [h]; omega
    · simp [h]; omega
  unfold floatToIntVal
  rw [hr]
  simp only
  have e1 : IntKind.i64.min = -9223372036854775808 := by decide
  have e2 : IntKind.i64.max = 9223372036854775807 := by decide
  rw [e1, e2, if_pos (by omega)]
theorem csum_fw (a b c d : Int) (ha : a.natAbs < 2 ^ 20) (hb : b.natAbs < 2 ^ 20) (hc : c.natAbs < 2 ^ 20) (hd : d.natAbs < 2 ^ 20) : cSumBits .add .f64 (fw a) (fw b) (fw c) (fw d) = some (fw (a + c), fw (b + d)) := by
  have h1 : floatBits .add .f64 (fw a) (fw c) = some (fw (a + c)) := add_fw a c ha hc
  have h2 : floatBits .add .f64 (fw b) (fw d) = some (fw (b + d)) := add_fw b d hb hd
  unfold cSumBits
  rw [h1, h2]
  rfl
theorem fw_one : fw 1 = 4607182418800017408 := by decide
theorem fw_neg : fw (-1) = 13830554455654793216 := by decide
end Go.Proofs.Ytaejoohbmdckhaa
