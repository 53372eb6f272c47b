import Derived.Test.YtaejoohbmdckhaaWf
namespace Go.Proofs.Ytaejoohbmdckhaa
open Go.RowKit
set_option linter.unusedVariables false
set_option linter.unusedSimpArgs false
/-- Bytes and bytes behind them. -/
def cat (f g : Nat → Nat) (n : Nat) (i : Nat) : Nat := if i < n then f i else g (i - n)
theorem cat_l {f g : Nat → Nat} {n i : Nat} (h : i < n) : cat f g n i = f i := by unfold cat; rw [if_pos h]
theorem cat_r (f g : Nat → Nat) (n i : Nat) : cat f g n (n + i) = g i := by unfold cat; rw [if_neg (by omega), Nat.add_sub_cancel_left]
theorem ones_congr {f g : Nat → Nat} : ∀ n, (∀ i, i < n → f i = g i) → onesF f n = onesF g n
  | 0, _ => rfl
  | n + 1, h => by rw [onesF, onesF, ones_congr n (fun i hi => h i (by omega)), h n (by omega)]
theorem ones_cat (f g : Nat → Nat) (n : Nat) : ∀ m, onesF (cat f g n) (n + m) = onesF f n + onesF g m
  | 0 => by rw [Nat.add_zero, ones_congr n (fun i hi => cat_l hi)]; rfl
  | m + 1 => by rw [← Nat.add_assoc, onesF, ones_cat f g n m, cat_r, onesF]; omega
theorem rn_congr {f g : Nat → Nat} : ∀ n, (∀ i, i < n → f i = g i) → rnF f n = rnF g n
  | 0, _ => rfl
  | n + 1, h => by
    rw [rnF, rnF, rn_congr n (fun i hi => h i (by omega)), h n (by omega)]
    cases n with
    | zero => simp
    | succ n => rw [h (n + 1 - 1) (by omega)]
theorem lg_congr {f g : Nat → Nat} : ∀ n, (∀ i, i < n → f i = g i) → lgF f n = lgF g n
  | 0, _ => rfl
  | n + 1, h => by rw [lgF, lgF, lg_congr n (fun i hi => h i (by omega)), rn_congr (n + 1) h]
theorem rn_cat (f g : Nat → Nat) (n : Nat) : ∀ m, rnF g m ≤ rnF (cat f g n) (n + m) ∧ rnF (cat f g n) (n + m) ≤ rnF f n + rnF g m
  | 0 => by rw [Nat.add_zero, rn_congr n (fun i hi => cat_l hi)]; simp [rnF]
  | m + 1 => by
    have ih := rn_cat f g n m
    rw [← Nat.add_assoc, rnF, rnF, cat_r]
    cases m with
    | zero =>
      simp only [Nat.add_zero, Nat.lt_irrefl, false_and, if_false]
      have : rnF g 0 = 0 := rfl
      rw [Nat.add_zero] at ih
      split <;> omega
    | succ m =>
      rw [show n + (m + 1) - 1 = n + m by omega, cat_r, show m + 1 - 1 = m by omega]
      by_cases h : g (m + 1) ≠ g m
      · rw [if_pos ⟨by omega, h⟩, if_pos ⟨by omega, h⟩]; omega
      · rw [if_neg (by simp only [not_and]; intro _; exact h), if_neg (by simp only [not_and]; intro _; exact h)]; omega
theorem rn_lg (f : Nat → Nat) : ∀ n, rnF f n ≤ lgF f n
  | 0 => Nat.le_refl _
  | n + 1 => by rw [lgF]; omega
theorem lg_mono (f : Nat → Nat) (n : Nat) : ∀ m, lgF f n ≤ lgF f (n + m)
  | 0 => Nat.le_refl _
  | m + 1 => by rw [← Nat.add_assoc, lgF]; have := lg_mono f n m; omega
theorem lg_cat (f g : Nat → Nat) (n : Nat) : ∀ m, lgF g m ≤ lgF (cat f g n) (n + m) ∧ lgF (cat f g n) (n + m) ≤ lgF f n + lgF g m
  | 0 => by rw [Nat.add_zero, lg_congr n (fun i hi => cat_l hi)]; simp [lgF]
  | m + 1 => by
    have ih := lg_cat f g n m
    have r := rn_cat f g n (m + 1)
    have a := rn_lg f n
    rw [← Nat.add_assoc, lgF, lgF]
    rw [← Nat.add_assoc] at r
    omega
theorem lg_first (f g : Nat → Nat) (n m : Nat) : lgF f n ≤ lgF (cat f g n) (n + m) := by
  rw [← lg_congr (f := cat f g n) (g := f) n (fun i hi => cat_l hi)]
  exact lg_mono _ n m
theorem cn_congr {f g : Nat → Nat} (x lo : Nat) : ∀ n, (∀ i, i < n → f i = g i) → cn f x lo n = cn g x lo n
  | 0, _ => rfl
  | n + 1, h => by rw [cn, cn, cn_congr x lo n (fun i hi => h i (by omega)), h n (by omega)]
theorem cn_cat (f g : Nat → Nat) (n x lo lo' : Nat) (h : lo' ≤ n + lo) : ∀ m, cn g x lo m ≤ cn (cat f g n) x lo' (n + m)
  | 0 => Nat.zero_le _
  | m + 1 => by
    have ih := cn_cat f g n x lo lo' h m
    rw [← Nat.add_assoc, cn, cn, cat_r]
    by_cases e : lo ≤ m ∧ g m = x
    · rw [if_pos e, if_pos ⟨by omega, e.2⟩]; omega
    · rw [if_neg e]; omega
theorem mo_congr {f g : Nat → Nat} : ∀ n, (∀ i, i < n → f i = g i) → moF f n = moF g n
  | 0, _ => rfl
  | n + 1, h => by rw [moF, moF, mo_congr n (fun i hi => h i (by omega)), h n (by omega), cn_congr _ _ (n + 1) h]
theorem mo_mono (f : Nat → Nat) (n : Nat) : ∀ m, moF f n ≤ moF f (n + m)
  | 0 => Nat.le_refl _
  | m + 1 => by rw [← Nat.add_assoc, moF]; have := mo_mono f n m; omega
theorem mo_first (f g : Nat → Nat) (n m : Nat) : moF f n ≤ moF (cat f g n) (n + m) := by
  rw [← mo_congr (f := cat f g n) (g := f) n (fun i hi => cat_l hi)]
  exact mo_mono _ n m
theorem mo_second (f g : Nat → Nat) (n : Nat) : ∀ m, moF g m ≤ moF (cat f g n) (n + m)
  | 0 => Nat.zero_le _
  | m + 1 => by
    have ih := mo_second f g n m
    have c := cn_cat f g n (g m) (m + 1 - 512) (n + m + 1 - 512) (by omega) (m + 1)
    rw [← Nat.add_assoc] at c
    rw [← Nat.add_assoc, moF, moF, cat_r]
    omega
theorem eR_congr {f g : Nat → Nat} (k : Nat) : ∀ n, (∀ i, i < n → f i = g i) → eR f k n = eR g k n
  | 0, _ => rfl
  | n + 1, h => by rw [eR, eR, eR_congr k n (fun i hi => h i (by omega)), h n (by omega)]
theorem eI_congr {f g : Nat → Nat} (k : Nat) : ∀ n, (∀ i, i < n → f i = g i) → eI f k n = eI g k n
  | 0, _ => rfl
  | n + 1, h => by rw [eI, eI, eI_congr k n (fun i hi => h i (by omega)), h n (by omega)]
theorem eR_cat (f g : Nat → Nat) (k n : Nat) : ∀ m, eR (cat f g n) k (n + m) = eR f k n + eR g k m
  | 0 => by rw [Nat.add_zero, eR_congr k n (fun i hi => cat_l hi)]; simp [eR]
  | m + 1 => by rw [← Nat.add_assoc, eR, eR_cat f g k n m, cat_r, eR]; omega
theorem eI_cat (f g : Nat → Nat) (k n : Nat) : ∀ m, eI (cat f g n) k (n + m) = eI f k n + eI g k m
  | 0 => by rw [Nat.add_zero, eI_congr k n (fun i hi => cat_l hi)]; simp [eI]
  | m + 1 => by rw [← Nat.add_assoc, eI, eI_cat f g k n m, cat_r, eI]; omega
theorem st_one (d : Nat) (h : d < 4) : (stR d).natAbs + (stI d).natAbs = 1 := by
  rcases (show d = 0 ∨ d = 1 ∨ d = 2 ∨ d = 3 by omega) with rfl | rfl | rfl | rfl <;> decide
theorem e_sum (f : Nat → Nat) (k : Nat) : ∀ n, (eR f k n).natAbs + (eI f k n).natAbs ≤ n ∧ (eR f k n + eI f k n - (n : Int)) % 2 = 0
  | 0 => by simp [eR, eI]
  | n + 1 => by
    have ih := e_sum f k n
    have s := st_one (dg k (f n)) (dg_lt _ _)
    rw [eR, eI]
    omega
theorem sq_sum (a b : Int) (n : Nat) (h : a.natAbs + b.natAbs ≤ n) : a * a + b * b ≤ (n : Int) * (n : Int) := by
  have e1 : a * a = ((a.natAbs * a.natAbs : Nat) : Int) := by rw [Int.natCast_mul]; exact (Int.natAbs_mul_self' a).symm
  have e2 : b * b = ((b.natAbs * b.natAbs : Nat) : Int) := by rw [Int.natCast_mul]; exact (Int.natAbs_mul_self' b).symm
  have e3 : (n : Int) * (n : Int) = ((n * n : Nat) : Int) := by rw [Int.natCast_mul]
  have h1 : (a.natAbs + b.natAbs) * (a.natAbs + b.natAbs) ≤ n * n := Nat.mul_le_mul h h
  have h2 : (a.natAbs + b.natAbs) * (a.natAbs + b.natAbs) = a.natAbs * a.natAbs + b.natAbs * b.natAbs + 2 * (a.natAbs * b.natAbs) := by
    rw [Nat.add_mul, Nat.mul_add, Nat.mul_add, Nat.mul_comm b.natAbs a.natAbs]
    omega
  rw [e1, e2, e3]
  omega
theorem fr_mono (f : Nat → Nat) (n : Nat) : ∀ m, frF f n ≤ frF f (n + m)
  | 0 => Int.le_refl _
  | m + 1 => by rw [← Nat.add_assoc, frF]; have := fr_mono f n m; omega
theorem fr_congr {f g : Nat → Nat} : ∀ n, (∀ i, i < n → f i = g i) → frF f n = frF g n
  | 0, _ => rfl
  | n + 1, h => by rw [frF, frF, fr_congr n (fun i hi => h i (by omega)), eR_congr 0 (n + 1) h, eI_congr 0 (n + 1) h]
theorem fr_first (f g : Nat → Nat) (n m : Nat) : frF f n ≤ frF (cat f g n) (n + m) := by
  rw [← fr_congr (f := cat f g n) (g := f) n (fun i hi => cat_l hi)]
  exact fr_mono _ n m
theorem fr_end (f : Nat → Nat) : ∀ n, eR f 0 n * eR f 0 n + eI f 0 n * eI f 0 n ≤ frF f n
  | 0 => by simp [eR, eI, frF]
  | n + 1 => by rw [frF]; omega
theorem fr_le (f : Nat → Nat) : ∀ n, 0 ≤ frF f n ∧ frF f n ≤ (n : Int) * (n : Int)
  | 0 => by simp [frF]
  | n + 1 => by
    have ih := fr_le f n
    have s := sq_sum _ _ _ (e_sum f 0 (n + 1)).1
    have e : ((n + 1 : Nat) : Int) * ((n + 1 : Nat) : Int) = (n : Int) * (n : Int) + 2 * (n : Int) + 1 := by
      rw [Int.natCast_add, Int.mul_add, Int.add_mul]; simp; omega
    rw [frF]
    omega
theorem pop_tr (x a : Nat) (hx : x < 256) (ha : a < 2) : pop (trF x a) = pop (trF x (x / 128)) + (if a = x / 128 then 0 else 1) := by
  have key : ∀ x : Fin 256, ∀ a : Fin 2, pop (trF x.1 a.1) = pop (trF x.1 (x.1 / 128)) + (if a.1 = x.1 / 128 then 0 else 1) := by decide +kernel
  exact key ⟨x, hx⟩ ⟨a, ha⟩
theorem tu_congr {f g : Nat → Nat} : ∀ n, (∀ i, i < n → f i = g i) → tuF f n = tuF g n
  | 0, _ => rfl
  | n + 1, h => by
    rw [tuF, tuF, tu_congr n (fun i hi => h i (by omega)), h n (by omega)]
    unfold ahF
    rw [h n (by omega)]
    by_cases h0 : 0 < n
    · rw [if_pos h0, if_pos h0, h (n - 1) (by omega)]
    · rw [if_neg h0, if_neg h0]
/-- One more turn where the two meet. -/
def mt2 (f g : Nat → Nat) (n m : Nat) : Nat := if 0 < n ∧ 0 < m ∧ f (n - 1) % 2 ≠ g 0 / 128 then 1 else 0
theorem tu_cat (f g : Nat → Nat) (n : Nat) (hg : ∀ i, g i < 256) : ∀ m, tuF (cat f g n) (n + m) = tuF f n + tuF g m + mt2 f g n m
  | 0 => by rw [Nat.add_zero, tu_congr n (fun i hi => cat_l hi)]; simp [tuF, mt2]
  | m + 1 => by
    have ih := tu_cat f g n hg m
    rw [← Nat.add_assoc, tuF, ih, tuF, cat_r]
    cases m with
    | zero =>
      unfold mt2 ahF
      simp only [Nat.add_zero, Nat.lt_irrefl, false_and, and_false, if_false, Nat.zero_add, Nat.lt_add_one, true_and]
      by_cases h0 : 0 < n
      · have e := cat_l (f := f) (g := g) (n := n) (i := n - 1) (by omega)
        rw [if_pos h0, e, pop_tr (g 0) (f (n - 1) % 2) (hg 0) (by omega)]
        simp only [h0, true_and]
        by_cases h1 : f (n - 1) % 2 = g 0 / 128
        · rw [if_pos h1, if_neg (by simpa using h1)]; omega
        · rw [if_neg h1, if_pos h1]; omega
      · rw [if_neg h0]
        have e : cat f g n n = g 0 := by have := cat_r f g n 0; simpa using this
        rw [e]
        simp only [h0, false_and, if_false]
        omega
    | succ m =>
      have e : ahF (cat f g n) (n + (m + 1)) = ahF g (m + 1) := by
        unfold ahF
        rw [if_pos (by omega), if_pos (by omega), show n + (m + 1) - 1 = n + m by omega, cat_r, show m + 1 - 1 = m by omega]
      rw [e]
      have e2 : mt2 f g n (m + 1) = mt2 f g n (m + 1 + 1) := by unfold mt2; simp
      omega
/-- Sums. -/
def suS (g : Nat → Nat) : Nat → Nat
  | 0 => 0
  | i + 1 => suS g i + g i
theorem sq_upper (g : Nat → Nat) : ∀ n, sqS g n ≤ suS g n * suS g n
  | 0 => Nat.le_refl _
  | n + 1 => by
    have ih := sq_upper g n
    rw [sqS, suS, Nat.add_mul, Nat.mul_add, Nat.mul_add]
    omega
theorem sq_any (g : Nat → Nat) (a : Int) : ∀ n : Nat, 0 ≤ (sqS g n : Int) - 2 * a * (suS g n : Int) + n * (a * a)
  | 0 => by simp [sqS, suS]
  | n + 1 => by
    have ih := sq_any g a n
    have s : 0 ≤ ((g n : Int) - a) * ((g n : Int) - a) := by
      rcases Int.le_total 0 ((g n : Int) - a) with h | h
      · exact Int.mul_nonneg h h
      · exact Int.mul_nonneg_of_nonpos_of_nonpos h h
    have e1 : ((g n : Int) - a) * ((g n : Int) - a) = (g n : Int) * (g n : Int) - 2 * a * (g n : Int) + a * a := by
      rw [Int.sub_mul, Int.mul_sub, Int.mul_sub, Int.mul_comm (g n : Int) a, Int.mul_assoc 2 a]
      omega
    rw [sqS, suS]
    rw [Int.natCast_add, Int.natCast_add, Int.natCast_mul, Int.mul_add, show ((n + 1 : Nat) : Int) = (n : Int) + 1 by omega, Int.add_mul]
    omega
theorem sq_lower (g : Nat → Nat) : ∀ n : Nat, (suS g n : Int) * (suS g n : Int) ≤ (n : Int) * (sqS g n : Int)
  | 0 => by simp [suS]
  | n + 1 => by
    have ih := sq_lower g n
    have s := sq_any g (g n : Int) n
    rw [sqS, suS]
    simp only [Int.natCast_add, Int.natCast_mul, Int.natCast_one]
    generalize (suS g n : Int) = x at ih s ⊢
    generalize (sqS g n : Int) = y at ih s ⊢
    generalize (g n : Int) = a at s ⊢
    generalize (n : Int) = k at ih s ⊢
    have e1 : (x + a) * (x + a) = x * x + 2 * a * x + a * a := by
      rw [Int.add_mul, Int.mul_add, Int.mul_add, Int.mul_comm x a, Int.mul_assoc 2 a x]
      omega
    have e2 : (k + 1) * (y + a * a) = k * y + k * (a * a) + y + a * a := by
      rw [Int.add_mul, Int.mul_add, Int.one_mul]
      omega
    rw [e1, e2]
    omega
theorem su_one (a : Nat) : ∀ n, suS (fun x => if a = x then 1 else 0) n = if a < n then 1 else 0
  | 0 => by simp [suS]
  | n + 1 => by
    rw [suS, su_one a n]
    split <;> split <;> split <;> omega
theorem su_add (g h : Nat → Nat) : ∀ n, suS (fun x => g x + h x) n = suS g n + suS h n
  | 0 => rfl
  | n + 1 => by rw [suS, suS, suS, su_add g h n]; omega
theorem pk_sum (f : Nat → Nat) (hf : ∀ i, f i < 256) : ∀ n, suS (fun x => pk f x n) 16 = 2 * n
  | 0 => by simp [pk, suS]
  | n + 1 => by
    have e : (fun x => pk f x (n + 1)) = fun x => (pk f x n + (if f n / 16 = x then 1 else 0)) + (if f n % 16 = x then 1 else 0) := by funext x; rw [pk]
    rw [e, su_add, su_add, pk_sum f hf n, su_one, su_one, if_pos (by have := hf n; omega), if_pos (by omega)]
    omega
theorem poker_bounds (f : Nat → Nat) (hf : ∀ i, f i < 256) (n : Nat) : (n : Int) * (n : Int) ≤ 4 * ((sqS (fun x => pk f x n) 16 : Nat) : Int) ∧ ((sqS (fun x => pk f x n) 16 : Nat) : Int) ≤ 4 * (n : Int) * (n : Int) := by
  have a := sq_lower (fun x => pk f x n) 16
  have b := sq_upper (fun x => pk f x n) 16
  rw [pk_sum f hf n] at a b
  have e1 : ((2 * n : Nat) : Int) * ((2 * n : Nat) : Int) = 4 * ((n : Int) * (n : Int)) := by
    rw [Int.natCast_mul, Int.mul_assoc, Int.mul_left_comm (n : Int)]
    omega
  rw [e1] at a
  have b' : ((sqS (fun x => pk f x n) 16 : Nat) : Int) ≤ 4 * ((n : Int) * (n : Int)) := by
    rw [← e1, ← Int.natCast_mul]
    exact Int.ofNat_le.2 b
  rw [Int.mul_assoc]
  constructor
  · omega
  · exact b'
end Go.Proofs.Ytaejoohbmdckhaa
