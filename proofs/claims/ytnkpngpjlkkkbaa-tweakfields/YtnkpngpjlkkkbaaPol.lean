import Derived.Test.YtnkpngpjlkkkbaaFld
namespace Go.Proofs.Ytnkpngpjlkkkbaa.Fld
set_option linter.unusedVariables false
/-- The value of the first n coefficients where x is T. -/
def ev (T : BitVec 128 → BitVec 128) (c : Nat → Bool) : Nat → BitVec 128
  | 0 => 0#128
  | n + 1 => ev T c n ^^^ (if c n then itr T n (e 0) else 0#128)
theorem ev_congr (T : BitVec 128 → BitVec 128) {c d : Nat → Bool} (n : Nat) (h : ∀ j, j < n → c j = d j) : ev T c n = ev T d n := by
  induction n with
  | zero => rfl
  | succ n ih => rw [ev, ev, ih fun j hj => h j (by omega), h n (by omega)]
/-- One coefficient turned. -/
def flip (c : Nat → Bool) (j : Nat) : Nat → Bool := fun k => if k = j then !c k else c k
theorem ev_flip (T : BitVec 128 → BitVec 128) (c : Nat → Bool) (j n : Nat) (h : j < n) : ev T (flip c j) n = ev T c n ^^^ itr T j (e 0) := by
  induction n with
  | zero => omega
  | succ n ih =>
    by_cases hj : j < n
    · rw [ev, ev, ih hj]
      have : flip c j n = c n := by simp [flip]; omega
      rw [this, BitVec.xor_assoc, BitVec.xor_assoc, BitVec.xor_comm (itr T j (e 0))]
    · have : j = n := by omega
      subst this
      rw [ev, ev, ev_congr T (c := flip c j) (d := c) j (fun k hk => by simp [flip]; omega)]
      have : flip c j j = !c j := by simp [flip]
      rw [this]
      cases c j <;> simp [BitVec.xor_assoc]
theorem ev_zero (T : BitVec 128 → BitVec 128) (n : Nat) : ev T (fun _ => false) n = 0#128 := by
  induction n with
  | zero => rfl
  | succ n ih => rw [ev, ih]; simp
/-- A polynomial of 128 coefficients. -/
theorem ev_low {T : BitVec 128 → BitVec 128} (hT : Cyc T) (v : BitVec 128) (c : Nat → Bool) (n k : Nat) (hk : k ≤ 128) (h : ∀ j, j < k → c j = v.getLsbD j) : ev T c k = S e v k := by
  induction k with
  | zero => rfl
  | succ k ih => rw [ev, S, ih (by omega) fun j hj => h j (by omega), h k (by omega), hT.basis k (by omega)]
theorem ev_high (T : BitVec 128 → BitVec 128) (c : Nat → Bool) (n m : Nat) (h : ∀ j, n ≤ j → j < n + m → c j = false) : ev T c (n + m) = ev T c n := by
  induction m with
  | zero => rfl
  | succ m ih => rw [← Nat.add_assoc, ev, ih fun j h1 h2 => h j h1 (by omega), h (n + m) (by omega) (by omega)]; simp
theorem ev_block {T : BitVec 128 → BitVec 128} (hT : Cyc T) (v : BitVec 128) (c : Nat → Bool) (m : Nat) (h : ∀ j, j < 128 → c j = v.getLsbD j) (h0 : ∀ j, 128 ≤ j → j < 128 + m → c j = false) : ev T c (128 + m) = v := by
  rw [ev_high T c 128 m h0, ev_low hT v c 128 128 (Nat.le_refl _) h, S_all]
/-- The coefficients c with a shifted row of b's first k coefficients put in. -/
def put (c : Nat → Bool) (b : BitVec 128) (i : Nat) : Nat → (Nat → Bool)
  | 0 => c
  | k + 1 => fun j => if j = i + k then xor (put c b i k j) (b.getLsbD k) else put c b i k j
theorem put_succ (c : Nat → Bool) (b : BitVec 128) (i k j : Nat) : put c b i (k + 1) j = if j = i + k then xor (put c b i k j) (b.getLsbD k) else put c b i k j := rfl
theorem put_at (c : Nat → Bool) (b : BitVec 128) (i k j : Nat) : put c b i k j = if i ≤ j ∧ j < i + k then xor (c j) (b.getLsbD (j - i)) else c j := by
  induction k with
  | zero =>
    rw [put, if_neg (by omega)]
  | succ k ih =>
    rw [put_succ]
    by_cases h : j = i + k
    · subst h
      rw [if_pos rfl, ih, if_neg (by omega), if_pos (by omega), show i + k - i = k by omega]
    · rw [if_neg h, ih]
      by_cases h2 : i ≤ j ∧ j < i + k
      · rw [if_pos h2, if_pos (by omega)]
      · rw [if_neg h2, if_neg (by omega)]
theorem ev_put {T : BitVec 128 → BitVec 128} (hT : Cyc T) (c : Nat → Bool) (b : BitVec 128) (i n k : Nat) (hk : k ≤ 128) (hn : i + k ≤ n) : ev T (put c b i k) n = ev T c n ^^^ itr T i (S e b k) := by
  induction k with
  | zero =>
    have hz : itr T i (S e b 0) = 0#128 := (itr_lin hT.lin i).zero
    rw [hz, put]; simp
  | succ k ih =>
    have hs : S e b (k + 1) = S e b k ^^^ (if b.getLsbD k then e k else 0#128) := rfl
    by_cases hb : b.getLsbD k
    · have hf : ∀ j, j < n → put c b i (k + 1) j = flip (put c b i k) (i + k) j := fun j _ => by
        rw [put_succ, flip]
        by_cases h : j = i + k
        · rw [if_pos h, if_pos h, hb]; cases put c b i k j <;> rfl
        · rw [if_neg h, if_neg h]
      rw [ev_congr T n hf, ev_flip T _ _ _ (by omega), ih (by omega) (by omega), hs, if_pos hb, itr_lin hT.lin i, itr_add, hT.basis k (by omega), BitVec.xor_assoc]
    · have hf : ∀ j, j < n → put c b i (k + 1) j = put c b i k j := fun j _ => by
        rw [put_succ]
        by_cases h : j = i + k
        · rw [if_pos h]
          have : b.getLsbD k = false := by simpa using hb
          rw [this]; cases put c b i k j <;> rfl
        · rw [if_neg h]
      rw [ev_congr T n hf, ih (by omega) (by omega), hs, if_neg hb]
      simp
/-- The product's coefficients behind i of its rounds. -/
def prd (a b : BitVec 128) : Nat → (Nat → Bool)
  | 0 => fun _ => false
  | i + 1 => if a.getLsbD i then put (prd a b i) b i 128 else prd a b i
theorem ev_prd {T : BitVec 128 → BitVec 128} (hT : Cyc T) (a b : BitVec 128) (i : Nat) (hi : i ≤ 128) : ev T (prd a b i) 255 = S (fun k => itr T k b) a i := by
  induction i with
  | zero => exact ev_zero T 255
  | succ i ih =>
    rw [prd, S]
    by_cases h : a.getLsbD i
    · rw [if_pos h, if_pos h, ev_put hT _ _ _ _ _ (Nat.le_refl _) (by omega), ih (by omega), S_all]
    · rw [if_neg h, if_neg h, ih (by omega)]; simp
theorem ev_product {T : BitVec 128 → BitVec 128} (hT : Cyc T) (a b : BitVec 128) : ev T (prd a b 128) 255 = M T a b := ev_prd hT a b 128 (Nat.le_refl _)
/-- A power and the powers that stand for x^128, turned. -/
def red (p0 p1 p2 p3 : Nat) (c : Nat → Bool) (i : Nat) : Nat → Bool := if c i then flip (flip (flip (flip (flip c i) (i - 128 + p0)) (i - 128 + p1)) (i - 128 + p2)) (i - 128 + p3) else c
theorem ev_red {T : BitVec 128 → BitVec 128} (hT : Cyc T) {p0 p1 p2 p3 : Nat} (h0 : p0 < 128) (h1 : p1 < 128) (h2 : p2 < 128) (h3 : p3 < 128) (hm : itr T 128 (e 0) = e p0 ^^^ e p1 ^^^ e p2 ^^^ e p3) (c : Nat → Bool) (i n : Nat) (hi : 128 ≤ i) (hn : i < n) : ev T (red p0 p1 p2 p3 c i) n = ev T c n := by
  rw [red]
  by_cases h : c i
  · rw [if_pos h, ev_flip T _ _ _ (by omega), ev_flip T _ _ _ (by omega), ev_flip T _ _ _ (by omega), ev_flip T _ _ _ (by omega), ev_flip T _ _ _ hn]
    have e1 : itr T i (e 0) = itr T (i - 128) (itr T 128 (e 0)) := by rw [← itr_add]; congr 1; omega
    have L := itr_lin hT.lin (i - 128)
    rw [e1, hm, L, L, L, itr_add T (i - 128) p0, itr_add T (i - 128) p1, itr_add T (i - 128) p2, itr_add T (i - 128) p3, hT.basis p0 h0, hT.basis p1 h1, hT.basis p2 h2, hT.basis p3 h3]
    generalize itr T (i - 128) (e p0) = A
    generalize itr T (i - 128) (e p1) = B
    generalize itr T (i - 128) (e p2) = C
    generalize itr T (i - 128) (e p3) = E
    generalize ev T c n = X
    ext k
    simp
    cases X[k] <;> cases A[k] <;> cases B[k] <;> cases C[k] <;> cases E[k] <;> rfl
  · rw [if_neg h]
theorem red_far {p0 p1 p2 p3 : Nat} (h0 : p0 < 128) (h1 : p1 < 128) (h2 : p2 < 128) (h3 : p3 < 128) (c : Nat → Bool) (i j : Nat) (hi : 128 ≤ i) (hj : i < j) : red p0 p1 p2 p3 c i j = c j := by
  rw [red]
  by_cases h : c i
  · rw [if_pos h]
    simp only [flip]
    rw [if_neg (by omega), if_neg (by omega), if_neg (by omega), if_neg (by omega), if_neg (by omega)]
  · rw [if_neg h]
theorem red_at {p0 p1 p2 p3 : Nat} (h0 : p0 < 128) (h1 : p1 < 128) (h2 : p2 < 128) (h3 : p3 < 128) (c : Nat → Bool) (i : Nat) (hi : 128 ≤ i) : red p0 p1 p2 p3 c i i = false := by
  rw [red]
  by_cases h : c i
  · rw [if_pos h]
    simp only [flip]
    rw [if_neg (by omega), if_neg (by omega), if_neg (by omega), if_neg (by omega)]
    simp [h]
  · rw [if_neg h]; simpa using h
/-- The bits of a block. -/
def ofC (c : Nat → Bool) : BitVec 128 := ev TX c 128
theorem ev_bits (c : Nat → Bool) (n j : Nat) (hn : n ≤ 128) (hj : j < 128) : (ev TX c n).getLsbD j = (decide (j < n) && c j) := by
  induction n with
  | zero => simp [ev]
  | succ n ih =>
    rw [ev, BitVec.getLsbD_xor, ih (by omega), TX_cyc.basis n (by omega)]
    by_cases h : j = n
    · subst h
      cases c j <;> simp [e, hj]
    · have h1 : (if c n then e n else 0#128).getLsbD j = false := by
        cases c n
        · simp
        · simp only [if_true, e, BitVec.getLsbD_twoPow]
          simp
          omega
      rw [h1, Bool.xor_false, show (decide (j < n + 1)) = decide (j < n) by simp; omega]
theorem ofC_at (c : Nat → Bool) (j : Nat) (h : j < 128) : (ofC c).getLsbD j = c j := by
  rw [ofC, ev_bits c 128 j (Nat.le_refl _) h]
  simp [h]
theorem TX_mod : itr TX 128 (e 0) = e 7 ^^^ e 2 ^^^ e 1 ^^^ e 0 := by decide +kernel
theorem TP_mod : itr TP 128 (e 0) = e 127 ^^^ e 126 ^^^ e 121 ^^^ e 0 := by decide +kernel
end Go.Proofs.Ytnkpngpjlkkkbaa.Fld
