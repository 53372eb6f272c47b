import Derived.Test.YtffejkfkkciaaaaGf
namespace Go.Proofs.Ytffejkfkkciaaaa
/-- The sum of the first n of a row. -/
def sm (n : Nat) (g : Nat → F) : F := match n with
  | 0 => 0
  | k + 1 => fa (sm k g) (g k)
/-- The j-th power. -/
def P (x : F) : Nat → F
  | 0 => 1
  | j + 1 => fm (P x j) x
theorem fa_mid (a b c d : F) : fa (fa a b) (fa c d) = fa (fa a c) (fa b d) := by
  rw [fa_assoc, fa_assoc, fa_left b c d]
theorem sm_fa (g h : Nat → F) : ∀ n, sm n (fun i => fa (g i) (h i)) = fa (sm n g) (sm n h)
  | 0 => (fa_zero 0).symm
  | n + 1 => by
    show fa (sm n (fun i => fa (g i) (h i))) (fa (g n) (h n)) = fa (fa (sm n g) (g n)) (fa (sm n h) (h n))
    rw [sm_fa g h n, fa_mid]
theorem sm_fm (c : F) (g : Nat → F) : ∀ n, sm n (fun i => fm c (g i)) = fm c (sm n g)
  | 0 => (fm_zero c).symm
  | n + 1 => by
    show fa (sm n (fun i => fm c (g i))) (fm c (g n)) = fm c (fa (sm n g) (g n))
    rw [sm_fm c g n, fm_fa]
theorem sm_congr (g h : Nat → F) : ∀ n, (∀ i, i < n → g i = h i) → sm n g = sm n h
  | 0, _ => rfl
  | n + 1, hh => by
    show fa (sm n g) (g n) = fa (sm n h) (h n)
    rw [sm_congr g h n (fun i hi => hh i (by omega)), hh n (by omega)]
theorem sm_none (g : Nat → F) : ∀ n, (∀ i, i < n → g i = 0) → sm n g = 0
  | 0, _ => rfl
  | n + 1, hh => by
    show fa (sm n g) (g n) = 0
    rw [sm_none g n (fun i hi => hh i (by omega)), hh n (by omega), fa_zero]
theorem sm_one (g : Nat → F) (t : Nat) : ∀ n, t < n → (∀ i, i < n → i ≠ t → g i = 0) → sm n g = g t
  | 0, h, _ => by omega
  | n + 1, h, hh => by
    show fa (sm n g) (g n) = g t
    by_cases e : n = t
    · subst e
      rw [sm_none g n (fun i hi => hh i (by omega) (by omega)), zero_fa]
    · rw [sm_one g t n (by omega) (fun i hi he => hh i (by omega) he), hh n (by omega) e, fa_zero]
/-- What a place weighs. -/
def X (n i : Nat) : F := Em (n - 1 - i)
theorem X_inj (n i k : Nat) (hn : n ≤ 255) (hi : i < n) (hk : k < n) (h : X n i = X n k) : i = k := by
  have := Em_inj _ _ (by omega) (by omega) h
  omega
/-- A place is taken out. -/
def outE (n p : Nat) (d : Nat → F) (i : Nat) : F := fm (d i) (fa (X n i) (X n p))
/-- The first m sums are zero. -/
def Zs (n m : Nat) (d : Nat → F) : Prop := ∀ j, j < m → sm n (fun i => fm (d i) (P (X n i) j)) = 0
theorem Zs.out {n m p : Nat} {d : Nat → F} (h : Zs n (m + 1) d) : Zs n m (outE n p d) := fun j hj => by
  have e : ∀ i, fm (outE n p d i) (P (X n i) j) = fa (fm (d i) (P (X n i) (j + 1))) (fm (X n p) (fm (d i) (P (X n i) j))) := fun i => by
    show fm (fm (d i) (fa (X n i) (X n p))) (P (X n i) j) = fa (fm (d i) (fm (P (X n i) j) (X n i))) _
    rw [fm_assoc, fa_fm, fm_fa, fm_comm (X n i), fm_left (d i) (X n p)]
  rw [sm_congr _ _ n (fun i _ => e i), sm_fa, h (j + 1) (by omega), sm_fm, h j (by omega), fm_zero, fa_zero]
def outs (n : Nat) : List Nat → (Nat → F) → Nat → F
  | [], d => d
  | p :: l, d => outs n l (outE n p d)
theorem outs_zs (n : Nat) : ∀ (l : List Nat) (m : Nat) (d : Nat → F), Zs n (m + l.length) d → Zs n m (outs n l d)
  | [], m, d, h => h
  | p :: l, m, d, h => outs_zs n l m _ (Zs.out (p := p) (by rw [show m + l.length + 1 = m + (p :: l).length by simp; omega]; exact h))
theorem outs_zero (n i : Nat) : ∀ (l : List Nat) (d : Nat → F), (d i = 0 ∨ i ∈ l) → outs n l d i = 0
  | [], d, h => by rcases h with h | h; exact h; cases h
  | p :: l, d, h => by
    refine outs_zero n i l _ ?_
    by_cases e : i = p
    · left
      show fm (d i) (fa (X n i) (X n p)) = 0
      rw [e, fa_self, fm_zero]
    · rcases h with h | h
      · left
        show fm (d i) _ = 0
        rw [h, zero_fm]
      · right
        simpa [e] using h
theorem outs_ne (n t : Nat) (hn : n ≤ 255) (ht : t < n) : ∀ (l : List Nat) (d : Nat → F), d t ≠ 0 → (∀ p, p ∈ l → p < n ∧ p ≠ t) → outs n l d t ≠ 0
  | [], d, h, _ => h
  | p :: l, d, h, hl => by
    refine outs_ne n t hn ht l _ ?_ (fun q hq => hl q (by simp [hq]))
    have := hl p (by simp)
    exact fm_ne h (fa_ne (fun e => this.2 (X_inj n t p hn ht this.1 e).symm))
/-- What has four sums of zero and at most four places is zero. -/
theorem uniq (n : Nat) (hn : n ≤ 255) (d : Nat → F) (l : List Nat) (hl : l.length ≤ 4) (hs : ∀ i, i < n → d i ≠ 0 → i ∈ l) (hz : Zs n 4 d) : ∀ i, i < n → d i = 0 := fun t ht => by
  by_cases h : d t = 0
  · exact h
  · exfalso
    have hm := hs t ht h
    obtain ⟨l', hl'⟩ : ∃ l', l' = l.filter (fun p => decide (p ≠ t) && decide (p < n)) := ⟨_, rfl⟩
    have hlen : l'.length < l.length := by
      rw [hl']
      have := List.length_filter_lt_length_iff_exists (p := fun p => decide (p ≠ t) && decide (p < n)) (l := l)
      exact this.2 ⟨t, hm, by simp⟩
    have hz' : Zs n 1 (outs n l' d) := outs_zs n l' 1 d (fun j hj => hz j (by omega))
    have h1 := hz' 0 (by decide)
    rw [sm_one _ t n ht (fun i hi he => by
      have : outs n l' d i = 0 := outs_zero n i l' d (by
        by_cases hd : d i = 0
        · exact .inl hd
        · right
          rw [hl']
          simp [hs i hi hd, he, hi])
      rw [this, zero_fm])] at h1
    exact outs_ne n t hn ht l' d h (fun p hp => by rw [hl'] at hp; simp at hp; exact ⟨hp.2.2, hp.2.1⟩) (fm_eq_zero h1 (show (1 : F) ≠ 0 by decide))
/-- The value of a row as a polynomial, its last byte the constant one. -/
def pv (x : F) : List F → F := List.foldl (fun y c => fa (fm y x) c) 0
theorem pv_snoc (x : F) (l : List F) (c : F) : pv x (l ++ [c]) = fa (fm (pv x l) x) c := by simp [pv, List.foldl_append]
theorem P_Em (k : Nat) : ∀ j, P (Em k) j = Em (k * j)
  | 0 => by rw [Nat.mul_zero, Em_zero]; rfl
  | j + 1 => by show fm (P (Em k) j) (Em k) = _; rw [P_Em k j, Em_mul, Nat.mul_succ]
theorem pv_sm (x : F) : ∀ (m : Nat) (g : Nat → F), pv x ((List.range m).map g) = sm m (fun i => fm (g i) (P x (m - 1 - i)))
  | 0, g => rfl
  | m + 1, g => by
    rw [List.range_succ, List.map_append, List.map_singleton, pv_snoc, pv_sm x m g]
    show _ = fa (sm m (fun i => fm (g i) (P x (m + 1 - 1 - i)))) (fm (g m) (P x (m + 1 - 1 - m)))
    rw [show m + 1 - 1 - m = 0 by omega, show P x 0 = 1 from rfl, fm_one, fm_comm, ← sm_fm]
    congr 1
    refine sm_congr _ _ m fun i hi => ?_
    rw [show m + 1 - 1 - i = (m - 1 - i) + 1 by omega]
    show _ = fm (g i) (fm (P x (m - 1 - i)) x)
    rw [fm_comm (P x (m - 1 - i)) x, fm_left (g i) x]
/-- The sums of a row. -/
theorem pv_row (j m : Nat) (g : Nat → F) : pv (Em j) ((List.range m).map g) = sm m (fun i => fm (g i) (P (X m i) j)) := by
  rw [pv_sm]
  refine sm_congr _ _ m fun i _ => ?_
  rw [P_Em, X, P_Em, Nat.mul_comm]
end Go.Proofs.Ytffejkfkkciaaaa
