import Derived.Test.YtffejkfkkciaaaaGv
namespace Go.Proofs.Ytffejkfkkciaaaa
set_option linter.unusedSimpArgs false
/-- The sums of a row of zeros but for two places. -/
def T0 (a b : F) : F := fa a b
def T1 (x y a b : F) : F := fa (fm a x) (fm b y)
def T2 (x y a b : F) : F := fa (fm a (fm x x)) (fm b (fm y y))
def T3 (x y a b : F) : F := fa (fm a (fm x (fm x x))) (fm b (fm y (fm y y)))
/-- Each sum follows from the two ahead of it. -/
theorem T2_eq (x y a b : F) : fa (fm (fa x y) (T1 x y a b)) (fm (fm x y) (T0 a b)) = T2 x y a b := by
  unfold T0 T1 T2
  simp only [fm_fa, fa_fm, fm_assoc, fa_assoc, fm_comm, fm_left, fa_comm, fa_left, fa_self, fa_canc, fa_zero, zero_fa]
theorem T3_eq (x y a b : F) : fa (fm (fa x y) (T2 x y a b)) (fm (fm x y) (T1 x y a b)) = T3 x y a b := by
  unfold T3 T1 T2
  simp only [fm_fa, fa_fm, fm_assoc, fa_assoc, fm_comm, fm_left, fa_comm, fa_left, fa_self, fa_canc, fa_zero, zero_fa]
/-- The bytes at the two places, by the first two sums. -/
theorem T_back (x y f0 f1 i a : F) (hi : fm (fa x y) i = 1) (ha : a = fm (fa (fm f0 y) f1) i) : T0 a (fa f0 a) = f0 ∧ T1 x y a (fa f0 a) = f1 := by
  have e : fm a (fa x y) = fa (fm f0 y) f1 := by rw [ha, fm_assoc, fm_comm i, hi, fm_one]
  refine ⟨by unfold T0; rw [fa_left, fa_self, fa_zero], ?_⟩
  unfold T1
  rw [fa_fm, fa_left, ← fm_fa, e, fa_canc]
theorem T_only (x y a b i : F) (hi : fm (fa x y) i = 1) : fm (fa (fm (T0 a b) y) (T1 x y a b)) i = a := by
  have e : fa (fm (T0 a b) y) (T1 x y a b) = fm a (fa x y) := by
    unfold T0 T1
    simp only [fm_fa, fa_fm, fa_assoc, fa_comm, fa_left, fa_self, fa_canc, fa_zero, zero_fa]
  rw [e, fm_assoc, hi, fm_one]
/-- x to the 254. -/
theorem inv_254 : ∀ a : F, a ≠ 0 → ∃ i, fm a i = 1 := fun a h => by
  obtain ⟨b, _, hb⟩ := fm_inv a h
  exact ⟨b, hb⟩
def invF (a : F) : F := if a = 0 then 0 else Em (255 - lgT a.1)
theorem invF_mul (a : F) (h : a ≠ 0) : fm a (invF a) = 1 := by
  rcases Em_all a with h0 | ⟨m, hm, rfl⟩
  · exact absurd h0 h
  · unfold invF
    rw [if_neg h, show lgT (Em m).1 = m by
      have := pw_lg ⟨m, hm⟩
      simp only at this
      show lgT (pwT (m % 255)) = m
      rw [Nat.mod_eq_of_lt hm, this], Em_mul, show m + (255 - m) = 255 by omega]
    decide +kernel
theorem inv_only {a i k : F} (h : fm a i = 1) (g : fm a k = 1) : i = k := by
  have e : fm (fm a i) k = fm (fm a k) i := by rw [fm_assoc, fm_assoc, fm_comm i k]
  rw [h, g, fm_comm 1 k, fm_comm 1 i, fm_one, fm_one] at e
  exact e.symm
/-- The program's inverse: seven squares. -/
def sqN : Nat → F → F → F
  | 0, _, p => p
  | k + 1, x, p => sqN k (fm x x) (fm p (fm x x))
theorem sq_all : ∀ a : F, sqN 7 a 1 = invF a := by decide +kernel
end Go.Proofs.Ytffejkfkkciaaaa
