import Derived.Test.YtioggmjocelolaaFits
namespace Go.Proofs.Ytioggmjocelolaa
open Go.RowKit

theorem ne61 {c : Int} (h : 0 ≤ letV c) : c ≠ 61 := fun e => by rw [e, letV_61] at h; omega
theorem bne61 {c : Int} (h : c ≠ 61) : (c != 61) = true := by simp [h]
theorem beq61 {c : Int} (h : c ≠ 61) : (c == 61) = false := by simp [h]

theorem v0_yes {c p : Int} {k : Nat} (h : 0 ≤ letV c) (h2 : k = 0 ∨ 0 ≤ letV p) : (decide (0 ≤ letV c) && (decide (k = 0) || decide (0 ≤ letV p))) = true := by
  rcases h2 with h2 | h2 <;> simp [h, h2]
theorem v0_no {c p : Int} {k : Nat} (h : ¬ 0 ≤ letV c) : (decide (0 ≤ letV c) && (decide (k = 0) || decide (0 ≤ letV p))) = false := by simp [h]
theorem v1_yes {c p : Int} (h : 0 ≤ letV c) (h2 : 0 ≤ letV p) : (decide (0 ≤ letV c) && decide (0 ≤ letV p)) = true := by simp [h, h2]
theorem v1_no {c p : Int} (h : ¬ 0 ≤ letV c) : (decide (0 ≤ letV c) && decide (0 ≤ letV p)) = false := by simp [h]
theorem v2_yes {c p : Int} (h : 0 ≤ letV c) : (decide (0 ≤ letV c) || (c == 61 && letV p % 16 == 0)) = true := by simp [h]
theorem v2_eq {c p : Int} (h : ¬ 0 ≤ letV c) (h6 : c = 61) : (decide (0 ≤ letV c) || (c == 61 && letV p % 16 == 0)) = (letV p % 16 == 0) := by subst h6; simp [h]
theorem v2_no {c p : Int} (h : ¬ 0 ≤ letV c) (h6 : ¬ c = 61) : (decide (0 ≤ letV c) || (c == 61 && letV p % 16 == 0)) = false := by simp [h, h6]
theorem v3_yes {c p : Int} (h : 0 ≤ letV c) (h2 : 0 ≤ letV p) : (if letV p < 0 then c == 61 else decide (0 ≤ letV c) || (c == 61 && letV p % 4 == 0)) = true := by rw [if_neg (by omega)]; simp [h]
theorem v3_eq {c p : Int} (h : ¬ 0 ≤ letV c) (h6 : c = 61) (h2 : 0 ≤ letV p) : (if letV p < 0 then c == 61 else decide (0 ≤ letV c) || (c == 61 && letV p % 4 == 0)) = (letV p % 4 == 0) := by subst h6; rw [if_neg (by omega)]; simp [h]
theorem v3_no {c p : Int} (h : ¬ 0 ≤ letV c) (h6 : ¬ c = 61) : (if letV p < 0 then c == 61 else decide (0 ≤ letV c) || (c == 61 && letV p % 4 == 0)) = false := by split <;> simp [h, h6]

theorem fits_r0 (s : ByteArray) (k : Nat) (w : World) (hks : 4 * k < s.size) (hsm : s.size ≤ 200000) (hprev : ∀ j, j < 4 * k → mf (nums s) j = true) :
    Calls Try.prog 32 #[.string s, .int .i64 (4 * (k : Int))] w fun e w' => e = .returned (.bool (mf (nums s) (4 * k))) ∧ w' = w := by
  have hc := nums_range s (4 * k)
  have hp := nums_range s (4 * k - 1)
  have hval : mf (nums s) (4 * k) = mfc (4 * k) ((nums s).getD (4 * k - 1) 0) ((nums s).getD (4 * k) 0) := rfl
  rw [hval, mf0]
  by_cases hk0 : k = 0
  · have hk : k < 1 := by omega
    by_cases hL : 0 ≤ letV ((nums s).getD (4 * k) 0)
    · rw [show (decide (0 ≤ letV ((nums s).getD (4 * k) 0)) && (decide (k = 0) || decide (0 ≤ letV ((nums s).getD (4 * k - 1) 0)))) = true from v0_yes hL (.inl hk0)]
      exact ft_yes0z s k 0 0 _ w hks hsm (nums_at s _ hks).symm hk hc.1 hc.2 (by omega) (by omega) (letV_range _) (bne61 (ne61 hL)) hL
    · have hL' : letV ((nums s).getD (4 * k) 0) < 0 := by omega
      by_cases h61 : (nums s).getD (4 * k) 0 = 61
      · rw [show (decide (0 ≤ letV ((nums s).getD (4 * k) 0)) && (decide (k = 0) || decide (0 ≤ letV ((nums s).getD (4 * k - 1) 0)))) = false from v0_no hL]
        exact ft_eq0z s k 0 0 _ w hks hsm (nums_at s _ hks).symm hk hc.1 hc.2 (by omega) (by omega) (letV_range _) (by rw [h61]; rfl)
      · rw [show (decide (0 ≤ letV ((nums s).getD (4 * k) 0)) && (decide (k = 0) || decide (0 ≤ letV ((nums s).getD (4 * k - 1) 0)))) = false from v0_no hL]
        exact ft_no0z s k 0 0 _ w hks hsm (nums_at s _ hks).symm hk hc.1 hc.2 (by omega) (by omega) (letV_range _) (bne61 h61) hL'
  · have hk : 0 < k := by omega
    have hpq : 0 ≤ letV ((nums s).getD (4 * k - 1) 0) ∨ (nums s).getD (4 * k - 1) 0 = 61 := by
      have h := hprev (4 * k - 1) (by omega)
      rw [show 4 * k - 1 = 4 * (k - 1) + 3 by omega] at h ⊢
      rw [mf, mf3] at h
      split at h
      · simp at h; exact .inr h
      · simp at h
        rcases h with h | h
        · exact .inl h
        · exact .inr h.1
    rcases hpq with hpq | hpq
    rotate_left
    · rw [show (decide (0 ≤ letV ((nums s).getD (4 * k) 0)) && (decide (k = 0) || decide (0 ≤ letV ((nums s).getD (4 * k - 1) 0)))) = false by rw [hpq, letV_61]; simp [hk0]]
      exact ft_pad0k s k 0 _ _ w hks hsm (nums_at s _ hks).symm (nums_at s _ (by omega)).symm hk hc.1 hc.2 (by omega) (by omega) (letV_range _) (by rw [hpq]; rfl)
    have hq := beq61 (ne61 hpq)
    by_cases hL : 0 ≤ letV ((nums s).getD (4 * k) 0)
    · rw [show (decide (0 ≤ letV ((nums s).getD (4 * k) 0)) && (decide (k = 0) || decide (0 ≤ letV ((nums s).getD (4 * k - 1) 0)))) = true from v0_yes hL (.inr hpq)]
      exact ft_yes0k s k 0 _ _ w hks hsm (nums_at s _ hks).symm (nums_at s _ (by omega)).symm hk hc.1 hc.2 (by omega) (by omega) (letV_range _) hq (bne61 (ne61 hL)) hL
    · have hL' : letV ((nums s).getD (4 * k) 0) < 0 := by omega
      by_cases h61 : (nums s).getD (4 * k) 0 = 61
      · rw [show (decide (0 ≤ letV ((nums s).getD (4 * k) 0)) && (decide (k = 0) || decide (0 ≤ letV ((nums s).getD (4 * k - 1) 0)))) = false from v0_no hL]
        exact ft_eq0k s k 0 _ _ w hks hsm (nums_at s _ hks).symm (nums_at s _ (by omega)).symm hk hc.1 hc.2 (by omega) (by omega) (letV_range _) hq (by rw [h61]; rfl)
      · rw [show (decide (0 ≤ letV ((nums s).getD (4 * k) 0)) && (decide (k = 0) || decide (0 ≤ letV ((nums s).getD (4 * k - 1) 0)))) = false from v0_no hL]
        exact ft_no0k s k 0 _ _ w hks hsm (nums_at s _ hks).symm (nums_at s _ (by omega)).symm hk hc.1 hc.2 (by omega) (by omega) (letV_range _) hq (bne61 h61) hL'
theorem fits_r1 (s : ByteArray) (k : Nat) (w : World) (hks : 4 * k + 1 < s.size) (hsm : s.size ≤ 200000) (hprev : ∀ j, j < 4 * k + 1 → mf (nums s) j = true) :
    Calls Try.prog 32 #[.string s, .int .i64 (4 * (k : Int) + 1)] w fun e w' => e = .returned (.bool (mf (nums s) (4 * k + 1))) ∧ w' = w := by
  have hc := nums_range s (4 * k + 1)
  have hp := nums_range s (4 * k)
  have hval : mf (nums s) (4 * k + 1) = mfc (4 * k + 1) ((nums s).getD (4 * k) 0) ((nums s).getD (4 * k + 1) 0) := rfl
  rw [hval, mf1]
  have hP : 0 ≤ letV ((nums s).getD (4 * k) 0) := by
    have h := hprev (4 * k) (by omega)
    rw [mf, mf0] at h
    simp at h
    exact h.1
  by_cases hk0 : k = 0
  · have hk : k < 1 := by omega
    by_cases hL : 0 ≤ letV ((nums s).getD (4 * k + 1) 0)
    · rw [show (decide (0 ≤ letV ((nums s).getD (4 * k + 1) 0)) && decide (0 ≤ letV ((nums s).getD (4 * k) 0))) = true from v1_yes hL hP]
      exact ft_yes1z s k _ 0 _ w hks hsm (nums_at s _ hks).symm (nums_at s _ (by omega)).symm hk hc.1 hc.2 hp.1 hp.2 (letV_range _) (bne61 (ne61 hL)) hL
    · have hL' : letV ((nums s).getD (4 * k + 1) 0) < 0 := by omega
      by_cases h61 : (nums s).getD (4 * k + 1) 0 = 61
      · rw [show (decide (0 ≤ letV ((nums s).getD (4 * k + 1) 0)) && decide (0 ≤ letV ((nums s).getD (4 * k) 0))) = false from v1_no hL]
        exact ft_eq1z s k _ 0 _ w hks hsm (nums_at s _ hks).symm (nums_at s _ (by omega)).symm hk hc.1 hc.2 hp.1 hp.2 (letV_range _) (by rw [h61]; rfl)
      · rw [show (decide (0 ≤ letV ((nums s).getD (4 * k + 1) 0)) && decide (0 ≤ letV ((nums s).getD (4 * k) 0))) = false from v1_no hL]
        exact ft_no1z s k _ 0 _ w hks hsm (nums_at s _ hks).symm (nums_at s _ (by omega)).symm hk hc.1 hc.2 hp.1 hp.2 (letV_range _) (bne61 h61) hL'
  · have hk : 0 < k := by omega
    have hpq : 0 ≤ letV ((nums s).getD (4 * k - 1) 0) := by
      have h := hprev (4 * k) (by omega)
      rw [mf, mf0] at h
      simp [hk0] at h
      exact h.2
    have hq := beq61 (ne61 hpq)
    by_cases hL : 0 ≤ letV ((nums s).getD (4 * k + 1) 0)
    · rw [show (decide (0 ≤ letV ((nums s).getD (4 * k + 1) 0)) && decide (0 ≤ letV ((nums s).getD (4 * k) 0))) = true from v1_yes hL hP]
      exact ft_yes1k s k _ _ _ w hks hsm (nums_at s _ hks).symm (nums_at s _ (by omega)).symm (nums_at s _ (by omega)).symm hk hc.1 hc.2 hp.1 hp.2 (letV_range _) hq (bne61 (ne61 hL)) hL
    · have hL' : letV ((nums s).getD (4 * k + 1) 0) < 0 := by omega
      by_cases h61 : (nums s).getD (4 * k + 1) 0 = 61
      · rw [show (decide (0 ≤ letV ((nums s).getD (4 * k + 1) 0)) && decide (0 ≤ letV ((nums s).getD (4 * k) 0))) = false from v1_no hL]
        exact ft_eq1k s k _ _ _ w hks hsm (nums_at s _ hks).symm (nums_at s _ (by omega)).symm (nums_at s _ (by omega)).symm hk hc.1 hc.2 hp.1 hp.2 (letV_range _) hq (by rw [h61]; rfl)
      · rw [show (decide (0 ≤ letV ((nums s).getD (4 * k + 1) 0)) && decide (0 ≤ letV ((nums s).getD (4 * k) 0))) = false from v1_no hL]
        exact ft_no1k s k _ _ _ w hks hsm (nums_at s _ hks).symm (nums_at s _ (by omega)).symm (nums_at s _ (by omega)).symm hk hc.1 hc.2 hp.1 hp.2 (letV_range _) hq (bne61 h61) hL'
theorem fits_r2 (s : ByteArray) (k : Nat) (w : World) (hks : 4 * k + 2 < s.size) (hsm : s.size ≤ 200000) (hprev : ∀ j, j < 4 * k + 2 → mf (nums s) j = true) :
    Calls Try.prog 32 #[.string s, .int .i64 (4 * (k : Int) + 2)] w fun e w' => e = .returned (.bool (mf (nums s) (4 * k + 2))) ∧ w' = w := by
  have hc := nums_range s (4 * k + 2)
  have hp := nums_range s (4 * k + 1)
  have hval : mf (nums s) (4 * k + 2) = mfc (4 * k + 2) ((nums s).getD (4 * k + 1) 0) ((nums s).getD (4 * k + 2) 0) := rfl
  rw [hval, mf2]
  have hP : 0 ≤ letV ((nums s).getD (4 * k + 1) 0) := by
    have h := hprev (4 * k + 1) (by omega)
    rw [mf, mf1] at h
    simp at h
    exact h.1
  by_cases hk0 : k = 0
  · have hk : k < 1 := by omega
    by_cases hL : 0 ≤ letV ((nums s).getD (4 * k + 2) 0)
    · rw [show (decide (0 ≤ letV ((nums s).getD (4 * k + 2) 0)) || ((nums s).getD (4 * k + 2) 0 == 61 && letV ((nums s).getD (4 * k + 1) 0) % 16 == 0)) = true from v2_yes hL]
      exact ft_yes2z s k _ 0 _ w hks hsm (nums_at s _ hks).symm (nums_at s _ (by omega)).symm hk hc.1 hc.2 hp.1 hp.2 (letV_range _) (bne61 (ne61 hL)) hL
    · have hL' : letV ((nums s).getD (4 * k + 2) 0) < 0 := by omega
      by_cases h61 : (nums s).getD (4 * k + 2) 0 = 61
      · rw [show (decide (0 ≤ letV ((nums s).getD (4 * k + 2) 0)) || ((nums s).getD (4 * k + 2) 0 == 61 && letV ((nums s).getD (4 * k + 1) 0) % 16 == 0)) = (letV ((nums s).getD (4 * k + 1) 0) % 16 == 0) from v2_eq hL h61]
        exact ft_eq2z s k _ 0 _ w hks hsm (nums_at s _ hks).symm (nums_at s _ (by omega)).symm hk hc.1 hc.2 hp.1 hp.2 (letV_range _) (by rw [h61]; rfl) hP
      · rw [show (decide (0 ≤ letV ((nums s).getD (4 * k + 2) 0)) || ((nums s).getD (4 * k + 2) 0 == 61 && letV ((nums s).getD (4 * k + 1) 0) % 16 == 0)) = false from v2_no hL h61]
        exact ft_no2z s k _ 0 _ w hks hsm (nums_at s _ hks).symm (nums_at s _ (by omega)).symm hk hc.1 hc.2 hp.1 hp.2 (letV_range _) (bne61 h61) hL'
  · have hk : 0 < k := by omega
    have hpq : 0 ≤ letV ((nums s).getD (4 * k - 1) 0) := by
      have h := hprev (4 * k) (by omega)
      rw [mf, mf0] at h
      simp [hk0] at h
      exact h.2
    have hq := beq61 (ne61 hpq)
    by_cases hL : 0 ≤ letV ((nums s).getD (4 * k + 2) 0)
    · rw [show (decide (0 ≤ letV ((nums s).getD (4 * k + 2) 0)) || ((nums s).getD (4 * k + 2) 0 == 61 && letV ((nums s).getD (4 * k + 1) 0) % 16 == 0)) = true from v2_yes hL]
      exact ft_yes2k s k _ _ _ w hks hsm (nums_at s _ hks).symm (nums_at s _ (by omega)).symm (nums_at s _ (by omega)).symm hk hc.1 hc.2 hp.1 hp.2 (letV_range _) hq (bne61 (ne61 hL)) hL
    · have hL' : letV ((nums s).getD (4 * k + 2) 0) < 0 := by omega
      by_cases h61 : (nums s).getD (4 * k + 2) 0 = 61
      · rw [show (decide (0 ≤ letV ((nums s).getD (4 * k + 2) 0)) || ((nums s).getD (4 * k + 2) 0 == 61 && letV ((nums s).getD (4 * k + 1) 0) % 16 == 0)) = (letV ((nums s).getD (4 * k + 1) 0) % 16 == 0) from v2_eq hL h61]
        exact ft_eq2k s k _ _ _ w hks hsm (nums_at s _ hks).symm (nums_at s _ (by omega)).symm (nums_at s _ (by omega)).symm hk hc.1 hc.2 hp.1 hp.2 (letV_range _) hq (by rw [h61]; rfl) hP
      · rw [show (decide (0 ≤ letV ((nums s).getD (4 * k + 2) 0)) || ((nums s).getD (4 * k + 2) 0 == 61 && letV ((nums s).getD (4 * k + 1) 0) % 16 == 0)) = false from v2_no hL h61]
        exact ft_no2k s k _ _ _ w hks hsm (nums_at s _ hks).symm (nums_at s _ (by omega)).symm (nums_at s _ (by omega)).symm hk hc.1 hc.2 hp.1 hp.2 (letV_range _) hq (bne61 h61) hL'
theorem fits_r3 (s : ByteArray) (k : Nat) (w : World) (hks : 4 * k + 3 < s.size) (hsm : s.size ≤ 200000) (hprev : ∀ j, j < 4 * k + 3 → mf (nums s) j = true) :
    Calls Try.prog 32 #[.string s, .int .i64 (4 * (k : Int) + 3)] w fun e w' => e = .returned (.bool (mf (nums s) (4 * k + 3))) ∧ w' = w := by
  have hc := nums_range s (4 * k + 3)
  have hp := nums_range s (4 * k + 2)
  have hval : mf (nums s) (4 * k + 3) = mfc (4 * k + 3) ((nums s).getD (4 * k + 2) 0) ((nums s).getD (4 * k + 3) 0) := rfl
  rw [hval, mf3]
  have hP : 0 ≤ letV ((nums s).getD (4 * k + 2) 0) ∨ (nums s).getD (4 * k + 2) 0 = 61 := by
    have h := hprev (4 * k + 2) (by omega)
    rw [mf, mf2] at h
    simp at h
    rcases h with h | h
    · exact .inl h
    · exact .inr h.1
  by_cases hk0 : k = 0
  · have hk : k < 1 := by omega
    by_cases hL : 0 ≤ letV ((nums s).getD (4 * k + 3) 0)
    · rcases hP with hP | hP
      · rw [show (if letV ((nums s).getD (4 * k + 2) 0) < 0 then (nums s).getD (4 * k + 3) 0 == 61 else decide (0 ≤ letV ((nums s).getD (4 * k + 3) 0)) || ((nums s).getD (4 * k + 3) 0 == 61 && letV ((nums s).getD (4 * k + 2) 0) % 4 == 0)) = true from v3_yes hL hP]
        exact ft_yes3z s k _ 0 _ w hks hsm (nums_at s _ hks).symm (nums_at s _ (by omega)).symm hk hc.1 hc.2 hp.1 hp.2 (letV_range _) (bne61 (ne61 hL)) hL (bne61 (ne61 hP)) (beq61 (ne61 hP))
      · rw [show (if letV ((nums s).getD (4 * k + 2) 0) < 0 then (nums s).getD (4 * k + 3) 0 == 61 else decide (0 ≤ letV ((nums s).getD (4 * k + 3) 0)) || ((nums s).getD (4 * k + 3) 0 == 61 && letV ((nums s).getD (4 * k + 2) 0) % 4 == 0)) = false by rw [hP, letV_61, if_pos (by omega)]; exact beq61 (ne61 hL)]
        exact ft_yes3pz s k _ 0 _ w hks hsm (nums_at s _ hks).symm (nums_at s _ (by omega)).symm hk hc.1 hc.2 hp.1 hp.2 (letV_range _) (bne61 (ne61 hL)) hL (by rw [hP]; rfl) (by rw [hP]; rfl)
    · have hL' : letV ((nums s).getD (4 * k + 3) 0) < 0 := by omega
      by_cases h61 : (nums s).getD (4 * k + 3) 0 = 61
      · rcases hP with hP | hP
        · rw [show (if letV ((nums s).getD (4 * k + 2) 0) < 0 then (nums s).getD (4 * k + 3) 0 == 61 else decide (0 ≤ letV ((nums s).getD (4 * k + 3) 0)) || ((nums s).getD (4 * k + 3) 0 == 61 && letV ((nums s).getD (4 * k + 2) 0) % 4 == 0)) = (letV ((nums s).getD (4 * k + 2) 0) % 4 == 0) from v3_eq hL h61 hP]
          exact ft_eq3z s k _ 0 _ w hks hsm (nums_at s _ hks).symm (nums_at s _ (by omega)).symm hk hc.1 hc.2 hp.1 hp.2 (letV_range _) (by rw [h61]; rfl) (bne61 (ne61 hP)) (beq61 (ne61 hP)) hP
        · rw [show (if letV ((nums s).getD (4 * k + 2) 0) < 0 then (nums s).getD (4 * k + 3) 0 == 61 else decide (0 ≤ letV ((nums s).getD (4 * k + 3) 0)) || ((nums s).getD (4 * k + 3) 0 == 61 && letV ((nums s).getD (4 * k + 2) 0) % 4 == 0)) = true by rw [hP, letV_61, if_pos (by omega), h61]; rfl]
          exact ft_eq3pz s k _ 0 _ w hks hsm (nums_at s _ hks).symm (nums_at s _ (by omega)).symm hk hc.1 hc.2 hp.1 hp.2 (letV_range _) (by rw [h61]; rfl) (by rw [hP]; rfl) (by rw [hP]; rfl)
      · rw [show (if letV ((nums s).getD (4 * k + 2) 0) < 0 then (nums s).getD (4 * k + 3) 0 == 61 else decide (0 ≤ letV ((nums s).getD (4 * k + 3) 0)) || ((nums s).getD (4 * k + 3) 0 == 61 && letV ((nums s).getD (4 * k + 2) 0) % 4 == 0)) = false from v3_no hL h61]
        exact ft_no3z s k _ 0 _ w hks hsm (nums_at s _ hks).symm (nums_at s _ (by omega)).symm hk hc.1 hc.2 hp.1 hp.2 (letV_range _) (bne61 h61) hL'
  · have hk : 0 < k := by omega
    have hpq : 0 ≤ letV ((nums s).getD (4 * k - 1) 0) := by
      have h := hprev (4 * k) (by omega)
      rw [mf, mf0] at h
      simp [hk0] at h
      exact h.2
    have hq := beq61 (ne61 hpq)
    by_cases hL : 0 ≤ letV ((nums s).getD (4 * k + 3) 0)
    · rcases hP with hP | hP
      · rw [show (if letV ((nums s).getD (4 * k + 2) 0) < 0 then (nums s).getD (4 * k + 3) 0 == 61 else decide (0 ≤ letV ((nums s).getD (4 * k + 3) 0)) || ((nums s).getD (4 * k + 3) 0 == 61 && letV ((nums s).getD (4 * k + 2) 0) % 4 == 0)) = true from v3_yes hL hP]
        exact ft_yes3k s k _ _ _ w hks hsm (nums_at s _ hks).symm (nums_at s _ (by omega)).symm (nums_at s _ (by omega)).symm hk hc.1 hc.2 hp.1 hp.2 (letV_range _) hq (bne61 (ne61 hL)) hL (bne61 (ne61 hP)) (beq61 (ne61 hP))
      · rw [show (if letV ((nums s).getD (4 * k + 2) 0) < 0 then (nums s).getD (4 * k + 3) 0 == 61 else decide (0 ≤ letV ((nums s).getD (4 * k + 3) 0)) || ((nums s).getD (4 * k + 3) 0 == 61 && letV ((nums s).getD (4 * k + 2) 0) % 4 == 0)) = false by rw [hP, letV_61, if_pos (by omega)]; exact beq61 (ne61 hL)]
        exact ft_yes3pk s k _ _ _ w hks hsm (nums_at s _ hks).symm (nums_at s _ (by omega)).symm (nums_at s _ (by omega)).symm hk hc.1 hc.2 hp.1 hp.2 (letV_range _) hq (bne61 (ne61 hL)) hL (by rw [hP]; rfl) (by rw [hP]; rfl)
    · have hL' : letV ((nums s).getD (4 * k + 3) 0) < 0 := by omega
      by_cases h61 : (nums s).getD (4 * k + 3) 0 = 61
      · rcases hP with hP | hP
        · rw [show (if letV ((nums s).getD (4 * k + 2) 0) < 0 then (nums s).getD (4 * k + 3) 0 == 61 else decide (0 ≤ letV ((nums s).getD (4 * k + 3) 0)) || ((nums s).getD (4 * k + 3) 0 == 61 && letV ((nums s).getD (4 * k + 2) 0) % 4 == 0)) = (letV ((nums s).getD (4 * k + 2) 0) % 4 == 0) from v3_eq hL h61 hP]
          exact ft_eq3k s k _ _ _ w hks hsm (nums_at s _ hks).symm (nums_at s _ (by omega)).symm (nums_at s _ (by omega)).symm hk hc.1 hc.2 hp.1 hp.2 (letV_range _) hq (by rw [h61]; rfl) (bne61 (ne61 hP)) (beq61 (ne61 hP)) hP
        · rw [show (if letV ((nums s).getD (4 * k + 2) 0) < 0 then (nums s).getD (4 * k + 3) 0 == 61 else decide (0 ≤ letV ((nums s).getD (4 * k + 3) 0)) || ((nums s).getD (4 * k + 3) 0 == 61 && letV ((nums s).getD (4 * k + 2) 0) % 4 == 0)) = true by rw [hP, letV_61, if_pos (by omega), h61]; rfl]
          exact ft_eq3pk s k _ _ _ w hks hsm (nums_at s _ hks).symm (nums_at s _ (by omega)).symm (nums_at s _ (by omega)).symm hk hc.1 hc.2 hp.1 hp.2 (letV_range _) hq (by rw [h61]; rfl) (by rw [hP]; rfl) (by rw [hP]; rfl)
      · rw [show (if letV ((nums s).getD (4 * k + 2) 0) < 0 then (nums s).getD (4 * k + 3) 0 == 61 else decide (0 ≤ letV ((nums s).getD (4 * k + 3) 0)) || ((nums s).getD (4 * k + 3) 0 == 61 && letV ((nums s).getD (4 * k + 2) 0) % 4 == 0)) = false from v3_no hL h61]
        exact ft_no3k s k _ _ _ w hks hsm (nums_at s _ hks).symm (nums_at s _ (by omega)).symm (nums_at s _ (by omega)).symm hk hc.1 hc.2 hp.1 hp.2 (letV_range _) hq (bne61 h61) hL'

/-- cofferref01.fits, where all places ahead fit. -/
theorem fits_any (s : ByteArray) (i : Nat) (w : World) (hks : i < s.size) (hsm : s.size ≤ 200000) (hprev : ∀ j, j < i → mf (nums s) j = true) :
    Calls Try.prog 32 #[.string s, .int .i64 i] w fun e w' => e = .returned (.bool (mf (nums s) i)) ∧ w' = w := by
  obtain ⟨k, r, hr, rfl⟩ : ∃ k r, r < 4 ∧ i = 4 * k + r := ⟨i / 4, i % 4, by omega, by omega⟩
  have hcase : r = 0 ∨ r = 1 ∨ r = 2 ∨ r = 3 := by omega
  rcases hcase with rfl | rfl | rfl | rfl
  · rw [show (((4 * k + 0 : Nat)) : Int) = 4 * (k : Int) by omega]
    exact fits_r0 s k w hks hsm hprev
  · rw [show (((4 * k + 1 : Nat)) : Int) = 4 * (k : Int) + 1 by omega]
    exact fits_r1 s k w hks hsm hprev
  · rw [show (((4 * k + 2 : Nat)) : Int) = 4 * (k : Int) + 2 by omega]
    exact fits_r2 s k w hks hsm hprev
  · rw [show (((4 * k + 3 : Nat)) : Int) = 4 * (k : Int) + 3 by omega]
    exact fits_r3 s k w hks hsm hprev
end Go.Proofs.Ytioggmjocelolaa
