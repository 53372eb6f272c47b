import Derived.Test.YtioggmjocelolaaLetV
import Derived.Test.YtioggmjocelolaaMayFns
namespace Go.Proofs.Ytioggmjocelolaa
open Go.RowKit

set_option maxHeartbeats 1600000 in
set_option maxRecDepth 100000 in
theorem may_first (s : ByteArray) (c : Int) (w : World) (hks : 0 < s.size) (hcs : ((s[0]'hks).toNat : Int) = c) (h0 : 0 ≤ c) (h1 : c < 256) :
    Calls Try.prog 27 #[.string s, .int .i64 0] w fun e w' => e = .returned (.bool (mfc 0 0 c)) ∧ w' = w := by
  have hv : mfc 0 0 c = decide (0 ≤ letV c) := by simp [mfc]
  rw [hv]
  clear hv
  go_enter Try.func27, Try.ntmps27
  go_wp2_with fail
  refine (letterValue_any c _ h0 h1).mono ?_
  rintro e w1 ⟨rfl, rfl⟩
  go_wp2
  go_ret
  exact ⟨rfl, rfl⟩

set_option maxHeartbeats 1600000 in
set_option maxRecDepth 100000 in
theorem may_two (s : ByteArray) (i : Nat) (p c : Int) (w : World) (hi : 0 < i) (hks : i < s.size) (hsm : s.size ≤ 200000) (hcs : ((s[i]'hks).toNat : Int) = c) (hps : ((s[i - 1]'(by omega)).toNat : Int) = p) (h0 : 0 ≤ c) (h1 : c < 256) (p0 : 0 ≤ p) (p1 : p < 256) (h2 : i % 4 = 2) :
    Calls Try.prog 27 #[.string s, .int .i64 i] w fun e w' => e = .returned (.bool (mfc i p c)) ∧ w' = w := by
  have hv : mfc i p c = (decide (0 ≤ letV c) || (c == 61 && letV p % 16 == 0)) := by simp [mfc, h2]; omega
  rw [hv]
  clear hv
  have e0 : ((i : Int) == 0) = false := by simp; omega
  have e2 : ((i : Int) % 4 == 2) = true := by simp; omega
  have ea := i64_and15 (letV p)
  clear h2
  by_cases hL : 0 ≤ letV c
  · go_enter Try.func27, Try.ntmps27
    go_wp2_with fail
    refine (letterValue_any c _ h0 h1).mono ?_
    rintro e w1 ⟨rfl, rfl⟩
    go_wp2_with fail
    refine (letterValue_any p _ p0 p1).mono ?_
    rintro e w1 ⟨rfl, rfl⟩
    go_wp2
    go_ret
    exact ⟨ret_bool (by simp [hL]), rfl⟩
  · have hL' : decide (0 ≤ letV c) = false := by simpa using hL
    clear hL
    by_cases h61 : c = 61
    · have e61 : (c == 61) = true := by simp [h61]
      clear h61
      go_enter Try.func27, Try.ntmps27
      go_wp2_with fail
      refine (letterValue_any c _ h0 h1).mono ?_
      rintro e w1 ⟨rfl, rfl⟩
      go_wp2_with fail
      refine (letterValue_any p _ p0 p1).mono ?_
      rintro e w1 ⟨rfl, rfl⟩
      go_wp2
      go_ret
      exact ⟨ret_bool (by simp only [hL', e61, Bool.false_or, Bool.true_and]), rfl⟩
    · have e61 : (c == 61) = false := by simp [h61]
      clear h61
      go_enter Try.func27, Try.ntmps27
      go_wp2_with fail
      refine (letterValue_any c _ h0 h1).mono ?_
      rintro e w1 ⟨rfl, rfl⟩
      go_wp2_with fail
      refine (letterValue_any p _ p0 p1).mono ?_
      rintro e w1 ⟨rfl, rfl⟩
      go_wp2
      go_ret
      exact ⟨ret_bool (by simp only [hL', e61, Bool.false_or, Bool.false_and]), rfl⟩
set_option maxHeartbeats 1600000 in
set_option maxRecDepth 100000 in
theorem may_three (s : ByteArray) (i : Nat) (p c : Int) (w : World) (hi : 0 < i) (hks : i < s.size) (hsm : s.size ≤ 200000) (hcs : ((s[i]'hks).toNat : Int) = c) (hps : ((s[i - 1]'(by omega)).toNat : Int) = p) (h0 : 0 ≤ c) (h1 : c < 256) (p0 : 0 ≤ p) (p1 : p < 256) (h3 : i % 4 = 3) :
    Calls Try.prog 27 #[.string s, .int .i64 i] w fun e w' => e = .returned (.bool (mfc i p c)) ∧ w' = w := by
  have hv : mfc i p c = (if letV p < 0 then c == 61 else decide (0 ≤ letV c) || (c == 61 && letV p % 4 == 0)) := by
    have hne : i ≠ 0 := by omega
    simp [mfc, h3, hne]
  rw [hv]
  clear hv
  have e0 : ((i : Int) == 0) = false := by simp; omega
  have e2 : ((i : Int) % 4 == 2) = false := by simp; omega
  have e3 : ((i : Int) % 4 == 3) = true := by simp; omega
  have ea := i64_and3 (letV p)
  clear h3
  by_cases hP : letV p < 0
  · rw [if_pos hP]
    go_enter Try.func27, Try.ntmps27
    go_wp2_with fail
    refine (letterValue_any c _ h0 h1).mono ?_
    rintro e w1 ⟨rfl, rfl⟩
    go_wp2_with fail
    refine (letterValue_any p _ p0 p1).mono ?_
    rintro e w1 ⟨rfl, rfl⟩
    go_wp2
    go_ret
    exact ⟨ret_bool (rfl), rfl⟩
  · rw [if_neg hP]
    have hP' : decide (letV p < 0) = false := by simpa using hP
    by_cases hL : 0 ≤ letV c
    · go_enter Try.func27, Try.ntmps27
      go_wp2_with fail
      refine (letterValue_any c _ h0 h1).mono ?_
      rintro e w1 ⟨rfl, rfl⟩
      go_wp2_with fail
      refine (letterValue_any p _ p0 p1).mono ?_
      rintro e w1 ⟨rfl, rfl⟩
      go_wp2
      go_ret
      exact ⟨ret_bool (by simp [hL]), rfl⟩
    · have hL' : decide (0 ≤ letV c) = false := by simpa using hL
      clear hL
      by_cases h61 : c = 61
      · have e61 : (c == 61) = true := by simp [h61]
        clear h61
        go_enter Try.func27, Try.ntmps27
        go_wp2_with fail
        refine (letterValue_any c _ h0 h1).mono ?_
        rintro e w1 ⟨rfl, rfl⟩
        go_wp2_with fail
        refine (letterValue_any p _ p0 p1).mono ?_
        rintro e w1 ⟨rfl, rfl⟩
        go_wp2
        go_ret
        exact ⟨ret_bool (by simp only [hL', e61, Bool.false_or, Bool.true_and]), rfl⟩
      · have e61 : (c == 61) = false := by simp [h61]
        clear h61
        go_enter Try.func27, Try.ntmps27
        go_wp2_with fail
        refine (letterValue_any c _ h0 h1).mono ?_
        rintro e w1 ⟨rfl, rfl⟩
        go_wp2_with fail
        refine (letterValue_any p _ p0 p1).mono ?_
        rintro e w1 ⟨rfl, rfl⟩
        go_wp2
        go_ret
        exact ⟨ret_bool (by simp only [hL', e61, Bool.false_or, Bool.false_and]), rfl⟩

set_option maxHeartbeats 1600000 in
set_option maxRecDepth 100000 in
theorem may_else (s : ByteArray) (i : Nat) (p c : Int) (w : World) (hi : 0 < i) (hks : i < s.size) (hsm : s.size ≤ 200000) (hcs : ((s[i]'hks).toNat : Int) = c) (hps : ((s[i - 1]'(by omega)).toNat : Int) = p) (h0 : 0 ≤ c) (h1 : c < 256) (p0 : 0 ≤ p) (p1 : p < 256) (h2 : i % 4 ≠ 2) (h3 : i % 4 ≠ 3) :
    Calls Try.prog 27 #[.string s, .int .i64 i] w fun e w' => e = .returned (.bool (mfc i p c)) ∧ w' = w := by
  have hv : mfc i p c = (decide (0 ≤ letV c) && decide (0 ≤ letV p)) := by
    have hne : i ≠ 0 := by omega
    simp [mfc, h2, h3, hne]
  rw [hv]
  clear hv
  have e0 : ((i : Int) == 0) = false := by simp; omega
  have e2 : ((i : Int) % 4 == 2) = false := by simp; omega
  have e3 : ((i : Int) % 4 == 3) = false := by simp; omega
  clear h2 h3
  by_cases hL : 0 ≤ letV c
  · have hL' : decide (0 ≤ letV c) = true := by simpa using hL
    go_enter Try.func27, Try.ntmps27
    go_wp2_with fail
    refine (letterValue_any c _ h0 h1).mono ?_
    rintro e w1 ⟨rfl, rfl⟩
    go_wp2_with fail
    refine (letterValue_any p _ p0 p1).mono ?_
    rintro e w1 ⟨rfl, rfl⟩
    go_wp2
    go_ret
    exact ⟨ret_bool (by simp only [hL', Bool.true_and]), rfl⟩
  · have hL' : decide (0 ≤ letV c) = false := by simpa using hL
    clear hL
    go_enter Try.func27, Try.ntmps27
    go_wp2_with fail
    refine (letterValue_any c _ h0 h1).mono ?_
    rintro e w1 ⟨rfl, rfl⟩
    go_wp2_with fail
    refine (letterValue_any p _ p0 p1).mono ?_
    rintro e w1 ⟨rfl, rfl⟩
    go_wp2
    go_ret
    exact ⟨ret_bool (by simp only [hL', Bool.false_and]), rfl⟩

/-- digest.mayFollow. -/
theorem may_any (s : ByteArray) (i : Nat) (w : World) (hks : i < s.size) (hsm : s.size ≤ 200000) :
    Calls Try.prog 27 #[.string s, .int .i64 i] w fun e w' => e = .returned (.bool (mf (nums s) i)) ∧ w' = w := by
  have hc := nums_range s i
  have hp := nums_range s (i - 1)
  by_cases h0 : i = 0
  · subst h0
    have e : mf (nums s) 0 = mfc 0 0 ((nums s).getD 0 0) := by simp [mf, mfc]
    rw [e]
    exact may_first s _ w hks (nums_at s 0 hks).symm hc.1 hc.2
  · have hc1 := (nums_at s i hks).symm
    have hp1 := (nums_at s (i - 1) (by omega)).symm
    by_cases h2 : i % 4 = 2
    · exact may_two s i _ _ w (by omega) hks hsm hc1 hp1 hc.1 hc.2 hp.1 hp.2 h2
    · by_cases h3 : i % 4 = 3
      · exact may_three s i _ _ w (by omega) hks hsm hc1 hp1 hc.1 hc.2 hp.1 hp.2 h3
      · exact may_else s i _ _ w (by omega) hks hsm hc1 hp1 hc.1 hc.2 hp.1 hp.2 h2 h3
end Go.Proofs.Ytioggmjocelolaa
