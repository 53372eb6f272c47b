import Derived.Test.YtioggmjocelolacDoorExpand2
import Derived.Test.YtioggmjocelolacDoorRExp
namespace Go.Proofs.YtioggmjocelolacDoor
open Go.RowKit
set_option linter.unusedVariables false
set_option linter.unusedSimpArgs false
/-- The error that Expand names. -/
def expE (h : Int) (kl : Nat) (n : Int) : Int := if ¬ Known h then 10 else if kl < szOf h then 15 else if n < 1 ∨ 255 * (szOf h : Int) < n then 12 else 0
theorem size_bad (h : Int) (k : ¬ Known h) (w : World) : Calls Tryd.prog 46 #[.int .i64 h] w fun e w' => e = .returned (.int .i64 0) ∧ w' = w := by
  have d1 : ¬ h = 224 := fun e => k (.inl e)
  have d2 : ¬ h = 256 := fun e => k (.inr (.inl e))
  have d3 : ¬ h = 384 := fun e => k (.inr (.inr (.inl e)))
  have d4 : ¬ h = 512 := fun e => k (.inr (.inr (.inr e)))
  clear k
  go_enter Tryd.func46, Tryd.ntmps46
  go_wp2
  go_ret
  exact ⟨rfl, rfl⟩
set_option maxHeartbeats 800000 in
set_option maxRecDepth 100000 in
theorem may_any (h : Int) (kl il : Nat) (n : Int) (w : World) (hk : kl ≤ 65536) (hi : il ≤ 1024) (hn1 : -9223372036854775808 ≤ n) (hn2 : n ≤ 9223372036854775807) :
    Calls Tryd.prog 63 #[.int .i64 h, .int .i64 kl, .int .i64 il, .int .i64 n] w fun e w' => e = .returned (.int .i64 (expE h kl n)) ∧ w' = w := by
  by_cases k : Known h
  · obtain ⟨sz, HSZ⟩ : ∃ sz : Nat, Hid (sz = szOf h) := ⟨_, rfl⟩
    have hs : 1 ≤ sz ∧ sz ≤ 64 := by rw [HSZ.out]; exact szOf_pos k
    have HS : Hid (∀ u, Calls Tryd.prog 46 #[.int .i64 h] u fun e w' => e = .returned (.int .i64 (sz : Nat)) ∧ w' = u) := fun u => by rw [HSZ.out]; exact size_known k u
    have HE : Hid (expE h kl n = if kl < sz then 15 else if n < 1 ∨ 255 * (sz : Int) < n then 12 else 0) := by
      show _ = _
      unfold expE
      rw [if_neg (fun h => h k), HSZ.out]
    have h4 : ((sz : Int) == 0) = false := by simp; omega
    rw [HE.out]
    by_cases hc1 : kl < sz
    · have d1 : ((kl : Nat) : Int) < (sz : Nat) := by omega
      rw [if_pos hc1]
      go_enter Tryd.func63, Tryd.ntmps63
      go_wp2_with (go_at_call 46; refine (HS.out _).mono ?_; rintro e1 w1 ⟨rfl, hw1⟩; obtain rfl := hw1.symm)
      go_ret
      exact ⟨rfl, rfl⟩
    · have d1 : ¬ ((kl : Nat) : Int) < (sz : Nat) := by omega
      have d5 : ¬ (33554432 : Int) < (kl : Nat) := by omega
      have d6 : ¬ (33554367 : Int) < (il : Nat) := by omega
      rw [if_neg hc1]
      by_cases hc2 : n < 1
      · rw [if_pos (.inl hc2)]
        go_enter Tryd.func63, Tryd.ntmps63
        go_wp2_with (go_at_call 46; refine (HS.out _).mono ?_; rintro e1 w1 ⟨rfl, hw1⟩; obtain rfl := hw1.symm)
        go_ret
        exact ⟨rfl, rfl⟩
      · by_cases hc3 : 255 * (sz : Int) < n
        · rw [if_pos (.inr hc3)]
          go_enter Tryd.func63, Tryd.ntmps63
          go_wp2_with (go_at_call 46; refine (HS.out _).mono ?_; rintro e1 w1 ⟨rfl, hw1⟩; obtain rfl := hw1.symm)
          go_ret
          exact ⟨rfl, rfl⟩
        · rw [if_neg (by omega)]
          go_enter Tryd.func63, Tryd.ntmps63
          go_wp2_with (go_at_call 46; refine (HS.out _).mono ?_; rintro e1 w1 ⟨rfl, hw1⟩; obtain rfl := hw1.symm)
          go_ret
          exact ⟨rfl, rfl⟩
  · have e : expE h kl n = 10 := by unfold expE; rw [if_pos k]
    rw [e]
    have HS : Hid (∀ u, Calls Tryd.prog 46 #[.int .i64 h] u fun e w' => e = .returned (.int .i64 0) ∧ w' = u) := fun u => size_bad h k u
    go_enter Tryd.func63, Tryd.ntmps63
    go_wp2_with (go_at_call 46; refine (HS.out _).mono ?_; rintro e1 w1 ⟨rfl, hw1⟩; obtain rfl := hw1.symm)
    go_ret
    exact ⟨rfl, rfl⟩
set_option maxHeartbeats 800000 in
set_option maxRecDepth 100000 in
theorem xerr_any (h : Int) (kl il : Nat) (n : Int) (w : World) (hk : kl ≤ 65536) (hi : il ≤ 1024) (hn1 : -9223372036854775808 ≤ n) (hn2 : n ≤ 9223372036854775807) :
    Calls Tryd.prog 43 #[.int .i64 h, .int .i64 kl, .int .i64 il, .int .i64 n] w fun e w' => e = .returned (.int .i64 (expE h kl n)) ∧ w' = w := by
  by_cases k : Known h
  · obtain ⟨sz, HSZ⟩ : ∃ sz : Nat, Hid (sz = szOf h) := ⟨_, rfl⟩
    have hs : 1 ≤ sz ∧ sz ≤ 64 := by rw [HSZ.out]; exact szOf_pos k
    have HS : Hid (∀ u, Calls Tryd.prog 16 #[.int .i64 h] u fun e w' => e = .returned (.int .i64 (sz : Nat)) ∧ w' = u) := fun u => by rw [HSZ.out]; exact rsize_ok h k u
    have HE : Hid (expE h kl n = if kl < sz then 15 else if n < 1 ∨ 255 * (sz : Int) < n then 12 else 0) := by
      show _ = _
      unfold expE
      rw [if_neg (fun h => h k), HSZ.out]
    have h4 : ((sz : Int) == 0) = false := by simp; omega
    rw [HE.out]
    by_cases hc1 : kl < sz
    · have d1 : ((kl : Nat) : Int) < (sz : Nat) := by omega
      rw [if_pos hc1]
      go_enter Tryd.func43, Tryd.ntmps43
      go_wp2_with (go_at_call 16; refine (HS.out _).mono ?_; rintro e1 w1 ⟨rfl, hw1⟩; obtain rfl := hw1.symm)
      go_ret
      exact ⟨rfl, rfl⟩
    · have d1 : ¬ ((kl : Nat) : Int) < (sz : Nat) := by omega
      have d5 : ¬ (33554432 : Int) < (kl : Nat) := by omega
      have d6 : ¬ (33554367 : Int) < (il : Nat) := by omega
      rw [if_neg hc1]
      by_cases hc2 : n < 1
      · rw [if_pos (.inl hc2)]
        go_enter Tryd.func43, Tryd.ntmps43
        go_wp2_with (go_at_call 16; refine (HS.out _).mono ?_; rintro e1 w1 ⟨rfl, hw1⟩; obtain rfl := hw1.symm)
        go_ret
        exact ⟨rfl, rfl⟩
      · by_cases hc3 : 255 * (sz : Int) < n
        · rw [if_pos (.inr hc3)]
          go_enter Tryd.func43, Tryd.ntmps43
          go_wp2_with (go_at_call 16; refine (HS.out _).mono ?_; rintro e1 w1 ⟨rfl, hw1⟩; obtain rfl := hw1.symm)
          go_ret
          exact ⟨rfl, rfl⟩
        · rw [if_neg (by omega)]
          go_enter Tryd.func43, Tryd.ntmps43
          go_wp2_with (go_at_call 16; refine (HS.out _).mono ?_; rintro e1 w1 ⟨rfl, hw1⟩; obtain rfl := hw1.symm)
          go_ret
          exact ⟨rfl, rfl⟩
  · have e : expE h kl n = 10 := by unfold expE; rw [if_pos k]
    rw [e]
    have HS : Hid (∀ u, Calls Tryd.prog 16 #[.int .i64 h] u fun e w' => e = .returned (.int .i64 0) ∧ w' = u) := fun u => rsize_bad h k u
    go_enter Tryd.func43, Tryd.ntmps43
    go_wp2_with (go_at_call 16; refine (HS.out _).mono ?_; rintro e1 w1 ⟨rfl, hw1⟩; obtain rfl := hw1.symm)
    go_ret
    exact ⟨rfl, rfl⟩
/-- Enough blocks give the same bytes. -/
theorem exp_take {h : Int} (k : Known h) (key info : List Int) (n q : Nat) (hq : n ≤ q * szOf h) : (expL h key info q).take n = (expL h key info n).take n := by
  have h1 := expL_length k key info
  have hs := (szOf_pos k).1
  have hn : n ≤ n * szOf h := Nat.le_mul_of_pos_right n hs
  rcases Nat.le_total q n with hle | hle
  · obtain ⟨r, hr⟩ := expL_prefix (h := h) key info q (n - q)
    rw [show q + (n - q) = n by omega] at hr
    rw [hr, List.take_append_of_le_length (by rw [h1]; exact hq)]
  · obtain ⟨r, hr⟩ := expL_prefix (h := h) key info n (q - n)
    rw [show n + (q - n) = q by omega] at hr
    rw [hr, List.take_append_of_le_length (by rw [h1]; exact hn)]
end Go.Proofs.YtioggmjocelolacDoor
