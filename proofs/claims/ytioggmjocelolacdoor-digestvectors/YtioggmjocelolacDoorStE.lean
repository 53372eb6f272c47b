import Derived.Test.YtioggmjocelolacDoorExpand2
namespace Go.Proofs.YtioggmjocelolacDoor
open Go.RowKit
set_option linter.unusedVariables false
set_option linter.unusedSimpArgs false
/-- The error that Stretch names, of short passes and salts. -/
def strE (h t n : Int) : Int := if ¬ (h = 224 ∨ h = 256 ∨ h = 384 ∨ h = 512) then 10 else if t < 1 ∨ 1048576 < t then 11 else if n < 1 ∨ 65536 < n ∨ 2097152 < t * ((n + szOf h - 1).tdiv (szOf h)) then 12 else 0
theorem size_none (h : Int) (k : ¬ Known h) (w : World) : Calls Tryd.prog 46 #[.int .i64 h] w fun e w' => e = .returned (.int .i64 0) ∧ w' = w := by
  have d1 : ¬ h = 224 := fun e => k (.inl e)
  have d2 : ¬ h = 256 := fun e => k (.inr (.inl e))
  have d3 : ¬ h = 384 := fun e => k (.inr (.inr (.inl e)))
  have d4 : ¬ h = 512 := fun e => k (.inr (.inr (.inr e)))
  clear k
  go_enter Tryd.func46, Tryd.ntmps46
  go_wp2
  go_ret
  exact ⟨rfl, rfl⟩
theorem szOf_pos2 {h : Int} (k : Known h) : 1 ≤ szOf h ∧ szOf h ≤ 64 := by rcases szOf_known k with e | e | e | e <;> omega
set_option maxHeartbeats 800000 in
set_option maxRecDepth 100000 in
theorem mayStretch_any (h : Int) (kl sl : Nat) (t n : Int) (w : World) (hk : kl ≤ 65536) (hs : sl ≤ 65536) (hn1 : -9223372036854775808 ≤ n) (hn2 : n ≤ 9223372036854775807) (ht1 : -9223372036854775808 ≤ t) (ht2 : t ≤ 9223372036854775807) :
    Calls Tryd.prog 37 #[.int .i64 h, .int .i64 kl, .int .i64 sl, .int .i64 t, .int .i64 n] w fun e w' => e = .returned (.int .i64 (strE h t n)) ∧ w' = w := by
  by_cases k : Known h
  · obtain ⟨sz, HSZ⟩ : ∃ sz : Nat, Hid (sz = szOf h) := ⟨_, rfl⟩
    have hsz : 1 ≤ sz ∧ sz ≤ 64 := by rw [HSZ.out]; exact szOf_pos2 k
    have HS : Hid (∀ u, Calls Tryd.prog 46 #[.int .i64 h] u fun e w' => e = .returned (.int .i64 (sz : Nat)) ∧ w' = u) := fun u => by rw [HSZ.out]; exact size_known k u
    have HE : Hid (strE h t n = if t < 1 ∨ 1048576 < t then 11 else if n < 1 ∨ 65536 < n ∨ 2097152 < t * ((n + (sz : Nat) - 1).tdiv (sz : Nat)) then 12 else 0) := by
      show _ = _
      unfold strE
      rw [if_neg (show ¬ ¬ (h = 224 ∨ h = 256 ∨ h = 384 ∨ h = 512) from fun q => q k), HSZ.out]
    have h4 : ((sz : Int) == 0) = false := by simp; omega
    have h5 : ¬ (33554432 : Int) < (kl : Nat) := by omega
    have h6 : ¬ (33554428 : Int) < (sl : Nat) := by omega
    clear k
    rw [HE.out]
    rcases (show t < 1 ∨ 1 ≤ t by omega) with hc1 | hc1
    · rw [if_pos (.inl hc1)]
      go_enter Tryd.func37, Tryd.ntmps37
      go_wp2_with (go_at_call 46; refine (HS.out _).mono ?_; rintro e1 w1 ⟨rfl, hw1⟩; obtain rfl := hw1.symm)
      go_ret
      exact ⟨rfl, rfl⟩
    have hc1' : ¬ t < 1 := by omega
    rcases (show 1048576 < t ∨ t ≤ 1048576 by omega) with hc2 | hc2
    · rw [if_pos (.inr hc2)]
      go_enter Tryd.func37, Tryd.ntmps37
      go_wp2_with (go_at_call 46; refine (HS.out _).mono ?_; rintro e1 w1 ⟨rfl, hw1⟩; obtain rfl := hw1.symm)
      go_ret
      exact ⟨rfl, rfl⟩
    have hc2' : ¬ 1048576 < t := by omega
    rw [if_neg (by omega)]
    rcases (show n < 1 ∨ 1 ≤ n by omega) with hc3 | hc3
    · rw [if_pos (.inl hc3)]
      go_enter Tryd.func37, Tryd.ntmps37
      go_wp2_with (go_at_call 46; refine (HS.out _).mono ?_; rintro e1 w1 ⟨rfl, hw1⟩; obtain rfl := hw1.symm)
      go_ret
      exact ⟨rfl, rfl⟩
    have hc3' : ¬ n < 1 := by omega
    rcases (show 65536 < n ∨ n ≤ 65536 by omega) with hc4 | hc4
    · rw [if_pos (.inr (.inl hc4))]
      go_enter Tryd.func37, Tryd.ntmps37
      go_wp2_with (go_at_call 46; refine (HS.out _).mono ?_; rintro e1 w1 ⟨rfl, hw1⟩; obtain rfl := hw1.symm)
      go_ret
      exact ⟨rfl, rfl⟩
    have hc4' : ¬ 65536 < n := by omega
    obtain ⟨D, HD⟩ : ∃ D, (n + (sz : Nat) - 1).tdiv (sz : Nat) = D := ⟨_, rfl⟩
    have hD : 0 ≤ D ∧ D ≤ 65600 := by
      rw [← HD, Int.tdiv_eq_ediv_of_nonneg (by omega)]
      refine ⟨Int.ediv_nonneg (by omega) (by omega), ?_⟩
      have := Int.ediv_le_self (a := n + (sz : Nat) - 1) (sz : Nat) (by omega)
      omega
    obtain ⟨M, HM⟩ : ∃ M, t * D = M := ⟨_, rfl⟩
    have hM : 0 ≤ M ∧ M ≤ 1048576 * 65600 := by
      rw [← HM]
      exact ⟨Int.mul_nonneg (by omega) hD.1, Int.mul_le_mul hc2 hD.2 hD.1 (by omega)⟩
    rw [HD, HM]
    have hz : ¬ ((sz : Nat) : Int) = 0 := by omega
    by_cases hc5 : 2097152 < M
    · rw [if_pos (.inr (.inr hc5))]
      go_enter Tryd.func37, Tryd.ntmps37
      go_wp2_with (go_at_call 46; refine (HS.out _).mono ?_; rintro e1 w1 ⟨rfl, hw1⟩; obtain rfl := hw1.symm)
      go_ret
      exact ⟨rfl, rfl⟩
    · rw [if_neg (by omega)]
      go_enter Tryd.func37, Tryd.ntmps37
      go_wp2_with (go_at_call 46; refine (HS.out _).mono ?_; rintro e1 w1 ⟨rfl, hw1⟩; obtain rfl := hw1.symm)
      go_ret
      exact ⟨rfl, rfl⟩
  · have e : strE h t n = 10 := by unfold strE; rw [if_pos (show ¬ (h = 224 ∨ h = 256 ∨ h = 384 ∨ h = 512) from k)]
    rw [e]
    have HS : Hid (∀ u, Calls Tryd.prog 46 #[.int .i64 h] u fun e w' => e = .returned (.int .i64 0) ∧ w' = u) := fun u => size_none h k u
    go_enter Tryd.func37, Tryd.ntmps37
    go_wp2_with (go_at_call 46; refine (HS.out _).mono ?_; rintro e1 w1 ⟨rfl, hw1⟩; obtain rfl := hw1.symm)
    go_ret
    exact ⟨rfl, rfl⟩
/-- One part of an array of bytes. -/
theorem run_index75 (C : List Value) (k : Nat) (x : Int) (w : World) (hk : k < 64) (h : C[k]? = some (.int .u8 x)) : Sem.run Tryd.prog (Instr.index 72 (.agg C.toArray) (.int .i64 (k : Nat))) w = .ok (.int .u8 x) w := by
  have h1 : (0 : Int) ≤ (k : Nat) ∧ ((k : Nat) : Int) < (64 : Nat) := by omega
  simp [Instr.index, run_underlying Tryd.underlying72, asIntOf, h1, go_sem]
  rw [if_pos hk, h]
  rfl
end Go.Proofs.YtioggmjocelolacDoor
