import Derived.Test.YtlnhnheplppeaaaDoorIsT
import Derived.Test.YtlnhnheplppeaaaDoorWhole
namespace Go.Proofs.YtlnhnheplppeaaaDoor
open Go.RowKit
set_option linter.unusedVariables false
/-- Do numbers of keyslots rise, from a place on? -/
def risB (zs : List Int) : Nat → Bool
  | 0 => true
  | k + 1 => risB zs k && (decide (0 ≤ zs.getD k 0) && decide (zs.getD k 0 < 32) && (decide (k = 0) || decide (zs.getD (k - 1) 0 < zs.getD k 0)))
theorem risB_mono (zs : List Int) {j k : Nat} (h : risB zs k = true) (hjk : j ≤ k) : risB zs j = true := by
  induction k with
  | zero => obtain rfl : j = 0 := by omega
            exact h
  | succ k ih =>
    by_cases hj : j = k + 1
    · subst hj; exact h
    · simp only [risB, Bool.and_eq_true] at h
      exact ih h.1 (by omega)
theorem risB_false (zs : List Int) {j n : Nat} (h : risB zs j = false) (hjn : j ≤ n) : risB zs n = false := by
  cases hn : risB zs n with
  | false => rfl
  | true => rw [risB_mono zs hn hjn] at h; cases h
theorem slotNumber_ok (z : Int) (w : World) : Calls Tryd.prog 10 #[.int .i64 z] w fun e w' => e = .returned (.tuple #[.int .i64 z, .bool (decide (0 ≤ z) && decide (z < 32))]) ∧ w' = w := by
  by_cases h : 0 ≤ z
  · have d : decide ((0 : Int) ≤ z) = true := by simpa using h
    rw [d, Bool.true_and]
    go_enter Tryd.func10, Tryd.ntmps10
    go_wp2
    go_ret2
    exact ⟨rfl, rfl⟩
  · have d : decide ((0 : Int) ≤ z) = false := by simpa using h
    rw [d, Bool.false_and]
    go_enter Tryd.func10, Tryd.ntmps10
    go_wp2
    go_ret2
    exact ⟨rfl, rfl⟩
theorem in_ok (z a b : Int) (w : World) : Calls Tryd.prog 11 #[.int .i64 z, .int .i64 a, .int .i64 b] w fun e w' => e = .returned (.bool (decide (a ≤ z) && decide (z ≤ b))) ∧ w' = w := by
  by_cases h : a ≤ z
  · have d : decide (a ≤ z) = true := by simpa using h
    rw [d, Bool.true_and]
    go_enter Tryd.func11, Tryd.ntmps11
    go_wp2
    go_ret
    exact ⟨rfl, rfl⟩
  · have d : decide (a ≤ z) = false := by simpa using h
    rw [d, Bool.false_and]
    go_enter Tryd.func11, Tryd.ntmps11
    go_wp2
    go_ret
    exact ⟨rfl, rfl⟩
set_option maxHeartbeats 1600000 in
set_option maxRecDepth 100000 in
/-- ledger.rising, of numbers of keyslots. -/
theorem rising_ok (a : Option Addr) (n c : Nat) (zs : List Int) (w : World) (hl : Hid (zs.length = n)) (hn : n ≤ 4611686018427387904) (hv : Hid (View w (.slice a n c) zs)) :
    Calls Tryd.prog 9 #[.slice a n c, .func (.func 10) #[] #[]] w fun e w' => e = .returned (.bool (risB zs n)) ∧ w' = w := by
  go_enter Tryd.func9, Tryd.ntmps9
  go_wp2
  go_loop [5, 12] (fun va vi => ∃ k : Nat, ∃ A : Int, vi = .int .i64 (k : Nat) ∧ va = .int .i64 A ∧ k ≤ n ∧ Hid ((k = 0 ∨ A = zs.getD (k - 1) 0) ∧ risB zs k = true)) (fun _ vi => n - (intOf vi).toNat)
  case atStart => exact ⟨0, 0, rfl, rfl, by omega, .inl rfl, rfl⟩
  case round =>
    obtain ⟨k, A, rfl, rfl, hk, HR⟩ := hrel
    by_cases hlt : k < n
    · have hlz : (k : Int) < (n : Int) := by omega
      obtain ⟨b, off, z, hab, hc, HZ⟩ : ∃ b off z, a = some ⟨b, off, none⟩ ∧ w.cell? ⟨b, off + k, none⟩ = some (.int .i64 z) ∧ Hid (zs.getD k 0 = z) := by
        obtain ⟨a', c', e, _, _, _, h4⟩ := hv.out
        injection e with e1 e2 e3
        rcases h4 with h4 | ⟨b, off, e4, h5⟩
        · have := hl.out; rw [h4] at this; simp at this; omega
        · exact ⟨b, off, _, by rw [e1, e4], h5 k (by rw [hl.out]; exact hlt), rfl⟩
      subst hab
      obtain ⟨M, HM⟩ : ∃ M, Hid ((decide (0 ≤ z) && decide (z < 32)) = M) := ⟨_, rfl⟩
      have H10 : Hid (Calls Tryd.prog 10 #[.int .i64 z] w fun e w' => e = .returned (.tuple #[.int .i64 z, .bool M]) ∧ w' = w) := by
        have q := slotNumber_ok z w
        rw [HM.out] at q
        exact q
      have HS : Hid (risB zs (k + 1) = (M && (decide (k = 0) || decide (zs.getD (k - 1) 0 < z)))) := by
        show risB zs (k + 1) = _
        simp only [risB]
        rw [HR.out.2, HZ.out, HM.out, Bool.true_and]
      cases M
      · go_wp2_with (go_at_call 10; refine H10.out.mono ?_; rintro e1 w1 ⟨rfl, hw1⟩; obtain rfl := hw1.symm)
        go_ret
        exact ⟨by rw [risB_false zs (j := k + 1) (by rw [HS.out]; rfl) (by omega)]; rfl, rfl⟩
      · by_cases h0 : k = 0
        · have hk0 : ¬ (0 : Int) < (k : Int) := by omega
          have H0 : Hid (k = 0) := h0
          clear h0
          go_wp2_with (go_at_call 10; refine H10.out.mono ?_; rintro e1 w1 ⟨rfl, hw1⟩; obtain rfl := hw1.symm)
          go_round
          case rel => exact ⟨k + 1, z, by go_num, rfl, by omega, .inr (by rw [Nat.add_sub_cancel]; exact HZ.out.symm), by rw [HS.out, H0.out]; simp⟩
          case measure => simp [intOf]; omega
        · have hk0 : (0 : Int) < (k : Int) := by omega
          have hA : A = zs.getD (k - 1) 0 := by
            rcases HR.out.1 with h | h
            · exact absurd h h0
            · exact h
          have HA : Hid (A = zs.getD (k - 1) 0) := hA
          clear hA
          by_cases hz : z ≤ A
          · go_wp2_with (go_at_call 10; refine H10.out.mono ?_; rintro e1 w1 ⟨rfl, hw1⟩; obtain rfl := hw1.symm)
            go_ret
            exact ⟨by rw [risB_false zs (j := k + 1) (by rw [HS.out, ← HA.out]; simp [h0]; omega) (by omega)]; rfl, rfl⟩
          · go_wp2_with (go_at_call 10; refine H10.out.mono ?_; rintro e1 w1 ⟨rfl, hw1⟩; obtain rfl := hw1.symm)
            go_round
            case rel => exact ⟨k + 1, z, by go_num, rfl, by omega, .inr (by rw [Nat.add_sub_cancel]; exact HZ.out.symm), by rw [HS.out, ← HA.out]; simp [h0]; omega⟩
            case measure => simp [intOf]; omega
    · obtain rfl : k = n := by omega
      go_wp2
      go_ret
      exact ⟨by rw [HR.out.2]; rfl, rfl⟩
end Go.Proofs.YtlnhnheplppeaaaDoor
