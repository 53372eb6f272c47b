import Derived.Test.YtioggmjocelolacDoorStr
import Derived.Test.YtioggmjocelolacDoorRExp
namespace Go.Proofs.YtioggmjocelolacDoor
open Go.RowKit
set_option linter.unusedVariables false
set_option linter.unusedSimpArgs false
set_option maxHeartbeats 800000 in
set_option maxRecDepth 100000 in
theorem rsterr_any (h : Int) (kl sl : Nat) (t n : Int) (w : World) (hk : kl ≤ 65536) (hs : sl ≤ 65536) (hn1 : -9223372036854775808 ≤ n) (hn2 : n ≤ 9223372036854775807) (ht1 : -9223372036854775808 ≤ t) (ht2 : t ≤ 9223372036854775807) :
    Calls Tryd.prog 15 #[.int .i64 h, .int .i64 kl, .int .i64 sl, .int .i64 t, .int .i64 n] w fun e w' => e = .returned (.int .i64 (strE h t n)) ∧ w' = w := by
  by_cases k : Known h
  · obtain ⟨sz, HSZ⟩ : ∃ sz : Nat, Hid (sz = szOf h) := ⟨_, rfl⟩
    have hsz : 1 ≤ sz ∧ sz ≤ 64 := by rw [HSZ.out]; exact szOf_pos2 k
    have HS : Hid (∀ u, Calls Tryd.prog 16 #[.int .i64 h] u fun e w' => e = .returned (.int .i64 (sz : Nat)) ∧ w' = u) := fun u => by rw [HSZ.out]; exact rsize_ok h k u
    have HE : Hid (strE h t n = if t < 1 ∨ 1048576 < t then 11 else if n < 1 ∨ 65536 < n ∨ 2097152 < t * ((n + (sz : Nat) - 1).tdiv (sz : Nat)) then 12 else 0) := by
      show _ = _
      unfold strE
      rw [if_neg (show ¬ ¬ (h = 224 ∨ h = 256 ∨ h = 384 ∨ h = 512) from fun q => q k), HSZ.out]
    have h4 : ((sz : Int) == 0) = false := by simp; omega
    have h5 : ¬ (33554432 : Int) < (kl : Nat) := by omega
    have h6 : ¬ (33554428 : Int) < (sl : Nat) := by omega
    clear k
    rw [HE.out]
    rcases (show t < 1 ∨ 1 ≤ t by omega) with hc1 | hc1
    · rw [if_pos (.inl hc1)]
      go_enter Tryd.func15, Tryd.ntmps15
      go_wp2_with (go_at_call 16; refine (HS.out _).mono ?_; rintro e1 w1 ⟨rfl, hw1⟩; obtain rfl := hw1.symm)
      go_ret
      exact ⟨rfl, rfl⟩
    have hc1' : ¬ t < 1 := by omega
    rcases (show 1048576 < t ∨ t ≤ 1048576 by omega) with hc2 | hc2
    · rw [if_pos (.inr hc2)]
      go_enter Tryd.func15, Tryd.ntmps15
      go_wp2_with (go_at_call 16; refine (HS.out _).mono ?_; rintro e1 w1 ⟨rfl, hw1⟩; obtain rfl := hw1.symm)
      go_ret
      exact ⟨rfl, rfl⟩
    have hc2' : ¬ 1048576 < t := by omega
    rw [if_neg (by omega)]
    rcases (show n < 1 ∨ 1 ≤ n by omega) with hc3 | hc3
    · rw [if_pos (.inl hc3)]
      go_enter Tryd.func15, Tryd.ntmps15
      go_wp2_with (go_at_call 16; refine (HS.out _).mono ?_; rintro e1 w1 ⟨rfl, hw1⟩; obtain rfl := hw1.symm)
      go_ret
      exact ⟨rfl, rfl⟩
    have hc3' : ¬ n < 1 := by omega
    rcases (show 65536 < n ∨ n ≤ 65536 by omega) with hc4 | hc4
    · rw [if_pos (.inr (.inl hc4))]
      go_enter Tryd.func15, Tryd.ntmps15
      go_wp2_with (go_at_call 16; refine (HS.out _).mono ?_; rintro e1 w1 ⟨rfl, hw1⟩; obtain rfl := hw1.symm)
      go_ret
      exact ⟨rfl, rfl⟩
    have hc4' : ¬ 65536 < n := by omega
    obtain ⟨D, HD⟩ : ∃ D, (n + (sz : Nat) - 1).tdiv (sz : Nat) = D := ⟨_, rfl⟩
    have hD : 0 ≤ D ∧ D ≤ 65600 := by
      rw [← HD, Int.tdiv_eq_ediv_of_nonneg (by omega)]
      refine ⟨Int.ediv_nonneg (by omega) (by omega), ?_⟩
      have := Int.ediv_le_self (a := n + (sz : Nat) - 1) (sz : Nat) (by omega)
      omega
    obtain ⟨M, HM⟩ : ∃ M, t * D = M := ⟨_, rfl⟩
    have hM : 0 ≤ M ∧ M ≤ 1048576 * 65600 := by
      rw [← HM]
      exact ⟨Int.mul_nonneg (by omega) hD.1, Int.mul_le_mul hc2 hD.2 hD.1 (by omega)⟩
    rw [HD, HM]
    have hz : ¬ ((sz : Nat) : Int) = 0 := by omega
    by_cases hc5 : 2097152 < M
    · rw [if_pos (.inr (.inr hc5))]
      go_enter Tryd.func15, Tryd.ntmps15
      go_wp2_with (go_at_call 16; refine (HS.out _).mono ?_; rintro e1 w1 ⟨rfl, hw1⟩; obtain rfl := hw1.symm)
      go_ret
      exact ⟨rfl, rfl⟩
    · rw [if_neg (by omega)]
      go_enter Tryd.func15, Tryd.ntmps15
      go_wp2_with (go_at_call 16; refine (HS.out _).mono ?_; rintro e1 w1 ⟨rfl, hw1⟩; obtain rfl := hw1.symm)
      go_ret
      exact ⟨rfl, rfl⟩
  · have e : strE h t n = 10 := by unfold strE; rw [if_pos (show ¬ (h = 224 ∨ h = 256 ∨ h = 384 ∨ h = 512) from k)]
    rw [e]
    have HS : Hid (∀ u, Calls Tryd.prog 16 #[.int .i64 h] u fun e w' => e = .returned (.int .i64 0) ∧ w' = u) := fun u => rsize_bad h k u
    go_enter Tryd.func15, Tryd.ntmps15
    go_wp2_with (go_at_call 16; refine (HS.out _).mono ?_; rintro e1 w1 ⟨rfl, hw1⟩; obtain rfl := hw1.symm)
    go_ret
    exact ⟨rfl, rfl⟩
/-- PBKDF2 by codes alone. -/
def stU (h : Int) (key x : List Int) : Nat → List Int
  | 0 => hmac h key x
  | t + 1 => hmac h key (stU h key x t)
def stS (h : Int) (key x : List Int) : Nat → List Int
  | 0 => stU h key x 0
  | t + 1 => xorL (stS h key x t) (stU h key x (t + 1))
theorem stU_length {h : Int} (k : Known h) (key x : List Int) (t : Nat) : (stU h key x t).length = szOf h := by cases t <;> exact hmac_len2 k _ _
theorem stS_length {h : Int} (k : Known h) (key x : List Int) : ∀ t, (stS h key x t).length = szOf h
  | 0 => stU_length k key x 0
  | t + 1 => xorL_length (stS_length k key x t) (stU_length k key x (t + 1))
theorem sbU_take (h : Int) (key x : List Int) : ∀ t, (sbU h (stateOf h key 54) (stateOf h key 92) x t).take (szOf h) = stU h key x t
  | 0 => rfl
  | t + 1 => by rw [sbU, sbU_take h key x t]; rfl
theorem sbS_take (h : Int) (key x : List Int) : ∀ t, (sbS h (stateOf h key 54) (stateOf h key 92) x t).take (szOf h) = stS h key x t
  | 0 => sbU_take h key x 0
  | t + 1 => by rw [sbS, xorL, List.take_zipWith, sbS_take h key x t, sbU_take h key x (t + 1)]; rfl
theorem strT_eq (h : Int) (key salt : List Int) (t1 i : Nat) : strT h key salt t1 i = stS h key (salt ++ be4 (i : Nat)) t1 := sbS_take h key _ t1
/-- The first j of a sum laid over the one before. -/
def mixL (S U : List Int) : Nat → List Int
  | 0 => S
  | j + 1 => (mixL S U j).set j (bits .xor .u8 (fnz S j) (fnz U j))
theorem mixL_length (S U : List Int) : ∀ j, (mixL S U j).length = S.length
  | 0 => rfl
  | j + 1 => by rw [mixL, List.length_set, mixL_length S U j]
theorem fnz_set (l : List Int) (j i : Nat) (x : Int) : fnz (l.set j x) i = if i = j ∧ j < l.length then x else fnz l i := by
  unfold fnz
  rw [List.getD_eq_getElem?_getD, List.getD_eq_getElem?_getD, List.getElem?_set]
  by_cases h : j = i
  · subst h
    by_cases h2 : j < l.length
    · simp [h2]
    · simp [h2, List.getElem?_eq_none (show l.length ≤ j by omega)]
  · rw [if_neg h, if_neg (by omega)]
theorem mixL_get (S U : List Int) (i : Nat) : ∀ j, j ≤ S.length → fnz (mixL S U j) i = if i < j then bits .xor .u8 (fnz S i) (fnz U i) else fnz S i
  | 0, _ => by simp [mixL]
  | j + 1, hj => by
    rw [mixL, fnz_set, mixL_length, mixL_get S U i j (by omega)]
    by_cases h : i = j
    · subst h
      rw [if_pos ⟨rfl, by omega⟩, if_pos (by omega)]
    · rw [if_neg (by omega)]
      by_cases h2 : i < j
      · rw [if_pos h2, if_pos (by omega)]
      · rw [if_neg h2, if_neg (by omega)]
theorem mixL_end {S U : List Int} {n : Nat} (hS : S.length = n) (hU : U.length = n) : mixL S U n = xorL S U := by
  refine ext_getD (n := n) (by rw [mixL_length, hS]) (xorL_length hS hU) (fun j hj => ?_)
  show fnz _ j = fnz _ j
  rw [mixL_get S U j n (by omega), if_pos hj, fnz_xorL j (by omega) (by omega)]
theorem cells_set (l : List Int) (j : Nat) (x : Int) : (cellsU8 l).set j (.int .u8 x) = cellsU8 (l.set j x) := by simp [cellsU8, List.map_set]
end Go.Proofs.YtioggmjocelolacDoor
