import Derived.Test.YtohhjohpdfbdoaaRa
namespace Go.Proofs.Ytohhjohpdfbdoaa
open Go.RowKit
set_option linter.unusedVariables false
set_option linter.unusedSimpArgs false
variable {w w' : World} {g : Nat} {s : ByteArray} {i : Nat}
theorem R_stop (s : ByteArray) (i : Nat) {a : Acc} {st : St} (hi : i ≤ s.size) (h1 : i < s.size → fine (nx s i) → step a st (nx s i) = none) (h2 : i = s.size → fin a st = none) : R s i a st = .bad (i + 1) := by
  by_cases he : i = s.size
  · exact R_short s i he (h2 he)
  · by_cases hf : fine (nx s i)
    · exact R_none s i (by omega) (h1 (by omega) hf)
    · exact R_foul s i a st (by omega) hf
theorem hexa_lt (c : Int) : hexa c < 16 := by
  unfold hexa
  split
  · omega
  · split
    · omega
    · split <;> omega
theorem hexa_fine (c : Int) (h : 0 ≤ hexa c) : fine c := by
  unfold hexa at h
  unfold fine
  split at h
  · omega
  · split at h
    · omega
    · split at h <;> omega
theorem lt_of_fine (h : i ≤ s.size) (hf : fine (nx s i)) : i < s.size := by
  by_cases he : i = s.size
  · exfalso
    rw [he, nx_end] at hf
    revert hf
    decide
  · omega
theorem or_ok (x y : Int) (hx : 0 ≤ x) (hx1 : x < 16) (hy : 0 ≤ y) (hy1 : y < 16) : bits .or .u8 (16 * x) y = 16 * x + y := by
  obtain ⟨a, rfl⟩ := Int.eq_ofNat_of_zero_le hx
  obtain ⟨b, rfl⟩ := Int.eq_ofNat_of_zero_le hy
  have h : ∀ a b : Fin 16, bits .or .u8 (16 * ((a.1 : Nat) : Int)) ((b.1 : Nat) : Int) = 16 * ((a.1 : Nat) : Int) + ((b.1 : Nat) : Int) := by decide
  exact h ⟨a, by omega⟩ ⟨b, by omega⟩
def EscQ (w : World) (g : Nat) (s : ByteArray) (i : Nat) (a : Acc) (k v : List Int) (e : Ending) (w' : World) : Prop :=
  (∃ c j, e = .returned (.int .u8 c) ∧ 0 ≤ c ∧ c < 256 ∧ i < j ∧ Rd w' g s j ∧ R s i a (.stroke k v) = R s j a (.quoted k (v ++ [c])) ∧ w.grownBy w' (some g)) ∨
  (∃ p, e = fault p ∧ R s i a (.stroke k v) = .bad p ∧ w.grownBy w' (some g))
set_option maxHeartbeats 4000000 in
set_option maxRecDepth 100000 in
theorem escaped_ok (h : Rd w g s i) (a : Acc) (k v : List Int) : Calls Try.prog 38 #[.pointer (some ⟨g, 0, none⟩)] w (EscQ w g s i a k v) := by
  have hle := h.le
  have hmo := h.most
  by_cases h1 : nx s i = 34
  · have hf : fine (nx s i) := by rw [h1]; decide
    have hR : R s i a (.stroke k v) = R s (i + 1) a (.quoted k (v ++ [34])) := R_go s i (lt_of_fine hle hf) hf (by rw [h1]; rfl)
    refine Calls.mono (R := fun e w' => e = .returned (.int .u8 34) ∧ Rd w' g s (i + 1) ∧ w.grownBy w' (some g)) ?_ (fun e w' hh => .inl ⟨34, i + 1, hh.1, by omega, by omega, by omega, hh.2.1, hR, hh.2.2⟩)
    go_enter Try.func38, Try.ntmps38
    go_wp2_with (go_at_call 26; refine (takes_yes h 34 h1 (by omega)).mono ?_; rintro e w1 ⟨rfl, k1, g1⟩)
    go_ret
    exact ⟨rfl, k1, g1⟩
  · by_cases h2 : nx s i = 92
    · have hf : fine (nx s i) := by rw [h2]; decide
      have hR : R s i a (.stroke k v) = R s (i + 1) a (.quoted k (v ++ [92])) := R_go s i (lt_of_fine hle hf) hf (by rw [h2]; rfl)
      refine Calls.mono (R := fun e w' => e = .returned (.int .u8 92) ∧ Rd w' g s (i + 1) ∧ w.grownBy w' (some g)) ?_ (fun e w' hh => .inl ⟨92, i + 1, hh.1, by omega, by omega, by omega, hh.2.1, hR, hh.2.2⟩)
      go_enter Try.func38, Try.ntmps38
      go_wp2_with (first
        | (go_at_call 26; refine (takes_no h 34 h1).mono ?_; rintro e w1 ⟨rfl, g1⟩; have k1 := h.still g1; clear h1)
        | (go_at_call 26; refine (takes_yes k1 92 h2 (by omega)).mono ?_; rintro e w2 ⟨rfl, k2, g2⟩))
      go_ret
      exact ⟨rfl, k2, (g1.but _).trans g2⟩
    · by_cases h3 : nx s i = 120
      · have hf : fine (nx s i) := by rw [h3]; decide
        have hR : R s i a (.stroke k v) = R s (i + 1) a (.first k v) := R_go s i (lt_of_fine hle hf) hf (by rw [h3]; rfl)
        go_enter Try.func38, Try.ntmps38
        go_wp2_with (first
          | (go_at_call 26; refine (takes_no h 34 h1).mono ?_; rintro e w1 ⟨rfl, g1⟩; have k1 := h.still g1; clear h1)
          | (go_at_call 26; refine (takes_no k1 92 h2).mono ?_; rintro e w2 ⟨rfl, g2⟩; have k2 := k1.still g2; clear h2)
          | (go_at_call 26; refine (takes_yes k2 120 h3 (by omega)).mono ?_; rintro e w3 ⟨rfl, k3, g3⟩; have g3' := (((g1.trans g2).but _).trans g3))
          | (go_at_call 39; refine (digit_ok k3).mono ?_))
        rintro e w4 (⟨hx, rfl, k4, hlt, g4⟩ | ⟨hx, rfl, g4⟩)
        · have hR1 : R s (i + 1) a (.first k v) = R s (i + 1 + 1) a (.other k v (hexa (nx s (i + 1)))) := R_go s (i + 1) hlt (hexa_fine _ hx) (by simp [step, hx])
          have hx1 := hexa_lt (nx s (i + 1))
          obtain ⟨d, hd⟩ : ∃ d, hexa (nx s (i + 1)) = d := ⟨_, rfl⟩
          rw [hd] at hx hx1 hR1 ⊢
          have wr : IntKind.u8.wrap (d * 16) = 16 * d := by rw [IntKind.wrap_u8]; omega
          go_wp2_with (go_at_call 39; refine (digit_ok k4).mono ?_)
          rintro e w5 (⟨hx5, rfl, k5, hlt5, g5⟩ | ⟨hx5, rfl, g5⟩)
          · have hR2 : R s (i + 1 + 1) a (.other k v d) = R s (i + 1 + 1 + 1) a (.quoted k (v ++ [16 * d + hexa (nx s (i + 1 + 1))])) := R_go s (i + 1 + 1) hlt5 (hexa_fine _ hx5) (by simp [step, hx5])
            have hx6 := hexa_lt (nx s (i + 1 + 1))
            have hor := or_ok d (hexa (nx s (i + 1 + 1))) hx hx1 hx5 hx6
            obtain ⟨d2, hd2⟩ : ∃ d2, hexa (nx s (i + 1 + 1)) = d2 := ⟨_, rfl⟩
            rw [hd2] at hx5 hx6 hor hR2 ⊢
            go_wp2
            go_ret
            exact .inl ⟨16 * d + d2, i + 1 + 1 + 1, rfl, by omega, by omega, by omega, k5, (hR.trans hR1).trans hR2, (g3'.trans g4).trans g5⟩
          · exact ⟨rfl, .inr ⟨_, rfl, (hR.trans hR1).trans (R_stop s _ k4.le (fun _ _ => by simp only [step]; rw [if_neg (by omega)]) (fun _ => rfl)), (g3'.trans g4).trans g5⟩⟩
        · exact ⟨rfl, .inr ⟨_, rfl, hR.trans (R_stop s _ k3.le (fun _ _ => by simp only [step]; rw [if_neg (by omega)]) (fun _ => rfl)), g3'.trans g4⟩⟩
      · have hR : R s i a (.stroke k v) = .bad (i + 1) := R_stop s i hle (fun _ _ => by simp [step, h1, h2, h3]) (fun _ => rfl)
        go_enter Try.func38, Try.ntmps38
        go_wp2_with (first
          | (go_at_call 26; refine (takes_no h 34 h1).mono ?_; rintro e w1 ⟨rfl, g1⟩; have k1 := h.still g1; clear h1)
          | (go_at_call 26; refine (takes_no k1 92 h2).mono ?_; rintro e w2 ⟨rfl, g2⟩; have k2 := k1.still g2; clear h2)
          | (go_at_call 26; refine (takes_no k2 120 h3).mono ?_; rintro e w3 ⟨rfl, g3⟩; have k3 := k2.still g3; clear h3)
          | (go_at_call 29; refine (stop_ok k3).mono ?_; rintro e w4 ⟨rfl, rfl⟩))
        exact ⟨rfl, .inr ⟨_, rfl, hR, ((g1.trans g2).trans g3).but _⟩⟩
end Go.Proofs.Ytohhjohpdfbdoaa
