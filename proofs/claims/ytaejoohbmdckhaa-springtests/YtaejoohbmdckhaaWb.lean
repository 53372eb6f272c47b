import Derived.Test.YtaejoohbmdckhaaWa
namespace Go.Proofs.Ytaejoohbmdckhaa
open Go.RowKit
set_option linter.unusedVariables false
set_option linter.unusedSimpArgs false
/-- Bytes where they lie. -/
def By (w : World) (p : Option Addr) (n : Nat) (f : Nat → Nat) : Prop := 0 < n → ∃ b off, p = some ⟨b, off, none⟩ ∧ b < w.heap.size ∧ ∀ i, i < n → w.cell? ⟨b, off + i, none⟩ = some (.int .u8 (f i : Nat)) ∧ f i < 256
theorem By.below {w w' : World} {p : Option Addr} {n : Nat} {f : Nat → Nat} (h : By w p n f) (hb : Below w.heap.size w w') : By w' p n f := fun hn => by
  obtain ⟨b, off, hp, hl, hc⟩ := h hn
  exact ⟨b, off, hp, Nat.lt_of_lt_of_le hl hb.size, fun i hi => ⟨(hb.cell (p := ⟨b, off + i, none⟩) hl).trans (hc i hi).1, (hc i hi).2⟩⟩
def onesF (f : Nat → Nat) : Nat → Nat
  | 0 => 0
  | i + 1 => onesF f i + pop (f i)
theorem onesF_le (f : Nat → Nat) (n : Nat) : onesF f n ≤ 8 * n := by
  induction n with
  | zero => simp [onesF]
  | succ n ih => have := pop_le (f n); simp only [onesF]; omega
set_option maxRecDepth 100000 in
set_option maxHeartbeats 1000000 in
theorem ones_ok (p : Option Addr) (n c : Nat) (f : Nat → Nat) (hn : n ≤ 1048576) (w : World) (h : By w p n f) : Calls Try.prog 19 #[.slice p n c] w fun e w' => e = .returned (.int .i64 (onesF f n : Nat)) ∧ w' = w := by
  have H : Hid (By w p n f) := h
  clear h
  go_enter Try.func19, Try.ntmps19
  go_wp2
  go_loopw [3, 5, 8] (fun s x i wr => ∃ k : Nat, k ≤ n ∧ i = .int .i64 k ∧ s = .int .i64 (onesF f k : Nat) ∧ wr = w) (fun _ _ i _ => n - (intOf i).toNat)
  case atStart => exact ⟨0, Nat.zero_le _, rfl, rfl, rfl⟩
  case round =>
    obtain ⟨k, hk, rfl, rfl, hw⟩ := hrel
    obtain rfl := hw.symm
    have ho := onesF_le f k
    obtain ⟨A, hA⟩ : ∃ A, Hid (A = onesF f k) := ⟨_, rfl⟩
    rw [← hA.out] at ho ⊢
    by_cases hlt : k < n
    · obtain ⟨b, off, rfl, hb, hc⟩ := H.out (by omega)
      obtain ⟨h1, h2⟩ := hc k hlt
      obtain ⟨y, hy⟩ : ∃ y, Hid (y = f k) := ⟨_, rfl⟩
      rw [← hy.out] at h1 h2
      have hp := pop_le y
      obtain ⟨Z, hZ⟩ : ∃ Z, Hid (Z = pop y) := ⟨_, rfl⟩
      have H33 : Hid (Calls Try.prog 33 #[.int .u8 (y : Nat)] w fun e w' => e = .returned (.int .i64 (Z : Nat)) ∧ w' = w) := by rw [hZ.out]; exact ones8 y h2 w
      rw [← hZ.out] at hp
      clear hc
      go_wp2_with (go_at_call 33; refine H33.out.mono ?_; rintro e w2 ⟨rfl, hw2⟩; obtain rfl := hw2.symm)
      go_roundw
      case rel => exact ⟨k + 1, by omega, by go_num, by rw [show onesF f (k + 1) = A + Z by simp [onesF, hA.out, hZ.out, hy.out]]; go_num, trivial⟩
      case measure => simp [intOf]; omega
    · obtain rfl : k = n := by omega
      go_wp2
      go_ret
      refine ⟨?_, rfl⟩
      rw [hA.out]
      rfl

theorem maxI (a b : Nat) : (if (a : Int) < (b : Int) then (b : Int) else (a : Int)) = ((max a b : Nat) : Int) := by
  split <;> omega
/-- The run that ends here; the longest one so far. -/
def rnF (f : Nat → Nat) : Nat → Nat
  | 0 => 0
  | i + 1 => (if 0 < i ∧ f i ≠ f (i - 1) then 0 else rnF f i) + 1
def lgF (f : Nat → Nat) : Nat → Nat
  | 0 => 0
  | i + 1 => max (lgF f i) (rnF f (i + 1))
theorem rnF_le (f : Nat → Nat) (n : Nat) : rnF f n ≤ n := by
  induction n with
  | zero => simp [rnF]
  | succ n ih => simp only [rnF]; split <;> omega
theorem lgF_le (f : Nat → Nat) (n : Nat) : lgF f n ≤ n := by
  induction n with
  | zero => simp [lgF]
  | succ n ih => have := rnF_le f (n + 1); simp only [lgF]; omega
set_option maxRecDepth 100000 in
set_option maxHeartbeats 2000000 in
theorem run_ok (p : Option Addr) (n c : Nat) (f : Nat → Nat) (hn : n ≤ 1048576) (w : World) (h : By w p n f) : Calls Try.prog 17 #[.slice p n c] w fun e w' => e = .returned (.int .i64 (lgF f n : Nat)) ∧ w' = w := by
  have H : Hid (By w p n f) := h
  clear h
  go_enter Try.func17, Try.ntmps17
  go_wp2
  go_loopw [3, 4, 5, 6, 9] (fun l r _ _ i wr => ∃ k : Nat, k ≤ n ∧ i = .int .i64 k ∧ l = .int .i64 (lgF f k : Nat) ∧ r = .int .i64 (rnF f k : Nat) ∧ wr = w) (fun _ _ _ _ i _ => n - (intOf i).toNat)
  case atStart => exact ⟨0, Nat.zero_le _, rfl, rfl, rfl, rfl⟩
  case round =>
    obtain ⟨k, hk, rfl, rfl, rfl, hw⟩ := hrel
    obtain rfl := hw.symm
    have ho1 := lgF_le f k
    have ho2 := rnF_le f k
    obtain ⟨A, hA⟩ : ∃ A, Hid (A = lgF f k) := ⟨_, rfl⟩
    obtain ⟨R, hR⟩ : ∃ R, Hid (R = rnF f k) := ⟨_, rfl⟩
    rw [← hA.out] at ho1 ⊢
    rw [← hR.out] at ho2 ⊢
    by_cases hlt : k < n
    · obtain ⟨b, off, rfl, hb, hc⟩ := H.out (by omega)
      obtain ⟨h1, h2⟩ := hc k hlt
      obtain ⟨y, hy⟩ : ∃ y, Hid (y = f k) := ⟨_, rfl⟩
      rw [← hy.out] at h1 h2
      by_cases h0 : k = 0
      · subst h0
        rw [Nat.add_zero] at h1
        have E : Hid (lgF f (0 + 1) = max A (R + 1) ∧ rnF f (0 + 1) = R + 1) := ⟨by rw [lgF, rnF, if_neg (by omega), hA.out, hR.out], by rw [rnF, if_neg (by omega), hR.out]⟩
        clear hc
        go_wp2
        refine ⟨⟨1, by omega, rfl, ?_, ?_, trivial⟩, by simp [intOf]; omega⟩
        · rw [show lgF f 1 = _ from E.out.1, Nat.max_eq_right (by omega)]; go_num
        · rw [show rnF f 1 = _ from E.out.2]; go_num
      · obtain ⟨j, rfl⟩ : ∃ j, k = j + 1 := ⟨k - 1, by omega⟩
        obtain ⟨h3, h4⟩ := hc j (by omega)
        obtain ⟨z, hz⟩ : ∃ z, Hid (z = f j) := ⟨_, rfl⟩
        rw [← hz.out] at h3 h4
        clear hc
        have e1 : (((j + 1 : Nat) : Int) - 1) = (j : Int) := by omega
        have g0 : decide ((0 : Int) < ((j + 1 : Nat) : Int)) = true := by simp
        by_cases hyz : y = z
        · have q : ((y : Int) != (z : Int)) = false := by simp [hyz]
          have hff : ¬ (0 < j + 1 ∧ f (j + 1) ≠ f (j + 1 - 1)) := by rw [Nat.add_sub_cancel, ← hy.out, ← hz.out]; omega
          have E : Hid (lgF f (j + 2) = max A (R + 1) ∧ rnF f (j + 2) = R + 1) := ⟨by rw [lgF, rnF, if_neg hff, hA.out, hR.out], by rw [rnF, if_neg hff, hR.out]⟩
          clear hff
          subst hyz
          go_wp2
          refine ⟨⟨j + 2, by omega, by go_num, ?_, ?_, trivial⟩, by simp [intOf]; omega⟩
          · rw [E.out.1]; exact congrArg _ (maxI A (R + 1))
          · rw [E.out.2]; go_num
        · have q : ((y : Int) != (z : Int)) = true := by simp; omega
          have hff : 0 < j + 1 ∧ f (j + 1) ≠ f (j + 1 - 1) := by rw [Nat.add_sub_cancel, ← hy.out, ← hz.out]; omega
          have E : Hid (lgF f (j + 2) = max A 1 ∧ rnF f (j + 2) = 1) := ⟨by rw [lgF, rnF, if_pos hff, hA.out], by rw [rnF, if_pos hff]⟩
          clear hyz hff
          go_wp2
          refine ⟨⟨j + 2, by omega, by go_num, ?_, ?_, trivial⟩, by simp [intOf]; omega⟩
          · rw [E.out.1]; exact congrArg _ (maxI A 1)
          · rw [E.out.2]; rfl
    · obtain rfl : k = n := by omega
      go_wp2
      go_ret
      refine ⟨?_, rfl⟩
      rw [hA.out]
      rfl

/-- A byte held against itself, moved by a bit, with a bit moved in. -/
def trF (x a : Nat) : Nat := x ^^^ (x / 2 ||| a * 128)
def ahF (f : Nat → Nat) (i : Nat) : Nat := if 0 < i then f (i - 1) % 2 else f i / 128
def tuF (f : Nat → Nat) : Nat → Nat
  | 0 => 0
  | i + 1 => tuF f i + pop (trF (f i) (ahF f i))
theorem tuF_le (f : Nat → Nat) (n : Nat) : tuF f n ≤ 8 * n := by
  induction n with
  | zero => simp [tuF]
  | succ n ih => have := pop_le (trF (f n) (ahF f n)); simp only [tuF]; omega
theorem and_one (z : Nat) (hz : z < 256) : bits .and .u8 (z : Int) 1 = ((z % 2 : Nat) : Int) := by
  have key : ∀ x : Fin 256, bits .and .u8 (x.1 : Int) 1 = ((x.1 % 2 : Nat) : Int) := by decide +kernel
  exact key ⟨z, hz⟩
theorem tr_bits (x a : Nat) (hx : x < 256) (ha : a < 2) : bits .or .u8 ((x : Int) / 2) ((a : Int) * 128) = ((x / 2 ||| a * 128 : Nat) : Int) ∧ bits .xor .u8 (x : Int) ((x / 2 ||| a * 128 : Nat) : Int) = ((trF x a : Nat) : Int) ∧ trF x a < 256 := by
  have key : ∀ x : Fin 256, ∀ a : Fin 2, bits .or .u8 ((x.1 : Int) / 2) ((a.1 : Int) * 128) = ((x.1 / 2 ||| a.1 * 128 : Nat) : Int) ∧ bits .xor .u8 (x.1 : Int) ((x.1 / 2 ||| a.1 * 128 : Nat) : Int) = ((trF x.1 a.1 : Nat) : Int) ∧ trF x.1 a.1 < 256 := by decide +kernel
  exact key ⟨x, hx⟩ ⟨a, ha⟩
set_option maxRecDepth 100000 in
set_option maxHeartbeats 2000000 in
theorem turned_ok (p : Option Addr) (n c : Nat) (f : Nat → Nat) (hn : n ≤ 1048576) (w : World) (h : By w p n f) : Calls Try.prog 21 #[.slice p n c] w fun e w' => e = .returned (.int .i64 (tuF f n : Nat)) ∧ w' = w := by
  have H : Hid (By w p n f) := h
  clear h
  go_enter Try.func21, Try.ntmps21
  go_wp2
  go_loopw [3, 4, 5, 6, 9] (fun s _ _ _ i wr => ∃ k : Nat, k ≤ n ∧ i = .int .i64 k ∧ s = .int .i64 (tuF f k : Nat) ∧ wr = w) (fun _ _ _ _ i _ => n - (intOf i).toNat)
  case atStart => exact ⟨0, Nat.zero_le _, rfl, rfl, rfl⟩
  case round =>
    obtain ⟨k, hk, rfl, rfl, hw⟩ := hrel
    obtain rfl := hw.symm
    have ho1 := tuF_le f k
    obtain ⟨A, hA⟩ : ∃ A, Hid (A = tuF f k) := ⟨_, rfl⟩
    rw [← hA.out] at ho1 ⊢
    by_cases hlt : k < n
    · obtain ⟨b, off, rfl, hb, hc⟩ := H.out (by omega)
      obtain ⟨h1, h2⟩ := hc k hlt
      obtain ⟨y, hy⟩ : ∃ y, Hid (y = f k) := ⟨_, rfl⟩
      rw [← hy.out] at h1 h2
      by_cases h0 : k = 0
      · subst h0
        rw [Nat.add_zero] at h1
        have E : Hid (tuF f (0 + 1) = A + pop (trF y (y / 128))) := by show tuF f (0 + 1) = _; rw [tuF, ahF, if_neg (by omega), hA.out, hy.out]
        obtain ⟨t1, t2, t3⟩ := tr_bits y (y / 128) h2 (by omega)
        obtain ⟨Z, hZ⟩ : ∃ Z, Hid (Z = pop (trF y (y / 128))) := ⟨_, rfl⟩
        have hp : Z ≤ 8 := by rw [hZ.out]; exact pop_le _
        have H33 : Hid (Calls Try.prog 33 #[.int .u8 (bits .xor .u8 (y : Int) (bits .or .u8 ((y : Int) / 2) ((y : Int) / 128 * 128)))] w fun e w' => e = .returned (.int .i64 (Z : Nat)) ∧ w' = w) := by
          rw [show ((y : Int) / 128 * 128) = ((y / 128 : Nat) : Int) * 128 by omega, t1, t2, hZ.out]
          exact ones8 _ t3 w
        clear hc t1 t2 t3
        go_wp2_with (go_at_call 33; refine H33.out.mono ?_; rintro e w2 ⟨rfl, hw2⟩; obtain rfl := hw2.symm)
        refine ⟨⟨1, by omega, rfl, ?_, trivial⟩, by simp [intOf]; omega⟩
        rw [show tuF f 1 = _ from E.out, ← hZ.out]
        go_num
      · obtain ⟨j, rfl⟩ : ∃ j, k = j + 1 := ⟨k - 1, by omega⟩
        obtain ⟨h3, h4⟩ := hc j (by omega)
        obtain ⟨z, hz⟩ : ∃ z, Hid (z = f j) := ⟨_, rfl⟩
        rw [← hz.out] at h3 h4
        clear hc
        have e1 : (((j + 1 : Nat) : Int) - 1) = (j : Int) := by omega
        have E : Hid (tuF f (j + 1 + 1) = A + pop (trF y (z % 2))) := by show tuF f (j + 1 + 1) = _; rw [tuF, ahF, if_pos (by omega), Nat.add_sub_cancel, hA.out, hy.out, hz.out]
        obtain ⟨t1, t2, t3⟩ := tr_bits y (z % 2) h2 (by omega)
        obtain ⟨Z, hZ⟩ : ∃ Z, Hid (Z = pop (trF y (z % 2))) := ⟨_, rfl⟩
        have hp : Z ≤ 8 := by rw [hZ.out]; exact pop_le _
        have H33 : Hid (Calls Try.prog 33 #[.int .u8 (bits .xor .u8 (y : Int) (bits .or .u8 ((y : Int) / 2) (bits .and .u8 (z : Int) 1 * 128 % 256)))] w fun e w' => e = .returned (.int .i64 (Z : Nat)) ∧ w' = w) := by
          rw [and_one z h4, show (((z % 2 : Nat) : Int) * 128 % 256) = ((z % 2 : Nat) : Int) * 128 by omega, t1, t2, hZ.out]
          exact ones8 _ t3 w
        clear t1 t2 t3
        go_wp2_with (go_at_call 33; refine H33.out.mono ?_; rintro e w2 ⟨rfl, hw2⟩; obtain rfl := hw2.symm)
        refine ⟨⟨j + 2, by omega, by go_num, ?_, trivial⟩, by simp [intOf]; omega⟩
        rw [show tuF f (j + 2) = _ from E.out, ← hZ.out]
        go_num
    · obtain rfl : k = n := by omega
      go_wp2
      go_ret
      refine ⟨?_, rfl⟩
      rw [hA.out]
      rfl
end Go.Proofs.Ytaejoohbmdckhaa
