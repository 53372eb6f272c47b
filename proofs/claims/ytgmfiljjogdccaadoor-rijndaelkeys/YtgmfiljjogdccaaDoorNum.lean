import Derived.Test.YtgmfiljjogdccaaDoorCiph
import Derived.Test.YtgmfiljjogdccaaDoorTouch
import Derived.Test.YtgmfiljjogdccaaDoorEnc
namespace Go.Proofs.YtgmfiljjogdccaaDoor
open Go.RowKit
set_option linter.unusedVariables false
/-- The first k bytes as a number. -/
def numK (f : Nat → Nat) : Nat → Nat
  | 0 => 0
  | k + 1 => numK f k * 256 + f k
theorem numK_lt {f : Nat → Nat} (hf : ∀ i, f i < 256) : ∀ k, numK f k < 256 ^ k
  | 0 => by show 0 < _; decide
  | k + 1 => by have h1 := numK_lt hf k; have h2 := hf k; unfold numK; rw [Nat.pow_succ]; omega
theorem wraps_u64 (n : Int) (h₀ : 0 ≤ n) (h₁ : n < 2 ^ 64) : IntKind.u64.wrap n = n := by simp [IntKind.wrap, IntKind.bits, IntKind.signed]; omega
theorem joins64 (x y : Nat) (hx1 : x < 72057594037927936) (hy : y < 256) : bits .or .u64 ((x : Int) * 256) (y : Int) = ((x * 256 + y : Nat) : Int) := by
  have := bits_join .u64 64 (by decide) wraps_u64 8 ((x : Int) * 256) (y : Int) (by omega) (by omega) (by omega) (by omega) (by omega) (by omega)
  rw [this]
  omega
set_option maxHeartbeats 800000 in
set_option maxRecDepth 100000 in
theorem number_ok (b o n cap : Nat) (f : Nat → Nat) (w : World) (h8 : 8 ≤ n) (hnc : n ≤ cap) (hc : ∀ i, i < 8 → w.cell? ⟨b, o + i, none⟩ = some (.int .u8 (f i : Nat))) (hf : ∀ i, f i < 256) :
    Calls Tryd.prog 73 #[.slice (some ⟨b, o, none⟩) n cap] w fun e w' => e = .returned (.int .u64 (numK f 8 : Nat)) ∧ w' = w := by
  have HC : Hid (∀ i, i < 8 → w.cell? ⟨b, o + i, none⟩ = some (.int .u8 (f i : Nat))) := hc
  have HF : Hid (∀ i, f i < 256) := hf
  have hcap : (8 : Int) ≤ (cap : Nat) := by omega
  clear hc hf
  go_enter Tryd.func73, Tryd.ntmps73
  go_wp2
  go_loopw [3, 9] (fun vn i wr => ∃ k : Nat, k ≤ 8 ∧ i = .int .i64 k ∧ vn = .int .u64 (numK f k : Nat) ∧ wr = w) (fun _ i _ => 8 - (intOf i).toNat)
  case atStart => exact ⟨0, by omega, rfl, rfl, rfl⟩
  case round =>
    obtain ⟨k, hk, rfl, rfl, hw⟩ := hrel
    obtain rfl := hw.symm
    by_cases hlt : k < 8
    · have ck := HC.out k hlt
      obtain ⟨x, HX⟩ : ∃ x, Hid (x = numK f k) := ⟨_, rfl⟩
      obtain ⟨y, HY⟩ : ∃ x, Hid (x = f k) := ⟨_, rfl⟩
      rw [← HX.out]
      rw [← HY.out] at ck
      have hy : y < 256 := by rw [HY.out]; exact HF.out k
      have hx : x < 72057594037927936 := by
        have h1 := numK_lt HF.out k
        have h2 : 256 ^ k ≤ 256 ^ 7 := Nat.pow_le_pow_right (by decide) (by omega)
        rw [← HX.out] at h1
        have h3 : (256 : Nat) ^ 7 = 72057594037927936 := by decide
        omega
      go_wp2
      refine ⟨⟨k + 1, by omega, rfl, ?_, trivial⟩, ?_⟩
      · refine val_eq ?_
        show _ = ((numK f k * 256 + f k : Nat) : Int)
        rw [← HX.out, ← HY.out]
        exact joins64 x y hx hy
      · simp only [intOf]; omega
    · obtain rfl : k = 8 := by omega
      go_wp2
      go_ret
      exact ⟨rfl, rfl⟩
/-- The bytes of a number, highest first. -/
def byteK (n k : Nat) : Nat := n / 256 ^ (7 - k) % 256
theorem byteK_lt (n k : Nat) : byteK n k < 256 := Nat.mod_lt _ (by decide)
set_option maxHeartbeats 800000 in
set_option maxRecDepth 100000 in
theorem put_ok (b o n cap m : Nat) (w : World) (h8 : 8 ≤ n) (hm : m < 18446744073709551616) (ht : w.there b o 8) :
    Calls Tryd.prog 74 #[.slice (some ⟨b, o, none⟩) n cap, .int .u64 (m : Nat)] w fun e w' => e = .returned (.tuple #[]) ∧ Touch w w' b o 8 ∧ ∀ k, k < 8 → w'.cell? ⟨b, o + k, none⟩ = some (.int .u8 (byteK m k : Nat)) := by
  have HT : Hid (w.there b o 8) := ht
  have hni : (8 : Int) ≤ (n : Nat) := by omega
  clear ht h8
  go_enter Tryd.func74, Tryd.ntmps74
  go_wp2
  go_loopw [1, 4] (fun vn i wr => ∃ j : Nat, j ≤ 8 ∧ i = .int .i64 ((j : Int) - 1) ∧ vn = .int .u64 (m / 256 ^ (8 - j) : Nat) ∧ Hid (Touch w wr b o 8 ∧ ∀ k, j ≤ k → k < 8 → wr.cell? ⟨b, o + k, none⟩ = some (.int .u8 (byteK m k : Nat)))) (fun _ i _ => (intOf i + 1).toNat)
  case atStart => exact ⟨8, Nat.le_refl _, rfl, by simp, Touch.refl _ _ _ _, fun k h1 h2 => by omega⟩
  case round =>
    obtain ⟨j, hj, rfl, rfl, HR⟩ := hrel
    cases j with
    | zero =>
      go_wp2
      go_end0
      exact ⟨rfl, HR.out.1, fun k hk => HR.out.2 k (Nat.zero_le _) hk⟩
    | succ q =>
      have hq1 : (((q + 1 : Nat) : Int) - 1) = (q : Nat) := by omega
      rw [hq1]
      obtain ⟨x, HX⟩ : ∃ x, Hid (x = m / 256 ^ (8 - (q + 1))) := ⟨_, rfl⟩
      rw [← HX.out]
      have hqn : ((q : Nat) : Int) < (n : Nat) := by omega
      have hq8 : ((q : Nat) : Int) < 8 := by omega
      have t := HR.out.1.there _ _ HT.out q (by omega)
      obtain ⟨t1, t2⟩ := t
      obtain ⟨v, c1⟩ := Option.isSome_iff_exists.1 t1
      clear t1
      go_wp2
      refine ⟨⟨q, by omega, rfl, val_eq ?_, ?_⟩, ?_⟩
      · have e : m / 256 ^ (8 - q) = x / 256 := by
          rw [HX.out, Nat.div_div_eq_div_mul, ← Nat.pow_succ]
          rw [show (8 - (q + 1)).succ = 8 - q by omega]
        rw [e]
        omega
      · refine ⟨HR.out.1.setCell (o + q) _ (by omega) (by omega), fun k h1 h2 => ?_⟩
        by_cases hkq : k = q
        · subst hkq
          have hv : ((x : Int) % 256) = ((byteK m k : Nat) : Int) := by
            unfold byteK
            rw [HX.out, show 8 - (k + 1) = 7 - k by omega]
            omega
          rw [World.cell?_setCell_same' _ _ _ (by rw [c1]; rfl), hv]
        · rw [World.cell?_setCell_other _ ⟨b, o + q, none⟩ ⟨b, o + k, none⟩ _ (fun e => hkq (by simp at e <;> omega))]
          exact HR.out.2 k (by omega) h2
      · simp only [intOf]; omega
theorem numK_word (f : Nat → Nat) : numK f 8 = wd (f 0) (f 1) (f 2) (f 3) * 4294967296 + wd (f 4) (f 5) (f 6) (f 7) := by
  simp only [numK, wd]
  omega
theorem halves_at (b : Nat) (s : W4) (hs : s.ok) (w : World) (hr : w.rangeAt b 0 [.int .u8 (bt0 s.a : Nat), .int .u8 (bt1 s.a : Nat), .int .u8 (bt2 s.a : Nat), .int .u8 (bt3 s.a : Nat), .int .u8 (bt0 s.b : Nat), .int .u8 (bt1 s.b : Nat), .int .u8 (bt2 s.b : Nat), .int .u8 (bt3 s.b : Nat), .int .u8 (bt0 s.c : Nat), .int .u8 (bt1 s.c : Nat), .int .u8 (bt2 s.c : Nat), .int .u8 (bt3 s.c : Nat), .int .u8 (bt0 s.d : Nat), .int .u8 (bt1 s.d : Nat), .int .u8 (bt2 s.d : Nat), .int .u8 (bt3 s.d : Nat)]) :
    (∀ u, Below (b + 1) w u → Calls Tryd.prog 73 #[.slice (some ⟨b, 0, none⟩) 8 16] u fun e u' => e = .returned (.int .u64 (s.a * 4294967296 + s.b : Nat)) ∧ u' = u) ∧
    (∀ u, Below (b + 1) w u → Calls Tryd.prog 73 #[.slice (some ⟨b, 8, none⟩) 8 8] u fun e u' => e = .returned (.int .u64 (s.c * 4294967296 + s.d : Nat)) ∧ u' = u) := by
  refine ⟨fun u hu => ?_, fun u hu => ?_⟩
  · have h := number_ok b 0 8 16 (fun i => if i = 0 then bt0 s.a else if i = 1 then bt1 s.a else if i = 2 then bt2 s.a else if i = 3 then bt3 s.a else if i = 4 then bt0 s.b else if i = 5 then bt1 s.b else if i = 6 then bt2 s.b else bt3 s.b) u (Nat.le_refl _) (by decide) (fun i hi => by
      rw [hu.cell (p := ⟨b, 0 + i, none⟩) (Nat.lt_succ_self b)]
      have h8 : i = 0 ∨ i = 1 ∨ i = 2 ∨ i = 3 ∨ i = 4 ∨ i = 5 ∨ i = 6 ∨ i = 7 := by omega
      rcases h8 with rfl | rfl | rfl | rfl | rfl | rfl | rfl | rfl <;> exact hr _ _ rfl) (fun i => by
      have := bt0_lt s.a; have := bt1_lt s.a; have := bt2_lt s.a; have := bt3_lt s.a; have := bt0_lt s.b; have := bt1_lt s.b; have := bt2_lt s.b; have := bt3_lt s.b
      repeat' split
      all_goals assumption)
    rw [numK_word] at h
    simp only [if_true, reduceIte, Nat.reduceEqDiff] at h
    rw [wd_bt hs.1, wd_bt hs.2.1] at h
    exact h
  · have h := number_ok b 8 8 8 (fun i => if i = 0 then bt0 s.c else if i = 1 then bt1 s.c else if i = 2 then bt2 s.c else if i = 3 then bt3 s.c else if i = 4 then bt0 s.d else if i = 5 then bt1 s.d else if i = 6 then bt2 s.d else bt3 s.d) u (Nat.le_refl _) (by decide) (fun i hi => by
      rw [hu.cell (p := ⟨b, 8 + i, none⟩) (Nat.lt_succ_self b)]
      have h8 : i = 0 ∨ i = 1 ∨ i = 2 ∨ i = 3 ∨ i = 4 ∨ i = 5 ∨ i = 6 ∨ i = 7 := by omega
      have hr' := fun j v hv => (by simpa using hr (8 + j) v hv : w.cell? ⟨b, 8 + j, none⟩ = some v)
      rcases h8 with rfl | rfl | rfl | rfl | rfl | rfl | rfl | rfl <;> exact hr' _ _ rfl) (fun i => by
      have := bt0_lt s.c; have := bt1_lt s.c; have := bt2_lt s.c; have := bt3_lt s.c; have := bt0_lt s.d; have := bt1_lt s.d; have := bt2_lt s.d; have := bt3_lt s.d
      repeat' split
      all_goals assumption)
    rw [numK_word] at h
    simp only [if_true, reduceIte, Nat.reduceEqDiff] at h
    rw [wd_bt hs.2.2.1, wd_bt hs.2.2.2] at h
    exact h
end Go.Proofs.YtgmfiljjogdccaaDoor
