import Derived.Test.YtcopkohklgbpgaaDoorSpl
import Derived.Test.YtcopkohklgbpgaaDoorSame
import Derived.Laws.BitsAllLaws
namespace Go.Proofs.YtcopkohklgbpgaaDoor
open Go.RowKit
set_option linter.unusedVariables false
set_option linter.unusedSimpArgs false
set_option maxHeartbeats 400000 in
theorem known_yes {h : Int} (k : Known h) (w : World) : Calls Tryd.prog 7 #[.int .i64 h] w fun e w' => e = .returned (.bool true) ∧ w' = w := by
  rcases k with rfl | rfl | rfl | rfl
  · go_enter Tryd.func7, Tryd.ntmps7
    go_wp2
    go_ret
    exact ⟨rfl, rfl⟩
  · go_enter Tryd.func7, Tryd.ntmps7
    go_wp2
    go_ret
    exact ⟨rfl, rfl⟩
  · go_enter Tryd.func7, Tryd.ntmps7
    go_wp2
    go_ret
    exact ⟨rfl, rfl⟩
  · go_enter Tryd.func7, Tryd.ntmps7
    go_wp2
    go_ret
    exact ⟨rfl, rfl⟩
theorem known_no {h : Int} (k : ¬ Known h) (w : World) : Calls Tryd.prog 7 #[.int .i64 h] w fun e w' => e = .returned (.bool false) ∧ w' = w := by
  have e1 : (h == 224) = false := by simp; rintro rfl; exact k (.inl rfl)
  have e2 : (h == 256) = false := by simp; rintro rfl; exact k (.inr (.inl rfl))
  have e3 : (h == 384) = false := by simp; rintro rfl; exact k (.inr (.inr (.inl rfl)))
  have e4 : (h == 512) = false := by simp; rintro rfl; exact k (.inr (.inr (.inr rfl)))
  clear k
  go_enter Tryd.func7, Tryd.ntmps7
  go_wp2
  go_ret
  exact ⟨rfl, rfl⟩
theorem num_ok (e : Int) (w : World) : Calls Tryd.prog 10 #[.int .i64 e] w fun r w' => r = .returned (.int .i64 e) ∧ w' = w := by
  go_enter Tryd.func10, Tryd.ntmps10
  go_wp2
  go_ret
  exact ⟨rfl, rfl⟩
/-- Bytes. -/
theorem xor_zero_l {z : Int} (h0 : 0 ≤ z) (h1 : z < 256) : bits .xor .u8 0 z = z := by
  rw [u8_xor 0 z (by omega) (by omega) h0 h1]
  simp
  omega
theorem xor_self2 {a z : Int} (a0 : 0 ≤ a) (a1 : a < 256) (h0 : 0 ≤ z) (h1 : z < 256) : bits .xor .u8 a (bits .xor .u8 a z) = z := by
  rw [u8_xor a z a0 a1 h0 h1]
  have hx : a.toNat ^^^ z.toNat < 2 ^ 8 := Nat.xor_lt_two_pow (by omega) (by omega)
  rw [u8_xor a _ a0 a1 (by omega) (by omega), Int.toNat_natCast, ← Nat.xor_assoc, Nat.xor_self, Nat.zero_xor]
  omega
theorem xor_byte {a z : Int} (a0 : 0 ≤ a) (a1 : a < 256) (h0 : 0 ≤ z) (h1 : z < 256) : 0 ≤ bits .xor .u8 a z ∧ bits .xor .u8 a z < 256 := by
  rw [u8_xor a z a0 a1 h0 h1]
  have hx : a.toNat ^^^ z.toNat < 2 ^ 8 := Nat.xor_lt_two_pow (by omega) (by omega)
  omega
theorem map_getD (n : Nat) (Z : List Int) (hl : Z.length = n) (F : Nat → Int) (hF : ∀ i, i < n → F i = Z.getD i 0) : (List.range n).map F = Z := by
  apply List.ext_getElem (by simp [hl])
  intro i h1 h2
  have := hF i (by omega)
  simpa [List.getD, List.getElem?_eq_getElem h2] using this
theorem splitL_one (h : Int) (n : Nat) (Z : List Int) (hl : Z.length = n) (hb : AllBytes Z) : splitL h n 0 Z [] = Z := by
  show [] ++ (List.range n).map (xorF (fun _ => 0) (fun i => Z.getD i 0) n) = Z
  rw [List.nil_append]
  refine map_getD n Z hl _ (fun i hi => ?_)
  rw [xorF, if_pos hi]
  exact xor_zero_l (hb i).1 (hb i).2
theorem mergeL_one (h : Int) (n : Nat) (Z : List Int) (hl : Z.length = n) (hb : AllBytes Z) : mergeL h n 0 Z = Z := by
  show (List.range n).map (xorF (fun _ => 0) (fun i => Z.getD i 0) n) = Z
  refine map_getD n Z hl _ (fun i hi => ?_)
  rw [xorF, if_pos hi]
  exact xor_zero_l (hb i).1 (hb i).2
theorem split_one (h : Int) (n : Nat) (za : Option Addr) (zc : Nat) (Z : List Int) (w : World) (k : Known h) (hT : Tables w) (hn : 1 ≤ n ∧ n ≤ 1024) (hZ : View w (.slice za n zc) Z) (hZl : Z.length = n) (hb : AllBytes Z) :
    Calls Tryd.prog 8 #[.int .i64 h, .slice za n zc, .int .i64 1, .slice none 0 0] w fun e w' => ∃ b, e = .returned (.tuple #[.slice (some ⟨b, 0, none⟩) n n, .int .i64 0]) ∧ w.heap.size ≤ b ∧ Mat w' b Z ∧ Below w.heap.size w w' := by
  have q := split_ok h n 0 _ _ Z [] za none zc 0 w k hT hn (by omega) rfl rfl hZ hZl (show View w (.slice none (n * 0) 0) [] from ⟨none, 0, rfl, by simp, by simp [maxLen], fun _ => rfl, .inl rfl⟩) (show ([] : List Int).length = n * 0 from rfl)
  rw [splitL_one h n Z hZl hb] at q
  simpa using q
theorem merge_one (h : Int) (n mb mo mc : Nat) (Z : List Int) (w : World) (k : Known h) (hT : Tables w) (hn : 1 ≤ n ∧ n ≤ 1024) (hZ : View w (.slice (some ⟨mb, mo, none⟩) n mc) Z) (hZl : Z.length = n) (hb : AllBytes Z) :
    Calls Tryd.prog 9 #[.int .i64 h, .slice (some ⟨mb, mo, none⟩) n mc, .int .i64 1] w fun e w' => ∃ b, e = .returned (.tuple #[.slice (some ⟨b, 0, none⟩) n n, .int .i64 0]) ∧ w.heap.size ≤ b ∧ Mat w' b Z ∧ Below w.heap.size w w' := by
  have e : n * 0 + n = n := by omega
  have q := merge_ok h n 0 Z mb mo mc w k hT hn (by omega) (by rw [e]; exact hZ) (by rw [e]; exact hZl)
  rw [mergeL_one h n Z hZl hb] at q
  simpa using q
set_option maxHeartbeats 800000 in
set_option maxRecDepth 100000 in
theorem one_ok (h : Int) (a : Option Addr) (n c : Nat) (Z : List Int) (w : World) (hZ : Hid (View w (.slice a n c) Z)) (hZl : Hid (Z.length = n)) (hB : Hid (AllBytes Z)) (hT : Hid (Tables w)) :
    Calls Tryd.prog 3 #[.int .i64 h, .slice a n c] w fun e w' => e = .returned (.bool true) ∧ Below w.heap.size w w' := by
  by_cases hk : Known h
  · by_cases h1 : n < 1
    · have e1 : decide ((n : Int) < 1) = true := by simp; omega
      go_enter Tryd.func3, Tryd.ntmps3
      go_wp2_with (first | (go_at_call 7; refine (known_yes hk _).mono ?_; rintro e w1 ⟨rfl, hw1⟩; obtain rfl := hw1.symm))
      go_ret
      exact ⟨rfl, Below.refl _ _⟩
    · by_cases h2 : 1024 < n
      · have e1 : decide ((n : Int) < 1) = false := by simp; omega
        have e2 : decide ((1024 : Int) < (n : Int)) = true := by simp; omega
        go_enter Tryd.func3, Tryd.ntmps3
        go_wp2_with (first | (go_at_call 7; refine (known_yes hk _).mono ?_; rintro e w1 ⟨rfl, hw1⟩; obtain rfl := hw1.symm))
        go_ret
        exact ⟨rfl, Below.refl _ _⟩
      · have e1 : decide ((n : Int) < 1) = false := by simp; omega
        have e2 : decide ((1024 : Int) < (n : Int)) = false := by simp; omega
        have hn : 1 ≤ n ∧ n ≤ 1024 := by omega
        obtain ⟨mb, mo, rfl⟩ : ∃ mb mo, a = some ⟨mb, mo, none⟩ := by
          have hl := hZl.out
          obtain ⟨a', c', e, q1, q2, q3, q4⟩ := hZ.out
          injection e with e4 e5 e6
          rcases q4 with q4 | ⟨b, o, q5, _⟩
          · rw [q4] at hl; simp at hl; omega
          · exact ⟨b, o, by rw [e4, q5]⟩
        have HK : Hid (Known h) := hk
        clear h1 h2
        go_enter Tryd.func3, Tryd.ntmps3
        go_wp2_with (first
          | (go_at_call 7; refine (known_yes HK.out _).mono ?_; rintro e w1 ⟨rfl, hw1⟩; obtain rfl := hw1.symm)
          | (go_at_call 8; refine (split_one h n _ c Z w HK.out hT.out hn hZ.out hZl.out hB.out).mono ?_))
        rintro e1 w1 ⟨b1, rfl, hb1, hM1, hB1⟩
        have HB1 : Hid (Below w.heap.size w w1) := hB1
        have HM1 : Hid (Mat w1 b1 Z) := hM1
        have HT1 : Hid (Tables w1) := hT.out.below hB1 hT.out.size
        have HZ1 : Hid (View w1 (.slice (some ⟨mb, mo, none⟩) n c) Z) := hZ.out.kept hB1.block
        clear hM1 hB1
        go_wp2_with (first | (go_at_call 9; refine (merge_one h n mb mo c Z w1 HK.out HT1.out hn HZ1.out hZl.out hB.out).mono ?_))
        rintro e2 w2 ⟨b2, rfl, hb2, hM2, hB2⟩
        have HB2 : Hid (Below w.heap.size w w2) := HB1.out.trans (hB2.mono HB1.out.size)
        have v1 : View w2 (.slice (some ⟨b1, 0, none⟩) n n) Z := by
          have q := (HM1.out.view (by have := hZl.out; omega)).kept hB2.block
          rw [hZl.out] at q
          exact q
        have v2 : View w2 (.slice (some ⟨b2, 0, none⟩) n n) Z := by
          have q := hM2.view (by have := hZl.out; omega)
          rw [hZl.out] at q
          exact q
        have v0 : View w2 (.slice (some ⟨mb, mo, none⟩) n c) Z := hZ.out.kept HB2.out.block
        have S1 : Hid (∀ u, (∃ m, u = w2.drewN m) → Calls Tryd.prog 11 #[.slice (some ⟨b1, 0, none⟩) n n, .slice (some ⟨mb, mo, none⟩) n c] u fun e w' => e = .returned (.bool true) ∧ ∃ m, w' = w2.drewN m) := by
          rintro u ⟨m, rfl⟩
          refine (same_any _ _ Z Z (w2.drewN m) (v1.kept (fun _ _ => rfl)) (v0.kept (fun _ _ => rfl))).mono ?_
          rintro e w' ⟨rfl, q, rfl⟩
          exact ⟨by simp, _, World.drewN_drewN _ _ _⟩
        have S2 : Hid (∀ u, (∃ m, u = w2.drewN m) → Calls Tryd.prog 11 #[.slice (some ⟨b2, 0, none⟩) n n, .slice (some ⟨mb, mo, none⟩) n c] u fun e w' => e = .returned (.bool true) ∧ ∃ m, w' = w2.drewN m) := by
          rintro u ⟨m, rfl⟩
          refine (same_any _ _ Z Z (w2.drewN m) (v2.kept (fun _ _ => rfl)) (v0.kept (fun _ _ => rfl))).mono ?_
          rintro e w' ⟨rfl, q, rfl⟩
          exact ⟨by simp, _, World.drewN_drewN _ _ _⟩
        clear v0 v1 v2 hM2 hB2
        go_wp2_with (first | (go_at_call 10; refine (num_ok _ _).mono ?_; rintro e3 w3 ⟨rfl, hw3⟩; obtain rfl := hw3.symm))
        refine (S1.out _ ⟨0, rfl⟩).mono ?_
        rintro e4 w4 ⟨rfl, m4, rfl⟩
        go_wp2_with fail
        refine (S2.out _ ⟨m4, rfl⟩).mono ?_
        rintro e5 w5 ⟨rfl, m5, rfl⟩
        go_wp2_with fail
        go_ret
        exact ⟨rfl, HB2.out.os, HB2.out.tape, HB2.out.output, HB2.out.size, HB2.out.block⟩
  · go_enter Tryd.func3, Tryd.ntmps3
    go_wp2_with (first | (go_at_call 7; refine (known_no hk _).mono ?_; rintro e w1 ⟨rfl, hw1⟩; obtain rfl := hw1.symm))
    go_ret
    exact ⟨rfl, Below.refl _ _⟩
end Go.Proofs.YtcopkohklgbpgaaDoor
