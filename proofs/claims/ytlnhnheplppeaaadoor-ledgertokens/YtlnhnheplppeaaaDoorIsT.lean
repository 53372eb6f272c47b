import Derived.Test.YtlnhnheplppeaaaDoorLet
import Derived.Ground.NamesProg
import Derived.WalkMore
import Derived.Below
import Derived.Shelf.Lay
import Derived.Shelf.Unicode.ValidAny
namespace Go.Proofs
open Go.RowKit Go.Shelf Go.Lib
shelf_lay Lays.n196 Nm 196 at Tryd as Tryd.laysValid
end Go.Proofs
namespace Go.Proofs.YtlnhnheplppeaaaDoor
open Go.RowKit
set_option linter.unusedVariables false
/-- The tables of unicode/utf8. -/
def Tabs (w : World) : Prop := Lib.Utf8Tabs (Tryd.laysValid_ren.g 3) (Tryd.laysValid_ren.g 4) w
theorem Tabs.below {w v : World} (h : Tabs w) (b : Below w.heap.size w v) : Tabs v := Utf8Tabs_below h b
/-- The byte at a place. -/
def bt (s : ByteArray) (i : Nat) : Nat := (s.data.toList.getD i 0).toNat
theorem bt_lt (s : ByteArray) (i : Nat) : bt s i < 256 := UInt8.toNat_lt _
theorem bt_at (s : ByteArray) (i : Nat) (h : i < s.size) : ((s[i]'h).toNat : Int) = (bt s i : Nat) := by
  unfold bt
  have h' : i < s.data.toList.length := by rw [Array.length_toList]; exact h
  rw [List.getD_eq_getElem?_getD, List.getElem?_eq_getElem h']
  simp
  rfl
/-- cofferref07.Letter. -/
theorem let_ok (s : ByteArray) (i : Nat) (w : World) (hs : s.size ≤ 9223372036854770000) (hi : i < s.size) :
    Calls Tryd.prog 15 #[.string s, .int .i64 (i : Nat)] w fun e w' => Hid (LetP w w' e (letN (s.size - i) (bt s i) (bt s (i + 1)) (bt s (i + 2)) (bt s (i + 3)))) := by
  have e0 := bt_at s i hi
  have g0 := bt_lt s i
  have g1 := bt_lt s (i + 1)
  have g2 := bt_lt s (i + 2)
  have g3 := bt_lt s (i + 3)
  rcases (show bt s i < 128 ∨ (128 ≤ bt s i ∧ bt s i < 192) ∨ (192 ≤ bt s i ∧ bt s i < 224) ∨ (224 ≤ bt s i ∧ bt s i < 240) ∨ (240 ≤ bt s i ∧ bt s i < 248) ∨ 248 ≤ bt s i by omega) with h | ⟨h, h'⟩ | ⟨h, h'⟩ | ⟨h, h'⟩ | ⟨h, h'⟩ | h
  · exact let_asc s i _ _ _ _ w hs hi e0 h
  · exact let_mid s i _ _ _ _ w hs hi e0 h h'
  · by_cases hc : s.size < i + 2
    · exact let_cut2 s i _ _ _ _ w hs hi e0 h h' hc
    · exact let_full2 s i _ _ _ _ w hs hi e0 h h' (by omega) (bt_at s (i + 1) (by omega)) g1
  · by_cases hc : s.size < i + 3
    · exact let_cut3 s i _ _ _ _ w hs hi e0 h h' hc
    · exact let_full3 s i _ _ _ _ w hs hi e0 h h' (by omega) (bt_at s (i + 1) (by omega)) g1 (by omega) (bt_at s (i + 2) (by omega)) g2
  · by_cases hc : s.size < i + 4
    · exact let_cut4 s i _ _ _ _ w hs hi e0 h h' hc
    · exact let_full4 s i _ _ _ _ w hs hi e0 h h' (by omega) (bt_at s (i + 1) (by omega)) g1 (by omega) (bt_at s (i + 2) (by omega)) g2 (by omega) (bt_at s (i + 3) (by omega)) g3
  · exact let_top s i _ _ _ _ w hs hi e0 h g0
theorem drop_getD (l : List UInt8) (i j : Nat) : (l.drop i).getD j 0 = l.getD (i + j) 0 := by
  simp [List.getD_eq_getElem?_getD, List.getElem?_drop]
/-- One step of the text. -/
theorem valid_letter (s : ByteArray) (i : Nat) (hi : i < s.size) :
    (letN (s.size - i) (bt s i) (bt s (i + 1)) (bt s (i + 2)) (bt s (i + 3)) = 0 ∧ Lib.validD (s.data.toList.drop i) = false) ∨ (∃ k, letN (s.size - i) (bt s i) (bt s (i + 1)) (bt s (i + 2)) (bt s (i + 3)) = k ∧ 1 ≤ k ∧ i + k ≤ s.size ∧ Lib.validD (s.data.toList.drop i) = Lib.validD (s.data.toList.drop (i + k))) := by
  have hl : (s.data.toList.drop i).length = s.size - i := by rw [List.length_drop, Array.length_toList]; rfl
  have hne : s.data.toList.drop i ≠ [] := fun e => by rw [e] at hl; simp at hl; omega
  have hd : Lib.decodeL (s.data.toList.drop i) = Lib.decodeN (s.size - i) (bt s i) (bt s (i + 1)) (bt s (i + 2)) (bt s (i + 3)) := by
    rw [Lib.decodeL_N, hl]
    simp only [drop_getD, Nat.add_zero]
    rfl
  rcases letN_decode (s.size - i) (bt s i) (bt s (i + 1)) (bt s (i + 2)) (bt s (i + 3)) (by omega) (bt_lt _ _) (bt_lt _ _) (bt_lt _ _) (bt_lt _ _) with ⟨h1, h2⟩ | ⟨h1, h2, h3, h4⟩
  · left
    refine ⟨h1, ?_⟩
    rw [Lib.validD_step _ hne, hd, h2]
    simp
  · right
    refine ⟨_, rfl, h1, by omega, ?_⟩
    rw [Lib.validD_step _ hne, hd, if_neg h4, h3, List.drop_drop]
set_option maxHeartbeats 1600000 in
set_option maxRecDepth 100000 in
/-- cofferref07.IsText. -/
theorem isText_ref (s : ByteArray) (w : World) (hs : s.size ≤ 9223372036854770000) :
    Calls Tryd.prog 12 #[.string s] w fun e w' => e = .returned (.bool (Lib.validD s.data.toList)) ∧ w' = w := by
  obtain ⟨ANS, HA⟩ : ∃ A, Hid (Lib.validD s.data.toList = A) := ⟨_, rfl⟩
  rw [HA.out]
  go_enter Tryd.func12, Tryd.ntmps12
  go_wp2
  go_loop [3] (fun x => ∃ i : Nat, x = .int .i64 (i : Nat) ∧ i ≤ s.size ∧ Hid (Lib.validD (s.data.toList.drop i) = ANS)) (fun x => s.size - (intOf x).toNat)
  case atStart => exact ⟨0, rfl, by omega, HA⟩
  case round =>
    obtain ⟨i, rfl, hi, HV⟩ := hrel
    by_cases hlt : i < s.size
    · obtain ⟨k, HK⟩ : ∃ k, Hid (letN (s.size - i) (bt s i) (bt s (i + 1)) (bt s (i + 2)) (bt s (i + 3)) = k) := ⟨_, rfl⟩
      have H15 : Hid (Calls Tryd.prog 15 #[.string s, .int .i64 (i : Nat)] w fun e w' => Hid ((∃ v, e = .returned (.tuple #[.int .i64 v, .int .i64 (k : Nat)])) ∧ w' = w)) := by
        have q := let_ok s i w hs hlt
        rw [HK.out] at q
        exact q
      have z : (i : Int) < (s.size : Int) := by omega
      rcases valid_letter s i hlt with ⟨h1, h2⟩ | ⟨k', h1, h2, h3, h4⟩
      · rw [HK.out] at h1
        subst h1
        have HF : Hid (ANS = false) := by rw [← HV.out, h2]; rfl
        clear h2
        go_wp2_with (go_at_call 15; refine H15.out.mono ?_; intro e1 w1 hh; obtain ⟨⟨v, rfl⟩, hw1⟩ := hh.out; obtain rfl := hw1.symm)
        go_ret
        exact ⟨by rw [HF.out]; rfl, rfl⟩
      · rw [HK.out] at h1
        subst h1
        have hk0 : ((k : Int) == 0) = false := by simp; omega
        have HV2 : Hid (Lib.validD (s.data.toList.drop (i + k)) = ANS) := by rw [← h4]; exact HV.out
        clear h4 HV
        go_wp2_with (go_at_call 15; refine H15.out.mono ?_; intro e1 w1 hh; obtain ⟨⟨v, rfl⟩, hw1⟩ := hh.out; obtain rfl := hw1.symm)
        go_round
        case rel => exact ⟨i + k, by go_num, h3, HV2⟩
        case measure => simp [intOf]; omega
    · have z : ¬ (i : Int) < (s.size : Int) := by omega
      have hT : ANS = true := by
        rw [← HV.out, List.drop_of_length_le (by rw [Array.length_toList]; show s.size ≤ i; omega)]
        rfl
      subst hT
      go_wp2
      go_ret
      exact ⟨rfl, rfl⟩
set_option maxHeartbeats 1600000 in
set_option maxRecDepth 100000 in
/-- ledger.isText. -/
theorem isText_ok (s : ByteArray) (most : Int) (w : World) (hs : s.size ≤ 9223372036854770000) (hT : Tabs w) :
    Calls Tryd.prog 8 #[.string s, .int .i64 most] w fun e w' => Hid (e = .returned (.bool (decide ((s.size : Int) ≤ most) && Lib.validD s.data.toList)) ∧ Below w.heap.size w w') := by
  have cV : Hid (Calls Tryd.prog 14 #[.string s] w fun e w' => e = .returned (.bool (Lib.validD s.data.toList)) ∧ Below w.heap.size w w') := Any.utf8_ValidString Tryd.laysValid s w (by omega) hT
  obtain ⟨V, HV⟩ : ∃ V, Hid (V = Lib.validD s.data.toList) := ⟨_, rfl⟩
  rw [← HV.out]
  have cV2 : Hid (Calls Tryd.prog 14 #[.string s] w fun e w' => e = .returned (.bool V) ∧ Below w.heap.size w w') := by rw [HV.out]; exact cV.out
  clear cV
  by_cases h0 : (s.size : Int) ≤ most
  · have d : decide ((s.size : Int) ≤ most) = true := by simpa using h0
    rw [d, Bool.true_and]
    go_enter Tryd.func8, Tryd.ntmps8
    go_wp2_with (go_at_call 14; refine cV2.out.mono ?_; rintro e w' ⟨rfl, hb⟩)
    go_ret
    exact ⟨rfl, hb⟩
  · have d : decide ((s.size : Int) ≤ most) = false := by simpa using h0
    rw [d, Bool.false_and]
    clear cV2
    go_enter Tryd.func8, Tryd.ntmps8
    go_wp2
    go_ret
    exact ⟨rfl, Below.refl _ _⟩
end Go.Proofs.YtlnhnheplppeaaaDoor
