import Derived.Test.YtohhjohpdfbdoaaCl
import Derived.Test.YtohhjohpdfbdoaaTake
namespace Go.Proofs.Ytohhjohpdfbdoaa
open Go.RowKit
set_option linter.unusedVariables false
set_option linter.unusedSimpArgs false
variable {w w' : World} {g : Nat} {s : ByteArray} {i j : Nat}
theorem strOf_nums (t : ByteArray) : strOfNums (nums t) = t := by
  apply ByteArray.ext
  unfold strOfNums nums
  rw [List.map_map]
  have h : ((fun n : Int => UInt8.ofNat n.toNat) ∘ fun b : UInt8 => (b.toNat : Int)) = id := by
    funext b
    simp
  rw [h, List.map_id]
/-- The bytes from i to j. -/
def cut (s : ByteArray) (i j : Nat) : List Int := ((nums s).take j).drop i
theorem cut_nil (s : ByteArray) (i : Nat) : cut s i i = [] := by simp [cut]
theorem cut_len (s : ByteArray) (hj : j ≤ s.size) : (cut s i j).length = j - i := by simp [cut, nums_length]; omega
theorem take_snoc (xs : List Int) (k : Nat) (h : k < xs.length) : xs.take (k + 1) = xs.take k ++ [xs.getD k 0] := by
  rw [List.take_succ_eq_append_getElem h]
  simp [List.getD, List.getElem?_eq_getElem h]
theorem cut_snoc (s : ByteArray) (hij : i ≤ j) (hj : j < s.size) : cut s i (j + 1) = cut s i j ++ [nx s j] := by
  unfold cut nx
  rw [take_snoc _ _ (by rw [nums_length]; exact hj), List.drop_append_of_le_length (by simp [nums_length]; omega)]
theorem nums_extract (s : ByteArray) (i j : Nat) : nums (s.extract i j) = cut s i j := by
  unfold nums cut nums
  rw [← List.map_take, ← List.map_drop]
  congr 1
  simp
  rw [List.drop_take]
theorem extract_eq (s : ByteArray) (i j : Nat) : s.extract i j = strOfNums (cut s i j) := by rw [← nums_extract, strOf_nums]
def lets (l : List Int) : Bool := l.all fun c => decide (letter c)
set_option maxHeartbeats 1000000 in
set_option maxRecDepth 100000 in
theorem isLetters_ok (t : ByteArray) (n : Nat) (hn : Hid (t.size = n)) (hm : n ≤ 4096) (w : World) : Calls Try.prog 31 #[.string t] w fun e w' => e = .returned (.bool (lets (nums t))) ∧ w.grownBy w' none := by
  have hsz := hn.out
  go_enter Try.func31, Try.ntmps31
  go_wp2
  go_loopw [6] (fun v wr => ∃ k : Nat, k ≤ n ∧ v = .int .i64 k ∧ Hid (lets ((nums t).take k) = true) ∧ Hid (w.grownBy wr none)) (fun v _ => n - (intOf v).toNat)
  case atStart => exact ⟨0, by omega, rfl, (show lets [] = true from rfl), World.grownBy.refl _ _⟩
  case round =>
    obtain ⟨k, hk, rfl, hl, hw⟩ := hrel
    by_cases hlt : k < n
    · have hks : k < t.size := by omega
      obtain ⟨z, hz⟩ : ∃ c : Int, c = nx t k := ⟨_, rfl⟩
      have hcs : ((t[k]'hks).toNat : Int) = z := by rw [hz, nx_at t k hks]
      have ht : (nums t).take (k + 1) = (nums t).take k ++ [z] := by rw [take_snoc _ _ (by rw [nums_length]; omega), hz]; rfl
      clear hz
      by_cases hle : letter z
      · have hl2 : Hid (lets ((nums t).take (k + 1)) = true) := by
          have h1 : lets ((nums t).take k ++ [z]) = true := by
            have h0 := hl.out
            unfold lets at h0 ⊢
            rw [List.all_append, h0]
            simp [hle]
          rw [ht]
          exact h1
        go_wp2_with (go_at_call 33; refine (isLetter_ok _ _).mono ?_; rintro e w3 ⟨rfl, rfl⟩; simp only [hle, decide_true])
        go_roundw
        case rel => exact ⟨k + 1, by omega, by go_num, hl2, hw⟩
        case measure => simp [intOf]; omega
      · have hl2 : lets (nums t) = false := by
          have h2 : (nums t) = (nums t).take (k + 1) ++ (nums t).drop (k + 1) := (List.take_append_drop _ _).symm
          rw [h2, ht]
          unfold lets
          simp [hle]
        go_wp2_with (go_at_call 33; refine (isLetter_ok _ _).mono ?_; rintro e w3 ⟨rfl, rfl⟩; simp only [hle, decide_false])
        go_ret
        rw [hl2]
        exact ⟨rfl, hw.out⟩
    · obtain rfl : k = n := by omega
      go_wp2
      go_ret
      have := hl.out
      rw [List.take_of_length_le (by rw [nums_length]; omega)] at this
      rw [this]
      exact ⟨rfl, hw.out⟩
end Go.Proofs.Ytohhjohpdfbdoaa
