import Derived.Test.YtoanndhaopgkjaaDoorPart09
import Derived.Test.YtoanndhaopgkjaaDoorPart08
import Derived.Laws.StructEq
import Derived.Laws.Cover2
namespace Go.Proofs.YtoanndhaopgkjaaDoor
open Go.RowKit
set_option linter.unusedVariables false
set_option linter.unusedSimpArgs false
/-- t and zeros behind it, s bytes. -/
def padL (t : List Int) (s : Nat) : List Int := t ++ List.replicate (s - t.length) 0
theorem padL_length {t : List Int} {s : Nat} (h : t.length ≤ s) : (padL t s).length = s := by simp [padL]; omega
theorem padL_at (t : List Int) (s i : Nat) : (padL t s).getD i 0 = t.getD i 0 := by
  unfold padL
  simp only [List.getD_eq_getElem?_getD]
  by_cases h : i < t.length
  · rw [List.getElem?_append_left h]
  · rw [List.getElem?_append_right (by omega), List.getElem?_eq_none (l := t) (by omega), List.getElem?_replicate]
    split <;> rfl
theorem cut_pad {L t : List Int} {a s : Nat} (ht : t.length ≤ s) (hL : a + s ≤ L.length) (h : ∀ i, i < s → L.getD (a + i) 0 = t.getD i 0) : cutL L a s = padL t s := by
  refine ext_at (by rw [cutL_length hL, padL_length ht]) (fun i hi => ?_)
  rw [cutL_length hL] at hi
  rw [cutL_at _ _ _ _ hi, padL_at, h i hi]
theorem holds_pad {t : List Int} {s : Nat} (h : t.length ≤ s) : holdsB (padL t s) t = true := by
  unfold holdsB
  rw [decide_eq_true_eq, padL_length h]
  refine ⟨h, by simp [padL], ?_⟩
  rw [rtz_iff]
  intro i h1 h2
  rw [padL_at, List.getD_eq_getElem?_getD, List.getElem?_eq_none (by omega)]
  rfl
theorem holds_inv {z t : List Int} (h : holdsB z t = true) : t.length ≤ z.length ∧ ∀ i, i < z.length → z.getD i 0 = t.getD i 0 := by
  unfold holdsB at h
  rw [decide_eq_true_eq, rtz_iff] at h
  refine ⟨h.1, fun i hi => ?_⟩
  by_cases c : i < t.length
  · rw [← h.2.1]
    simp [List.getD_eq_getElem?_getD, List.getElem?_take, c]
  · rw [h.2.2 i (by omega) hi, List.getD_eq_getElem?_getD, List.getElem?_eq_none (by omega)]
    rfl
theorem beL_succ (x : Int) (n : Nat) : beL x (n + 1) = beL (x / 256) n ++ [x % 256] := by
  unfold beL
  rw [List.range_succ, List.map_append]
  congr 1
  · apply List.map_congr_left
    intro i hi
    have hi' : i < n := by simpa using hi
    rw [Int.ediv_ediv_of_nonneg (by decide)]
    congr 2
    rw [show n + 1 - 1 - i = (n - 1 - i) + 1 by omega, Int.pow_succ, Int.mul_comm]
  · simp
theorem beN_beL (n : Nat) : ∀ (x : Int), 0 ≤ x → x < 256 ^ n → beN (beL x n) = x := by
  induction n with
  | zero =>
    intro x h0 h1
    have : x = 0 := by simp at h1; omega
    subst this
    rfl
  | succ n ih =>
    intro x h0 h1
    rw [beL_succ, beN_snoc, ih (x / 256) (Int.ediv_nonneg h0 (by decide)) (Int.ediv_lt_of_lt_mul (by decide) (by rw [Int.pow_succ] at h1; exact h1))]
    omega
theorem beL_beN (n : Nat) : ∀ (z : List Int), z.length = n → Byt z → beL (beN z) n = z := by
  induction n with
  | zero =>
    intro z hz _
    have : z = [] := List.eq_nil_of_length_eq_zero hz
    subst this
    rfl
  | succ n ih =>
    intro z hz hb
    have e := take_snocI z n (by omega)
    rw [List.take_of_length_le (by omega)] at e
    have hy := hb.at n
    have hb' : Byt (z.take n) := fun x hx => hb x (List.mem_of_mem_take hx)
    have i1 := ih (z.take n) (by simp; omega) hb'
    have hbe : beN z = beN (z.take n) * 256 + z.getD n 0 := by
      have q := beN_snoc (z.take n) (z.getD n 0)
      rw [← e] at q
      exact q
    rw [beL_succ, hbe, show (beN (z.take n) * 256 + z.getD n 0) / 256 = beN (z.take n) by omega, show (beN (z.take n) * 256 + z.getD n 0) % 256 = z.getD n 0 by omega, i1]
    exact e.symm
theorem fz_pad (t : List Int) (h : ∀ x ∈ t, x ≠ 0) (r : List Int) : fz (t ++ 0 :: r) = t.length := by
  induction t with
  | nil => simp [fz]
  | cons x t ih =>
    show (if x = 0 then 0 else fz (t ++ 0 :: r) + 1) = _
    rw [if_neg (h x (by simp)), ih (fun y hy => h y (by simp [hy]))]
    rfl
theorem plain_ne {s : ByteArray} {n : Int} (h : plainB s n = true) : ∀ x ∈ nums s, x ≠ 0 := by
  unfold plainB at h
  simp only [Bool.and_eq_true, decide_eq_true_eq, Bool.not_eq_true'] at h
  intro x hx e
  subst e
  have := h.2
  rw [List.contains_eq_mem, decide_eq_false_iff_not] at this
  exact this hx
theorem txt_pad {s : ByteArray} {n : Nat} (h : plainB s (n : Int) = true) : txtB (padL (nums s) n) = true ∧ txtS (padL (nums s) n) = s := by
  have hl := plainB_lt h
  have hl' : s.size < n := by omega
  have hn := nums_length s
  have e : padL (nums s) n = nums s ++ 0 :: List.replicate (n - s.size - 1) 0 := by
    unfold padL
    rw [hn, show n - s.size = (n - s.size - 1) + 1 by omega, List.replicate_succ]
    rfl
  have hf : fz (padL (nums s) n) = s.size := by rw [e, fz_pad _ (plain_ne h), hn]
  have hb : txtB (padL (nums s) n) = true := by
    unfold txtB
    rw [decide_eq_true_eq, hf, padL_length (by omega)]
    refine ⟨hl', ?_⟩
    rw [rtz_iff]
    intro i h1 h2
    rw [padL_at, List.getD_eq_getElem?_getD, List.getElem?_eq_none (by omega)]
    rfl
  refine ⟨hb, ?_⟩
  rw [txtS, if_pos hb, hf, e, ← hn, List.take_left]
  exact strB_nums s
theorem txt_inv {z : List Int} (hz : Byt z) (h : txtB z = true) : plainB (txtS z) (z.length : Int) = true ∧ ∀ i, i < z.length → z.getD i 0 = (nums (txtS z)).getD i 0 := by
  have hb := h
  unfold txtB at h
  rw [decide_eq_true_eq, rtz_iff] at h
  have hs : nums (txtS z) = z.take (fz z) := by
    rw [txtS, if_pos hb, nums_strB _ (fun x hx => hz x (List.mem_of_mem_take hx))]
  have hsz : (txtS z).size = fz z := by rw [← nums_length, hs, List.length_take]; omega
  refine ⟨?_, fun i hi => ?_⟩
  · unfold plainB
    rw [hs, hsz, Bool.and_eq_true, decide_eq_true_eq, Bool.not_eq_true', Bool.eq_false_iff]
    refine ⟨by omega, fun hc => ?_⟩
    rw [List.contains_iff_mem] at hc
    obtain ⟨i, hi, e⟩ := List.getElem_of_mem hc
    have hi' : i < fz z := by rw [List.length_take] at hi; omega
    refine fz_ne z i hi' ?_
    rw [getD_at _ _ _ (by omega)]
    rw [List.getElem_take] at e
    exact e
  · rw [hs]
    by_cases c : i < fz z
    · simp [List.getD_eq_getElem?_getD, List.getElem?_take, c]
    · rw [h.2 i (by omega) hi, List.getD_eq_getElem?_getD, List.getElem?_eq_none (by rw [List.length_take]; omega)]
      rfl
theorem fld_apart : ∀ j, j < 13 → ∀ k, k < 13 → j ≠ k → fldA j + fldS j ≤ fldA k ∨ fldA k + fldS k ≤ fldA j := by decide
theorem fld_cover : ∀ p, p < 4096 → ∃ j, j < 13 ∧ fldA j ≤ p ∧ p < fldA j + fldS j := by
  intro p hp
  by_cases c0 : p < 6
  · exact ⟨0, by decide, by show 0 ≤ p; omega, by show p < 0 + 6; omega⟩
  by_cases c1 : p < 8
  · exact ⟨1, by decide, by show 6 ≤ p; omega, by show p < 6 + 2; omega⟩
  by_cases c2 : p < 16
  · exact ⟨2, by decide, by show 8 ≤ p; omega, by show p < 8 + 8; omega⟩
  by_cases c3 : p < 24
  · exact ⟨4, by decide, by show 16 ≤ p; omega, by show p < 16 + 8; omega⟩
  by_cases c4 : p < 72
  · exact ⟨5, by decide, by show 24 ≤ p; omega, by show p < 24 + 48; omega⟩
  by_cases c5 : p < 104
  · exact ⟨6, by decide, by show 72 ≤ p; omega, by show p < 72 + 32; omega⟩
  by_cases c6 : p < 168
  · exact ⟨7, by decide, by show 104 ≤ p; omega, by show p < 104 + 64; omega⟩
  by_cases c7 : p < 208
  · exact ⟨8, by decide, by show 168 ≤ p; omega, by show p < 168 + 40; omega⟩
  by_cases c8 : p < 256
  · exact ⟨9, by decide, by show 208 ≤ p; omega, by show p < 208 + 48; omega⟩
  by_cases c9 : p < 264
  · exact ⟨10, by decide, by show 256 ≤ p; omega, by show p < 256 + 8; omega⟩
  by_cases c10 : p < 448
  · exact ⟨11, by decide, by show 264 ≤ p; omega, by show p < 264 + 184; omega⟩
  by_cases c11 : p < 480
  · exact ⟨3, by decide, by show 448 ≤ p; omega, by show p < 448 + 32; omega⟩
  · exact ⟨12, by decide, by show 480 ≤ p; omega, by show p < 480 + 3616; omega⟩
theorem getD_over (t : List Int) (i : Nat) (h : t.length ≤ i) : t.getD i 0 = 0 := by
  rw [List.getD_eq_getElem?_getD, List.getElem?_eq_none h]
  rfl
theorem lays_at (c : Hc) (hg : Good c) (j : Nat) (hj : j < 13) (i : Nat) (hi : i < fldS j) : ∀ k, k ≤ 13 → (laysL c k).getD (fldA j + i) 0 = if j < k then (toldL (fldN j) c).getD i 0 else 0 := by
  have hh := headB_le hg.head
  intro k
  induction k with
  | zero =>
    intro _
    rw [if_neg (by omega)]
    show (List.replicate _ (0 : Int)).getD _ 0 = 0
    rw [List.getD_eq_getElem?_getD, List.getElem?_replicate]
    split <;> rfl
  | succ k ih =>
    intro hk
    have ih := ih (by omega)
    have ht := told_len c hg k (by omega)
    have hf := fld_fit k (by omega)
    have hl := laysL_length c hg k (by omega)
    show (layL (laysL c k) (fldA k) (toldL (fldN k) c)).getD _ 0 = _
    rw [layL_at (by omega)]
    by_cases e : j = k
    · subst e
      rw [if_neg (by omega)] at ih
      rw [if_pos (show j < j + 1 by omega)]
      by_cases c1 : i < (toldL (fldN j) c).length
      · rw [if_pos (by omega), Nat.add_sub_cancel_left]
      · rw [if_neg (by omega), ih, getD_over _ _ (by omega)]
    · have ha := fld_apart j hj k (by omega) e
      rw [if_neg (by omega), ih]
      by_cases c1 : j < k
      · rw [if_pos c1, if_pos (by omega)]
      · rw [if_neg c1, if_neg (by omega)]
theorem lays_far (c : Hc) (hg : Good c) (p : Nat) (hp : 4096 ≤ p) : ∀ k, k ≤ 13 → (laysL c k).getD p 0 = 0 := by
  intro k
  induction k with
  | zero =>
    intro _
    show (List.replicate _ (0 : Int)).getD _ 0 = 0
    rw [List.getD_eq_getElem?_getD, List.getElem?_replicate]
    split <;> rfl
  | succ k ih =>
    intro hk
    have hh := headB_le hg.head
    have ht := told_len c hg k (by omega)
    have hf := fld_fit k (by omega)
    have hl := laysL_length c hg k (by omega)
    show (layL (laysL c k) (fldA k) (toldL (fldN k) c)).getD _ 0 = _
    rw [layL_at (by omega), if_neg (by omega)]
    exact ih (by omega)
theorem pre_at (c : Hc) (hg : Good c) (j : Nat) (hj : j < 13) (i : Nat) (hi : i < fldS j) : (preL c).getD (fldA j + i) 0 = (toldL (fldN j) c).getD i 0 := by
  have hh := headB_le hg.head
  have hf := fld_fit j hj
  have hl := laysL_length c hg 13 (by omega)
  have ht := plainB_lt hg.text
  unfold preL
  rw [layL_at (by rw [nums_length]; omega), if_neg (by omega), lays_at c hg j hj i hi 13 (by omega), if_pos hj]
theorem pre_text (c : Hc) (hg : Good c) (p : Nat) (hp : 4096 ≤ p) : (preL c).getD p 0 = (nums c.text).getD (p - 4096) 0 := by
  have hh := headB_le hg.head
  have hl := laysL_length c hg 13 (by omega)
  have ht := plainB_lt hg.text
  unfold preL
  rw [layL_at (by rw [nums_length]; omega)]
  by_cases h : p < 4096 + (nums c.text).length
  · rw [if_pos ⟨hp, h⟩]
  · rw [if_neg (by omega), lays_far c hg p hp 13 (by omega), getD_over _ _ (by omega)]
theorem pack_far (c : Hc) (hg : Good c) (p : Nat) (hp : p < 448 ∨ 480 ≤ p) : (packL c).getD p 0 = (preL c).getD p 0 := by
  have hh := headB_le hg.head
  unfold packL
  rw [layL_at (by rw [sumI_length, preL_length c hg]; omega), if_neg (by rw [sumI_length]; omega)]
theorem pack_sum (c : Hc) (hg : Good c) (i : Nat) (hi : i < 32) : (packL c).getD (448 + i) 0 = (sumI (preL c)).getD i 0 := by
  have hh := headB_le hg.head
  unfold packL
  rw [layL_at (by rw [sumI_length, preL_length c hg]; omega), if_pos (by rw [sumI_length]; omega), Nat.add_sub_cancel_left]
theorem sumI_congr {A B : List Int} (hl : A.length = B.length) (h : ∀ p, p < 448 ∨ 512 ≤ p → A.getD p 0 = B.getD p 0) : sumI A = sumI B := by
  unfold sumI
  congr 1
  congr 1
  · congr 1
    refine ext_at (by simp [hl]) (fun j hj => ?_)
    have hj' : j < 448 := by simp at hj; omega
    simp only [List.getD_eq_getElem?_getD, List.getElem?_take, hj', if_true]
    have := h j (.inl hj')
    simpa [List.getD_eq_getElem?_getD] using this
  · refine ext_at (by simp [hl]) (fun j hj => ?_)
    simp only [List.getD_eq_getElem?_getD, List.getElem?_drop]
    have := h (512 + j) (.inr (by omega))
    simpa [List.getD_eq_getElem?_getD] using this
end Go.Proofs.YtoanndhaopgkjaaDoor
namespace Go.Proofs.YtoanndhaopgkjaaDoor
open Go.RowKit
set_option linter.unusedVariables false
set_option linter.unusedSimpArgs false
theorem pad_full {t : List Int} {s : Nat} (h : t.length = s) : padL t s = t := by
  unfold padL
  rw [h, Nat.sub_self]
  simp
theorem pack_cut (c : Hc) (hg : Good c) (j : Nat) (hj : j < 13) (h3 : j ≠ 3) : cutL (packL c) (fldA j) (fldS j) = padL (toldL (fldN j) c) (fldS j) := by
  have hh := headB_le hg.head
  have hf := fld_fit j hj
  refine cut_pad (told_len c hg j hj) (by rw [packL_length c hg]; omega) (fun i hi => ?_)
  have ha : fldA j + fldS j ≤ 448 ∨ 448 + 32 ≤ fldA j := fld_apart j hj 3 (by decide) h3
  rw [pack_far c hg _ (by omega), pre_at c hg j hj i hi]
theorem pack_cut3 (c : Hc) (hg : Good c) : cutL (packL c) 448 32 = sumI (packL c) := by
  have hh := headB_le hg.head
  have e : sumI (packL c) = sumI (preL c) := sumI_congr (by rw [packL_length c hg, preL_length c hg]) (fun p hp => pack_far c hg p (by omega))
  rw [e]
  refine ext_at (by rw [cutL_length (by rw [packL_length c hg]; omega), sumI_length]) (fun i hi => ?_)
  rw [cutL_length (by rw [packL_length c hg]; omega)] at hi
  rw [cutL_at _ _ _ _ hi, pack_sum c hg i hi]
theorem pack_drop (c : Hc) (hg : Good c) : (packL c).drop 4096 = padL (nums c.text) (c.head.toNat - 4096) := by
  have hh := headB_le hg.head
  have ht := plainB_lt hg.text
  refine ext_at (by rw [List.length_drop, packL_length c hg, padL_length (by rw [nums_length]; omega)]) (fun i hi => ?_)
  rw [padL_at, List.getD_eq_getElem?_getD, List.getElem?_drop, ← List.getD_eq_getElem?_getD, pack_far c hg _ (by omega), pre_text c hg _ (by omega), Nat.add_sub_cancel_left]
theorem seqB_le {n : Int} (h : seqB n = true) : 1 ≤ n ∧ n ≤ 4611686018427387904 := by simpa [seqB] using h
theorem rd_fields (L : List Int) (sec : Bool) : rdC L sec 13 = ⟨sec, beN (cutL L 8 8), beN (cutL L 16 8), txtS (cutL L 24 48), txtS (cutL L 208 48), txtS (cutL L 168 40), strB (cutL L 104 64), ⟨#[]⟩⟩ := rfl
theorem rd_start (L : List Int) (sec : Bool) : (rdC L sec 10).start = if sec then beN (cutL L 8 8) else 0 := rfl
theorem told0 (c d : Hc) (h : c.second = d.second) : toldL (fldN 0) c = toldL (fldN 0) d := by
  show magicL c.second = magicL d.second
  rw [h]
theorem told1 (c d : Hc) : toldL (fldN 1) c = toldL (fldN 1) d := rfl
theorem told6 (c d : Hc) : toldL (fldN 6) c = toldL (fldN 6) d := rfl
theorem told11 (c d : Hc) : toldL (fldN 11) c = toldL (fldN 11) d := rfl
theorem told12 (c d : Hc) : toldL (fldN 12) c = toldL (fldN 12) d := rfl
theorem told10 (c d : Hc) (h : c.start = d.start) : toldL (fldN 10) c = toldL (fldN 10) d := by
  show beL c.start 8 = beL d.start 8
  rw [h]
theorem unp_pack (c : Hc) (hg : Good c) : unpE (packL c) c.second = 0 ∧ unpC (packL c) c.second = c := by
  have hh := headB_le hg.head
  have hq := seqB_le hg.seq
  have p64 : (256 : Int) ^ 8 = 18446744073709551616 := by decide
  have x2 : cutL (packL c) 8 8 = beL c.head 8 := (pack_cut c hg 2 (by decide) (by decide)).trans (pad_full (beL_length _ _))
  have x4 : cutL (packL c) 16 8 = beL c.seq 8 := (pack_cut c hg 4 (by decide) (by decide)).trans (pad_full (beL_length _ _))
  have n2 : beN (cutL (packL c) 8 8) = c.head := by rw [x2, beN_beL 8 _ (by omega) (by omega)]
  have n4 : beN (cutL (packL c) 16 8) = c.seq := by rw [x4, beN_beL 8 _ (by omega) (by omega)]
  have x5 : cutL (packL c) 24 48 = padL (nums c.label) 48 := pack_cut c hg 5 (by decide) (by decide)
  have x8 : cutL (packL c) 168 40 = padL (nums c.uuid) 40 := pack_cut c hg 8 (by decide) (by decide)
  have x9 : cutL (packL c) 208 48 = padL (nums c.sub) 48 := pack_cut c hg 9 (by decide) (by decide)
  have t5 := txt_pad (s := c.label) (n := 48) hg.label
  have t8 := txt_pad (s := c.uuid) (n := 40) hg.uuid
  have t9 := txt_pad (s := c.sub) (n := 48) hg.sub
  rw [← x5] at t5
  rw [← x8] at t8
  rw [← x9] at t9
  have x7 : cutL (packL c) 104 64 = nums c.salt := (pack_cut c hg 7 (by decide) (by decide)).trans (pad_full (by show (nums c.salt).length = 64; rw [nums_length]; exact hg.salt))
  have tx : plainB c.text ((c.head.toNat - 4096 : Nat) : Int) = true := by
    rw [show ((c.head.toNat - 4096 : Nat) : Int) = c.head - 4096 by omega]
    exact hg.text
  have td := txt_pad tx
  rw [← pack_drop c hg] at td
  have hlen := packL_length c hg
  have hold : ∀ j, j < 13 → j ≠ 3 → toldL (fldN j) (rdC (packL c) c.second j) = toldL (fldN j) c → holdsB (cutL (packL c) (fldA j) (fldS j)) (toldL (fldN j) (rdC (packL c) c.second j)) = true := fun j hj h3 e => by
    rw [e, pack_cut c hg j hj h3]
    exact holds_pad (told_len c hg j hj)
  have hall : ∀ j, j < 13 → rightB (packL c) c.second j = true := by
    intro j hj
    match j, hj with
    | 0, _ => exact hold 0 (by decide) (by decide) (told0 _ _ rfl)
    | 1, _ => exact hold 1 (by decide) (by decide) (told1 _ _)
    | 2, _ =>
      show (headB (beN (cutL (packL c) 8 8)) && decide (((packL c).length : Int) = beN (cutL (packL c) 8 8))) = true
      rw [n2, hg.head, hlen, Bool.true_and, decide_eq_true_eq]
      omega
    | 3, _ =>
      show decide (cutL (packL c) 448 32 = sumI (packL c)) = true
      rw [decide_eq_true_eq]
      exact pack_cut3 c hg
    | 4, _ =>
      show seqB (beN (cutL (packL c) 16 8)) = true
      rw [n4]
      exact hg.seq
    | 5, _ => exact t5.1
    | 6, _ => exact hold 6 (by decide) (by decide) (told6 _ _)
    | 7, _ => rfl
    | 8, _ => exact t8.1
    | 9, _ => exact t9.1
    | 10, _ =>
      refine hold 10 (by decide) (by decide) (told10 _ _ ?_)
      rw [rd_start, n2]
      rfl
    | 11, _ => exact hold 11 (by decide) (by decide) (told11 _ _)
    | 12, _ => exact hold 12 (by decide) (by decide) (told12 _ _)
  have hE : unpE (packL c) c.second = 0 := by
    rw [unpE, if_neg (by rw [hlen]; omega), badK_none hall]
    show (if txtB ((packL c).drop 4096) = true then (0 : Int) else 86) = 0
    rw [if_pos td.1]
  refine ⟨hE, ?_⟩
  rw [unpC, if_pos hE, rd_fields, n2, n4, t5.2, t8.2, t9.2, td.2, x7, strB_nums]
theorem unp_other (c : Hc) (hg : Good c) : unpE (packL c) (!c.second) = 81 := by
  have hh := headB_le hg.head
  have x0 : cutL (packL c) 0 6 = padL (magicL c.second) 6 := pack_cut c hg 0 (by decide) (by decide)
  have h0 : rightB (packL c) (!c.second) 0 = false := by
    show holdsB (cutL (packL c) 0 6) (magicL (!c.second)) = false
    rw [x0]
    cases c.second <;> decide
  rw [unpE, if_neg (by rw [packL_length c hg]; omega), badK_some (by decide) (fun j hj => by omega) h0]
  rfl
theorem badK_all {L : List Int} {sec : Bool} (h : badK L sec = none) : ∀ j, j < 13 → rightB L sec j = true := by
  unfold badK at h
  rw [List.find?_eq_none] at h
  intro j hj
  have := h j (by simpa using hj)
  simpa using this
theorem unpE_zero {L : List Int} {sec : Bool} (h : unpE L sec = 0) : 4096 ≤ L.length ∧ (∀ j, j < 13 → rightB L sec j = true) ∧ txtB (L.drop 4096) = true := by
  unfold unpE at h
  by_cases h1 : L.length < 4096
  · rw [if_pos h1] at h; cases h
  · rw [if_neg h1] at h
    cases hb : badK L sec with
    | some k =>
      rw [hb] at h
      have hk : k < 13 := by
        have := List.mem_of_find?_eq_some hb
        simpa using this
      exact absurd h (fldE_ne k hk)
    | none =>
      rw [hb] at h
      refine ⟨by omega, badK_all hb, ?_⟩
      by_cases ht : txtB (L.drop 4096) = true
      · exact ht
      · have h' : (if txtB (L.drop 4096) = true then (0 : Int) else 86) = 0 := h
        rw [if_neg ht] at h'
        cases h'
theorem pack_unp (L : List Int) (sec : Bool) (hL : Byt L) (h : unpE L sec = 0) : Good (unpC L sec) ∧ packL (unpC L sec) = L := by
  obtain ⟨hl, hall, htx⟩ := unpE_zero h
  have hd : unpC L sec = { rdC L sec 13 with text := txtS (L.drop 4096) } := by rw [unpC, if_pos h]
  rw [rd_fields] at hd
  have q2 : (headB (beN (cutL L 8 8)) && decide ((L.length : Int) = beN (cutL L 8 8))) = true := hall 2 (by decide)
  rw [Bool.and_eq_true, decide_eq_true_eq] at q2
  have hh := headB_le q2.1
  have hb : ∀ a s, Byt (cutL L a s) := fun a s => hL.cut a s
  have l8 : (cutL L 8 8).length = 8 := cutL_length (by omega)
  have l16 : (cutL L 16 8).length = 8 := cutL_length (by omega)
  have l24 : (cutL L 24 48).length = 48 := cutL_length (by omega)
  have l168 : (cutL L 168 40).length = 40 := cutL_length (by omega)
  have l208 : (cutL L 208 48).length = 48 := cutL_length (by omega)
  have l104 : (cutL L 104 64).length = 64 := cutL_length (by omega)
  have hbd : Byt (L.drop 4096) := fun z hz => hL z (List.mem_of_mem_drop hz)
  have t5 := txt_inv (hb 24 48) (hall 5 (by decide))
  have t8 := txt_inv (hb 168 40) (hall 8 (by decide))
  have t9 := txt_inv (hb 208 48) (hall 9 (by decide))
  have td := txt_inv hbd htx
  rw [l24] at t5
  rw [l168] at t8
  rw [l208] at t9
  rw [List.length_drop] at td
  have hG : Good (unpC L sec) := by
    rw [hd]
    refine ⟨q2.1, hall 4 (by decide), by show (strB _).size = 64; rw [strB_size, l104], t5.1, t8.1, t9.1, ?_⟩
    show plainB (txtS (L.drop 4096)) (beN (cutL L 8 8) - 4096) = true
    rw [← q2.2, show (L.length : Int) - 4096 = ((L.length - 4096 : Nat) : Int) by omega]
    exact td.1
  refine ⟨hG, ?_⟩
  have hhd : (unpC L sec).head = beN (cutL L 8 8) := by rw [hd]
  have hlen : (packL (unpC L sec)).length = L.length := by rw [packL_length _ hG, hhd]; omega
  have hlenp : (preL (unpC L sec)).length = L.length := by rw [preL_length _ hG, hhd]; omega
  have key : ∀ j, j < 13 → j ≠ 3 → ∀ i, i < fldS j → (toldL (fldN j) (unpC L sec)).getD i 0 = L.getD (fldA j + i) 0 := by
    have hold : ∀ j, j < 13 → holdsB (cutL L (fldA j) (fldS j)) (toldL (fldN j) (rdC L sec j)) = true → toldL (fldN j) (rdC L sec j) = toldL (fldN j) (unpC L sec) → ∀ i, i < fldS j → (toldL (fldN j) (unpC L sec)).getD i 0 = L.getD (fldA j + i) 0 := fun j hj hr e i hi => by
      have hf := fld_fit j hj
      have q := (holds_inv hr).2 i (by rw [cutL_length (by omega)]; exact hi)
      rw [cutL_at _ _ _ _ hi, e] at q
      exact q.symm
    intro j hj h3 i hi
    rw [hd] at hold ⊢
    match j, hj with
    | 0, _ => exact hold 0 (by decide) (hall 0 (by decide)) (told0 _ _ rfl) i hi
    | 1, _ => exact hold 1 (by decide) (hall 1 (by decide)) (told1 _ _) i hi
    | 2, _ =>
      show (beL (beN (cutL L 8 8)) 8).getD i 0 = L.getD (8 + i) 0
      rw [beL_beN 8 _ l8 (hb 8 8), cutL_at L 8 8 i hi]
    | 3, _ => exact absurd rfl h3
    | 4, _ =>
      show (beL (beN (cutL L 16 8)) 8).getD i 0 = L.getD (16 + i) 0
      rw [beL_beN 8 _ l16 (hb 16 8), cutL_at L 16 8 i hi]
    | 5, _ =>
      show (nums (txtS (cutL L 24 48))).getD i 0 = L.getD (24 + i) 0
      rw [← t5.2 i hi, cutL_at L 24 48 i hi]
    | 6, _ => exact hold 6 (by decide) (hall 6 (by decide)) (told6 _ _) i hi
    | 7, _ =>
      show (nums (strB (cutL L 104 64))).getD i 0 = L.getD (104 + i) 0
      rw [nums_strB _ (hb 104 64), cutL_at L 104 64 i hi]
    | 8, _ =>
      show (nums (txtS (cutL L 168 40))).getD i 0 = L.getD (168 + i) 0
      rw [← t8.2 i hi, cutL_at L 168 40 i hi]
    | 9, _ =>
      show (nums (txtS (cutL L 208 48))).getD i 0 = L.getD (208 + i) 0
      rw [← t9.2 i hi, cutL_at L 208 48 i hi]
    | 10, _ => exact hold 10 (by decide) (hall 10 (by decide)) (told10 _ _ (rd_start L sec)) i hi
    | 11, _ => exact hold 11 (by decide) (hall 11 (by decide)) (told11 _ _) i hi
    | 12, _ => exact hold 12 (by decide) (hall 12 (by decide)) (told12 _ _) i hi
  have hpre : ∀ p, p < 448 ∨ 480 ≤ p → (preL (unpC L sec)).getD p 0 = L.getD p 0 := by
    intro p hp
    by_cases c1 : p < 4096
    · obtain ⟨j, hj, h1, h2⟩ := fld_cover p c1
      have h3 : j ≠ 3 := by
        rintro rfl
        have h1' : 448 ≤ p := h1
        have h2' : p < 448 + 32 := h2
        omega
      obtain ⟨i, rfl⟩ : ∃ i, p = fldA j + i := ⟨p - fldA j, by omega⟩
      rw [pre_at _ hG j hj i (by omega), key j hj h3 i (by omega)]
    · rw [pre_text _ hG p (by omega)]
      have htext : (unpC L sec).text = txtS (L.drop 4096) := by rw [hd]
      rw [htext]
      by_cases c2 : p < L.length
      · rw [← td.2 (p - 4096) (by omega), List.getD_eq_getElem?_getD, List.getElem?_drop, ← List.getD_eq_getElem?_getD, show 4096 + (p - 4096) = p by omega]
      · rw [getD_over L p (by omega), getD_over]
        have := plainB_lt td.1
        rw [nums_length]
        omega
  have hsum : sumI (preL (unpC L sec)) = sumI L := sumI_congr hlenp (fun p hp => hpre p (by omega))
  have q3 : cutL L 448 32 = sumI L := by
    have : decide (cutL L 448 32 = sumI L) = true := hall 3 (by decide)
    simpa using this
  refine ext_at hlen (fun p hp => ?_)
  by_cases c : p < 448 ∨ 480 ≤ p
  · rw [pack_far _ hG p c, hpre p c]
  · obtain ⟨i, rfl⟩ : ∃ i, p = 448 + i := ⟨p - 448, by omega⟩
    rw [pack_sum _ hG i (by omega), hsum, ← q3, cutL_at _ _ _ _ (by omega)]
end Go.Proofs.YtoanndhaopgkjaaDoor
namespace Go.Proofs.YtoanndhaopgkjaaDoor
open Go.RowKit
set_option linter.unusedVariables false
set_option linter.unusedSimpArgs false
set_option maxRecDepth 100000 in
set_option maxHeartbeats 3200000 in
theorem eqH (c : Hc) (w : World) : (Op.equalIn 10000 24 (.agg c.cells.toArray) (.agg c.cells.toArray)).run Tryd.prog w = .ok true w := by
  have e3 : ∀ x : Int, (Op.equalIn 9999 3 (.int .i64 x) (.int .i64 x)).run Tryd.prog w = .ok true w := fun x => by
    rw [show (9999 : Nat) = 9998 + 1 from rfl, run_equalIn_int w 9998 3 .i64 .i64 x x Tryd.underlying3]
    simp
  have e22 : ∀ x : Int, (Op.equalIn 9999 22 (.int .u64 x) (.int .u64 x)).run Tryd.prog w = .ok true w := fun x => by
    rw [show (9999 : Nat) = 9998 + 1 from rfl, run_equalIn_int w 9998 22 .u64 .u64 x x Tryd.underlying22]
    simp
  have e4 : ∀ x : Bool, (Op.equalIn 9999 4 (.bool x) (.bool x)).run Tryd.prog w = .ok true w := fun x => by
    rw [show (9999 : Nat) = 9998 + 1 from rfl, run_equalIn_bool w 9998 4 x x Tryd.underlying4]
    simp
  have e9 : ∀ x : ByteArray, (Op.equalIn 9999 9 (.string x) (.string x)).run Tryd.prog w = .ok true w := fun x => by
    rw [show (9999 : Nat) = 9998 + 1 from rfl, run_equalIn_string w 9998 9 x x Tryd.underlying9]
    simp
  rw [Hc.cells_eq, show (10000 : Nat) = 9999 + 1 from rfl, Op.equalIn]
  simp only [Sem.run_bind, run_underlying Tryd.underlying24, Result.andThen_ok]
  go_simp
theorem wpList_load_want {P : Program} {ops : Array Oper} {rest : List Oper} {op : Oper} {a : Act} {w : World} {Q : Exit → Act → World → Prop} (hw : Region.wanted op (yielded ops a.tmps) = true) (ty : TypeId) (x : Operand) (ho : op.op = .load ty x)
    (b o : Nat) (hx : a.eval x = .pointer (some ⟨b, o, none⟩)) (cs : List Value) (d : TypeDesc) (hc : w.rangeAt b o cs) (hu : P.underlying ty = some d) (hd : d.isRow = true) (hi : (P.info? ty).map (·.size) = some cs.length)
    (h : wpList P ops Q rest (a.put op.dst (.agg cs.toArray)) w) : wpList P ops Q (op :: rest) a w :=
  wpList_step fun K hK => by
    rw [if_pos hw]
    exact wp_load_mid ty x ho b o hx cs d hc hu hd hi (hK _ _ h)
/-- The copy that the law makes by itself. -/
def oneC : Hc := ⟨false, 16384, 1, ⟨#[]⟩, ⟨#[]⟩, ⟨#[]⟩, strB (List.replicate 64 0), ⟨#[123, 125]⟩⟩
theorem one_good : Good oneC := by
  refine ⟨by decide, by decide, ?_, by decide, by decide, by decide, by decide⟩
  show (strB (List.replicate 64 0)).size = 64
  rw [strB_size]
  rfl
theorem one_at : (packL oneC).getD 4096 0 = 123 ∧ (packL oneC).getD 4098 0 = 0 ∧ (packL oneC).length = 16384 := by
  refine ⟨?_, ?_, ?_⟩
  · rw [pack_far oneC one_good _ (.inr (by decide)), pre_text oneC one_good _ (by decide)]
    decide
  · rw [pack_far oneC one_good _ (.inr (by decide)), pre_text oneC one_good _ (by decide)]
    decide
  · rw [packL_length oneC one_good]
    decide
theorem layL_byt {L s : List Int} (k : Nat) (hL : Byt L) (hs : Byt s) : Byt (layL L k s) := by
  intro z hz
  unfold layL at hz
  rcases List.mem_append.1 hz with hz | hz
  · rcases List.mem_append.1 hz with hz | hz
    · exact hL z (List.mem_of_mem_take hz)
    · exact hs z hz
  · exact hL z (List.mem_of_mem_drop hz)
theorem lays_byt (c : Hc) : ∀ k, Byt (laysL c k)
  | 0 => fun z hz => by
    have := List.eq_of_mem_replicate hz
    omega
  | k + 1 => layL_byt _ (lays_byt c k) (toldL_range c _)
theorem pack_byt (c : Hc) (hg : Good c) : Byt (packL c) := layL_byt _ (layL_byt _ (lays_byt c 13) (nums_byt _)) (sumD_range _)
theorem own_some {w : World} {B n : Nat} {v : Value} {zs : List Int} (h : w.ownsRow B 5 1 v n (cellsU8 zs)) (hl : zs.length = n) (hn : 0 < n) : ∃ g cp, v = .slice (some ⟨g, 0, none⟩) n cp ∧ By w g 0 zs ∧ n ≤ cp := by
  rcases h.2 with ⟨_, e0⟩ | ⟨g, c, cur, rfl, q1, q2, q3, q4, q5, q6⟩
  · omega
  · refine ⟨g, c, rfl, ?_, q3⟩
    obtain ⟨a', c', he, p1, p2, p3, p4⟩ := viewOwns h hl
    rcases p4 with p4 | ⟨b2, o2, ha2, hc2⟩
    · rw [p4] at hl; simp at hl; omega
    · injection he with e1 e2 e3
      rw [ha2] at e1
      injection e1 with e1
      injection e1 with e4 e5
      subst e4 e5
      exact hc2
theorem conv64 (u : World) (g : Nat) (h : Rw u g (List.replicate 64 0)) : (convert 25 9 (.slice (some ⟨g, 0, none⟩) 64 64)).run Tryd.prog u = .ok (.string (strB (List.replicate 64 0))) u := conv_row u g 64 _ h rfl
set_option maxHeartbeats 2000000 in
set_option maxRecDepth 100000 in
theorem back_ok (c : Hc) (raw : Value) (R : List Int) (w : World) (hF : FT w) (hT : Tables w) (hc : Fit c) (hb : Byt R) (hv : View w raw R) :
    Calls Tryd.prog 3 #[c.val, raw] w fun e w' => e = .returned (.bool true) ∧ Below w.heap.size w w' := by
  have HF : Hid (FT w) := hF
  have HT : Hid (Tables w) := hT
  have HV : Hid (View w raw R ∧ Byt R) := ⟨hv, hb⟩
  have hft := hF.lt
  have HP : Hid (∀ k u, Fit k → Below w.heap.size w u → Calls Tryd.prog 6 #[.agg k.cells.toArray] u (PackR k u)) := fun k u hk hu => pack_ok k u (HF.out.below hu hft) (HT.out.below hu HT.out.size) hk
  have HU : Hid (∀ v L s u, Byt L → View u v L → Below w.heap.size w u → Calls Tryd.prog 8 #[v, .bool s] u (UnpR L s u)) := fun v L s u hL hv hu => unpack_ok v L s u (HF.out.below hu hft) (HT.out.below hu HT.out.size) hL hv
  have mk := make64
  clear hF hT hb hv
  rw [Hc.val_eq]
  go_enter Tryd.func3, Tryd.ntmps3
  go_upto_region 4 with fail
  have HA : Hid (Bo ((w.alloc (.cells #[.bool c.second, .int .i64 c.head, .int .u64 c.seq, .string c.label, .string c.sub, .string c.uuid, .string c.salt, .string c.text] 24)).alloc (.cells #[.bool false, .int .i64 16384, .int .u64 1, .string ⟨#[]⟩, .string ⟨#[]⟩, .string ⟨#[]⟩, .string ⟨#[]⟩, .string ⟨#[]⟩] 24)) w.heap.size c ∧ Bo ((w.alloc (.cells #[.bool c.second, .int .i64 c.head, .int .u64 c.seq, .string c.label, .string c.sub, .string c.uuid, .string c.salt, .string c.text] 24)).alloc (.cells #[.bool false, .int .i64 16384, .int .u64 1, .string ⟨#[]⟩, .string ⟨#[]⟩, .string ⟨#[]⟩, .string ⟨#[]⟩, .string ⟨#[]⟩] 24)) (w.heap.size + 1) ⟨false, 16384, 1, ⟨#[]⟩, ⟨#[]⟩, ⟨#[]⟩, ⟨#[]⟩, ⟨#[]⟩⟩ ∧ Below w.heap.size w ((w.alloc (.cells #[.bool c.second, .int .i64 c.head, .int .u64 c.seq, .string c.label, .string c.sub, .string c.uuid, .string c.salt, .string c.text] 24)).alloc (.cells #[.bool false, .int .i64 16384, .int .u64 1, .string ⟨#[]⟩, .string ⟨#[]⟩, .string ⟨#[]⟩, .string ⟨#[]⟩, .string ⟨#[]⟩] 24))) := by
    refine ⟨(Bo.new w c).below (al1 _ _), ?_, (al1 w _).trans ((al1 _ _).mono (by simp))⟩
    have q := Bo.new (w.alloc (.cells #[.bool c.second, .int .i64 c.head, .int .u64 c.seq, .string c.label, .string c.sub, .string c.uuid, .string c.salt, .string c.text] 24)) ⟨false, 16384, 1, ⟨#[]⟩, ⟨#[]⟩, ⟨#[]⟩, ⟨#[]⟩, ⟨#[]⟩⟩
    rw [World.size_alloc] at q
    exact q
  generalize ((w.alloc (.cells #[.bool c.second, .int .i64 c.head, .int .u64 c.seq, .string c.label, .string c.sub, .string c.uuid, .string c.salt, .string c.text] 24)).alloc (.cells #[.bool false, .int .i64 16384, .int .u64 1, .string ⟨#[]⟩, .string ⟨#[]⟩, .string ⟨#[]⟩, .string ⟨#[]⟩, .string ⟨#[]⟩] 24)) = uA at HA ⊢
  have HB : Hid (Rw (uA.alloc (.cells (madeCells #[.int .u8 0] 64) 5)) uA.heap.size (List.replicate 64 0) ∧ Below uA.heap.size uA (uA.alloc (.cells (madeCells #[.int .u8 0] 64) 5))) := ⟨made_rw uA 64, al1 uA _⟩
  have mk1 := mk uA
  generalize (uA.alloc (.cells (madeCells #[.int .u8 0] 64) 5)) = uB at HB mk1
  have HB2 : Hid (Bo uB w.heap.size c ∧ Bo uB (w.heap.size + 1) ⟨false, 16384, 1, ⟨#[]⟩, ⟨#[]⟩, ⟨#[]⟩, ⟨#[]⟩, ⟨#[]⟩⟩ ∧ Below w.heap.size w uB) := ⟨HA.out.1.below HB.out.2, HA.out.2.1.below HB.out.2, HA.out.2.2.trans (HB.out.2.mono HA.out.2.2.size)⟩
  have cv := conv64 uB uA.heap.size HB.out.1
  have f6 : uB.frozen? ⟨w.heap.size + 1, 6, none⟩ = false := HB2.out.2.1.frozen 6
  have c6 : uB.cell? ⟨w.heap.size + 1, 6, none⟩ = some (.string ⟨#[]⟩) := HB2.out.2.1.cell 6 _ rfl
  clear mk
  obtain ⟨z64, HZ⟩ : ∃ z, Hid (z = strB (List.replicate 64 0)) := ⟨_, rfl⟩
  rw [← HZ.out] at cv
  go_upto_region 5 with fail
  have HC : Hid (Bo (uB.setCell ⟨w.heap.size + 1, 6, none⟩ (.string z64)) w.heap.size c ∧ Bo (uB.setCell ⟨w.heap.size + 1, 6, none⟩ (.string z64)) (w.heap.size + 1) ⟨false, 16384, 1, ⟨#[]⟩, ⟨#[]⟩, ⟨#[]⟩, z64, ⟨#[]⟩⟩ ∧ Below w.heap.size w (uB.setCell ⟨w.heap.size + 1, 6, none⟩ (.string z64))) :=
    ⟨HB2.out.1.keep (Below.heap_setCell _ _ _ _ (by show w.heap.size ≠ w.heap.size + 1; omega)), HB2.out.2.1.set 6 _ rfl, HB2.out.2.2.setCell (by show w.heap.size ≤ w.heap.size + 1; omega) _⟩
  generalize (uB.setCell ⟨w.heap.size + 1, 6, none⟩ (.string z64)) = uC at HC ⊢
  clear cv f6 c6 mk1 HB HB2 HA
  have f7 : uC.frozen? ⟨w.heap.size + 1, 7, none⟩ = false := HC.out.2.1.frozen 7
  have c7 : uC.cell? ⟨w.heap.size + 1, 7, none⟩ = some (.string ⟨#[]⟩) := HC.out.2.1.cell 7 _ rfl
  go_upto_region 6 with fail
  have HD : Hid (Bo (uC.setCell ⟨w.heap.size + 1, 7, none⟩ (.string ⟨#[123, 125]⟩)) w.heap.size c ∧ Bo (uC.setCell ⟨w.heap.size + 1, 7, none⟩ (.string ⟨#[123, 125]⟩)) (w.heap.size + 1) oneC ∧ Below w.heap.size w (uC.setCell ⟨w.heap.size + 1, 7, none⟩ (.string ⟨#[123, 125]⟩))) :=
    ⟨HC.out.1.keep (Below.heap_setCell _ _ _ _ (by show w.heap.size ≠ w.heap.size + 1; omega)), HC.out.2.1.set 7 _ (by unfold oneC; rw [← HZ.out]; rfl), HC.out.2.2.setCell (by show w.heap.size ≤ w.heap.size + 1; omega) _⟩
  generalize (uC.setCell ⟨w.heap.size + 1, 7, none⟩ (.string ⟨#[123, 125]⟩)) = uD at HD ⊢
  clear f7 c7 HC
  have HE1 : Hid (packE oneC = 0 ∧ Fit oneC ∧ packB oneC = packL oneC) := by
    have e := (good_iff oneC).2 one_good
    exact ⟨e, ⟨by decide, by decide, by decide, by decide⟩, by rw [packB, if_pos e]⟩
  go_upto_region 7 with (first | (refine wpList_load_mid (by rfl) 24 (.tmp 5) (by rfl) (w.heap.size + 1) 0 (by rfl) oneC.cells _ HD.out.2.1.range Tryd.underlying24 rfl (by kernel_rfl) ?_) | (go_at_call 6; refine (HP.out oneC _ HE1.out.2.1 HD.out.2.2).mono ?_; rintro e1 u1 ⟨v1, rfl, ho1, hb1⟩; have HO : Hid (u1.ownsRow uD.heap.size 5 1 v1 16384 (cellsU8 (packL oneC)) ∧ Below uD.heap.size uD u1) := ⟨by (rw [HE1.out.2.2, one_at.2.2] at ho1; exact ho1), hb1⟩; clear ho1 hb1))
  have HD1 : Hid (Bo u1 w.heap.size c ∧ Below w.heap.size w u1) := ⟨HD.out.1.below HO.out.2, HD.out.2.2.trans (HO.out.2.mono HD.out.2.2.size)⟩
  obtain ⟨g1, cp1, hv1, hby1, hn1⟩ := own_some HO.out.1 one_at.2.2 (by decide)
  subst hv1
  have b1 : u1.cell? ⟨g1, 4096, none⟩ = some (.int .u8 123) := by have q := hby1 4096 (by rw [one_at.2.2]; decide); rw [one_at.1, Nat.zero_add] at q; exact q
  have b2 : u1.cell? ⟨g1, 4098, none⟩ = some (.int .u8 0) := by have q := hby1 4098 (by rw [one_at.2.2]; decide); rw [one_at.2.1, Nat.zero_add] at q; exact q
  rw [HE1.out.1]
  clear hby1 HO HD HE1
  go_upto_region 9 with (go_at_call 7; refine (num_ok _ _).mono ?_; rintro en wn ⟨rfl, hx⟩; obtain rfl := hx)
  go_upto_region 10 with (first | (refine wpList_load_mid (by rfl) 24 (.tmp 2) (by rfl) w.heap.size 0 (by rfl) c.cells _ HD1.out.1.range Tryd.underlying24 rfl (by kernel_rfl) ?_) | (go_at_call 6; refine (HP.out c _ hc HD1.out.2).mono ?_; rintro e2 u2 ⟨v2, rfl, ho2, hb2⟩; have HO2 : Hid (u2.ownsRow u1.heap.size 5 1 v2 (packB c).length (cellsU8 (packB c))) := ho2; have HD2 : Hid (Bo u2 w.heap.size c ∧ Below w.heap.size w u2) := ⟨HD1.out.1.below hb2, HD1.out.2.trans (hb2.mono HD1.out.2.size)⟩; clear ho2 hb2))
  clear b1 b2 HD1
  by_cases hE : packE c = 0
  · have HG : Hid (Good c ∧ packB c = packL c) := ⟨(good_iff c).1 hE, by rw [packB, if_pos hE]⟩
    have HBp : Hid (Byt (packL c)) := by
      exact pack_byt c HG.out.1
    have HVp : Hid (View u2 v2 (packL c)) := by rw [HG.out.2] at HO2; exact viewOwns HO2.out rfl
    have H8a : Hid (Calls Tryd.prog 8 #[v2, .bool c.second] u2 fun e w' => e = .returned (.tuple #[.agg c.cells.toArray, .int .i64 0]) ∧ Below u2.heap.size u2 w') := (HU.out v2 (packL c) c.second u2 HBp.out HVp.out HD2.out.2).mono (by
      rintro e w' ⟨rfl, hb⟩
      rw [(unp_pack c HG.out.1).1, (unp_pack c HG.out.1).2]
      exact ⟨rfl, hb⟩)
    have H8b : Hid (∀ u, View u v2 (packL c) → Below w.heap.size w u → Calls Tryd.prog 8 #[v2, .bool (!c.second)] u fun e w' => e = .returned (.tuple #[.agg zHc.cells.toArray, .int .i64 81]) ∧ Below u.heap.size u w') := fun u hv hu => (HU.out v2 (packL c) (!c.second) u HBp.out hv hu).mono (by
      rintro e w' ⟨rfl, hb⟩
      have e1 := unp_other c HG.out.1
      rw [unpC, e1, if_neg (by decide)]
      exact ⟨rfl, hb⟩)
    rw [hE]
    have k0 : u2.cell? ⟨w.heap.size, 0, none⟩ = some (.bool c.second) := HD2.out.1.cell 0 _ rfl
    have q24 := eqH c
    clear hE
    go_upto_region 12 with (first | (go_at_call 7; refine (num_ok _ _).mono ?_; rintro en wn ⟨rfl, hx⟩; obtain rfl := hx) | (go_at_call 8; refine H8a.out.mono ?_; rintro e3 u3 ⟨rfl, hb3⟩) | (refine wpList_store_bo (by rfl) (.tmp 8) (.tmp 58) (by rfl) zHc c u3.heap.size (by rfl) (by rfl) (Bo.new u3 zHc) ?_; intro u4 hb4 hg4))
    have HD4 : Hid (Bo u4 w.heap.size c ∧ Bo u4 u3.heap.size c ∧ View u4 v2 (packL c) ∧ Below w.heap.size w u4) := by
      have q : Below u2.heap.size u2 u4 := hb3.trans (((al1 u3 _).trans (below_gb hg4 (by simp) (Nat.le_refl _))).mono hb3.size)
      exact ⟨HD2.out.1.below q, hb4, HVp.out.kept (fun k hk => q.block k hk), HD2.out.2.trans (q.mono HD2.out.2.size)⟩
    clear hb3 hb4 hg4 H8a k0
    generalize u3.heap.size = g8 at HD4 ⊢
    have k0 : u4.cell? ⟨w.heap.size, 0, none⟩ = some (.bool c.second) := HD4.out.1.cell 0 _ rfl
    go_upto_region 13 with (first | (go_at_call 8; refine (H8b.out _ HD4.out.2.2.1 HD4.out.2.2.2).mono ?_; rintro e5 u5 ⟨rfl, hb5⟩) | (refine wpList_store_bo (by rfl) (.tmp 10) (.tmp 66) (by rfl) zHc zHc u5.heap.size (by rfl) (by rfl) (Bo.new u5 zHc) ?_; intro u6 hb6 hg6))
    have HD6 : Hid (Bo u6 w.heap.size c ∧ Bo u6 g8 c ∧ Below w.heap.size w u6) := by
      have q : Below u4.heap.size u4 u6 := hb5.trans (((al1 u5 _).trans (below_gb hg6 (by simp) (Nat.le_refl _))).mono hb5.size)
      exact ⟨HD4.out.1.below q, HD4.out.2.1.below q, HD4.out.2.2.2.trans (q.mono HD4.out.2.2.2.size)⟩
    clear hb5 hb6 hg6 H8b k0
    go_upto_region 17 with (first | (go_at_call 7; refine (num_ok _ _).mono ?_; rintro en wn ⟨rfl, hx⟩; obtain rfl := hx) | (refine wpList_load_want (by rfl) 24 (.tmp 8) (by rfl) g8 0 (by rfl) c.cells _ HD6.out.2.1.range Tryd.underlying24 rfl (by kernel_rfl) ?_) | (refine wpList_load_want (by rfl) 24 (.tmp 2) (by rfl) w.heap.size 0 (by rfl) c.cells _ HD6.out.1.range Tryd.underlying24 rfl (by kernel_rfl) ?_))
    have HB6 : Hid (Below w.heap.size w u6) := HD6.out.2.2
    clear q24
    have HV5 : Hid (View u6 raw R) := HV.out.1.kept (fun q hq => HB6.out.block q hq)
    go_upto_region 18 with (first | (go_at_call 8; refine (HU.out raw R false _ HV.out.2 HV5.out HB6.out).mono ?_; rintro e7 u7 ⟨rfl, hb7⟩) | (refine wpList_store_bo (by rfl) (.tmp 12) (.tmp 87) (by rfl) zHc (unpC R false) u7.heap.size (by rfl) (by rfl) (Bo.new u7 zHc) ?_; intro u8 hb8 hg8))
    have HD8 : Hid (Bo u8 u7.heap.size (unpC R false) ∧ View u8 raw R ∧ Below w.heap.size w u8) := by
      have q7 : Below w.heap.size w u7 := HB6.out.trans (hb7.mono HB6.out.size)
      have q8 : Below w.heap.size w u8 := q7.trans (((al1 u7 _).trans (below_gb hg8 (by simp) (Nat.le_refl _))).mono q7.size)
      exact ⟨hb8, HV.out.1.kept (fun q hq => q8.block q hq), q8⟩
    clear hb7 hb8 hg8 HV5
    generalize u7.heap.size = g12 at HD8 ⊢
    by_cases hr : unpE R false = 0
    · have HG : Hid (Good (unpC R false) ∧ packL (unpC R false) = R) := pack_unp R false HV.out.2 hr
      have HFd : Hid (Fit (unpC R false)) := by
        have a1 := headB_le HG.out.1.head
        have a2 := seqB_le HG.out.1.seq
        exact ⟨by omega, by omega, by omega, by omega⟩
      have HEd : Hid (packE (unpC R false) = 0 ∧ packB (unpC R false) = R) := by
        have e := (good_iff _).2 HG.out.1
        exact ⟨e, by rw [packB, if_pos e]; exact HG.out.2⟩
      rw [hr]
      go_upto_region 21 with (first | (go_at_call 7; refine (num_ok _ _).mono ?_; rintro en wn ⟨rfl, hx⟩; obtain rfl := hx) | (refine wpList_load_mid (by rfl) 24 (.tmp 12) (by rfl) g12 0 (by rfl) (unpC R false).cells _ HD8.out.1.range Tryd.underlying24 rfl (by kernel_rfl) ?_) | (go_at_call 6; refine (HP.out (unpC R false) _ HFd.out HD8.out.2.2).mono ?_; rintro e9 u9 ⟨v9, rfl, ho9, hb9⟩; have HO9 : Hid (View u9 v9 R ∧ View u9 raw R ∧ Below w.heap.size w u9) := ⟨by (rw [HEd.out.2] at ho9; exact viewOwns ho9 rfl), HD8.out.2.1.kept (fun q hq => hb9.block q hq), HD8.out.2.2.trans (hb9.mono HD8.out.2.2.size)⟩; clear ho9 hb9))
      rw [HEd.out.1]
      go_wp2_with (first | (go_at_call 7; refine (num_ok _ _).mono ?_; rintro en wn ⟨rfl, hx⟩; obtain rfl := hx) | (go_at_call 9; refine (same_any v9 raw R R _ HO9.out.1 HO9.out.2.1).mono ?_; rintro ez uz ⟨rfl, mz, rfl⟩))
      go_ret
      exact ⟨ret_bool' (by simp), HO9.out.2.2.trans ⟨rfl, rfl, rfl, Nat.le_refl _, fun _ _ => rfl⟩⟩
    · have hE : (unpE R false != 0) = true := by simpa using hr
      have HZz : Hid (unpC R false = zHc) := by show _ = _; rw [unpC, if_neg hr]
      rw [HZz.out] at HD8
      have bl := build24
      have qz := eqH zHc
      have qz2 : ∀ u, (Op.equalIn 10000 24 (.agg zHc.cells.toArray) (.agg #[.bool false, .int .i64 0, .int .u64 0, .string ⟨#[]⟩, .string ⟨#[]⟩, .string ⟨#[]⟩, .string ⟨#[]⟩, .string ⟨#[]⟩])).run Tryd.prog u = .ok true u := fun u => eqH zHc u
      generalize unpE R false = E at hE
      clear hr
      go_wp2_with (first | (go_at_call 7; refine (num_ok _ _).mono ?_; rintro en wn ⟨rfl, hx⟩; obtain rfl := hx) | (refine wpList_load_mid (by rfl) 24 (.tmp 12) (by rfl) g12 0 (by rfl) zHc.cells _ HD8.out.1.range Tryd.underlying24 rfl (by kernel_rfl) ?_))
      go_ret
      exact ⟨rfl, HD8.out.2.2⟩
  · have hEe : (packE c == 0) = false := by simpa using hE
    have HN : Hid (v2 = .slice none 0 0 ∨ ∃ a cp, v2 = .slice a 0 cp) := by
      have hp : packB c = [] := by rw [packB, if_neg hE]
      rw [hp] at HO2
      obtain ⟨a, cp, e, _⟩ := viewOwns HO2.out rfl
      exact .inr ⟨a, cp, e⟩
    obtain ⟨a2, cp2, hv2⟩ : ∃ a cp, v2 = .slice a 0 cp := by
      rcases HN.out with e | e
      · exact ⟨none, 0, e⟩
      · exact e
    subst hv2
    generalize packE c = E2 at hEe
    clear hE HN
    go_upto_region 17 with (go_at_call 7; refine (num_ok _ _).mono ?_; rintro en wn ⟨rfl, hx⟩; obtain rfl := hx)
    have HB6 : Hid (Below w.heap.size w u2) := HD2.out.2
    have HV5 : Hid (View u2 raw R) := HV.out.1.kept (fun q hq => HB6.out.block q hq)
    go_upto_region 18 with (first | (go_at_call 8; refine (HU.out raw R false _ HV.out.2 HV5.out HB6.out).mono ?_; rintro e7 u7 ⟨rfl, hb7⟩) | (refine wpList_store_bo (by rfl) (.tmp 12) (.tmp 87) (by rfl) zHc (unpC R false) u7.heap.size (by rfl) (by rfl) (Bo.new u7 zHc) ?_; intro u8 hb8 hg8))
    have HD8 : Hid (Bo u8 u7.heap.size (unpC R false) ∧ View u8 raw R ∧ Below w.heap.size w u8) := by
      have q7 : Below w.heap.size w u7 := HB6.out.trans (hb7.mono HB6.out.size)
      have q8 : Below w.heap.size w u8 := q7.trans (((al1 u7 _).trans (below_gb hg8 (by simp) (Nat.le_refl _))).mono q7.size)
      exact ⟨hb8, HV.out.1.kept (fun q hq => q8.block q hq), q8⟩
    clear hb7 hb8 hg8 HV5
    generalize u7.heap.size = g12 at HD8 ⊢
    by_cases hr : unpE R false = 0
    · have HG : Hid (Good (unpC R false) ∧ packL (unpC R false) = R) := pack_unp R false HV.out.2 hr
      have HFd : Hid (Fit (unpC R false)) := by
        have a1 := headB_le HG.out.1.head
        have a2 := seqB_le HG.out.1.seq
        exact ⟨by omega, by omega, by omega, by omega⟩
      have HEd : Hid (packE (unpC R false) = 0 ∧ packB (unpC R false) = R) := by
        have e := (good_iff _).2 HG.out.1
        exact ⟨e, by rw [packB, if_pos e]; exact HG.out.2⟩
      rw [hr]
      go_upto_region 21 with (first | (go_at_call 7; refine (num_ok _ _).mono ?_; rintro en wn ⟨rfl, hx⟩; obtain rfl := hx) | (refine wpList_load_mid (by rfl) 24 (.tmp 12) (by rfl) g12 0 (by rfl) (unpC R false).cells _ HD8.out.1.range Tryd.underlying24 rfl (by kernel_rfl) ?_) | (go_at_call 6; refine (HP.out (unpC R false) _ HFd.out HD8.out.2.2).mono ?_; rintro e9 u9 ⟨v9, rfl, ho9, hb9⟩; have HO9 : Hid (View u9 v9 R ∧ View u9 raw R ∧ Below w.heap.size w u9) := ⟨by (rw [HEd.out.2] at ho9; exact viewOwns ho9 rfl), HD8.out.2.1.kept (fun q hq => hb9.block q hq), HD8.out.2.2.trans (hb9.mono HD8.out.2.2.size)⟩; clear ho9 hb9))
      rw [HEd.out.1]
      go_wp2_with (first | (go_at_call 7; refine (num_ok _ _).mono ?_; rintro en wn ⟨rfl, hx⟩; obtain rfl := hx) | (go_at_call 9; refine (same_any v9 raw R R _ HO9.out.1 HO9.out.2.1).mono ?_; rintro ez uz ⟨rfl, mz, rfl⟩))
      go_ret
      exact ⟨ret_bool' (by simp), HO9.out.2.2.trans ⟨rfl, rfl, rfl, Nat.le_refl _, fun _ _ => rfl⟩⟩
    · have hE : (unpE R false != 0) = true := by simpa using hr
      have HZz : Hid (unpC R false = zHc) := by show _ = _; rw [unpC, if_neg hr]
      rw [HZz.out] at HD8
      have bl := build24
      have qz := eqH zHc
      have qz2 : ∀ u, (Op.equalIn 10000 24 (.agg zHc.cells.toArray) (.agg #[.bool false, .int .i64 0, .int .u64 0, .string ⟨#[]⟩, .string ⟨#[]⟩, .string ⟨#[]⟩, .string ⟨#[]⟩, .string ⟨#[]⟩])).run Tryd.prog u = .ok true u := fun u => eqH zHc u
      generalize unpE R false = E at hE
      clear hr
      go_wp2_with (first | (go_at_call 7; refine (num_ok _ _).mono ?_; rintro en wn ⟨rfl, hx⟩; obtain rfl := hx) | (refine wpList_load_mid (by rfl) 24 (.tmp 12) (by rfl) g12 0 (by rfl) zHc.cells _ HD8.out.1.range Tryd.underlying24 rfl (by kernel_rfl) ?_))
      go_ret
      exact ⟨rfl, HD8.out.2.2⟩
end Go.Proofs.YtoanndhaopgkjaaDoor
