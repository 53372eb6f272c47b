import Derived.Test.YtohhjohpdfbdoaaQa
namespace Go.Proofs.Ytohhjohpdfbdoaa
open Go.RowKit
attribute [local go_sem ↓] Go.wp_at_zero Go.wp_at_succ
set_option linter.unusedVariables false
set_option linter.unusedSimpArgs false
/-- What stands for a byte. -/
def q1 (z : Int) : List Int := if z = 34 ∨ z = 92 then [92, z] else if z < 32 ∨ 126 < z then [92, 120, hexD (z / 16).toNat, hexD (z % 16).toNat] else [z]
def qB (l : List Int) : List Int := l.flatMap q1
theorem q1_len (z : Int) : (q1 z).length ≤ 4 := by unfold q1; split; simp; split <;> simp
theorem qB_len (l : List Int) : (qB l).length ≤ 4 * l.length := by
  induction l with
  | nil => simp [qB]
  | cons z r ih => have := q1_len z; simp [qB] at ih ⊢; omega
theorem qB_snoc (l : List Int) (z : Int) : qB (l ++ [z]) = qB l ++ q1 z := by simp [qB]
/-- What Quote answers. -/
def quoted (s : ByteArray) : ByteArray := strOfNums (34 :: qB (nums s) ++ [34])
/-- What is written behind k bytes. -/
def qK (s : ByteArray) (k : Nat) : List Int := 34 :: qB ((nums s).take k)
theorem qK_len (s : ByteArray) (k : Nat) (hk : k ≤ s.size) : (qK s k).length ≤ 4 * k + 1 := by
  have := qB_len ((nums s).take k)
  simp [qK]
  have h2 : (List.take k (nums s)).length ≤ k := by simp; omega
  omega
theorem qK_pos (s : ByteArray) (k : Nat) : 0 < (qK s k).length := by simp [qK]
theorem qK_next (s : ByteArray) (k : Nat) (h : k < s.size) (z : Int) (hz : z = nx s k) : qK s (k + 1) = qK s k ++ q1 z := by
  unfold qK
  rw [take_snoc _ _ (by rw [nums_length]; exact h), qB_snoc, hz]
  rfl
theorem qK_end (s : ByteArray) : qK s s.size = 34 :: qB (nums s) := by
  unfold qK
  rw [List.take_of_length_le (by rw [nums_length]; exact Nat.le_refl _)]
theorem strOf_append (a b : List Int) : strOfNums a ++ strOfNums b = strOfNums (a ++ b) := by
  apply ByteArray.ext
  simp [strOfNums]
set_option maxHeartbeats 3200000 in
set_option maxRecDepth 100000 in
theorem quote_ok (s : ByteArray) (n : Nat) (w : World) (hs : Hid (s.size = n)) (hn : n ≤ 1048576) :
    Calls Try.prog 5 #[.string s] w fun e w' => e = .returned (.string (quoted s)) ∧ Below w.heap.size w w' := by
  obtain ⟨i0, hi, hz0, hz1, hz2⟩ := info_parts info5
  have hsz : s.size = n := hs.out
  go_enter Try.func5, Try.ntmps5
  go_wp2
  have hown : (w.alloc (.cells #[.int .u8 34] 5)).ownsRow w.heap.size 5 1 (.slice (some ⟨w.heap.size, 0, none⟩) 1 1) 1 (cellsU8 (qK s 0)) := World.ownsRow_lit w #[.int .u8 34] 1 (Nat.le_refl _) (by decide) rfl
  have HB : Hid (Below w.heap.size w (w.alloc (.cells #[.int .u8 34] 5))) := (Below.refl _ w).alloc (Nat.le_refl _) _
  go_loopw [3, 9] (fun v i wr => ∃ k : Nat, k ≤ n ∧ i = .int .i64 k ∧ wr.ownsRow w.heap.size 5 1 v (qK s k).length (cellsU8 (qK s k)) ∧ Hid (Below w.heap.size w wr)) (fun _ i _ => n - (intOf i).toNat)
  case atStart => exact ⟨0, by omega, rfl, hown, HB⟩
  case round =>
    obtain ⟨k, hk, rfl, hown2, HB2⟩ := hrel
    clear hown HB
    have hle := qK_len s k (by omega)
    have hpos := qK_pos s k
    obtain ⟨L, hL⟩ : ∃ L, L = (qK s k).length := ⟨_, rfl⟩
    rw [← hL] at hle hpos hown2
    have HL : Hid (L = (qK s k).length) := hL
    clear hL
    by_cases hlt : k < n
    · have hks : k < s.size := by omega
      obtain ⟨z, hz⟩ : ∃ c : Int, c = nx s k := ⟨_, rfl⟩
      have hr := nx_range s k
      rw [← hz] at hr
      obtain ⟨hb1, hb2⟩ := hr
      have hcs : ((s[k]'hks).toNat : Int) = z := by rw [hz, nx_at s k hks]
      have HZ : Hid (z = nx s k) := hz
      clear hz
      have ha : bits .and .u8 z 15 = z % 16 := u8_and15 _ hb1 hb2
      have hm1 : z % 16 < 16 := by omega
      have hm0 : 0 ≤ z % 16 := by omega
      by_cases he : z = 34 ∨ z = 92
      · have HE : Hid (z = 34 ∨ z = 92) := he
        have hc1 : (z == 34) = true ∨ ((z == 34) = false ∧ (z == 92) = true) := by simp only [beq_iff_eq, beq_eq_false_iff_ne, ne_eq]; omega
        clear he
        rcases hc1 with h1 | ⟨h1, h2⟩
        all_goals
          go_wp2_with (at_builtin; go_must (refine wpList_append_lies _ rfl (.tmp 26) (.tmp 28) 37 rfl w.heap.size 5 i0 (.int .u8 0) 1 1 Try.underlying37 hi hz0 hz1 hz2 rfl (by decide) _ L (cellsU8 (qK s k)) rfl (hown2.alloc _) ⟨wr.heap.size, 0, none⟩ 2 2 (cellsU8 [92, z]) rfl rfl (World.news_of_block (heap_alloc_new wr _)) (cellsU8_one _) (by decide) (by unfold maxLen; omega) (by omega) (by have := HB2.out.size; simp; omega) (wr.heap.size + 1) (by simp) ?_))
          intro g cp w2 hown3 hgrow2 hat hglt
          have HB3 : Hid (Below w.heap.size w w2) := (HB2.out.alloc HB2.out.size _).grown hgrow2 (by have := HB2.out.size; simp; omega) (fun q hq => (hown2.lt q hq).1)
          have hq1 : q1 z = [92, z] := by unfold q1; rw [if_pos HE.out]
          have hll : (qK s (k + 1)).length = L + 2 := by rw [qK_next s k hks z HZ.out, hq1, HL.out]; simp
          have HO3 : Hid (w2.ownsRow w.heap.size 5 1 (.slice (some ⟨g, 0, none⟩) (L + 2) cp) (qK s (k + 1)).length (cellsU8 (qK s (k + 1)))) := by
            rw [hll, qK_next s k hks z HZ.out, hq1, cellsU8_append]
            exact hown3
          clear hown3 hgrow2 hat hglt hown2 HB2 hll hq1
          go_wp2
          go_roundw
          case rel => exact ⟨k + 1, by omega, by go_num, HO3, HB3⟩
          case measure => simp [intOf]; omega
      · have h1 : (z == 34) = false := by simp only [beq_eq_false_iff_ne, ne_eq]; omega
        have h2 : (z == 92) = false := by simp only [beq_eq_false_iff_ne, ne_eq]; omega
        have HE : Hid (¬ (z = 34 ∨ z = 92)) := he
        clear he
        by_cases hx : z < 32 ∨ 126 < z
        · have HX : Hid (z < 32 ∨ 126 < z) := hx
          have hc1 : decide (z < 32) = true ∨ (decide (z < 32) = false ∧ decide (126 < z) = true) := by simp only [decide_eq_true_eq, decide_eq_false_iff_not]; omega
          clear hx
          rcases hc1 with h3 | ⟨h3, h4⟩
          all_goals
            go_wp2
            (try clear h4); clear h3 h2 h1
            have hD := hexD_at
            go_region_held3 (fun _ => True) (trivial) ((refine step_append_lies _ (by rfl) _ _ _ (by rfl) w.heap.size 5 i0 (.int .u8 0) 1 1 Try.underlying37 hi hz0 hz1 hz2 (by rfl) (by decide) _ L (cellsU8 (qK s k)) (by rfl) (hown2.alloc _).drew ⟨wr.heap.size, 0, none⟩ 4 4 (cellsU8 [92, 120, hexD (z / 16).toNat, hexD (z % 16).toNat]) (by rfl) (by rfl) (World.news_of_block (heap_alloc_new wr _)) (cellsU8_one _) (by decide) (by unfold maxLen; omega) (by omega) (by have := HB2.out.size; simp; omega) (wr.heap.size + 1) (by simp) ?_; intro g cp w2 hown3 hgrow2 hat hglt))
            all_goals
              have HB3 : Hid (Below w.heap.size w w2) := (HB2.out.alloc HB2.out.size _).drew.grown hgrow2 (by have := HB2.out.size; simp; omega) (fun q hq => (hown2.lt q hq).1)
              have hq1 : q1 z = [92, 120, hexD (z / 16).toNat, hexD (z % 16).toNat] := by unfold q1; rw [if_neg HE.out, if_pos HX.out]
              have hll : (qK s (k + 1)).length = L + 4 := by rw [qK_next s k hks z HZ.out, hq1, HL.out]; simp
              have HO3 : Hid (w2.ownsRow w.heap.size 5 1 (.slice (some ⟨g, 0, none⟩) (L + 4) cp) (qK s (k + 1)).length (cellsU8 (qK s (k + 1)))) := by
                rw [hll, qK_next s k hks z HZ.out, hq1, cellsU8_append]
                exact hown3
              clear hown3 hgrow2 hat hglt hown2 HB2 hll hq1
              go_wp2
              go_roundw
              case rel => exact ⟨k + 1, by omega, by go_num, HO3, HB3⟩
              case measure => simp [intOf]; omega
        · have HX : Hid (¬ (z < 32 ∨ 126 < z)) := hx
          have h3 : decide (z < 32) = false := by simp only [decide_eq_false_iff_not]; omega
          have h4 : decide (126 < z) = false := by simp only [decide_eq_false_iff_not]; omega
          clear hx
          go_wp2_with (at_builtin; go_must (refine wpList_append_lies _ rfl (.tmp 15) (.tmp 17) 37 rfl w.heap.size 5 i0 (.int .u8 0) 1 1 Try.underlying37 hi hz0 hz1 hz2 rfl (by decide) _ L (cellsU8 (qK s k)) rfl (hown2.alloc _) ⟨wr.heap.size, 0, none⟩ 1 1 (cellsU8 [z]) rfl rfl (World.news_of_block (heap_alloc_new wr _)) (cellsU8_one _) (by decide) (by unfold maxLen; omega) (by omega) (by have := HB2.out.size; simp; omega) (wr.heap.size + 1) (by simp) ?_))
          intro g cp w2 hown3 hgrow2 hat hglt
          have HB3 : Hid (Below w.heap.size w w2) := (HB2.out.alloc HB2.out.size _).grown hgrow2 (by have := HB2.out.size; simp; omega) (fun q hq => (hown2.lt q hq).1)
          have hq1 : q1 z = [z] := by unfold q1; rw [if_neg HE.out, if_neg HX.out]
          have hll : (qK s (k + 1)).length = L + 1 := by rw [qK_next s k hks z HZ.out, hq1, HL.out]; simp
          have HO3 : Hid (w2.ownsRow w.heap.size 5 1 (.slice (some ⟨g, 0, none⟩) (L + 1) cp) (qK s (k + 1)).length (cellsU8 (qK s (k + 1)))) := by
            rw [hll, qK_next s k hks z HZ.out, hq1, cellsU8_append]
            exact hown3
          clear hown3 hgrow2 hat hglt hown2 HB2 hll hq1
          go_wp2
          go_roundw
          case rel => exact ⟨k + 1, by omega, by go_num, HO3, HB3⟩
          case measure => simp [intOf]; omega
    · obtain rfl : k = n := by omega
      go_wp2_with (at_builtin; go_must (refine wpList_append_lies _ rfl (.tmp 47) (.tmp 48) 37 rfl w.heap.size 5 i0 (.int .u8 0) 1 1 Try.underlying37 hi hz0 hz1 hz2 rfl (by decide) _ L (cellsU8 (qK s k)) rfl (hown2.alloc _) ⟨wr.heap.size, 0, none⟩ 1 1 (cellsU8 [34]) rfl rfl (World.news_of_block (heap_alloc_new wr _)) (cellsU8_one _) (by decide) (by unfold maxLen; omega) (by omega) (by have := HB2.out.size; simp; omega) (wr.heap.size + 1) (by simp) ?_))
      intro g cp w2 hown3 hgrow2 hat hglt
      have HB3 : Hid (Below w.heap.size w w2) := (HB2.out.alloc HB2.out.size _).grown hgrow2 (by have := HB2.out.size; simp; omega) (fun q hq => (hown2.lt q hq).1)
      have hq : qK s k ++ [34] = 34 :: qB (nums s) ++ [34] := by rw [← hsz, qK_end]
      rw [← cellsU8_append, hq] at hown3
      have hlen : L + 1 = (34 :: qB (nums s) ++ [34]).length := by rw [← hq, HL.out]; simp
      have hbk := convert_row hown3 hlen
      clear hown3 hgrow2 hat hglt hown2 HB2 hq hlen
      go_wp2
      go_ret
      exact ⟨rfl, HB3⟩
end Go.Proofs.Ytohhjohpdfbdoaa
