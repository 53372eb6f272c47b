import Derived.Test.YtcpplafgdedklaaProg
import Derived.WalkKit
import Derived.Below
import Derived.OwnWalk
import Derived.Deep.RegionHeld3
import Derived.Deep.AppendLies
import Derived.Deep.DrawnRows
import Derived.Deep.DeepMust
import Derived.Laws.BytesString
import Derived.Laws.BytesArg
import Derived.Laws.BitsLemmas
import Derived.Laws.OwnMore
namespace Go.Proofs.Ytcpplafgdedklaa
open Go.RowKit
attribute [local go_sem ↓] Go.wp_at_zero Go.wp_at_succ
set_option linter.unusedVariables false
theorem info5 : (Try.prog.info? 5).map (fun i => (i.zero, i.size, i.bytes)) = some (some (.int .u8 0), 1, 1) := by kernel_rfl
def cellsU8 (zs : List Int) : List Value := zs.map (Value.int .u8)
theorem cellsU8_append (a b : List Int) : cellsU8 (a ++ b) = cellsU8 a ++ cellsU8 b := by simp [cellsU8]
theorem cellsU8_length (a : List Int) : (cellsU8 a).length = a.length := by simp [cellsU8]
theorem cellsU8_one (a : List Int) : ∀ u ∈ cellsU8 a, u.oneCell' = true := by
  intro u hu
  simp only [cellsU8, List.mem_map] at hu
  obtain ⟨z, _, rfl⟩ := hu
  rfl
def hexD (n : Nat) : Int := if n < 10 then 48 + n else 87 + n
theorem hexD_all : ∀ i : Fin 16, ((((ByteArray.mk #[48, 49, 50, 51, 52, 53, 54, 55, 56, 57, 97, 98, 99, 100, 101, 102])[i.1]'i.2).toNat : Nat) : Int) = hexD i.1 := by decide
theorem hexD_at (i : Nat) (h : i < (ByteArray.mk #[48, 49, 50, 51, 52, 53, 54, 55, 56, 57, 97, 98, 99, 100, 101, 102]).size) :
    ((((ByteArray.mk #[48, 49, 50, 51, 52, 53, 54, 55, 56, 57, 97, 98, 99, 100, 101, 102])[i]'h).toNat : Nat) : Int) = hexD i := hexD_all ⟨i, h⟩
/-- Is a byte written by its number? -/
def qe (z : Int) : Prop := z < 32 ∨ 126 < z ∨ z = 34 ∨ z = 92
instance (z : Int) : Decidable (qe z) := by unfold qe; infer_instance
/-- What stands for a byte. -/
def q1 (z : Int) : List Int := if qe z then [92, 120, hexD (z / 16).toNat, hexD (z % 16).toNat] else [z]
def qB (l : List Int) : List Int := l.flatMap q1
theorem q1_len (z : Int) : (q1 z).length ≤ 4 := by unfold q1; split <;> simp
theorem qB_len (l : List Int) : (qB l).length ≤ 4 * l.length := by
  induction l with
  | nil => simp [qB]
  | cons z r ih => have := q1_len z; simp [qB] at ih ⊢; omega
theorem qB_snoc (l : List Int) (z : Int) : qB (l ++ [z]) = qB l ++ q1 z := by simp [qB]
theorem take_snoc (xs : List Int) (k : Nat) (h : k < xs.length) : xs.take (k + 1) = xs.take k ++ [xs.getD k 0] := by
  rw [List.take_succ_eq_append_getElem h]
  simp [List.getD, List.getElem?_eq_getElem h]
/-- A string's bytes as numbers. -/
def nums (s : ByteArray) : List Int := s.data.toList.map fun b => (b.toNat : Int)
theorem nums_length (s : ByteArray) : (nums s).length = s.size := by
  unfold nums
  rw [List.length_map, Array.length_toList]
  rfl
theorem nums_at (s : ByteArray) (i : Nat) (h : i < s.size) : (nums s).getD i 0 = ((s[i]'h).toNat : Int) := by
  have h' : i < (nums s).length := by rw [nums_length]; exact h
  rw [List.getD_eq_getElem?_getD, List.getElem?_eq_getElem h']
  simp [nums]
  rfl
theorem nums_range (s : ByteArray) (i : Nat) : 0 ≤ (nums s).getD i 0 ∧ (nums s).getD i 0 < 256 := by
  by_cases h : i < s.size
  · rw [nums_at s i h]
    have := (s[i]'h).toNat_lt
    omega
  · rw [List.getD_eq_getElem?_getD, List.getElem?_eq_none (by rw [nums_length]; omega)]
    simp
/-- What Quote answers. -/
def quoted (s : ByteArray) : ByteArray := strOfNums (34 :: qB (nums s) ++ [34])
/-- What is written behind k bytes. -/
def qK (s : ByteArray) (k : Nat) : List Int := 34 :: qB ((nums s).take k)
theorem qK_zero (s : ByteArray) : qK s 0 = [34] := rfl
theorem qK_len (s : ByteArray) (k : Nat) (hk : k ≤ s.size) : (qK s k).length ≤ 4 * k + 1 := by
  have := qB_len ((nums s).take k)
  simp [qK]
  have h2 : (List.take k (nums s)).length ≤ k := by simp; omega
  omega
theorem qK_pos (s : ByteArray) (k : Nat) : 0 < (qK s k).length := by simp [qK]
theorem qK_esc (s : ByteArray) (k : Nat) (h : k < s.size) (z : Int) (hz : z = (nums s).getD k 0) (he : qe z) : qK s (k + 1) = qK s k ++ [92, 120, hexD (z / 16).toNat, hexD (z % 16).toNat] := by
  unfold qK
  rw [take_snoc _ _ (by rw [nums_length]; exact h), qB_snoc, ← hz, q1, if_pos he]
  rfl
theorem qK_one (s : ByteArray) (k : Nat) (h : k < s.size) (z : Int) (hz : z = (nums s).getD k 0) (he : ¬ qe z) : qK s (k + 1) = qK s k ++ [z] := by
  unfold qK
  rw [take_snoc _ _ (by rw [nums_length]; exact h), qB_snoc, ← hz, q1, if_neg he]
  rfl
theorem qK_end (s : ByteArray) : qK s s.size = 34 :: qB (nums s) := by
  unfold qK
  rw [List.take_of_length_le (by rw [nums_length]; exact Nat.le_refl _)]
theorem qe_cases (z : Int) (h : qe z) : decide (z < 32) = true ∨ (decide (z < 32) = false ∧ decide (126 < z) = true) ∨ (decide (z < 32) = false ∧ decide (126 < z) = false ∧ (z == 34) = true) ∨ (decide (z < 32) = false ∧ decide (126 < z) = false ∧ (z == 34) = false ∧ (z == 92) = true) := by
  unfold qe at h
  simp only [decide_eq_true_eq, decide_eq_false_iff_not, beq_iff_eq, beq_eq_false_iff_ne, ne_eq]
  omega

set_option maxHeartbeats 3200000 in
set_option maxRecDepth 100000 in
theorem quote_ok (s : ByteArray) (n : Nat) (w : World) (hs : Hid (s.size = n)) (hn : n ≤ 1048576) :
    Calls Try.prog 5 #[.string s] w fun e w' => e = .returned (.string (quoted s)) ∧ Below w.heap.size w w' := by
  obtain ⟨i0, hi, hz0, hz1, hz2⟩ := info_parts info5
  have hsz : s.size = n := hs.out
  go_enter Try.func5, Try.ntmps5
  go_wp2
  have hown : (w.alloc (.cells #[.int .u8 34] 5)).ownsRow w.heap.size 5 1 (.slice (some ⟨w.heap.size, 0, none⟩) 1 1) 1 (cellsU8 (qK s 0)) := World.ownsRow_lit w #[.int .u8 34] 1 (Nat.le_refl _) (by decide) rfl
  have HB : Hid (Below w.heap.size w (w.alloc (.cells #[.int .u8 34] 5))) := (Below.refl _ w).alloc (Nat.le_refl _) _
  go_loopw [3, 9] (fun v i wr => ∃ k : Nat, k ≤ n ∧ i = .int .i64 k ∧ wr.ownsRow w.heap.size 5 1 v (qK s k).length (cellsU8 (qK s k)) ∧ Hid (Below w.heap.size w wr)) (fun _ i _ => n - (intOf i).toNat)
  case atStart => exact ⟨0, by omega, rfl, hown, HB⟩
  case round =>
    obtain ⟨k, hk, rfl, hown2, HB2⟩ := hrel
    clear hown HB
    have hle := qK_len s k (by omega)
    have hpos := qK_pos s k
    obtain ⟨L, hL⟩ : ∃ L, L = (qK s k).length := ⟨_, rfl⟩
    rw [← hL] at hle hpos hown2
    have HL : Hid (L = (qK s k).length) := hL
    clear hL
    by_cases hlt : k < n
    · have hks : k < s.size := by omega
      obtain ⟨z, hz⟩ : ∃ c : Int, c = (nums s).getD k 0 := ⟨_, rfl⟩
      have hr := nums_range s k
      rw [← hz] at hr
      obtain ⟨hb1, hb2⟩ := hr
      have hcs : ((s[k]'hks).toNat : Int) = z := by rw [hz, nums_at s k hks]
      have HZ : Hid (z = (nums s).getD k 0) := hz
      clear hz
      have ha : bits .and .u8 z 15 = z % 16 := u8_and15 _ hb1 hb2
      have hm1 : z % 16 < 16 := by omega
      have hm0 : 0 ≤ z % 16 := by omega
      by_cases he : qe z
      · have HE : Hid (qe z) := he
        rcases qe_cases z he with h1 | ⟨h1, h2⟩ | ⟨h1, h2, h3⟩ | ⟨h1, h2, h3, h4⟩
        all_goals
          clear he
          go_wp2
          (try clear h4); (try clear h3); (try clear h2); clear h1
          have hD := hexD_at
          go_region_held3 (fun _ => True) (trivial) ((refine step_append_lies _ (by rfl) _ _ _ (by rfl) w.heap.size 5 i0 (.int .u8 0) 1 1 Try.underlying46 hi hz0 hz1 hz2 (by rfl) (by decide) _ L (cellsU8 (qK s k)) (by rfl) (hown2.alloc _).drew ⟨wr.heap.size, 0, none⟩ 4 4 (cellsU8 [92, 120, hexD (z / 16).toNat, hexD (z % 16).toNat]) (by rfl) (by rfl) (World.news_of_block (heap_alloc_new wr _)) (cellsU8_one _) (by decide) (by unfold maxLen; omega) (by omega) (by have := HB2.out.size; simp; omega) (wr.heap.size + 1) (by simp) ?_; intro g cp w2 hown3 hgrow2 hat hglt))
          all_goals
            have HB3 : Hid (Below w.heap.size w w2) := (HB2.out.alloc HB2.out.size _).drew.grown hgrow2 (by have := HB2.out.size; simp; omega) (fun q hq => (hown2.lt q hq).1)
            have hll : (qK s (k + 1)).length = L + 4 := by rw [qK_esc s k hks z HZ.out HE.out, HL.out]; simp
            have HO3 : Hid (w2.ownsRow w.heap.size 5 1 (.slice (some ⟨g, 0, none⟩) (L + 4) cp) (qK s (k + 1)).length (cellsU8 (qK s (k + 1)))) := by
              rw [hll, qK_esc s k hks z HZ.out HE.out, cellsU8_append]
              exact hown3
            clear hown3 hgrow2 hat hglt hown2 HB2 hll
            go_wp2
            go_roundw
            case rel => exact ⟨k + 1, by omega, by go_num, HO3, HB3⟩
            case measure => simp [intOf]; omega
      · have HE : Hid (¬ qe z) := he
        have he1 : 32 ≤ z ∧ z ≤ 126 ∧ z ≠ 34 ∧ z ≠ 92 := by unfold qe at he; omega
        clear he
        go_wp2_with (first
          | (at_builtin; go_must (refine wpList_append_lies _ rfl (.tmp 38) (.tmp 40) 46 rfl w.heap.size 5 i0 (.int .u8 0) 1 1 Try.underlying46 hi hz0 hz1 hz2 rfl (by decide) _ L (cellsU8 (qK s k)) rfl (hown2.alloc _) ⟨wr.heap.size, 0, none⟩ 1 1 (cellsU8 [z]) rfl rfl (World.news_of_block (heap_alloc_new wr _)) (cellsU8_one _) (by decide) (by unfold maxLen; omega) (by omega) (by have := HB2.out.size; simp; omega) (wr.heap.size + 1) (by simp) ?_)))
        all_goals try (exfalso; simp only [beq_iff_eq] at *; omega)
        intro g cp w2 hown3 hgrow2 hat hglt
        have HB3 : Hid (Below w.heap.size w w2) := (HB2.out.alloc HB2.out.size _).grown hgrow2 (by have := HB2.out.size; simp; omega) (fun q hq => (hown2.lt q hq).1)
        have hll : (qK s (k + 1)).length = L + 1 := by rw [qK_one s k hks z HZ.out HE.out, HL.out]; simp
        have HO3 : Hid (w2.ownsRow w.heap.size 5 1 (.slice (some ⟨g, 0, none⟩) (L + 1) cp) (qK s (k + 1)).length (cellsU8 (qK s (k + 1)))) := by
          rw [hll, qK_one s k hks z HZ.out HE.out, cellsU8_append]
          exact hown3
        clear hown3 hgrow2 hat hglt hown2 HB2 hll
        go_wp2
        go_roundw
        case rel => exact ⟨k + 1, by omega, by go_num, HO3, HB3⟩
        case measure => simp [intOf]; omega
    · obtain rfl : k = n := by omega
      go_wp2_with (first
        | (at_builtin; go_must (refine wpList_append_lies _ rfl (.tmp 43) (.tmp 44) 46 rfl w.heap.size 5 i0 (.int .u8 0) 1 1 Try.underlying46 hi hz0 hz1 hz2 rfl (by decide) _ L (cellsU8 (qK s k)) rfl (hown2.alloc _) ⟨wr.heap.size, 0, none⟩ 1 1 (cellsU8 [34]) rfl rfl (World.news_of_block (heap_alloc_new wr _)) (cellsU8_one _) (by decide) (by unfold maxLen; omega) (by omega) (by have := HB2.out.size; simp; omega) (wr.heap.size + 1) (by simp) ?_)))
      intro g cp w2 hown3 hgrow2 hat hglt
      have HB3 : Hid (Below w.heap.size w w2) := (HB2.out.alloc HB2.out.size _).grown hgrow2 (by have := HB2.out.size; simp; omega) (fun q hq => (hown2.lt q hq).1)
      have hq : qK s k ++ [34] = 34 :: qB (nums s) ++ [34] := by rw [← hsz, qK_end]
      rw [← cellsU8_append, hq] at hown3
      have hlen : (34 :: qB (nums s) ++ [34]).length = L + 1 := by rw [← hq, HL.out]; simp
      have hbk : (convert 46 9 (.slice (some ⟨g, 0, none⟩) (L + 1) cp)).run Try.prog w2 = .ok (.string (quoted s)) w2 := by
        refine run_convert_bytes_arg w2 46 5 Try.underlying46 Try.underlying5 g 0 (L + 1) cp (34 :: qB (nums s) ++ [34]) hlen (fun i hi => ?_) 9 Try.underlying9
        have hc := hown3.cells (g := g) rfl i (.int .u8 ((34 :: qB (nums s) ++ [34]).getD i 0)) (by simp only [cellsU8, List.getElem?_map, List.getD]; rw [List.getElem?_eq_getElem (show i < (34 :: qB (nums s) ++ [34]).length by omega)]; rfl)
        rw [Addr.add_lit] at hc
        simpa using hc
      clear hown3 hgrow2 hat hglt hown2 HB2 hq hlen
      go_wp2
      go_ret
      exact ⟨rfl, HB3⟩
end Go.Proofs.Ytcpplafgdedklaa
