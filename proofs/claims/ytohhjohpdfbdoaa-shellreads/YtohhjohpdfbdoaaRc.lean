import Derived.Test.YtohhjohpdfbdoaaRb
import Derived.Deep.DrawnRows
import Derived.Laws.BytesString
import Derived.Laws.OwnMore
import Derived.Maps.Range
import Derived.RangeFuncBox
namespace Go.Proofs.Ytohhjohpdfbdoaa
open Go.RowKit
set_option linter.unusedVariables false
set_option linter.unusedSimpArgs false
variable {w w' : World} {g : Nat} {s : ByteArray} {i : Nat}
theorem info5 : (Try.prog.info? 5).map (fun i => (i.zero, i.size, i.bytes)) = some (some (.int .u8 0), 1, 1) := by kernel_rfl
def cellsU8 (zs : List Int) : List Value := zs.map (Value.int .u8)
theorem cellsU8_append (a b : List Int) : cellsU8 (a ++ b) = cellsU8 a ++ cellsU8 b := by simp [cellsU8]
theorem cellsU8_length (a : List Int) : (cellsU8 a).length = a.length := by simp [cellsU8]
theorem cellsU8_one (a : List Int) : ∀ u ∈ cellsU8 a, u.oneCell' = true := by
  intro u hu
  simp only [cellsU8, List.mem_map] at hu
  obtain ⟨z, _, rfl⟩ := hu
  rfl
def QuoQ (w : World) (g : Nat) (s : ByteArray) (i : Nat) (a : Acc) (k : List Int) (e : Ending) (w' : World) : Prop :=
  (∃ v j, e = .returned (.string (strOfNums v)) ∧ i < j ∧ Rd w' g s j ∧ R s i a (.quoted k []) = R s j a (.shut k v) ∧ w.grownBy w' (some g)) ∨
  (∃ p, e = fault p ∧ R s i a (.quoted k []) = .bad p ∧ w.grownBy w' (some g))
/-- Bytes that the call has gathered, as a string. -/
theorem convert_row {B L : Nat} {v : Value} {xs : List Int} (h : w.ownsRow B 5 1 v L (cellsU8 xs)) (hL : L = xs.length) : (convert 37 9 v).run Try.prog w = .ok (.string (strOfNums xs)) w := by
  cases L with
  | zero =>
    obtain rfl : xs = [] := by cases xs with
      | nil => rfl
      | cons => simp at hL
    obtain ⟨_, ⟨rfl, _⟩ | ⟨g', cap, cur, rfl, _⟩⟩ := h
    · exact run_convert_bytes_nil w 37 5 Try.underlying37 Try.underlying5 0 0 9 Try.underlying9
    · exact run_convert_bytes_arg w 37 5 Try.underlying37 Try.underlying5 g' 0 0 cap [] rfl (fun i hi => by omega) 9 Try.underlying9
  | succ L =>
    obtain ⟨g', cap, rfl⟩ := ownsRow_succ h
    refine run_convert_bytes_arg w 37 5 Try.underlying37 Try.underlying5 g' 0 (L + 1) cap xs hL.symm (fun i hi => ?_) 9 Try.underlying9
    have hc := h.cells (g := g') rfl i (.int .u8 (xs.getD i 0)) (by simp only [cellsU8, List.getElem?_map, List.getD]; rw [List.getElem?_eq_getElem (show i < xs.length by omega)]; rfl)
    rw [Addr.add_lit] at hc
    simpa using hc
theorem own_far {B e size L : Nat} {v : Value} {xs : List Value} (h : w.ownsRow B e size v L xs) (hg : g < B) : v.ownBlock = none ∨ v.ownBlock ≠ some g := by
  cases hob : v.ownBlock with
  | none => exact .inl rfl
  | some b => exact .inr (fun e => by cases e; have := (h.lt g hob).1; omega)
/-- The loop's measure. -/
def left (s : ByteArray) (g : Nat) (w : World) : Nat := s.size - (intOf ((w.cell? ⟨g, 1, none⟩).getD undef)).toNat
theorem Rd.left_eq (h : Rd w g s i) : left s g w = s.size - i := by
  unfold left
  rw [h.c1]
  simp [intOf]
set_option maxHeartbeats 4000000 in
set_option maxRecDepth 100000 in
theorem quoted_ok (h : Rd w g s i) (a : Acc) (k : List Int) : Calls Try.prog 36 #[.pointer (some ⟨g, 0, none⟩)] w (QuoQ w g s i a k) := by
  have hle := h.le
  have hmo := h.most
  have hgl := h.lt
  obtain ⟨i0, hi, hz0, hz1, hz2⟩ := info_parts info5
  go_enter Try.func36, Try.ntmps36
  go_wp2
  go_loopw [3] (fun t wr => ∃ j v, i ≤ j ∧ v.length ≤ j - i ∧ Rd wr g s j ∧ Hid (R s i a (.quoted k []) = R s j a (.quoted k v)) ∧ Hid (wr.ownsRow w.heap.size 5 1 t v.length (cellsU8 v)) ∧ Hid (w.grownBy wr (some g))) (fun _ wr => left s g wr)
  case atStart => exact ⟨i, [], by omega, by simp, h, rfl, World.ownsRow_nil _ _ _ _, World.grownBy.refl _ _⟩
  case round =>
    obtain ⟨j, v, hij, hvl, k0, hR, hown, hgr⟩ := hrel
    have hj := k0.le
    have hme := k0.left_eq
    by_cases h1 : nx s j = 34
    · have hf : fine (nx s j) := by rw [h1]; decide
      have hR1 : R s j a (.quoted k v) = R s (j + 1) a (.shut k v) := R_go s j (lt_of_fine hj hf) hf (by rw [h1]; rfl)
      go_wp2_with (go_at_call 26; refine (takes_yes k0 34 h1 (by omega)).mono ?_; rintro e w1 ⟨rfl, k1, g1⟩; have hcv := convert_row (hown.out.kept g1 (own_far hown.out hgl)) rfl)
      go_ret
      exact .inl ⟨v, j + 1, rfl, by omega, k1, hR.out.trans hR1, hgr.out.trans g1⟩
    · by_cases hf : fine (nx s j)
      · have hlt := lt_of_fine hj hf
        by_cases h2 : nx s j = 92
        · have hR1 : R s j a (.quoted k v) = R s (j + 1) a (.stroke k v) := R_go s j hlt hf (by rw [h2]; rfl)
          go_wp2_with (first
            | (go_at_call 26; refine (takes_no k0 34 h1).mono ?_; rintro e w1 ⟨rfl, g1⟩; have k1 := k0.still g1; clear h1)
            | (go_at_call 27; refine (next_ok k1).mono ?_; rintro e w2 ⟨rfl, g2⟩; have k2 := k1.still g2)
            | (go_at_call 28; refine (mayStand_ok _ _).mono ?_; rintro e w3 ⟨rfl, rfl⟩; simp only [hf, decide_true])
            | (go_at_call 26; refine (takes_yes k2 92 h2 (by omega)).mono ?_; rintro e w4 ⟨rfl, k4, g4⟩; have g4' := (((g1.trans g2).but _).trans g4))
            | (go_at_call 38; refine (escaped_ok k4 a k v).mono ?_))
          rintro e w5 (⟨c, j', rfl, hc0, hc1, hjj, k5, hR5, g5⟩ | ⟨p, rfl, hR5, g5⟩)
          · have hown5 := hown.out.kept (g4'.trans g5) (own_far hown.out hgl)
            have hgr5 := hgr.out.trans (g4'.trans g5)
            have hsz := hgr5.size
            have hme5 := k5.le
            go_wp2_with (at_builtin; go_must (refine wpList_append_lies _ rfl (.tmp 15) (.tmp 18) 37 rfl w.heap.size 5 i0 (.int .u8 0) 1 1 Try.underlying37 hi hz0 hz1 hz2 rfl (by decide) _ v.length (cellsU8 v) rfl (hown5.alloc _) ⟨w5.heap.size, 0, none⟩ 1 1 (cellsU8 [c]) rfl rfl (World.news_of_block (heap_alloc_new w5 _)) (cellsU8_one _) (by decide) (by unfold maxLen; omega) (by omega) (by simp; omega) (w5.heap.size + 1) (by simp) ?_))
            intro gg cp w6 hown6 hgrow6 hat6 hglt6
            have hgr6 : Hid (w.grownBy w6 (some g)) := (hgr5.andThen (World.grownBy_alloc w5 _ none) (fun j e => by cases e)).andThen hgrow6 (fun j e => .inl ((hown5.lt j e).1))
            have k6 : Rd w6 g s j' := (k5.still (World.grownBy_alloc w5 _ none)).kept hgrow6 (fun e => by have := (hown5.lt g e.symm).1; omega)
            have HO6 : Hid (w6.ownsRow w.heap.size 5 1 (.slice (some ⟨gg, 0, none⟩) (v.length + 1) cp) (v ++ [c]).length (cellsU8 (v ++ [c]))) := by
              rw [cellsU8_append, List.length_append]
              exact hown6
            clear hown6 hgrow6 hat6 hglt6 hown5
            have hme6 := k6.left_eq
            go_wp2
            go_roundw
            case rel => exact ⟨j', v ++ [c], by omega, by simp; omega, k6, (hR.out.trans hR1).trans hR5, HO6, hgr6⟩
            case measure => omega
          · exact ⟨rfl, .inr ⟨p, rfl, (hR.out.trans hR1).trans hR5, hgr.out.trans (g4'.trans g5)⟩⟩
        · have hR1 : R s j a (.quoted k v) = R s (j + 1) a (.quoted k (v ++ [nx s j])) := R_go s j hlt hf (by simp [step, h1, h2])
          have wr2 : IntKind.i64.wrap ((j : Int) + 1) = (j : Int) + 1 := by rw [IntKind.wrap_i64]; omega
          obtain ⟨c, hc⟩ : ∃ c, nx s j = c := ⟨_, rfl⟩
          have n1 : nx s j ≠ 34 := h1
          have n2 : nx s j ≠ 92 := h2
          rw [hc] at hR1 h1 h2 hf
          go_wp2_with (first
            | (go_at_call 26; refine (takes_no k0 34 n1).mono ?_; rintro e w1 ⟨rfl, g1⟩; have k1 := k0.still g1; clear n1)
            | (go_at_call 28; refine (mayStand_ok _ _).mono ?_; rintro e w3 ⟨rfl, rfl⟩; simp only [hf, decide_true])
            | (go_at_call 26; refine (takes_no k2 92 n2).mono ?_; rintro e w4 ⟨rfl, g4⟩; have k4 := k2.still g4; clear n2)
            | (go_at_call 27; refine (next_ok k4).mono ?_; rintro e w5 ⟨rfl, g5⟩; have k5 := k4.still g5; have g5' := (((g1.trans g2).trans g4).trans g5).but (some g); have hown5 := hown.out.kept g5' (own_far hown.out hgl); have hgr5 := hgr.out.trans g5'; have hsz := hgr5.size; simp only [hc])
            | (go_at_call 27; refine (next_ok k1).mono ?_; rintro e w2 ⟨rfl, g2⟩; have k2 := k1.still g2; simp only [hc])
            | (at_builtin; go_must (refine wpList_append_lies _ rfl (.tmp 20) (.tmp 23) 37 rfl w.heap.size 5 i0 (.int .u8 0) 1 1 Try.underlying37 hi hz0 hz1 hz2 rfl (by decide) _ v.length (cellsU8 v) rfl (hown5.alloc _) ⟨w5.heap.size, 0, none⟩ 1 1 (cellsU8 [c]) rfl rfl (World.news_of_block (heap_alloc_new w5 _)) (cellsU8_one _) (by decide) (by unfold maxLen; omega) (by omega) (by simp; omega) (w5.heap.size + 1) (by simp) ?_)))
          intro gg cp w6 hown6 hgrow6 hat6 hglt6
          have hgr6 : Hid (w.grownBy w6 (some g)) := (hgr5.andThen (World.grownBy_alloc w5 _ none) (fun j e => by cases e)).andThen hgrow6 (fun j e => .inl ((hown5.lt j e).1))
          have k6 : Rd w6 g s j := (k5.still (World.grownBy_alloc w5 _ none)).kept hgrow6 (fun e => by have := (hown5.lt g e.symm).1; omega)
          have HO6 : Hid (w6.ownsRow w.heap.size 5 1 (.slice (some ⟨gg, 0, none⟩) (v.length + 1) cp) (v ++ [c]).length (cellsU8 (v ++ [c]))) := by
            rw [cellsU8_append, List.length_append]
            exact hown6
          clear hown6 hgrow6 hat6 hglt6 hown5
          have c6 := k6.c1
          have f6 := k6.fz
          have k7 := k6.set hlt
          have hme6 := k7.left_eq
          have HO7 : Hid ((w6.setCell ⟨g, 1, none⟩ (.int .i64 ((j : Int) + 1))).ownsRow w.heap.size 5 1 (.slice (some ⟨gg, 0, none⟩) (v.length + 1) cp) (v ++ [c]).length (cellsU8 (v ++ [c]))) := HO6.out.kept (grown_set _ _ _ _) (own_far HO6.out hgl)
          go_wp2
          go_roundw
          case rel => exact ⟨j + 1, v ++ [c], by omega, by simp; omega, k7, hR.out.trans hR1, HO7, hgr6.out.trans (grown_set _ _ _ _)⟩
          case measure => omega
      · have hR1 : R s j a (.quoted k v) = .bad (j + 1) := R_stop s j hj (fun _ hh => absurd hh hf) (fun _ => rfl)
        go_wp2_with (first
          | (go_at_call 26; refine (takes_no k0 34 h1).mono ?_; rintro e w1 ⟨rfl, g1⟩; have k1 := k0.still g1; clear h1)
          | (go_at_call 27; refine (next_ok k1).mono ?_; rintro e w2 ⟨rfl, g2⟩; have k2 := k1.still g2)
          | (go_at_call 28; refine (mayStand_ok _ _).mono ?_; rintro e w3 ⟨rfl, rfl⟩; simp only [hf, decide_false])
          | (go_at_call 29; refine (stop_ok k2).mono ?_; rintro e w4 ⟨rfl, rfl⟩))
        exact ⟨rfl, .inr ⟨_, rfl, hR.out.trans hR1, hgr.out.trans ((g1.trans g2).but _)⟩⟩
end Go.Proofs.Ytohhjohpdfbdoaa
