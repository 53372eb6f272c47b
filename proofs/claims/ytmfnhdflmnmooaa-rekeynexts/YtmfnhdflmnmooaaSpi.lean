import Derived.Test.YtmfnhdflmnmooaaWhi
import Derived.Deep.AppendLies
namespace Go.Proofs.Ytmfnhdflmnmooaa
open Go.RowKit

theorem grown_refl (w : World) (g : Option Nat) : w.grownBy w g := ⟨rfl, rfl, rfl, Nat.le_refl _, fun _ _ _ => rfl⟩
theorem grown_trans {w w1 w2 : World} {g g' : Option Nat} (h1 : w.grownBy w1 g) (h2 : w1.grownBy w2 g') (hg : ∀ k, k < w.heap.size → some k ≠ g → some k ≠ g') : w.grownBy w2 g :=
  ⟨h2.os.trans h1.os, h2.tape.trans h1.tape, h2.output.trans h1.output, Nat.le_trans h1.size h2.size, fun k hk hne => (h2.block k (Nat.lt_of_lt_of_le hk h1.size) (hg k hk hne)).trans (h1.block k hk hne)⟩

set_option maxHeartbeats 1600000 in
set_option maxRecDepth 100000 in
theorem spoilI_some (B n g cap : Nat) (zs : List Int) (w : World) (hn : n ≤ 8796093022208) (hB : B ≤ w.heap.size)
    (hown : w.ownsRow B 3 1 (.slice (some ⟨g, 0, none⟩) n cap) n (cellsI zs)) :
    Calls Try.prog 34 #[.slice (some ⟨g, 0, none⟩) n cap] w fun e w' => e = .returned (.tuple #[]) ∧ w.grownBy w' (some g) := by
  obtain ⟨i0, hi, hz0, hz1, hz2⟩ := info_parts info3
  go_enter Try.func34, Try.ntmps34
  go_wp2
  go_loopw [2] (fun i wr => ∃ k : Nat, k ≤ n ∧ i = .int .i64 k ∧ (∃ ys : List Int, wr.ownsRow B 3 1 (.slice (some ⟨g, 0, none⟩) n cap) n (cellsI ys)) ∧ Hid (w.grownBy wr (some g))) (fun i _ => n - (intOf i).toNat)
  case atStart => exact ⟨0, by omega, rfl, ⟨zs, hown⟩, grown_refl _ _⟩
  case round =>
    obtain ⟨k, hk, rfl, ⟨ys, hown2⟩, HG⟩ := hrel
    have hyl : ys.length = n := by have := hown2.1; rw [cellsI_length] at this; omega
    clear hown
    by_cases hlt : k < n
    · obtain ⟨y, hy⟩ : ∃ y, ys[k]? = some y := ⟨ys[k], List.getElem?_eq_getElem (by omega)⟩
      have hcell : wr.cell? ⟨g, k, none⟩ = some (.int .i64 y) := by
        rw [hown2.cellAt k (by omega), cellsI, List.getElem?_map, hy]
        rfl
      have hfr : wr.frozen? ⟨g, k, none⟩ = false := hown2.frozenAt k
      have HO : Hid (wr.ownsRow B 3 1 (.slice (some ⟨g, 0, none⟩) n cap) n (cellsI ys)) := hown2
      clear hown2 hy hyl
      go_wp2
      have hst := HO.out.stored k (.int .i64 (bits .xor .i64 y 10855845))
      have HO3 : Hid ((wr.setCell ⟨g, k, none⟩ (.int .i64 (bits .xor .i64 y 10855845))).ownsRow B 3 1 (.slice (some ⟨g, 0, none⟩) n cap) n (cellsI (ys.set k (bits .xor .i64 y 10855845)))) := by
        rw [cellsI, List.map_set]
        exact hst.1
      have HG3 : Hid (w.grownBy (wr.setCell ⟨g, k, none⟩ (.int .i64 (bits .xor .i64 y 10855845))) (some g)) := grown_trans HG.out hst.2 (fun _ _ h => h)
      clear hst HO HG
      go_roundw
      case rel => exact ⟨k + 1, by omega, by go_num, ⟨_, HO3⟩, HG3⟩
      case measure => simp [intOf]; omega
    · obtain rfl : k = n := by omega
      go_wp2_with (first | (at_builtin; go_must (refine wpList_append_lies _ rfl (.tmp 18) (.tmp 19) 59 rfl B 3 i0 (.int .i64 0) 1 8 Try.underlying59 hi hz0 hz1 hz2 rfl (by decide) _ _ _ rfl (hown2.alloc _) ⟨wr.heap.size, 0, none⟩ 1 1 (cellsI [1]) rfl rfl (World.news_of_block (heap_alloc_new wr _)) (cellsI_one _) (by decide) (by unfold maxLen; omega) (by omega) (by have := HG.out.size; simp; omega) (wr.heap.size + 1) (by simp) ?_)))
      intro g1 cp1 w1 own1 hgr1 hat1 hlt1
      have HG1 : Hid (w.grownBy w1 (some g)) := grown_trans (grown_trans HG.out (World.grownBy_alloc wr _ none) (fun _ _ _ => by simp)) hgr1 (fun q _ hq => hq)
      have HA1 : Hid (g1 = g ∨ w.heap.size ≤ g1) := by
        rcases hat1 with h | h
        · left
          simpa [Value.ownBlock] using h.symm
        · right
          have := HG.out.size
          omega
      have HO1 : Hid (w1.ownsRow B 3 1 (.slice (some ⟨g1, 0, none⟩) (k + 1) cp1) (k + 1) (cellsI (ys ++ [1]))) := by
        rw [cellsI_append]
        exact own1
      clear own1 hgr1 hat1 hlt1 hown2 HG hyl hk hlt
      go_wp2
      go_loopw [0, 3] (fun l i wr => ∃ j : Nat, j ≤ 70 ∧ i = .int .i64 j ∧ Hid (w.grownBy wr (some g)) ∧ ∃ g2 c2 ys2, l = .slice (some ⟨g2, 0, none⟩) (k + 1 + j) c2 ∧ wr.ownsRow B 3 1 (.slice (some ⟨g2, 0, none⟩) (k + 1 + j) c2) (k + 1 + j) (cellsI ys2) ∧ Hid (g2 = g ∨ w.heap.size ≤ g2)) (fun _ i _ => 70 - (intOf i).toNat)
      case atStart => exact ⟨0, by omega, rfl, HG1, g1, cp1, _, rfl, HO1, HA1⟩
      case round =>
        obtain ⟨j, hj, rfl, HG2, g2, c2, ys2, rfl, own2, HA2⟩ := hrel
        clear HG1 HA1 HO1
        by_cases hlt : j < 70
        · go_wp2_with (first | (at_builtin; go_must (refine wpList_append_lies _ rfl (.tmp 25) (.tmp 29) 59 rfl B 3 i0 (.int .i64 0) 1 8 Try.underlying59 hi hz0 hz1 hz2 rfl (by decide) _ _ _ rfl (own2.alloc _) ⟨wr.heap.size, 0, none⟩ 1 1 (cellsI [7 * (j : Int) + 3]) rfl rfl (World.news_of_block (heap_alloc_new wr _)) (cellsI_one _) (by decide) (by unfold maxLen; omega) (by omega) (by have := HG2.out.size; simp; omega) (wr.heap.size + 1) (by simp) ?_)))
          intro g3 cp3 w3 own3 hgr3 hat3 hlt3
          have HG3 : Hid (w.grownBy w3 (some g)) := grown_trans (grown_trans HG2.out (World.grownBy_alloc wr _ none) (fun _ _ _ => by simp)) hgr3 (fun q hq hne => by
            intro h
            simp only [Value.ownBlock, Option.some.injEq] at h
            rcases HA2.out with e | e
            · exact hne (by rw [h, e])
            · omega)
          have HA3 : Hid (g3 = g ∨ w.heap.size ≤ g3) := by
            rcases hat3 with h | h
            · simp only [Value.ownBlock, Option.some.injEq] at h
              rw [← h]
              exact HA2
            · right
              have := HG2.out.size
              omega
          have HO3 : Hid (w3.ownsRow B 3 1 (.slice (some ⟨g3, 0, none⟩) (k + 1 + (j + 1)) cp3) (k + 1 + (j + 1)) (cellsI (ys2 ++ [7 * (j : Int) + 3]))) := by
            rw [cellsI_append]
            exact own3
          clear own3 hgr3 hat3 hlt3 own2 HG2 HA2
          go_wp2
          go_roundw
          case rel => exact ⟨j + 1, by omega, by go_num, HG3, g3, cp3, _, rfl, HO3, HA3⟩
          case measure => simp [intOf]; omega
        · obtain rfl : j = 70 := by omega
          have hcell : wr.cell? ⟨g2, k + 70, none⟩ = some (.int .i64 (ys2.getD (k + 70) 0)) := by
            have hl2 : ys2.length = k + 1 + 70 := by have := own2.1; rw [cellsI_length] at this; omega
            rw [own2.cellAt (k + 70) (by omega), cellsI, List.getElem?_map, List.getElem?_eq_getElem (show k + 70 < ys2.length by omega)]
            simp [List.getD, List.getElem?_eq_getElem (show k + 70 < ys2.length by omega)]
          have hfr : wr.frozen? ⟨g2, k + 70, none⟩ = false := own2.frozenAt _
          have HO : Hid (wr.ownsRow B 3 1 (.slice (some ⟨g2, 0, none⟩) (k + 1 + 70) c2) (k + 1 + 70) (cellsI ys2)) := own2
          clear own2 hlt
          go_wp2
          go_end0
          have hst := HO.out.stored (k + 70) (.int .i64 77)
          refine ⟨rfl, grown_trans HG2.out hst.2 (fun q hq hne => ?_)⟩
          intro h
          simp only [Option.some.injEq] at h
          rcases HA2.out with e | e
          · exact hne (by rw [h, e])
          · omega
set_option maxHeartbeats 1600000 in
set_option maxRecDepth 100000 in
theorem spoilI_nil (w : World) :
    Calls Try.prog 34 #[.slice none 0 0] w fun e w' => e = .returned (.tuple #[]) ∧ w.grownBy w' none := by
  obtain ⟨i0, hi, hz0, hz1, hz2⟩ := info_parts info3
  have hown : w.ownsRow w.heap.size 3 1 (.slice none 0 0) 0 (cellsI []) := ⟨rfl, .inl ⟨rfl, rfl⟩⟩
  go_enter Try.func34, Try.ntmps34
  go_wp2
  go_loop [2] (fun i => i = .int .i64 0) (fun _ => 0)
  case atStart => exact rfl
  case round =>
    obtain rfl := hrel
    go_wp2_with (first | (at_builtin; go_must (refine wpList_append_lies _ rfl (.tmp 18) (.tmp 19) 59 rfl w.heap.size 3 i0 (.int .i64 0) 1 8 Try.underlying59 hi hz0 hz1 hz2 rfl (by decide) _ _ _ rfl (hown.alloc _) ⟨w.heap.size, 0, none⟩ 1 1 (cellsI [1]) rfl rfl (World.news_of_block (heap_alloc_new w _)) (cellsI_one _) (by decide) (by unfold maxLen; omega) (by omega) (by simp) (w.heap.size + 1) (by simp) ?_)))
    intro g1 cp1 w1 own1 hgr1 hat1 hlt1
    have HG1 : Hid (w.grownBy w1 none) := grown_trans (World.grownBy_alloc w _ none) hgr1 (fun q _ hq => hq)
    have HA1 : Hid (w.heap.size ≤ g1) := by
      rcases hat1 with h | h
      · simp [Value.ownBlock] at h
      · exact (by omega : w.heap.size ≤ g1)
    have HO1 : Hid (w1.ownsRow w.heap.size 3 1 (.slice (some ⟨g1, 0, none⟩) 1 cp1) 1 (cellsI [1])) := own1
    clear own1 hgr1 hat1 hlt1 hown
    go_wp2
    go_loopw [0, 3] (fun l i wr => ∃ j : Nat, j ≤ 70 ∧ i = .int .i64 j ∧ Hid (w.grownBy wr none) ∧ ∃ g2 c2 ys2, l = .slice (some ⟨g2, 0, none⟩) (1 + j) c2 ∧ wr.ownsRow w.heap.size 3 1 (.slice (some ⟨g2, 0, none⟩) (1 + j) c2) (1 + j) (cellsI ys2) ∧ Hid (w.heap.size ≤ g2)) (fun _ i _ => 70 - (intOf i).toNat)
    case atStart => exact ⟨0, by omega, rfl, HG1, g1, cp1, _, rfl, HO1, HA1⟩
    case round =>
      obtain ⟨j, hj, rfl, HG2, g2, c2, ys2, rfl, own2, HA2⟩ := hrel
      clear HG1 HA1 HO1
      by_cases hlt : j < 70
      · go_wp2_with (first | (at_builtin; go_must (refine wpList_append_lies _ rfl (.tmp 25) (.tmp 29) 59 rfl w.heap.size 3 i0 (.int .i64 0) 1 8 Try.underlying59 hi hz0 hz1 hz2 rfl (by decide) _ _ _ rfl (own2.alloc _) ⟨wr.heap.size, 0, none⟩ 1 1 (cellsI [7 * (j : Int) + 3]) rfl rfl (World.news_of_block (heap_alloc_new wr _)) (cellsI_one _) (by decide) (by unfold maxLen; omega) (by omega) (by have := HG2.out.size; simp; omega) (wr.heap.size + 1) (by simp) ?_)))
        intro g3 cp3 w3 own3 hgr3 hat3 hlt3
        have HG3 : Hid (w.grownBy w3 none) := grown_trans (grown_trans HG2.out (World.grownBy_alloc wr _ none) (fun _ _ _ => by simp)) hgr3 (fun q hq hne => by
          intro h
          simp only [Value.ownBlock, Option.some.injEq] at h
          have := HA2.out
          omega)
        have HA3 : Hid (w.heap.size ≤ g3) := by
          rcases hat3 with h | h
          · simp only [Value.ownBlock, Option.some.injEq] at h
            rw [← h]
            exact HA2
          · have := HG2.out.size
            exact (by omega : w.heap.size ≤ g3)
        have HO3 : Hid (w3.ownsRow w.heap.size 3 1 (.slice (some ⟨g3, 0, none⟩) (1 + (j + 1)) cp3) (1 + (j + 1)) (cellsI (ys2 ++ [7 * (j : Int) + 3]))) := by
          rw [cellsI_append]
          exact own3
        clear own3 hgr3 hat3 hlt3 own2 HG2 HA2
        go_wp2
        go_roundw
        case rel => exact ⟨j + 1, by omega, by go_num, HG3, g3, cp3, _, rfl, HO3, HA3⟩
        case measure => simp [intOf]; omega
      · obtain rfl : j = 70 := by omega
        have hcell : wr.cell? ⟨g2, 70, none⟩ = some (.int .i64 (ys2.getD 70 0)) := by
          have hl2 : ys2.length = 1 + 70 := by have := own2.1; rw [cellsI_length] at this; omega
          rw [own2.cellAt 70 (by omega), cellsI, List.getElem?_map, List.getElem?_eq_getElem (show 70 < ys2.length by omega)]
          simp [List.getD, List.getElem?_eq_getElem (show 70 < ys2.length by omega)]
        have hfr : wr.frozen? ⟨g2, 70, none⟩ = false := own2.frozenAt _
        have HO : Hid (wr.ownsRow w.heap.size 3 1 (.slice (some ⟨g2, 0, none⟩) (1 + 70) c2) (1 + 70) (cellsI ys2)) := own2
        clear own2 hlt
        go_wp2
        go_end0
        have hst := HO.out.stored 70 (.int .i64 77)
        refine ⟨rfl, grown_trans HG2.out hst.2 (fun q hq hne => ?_)⟩
        intro h
        simp only [Option.some.injEq] at h
        have := HA2.out
        omega

/-- cofferbook.SpoilBytes of a row that is owned: nothing else of what was there changes. -/
theorem spoilI_any (B n : Nat) (v : Value) (zs : List Int) (w : World) (hn : n ≤ 8796093022208) (hB : B ≤ w.heap.size) (hown : w.ownsRow B 3 1 v n (cellsI zs)) :
    Calls Try.prog 34 #[v] w fun e w' => e = .returned (.tuple #[]) ∧ w.grownBy w' v.ownBlock := by
  rcases hown.2 with ⟨rfl, rfl⟩ | ⟨g, c, cur, rfl, _⟩
  · exact spoilI_nil w
  · exact spoilI_some B n g c zs w hn hB hown
end Go.Proofs.Ytmfnhdflmnmooaa
