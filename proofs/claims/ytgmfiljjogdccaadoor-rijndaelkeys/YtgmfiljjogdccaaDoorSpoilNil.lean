import Derived.Test.YtgmfiljjogdccaaDoorSpoil
namespace Go.Proofs.YtgmfiljjogdccaaDoor
open Go.RowKit

set_option maxHeartbeats 1600000 in
set_option maxRecDepth 100000 in
theorem spoil_nil (w : World) :
    Calls Tryd.prog 16 #[.slice none 0 0] w fun e w' => e = .returned (.tuple #[]) ∧ w.grownBy w' none := by
  obtain ⟨i0, hi, hz0, hz1, hz2⟩ := info_parts Tryd.info5
  have hown : w.ownsRow w.heap.size 5 1 (.slice none 0 0) 0 (cellsU8 []) := ⟨rfl, .inl ⟨rfl, rfl⟩⟩
  go_enter Tryd.func16, Tryd.ntmps16
  go_wp2
  go_loop [2] (fun i => i = .int .i64 0) (fun _ => 0)
  case atStart => exact rfl
  case round =>
    obtain rfl := hrel
    go_wp2_with (first | (at_builtin; go_must (refine wpList_append_lies _ rfl (.tmp 18) (.tmp 19) 22 rfl w.heap.size 5 i0 (.int .u8 0) 1 1 Tryd.underlying22 hi hz0 hz1 hz2 rfl (by decide) _ _ _ rfl (hown.alloc _) ⟨w.heap.size, 0, none⟩ 1 1 (cellsU8 [1]) rfl rfl (World.news_of_block (heap_alloc_new w _)) (cellsU8_one _) (by decide) (by unfold maxLen; omega) (by omega) (by simp) (w.heap.size + 1) (by simp) ?_)))
    intro g1 cp1 w1 own1 hgr1 hat1 hlt1
    have HG1 : Hid (w.grownBy w1 none) := grown_trans (World.grownBy_alloc w _ none) hgr1 (fun q _ hq => hq)
    have HA1 : Hid (w.heap.size ≤ g1) := by
      rcases hat1 with h | h
      · simp [Value.ownBlock] at h
      · exact (by omega : w.heap.size ≤ g1)
    have HO1 : Hid (w1.ownsRow w.heap.size 5 1 (.slice (some ⟨g1, 0, none⟩) 1 cp1) 1 (cellsU8 [1])) := own1
    clear own1 hgr1 hat1 hlt1 hown
    go_wp2
    go_loopw [0, 3] (fun l i wr => ∃ j : Nat, j ≤ 70 ∧ i = .int .i64 j ∧ Hid (w.grownBy wr none) ∧ ∃ g2 c2 ys2, l = .slice (some ⟨g2, 0, none⟩) (1 + j) c2 ∧ wr.ownsRow w.heap.size 5 1 (.slice (some ⟨g2, 0, none⟩) (1 + j) c2) (1 + j) (cellsU8 ys2) ∧ Hid (w.heap.size ≤ g2)) (fun _ i _ => 70 - (intOf i).toNat)
    case atStart => exact ⟨0, by omega, rfl, HG1, g1, cp1, _, rfl, HO1, HA1⟩
    case round =>
      obtain ⟨j, hj, rfl, HG2, g2, c2, ys2, rfl, own2, HA2⟩ := hrel
      clear HG1 HA1 HO1
      by_cases hlt : j < 70
      · go_wp2_with (first | (at_builtin; go_must (refine wpList_append_lies _ rfl (.tmp 25) (.tmp 30) 22 rfl w.heap.size 5 i0 (.int .u8 0) 1 1 Tryd.underlying22 hi hz0 hz1 hz2 rfl (by decide) _ _ _ rfl (own2.alloc _) ⟨wr.heap.size, 0, none⟩ 1 1 (cellsU8 [IntKind.u8.wrap (7 * (j : Int) + 3)]) rfl rfl (World.news_of_block (heap_alloc_new wr _)) (cellsU8_one _) (by decide) (by unfold maxLen; omega) (by omega) (by have := HG2.out.size; simp; omega) (wr.heap.size + 1) (by simp) ?_)))
        intro g3 cp3 w3 own3 hgr3 hat3 hlt3
        have HG3 : Hid (w.grownBy w3 none) := grown_trans (grown_trans HG2.out (World.grownBy_alloc wr _ none) (fun _ _ _ => by simp)) hgr3 (fun q hq hne => by
          intro h
          simp only [Value.ownBlock, Option.some.injEq] at h
          have := HA2.out
          omega)
        have HA3 : Hid (w.heap.size ≤ g3) := by
          rcases hat3 with h | h
          · simp only [Value.ownBlock, Option.some.injEq] at h
            rw [← h]
            exact HA2
          · have := HG2.out.size
            exact (by omega : w.heap.size ≤ g3)
        have HO3 : Hid (w3.ownsRow w.heap.size 5 1 (.slice (some ⟨g3, 0, none⟩) (1 + (j + 1)) cp3) (1 + (j + 1)) (cellsU8 (ys2 ++ [IntKind.u8.wrap (7 * (j : Int) + 3)]))) := by
          rw [cellsU8_append]
          exact own3
        clear own3 hgr3 hat3 hlt3 own2 HG2 HA2
        go_wp2
        go_roundw
        case rel => exact ⟨j + 1, by omega, by go_num, HG3, g3, cp3, _, rfl, HO3, HA3⟩
        case measure => simp [intOf]; omega
      · obtain rfl : j = 70 := by omega
        have hcell : wr.cell? ⟨g2, 70, none⟩ = some (.int .u8 (ys2.getD 70 0)) := by
          have hl2 : ys2.length = 1 + 70 := by have := own2.1; rw [cellsU8_length] at this; omega
          rw [own2.cellAt 70 (by omega), cellsU8, List.getElem?_map, List.getElem?_eq_getElem (show 70 < ys2.length by omega)]
          simp [List.getD, List.getElem?_eq_getElem (show 70 < ys2.length by omega)]
        have hfr : wr.frozen? ⟨g2, 70, none⟩ = false := own2.frozenAt _
        have HO : Hid (wr.ownsRow w.heap.size 5 1 (.slice (some ⟨g2, 0, none⟩) (1 + 70) c2) (1 + 70) (cellsU8 ys2)) := own2
        clear own2 hlt
        go_wp2
        go_end0
        have hst := HO.out.stored 70 (.int .u8 77)
        refine ⟨rfl, grown_trans HG2.out hst.2 (fun q hq hne => ?_)⟩
        intro h
        simp only [Option.some.injEq] at h
        have := HA2.out
        omega

/-- cofferbook.SpoilBytes of a row that is owned: nothing else of what was there changes. -/
theorem spoil_any (B n : Nat) (v : Value) (zs : List Int) (w : World) (hn : n ≤ 200000) (hB : B ≤ w.heap.size) (hown : w.ownsRow B 5 1 v n (cellsU8 zs)) :
    Calls Tryd.prog 16 #[v] w fun e w' => e = .returned (.tuple #[]) ∧ w.grownBy w' v.ownBlock := by
  rcases hown.2 with ⟨rfl, rfl⟩ | ⟨g, c, cur, rfl, _⟩
  · exact spoil_nil w
  · exact spoil_some B n g c zs w hn hB hown
end Go.Proofs.YtgmfiljjogdccaaDoor
