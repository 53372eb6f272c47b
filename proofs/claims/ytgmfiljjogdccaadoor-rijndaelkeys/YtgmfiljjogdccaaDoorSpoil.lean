import Derived.Test.YtgmfiljjogdccaaDoorWhole
import Derived.Deep.AppendLies
namespace Go.Proofs.YtgmfiljjogdccaaDoor
open Go.RowKit

theorem grown_trans {w w1 w2 : World} {g g' : Option Nat} (h1 : w.grownBy w1 g) (h2 : w1.grownBy w2 g') (hg : ∀ k, k < w.heap.size → some k ≠ g → some k ≠ g') : w.grownBy w2 g :=
  ⟨h2.os.trans h1.os, h2.tape.trans h1.tape, h2.output.trans h1.output, Nat.le_trans h1.size h2.size, fun k hk hne => (h2.block k (Nat.lt_of_lt_of_le hk h1.size) (hg k hk hne)).trans (h1.block k hk hne)⟩
theorem grown_refl (w : World) (g : Option Nat) : w.grownBy w g := ⟨rfl, rfl, rfl, Nat.le_refl _, fun _ _ _ => rfl⟩

set_option maxHeartbeats 1600000 in
set_option maxRecDepth 100000 in
theorem spoil_some (B n g cap : Nat) (zs : List Int) (w : World) (hn : n ≤ 200000) (hB : B ≤ w.heap.size)
    (hown : w.ownsRow B 5 1 (.slice (some ⟨g, 0, none⟩) n cap) n (cellsU8 zs)) :
    Calls Tryd.prog 16 #[.slice (some ⟨g, 0, none⟩) n cap] w fun e w' => e = .returned (.tuple #[]) ∧ w.grownBy w' (some g) := by
  obtain ⟨i0, hi, hz0, hz1, hz2⟩ := info_parts Tryd.info5
  go_enter Tryd.func16, Tryd.ntmps16
  go_wp2
  go_loopw [2] (fun i wr => ∃ k : Nat, k ≤ n ∧ i = .int .i64 k ∧ (∃ ys : List Int, wr.ownsRow B 5 1 (.slice (some ⟨g, 0, none⟩) n cap) n (cellsU8 ys)) ∧ Hid (w.grownBy wr (some g))) (fun i _ => n - (intOf i).toNat)
  case atStart => exact ⟨0, by omega, rfl, ⟨zs, hown⟩, grown_refl _ _⟩
  case round =>
    obtain ⟨k, hk, rfl, ⟨ys, hown2⟩, HG⟩ := hrel
    have hyl : ys.length = n := by have := hown2.1; rw [cellsU8_length] at this; omega
    clear hown
    by_cases hlt : k < n
    · obtain ⟨y, hy⟩ : ∃ y, ys[k]? = some y := ⟨ys[k], List.getElem?_eq_getElem (by omega)⟩
      have hcell : wr.cell? ⟨g, k, none⟩ = some (.int .u8 y) := by
        rw [hown2.cellAt k (by omega), cellsU8, List.getElem?_map, hy]
        rfl
      have hfr : wr.frozen? ⟨g, k, none⟩ = false := hown2.frozenAt k
      have HO : Hid (wr.ownsRow B 5 1 (.slice (some ⟨g, 0, none⟩) n cap) n (cellsU8 ys)) := hown2
      clear hown2 hy hyl
      go_wp2
      have hst := HO.out.stored k (.int .u8 (bits .xor .u8 y 165))
      have HO3 : Hid ((wr.setCell ⟨g, k, none⟩ (.int .u8 (bits .xor .u8 y 165))).ownsRow B 5 1 (.slice (some ⟨g, 0, none⟩) n cap) n (cellsU8 (ys.set k (bits .xor .u8 y 165)))) := by
        rw [cellsU8, List.map_set]
        exact hst.1
      have HG3 : Hid (w.grownBy (wr.setCell ⟨g, k, none⟩ (.int .u8 (bits .xor .u8 y 165))) (some g)) := grown_trans HG.out hst.2 (fun _ _ h => h)
      clear hst HO HG
      go_roundw
      case rel => exact ⟨k + 1, by omega, by go_num, ⟨_, HO3⟩, HG3⟩
      case measure => simp [intOf]; omega
    · obtain rfl : k = n := by omega
      go_wp2_with (first | (at_builtin; go_must (refine wpList_append_lies _ rfl (.tmp 18) (.tmp 19) 22 rfl B 5 i0 (.int .u8 0) 1 1 Tryd.underlying22 hi hz0 hz1 hz2 rfl (by decide) _ _ _ rfl (hown2.alloc _) ⟨wr.heap.size, 0, none⟩ 1 1 (cellsU8 [1]) rfl rfl (World.news_of_block (heap_alloc_new wr _)) (cellsU8_one _) (by decide) (by unfold maxLen; omega) (by omega) (by have := HG.out.size; simp; omega) (wr.heap.size + 1) (by simp) ?_)))
      intro g1 cp1 w1 own1 hgr1 hat1 hlt1
      have HG1 : Hid (w.grownBy w1 (some g)) := grown_trans (grown_trans HG.out (World.grownBy_alloc wr _ none) (fun _ _ _ => by simp)) hgr1 (fun q _ hq => hq)
      have HA1 : Hid (g1 = g ∨ w.heap.size ≤ g1) := by
        rcases hat1 with h | h
        · left
          simpa [Value.ownBlock] using h.symm
        · right
          have := HG.out.size
          omega
      have HO1 : Hid (w1.ownsRow B 5 1 (.slice (some ⟨g1, 0, none⟩) (k + 1) cp1) (k + 1) (cellsU8 (ys ++ [1]))) := by
        rw [cellsU8_append]
        exact own1
      clear own1 hgr1 hat1 hlt1 hown2 HG hyl hk hlt
      go_wp2
      go_loopw [0, 3] (fun l i wr => ∃ j : Nat, j ≤ 70 ∧ i = .int .i64 j ∧ Hid (w.grownBy wr (some g)) ∧ ∃ g2 c2 ys2, l = .slice (some ⟨g2, 0, none⟩) (k + 1 + j) c2 ∧ wr.ownsRow B 5 1 (.slice (some ⟨g2, 0, none⟩) (k + 1 + j) c2) (k + 1 + j) (cellsU8 ys2) ∧ Hid (g2 = g ∨ w.heap.size ≤ g2)) (fun _ i _ => 70 - (intOf i).toNat)
      case atStart => exact ⟨0, by omega, rfl, HG1, g1, cp1, _, rfl, HO1, HA1⟩
      case round =>
        obtain ⟨j, hj, rfl, HG2, g2, c2, ys2, rfl, own2, HA2⟩ := hrel
        clear HG1 HA1 HO1
        by_cases hlt : j < 70
        · go_wp2_with (first | (at_builtin; go_must (refine wpList_append_lies _ rfl (.tmp 25) (.tmp 30) 22 rfl B 5 i0 (.int .u8 0) 1 1 Tryd.underlying22 hi hz0 hz1 hz2 rfl (by decide) _ _ _ rfl (own2.alloc _) ⟨wr.heap.size, 0, none⟩ 1 1 (cellsU8 [IntKind.u8.wrap (7 * (j : Int) + 3)]) rfl rfl (World.news_of_block (heap_alloc_new wr _)) (cellsU8_one _) (by decide) (by unfold maxLen; omega) (by omega) (by have := HG2.out.size; simp; omega) (wr.heap.size + 1) (by simp) ?_)))
          intro g3 cp3 w3 own3 hgr3 hat3 hlt3
          have HG3 : Hid (w.grownBy w3 (some g)) := grown_trans (grown_trans HG2.out (World.grownBy_alloc wr _ none) (fun _ _ _ => by simp)) hgr3 (fun q hq hne => by
            intro h
            simp only [Value.ownBlock, Option.some.injEq] at h
            rcases HA2.out with e | e
            · exact hne (by rw [h, e])
            · omega)
          have HA3 : Hid (g3 = g ∨ w.heap.size ≤ g3) := by
            rcases hat3 with h | h
            · simp only [Value.ownBlock, Option.some.injEq] at h
              rw [← h]
              exact HA2
            · right
              have := HG2.out.size
              omega
          have HO3 : Hid (w3.ownsRow B 5 1 (.slice (some ⟨g3, 0, none⟩) (k + 1 + (j + 1)) cp3) (k + 1 + (j + 1)) (cellsU8 (ys2 ++ [IntKind.u8.wrap (7 * (j : Int) + 3)]))) := by
            rw [cellsU8_append]
            exact own3
          clear own3 hgr3 hat3 hlt3 own2 HG2 HA2
          go_wp2
          go_roundw
          case rel => exact ⟨j + 1, by omega, by go_num, HG3, g3, cp3, _, rfl, HO3, HA3⟩
          case measure => simp [intOf]; omega
        · obtain rfl : j = 70 := by omega
          have hcell : wr.cell? ⟨g2, k + 70, none⟩ = some (.int .u8 (ys2.getD (k + 70) 0)) := by
            have hl2 : ys2.length = k + 1 + 70 := by have := own2.1; rw [cellsU8_length] at this; omega
            rw [own2.cellAt (k + 70) (by omega), cellsU8, List.getElem?_map, List.getElem?_eq_getElem (show k + 70 < ys2.length by omega)]
            simp [List.getD, List.getElem?_eq_getElem (show k + 70 < ys2.length by omega)]
          have hfr : wr.frozen? ⟨g2, k + 70, none⟩ = false := own2.frozenAt _
          have HO : Hid (wr.ownsRow B 5 1 (.slice (some ⟨g2, 0, none⟩) (k + 1 + 70) c2) (k + 1 + 70) (cellsU8 ys2)) := own2
          clear own2 hlt
          go_wp2
          go_end0
          have hst := HO.out.stored (k + 70) (.int .u8 77)
          refine ⟨rfl, grown_trans HG2.out hst.2 (fun q hq hne => ?_)⟩
          intro h
          simp only [Option.some.injEq] at h
          rcases HA2.out with e | e
          · exact hne (by rw [h, e])
          · omega
end Go.Proofs.YtgmfiljjogdccaaDoor
