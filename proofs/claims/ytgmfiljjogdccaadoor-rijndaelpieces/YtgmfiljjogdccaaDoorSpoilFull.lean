import Derived.Test.YtgmfiljjogdccaaDoorSpoilNil
import Derived.Test.YtgmfiljjogdccaaDoorPart01
import Derived.Test.YtgmfiljjogdccaaDoorPart06
import Derived.ArgAppend
namespace Go.Proofs.YtgmfiljjogdccaaDoor
open Go.RowKit
set_option linter.unusedVariables false
theorem ownsRow_base {w : World} {b b' e size n : Nat} {v : Value} {xs : List Value} (h : w.ownsRow b e size v n xs) (hb : b' ≤ b) : w.ownsRow b' e size v n xs := by
  obtain ⟨h1, h2 | ⟨g, c, cur, q1, q2, q3⟩⟩ := h
  · exact ⟨h1, Or.inl h2⟩
  · exact ⟨h1, Or.inr ⟨g, c, cur, q1, Nat.le_trans hb q2, q3⟩⟩
theorem Touch.grown {w w' : World} {g o n : Nat} (h : Touch w w' g o n) : w.grownBy w' (some g) := ⟨h.os, h.tape, h.output, h.size, fun k hk hne => h.block k hk (fun e => hne (by rw [e]))⟩
set_option maxHeartbeats 1600000 in
set_option maxRecDepth 100000 in
/-- A list without spare room. -/
theorem spoil_full (n g : Nat) (ys : Nat → Int) (w : World) (hn : n ≤ 200000) (hg : g < w.heap.size) (hc : ∀ j, j < n → w.cell? ⟨g, j, none⟩ = some (.int .u8 (ys j))) (hr : w.there g 0 n) :
    Calls Tryd.prog 16 #[.slice (some ⟨g, 0, none⟩) n n] w fun e w' => e = .returned (.tuple #[]) ∧ w.grownBy w' (some g) := by
  obtain ⟨i0, hi, hz0, hz1, hz2⟩ := info_parts Tryd.info5
  have HR : Hid (w.there g 0 n) := hr
  have HC : Hid (∀ j, j < n → w.cell? ⟨g, j, none⟩ = some (.int .u8 (ys j))) := hc
  clear hr hc
  go_enter Tryd.func16, Tryd.ntmps16
  go_wp2
  go_loopw [2] (fun i wr => ∃ k : Nat, k ≤ n ∧ i = .int .i64 k ∧ Hid (Touch w wr g 0 n ∧ ∃ zs : Nat → Int, ∀ j, j < n → wr.cell? ⟨g, j, none⟩ = some (.int .u8 (zs j)))) (fun i _ => n - (intOf i).toNat)
  case atStart => exact ⟨0, by omega, rfl, Touch.refl _ _ _ _, ys, HC.out⟩
  case round =>
    obtain ⟨k, hk, rfl, HT⟩ := hrel
    by_cases hlt : k < n
    · obtain ⟨ht, zs, hz⟩ := HT.out
      have hcell := hz k hlt
      have hfr : wr.frozen? ⟨g, k, none⟩ = false := by have := (ht.there _ _ HR.out k hlt).2; rwa [Nat.zero_add] at this
      have HT2 : Hid (Touch w wr g 0 n ∧ ∀ j, j < n → wr.cell? ⟨g, j, none⟩ = some (.int .u8 (zs j))) := ⟨ht, hz⟩
      clear hz ht HT
      go_wp2
      refine ⟨⟨k + 1, by omega, rfl, HT2.out.1.setCell k _ (by omega) (by omega), fun j => if j = k then bits .xor .u8 (zs k) 165 else zs j, fun j hj => ?_⟩, ?_⟩
      · by_cases hjk : j = k
        · subst hjk
          simp only [if_pos]
          exact World.cell?_setCell_same' _ _ _ (by rw [hcell]; rfl)
        · simp only [if_neg hjk]
          rw [cell_other2 _ _ _ _ _ (Ne.symm hjk)]
          exact HT2.out.2 j hj
      · simp only [intOf]; omega
    · obtain rfl : k = n := by omega
      obtain ⟨ht, zs, hz⟩ := HT.out
      obtain ⟨OL, HOL⟩ : ∃ OL, Hid (OL = (List.range k).map fun j => Value.int .u8 (zs j)) := ⟨_, rfl⟩
      have HG : Hid (w.grownBy wr (some g)) := ht.grown
      have hgw : g < wr.heap.size := Nat.lt_of_lt_of_le hg ht.size
      go_wp2_with (first | (at_builtin; go_must (refine wpList_append_grows _ rfl (.tmp 18) (.tmp 19) 22 rfl 5 i0 (.int .u8 0) 1 1 Tryd.underlying22 hi hz0 hz1 hz2 rfl (by decide) _ k k OL rfl (fun h => by cases h) ?_ ?_ ⟨wr.heap.size, 0, none⟩ 1 1 (cellsU8 [1]) rfl rfl (World.news_of_block (heap_alloc_new wr _)) (cellsU8_one _) (by omega) (by unfold maxLen; omega) (by omega) ?_)))
      · rw [HOL.out]; simp
      · intro b hb j u hu
        cases hb
        rw [HOL.out] at hu
        have hj : j < k := by have := (List.getElem?_eq_some_iff.1 hu).1; simpa using this
        rw [List.getElem?_map, List.getElem?_range hj] at hu
        cases hu
        rw [Addr.add_lit, World.cell?_alloc_past _ _ _ hgw, Nat.zero_add]
        exact hz j hj
      intro v1 w1 own1 hgr1
      have hlen : ∃ g1 cp1, v1 = .slice (some ⟨g1, 0, none⟩) (k + 1) cp1 ∧ Hid (w.heap.size ≤ g1 ∧ w1.ownsRow w.heap.size 5 1 (.slice (some ⟨g1, 0, none⟩) (k + 1) cp1) (k + 1) (cellsU8 ((List.range k).map zs ++ [1]))) := by
        have hsz := ht.size
        have hb : w.heap.size ≤ wr.heap.size + 1 := by omega
        have own2 := ownsRow_base own1 hb
        rcases own1.2 with ⟨_, h0⟩ | ⟨g1, cp1, cur, rfl, q2, _⟩
        · omega
        · refine ⟨g1, cp1, rfl, by omega, ?_⟩
          have e1 : cellsU8 ((List.range k).map zs ++ [1]) = OL ++ cellsU8 [1] := by rw [cellsU8_append, HOL.out]; simp [cellsU8]
          rw [e1]
          exact own2
      obtain ⟨g1, cp1, rfl, HO⟩ := hlen
      have HG1 : Hid (w.grownBy w1 (some g)) := grown_trans (grown_trans HG.out (World.grownBy_alloc wr _ none) (fun _ _ _ => by simp)) hgr1 (fun q _ hq => by simp)
      have HA1 : Hid (w.heap.size ≤ g1) := HO.out.1
      have HO1 : Hid (w1.ownsRow w.heap.size 5 1 (.slice (some ⟨g1, 0, none⟩) (k + 1) cp1) (k + 1) (cellsU8 ((List.range k).map zs ++ [1]))) := HO.out.2
      clear own1 hgr1 HO hz ht HT HG hgw hlt hk HOL HC HR
      go_wp2
      go_loopw [0, 3] (fun l i wr => ∃ j : Nat, j ≤ 70 ∧ i = .int .i64 j ∧ Hid (w.grownBy wr (some g)) ∧ ∃ g2 c2 ys2, l = .slice (some ⟨g2, 0, none⟩) (k + 1 + j) c2 ∧ wr.ownsRow w.heap.size 5 1 (.slice (some ⟨g2, 0, none⟩) (k + 1 + j) c2) (k + 1 + j) (cellsU8 ys2) ∧ Hid (w.heap.size ≤ g2)) (fun _ i _ => 70 - (intOf i).toNat)
      case atStart => exact ⟨0, by omega, rfl, HG1, g1, cp1, _, rfl, HO1, HA1⟩
      case round =>
        obtain ⟨j, hj, rfl, HG2, g2, c2, ys2, rfl, own2, HA2⟩ := hrel
        clear HG1 HA1 HO1
        by_cases hlt : j < 70
        · go_wp2_with (first | (at_builtin; go_must (refine wpList_append_lies _ rfl (.tmp 25) (.tmp 30) 22 rfl w.heap.size 5 i0 (.int .u8 0) 1 1 Tryd.underlying22 hi hz0 hz1 hz2 rfl (by decide) _ _ _ rfl (own2.alloc _) ⟨wr.heap.size, 0, none⟩ 1 1 (cellsU8 [IntKind.u8.wrap (7 * (j : Int) + 3)]) rfl rfl (World.news_of_block (heap_alloc_new wr _)) (cellsU8_one _) (by decide) (by unfold maxLen; omega) (by omega) (by have := HG2.out.size; simp; omega) (wr.heap.size + 1) (by simp) ?_)))
          intro g3 cp3 w3 own3 hgr3 hat3 hlt3
          have HG3 : Hid (w.grownBy w3 (some g)) := grown_trans (grown_trans HG2.out (World.grownBy_alloc wr _ none) (fun _ _ _ => by simp)) hgr3 (fun q hq hne => by
            intro h
            simp only [Value.ownBlock, Option.some.injEq] at h
            have e := HA2.out
            omega)
          have HA3 : Hid (w.heap.size ≤ g3) := by
            rcases hat3 with h | h
            · simp only [Value.ownBlock, Option.some.injEq] at h
              rw [← h]
              exact HA2
            · have := HG2.out.size
              show _ ≤ _
              omega
          have HO3 : Hid (w3.ownsRow w.heap.size 5 1 (.slice (some ⟨g3, 0, none⟩) (k + 1 + (j + 1)) cp3) (k + 1 + (j + 1)) (cellsU8 (ys2 ++ [IntKind.u8.wrap (7 * (j : Int) + 3)]))) := by
            rw [cellsU8_append]
            exact own3
          clear own3 hgr3 hat3 hlt3 own2 HG2 HA2
          go_wp2
          go_roundw
          case rel => exact ⟨j + 1, by omega, by go_num, HG3, g3, cp3, _, rfl, HO3, HA3⟩
          case measure => simp [intOf]; omega
        · obtain rfl : j = 70 := by omega
          have hcell : wr.cell? ⟨g2, k + 70, none⟩ = some (.int .u8 (ys2.getD (k + 70) 0)) := by
            have hl2 : ys2.length = k + 1 + 70 := by have := own2.1; rw [cellsU8_length] at this; omega
            rw [own2.cellAt (k + 70) (by omega), cellsU8, List.getElem?_map, List.getElem?_eq_getElem (show k + 70 < ys2.length by omega)]
            simp [List.getD, List.getElem?_eq_getElem (show k + 70 < ys2.length by omega)]
          have hfr : wr.frozen? ⟨g2, k + 70, none⟩ = false := own2.frozenAt _
          have HO : Hid (wr.ownsRow w.heap.size 5 1 (.slice (some ⟨g2, 0, none⟩) (k + 1 + 70) c2) (k + 1 + 70) (cellsU8 ys2)) := own2
          clear own2 hlt
          go_wp2
          go_end0
          have hst := HO.out.stored (k + 70) (.int .u8 77)
          refine ⟨rfl, grown_trans HG2.out hst.2 (fun q hq hne => ?_)⟩
          intro h
          simp only [Option.some.injEq] at h
          have e := HA2.out
          omega
end Go.Proofs.YtgmfiljjogdccaaDoor
