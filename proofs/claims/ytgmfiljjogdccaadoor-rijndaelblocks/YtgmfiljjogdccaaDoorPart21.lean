import Derived.Test.YtgmfiljjogdccaaDoorPart06
import Derived.Deep.AppendLies
import Derived.Test.YtgmfiljjogdccaaDoorRkf
import Derived.Test.YtgmfiljjogdccaaDoorPart13
import Derived.Deep.QuietTactic
import Derived.BigQuiet
import Derived.Test.YtgmfiljjogdccaaDoorRk4
import Derived.Test.YtgmfiljjogdccaaDoorRk6
import Derived.Test.YtgmfiljjogdccaaDoorRk8
import Derived.Test.YtgmfiljjogdccaaDoorPart11
namespace Go.Proofs.YtgmfiljjogdccaaDoor
open Go.RowKit

theorem View.kept {w w' : World} {v : Value} {zs : List Int} (h : View w v zs) (hb : ∀ k, k < w.heap.size → w'.heap[k]? = w.heap[k]?) : View w' v zs := by
  obtain ⟨a, c, rfl, h1, h2, h3, h4⟩ := h
  refine ⟨a, c, rfl, h1, h2, h3, ?_⟩
  rcases h4 with h4 | ⟨b, off, rfl, hc⟩
  · exact .inl h4
  · refine .inr ⟨b, off, rfl, fun i hi => ?_⟩
    have := hc i hi
    have hlt := World.block_lt_of_cell? w _ this
    rw [World.cell?_of_block (w := w) (hb b hlt)]
    exact this

/-- A copy with marks behind it, in memory from block B on. -/
def Marked (B : Nat) (w : World) (v : Value) (zs : List Int) : Prop :=
  ∃ g c, v = .slice (some ⟨g, 0, none⟩) zs.length c ∧ w.ownsRow B 5 1 (.slice (some ⟨g, 0, none⟩) (zs.length + 70) c) (zs.length + 70) (cellsU8 (zs ++ marks 70))

theorem Marked.kept {B : Nat} {w w' : World} {v : Value} {zs : List Int} (h : Marked B w v zs) (hb : ∀ k, k < w.heap.size → w'.heap[k]? = w.heap[k]?) : Marked B w' v zs := by
  obtain ⟨g, c, rfl, hl, h⟩ := h
  refine ⟨g, c, rfl, hl, ?_⟩
  rcases h with ⟨h, _⟩ | ⟨g', c', cur, he, h1, h2, r⟩
  · cases h
  · refine .inr ⟨g', c', cur, he, h1, ?_, r⟩
    rw [hb g' (Array.getElem?_eq_some_iff.1 h2).1]
    exact h2

theorem Marked.cells {B : Nat} {w : World} {v : Value} {zs : List Int} (h : Marked B w v zs) :
    ∃ g c, v = .slice (some ⟨g, 0, none⟩) zs.length c ∧ zs.length + 70 ≤ c ∧ c ≤ maxLen ∧ (∀ i, i < zs.length → w.cell? ⟨g, i, none⟩ = some (.int .u8 (zs.getD i 0))) ∧ (∀ i, i < 70 → w.cell? ⟨g, zs.length + i, none⟩ = some (.int .u8 (181 + (i : Int)))) := by
  obtain ⟨g, c, rfl, ho⟩ := h
  have hc := ho.cells (g := g) rfl
  refine ⟨g, c, rfl, ?_, ?_, fun i hi => ?_, fun i hi => ?_⟩
  · rcases ho.2 with ⟨h, _⟩ | ⟨g', c', cur, he, _, _, h1, _⟩
    · cases h
    · cases he; exact h1
  · rcases ho.2 with ⟨h, _⟩ | ⟨g', c', cur, he, _, _, _, h1, _⟩
    · cases h
    · cases he; exact h1
  · have := hc i (.int .u8 (zs.getD i 0)) (by
      simp only [cellsU8, List.getElem?_map]
      rw [List.getElem?_append_left hi]
      simp [List.getElem?_eq_getElem hi, List.getD])
    rw [Addr.add_lit] at this
    simpa using this
  · have := hc (zs.length + i) (.int .u8 (181 + (i : Int))) (by
      simp only [cellsU8, List.getElem?_map]
      rw [List.getElem?_append_right (by omega)]
      simp [marks, hi])
    rw [Addr.add_lit] at this
    simpa using this

theorem Marked.view {B : Nat} {w : World} {v : Value} {zs : List Int} (h : Marked B w v zs) : View w v zs := by
  obtain ⟨g, c, rfl, h1, h2, h3, _⟩ := h.cells
  refine ⟨_, c, rfl, by omega, h2, ?_, Or.inr ⟨g, 0, rfl, fun i hi => by simpa using h3 i hi⟩⟩
  intro h
  cases h

/-- cofferbook.Bytes. -/
theorem copy_any (v : Value) (zs : List Int) (w : World) (hn : zs.length + 70 ≤ 140737488355328) (h : View w v zs) :
    Calls Tryd.prog 8 #[v] w fun e w' => ∃ v', e = .returned v' ∧ Marked w.heap.size w' v' zs ∧ Below w.heap.size w w' := by
  obtain ⟨a, c, rfl, h1, h2, h3, h4⟩ := h
  cases a with
  | none =>
    obtain rfl := h3 rfl
    have hz : zs = [] := List.eq_nil_of_length_eq_zero (by omega)
    subst hz
    refine (copy_nil w).mono ?_
    rintro e w' ⟨g, c, rfl, ho, hb⟩
    exact ⟨_, rfl, ⟨g, c, rfl, by simpa using ho⟩, hb⟩
  | some x =>
    have hc : ∀ j u, (cellsU8 zs)[j]? = some u → w.cell? (x.add j) = some u := by
      rcases h4 with rfl | ⟨b, off, he, hcell⟩
      · intro j u hu
        simp [cellsU8] at hu
      · cases he
        exact cellsU8_at zs w b off hcell
    refine (copy_some x zs.length c zs w rfl hn hc).mono ?_
    rintro e w' ⟨g, c, rfl, ho, hb⟩
    exact ⟨_, rfl, ⟨g, c, rfl, ho⟩, hb⟩

set_option maxHeartbeats 400000 in
theorem whole_core (g c n : Nat) (v2 : Value) (zs : List Int) (w : World) (hc : n + 70 ≤ c) (hm : c ≤ 9223372036854775807)
    (h1 : Hid (View w (.slice (some ⟨g, 0, none⟩) n c) zs)) (h2 : Hid (View w v2 zs))
    (h3 : ∀ i, i < 70 → w.cell? ⟨g, n + i, none⟩ = some (.int .u8 (181 + (i : Int)))) :
    Calls Tryd.prog 12 #[.slice (some ⟨g, 0, none⟩) n c, v2] w fun e w' => e = .returned (.bool true) ∧ ∃ m, w' = w.drewN m := by
  go_enter Tryd.func12, Tryd.ntmps12
  go_wp2_with fail
  refine (same_any _ _ zs zs _ h1.out h2.out).mono ?_
  rintro e w' ⟨rfl, m, rfl⟩
  simp only [decide_true]
  go_wp2
  go_loop [7] (fun i => ∃ k : Nat, k ≤ 70 ∧ i = .int .i64 k) (fun i => 70 - (intOf i).toNat)
  case atStart => exact ⟨0, by omega, rfl⟩
  case round =>
    obtain ⟨k, hk, rfl⟩ := hrel
    by_cases hlt : k < 70
    · have g3 := h3 k hlt
      clear h3
      go_wp2
      go_round
      case rel => exact ⟨k + 1, by omega, by go_num⟩
      case measure => simp [intOf]; omega
    · go_wp2
      go_ret
      exact ⟨rfl, m, rfl⟩

/-- cofferbook.WholeBytes, of a copy that is as it was made. -/
theorem whole_any (v1 v2 : Value) (zs : List Int) (B : Nat) (w : World) (h1 : Marked B w v1 zs) (h2 : View w v2 zs) :
    Calls Tryd.prog 12 #[v1, v2] w fun e w' => e = .returned (.bool true) ∧ ∃ m, w' = w.drewN m := by
  have hv := h1.view
  obtain ⟨g, c, rfl, hc, hm, _, h4⟩ := h1.cells
  exact whole_core g c zs.length v2 zs w hc (by unfold maxLen at hm; omega) hv h2 h4
end Go.Proofs.YtgmfiljjogdccaaDoor
namespace Go.Proofs.YtgmfiljjogdccaaDoor
open Go.RowKit

theorem grown_trans {w w1 w2 : World} {g g' : Option Nat} (h1 : w.grownBy w1 g) (h2 : w1.grownBy w2 g') (hg : ∀ k, k < w.heap.size → some k ≠ g → some k ≠ g') : w.grownBy w2 g :=
  ⟨h2.os.trans h1.os, h2.tape.trans h1.tape, h2.output.trans h1.output, Nat.le_trans h1.size h2.size, fun k hk hne => (h2.block k (Nat.lt_of_lt_of_le hk h1.size) (hg k hk hne)).trans (h1.block k hk hne)⟩
theorem grown_refl (w : World) (g : Option Nat) : w.grownBy w g := ⟨rfl, rfl, rfl, Nat.le_refl _, fun _ _ _ => rfl⟩

set_option maxHeartbeats 1600000 in
set_option maxRecDepth 100000 in
theorem spoil_some (B n g cap : Nat) (zs : List Int) (w : World) (hn : n ≤ 200000) (hB : B ≤ w.heap.size)
    (hown : w.ownsRow B 5 1 (.slice (some ⟨g, 0, none⟩) n cap) n (cellsU8 zs)) :
    Calls Tryd.prog 16 #[.slice (some ⟨g, 0, none⟩) n cap] w fun e w' => e = .returned (.tuple #[]) ∧ w.grownBy w' (some g) := by
  obtain ⟨i0, hi, hz0, hz1, hz2⟩ := info_parts Tryd.info5
  go_enter Tryd.func16, Tryd.ntmps16
  go_wp2
  go_loopw [2] (fun i wr => ∃ k : Nat, k ≤ n ∧ i = .int .i64 k ∧ (∃ ys : List Int, wr.ownsRow B 5 1 (.slice (some ⟨g, 0, none⟩) n cap) n (cellsU8 ys)) ∧ Hid (w.grownBy wr (some g))) (fun i _ => n - (intOf i).toNat)
  case atStart => exact ⟨0, by omega, rfl, ⟨zs, hown⟩, grown_refl _ _⟩
  case round =>
    obtain ⟨k, hk, rfl, ⟨ys, hown2⟩, HG⟩ := hrel
    have hyl : ys.length = n := by have := hown2.1; rw [cellsU8_length] at this; omega
    clear hown
    by_cases hlt : k < n
    · obtain ⟨y, hy⟩ : ∃ y, ys[k]? = some y := ⟨ys[k], List.getElem?_eq_getElem (by omega)⟩
      have hcell : wr.cell? ⟨g, k, none⟩ = some (.int .u8 y) := by
        rw [hown2.cellAt k (by omega), cellsU8, List.getElem?_map, hy]
        rfl
      have hfr : wr.frozen? ⟨g, k, none⟩ = false := hown2.frozenAt k
      have HO : Hid (wr.ownsRow B 5 1 (.slice (some ⟨g, 0, none⟩) n cap) n (cellsU8 ys)) := hown2
      clear hown2 hy hyl
      go_wp2
      have hst := HO.out.stored k (.int .u8 (bits .xor .u8 y 165))
      have HO3 : Hid ((wr.setCell ⟨g, k, none⟩ (.int .u8 (bits .xor .u8 y 165))).ownsRow B 5 1 (.slice (some ⟨g, 0, none⟩) n cap) n (cellsU8 (ys.set k (bits .xor .u8 y 165)))) := by
        rw [cellsU8, List.map_set]
        exact hst.1
      have HG3 : Hid (w.grownBy (wr.setCell ⟨g, k, none⟩ (.int .u8 (bits .xor .u8 y 165))) (some g)) := grown_trans HG.out hst.2 (fun _ _ h => h)
      clear hst HO HG
      go_roundw
      case rel => exact ⟨k + 1, by omega, by go_num, ⟨_, HO3⟩, HG3⟩
      case measure => simp [intOf]; omega
    · obtain rfl : k = n := by omega
      go_wp2_with (first | (at_builtin; go_must (refine wpList_append_lies _ rfl (.tmp 18) (.tmp 19) 22 rfl B 5 i0 (.int .u8 0) 1 1 Tryd.underlying22 hi hz0 hz1 hz2 rfl (by decide) _ _ _ rfl (hown2.alloc _) ⟨wr.heap.size, 0, none⟩ 1 1 (cellsU8 [1]) rfl rfl (World.news_of_block (heap_alloc_new wr _)) (cellsU8_one _) (by decide) (by unfold maxLen; omega) (by omega) (by have := HG.out.size; simp; omega) (wr.heap.size + 1) (by simp) ?_)))
      intro g1 cp1 w1 own1 hgr1 hat1 hlt1
      have HG1 : Hid (w.grownBy w1 (some g)) := grown_trans (grown_trans HG.out (World.grownBy_alloc wr _ none) (fun _ _ _ => by simp)) hgr1 (fun q _ hq => hq)
      have HA1 : Hid (g1 = g ∨ w.heap.size ≤ g1) := by
        rcases hat1 with h | h
        · left
          simpa [Value.ownBlock] using h.symm
        · right
          have := HG.out.size
          omega
      have HO1 : Hid (w1.ownsRow B 5 1 (.slice (some ⟨g1, 0, none⟩) (k + 1) cp1) (k + 1) (cellsU8 (ys ++ [1]))) := by
        rw [cellsU8_append]
        exact own1
      clear own1 hgr1 hat1 hlt1 hown2 HG hyl hk hlt
      go_wp2
      go_loopw [0, 3] (fun l i wr => ∃ j : Nat, j ≤ 70 ∧ i = .int .i64 j ∧ Hid (w.grownBy wr (some g)) ∧ ∃ g2 c2 ys2, l = .slice (some ⟨g2, 0, none⟩) (k + 1 + j) c2 ∧ wr.ownsRow B 5 1 (.slice (some ⟨g2, 0, none⟩) (k + 1 + j) c2) (k + 1 + j) (cellsU8 ys2) ∧ Hid (g2 = g ∨ w.heap.size ≤ g2)) (fun _ i _ => 70 - (intOf i).toNat)
      case atStart => exact ⟨0, by omega, rfl, HG1, g1, cp1, _, rfl, HO1, HA1⟩
      case round =>
        obtain ⟨j, hj, rfl, HG2, g2, c2, ys2, rfl, own2, HA2⟩ := hrel
        clear HG1 HA1 HO1
        by_cases hlt : j < 70
        · go_wp2_with (first | (at_builtin; go_must (refine wpList_append_lies _ rfl (.tmp 25) (.tmp 30) 22 rfl B 5 i0 (.int .u8 0) 1 1 Tryd.underlying22 hi hz0 hz1 hz2 rfl (by decide) _ _ _ rfl (own2.alloc _) ⟨wr.heap.size, 0, none⟩ 1 1 (cellsU8 [IntKind.u8.wrap (7 * (j : Int) + 3)]) rfl rfl (World.news_of_block (heap_alloc_new wr _)) (cellsU8_one _) (by decide) (by unfold maxLen; omega) (by omega) (by have := HG2.out.size; simp; omega) (wr.heap.size + 1) (by simp) ?_)))
          intro g3 cp3 w3 own3 hgr3 hat3 hlt3
          have HG3 : Hid (w.grownBy w3 (some g)) := grown_trans (grown_trans HG2.out (World.grownBy_alloc wr _ none) (fun _ _ _ => by simp)) hgr3 (fun q hq hne => by
            intro h
            simp only [Value.ownBlock, Option.some.injEq] at h
            rcases HA2.out with e | e
            · exact hne (by rw [h, e])
            · omega)
          have HA3 : Hid (g3 = g ∨ w.heap.size ≤ g3) := by
            rcases hat3 with h | h
            · simp only [Value.ownBlock, Option.some.injEq] at h
              rw [← h]
              exact HA2
            · right
              have := HG2.out.size
              omega
          have HO3 : Hid (w3.ownsRow B 5 1 (.slice (some ⟨g3, 0, none⟩) (k + 1 + (j + 1)) cp3) (k + 1 + (j + 1)) (cellsU8 (ys2 ++ [IntKind.u8.wrap (7 * (j : Int) + 3)]))) := by
            rw [cellsU8_append]
            exact own3
          clear own3 hgr3 hat3 hlt3 own2 HG2 HA2
          go_wp2
          go_roundw
          case rel => exact ⟨j + 1, by omega, by go_num, HG3, g3, cp3, _, rfl, HO3, HA3⟩
          case measure => simp [intOf]; omega
        · obtain rfl : j = 70 := by omega
          have hcell : wr.cell? ⟨g2, k + 70, none⟩ = some (.int .u8 (ys2.getD (k + 70) 0)) := by
            have hl2 : ys2.length = k + 1 + 70 := by have := own2.1; rw [cellsU8_length] at this; omega
            rw [own2.cellAt (k + 70) (by omega), cellsU8, List.getElem?_map, List.getElem?_eq_getElem (show k + 70 < ys2.length by omega)]
            simp [List.getD, List.getElem?_eq_getElem (show k + 70 < ys2.length by omega)]
          have hfr : wr.frozen? ⟨g2, k + 70, none⟩ = false := own2.frozenAt _
          have HO : Hid (wr.ownsRow B 5 1 (.slice (some ⟨g2, 0, none⟩) (k + 1 + 70) c2) (k + 1 + 70) (cellsU8 ys2)) := own2
          clear own2 hlt
          go_wp2
          go_end0
          have hst := HO.out.stored (k + 70) (.int .u8 77)
          refine ⟨rfl, grown_trans HG2.out hst.2 (fun q hq hne => ?_)⟩
          intro h
          simp only [Option.some.injEq] at h
          rcases HA2.out with e | e
          · exact hne (by rw [h, e])
          · omega
end Go.Proofs.YtgmfiljjogdccaaDoor
namespace Go.Proofs.YtgmfiljjogdccaaDoor
open Go.RowKit
set_option linter.unusedVariables false
def cellsU32 (l : List Int) : List Value := l.map fun z => .int .u32 z
theorem cellsU32_append (a b : List Int) : cellsU32 (a ++ b) = cellsU32 a ++ cellsU32 b := by simp [cellsU32]
theorem cellsU32_length (a : List Int) : (cellsU32 a).length = a.length := by simp [cellsU32]
theorem cellsU32_one (a : List Int) : ∀ u ∈ cellsU32 a, u.oneCell' = true := by
  intro u hu
  simp only [cellsU32, List.mem_map] at hu
  obtain ⟨z, _, rfl⟩ := hu
  rfl
set_option maxHeartbeats 1600000 in
set_option maxRecDepth 100000 in
theorem spoilW (B n g cap : Nat) (zs : List Int) (w : World) (hn : n ≤ 200000) (hB : B ≤ w.heap.size)
    (hown : w.ownsRow B 50 1 (.slice (some ⟨g, 0, none⟩) n cap) n (cellsU32 zs)) :
    Calls Tryd.prog 20 #[.slice (some ⟨g, 0, none⟩) n cap] w fun e w' => e = .returned (.tuple #[]) ∧ w.grownBy w' (some g) := by
  obtain ⟨i0, hi, hz0, hz1, hz2⟩ := info_parts Tryd.info50
  go_enter Tryd.func20, Tryd.ntmps20
  go_wp2
  go_loopw [2] (fun i wr => ∃ k : Nat, k ≤ n ∧ i = .int .i64 k ∧ (∃ ys : List Int, wr.ownsRow B 50 1 (.slice (some ⟨g, 0, none⟩) n cap) n (cellsU32 ys)) ∧ Hid (w.grownBy wr (some g))) (fun i _ => n - (intOf i).toNat)
  case atStart => exact ⟨0, by omega, rfl, ⟨zs, hown⟩, grown_refl _ _⟩
  case round =>
    obtain ⟨k, hk, rfl, ⟨ys, hown2⟩, HG⟩ := hrel
    have hyl : ys.length = n := by have := hown2.1; rw [cellsU32_length] at this; omega
    clear hown
    by_cases hlt : k < n
    · obtain ⟨y, hy⟩ : ∃ y, ys[k]? = some y := ⟨ys[k], List.getElem?_eq_getElem (by omega)⟩
      have hcell : wr.cell? ⟨g, k, none⟩ = some (.int .u32 y) := by
        rw [hown2.cellAt k (by omega), cellsU32, List.getElem?_map, hy]
        rfl
      have hfr : wr.frozen? ⟨g, k, none⟩ = false := hown2.frozenAt k
      have HO : Hid (wr.ownsRow B 50 1 (.slice (some ⟨g, 0, none⟩) n cap) n (cellsU32 ys)) := hown2
      clear hown2 hy hyl
      go_wp2
      have hst := HO.out.stored k (.int .u32 (bits .xor .u32 y 10855845))
      have HO3 : Hid ((wr.setCell ⟨g, k, none⟩ (.int .u32 (bits .xor .u32 y 10855845))).ownsRow B 50 1 (.slice (some ⟨g, 0, none⟩) n cap) n (cellsU32 (ys.set k (bits .xor .u32 y 10855845)))) := by
        rw [cellsU32, List.map_set]
        exact hst.1
      have HG3 : Hid (w.grownBy (wr.setCell ⟨g, k, none⟩ (.int .u32 (bits .xor .u32 y 10855845))) (some g)) := grown_trans HG.out hst.2 (fun _ _ h => h)
      clear hst HO HG
      go_roundw
      case rel => exact ⟨k + 1, by omega, by go_num, ⟨_, HO3⟩, HG3⟩
      case measure => simp [intOf]; omega
    · obtain rfl : k = n := by omega
      go_wp2_with (first | (at_builtin; go_must (refine wpList_append_lies _ rfl (.tmp 18) (.tmp 19) 34 rfl B 50 i0 (.int .u32 0) 1 4 Tryd.underlying34 hi hz0 hz1 hz2 rfl (by decide) _ _ _ rfl (hown2.alloc _) ⟨wr.heap.size, 0, none⟩ 1 1 (cellsU32 [1]) rfl rfl (World.news_of_block (heap_alloc_new wr _)) (cellsU32_one _) (by decide) (by unfold maxLen; omega) (by omega) (by have := HG.out.size; simp; omega) (wr.heap.size + 1) (by simp) ?_)))
      intro g1 cp1 w1 own1 hgr1 hat1 hlt1
      have HG1 : Hid (w.grownBy w1 (some g)) := grown_trans (grown_trans HG.out (World.grownBy_alloc wr _ none) (fun _ _ _ => by simp)) hgr1 (fun q _ hq => hq)
      have HA1 : Hid (g1 = g ∨ w.heap.size ≤ g1) := by
        rcases hat1 with h | h
        · left
          simpa [Value.ownBlock] using h.symm
        · right
          have := HG.out.size
          omega
      have HO1 : Hid (w1.ownsRow B 50 1 (.slice (some ⟨g1, 0, none⟩) (k + 1) cp1) (k + 1) (cellsU32 (ys ++ [1]))) := by
        rw [cellsU32_append]
        exact own1
      clear own1 hgr1 hat1 hlt1 hown2 HG hyl hk hlt
      go_wp2
      go_loopw [0, 3] (fun l i wr => ∃ j : Nat, j ≤ 70 ∧ i = .int .i64 j ∧ Hid (w.grownBy wr (some g)) ∧ ∃ g2 c2 ys2, l = .slice (some ⟨g2, 0, none⟩) (k + 1 + j) c2 ∧ wr.ownsRow B 50 1 (.slice (some ⟨g2, 0, none⟩) (k + 1 + j) c2) (k + 1 + j) (cellsU32 ys2) ∧ Hid (g2 = g ∨ w.heap.size ≤ g2)) (fun _ i _ => 70 - (intOf i).toNat)
      case atStart => exact ⟨0, by omega, rfl, HG1, g1, cp1, _, rfl, HO1, HA1⟩
      case round =>
        obtain ⟨j, hj, rfl, HG2, g2, c2, ys2, rfl, own2, HA2⟩ := hrel
        clear HG1 HA1 HO1
        by_cases hlt : j < 70
        · go_wp2_with (first | (at_builtin; go_must (refine wpList_append_lies _ rfl (.tmp 25) (.tmp 30) 34 rfl B 50 i0 (.int .u32 0) 1 4 Tryd.underlying34 hi hz0 hz1 hz2 rfl (by decide) _ _ _ rfl (own2.alloc _) ⟨wr.heap.size, 0, none⟩ 1 1 (cellsU32 [7 * (j : Int) + 3]) rfl rfl (World.news_of_block (heap_alloc_new wr _)) (cellsU32_one _) (by decide) (by unfold maxLen; omega) (by omega) (by have := HG2.out.size; simp; omega) (wr.heap.size + 1) (by simp) ?_)))
          intro g3 cp3 w3 own3 hgr3 hat3 hlt3
          have HG3 : Hid (w.grownBy w3 (some g)) := grown_trans (grown_trans HG2.out (World.grownBy_alloc wr _ none) (fun _ _ _ => by simp)) hgr3 (fun q hq hne => by
            intro h
            simp only [Value.ownBlock, Option.some.injEq] at h
            rcases HA2.out with e | e
            · exact hne (by rw [h, e])
            · omega)
          have HA3 : Hid (g3 = g ∨ w.heap.size ≤ g3) := by
            rcases hat3 with h | h
            · simp only [Value.ownBlock, Option.some.injEq] at h
              rw [← h]
              exact HA2
            · right
              have := HG2.out.size
              omega
          have HO3 : Hid (w3.ownsRow B 50 1 (.slice (some ⟨g3, 0, none⟩) (k + 1 + (j + 1)) cp3) (k + 1 + (j + 1)) (cellsU32 (ys2 ++ [7 * (j : Int) + 3]))) := by
            rw [cellsU32_append]
            exact own3
          clear own3 hgr3 hat3 hlt3 own2 HG2 HA2
          go_wp2
          go_roundw
          case rel => exact ⟨j + 1, by omega, by go_num, HG3, g3, cp3, _, rfl, HO3, HA3⟩
          case measure => simp [intOf]; omega
        · obtain rfl : j = 70 := by omega
          have hcell : wr.cell? ⟨g2, k + 70, none⟩ = some (.int .u32 (ys2.getD (k + 70) 0)) := by
            have hl2 : ys2.length = k + 1 + 70 := by have := own2.1; rw [cellsU32_length] at this; omega
            rw [own2.cellAt (k + 70) (by omega), cellsU32, List.getElem?_map, List.getElem?_eq_getElem (show k + 70 < ys2.length by omega)]
            simp [List.getD, List.getElem?_eq_getElem (show k + 70 < ys2.length by omega)]
          have hfr : wr.frozen? ⟨g2, k + 70, none⟩ = false := own2.frozenAt _
          have HO : Hid (wr.ownsRow B 50 1 (.slice (some ⟨g2, 0, none⟩) (k + 1 + 70) c2) (k + 1 + 70) (cellsU32 ys2)) := own2
          clear own2 hlt
          go_wp2
          go_end0
          have hst := HO.out.stored (k + 70) (.int .u32 77)
          refine ⟨rfl, grown_trans HG2.out hst.2 (fun q hq hne => ?_)⟩
          intro h
          simp only [Option.some.injEq] at h
          rcases HA2.out with e | e
          · exact hne (by rw [h, e])
          · omega
end Go.Proofs.YtgmfiljjogdccaaDoor
namespace Go.Proofs.YtgmfiljjogdccaaDoor
open Go.RowKit
set_option linter.unusedVariables false
set_option maxHeartbeats 400000 in
theorem sameW (b1 b2 c1 c2 n : Nat) (f : Nat → Nat) (w : World) (hn : n ≤ 1000)
    (h1 : ∀ i, i < n → w.cell? ⟨b1, i, none⟩ = some (.int .u32 (f i : Nat)))
    (h2 : ∀ i, i < n → w.cell? ⟨b2, i, none⟩ = some (.int .u32 (f i : Nat))) :
    Calls Tryd.prog 17 #[.slice (some ⟨b1, 0, none⟩) n c1, .slice (some ⟨b2, 0, none⟩) n c2] w fun e w' => e = .returned (.bool true) ∧ ∃ m, w' = w.drewN m := by
  go_enter Tryd.func17, Tryd.ntmps17
  go_wp2
  go_loopw [5] (fun i wr => ∃ k : Nat, k ≤ n ∧ i = .int .i64 k ∧ ∃ m, wr = w.drewN m) (fun i _ => n - (intOf i).toNat)
  case atStart => exact ⟨0, Nat.zero_le _, rfl, 0, rfl⟩
  case round =>
    obtain ⟨k, hk, rfl, m, rfl⟩ := hrel
    by_cases hlt : k < n
    · have g1 := h1 k hlt
      have g2 := h2 k hlt
      clear h1 h2
      obtain ⟨x, HX⟩ : ∃ x, Hid (x = f k) := ⟨_, rfl⟩
      rw [← HX.out] at g1 g2
      go_wp2
      go_quiet (fail)
      go_wp2
      go_roundw
      case rel => exact ⟨k + 1, by omega, by go_num, _, rfl⟩
      case measure => simp [intOf]; omega
    · go_wp2
      go_ret
      exact ⟨rfl, _, rfl⟩
theorem size_nil (w : World) : Calls Tryd.prog 13 #[.pointer none] w fun e w' => e = .returned (.int .i64 0) ∧ w' = w := by
  have K1 : Hid (∀ u, Calls Tryd.prog 39 #[.pointer none] u fun e w' => e = .returned (.int .i64 1) ∧ w' = u) := hold_nil
  go_enter Tryd.func13, Tryd.ntmps13
  go_wp2_with (first | (go_at_call 39; (refine (K1.out _).mono ?_); (rintro e2 w2 ⟨rfl, hw2⟩; obtain rfl := hw2.symm)))
  go_ret
  exact ⟨rfl, rfl⟩
theorem rounds_nil (w : World) : Calls Tryd.prog 14 #[.pointer none] w fun e w' => e = .returned (.int .i64 0) ∧ w' = w := by
  have K1 : Hid (∀ u, Calls Tryd.prog 39 #[.pointer none] u fun e w' => e = .returned (.int .i64 1) ∧ w' = u) := hold_nil
  go_enter Tryd.func14, Tryd.ntmps14
  go_wp2_with (first | (go_at_call 39; (refine (K1.out _).mono ?_); (rintro e2 w2 ⟨rfl, hw2⟩; obtain rfl := hw2.symm)))
  go_ret
  exact ⟨rfl, rfl⟩
theorem words_nil (w : World) : Calls Tryd.prog 15 #[.pointer none] w fun e w' => e = .returned (.slice none 0 0) ∧ w' = w := by
  have K1 : Hid (∀ u, Calls Tryd.prog 39 #[.pointer none] u fun e w' => e = .returned (.int .i64 1) ∧ w' = u) := hold_nil
  go_enter Tryd.func15, Tryd.ntmps15
  go_wp2_with (first | (go_at_call 39; (refine (K1.out _).mono ?_); (rintro e2 w2 ⟨rfl, hw2⟩; obtain rfl := hw2.symm)))
  go_ret
  exact ⟨rfl, rfl⟩
set_option maxHeartbeats 800000 in
set_option maxRecDepth 100000 in
theorem rnew_bad (a : Option Addr) (n cap : Nat) (w : World) (h : n ≠ 16 ∧ n ≠ 24 ∧ n ≠ 32) : Calls Tryd.prog 10 #[.slice a n cap] w fun e w' => e = .returned (.tuple #[.pointer none, .int .i64 20]) ∧ w' = w := by
  have h1 : (((n : Nat) : Int) != 16) = true := by simp; omega
  have h2 : (((n : Nat) : Int) != 24) = true := by simp; omega
  have h3 : (((n : Nat) : Int) != 32) = true := by simp; omega
  clear h
  go_enter Tryd.func10, Tryd.ntmps10
  go_wp2
  go_ret2
  exact ⟨rfl, rfl⟩
end Go.Proofs.YtgmfiljjogdccaaDoor
namespace Go.Proofs.YtgmfiljjogdccaaDoor
open Go.RowKit

set_option maxHeartbeats 1600000 in
set_option maxRecDepth 100000 in
theorem spoil_nil (w : World) :
    Calls Tryd.prog 16 #[.slice none 0 0] w fun e w' => e = .returned (.tuple #[]) ∧ w.grownBy w' none := by
  obtain ⟨i0, hi, hz0, hz1, hz2⟩ := info_parts Tryd.info5
  have hown : w.ownsRow w.heap.size 5 1 (.slice none 0 0) 0 (cellsU8 []) := ⟨rfl, .inl ⟨rfl, rfl⟩⟩
  go_enter Tryd.func16, Tryd.ntmps16
  go_wp2
  go_loop [2] (fun i => i = .int .i64 0) (fun _ => 0)
  case atStart => exact rfl
  case round =>
    obtain rfl := hrel
    go_wp2_with (first | (at_builtin; go_must (refine wpList_append_lies _ rfl (.tmp 18) (.tmp 19) 22 rfl w.heap.size 5 i0 (.int .u8 0) 1 1 Tryd.underlying22 hi hz0 hz1 hz2 rfl (by decide) _ _ _ rfl (hown.alloc _) ⟨w.heap.size, 0, none⟩ 1 1 (cellsU8 [1]) rfl rfl (World.news_of_block (heap_alloc_new w _)) (cellsU8_one _) (by decide) (by unfold maxLen; omega) (by omega) (by simp) (w.heap.size + 1) (by simp) ?_)))
    intro g1 cp1 w1 own1 hgr1 hat1 hlt1
    have HG1 : Hid (w.grownBy w1 none) := grown_trans (World.grownBy_alloc w _ none) hgr1 (fun q _ hq => hq)
    have HA1 : Hid (w.heap.size ≤ g1) := by
      rcases hat1 with h | h
      · simp [Value.ownBlock] at h
      · exact (by omega : w.heap.size ≤ g1)
    have HO1 : Hid (w1.ownsRow w.heap.size 5 1 (.slice (some ⟨g1, 0, none⟩) 1 cp1) 1 (cellsU8 [1])) := own1
    clear own1 hgr1 hat1 hlt1 hown
    go_wp2
    go_loopw [0, 3] (fun l i wr => ∃ j : Nat, j ≤ 70 ∧ i = .int .i64 j ∧ Hid (w.grownBy wr none) ∧ ∃ g2 c2 ys2, l = .slice (some ⟨g2, 0, none⟩) (1 + j) c2 ∧ wr.ownsRow w.heap.size 5 1 (.slice (some ⟨g2, 0, none⟩) (1 + j) c2) (1 + j) (cellsU8 ys2) ∧ Hid (w.heap.size ≤ g2)) (fun _ i _ => 70 - (intOf i).toNat)
    case atStart => exact ⟨0, by omega, rfl, HG1, g1, cp1, _, rfl, HO1, HA1⟩
    case round =>
      obtain ⟨j, hj, rfl, HG2, g2, c2, ys2, rfl, own2, HA2⟩ := hrel
      clear HG1 HA1 HO1
      by_cases hlt : j < 70
      · go_wp2_with (first | (at_builtin; go_must (refine wpList_append_lies _ rfl (.tmp 25) (.tmp 30) 22 rfl w.heap.size 5 i0 (.int .u8 0) 1 1 Tryd.underlying22 hi hz0 hz1 hz2 rfl (by decide) _ _ _ rfl (own2.alloc _) ⟨wr.heap.size, 0, none⟩ 1 1 (cellsU8 [IntKind.u8.wrap (7 * (j : Int) + 3)]) rfl rfl (World.news_of_block (heap_alloc_new wr _)) (cellsU8_one _) (by decide) (by unfold maxLen; omega) (by omega) (by have := HG2.out.size; simp; omega) (wr.heap.size + 1) (by simp) ?_)))
        intro g3 cp3 w3 own3 hgr3 hat3 hlt3
        have HG3 : Hid (w.grownBy w3 none) := grown_trans (grown_trans HG2.out (World.grownBy_alloc wr _ none) (fun _ _ _ => by simp)) hgr3 (fun q hq hne => by
          intro h
          simp only [Value.ownBlock, Option.some.injEq] at h
          have := HA2.out
          omega)
        have HA3 : Hid (w.heap.size ≤ g3) := by
          rcases hat3 with h | h
          · simp only [Value.ownBlock, Option.some.injEq] at h
            rw [← h]
            exact HA2
          · have := HG2.out.size
            exact (by omega : w.heap.size ≤ g3)
        have HO3 : Hid (w3.ownsRow w.heap.size 5 1 (.slice (some ⟨g3, 0, none⟩) (1 + (j + 1)) cp3) (1 + (j + 1)) (cellsU8 (ys2 ++ [IntKind.u8.wrap (7 * (j : Int) + 3)]))) := by
          rw [cellsU8_append]
          exact own3
        clear own3 hgr3 hat3 hlt3 own2 HG2 HA2
        go_wp2
        go_roundw
        case rel => exact ⟨j + 1, by omega, by go_num, HG3, g3, cp3, _, rfl, HO3, HA3⟩
        case measure => simp [intOf]; omega
      · obtain rfl : j = 70 := by omega
        have hcell : wr.cell? ⟨g2, 70, none⟩ = some (.int .u8 (ys2.getD 70 0)) := by
          have hl2 : ys2.length = 1 + 70 := by have := own2.1; rw [cellsU8_length] at this; omega
          rw [own2.cellAt 70 (by omega), cellsU8, List.getElem?_map, List.getElem?_eq_getElem (show 70 < ys2.length by omega)]
          simp [List.getD, List.getElem?_eq_getElem (show 70 < ys2.length by omega)]
        have hfr : wr.frozen? ⟨g2, 70, none⟩ = false := own2.frozenAt _
        have HO : Hid (wr.ownsRow w.heap.size 5 1 (.slice (some ⟨g2, 0, none⟩) (1 + 70) c2) (1 + 70) (cellsU8 ys2)) := own2
        clear own2 hlt
        go_wp2
        go_end0
        have hst := HO.out.stored 70 (.int .u8 77)
        refine ⟨rfl, grown_trans HG2.out hst.2 (fun q hq hne => ?_)⟩
        intro h
        simp only [Option.some.injEq] at h
        have := HA2.out
        omega

/-- cofferbook.SpoilBytes of a row that is owned: nothing else of what was there changes. -/
theorem spoil_any (B n : Nat) (v : Value) (zs : List Int) (w : World) (hn : n ≤ 200000) (hB : B ≤ w.heap.size) (hown : w.ownsRow B 5 1 v n (cellsU8 zs)) :
    Calls Tryd.prog 16 #[v] w fun e w' => e = .returned (.tuple #[]) ∧ w.grownBy w' v.ownBlock := by
  rcases hown.2 with ⟨rfl, rfl⟩ | ⟨g, c, cur, rfl, _⟩
  · exact spoil_nil w
  · exact spoil_some B n g c zs w hn hB hown
end Go.Proofs.YtgmfiljjogdccaaDoor
namespace Go.Proofs.YtgmfiljjogdccaaDoor
open Go.RowKit
set_option linter.unusedVariables false
/-- A list of bytes as numbers. -/
def nat8K (zs : List Int) (i : Nat) : Nat := (zs.getD i 0).toNat
theorem nat8K_lt {zs : List Int} (h : AllBytes zs) (i : Nat) : nat8K zs i < 256 := by have := h i; unfold nat8K; omega
theorem nat8K_eq {zs : List Int} (h : AllBytes zs) (i : Nat) : ((nat8K zs i : Nat) : Int) = zs.getD i 0 := by have := h i; unfold nat8K; omega
theorem View.belowK {w u : World} {v : Value} {zs : List Int} (h : View w v zs) (hb : Below w.heap.size w u) : View u v zs := h.kept hb.block
theorem RC.belowK {w w' : World} (h : RC w) (hb : Below w.heap.size w w') (h0 : 0 < w.heap.size) : RC w' := fun i hi => (hb.cell (p := ⟨0, i, none⟩) h0).trans (h i hi)
theorem num_okK (x : Int) (w : World) : Calls Tryd.prog 11 #[.int .i64 x] w fun e w' => e = .returned (.int .i64 x) ∧ w' = w := by
  go_enter Tryd.func11, Tryd.ntmps11
  go_wp2
  go_ret
  exact ⟨rfl, rfl⟩
theorem there_sameK {u u' : World} {B o n : Nat} (h : u.there B o n) (e : u'.heap[B]? = u.heap[B]?) : u'.there B o n := fun j hj => by
  rw [World.cell?_of_block (a := ⟨B, o + j, none⟩) e, World.frozen?_of_block (a := ⟨B, o + j, none⟩) e]; exact h j hj
theorem KeyAt.sameK {u u' : World} {g nr : Nat} {K : Nat → Nat} (h : KeyAt u g nr K) (e : u'.heap[g]? = u.heap[g]?) (hs : u.heap.size ≤ u'.heap.size) : KeyAt u' g nr K := by
  have c : ∀ j : Nat, u'.cell? ⟨g, j, none⟩ = u.cell? ⟨g, j, none⟩ := fun j => World.cell?_of_block (a := ⟨g, j, none⟩) e
  exact ⟨⟨(c _).trans h.ciph.rounds, fun i hi => (c _).trans (h.ciph.words i hi), h.ciph.small, ⟨fun b hb => (c _).trans (h.ciph.tab.s b hb), fun b hb => (c _).trans (h.ciph.tab.u b hb), fun b hb => (c _).trans (h.ciph.tab.m b hb), fun b hb => (c _).trans (h.ciph.tab.n b hb)⟩, Nat.lt_of_lt_of_le h.ciph.here hs, h.ciph.some, h.ciph.most⟩, (c _).trans h.count, there_sameK h.room e⟩
theorem rnew_ok (kb ko n cap nk : Nat) (key : Nat → Nat) (w : World) (hnk : nk = 4 ∨ nk = 6 ∨ nk = 8) (hn : n = 4 * nk) (hkb : kb < w.heap.size) (hcell : ∀ i, i < n → w.cell? ⟨kb, ko + i, none⟩ = some (.int .u8 (key i : Nat))) (hkey : ∀ i, key i < 256) :
    Calls Tryd.prog 10 #[.slice (some ⟨kb, ko, none⟩) n cap] w fun e w' => ∃ gr, e = .returned (.tuple #[.pointer (some ⟨w.heap.size, 0, none⟩), .int .i64 0]) ∧ RefAt w' w.heap.size gr nk (schedK nk key) ∧ Below w.heap.size w w' := by
  subst hn
  rcases hnk with rfl | rfl | rfl
  · exact rnew4_ok kb ko cap key w hkb hcell hkey
  · exact rnew6_ok kb ko cap key w hkb hcell hkey
  · exact rnew8_ok kb ko cap key w hkb hcell hkey
theorem marked_owns {B g c : Nat} {w : World} {zs : List Int} (h : w.ownsRow B 5 1 (.slice (some ⟨g, 0, none⟩) (zs.length + 70) c) (zs.length + 70) (cellsU8 (zs ++ marks 70))) : w.ownsRow B 5 1 (.slice (some ⟨g, 0, none⟩) zs.length c) zs.length (cellsU8 zs) := by
  refine ⟨by rw [cellsU8_length]; omega, .inr ?_⟩
  rcases h.2 with ⟨h', _⟩ | ⟨g', c', cur, he, h1, h2, h3, h4, h5, h6⟩
  · cases h'
  · simp only [Value.slice.injEq, Option.some.injEq, Addr.mk.injEq, and_true, true_and] at he
    obtain ⟨rfl, rfl⟩ := he
    refine ⟨g, c, cur, rfl, h1, h2, by omega, h4, h5, ?_⟩
    have := congrArg (List.take (zs.length * 1)) h6
    rw [List.take_take, Nat.min_eq_left (by omega), cellsU8_append, Nat.mul_one, List.take_left' (cellsU8_length zs)] at this
    rw [Nat.mul_one]
    exact this
/-- Both sides' keys. -/
structure LwS (w : World) (g g2 gr nk : Nat) (K : Nat → Nat) (u : World) : Prop where
  old : Below w.heap.size w u
  k : KeyAt u g (nk + 6) K
  r : RefAt u g2 gr nk K
  kg : w.heap.size ≤ g ∧ g < g2 ∧ g2 < gr
theorem LwS.lt {w u : World} {g g2 gr nk : Nat} {K : Nat → Nat} (h : LwS w g g2 gr nk K u) : g < u.heap.size ∧ g2 < u.heap.size ∧ gr < u.heap.size := ⟨h.k.ciph.here, h.r.lt, h.r.ltr⟩
theorem LwS.below {w u u' : World} {g g2 gr nk : Nat} {K : Nat → Nat} (h : LwS w g g2 gr nk K u) (hb : Below u.heap.size u u') : LwS w g g2 gr nk K u' :=
  ⟨h.old.trans (hb.mono h.old.size), h.k.sameK (hb.block g h.lt.1) hb.size, h.r.keep (hb.block g2 h.lt.2.1) (hb.block gr h.lt.2.2) hb.size, h.kg⟩
theorem LwS.touch {w u u' : World} {g g2 gr nk : Nat} {K : Nat → Nat} (h : LwS w g g2 gr nk K u) (ht : Touch u u' g 4 1) (hk : KeyAt u' g (nk + 6) K) : LwS w g g2 gr nk K u' := by
  have := h.kg
  exact ⟨h.old.trans (ht.toBelow this.1 h.old.size), hk, h.r.keep (ht.block g2 h.lt.2.1 (by omega)) (ht.block gr h.lt.2.2 (by omega)) ht.size, h.kg⟩
theorem LwS.grown {w u u' : World} {g g2 gr nk t : Nat} {K : Nat → Nat} (h : LwS w g g2 gr nk K u) (hg : u.grownBy u' (some t)) (ht : w.heap.size ≤ t) (h1 : t ≠ g) (h2 : t ≠ g2) (h3 : t ≠ gr) : LwS w g g2 gr nk K u' :=
  ⟨h.old.grown hg h.old.size (fun q hq => by simp at hq; omega), h.k.sameK (hg.block g h.lt.1 (by simp; omega)) hg.size, h.r.keep (hg.block g2 h.lt.2.1 (by simp; omega)) (hg.block gr h.lt.2.2 (by simp; omega)) hg.size, h.kg⟩
/-- Words where they lie. -/
structure Wr (u : World) (t m : Nat) (K : Nat → Nat) : Prop where
  lt : t < u.heap.size
  c : ∀ i, i < m → u.cell? ⟨t, i, none⟩ = some (.int .u32 (K i : Nat))
theorem Wr.same {u u' : World} {t m : Nat} {K : Nat → Nat} (h : Wr u t m K) (e : u'.heap[t]? = u.heap[t]?) (hs : u.heap.size ≤ u'.heap.size) : Wr u' t m K :=
  ⟨Nat.lt_of_lt_of_le h.lt hs, fun i hi => (World.cell?_of_block (a := ⟨t, i, none⟩) e).trans (h.c i hi)⟩
theorem Wr.below {u u' : World} {t m : Nat} {K : Nat → Nat} (h : Wr u t m K) (hb : Below u.heap.size u u') : Wr u' t m K := h.same (hb.block t h.lt) hb.size
theorem own_wr {u : World} {B m : Nat} {v : Value} {K : Nat → Nat} (h : u.ownsRow B 50 1 v m (wordsL K m)) (hm : 0 < m) : ∃ t c, v = .slice (some ⟨t, 0, none⟩) m c ∧ B ≤ t ∧ Wr u t m K := by
  have h0 := h
  rcases h.2 with ⟨_, h'⟩ | ⟨t, c, cur, rfl, h1, h2, _⟩
  · omega
  · refine ⟨t, c, rfl, h1, (Array.getElem?_eq_some_iff.1 h2).1, fun i hi => ?_⟩
    rw [h0.cellAt i (by omega)]
    exact wordsL_at K m i hi
theorem wordsL_u32 (K : Nat → Nat) (m : Nat) : wordsL K m = cellsU32 ((List.range m).map fun i => ((K i : Nat) : Int)) := by simp [wordsL, cellsU32]
set_option maxHeartbeats 3200000 in
set_option maxRecDepth 100000 in
theorem keys_bad (a : Option Addr) (cap : Nat) (kz : List Int) (w : World) (hv : View w (.slice a kz.length cap) kz) (hl : kz.length ≤ 140737488351232) (hn : kz.length ≠ 16 ∧ kz.length ≠ 24 ∧ kz.length ≠ 32) :
    Calls Tryd.prog 3 #[.slice a kz.length cap] w fun e w' => e = .returned (.bool true) ∧ Below w.heap.size w w' := by
  have KC : Hid (Calls Tryd.prog 8 #[.slice a kz.length cap] w fun e w' => ∃ v', e = .returned v' ∧ Marked w.heap.size w' v' kz ∧ Below w.heap.size w w') := copy_any _ kz w (by omega) hv
  have HV : Hid (View w (.slice a kz.length cap) kz) := hv
  have HN : Hid (kz.length ≠ 16 ∧ kz.length ≠ 24 ∧ kz.length ≠ 32) := hn
  clear hv hn
  obtain ⟨n, HNN⟩ : ∃ n, Hid (n = kz.length) := ⟨_, rfl⟩
  rw [← HNN.out] at KC HV HN hl ⊢
  go_enter Tryd.func3, Tryd.ntmps3
  go_wp2_with (first | (go_at_call 8; refine KC.out.mono ?_))
  rintro e1 w1 ⟨v1, rfl, hm1, hb1⟩
  obtain ⟨go, co, rfl, hgo⟩ := hm1
  have HM : Hid (Marked w.heap.size w1 (.slice (some ⟨go, 0, none⟩) n co) kz) := ⟨go, co, by rw [HNN.out], hgo⟩
  have HB : Hid (Below w.heap.size w w1) := hb1
  clear hgo hb1 KC
  rw [← HNN.out]
  have KN : Hid (Calls Tryd.prog 9 #[.slice (some ⟨go, 0, none⟩) n co] w1 fun e w' => e = .returned (.tuple #[.pointer none, .int .i64 20]) ∧ w' = w1) := new_bad _ n co w1 HN.out
  have KR : Hid (Calls Tryd.prog 10 #[.slice a n cap] w1 fun e w' => e = .returned (.tuple #[.pointer none, .int .i64 20]) ∧ w' = w1) := rnew_bad a n cap w1 HN.out
  have KW : Hid (Calls Tryd.prog 12 #[.slice (some ⟨go, 0, none⟩) n co, .slice a n cap] w1 fun e w' => e = .returned (.bool true) ∧ ∃ m, w' = w1.drewN m) := whole_any _ _ kz w.heap.size w1 HM.out (View.belowK HV.out HB.out)
  go_wp2_with (first
    | (go_at_call 9; refine KN.out.mono ?_; rintro e2 w2 ⟨rfl, hw2⟩; obtain rfl := hw2.symm)
    | (go_at_call 10; refine KR.out.mono ?_; rintro e2 w2 ⟨rfl, hw2⟩; obtain rfl := hw2.symm)
    | (go_at_call 11; refine (num_okK _ _).mono ?_; rintro e9 w9 ⟨rfl, hw9⟩; obtain rfl := hw9.symm)
    | (go_at_call 12; refine KW.out.mono ?_))
  rintro e3 w3 ⟨rfl, m3, rfl⟩
  go_wp2_with (first
    | (go_at_call 13; refine (size_nil _).mono ?_; rintro e9 w9 ⟨rfl, hw9⟩; obtain rfl := hw9.symm)
    | (go_at_call 14; refine (rounds_nil _).mono ?_; rintro e9 w9 ⟨rfl, hw9⟩; obtain rfl := hw9.symm)
    | (go_at_call 15; refine (words_nil _).mono ?_; rintro e9 w9 ⟨rfl, hw9⟩; obtain rfl := hw9.symm))
  go_ret
  exact ⟨rfl, Below.drewN HB.out _⟩
theorem Touch.grownT {w w' : World} {g o n : Nat} (h : Touch w w' g o n) : w.grownBy w' (some g) := ⟨h.os, h.tape, h.output, h.size, fun k hk hne => h.block k hk (fun e => hne (by rw [e]))⟩
theorem below_drewN (u : World) (m : Nat) : Below u.heap.size u (u.drewN m) := Below.drewN (Below.refl _ _) m
set_option maxHeartbeats 6400000 in
set_option maxRecDepth 100000 in
theorem keys_good (kb ko cap nk : Nat) (kz : List Int) (w : World) (hrc : RC w) (hnk : nk = 4 ∨ nk = 6 ∨ nk = 8) (hl : kz.length = 4 * nk) (hv : View w (.slice (some ⟨kb, ko, none⟩) (4 * nk) cap) kz) (hb : AllBytes kz) (hkb : kb < w.heap.size) (hcell : ∀ i, i < 4 * nk → w.cell? ⟨kb, ko + i, none⟩ = some (.int .u8 (kz.getD i 0))) :
    Calls Tryd.prog 3 #[.slice (some ⟨kb, ko, none⟩) (4 * nk) cap] w fun e w' => e = .returned (.bool true) ∧ Below w.heap.size w w' := by
  have KC : Hid (Calls Tryd.prog 8 #[.slice (some ⟨kb, ko, none⟩) (4 * nk) cap] w fun e w' => ∃ v', e = .returned v' ∧ Marked w.heap.size w' v' kz ∧ Below w.heap.size w w') := copy_any _ kz w (by omega) hv
  have HV : Hid (View w (.slice (some ⟨kb, ko, none⟩) (4 * nk) cap) kz) := hv
  have HPOS : Hid (0 < w.heap.size) := World.block_lt_of_cell? w _ (hrc 0 (by decide))
  have HRC : Hid (RC w) := hrc
  have HNK : Hid (nk = 4 ∨ nk = 6 ∨ nk = 8) := hnk
  have HL : Hid (kz.length = 4 * nk) := hl
  have HKB : Hid (kb < w.heap.size) := hkb
  have HKEY : Hid (∀ i, nat8K kz i < 256) := nat8K_lt hb
  have HBY : Hid (AllBytes kz) := hb
  have HCELL : Hid (∀ i, i < 4 * nk → w.cell? ⟨kb, ko + i, none⟩ = some (.int .u8 (nat8K kz i : Nat))) := fun i hi => by rw [hcell i hi, nat8K_eq hb]
  obtain ⟨K, HK⟩ : ∃ K, Hid (K = schedK nk (nat8K kz)) := ⟨_, rfl⟩
  have HKlt : Hid (∀ j, K j < 4294967296) := by show ∀ j, _; rw [HK.out]; exact schedK_lt HKEY.out
  have hnk8 : nk ≤ 8 := by omega
  clear hv hrc hnk hl hkb hcell hb
  obtain ⟨n, HN⟩ : ∃ n, Hid (n = 4 * nk) := ⟨_, rfl⟩
  obtain ⟨m, HM⟩ : ∃ m, Hid (m = 4 * (nk + 7)) := ⟨_, rfl⟩
  obtain ⟨nr, HNR⟩ : ∃ n, Hid (n = nk + 6) := ⟨_, rfl⟩
  have hm0 : 0 < m := by have := HM.out; omega
  have hm1 : m ≤ 1000 := by have := HM.out; omega
  rw [← HN.out] at KC HV ⊢
  go_enter Tryd.func3, Tryd.ntmps3
  go_wp2_with (first | (go_at_call 8; refine KC.out.mono ?_))
  rintro e1 w1 ⟨v1, rfl, hm1', hb1⟩
  obtain ⟨go, co, rfl, hgo⟩ := hm1'
  have HGO : Hid (w1.ownsRow w.heap.size 5 1 (.slice (some ⟨go, 0, none⟩) (kz.length + 70) co) (kz.length + 70) (cellsU8 (kz ++ marks 70))) := hgo
  have hgl := hgo.lt go rfl
  have HB1 : Hid (Below w.heap.size w w1) := hb1
  have HGL : Hid (w.heap.size ≤ go ∧ go < w1.heap.size) := hgl
  have hcz : ∀ i, i < n → w1.cell? ⟨go, 0 + i, none⟩ = some (.int .u8 (nat8K kz i : Nat)) := fun i hi => by
    have hil : i < kz.length := by have h1 := HN.out; have h2 := HL.out; omega
    rw [Nat.zero_add, (marked_owns hgo).cellAt i (by omega), cellsU8, List.getElem?_map, List.getElem?_eq_getElem hil]
    have hbn : ((nat8K kz i : Nat) : Int) = kz.getD i 0 := nat8K_eq HBY.out i
    rw [hbn, List.getD_eq_getElem?_getD, List.getElem?_eq_getElem hil]
    rfl
  have KN : Hid (Calls Tryd.prog 9 #[.slice (some ⟨go, 0, none⟩) n co] w1 fun e w' => ∃ g, e = .returned (.tuple #[.pointer (some ⟨g, 0, none⟩), .int .i64 0]) ∧ w1.heap.size ≤ g ∧ KeyAt w' g (nk + 6) K ∧ Below w1.heap.size w1 w') := by
    rw [HK.out]
    exact new_ok go 0 n co nk (nat8K kz) w1 HNK.out HN.out hgl.2 hcz HKEY.out (RC.belowK HRC.out (by exact hb1) HPOS.out) (Nat.lt_of_lt_of_le HPOS.out hb1.size)
  rw [show kz.length = n by rw [HL.out, HN.out]]
  clear hgo hb1 KC hgl hcz
  go_wp2_with (first | (go_at_call 9; refine KN.out.mono ?_))
  rintro e2 w2 ⟨g, rfl, hg2, hk2, hb2⟩
  have HB2 : Hid (Below w1.heap.size w1 w2) := hb2
  have HK2 : Hid (KeyAt w2 g (nk + 6) K ∧ w1.heap.size ≤ g) := ⟨hk2, hg2⟩
  have HBw2 : Hid (Below w.heap.size w w2) := HB1.out.trans (hb2.mono HB1.out.size)
  have KR : Hid (Calls Tryd.prog 10 #[.slice (some ⟨kb, ko, none⟩) n cap] w2 fun e w' => ∃ gr, e = .returned (.tuple #[.pointer (some ⟨w2.heap.size, 0, none⟩), .int .i64 0]) ∧ RefAt w' w2.heap.size gr nk K ∧ Below w2.heap.size w2 w') := by
    rw [HK.out]
    exact rnew_ok kb ko n cap nk (nat8K kz) w2 HNK.out HN.out (Nat.lt_of_lt_of_le HKB.out HBw2.out.size) (fun i hi => (HBw2.out.cell (p := ⟨kb, ko + i, none⟩) HKB.out).trans (HCELL.out i (by have := HN.out; omega))) HKEY.out
  clear hk2 hb2 hg2 KN
  go_wp2_with (first | (go_at_call 10; refine KR.out.mono ?_))
  rintro e3 w3 ⟨gr, rfl, hr3, hb3⟩
  obtain ⟨g2, HG2⟩ : ∃ x, Hid (x = w2.heap.size) := ⟨_, rfl⟩
  rw [← HG2.out] at hr3 ⊢
  have HS3 : Hid (LwS w g g2 gr nk K w3) := ⟨HBw2.out.trans (hb3.mono HBw2.out.size), HK2.out.1.sameK (hb3.block g HK2.out.1.ciph.here) hb3.size, hr3, by have := HB1.out.size; have := HK2.out.2; omega, by have := HK2.out.1.ciph.here; have := HG2.out; omega, hr3.gt⟩
  have HNE : Hid (go ≠ g ∧ go ≠ g2 ∧ go ≠ gr) := by
    have h1 := HGL.out; have h2 := HK2.out.2; have h3 := HS3.out.kg
    exact ⟨by omega, by omega, by omega⟩
  have HGO3 : Hid (w3.ownsRow w.heap.size 5 1 (.slice (some ⟨go, 0, none⟩) (kz.length + 70) co) (kz.length + 70) (cellsU8 (kz ++ marks 70))) :=
    HGO.out.kept (row := none) ⟨((HB2.out.trans (hb3.mono HB2.out.size))).os, (HB2.out.trans (hb3.mono HB2.out.size)).tape, (HB2.out.trans (hb3.mono HB2.out.size)).output, (HB2.out.trans (hb3.mono HB2.out.size)).size, fun k hk _ => (HB2.out.trans (hb3.mono HB2.out.size)).block k hk⟩ (by simp [Value.ownBlock])
  have KW : Hid (Calls Tryd.prog 12 #[.slice (some ⟨go, 0, none⟩) n co, .slice (some ⟨kb, ko, none⟩) n cap] w3 fun e w' => e = .returned (.bool true) ∧ ∃ m, w' = w3.drewN m) :=
    whole_any _ _ kz w.heap.size w3 ⟨go, co, by rw [HL.out, HN.out], HGO3.out⟩ (View.belowK HV.out HS3.out.old)
  clear hr3 hb3 KR HGO
  go_wp2_with (first
    | (go_at_call 11; refine (num_okK _ _).mono ?_; rintro e9 w9 ⟨rfl, hw9⟩; obtain rfl := hw9.symm)
    | (go_at_call 12; refine KW.out.mono ?_))
  rintro e4 w4 ⟨rfl, m4, hw4⟩
  have HS4 : Hid (LwS w g g2 gr nk K w4) := by rw [hw4]; exact HS3.out.below (below_drewN _ _)
  have HGO4 : Hid (w4.ownsRow w.heap.size 5 1 (.slice (some ⟨go, 0, none⟩) kz.length co) kz.length (cellsU8 kz)) := by rw [hw4]; exact marked_owns HGO3.out
  have KSp : Hid (Calls Tryd.prog 16 #[.slice (some ⟨go, 0, none⟩) n co] w4 fun e w' => e = .returned (.tuple #[]) ∧ w4.grownBy w' (some go)) := by
    have := spoil_any w.heap.size kz.length (.slice (some ⟨go, 0, none⟩) kz.length co) kz w4 (by have := HL.out; omega) HS4.out.old.size HGO4.out
    rw [show kz.length = n by rw [HL.out, HN.out]] at this
    exact this
  clear hw4 KW HS3 HGO3 HGO4
  go_wp2_with (first | (go_at_call 16; refine KSp.out.mono ?_))
  rintro e5 w5 ⟨rfl, hg5⟩
  have HS5 : Hid (LwS w g g2 gr nk K w5) := HS4.out.grown hg5 HGL.out.1 HNE.out.1 HNE.out.2.1 HNE.out.2.2
  clear hg5 HS4 KSp
  have KWo : Hid (∀ u, LwS w g g2 gr nk K u → Calls Tryd.prog 15 #[.pointer (some ⟨g, 0, none⟩)] u fun e w' => ∃ t c, e = .returned (.slice (some ⟨t, 0, none⟩) m c) ∧ u.heap.size ≤ t ∧ w'.ownsRow u.heap.size 50 1 (.slice (some ⟨t, 0, none⟩) m c) m (wordsL K m) ∧ Wr w' t m K ∧ LwS w g g2 gr nk K w' ∧ Touch u w' g 4 1) := fun u hu =>
    (words_ok g (nk + 6) K u hu.k).mono fun e w' ⟨v, he, ho, hk, ht⟩ => by
      rw [show 4 * (nk + 6 + 1) = m by have := HM.out; omega] at ho
      obtain ⟨t, c, rfl, h1, h2⟩ := own_wr ho hm0
      exact ⟨t, c, he, h1, ho, h2, hu.touch ht hk, ht⟩
  have KRw : Hid (∀ u, LwS w g g2 gr nk K u → Calls Tryd.prog 18 #[.pointer (some ⟨g2, 0, none⟩)] u fun e w' => ∃ t c, e = .returned (.slice (some ⟨t, 0, none⟩) m c) ∧ Wr w' t m K ∧ LwS w g g2 gr nk K w' ∧ Below u.heap.size u w') := fun u hu =>
    (rwords_ok g2 gr nk K u hu.r hnk8 HKlt.out).mono fun e w' ⟨v, he, ho, hb⟩ => by
      rw [← HM.out] at ho
      obtain ⟨t, c, rfl, h1, h2⟩ := own_wr ho hm0
      exact ⟨t, c, he, h2, hu.below hb, hb⟩
  go_wp2_with (first | (go_at_call 15; refine (KWo.out _ HS5.out).mono ?_))
  rintro e6 w6 ⟨ta, ca, rfl, hta, hoa, hwa, hs6, ht6⟩
  have HS6 : Hid (LwS w g g2 gr nk K w6 ∧ Wr w6 ta m K ∧ w6.ownsRow w5.heap.size 50 1 (.slice (some ⟨ta, 0, none⟩) m ca) m (wordsL K m)) := ⟨hs6, hwa, hoa⟩
  have HTA : Hid (w.heap.size ≤ ta ∧ ta ≠ g ∧ ta ≠ g2 ∧ ta ≠ gr) := by
    have h1 := HS5.out.lt; have h2 := HS5.out.old.size
    exact ⟨by omega, by omega, by omega, by omega⟩
  have HSZ5 : Hid (w5.heap.size ≤ w6.heap.size) := ht6.size
  clear hs6 hwa hoa hta ht6
  go_wp2_with (first | (go_at_call 15; refine (KWo.out _ HS6.out.1).mono ?_))
  rintro e7 w7 ⟨tb, cb, rfl, htb, hob, hwb, hs7, ht7⟩
  have HS7 : Hid (LwS w g g2 gr nk K w7 ∧ Wr w7 ta m K ∧ Wr w7 tb m K ∧ w7.ownsRow w5.heap.size 50 1 (.slice (some ⟨ta, 0, none⟩) m ca) m (wordsL K m)) :=
    ⟨hs7, HS6.out.2.1.same (ht7.block ta HS6.out.2.1.lt HTA.out.2.1) ht7.size, hwb, HS6.out.2.2.kept (row := some g) (Touch.grownT ht7) (by right; have := HTA.out.2.1; simp [Value.ownBlock]; exact this)⟩
  have HTB : Hid (tb ≠ g ∧ tb ≠ ta) := by
    have h1 := HS6.out.1.lt; have h2 := HS6.out.2.1.lt
    exact ⟨by omega, by omega⟩
  have HSZ6 : Hid (w5.heap.size ≤ w7.heap.size) := Nat.le_trans HSZ5.out ht7.size
  clear hs7 hwb hob htb ht7
  go_wp2_with (first | (go_at_call 18; refine (KRw.out _ HS7.out.1).mono ?_))
  rintro e8 w8 ⟨tc, cc, rfl, hwc, hs8, hb8⟩
  have HS8 : Hid (LwS w g g2 gr nk K w8 ∧ Wr w8 ta m K ∧ Wr w8 tb m K ∧ w8.ownsRow w5.heap.size 50 1 (.slice (some ⟨ta, 0, none⟩) m ca) m (wordsL K m)) :=
    ⟨hs8, HS7.out.2.1.below hb8, HS7.out.2.2.1.below hb8, HS7.out.2.2.2.kept (row := none) ⟨hb8.os, hb8.tape, hb8.output, hb8.size, fun k hk _ => hb8.block k hk⟩ (by simp [Value.ownBlock])⟩
  have KS1 : Hid (Calls Tryd.prog 17 #[.slice (some ⟨ta, 0, none⟩) m ca, .slice (some ⟨tc, 0, none⟩) m cc] w8 fun e w' => e = .returned (.bool true) ∧ ∃ m, w' = w8.drewN m) := sameW ta tc ca cc m K w8 hm1 HS8.out.2.1.c hwc.c
  have HSZ7 : Hid (w5.heap.size ≤ w8.heap.size) := Nat.le_trans HSZ6.out hb8.size
  clear hwc hs8 hb8
  go_wp2_with (first | (go_at_call 17; refine KS1.out.mono ?_))
  rintro e9 w9 ⟨rfl, m9, hw9⟩
  have HS9 : Hid (LwS w g g2 gr nk K w9 ∧ Wr w9 tb m K ∧ w9.ownsRow w5.heap.size 50 1 (.slice (some ⟨ta, 0, none⟩) m ca) m (wordsL K m) ∧ w5.heap.size ≤ w9.heap.size ∧ ta < w9.heap.size) := by
    rw [hw9]
    have hb := below_drewN w8 m9
    exact ⟨HS8.out.1.below hb, HS8.out.2.2.1.below hb, HS8.out.2.2.2.kept (row := none) ⟨hb.os, hb.tape, hb.output, hb.size, fun k hk _ => hb.block k hk⟩ (by simp [Value.ownBlock]), HSZ7.out, HS8.out.2.1.lt⟩
  clear hw9 KS1
  have KSz : Hid (Calls Tryd.prog 13 #[.pointer (some ⟨g, 0, none⟩)] w9 fun e w' => e = .returned (.int .i64 (n : Nat)) ∧ KeyAt w' g (nk + 6) K ∧ Touch w9 w' g 4 1) :=
    (size_ok g (nk + 6) K w9 HS9.out.1.k (by omega)).mono fun e w' ⟨h1, h2⟩ => ⟨by rw [h1, show 4 * (nk + 6 - 6) = n by have := HN.out; omega], h2⟩
  go_wp2_with (first | (go_at_call 13; refine KSz.out.mono ?_))
  rintro e10 w10 ⟨rfl, hk10, ht10⟩
  have HS10 : Hid (LwS w g g2 gr nk K w10 ∧ Wr w10 tb m K ∧ w10.ownsRow w5.heap.size 50 1 (.slice (some ⟨ta, 0, none⟩) m ca) m (wordsL K m) ∧ w5.heap.size ≤ w10.heap.size) :=
    ⟨HS9.out.1.touch ht10 hk10, HS9.out.2.1.same (ht10.block tb HS9.out.2.1.lt HTB.out.1) ht10.size, HS9.out.2.2.1.kept (row := some g) (Touch.grownT ht10) (by right; have := HTA.out.2.1; simp [Value.ownBlock]; exact this), Nat.le_trans HS9.out.2.2.2.1 ht10.size⟩
  clear hk10 ht10 KSz
  have KRo : Hid (Calls Tryd.prog 14 #[.pointer (some ⟨g, 0, none⟩)] w10 fun e w' => e = .returned (.int .i64 (nr : Nat)) ∧ KeyAt w' g (nk + 6) K ∧ Touch w10 w' g 4 1) :=
    (rounds_ok g (nk + 6) K w10 HS10.out.1.k).mono fun e w' ⟨h1, h2⟩ => ⟨by rw [h1, HNR.out], h2⟩
  go_wp2_with (first | (go_at_call 14; refine KRo.out.mono ?_))
  rintro e11 w11 ⟨rfl, hk11, ht11⟩
  have HS11 : Hid (LwS w g g2 gr nk K w11 ∧ Wr w11 tb m K ∧ w11.ownsRow w5.heap.size 50 1 (.slice (some ⟨ta, 0, none⟩) m ca) m (wordsL K m) ∧ w5.heap.size ≤ w11.heap.size) :=
    ⟨HS10.out.1.touch ht11 hk11, HS10.out.2.1.same (ht11.block tb HS10.out.2.1.lt HTB.out.1) ht11.size, HS10.out.2.2.1.kept (row := some g) (Touch.grownT ht11) (by right; have := HTA.out.2.1; simp [Value.ownBlock]; exact this), Nat.le_trans HS10.out.2.2.2 ht11.size⟩
  clear hk11 ht11 KRo
  have KRr : Hid (Calls Tryd.prog 19 #[.pointer (some ⟨g2, 0, none⟩)] w11 fun e w' => e = .returned (.int .i64 (nr : Nat)) ∧ w' = w11) :=
    (rrounds_ok g2 gr nk K w11 HS11.out.1.r hnk8).mono fun e w' ⟨h1, h2⟩ => ⟨by rw [h1, HNR.out], h2⟩
  have KSw : Hid (Calls Tryd.prog 20 #[.slice (some ⟨ta, 0, none⟩) m ca] w11 fun e w' => e = .returned (.tuple #[]) ∧ w11.grownBy w' (some ta)) :=
    spoilW w5.heap.size m ta ca ((List.range m).map fun i => ((K i : Nat) : Int)) w11 (by omega) HS11.out.2.2.2 (by rw [← wordsL_u32]; exact HS11.out.2.2.1)
  go_wp2_with (first
    | (go_at_call 19; refine KRr.out.mono ?_; rintro e12 w12 ⟨rfl, hw12⟩; obtain rfl := hw12.symm)
    | (go_at_call 20; refine KSw.out.mono ?_))
  rintro e13 w13 ⟨rfl, hg13⟩
  have HS13 : Hid (LwS w g g2 gr nk K w13 ∧ Wr w13 tb m K) :=
    ⟨HS11.out.1.grown hg13 HTA.out.1 HTA.out.2.1 HTA.out.2.2.1 HTA.out.2.2.2, HS11.out.2.1.same (hg13.block tb HS11.out.2.1.lt (by have := HTB.out.2; simp; exact this)) hg13.size⟩
  clear hg13 KRr KSw
  go_wp2_with (first | (go_at_call 18; refine (KRw.out _ HS13.out.1).mono ?_))
  rintro e14 w14 ⟨td, cd, rfl, hwd, hs14, hb14⟩
  have HS14 : Hid (LwS w g g2 gr nk K w14) := hs14
  have KS2 : Hid (Calls Tryd.prog 17 #[.slice (some ⟨tb, 0, none⟩) m cb, .slice (some ⟨td, 0, none⟩) m cd] w14 fun e w' => e = .returned (.bool true) ∧ ∃ m, w' = w14.drewN m) := sameW tb td cb cd m K w14 hm1 (HS13.out.2.below hb14).c hwd.c
  clear hwd hs14 hb14
  go_wp2_with (first | (go_at_call 17; refine KS2.out.mono ?_))
  rintro e15 w15 ⟨rfl, m15, hw15⟩
  have HS15 : Hid (LwS w g g2 gr nk K w15) := by rw [hw15]; exact HS14.out.below (below_drewN _ _)
  clear hw15 KS2
  go_wp2_with (first | (go_at_call 15; refine (KWo.out _ HS15.out).mono ?_))
  rintro e16 w16 ⟨te, ce, rfl, hte, hoe, hwe, hs16, ht16⟩
  have HS16 : Hid (LwS w g g2 gr nk K w16 ∧ Wr w16 te m K) := ⟨hs16, hwe⟩
  clear hte hoe hwe hs16 ht16
  go_wp2_with (first | (go_at_call 18; refine (KRw.out _ HS16.out.1).mono ?_))
  rintro e17 w17 ⟨tf, cf, rfl, hwf, hs17, hb17⟩
  have HS17 : Hid (LwS w g g2 gr nk K w17) := hs17
  have KS3 : Hid (Calls Tryd.prog 17 #[.slice (some ⟨te, 0, none⟩) m ce, .slice (some ⟨tf, 0, none⟩) m cf] w17 fun e w' => e = .returned (.bool true) ∧ ∃ m, w' = w17.drewN m) := sameW te tf ce cf m K w17 hm1 (HS16.out.2.below hb17).c hwf.c
  clear hwf hs17 hb17
  go_wp2_with (first | (go_at_call 17; refine KS3.out.mono ?_))
  rintro e18 w18 ⟨rfl, m18, hw18⟩
  go_wp2
  go_ret
  exact ⟨rfl, Below.drewN HS17.out.old _⟩
/-- The law. -/
theorem keys_any (v : Value) (kz : List Int) (w : World) (hrc : RC w) (hv : View w v kz) (hb : AllBytes kz) (hl : kz.length ≤ 140737488351232) :
    Calls Tryd.prog 3 #[v] w fun e w' => e = .returned (.bool true) ∧ Below w.heap.size w w' := by
  have hv0 := hv
  obtain ⟨a, cap, rfl, h1, h2, h3, h4⟩ := hv
  by_cases hn : kz.length = 16 ∨ kz.length = 24 ∨ kz.length = 32
  · obtain ⟨nk, hnk, hlen⟩ : ∃ nk, (nk = 4 ∨ nk = 6 ∨ nk = 8) ∧ kz.length = 4 * nk := by
      rcases hn with h | h | h
      · exact ⟨4, by decide, h⟩
      · exact ⟨6, by decide, h⟩
      · exact ⟨8, by decide, h⟩
    rcases h4 with rfl | ⟨b, off, rfl, hc⟩
    · simp at hn
    · have hbl : b < w.heap.size := World.block_lt_of_cell? w _ (hc 0 (by omega))
      rw [hlen] at hv0 hc ⊢
      exact keys_good b off cap nk kz w hrc hnk hlen hv0 hb hbl hc
  · exact keys_bad a cap kz w hv0 hl ⟨fun h => hn (.inl h), fun h => hn (.inr (.inl h)), fun h => hn (.inr (.inr h))⟩
end Go.Proofs.YtgmfiljjogdccaaDoor
