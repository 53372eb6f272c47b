import Derived.Test.YtcnikfikpnnblaaGreatDoorPart04
import Derived.Deep.AppendLies
namespace Go.Proofs.YtcnikfikpnnblaaGreatDoor
open Go.RowKit

theorem View.kept {w w' : World} {v : Value} {zs : List Int} (h : View w v zs) (hb : ∀ k, k < w.heap.size → w'.heap[k]? = w.heap[k]?) : View w' v zs := by
 obtain ⟨a, c, rfl, h1, h2, h3, h4⟩ := h
 refine ⟨a, c, rfl, h1, h2, h3, ?_⟩
 rcases h4 with h4 | ⟨b, off, rfl, hc⟩
 ·exact .inl h4
 ·refine .inr ⟨b, off, rfl, fun i hi => ?_⟩
  have := hc i hi
  have hlt := World.block_lt_of_cell? w _ this
  rw [World.cell?_of_block (w := w) (hb b hlt)]
  exact this

/-- A copy with marks behind it, in memory from block B on. -/
def Marked (B : Nat) (w : World) (v : Value) (zs : List Int) : Prop :=
 ∃ g c, v = .slice (some ⟨g, 0, none⟩) zs.length c ∧ w.ownsRow B 5 1 (.slice (some ⟨g, 0, none⟩) (zs.length + 70) c) (zs.length + 70) (cellsU8 (zs ++ marks 70))

theorem Marked.kept {B : Nat} {w w' : World} {v : Value} {zs : List Int} (h : Marked B w v zs) (hb : ∀ k, k < w.heap.size → w'.heap[k]? = w.heap[k]?) : Marked B w' v zs := by
 obtain ⟨g, c, rfl, hl, h⟩ := h
 refine ⟨g, c, rfl, hl, ?_⟩
 rcases h with ⟨h, _⟩ | ⟨g', c', cur, he, h1, h2, r⟩
 ·cases h
 ·refine .inr ⟨g', c', cur, he, h1, ?_, r⟩
  rw [hb g' (Array.getElem?_eq_some_iff.1 h2).1]
  exact h2

theorem Marked.cells {B : Nat} {w : World} {v : Value} {zs : List Int} (h : Marked B w v zs) :
  ∃ g c, v = .slice (some ⟨g, 0, none⟩) zs.length c ∧ zs.length + 70 ≤ c ∧ c ≤ maxLen ∧ (∀ i, i < zs.length → w.cell? ⟨g, i, none⟩ = some (.int .u8 (zs.getD i 0))) ∧ (∀ i, i < 70 → w.cell? ⟨g, zs.length + i, none⟩ = some (.int .u8 (181 + (i : Int)))) := by
 obtain ⟨g, c, rfl, ho⟩ := h
 have hc := ho.cells (g := g) rfl
 refine ⟨g, c, rfl, ?_, ?_, fun i hi => ?_, fun i hi => ?_⟩
 ·rcases ho.2 with ⟨h, _⟩ | ⟨g', c', cur, he, _, _, h1, _⟩
  ·cases h
  ·cases he; exact h1
 ·rcases ho.2 with ⟨h, _⟩ | ⟨g', c', cur, he, _, _, _, h1, _⟩
  ·cases h
  ·cases he; exact h1
 ·have := hc i (.int .u8 (zs.getD i 0)) (by
   simp only [cellsU8, List.getElem?_map]
   rw [List.getElem?_append_left hi]
   simp [List.getElem?_eq_getElem hi, List.getD])
  rw [Addr.add_lit] at this
  simpa using this
 ·have := hc (zs.length + i) (.int .u8 (181 + (i : Int))) (by
   simp only [cellsU8, List.getElem?_map]
   rw [List.getElem?_append_right (by omega)]
   simp [marks, hi])
  rw [Addr.add_lit] at this
  simpa using this

theorem Marked.view {B : Nat} {w : World} {v : Value} {zs : List Int} (h : Marked B w v zs) : View w v zs := by
 obtain ⟨g, c, rfl, h1, h2, h3, _⟩ := h.cells
 refine ⟨_, c, rfl, by omega, h2, ?_, Or.inr ⟨g, 0, rfl, fun i hi => by simpa using h3 i hi⟩⟩
 intro h
 cases h

/-- cofferbook.Bytes. -/
theorem copy_any (v : Value) (zs : List Int) (w : World) (hn : zs.length + 70 ≤ 140737488355328) (h : View w v zs) :
  Calls Tryz.prog 20 #[v] w fun e w' => ∃ v', e = .returned v' ∧ Marked w.heap.size w' v' zs ∧ Below w.heap.size w w' := by
 obtain ⟨a, c, rfl, h1, h2, h3, h4⟩ := h
 cases a with
 | none =>
  obtain rfl := h3 rfl
  have hz : zs = [] := List.eq_nil_of_length_eq_zero (by omega)
  subst hz
  refine (copy_nil w).mono ?_
  rintro e w' ⟨g, c, rfl, ho, hb⟩
  exact ⟨_, rfl, ⟨g, c, rfl, by simpa using ho⟩, hb⟩
 | some x =>
  have hc : ∀ j u, (cellsU8 zs)[j]? = some u → w.cell? (x.add j) = some u := by
   rcases h4 with rfl | ⟨b, off, he, hcell⟩
   ·intro j u hu
    simp [cellsU8] at hu
   ·cases he
    exact cellsU8_at zs w b off hcell
  refine (copy_some x zs.length c zs w rfl hn hc).mono ?_
  rintro e w' ⟨g, c, rfl, ho, hb⟩
  exact ⟨_, rfl, ⟨g, c, rfl, ho⟩, hb⟩

set_option maxHeartbeats 400000 in
theorem whole_core (g c n : Nat) (v2 : Value) (zs : List Int) (w : World) (hc : n + 70 ≤ c) (hm : c ≤ 9223372036854775807)
  (h1 : Hid (View w (.slice (some ⟨g, 0, none⟩) n c) zs)) (h2 : Hid (View w v2 zs))
  (h3 : ∀ i, i < 70 → w.cell? ⟨g, n + i, none⟩ = some (.int .u8 (181 + (i : Int)))) :
  Calls Tryz.prog 23 #[.slice (some ⟨g, 0, none⟩) n c, v2] w fun e w' => e = .returned (.bool true) ∧ ∃ m, w' = w.drewN m := by
 go_enter Tryz.func23, Tryz.ntmps23
 go_wp2_with fail
 refine (same_any _ _ zs zs _ h1.out h2.out).mono ?_
 rintro e w' ⟨rfl, m, rfl⟩
 simp only [decide_true]
 go_wp2
 go_loop [7] (fun i => ∃ k : Nat, k ≤ 70 ∧ i = .int .i64 k) (fun i => 70 - (intOf i).toNat)
 case atStart => exact ⟨0, by omega, rfl⟩
 case round =>
  obtain ⟨k, hk, rfl⟩ := hrel
  by_cases hlt : k < 70
  ·have g3 := h3 k hlt
   clear h3
   go_wp2
   go_round
   case rel => exact ⟨k + 1, by omega, by go_num⟩
   case measure => simp [intOf]; omega
  ·go_wp2
   go_ret
   exact ⟨rfl, m, rfl⟩

/-- cofferbook.WholeBytes, of a copy that is as it was made. -/
theorem whole_any (v1 v2 : Value) (zs : List Int) (B : Nat) (w : World) (h1 : Marked B w v1 zs) (h2 : View w v2 zs) :
  Calls Tryz.prog 23 #[v1, v2] w fun e w' => e = .returned (.bool true) ∧ ∃ m, w' = w.drewN m := by
 have hv := h1.view
 obtain ⟨g, c, rfl, hc, hm, _, h4⟩ := h1.cells
 exact whole_core g c zs.length v2 zs w hc (by unfold maxLen at hm; omega) hv h2 h4
end Go.Proofs.YtcnikfikpnnblaaGreatDoor
namespace Go.Proofs.YtcnikfikpnnblaaGreatDoor.Dg
open Go.RowKit

theorem View.kept {w w' : World} {v : Value} {zs : List Int} (h : View w v zs) (hb : ∀ k, k < w.heap.size → w'.heap[k]? = w.heap[k]?) : View w' v zs := by
 obtain ⟨a, c, rfl, h1, h2, h3, h4⟩ := h
 refine ⟨a, c, rfl, h1, h2, h3, ?_⟩
 rcases h4 with h4 | ⟨b, off, rfl, hc⟩
 ·exact .inl h4
 ·refine .inr ⟨b, off, rfl, fun i hi => ?_⟩
  have := hc i hi
  have hlt := World.block_lt_of_cell? w _ this
  rw [World.cell?_of_block (w := w) (hb b hlt)]
  exact this

/-- A copy with marks behind it, in memory from block B on. -/
def Marked (B : Nat) (w : World) (v : Value) (zs : List Int) : Prop :=
 ∃ g c, v = .slice (some ⟨g, 0, none⟩) zs.length c ∧ w.ownsRow B 5 1 (.slice (some ⟨g, 0, none⟩) (zs.length + 70) c) (zs.length + 70) (cellsU8 (zs ++ marks 70))

theorem Marked.kept {B : Nat} {w w' : World} {v : Value} {zs : List Int} (h : Marked B w v zs) (hb : ∀ k, k < w.heap.size → w'.heap[k]? = w.heap[k]?) : Marked B w' v zs := by
 obtain ⟨g, c, rfl, hl, h⟩ := h
 refine ⟨g, c, rfl, hl, ?_⟩
 rcases h with ⟨h, _⟩ | ⟨g', c', cur, he, h1, h2, r⟩
 ·cases h
 ·refine .inr ⟨g', c', cur, he, h1, ?_, r⟩
  rw [hb g' (Array.getElem?_eq_some_iff.1 h2).1]
  exact h2

theorem Marked.cells {B : Nat} {w : World} {v : Value} {zs : List Int} (h : Marked B w v zs) :
  ∃ g c, v = .slice (some ⟨g, 0, none⟩) zs.length c ∧ zs.length + 70 ≤ c ∧ c ≤ maxLen ∧ (∀ i, i < zs.length → w.cell? ⟨g, i, none⟩ = some (.int .u8 (zs.getD i 0))) ∧ (∀ i, i < 70 → w.cell? ⟨g, zs.length + i, none⟩ = some (.int .u8 (181 + (i : Int)))) := by
 obtain ⟨g, c, rfl, ho⟩ := h
 have hc := ho.cells (g := g) rfl
 refine ⟨g, c, rfl, ?_, ?_, fun i hi => ?_, fun i hi => ?_⟩
 ·rcases ho.2 with ⟨h, _⟩ | ⟨g', c', cur, he, _, _, h1, _⟩
  ·cases h
  ·cases he; exact h1
 ·rcases ho.2 with ⟨h, _⟩ | ⟨g', c', cur, he, _, _, _, h1, _⟩
  ·cases h
  ·cases he; exact h1
 ·have := hc i (.int .u8 (zs.getD i 0)) (by
   simp only [cellsU8, List.getElem?_map]
   rw [List.getElem?_append_left hi]
   simp [List.getElem?_eq_getElem hi, List.getD])
  rw [Addr.add_lit] at this
  simpa using this
 ·have := hc (zs.length + i) (.int .u8 (181 + (i : Int))) (by
   simp only [cellsU8, List.getElem?_map]
   rw [List.getElem?_append_right (by omega)]
   simp [marks, hi])
  rw [Addr.add_lit] at this
  simpa using this

theorem Marked.view {B : Nat} {w : World} {v : Value} {zs : List Int} (h : Marked B w v zs) : View w v zs := by
 obtain ⟨g, c, rfl, h1, h2, h3, _⟩ := h.cells
 refine ⟨_, c, rfl, by omega, h2, ?_, Or.inr ⟨g, 0, rfl, fun i hi => by simpa using h3 i hi⟩⟩
 intro h
 cases h

/-- cofferbook.Bytes. -/
theorem copy_any (v : Value) (zs : List Int) (w : World) (hn : zs.length + 70 ≤ 140737488355328) (h : View w v zs) :
  Calls Tryz.prog 20 #[v] w fun e w' => ∃ v', e = .returned v' ∧ Marked w.heap.size w' v' zs ∧ Below w.heap.size w w' := by
 obtain ⟨a, c, rfl, h1, h2, h3, h4⟩ := h
 cases a with
 | none =>
  obtain rfl := h3 rfl
  have hz : zs = [] := List.eq_nil_of_length_eq_zero (by omega)
  subst hz
  refine (copy_nil w).mono ?_
  rintro e w' ⟨g, c, rfl, ho, hb⟩
  exact ⟨_, rfl, ⟨g, c, rfl, by simpa using ho⟩, hb⟩
 | some x =>
  have hc : ∀ j u, (cellsU8 zs)[j]? = some u → w.cell? (x.add j) = some u := by
   rcases h4 with rfl | ⟨b, off, he, hcell⟩
   ·intro j u hu
    simp [cellsU8] at hu
   ·cases he
    exact cellsU8_at zs w b off hcell
  refine (copy_some x zs.length c zs w rfl hn hc).mono ?_
  rintro e w' ⟨g, c, rfl, ho, hb⟩
  exact ⟨_, rfl, ⟨g, c, rfl, ho⟩, hb⟩

set_option maxHeartbeats 400000 in
theorem whole_core (g c n : Nat) (v2 : Value) (zs : List Int) (w : World) (hc : n + 70 ≤ c) (hm : c ≤ 9223372036854775807)
  (h1 : Hid (View w (.slice (some ⟨g, 0, none⟩) n c) zs)) (h2 : Hid (View w v2 zs))
  (h3 : ∀ i, i < 70 → w.cell? ⟨g, n + i, none⟩ = some (.int .u8 (181 + (i : Int)))) :
  Calls Tryz.prog 23 #[.slice (some ⟨g, 0, none⟩) n c, v2] w fun e w' => e = .returned (.bool true) ∧ ∃ m, w' = w.drewN m := by
 go_enter Tryz.func23, Tryz.ntmps23
 go_wp2_with fail
 refine (same_any _ _ zs zs _ h1.out h2.out).mono ?_
 rintro e w' ⟨rfl, m, rfl⟩
 simp only [decide_true]
 go_wp2
 go_loop [7] (fun i => ∃ k : Nat, k ≤ 70 ∧ i = .int .i64 k) (fun i => 70 - (intOf i).toNat)
 case atStart => exact ⟨0, by omega, rfl⟩
 case round =>
  obtain ⟨k, hk, rfl⟩ := hrel
  by_cases hlt : k < 70
  ·have g3 := h3 k hlt
   clear h3
   go_wp2
   go_round
   case rel => exact ⟨k + 1, by omega, by go_num⟩
   case measure => simp [intOf]; omega
  ·go_wp2
   go_ret
   exact ⟨rfl, m, rfl⟩

/-- cofferbook.WholeBytes, of a copy that is as it was made. -/
theorem whole_any (v1 v2 : Value) (zs : List Int) (B : Nat) (w : World) (h1 : Marked B w v1 zs) (h2 : View w v2 zs) :
  Calls Tryz.prog 23 #[v1, v2] w fun e w' => e = .returned (.bool true) ∧ ∃ m, w' = w.drewN m := by
 have hv := h1.view
 obtain ⟨g, c, rfl, hc, hm, _, h4⟩ := h1.cells
 exact whole_core g c zs.length v2 zs w hc (by unfold maxLen at hm; omega) hv h2 h4
end Go.Proofs.YtcnikfikpnnblaaGreatDoor.Dg
namespace Go.Proofs.YtcnikfikpnnblaaGreatDoor.Dg
open Go.RowKit

theorem grown_trans {w w1 w2 : World} {g g' : Option Nat} (h1 : w.grownBy w1 g) (h2 : w1.grownBy w2 g') (hg : ∀ k, k < w.heap.size → some k ≠ g → some k ≠ g') : w.grownBy w2 g :=
 ⟨h2.os.trans h1.os, h2.tape.trans h1.tape, h2.output.trans h1.output, Nat.le_trans h1.size h2.size, fun k hk hne => (h2.block k (Nat.lt_of_lt_of_le hk h1.size) (hg k hk hne)).trans (h1.block k hk hne)⟩
theorem grown_refl (w : World) (g : Option Nat) : w.grownBy w g := ⟨rfl, rfl, rfl, Nat.le_refl _, fun _ _ _ => rfl⟩

set_option maxHeartbeats 1600000 in
set_option maxRecDepth 100000 in
theorem spoil_some (B n g cap : Nat) (zs : List Int) (w : World) (hn : n ≤ 5000000) (hB : B ≤ w.heap.size)
  (hown : w.ownsRow B 5 1 (.slice (some ⟨g, 0, none⟩) n cap) n (cellsU8 zs)) :
  Calls Tryz.prog 58 #[.slice (some ⟨g, 0, none⟩) n cap] w fun e w' => e = .returned (.tuple #[]) ∧ w.grownBy w' (some g) := by
 obtain ⟨i0, hi, hz0, hz1, hz2⟩ := info_parts Tryz.info5
 go_enter Tryz.func58, Tryz.ntmps58
 go_wp2
 go_loopw [2] (fun i wr => ∃ k : Nat, k ≤ n ∧ i = .int .i64 k ∧ (∃ ys : List Int, wr.ownsRow B 5 1 (.slice (some ⟨g, 0, none⟩) n cap) n (cellsU8 ys)) ∧ Hid (w.grownBy wr (some g))) (fun i _ => n - (intOf i).toNat)
 case atStart => exact ⟨0, by omega, rfl, ⟨zs, hown⟩, grown_refl _ _⟩
 case round =>
  obtain ⟨k, hk, rfl, ⟨ys, hown2⟩, HG⟩ := hrel
  have hyl : ys.length = n := by have := hown2.1; rw [cellsU8_length] at this; omega
  clear hown
  by_cases hlt : k < n
  ·obtain ⟨y, hy⟩ : ∃ y, ys[k]? = some y := ⟨ys[k], List.getElem?_eq_getElem (by omega)⟩
   have hcell : wr.cell? ⟨g, k, none⟩ = some (.int .u8 y) := by
    rw [hown2.cellAt k (by omega), cellsU8, List.getElem?_map, hy]
    rfl
   have hfr : wr.frozen? ⟨g, k, none⟩ = false := hown2.frozenAt k
   have HO : Hid (wr.ownsRow B 5 1 (.slice (some ⟨g, 0, none⟩) n cap) n (cellsU8 ys)) := hown2
   clear hown2 hy hyl
   go_wp2
   have hst := HO.out.stored k (.int .u8 (bits .xor .u8 y 165))
   have HO3 : Hid ((wr.setCell ⟨g, k, none⟩ (.int .u8 (bits .xor .u8 y 165))).ownsRow B 5 1 (.slice (some ⟨g, 0, none⟩) n cap) n (cellsU8 (ys.set k (bits .xor .u8 y 165)))) := by
    rw [cellsU8, List.map_set]
    exact hst.1
   have HG3 : Hid (w.grownBy (wr.setCell ⟨g, k, none⟩ (.int .u8 (bits .xor .u8 y 165))) (some g)) := grown_trans HG.out hst.2 (fun _ _ h => h)
   clear hst HO HG
   go_roundw
   case rel => exact ⟨k + 1, by omega, by go_num, ⟨_, HO3⟩, HG3⟩
   case measure => simp [intOf]; omega
  ·obtain rfl : k = n := by omega
   go_wp2_with (first | (at_builtin; go_must (refine wpList_append_lies _ rfl (.tmp 18) (.tmp 19) 24 rfl B 5 i0 (.int .u8 0) 1 1 Tryz.underlying24 hi hz0 hz1 hz2 rfl (by decide) _ _ _ rfl (hown2.alloc _) ⟨wr.heap.size, 0, none⟩ 1 1 (cellsU8 [1]) rfl rfl (World.news_of_block (heap_alloc_new wr _)) (cellsU8_one _) (by decide) (by unfold maxLen; omega) (by omega) (by have := HG.out.size; simp; omega) (wr.heap.size + 1) (by simp) ?_)))
   intro g1 cp1 w1 own1 hgr1 hat1 hlt1
   have HG1 : Hid (w.grownBy w1 (some g)) := grown_trans (grown_trans HG.out (World.grownBy_alloc wr _ none) (fun _ _ _ => by simp)) hgr1 (fun q _ hq => hq)
   have HA1 : Hid (g1 = g ∨ w.heap.size ≤ g1) := by
    rcases hat1 with h | h
    ·left
     simpa [Value.ownBlock] using h.symm
    ·right
     have := HG.out.size
     omega
   have HO1 : Hid (w1.ownsRow B 5 1 (.slice (some ⟨g1, 0, none⟩) (k + 1) cp1) (k + 1) (cellsU8 (ys ++ [1]))) := by
    rw [cellsU8_append]
    exact own1
   clear own1 hgr1 hat1 hlt1 hown2 HG hyl hk hlt
   go_wp2
   go_loopw [0, 3] (fun l i wr => ∃ j : Nat, j ≤ 70 ∧ i = .int .i64 j ∧ Hid (w.grownBy wr (some g)) ∧ ∃ g2 c2 ys2, l = .slice (some ⟨g2, 0, none⟩) (k + 1 + j) c2 ∧ wr.ownsRow B 5 1 (.slice (some ⟨g2, 0, none⟩) (k + 1 + j) c2) (k + 1 + j) (cellsU8 ys2) ∧ Hid (g2 = g ∨ w.heap.size ≤ g2)) (fun _ i _ => 70 - (intOf i).toNat)
   case atStart => exact ⟨0, by omega, rfl, HG1, g1, cp1, _, rfl, HO1, HA1⟩
   case round =>
    obtain ⟨j, hj, rfl, HG2, g2, c2, ys2, rfl, own2, HA2⟩ := hrel
    clear HG1 HA1 HO1
    by_cases hlt : j < 70
    ·go_wp2_with (first | (at_builtin; go_must (refine wpList_append_lies _ rfl (.tmp 25) (.tmp 30) 24 rfl B 5 i0 (.int .u8 0) 1 1 Tryz.underlying24 hi hz0 hz1 hz2 rfl (by decide) _ _ _ rfl (own2.alloc _) ⟨wr.heap.size, 0, none⟩ 1 1 (cellsU8 [IntKind.u8.wrap (7 * (j : Int) + 3)]) rfl rfl (World.news_of_block (heap_alloc_new wr _)) (cellsU8_one _) (by decide) (by unfold maxLen; omega) (by omega) (by have := HG2.out.size; simp; omega) (wr.heap.size + 1) (by simp) ?_)))
     intro g3 cp3 w3 own3 hgr3 hat3 hlt3
     have HG3 : Hid (w.grownBy w3 (some g)) := grown_trans (grown_trans HG2.out (World.grownBy_alloc wr _ none) (fun _ _ _ => by simp)) hgr3 (fun q hq hne => by
      intro h
      simp only [Value.ownBlock, Option.some.injEq] at h
      rcases HA2.out with e | e
      ·exact hne (by rw [h, e])
      ·omega)
     have HA3 : Hid (g3 = g ∨ w.heap.size ≤ g3) := by
      rcases hat3 with h | h
      ·simp only [Value.ownBlock, Option.some.injEq] at h
       rw [← h]
       exact HA2
      ·right
       have := HG2.out.size
       omega
     have HO3 : Hid (w3.ownsRow B 5 1 (.slice (some ⟨g3, 0, none⟩) (k + 1 + (j + 1)) cp3) (k + 1 + (j + 1)) (cellsU8 (ys2 ++ [IntKind.u8.wrap (7 * (j : Int) + 3)]))) := by
      rw [cellsU8_append]
      exact own3
     clear own3 hgr3 hat3 hlt3 own2 HG2 HA2
     go_wp2
     go_roundw
     case rel => exact ⟨j + 1, by omega, by go_num, HG3, g3, cp3, _, rfl, HO3, HA3⟩
     case measure => simp [intOf]; omega
    ·obtain rfl : j = 70 := by omega
     have hcell : wr.cell? ⟨g2, k + 70, none⟩ = some (.int .u8 (ys2.getD (k + 70) 0)) := by
      have hl2 : ys2.length = k + 1 + 70 := by have := own2.1; rw [cellsU8_length] at this; omega
      rw [own2.cellAt (k + 70) (by omega), cellsU8, List.getElem?_map, List.getElem?_eq_getElem (show k + 70 < ys2.length by omega)]
      simp [List.getD, List.getElem?_eq_getElem (show k + 70 < ys2.length by omega)]
     have hfr : wr.frozen? ⟨g2, k + 70, none⟩ = false := own2.frozenAt _
     have HO : Hid (wr.ownsRow B 5 1 (.slice (some ⟨g2, 0, none⟩) (k + 1 + 70) c2) (k + 1 + 70) (cellsU8 ys2)) := own2
     clear own2 hlt
     go_wp2
     go_end0
     have hst := HO.out.stored (k + 70) (.int .u8 77)
     refine ⟨rfl, grown_trans HG2.out hst.2 (fun q hq hne => ?_)⟩
     intro h
     simp only [Option.some.injEq] at h
     rcases HA2.out with e | e
     ·exact hne (by rw [h, e])
     ·omega
end Go.Proofs.YtcnikfikpnnblaaGreatDoor.Dg
namespace Go.Proofs.YtcnikfikpnnblaaGreatDoor.Dg
open Go.RowKit

set_option maxHeartbeats 1600000 in
set_option maxRecDepth 100000 in
theorem spoil_nil (w : World) :
  Calls Tryz.prog 58 #[.slice none 0 0] w fun e w' => e = .returned (.tuple #[]) ∧ w.grownBy w' none := by
 obtain ⟨i0, hi, hz0, hz1, hz2⟩ := info_parts Tryz.info5
 have hown : w.ownsRow w.heap.size 5 1 (.slice none 0 0) 0 (cellsU8 []) := ⟨rfl, .inl ⟨rfl, rfl⟩⟩
 go_enter Tryz.func58, Tryz.ntmps58
 go_wp2
 go_loop [2] (fun i => i = .int .i64 0) (fun _ => 0)
 case atStart => exact rfl
 case round =>
  obtain rfl := hrel
  go_wp2_with (first | (at_builtin; go_must (refine wpList_append_lies _ rfl (.tmp 18) (.tmp 19) 24 rfl w.heap.size 5 i0 (.int .u8 0) 1 1 Tryz.underlying24 hi hz0 hz1 hz2 rfl (by decide) _ _ _ rfl (hown.alloc _) ⟨w.heap.size, 0, none⟩ 1 1 (cellsU8 [1]) rfl rfl (World.news_of_block (heap_alloc_new w _)) (cellsU8_one _) (by decide) (by unfold maxLen; omega) (by omega) (by simp) (w.heap.size + 1) (by simp) ?_)))
  intro g1 cp1 w1 own1 hgr1 hat1 hlt1
  have HG1 : Hid (w.grownBy w1 none) := grown_trans (World.grownBy_alloc w _ none) hgr1 (fun q _ hq => hq)
  have HA1 : Hid (w.heap.size ≤ g1) := by
   rcases hat1 with h | h
   ·simp [Value.ownBlock] at h
   ·exact (by omega : w.heap.size ≤ g1)
  have HO1 : Hid (w1.ownsRow w.heap.size 5 1 (.slice (some ⟨g1, 0, none⟩) 1 cp1) 1 (cellsU8 [1])) := own1
  clear own1 hgr1 hat1 hlt1 hown
  go_wp2
  go_loopw [0, 3] (fun l i wr => ∃ j : Nat, j ≤ 70 ∧ i = .int .i64 j ∧ Hid (w.grownBy wr none) ∧ ∃ g2 c2 ys2, l = .slice (some ⟨g2, 0, none⟩) (1 + j) c2 ∧ wr.ownsRow w.heap.size 5 1 (.slice (some ⟨g2, 0, none⟩) (1 + j) c2) (1 + j) (cellsU8 ys2) ∧ Hid (w.heap.size ≤ g2)) (fun _ i _ => 70 - (intOf i).toNat)
  case atStart => exact ⟨0, by omega, rfl, HG1, g1, cp1, _, rfl, HO1, HA1⟩
  case round =>
   obtain ⟨j, hj, rfl, HG2, g2, c2, ys2, rfl, own2, HA2⟩ := hrel
   clear HG1 HA1 HO1
   by_cases hlt : j < 70
   ·go_wp2_with (first | (at_builtin; go_must (refine wpList_append_lies _ rfl (.tmp 25) (.tmp 30) 24 rfl w.heap.size 5 i0 (.int .u8 0) 1 1 Tryz.underlying24 hi hz0 hz1 hz2 rfl (by decide) _ _ _ rfl (own2.alloc _) ⟨wr.heap.size, 0, none⟩ 1 1 (cellsU8 [IntKind.u8.wrap (7 * (j : Int) + 3)]) rfl rfl (World.news_of_block (heap_alloc_new wr _)) (cellsU8_one _) (by decide) (by unfold maxLen; omega) (by omega) (by have := HG2.out.size; simp; omega) (wr.heap.size + 1) (by simp) ?_)))
    intro g3 cp3 w3 own3 hgr3 hat3 hlt3
    have HG3 : Hid (w.grownBy w3 none) := grown_trans (grown_trans HG2.out (World.grownBy_alloc wr _ none) (fun _ _ _ => by simp)) hgr3 (fun q hq hne => by
     intro h
     simp only [Value.ownBlock, Option.some.injEq] at h
     have := HA2.out
     omega)
    have HA3 : Hid (w.heap.size ≤ g3) := by
     rcases hat3 with h | h
     ·simp only [Value.ownBlock, Option.some.injEq] at h
      rw [← h]
      exact HA2
     ·have := HG2.out.size
      exact (by omega : w.heap.size ≤ g3)
    have HO3 : Hid (w3.ownsRow w.heap.size 5 1 (.slice (some ⟨g3, 0, none⟩) (1 + (j + 1)) cp3) (1 + (j + 1)) (cellsU8 (ys2 ++ [IntKind.u8.wrap (7 * (j : Int) + 3)]))) := by
     rw [cellsU8_append]
     exact own3
    clear own3 hgr3 hat3 hlt3 own2 HG2 HA2
    go_wp2
    go_roundw
    case rel => exact ⟨j + 1, by omega, by go_num, HG3, g3, cp3, _, rfl, HO3, HA3⟩
    case measure => simp [intOf]; omega
   ·obtain rfl : j = 70 := by omega
    have hcell : wr.cell? ⟨g2, 70, none⟩ = some (.int .u8 (ys2.getD 70 0)) := by
     have hl2 : ys2.length = 1 + 70 := by have := own2.1; rw [cellsU8_length] at this; omega
     rw [own2.cellAt 70 (by omega), cellsU8, List.getElem?_map, List.getElem?_eq_getElem (show 70 < ys2.length by omega)]
     simp [List.getD, List.getElem?_eq_getElem (show 70 < ys2.length by omega)]
    have hfr : wr.frozen? ⟨g2, 70, none⟩ = false := own2.frozenAt _
    have HO : Hid (wr.ownsRow w.heap.size 5 1 (.slice (some ⟨g2, 0, none⟩) (1 + 70) c2) (1 + 70) (cellsU8 ys2)) := own2
    clear own2 hlt
    go_wp2
    go_end0
    have hst := HO.out.stored 70 (.int .u8 77)
    refine ⟨rfl, grown_trans HG2.out hst.2 (fun q hq hne => ?_)⟩
    intro h
    simp only [Option.some.injEq] at h
    have := HA2.out
    omega

/-- cofferbook.SpoilBytes of a row that is owned: nothing else of what was there changes. -/
theorem spoil_any (B n : Nat) (v : Value) (zs : List Int) (w : World) (hn : n ≤ 5000000) (hB : B ≤ w.heap.size) (hown : w.ownsRow B 5 1 v n (cellsU8 zs)) :
  Calls Tryz.prog 58 #[v] w fun e w' => e = .returned (.tuple #[]) ∧ w.grownBy w' v.ownBlock := by
 rcases hown.2 with ⟨rfl, rfl⟩ | ⟨g, c, cur, rfl, _⟩
 ·exact spoil_nil w
 ·exact spoil_some B n g c zs w hn hB hown
end Go.Proofs.YtcnikfikpnnblaaGreatDoor.Dg
