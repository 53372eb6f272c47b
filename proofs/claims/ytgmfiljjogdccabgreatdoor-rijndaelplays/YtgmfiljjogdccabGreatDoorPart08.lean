import Derived.Test.YtgmfiljjogdccabGreatDoorPart00
import Derived.Laws.AppendOwnNone
import Derived.Deep.DeepMust
import Derived.Lib.LazyBuf
namespace Go.Proofs.YtgmfiljjogdccabGreatDoor
open Go.RowKit

theorem Tryz.info5 : (Tryz.prog.info? 5).map (fun i => (i.zero, i.size, i.bytes)) = some (some (.int .u8 0), 1, 1) := by kernel_rfl

/-- The marks behind a copy. -/
def marks (k : Nat) : List Int := (List.range k).map fun (i : Nat) => (181 + (i : Int))
theorem marks_length (k : Nat) : (marks k).length = k := by simp [marks]
theorem marks_succ (k : Nat) : marks (k + 1) = marks k ++ [(181 + (k : Int))] := by simp [marks, List.range_succ]
/-- Bytes as cells. -/
def cellsU8 (zs : List Int) : List Value := zs.map (Value.int .u8)
theorem cellsU8_append (a b : List Int) : cellsU8 (a ++ b) = cellsU8 a ++ cellsU8 b := by simp [cellsU8]
theorem cellsU8_length (a : List Int) : (cellsU8 a).length = a.length := by simp [cellsU8]
theorem cellsU8_one (a : List Int) : ∀ u ∈ cellsU8 a, u.oneCell' = true := by
 intro u hu
 obtain ⟨_, _, rfl⟩ := List.mem_map.1 hu
 rfl
theorem cellsU8_at (a : List Int) (w : World) (b off : Nat) (h : ∀ i, i < a.length → w.cell? ⟨b, off + i, none⟩ = some (.int .u8 (a.getD i 0))) :
  ∀ j u, (cellsU8 a)[j]? = some u → w.cell? ((⟨b, off, none⟩ : Addr).add j) = some u := by
 intro j u hu
 simp only [cellsU8, List.getElem?_map, Option.map_eq_some_iff] at hu
 obtain ⟨z, hz, rfl⟩ := hu
 have hj : j < a.length := (List.getElem?_eq_some_iff.1 hz).1
 have := h j hj
 rw [List.getD_eq_getElem?_getD, hz] at this
 rw [Addr.add_lit]
 simpa using this

set_option maxHeartbeats 800000 in
set_option maxRecDepth 100000 in
theorem copy_some (x : Addr) (n cap : Nat) (zs : List Int) (w : World) (hz : Hid (zs.length = n)) (hn : n + 70 ≤ 140737488355328)
  (h1 : Hid (∀ j u, (cellsU8 zs)[j]? = some u → w.cell? (x.add j) = some u)) :
  Calls Tryz.prog 11 #[.slice (some x) n cap] w fun e w' => ∃ g c, e = .returned (.slice (some ⟨g, 0, none⟩) n c) ∧ w'.ownsRow w.heap.size 5 1 (.slice (some ⟨g, 0, none⟩) (n + 70) c) (n + 70) (cellsU8 (zs ++ marks 70)) ∧ Below w.heap.size w w' := by
 obtain ⟨i0, hi, hz0, hz1, hz2⟩ := info_parts Tryz.info5
 go_enter Tryz.func11, Tryz.ntmps11
 go_wp2_with (first
  | (at_builtin; go_must (refine wpList_append_own _ rfl (.tmp 6) (.tmp 7) 22 rfl w.heap.size 5 i0 (.int .u8 0) 1 1 Tryz.underlying22 hi hz0 hz1 hz2 rfl (by decide) _ 0 [] rfl (World.ownsRow_nil _ _ _ _) x n cap (cellsU8 zs) rfl ?_ h1.out (cellsU8_one zs) ?_ ?_ (Nat.le_refl _) ?_)))
 ·rw [cellsU8_length, hz.out, Nat.mul_one]
 ·unfold maxLen; omega
 ·omega
 intro v1 w1 hown hgrow hnil
 have hb0 : Below w.heap.size w w1 := (Below.refl _ _).grown hgrow (Nat.le_refl _) (by intro k hk; cases hk)
 have HB : Hid (Below w.heap.size w w1) := hb0
 clear hgrow hb0 hnil
 go_wp2
 go_loopw [3, 4] (fun v i wr => ∃ k : Nat, k ≤ 70 ∧ i = .int .i64 k ∧ wr.ownsRow w.heap.size 5 1 v (n + k) (cellsU8 (zs ++ marks k)) ∧ Hid (Below w.heap.size w wr)) (fun _ i _ => 70 - (intOf i).toNat)
 case atStart => exact ⟨0, by omega, rfl, by simpa [marks] using hown, HB⟩
 case round =>
  obtain ⟨k, hk, rfl, hown2, HB2⟩ := hrel
  clear hown HB
  by_cases hlt : k < 70
  ·go_wp2_with (first
    | (at_builtin; go_must (refine wpList_append_own _ rfl (.tmp 13) (.tmp 17) 22 rfl w.heap.size 5 i0 (.int .u8 0) 1 1 Tryz.underlying22 hi hz0 hz1 hz2 rfl (by decide) _ _ _ rfl (hown2.alloc _) ⟨wr.heap.size, 0, none⟩ 1 1 [.int .u8 (181 + (k : Int))] rfl rfl ?_ ?_ ?_ ?_ ?_ ?_)))
   ·intro j u hj
    match j, hj with
    | 0, hj => simp at hj; subst hj; simp [Addr.add]
   ·intro u hu; simp at hu; subst hu; rfl
   ·unfold maxLen; omega
   ·omega
   ·have := HB2.out.size; simp; omega
   intro v2 w2 hown3 hgrow2 hnil2
   have HB3 : Hid (Below w.heap.size w w2) := (HB2.out.alloc HB2.out.size _).grown hgrow2 (by have := HB2.out.size; simp; omega) (fun q hq => (hown2.lt q hq).1)
   have ho3 : w2.ownsRow w.heap.size 5 1 v2 (n + (k + 1)) (cellsU8 (zs ++ marks (k + 1))) := by
    rw [marks_succ, ← List.append_assoc, cellsU8_append]
    simpa [cellsU8, Nat.add_assoc] using hown3
   have HO3 : Hid (w2.ownsRow w.heap.size 5 1 v2 (n + (k + 1)) (cellsU8 (zs ++ marks (k + 1)))) := ho3
   clear ho3 hown3 hgrow2 hnil2 hown2 HB2
   go_wp2
   go_roundw
   case rel => exact ⟨k + 1, by omega, by go_num, HO3, HB3⟩
   case measure => simp [intOf]; omega
  ·obtain rfl : k = 70 := by omega
   obtain ⟨hlen, hcase⟩ := hown2
   rcases hcase with ⟨_, hc⟩ | ⟨g, c, cur, rfl, hg1, hg2, hg3, hg4, hg5, hg6⟩
   ·omega
   have HO : Hid (wr.ownsRow w.heap.size 5 1 (.slice (some ⟨g, 0, none⟩) (n + 70) c) (n + 70) (cellsU8 (zs ++ marks 70))) := ⟨hlen, .inr ⟨g, c, cur, rfl, hg1, hg2, hg3, hg4, hg5, hg6⟩⟩
   clear hlen hg1 hg2 hg5 hg6 hlt
   unfold maxLen at hg4
   go_wp2
   go_ret
   exact ⟨g, c, rfl, HO, HB2⟩
set_option maxHeartbeats 800000 in
set_option maxRecDepth 100000 in
theorem copy_nil (w : World) :
  Calls Tryz.prog 11 #[.slice none 0 0] w fun e w' => ∃ g c, e = .returned (.slice (some ⟨g, 0, none⟩) 0 c) ∧ w'.ownsRow w.heap.size 5 1 (.slice (some ⟨g, 0, none⟩) 70 c) 70 (cellsU8 (marks 70)) ∧ Below w.heap.size w w' := by
 obtain ⟨i0, hi, hz0, hz1, hz2⟩ := info_parts Tryz.info5
 go_enter Tryz.func11, Tryz.ntmps11
 go_wp2_with (first
  | (at_builtin; go_must (refine wpList_append_own_none rfl (.tmp 6) (.tmp 7) 22 rfl w.heap.size 5 i0 1 Tryz.underlying22 hi _ 0 [] rfl (World.ownsRow_nil _ _ _ _) rfl ?_)))
 go_wp2
 go_loopw [3, 4] (fun v i wr => ∃ k : Nat, k ≤ 70 ∧ i = .int .i64 k ∧ wr.ownsRow w.heap.size 5 1 v k (cellsU8 (marks k)) ∧ Hid (Below w.heap.size w wr)) (fun _ i _ => 70 - (intOf i).toNat)
 case atStart => exact ⟨0, by omega, rfl, World.ownsRow_nil _ _ _ _, Below.refl _ _⟩
 case round =>
  obtain ⟨k, hk, rfl, hown2, HB2⟩ := hrel
  by_cases hlt : k < 70
  ·go_wp2_with (first
    | (at_builtin; go_must (refine wpList_append_own _ rfl (.tmp 13) (.tmp 17) 22 rfl w.heap.size 5 i0 (.int .u8 0) 1 1 Tryz.underlying22 hi hz0 hz1 hz2 rfl (by decide) _ _ _ rfl (hown2.alloc _) ⟨wr.heap.size, 0, none⟩ 1 1 [.int .u8 (181 + (k : Int))] rfl rfl ?_ ?_ ?_ ?_ ?_ ?_)))
   ·intro j u hj
    match j, hj with
    | 0, hj => simp at hj; subst hj; simp [Addr.add]
   ·intro u hu; simp at hu; subst hu; rfl
   ·unfold maxLen; omega
   ·omega
   ·have := HB2.out.size; simp; omega
   intro v2 w2 hown3 hgrow2 hnil2
   have HB3 : Hid (Below w.heap.size w w2) := (HB2.out.alloc HB2.out.size _).grown hgrow2 (by have := HB2.out.size; simp; omega) (fun q hq => (hown2.lt q hq).1)
   have ho3 : w2.ownsRow w.heap.size 5 1 v2 (k + 1) (cellsU8 (marks (k + 1))) := by
    rw [marks_succ, cellsU8_append]
    simpa [cellsU8] using hown3
   have HO3 : Hid (w2.ownsRow w.heap.size 5 1 v2 (k + 1) (cellsU8 (marks (k + 1)))) := ho3
   clear ho3 hown3 hgrow2 hnil2 hown2 HB2
   go_wp2
   go_roundw
   case rel => exact ⟨k + 1, by omega, by go_num, HO3, HB3⟩
   case measure => simp [intOf]; omega
  ·obtain rfl : k = 70 := by omega
   obtain ⟨hlen, hcase⟩ := hown2
   rcases hcase with ⟨_, hc⟩ | ⟨g, c, cur, rfl, hg1, hg2, hg3, hg4, hg5, hg6⟩
   ·omega
   have HO : Hid (wr.ownsRow w.heap.size 5 1 (.slice (some ⟨g, 0, none⟩) 70 c) 70 (cellsU8 (marks 70))) := ⟨hlen, .inr ⟨g, c, cur, rfl, hg1, hg2, hg3, hg4, hg5, hg6⟩⟩
   clear hlen hg1 hg2 hg5 hg6 hlt
   unfold maxLen at hg4
   go_wp2
   go_ret
   exact ⟨g, c, rfl, HO, HB2⟩
end Go.Proofs.YtgmfiljjogdccabGreatDoor
namespace Go.Proofs.YtgmfiljjogdccabGreatDoor
open Go.RowKit
set_option linter.unusedVariables false
/-- What checkLength answers: 0 where the length lies within its bounds and is of whole halves. -/
theorem checkLength_ok (n lo hi : Nat) (w : World) (h1 : lo ≤ n) (h2 : n % 8 = 0) (h3 : n ≤ hi) (hh : hi ≤ 1099511627776) :
  Calls Tryz.prog 55 #[.int .i64 (n : Nat), .int .i64 (lo : Nat), .int .i64 (hi : Nat)] w fun e w' => e = .returned (.int .i64 0) ∧ w' = w := by
 have hm : ((n : Nat) : Int) % 8 = 0 := by omega
 go_enter Tryz.func55, Tryz.ntmps55
 go_wp2
 go_ret
 exact ⟨rfl, rfl⟩
end Go.Proofs.YtgmfiljjogdccabGreatDoor
namespace Go.Proofs.YtgmfiljjogdccabGreatDoor
open Go.RowKit

theorem View.kept {w w' : World} {v : Value} {zs : List Int} (h : View w v zs) (hb : ∀ k, k < w.heap.size → w'.heap[k]? = w.heap[k]?) : View w' v zs := by
 obtain ⟨a, c, rfl, h1, h2, h3, h4⟩ := h
 refine ⟨a, c, rfl, h1, h2, h3, ?_⟩
 rcases h4 with h4 | ⟨b, off, rfl, hc⟩
 ·exact .inl h4
 ·refine .inr ⟨b, off, rfl, fun i hi => ?_⟩
  have := hc i hi
  have hlt := World.block_lt_of_cell? w _ this
  rw [World.cell?_of_block (w := w) (hb b hlt)]
  exact this

/-- A copy with marks behind it, in memory from block B on. -/
def Marked (B : Nat) (w : World) (v : Value) (zs : List Int) : Prop :=
 ∃ g c, v = .slice (some ⟨g, 0, none⟩) zs.length c ∧ w.ownsRow B 5 1 (.slice (some ⟨g, 0, none⟩) (zs.length + 70) c) (zs.length + 70) (cellsU8 (zs ++ marks 70))

theorem Marked.kept {B : Nat} {w w' : World} {v : Value} {zs : List Int} (h : Marked B w v zs) (hb : ∀ k, k < w.heap.size → w'.heap[k]? = w.heap[k]?) : Marked B w' v zs := by
 obtain ⟨g, c, rfl, hl, h⟩ := h
 refine ⟨g, c, rfl, hl, ?_⟩
 rcases h with ⟨h, _⟩ | ⟨g', c', cur, he, h1, h2, r⟩
 ·cases h
 ·refine .inr ⟨g', c', cur, he, h1, ?_, r⟩
  rw [hb g' (Array.getElem?_eq_some_iff.1 h2).1]
  exact h2

theorem Marked.cells {B : Nat} {w : World} {v : Value} {zs : List Int} (h : Marked B w v zs) :
  ∃ g c, v = .slice (some ⟨g, 0, none⟩) zs.length c ∧ zs.length + 70 ≤ c ∧ c ≤ maxLen ∧ (∀ i, i < zs.length → w.cell? ⟨g, i, none⟩ = some (.int .u8 (zs.getD i 0))) ∧ (∀ i, i < 70 → w.cell? ⟨g, zs.length + i, none⟩ = some (.int .u8 (181 + (i : Int)))) := by
 obtain ⟨g, c, rfl, ho⟩ := h
 have hc := ho.cells (g := g) rfl
 refine ⟨g, c, rfl, ?_, ?_, fun i hi => ?_, fun i hi => ?_⟩
 ·rcases ho.2 with ⟨h, _⟩ | ⟨g', c', cur, he, _, _, h1, _⟩
  ·cases h
  ·cases he; exact h1
 ·rcases ho.2 with ⟨h, _⟩ | ⟨g', c', cur, he, _, _, _, h1, _⟩
  ·cases h
  ·cases he; exact h1
 ·have := hc i (.int .u8 (zs.getD i 0)) (by
   simp only [cellsU8, List.getElem?_map]
   rw [List.getElem?_append_left hi]
   simp [List.getElem?_eq_getElem hi, List.getD])
  rw [Addr.add_lit] at this
  simpa using this
 ·have := hc (zs.length + i) (.int .u8 (181 + (i : Int))) (by
   simp only [cellsU8, List.getElem?_map]
   rw [List.getElem?_append_right (by omega)]
   simp [marks, hi])
  rw [Addr.add_lit] at this
  simpa using this

theorem Marked.view {B : Nat} {w : World} {v : Value} {zs : List Int} (h : Marked B w v zs) : View w v zs := by
 obtain ⟨g, c, rfl, h1, h2, h3, _⟩ := h.cells
 refine ⟨_, c, rfl, by omega, h2, ?_, Or.inr ⟨g, 0, rfl, fun i hi => by simpa using h3 i hi⟩⟩
 intro h
 cases h

/-- cofferbook.Bytes. -/
theorem copy_any (v : Value) (zs : List Int) (w : World) (hn : zs.length + 70 ≤ 140737488355328) (h : View w v zs) :
  Calls Tryz.prog 11 #[v] w fun e w' => ∃ v', e = .returned v' ∧ Marked w.heap.size w' v' zs ∧ Below w.heap.size w w' := by
 obtain ⟨a, c, rfl, h1, h2, h3, h4⟩ := h
 cases a with
 | none =>
  obtain rfl := h3 rfl
  have hz : zs = [] := List.eq_nil_of_length_eq_zero (by omega)
  subst hz
  refine (copy_nil w).mono ?_
  rintro e w' ⟨g, c, rfl, ho, hb⟩
  exact ⟨_, rfl, ⟨g, c, rfl, by simpa using ho⟩, hb⟩
 | some x =>
  have hc : ∀ j u, (cellsU8 zs)[j]? = some u → w.cell? (x.add j) = some u := by
   rcases h4 with rfl | ⟨b, off, he, hcell⟩
   ·intro j u hu
    simp [cellsU8] at hu
   ·cases he
    exact cellsU8_at zs w b off hcell
  refine (copy_some x zs.length c zs w rfl hn hc).mono ?_
  rintro e w' ⟨g, c, rfl, ho, hb⟩
  exact ⟨_, rfl, ⟨g, c, rfl, ho⟩, hb⟩

set_option maxHeartbeats 400000 in
theorem whole_core (g c n : Nat) (v2 : Value) (zs : List Int) (w : World) (hc : n + 70 ≤ c) (hm : c ≤ 9223372036854775807)
  (h1 : Hid (View w (.slice (some ⟨g, 0, none⟩) n c) zs)) (h2 : Hid (View w v2 zs))
  (h3 : ∀ i, i < 70 → w.cell? ⟨g, n + i, none⟩ = some (.int .u8 (181 + (i : Int)))) :
  Calls Tryz.prog 48 #[.slice (some ⟨g, 0, none⟩) n c, v2] w fun e w' => e = .returned (.bool true) ∧ ∃ m, w' = w.drewN m := by
 go_enter Tryz.func48, Tryz.ntmps48
 go_wp2_with fail
 refine (same_any _ _ zs zs _ h1.out h2.out).mono ?_
 rintro e w' ⟨rfl, m, rfl⟩
 simp only [decide_true]
 go_wp2
 go_loop [7] (fun i => ∃ k : Nat, k ≤ 70 ∧ i = .int .i64 k) (fun i => 70 - (intOf i).toNat)
 case atStart => exact ⟨0, by omega, rfl⟩
 case round =>
  obtain ⟨k, hk, rfl⟩ := hrel
  by_cases hlt : k < 70
  ·have g3 := h3 k hlt
   clear h3
   go_wp2
   go_round
   case rel => exact ⟨k + 1, by omega, by go_num⟩
   case measure => simp [intOf]; omega
  ·go_wp2
   go_ret
   exact ⟨rfl, m, rfl⟩

/-- cofferbook.WholeBytes, of a copy that is as it was made. -/
theorem whole_any (v1 v2 : Value) (zs : List Int) (B : Nat) (w : World) (h1 : Marked B w v1 zs) (h2 : View w v2 zs) :
  Calls Tryz.prog 48 #[v1, v2] w fun e w' => e = .returned (.bool true) ∧ ∃ m, w' = w.drewN m := by
 have hv := h1.view
 obtain ⟨g, c, rfl, hc, hm, _, h4⟩ := h1.cells
 exact whole_core g c zs.length v2 zs w hc (by unfold maxLen at hm; omega) hv h2 h4
end Go.Proofs.YtgmfiljjogdccabGreatDoor
namespace Go.Proofs.YtgmfiljjogdccabGreatDoor
open Go.RowKit
set_option linter.unusedVariables false
def vblk (x : Value) : List Nat := (Value.ownBlock x).toList
/-- Only blocks of a list, and new ones, changed. -/
structure Fr (w v : World) (l : List Nat) : Prop where
 os : v.os = w.os
 tape : v.tape = w.tape
 output : v.output = w.output
 size : w.heap.size ≤ v.heap.size
 block : ∀ b, b < w.heap.size → b ∉ l → v.heap[b]? = w.heap[b]?
theorem Fr.refl (w : World) (l : List Nat) : Fr w w l := ⟨rfl, rfl, rfl, Nat.le_refl _, fun _ _ _ => rfl⟩
theorem Fr.mono {w v : World} {l l' : List Nat} (h : Fr w v l) (hl : ∀ b, b ∈ l → b ∈ l') : Fr w v l' := ⟨h.os, h.tape, h.output, h.size, fun b hb hn => h.block b hb (fun e => hn (hl b e))⟩
/-- What is changed later was in the list, or was new. -/
theorem Fr.late {w u v : World} {l l' : List Nat} (h : Fr w u l) (k : Fr u v l') (hn : ∀ b, b ∈ l' → b ∈ l ∨ w.heap.size ≤ b) : Fr w v l :=
 ⟨k.os.trans h.os, k.tape.trans h.tape, k.output.trans h.output, Nat.le_trans h.size k.size, fun b hb hx => (k.block b (Nat.lt_of_lt_of_le hb h.size) (fun e => by rcases hn b e with q | q; exact hx q; omega)).trans (h.block b hb hx)⟩
theorem Fr.trans {w u v : World} {l : List Nat} (h : Fr w u l) (k : Fr u v l) : Fr w v l := h.late k fun b hb => .inl hb
theorem below_fr {w v : World} (h : Below w.heap.size w v) (l : List Nat) : Fr w v l := ⟨h.os, h.tape, h.output, h.size, fun b hb _ => h.block b hb⟩
theorem touch_fr {w v : World} {g o n : Nat} (h : Touch w v g o n) : Fr w v [g] := ⟨h.os, h.tape, h.output, h.size, fun b hb hn => h.block b hb (fun e => hn (List.mem_singleton.2 e))⟩
theorem grown_fr {w v : World} {x : Option Nat} (h : w.grownBy v x) : Fr w v x.toList := ⟨h.os, h.tape, h.output, h.size, fun b hb hn => h.block b hb (fun e => hn (by rw [← e]; exact List.mem_singleton.2 rfl))⟩
theorem Fr.toBelow {w v : World} {l : List Nat} (h : Fr w v l) {B : Nat} (hl : ∀ b, b ∈ l → B ≤ b) (hB : B ≤ w.heap.size) : Below B w v := ⟨h.os, h.tape, h.output, h.size, fun q hq => h.block q (by omega) (fun e => by have := hl q e; omega)⟩
theorem Fr.none {w v : World} (h : Fr w v []) : Below w.heap.size w v := h.toBelow (fun b hb => by cases hb) (Nat.le_refl _)
theorem set_fr (w : World) (b o : Nat) (x : Value) : Fr w (w.setCell ⟨b, o, none⟩ x) [b] :=
 ⟨rfl, rfl, rfl, by simp [World.setCell], fun q hq hn => World.heap_setCells_other w b o [x] hq (fun e => hn (List.mem_singleton.2 e))⟩
theorem drew_fr (w : World) (n : Nat) (l : List Nat) : Fr w (w.drewN n) l := ⟨rfl, rfl, rfl, Nat.le_refl _, fun _ _ _ => rfl⟩
def Same (w v : World) (l : List Nat) : Prop := ∀ b, b ∈ l → v.heap[b]? = w.heap[b]?
theorem owns_same {w v : World} {B e s n : Nat} {x : Value} {cs : List Value} (h : w.ownsRow B e s x n cs) (hb : Same w v (vblk x)) : v.ownsRow B e s x n cs := by
 refine ⟨h.1, ?_⟩
 rcases h.2 with hn | ⟨g, cap, cur, rfl, h1, h2, r⟩
 ·exact .inl hn
 ·exact .inr ⟨g, cap, cur, rfl, h1, (hb g (by simp [vblk, Value.ownBlock])).trans h2, r⟩
theorem view_keepP {w v : World} {y : Value} {zs : List Int} (h : View w y zs) (hb : zs ≠ [] → ∀ b, b ∈ vblk y → v.heap[b]? = w.heap[b]?) : View v y zs := by
 obtain ⟨a, c, e, h1, h2, h3, h4⟩ := h
 refine ⟨a, c, e, h1, h2, h3, ?_⟩
 rcases h4 with h4 | ⟨b, off, rfl, h5⟩
 ·exact .inl h4
 ·by_cases h0 : zs = []
  ·exact .inl h0
  ·refine .inr ⟨b, off, rfl, fun i hi => ?_⟩
   rw [World.cell?_of_block (a := ⟨b, off + i, none⟩) (hb h0 b (by rw [e]; simp [vblk, Value.ownBlock]))]
   exact h5 i hi
theorem view_blks {w : World} {y : Value} {zs : List Int} (h : View w y zs) (h0 : zs ≠ []) : ∀ b, b ∈ vblk y → b < w.heap.size := by
 obtain ⟨a, c, rfl, h1, h2, h3, h4⟩ := h
 rcases h4 with h4 | ⟨b, off, rfl, h5⟩
 ·exact absurd h4 h0
 ·intro b' hb
  simp [vblk, Value.ownBlock] at hb
  subst hb
  have : 0 < zs.length := List.length_pos_iff.2 h0
  exact World.block_lt_of_cell? w _ (h5 0 this)
theorem owns_blks {w : World} {B e s n : Nat} {x : Value} {cs : List Value} (h : w.ownsRow B e s x n cs) : ∀ b, b ∈ vblk x → B ≤ b ∧ b < w.heap.size := fun b hb => h.lt b (by simpa [vblk] using hb)
end Go.Proofs.YtgmfiljjogdccabGreatDoor
namespace Go.Proofs.YtgmfiljjogdccabGreatDoor
open Go.RowKit
set_option linter.unusedVariables false
theorem Tryz.underlying94 : Tryz.prog.underlying 94 = some (.slice 43) := by kernel_rfl
theorem Tryz.info50 : (Tryz.prog.info? 43).map (fun i => (i.zero, i.size, i.bytes)) = some (some (.int .u32 0), 1, 4) := by kernel_rfl
set_option maxHeartbeats 800000 in
set_option maxRecDepth 100000 in
theorem clone_ok (x : Addr) (n cap : Nat) (vs : List Value) (w : World) (hl : Hid (vs.length = n)) (hn : n ≤ 64) (hc : Hid (∀ j u, vs[j]? = some u → w.cell? (x.add j) = some u)) (h1 : Hid (∀ u ∈ vs, u.oneCell' = true)) :
  Calls Tryz.prog 60 #[.slice (some x) n cap] w fun e w' => ∃ v, e = .returned v ∧ w'.ownsRow w.heap.size 43 1 v n vs ∧ Below w.heap.size w w' := by
 obtain ⟨i0, hi, hz0, hz1, hz2⟩ := info_parts Tryz.info50
 have hnl : ∀ w, (binOp .eql 94 (.slice (some x) n cap) (.slice none 0 0)).run Tryz.prog w = .ok (.bool false) w := fun w => run_eql_slice_nil w 94 43 (some x) n cap Tryz.underlying94
 go_enter Tryz.func60, Tryz.ntmps60
 go_wp2_with (first
  | (at_builtin; go_must (refine wpList_append_own _ rfl (.tmp 5) (.tmp 6) 94 rfl w.heap.size 43 i0 (.int .u32 0) 1 4 Tryz.underlying94 hi hz0 hz1 hz2 rfl (by decide) _ 0 [] rfl (World.ownsRow_made w #[] 0 (Nat.le_refl _) (by unfold maxLen; omega) rfl) x n cap vs rfl ?_ ?_ h1.out ?_ ?_ ?_ ?_)))
 ·rw [hl.out, Nat.mul_one]
 ·intro j u hu
  have := hc.out j u hu
  rw [World.cell?_alloc_lt w _ _ (World.block_lt_of_cell? w _ this)]
  exact this
 ·unfold maxLen; omega
 ·omega
 ·simp
 intro v1 w1 hown hgrow hnil
 have HO : Hid (w1.ownsRow w.heap.size 43 1 v1 n vs) := hown
 have HB : Hid (Below w.heap.size w w1) := ((Below.refl _ _).alloc (Nat.le_refl _) _).grown hgrow (by simp) (by intro k hk; cases hk; exact Nat.le_refl _)
 clear hown hgrow hnil
 go_wp2
 go_ret
 exact ⟨_, rfl, HO.out, HB.out⟩
end Go.Proofs.YtgmfiljjogdccabGreatDoor
