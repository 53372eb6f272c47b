import Derived.Test.YtehlppaidgkpaaaGreatDoorPart05
import Derived.Laws.AppendOwnNone
import Derived.Deep.DeepMust
namespace Go.Proofs.YtehlppaidgkpaaaGreatDoor
open Go.RowKit

theorem Tryz.info5 : (Tryz.prog.info? 5).map (fun i => (i.zero, i.size, i.bytes)) = some (some (.int .u8 0), 1, 1) := by kernel_rfl

/-- The marks behind a copy. -/
def marks (k : Nat) : List Int := (List.range k).map fun (i : Nat) => (181 + (i : Int))
theorem marks_succ (k : Nat) : marks (k + 1) = marks k ++ [(181 + (k : Int))] := by simp [marks, List.range_succ]
/-- Bytes as cells. -/
def cellsU8 (zs : List Int) : List Value := zs.map (Value.int .u8)
theorem cellsU8_append (a b : List Int) : cellsU8 (a ++ b) = cellsU8 a ++ cellsU8 b := by simp [cellsU8]
theorem cellsU8_length (a : List Int) : (cellsU8 a).length = a.length := by simp [cellsU8]
theorem cellsU8_one (a : List Int) : ∀ u ∈ cellsU8 a, u.oneCell' = true := by
  intro u hu
  obtain ⟨_, _, rfl⟩ := List.mem_map.1 hu
  rfl
theorem cellsU8_at (a : List Int) (w : World) (b off : Nat) (h : ∀ i, i < a.length → w.cell? ⟨b, off + i, none⟩ = some (.int .u8 (a.getD i 0))) :
    ∀ j u, (cellsU8 a)[j]? = some u → w.cell? ((⟨b, off, none⟩ : Addr).add j) = some u := by
  intro j u hu
  simp only [cellsU8, List.getElem?_map, Option.map_eq_some_iff] at hu
  obtain ⟨z, hz, rfl⟩ := hu
  have hj : j < a.length := (List.getElem?_eq_some_iff.1 hz).1
  have := h j hj
  rw [List.getD_eq_getElem?_getD, hz] at this
  rw [Addr.add_lit]
  simpa using this

set_option maxHeartbeats 800000 in
set_option maxRecDepth 100000 in
theorem copy_some (x : Addr) (n cap : Nat) (zs : List Int) (w : World) (hz : Hid (zs.length = n)) (hn : n + 70 ≤ 140737488355328)
    (h1 : Hid (∀ j u, (cellsU8 zs)[j]? = some u → w.cell? (x.add j) = some u)) :
    Calls Tryz.prog 12 #[.slice (some x) n cap] w fun e w' => ∃ g c, e = .returned (.slice (some ⟨g, 0, none⟩) n c) ∧ w'.ownsRow w.heap.size 5 1 (.slice (some ⟨g, 0, none⟩) (n + 70) c) (n + 70) (cellsU8 (zs ++ marks 70)) ∧ Below w.heap.size w w' := by
  obtain ⟨i0, hi, hz0, hz1, hz2⟩ := info_parts Tryz.info5
  go_enter Tryz.func12, Tryz.ntmps12
  go_wp2_with (first
    | (at_builtin; go_must (refine wpList_append_own _ rfl (.tmp 6) (.tmp 7) 22 rfl w.heap.size 5 i0 (.int .u8 0) 1 1 Tryz.underlying22 hi hz0 hz1 hz2 rfl (by decide) _ 0 [] rfl (World.ownsRow_nil _ _ _ _) x n cap (cellsU8 zs) rfl ?_ h1.out (cellsU8_one zs) ?_ ?_ (Nat.le_refl _) ?_)))
  · rw [cellsU8_length, hz.out, Nat.mul_one]
  · unfold maxLen; omega
  · omega
  intro v1 w1 hown hgrow hnil
  have hb0 : Below w.heap.size w w1 := (Below.refl _ _).grown hgrow (Nat.le_refl _) (by intro k hk; cases hk)
  have HB : Hid (Below w.heap.size w w1) := hb0
  clear hgrow hb0 hnil
  go_wp2
  go_loopw [3, 4] (fun v i wr => ∃ k : Nat, k ≤ 70 ∧ i = .int .i64 k ∧ wr.ownsRow w.heap.size 5 1 v (n + k) (cellsU8 (zs ++ marks k)) ∧ Hid (Below w.heap.size w wr)) (fun _ i _ => 70 - (intOf i).toNat)
  case atStart => exact ⟨0, by omega, rfl, by simpa [marks] using hown, HB⟩
  case round =>
    obtain ⟨k, hk, rfl, hown2, HB2⟩ := hrel
    clear hown HB
    by_cases hlt : k < 70
    · go_wp2_with (first
        | (at_builtin; go_must (refine wpList_append_own _ rfl (.tmp 13) (.tmp 17) 22 rfl w.heap.size 5 i0 (.int .u8 0) 1 1 Tryz.underlying22 hi hz0 hz1 hz2 rfl (by decide) _ _ _ rfl (hown2.alloc _) ⟨wr.heap.size, 0, none⟩ 1 1 [.int .u8 (181 + (k : Int))] rfl rfl ?_ ?_ ?_ ?_ ?_ ?_)))
      · intro j u hj
        match j, hj with
        | 0, hj => simp at hj; subst hj; simp [Addr.add]
      · intro u hu; simp at hu; subst hu; rfl
      · unfold maxLen; omega
      · omega
      · have := HB2.out.size; simp; omega
      intro v2 w2 hown3 hgrow2 hnil2
      have HB3 : Hid (Below w.heap.size w w2) := (HB2.out.alloc HB2.out.size _).grown hgrow2 (by have := HB2.out.size; simp; omega) (fun q hq => (hown2.lt q hq).1)
      have ho3 : w2.ownsRow w.heap.size 5 1 v2 (n + (k + 1)) (cellsU8 (zs ++ marks (k + 1))) := by
        rw [marks_succ, ← List.append_assoc, cellsU8_append]
        simpa [cellsU8, Nat.add_assoc] using hown3
      have HO3 : Hid (w2.ownsRow w.heap.size 5 1 v2 (n + (k + 1)) (cellsU8 (zs ++ marks (k + 1)))) := ho3
      clear ho3 hown3 hgrow2 hnil2 hown2 HB2
      go_wp2
      go_roundw
      case rel => exact ⟨k + 1, by omega, by go_num, HO3, HB3⟩
      case measure => simp [intOf]; omega
    · obtain rfl : k = 70 := by omega
      obtain ⟨hlen, hcase⟩ := hown2
      rcases hcase with ⟨_, hc⟩ | ⟨g, c, cur, rfl, hg1, hg2, hg3, hg4, hg5, hg6⟩
      · omega
      have HO : Hid (wr.ownsRow w.heap.size 5 1 (.slice (some ⟨g, 0, none⟩) (n + 70) c) (n + 70) (cellsU8 (zs ++ marks 70))) := ⟨hlen, .inr ⟨g, c, cur, rfl, hg1, hg2, hg3, hg4, hg5, hg6⟩⟩
      clear hlen hg1 hg2 hg5 hg6 hlt
      unfold maxLen at hg4
      go_wp2
      go_ret
      exact ⟨g, c, rfl, HO, HB2⟩
set_option maxHeartbeats 800000 in
set_option maxRecDepth 100000 in
theorem copy_nil (w : World) :
    Calls Tryz.prog 12 #[.slice none 0 0] w fun e w' => ∃ g c, e = .returned (.slice (some ⟨g, 0, none⟩) 0 c) ∧ w'.ownsRow w.heap.size 5 1 (.slice (some ⟨g, 0, none⟩) 70 c) 70 (cellsU8 (marks 70)) ∧ Below w.heap.size w w' := by
  obtain ⟨i0, hi, hz0, hz1, hz2⟩ := info_parts Tryz.info5
  go_enter Tryz.func12, Tryz.ntmps12
  go_wp2_with (first
    | (at_builtin; go_must (refine wpList_append_own_none rfl (.tmp 6) (.tmp 7) 22 rfl w.heap.size 5 i0 1 Tryz.underlying22 hi _ 0 [] rfl (World.ownsRow_nil _ _ _ _) rfl ?_)))
  go_wp2
  go_loopw [3, 4] (fun v i wr => ∃ k : Nat, k ≤ 70 ∧ i = .int .i64 k ∧ wr.ownsRow w.heap.size 5 1 v k (cellsU8 (marks k)) ∧ Hid (Below w.heap.size w wr)) (fun _ i _ => 70 - (intOf i).toNat)
  case atStart => exact ⟨0, by omega, rfl, World.ownsRow_nil _ _ _ _, Below.refl _ _⟩
  case round =>
    obtain ⟨k, hk, rfl, hown2, HB2⟩ := hrel
    by_cases hlt : k < 70
    · go_wp2_with (first
        | (at_builtin; go_must (refine wpList_append_own _ rfl (.tmp 13) (.tmp 17) 22 rfl w.heap.size 5 i0 (.int .u8 0) 1 1 Tryz.underlying22 hi hz0 hz1 hz2 rfl (by decide) _ _ _ rfl (hown2.alloc _) ⟨wr.heap.size, 0, none⟩ 1 1 [.int .u8 (181 + (k : Int))] rfl rfl ?_ ?_ ?_ ?_ ?_ ?_)))
      · intro j u hj
        match j, hj with
        | 0, hj => simp at hj; subst hj; simp [Addr.add]
      · intro u hu; simp at hu; subst hu; rfl
      · unfold maxLen; omega
      · omega
      · have := HB2.out.size; simp; omega
      intro v2 w2 hown3 hgrow2 hnil2
      have HB3 : Hid (Below w.heap.size w w2) := (HB2.out.alloc HB2.out.size _).grown hgrow2 (by have := HB2.out.size; simp; omega) (fun q hq => (hown2.lt q hq).1)
      have ho3 : w2.ownsRow w.heap.size 5 1 v2 (k + 1) (cellsU8 (marks (k + 1))) := by
        rw [marks_succ, cellsU8_append]
        simpa [cellsU8] using hown3
      have HO3 : Hid (w2.ownsRow w.heap.size 5 1 v2 (k + 1) (cellsU8 (marks (k + 1)))) := ho3
      clear ho3 hown3 hgrow2 hnil2 hown2 HB2
      go_wp2
      go_roundw
      case rel => exact ⟨k + 1, by omega, by go_num, HO3, HB3⟩
      case measure => simp [intOf]; omega
    · obtain rfl : k = 70 := by omega
      obtain ⟨hlen, hcase⟩ := hown2
      rcases hcase with ⟨_, hc⟩ | ⟨g, c, cur, rfl, hg1, hg2, hg3, hg4, hg5, hg6⟩
      · omega
      have HO : Hid (wr.ownsRow w.heap.size 5 1 (.slice (some ⟨g, 0, none⟩) 70 c) 70 (cellsU8 (marks 70))) := ⟨hlen, .inr ⟨g, c, cur, rfl, hg1, hg2, hg3, hg4, hg5, hg6⟩⟩
      clear hlen hg1 hg2 hg5 hg6 hlt
      unfold maxLen at hg4
      go_wp2
      go_ret
      exact ⟨g, c, rfl, HO, HB2⟩
end Go.Proofs.YtehlppaidgkpaaaGreatDoor
