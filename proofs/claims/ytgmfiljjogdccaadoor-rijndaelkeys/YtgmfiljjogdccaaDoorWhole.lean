import Derived.Test.YtgmfiljjogdccaaDoorCopy
namespace Go.Proofs.YtgmfiljjogdccaaDoor
open Go.RowKit

theorem View.kept {w w' : World} {v : Value} {zs : List Int} (h : View w v zs) (hb : ∀ k, k < w.heap.size → w'.heap[k]? = w.heap[k]?) : View w' v zs := by
  obtain ⟨a, c, rfl, h1, h2, h3, h4⟩ := h
  refine ⟨a, c, rfl, h1, h2, h3, ?_⟩
  rcases h4 with h4 | ⟨b, off, rfl, hc⟩
  · exact .inl h4
  · refine .inr ⟨b, off, rfl, fun i hi => ?_⟩
    have := hc i hi
    have hlt := World.block_lt_of_cell? w _ this
    rw [World.cell?_of_block (w := w) (hb b hlt)]
    exact this

/-- A copy with marks behind it, in memory from block B on. -/
def Marked (B : Nat) (w : World) (v : Value) (zs : List Int) : Prop :=
  ∃ g c, v = .slice (some ⟨g, 0, none⟩) zs.length c ∧ w.ownsRow B 5 1 (.slice (some ⟨g, 0, none⟩) (zs.length + 70) c) (zs.length + 70) (cellsU8 (zs ++ marks 70))

theorem Marked.kept {B : Nat} {w w' : World} {v : Value} {zs : List Int} (h : Marked B w v zs) (hb : ∀ k, k < w.heap.size → w'.heap[k]? = w.heap[k]?) : Marked B w' v zs := by
  obtain ⟨g, c, rfl, hl, h⟩ := h
  refine ⟨g, c, rfl, hl, ?_⟩
  rcases h with ⟨h, _⟩ | ⟨g', c', cur, he, h1, h2, r⟩
  · cases h
  · refine .inr ⟨g', c', cur, he, h1, ?_, r⟩
    rw [hb g' (Array.getElem?_eq_some_iff.1 h2).1]
    exact h2

theorem Marked.cells {B : Nat} {w : World} {v : Value} {zs : List Int} (h : Marked B w v zs) :
    ∃ g c, v = .slice (some ⟨g, 0, none⟩) zs.length c ∧ zs.length + 70 ≤ c ∧ c ≤ maxLen ∧ (∀ i, i < zs.length → w.cell? ⟨g, i, none⟩ = some (.int .u8 (zs.getD i 0))) ∧ (∀ i, i < 70 → w.cell? ⟨g, zs.length + i, none⟩ = some (.int .u8 (181 + (i : Int)))) := by
  obtain ⟨g, c, rfl, ho⟩ := h
  have hc := ho.cells (g := g) rfl
  refine ⟨g, c, rfl, ?_, ?_, fun i hi => ?_, fun i hi => ?_⟩
  · rcases ho.2 with ⟨h, _⟩ | ⟨g', c', cur, he, _, _, h1, _⟩
    · cases h
    · cases he; exact h1
  · rcases ho.2 with ⟨h, _⟩ | ⟨g', c', cur, he, _, _, _, h1, _⟩
    · cases h
    · cases he; exact h1
  · have := hc i (.int .u8 (zs.getD i 0)) (by
      simp only [cellsU8, List.getElem?_map]
      rw [List.getElem?_append_left hi]
      simp [List.getElem?_eq_getElem hi, List.getD])
    rw [Addr.add_lit] at this
    simpa using this
  · have := hc (zs.length + i) (.int .u8 (181 + (i : Int))) (by
      simp only [cellsU8, List.getElem?_map]
      rw [List.getElem?_append_right (by omega)]
      simp [marks, hi])
    rw [Addr.add_lit] at this
    simpa using this

theorem Marked.view {B : Nat} {w : World} {v : Value} {zs : List Int} (h : Marked B w v zs) : View w v zs := by
  obtain ⟨g, c, rfl, h1, h2, h3, _⟩ := h.cells
  refine ⟨_, c, rfl, by omega, h2, ?_, Or.inr ⟨g, 0, rfl, fun i hi => by simpa using h3 i hi⟩⟩
  intro h
  cases h

/-- cofferbook.Bytes. -/
theorem copy_any (v : Value) (zs : List Int) (w : World) (hn : zs.length + 70 ≤ 140737488355328) (h : View w v zs) :
    Calls Tryd.prog 8 #[v] w fun e w' => ∃ v', e = .returned v' ∧ Marked w.heap.size w' v' zs ∧ Below w.heap.size w w' := by
  obtain ⟨a, c, rfl, h1, h2, h3, h4⟩ := h
  cases a with
  | none =>
    obtain rfl := h3 rfl
    have hz : zs = [] := List.eq_nil_of_length_eq_zero (by omega)
    subst hz
    refine (copy_nil w).mono ?_
    rintro e w' ⟨g, c, rfl, ho, hb⟩
    exact ⟨_, rfl, ⟨g, c, rfl, by simpa using ho⟩, hb⟩
  | some x =>
    have hc : ∀ j u, (cellsU8 zs)[j]? = some u → w.cell? (x.add j) = some u := by
      rcases h4 with rfl | ⟨b, off, he, hcell⟩
      · intro j u hu
        simp [cellsU8] at hu
      · cases he
        exact cellsU8_at zs w b off hcell
    refine (copy_some x zs.length c zs w rfl hn hc).mono ?_
    rintro e w' ⟨g, c, rfl, ho, hb⟩
    exact ⟨_, rfl, ⟨g, c, rfl, ho⟩, hb⟩

set_option maxHeartbeats 400000 in
theorem whole_core (g c n : Nat) (v2 : Value) (zs : List Int) (w : World) (hc : n + 70 ≤ c) (hm : c ≤ 9223372036854775807)
    (h1 : Hid (View w (.slice (some ⟨g, 0, none⟩) n c) zs)) (h2 : Hid (View w v2 zs))
    (h3 : ∀ i, i < 70 → w.cell? ⟨g, n + i, none⟩ = some (.int .u8 (181 + (i : Int)))) :
    Calls Tryd.prog 12 #[.slice (some ⟨g, 0, none⟩) n c, v2] w fun e w' => e = .returned (.bool true) ∧ ∃ m, w' = w.drewN m := by
  go_enter Tryd.func12, Tryd.ntmps12
  go_wp2_with fail
  refine (same_any _ _ zs zs _ h1.out h2.out).mono ?_
  rintro e w' ⟨rfl, m, rfl⟩
  simp only [decide_true]
  go_wp2
  go_loop [7] (fun i => ∃ k : Nat, k ≤ 70 ∧ i = .int .i64 k) (fun i => 70 - (intOf i).toNat)
  case atStart => exact ⟨0, by omega, rfl⟩
  case round =>
    obtain ⟨k, hk, rfl⟩ := hrel
    by_cases hlt : k < 70
    · have g3 := h3 k hlt
      clear h3
      go_wp2
      go_round
      case rel => exact ⟨k + 1, by omega, by go_num⟩
      case measure => simp [intOf]; omega
    · go_wp2
      go_ret
      exact ⟨rfl, m, rfl⟩

/-- cofferbook.WholeBytes, of a copy that is as it was made. -/
theorem whole_any (v1 v2 : Value) (zs : List Int) (B : Nat) (w : World) (h1 : Marked B w v1 zs) (h2 : View w v2 zs) :
    Calls Tryd.prog 12 #[v1, v2] w fun e w' => e = .returned (.bool true) ∧ ∃ m, w' = w.drewN m := by
  have hv := h1.view
  obtain ⟨g, c, rfl, hc, hm, _, h4⟩ := h1.cells
  exact whole_core g c zs.length v2 zs w hc (by unfold maxLen at hm; omega) hv h2 h4
end Go.Proofs.YtgmfiljjogdccaaDoor
