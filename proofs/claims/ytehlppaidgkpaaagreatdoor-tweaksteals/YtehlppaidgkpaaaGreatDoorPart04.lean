import Derived.Test.YtehlppaidgkpaaaGreatDoorPart01
import Derived.Laws.BitsAllLaws
import Derived.Laws.AppendOwnNone
import Derived.Deep.DeepMust
namespace Go.Proofs.YtehlppaidgkpaaaGreatDoor.Dg
open Go.RowKit

theorem Tryz.info5 : (Tryz.prog.info? 5).map (fun i => (i.zero, i.size, i.bytes)) = some (some (.int .u8 0), 1, 1) := by kernel_rfl

/-- Bytes as cells. -/
def cellsU8 (zs : List Int) : List Value := zs.map (Value.int .u8)
theorem cellsU8_length (a : List Int) : (cellsU8 a).length = a.length := by simp [cellsU8]
theorem cellsU8_one (a : List Int) : ∀ u ∈ cellsU8 a, u.oneCell' = true := by
  intro u hu
  obtain ⟨_, _, rfl⟩ := List.mem_map.1 hu
  rfl
theorem cellsU8_at (a : List Int) (w : World) (b off : Nat) (h : ∀ i, i < a.length → w.cell? ⟨b, off + i, none⟩ = some (.int .u8 (a.getD i 0))) :
    ∀ j u, (cellsU8 a)[j]? = some u → w.cell? ((⟨b, off, none⟩ : Addr).add j) = some u := by
  intro j u hu
  simp only [cellsU8, List.getElem?_map, Option.map_eq_some_iff] at hu
  obtain ⟨z, hz, rfl⟩ := hu
  have hj : j < a.length := (List.getElem?_eq_some_iff.1 hz).1
  have := h j hj
  rw [List.getD_eq_getElem?_getD, hz] at this
  rw [Addr.add_lit]
  simpa using this

end Go.Proofs.YtehlppaidgkpaaaGreatDoor.Dg
namespace Go.Proofs.YtehlppaidgkpaaaGreatDoor.Dg
open Go.RowKit
set_option linter.unusedVariables false
/-- What a block function of the document's answer has in memory: the words that it was handed (block N), the constants (block N + 1, where there are some), room for what it answers (rb), the schedule (wb). -/
structure TX (w wr : World) (H : List Value) (K : Nat → Option Value) (rb wb M : Nat) (G : Nat → Value) : Prop where
  below : Below w.heap.size w wr
  nb : w.heap.size < rb ∧ w.heap.size < wb ∧ rb ≠ wb ∧ wb ≠ w.heap.size + 1 ∨ w.heap.size < rb ∧ w.heap.size < wb ∧ rb ≠ wb ∧ ∀ t, K t = none
  sz : rb < wr.heap.size ∧ wb < wr.heap.size ∧ w.heap.size < wr.heap.size
  h : wr.rangeAt w.heap.size 0 H
  k : ∀ t v, K t = some v → wr.cell? ⟨w.heap.size + 1, t, none⟩ = some v
  res : wr.there rb 0 8
  wth : wr.there wb 0 M
  fill : ∀ j, j < M → wr.cell? ⟨wb, j, none⟩ = some (G j)
theorem TX.drewN {w wr : World} {H : List Value} {K : Nat → Option Value} {rb wb M : Nat} {G : Nat → Value} (h : TX w wr H K rb wb M G) (n : Nat) : TX w (wr.drewN n) H K rb wb M G :=
  ⟨⟨h.below.os, h.below.tape, h.below.output, h.below.size, h.below.block⟩, h.nb, h.sz, h.h, h.k, h.res, h.wth, h.fill⟩
theorem TX.drew {w wr : World} {H : List Value} {K : Nat → Option Value} {rb wb M : Nat} {G : Nat → Value} (h : TX w wr H K rb wb M G) : TX w wr.drew H K rb wb M G :=
  ⟨⟨h.below.os, h.below.tape, h.below.output, h.below.size, h.below.block⟩, h.nb, h.sz, h.h, h.k, h.res, h.wth, h.fill⟩
theorem TX.congr {w wr : World} {H : List Value} {K : Nat → Option Value} {rb wb M : Nat} {G G' : Nat → Value} (h : TX w wr H K rb wb M G) (e : ∀ j, j < M → G j = G' j) : TX w wr H K rb wb M G' :=
  ⟨h.below, h.nb, h.sz, h.h, h.k, h.res, h.wth, fun j hj => by rw [← e j hj]; exact h.fill j hj⟩
theorem setCell_other (w : World) (b o b' o' : Nat) (u : Value) (hne : b' ≠ b) : (w.setCell ⟨b, o, none⟩ u).cell? ⟨b', o', none⟩ = w.cell? ⟨b', o', none⟩ :=
  World.cell?_of_block (w := w) (Below.heap_setCell w ⟨b, o, none⟩ u b' (by simpa using hne))
theorem TX.put {w wr : World} {H : List Value} {K : Nat → Option Value} {rb wb M : Nat} {G : Nat → Value} (h : TX w wr H K rb wb M G) (t : Nat) (ht : t < M) (u : Value) : TX w (wr.setCell ⟨wb, t, none⟩ u) H K rb wb M (fun j => if j = t then u else G j) := by
  have n1 : w.heap.size < rb ∧ w.heap.size < wb ∧ rb ≠ wb := by rcases h.nb with q | q <;> exact ⟨q.1, q.2.1, q.2.2.1⟩
  refine ⟨h.below.setCell (by show _ ≤ wb; omega) u, h.nb, by simpa [World.setCell] using h.sz, fun j v hv => ?_, fun j v hv => ?_, World.there_setCells h.res wb t [u], World.there_setCells h.wth wb t [u], fun j hj => ?_⟩
  · rw [setCell_other wr wb t _ _ u (by omega)]
    exact h.h j v hv
  · rcases h.nb with q | q
    · rw [setCell_other wr wb t _ _ u (by omega)]
      exact h.k j v hv
    · rw [q.2.2.2 j] at hv
      cases hv
  · by_cases e : j = t
    · subst e
      rw [if_pos rfl]
      have := (h.wth j hj).1
      rw [Nat.zero_add] at this
      exact World.cell?_setCell_same' _ _ _ this
    · rw [if_neg e]
      have := World.cell?_setCells_out wb [u] t wr ⟨wb, j, none⟩ (fun _ _ => by show j < t ∨ t + 1 ≤ j; omega)
      exact this.trans (h.fill j hj)
/-- Cells of what was made before lie as they did. -/
theorem cell_alloc_old (w : World) (o : Obj) (b j : Nat) (hb : b < w.heap.size) : (w.alloc o).cell? ⟨b, j, none⟩ = w.cell? ⟨b, j, none⟩ := World.cell?_of_block (w := w) (Below.heap_alloc w o b hb)
theorem there_alloc_old {w : World} {b o n : Nat} (h : w.there b o n) (hb : b < w.heap.size) (ob : Obj) : (w.alloc ob).there b o n := fun j hj => by
  rw [cell_alloc_old w ob b (o + j) hb, World.frozen?_of_block (w := w) (a := ⟨b, o + j, none⟩) (Below.heap_alloc w ob b hb)]
  exact h j hj
theorem range_alloc_old {w : World} {b o : Nat} {cs : List Value} (h : w.rangeAt b o cs) (hb : b < w.heap.size) (ob : Obj) : (w.alloc ob).rangeAt b o cs := fun j v hv => by
  rw [cell_alloc_old w ob b (o + j) hb]
  exact h j v hv
theorem size_alloc (w : World) (o : Obj) : (w.alloc o).heap.size = w.heap.size + 1 := by simp
theorem tx_new4 (w : World) (H Kc Z8 Zw : Array Value) (t1 t2 t3 t4 : TypeId) (K : Nat → Option Value) (M : Nat) (G : Nat → Value) (h8 : Z8.size = 8) (hM : Zw.size = M) (hK : ∀ t v, K t = some v → Kc[t]? = some v) (hG : ∀ j, j < M → Zw[j]? = some (G j)) :
    TX w ((((w.alloc (.cells H t1)).alloc (.cells Kc t2)).alloc (.cells Z8 t3)).alloc (.cells Zw t4)) H.toList K (w.heap.size + 2) (w.heap.size + 3) M G := by
  obtain ⟨w1, e1⟩ : ∃ w1, w1 = w.alloc (.cells H t1) := ⟨_, rfl⟩
  obtain ⟨w2, e2⟩ : ∃ w2, w2 = w1.alloc (.cells Kc t2) := ⟨_, rfl⟩
  obtain ⟨w3, e3⟩ : ∃ w3, w3 = w2.alloc (.cells Z8 t3) := ⟨_, rfl⟩
  have s1 : w1.heap.size = w.heap.size + 1 := by rw [e1, size_alloc]
  have s2 : w2.heap.size = w.heap.size + 2 := by rw [e2, size_alloc, s1]
  have s3 : w3.heap.size = w.heap.size + 3 := by rw [e3, size_alloc, s2]
  rw [← e1, ← e2, ← e3]
  have b1 : Below w.heap.size w w1 := by rw [e1]; exact (Below.refl _ _).alloc (Nat.le_refl _) _
  have b2 : Below w.heap.size w w2 := by rw [e2]; exact b1.alloc (by omega) _
  have b3 : Below w.heap.size w w3 := by rw [e3]; exact b2.alloc (by omega) _
  refine ⟨b3.alloc (by omega) _, .inl (by omega), by rw [size_alloc]; omega, ?_, fun t v hv => ?_, ?_, ?_, fun j hj => ?_⟩
  · have r1 : w1.rangeAt w.heap.size 0 H.toList := by rw [e1]; exact rangeAt_new w H t1
    have r2 : w2.rangeAt w.heap.size 0 H.toList := by rw [e2]; exact range_alloc_old r1 (by omega) _
    have r3 : w3.rangeAt w.heap.size 0 H.toList := by rw [e3]; exact range_alloc_old r2 (by omega) _
    exact range_alloc_old r3 (by omega) _
  · rw [cell_alloc_old w3 _ _ _ (by omega), e3, cell_alloc_old w2 _ _ _ (by omega), e2]
    have := rangeAt_new w1 Kc t2 t v (by simpa using hK t v hv)
    rw [s1, Nat.zero_add] at this
    exact this
  · have := there_new w2 Z8 t3 8 (by omega)
    rw [s2, ← e3] at this
    exact there_alloc_old this (by omega) _
  · have := there_new w3 Zw t4 M (by omega)
    rw [s3] at this
    exact this
  · have := rangeAt_new w3 Zw t4 j (G j) (by simpa using hG j hj)
    rw [s3, Nat.zero_add] at this
    exact this
end Go.Proofs.YtehlppaidgkpaaaGreatDoor.Dg
