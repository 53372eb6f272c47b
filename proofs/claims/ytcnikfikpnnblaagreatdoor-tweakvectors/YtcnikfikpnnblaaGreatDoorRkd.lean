import Derived.Test.YtcnikfikpnnblaaGreatDoorPart13
import Derived.WalkKit
import Derived.Deep.RegionHeld3
import Derived.Great.BuildSlice
import Derived.Maps.AppendAt
import Derived.Below
import Derived.Test.YtcnikfikpnnblaaGreatDoorPart00
import Derived.Test.YtcnikfikpnnblaaGreatDoorPart10
import Derived.Laws.OwnMore
namespace Go.Proofs.YtcnikfikpnnblaaGreatDoor
open Go.RowKit
set_option linter.unusedVariables false
/-- The rows of products. -/
def byF : Nat → Nat → Nat
  | 1, j => j
  | 2, j => x2 j
  | 3, j => x3 j
  | 9, j => x9 j
  | 11, j => x11 j
  | 13, j => x13 j
  | _, j => x14 j
def byR (r : Nat) : Prop := r = 1 ∨ r = 2 ∨ r = 3 ∨ r = 9 ∨ r = 11 ∨ r = 13 ∨ r = 14
/-- The reference's key while it is made at g: tables, and the products of the first m bytes. -/
structure RkT (w : World) (g m : Nat) (v : World) : Prop where
  old : Below g w v
  room : v.there g 0 4611
  lt : g < v.heap.size
  s : ∀ j, j < 256 → v.cell? ⟨g, 2 + j, none⟩ = some (.int .u8 (SB j : Nat))
  u : ∀ j, j < 256 → v.cell? ⟨g, 258 + j, none⟩ = some (.int .u8 (UB j : Nat))
  by' : ∀ r, byR r → ∀ j, j < m → v.cell? ⟨g, 514 + 256 * r + j, none⟩ = some (.int .u8 (byF r j : Nat))
  wiped : v.cell? ⟨g, 4610, none⟩ = some (.bool false)
theorem RkT.keep {w v v' : World} {g m : Nat} (h : RkT w g m v) (hb : v'.heap[g]? = v.heap[g]?) (ho : Below g w v') (hs : v.heap.size ≤ v'.heap.size) : RkT w g m v' := by
  have hc : ∀ j, v'.cell? ⟨g, j, none⟩ = v.cell? ⟨g, j, none⟩ := fun j => World.cell?_of_block (a := ⟨g, j, none⟩) hb
  have hf : ∀ j, v'.frozen? ⟨g, j, none⟩ = v.frozen? ⟨g, j, none⟩ := fun j => World.frozen?_of_block (a := ⟨g, j, none⟩) hb
  exact ⟨ho, fun j hj => by rw [hc, hf]; exact h.room j hj, Nat.lt_of_lt_of_le h.lt hs, fun j hj => (hc _).trans (h.s j hj), fun j hj => (hc _).trans (h.u j hj), fun r hr j hj => (hc _).trans (h.by' r hr j hj), (hc _).trans h.wiped⟩
theorem RkT.set {w v : World} {g m : Nat} (h : RkT w g m v) (j : Nat) (x : Value) (hj : j < 2) : RkT w g m (v.setCell ⟨g, j, none⟩ x) :=
  ⟨h.old.setCell (Nat.le_refl _) _, World.there_setCells h.room _ _ [_], by have := h.lt; simpa [World.setCell] using this, fun i hi => (cell_other _ _ _ _ _ (by omega)).trans (h.s i hi), fun i hi => (cell_other _ _ _ _ _ (by omega)).trans (h.u i hi), fun r hr i hi => (cell_other _ _ _ _ _ (by omega)).trans (h.by' r hr i hi), (cell_other _ _ _ _ _ (by omega)).trans h.wiped⟩
/-- Seven cells more. -/
def bySet (v : World) (g k : Nat) : World :=
  ((((((v.setCell ⟨g, 770 + k, none⟩ (.int .u8 (k : Nat))).setCell ⟨g, 1026 + k, none⟩ (.int .u8 (x2 k : Nat))).setCell ⟨g, 1282 + k, none⟩ (.int .u8 (x3 k : Nat))).setCell ⟨g, 2818 + k, none⟩ (.int .u8 (x9 k : Nat))).setCell ⟨g, 3330 + k, none⟩ (.int .u8 (x11 k : Nat))).setCell ⟨g, 3842 + k, none⟩ (.int .u8 (x13 k : Nat))).setCell ⟨g, 4098 + k, none⟩ (.int .u8 (x14 k : Nat))
theorem bySet_out (v : World) (g k j : Nat) (h : j ≠ 770 + k ∧ j ≠ 1026 + k ∧ j ≠ 1282 + k ∧ j ≠ 2818 + k ∧ j ≠ 3330 + k ∧ j ≠ 3842 + k ∧ j ≠ 4098 + k) : (bySet v g k).cell? ⟨g, j, none⟩ = v.cell? ⟨g, j, none⟩ := by
  unfold bySet
  rw [cell_other _ _ _ _ _ (by omega), cell_other _ _ _ _ _ (by omega), cell_other _ _ _ _ _ (by omega), cell_other _ _ _ _ _ (by omega), cell_other _ _ _ _ _ (by omega), cell_other _ _ _ _ _ (by omega), cell_other _ _ _ _ _ (by omega)]
theorem bySet_there {v : World} {g o n : Nat} (k : Nat) (h : v.there g o n) : (bySet v g k).there g o n :=
  World.there_setCells (World.there_setCells (World.there_setCells (World.there_setCells (World.there_setCells (World.there_setCells (World.there_setCells h _ _ [_]) _ _ [_]) _ _ [_]) _ _ [_]) _ _ [_]) _ _ [_]) _ _ [_]
theorem bySet_below {w v : World} {g : Nat} (k : Nat) (h : Below g w v) : Below g w (bySet v g k) :=
  ((((((h.setCell (Nat.le_refl _) _).setCell (Nat.le_refl _) _).setCell (Nat.le_refl _) _).setCell (Nat.le_refl _) _).setCell (Nat.le_refl _) _).setCell (Nat.le_refl _) _).setCell (Nat.le_refl _) _
theorem bySet_size (v : World) (g k : Nat) : (bySet v g k).heap.size = v.heap.size := by simp [bySet, World.setCell]
theorem bySet_in {v : World} {g k : Nat} (ht : v.there g 0 4611) (hk : k < 256) (r : Nat) (hr : byR r) : (bySet v g k).cell? ⟨g, 514 + 256 * r + k, none⟩ = some (.int .u8 (byF r k : Nat)) := by
  unfold bySet
  rcases hr with rfl | rfl | rfl | rfl | rfl | rfl | rfl
  · show World.cell? _ ⟨g, 770 + k, none⟩ = _
    rw [cell_other _ _ _ _ _ (by omega), cell_other _ _ _ _ _ (by omega), cell_other _ _ _ _ _ (by omega), cell_other _ _ _ _ _ (by omega), cell_other _ _ _ _ _ (by omega), cell_other _ _ _ _ _ (by omega)]
    exact set_same _ ht (by omega)
  · show World.cell? _ ⟨g, 1026 + k, none⟩ = _
    rw [cell_other _ _ _ _ _ (by omega), cell_other _ _ _ _ _ (by omega), cell_other _ _ _ _ _ (by omega), cell_other _ _ _ _ _ (by omega), cell_other _ _ _ _ _ (by omega)]
    exact set_same _ (World.there_setCells ht _ _ [_]) (by omega)
  · show World.cell? _ ⟨g, 1282 + k, none⟩ = _
    rw [cell_other _ _ _ _ _ (by omega), cell_other _ _ _ _ _ (by omega), cell_other _ _ _ _ _ (by omega), cell_other _ _ _ _ _ (by omega)]
    exact set_same _ (World.there_setCells (World.there_setCells ht _ _ [_]) _ _ [_]) (by omega)
  · show World.cell? _ ⟨g, 2818 + k, none⟩ = _
    rw [cell_other _ _ _ _ _ (by omega), cell_other _ _ _ _ _ (by omega), cell_other _ _ _ _ _ (by omega)]
    exact set_same _ (World.there_setCells (World.there_setCells (World.there_setCells ht _ _ [_]) _ _ [_]) _ _ [_]) (by omega)
  · show World.cell? _ ⟨g, 3330 + k, none⟩ = _
    rw [cell_other _ _ _ _ _ (by omega), cell_other _ _ _ _ _ (by omega)]
    exact set_same _ (World.there_setCells (World.there_setCells (World.there_setCells (World.there_setCells ht _ _ [_]) _ _ [_]) _ _ [_]) _ _ [_]) (by omega)
  · show World.cell? _ ⟨g, 3842 + k, none⟩ = _
    rw [cell_other _ _ _ _ _ (by omega)]
    exact set_same _ (World.there_setCells (World.there_setCells (World.there_setCells (World.there_setCells (World.there_setCells ht _ _ [_]) _ _ [_]) _ _ [_]) _ _ [_]) _ _ [_]) (by omega)
  · show World.cell? _ ⟨g, 4098 + k, none⟩ = _
    exact set_same _ (World.there_setCells (World.there_setCells (World.there_setCells (World.there_setCells (World.there_setCells (World.there_setCells ht _ _ [_]) _ _ [_]) _ _ [_]) _ _ [_]) _ _ [_]) _ _ [_]) (by omega)
theorem RkT.more {w v : World} {g k : Nat} (h : RkT w g k v) (hk : k < 256) : RkT w g (k + 1) (bySet v g k) := by
  refine ⟨bySet_below k h.old, bySet_there k h.room, by rw [bySet_size]; exact h.lt, fun j hj => (bySet_out _ _ _ _ (by omega)).trans (h.s j hj), fun j hj => (bySet_out _ _ _ _ (by omega)).trans (h.u j hj), fun r hr j hj => ?_, (bySet_out _ _ _ _ (by omega)).trans h.wiped⟩
  by_cases hjk : j = k
  · subst hjk; exact bySet_in h.room hk r hr
  · rw [bySet_out _ _ _ _ (by rcases hr with rfl | rfl | rfl | rfl | rfl | rfl | rfl <;> omega)]
    exact h.by' r hr j (by omega)
/-- A list of bytes. -/
def rbL (K : Nat → Nat) (m : Nat) : List Value := (List.range m).map fun j => .int .u8 (rb K j : Nat)
theorem rbL_at (K : Nat → Nat) (m j : Nat) (h : j < m) : (rbL K m)[j]? = some (.int .u8 (rb K j : Nat)) := by simp [rbL, h]
/-- The reference's key at g, its round keys at gr. -/
structure RefAt (w : World) (g gr nk : Nat) (K : Nat → Nat) : Prop where
  lt : g < w.heap.size
  gt : g < gr
  ltr : gr < w.heap.size
  s : ∀ j, j < 256 → w.cell? ⟨g, 2 + j, none⟩ = some (.int .u8 (SB j : Nat))
  u : ∀ j, j < 256 → w.cell? ⟨g, 258 + j, none⟩ = some (.int .u8 (UB j : Nat))
  by' : ∀ r, byR r → ∀ j, j < 256 → w.cell? ⟨g, 514 + 256 * r + j, none⟩ = some (.int .u8 (byF r j : Nat))
  wiped : w.cell? ⟨g, 4610, none⟩ = some (.bool false)
  bytes : ∃ p c, w.cell? ⟨g, 0, none⟩ = some (.slice p (4 * nk) c)
  round : ∃ c, w.cell? ⟨g, 1, none⟩ = some (.slice (some ⟨gr, 0, none⟩) (16 * (nk + 7)) c)
  cells : ∀ j, j < 16 * (nk + 7) → w.cell? ⟨gr, j, none⟩ = some (.int .u8 (rb K j : Nat))
  room : w.there g 0 4611
theorem RefAt.keep {w w' : World} {g gr nk : Nat} {K : Nat → Nat} (h : RefAt w g gr nk K) (h1 : w'.heap[g]? = w.heap[g]?) (h2 : w'.heap[gr]? = w.heap[gr]?) (hs : w.heap.size ≤ w'.heap.size) : RefAt w' g gr nk K := by
  have hc : ∀ j, w'.cell? ⟨g, j, none⟩ = w.cell? ⟨g, j, none⟩ := fun j => World.cell?_of_block (a := ⟨g, j, none⟩) h1
  have hd : ∀ j, w'.cell? ⟨gr, j, none⟩ = w.cell? ⟨gr, j, none⟩ := fun j => World.cell?_of_block (a := ⟨gr, j, none⟩) h2
  obtain ⟨p, c, hp⟩ := h.bytes
  obtain ⟨d, hq⟩ := h.round
  exact ⟨Nat.lt_of_lt_of_le h.lt hs, h.gt, Nat.lt_of_lt_of_le h.ltr hs, fun j hj => (hc _).trans (h.s j hj), fun j hj => (hc _).trans (h.u j hj), fun r hr j hj => (hc _).trans (h.by' r hr j hj), (hc _).trans h.wiped, ⟨p, c, (hc _).trans hp⟩, ⟨d, (hc _).trans hq⟩, fun j hj => (hd _).trans (h.cells j hj), fun j hj => (by rw [World.cell?_of_block (a := ⟨g, 0 + j, none⟩) h1, World.frozen?_of_block (a := ⟨g, 0 + j, none⟩) h1]; exact h.room j hj)⟩
end Go.Proofs.YtcnikfikpnnblaaGreatDoor
