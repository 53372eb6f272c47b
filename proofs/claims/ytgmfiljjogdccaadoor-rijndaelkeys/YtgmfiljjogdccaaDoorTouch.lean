import Derived.Test.YtgmfiljjogdccaaDoorBig
import Derived.Deep.Draws
import Derived.Deep.Upon
namespace Go.Proofs.YtgmfiljjogdccaaDoor
open Go.RowKit

/-- A world that differs in what it drew alone. -/
structure Sm (w w' : World) : Prop where
  os : w'.os = w.os
  tape : w'.tape = w.tape
  output : w'.output = w.output
  heap : w'.heap = w.heap
theorem Sm.refl (w : World) : Sm w w := ⟨rfl, rfl, rfl, rfl⟩
theorem Sm.drewN {w v : World} (h : Sm w v) (m : Nat) : Sm w (v.drewN m) := ⟨h.os, h.tape, h.output, h.heap⟩
theorem Sm.trans {a b c : World} (h : Sm a b) (k : Sm b c) : Sm a c := ⟨k.os.trans h.os, k.tape.trans h.tape, k.output.trans h.output, k.heap.trans h.heap⟩
theorem Sm.cell {w v : World} (h : Sm w v) (p : Addr) : v.cell? p = w.cell? p := World.cell?_of_block (by rw [h.heap])
theorem Sm.frozen {w v : World} (h : Sm w v) (p : Addr) : v.frozen? p = w.frozen? p := World.frozen?_of_block (by rw [h.heap])

theorem setCells_os (b : Nat) : ∀ (vs : List Value) (o : Nat) (w : World), (w.setCells b o vs).os = w.os
  | [], _, _ => rfl
  | v :: r, o, w => by rw [World.setCells, setCells_os b r (o + 1)]; rfl
theorem setCells_tape (b : Nat) : ∀ (vs : List Value) (o : Nat) (w : World), (w.setCells b o vs).tape = w.tape
  | [], _, _ => rfl
  | v :: r, o, w => by rw [World.setCells, setCells_tape b r (o + 1)]; rfl
theorem setCells_output (b : Nat) : ∀ (vs : List Value) (o : Nat) (w : World), (w.setCells b o vs).output = w.output
  | [], _, _ => rfl
  | v :: r, o, w => by rw [World.setCells, setCells_output b r (o + 1)]; rfl

/-- From w to w' nothing of what was there is changed but n cells of block g from o on; what could be written there can be still. -/
structure Touch (w w' : World) (g o n : Nat) : Prop where
  os : w'.os = w.os
  tape : w'.tape = w.tape
  output : w'.output = w.output
  size : w.heap.size ≤ w'.heap.size
  block : ∀ k, k < w.heap.size → k ≠ g → w'.heap[k]? = w.heap[k]?
  cell : ∀ j, (j < o ∨ o + n ≤ j) → w'.cell? ⟨g, j, none⟩ = w.cell? ⟨g, j, none⟩
  there : ∀ o' n', w.there g o' n' → w'.there g o' n'

theorem Sm.touch {w v : World} (h : Sm w v) (g o n : Nat) : Touch w v g o n :=
  ⟨h.os, h.tape, h.output, by rw [h.heap]; exact Nat.le_refl _, fun k _ _ => by rw [h.heap], fun j _ => h.cell _, fun o' n' ht j hj => by rw [h.cell, h.frozen]; exact ht j hj⟩
theorem Touch.refl (w : World) (g o n : Nat) : Touch w w g o n := (Sm.refl w).touch g o n
theorem Touch.trans {a b c : World} {g o n : Nat} (h : Touch a b g o n) (k : Touch b c g o n) : Touch a c g o n :=
  ⟨k.os.trans h.os, k.tape.trans h.tape, k.output.trans h.output, Nat.le_trans h.size k.size, fun i hi hne => (k.block i (Nat.lt_of_lt_of_le hi h.size) hne).trans (h.block i hi hne), fun j hj => (k.cell j hj).trans (h.cell j hj), fun o' n' ht => k.there o' n' (h.there o' n' ht)⟩
theorem Touch.mono {a b : World} {g o n : Nat} (h : Touch a b g o n) (o' n' : Nat) (h1 : o' ≤ o) (h2 : o + n ≤ o' + n') : Touch a b g o' n' :=
  ⟨h.os, h.tape, h.output, h.size, h.block, fun j hj => h.cell j (by omega), h.there⟩
theorem Touch.setCells {a b : World} {g o n : Nat} (h : Touch a b g o n) (o' : Nat) (vs : List Value) (h1 : o ≤ o') (h2 : o' + vs.length ≤ o + n) : Touch a (b.setCells g o' vs) g o n := by
  refine h.trans ⟨?_, ?_, ?_, ?_, ?_, ?_, ?_⟩
  · exact setCells_os g vs o' b
  · exact setCells_tape g vs o' b
  · exact setCells_output g vs o' b
  · rw [sizeB_setCells]; exact Nat.le_refl _
  · intro k hk hne
    exact World.heap_setCells_other b g o' vs hk hne
  · intro j hj
    exact World.cell?_setCells_out g vs o' b ⟨g, j, none⟩ (fun _ _ => by rcases hj with h | h; exact .inl (by show j < o'; omega); exact .inr (by show o' + vs.length ≤ j; omega))
  · intro o2 n2 ht
    exact World.there_setCells ht g o' vs
theorem Touch.setCell {a b : World} {g o n : Nat} (h : Touch a b g o n) (j : Nat) (u : Value) (h1 : o ≤ j) (h2 : j < o + n) : Touch a (b.setCell ⟨g, j, none⟩ u) g o n :=
  h.setCells j [u] h1 (by simp; omega)
theorem Touch.alloc {a b : World} {g o n : Nat} (h : Touch a b g o n) (ob : Obj) (hg : g < a.heap.size) : Touch a (b.alloc ob) g o n := by
  have hs := h.size
  refine h.trans ⟨rfl, rfl, rfl, by simp, ?_, ?_, ?_⟩
  · intro k hk _
    exact Below.heap_alloc b ob k hk
  · intro j _
    exact World.cell?_alloc_past ob g j (by omega)
  · intro o' n' ht
    exact World.there_alloc ht ob
theorem Touch.drew {a b : World} {g o n : Nat} (h : Touch a b g o n) : Touch a b.drew g o n := ⟨h.os, h.tape, h.output, h.size, h.block, h.cell, h.there⟩
theorem Touch.drewN {a b : World} {g o n : Nat} (h : Touch a b g o n) (m : Nat) : Touch a (b.drewN m) g o n := ⟨h.os, h.tape, h.output, h.size, h.block, h.cell, h.there⟩
/-- What only makes new blocks touches nothing. -/
theorem Touch.below {a b c : World} {g o n : Nat} (h : Touch a b g o n) (k : Below b.heap.size b c) (hg : g < a.heap.size) : Touch a c g o n := by
  have hs := h.size
  refine h.trans ⟨k.os, k.tape, k.output, k.size, fun i hi _ => k.block i hi, fun j _ => k.cell (p := ⟨g, j, none⟩) (show g < _ by omega), ?_⟩
  intro o' n' ht j hj
  rw [k.cell (p := ⟨g, o' + j, none⟩) (show g < _ by omega), k.frozen (p := ⟨g, o' + j, none⟩) (show g < _ by omega)]
  exact ht j hj
theorem Touch.toBelow {a b : World} {g o n B : Nat} (h : Touch a b g o n) (hg : B ≤ g) (hB : B ≤ a.heap.size) : Below B a b :=
  ⟨h.os, h.tape, h.output, h.size, fun k hk => h.block k (by omega) (by omega)⟩
theorem Touch.far {a b : World} {g o n : Nat} (h : Touch a b g o n) {p : Addr} (hp : p.block < a.heap.size) (hne : p.block ≠ g) : b.cell? p = a.cell? p := World.cell?_of_block (h.block p.block hp hne)
theorem Touch.farFrozen {a b : World} {g o n : Nat} (h : Touch a b g o n) {p : Addr} (hp : p.block < a.heap.size) (hne : p.block ≠ g) : b.frozen? p = a.frozen? p := World.frozen?_of_block (h.block p.block hp hne)
end Go.Proofs.YtgmfiljjogdccaaDoor
