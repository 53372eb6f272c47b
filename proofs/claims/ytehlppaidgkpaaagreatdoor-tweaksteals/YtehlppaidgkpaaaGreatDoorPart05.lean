import Derived.Test.YtehlppaidgkpaaaGreatDoorPart00
import Derived.Laws.BitsAllLaws
import Derived.Test.YtehlppaidgkpaaaGreatDoorPart02
import Derived.Test.YtehlppaidgkpaaaGreatDoorPart04
namespace Go.Proofs.YtehlppaidgkpaaaGreatDoor
/-- Numbers that are bytes. -/
def AllBytes (zs : List Int) : Prop := ∀ i, 0 ≤ zs.getD i 0 ∧ zs.getD i 0 < 256
end Go.Proofs.YtehlppaidgkpaaaGreatDoor
namespace Go.Proofs.YtehlppaidgkpaaaGreatDoor.Dg
open Go.RowKit
/-- A rotation to the left by s. -/
def rotl32 (x : Int) (s : Nat) : Int := bits .or .u32 (x * 2 ^ s % 4294967296) (x / 2 ^ (32 - s))
def rotl64 (x : Int) (s : Nat) : Int := bits .or .u64 (x * 2 ^ s % 18446744073709551616) (x / 2 ^ (64 - s))
theorem wrap64 (x : Int) (h0 : 0 ≤ x) (h1 : x ≤ 64) : IntKind.u64.wrap x = x := by
  simp [IntKind.wrap, IntKind.bits, IntKind.signed]
  omega
set_option maxHeartbeats 400000 in
theorem rot32_core (x k s : Int) (w : World) (hb : bits .and .u64 (IntKind.u64.wrap k) 31 = s) (h0 : 0 ≤ s) (h1 : s ≤ 32) : Calls Tryz.prog 78 #[.int .u32 x, .int .i64 k] w fun e w' => e = .returned (.int .u32 (rotl32 x s.toNat)) ∧ w' = w := by
  have hs : IntKind.u64.wrap (32 - s) = 32 - s := wrap64 _ (by omega) (by omega)
  have h2 : 0 ≤ 32 - s := by omega
  go_enter Tryz.func78, Tryz.ntmps78
  go_wp2
  go_ret
  refine ⟨?_, rfl⟩
  have e2 : (32 - s).toNat = 32 - s.toNat := by omega
  rw [e2]
  exact rfl
set_option maxHeartbeats 400000 in
theorem rot64_core (x k s : Int) (w : World) (hb : bits .and .u64 (IntKind.u64.wrap k) 63 = s) (h0 : 0 ≤ s) (h1 : s ≤ 64) : Calls Tryz.prog 125 #[.int .u64 x, .int .i64 k] w fun e w' => e = .returned (.int .u64 (rotl64 x s.toNat)) ∧ w' = w := by
  have hs : IntKind.u64.wrap (64 - s) = 64 - s := wrap64 _ (by omega) (by omega)
  have h2 : 0 ≤ 64 - s := by omega
  go_enter Tryz.func125, Tryz.ntmps125
  go_wp2
  go_ret
  refine ⟨?_, rfl⟩
  have e2 : (64 - s).toNat = 64 - s.toNat := by omega
  rw [e2]
  exact rfl
theorem rot32_of {x k : Int} {w : World} (n : Nat) (hb : bits .and .u64 (IntKind.u64.wrap k) 31 = ((32 - n : Nat) : Int)) : Calls Tryz.prog 78 #[.int .u32 x, .int .i64 k] w fun e w' => e = .returned (.int .u32 (rotl32 x (32 - n))) ∧ w' = w := by
  have h := rot32_core x k ((32 - n : Nat) : Int) w hb (by omega) (by omega)
  simpa using h
theorem rot64_of {x k : Int} {w : World} (n : Nat) (hb : bits .and .u64 (IntKind.u64.wrap k) 63 = ((64 - n : Nat) : Int)) : Calls Tryz.prog 125 #[.int .u64 x, .int .i64 k] w fun e w' => e = .returned (.int .u64 (rotl64 x (64 - n))) ∧ w' = w := by
  have h := rot64_core x k ((64 - n : Nat) : Int) w hb (by omega) (by omega)
  simpa using h
end Go.Proofs.YtehlppaidgkpaaaGreatDoor.Dg
namespace Go.Proofs.YtehlppaidgkpaaaGreatDoor.Dg
open Go.RowKit

theorem View.kept {w w' : World} {v : Value} {zs : List Int} (h : View w v zs) (hb : ∀ k, k < w.heap.size → w'.heap[k]? = w.heap[k]?) : View w' v zs := by
  obtain ⟨a, c, rfl, h1, h2, h3, h4⟩ := h
  refine ⟨a, c, rfl, h1, h2, h3, ?_⟩
  rcases h4 with h4 | ⟨b, off, rfl, hc⟩
  · exact .inl h4
  · refine .inr ⟨b, off, rfl, fun i hi => ?_⟩
    have := hc i hi
    have hlt := World.block_lt_of_cell? w _ this
    rw [World.cell?_of_block (w := w) (hb b hlt)]
    exact this

end Go.Proofs.YtehlppaidgkpaaaGreatDoor.Dg
namespace Go.Proofs.YtehlppaidgkpaaaGreatDoor.Dg
open Go.RowKit
set_option linter.unusedVariables false
/-- A row of cells, by a function. -/
def Cl (M : Nat) (G : Nat → Value) : List Value := (List.range M).map G
theorem Cl_length (M : Nat) (G : Nat → Value) : (Cl M G).length = M := by simp [Cl]
theorem Cl_at (M : Nat) (G : Nat → Value) (j : Nat) (hj : j < M) : (Cl M G)[j]? = some (G j) := by simp [Cl, hj]
theorem Cl_congr {M : Nat} {G G' : Nat → Value} (h : ∀ j, j < M → G j = G' j) : Cl M G = Cl M G' := by
  unfold Cl
  apply List.map_congr_left
  intro j hj
  exact h j (by simpa using hj)
theorem Cl_set (M : Nat) (G : Nat → Value) (t : Nat) (u : Value) : (Cl M G).set t u = Cl M (fun j => if j = t then u else G j) := by
  apply List.ext_getElem?
  intro j
  by_cases hj : j < M
  · rw [Cl_at _ _ j hj]
    by_cases e : t = j
    · subst e
      rw [List.getElem?_set_self (by rw [Cl_length]; exact hj), if_pos rfl]
    · rw [List.getElem?_set_ne e, Cl_at _ _ j hj, if_neg (fun h => e h.symm)]
  · rw [List.getElem?_eq_none (by rw [List.length_set, Cl_length]; omega), List.getElem?_eq_none (by rw [Cl_length]; omega)]
/-- Blocks that a call made for itself, one behind the other, with what they hold. -/
structure Mem (w wr : World) (L : List (List Value)) : Prop where
  below : Below w.heap.size w wr
  size : w.heap.size + L.length ≤ wr.heap.size
  holds : ∀ i cs, L[i]? = some cs → wr.rangeAt (w.heap.size + i) 0 cs ∧ wr.there (w.heap.size + i) 0 cs.length
theorem Mem.nil (w : World) : Mem w w [] := ⟨Below.refl _ _, by simp, fun i cs h => by simp at h⟩
theorem Mem.kept {w wr wn : World} {L : List (List Value)} (h : Mem w wr L) (hb : Below w.heap.size w wn) (hs : wr.heap.size ≤ wn.heap.size) (hk : ∀ b, b < wr.heap.size → wn.heap[b]? = wr.heap[b]?) : Mem w wn L := by
  refine ⟨hb, Nat.le_trans h.size hs, fun i cs hi => ?_⟩
  have hl : i < L.length := (List.getElem?_eq_some_iff.1 hi).1
  have hlt : w.heap.size + i < wr.heap.size := by have := h.size; omega
  obtain ⟨h1, h2⟩ := h.holds i cs hi
  refine ⟨fun j v hv => ?_, fun j hj => ?_⟩
  · rw [World.cell?_of_block (w := wr) (hk _ hlt)]
    exact h1 j v hv
  · rw [World.cell?_of_block (w := wr) (a := ⟨w.heap.size + i, 0 + j, none⟩) (hk _ hlt), World.frozen?_of_block (w := wr) (a := ⟨w.heap.size + i, 0 + j, none⟩) (hk _ hlt)]
    exact h2 j hj
theorem Mem.later {w wr wn : World} {L : List (List Value)} (h : Mem w wr L) (hb : Below wr.heap.size wr wn) : Mem w wn L :=
  h.kept (h.below.trans (hb.mono h.below.size)) hb.size (fun b hb' => hb.block b hb')
theorem Mem.alloc {w wr : World} {L : List (List Value)} (h : Mem w wr L) (hs : wr.heap.size = w.heap.size + L.length) (C : Array Value) (t : TypeId) : Mem w (wr.alloc (.cells C t)) (L ++ [C.toList]) := by
  have h0 : Mem w (wr.alloc (.cells C t)) L := h.kept (h.below.alloc (by omega) _) (by simp) (fun b hb => Below.heap_alloc wr _ b hb)
  refine ⟨h0.below, by simp; omega, fun i cs hi => ?_⟩
  by_cases hl : i < L.length
  · rw [List.getElem?_append_left hl] at hi
    exact h0.holds i cs hi
  · have hil : i < (L ++ [C.toList]).length := (List.getElem?_eq_some_iff.1 hi).1
    simp at hil
    obtain rfl : i = L.length := by omega
    simp at hi
    subst hi
    rw [← hs]
    exact ⟨rangeAt_new wr C t, there_new wr C t _ (by simp)⟩
theorem Mem.put {w wr : World} {L : List (List Value)} (h : Mem w wr L) (i : Nat) {cs : List Value} (hi : L[i]? = some cs) (t : Nat) (ht : t < cs.length) (u : Value) : Mem w (wr.setCell ⟨w.heap.size + i, t, none⟩ u) (L.set i (cs.set t u)) := by
  have hl : i < L.length := (List.getElem?_eq_some_iff.1 hi).1
  refine ⟨h.below.setCell (by show _ ≤ w.heap.size + i; omega) u, by simpa [World.setCell] using h.size, fun k ds hk => ?_⟩
  by_cases e : i = k
  · subst e
    rw [List.getElem?_set_self hl] at hk
    injection hk with hk
    subst hk
    obtain ⟨h1, h2⟩ := h.holds i cs hi
    refine ⟨fun j v hv => ?_, ?_⟩
    · by_cases e : t = j
      · subst e
        rw [List.getElem?_set_self ht] at hv
        injection hv with hv
        subst hv
        rw [Nat.zero_add]
        have := (h2 t ht).1
        rw [Nat.zero_add] at this
        exact World.cell?_setCell_same' _ _ _ this
      · rw [List.getElem?_set_ne e] at hv
        have := World.cell?_setCells_out (w.heap.size + i) [u] t wr ⟨w.heap.size + i, 0 + j, none⟩ (fun _ _ => by show 0 + j < t ∨ t + 1 ≤ 0 + j; omega)
        exact this.trans (h1 j v hv)
    · rw [List.length_set]
      exact World.there_setCells h2 (w.heap.size + i) t [u]
  · rw [List.getElem?_set_ne e] at hk
    obtain ⟨h1, h2⟩ := h.holds k ds hk
    refine ⟨fun j v hv => ?_, World.there_setCells h2 (w.heap.size + i) t [u]⟩
    rw [setCell_other wr (w.heap.size + i) t _ _ u (by omega)]
    exact h1 j v hv
theorem Mem.store {w wr : World} {L : List (List Value)} (h : Mem w wr L) (i : Nat) {cs : List Value} (hi : L[i]? = some cs) (vs : List Value) (hv : vs.length = cs.length) : Mem w (wr.setCells (w.heap.size + i) 0 vs) (L.set i vs) := by
  have hl : i < L.length := (List.getElem?_eq_some_iff.1 hi).1
  refine ⟨below_setCells _ (by omega) _ _ _ h.below, by rw [size_setCells]; simpa using h.size, fun k ds hk => ?_⟩
  by_cases e : i = k
  · subst e
    rw [List.getElem?_set_self hl] at hk
    injection hk with hk
    subst hk
    obtain ⟨h1, h2⟩ := h.holds i cs hi
    rw [← hv] at h2
    exact ⟨World.rangeAt_setCells_same wr (w.heap.size + i) 0 vs h2, World.there_setCells h2 (w.heap.size + i) 0 vs⟩
  · rw [List.getElem?_set_ne e] at hk
    obtain ⟨h1, h2⟩ := h.holds k ds hk
    refine ⟨fun j v hv => ?_, World.there_setCells h2 (w.heap.size + i) 0 vs⟩
    rw [World.cell?_setCells_out (w.heap.size + i) vs 0 wr ⟨w.heap.size + k, 0 + j, none⟩ (fun e' _ => absurd e' (by simp; omega))]
    exact h1 j v hv
theorem Mem.cell {w wr : World} {L : List (List Value)} (h : Mem w wr L) (i : Nat) {cs : List Value} (hi : L[i]? = some cs) (t : Nat) (v : Value) (hv : cs[t]? = some v) : wr.cell? ⟨w.heap.size + i, t, none⟩ = some v := by
  have := (h.holds i cs hi).1 t v hv
  rwa [Nat.zero_add] at this
theorem Mem.frozen {w wr : World} {L : List (List Value)} (h : Mem w wr L) (i : Nat) {cs : List Value} (hi : L[i]? = some cs) (t : Nat) (ht : t < cs.length) : wr.frozen? ⟨w.heap.size + i, t, none⟩ = false := by
  have := ((h.holds i cs hi).2 t ht).2
  rwa [Nat.zero_add] at this
theorem Mem.congr {w wr : World} {L L' : List (List Value)} (h : Mem w wr L) (e : L = L') : Mem w wr L' := e ▸ h
end Go.Proofs.YtehlppaidgkpaaaGreatDoor.Dg
