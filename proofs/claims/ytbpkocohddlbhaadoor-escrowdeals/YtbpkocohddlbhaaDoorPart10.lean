import Derived.Test.YtbpkocohddlbhaaDoorPart09
import Derived.WalkKit
import Derived.Laws.BitsAllLaws
import Derived.Laws.Bits64
import Derived.Test.YtbpkocohddlbhaaDoorPart04
import Derived.Test.YtbpkocohddlbhaaDoorPart05
import Derived.Test.YtbpkocohddlbhaaDoorPart07
import Derived.Test.YtbpkocohddlbhaaDoorPart03
import Derived.Test.YtbpkocohddlbhaaDoorPart00
namespace Go.Proofs.YtbpkocohddlbhaaDoor
open Go.RowKit
set_option linter.unusedVariables false
/-- A row of cells, by a function. -/
def Cl (M : Nat) (G : Nat → Value) : List Value := (List.range M).map G
theorem Cl_length (M : Nat) (G : Nat → Value) : (Cl M G).length = M := by simp [Cl]
theorem Cl_at (M : Nat) (G : Nat → Value) (j : Nat) (hj : j < M) : (Cl M G)[j]? = some (G j) := by simp [Cl, hj]
theorem Cl_congr {M : Nat} {G G' : Nat → Value} (h : ∀ j, j < M → G j = G' j) : Cl M G = Cl M G' := by
  unfold Cl
  apply List.map_congr_left
  intro j hj
  exact h j (by simpa using hj)
theorem Cl_set (M : Nat) (G : Nat → Value) (t : Nat) (u : Value) : (Cl M G).set t u = Cl M (fun j => if j = t then u else G j) := by
  apply List.ext_getElem?
  intro j
  by_cases hj : j < M
  · rw [Cl_at _ _ j hj]
    by_cases e : t = j
    · subst e
      rw [List.getElem?_set_self (by rw [Cl_length]; exact hj), if_pos rfl]
    · rw [List.getElem?_set_ne e, Cl_at _ _ j hj, if_neg (fun h => e h.symm)]
  · rw [List.getElem?_eq_none (by rw [List.length_set, Cl_length]; omega), List.getElem?_eq_none (by rw [Cl_length]; omega)]
/-- Blocks that a call made for itself, one behind the other, with what they hold. -/
structure Mem (w wr : World) (L : List (List Value)) : Prop where
  below : Below w.heap.size w wr
  size : w.heap.size + L.length ≤ wr.heap.size
  holds : ∀ i cs, L[i]? = some cs → wr.rangeAt (w.heap.size + i) 0 cs ∧ wr.there (w.heap.size + i) 0 cs.length
theorem Mem.nil (w : World) : Mem w w [] := ⟨Below.refl _ _, by simp, fun i cs h => by simp at h⟩
theorem Mem.kept {w wr wn : World} {L : List (List Value)} (h : Mem w wr L) (hb : Below w.heap.size w wn) (hs : wr.heap.size ≤ wn.heap.size) (hk : ∀ b, b < wr.heap.size → wn.heap[b]? = wr.heap[b]?) : Mem w wn L := by
  refine ⟨hb, Nat.le_trans h.size hs, fun i cs hi => ?_⟩
  have hl : i < L.length := (List.getElem?_eq_some_iff.1 hi).1
  have hlt : w.heap.size + i < wr.heap.size := by have := h.size; omega
  obtain ⟨h1, h2⟩ := h.holds i cs hi
  refine ⟨fun j v hv => ?_, fun j hj => ?_⟩
  · rw [World.cell?_of_block (w := wr) (hk _ hlt)]
    exact h1 j v hv
  · rw [World.cell?_of_block (w := wr) (a := ⟨w.heap.size + i, 0 + j, none⟩) (hk _ hlt), World.frozen?_of_block (w := wr) (a := ⟨w.heap.size + i, 0 + j, none⟩) (hk _ hlt)]
    exact h2 j hj
theorem Mem.later {w wr wn : World} {L : List (List Value)} (h : Mem w wr L) (hb : Below wr.heap.size wr wn) : Mem w wn L :=
  h.kept (h.below.trans (hb.mono h.below.size)) hb.size (fun b hb' => hb.block b hb')
theorem Mem.drewN {w wr : World} {L : List (List Value)} (h : Mem w wr L) (n : Nat) : Mem w (wr.drewN n) L := ⟨⟨h.below.os, h.below.tape, h.below.output, h.below.size, h.below.block⟩, h.size, h.holds⟩
theorem Mem.drew {w wr : World} {L : List (List Value)} (h : Mem w wr L) : Mem w wr.drew L := ⟨⟨h.below.os, h.below.tape, h.below.output, h.below.size, h.below.block⟩, h.size, h.holds⟩
theorem Mem.alloc {w wr : World} {L : List (List Value)} (h : Mem w wr L) (hs : wr.heap.size = w.heap.size + L.length) (C : Array Value) (t : TypeId) : Mem w (wr.alloc (.cells C t)) (L ++ [C.toList]) := by
  have h0 : Mem w (wr.alloc (.cells C t)) L := h.kept (h.below.alloc (by omega) _) (by simp) (fun b hb => Below.heap_alloc wr _ b hb)
  refine ⟨h0.below, by simp; omega, fun i cs hi => ?_⟩
  by_cases hl : i < L.length
  · rw [List.getElem?_append_left hl] at hi
    exact h0.holds i cs hi
  · have hil : i < (L ++ [C.toList]).length := (List.getElem?_eq_some_iff.1 hi).1
    simp at hil
    obtain rfl : i = L.length := by omega
    simp at hi
    subst hi
    rw [← hs]
    exact ⟨rangeAt_new wr C t, there_new wr C t _ (by simp)⟩
theorem Mem.put {w wr : World} {L : List (List Value)} (h : Mem w wr L) (i : Nat) {cs : List Value} (hi : L[i]? = some cs) (t : Nat) (ht : t < cs.length) (u : Value) : Mem w (wr.setCell ⟨w.heap.size + i, t, none⟩ u) (L.set i (cs.set t u)) := by
  have hl : i < L.length := (List.getElem?_eq_some_iff.1 hi).1
  refine ⟨h.below.setCell (by show _ ≤ w.heap.size + i; omega) u, by simpa [World.setCell] using h.size, fun k ds hk => ?_⟩
  by_cases e : i = k
  · subst e
    rw [List.getElem?_set_self hl] at hk
    injection hk with hk
    subst hk
    obtain ⟨h1, h2⟩ := h.holds i cs hi
    refine ⟨fun j v hv => ?_, ?_⟩
    · by_cases e : t = j
      · subst e
        rw [List.getElem?_set_self ht] at hv
        injection hv with hv
        subst hv
        rw [Nat.zero_add]
        have := (h2 t ht).1
        rw [Nat.zero_add] at this
        exact World.cell?_setCell_same' _ _ _ this
      · rw [List.getElem?_set_ne e] at hv
        have := World.cell?_setCells_out (w.heap.size + i) [u] t wr ⟨w.heap.size + i, 0 + j, none⟩ (fun _ _ => by show 0 + j < t ∨ t + 1 ≤ 0 + j; omega)
        exact this.trans (h1 j v hv)
    · rw [List.length_set]
      exact World.there_setCells h2 (w.heap.size + i) t [u]
  · rw [List.getElem?_set_ne e] at hk
    obtain ⟨h1, h2⟩ := h.holds k ds hk
    refine ⟨fun j v hv => ?_, World.there_setCells h2 (w.heap.size + i) t [u]⟩
    rw [setCell_other wr (w.heap.size + i) t _ _ u (by omega)]
    exact h1 j v hv
theorem Mem.store {w wr : World} {L : List (List Value)} (h : Mem w wr L) (i : Nat) {cs : List Value} (hi : L[i]? = some cs) (vs : List Value) (hv : vs.length = cs.length) : Mem w (wr.setCells (w.heap.size + i) 0 vs) (L.set i vs) := by
  have hl : i < L.length := (List.getElem?_eq_some_iff.1 hi).1
  refine ⟨below_setCells _ (by omega) _ _ _ h.below, by rw [size_setCells]; simpa using h.size, fun k ds hk => ?_⟩
  by_cases e : i = k
  · subst e
    rw [List.getElem?_set_self hl] at hk
    injection hk with hk
    subst hk
    obtain ⟨h1, h2⟩ := h.holds i cs hi
    rw [← hv] at h2
    exact ⟨World.rangeAt_setCells_same wr (w.heap.size + i) 0 vs h2, World.there_setCells h2 (w.heap.size + i) 0 vs⟩
  · rw [List.getElem?_set_ne e] at hk
    obtain ⟨h1, h2⟩ := h.holds k ds hk
    refine ⟨fun j v hv => ?_, World.there_setCells h2 (w.heap.size + i) 0 vs⟩
    rw [World.cell?_setCells_out (w.heap.size + i) vs 0 wr ⟨w.heap.size + k, 0 + j, none⟩ (fun e' _ => absurd e' (by simp; omega))]
    exact h1 j v hv
theorem Mem.cell {w wr : World} {L : List (List Value)} (h : Mem w wr L) (i : Nat) {cs : List Value} (hi : L[i]? = some cs) (t : Nat) (v : Value) (hv : cs[t]? = some v) : wr.cell? ⟨w.heap.size + i, t, none⟩ = some v := by
  have := (h.holds i cs hi).1 t v hv
  rwa [Nat.zero_add] at this
theorem Mem.frozen {w wr : World} {L : List (List Value)} (h : Mem w wr L) (i : Nat) {cs : List Value} (hi : L[i]? = some cs) (t : Nat) (ht : t < cs.length) : wr.frozen? ⟨w.heap.size + i, t, none⟩ = false := by
  have := ((h.holds i cs hi).2 t ht).2
  rwa [Nat.zero_add] at this
theorem Mem.congr {w wr : World} {L L' : List (List Value)} (h : Mem w wr L) (e : L = L') : Mem w wr L' := e ▸ h
end Go.Proofs.YtbpkocohddlbhaaDoor
namespace Go.Proofs.YtbpkocohddlbhaaDoor
open Go.RowKit
theorem bx32 (a b : Int) : bits .xor .u32 a b = (((BitVec.ofInt 32 a ^^^ BitVec.ofInt 32 b).toNat : Nat) : Int) := by
  show IntKind.u32.wrap ((BitVec.ofInt 32 a ^^^ BitVec.ofInt 32 b).toNat : Int) = _
  have := (BitVec.ofInt 32 a ^^^ BitVec.ofInt 32 b).isLt
  rw [IntKind.wrap_u32']
  omega
theorem bo32 (a b : Int) : bits .or .u32 a b = (((BitVec.ofInt 32 a ||| BitVec.ofInt 32 b).toNat : Nat) : Int) := by
  show IntKind.u32.wrap ((BitVec.ofInt 32 a ||| BitVec.ofInt 32 b).toNat : Int) = _
  have := (BitVec.ofInt 32 a ||| BitVec.ofInt 32 b).isLt
  rw [IntKind.wrap_u32']
  omega
theorem ba32 (a b : Int) : bits .and .u32 a b = (((BitVec.ofInt 32 a &&& BitVec.ofInt 32 b).toNat : Nat) : Int) := by
  show IntKind.u32.wrap ((BitVec.ofInt 32 a &&& BitVec.ofInt 32 b).toNat : Int) = _
  have := (BitVec.ofInt 32 a &&& BitVec.ofInt 32 b).isLt
  rw [IntKind.wrap_u32']
  omega
theorem bx64 (a b : Int) : bits .xor .u64 a b = (((BitVec.ofInt 64 a ^^^ BitVec.ofInt 64 b).toNat : Nat) : Int) := by
  show IntKind.u64.wrap ((BitVec.ofInt 64 a ^^^ BitVec.ofInt 64 b).toNat : Int) = _
  have := (BitVec.ofInt 64 a ^^^ BitVec.ofInt 64 b).isLt
  rw [IntKind.wrap_u64]
  omega
theorem bo64 (a b : Int) : bits .or .u64 a b = (((BitVec.ofInt 64 a ||| BitVec.ofInt 64 b).toNat : Nat) : Int) := by
  show IntKind.u64.wrap ((BitVec.ofInt 64 a ||| BitVec.ofInt 64 b).toNat : Int) = _
  have := (BitVec.ofInt 64 a ||| BitVec.ofInt 64 b).isLt
  rw [IntKind.wrap_u64]
  omega
theorem ba64 (a b : Int) : bits .and .u64 a b = (((BitVec.ofInt 64 a &&& BitVec.ofInt 64 b).toNat : Nat) : Int) := by
  show IntKind.u64.wrap ((BitVec.ofInt 64 a &&& BitVec.ofInt 64 b).toNat : Int) = _
  have := (BitVec.ofInt 64 a &&& BitVec.ofInt 64 b).isLt
  rw [IntKind.wrap_u64]
  omega
theorem of32 (v : BitVec 32) : BitVec.ofInt 32 ((v.toNat : Nat) : Int) = v := by
  apply BitVec.eq_of_toNat_eq
  simp
theorem of64 (v : BitVec 64) : BitVec.ofInt 64 ((v.toNat : Nat) : Int) = v := by
  apply BitVec.eq_of_toNat_eq
  simp
theorem or_comm32 (a b : Int) : bits .or .u32 a b = bits .or .u32 b a := by rw [bo32, bo32, BitVec.or_comm]
theorem or_comm64 (a b : Int) : bits .or .u64 a b = bits .or .u64 b a := by rw [bo64, bo64, BitVec.or_comm]
/-- The complement, as the walk prints it. -/
theorem not32 (e : Int) : BitVec.ofInt 32 (bits .xor .u32 (if IntKind.u32.signed = true then -1 else IntKind.u32.max) e) = ~~~ (BitVec.ofInt 32 e) := by
  rw [bx32, of32, show (if IntKind.u32.signed = true then (-1 : Int) else IntKind.u32.max) = 4294967295 by decide, show BitVec.ofInt 32 4294967295 = BitVec.allOnes 32 by decide, BitVec.allOnes_xor]
theorem not64 (e : Int) : BitVec.ofInt 64 (bits .xor .u64 (if IntKind.u64.signed = true then -1 else IntKind.u64.max) e) = ~~~ (BitVec.ofInt 64 e) := by
  rw [bx64, of64, show (if IntKind.u64.signed = true then (-1 : Int) else IntKind.u64.max) = 18446744073709551615 by decide, show BitVec.ofInt 64 18446744073709551615 = BitVec.allOnes 64 by decide, BitVec.allOnes_xor]
theorem ch_bv {n : Nat} (e f g : BitVec n) : (e &&& f) ||| (~~~ e &&& g) = (e &&& f) ^^^ (~~~ e &&& g) := by
  apply BitVec.eq_of_getLsbD_eq
  intro i hi
  simp only [BitVec.getLsbD_or, BitVec.getLsbD_and, BitVec.getLsbD_xor, BitVec.getLsbD_not, hi, decide_true, Bool.true_and]
  cases e.getLsbD i <;> cases f.getLsbD i <;> cases g.getLsbD i <;> rfl
theorem maj_bv {n : Nat} (a b c : BitVec n) : ((a &&& b) ||| (a &&& c)) ||| (b &&& c) = ((a &&& b) ^^^ (a &&& c)) ^^^ (b &&& c) := by
  apply BitVec.eq_of_getLsbD_eq
  intro i hi
  simp only [BitVec.getLsbD_or, BitVec.getLsbD_and, BitVec.getLsbD_xor]
  cases a.getLsbD i <;> cases b.getLsbD i <;> cases c.getLsbD i <;> rfl
theorem ch32 (e f g : Int) : bits .or .u32 (bits .and .u32 e f) (bits .and .u32 (bits .xor .u32 (if IntKind.u32.signed = true then -1 else IntKind.u32.max) e) g) = bits .xor .u32 (bits .and .u32 e f) (bits .and .u32 (bits .xor .u32 (if IntKind.u32.signed = true then -1 else IntKind.u32.max) e) g) := by
  rw [bo32, bx32 (bits .and .u32 e f), ba32, ba32, of32, of32, not32, ch_bv]
theorem ch64 (e f g : Int) : bits .or .u64 (bits .and .u64 e f) (bits .and .u64 (bits .xor .u64 (if IntKind.u64.signed = true then -1 else IntKind.u64.max) e) g) = bits .xor .u64 (bits .and .u64 e f) (bits .and .u64 (bits .xor .u64 (if IntKind.u64.signed = true then -1 else IntKind.u64.max) e) g) := by
  rw [bo64, bx64 (bits .and .u64 e f), ba64, ba64, of64, of64, not64, ch_bv]
theorem maj32 (a b c : Int) : bits .or .u32 (bits .or .u32 (bits .and .u32 a b) (bits .and .u32 a c)) (bits .and .u32 b c) = bits .xor .u32 (bits .xor .u32 (bits .and .u32 a b) (bits .and .u32 a c)) (bits .and .u32 b c) := by
  rw [bo32, bo32, bx32, bx32, ba32, ba32, ba32, of32, of32, of32, of32, of32, maj_bv]
theorem maj64 (a b c : Int) : bits .or .u64 (bits .or .u64 (bits .and .u64 a b) (bits .and .u64 a c)) (bits .and .u64 b c) = bits .xor .u64 (bits .xor .u64 (bits .and .u64 a b) (bits .and .u64 a c)) (bits .and .u64 b c) := by
  rw [bo64, bo64, bx64, bx64, ba64, ba64, ba64, of64, of64, of64, of64, of64, maj_bv]
end Go.Proofs.YtbpkocohddlbhaaDoor
namespace Go.Proofs.YtbpkocohddlbhaaDoor
open Go.RowKit
set_option linter.unusedVariables false
set_option linter.unusedSimpArgs false
theorem zero_arr64 {n : Nat} {Z : Array Value} {v : Value} (h : Z = Array.replicate n v) (j : Nat) (hj : j < n) : Z[j]? = some v := by
  rw [h]
  simp [hj]
theorem rot_or64 (x : Int) (a b s : Nat) (hb : b = 64 - s) (ha : a = s) : bits .or .u64 (x / 2 ^ b) (x * 2 ^ a % 18446744073709551616) = rotl64 x s := by
  subst hb ha
  rw [rotl64, or_comm64]
theorem lo0_or64 (x : Int) : bits .xor .u64 (bits .xor .u64 (bits .or .u64 (x / 2) (x * 9223372036854775808 % 18446744073709551616)) (bits .or .u64 (x / 256) (x * 72057594037927936 % 18446744073709551616))) (x / 128) = lo0_64 x := by
  have h1 := rot_or64 x 63 1 63 rfl rfl
  have h2 := rot_or64 x 56 8 56 rfl rfl
  simp only [Int.reducePow] at h1 h2
  rw [h1, h2, lo0_64]
theorem lo1_or64 (x : Int) : bits .xor .u64 (bits .xor .u64 (bits .or .u64 (x / 524288) (x * 35184372088832 % 18446744073709551616)) (bits .or .u64 (x / 2305843009213693952) (x * 8 % 18446744073709551616))) (x / 64) = lo1_64 x := by
  have h1 := rot_or64 x 45 19 45 rfl rfl
  have h2 := rot_or64 x 3 61 3 rfl rfl
  simp only [Int.reducePow] at h1 h2
  rw [h1, h2, lo1_64]
theorem S1_or64 (x : Int) : bits .xor .u64 (bits .xor .u64 (bits .or .u64 (x / 16384) (x * 1125899906842624 % 18446744073709551616)) (bits .or .u64 (x / 262144) (x * 70368744177664 % 18446744073709551616))) (bits .or .u64 (x / 2199023255552) (x * 8388608 % 18446744073709551616)) = bits .xor .u64 (bits .xor .u64 (rotl64 x 50) (rotl64 x 46)) (rotl64 x 23) := by
  have h1 := rot_or64 x 50 14 50 rfl rfl
  have h2 := rot_or64 x 46 18 46 rfl rfl
  have h3 := rot_or64 x 23 41 23 rfl rfl
  simp only [Int.reducePow] at h1 h2 h3
  rw [h1, h2, h3]
theorem S0_or64 (x : Int) : bits .xor .u64 (bits .xor .u64 (bits .or .u64 (x / 268435456) (x * 68719476736 % 18446744073709551616)) (bits .or .u64 (x / 17179869184) (x * 1073741824 % 18446744073709551616))) (bits .or .u64 (x / 549755813888) (x * 33554432 % 18446744073709551616)) = bits .xor .u64 (bits .xor .u64 (rotl64 x 36) (rotl64 x 30)) (rotl64 x 25) := by
  have h1 := rot_or64 x 36 28 36 rfl rfl
  have h2 := rot_or64 x 30 34 30 rfl rfl
  have h3 := rot_or64 x 25 39 25 rfl rfl
  simp only [Int.reducePow] at h1 h2 h3
  rw [h1, h2, h3]
theorem size70 : (Tryd.prog.info? 66).map (·.size) = some 8 := by kernel_rfl
set_option maxHeartbeats 3200000 in
set_option maxRecDepth 100000 in
theorem taken64_walk (h0 h1 h2 h3 h4 h5 h6 h7 : Int) (C B : Nat → Int) (b p cap : Nat) (w : World) (hC : ∀ t, t < 80 → w.cell? ⟨1, t, none⟩ = some (.int .u64 (C t)))
    (hcap : 128 ≤ cap) (hcm : cap ≤ 9223372036854775807) (hB : ∀ i, i < 128 → w.cell? ⟨b, p + i, none⟩ = some (.int .u8 (B i))) :
    Calls Tryd.prog 42 #[.agg #[.int .u64 h0, .int .u64 h1, .int .u64 h2, .int .u64 h3, .int .u64 h4, .int .u64 h5, .int .u64 h6, .int .u64 h7], .slice (some ⟨b, p, none⟩) 128 cap] w fun e w' =>
      e = .returned (.agg (Eight.cells (block64 C B ⟨h0, h1, h2, h3, h4, h5, h6, h7⟩)).toArray) ∧ Below w.heap.size w w' := by
  have hbw : b < w.heap.size := lt_of_cell (hB 0 (by omega))
  have hw1 : 1 < w.heap.size := lt_of_cell (hC 0 (by omega))
  have HB : Hid (∀ i, i < 128 → w.cell? ⟨b, p + i, none⟩ = some (.int .u8 (B i))) := hB
  have HC : Hid (∀ t, t < 80 → w.cell? ⟨1, t, none⟩ = some (.int .u64 (C t))) := hC
  clear hB hC
  go_enter Tryd.func42, Tryd.ntmps42
  go_wp2
  go_loopw [6] (fun v wr => ∃ t : Nat, t ≤ 16 ∧ v = .int .i64 t ∧ Hid (TX w wr [.int .u64 h0, .int .u64 h1, .int .u64 h2, .int .u64 h3, .int .u64 h4, .int .u64 h5, .int .u64 h6, .int .u64 h7] (fun _ => none) (w.heap.size + 1) (w.heap.size + 2) 80 (fun j => .int .u64 (if j < t then sched64 B j else 0)))) (fun v _ => 16 - (intOf v).toNat)
  case atStart => exact ⟨0, by omega, rfl, tx_new3 w _ _ _ _ _ _ _ _ (by rfl) (by rfl) (fun j hj => by rw [if_neg (by omega)]; exact zero_arr64 (by rfl) j hj)⟩
  case round =>
    obtain ⟨t, ht, rfl, HX⟩ := hrel
    by_cases h16 : t < 16
    · go_wp2
      go_loopw [7] (fun v wr => ∃ k : Nat, k ≤ 8 ∧ v = .int .i64 k ∧ Hid (TX w wr [.int .u64 h0, .int .u64 h1, .int .u64 h2, .int .u64 h3, .int .u64 h4, .int .u64 h5, .int .u64 h6, .int .u64 h7] (fun _ => none) (w.heap.size + 1) (w.heap.size + 2) 80 (fun j => .int .u64 (if j < t then sched64 B j else if j = t then part64 B t k else 0)))) (fun v _ => 8 - (intOf v).toNat)
      case atStart =>
        refine ⟨0, by omega, rfl, HX.out.congr fun j hj => ?_⟩
        by_cases e : j < t
        · rw [if_pos e, if_pos e]
        · rw [if_neg e, if_neg e]
          by_cases e2 : j = t
          · rw [if_pos e2]
            exact rfl
          · rw [if_neg e2]
      case round =>
        obtain ⟨k, hk, rfl, HX1⟩ := hrel
        by_cases h8 : k < 8
        · have f0 : wr.cell? ⟨b, p + (8 * t + k), none⟩ = some (.int .u8 (B (8 * t + k))) := by rw [HX1.out.below.cell hbw]; exact HB.out (8 * t + k) (by omega)
          have fw : wr.frozen? ⟨w.heap.size + 2, t, none⟩ = false := by simpa using (HX1.out.wth t (by omega)).2
          have fu : wr.cell? ⟨w.heap.size + 2, t, none⟩ = some (.int .u64 (part64 B t k)) := by rw [HX1.out.fill t (by omega), if_neg (by omega), if_pos rfl]
          go_wp2
          go_region
          go_wp2
          go_roundw
          case rel =>
            refine ⟨k + 1, by omega, by go_num, ((HX1.out.put t (by omega) (.int .u64 (part64 B t (k + 1)))).drew).congr fun j hj => ?_⟩
            by_cases e : j = t
            · subst e
              rw [if_pos rfl, if_neg (by omega), if_pos rfl]
            · rw [if_neg e, if_neg e]
              by_cases e2 : j < t
              · rw [if_pos e2, if_pos e2]
              · rw [if_neg e2, if_neg e2, if_neg e]
          case measure => simp [intOf]; omega
        · obtain rfl : k = 8 := by omega
          go_wp2
          go_roundw
          case rel =>
            refine ⟨t + 1, by omega, by go_num, HX1.out.congr fun j hj => ?_⟩
            by_cases e2 : j < t
            · rw [if_pos e2, if_pos (by omega)]
            · rw [if_neg e2]
              by_cases e : j = t
              · subst e
                rw [if_pos rfl, if_pos (by omega), sched64, if_pos h16]
              · rw [if_neg e, if_neg (by omega)]
          case measure => simp [intOf]; omega
    · obtain rfl : t = 16 := by omega
      clear h16 ht HB
      go_wp2
      go_loopw [8] (fun v wr => ∃ t : Nat, t ≤ 64 ∧ v = .int .i64 (16 + (t : Int)) ∧ Hid (TX w wr [.int .u64 h0, .int .u64 h1, .int .u64 h2, .int .u64 h3, .int .u64 h4, .int .u64 h5, .int .u64 h6, .int .u64 h7] (fun _ => none) (w.heap.size + 1) (w.heap.size + 2) 80 (fun j => .int .u64 (if j < 16 + t then sched64 B j else 0)))) (fun v _ => 80 - (intOf v).toNat)
      case atStart => exact ⟨0, by omega, rfl, HX⟩
      case round =>
        obtain ⟨t, ht, rfl, HX2⟩ := hrel
        clear HX
        by_cases h48 : t < 64
        · have f2 : wr.cell? ⟨w.heap.size + 2, t + 14, none⟩ = some (.int .u64 (sched64 B (t + 14))) := by rw [HX2.out.fill _ (by omega), if_pos (by omega)]
          have f15 : wr.cell? ⟨w.heap.size + 2, t + 1, none⟩ = some (.int .u64 (sched64 B (t + 1))) := by rw [HX2.out.fill _ (by omega), if_pos (by omega)]
          have f7 : wr.cell? ⟨w.heap.size + 2, t + 9, none⟩ = some (.int .u64 (sched64 B (t + 9))) := by rw [HX2.out.fill _ (by omega), if_pos (by omega)]
          have f16 : wr.cell? ⟨w.heap.size + 2, t, none⟩ = some (.int .u64 (sched64 B t)) := by rw [HX2.out.fill _ (by omega), if_pos (by omega)]
          have fw : wr.frozen? ⟨w.heap.size + 2, t + 16, none⟩ = false := by simpa using (HX2.out.wth (t + 16) (by omega)).2
          obtain ⟨u, fu⟩ : ∃ u, wr.cell? ⟨w.heap.size + 2, t + 16, none⟩ = some u := ⟨_, HX2.out.fill (t + 16) (by omega)⟩
          have e2 : (16 + (t : Int) - 2).toNat = t + 14 := by omega
          have e15 : (16 + (t : Int) - 15).toNat = t + 1 := by omega
          have e7 : (16 + (t : Int) - 7).toNat = t + 9 := by omega
          have e16 : (16 + (t : Int) - 16).toNat = t := by omega
          have e0 : (16 + (t : Int)).toNat = t + 16 := by omega
          go_wp2
          go_region
          go_wp2
          go_roundw
          case rel =>
            have hv : sched64 B (t + 16) = (lo1_64 (sched64 B (t + 14)) + sched64 B (t + 9) + lo0_64 (sched64 B (t + 1)) + sched64 B t) % 18446744073709551616 := by
              rw [sched64, if_neg (by omega)]
              rw [show t + 16 - 2 = t + 14 by omega, show t + 16 - 7 = t + 9 by omega, show t + 16 - 15 = t + 1 by omega, show t + 16 - 16 = t by omega]
            simp only [IntKind.wrap_u64]
            rw [lo0_or64, lo1_or64]
            refine ⟨t + 1, by omega, by go_num, ((HX2.out.put (t + 16) (by omega) _).drew).congr fun j hj => ?_⟩
            by_cases e : j = t + 16
            · subst e
              rw [if_pos rfl, if_pos (by omega), hv]
              exact val_eqD (by omega)
            · rw [if_neg e]
              by_cases e2 : j < 16 + t
              · rw [if_pos e2, if_pos (by omega)]
              · rw [if_neg e2, if_neg (by omega)]
          case measure => simp [intOf]; omega
        · obtain rfl : t = 64 := by omega
          clear h48 ht
          have HX3 : Hid (TX w wr [.int .u64 h0, .int .u64 h1, .int .u64 h2, .int .u64 h3, .int .u64 h4, .int .u64 h5, .int .u64 h6, .int .u64 h7] (fun _ => none) (w.heap.size + 1) (w.heap.size + 2) 80 (fun j => .int .u64 (sched64 B j))) := HX2.out.congr fun j hj => by rw [if_pos (by omega)]
          clear HX2
          have c0 : wr.cell? ⟨w.heap.size, 0, none⟩ = some (.int .u64 h0) := by simpa using HX3.out.h 0 _ rfl
          have c1 : wr.cell? ⟨w.heap.size, 1, none⟩ = some (.int .u64 h1) := by simpa using HX3.out.h 1 _ rfl
          have c2 : wr.cell? ⟨w.heap.size, 2, none⟩ = some (.int .u64 h2) := by simpa using HX3.out.h 2 _ rfl
          have c3 : wr.cell? ⟨w.heap.size, 3, none⟩ = some (.int .u64 h3) := by simpa using HX3.out.h 3 _ rfl
          have c4 : wr.cell? ⟨w.heap.size, 4, none⟩ = some (.int .u64 h4) := by simpa using HX3.out.h 4 _ rfl
          have c5 : wr.cell? ⟨w.heap.size, 5, none⟩ = some (.int .u64 h5) := by simpa using HX3.out.h 5 _ rfl
          have c6 : wr.cell? ⟨w.heap.size, 6, none⟩ = some (.int .u64 h6) := by simpa using HX3.out.h 6 _ rfl
          have c7 : wr.cell? ⟨w.heap.size, 7, none⟩ = some (.int .u64 h7) := by simpa using HX3.out.h 7 _ rfl
          go_wp2
          go_quiet (fail)
          go_wp2
          go_quiet (fail)
          go_wp2
          clear c0 c1 c2 c3 c4 c5 c6 c7
          go_loopw [13, 14, 15, 16, 17, 18, 19, 20, 21] (fun va vb vc vd ve vf vg vk i wr => ∃ t : Nat, ∃ s : Eight, t ≤ 80 ∧ i = .int .i64 t ∧ va = .int .u64 s.a ∧ vb = .int .u64 s.b ∧ vc = .int .u64 s.c ∧ vd = .int .u64 s.d ∧ ve = .int .u64 s.e ∧ vf = .int .u64 s.f ∧ vg = .int .u64 s.g ∧ vk = .int .u64 s.k ∧ Hid (s = rounds64 C (sched64 B) t ⟨h0, h1, h2, h3, h4, h5, h6, h7⟩) ∧ Hid (TX w wr [.int .u64 h0, .int .u64 h1, .int .u64 h2, .int .u64 h3, .int .u64 h4, .int .u64 h5, .int .u64 h6, .int .u64 h7] (fun _ => none) (w.heap.size + 1) (w.heap.size + 2) 80 (fun j => .int .u64 (sched64 B j)))) (fun _ _ _ _ _ _ _ _ i _ => 80 - (intOf i).toNat)
          case atStart => exact ⟨0, ⟨h0, h1, h2, h3, h4, h5, h6, h7⟩, by omega, rfl, rfl, rfl, rfl, rfl, rfl, rfl, rfl, rfl, rfl, (HX3.out.drewN _).drewN _⟩
          case round =>
            obtain ⟨t, ⟨a, b, c, d, e, f, g1, k⟩, ht, rfl, rfl, rfl, rfl, rfl, rfl, rfl, rfl, rfl, HS, HX4⟩ := hrel
            clear HX3
            by_cases hlt : t < 80
            · have hw : wr.cell? ⟨w.heap.size + 2, t, none⟩ = some (.int .u64 (sched64 B t)) := HX4.out.fill t hlt
              have hc : wr.cell? ⟨1, t, none⟩ = some (.int .u64 (C t)) := by rw [HX4.out.below.cell hw1]; exact HC.out t hlt
              go_wp2
              go_quiet (fail)
              go_wp2
              go_roundw
              case rel =>
                simp only [IntKind.wrap_u64]
                rw [S1_or64, S0_or64, ch64, maj64]
                refine ⟨t + 1, round64 ⟨a, b, c, d, e, f, g1, k⟩ (C t) (sched64 B t), by omega, by go_num, val_eqD (by simp only [round64, t1_64, t2_64]; omega), rfl, rfl, rfl, val_eqD (by simp only [round64, t1_64, t2_64]; omega), rfl, rfl, rfl, ?_, HX4.out.drewN _⟩
                have := HS.out
                rw [this]
                exact rfl
              case measure => simp [intOf]; omega
            · obtain rfl : t = 80 := by omega
              clear hlt ht
              have HEE : Hid (block64 C B ⟨h0, h1, h2, h3, h4, h5, h6, h7⟩ = ⟨((h0 + a) % 18446744073709551616), ((h1 + b) % 18446744073709551616), ((h2 + c) % 18446744073709551616), ((h3 + d) % 18446744073709551616), ((h4 + e) % 18446744073709551616), ((h5 + f) % 18446744073709551616), ((h6 + g1) % 18446744073709551616), ((h7 + k) % 18446744073709551616)⟩) := by
                rw [block64, ← HS.out]
                exact rfl
              clear HS
              have c0 : wr.cell? ⟨w.heap.size, 0, none⟩ = some (.int .u64 h0) := by simpa using HX4.out.h 0 _ rfl
              have c1 : wr.cell? ⟨w.heap.size, 1, none⟩ = some (.int .u64 h1) := by simpa using HX4.out.h 1 _ rfl
              have c2 : wr.cell? ⟨w.heap.size, 2, none⟩ = some (.int .u64 h2) := by simpa using HX4.out.h 2 _ rfl
              have c3 : wr.cell? ⟨w.heap.size, 3, none⟩ = some (.int .u64 h3) := by simpa using HX4.out.h 3 _ rfl
              have c4 : wr.cell? ⟨w.heap.size, 4, none⟩ = some (.int .u64 h4) := by simpa using HX4.out.h 4 _ rfl
              have c5 : wr.cell? ⟨w.heap.size, 5, none⟩ = some (.int .u64 h5) := by simpa using HX4.out.h 5 _ rfl
              have c6 : wr.cell? ⟨w.heap.size, 6, none⟩ = some (.int .u64 h6) := by simpa using HX4.out.h 6 _ rfl
              have c7 : wr.cell? ⟨w.heap.size, 7, none⟩ = some (.int .u64 h7) := by simpa using HX4.out.h 7 _ rfl
              go_wp2_with (first
                | (refine wpList_store_mid (by rfl) 66 (.tmp 4) (.tmp 235) (by rfl) (w.heap.size + 1) 0 (Eight.cells ⟨((h0 + a) % 18446744073709551616), ((h1 + b) % 18446744073709551616), ((h2 + c) % 18446744073709551616), ((h3 + d) % 18446744073709551616), ((h4 + e) % 18446744073709551616), ((h5 + f) % 18446744073709551616), ((h6 + g1) % 18446744073709551616), ((h7 + k) % 18446744073709551616)⟩).toArray (by rfl) (by rfl) HX4.out.res size70 (cellsE_one _) ?_)
                | fail)
              have hl := run_loadVar_mid (P := Tryd.prog) (wr.setCells (w.heap.size + 1) 0 (Eight.cells ⟨((h0 + a) % 18446744073709551616), ((h1 + b) % 18446744073709551616), ((h2 + c) % 18446744073709551616), ((h3 + d) % 18446744073709551616), ((h4 + e) % 18446744073709551616), ((h5 + f) % 18446744073709551616), ((h6 + g1) % 18446744073709551616), ((h7 + k) % 18446744073709551616)⟩)) (w.heap.size + 1) 0 66 (Eight.cells ⟨((h0 + a) % 18446744073709551616), ((h1 + b) % 18446744073709551616), ((h2 + c) % 18446744073709551616), ((h3 + d) % 18446744073709551616), ((h4 + e) % 18446744073709551616), ((h5 + f) % 18446744073709551616), ((h6 + g1) % 18446744073709551616), ((h7 + k) % 18446744073709551616)⟩) _ (World.rangeAt_setCells_same wr (w.heap.size + 1) 0 _ HX4.out.res) Tryd.underlying66 rfl size70
              refine bodyPost_ret (v := .agg (Eight.cells ⟨((h0 + a) % 18446744073709551616), ((h1 + b) % 18446744073709551616), ((h2 + c) % 18446744073709551616), ((h3 + d) % 18446744073709551616), ((h4 + e) % 18446744073709551616), ((h5 + f) % 18446744073709551616), ((h6 + g1) % 18446744073709551616), ((h7 + k) % 18446744073709551616)⟩).toArray) ?_ rfl ⟨by rw [HEE.out], below_setCells _ (by omega) _ _ _ HX4.out.below⟩
              rw [results_cell1D Tryd.results42]
              simp [Act.put, asAddr, hl]
end Go.Proofs.YtbpkocohddlbhaaDoor
namespace Go.Proofs.YtbpkocohddlbhaaDoor
open Go.RowKit
set_option linter.unusedVariables false
set_option linter.unusedSimpArgs false
/-- The two tables of the document's answer. -/
structure RTab (w : World) : Prop where
  cubes : ∀ t, t < 80 → w.cell? ⟨1, t, none⟩ = some (.int .u64 (cubeAt t))
  roots : ∀ t, t < 16 → w.cell? ⟨0, t, none⟩ = some (.int .u64 (rootAt t))
theorem RTab.kept {w w' : World} (h : RTab w) (hb : ∀ k, k < 2 → w'.heap[k]? = w.heap[k]?) : RTab w' :=
  ⟨fun t ht => by rw [World.cell?_of_block (w := w) (hb 1 (by omega))]; exact h.cubes t ht, fun t ht => by rw [World.cell?_of_block (w := w) (hb 0 (by omega))]; exact h.roots t ht⟩
theorem RTab.size {w : World} (h : RTab w) : 2 ≤ w.heap.size := lt_of_cell (h.cubes 0 (by omega))
theorem RTab.below {w w' : World} {B : Nat} (h : RTab w) (b : Below B w w') (hB : 2 ≤ B) : RTab w' := h.kept fun k hk => b.block k (by omega)
theorem first224_mod : ∀ q, q < 8 → (rootAt (8 + q)).tmod 4294967296 = firstAt 224 q := by decide +kernel
set_option maxHeartbeats 1600000 in
set_option maxRecDepth 100000 in
theorem rfirst224 (w : World) (hT : Hid (RTab w)) :
    Calls Tryd.prog 39 #[.int .i64 224] w fun e w' => e = .returned (.agg (firstE 224).cells.toArray) ∧ Below w.heap.size w w' := by
  have HB0 : Hid (Below w.heap.size w ((w.alloc (.cells #[.int .u64 0, .int .u64 0, .int .u64 0, .int .u64 0, .int .u64 0, .int .u64 0, .int .u64 0, .int .u64 0] 66)).alloc (.cells #[.int .u64 0, .int .u64 0, .int .u64 0, .int .u64 0, .int .u64 0, .int .u64 0, .int .u64 0, .int .u64 0] 66)) ∧ ((w.alloc (.cells #[.int .u64 0, .int .u64 0, .int .u64 0, .int .u64 0, .int .u64 0, .int .u64 0, .int .u64 0, .int .u64 0] 66)).alloc (.cells #[.int .u64 0, .int .u64 0, .int .u64 0, .int .u64 0, .int .u64 0, .int .u64 0, .int .u64 0, .int .u64 0] 66)).there (w.heap.size + 1) 0 8 ∧ ((w.alloc (.cells #[.int .u64 0, .int .u64 0, .int .u64 0, .int .u64 0, .int .u64 0, .int .u64 0, .int .u64 0, .int .u64 0] 66)).alloc (.cells #[.int .u64 0, .int .u64 0, .int .u64 0, .int .u64 0, .int .u64 0, .int .u64 0, .int .u64 0, .int .u64 0] 66)).there w.heap.size 0 8) := ⟨((Below.refl _ _).alloc (Nat.le_refl _) _).alloc (by simp) _, two_there w _ _ 66 66 8 (by decide), World.there_alloc (there_new w _ 66 8 (by decide)) _⟩
  go_enter Tryd.func39, Tryd.ntmps39
  go_wp2
  go_loopw [4] (fun v wr => ∃ q : Nat, q ≤ 8 ∧ v = .int .i64 q ∧ Hid (Below w.heap.size w wr) ∧ Hid (wr.there (w.heap.size + 1) 0 8 ∧ wr.there w.heap.size 0 8) ∧ Hid (∀ j, j < q → wr.cell? ⟨w.heap.size + 1, j, none⟩ = some (.int .u64 (firstAt 224 j)))) (fun v _ => 8 - (intOf v).toNat)
  case atStart => exact ⟨0, by omega, rfl, HB0.out.1, HB0.out.2, fun j hj => by omega⟩
  case round =>
    obtain ⟨q, hq, rfl, HB, HT, HF⟩ := hrel
    clear HB0
    by_cases hlt : q < 8
    · obtain ⟨jj, hjj⟩ : ∃ jj, jj = 8 + q := ⟨_, rfl⟩
      have hTr := hT.out.below HB.out hT.out.size
      have c1 := hTr.roots (jj) (by omega)
      have hql : (q : Int) < 8 := by omega
      have hq0 : (0 : Int) ≤ (q : Int) := by omega
      have e8 : (8 : Int) + (q : Int) = (jj : Int) := by omega
      have e9 : (jj : Int) < 16 := by omega
      have HJ : Hid (jj = 8 + q) := hjj
      clear hjj
      have ff : wr.frozen? ⟨w.heap.size + 1, q, none⟩ = false := by have := (HT.out.1 q hlt).2; rw [Nat.zero_add] at this; exact this
      have fs : (wr.cell? ⟨w.heap.size + 1, q, none⟩).isSome = true := by have := (HT.out.1 q hlt).1; rw [Nat.zero_add] at this; exact this
      obtain ⟨z, hz⟩ := Option.isSome_iff_exists.1 fs
      clear fs hTr
      go_wp2
      go_roundw
      case rel =>
        have hf := fill_step (F := fun j => .int .u64 (firstAt 224 j)) HF.out HT.out.1 hlt (.int .u64 (firstAt 224 q)) rfl
        obtain rfl := HJ.out
        rw [first224_mod q hlt]
        refine ⟨q + 1, by omega, by go_num, HB.out.setCell (by simp) _, ⟨World.there_setCells HT.out.1 _ q [_], World.there_setCells HT.out.2 _ q [_]⟩, hf.1⟩
      case measure => simp [intOf]; omega
    · obtain rfl : q = 8 := by omega
      have HR : Hid (wr.rangeAt (w.heap.size + 1) 0 (firstE 224).cells) := fun j v hv => by
        obtain ⟨hj, rfl⟩ := eightOf_at _ j v hv
        rw [Nat.zero_add]
        exact HF.out j hj
      have HY : Hid (wr.there w.heap.size 0 (firstE 224).cells.toArray.size) := HT.out.2
      have HZ : Hid ((Tryd.prog.info? 66).map (·.size) = some (firstE 224).cells.toArray.size) := size70
      obtain ⟨E, HE⟩ : ∃ E : Eight, Hid (E = firstE 224) := ⟨_, rfl⟩
      rw [← HE.out] at HR HY HZ
      clear HF
      go_wp2_with (first
        | (refine wpList_load_mid (by rfl) 66 (.tmp 3) (by rfl) (w.heap.size + 1) 0 (by rfl) E.cells _ HR.out Tryd.underlying66 rfl size70 ?_)
        | (refine wpList_store_mid (by rfl) 66 (.tmp 2) (.tmp 42) (by rfl) w.heap.size 0 E.cells.toArray (by rfl) (by rfl) HY.out HZ.out (cellsE_one E) ?_)
        | fail)
      have hl := run_loadVar_mid (P := Tryd.prog) (wr.setCells w.heap.size 0 E.cells) w.heap.size 0 66 E.cells _ (World.rangeAt_setCells_same wr w.heap.size 0 E.cells HT.out.2) Tryd.underlying66 rfl size70
      refine bodyPost_ret (v := .agg E.cells.toArray) ?_ rfl ⟨by rw [HE.out], below_setCells _ (Nat.le_refl _) _ _ _ HB.out⟩
      rw [results_cell1D Tryd.results39]
      simp [Act.put, asAddr, hl]

set_option maxHeartbeats 1600000 in
set_option maxRecDepth 100000 in
theorem rfirst256 (w : World) (hT : Hid (RTab w)) :
    Calls Tryd.prog 39 #[.int .i64 256] w fun e w' => e = .returned (.agg (firstE 256).cells.toArray) ∧ Below w.heap.size w w' := by
  have HB0 : Hid (Below w.heap.size w ((w.alloc (.cells #[.int .u64 0, .int .u64 0, .int .u64 0, .int .u64 0, .int .u64 0, .int .u64 0, .int .u64 0, .int .u64 0] 66)).alloc (.cells #[.int .u64 0, .int .u64 0, .int .u64 0, .int .u64 0, .int .u64 0, .int .u64 0, .int .u64 0, .int .u64 0] 66)) ∧ ((w.alloc (.cells #[.int .u64 0, .int .u64 0, .int .u64 0, .int .u64 0, .int .u64 0, .int .u64 0, .int .u64 0, .int .u64 0] 66)).alloc (.cells #[.int .u64 0, .int .u64 0, .int .u64 0, .int .u64 0, .int .u64 0, .int .u64 0, .int .u64 0, .int .u64 0] 66)).there (w.heap.size + 1) 0 8 ∧ ((w.alloc (.cells #[.int .u64 0, .int .u64 0, .int .u64 0, .int .u64 0, .int .u64 0, .int .u64 0, .int .u64 0, .int .u64 0] 66)).alloc (.cells #[.int .u64 0, .int .u64 0, .int .u64 0, .int .u64 0, .int .u64 0, .int .u64 0, .int .u64 0, .int .u64 0] 66)).there w.heap.size 0 8) := ⟨((Below.refl _ _).alloc (Nat.le_refl _) _).alloc (by simp) _, two_there w _ _ 66 66 8 (by decide), World.there_alloc (there_new w _ 66 8 (by decide)) _⟩
  go_enter Tryd.func39, Tryd.ntmps39
  go_wp2
  go_loopw [4] (fun v wr => ∃ q : Nat, q ≤ 8 ∧ v = .int .i64 q ∧ Hid (Below w.heap.size w wr) ∧ Hid (wr.there (w.heap.size + 1) 0 8 ∧ wr.there w.heap.size 0 8) ∧ Hid (∀ j, j < q → wr.cell? ⟨w.heap.size + 1, j, none⟩ = some (.int .u64 (firstAt 256 j)))) (fun v _ => 8 - (intOf v).toNat)
  case atStart => exact ⟨0, by omega, rfl, HB0.out.1, HB0.out.2, fun j hj => by omega⟩
  case round =>
    obtain ⟨q, hq, rfl, HB, HT, HF⟩ := hrel
    clear HB0
    by_cases hlt : q < 8
    · obtain ⟨jj, hjj⟩ : ∃ jj, jj = 8 + q := ⟨_, rfl⟩
      have hTr := hT.out.below HB.out hT.out.size
      have c1 := hTr.roots (q) (by omega)
      have hql : (q : Int) < 8 := by omega
      have hq0 : (0 : Int) ≤ (q : Int) := by omega
      skip
      have ff : wr.frozen? ⟨w.heap.size + 1, q, none⟩ = false := by have := (HT.out.1 q hlt).2; rw [Nat.zero_add] at this; exact this
      have fs : (wr.cell? ⟨w.heap.size + 1, q, none⟩).isSome = true := by have := (HT.out.1 q hlt).1; rw [Nat.zero_add] at this; exact this
      obtain ⟨z, hz⟩ := Option.isSome_iff_exists.1 fs
      clear fs hTr
      go_wp2
      go_roundw
      case rel =>
        have hf := fill_step (F := fun j => .int .u64 (firstAt 256 j)) HF.out HT.out.1 hlt (.int .u64 (firstAt 256 q)) rfl
        skip
        refine ⟨q + 1, by omega, by go_num, HB.out.setCell (by simp) _, ⟨World.there_setCells HT.out.1 _ q [_], World.there_setCells HT.out.2 _ q [_]⟩, hf.1⟩
      case measure => simp [intOf]; omega
    · obtain rfl : q = 8 := by omega
      have HR : Hid (wr.rangeAt (w.heap.size + 1) 0 (firstE 256).cells) := fun j v hv => by
        obtain ⟨hj, rfl⟩ := eightOf_at _ j v hv
        rw [Nat.zero_add]
        exact HF.out j hj
      have HY : Hid (wr.there w.heap.size 0 (firstE 256).cells.toArray.size) := HT.out.2
      have HZ : Hid ((Tryd.prog.info? 66).map (·.size) = some (firstE 256).cells.toArray.size) := size70
      obtain ⟨E, HE⟩ : ∃ E : Eight, Hid (E = firstE 256) := ⟨_, rfl⟩
      rw [← HE.out] at HR HY HZ
      clear HF
      go_wp2_with (first
        | (refine wpList_load_mid (by rfl) 66 (.tmp 3) (by rfl) (w.heap.size + 1) 0 (by rfl) E.cells _ HR.out Tryd.underlying66 rfl size70 ?_)
        | (refine wpList_store_mid (by rfl) 66 (.tmp 2) (.tmp 42) (by rfl) w.heap.size 0 E.cells.toArray (by rfl) (by rfl) HY.out HZ.out (cellsE_one E) ?_)
        | fail)
      have hl := run_loadVar_mid (P := Tryd.prog) (wr.setCells w.heap.size 0 E.cells) w.heap.size 0 66 E.cells _ (World.rangeAt_setCells_same wr w.heap.size 0 E.cells HT.out.2) Tryd.underlying66 rfl size70
      refine bodyPost_ret (v := .agg E.cells.toArray) ?_ rfl ⟨by rw [HE.out], below_setCells _ (Nat.le_refl _) _ _ _ HB.out⟩
      rw [results_cell1D Tryd.results39]
      simp [Act.put, asAddr, hl]

set_option maxHeartbeats 1600000 in
set_option maxRecDepth 100000 in
theorem rfirst384 (w : World) (hT : Hid (RTab w)) :
    Calls Tryd.prog 39 #[.int .i64 384] w fun e w' => e = .returned (.agg (firstE 384).cells.toArray) ∧ Below w.heap.size w w' := by
  have HB0 : Hid (Below w.heap.size w ((w.alloc (.cells #[.int .u64 0, .int .u64 0, .int .u64 0, .int .u64 0, .int .u64 0, .int .u64 0, .int .u64 0, .int .u64 0] 66)).alloc (.cells #[.int .u64 0, .int .u64 0, .int .u64 0, .int .u64 0, .int .u64 0, .int .u64 0, .int .u64 0, .int .u64 0] 66)) ∧ ((w.alloc (.cells #[.int .u64 0, .int .u64 0, .int .u64 0, .int .u64 0, .int .u64 0, .int .u64 0, .int .u64 0, .int .u64 0] 66)).alloc (.cells #[.int .u64 0, .int .u64 0, .int .u64 0, .int .u64 0, .int .u64 0, .int .u64 0, .int .u64 0, .int .u64 0] 66)).there (w.heap.size + 1) 0 8 ∧ ((w.alloc (.cells #[.int .u64 0, .int .u64 0, .int .u64 0, .int .u64 0, .int .u64 0, .int .u64 0, .int .u64 0, .int .u64 0] 66)).alloc (.cells #[.int .u64 0, .int .u64 0, .int .u64 0, .int .u64 0, .int .u64 0, .int .u64 0, .int .u64 0, .int .u64 0] 66)).there w.heap.size 0 8) := ⟨((Below.refl _ _).alloc (Nat.le_refl _) _).alloc (by simp) _, two_there w _ _ 66 66 8 (by decide), World.there_alloc (there_new w _ 66 8 (by decide)) _⟩
  go_enter Tryd.func39, Tryd.ntmps39
  go_wp2
  go_loopw [4] (fun v wr => ∃ q : Nat, q ≤ 8 ∧ v = .int .i64 q ∧ Hid (Below w.heap.size w wr) ∧ Hid (wr.there (w.heap.size + 1) 0 8 ∧ wr.there w.heap.size 0 8) ∧ Hid (∀ j, j < q → wr.cell? ⟨w.heap.size + 1, j, none⟩ = some (.int .u64 (firstAt 384 j)))) (fun v _ => 8 - (intOf v).toNat)
  case atStart => exact ⟨0, by omega, rfl, HB0.out.1, HB0.out.2, fun j hj => by omega⟩
  case round =>
    obtain ⟨q, hq, rfl, HB, HT, HF⟩ := hrel
    clear HB0
    by_cases hlt : q < 8
    · obtain ⟨jj, hjj⟩ : ∃ jj, jj = 8 + q := ⟨_, rfl⟩
      have hTr := hT.out.below HB.out hT.out.size
      have c1 := hTr.roots (jj) (by omega)
      have hql : (q : Int) < 8 := by omega
      have hq0 : (0 : Int) ≤ (q : Int) := by omega
      have e8 : (8 : Int) + (q : Int) = (jj : Int) := by omega
      have e9 : (jj : Int) < 16 := by omega
      have HJ : Hid (jj = 8 + q) := hjj
      clear hjj
      have ff : wr.frozen? ⟨w.heap.size + 1, q, none⟩ = false := by have := (HT.out.1 q hlt).2; rw [Nat.zero_add] at this; exact this
      have fs : (wr.cell? ⟨w.heap.size + 1, q, none⟩).isSome = true := by have := (HT.out.1 q hlt).1; rw [Nat.zero_add] at this; exact this
      obtain ⟨z, hz⟩ := Option.isSome_iff_exists.1 fs
      clear fs hTr
      go_wp2
      go_roundw
      case rel =>
        have hf := fill_step (F := fun j => .int .u64 (firstAt 384 j)) HF.out HT.out.1 hlt (.int .u64 (firstAt 384 q)) rfl
        obtain rfl := HJ.out
        refine ⟨q + 1, by omega, by go_num, HB.out.setCell (by simp) _, ⟨World.there_setCells HT.out.1 _ q [_], World.there_setCells HT.out.2 _ q [_]⟩, hf.1⟩
      case measure => simp [intOf]; omega
    · obtain rfl : q = 8 := by omega
      have HR : Hid (wr.rangeAt (w.heap.size + 1) 0 (firstE 384).cells) := fun j v hv => by
        obtain ⟨hj, rfl⟩ := eightOf_at _ j v hv
        rw [Nat.zero_add]
        exact HF.out j hj
      have HY : Hid (wr.there w.heap.size 0 (firstE 384).cells.toArray.size) := HT.out.2
      have HZ : Hid ((Tryd.prog.info? 66).map (·.size) = some (firstE 384).cells.toArray.size) := size70
      obtain ⟨E, HE⟩ : ∃ E : Eight, Hid (E = firstE 384) := ⟨_, rfl⟩
      rw [← HE.out] at HR HY HZ
      clear HF
      go_wp2_with (first
        | (refine wpList_load_mid (by rfl) 66 (.tmp 3) (by rfl) (w.heap.size + 1) 0 (by rfl) E.cells _ HR.out Tryd.underlying66 rfl size70 ?_)
        | (refine wpList_store_mid (by rfl) 66 (.tmp 2) (.tmp 42) (by rfl) w.heap.size 0 E.cells.toArray (by rfl) (by rfl) HY.out HZ.out (cellsE_one E) ?_)
        | fail)
      have hl := run_loadVar_mid (P := Tryd.prog) (wr.setCells w.heap.size 0 E.cells) w.heap.size 0 66 E.cells _ (World.rangeAt_setCells_same wr w.heap.size 0 E.cells HT.out.2) Tryd.underlying66 rfl size70
      refine bodyPost_ret (v := .agg E.cells.toArray) ?_ rfl ⟨by rw [HE.out], below_setCells _ (Nat.le_refl _) _ _ _ HB.out⟩
      rw [results_cell1D Tryd.results39]
      simp [Act.put, asAddr, hl]

set_option maxHeartbeats 1600000 in
set_option maxRecDepth 100000 in
theorem rfirst512 (w : World) (hT : Hid (RTab w)) :
    Calls Tryd.prog 39 #[.int .i64 512] w fun e w' => e = .returned (.agg (firstE 512).cells.toArray) ∧ Below w.heap.size w w' := by
  have HB0 : Hid (Below w.heap.size w ((w.alloc (.cells #[.int .u64 0, .int .u64 0, .int .u64 0, .int .u64 0, .int .u64 0, .int .u64 0, .int .u64 0, .int .u64 0] 66)).alloc (.cells #[.int .u64 0, .int .u64 0, .int .u64 0, .int .u64 0, .int .u64 0, .int .u64 0, .int .u64 0, .int .u64 0] 66)) ∧ ((w.alloc (.cells #[.int .u64 0, .int .u64 0, .int .u64 0, .int .u64 0, .int .u64 0, .int .u64 0, .int .u64 0, .int .u64 0] 66)).alloc (.cells #[.int .u64 0, .int .u64 0, .int .u64 0, .int .u64 0, .int .u64 0, .int .u64 0, .int .u64 0, .int .u64 0] 66)).there (w.heap.size + 1) 0 8 ∧ ((w.alloc (.cells #[.int .u64 0, .int .u64 0, .int .u64 0, .int .u64 0, .int .u64 0, .int .u64 0, .int .u64 0, .int .u64 0] 66)).alloc (.cells #[.int .u64 0, .int .u64 0, .int .u64 0, .int .u64 0, .int .u64 0, .int .u64 0, .int .u64 0, .int .u64 0] 66)).there w.heap.size 0 8) := ⟨((Below.refl _ _).alloc (Nat.le_refl _) _).alloc (by simp) _, two_there w _ _ 66 66 8 (by decide), World.there_alloc (there_new w _ 66 8 (by decide)) _⟩
  go_enter Tryd.func39, Tryd.ntmps39
  go_wp2
  go_loopw [4] (fun v wr => ∃ q : Nat, q ≤ 8 ∧ v = .int .i64 q ∧ Hid (Below w.heap.size w wr) ∧ Hid (wr.there (w.heap.size + 1) 0 8 ∧ wr.there w.heap.size 0 8) ∧ Hid (∀ j, j < q → wr.cell? ⟨w.heap.size + 1, j, none⟩ = some (.int .u64 (firstAt 512 j)))) (fun v _ => 8 - (intOf v).toNat)
  case atStart => exact ⟨0, by omega, rfl, HB0.out.1, HB0.out.2, fun j hj => by omega⟩
  case round =>
    obtain ⟨q, hq, rfl, HB, HT, HF⟩ := hrel
    clear HB0
    by_cases hlt : q < 8
    · obtain ⟨jj, hjj⟩ : ∃ jj, jj = 8 + q := ⟨_, rfl⟩
      have hTr := hT.out.below HB.out hT.out.size
      have c1 := hTr.roots (q) (by omega)
      have hql : (q : Int) < 8 := by omega
      have hq0 : (0 : Int) ≤ (q : Int) := by omega
      skip
      have ff : wr.frozen? ⟨w.heap.size + 1, q, none⟩ = false := by have := (HT.out.1 q hlt).2; rw [Nat.zero_add] at this; exact this
      have fs : (wr.cell? ⟨w.heap.size + 1, q, none⟩).isSome = true := by have := (HT.out.1 q hlt).1; rw [Nat.zero_add] at this; exact this
      obtain ⟨z, hz⟩ := Option.isSome_iff_exists.1 fs
      clear fs hTr
      go_wp2
      go_roundw
      case rel =>
        have hf := fill_step (F := fun j => .int .u64 (firstAt 512 j)) HF.out HT.out.1 hlt (.int .u64 (firstAt 512 q)) rfl
        skip
        refine ⟨q + 1, by omega, by go_num, HB.out.setCell (by simp) _, ⟨World.there_setCells HT.out.1 _ q [_], World.there_setCells HT.out.2 _ q [_]⟩, hf.1⟩
      case measure => simp [intOf]; omega
    · obtain rfl : q = 8 := by omega
      have HR : Hid (wr.rangeAt (w.heap.size + 1) 0 (firstE 512).cells) := fun j v hv => by
        obtain ⟨hj, rfl⟩ := eightOf_at _ j v hv
        rw [Nat.zero_add]
        exact HF.out j hj
      have HY : Hid (wr.there w.heap.size 0 (firstE 512).cells.toArray.size) := HT.out.2
      have HZ : Hid ((Tryd.prog.info? 66).map (·.size) = some (firstE 512).cells.toArray.size) := size70
      obtain ⟨E, HE⟩ : ∃ E : Eight, Hid (E = firstE 512) := ⟨_, rfl⟩
      rw [← HE.out] at HR HY HZ
      clear HF
      go_wp2_with (first
        | (refine wpList_load_mid (by rfl) 66 (.tmp 3) (by rfl) (w.heap.size + 1) 0 (by rfl) E.cells _ HR.out Tryd.underlying66 rfl size70 ?_)
        | (refine wpList_store_mid (by rfl) 66 (.tmp 2) (.tmp 42) (by rfl) w.heap.size 0 E.cells.toArray (by rfl) (by rfl) HY.out HZ.out (cellsE_one E) ?_)
        | fail)
      have hl := run_loadVar_mid (P := Tryd.prog) (wr.setCells w.heap.size 0 E.cells) w.heap.size 0 66 E.cells _ (World.rangeAt_setCells_same wr w.heap.size 0 E.cells HT.out.2) Tryd.underlying66 rfl size70
      refine bodyPost_ret (v := .agg E.cells.toArray) ?_ rfl ⟨by rw [HE.out], below_setCells _ (Nat.le_refl _) _ _ _ HB.out⟩
      rw [results_cell1D Tryd.results39]
      simp [Act.put, asAddr, hl]


/-- first. -/
theorem rfirst_any {h : Int} (k : Known h) (w : World) (hT : Hid (RTab w)) : Calls Tryd.prog 39 #[.int .i64 h] w fun e w' => e = .returned (.agg (firstE h).cells.toArray) ∧ Below w.heap.size w w' := by
  rcases k with rfl | rfl | rfl | rfl
  · exact rfirst224 w hT
  · exact rfirst256 w hT
  · exact rfirst384 w hT
  · exact rfirst512 w hT
theorem rblock_ok (h : Int) (k : Known h) (w : World) : Calls Tryd.prog 38 #[.int .i64 h] w fun e w' => e = .returned (.int .i64 (bsz (wdOf h))) ∧ w' = w := by
  rcases k with rfl | rfl | rfl | rfl
  all_goals
    go_enter Tryd.func38, Tryd.ntmps38
    go_wp2
    go_ret
    exact ⟨rfl, rfl⟩
theorem rsize_ok (h : Int) (k : Known h) (w : World) : Calls Tryd.prog 43 #[.int .i64 h] w fun e w' => e = .returned (.int .i64 (szOf h)) ∧ w' = w := by
  rcases k with rfl | rfl | rfl | rfl
  all_goals
    go_enter Tryd.func43, Tryd.ntmps43
    go_wp2
    go_ret
    exact ⟨rfl, rfl⟩
theorem rsize_bad (h : Int) (k : ¬ Known h) (w : World) : Calls Tryd.prog 43 #[.int .i64 h] w fun e w' => e = .returned (.int .i64 0) ∧ w' = w := by
  have d1 : ¬ h = 224 := fun e => k (.inl e)
  have d2 : ¬ h = 256 := fun e => k (.inr (.inl e))
  have d3 : ¬ h = 384 := fun e => k (.inr (.inr (.inl e)))
  have d4 : ¬ h = 512 := fun e => k (.inr (.inr (.inr e)))
  clear k
  go_enter Tryd.func43, Tryd.ntmps43
  go_wp2
  go_ret
  exact ⟨rfl, rfl⟩
end Go.Proofs.YtbpkocohddlbhaaDoor
namespace Go.Proofs.YtbpkocohddlbhaaDoor
open Go.RowKit
set_option linter.unusedVariables false
set_option linter.unusedSimpArgs false
theorem zero_arr {n : Nat} {Z : Array Value} {v : Value} (h : Z = Array.replicate n v) (j : Nat) (hj : j < n) : Z[j]? = some v := by
  rw [h]
  simp [hj]
def Kof (C : Nat → Int) (t : Nat) : Option Value := if t < 64 then some (.int .u32 (C t / 4294967296)) else none
theorem rot_or32 (x : Int) (a b s : Nat) (hb : b = 32 - s) (ha : a = s) : bits .or .u32 (x / 2 ^ b) (x * 2 ^ a % 4294967296) = rotl32 x s := by
  subst hb ha
  rw [rotl32, or_comm32]
/-- The step of the schedule, and of the rounds, as the document's answer writes them. -/
theorem lo0_or32 (x : Int) : bits .xor .u32 (bits .xor .u32 (bits .or .u32 (x / 128) (x * 33554432 % 4294967296)) (bits .or .u32 (x / 262144) (x * 16384 % 4294967296))) (x / 8) = lo0_32 x := by
  have h1 := rot_or32 x 25 7 25 rfl rfl
  have h2 := rot_or32 x 14 18 14 rfl rfl
  simp only [Int.reducePow] at h1 h2
  rw [h1, h2, lo0_32]
theorem lo1_or32 (x : Int) : bits .xor .u32 (bits .xor .u32 (bits .or .u32 (x / 131072) (x * 32768 % 4294967296)) (bits .or .u32 (x / 524288) (x * 8192 % 4294967296))) (x / 1024) = lo1_32 x := by
  have h1 := rot_or32 x 15 17 15 rfl rfl
  have h2 := rot_or32 x 13 19 13 rfl rfl
  simp only [Int.reducePow] at h1 h2
  rw [h1, h2, lo1_32]
theorem S1_or32 (x : Int) : bits .xor .u32 (bits .xor .u32 (bits .or .u32 (x / 64) (x * 67108864 % 4294967296)) (bits .or .u32 (x / 2048) (x * 2097152 % 4294967296))) (bits .or .u32 (x / 33554432) (x * 128 % 4294967296)) = bits .xor .u32 (bits .xor .u32 (rotl32 x 26) (rotl32 x 21)) (rotl32 x 7) := by
  have h1 := rot_or32 x 26 6 26 rfl rfl
  have h2 := rot_or32 x 21 11 21 rfl rfl
  have h3 := rot_or32 x 7 25 7 rfl rfl
  simp only [Int.reducePow] at h1 h2 h3
  rw [h1, h2, h3]
theorem S0_or32 (x : Int) : bits .xor .u32 (bits .xor .u32 (bits .or .u32 (x / 4) (x * 1073741824 % 4294967296)) (bits .or .u32 (x / 8192) (x * 524288 % 4294967296))) (bits .or .u32 (x / 4194304) (x * 1024 % 4294967296)) = bits .xor .u32 (bits .xor .u32 (rotl32 x 30) (rotl32 x 19)) (rotl32 x 10) := by
  have h1 := rot_or32 x 30 2 30 rfl rfl
  have h2 := rot_or32 x 19 13 19 rfl rfl
  have h3 := rot_or32 x 10 22 10 rfl rfl
  simp only [Int.reducePow] at h1 h2 h3
  rw [h1, h2, h3]
def Eight.cells32 (s : Eight) : List Value := s.list.map (Value.int .u32)
theorem cells32_one (s : Eight) : s.cells32.toArray.all (·.oneCell') = true := all_oneCell_toArray (by
  intro v hv
  simp only [Eight.cells32, List.mem_map] at hv
  obtain ⟨x, _, rfl⟩ := hv
  rfl)
theorem size94 : (Tryd.prog.info? 92).map (·.size) = some 8 := by kernel_rfl
set_option maxHeartbeats 3200000 in
set_option maxRecDepth 100000 in
theorem taken32_walk (h0 h1 h2 h3 h4 h5 h6 h7 : Int) (Kc : Array Value) (C B : Nat → Int) (b p cap : Nat) (w : World) (hK : ∀ t, t < 64 → Kc[t]? = some (.int .u32 (C t / 4294967296)))
    (hcap : 64 ≤ cap) (hcm : cap ≤ 9223372036854775807) (hB : ∀ i, i < 64 → w.cell? ⟨b, p + i, none⟩ = some (.int .u8 (B i))) :
    Calls Tryd.prog 58 #[.agg #[.int .u32 h0, .int .u32 h1, .int .u32 h2, .int .u32 h3, .int .u32 h4, .int .u32 h5, .int .u32 h6, .int .u32 h7], .slice (some ⟨b, p, none⟩) 64 cap, .agg Kc] w fun e w' =>
      e = .returned (.agg (Eight.cells32 (Eight.zip (fun h x => (h + x) % 4294967296) ⟨h0, h1, h2, h3, h4, h5, h6, h7⟩ (rounds32 C (sched32 B) 64 ⟨h0, h1, h2, h3, h4, h5, h6, h7⟩))).toArray) ∧ Below w.heap.size w w' := by
  have hbw : b < w.heap.size := lt_of_cell (hB 0 (by omega))
  have HB : Hid (∀ i, i < 64 → w.cell? ⟨b, p + i, none⟩ = some (.int .u8 (B i))) := hB
  have HK : Hid (∀ t v, Kof C t = some v → Kc[t]? = some v) := fun t v hv => by
    unfold Kof at hv
    split at hv
    · rename_i ht
      rw [hK t ht]
      exact hv
    · cases hv
  clear hB hK
  go_enter Tryd.func58, Tryd.ntmps58
  go_wp2
  go_loopw [8] (fun v wr => ∃ t : Nat, t ≤ 16 ∧ v = .int .i64 t ∧ Hid (TX w wr [.int .u32 h0, .int .u32 h1, .int .u32 h2, .int .u32 h3, .int .u32 h4, .int .u32 h5, .int .u32 h6, .int .u32 h7] (Kof C) (w.heap.size + 2) (w.heap.size + 3) 64 (fun j => .int .u32 (if j < t then sched32 B j else 0)))) (fun v _ => 16 - (intOf v).toNat)
  case atStart => exact ⟨0, by omega, rfl, tx_new4 w _ _ _ _ _ _ _ _ _ _ _ (by rfl) (by rfl) HK.out (fun j hj => by rw [if_neg (by omega)]; exact zero_arr (by rfl) j hj)⟩
  case round =>
    obtain ⟨t, ht, rfl, HX⟩ := hrel
    by_cases h16 : t < 16
    · have f0 : wr.cell? ⟨b, p + 4 * t, none⟩ = some (.int .u8 (B (4 * t))) := by rw [HX.out.below.cell hbw]; exact HB.out (4 * t) (by omega)
      have f1 : wr.cell? ⟨b, p + (4 * t + 1), none⟩ = some (.int .u8 (B (4 * t + 1))) := by rw [HX.out.below.cell hbw]; exact HB.out (4 * t + 1) (by omega)
      have f2 : wr.cell? ⟨b, p + (4 * t + 2), none⟩ = some (.int .u8 (B (4 * t + 2))) := by rw [HX.out.below.cell hbw]; exact HB.out (4 * t + 2) (by omega)
      have f3 : wr.cell? ⟨b, p + (4 * t + 3), none⟩ = some (.int .u8 (B (4 * t + 3))) := by rw [HX.out.below.cell hbw]; exact HB.out (4 * t + 3) (by omega)
      have fw : wr.frozen? ⟨w.heap.size + 3, t, none⟩ = false := by simpa using (HX.out.wth t (by omega)).2
      obtain ⟨u, fu⟩ : ∃ u, wr.cell? ⟨w.heap.size + 3, t, none⟩ = some u := ⟨_, HX.out.fill t (by omega)⟩
      go_wp2
      go_region
      go_wp2
      go_roundw
      case rel =>
        refine ⟨t + 1, by omega, by go_num, ((HX.out.put t (by omega) (.int .u32 (word32 B t))).drew).congr fun j hj => ?_⟩
        by_cases e : j = t
        · subst e
          rw [if_pos rfl, if_pos (by omega), sched32, if_pos h16]
        · rw [if_neg e]
          by_cases e2 : j < t
          · rw [if_pos e2, if_pos (by omega)]
          · rw [if_neg e2, if_neg (by omega)]
      case measure => simp [intOf]; omega
    · obtain rfl : t = 16 := by omega
      clear h16 ht HB
      go_wp2
      go_loopw [9] (fun v wr => ∃ t : Nat, t ≤ 48 ∧ v = .int .i64 (16 + (t : Int)) ∧ Hid (TX w wr [.int .u32 h0, .int .u32 h1, .int .u32 h2, .int .u32 h3, .int .u32 h4, .int .u32 h5, .int .u32 h6, .int .u32 h7] (Kof C) (w.heap.size + 2) (w.heap.size + 3) 64 (fun j => .int .u32 (if j < 16 + t then sched32 B j else 0)))) (fun v _ => 64 - (intOf v).toNat)
      case atStart => exact ⟨0, by omega, rfl, HX⟩
      case round =>
        obtain ⟨t, ht, rfl, HX2⟩ := hrel
        clear HX
        by_cases h48 : t < 48
        · have f2 : wr.cell? ⟨w.heap.size + 3, t + 14, none⟩ = some (.int .u32 (sched32 B (t + 14))) := by rw [HX2.out.fill _ (by omega), if_pos (by omega)]
          have f15 : wr.cell? ⟨w.heap.size + 3, t + 1, none⟩ = some (.int .u32 (sched32 B (t + 1))) := by rw [HX2.out.fill _ (by omega), if_pos (by omega)]
          have f7 : wr.cell? ⟨w.heap.size + 3, t + 9, none⟩ = some (.int .u32 (sched32 B (t + 9))) := by rw [HX2.out.fill _ (by omega), if_pos (by omega)]
          have f16 : wr.cell? ⟨w.heap.size + 3, t, none⟩ = some (.int .u32 (sched32 B t)) := by rw [HX2.out.fill _ (by omega), if_pos (by omega)]
          have fw : wr.frozen? ⟨w.heap.size + 3, t + 16, none⟩ = false := by simpa using (HX2.out.wth (t + 16) (by omega)).2
          obtain ⟨u, fu⟩ : ∃ u, wr.cell? ⟨w.heap.size + 3, t + 16, none⟩ = some u := ⟨_, HX2.out.fill (t + 16) (by omega)⟩
          have e2 : (16 + (t : Int) - 2).toNat = t + 14 := by omega
          have e15 : (16 + (t : Int) - 15).toNat = t + 1 := by omega
          have e7 : (16 + (t : Int) - 7).toNat = t + 9 := by omega
          have e16 : (16 + (t : Int) - 16).toNat = t := by omega
          have e0 : (16 + (t : Int)).toNat = t + 16 := by omega
          go_wp2
          go_region
          go_wp2
          go_roundw
          case rel =>
            have hv : sched32 B (t + 16) = (lo1_32 (sched32 B (t + 14)) + sched32 B (t + 9) + lo0_32 (sched32 B (t + 1)) + sched32 B t) % 4294967296 := by
              rw [sched32, if_neg (by omega)]
              rw [show t + 16 - 2 = t + 14 by omega, show t + 16 - 7 = t + 9 by omega, show t + 16 - 15 = t + 1 by omega, show t + 16 - 16 = t by omega]
            rw [lo0_or32, lo1_or32]
            refine ⟨t + 1, by omega, by go_num, ((HX2.out.put (t + 16) (by omega) _).drew).congr fun j hj => ?_⟩
            by_cases e : j = t + 16
            · subst e
              rw [if_pos rfl, if_pos (by omega), hv]
            · rw [if_neg e]
              by_cases e2 : j < 16 + t
              · rw [if_pos e2, if_pos (by omega)]
              · rw [if_neg e2, if_neg (by omega)]
          case measure => simp [intOf]; omega
        · obtain rfl : t = 48 := by omega
          clear h48 ht
          have HX3 : Hid (TX w wr [.int .u32 h0, .int .u32 h1, .int .u32 h2, .int .u32 h3, .int .u32 h4, .int .u32 h5, .int .u32 h6, .int .u32 h7] (Kof C) (w.heap.size + 2) (w.heap.size + 3) 64 (fun j => .int .u32 (sched32 B j))) := HX2.out.congr fun j hj => by rw [if_pos (by omega)]
          clear HX2
          have c0 : wr.cell? ⟨w.heap.size, 0, none⟩ = some (.int .u32 h0) := by simpa using HX3.out.h 0 _ rfl
          have c1 : wr.cell? ⟨w.heap.size, 1, none⟩ = some (.int .u32 h1) := by simpa using HX3.out.h 1 _ rfl
          have c2 : wr.cell? ⟨w.heap.size, 2, none⟩ = some (.int .u32 h2) := by simpa using HX3.out.h 2 _ rfl
          have c3 : wr.cell? ⟨w.heap.size, 3, none⟩ = some (.int .u32 h3) := by simpa using HX3.out.h 3 _ rfl
          have c4 : wr.cell? ⟨w.heap.size, 4, none⟩ = some (.int .u32 h4) := by simpa using HX3.out.h 4 _ rfl
          have c5 : wr.cell? ⟨w.heap.size, 5, none⟩ = some (.int .u32 h5) := by simpa using HX3.out.h 5 _ rfl
          have c6 : wr.cell? ⟨w.heap.size, 6, none⟩ = some (.int .u32 h6) := by simpa using HX3.out.h 6 _ rfl
          have c7 : wr.cell? ⟨w.heap.size, 7, none⟩ = some (.int .u32 h7) := by simpa using HX3.out.h 7 _ rfl
          go_wp2
          go_quiet (fail)
          go_wp2
          go_quiet (fail)
          go_wp2
          clear c0 c1 c2 c3 c4 c5 c6 c7
          go_loopw [14, 15, 16, 17, 18, 19, 20, 21, 22] (fun va vb vc vd ve vf vg vk i wr => ∃ t : Nat, ∃ s : Eight, t ≤ 64 ∧ i = .int .i64 t ∧ va = .int .u32 s.a ∧ vb = .int .u32 s.b ∧ vc = .int .u32 s.c ∧ vd = .int .u32 s.d ∧ ve = .int .u32 s.e ∧ vf = .int .u32 s.f ∧ vg = .int .u32 s.g ∧ vk = .int .u32 s.k ∧ Hid (s = rounds32 C (sched32 B) t ⟨h0, h1, h2, h3, h4, h5, h6, h7⟩) ∧ Hid (TX w wr [.int .u32 h0, .int .u32 h1, .int .u32 h2, .int .u32 h3, .int .u32 h4, .int .u32 h5, .int .u32 h6, .int .u32 h7] (Kof C) (w.heap.size + 2) (w.heap.size + 3) 64 (fun j => .int .u32 (sched32 B j)))) (fun _ _ _ _ _ _ _ _ i _ => 64 - (intOf i).toNat)
          case atStart => exact ⟨0, ⟨h0, h1, h2, h3, h4, h5, h6, h7⟩, by omega, rfl, rfl, rfl, rfl, rfl, rfl, rfl, rfl, rfl, rfl, (HX3.out.drewN _).drewN _⟩
          case round =>
            obtain ⟨t, ⟨a, b, c, d, e, f, g1, k⟩, ht, rfl, rfl, rfl, rfl, rfl, rfl, rfl, rfl, rfl, HS, HX4⟩ := hrel
            clear HX3
            by_cases hlt : t < 64
            · have hw : wr.cell? ⟨w.heap.size + 3, t, none⟩ = some (.int .u32 (sched32 B t)) := HX4.out.fill t hlt
              have hc : wr.cell? ⟨w.heap.size + 1, t, none⟩ = some (.int .u32 (C t / 4294967296)) := HX4.out.k t _ (by rw [Kof, if_pos hlt])
              go_wp2
              go_quiet (fail)
              go_wp2
              go_roundw
              case rel =>
                rw [S1_or32, S0_or32, ch32, maj32]
                refine ⟨t + 1, round32 ⟨a, b, c, d, e, f, g1, k⟩ (C t) (sched32 B t), by omega, by go_num, rfl, rfl, rfl, rfl, rfl, rfl, rfl, rfl, ?_, HX4.out.drewN _⟩
                have := HS.out
                rw [this]
                exact rfl
              case measure => simp [intOf]; omega
            · obtain rfl : t = 64 := by omega
              clear hlt ht
              obtain ⟨E, HE⟩ : ∃ E : Eight, E = ⟨((h0 + a) % 4294967296), ((h1 + b) % 4294967296), ((h2 + c) % 4294967296), ((h3 + d) % 4294967296), ((h4 + e) % 4294967296), ((h5 + f) % 4294967296), ((h6 + g1) % 4294967296), ((h7 + k) % 4294967296)⟩ := ⟨_, rfl⟩
              have HEE : Hid (Eight.zip (fun h x => (h + x) % 4294967296) ⟨h0, h1, h2, h3, h4, h5, h6, h7⟩ (rounds32 C (sched32 B) 64 ⟨h0, h1, h2, h3, h4, h5, h6, h7⟩) = ⟨((h0 + a) % 4294967296), ((h1 + b) % 4294967296), ((h2 + c) % 4294967296), ((h3 + d) % 4294967296), ((h4 + e) % 4294967296), ((h5 + f) % 4294967296), ((h6 + g1) % 4294967296), ((h7 + k) % 4294967296)⟩) := by
                rw [← HS.out]
                exact rfl
              clear HS HE E
              have c0 : wr.cell? ⟨w.heap.size, 0, none⟩ = some (.int .u32 h0) := by simpa using HX4.out.h 0 _ rfl
              have c1 : wr.cell? ⟨w.heap.size, 1, none⟩ = some (.int .u32 h1) := by simpa using HX4.out.h 1 _ rfl
              have c2 : wr.cell? ⟨w.heap.size, 2, none⟩ = some (.int .u32 h2) := by simpa using HX4.out.h 2 _ rfl
              have c3 : wr.cell? ⟨w.heap.size, 3, none⟩ = some (.int .u32 h3) := by simpa using HX4.out.h 3 _ rfl
              have c4 : wr.cell? ⟨w.heap.size, 4, none⟩ = some (.int .u32 h4) := by simpa using HX4.out.h 4 _ rfl
              have c5 : wr.cell? ⟨w.heap.size, 5, none⟩ = some (.int .u32 h5) := by simpa using HX4.out.h 5 _ rfl
              have c6 : wr.cell? ⟨w.heap.size, 6, none⟩ = some (.int .u32 h6) := by simpa using HX4.out.h 6 _ rfl
              have c7 : wr.cell? ⟨w.heap.size, 7, none⟩ = some (.int .u32 h7) := by simpa using HX4.out.h 7 _ rfl
              go_wp2_with (first
                | (refine wpList_store_mid (by rfl) 92 (.tmp 6) (.tmp 252) (by rfl) (w.heap.size + 2) 0 (Eight.cells32 ⟨((h0 + a) % 4294967296), ((h1 + b) % 4294967296), ((h2 + c) % 4294967296), ((h3 + d) % 4294967296), ((h4 + e) % 4294967296), ((h5 + f) % 4294967296), ((h6 + g1) % 4294967296), ((h7 + k) % 4294967296)⟩).toArray (by rfl) (by rfl) HX4.out.res size94 (cells32_one _) ?_)
                | fail)
              have hl := run_loadVar_mid (P := Tryd.prog) (wr.setCells (w.heap.size + 2) 0 (Eight.cells32 ⟨((h0 + a) % 4294967296), ((h1 + b) % 4294967296), ((h2 + c) % 4294967296), ((h3 + d) % 4294967296), ((h4 + e) % 4294967296), ((h5 + f) % 4294967296), ((h6 + g1) % 4294967296), ((h7 + k) % 4294967296)⟩)) (w.heap.size + 2) 0 92 (Eight.cells32 ⟨((h0 + a) % 4294967296), ((h1 + b) % 4294967296), ((h2 + c) % 4294967296), ((h3 + d) % 4294967296), ((h4 + e) % 4294967296), ((h5 + f) % 4294967296), ((h6 + g1) % 4294967296), ((h7 + k) % 4294967296)⟩) _ (World.rangeAt_setCells_same wr (w.heap.size + 2) 0 _ HX4.out.res) Tryd.underlying92 rfl size94
              refine bodyPost_ret (v := .agg (Eight.cells32 ⟨((h0 + a) % 4294967296), ((h1 + b) % 4294967296), ((h2 + c) % 4294967296), ((h3 + d) % 4294967296), ((h4 + e) % 4294967296), ((h5 + f) % 4294967296), ((h6 + g1) % 4294967296), ((h7 + k) % 4294967296)⟩).toArray) ?_ rfl ⟨by rw [HEE.out], below_setCells _ (by omega) _ _ _ HX4.out.below⟩
              rw [results_cell1D Tryd.results58]
              simp [Act.put, asAddr, hl]
end Go.Proofs.YtbpkocohddlbhaaDoor
namespace Go.Proofs.YtbpkocohddlbhaaDoor
open Go.RowKit
set_option linter.unusedVariables false
set_option linter.unusedSimpArgs false
theorem cube_hi : ∀ t, t < 80 → IntKind.u32.wrap (cubeAt t / 4294967296) = cubeAt t / 4294967296 := by decide +kernel
theorem size92 : (Tryd.prog.info? 90).map (·.size) = some (Cl 64 (fun j => .int .u32 (cubeAt j / 4294967296))).length := by rw [Cl_length]; kernel_rfl
theorem sz_set {wr : World} {a : Addr} {u : Value} {k : Nat} (h : wr.heap.size = k) : Hid ((wr.setCell a u).heap.size = k) := by
  show (wr.setCell a u).heap.size = k
  simpa [World.setCell] using h
theorem cells32_Cl (s : Eight) : s.cells32 = Cl 8 (fun j => .int .u32 (fnz s.list j)) := rfl
theorem cells_Cl (s : Eight) : s.cells = Cl 8 (fun j => .int .u64 (fnz s.list j)) := rfl
def Eight.low (s : Eight) : Eight := s.map (· % 4294967296)
theorem low_at (s : Eight) (j : Nat) (hj : j < 8) : fnz s.low.list j = fnz s.list j % 4294967296 := by
  match j, hj with
  | 0, _ | 1, _ | 2, _ | 3, _ | 4, _ | 5, _ | 6, _ | 7, _ => rfl
theorem low_block (C B : Nat → Int) (s : Eight) : Eight.zip (fun h x => (h + x) % 4294967296) s.low (rounds32 C (sched32 B) 64 s.low) = block32 C B s := by
  unfold block32
  generalize hr : rounds32 C (sched32 B) 64 s.low = r
  have hr' : rounds32 C (sched32 B) 64 ⟨s.a % 4294967296, s.b % 4294967296, s.c % 4294967296, s.d % 4294967296, s.e % 4294967296, s.f % 4294967296, s.g % 4294967296, s.k % 4294967296⟩ = r := hr
  rw [hr']
  simp only [Eight.zip, Eight.low, Eight.map, Int.emod_add_emod]
theorem low_low (C B : Nat → Int) (s : Eight) : (block32 C B s).low = block32 C B s := by
  unfold block32 Eight.zip Eight.low Eight.map
  simp only [Int.emod_emod]
theorem slice22 (u : World) (b p n cap q k : Nat) (kk : Int) (hk : kk = (k : Nat)) (h0 : 0 < k) (h1 : q + k ≤ cap) : (Instr.slice 23 (.slice (some ⟨b, p, none⟩) n cap) (some (.int .i64 (q : Nat))) (some (.int .i64 ((q : Int) + kk))) none).run Tryd.prog u = .ok (.slice (some ⟨b, p + q, none⟩) k (cap - q)) u := by
  subst hk
  rw [run_slice_lh u 23 (some ⟨b, p, none⟩) n cap und22p .i64 .i64 q ((q : Int) + (k : Nat)) (by omega) (by omega) (by omega), elem22p, sizeOf5p]
  have e1 : ((q : Int) + (k : Nat)).toNat - q = k := by omega
  simp only [Result.andThen, sliced, Int.toNat_natCast, e1]
  rw [if_neg (by omega), Option.map_some, Nat.mul_one, Addr.add_mid]
set_option maxHeartbeats 3200000 in
set_option maxRecDepth 100000 in
theorem rnarrow_walk (h0 h1 h2 h3 h4 h5 h6 h7 : Int) (B : Nat → Int) (b p n m cap : Nat) (w : World) (hT : RTab w) (hn : n = 64 * m)
    (hcap : n ≤ cap) (hcm : cap ≤ 9223372036854775807) (hbw : b < w.heap.size) (hB : ∀ i, i < n → w.cell? ⟨b, p + i, none⟩ = some (.int .u8 (B i))) :
    Calls Tryd.prog 41 #[.agg #[.int .u64 h0, .int .u64 h1, .int .u64 h2, .int .u64 h3, .int .u64 h4, .int .u64 h5, .int .u64 h6, .int .u64 h7], .slice (some ⟨b, p, none⟩) n cap] w fun e w' =>
      e = .returned (.agg (Eight.cells (takes32 cubeAt B ⟨h0, h1, h2, h3, h4, h5, h6, h7⟩ m).low).toArray) ∧ Below w.heap.size w w' := by
  have hw1 := hT.size
  have HB : Hid (∀ i, i < n → w.cell? ⟨b, p + i, none⟩ = some (.int .u8 (B i))) := hB
  have HT : Hid (RTab w) := hT
  have HN : Hid (n = 64 * m) := hn
  clear hB hT hn
  go_enter Tryd.func41, Tryd.ntmps41
  go_wp2
  go_loopw [6] (fun v wr => ∃ t : Nat, t ≤ 64 ∧ v = .int .i64 t ∧ Hid (wr.heap.size = w.heap.size + 3) ∧ Hid (Mem w wr [(Cl 8 (fun j => .int .u64 (fnz (Eight.list ⟨h0, h1, h2, h3, h4, h5, h6, h7⟩) j))), (Cl 8 (fun _ => .int .u64 0)), Cl 64 (fun j => .int .u32 (if j < t then cubeAt j / 4294967296 else 0))])) (fun v _ => 64 - (intOf v).toNat)
  case atStart =>
    refine ⟨0, by omega, rfl, (by simp : _ = _), ?_⟩
    exact ((((Mem.nil w).alloc (by simp) _ _).alloc (by simp) _ _).alloc (by simp) _ _).congr rfl
  case round =>
    obtain ⟨t, ht, rfl, HS, HM⟩ := hrel
    by_cases h64 : t < 64
    · have f0 : wr.cell? ⟨1, t, none⟩ = some (.int .u64 (cubeAt t)) := (HT.out.below HM.out.below hw1).cubes t (by omega)
      have fw : wr.frozen? ⟨w.heap.size + 2, t, none⟩ = false := HM.out.frozen 2 rfl t (by rw [Cl_length]; exact h64)
      obtain ⟨u, fu⟩ : ∃ u, wr.cell? ⟨w.heap.size + 2, t, none⟩ = some u := ⟨_, HM.out.cell 2 rfl t _ (Cl_at _ _ t h64)⟩
      have hu32 : IntKind.u32.wrap (cubeAt t / 4294967296) = cubeAt t / 4294967296 := cube_hi t (by omega)
      go_wp2
      go_roundw
      case rel =>
        refine ⟨t + 1, by omega, by go_num, sz_set HS.out, (HM.out.put 2 rfl t (by rw [Cl_length]; exact h64) (.int .u32 (cubeAt t / 4294967296))).congr ?_⟩
        rw [Cl_set]
        show [_, _, _] = [_, _, _]
        congr 3
        refine Cl_congr fun j hj => ?_
        by_cases e : j = t
        · subst e
          rw [if_pos rfl, if_pos (by omega)]
        · rw [if_neg e]
          by_cases e2 : j < t
          · rw [if_pos e2, if_pos (by omega)]
          · rw [if_neg e2, if_neg (by omega)]
      case measure => simp [intOf]; omega
    · obtain rfl : t = 64 := by omega
      clear h64 ht
      have HM2 : Hid (Mem w (wr.alloc (.cells #[.int .u32 0, .int .u32 0, .int .u32 0, .int .u32 0, .int .u32 0, .int .u32 0, .int .u32 0, .int .u32 0] 92)) [(Cl 8 (fun j => .int .u64 (fnz (Eight.list ⟨h0, h1, h2, h3, h4, h5, h6, h7⟩) j))), (Cl 8 (fun _ => .int .u64 0)), (Cl 64 (fun j => .int .u32 (cubeAt j / 4294967296))), Cl 8 (fun j => .int .u32 0)]) := (HM.out.alloc (by rw [HS.out]; rfl) _ _).congr (by
        show [_, _, _, _] = [_, _, _, _]
        congr 3)
      have hsz := HS.out
      clear HM HS
      go_wp2
      generalize wr.alloc (.cells #[.int .u32 0, .int .u32 0, .int .u32 0, .int .u32 0, .int .u32 0, .int .u32 0, .int .u32 0, .int .u32 0] 92) = wa at HM2 ⊢
      clear hsz
      rw [show ((64 : Nat) : Int) = 64 from rfl]
      go_loopw [8] (fun v wr => ∃ t : Nat, t ≤ 8 ∧ v = .int .i64 t ∧ Hid (Mem w wr [(Cl 8 (fun j => .int .u64 (fnz (Eight.list ⟨h0, h1, h2, h3, h4, h5, h6, h7⟩) j))), (Cl 8 (fun _ => .int .u64 0)), (Cl 64 (fun j => .int .u32 (cubeAt j / 4294967296))), Cl 8 (fun j => .int .u32 (if j < t then fnz (Eight.list ⟨h0, h1, h2, h3, h4, h5, h6, h7⟩) j % 4294967296 else 0))])) (fun v _ => 8 - (intOf v).toNat)
      case atStart => exact ⟨0, by omega, rfl, HM2⟩
      case round =>
        obtain ⟨t, ht, rfl, HM⟩ := hrel
        clear HM2
        by_cases h8 : t < 8
        · have f0 : wr.cell? ⟨w.heap.size, t, none⟩ = some (.int .u64 (fnz (Eight.list ⟨h0, h1, h2, h3, h4, h5, h6, h7⟩) t)) := HM.out.cell 0 rfl t _ (Cl_at _ _ t h8)
          have fw : wr.frozen? ⟨w.heap.size + 3, t, none⟩ = false := HM.out.frozen 3 rfl t (by rw [Cl_length]; exact h8)
          obtain ⟨u, fu⟩ : ∃ u, wr.cell? ⟨w.heap.size + 3, t, none⟩ = some u := ⟨_, HM.out.cell 3 rfl t _ (Cl_at _ _ t h8)⟩
          obtain ⟨x, hx⟩ : ∃ x, Hid (x = fnz (Eight.list ⟨h0, h1, h2, h3, h4, h5, h6, h7⟩) t) := ⟨_, rfl⟩
          rw [← hx.out] at f0
          go_wp2
          go_roundw
          case rel =>
            refine ⟨t + 1, by omega, by go_num, (HM.out.put 3 rfl t (by rw [Cl_length]; exact h8) (.int .u32 (x % 4294967296))).congr ?_⟩
            rw [Cl_set]
            show [_, _, _, _] = [_, _, _, _]
            congr 4
            refine Cl_congr fun j hj => ?_
            by_cases e : j = t
            · subst e
              rw [if_pos rfl, if_pos (by omega), hx.out]
            · rw [if_neg e]
              by_cases e2 : j < t
              · rw [if_pos e2, if_pos (by omega)]
              · rw [if_neg e2, if_neg (by omega)]
          case measure => simp [intOf]; omega
        · obtain rfl : t = 8 := by omega
          clear h8 ht
          have HM3 : Hid (Mem w wr [(Cl 8 (fun j => .int .u64 (fnz (Eight.list ⟨h0, h1, h2, h3, h4, h5, h6, h7⟩) j))), (Cl 8 (fun _ => .int .u64 0)), (Cl 64 (fun j => .int .u32 (cubeAt j / 4294967296))), (takes32 cubeAt B ⟨h0, h1, h2, h3, h4, h5, h6, h7⟩ 0).low.cells32]) := HM.out.congr (by
            show [_, _, _, _] = [_, _, _, _]
            congr 4)
          clear HM
          go_wp2
          rw [show ((8 : Nat) : Int) = 8 from rfl]
          go_loopw [9] (fun v wr => ∃ i : Nat, i ≤ m ∧ v = .int .i64 ((64 * i : Nat) : Int) ∧ Hid (Mem w wr [(Cl 8 (fun j => .int .u64 (fnz (Eight.list ⟨h0, h1, h2, h3, h4, h5, h6, h7⟩) j))), (Cl 8 (fun _ => .int .u64 0)), (Cl 64 (fun j => .int .u32 (cubeAt j / 4294967296))), (takes32 cubeAt B ⟨h0, h1, h2, h3, h4, h5, h6, h7⟩ i).low.cells32])) (fun v _ => n - (intOf v).toNat)
          case atStart => exact ⟨0, by omega, rfl, HM3⟩
          case round =>
            obtain ⟨i, hi, rfl, HM⟩ := hrel
            clear HM3
            obtain ⟨q, hq⟩ : ∃ q, q = 64 * i := ⟨_, rfl⟩
            obtain ⟨E, HE⟩ : ∃ E : Eight, Hid (E = (takes32 cubeAt B ⟨h0, h1, h2, h3, h4, h5, h6, h7⟩ i).low) := ⟨_, rfl⟩
            rw [← HE.out] at HM
            rw [← hq]
            have HQ : Hid (q = 64 * i) := hq
            clear hq
            by_cases hlt : i < m
            · have hqn : q < n := by have := HQ.out; have := HN.out; omega
              have hq64 : IntKind.i64.wrap ((q : Int) + 64) = (q : Int) + 64 := by
                have := HQ.out; have := HN.out
                rw [IntKind.wrap_i64]
                omega
              have HSl : Hid (∀ u, (Instr.slice 23 (.slice (some ⟨b, p, none⟩) n cap) (some (.int .i64 (q : Nat))) (some (.int .i64 ((q : Int) + 64))) none).run Tryd.prog u = .ok (.slice (some ⟨b, p + q, none⟩) 64 (cap - q)) u) := fun u => slice22 u b p n cap q 64 64 rfl (by omega) (by have := HQ.out; have := HN.out; omega)
              obtain ⟨E2, HE2⟩ : ∃ E2 : Eight, Hid (E2 = takes32 cubeAt B ⟨h0, h1, h2, h3, h4, h5, h6, h7⟩ (i + 1)) := ⟨_, rfl⟩
              have HCall : Hid (∀ u, Below wr.heap.size wr u → Calls Tryd.prog 58 #[.agg E.cells32.toArray, .slice (some ⟨b, p + q, none⟩) 64 (cap - q), .agg (Cl 64 (fun j => .int .u32 (cubeAt j / 4294967296))).toArray] u fun e w' => e = .returned (.agg E2.cells32.toArray) ∧ Below wr.heap.size wr w') := fun u hu => by
                have hbu : b < wr.heap.size := Nat.lt_of_lt_of_le hbw HM.out.below.size
                refine (taken32_walk E.a E.b E.c E.d E.e E.f E.g E.k (Cl 64 (fun j => .int .u32 (cubeAt j / 4294967296))).toArray cubeAt (fun j => B (64 * i + j)) b (p + q) (cap - q) u (fun t ht => by rw [List.getElem?_toArray]; exact Cl_at _ _ t ht) (by have := HQ.out; have := HN.out; omega) (by omega) (fun j hj => ?_)).mono fun e w' h => ⟨?_, hu.trans (h.2.mono hu.size)⟩
                · rw [hu.cell hbu, HM.out.below.cell hbw, Nat.add_assoc, HB.out (q + j) (by have := HQ.out; have := HN.out; omega), HQ.out]
                · rw [h.1, HE2.out]
                  have e1 : takes32 cubeAt B ⟨h0, h1, h2, h3, h4, h5, h6, h7⟩ (i + 1) = block32 cubeAt (fun j => B (64 * i + j)) (takes32 cubeAt B ⟨h0, h1, h2, h3, h4, h5, h6, h7⟩ i) := rfl
                  rw [e1, ← low_block, ← HE.out]
              have hS0 : Below wr.heap.size wr wr.drew := (Below.refl _ _).drew
              clear HE
              go_wp2
              refine wp_region_noPanic ?_
              refine wp_region_till (fun u => Below wr.heap.size wr u) 7 (by kernel_rfl) (by decide) (by decide +kernel) (by decide +kernel) (by decide +kernel) (fun inv => ?_)
              refine till_at 0 38 (.agg (E.cells32).toArray) inv rfl rfl (by decide) (by decide +kernel) (by decide +kernel) (fun _ _ _ h => h) (hS0) (yieldsIf_load_mid (by kernel_rfl) 92 (.tmp 7) rfl (w.heap.size + 3) 0 rfl E.cells32 _ (fun u hu => ((HM.out.later hu).holds 3 _ rfl).1) Tryd.underlying92 rfl size94) (fun inv' => ?_)
              clear inv; have inv := inv'; clear inv'
              simp only [List.setIfInBounds_toArray, List.set_cons_zero, List.set_cons_succ]
              refine till_at 1 39 (.slice (some ⟨b, p, none⟩) n cap) inv rfl rfl (by decide) (by decide +kernel) (by decide +kernel) (fun _ _ _ h => h) (hS0) (Or.inl ⟨by rfl, fun w' hS' => by go_simp⟩) (fun inv' => ?_)
              clear inv; have inv := inv'; clear inv'
              simp only [List.setIfInBounds_toArray, List.set_cons_zero, List.set_cons_succ]
              refine till_at 2 40 (.int .i64 (q : Nat)) inv rfl rfl (by decide) (by decide +kernel) (by decide +kernel) (fun _ _ _ h => h) (hS0) (Or.inl ⟨by rfl, fun w' hS' => by go_simp⟩) (fun inv' => ?_)
              clear inv; have inv := inv'; clear inv'
              simp only [List.setIfInBounds_toArray, List.set_cons_zero, List.set_cons_succ]
              refine till_at 3 41 (.int .i64 (q : Nat)) inv rfl rfl (by decide) (by decide +kernel) (by decide +kernel) (fun _ _ _ h => h) (hS0) (Or.inl ⟨by rfl, fun w' hS' => by go_simp⟩) (fun inv' => ?_)
              clear inv; have inv := inv'; clear inv'
              simp only [List.setIfInBounds_toArray, List.set_cons_zero, List.set_cons_succ]
              refine till_at 4 42 (.int .i64 ((q : Int) + 64)) inv rfl rfl (by decide) (by decide +kernel) (by decide +kernel) (fun _ _ _ h => h) (hS0) (Or.inl ⟨by rfl, fun w' hS' => by go_simp⟩) (fun inv' => ?_)
              clear inv; have inv := inv'; clear inv'
              simp only [List.setIfInBounds_toArray, List.set_cons_zero, List.set_cons_succ]
              refine till_at 5 43 (.slice (some ⟨b, p + q, none⟩) 64 (cap - q)) inv rfl rfl (by decide) (by decide +kernel) (by decide +kernel) (fun _ _ _ h => h) (hS0) (Or.inl ⟨by rfl, fun w' hS' => by have q := HSl.out w'; go_simp⟩) (fun inv' => ?_)
              clear inv; have inv := inv'; clear inv'
              simp only [List.setIfInBounds_toArray, List.set_cons_zero, List.set_cons_succ]
              refine till_at 6 44 (.agg ((Cl 64 (fun j => .int .u32 (cubeAt j / 4294967296)))).toArray) inv rfl rfl (by decide) (by decide +kernel) (by decide +kernel) (fun _ _ _ h => h) (hS0) (yieldsIf_load_mid (by kernel_rfl) 90 (.tmp 5) rfl (w.heap.size + 2) 0 rfl (Cl 64 (fun j => .int .u32 (cubeAt j / 4294967296))) _ (fun u hu => ((HM.out.later hu).holds 2 _ rfl).1) Tryd.underlying90 rfl size92) (fun inv' => ?_)
              clear inv; have inv := inv'; clear inv'
              simp only [List.setIfInBounds_toArray, List.set_cons_zero, List.set_cons_succ]
              refine till_tail (i := 7) (by decide +kernel) (by decide) rfl (fun K hK => ?_)
              go_simp
              refine (HCall.out _ hS0).mono ?_
              rintro e1 w1 ⟨rfl, hw1⟩
              go_wp2_with fail
              refine hK.out _ _ ?_
              clear hK K
              try simp only [List.setIfInBounds_toArray, List.set_cons_zero, List.set_cons_succ]
              refine till_tail (i := 8) (by decide +kernel) (by decide) rfl (fun K hK => ?_)
              rw [if_pos (by rfl)]
              refine wp_store_mid 92 (.tmp 7) (.tmp 45) rfl (w.heap.size + 3) 0 (Eight.cells32 E2).toArray rfl rfl (((HM.out.later hw1).holds 3 _ rfl).2) (size94) (cells32_one _) ?_
              refine hK.out _ _ ?_
              clear hK K
              try simp only [List.setIfInBounds_toArray, List.set_cons_zero, List.set_cons_succ]
              refine till_done (by decide +kernel) ?_ _
              refine NoPanic.normal ?_
              go_wp2
              go_roundw
              case rel =>
                refine ⟨i + 1, by omega, val_eqD (by have := HQ.out; omega), ((HM.out.later hw1).store 3 rfl E2.cells32 rfl).congr ?_⟩
                show [_, _, _, _] = [_, _, _, _]
                have e1 : takes32 cubeAt B ⟨h0, h1, h2, h3, h4, h5, h6, h7⟩ (i + 1) = block32 cubeAt (fun j => B (64 * i + j)) (takes32 cubeAt B ⟨h0, h1, h2, h3, h4, h5, h6, h7⟩ i) := rfl
                rw [HE2.out, e1, low_low]
              case measure => simp [intOf]; omega
            · have hqn : ¬ q < n := by have := HQ.out; have := HN.out; omega
              have him : i = m := by omega
              go_wp2
              go_loopw [10] (fun v wr => ∃ t : Nat, t ≤ 8 ∧ v = .int .i64 t ∧ Hid (Mem w wr [Cl 8 (fun j => .int .u64 (if j < t then fnz E.list j else fnz (Eight.list ⟨h0, h1, h2, h3, h4, h5, h6, h7⟩) j)), (Cl 8 (fun _ => .int .u64 0)), (Cl 64 (fun j => .int .u32 (cubeAt j / 4294967296))), Cl 8 (fun j => .int .u32 (fnz E.list j))])) (fun v _ => 8 - (intOf v).toNat)
              case atStart => exact ⟨0, by omega, rfl, HM⟩
              case round =>
                obtain ⟨t, ht, rfl, HM4⟩ := hrel
                clear HM
                by_cases h8 : t < 8
                · have f0 : wr.cell? ⟨w.heap.size + 3, t, none⟩ = some (.int .u32 (fnz E.list t)) := HM4.out.cell 3 rfl t _ (Cl_at _ _ t h8)
                  have fw : wr.frozen? ⟨w.heap.size, t, none⟩ = false := HM4.out.frozen 0 rfl t (by rw [Cl_length]; exact h8)
                  obtain ⟨u, fu⟩ : ∃ u, wr.cell? ⟨w.heap.size, t, none⟩ = some u := ⟨_, HM4.out.cell 0 rfl t _ (Cl_at _ _ t h8)⟩
                  obtain ⟨x, hx⟩ : ∃ x, Hid (x = fnz E.list t) := ⟨_, rfl⟩
                  rw [← hx.out] at f0
                  have hxw : IntKind.u64.wrap x = x := by
                    rw [IntKind.wrap_u64, hx.out, HE.out, low_at _ t h8]
                    omega
                  go_wp2
                  go_roundw
                  case rel =>
                    refine ⟨t + 1, by omega, by go_num, (HM4.out.put 0 rfl t (by rw [Cl_length]; exact h8) (.int .u64 x)).congr ?_⟩
                    rw [Cl_set]
                    show [_, _, _, _] = [_, _, _, _]
                    congr 1
                    refine Cl_congr fun j hj => ?_
                    by_cases e : j = t
                    · subst e
                      rw [if_pos rfl, if_pos (by omega), hx.out]
                    · rw [if_neg e]
                      by_cases e2 : j < t
                      · rw [if_pos e2, if_pos (by omega)]
                      · rw [if_neg e2, if_neg (by omega)]
                  case measure => simp [intOf]; omega
                · obtain rfl : t = 8 := by omega
                  have HM5 : Hid (Mem w wr [E.cells, (Cl 8 (fun _ => .int .u64 0)), (Cl 64 (fun j => .int .u32 (cubeAt j / 4294967296))), Cl 8 (fun j => .int .u32 (fnz E.list j))]) := HM4.out.congr (by
                    show [_, _, _, _] = [_, _, _, _]
                    congr 1)
                  clear HM4 h8 ht
                  have HY : Hid (wr.there (w.heap.size + 1) 0 E.cells.toArray.size) := (HM5.out.holds 1 _ rfl).2
                  have HR : Hid (wr.rangeAt w.heap.size 0 E.cells) := (HM5.out.holds 0 _ rfl).1
                  go_wp2_with (first
                    | (refine wpList_load_mid (by rfl) 66 (.tmp 2) (by rfl) w.heap.size 0 (by rfl) E.cells _ HR.out Tryd.underlying66 rfl size70 ?_)
                    | (refine wpList_store_mid (by rfl) 66 (.tmp 4) (.tmp 56) (by rfl) (w.heap.size + 1) 0 E.cells.toArray (by rfl) (by rfl) HY.out size70 (cellsE_one E) ?_)
                    | fail)
                  have hl := run_loadVar_mid (P := Tryd.prog) (wr.setCells (w.heap.size + 1) 0 E.cells) (w.heap.size + 1) 0 66 E.cells _ (World.rangeAt_setCells_same wr (w.heap.size + 1) 0 E.cells HY.out) Tryd.underlying66 rfl size70
                  refine bodyPost_ret (v := .agg E.cells.toArray) ?_ rfl ⟨by rw [HE.out, him], below_setCells _ (by omega) _ _ _ HM5.out.below⟩
                  rw [results_cell1D Tryd.results41]
                  simp [Act.put, asAddr, hl]
end Go.Proofs.YtbpkocohddlbhaaDoor
