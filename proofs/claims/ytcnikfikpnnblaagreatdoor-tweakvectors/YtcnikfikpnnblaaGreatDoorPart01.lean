import Derived.Test.YtcnikfikpnnblaaGreatDoorProg
import Derived.WalkKit
import Derived.Laws.BitsLemmas
import Derived.Test.YtcnikfikpnnblaaGreatDoorPart00
import Derived.Deep.Draws
import Derived.Deep.Upon
namespace Go.Proofs.YtcnikfikpnnblaaGreatDoor
open Go.RowKit
/-- The product by x. -/
def dblN (a : Nat) : Nat := Nat.xor (Nat.mod (Nat.mul a 2) 256) (Nat.mul (Nat.div a 128) 27)
/-- Times, k rounds of it. -/
def tmsN : Nat → Nat → Nat → Nat → Nat
  | 0, p, _, _ => p
  | k + 1, p, a, b => tmsN k (Nat.xor p (Nat.mul (Nat.mod b 2) a)) (dblN a) (Nat.div b 2)
theorem dbl_eq : ∀ a : Fin 256, bits .xor .u8 ((a.1 : Int) * 2 % 256) (bits .and .u8 27 (-((a.1 : Int) / 128) % 256)) = (dblN a.1 : Nat) := by decide +kernel
theorem dbl_lt : ∀ a : Fin 256, dblN a.1 < 256 := by decide +kernel
theorem and_one : ∀ b : Fin 256, bits .and .u8 (b.1 : Int) 1 = ((b.1 % 2 : Nat) : Int) := by decide +kernel
theorem and_all : ∀ b : Fin 256, bits .and .u8 (b.1 : Int) 255 = (b.1 : Int) := by decide +kernel
theorem and_none : ∀ b : Fin 256, bits .and .u8 (b.1 : Int) 0 = 0 := by decide +kernel
theorem bits_xor (k : IntKind) (j : Nat) (hj : j ≤ k.bits) (hk : ∀ n : Int, 0 ≤ n → n < 2 ^ j → k.wrap n = n) (a b : Nat) (ha : a < 2 ^ j) (hb : b < 2 ^ j) :
    bits .xor k a b = ((Nat.xor a b : Nat) : Int) := by
  have hp : 2 ^ j ≤ 2 ^ k.bits := Nat.pow_le_pow_right (by decide) hj
  have ha' : a % 2 ^ k.bits = a := Nat.mod_eq_of_lt (Nat.lt_of_lt_of_le ha hp)
  have hb' : b % 2 ^ k.bits = b := Nat.mod_eq_of_lt (Nat.lt_of_lt_of_le hb hp)
  have cast : ∀ n : Nat, n < 2 ^ j → ((n : Nat) : Int) < 2 ^ j := fun n h => by exact_mod_cast h
  simp only [bits, BitVec.ofInt_natCast, BitVec.toNat_xor, BitVec.toNat_ofNat, ha', hb']
  exact hk _ (Int.natCast_nonneg _) (cast _ (Nat.xor_lt_two_pow ha hb))
theorem wraps_i64 (n : Int) (h₀ : 0 ≤ n) (h₁ : n < 2 ^ 63) : IntKind.i64.wrap n = n := by rw [IntKind.wrap_i64]; omega
theorem xor8 (a b : Nat) (ha : a < 256) (hb : b < 256) : bits .xor .u8 (a : Int) b = (Nat.xor a b : Nat) := bits_xor .u8 8 (by decide) wraps_u8 a b ha hb
theorem bit_cases (n : Nat) : Nat.mod n 2 = 0 ∨ Nat.mod n 2 = 1 := by
  have : n % 2 = 0 ∨ n % 2 = 1 := by omega
  exact this
theorem xor_lt8 {a b : Nat} (ha : a < 256) (hb : b < 256) : Nat.xor a b < 256 := Nat.xor_lt_two_pow (n := 8) ha hb
theorem mask_eq (a b : Nat) (ha : a < 256) (hb : b < 256) : bits .and .u8 (a : Int) (-(bits .and .u8 (b : Int) 1) % 256) = (Nat.mul (Nat.mod b 2) a : Nat) := by
  have h1 := and_one ⟨b, hb⟩
  simp only at h1
  rw [h1]
  have : b % 2 = 0 ∨ b % 2 = 1 := by omega
  rcases this with h | h
  · rw [h]
    have := and_none ⟨a, ha⟩
    simp only at this
    have e : Nat.mod b 2 = 0 := h
    rw [e]
    simpa using this
  · rw [h]
    have := and_all ⟨a, ha⟩
    simp only at this
    have e : Nat.mod b 2 = 1 := h
    rw [e]
    simpa using this
theorem ret_int {k : IntKind} {x y : Int} (h : x = y) : Ending.returned (.int k x) = .returned (.int k y) := by rw [h]
theorem val_eq {k : IntKind} {x y : Int} (h : x = y) : Value.int k x = Value.int k y := by rw [h]
theorem dbl_ok (a : Nat) (h : a < 256) (w : World) : Calls Tryz.prog 224 #[.int .u8 a] w fun e w' => e = .returned (.int .u8 (dblN a : Nat)) ∧ w' = w := by
  go_enter Tryz.func224, Tryz.ntmps224
  go_wp2
  go_ret
  exact ⟨ret_int (dbl_eq ⟨a, h⟩), rfl⟩
theorem times_ok (a b : Nat) (ha : a < 256) (hb : b < 256) (w : World) : Calls Tryz.prog 168 #[.int .u8 a, .int .u8 b] w fun e w' => e = .returned (.int .u8 (tmsN 8 0 a b : Nat)) ∧ w' = w := by
  go_enter Tryz.func168, Tryz.ntmps168
  go_wp2
  go_loopw [0, 1, 5, 6] (fun va vb vp i wr => ∃ k x y p : Nat, k ≤ 8 ∧ x < 256 ∧ y < 256 ∧ p < 256 ∧ i = .int .i64 k ∧ va = .int .u8 x ∧ vb = .int .u8 y ∧ vp = .int .u8 p ∧ Hid (tmsN 8 0 a b = tmsN (8 - k) p x y) ∧ wr = w) (fun _ _ _ i _ => 8 - (intOf i).toNat)
  case atStart => exact ⟨0, a, b, 0, by omega, ha, hb, by omega, rfl, rfl, rfl, rfl, rfl, rfl⟩
  case round =>
    obtain ⟨k, x, y, p, hk, hx, hy, hp, rfl, rfl, rfl, rfl, HS, hw⟩ := hrel
    obtain rfl := hw.symm
    by_cases hlt : k < 8
    · go_wp2_with (first | (go_at_call 224; (refine (dbl_ok x hx _).mono ?_); (rintro e1 w1 ⟨rfl, hw1⟩; obtain rfl := hw1.symm)))
      go_roundw
      case rel =>
        have hm : Nat.mul (Nat.mod y 2) x < 256 := by
          have : y % 2 = 0 ∨ y % 2 = 1 := by omega
          rcases this with h | h
          · rw [show Nat.mod y 2 = 0 from h]; simp
          · rw [show Nat.mod y 2 = 1 from h]; simpa using hx
        refine ⟨k + 1, dblN x, y / 2, Nat.xor p (Nat.mul (Nat.mod y 2) x), by omega, dbl_lt ⟨x, hx⟩, by omega, xor_lt8 hp hm, by go_num, rfl, val_eq (by omega), val_eq ?_, ?_, trivial⟩
        · rw [mask_eq x y hx hy, xor8 _ _ hp hm]
        · have := HS.out
          rw [show 8 - k = 8 - (k + 1) + 1 by omega] at this
          exact this
      case measure => simp [intOf]; omega
    · obtain rfl : k = 8 := by omega
      go_wp2
      go_ret
      exact ⟨ret_int (by rw [HS.out]; rfl), rfl⟩
end Go.Proofs.YtcnikfikpnnblaaGreatDoor
namespace Go.Proofs.YtcnikfikpnnblaaGreatDoor
open Go.RowKit

/-- A world that differs in what it drew alone. -/
structure Sm (w w' : World) : Prop where
  os : w'.os = w.os
  tape : w'.tape = w.tape
  output : w'.output = w.output
  heap : w'.heap = w.heap
theorem Sm.refl (w : World) : Sm w w := ⟨rfl, rfl, rfl, rfl⟩
theorem Sm.drewN {w v : World} (h : Sm w v) (m : Nat) : Sm w (v.drewN m) := ⟨h.os, h.tape, h.output, h.heap⟩
theorem Sm.trans {a b c : World} (h : Sm a b) (k : Sm b c) : Sm a c := ⟨k.os.trans h.os, k.tape.trans h.tape, k.output.trans h.output, k.heap.trans h.heap⟩
theorem Sm.cell {w v : World} (h : Sm w v) (p : Addr) : v.cell? p = w.cell? p := World.cell?_of_block (by rw [h.heap])
theorem Sm.frozen {w v : World} (h : Sm w v) (p : Addr) : v.frozen? p = w.frozen? p := World.frozen?_of_block (by rw [h.heap])

theorem setCells_os (b : Nat) : ∀ (vs : List Value) (o : Nat) (w : World), (w.setCells b o vs).os = w.os
  | [], _, _ => rfl
  | v :: r, o, w => by rw [World.setCells, setCells_os b r (o + 1)]; rfl
theorem setCells_tape (b : Nat) : ∀ (vs : List Value) (o : Nat) (w : World), (w.setCells b o vs).tape = w.tape
  | [], _, _ => rfl
  | v :: r, o, w => by rw [World.setCells, setCells_tape b r (o + 1)]; rfl
theorem setCells_output (b : Nat) : ∀ (vs : List Value) (o : Nat) (w : World), (w.setCells b o vs).output = w.output
  | [], _, _ => rfl
  | v :: r, o, w => by rw [World.setCells, setCells_output b r (o + 1)]; rfl

/-- From w to w' nothing of what was there is changed but n cells of block g from o on; what could be written there can be still. -/
structure Touch (w w' : World) (g o n : Nat) : Prop where
  os : w'.os = w.os
  tape : w'.tape = w.tape
  output : w'.output = w.output
  size : w.heap.size ≤ w'.heap.size
  block : ∀ k, k < w.heap.size → k ≠ g → w'.heap[k]? = w.heap[k]?
  cell : ∀ j, (j < o ∨ o + n ≤ j) → w'.cell? ⟨g, j, none⟩ = w.cell? ⟨g, j, none⟩
  there : ∀ o' n', w.there g o' n' → w'.there g o' n'

theorem Sm.touch {w v : World} (h : Sm w v) (g o n : Nat) : Touch w v g o n :=
  ⟨h.os, h.tape, h.output, by rw [h.heap]; exact Nat.le_refl _, fun k _ _ => by rw [h.heap], fun j _ => h.cell _, fun o' n' ht j hj => by rw [h.cell, h.frozen]; exact ht j hj⟩
theorem Touch.refl (w : World) (g o n : Nat) : Touch w w g o n := (Sm.refl w).touch g o n
theorem Touch.trans {a b c : World} {g o n : Nat} (h : Touch a b g o n) (k : Touch b c g o n) : Touch a c g o n :=
  ⟨k.os.trans h.os, k.tape.trans h.tape, k.output.trans h.output, Nat.le_trans h.size k.size, fun i hi hne => (k.block i (Nat.lt_of_lt_of_le hi h.size) hne).trans (h.block i hi hne), fun j hj => (k.cell j hj).trans (h.cell j hj), fun o' n' ht => k.there o' n' (h.there o' n' ht)⟩
theorem Touch.mono {a b : World} {g o n : Nat} (h : Touch a b g o n) (o' n' : Nat) (h1 : o' ≤ o) (h2 : o + n ≤ o' + n') : Touch a b g o' n' :=
  ⟨h.os, h.tape, h.output, h.size, h.block, fun j hj => h.cell j (by omega), h.there⟩
theorem Touch.setCells {a b : World} {g o n : Nat} (h : Touch a b g o n) (o' : Nat) (vs : List Value) (h1 : o ≤ o') (h2 : o' + vs.length ≤ o + n) : Touch a (b.setCells g o' vs) g o n := by
  refine h.trans ⟨?_, ?_, ?_, ?_, ?_, ?_, ?_⟩
  · exact setCells_os g vs o' b
  · exact setCells_tape g vs o' b
  · exact setCells_output g vs o' b
  · rw [sizeB_setCells]; exact Nat.le_refl _
  · intro k hk hne
    exact World.heap_setCells_other b g o' vs hk hne
  · intro j hj
    exact World.cell?_setCells_out g vs o' b ⟨g, j, none⟩ (fun _ _ => by rcases hj with h | h; exact .inl (by show j < o'; omega); exact .inr (by show o' + vs.length ≤ j; omega))
  · intro o2 n2 ht
    exact World.there_setCells ht g o' vs
theorem Touch.setCell {a b : World} {g o n : Nat} (h : Touch a b g o n) (j : Nat) (u : Value) (h1 : o ≤ j) (h2 : j < o + n) : Touch a (b.setCell ⟨g, j, none⟩ u) g o n :=
  h.setCells j [u] h1 (by simp; omega)
theorem Touch.alloc {a b : World} {g o n : Nat} (h : Touch a b g o n) (ob : Obj) (hg : g < a.heap.size) : Touch a (b.alloc ob) g o n := by
  have hs := h.size
  refine h.trans ⟨rfl, rfl, rfl, by simp, ?_, ?_, ?_⟩
  · intro k hk _
    exact Below.heap_alloc b ob k hk
  · intro j _
    exact World.cell?_alloc_past ob g j (by omega)
  · intro o' n' ht
    exact World.there_alloc ht ob
theorem Touch.drew {a b : World} {g o n : Nat} (h : Touch a b g o n) : Touch a b.drew g o n := ⟨h.os, h.tape, h.output, h.size, h.block, h.cell, h.there⟩
theorem Touch.drewN {a b : World} {g o n : Nat} (h : Touch a b g o n) (m : Nat) : Touch a (b.drewN m) g o n := ⟨h.os, h.tape, h.output, h.size, h.block, h.cell, h.there⟩
/-- What only makes new blocks touches nothing. -/
theorem Touch.below {a b c : World} {g o n : Nat} (h : Touch a b g o n) (k : Below b.heap.size b c) (hg : g < a.heap.size) : Touch a c g o n := by
  have hs := h.size
  refine h.trans ⟨k.os, k.tape, k.output, k.size, fun i hi _ => k.block i hi, fun j _ => k.cell (p := ⟨g, j, none⟩) (show g < _ by omega), ?_⟩
  intro o' n' ht j hj
  rw [k.cell (p := ⟨g, o' + j, none⟩) (show g < _ by omega), k.frozen (p := ⟨g, o' + j, none⟩) (show g < _ by omega)]
  exact ht j hj
theorem Touch.toBelow {a b : World} {g o n B : Nat} (h : Touch a b g o n) (hg : B ≤ g) (hB : B ≤ a.heap.size) : Below B a b :=
  ⟨h.os, h.tape, h.output, h.size, fun k hk => h.block k (by omega) (by omega)⟩
theorem Touch.far {a b : World} {g o n : Nat} (h : Touch a b g o n) {p : Addr} (hp : p.block < a.heap.size) (hne : p.block ≠ g) : b.cell? p = a.cell? p := World.cell?_of_block (h.block p.block hp hne)
theorem Touch.farFrozen {a b : World} {g o n : Nat} (h : Touch a b g o n) {p : Addr} (hp : p.block < a.heap.size) (hne : p.block ≠ g) : b.frozen? p = a.frozen? p := World.frozen?_of_block (h.block p.block hp hne)
end Go.Proofs.YtcnikfikpnnblaaGreatDoor
namespace Go.Proofs.YtcnikfikpnnblaaGreatDoor
open Go.RowKit

theorem View.kept {w w' : World} {v : Value} {zs : List Int} (h : View w v zs) (hb : ∀ k, k < w.heap.size → w'.heap[k]? = w.heap[k]?) : View w' v zs := by
  obtain ⟨a, c, rfl, h1, h2, h3, h4⟩ := h
  refine ⟨a, c, rfl, h1, h2, h3, ?_⟩
  rcases h4 with h4 | ⟨b, off, rfl, hc⟩
  · exact .inl h4
  · refine .inr ⟨b, off, rfl, fun i hi => ?_⟩
    have := hc i hi
    have hlt := World.block_lt_of_cell? w _ this
    rw [World.cell?_of_block (w := w) (hb b hlt)]
    exact this

/-- A copy with marks behind it, in memory from block B on. -/
def Marked (B : Nat) (w : World) (v : Value) (zs : List Int) : Prop :=
  ∃ g c, v = .slice (some ⟨g, 0, none⟩) zs.length c ∧ w.ownsRow B 5 1 (.slice (some ⟨g, 0, none⟩) (zs.length + 70) c) (zs.length + 70) (cellsU8 (zs ++ marks 70))

theorem Marked.kept {B : Nat} {w w' : World} {v : Value} {zs : List Int} (h : Marked B w v zs) (hb : ∀ k, k < w.heap.size → w'.heap[k]? = w.heap[k]?) : Marked B w' v zs := by
  obtain ⟨g, c, rfl, hl, h⟩ := h
  refine ⟨g, c, rfl, hl, ?_⟩
  rcases h with ⟨h, _⟩ | ⟨g', c', cur, he, h1, h2, r⟩
  · cases h
  · refine .inr ⟨g', c', cur, he, h1, ?_, r⟩
    rw [hb g' (Array.getElem?_eq_some_iff.1 h2).1]
    exact h2

theorem Marked.cells {B : Nat} {w : World} {v : Value} {zs : List Int} (h : Marked B w v zs) :
    ∃ g c, v = .slice (some ⟨g, 0, none⟩) zs.length c ∧ zs.length + 70 ≤ c ∧ c ≤ maxLen ∧ (∀ i, i < zs.length → w.cell? ⟨g, i, none⟩ = some (.int .u8 (zs.getD i 0))) ∧ (∀ i, i < 70 → w.cell? ⟨g, zs.length + i, none⟩ = some (.int .u8 (181 + (i : Int)))) := by
  obtain ⟨g, c, rfl, ho⟩ := h
  have hc := ho.cells (g := g) rfl
  refine ⟨g, c, rfl, ?_, ?_, fun i hi => ?_, fun i hi => ?_⟩
  · rcases ho.2 with ⟨h, _⟩ | ⟨g', c', cur, he, _, _, h1, _⟩
    · cases h
    · cases he; exact h1
  · rcases ho.2 with ⟨h, _⟩ | ⟨g', c', cur, he, _, _, _, h1, _⟩
    · cases h
    · cases he; exact h1
  · have := hc i (.int .u8 (zs.getD i 0)) (by
      simp only [cellsU8, List.getElem?_map]
      rw [List.getElem?_append_left hi]
      simp [List.getElem?_eq_getElem hi, List.getD])
    rw [Addr.add_lit] at this
    simpa using this
  · have := hc (zs.length + i) (.int .u8 (181 + (i : Int))) (by
      simp only [cellsU8, List.getElem?_map]
      rw [List.getElem?_append_right (by omega)]
      simp [marks, hi])
    rw [Addr.add_lit] at this
    simpa using this

theorem Marked.view {B : Nat} {w : World} {v : Value} {zs : List Int} (h : Marked B w v zs) : View w v zs := by
  obtain ⟨g, c, rfl, h1, h2, h3, _⟩ := h.cells
  refine ⟨_, c, rfl, by omega, h2, ?_, Or.inr ⟨g, 0, rfl, fun i hi => by simpa using h3 i hi⟩⟩
  intro h
  cases h

end Go.Proofs.YtcnikfikpnnblaaGreatDoor
namespace Go.Proofs.YtcnikfikpnnblaaGreatDoor.Dg
open Go.RowKit

/-- A world that differs in what it drew alone. -/
structure Sm (w w' : World) : Prop where
  os : w'.os = w.os
  tape : w'.tape = w.tape
  output : w'.output = w.output
  heap : w'.heap = w.heap
theorem Sm.refl (w : World) : Sm w w := ⟨rfl, rfl, rfl, rfl⟩
theorem Sm.drewN {w v : World} (h : Sm w v) (m : Nat) : Sm w (v.drewN m) := ⟨h.os, h.tape, h.output, h.heap⟩
theorem Sm.trans {a b c : World} (h : Sm a b) (k : Sm b c) : Sm a c := ⟨k.os.trans h.os, k.tape.trans h.tape, k.output.trans h.output, k.heap.trans h.heap⟩
theorem Sm.cell {w v : World} (h : Sm w v) (p : Addr) : v.cell? p = w.cell? p := World.cell?_of_block (by rw [h.heap])
theorem Sm.frozen {w v : World} (h : Sm w v) (p : Addr) : v.frozen? p = w.frozen? p := World.frozen?_of_block (by rw [h.heap])

theorem setCells_os (b : Nat) : ∀ (vs : List Value) (o : Nat) (w : World), (w.setCells b o vs).os = w.os
  | [], _, _ => rfl
  | v :: r, o, w => by rw [World.setCells, setCells_os b r (o + 1)]; rfl
theorem setCells_tape (b : Nat) : ∀ (vs : List Value) (o : Nat) (w : World), (w.setCells b o vs).tape = w.tape
  | [], _, _ => rfl
  | v :: r, o, w => by rw [World.setCells, setCells_tape b r (o + 1)]; rfl
theorem setCells_output (b : Nat) : ∀ (vs : List Value) (o : Nat) (w : World), (w.setCells b o vs).output = w.output
  | [], _, _ => rfl
  | v :: r, o, w => by rw [World.setCells, setCells_output b r (o + 1)]; rfl

/-- From w to w' nothing of what was there is changed but n cells of block g from o on; what could be written there can be still. -/
structure Touch (w w' : World) (g o n : Nat) : Prop where
  os : w'.os = w.os
  tape : w'.tape = w.tape
  output : w'.output = w.output
  size : w.heap.size ≤ w'.heap.size
  block : ∀ k, k < w.heap.size → k ≠ g → w'.heap[k]? = w.heap[k]?
  cell : ∀ j, (j < o ∨ o + n ≤ j) → w'.cell? ⟨g, j, none⟩ = w.cell? ⟨g, j, none⟩
  there : ∀ o' n', w.there g o' n' → w'.there g o' n'

theorem Sm.touch {w v : World} (h : Sm w v) (g o n : Nat) : Touch w v g o n :=
  ⟨h.os, h.tape, h.output, by rw [h.heap]; exact Nat.le_refl _, fun k _ _ => by rw [h.heap], fun j _ => h.cell _, fun o' n' ht j hj => by rw [h.cell, h.frozen]; exact ht j hj⟩
theorem Touch.refl (w : World) (g o n : Nat) : Touch w w g o n := (Sm.refl w).touch g o n
theorem Touch.trans {a b c : World} {g o n : Nat} (h : Touch a b g o n) (k : Touch b c g o n) : Touch a c g o n :=
  ⟨k.os.trans h.os, k.tape.trans h.tape, k.output.trans h.output, Nat.le_trans h.size k.size, fun i hi hne => (k.block i (Nat.lt_of_lt_of_le hi h.size) hne).trans (h.block i hi hne), fun j hj => (k.cell j hj).trans (h.cell j hj), fun o' n' ht => k.there o' n' (h.there o' n' ht)⟩
theorem Touch.mono {a b : World} {g o n : Nat} (h : Touch a b g o n) (o' n' : Nat) (h1 : o' ≤ o) (h2 : o + n ≤ o' + n') : Touch a b g o' n' :=
  ⟨h.os, h.tape, h.output, h.size, h.block, fun j hj => h.cell j (by omega), h.there⟩
theorem Touch.setCells {a b : World} {g o n : Nat} (h : Touch a b g o n) (o' : Nat) (vs : List Value) (h1 : o ≤ o') (h2 : o' + vs.length ≤ o + n) : Touch a (b.setCells g o' vs) g o n := by
  refine h.trans ⟨?_, ?_, ?_, ?_, ?_, ?_, ?_⟩
  · exact setCells_os g vs o' b
  · exact setCells_tape g vs o' b
  · exact setCells_output g vs o' b
  · rw [size_setCells]; exact Nat.le_refl _
  · intro k hk hne
    exact World.heap_setCells_other b g o' vs hk hne
  · intro j hj
    exact World.cell?_setCells_out g vs o' b ⟨g, j, none⟩ (fun _ _ => by rcases hj with h | h; exact .inl (by show j < o'; omega); exact .inr (by show o' + vs.length ≤ j; omega))
  · intro o2 n2 ht
    exact World.there_setCells ht g o' vs
theorem Touch.setCell {a b : World} {g o n : Nat} (h : Touch a b g o n) (j : Nat) (u : Value) (h1 : o ≤ j) (h2 : j < o + n) : Touch a (b.setCell ⟨g, j, none⟩ u) g o n :=
  h.setCells j [u] h1 (by simp; omega)
theorem Touch.alloc {a b : World} {g o n : Nat} (h : Touch a b g o n) (ob : Obj) (hg : g < a.heap.size) : Touch a (b.alloc ob) g o n := by
  have hs := h.size
  refine h.trans ⟨rfl, rfl, rfl, by simp, ?_, ?_, ?_⟩
  · intro k hk _
    exact Below.heap_alloc b ob k hk
  · intro j _
    exact World.cell?_alloc_past ob g j (by omega)
  · intro o' n' ht
    exact World.there_alloc ht ob
theorem Touch.drew {a b : World} {g o n : Nat} (h : Touch a b g o n) : Touch a b.drew g o n := ⟨h.os, h.tape, h.output, h.size, h.block, h.cell, h.there⟩
theorem Touch.drewN {a b : World} {g o n : Nat} (h : Touch a b g o n) (m : Nat) : Touch a (b.drewN m) g o n := ⟨h.os, h.tape, h.output, h.size, h.block, h.cell, h.there⟩
/-- What only makes new blocks touches nothing. -/
theorem Touch.below {a b c : World} {g o n : Nat} (h : Touch a b g o n) (k : Below b.heap.size b c) (hg : g < a.heap.size) : Touch a c g o n := by
  have hs := h.size
  refine h.trans ⟨k.os, k.tape, k.output, k.size, fun i hi _ => k.block i hi, fun j _ => k.cell (p := ⟨g, j, none⟩) (show g < _ by omega), ?_⟩
  intro o' n' ht j hj
  rw [k.cell (p := ⟨g, o' + j, none⟩) (show g < _ by omega), k.frozen (p := ⟨g, o' + j, none⟩) (show g < _ by omega)]
  exact ht j hj
theorem Touch.toBelow {a b : World} {g o n B : Nat} (h : Touch a b g o n) (hg : B ≤ g) (hB : B ≤ a.heap.size) : Below B a b :=
  ⟨h.os, h.tape, h.output, h.size, fun k hk => h.block k (by omega) (by omega)⟩
theorem Touch.far {a b : World} {g o n : Nat} (h : Touch a b g o n) {p : Addr} (hp : p.block < a.heap.size) (hne : p.block ≠ g) : b.cell? p = a.cell? p := World.cell?_of_block (h.block p.block hp hne)
theorem Touch.farFrozen {a b : World} {g o n : Nat} (h : Touch a b g o n) {p : Addr} (hp : p.block < a.heap.size) (hne : p.block ≠ g) : b.frozen? p = a.frozen? p := World.frozen?_of_block (h.block p.block hp hne)
end Go.Proofs.YtcnikfikpnnblaaGreatDoor.Dg
namespace Go.Proofs.YtcnikfikpnnblaaGreatDoor.Dg
open Go.RowKit

theorem View.kept {w w' : World} {v : Value} {zs : List Int} (h : View w v zs) (hb : ∀ k, k < w.heap.size → w'.heap[k]? = w.heap[k]?) : View w' v zs := by
  obtain ⟨a, c, rfl, h1, h2, h3, h4⟩ := h
  refine ⟨a, c, rfl, h1, h2, h3, ?_⟩
  rcases h4 with h4 | ⟨b, off, rfl, hc⟩
  · exact .inl h4
  · refine .inr ⟨b, off, rfl, fun i hi => ?_⟩
    have := hc i hi
    have hlt := World.block_lt_of_cell? w _ this
    rw [World.cell?_of_block (w := w) (hb b hlt)]
    exact this

/-- A copy with marks behind it, in memory from block B on. -/
def Marked (B : Nat) (w : World) (v : Value) (zs : List Int) : Prop :=
  ∃ g c, v = .slice (some ⟨g, 0, none⟩) zs.length c ∧ w.ownsRow B 5 1 (.slice (some ⟨g, 0, none⟩) (zs.length + 70) c) (zs.length + 70) (cellsU8 (zs ++ marks 70))

theorem Marked.kept {B : Nat} {w w' : World} {v : Value} {zs : List Int} (h : Marked B w v zs) (hb : ∀ k, k < w.heap.size → w'.heap[k]? = w.heap[k]?) : Marked B w' v zs := by
  obtain ⟨g, c, rfl, hl, h⟩ := h
  refine ⟨g, c, rfl, hl, ?_⟩
  rcases h with ⟨h, _⟩ | ⟨g', c', cur, he, h1, h2, r⟩
  · cases h
  · refine .inr ⟨g', c', cur, he, h1, ?_, r⟩
    rw [hb g' (Array.getElem?_eq_some_iff.1 h2).1]
    exact h2

theorem Marked.cells {B : Nat} {w : World} {v : Value} {zs : List Int} (h : Marked B w v zs) :
    ∃ g c, v = .slice (some ⟨g, 0, none⟩) zs.length c ∧ zs.length + 70 ≤ c ∧ c ≤ maxLen ∧ (∀ i, i < zs.length → w.cell? ⟨g, i, none⟩ = some (.int .u8 (zs.getD i 0))) ∧ (∀ i, i < 70 → w.cell? ⟨g, zs.length + i, none⟩ = some (.int .u8 (181 + (i : Int)))) := by
  obtain ⟨g, c, rfl, ho⟩ := h
  have hc := ho.cells (g := g) rfl
  refine ⟨g, c, rfl, ?_, ?_, fun i hi => ?_, fun i hi => ?_⟩
  · rcases ho.2 with ⟨h, _⟩ | ⟨g', c', cur, he, _, _, h1, _⟩
    · cases h
    · cases he; exact h1
  · rcases ho.2 with ⟨h, _⟩ | ⟨g', c', cur, he, _, _, _, h1, _⟩
    · cases h
    · cases he; exact h1
  · have := hc i (.int .u8 (zs.getD i 0)) (by
      simp only [cellsU8, List.getElem?_map]
      rw [List.getElem?_append_left hi]
      simp [List.getElem?_eq_getElem hi, List.getD])
    rw [Addr.add_lit] at this
    simpa using this
  · have := hc (zs.length + i) (.int .u8 (181 + (i : Int))) (by
      simp only [cellsU8, List.getElem?_map]
      rw [List.getElem?_append_right (by omega)]
      simp [marks, hi])
    rw [Addr.add_lit] at this
    simpa using this

theorem Marked.view {B : Nat} {w : World} {v : Value} {zs : List Int} (h : Marked B w v zs) : View w v zs := by
  obtain ⟨g, c, rfl, h1, h2, h3, _⟩ := h.cells
  refine ⟨_, c, rfl, by omega, h2, ?_, Or.inr ⟨g, 0, rfl, fun i hi => by simpa using h3 i hi⟩⟩
  intro h
  cases h

end Go.Proofs.YtcnikfikpnnblaaGreatDoor.Dg
