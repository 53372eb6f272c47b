import Derived.Test.YtgmfiljjogdccabGreatDoorPart01
import Derived.Test.YtgmfiljjogdccabGreatDoorPart00
import Derived.Lib.LazyBuf
namespace Go.Proofs.YtgmfiljjogdccabGreatDoor
open Go.RowKit
def both (a b : Nat) : Bool := Nat.beq (tmsN 8 0 a b) (Nat.mod (refR 7 (refP a b 8)) 256)
set_option maxRecDepth 100000 in
theorem both_all : allB (fun a => allB (both a) 256) 256 = true := by decide +kernel
theorem both_eq (a b : Nat) (ha : a < 256) (hb : b < 256) : Nat.mod (refR 7 (refP a b 8)) 256 = tmsN 8 0 a b := (Nat.eq_of_beq_eq_true (allB_at (allB_at both_all ha) hb)).symm
end Go.Proofs.YtgmfiljjogdccabGreatDoor
namespace Go.Proofs.YtgmfiljjogdccabGreatDoor
open Go.RowKit
set_option linter.unusedVariables false
theorem refTimes (a b : Nat) (ha : a < 256) (hb : b < 256) (w : World) : Calls Tryz.prog 10 #[.int .u8 a, .int .u8 b] w fun e w' => e = .returned (.int .u8 (tmsN 8 0 a b : Nat)) ∧ w' = w := by
 rw [← both_eq a b ha hb]
 exact refTimes_ok a b ha hb w
theorem times_lt {a b : Nat} (ha : a < 256) (hb : b < 256) : tmsN 8 0 a b < 256 := tms_lt 8 0 a b (by decide) ha hb
theorem times_ex (a b : Nat) (ha : a < 256) (hb : b < 256) (w : World) : Calls Tryz.prog 63 #[.int .u8 a, .int .u8 b] w fun e w' => ∃ y : Nat, y < 256 ∧ Hid (y = tmsN 8 0 a b) ∧ e = .returned (.int .u8 y) ∧ w' = w :=
 (times_ok a b ha hb w).mono fun e w' ⟨h1, h2⟩ => ⟨_, times_lt ha hb, rfl, h1, h2⟩
theorem refTimes_ex (a b : Nat) (ha : a < 256) (hb : b < 256) (w : World) : Calls Tryz.prog 10 #[.int .u8 a, .int .u8 b] w fun e w' => ∃ y : Nat, y < 256 ∧ Hid (y = tmsN 8 0 a b) ∧ e = .returned (.int .u8 y) ∧ w' = w :=
 (refTimes a b ha hb w).mono fun e w' ⟨h1, h2⟩ => ⟨_, times_lt ha hb, rfl, h1, h2⟩
theorem rot8_core (x k s : Int) (w : World) (hb : bits .and .u64 (IntKind.u64.wrap k) 7 = s) (h0 : 0 ≤ s) (h1 : s ≤ 8) (h2 : IntKind.u64.wrap (8 - s) = 8 - s) : Calls Tryz.prog 92 #[.int .u8 x, .int .i64 k] w fun e w' => e = .returned (.int .u8 (bits .or .u8 (x * 2 ^ s.toNat % 256) (x / 2 ^ (8 - s).toNat))) ∧ w' = w := by
 have h3 : 0 ≤ 8 - s := by omega
 go_enter Tryz.func92, Tryz.ntmps92
 go_wp2
 go_ret
 exact ⟨rfl, rfl⟩
def rotN (x s : Nat) : Nat := Nat.lor (Nat.mod (Nat.mul x (Nat.pow 2 s)) 256) (Nat.div x (Nat.pow 2 (Nat.sub 8 s)))
theorem rot_all : ∀ x : Fin 256, ∀ s : Fin 8, bits .or .u8 ((x.1 : Int) * 2 ^ s.1 % 256) ((x.1 : Int) / 2 ^ (8 - s.1)) = (rotN x.1 s.1 : Nat) := by decide +kernel
theorem rot_k : ∀ s : Fin 8, bits .and .u64 (IntKind.u64.wrap (s.1 : Int)) 7 = (s.1 : Int) ∧ IntKind.u64.wrap (8 - (s.1 : Int)) = 8 - (s.1 : Int) := by decide +kernel
theorem rot_lt : ∀ x : Fin 256, ∀ s : Fin 8, rotN x.1 s.1 < 256 := by decide +kernel
theorem rot8 {x : Nat} {w : World} (s : Nat) (hx : x < 256) (hs : s < 8) : Calls Tryz.prog 92 #[.int .u8 x, .int .i64 s] w fun e w' => e = .returned (.int .u8 (rotN x s : Nat)) ∧ w' = w := by
 have h := rot8_core x s s w (rot_k ⟨s, hs⟩).1 (by omega) (by omega) (rot_k ⟨s, hs⟩).2
 have e : bits .or .u8 ((x : Int) * 2 ^ (s : Int).toNat % 256) ((x : Int) / 2 ^ (8 - (s : Int)).toNat) = (rotN x s : Nat) := by
  rw [show (8 - (s : Int)).toNat = 8 - s by omega, show (s : Int).toNat = s by omega]
  exact rot_all ⟨x, hx⟩ ⟨s, hs⟩
 rw [e] at h
 exact h
theorem rot_ex {x : Nat} {w : World} (s : Nat) (hx : x < 256) (hs : s < 8) : Calls Tryz.prog 92 #[.int .u8 x, .int .i64 s] w fun e w' => ∃ y : Nat, Hid (y = rotN x s) ∧ e = .returned (.int .u8 y) ∧ w' = w :=
 (rot8 s hx hs).mono fun e w' ⟨h1, h2⟩ => ⟨_, rfl, h1, h2⟩
def sprN (y : Nat) : Nat := Nat.xor (Nat.xor (Nat.xor (Nat.xor (Nat.xor y (rotN y 1)) (rotN y 2)) (rotN y 3)) (rotN y 4)) 99
def gatN (y : Nat) : Nat := Nat.xor (Nat.xor (Nat.xor (rotN y 1) (rotN y 3)) (rotN y 6)) 5
theorem spr_all : ∀ y : Fin 256, bits .xor .u8 (bits .xor .u8 (bits .xor .u8 (bits .xor .u8 (bits .xor .u8 (y.1 : Int) (rotN y.1 1 : Nat)) (rotN y.1 2 : Nat)) (rotN y.1 3 : Nat)) (rotN y.1 4 : Nat)) 99 = (sprN y.1 : Nat) := by decide +kernel
theorem gat_all : ∀ y : Fin 256, bits .xor .u8 (bits .xor .u8 (bits .xor .u8 (rotN y.1 1 : Nat) (rotN y.1 3 : Nat)) (rotN y.1 6 : Nat)) 5 = (gatN y.1 : Nat) := by decide +kernel
theorem spr_lt : ∀ y : Fin 256, sprN y.1 < 256 := by decide +kernel
theorem gat_lt : ∀ y : Fin 256, gatN y.1 < 256 := by decide +kernel
theorem spread_ok (y : Nat) (hy : y < 256) (w : World) : Calls Tryz.prog 62 #[.int .u8 y] w fun e w' => ∃ z : Nat, z < 256 ∧ Hid (z = sprN y) ∧ e = .returned (.int .u8 z) ∧ w' = w := by
 go_enter Tryz.func62, Tryz.ntmps62
 go_wp2_with (first | (go_at_call 92; (refine (rot_ex 1 hy (by decide)).mono ?_)))
 rintro e1 w1 ⟨y1, H1, rfl, hw1⟩
 obtain rfl := hw1.symm
 go_wp2_with (first | (go_at_call 92; (refine (rot_ex 2 hy (by decide)).mono ?_)))
 rintro e1 w1 ⟨y2, H2, rfl, hw1⟩
 obtain rfl := hw1.symm
 go_wp2_with (first | (go_at_call 92; (refine (rot_ex 3 hy (by decide)).mono ?_)))
 rintro e1 w1 ⟨y3, H3, rfl, hw1⟩
 obtain rfl := hw1.symm
 go_wp2_with (first | (go_at_call 92; (refine (rot_ex 4 hy (by decide)).mono ?_)))
 rintro e1 w1 ⟨y4, H4, rfl, hw1⟩
 obtain rfl := hw1.symm
 go_wp2
 go_ret
 refine ⟨sprN y, spr_lt ⟨y, hy⟩, rfl, ret_int ?_, rfl⟩
 rw [H1.out, H2.out, H3.out, H4.out]
 exact spr_all ⟨y, hy⟩
def bitN (y i : Nat) : Nat := Nat.mod (Nat.xor (Nat.xor (Nat.xor (Nat.xor (Nat.xor (y / 2 ^ i) (y / 2 ^ ((i + 4) % 8))) (y / 2 ^ ((i + 5) % 8))) (y / 2 ^ ((i + 6) % 8))) (y / 2 ^ ((i + 7) % 8))) (99 / 2 ^ i)) 2
def sumN (y : Nat) : Nat → Nat
 | 0 => 0
 | i + 1 => sumN y i + bitN y i * 2 ^ i
theorem sum_spr : ∀ y : Fin 256, sumN y.1 8 = sprN y.1 := by decide +kernel
theorem bit_step0 : ∀ y : Fin 256, wrap64 ((sumN y.1 0 : Nat) + wrap64 ((bits .xor .i64 (bits .xor .i64 (bits .xor .i64 (bits .xor .i64 (bits .xor .i64 (y.1 : Int) ((y.1 : Int) / 16)) ((y.1 : Int) / 32)) ((y.1 : Int) / 64)) ((y.1 : Int) / 128)) 99).tmod 2)) = (sumN y.1 1 : Nat) := by decide +kernel
theorem bit_step1 : ∀ y : Fin 256, wrap64 ((sumN y.1 1 : Nat) + wrap64 ((bits .xor .i64 (bits .xor .i64 (bits .xor .i64 (bits .xor .i64 (bits .xor .i64 ((y.1 : Int) / 2) ((y.1 : Int) / 32)) ((y.1 : Int) / 64)) ((y.1 : Int) / 128)) (y.1 : Int)) 49).tmod 2 * 2)) = (sumN y.1 2 : Nat) := by decide +kernel
theorem bit_step2 : ∀ y : Fin 256, wrap64 ((sumN y.1 2 : Nat) + wrap64 ((bits .xor .i64 (bits .xor .i64 (bits .xor .i64 (bits .xor .i64 (bits .xor .i64 ((y.1 : Int) / 4) ((y.1 : Int) / 64)) ((y.1 : Int) / 128)) (y.1 : Int)) ((y.1 : Int) / 2)) 24).tmod 2 * 4)) = (sumN y.1 3 : Nat) := by decide +kernel
theorem bit_step3 : ∀ y : Fin 256, wrap64 ((sumN y.1 3 : Nat) + wrap64 ((bits .xor .i64 (bits .xor .i64 (bits .xor .i64 (bits .xor .i64 (bits .xor .i64 ((y.1 : Int) / 8) ((y.1 : Int) / 128)) (y.1 : Int)) ((y.1 : Int) / 2)) ((y.1 : Int) / 4)) 12).tmod 2 * 8)) = (sumN y.1 4 : Nat) := by decide +kernel
theorem bit_step4 : ∀ y : Fin 256, wrap64 ((sumN y.1 4 : Nat) + wrap64 ((bits .xor .i64 (bits .xor .i64 (bits .xor .i64 (bits .xor .i64 (bits .xor .i64 ((y.1 : Int) / 16) (y.1 : Int)) ((y.1 : Int) / 2)) ((y.1 : Int) / 4)) ((y.1 : Int) / 8)) 6).tmod 2 * 16)) = (sumN y.1 5 : Nat) := by decide +kernel
theorem bit_step5 : ∀ y : Fin 256, wrap64 ((sumN y.1 5 : Nat) + wrap64 ((bits .xor .i64 (bits .xor .i64 (bits .xor .i64 (bits .xor .i64 (bits .xor .i64 ((y.1 : Int) / 32) ((y.1 : Int) / 2)) ((y.1 : Int) / 4)) ((y.1 : Int) / 8)) ((y.1 : Int) / 16)) 3).tmod 2 * 32)) = (sumN y.1 6 : Nat) := by decide +kernel
theorem bit_step6 : ∀ y : Fin 256, wrap64 ((sumN y.1 6 : Nat) + wrap64 ((bits .xor .i64 (bits .xor .i64 (bits .xor .i64 (bits .xor .i64 (bits .xor .i64 ((y.1 : Int) / 64) ((y.1 : Int) / 4)) ((y.1 : Int) / 8)) ((y.1 : Int) / 16)) ((y.1 : Int) / 32)) 1).tmod 2 * 64)) = (sumN y.1 7 : Nat) := by decide +kernel
theorem bit_step7 : ∀ y : Fin 256, wrap64 ((sumN y.1 7 : Nat) + wrap64 ((bits .xor .i64 (bits .xor .i64 (bits .xor .i64 (bits .xor .i64 (bits .xor .i64 ((y.1 : Int) / 128) ((y.1 : Int) / 8)) ((y.1 : Int) / 16)) ((y.1 : Int) / 32)) ((y.1 : Int) / 64)) 0).tmod 2 * 128)) = (sumN y.1 8 : Nat) := by decide +kernel
theorem refBits_ok (y : Nat) (hy : y < 256) (w : World) : Calls Tryz.prog 40 #[.int .i64 y] w fun e w' => ∃ z : Nat, z < 256 ∧ Hid (z = sprN y) ∧ e = .returned (.int .u8 z) ∧ w' = w := by
 go_enter Tryz.func40, Tryz.ntmps40
 go_wp2
 go_loopw [3, 4] (fun vs i wr => ∃ k : Nat, k ≤ 8 ∧ i = .int .i64 k ∧ vs = .int .i64 (sumN y k : Nat) ∧ wr = w) (fun _ i _ => 8 - (intOf i).toNat)
 case atStart => exact ⟨0, by omega, rfl, rfl, rfl⟩
 case round =>
  obtain ⟨k, hk, rfl, rfl, hw⟩ := hrel
  obtain rfl := hw.symm
  have h9 : k = 0 ∨ k = 1 ∨ k = 2 ∨ k = 3 ∨ k = 4 ∨ k = 5 ∨ k = 6 ∨ k = 7 ∨ k = 8 := by omega
  clear hk
  rcases h9 with rfl | rfl | rfl | rfl | rfl | rfl | rfl | rfl | rfl
  ·go_wp2
   exact ⟨⟨1, by omega, rfl, val_eq (bit_step0 ⟨y, hy⟩), trivial⟩, by decide +kernel⟩
  ·go_wp2
   exact ⟨⟨2, by omega, rfl, val_eq (bit_step1 ⟨y, hy⟩), trivial⟩, by decide +kernel⟩
  ·go_wp2
   exact ⟨⟨3, by omega, rfl, val_eq (bit_step2 ⟨y, hy⟩), trivial⟩, by decide +kernel⟩
  ·go_wp2
   exact ⟨⟨4, by omega, rfl, val_eq (bit_step3 ⟨y, hy⟩), trivial⟩, by decide +kernel⟩
  ·go_wp2
   exact ⟨⟨5, by omega, rfl, val_eq (bit_step4 ⟨y, hy⟩), trivial⟩, by decide +kernel⟩
  ·go_wp2
   exact ⟨⟨6, by omega, rfl, val_eq (bit_step5 ⟨y, hy⟩), trivial⟩, by decide +kernel⟩
  ·go_wp2
   exact ⟨⟨7, by omega, rfl, val_eq (bit_step6 ⟨y, hy⟩), trivial⟩, by decide +kernel⟩
  ·go_wp2
   exact ⟨⟨8, by omega, rfl, val_eq (bit_step7 ⟨y, hy⟩), trivial⟩, by decide +kernel⟩
  ·go_wp2
   go_ret
   refine ⟨sprN y, spr_lt ⟨y, hy⟩, rfl, ret_int ?_, rfl⟩
   have h1 := sum_spr ⟨y, hy⟩
   have h2 := spr_lt ⟨y, hy⟩
   simp only at h1 h2
   omega
end Go.Proofs.YtgmfiljjogdccabGreatDoor
namespace Go.Proofs.YtgmfiljjogdccabGreatDoor
open Go.RowKit
set_option linter.unusedVariables false
/-- What checkLength answers: 0 where the length lies within its bounds and is of whole halves. -/
theorem checkLength_ok (n lo hi : Nat) (w : World) (h1 : lo ≤ n) (h2 : n % 8 = 0) (h3 : n ≤ hi) (hh : hi ≤ 1099511627776) :
  Calls Tryz.prog 55 #[.int .i64 (n : Nat), .int .i64 (lo : Nat), .int .i64 (hi : Nat)] w fun e w' => e = .returned (.int .i64 0) ∧ w' = w := by
 have hm : ((n : Nat) : Int) % 8 = 0 := by omega
 go_enter Tryz.func55, Tryz.ntmps55
 go_wp2
 go_ret
 exact ⟨rfl, rfl⟩
end Go.Proofs.YtgmfiljjogdccabGreatDoor
namespace Go.Proofs.YtgmfiljjogdccabGreatDoor
open Go.RowKit

theorem View.kept {w w' : World} {v : Value} {zs : List Int} (h : View w v zs) (hb : ∀ k, k < w.heap.size → w'.heap[k]? = w.heap[k]?) : View w' v zs := by
 obtain ⟨a, c, rfl, h1, h2, h3, h4⟩ := h
 refine ⟨a, c, rfl, h1, h2, h3, ?_⟩
 rcases h4 with h4 | ⟨b, off, rfl, hc⟩
 ·exact .inl h4
 ·refine .inr ⟨b, off, rfl, fun i hi => ?_⟩
  have := hc i hi
  have hlt := World.block_lt_of_cell? w _ this
  rw [World.cell?_of_block (w := w) (hb b hlt)]
  exact this

/-- A copy with marks behind it, in memory from block B on. -/
def Marked (B : Nat) (w : World) (v : Value) (zs : List Int) : Prop :=
 ∃ g c, v = .slice (some ⟨g, 0, none⟩) zs.length c ∧ w.ownsRow B 5 1 (.slice (some ⟨g, 0, none⟩) (zs.length + 70) c) (zs.length + 70) (cellsU8 (zs ++ marks 70))

theorem Marked.kept {B : Nat} {w w' : World} {v : Value} {zs : List Int} (h : Marked B w v zs) (hb : ∀ k, k < w.heap.size → w'.heap[k]? = w.heap[k]?) : Marked B w' v zs := by
 obtain ⟨g, c, rfl, hl, h⟩ := h
 refine ⟨g, c, rfl, hl, ?_⟩
 rcases h with ⟨h, _⟩ | ⟨g', c', cur, he, h1, h2, r⟩
 ·cases h
 ·refine .inr ⟨g', c', cur, he, h1, ?_, r⟩
  rw [hb g' (Array.getElem?_eq_some_iff.1 h2).1]
  exact h2

theorem Marked.cells {B : Nat} {w : World} {v : Value} {zs : List Int} (h : Marked B w v zs) :
  ∃ g c, v = .slice (some ⟨g, 0, none⟩) zs.length c ∧ zs.length + 70 ≤ c ∧ c ≤ maxLen ∧ (∀ i, i < zs.length → w.cell? ⟨g, i, none⟩ = some (.int .u8 (zs.getD i 0))) ∧ (∀ i, i < 70 → w.cell? ⟨g, zs.length + i, none⟩ = some (.int .u8 (181 + (i : Int)))) := by
 obtain ⟨g, c, rfl, ho⟩ := h
 have hc := ho.cells (g := g) rfl
 refine ⟨g, c, rfl, ?_, ?_, fun i hi => ?_, fun i hi => ?_⟩
 ·rcases ho.2 with ⟨h, _⟩ | ⟨g', c', cur, he, _, _, h1, _⟩
  ·cases h
  ·cases he; exact h1
 ·rcases ho.2 with ⟨h, _⟩ | ⟨g', c', cur, he, _, _, _, h1, _⟩
  ·cases h
  ·cases he; exact h1
 ·have := hc i (.int .u8 (zs.getD i 0)) (by
   simp only [cellsU8, List.getElem?_map]
   rw [List.getElem?_append_left hi]
   simp [List.getElem?_eq_getElem hi, List.getD])
  rw [Addr.add_lit] at this
  simpa using this
 ·have := hc (zs.length + i) (.int .u8 (181 + (i : Int))) (by
   simp only [cellsU8, List.getElem?_map]
   rw [List.getElem?_append_right (by omega)]
   simp [marks, hi])
  rw [Addr.add_lit] at this
  simpa using this

theorem Marked.view {B : Nat} {w : World} {v : Value} {zs : List Int} (h : Marked B w v zs) : View w v zs := by
 obtain ⟨g, c, rfl, h1, h2, h3, _⟩ := h.cells
 refine ⟨_, c, rfl, by omega, h2, ?_, Or.inr ⟨g, 0, rfl, fun i hi => by simpa using h3 i hi⟩⟩
 intro h
 cases h

/-- cofferbook.Bytes. -/
theorem copy_any (v : Value) (zs : List Int) (w : World) (hn : zs.length + 70 ≤ 140737488355328) (h : View w v zs) :
  Calls Tryz.prog 11 #[v] w fun e w' => ∃ v', e = .returned v' ∧ Marked w.heap.size w' v' zs ∧ Below w.heap.size w w' := by
 obtain ⟨a, c, rfl, h1, h2, h3, h4⟩ := h
 cases a with
 | none =>
  obtain rfl := h3 rfl
  have hz : zs = [] := List.eq_nil_of_length_eq_zero (by omega)
  subst hz
  refine (copy_nil w).mono ?_
  rintro e w' ⟨g, c, rfl, ho, hb⟩
  exact ⟨_, rfl, ⟨g, c, rfl, by simpa using ho⟩, hb⟩
 | some x =>
  have hc : ∀ j u, (cellsU8 zs)[j]? = some u → w.cell? (x.add j) = some u := by
   rcases h4 with rfl | ⟨b, off, he, hcell⟩
   ·intro j u hu
    simp [cellsU8] at hu
   ·cases he
    exact cellsU8_at zs w b off hcell
  refine (copy_some x zs.length c zs w rfl hn hc).mono ?_
  rintro e w' ⟨g, c, rfl, ho, hb⟩
  exact ⟨_, rfl, ⟨g, c, rfl, ho⟩, hb⟩

set_option maxHeartbeats 400000 in
theorem whole_core (g c n : Nat) (v2 : Value) (zs : List Int) (w : World) (hc : n + 70 ≤ c) (hm : c ≤ 9223372036854775807)
  (h1 : Hid (View w (.slice (some ⟨g, 0, none⟩) n c) zs)) (h2 : Hid (View w v2 zs))
  (h3 : ∀ i, i < 70 → w.cell? ⟨g, n + i, none⟩ = some (.int .u8 (181 + (i : Int)))) :
  Calls Tryz.prog 48 #[.slice (some ⟨g, 0, none⟩) n c, v2] w fun e w' => e = .returned (.bool true) ∧ ∃ m, w' = w.drewN m := by
 go_enter Tryz.func48, Tryz.ntmps48
 go_wp2_with fail
 refine (same_any _ _ zs zs _ h1.out h2.out).mono ?_
 rintro e w' ⟨rfl, m, rfl⟩
 simp only [decide_true]
 go_wp2
 go_loop [7] (fun i => ∃ k : Nat, k ≤ 70 ∧ i = .int .i64 k) (fun i => 70 - (intOf i).toNat)
 case atStart => exact ⟨0, by omega, rfl⟩
 case round =>
  obtain ⟨k, hk, rfl⟩ := hrel
  by_cases hlt : k < 70
  ·have g3 := h3 k hlt
   clear h3
   go_wp2
   go_round
   case rel => exact ⟨k + 1, by omega, by go_num⟩
   case measure => simp [intOf]; omega
  ·go_wp2
   go_ret
   exact ⟨rfl, m, rfl⟩

/-- cofferbook.WholeBytes, of a copy that is as it was made. -/
theorem whole_any (v1 v2 : Value) (zs : List Int) (B : Nat) (w : World) (h1 : Marked B w v1 zs) (h2 : View w v2 zs) :
  Calls Tryz.prog 48 #[v1, v2] w fun e w' => e = .returned (.bool true) ∧ ∃ m, w' = w.drewN m := by
 have hv := h1.view
 obtain ⟨g, c, rfl, hc, hm, _, h4⟩ := h1.cells
 exact whole_core g c zs.length v2 zs w hc (by unfold maxLen at hm; omega) hv h2 h4
end Go.Proofs.YtgmfiljjogdccabGreatDoor
namespace Go.Proofs.YtgmfiljjogdccabGreatDoor
open Go.RowKit
set_option linter.unusedVariables false
theorem Tryz.underlying94 : Tryz.prog.underlying 94 = some (.slice 43) := by kernel_rfl
theorem Tryz.info50 : (Tryz.prog.info? 43).map (fun i => (i.zero, i.size, i.bytes)) = some (some (.int .u32 0), 1, 4) := by kernel_rfl
set_option maxHeartbeats 800000 in
set_option maxRecDepth 100000 in
theorem clone_ok (x : Addr) (n cap : Nat) (vs : List Value) (w : World) (hl : Hid (vs.length = n)) (hn : n ≤ 64) (hc : Hid (∀ j u, vs[j]? = some u → w.cell? (x.add j) = some u)) (h1 : Hid (∀ u ∈ vs, u.oneCell' = true)) :
  Calls Tryz.prog 60 #[.slice (some x) n cap] w fun e w' => ∃ v, e = .returned v ∧ w'.ownsRow w.heap.size 43 1 v n vs ∧ Below w.heap.size w w' := by
 obtain ⟨i0, hi, hz0, hz1, hz2⟩ := info_parts Tryz.info50
 have hnl : ∀ w, (binOp .eql 94 (.slice (some x) n cap) (.slice none 0 0)).run Tryz.prog w = .ok (.bool false) w := fun w => run_eql_slice_nil w 94 43 (some x) n cap Tryz.underlying94
 go_enter Tryz.func60, Tryz.ntmps60
 go_wp2_with (first
  | (at_builtin; go_must (refine wpList_append_own _ rfl (.tmp 5) (.tmp 6) 94 rfl w.heap.size 43 i0 (.int .u32 0) 1 4 Tryz.underlying94 hi hz0 hz1 hz2 rfl (by decide) _ 0 [] rfl (World.ownsRow_made w #[] 0 (Nat.le_refl _) (by unfold maxLen; omega) rfl) x n cap vs rfl ?_ ?_ h1.out ?_ ?_ ?_ ?_)))
 ·rw [hl.out, Nat.mul_one]
 ·intro j u hu
  have := hc.out j u hu
  rw [World.cell?_alloc_lt w _ _ (World.block_lt_of_cell? w _ this)]
  exact this
 ·unfold maxLen; omega
 ·omega
 ·simp
 intro v1 w1 hown hgrow hnil
 have HO : Hid (w1.ownsRow w.heap.size 43 1 v1 n vs) := hown
 have HB : Hid (Below w.heap.size w w1) := ((Below.refl _ _).alloc (Nat.le_refl _) _).grown hgrow (by simp) (by intro k hk; cases hk; exact Nat.le_refl _)
 clear hown hgrow hnil
 go_wp2
 go_ret
 exact ⟨_, rfl, HO.out, HB.out⟩
end Go.Proofs.YtgmfiljjogdccabGreatDoor
