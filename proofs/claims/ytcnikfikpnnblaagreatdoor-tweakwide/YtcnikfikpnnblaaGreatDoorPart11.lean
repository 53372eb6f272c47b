import Derived.Test.YtcnikfikpnnblaaGreatDoorPart08
import Derived.Test.YtcnikfikpnnblaaGreatDoorNma
import Derived.Ground.NamesProg
import Derived.Shelf.Lay
import Derived.Shelf.Strconv.Itoa3
import Derived.WalkSmall
import Derived.Deep.AppendLies
import Derived.Lib.LaidTab
namespace Go.Proofs.YtcnikfikpnnblaaGreatDoor
open Go.RowKit

theorem View.kept {w w' : World} {v : Value} {zs : List Int} (h : View w v zs) (hb : ∀ k, k < w.heap.size → w'.heap[k]? = w.heap[k]?) : View w' v zs := by
 obtain ⟨a, c, rfl, h1, h2, h3, h4⟩ := h
 refine ⟨a, c, rfl, h1, h2, h3, ?_⟩
 rcases h4 with h4 | ⟨b, off, rfl, hc⟩
 ·exact .inl h4
 ·refine .inr ⟨b, off, rfl, fun i hi => ?_⟩
  have := hc i hi
  have hlt := World.block_lt_of_cell? w _ this
  rw [World.cell?_of_block (w := w) (hb b hlt)]
  exact this

/-- A copy with marks behind it, in memory from block B on. -/
def Marked (B : Nat) (w : World) (v : Value) (zs : List Int) : Prop :=
 ∃ g c, v = .slice (some ⟨g, 0, none⟩) zs.length c ∧ w.ownsRow B 5 1 (.slice (some ⟨g, 0, none⟩) (zs.length + 70) c) (zs.length + 70) (cellsU8 (zs ++ marks 70))

theorem Marked.kept {B : Nat} {w w' : World} {v : Value} {zs : List Int} (h : Marked B w v zs) (hb : ∀ k, k < w.heap.size → w'.heap[k]? = w.heap[k]?) : Marked B w' v zs := by
 obtain ⟨g, c, rfl, hl, h⟩ := h
 refine ⟨g, c, rfl, hl, ?_⟩
 rcases h with ⟨h, _⟩ | ⟨g', c', cur, he, h1, h2, r⟩
 ·cases h
 ·refine .inr ⟨g', c', cur, he, h1, ?_, r⟩
  rw [hb g' (Array.getElem?_eq_some_iff.1 h2).1]
  exact h2

theorem Marked.cells {B : Nat} {w : World} {v : Value} {zs : List Int} (h : Marked B w v zs) :
  ∃ g c, v = .slice (some ⟨g, 0, none⟩) zs.length c ∧ zs.length + 70 ≤ c ∧ c ≤ maxLen ∧ (∀ i, i < zs.length → w.cell? ⟨g, i, none⟩ = some (.int .u8 (zs.getD i 0))) ∧ (∀ i, i < 70 → w.cell? ⟨g, zs.length + i, none⟩ = some (.int .u8 (181 + (i : Int)))) := by
 obtain ⟨g, c, rfl, ho⟩ := h
 have hc := ho.cells (g := g) rfl
 refine ⟨g, c, rfl, ?_, ?_, fun i hi => ?_, fun i hi => ?_⟩
 ·rcases ho.2 with ⟨h, _⟩ | ⟨g', c', cur, he, _, _, h1, _⟩
  ·cases h
  ·cases he; exact h1
 ·rcases ho.2 with ⟨h, _⟩ | ⟨g', c', cur, he, _, _, _, h1, _⟩
  ·cases h
  ·cases he; exact h1
 ·have := hc i (.int .u8 (zs.getD i 0)) (by
   simp only [cellsU8, List.getElem?_map]
   rw [List.getElem?_append_left hi]
   simp [List.getElem?_eq_getElem hi, List.getD])
  rw [Addr.add_lit] at this
  simpa using this
 ·have := hc (zs.length + i) (.int .u8 (181 + (i : Int))) (by
   simp only [cellsU8, List.getElem?_map]
   rw [List.getElem?_append_right (by omega)]
   simp [marks, hi])
  rw [Addr.add_lit] at this
  simpa using this

theorem Marked.view {B : Nat} {w : World} {v : Value} {zs : List Int} (h : Marked B w v zs) : View w v zs := by
 obtain ⟨g, c, rfl, h1, h2, h3, _⟩ := h.cells
 refine ⟨_, c, rfl, by omega, h2, ?_, Or.inr ⟨g, 0, rfl, fun i hi => by simpa using h3 i hi⟩⟩
 intro h
 cases h

/-- cofferbook.Bytes. -/
theorem copy_any (v : Value) (zs : List Int) (w : World) (hn : zs.length + 70 ≤ 140737488355328) (h : View w v zs) :
  Calls Tryz.prog 20 #[v] w fun e w' => ∃ v', e = .returned v' ∧ Marked w.heap.size w' v' zs ∧ Below w.heap.size w w' := by
 obtain ⟨a, c, rfl, h1, h2, h3, h4⟩ := h
 cases a with
 | none =>
  obtain rfl := h3 rfl
  have hz : zs = [] := List.eq_nil_of_length_eq_zero (by omega)
  subst hz
  refine (copy_nil w).mono ?_
  rintro e w' ⟨g, c, rfl, ho, hb⟩
  exact ⟨_, rfl, ⟨g, c, rfl, by simpa using ho⟩, hb⟩
 | some x =>
  have hc : ∀ j u, (cellsU8 zs)[j]? = some u → w.cell? (x.add j) = some u := by
   rcases h4 with rfl | ⟨b, off, he, hcell⟩
   ·intro j u hu
    simp [cellsU8] at hu
   ·cases he
    exact cellsU8_at zs w b off hcell
  refine (copy_some x zs.length c zs w rfl hn hc).mono ?_
  rintro e w' ⟨g, c, rfl, ho, hb⟩
  exact ⟨_, rfl, ⟨g, c, rfl, ho⟩, hb⟩

set_option maxHeartbeats 400000 in
theorem whole_core (g c n : Nat) (v2 : Value) (zs : List Int) (w : World) (hc : n + 70 ≤ c) (hm : c ≤ 9223372036854775807)
  (h1 : Hid (View w (.slice (some ⟨g, 0, none⟩) n c) zs)) (h2 : Hid (View w v2 zs))
  (h3 : ∀ i, i < 70 → w.cell? ⟨g, n + i, none⟩ = some (.int .u8 (181 + (i : Int)))) :
  Calls Tryz.prog 23 #[.slice (some ⟨g, 0, none⟩) n c, v2] w fun e w' => e = .returned (.bool true) ∧ ∃ m, w' = w.drewN m := by
 go_enter Tryz.func23, Tryz.ntmps23
 go_wp2_with fail
 refine (same_any _ _ zs zs _ h1.out h2.out).mono ?_
 rintro e w' ⟨rfl, m, rfl⟩
 simp only [decide_true]
 go_wp2
 go_loop [7] (fun i => ∃ k : Nat, k ≤ 70 ∧ i = .int .i64 k) (fun i => 70 - (intOf i).toNat)
 case atStart => exact ⟨0, by omega, rfl⟩
 case round =>
  obtain ⟨k, hk, rfl⟩ := hrel
  by_cases hlt : k < 70
  ·have g3 := h3 k hlt
   clear h3
   go_wp2
   go_round
   case rel => exact ⟨k + 1, by omega, by go_num⟩
   case measure => simp [intOf]; omega
  ·go_wp2
   go_ret
   exact ⟨rfl, m, rfl⟩

/-- cofferbook.WholeBytes, of a copy that is as it was made. -/
theorem whole_any (v1 v2 : Value) (zs : List Int) (B : Nat) (w : World) (h1 : Marked B w v1 zs) (h2 : View w v2 zs) :
  Calls Tryz.prog 23 #[v1, v2] w fun e w' => e = .returned (.bool true) ∧ ∃ m, w' = w.drewN m := by
 have hv := h1.view
 obtain ⟨g, c, rfl, hc, hm, _, h4⟩ := h1.cells
 exact whole_core g c zs.length v2 zs w hc (by unfold maxLen at hm; omega) hv h2 h4
end Go.Proofs.YtcnikfikpnnblaaGreatDoor
namespace Go.Proofs
open Go.RowKit Go.Shelf Go.Lib
shelf_lay LaysM.n171 Nm 171 at Tryz as Tryz.laysItoa
end Go.Proofs
namespace Go.Proofs.YtcnikfikpnnblaaGreatDoor
open Go.RowKit
set_option linter.unusedVariables false
/-- The table of strconv. -/
def Pow (w : World) : Prop := Lib.TabIs Tryz.prog w "internal/strconv.uint64pow10" .u64 Lib.pow10Tab
theorem Pow.below {w v : World} (h : Pow w) (b : Below w.heap.size w v) : Pow v := by
 unfold Pow Lib.TabIs at h ⊢
 cases hgn : Tryz.prog.globalNamed "internal/strconv.uint64pow10" with
 | none => simp [World.var?, hgn] at h
 | some g =>
  refine var?_below b hgn ?_ h
  rcases Nat.lt_or_ge g w.heap.size with hlt | hge
  ·exact hlt
  ·simp [World.var?, hgn, Array.getElem?_eq_none hge] at h
/-- strconv.Itoa. -/
theorem itoa_ok (n : Nat) (hn : n ≤ 1000) (w : World) (hT : Pow w) :
  Calls Tryz.prog 67 #[.int .i64 (n : Nat)] w fun e w' => Hid (e = .returned (.string ⟨(Lib.itoa (n : Nat)).toArray⟩) ∧ Below w.heap.size w w') := by
 refine (Any.strconv_Itoa Tryz.laysItoa (n : Nat) (by omega) (by omega) w hT).mono ?_
 rintro e w' ⟨rfl, k, os, rfl⟩
 exact ⟨rfl, rfl, rfl, rfl, by simp [Sort.grow], fun i hi => Sort.heap_grow_old (w.drewN k) os hi⟩
/-- A mode's name. -/
def nmB (k : Nat) : ByteArray := match modesL.getD k [] with
 | .string s :: _ => s
 | _ => ⟨#[]⟩
theorem mode_at (k : Nat) (hk : k < 17) : ∃ (a b c : Int) (f : Value) (g : Nat), modesL.getD k [] = [.string (nmB k), .int .i64 a, .int .i64 b, .int .i64 c, f, .func (.func g) #[] #[]] ∧ (f = .nilFunc ∨ ∃ m, f = .func (.func m) #[] #[]) := by
 match k, hk with
 | 0, _ => exact ⟨_, _, _, _, _, rfl, .inl rfl⟩
 | 1, _ => exact ⟨_, _, _, _, _, rfl, .inr ⟨_, rfl⟩⟩
 | 2, _ => exact ⟨_, _, _, _, _, rfl, .inr ⟨_, rfl⟩⟩
 | 3, _ => exact ⟨_, _, _, _, _, rfl, .inr ⟨_, rfl⟩⟩
 | 4, _ => exact ⟨_, _, _, _, _, rfl, .inr ⟨_, rfl⟩⟩
 | 5, _ => exact ⟨_, _, _, _, _, rfl, .inr ⟨_, rfl⟩⟩
 | 6, _ => exact ⟨_, _, _, _, _, rfl, .inr ⟨_, rfl⟩⟩
 | 7, _ => exact ⟨_, _, _, _, _, rfl, .inr ⟨_, rfl⟩⟩
 | 8, _ => exact ⟨_, _, _, _, _, rfl, .inr ⟨_, rfl⟩⟩
 | 9, _ => exact ⟨_, _, _, _, _, rfl, .inr ⟨_, rfl⟩⟩
 | 10, _ => exact ⟨_, _, _, _, _, rfl, .inr ⟨_, rfl⟩⟩
 | 11, _ => exact ⟨_, _, _, _, _, rfl, .inr ⟨_, rfl⟩⟩
 | 12, _ => exact ⟨_, _, _, _, _, rfl, .inr ⟨_, rfl⟩⟩
 | 13, _ => exact ⟨_, _, _, _, _, rfl, .inr ⟨_, rfl⟩⟩
 | 14, _ => exact ⟨_, _, _, _, _, rfl, .inr ⟨_, rfl⟩⟩
 | 15, _ => exact ⟨_, _, _, _, _, rfl, .inr ⟨_, rfl⟩⟩
 | 16, _ => exact ⟨_, _, _, _, _, rfl, .inr ⟨_, rfl⟩⟩
 | n + 17, h => exact absurd h (by omega)
/-- n rows, one behind the other. -/
def fl (f : Nat → List Value) : Nat → List Value
 | 0 => []
 | n + 1 => fl f n ++ f n
theorem fl_len (f : Nat → List Value) (K : Nat) (hK : ∀ i, (f i).length = K) (n : Nat) : (fl f n).length = n * K := by
 induction n with
 | zero => simp [fl]
 | succ n ih => rw [fl, List.length_append, ih, hK, Nat.succ_mul]
theorem fl_at (f : Nat → List Value) (K : Nat) (hK : ∀ i, (f i).length = K) (n i j : Nat) (hi : i < n) (hj : j < K) : (fl f n)[i * K + j]? = (f i)[j]? := by
 induction n with
 | zero => omega
 | succ n ih =>
  rw [fl]
  by_cases h : i < n
  ·have : i * K + K ≤ n * K := by rw [← Nat.succ_mul]; exact Nat.mul_le_mul_right K h
   rw [List.getElem?_append_left (by rw [fl_len f K hK]; omega)]
   exact ih h
  ·have e : i = n := by omega
   subst e
   rw [List.getElem?_append_right (by rw [fl_len f K hK]; omega), fl_len f K hK]
   congr 1
   omega
/-- The digits of 8 * (16 + 8 i). -/
def itB (i : Nat) : ByteArray := ⟨(Lib.itoa ((8 * (16 + 8 * i) : Nat) : Int)).toArray⟩
/-- The name with number 1 + 17 i + k. -/
def sxN (i k : Nat) : ByteArray := ((⟨#[97, 101, 115]⟩ : ByteArray) ++ itB i ++ (⟨#[45]⟩ : ByteArray)) ++ nmB k
/-- The suites: a row each. -/
def sxF : Nat → List Value
 | 0 => [.string ⟨#[110, 117, 108, 108]⟩, .int .i64 0, .string ⟨#[]⟩, .int .i64 0, .int .i64 0, .int .i64 1, .nilFunc, .func (.func 65) #[] #[]]
 | j + 1 => .string (sxN (j / 17) (j % 17)) :: .int .i64 ((16 + 8 * (j / 17) : Nat) : Int) :: modesL.getD (j % 17) []
theorem sxF_len (j : Nat) : (sxF j).length = 8 := by
 cases j with
 | zero => rfl
 | succ j =>
  obtain ⟨a, b, c, f, g, h, _⟩ := mode_at (j % 17) (Nat.mod_lt _ (by decide))
  rw [sxF, h]; rfl
theorem sxF_at (i k : Nat) (hk : k < 17) : sxF (1 + 17 * i + k) = .string (sxN i k) :: .int .i64 ((16 + 8 * i : Nat) : Int) :: modesL.getD k [] := by
 have e : 1 + 17 * i + k = (17 * i + k) + 1 := by omega
 rw [e, sxF, show (17 * i + k) / 17 = i by omega, show (17 * i + k) % 17 = k by omega]
theorem ownsRow_lt {w : World} {base : Nat} {e : TypeId} {K : Nat} {v : Value} {n : Nat} {xs : List Value} (h : w.ownsRow base e K v n xs) {g : Nat} (hg : v.ownBlock = some g) : base ≤ g ∧ g < w.heap.size := by
 rcases h.2 with ⟨rfl, _⟩ | ⟨g', cap, cur, rfl, hb, hgg, _⟩
 ·simp [Value.ownBlock] at hg
 ·have e : g' = g := by simpa [Value.ownBlock] using hg
  subst e
  refine ⟨hb, ?_⟩
  rcases Nat.lt_or_ge g' w.heap.size with hlt | hge
  ·exact hlt
  ·rw [Array.getElem?_eq_none hge] at hgg; cases hgg
theorem ownsRow_keep {w w' : World} {base : Nat} {e : TypeId} {K : Nat} {v : Value} {n : Nat} {xs : List Value} (h : w.ownsRow base e K v n xs) (hk : ∀ g, v.ownBlock = some g → w'.heap[g]? = w.heap[g]?) : w'.ownsRow base e K v n xs := by
 refine ⟨h.1, ?_⟩
 rcases h.2 with hn | ⟨g, cap, cur, hv, hb, hgg, rest⟩
 ·exact .inl hn
 ·exact .inr ⟨g, cap, cur, hv, hb, by rw [hk g (by rw [hv]; rfl)]; exact hgg, rest⟩
theorem ownsRow_below {w w' : World} {base : Nat} {e : TypeId} {K : Nat} {v : Value} {n : Nat} {xs : List Value} (h : w.ownsRow base e K v n xs) (hb : Below w.heap.size w w') : w'.ownsRow base e K v n xs :=
 ownsRow_keep h fun g hg => hb.block g (ownsRow_lt h hg).2
/-- A row that was just made. -/
theorem ownsRow_new (w : World) (base : Nat) (e : TypeId) (K n : Nat) (xs : List Value) (hb : base ≤ w.heap.size) (hn : n ≤ 1000) (hl : xs.length = n * K) : (w.alloc (.cells xs.toArray e)).ownsRow base e K (.slice (some ⟨w.heap.size, 0, none⟩) n n) n xs := by
 refine ⟨hl, .inr ⟨w.heap.size, n, xs.toArray, rfl, hb, heap_alloc_new w _, Nat.le_refl _, by unfold maxLen; omega, by simpa using hl, by simp [← hl]⟩⟩
end Go.Proofs.YtcnikfikpnnblaaGreatDoor
