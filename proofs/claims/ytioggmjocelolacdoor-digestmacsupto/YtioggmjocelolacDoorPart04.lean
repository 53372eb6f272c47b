import Derived.Test.YtioggmjocelolacDoorPart03
import Derived.WalkKit
import Derived.Deep.RegionHeld3
import Derived.Test.YtioggmjocelolacDoorPart00
import Derived.Deep.AppendLies
namespace Go.Proofs.YtioggmjocelolacDoor
open Go.RowKit
set_option linter.unusedVariables false
set_option linter.unusedSimpArgs false

/-- The words of a code: the outer digest of the inner one. -/
def macE (h : Int) (si so : Eight) (zs : List Int) : Eight :=
  endW (wdOf h) so (bsz (wdOf h)) ((spellL (wdOf h) (endW (wdOf h) si (bsz (wdOf h)) zs)).take (szOf h))
theorem szOf_le {h : Int} (k : Known h) : szOf h ≤ 64 := by rcases szOf_known k with e | e | e | e <;> omega
theorem view_cells {w : World} {b n : Nat} {C : List Value} {zs : List Int} (hr : w.rangeAt b 0 C) (hC : C = cellsU8 zs) (hz : zs.length = 64) (hn : n ≤ 64) : View w (.slice (some ⟨b, 0, none⟩) n 64) (zs.take n) := by
  have hl : (zs.take n).length = n := by simp; omega
  refine ⟨_, 64, by rw [hl], by omega, by simp [maxLen], (fun e => by cases e), .inr ⟨b, 0, rfl, fun i hi => ?_⟩⟩
  rw [hl] at hi
  refine hr i _ ?_
  rw [hC]
  simp [cellsU8, List.getD, List.getElem?_take, hi, List.getElem?_eq_getElem (show i < zs.length by omega)]
theorem range_touch {w v : World} {g o n b p : Nat} {C : List Value} (h : w.rangeAt b p C) (t : Touch w v g o n) (hb : b < w.heap.size) (hne : b ≠ g) : v.rangeAt b p C := fun j x hx => by
  rw [t.far (p := ⟨b, p + j, none⟩) hb hne]
  exact h j x hx
theorem touch_newblock {w v u : World} {g o n : Nat} (h : Touch w v g o n) (hg : g < w.heap.size) (b : Nat) (hb : w.heap.size ≤ b) (vs : List Value) (o' : Nat) (e : u = v.setCells b o' vs) : Touch w u g o n := by
  subst e
  exact touch_new h hb vs o' hg

set_option maxHeartbeats 800000 in
set_option maxRecDepth 100000 in
theorem finishCode (g : Nat) (h : Int) (si so : Eight) (zs : List Int) (w : World) (k : Hid (Known h)) (hm : Hid (MRep w g h si so zs)) (hT : Hid (Tables w)) (hg : 4 ≤ g) (hfed : Hid (zs.length ≤ 1152921504606000000)) :
    Calls Tryd.prog 57 #[.pointer (some ⟨g, 0, none⟩)] w fun e w' => e = .returned (.agg (spellCells (wsz (wdOf h)) (macE h si so zs)).toArray) ∧ Touch w w' g 0 139 ∧ ∃ s half fed, TK w' g 0 h (wdOf h) s half fed := by
  have hbs : bsz (wdOf h) ≤ 128 := by cases wdOf h <;> decide
  have HBS : Hid (bsz (wdOf h) ≤ 128) := hbs
  have HGW : Hid (g < w.heap.size) := hm.out.2.lt
  go_enter Tryd.func57, Tryd.ntmps57
  go_upto_region 1 with fail
  have HB0 : Hid (Below w.heap.size w (w.alloc (.cells #[.int .u8 0, .int .u8 0, .int .u8 0, .int .u8 0, .int .u8 0, .int .u8 0, .int .u8 0, .int .u8 0, .int .u8 0, .int .u8 0, .int .u8 0, .int .u8 0, .int .u8 0, .int .u8 0, .int .u8 0, .int .u8 0, .int .u8 0, .int .u8 0, .int .u8 0, .int .u8 0, .int .u8 0, .int .u8 0, .int .u8 0, .int .u8 0, .int .u8 0, .int .u8 0, .int .u8 0, .int .u8 0, .int .u8 0, .int .u8 0, .int .u8 0, .int .u8 0, .int .u8 0, .int .u8 0, .int .u8 0, .int .u8 0, .int .u8 0, .int .u8 0, .int .u8 0, .int .u8 0, .int .u8 0, .int .u8 0, .int .u8 0, .int .u8 0, .int .u8 0, .int .u8 0, .int .u8 0, .int .u8 0, .int .u8 0, .int .u8 0, .int .u8 0, .int .u8 0, .int .u8 0, .int .u8 0, .int .u8 0, .int .u8 0, .int .u8 0, .int .u8 0, .int .u8 0, .int .u8 0, .int .u8 0, .int .u8 0, .int .u8 0, .int .u8 0] 72)) ∧ (w.alloc (.cells #[.int .u8 0, .int .u8 0, .int .u8 0, .int .u8 0, .int .u8 0, .int .u8 0, .int .u8 0, .int .u8 0, .int .u8 0, .int .u8 0, .int .u8 0, .int .u8 0, .int .u8 0, .int .u8 0, .int .u8 0, .int .u8 0, .int .u8 0, .int .u8 0, .int .u8 0, .int .u8 0, .int .u8 0, .int .u8 0, .int .u8 0, .int .u8 0, .int .u8 0, .int .u8 0, .int .u8 0, .int .u8 0, .int .u8 0, .int .u8 0, .int .u8 0, .int .u8 0, .int .u8 0, .int .u8 0, .int .u8 0, .int .u8 0, .int .u8 0, .int .u8 0, .int .u8 0, .int .u8 0, .int .u8 0, .int .u8 0, .int .u8 0, .int .u8 0, .int .u8 0, .int .u8 0, .int .u8 0, .int .u8 0, .int .u8 0, .int .u8 0, .int .u8 0, .int .u8 0, .int .u8 0, .int .u8 0, .int .u8 0, .int .u8 0, .int .u8 0, .int .u8 0, .int .u8 0, .int .u8 0, .int .u8 0, .int .u8 0, .int .u8 0, .int .u8 0] 72)).there w.heap.size 0 64 ∧ w.heap.size < (w.alloc (.cells #[.int .u8 0, .int .u8 0, .int .u8 0, .int .u8 0, .int .u8 0, .int .u8 0, .int .u8 0, .int .u8 0, .int .u8 0, .int .u8 0, .int .u8 0, .int .u8 0, .int .u8 0, .int .u8 0, .int .u8 0, .int .u8 0, .int .u8 0, .int .u8 0, .int .u8 0, .int .u8 0, .int .u8 0, .int .u8 0, .int .u8 0, .int .u8 0, .int .u8 0, .int .u8 0, .int .u8 0, .int .u8 0, .int .u8 0, .int .u8 0, .int .u8 0, .int .u8 0, .int .u8 0, .int .u8 0, .int .u8 0, .int .u8 0, .int .u8 0, .int .u8 0, .int .u8 0, .int .u8 0, .int .u8 0, .int .u8 0, .int .u8 0, .int .u8 0, .int .u8 0, .int .u8 0, .int .u8 0, .int .u8 0, .int .u8 0, .int .u8 0, .int .u8 0, .int .u8 0, .int .u8 0, .int .u8 0, .int .u8 0, .int .u8 0, .int .u8 0, .int .u8 0, .int .u8 0, .int .u8 0, .int .u8 0, .int .u8 0, .int .u8 0, .int .u8 0] 72)).heap.size) := ⟨(Below.refl _ _).alloc (Nat.le_refl _) _, there_new w _ 72 64 (by decide), by simp⟩
  generalize w.alloc (.cells #[.int .u8 0, .int .u8 0, .int .u8 0, .int .u8 0, .int .u8 0, .int .u8 0, .int .u8 0, .int .u8 0, .int .u8 0, .int .u8 0, .int .u8 0, .int .u8 0, .int .u8 0, .int .u8 0, .int .u8 0, .int .u8 0, .int .u8 0, .int .u8 0, .int .u8 0, .int .u8 0, .int .u8 0, .int .u8 0, .int .u8 0, .int .u8 0, .int .u8 0, .int .u8 0, .int .u8 0, .int .u8 0, .int .u8 0, .int .u8 0, .int .u8 0, .int .u8 0, .int .u8 0, .int .u8 0, .int .u8 0, .int .u8 0, .int .u8 0, .int .u8 0, .int .u8 0, .int .u8 0, .int .u8 0, .int .u8 0, .int .u8 0, .int .u8 0, .int .u8 0, .int .u8 0, .int .u8 0, .int .u8 0, .int .u8 0, .int .u8 0, .int .u8 0, .int .u8 0, .int .u8 0, .int .u8 0, .int .u8 0, .int .u8 0, .int .u8 0, .int .u8 0, .int .u8 0, .int .u8 0, .int .u8 0, .int .u8 0, .int .u8 0, .int .u8 0] 72) = w0 at HB0 ⊢
  go_wp2_with (first | (go_at_call 75; refine (finish_rep (wdOf h) g 0 h si (bsz (wdOf h)) zs w0 k.out.block (hm.out.1.below HB0.out.1) (by have := hfed.out; have := HBS.out; omega) (hT.out.below HB0.out.1 hT.out.size) hg).mono ?_))
  rintro e1 w1 ⟨rfl, ht1, half1, hk1⟩
  obtain ⟨z1, HZ1⟩ : ∃ z1 : List Int, Hid (z1 = spellL (wdOf h) (endW (wdOf h) si (bsz (wdOf h)) zs)) := ⟨_, (show _ = _ from rfl)⟩
  have HZL : Hid (z1.length = 64) := by show z1.length = 64; rw [HZ1.out]; exact spellL_length _ _
  obtain ⟨C, HC⟩ : ∃ C : List Value, Hid (C = cellsU8 z1) := ⟨_, (show _ = _ from rfl)⟩
  rw [spellCells_eq, ← HZ1.out, ← HC.out]
  have HL : Hid (C.length = 64) := by show C.length = 64; rw [HC.out, cellsU8_length]; exact HZL.out
  have HLA : Hid (C.toArray.size = 64) := by show C.toArray.size = 64; simpa using HL.out
  have HO : Hid (C.toArray.all (·.oneCell') = true) := all_oneCell_toArray (by rw [HC.out]; exact cellsU8_one _)
  have HT1 : Hid (Touch w w1 g 0 139) := ((Touch.refl w g 0 139).below HB0.out.1 HGW.out).trans ht1
  have HM1 : Hid (MacAt w1 g si so) := hm.out.2.touch HT1.out
  have HK1 : Hid (∃ s half fed, TK w1 g 0 h (wdOf h) s half fed) := ⟨_, half1, _, hk1⟩
  have HRS : Hid (w1.there w.heap.size 0 64 ∧ w.heap.size < w1.heap.size) := ⟨ht1.thereFar HB0.out.2.1 HB0.out.2.2 (by have := HGW.out; omega), Nat.lt_of_lt_of_le HB0.out.2.2 ht1.size⟩
  have HX : Hid ((w1.alloc (.cells #[.int .u8 0, .int .u8 0, .int .u8 0, .int .u8 0, .int .u8 0, .int .u8 0, .int .u8 0, .int .u8 0, .int .u8 0, .int .u8 0, .int .u8 0, .int .u8 0, .int .u8 0, .int .u8 0, .int .u8 0, .int .u8 0, .int .u8 0, .int .u8 0, .int .u8 0, .int .u8 0, .int .u8 0, .int .u8 0, .int .u8 0, .int .u8 0, .int .u8 0, .int .u8 0, .int .u8 0, .int .u8 0, .int .u8 0, .int .u8 0, .int .u8 0, .int .u8 0, .int .u8 0, .int .u8 0, .int .u8 0, .int .u8 0, .int .u8 0, .int .u8 0, .int .u8 0, .int .u8 0, .int .u8 0, .int .u8 0, .int .u8 0, .int .u8 0, .int .u8 0, .int .u8 0, .int .u8 0, .int .u8 0, .int .u8 0, .int .u8 0, .int .u8 0, .int .u8 0, .int .u8 0, .int .u8 0, .int .u8 0, .int .u8 0, .int .u8 0, .int .u8 0, .int .u8 0, .int .u8 0, .int .u8 0, .int .u8 0, .int .u8 0, .int .u8 0] 72)).there w1.heap.size 0 64) := there_new w1 _ 72 64 (by decide)
  clear ht1 hk1 HB0
  go_upto_region 2 with (first
    | (refine wpList_store_mid (by rfl) 72 (.tmp 3) (.tmp 7) (by rfl) w1.heap.size 0 C.toArray (by rfl) (by rfl) (by rw [HLA.out]; exact HX.out) (by rw [HLA.out]; exact size75) HO.out ?_)
    | fail)
  have HR2 : Hid (((w1.alloc (.cells #[.int .u8 0, .int .u8 0, .int .u8 0, .int .u8 0, .int .u8 0, .int .u8 0, .int .u8 0, .int .u8 0, .int .u8 0, .int .u8 0, .int .u8 0, .int .u8 0, .int .u8 0, .int .u8 0, .int .u8 0, .int .u8 0, .int .u8 0, .int .u8 0, .int .u8 0, .int .u8 0, .int .u8 0, .int .u8 0, .int .u8 0, .int .u8 0, .int .u8 0, .int .u8 0, .int .u8 0, .int .u8 0, .int .u8 0, .int .u8 0, .int .u8 0, .int .u8 0, .int .u8 0, .int .u8 0, .int .u8 0, .int .u8 0, .int .u8 0, .int .u8 0, .int .u8 0, .int .u8 0, .int .u8 0, .int .u8 0, .int .u8 0, .int .u8 0, .int .u8 0, .int .u8 0, .int .u8 0, .int .u8 0, .int .u8 0, .int .u8 0, .int .u8 0, .int .u8 0, .int .u8 0, .int .u8 0, .int .u8 0, .int .u8 0, .int .u8 0, .int .u8 0, .int .u8 0, .int .u8 0, .int .u8 0, .int .u8 0, .int .u8 0, .int .u8 0] 72)).setCells w1.heap.size 0 C).rangeAt w1.heap.size 0 C) := World.rangeAt_setCells_same _ _ _ _ (by rw [HL.out]; exact HX.out)
  have HB2 : Hid (Below w1.heap.size w1 ((w1.alloc (.cells #[.int .u8 0, .int .u8 0, .int .u8 0, .int .u8 0, .int .u8 0, .int .u8 0, .int .u8 0, .int .u8 0, .int .u8 0, .int .u8 0, .int .u8 0, .int .u8 0, .int .u8 0, .int .u8 0, .int .u8 0, .int .u8 0, .int .u8 0, .int .u8 0, .int .u8 0, .int .u8 0, .int .u8 0, .int .u8 0, .int .u8 0, .int .u8 0, .int .u8 0, .int .u8 0, .int .u8 0, .int .u8 0, .int .u8 0, .int .u8 0, .int .u8 0, .int .u8 0, .int .u8 0, .int .u8 0, .int .u8 0, .int .u8 0, .int .u8 0, .int .u8 0, .int .u8 0, .int .u8 0, .int .u8 0, .int .u8 0, .int .u8 0, .int .u8 0, .int .u8 0, .int .u8 0, .int .u8 0, .int .u8 0, .int .u8 0, .int .u8 0, .int .u8 0, .int .u8 0, .int .u8 0, .int .u8 0, .int .u8 0, .int .u8 0, .int .u8 0, .int .u8 0, .int .u8 0, .int .u8 0, .int .u8 0, .int .u8 0, .int .u8 0, .int .u8 0] 72)).setCells w1.heap.size 0 C) ∧ ((w1.alloc (.cells #[.int .u8 0, .int .u8 0, .int .u8 0, .int .u8 0, .int .u8 0, .int .u8 0, .int .u8 0, .int .u8 0, .int .u8 0, .int .u8 0, .int .u8 0, .int .u8 0, .int .u8 0, .int .u8 0, .int .u8 0, .int .u8 0, .int .u8 0, .int .u8 0, .int .u8 0, .int .u8 0, .int .u8 0, .int .u8 0, .int .u8 0, .int .u8 0, .int .u8 0, .int .u8 0, .int .u8 0, .int .u8 0, .int .u8 0, .int .u8 0, .int .u8 0, .int .u8 0, .int .u8 0, .int .u8 0, .int .u8 0, .int .u8 0, .int .u8 0, .int .u8 0, .int .u8 0, .int .u8 0, .int .u8 0, .int .u8 0, .int .u8 0, .int .u8 0, .int .u8 0, .int .u8 0, .int .u8 0, .int .u8 0, .int .u8 0, .int .u8 0, .int .u8 0, .int .u8 0, .int .u8 0, .int .u8 0, .int .u8 0, .int .u8 0, .int .u8 0, .int .u8 0, .int .u8 0, .int .u8 0, .int .u8 0, .int .u8 0, .int .u8 0, .int .u8 0] 72)).setCells w1.heap.size 0 C).heap.size = w1.heap.size + 1) := ⟨below_setCells _ (Nat.le_refl _) _ _ _ ((Below.refl _ _).alloc (Nat.le_refl _) _), by rw [size_setCells]; simp⟩
  generalize (w1.alloc (.cells #[.int .u8 0, .int .u8 0, .int .u8 0, .int .u8 0, .int .u8 0, .int .u8 0, .int .u8 0, .int .u8 0, .int .u8 0, .int .u8 0, .int .u8 0, .int .u8 0, .int .u8 0, .int .u8 0, .int .u8 0, .int .u8 0, .int .u8 0, .int .u8 0, .int .u8 0, .int .u8 0, .int .u8 0, .int .u8 0, .int .u8 0, .int .u8 0, .int .u8 0, .int .u8 0, .int .u8 0, .int .u8 0, .int .u8 0, .int .u8 0, .int .u8 0, .int .u8 0, .int .u8 0, .int .u8 0, .int .u8 0, .int .u8 0, .int .u8 0, .int .u8 0, .int .u8 0, .int .u8 0, .int .u8 0, .int .u8 0, .int .u8 0, .int .u8 0, .int .u8 0, .int .u8 0, .int .u8 0, .int .u8 0, .int .u8 0, .int .u8 0, .int .u8 0, .int .u8 0, .int .u8 0, .int .u8 0, .int .u8 0, .int .u8 0, .int .u8 0, .int .u8 0, .int .u8 0, .int .u8 0, .int .u8 0, .int .u8 0, .int .u8 0, .int .u8 0] 72)).setCells w1.heap.size 0 C = w2 at HR2 HB2 ⊢
  have HT2 : Hid (Touch w w2 g 0 139) := HT1.out.below HB2.out.1 HGW.out
  have HM2 : Hid (MacAt w2 g si so) := hm.out.2.touch HT2.out
  obtain ⟨s1, h1, f1, hk1⟩ := HK1.out
  have HA : Hid (Calls Tryd.prog 51 #[.pointer (some ⟨g, 0, none⟩), .agg so.cells.toArray] w2 fun e w' => e = .returned (.tuple #[]) ∧ Touch w2 w' g 0 139 ∧ TK w' g 0 h (wdOf h) so (fun _ => 0) (bsz (wdOf h))) := restart_any g h s1 so h1 f1 w2 k (hk1.below HB2.out.1)
  clear hk1 HX
  go_upto_region 3 with (first
    | (refine wpList_load_mid (by rfl) 66 (.tmp 11) (by rfl) g 147 (by rfl) so.cells _ HM2.out.outer Tryd.underlying66 rfl size68 ?_)
    | (go_at_call 51; refine HA.out.mono ?_; rintro e3 w3 ⟨rfl, ht3, hk3⟩)
    | fail)
  have HT3 : Hid (Touch w w3 g 0 139) := HT2.out.trans ht3
  have HS : Hid (w1.heap.size < w2.heap.size ∧ w.heap.size ≤ w1.heap.size) := ⟨by rw [HB2.out.2]; omega, HT1.out.size⟩
  have HR3 : Hid (w3.rangeAt w1.heap.size 0 C) := range_touch HR2.out ht3 HS.out.1 (by have := HGW.out; have := HS.out.2; omega)
  have HRS3 : Hid (w3.there w.heap.size 0 64 ∧ w.heap.size < w3.heap.size) := by
    have h5 := ht3.size
    refine ⟨ht3.thereFar (b := w.heap.size) (o' := 0) (n' := 64) ?_ (by have := HRS.out.2; have := HB2.out.2; omega) (by have := HGW.out; omega), by have := HRS.out.2; have := HB2.out.2; omega⟩
    intro j hj
    rw [HB2.out.1.cell (p := ⟨w.heap.size, 0 + j, none⟩) HRS.out.2, HB2.out.1.frozen (p := ⟨w.heap.size, 0 + j, none⟩) HRS.out.2]
    exact HRS.out.1 j hj
  have HREP3 : Hid (Rep w3 g 0 h (wdOf h) so (bsz (wdOf h)) []) := rep_nil hk3 (Nat.mod_self _)
  obtain ⟨n, HN⟩ : ∃ n : Nat, Hid (n = szOf h) := ⟨_, (show _ = _ from rfl)⟩
  have hn : (n : Int) ≤ 64 := by rw [HN.out]; have := szOf_le k.out; omega
  have hn0 : (0 : Int) ≤ (n : Int) := by omega
  have c0 : w3.cell? ⟨g, 0, none⟩ = some (.int .i64 h) := hk3.hash
  have HADD : Hid (∀ u, Sm w3 u → Calls Tryd.prog 38 #[.pointer (some ⟨g, 0, none⟩), .slice (some ⟨w1.heap.size, 0, none⟩) n 64] u fun e w' => e = .returned (.tuple #[]) ∧ Touch w3 w' g 0 139 ∧ Rep w' g 0 h (wdOf h) so (bsz (wdOf h)) (z1.take n)) := by
    intro u hsm
    have hv := hsm.view (view_cells HR3.out HC.out HZL.out (show n ≤ 64 by omega))
    have hr : Rep u g 0 h (wdOf h) so (bsz (wdOf h)) [] := by obtain ⟨half, hk, q1, q2⟩ := HREP3.out; exact ⟨half, hk.sm hsm, q1, q2⟩
    refine (add_rep (wdOf h) g 0 h so (bsz (wdOf h)) [] (z1.take n) _ u k.out.block hr hv (fun b' off l c' e => .inl (by injection e with e1 e2 e3; injection e1 with e1; injection e1 with e4 e5; have := HGW.out; have := HS.out.2; omega)) (hsm.tables (hT.out.touch HT3.out hg)) hg (by have := HBS.out; simp; omega)).mono ?_
    rintro e w' ⟨rfl, ht, hr'⟩
    exact ⟨rfl, (hsm.touch g 0 139).trans ht, hr'⟩
  clear hk3 ht3 HREP3 HR2 HA HK1 HM1
  go_region_held3 (fun u => u.cell? ⟨g, 0, none⟩ = some (.int .i64 h)) (first | exact c0 | exact hS6 | go_keep) (first
    | (go_at_call 46; refine (size_known k.out _).mono ?_; rintro e5 w5 ⟨rfl, hw5⟩; obtain rfl := hw5.symm; rw [← HN.out])
    | (go_at_call 38; refine (HADD.out w3.drew (Sm.refl w3).drew).mono ?_; rintro e6 w6 ⟨rfl, ht6, hr6⟩; have hS6 : w6.cell? ⟨g, 0, none⟩ = some (.int .i64 h) := hr6.elim (fun _ q => q.1.hash)))
  have HT6 : Hid (Touch w w6 g 0 139) := HT3.out.trans ht6
  have HR6 : Hid (Rep w6 g 0 h (wdOf h) so (bsz (wdOf h)) (z1.take n)) := hr6
  have HRS6 : Hid (w6.there w.heap.size 0 64 ∧ w.heap.size < w6.heap.size) := ⟨ht6.thereFar HRS3.out.1 HRS3.out.2 (by have := HGW.out; omega), Nat.lt_of_lt_of_le HRS3.out.2 ht6.size⟩
  clear ht6 hr6 hS6 HADD c0
  go_wp2_with (first | (go_at_call 75; refine (finish_rep (wdOf h) g 0 h so (bsz (wdOf h)) (z1.take n) w6 k.out.block HR6.out (by have := HBS.out; simp; omega) (hT.out.touch HT6.out hg) hg).mono ?_))
  rintro e7 w7 ⟨rfl, ht7, half7, hk7⟩
  obtain ⟨D, HD⟩ : ∃ D : List Value, Hid (D = spellCells (wsz (wdOf h)) (macE h si so zs)) := ⟨_, (show _ = _ from rfl)⟩
  have hDD : spellCells (wsz (wdOf h)) (endW (wdOf h) so (bsz (wdOf h)) (z1.take n)) = D := by rw [HD.out, macE, ← HZ1.out, ← HN.out]
  rw [hDD]
  have HDL : Hid (D.length = 64) := by show D.length = 64; rw [HD.out]; exact spellCells_length _ _
  have HDA : Hid (D.toArray.size = 64) := by show D.toArray.size = 64; simpa using HDL.out
  have HDO : Hid (D.toArray.all (·.oneCell') = true) := by show D.toArray.all (·.oneCell') = true; rw [HD.out]; exact spellCells_one _ _
  have HT7 : Hid (Touch w w7 g 0 139) := HT6.out.trans ht7
  have HK7 : Hid (∃ s half fed, TK w7 g 0 h (wdOf h) s half fed) := ⟨_, half7, _, hk7⟩
  have HRS7 : Hid (w7.there w.heap.size 0 64) := ht7.thereFar HRS6.out.1 HRS6.out.2 (by have := HGW.out; omega)
  clear ht7 hk7 hDD
  go_wp2_with (first
    | (refine wpList_store_mid (by rfl) 72 (.tmp 2) (.tmp 28) (by rfl) w.heap.size 0 D.toArray (by rfl) (by rfl) (by rw [HDA.out]; exact HRS7.out) (by rw [HDA.out]; exact size75) HDO.out ?_)
    | fail)
  have hl := run_loadVar_mid (P := Tryd.prog) (w7.setCells w.heap.size 0 D) w.heap.size 0 72 D _ (World.rangeAt_setCells_same w7 w.heap.size 0 D (by rw [HDL.out]; exact HRS7.out)) Tryd.underlying72 rfl (by rw [HDL.out]; exact size75)
  have hQ : Touch w (w7.setCells w.heap.size 0 D) g 0 139 ∧ ∃ s half fed, TK (w7.setCells w.heap.size 0 D) g 0 h (wdOf h) s half fed := by
    obtain ⟨s, half, fed, hk⟩ := HK7.out
    exact ⟨touch_new HT7.out (Nat.le_refl _) D 0 HGW.out, s, half, fed, hk.newer (by have := HGW.out; omega) D 0⟩
  refine bodyPost_ret (v := .agg D.toArray) ?_ rfl ⟨by rw [HD.out], hQ⟩
  rw [results_cell1 Tryd.results57]
  simp [Act.put, asAddr, hl]
end Go.Proofs.YtioggmjocelolacDoor
namespace Go.Proofs.YtioggmjocelolacDoor
open Go.RowKit
set_option linter.unusedVariables false
set_option linter.unusedSimpArgs false

/-- The bytes of a code. -/
def macL (h : Int) (si so : Eight) (zs : List Int) : List Int := (spellL (wdOf h) (macE h si so zs)).take (szOf h)
set_option maxHeartbeats 800000 in
set_option maxRecDepth 100000 in
/-- Mac.Sum. -/
theorem msum (g : Nat) (h : Int) (si so : Eight) (zs : List Int) (w : World) (k : Hid (Known h)) (hm : Hid (MRep w g h si so zs)) (hT : Hid (Tables w)) (hfed : Hid (zs.length ≤ 1152921504606000000)) :
    Calls Tryd.prog 36 #[.pointer (some ⟨g, 0, none⟩)] w fun e w' => ∃ b, e = .returned (.slice (some ⟨b, 0, none⟩) (szOf h) (szOf h)) ∧ w'.ownsRow w.heap.size 5 1 (.slice (some ⟨b, 0, none⟩) (szOf h) (szOf h)) (szOf h) (cellsU8 (macL h si so zs)) ∧ Below w.heap.size w w' := by
  have HC0 : Hid (g < w.heap.size ∧ w.cell? ⟨g, 0, none⟩ = some (.int .i64 h)) := ⟨hm.out.2.lt, hm.out.1.elim (fun _ q => q.1.hash)⟩
  go_enter Tryd.func36, Tryd.ntmps36
  go_wp2_with (first | (go_at_call 56; refine (mcopy g h si so zs w hm).mono ?_))
  rintro e1 w1 ⟨g', rfl, hg', hm1, hb1⟩
  have HM1 : Hid (MRep w1 g' h si so zs ∧ w.heap.size ≤ g' ∧ Below w.heap.size w w1) := ⟨hm1, hg', hb1⟩
  have HT1 : Hid (Tables w1) := hT.out.below hb1 hT.out.size
  have hg4 : 4 ≤ g' := Nat.le_trans hT.out.size hg'
  clear hm1 hg' hb1
  go_wp2_with (first | (go_at_call 57; refine (finishCode g' h si so zs w1 k HM1.out.1 HT1 hg4 hfed).mono ?_))
  rintro e3 w3 ⟨rfl, ht3, _⟩
  obtain ⟨C, HC⟩ : ∃ C : List Value, Hid (C = cellsU8 (spellL (wdOf h) (macE h si so zs))) := ⟨_, (show _ = _ from rfl)⟩
  rw [spellCells_eq, ← HC.out]
  have HL : Hid (C.length = 64) := by show C.length = 64; rw [HC.out, cellsU8_length, spellL_length]
  have HLA : Hid (C.toArray.size = 64) := by show C.toArray.size = 64; simpa using HL.out
  have HO : Hid (C.toArray.all (·.oneCell') = true) := all_oneCell_toArray (by rw [HC.out]; exact cellsU8_one _)
  have HB3 : Hid (Below w.heap.size w w3) := HM1.out.2.2.trans (ht3.toBelow HM1.out.2.1 HM1.out.2.2.size)
  have HX : Hid ((w3.alloc (.cells #[.int .u8 0, .int .u8 0, .int .u8 0, .int .u8 0, .int .u8 0, .int .u8 0, .int .u8 0, .int .u8 0, .int .u8 0, .int .u8 0, .int .u8 0, .int .u8 0, .int .u8 0, .int .u8 0, .int .u8 0, .int .u8 0, .int .u8 0, .int .u8 0, .int .u8 0, .int .u8 0, .int .u8 0, .int .u8 0, .int .u8 0, .int .u8 0, .int .u8 0, .int .u8 0, .int .u8 0, .int .u8 0, .int .u8 0, .int .u8 0, .int .u8 0, .int .u8 0, .int .u8 0, .int .u8 0, .int .u8 0, .int .u8 0, .int .u8 0, .int .u8 0, .int .u8 0, .int .u8 0, .int .u8 0, .int .u8 0, .int .u8 0, .int .u8 0, .int .u8 0, .int .u8 0, .int .u8 0, .int .u8 0, .int .u8 0, .int .u8 0, .int .u8 0, .int .u8 0, .int .u8 0, .int .u8 0, .int .u8 0, .int .u8 0, .int .u8 0, .int .u8 0, .int .u8 0, .int .u8 0, .int .u8 0, .int .u8 0, .int .u8 0, .int .u8 0] 72)).there w3.heap.size 0 64) := there_new w3 _ 72 64 (by decide)
  clear ht3 HM1
  go_upto_region 4 with (first
    | (refine wpList_store_mid (by rfl) 72 (.tmp 3) (.tmp 8) (by rfl) w3.heap.size 0 C.toArray (by rfl) (by rfl) (by rw [HLA.out]; exact HX.out) (by rw [HLA.out]; exact size75) HO.out ?_)
    | fail)
  have HR4 : Hid (((w3.alloc (.cells #[.int .u8 0, .int .u8 0, .int .u8 0, .int .u8 0, .int .u8 0, .int .u8 0, .int .u8 0, .int .u8 0, .int .u8 0, .int .u8 0, .int .u8 0, .int .u8 0, .int .u8 0, .int .u8 0, .int .u8 0, .int .u8 0, .int .u8 0, .int .u8 0, .int .u8 0, .int .u8 0, .int .u8 0, .int .u8 0, .int .u8 0, .int .u8 0, .int .u8 0, .int .u8 0, .int .u8 0, .int .u8 0, .int .u8 0, .int .u8 0, .int .u8 0, .int .u8 0, .int .u8 0, .int .u8 0, .int .u8 0, .int .u8 0, .int .u8 0, .int .u8 0, .int .u8 0, .int .u8 0, .int .u8 0, .int .u8 0, .int .u8 0, .int .u8 0, .int .u8 0, .int .u8 0, .int .u8 0, .int .u8 0, .int .u8 0, .int .u8 0, .int .u8 0, .int .u8 0, .int .u8 0, .int .u8 0, .int .u8 0, .int .u8 0, .int .u8 0, .int .u8 0, .int .u8 0, .int .u8 0, .int .u8 0, .int .u8 0, .int .u8 0, .int .u8 0] 72)).setCells w3.heap.size 0 C).rangeAt w3.heap.size 0 C) := World.rangeAt_setCells_same _ _ _ _ (by rw [HL.out]; exact HX.out)
  have HB4 : Hid (Below w.heap.size w ((w3.alloc (.cells #[.int .u8 0, .int .u8 0, .int .u8 0, .int .u8 0, .int .u8 0, .int .u8 0, .int .u8 0, .int .u8 0, .int .u8 0, .int .u8 0, .int .u8 0, .int .u8 0, .int .u8 0, .int .u8 0, .int .u8 0, .int .u8 0, .int .u8 0, .int .u8 0, .int .u8 0, .int .u8 0, .int .u8 0, .int .u8 0, .int .u8 0, .int .u8 0, .int .u8 0, .int .u8 0, .int .u8 0, .int .u8 0, .int .u8 0, .int .u8 0, .int .u8 0, .int .u8 0, .int .u8 0, .int .u8 0, .int .u8 0, .int .u8 0, .int .u8 0, .int .u8 0, .int .u8 0, .int .u8 0, .int .u8 0, .int .u8 0, .int .u8 0, .int .u8 0, .int .u8 0, .int .u8 0, .int .u8 0, .int .u8 0, .int .u8 0, .int .u8 0, .int .u8 0, .int .u8 0, .int .u8 0, .int .u8 0, .int .u8 0, .int .u8 0, .int .u8 0, .int .u8 0, .int .u8 0, .int .u8 0, .int .u8 0, .int .u8 0, .int .u8 0, .int .u8 0] 72)).setCells w3.heap.size 0 C)) := below_setCells _ HB3.out.size _ _ _ (HB3.out.alloc HB3.out.size _)
  have HS4 : Hid (((w3.alloc (.cells #[.int .u8 0, .int .u8 0, .int .u8 0, .int .u8 0, .int .u8 0, .int .u8 0, .int .u8 0, .int .u8 0, .int .u8 0, .int .u8 0, .int .u8 0, .int .u8 0, .int .u8 0, .int .u8 0, .int .u8 0, .int .u8 0, .int .u8 0, .int .u8 0, .int .u8 0, .int .u8 0, .int .u8 0, .int .u8 0, .int .u8 0, .int .u8 0, .int .u8 0, .int .u8 0, .int .u8 0, .int .u8 0, .int .u8 0, .int .u8 0, .int .u8 0, .int .u8 0, .int .u8 0, .int .u8 0, .int .u8 0, .int .u8 0, .int .u8 0, .int .u8 0, .int .u8 0, .int .u8 0, .int .u8 0, .int .u8 0, .int .u8 0, .int .u8 0, .int .u8 0, .int .u8 0, .int .u8 0, .int .u8 0, .int .u8 0, .int .u8 0, .int .u8 0, .int .u8 0, .int .u8 0, .int .u8 0, .int .u8 0, .int .u8 0, .int .u8 0, .int .u8 0, .int .u8 0, .int .u8 0, .int .u8 0, .int .u8 0, .int .u8 0, .int .u8 0] 72)).setCells w3.heap.size 0 C).heap.size = w3.heap.size + 1) := by show _ = _; rw [size_setCells]; simp
  generalize (w3.alloc (.cells #[.int .u8 0, .int .u8 0, .int .u8 0, .int .u8 0, .int .u8 0, .int .u8 0, .int .u8 0, .int .u8 0, .int .u8 0, .int .u8 0, .int .u8 0, .int .u8 0, .int .u8 0, .int .u8 0, .int .u8 0, .int .u8 0, .int .u8 0, .int .u8 0, .int .u8 0, .int .u8 0, .int .u8 0, .int .u8 0, .int .u8 0, .int .u8 0, .int .u8 0, .int .u8 0, .int .u8 0, .int .u8 0, .int .u8 0, .int .u8 0, .int .u8 0, .int .u8 0, .int .u8 0, .int .u8 0, .int .u8 0, .int .u8 0, .int .u8 0, .int .u8 0, .int .u8 0, .int .u8 0, .int .u8 0, .int .u8 0, .int .u8 0, .int .u8 0, .int .u8 0, .int .u8 0, .int .u8 0, .int .u8 0, .int .u8 0, .int .u8 0, .int .u8 0, .int .u8 0, .int .u8 0, .int .u8 0, .int .u8 0, .int .u8 0, .int .u8 0, .int .u8 0, .int .u8 0, .int .u8 0, .int .u8 0, .int .u8 0, .int .u8 0, .int .u8 0] 72)).setCells w3.heap.size 0 C = w4 at HR4 HB4 HS4 ⊢
  have HC4 : Hid (w4.cell? ⟨g, 0, none⟩ = some (.int .i64 h)) := by rw [HB4.out.cell (p := ⟨g, 0, none⟩) HC0.out.1]; exact HC0.out.2
  clear HX HB3 HC0
  have HZ : Hid ((spellL (wdOf h) (macE h si so zs)).length = 64) := spellL_length _ _
  have hu75 := Tryd.underlying72
  have hi75 : (Tryd.prog.info? 72).map (·.size) = some C.length := by rw [HL.out]; exact size75
  go_region_held3 (fun v => v.rangeAt w3.heap.size 0 C ∧ v.cell? ⟨g, 0, none⟩ = some (.int .i64 h)) (first | exact ⟨HR4.out, HC4.out⟩ | go_keep | exact hS6) (first
    | (go_at_call 33; refine (msize g h w4.drew k (show w4.drew.cell? ⟨g, 0, none⟩ = some (.int .i64 h) from HC4.out)).mono ?_; rintro e5 w5 ⟨rfl, hw5⟩; obtain rfl := hw5.symm)
    | (go_at_call 58; refine (first_any k.out C _ w4.drew HC.out HZ.out).mono ?_; rintro e6 w6 ⟨b, rfl, ho6, hb6⟩; have hS6 : w6.rangeAt w3.heap.size 0 C ∧ w6.cell? ⟨g, 0, none⟩ = some (.int .i64 h) := ⟨fun j v hv => by rw [hb6.cell (p := ⟨w3.heap.size, 0 + j, none⟩) (show w3.heap.size < w4.heap.size by have := HS4.out; omega)]; exact HR4.out j v hv, by rw [hb6.cell (p := ⟨g, 0, none⟩) (show g < w4.heap.size from lt_of_cell HC4.out)]; exact HC4.out⟩))
  have HQ : Hid (w6.ownsRow w.heap.size 5 1 (.slice (some ⟨b, 0, none⟩) (szOf h) (szOf h)) (szOf h) (cellsU8 (macL h si so zs)) ∧ Below w.heap.size w w6) := ⟨owns_mono ho6 HB4.out.size, HB4.out.drew.trans (hb6.mono HB4.out.size)⟩
  clear ho6 hb6 hS6
  go_wp2
  go_ret
  exact ⟨b, rfl, HQ.out.1, HQ.out.2⟩
end Go.Proofs.YtioggmjocelolacDoor
namespace Go.Proofs.YtioggmjocelolacDoor
open Go.RowKit
set_option linter.unusedVariables false
set_option linter.unusedSimpArgs false

def dig (h : Int) (zs : List Int) : List Int := (spellL (wdOf h) (endW (wdOf h) (firstE h) 0 zs)).take (szOf h)
/-- The key's block. -/
def keyOf (h : Int) (key : List Int) : List Int := if key.length ≤ bsz (wdOf h) then key else dig h key
def keyCells (zs : List Int) : List Value := (List.range 128).map fun i => .int .u8 (fnz zs i)
theorem keyCells_length (zs : List Int) : (keyCells zs).length = 128 := by simp [keyCells]
theorem keyCells_at (zs : List Int) (j : Nat) (v : Value) (h : (keyCells zs)[j]? = some v) : j < 128 ∧ v = .int .u8 (fnz zs j) := by
  have hj : j < 128 := by
    by_cases hj : j < 128
    · exact hj
    · rw [List.getElem?_eq_none (by rw [keyCells_length]; omega)] at h; cases h
  refine ⟨hj, ?_⟩
  simp [keyCells, hj] at h
  exact h.symm
theorem key_range {w : World} {K : Nat} {ys : List Int} (hz : ∀ j, j < 128 → w.cell? ⟨K, j, none⟩ = some (.int .u8 0)) (hl : ys.length ≤ 128) : (w.setCells K 0 (cellsU8 ys)).rangeAt K 0 (keyCells ys) := by
  intro j v hv
  obtain ⟨hj, rfl⟩ := keyCells_at ys j v hv
  rw [Nat.zero_add]
  by_cases h : j < ys.length
  · have := World.cell?_setCells_in K (cellsU8 ys) 0 w (fun i hi => by rw [cellsU8_length] at hi; rw [Nat.zero_add, hz i (by omega)]; rfl) j (by rw [cellsU8_length]; exact h)
    rw [Nat.zero_add] at this
    rw [this]
    simp [cellsU8, fnz, List.getD, List.getElem?_eq_getElem h]
  · rw [World.cell?_setCells_out K (cellsU8 ys) 0 w ⟨K, j, none⟩ (fun _ _ => .inr (by rw [cellsU8_length]; show 0 + ys.length ≤ j; omega)), hz j hj]
    simp [fnz, List.getD, List.getElem?_eq_none (show ys.length ≤ j by omega)]
theorem size69 : (Tryd.prog.info? 67).map (·.size) = some 128 := by kernel_rfl
theorem zero69 : Tryd.zeroCells67 = (List.replicate 128 (Value.int .u8 0)).toArray := by kernel_rfl
/-- A key's block, as a value. -/
structure KbBig (T : List Value) : Prop where
  len : T.length = 128
  one : T.toArray.all (·.oneCell') = true
theorem KbBig.size {T : List Value} (h : KbBig T) : T.toArray.size = 128 := by simpa using h.len
theorem KbBig.info {T : List Value} (h : KbBig T) : (Tryd.prog.info? 67).map (·.size) = some T.toArray.size := by rw [h.size]; exact size69
theorem kbBig (zs : List Int) : KbBig (keyCells zs) := ⟨keyCells_length zs, all_oneCell_toArray (by
  intro v hv
  simp only [keyCells, List.mem_map] at hv
  obtain ⟨i, _, rfl⟩ := hv
  rfl)⟩
/-- The three new blocks of keyBlock. -/
theorem key_world (w : World) (T : List Value) (h : Int) (hT : TkBig T) (hh : T[0]? = some (.int .i64 h)) (W : World) (hW : W = ((w.alloc (.cells T.toArray 69)).alloc (.cells Tryd.zeroCells67 67)).alloc (.cells Tryd.zeroCells67 67)) :
    Below w.heap.size w W ∧ W.heap.size = w.heap.size + 3 ∧ W.rangeAt w.heap.size 0 T ∧ W.there w.heap.size 0 139 ∧ W.there (w.heap.size + 1) 0 128 ∧ W.there (w.heap.size + 1 + 1) 0 128 ∧ (∀ j, j < 128 → W.cell? ⟨w.heap.size + 1 + 1, j, none⟩ = some (.int .u8 0)) ∧ W.cell? ⟨w.heap.size, 0, none⟩ = some (.int .i64 h) := by
  subst hW
  have hz : Tryd.zeroCells67.size = 128 := by rw [zero69]; simp
  have hr : (((w.alloc (.cells T.toArray 69)).alloc (.cells Tryd.zeroCells67 67)).alloc (.cells Tryd.zeroCells67 67)).rangeAt w.heap.size 0 T := World.rangeAt_alloc (World.rangeAt_alloc (rangeAt_new w T.toArray 69) _) _
  have h2 : (w.alloc (.cells T.toArray 69)).heap.size = w.heap.size + 1 := by simp
  have h3 : ((w.alloc (.cells T.toArray 69)).alloc (.cells Tryd.zeroCells67 67)).heap.size = w.heap.size + 1 + 1 := by simp
  refine ⟨(((Below.refl _ _).alloc (Nat.le_refl _) _).alloc (by simp) _).alloc (by simp; omega) _, by simp, hr, World.there_alloc (World.there_alloc (there_new w T.toArray 69 139 (by rw [hT.size]; exact Nat.le_refl _)) _) _, ?_, ?_, ?_, hr 0 _ hh⟩
  · have := there_new (w.alloc (.cells T.toArray 69)) Tryd.zeroCells67 67 128 (by rw [hz]; exact Nat.le_refl _)
    rw [h2] at this
    exact World.there_alloc this _
  · have := there_new ((w.alloc (.cells T.toArray 69)).alloc (.cells Tryd.zeroCells67 67)) Tryd.zeroCells67 67 128 (by rw [hz]; exact Nat.le_refl _)
    rw [h3] at this
    exact this
  · intro j hj
    rw [World.cell?_alloc_at _ _ _ _ h3.symm, zero69]
    exact zero_lit 128 j hj

set_option maxHeartbeats 400000 in
set_option maxRecDepth 100000 in
theorem keyBlock_short (h : Int) (T : List Value) (n cap : Nat) (a : Option Addr) (key : List Int) (w : World) (HT0 : Hid (TkBig T)) (HTH : Hid (T[0]? = some (.int .i64 h))) (bs : Nat) (hblk : Hid (blockOf h = bs)) (hn : (n : Int) ≤ bs) (hbs : bs ≤ 128) (hv : Hid (View w (.slice a n cap) key)) :
    Calls Tryd.prog 49 #[.agg T.toArray, .slice a n cap] w fun e w' => e = .returned (.agg (keyCells key).toArray) ∧ Below w.heap.size w w' := by
  have HKL : Hid (key.length = n) := (view_bounds hv.out).1
  go_enter Tryd.func49, Tryd.ntmps49
  go_upto_region 2 with fail
  obtain ⟨w3, hw3⟩ : ∃ w3, w3 = ((w.alloc (.cells T.toArray 69)).alloc (.cells Tryd.zeroCells67 67)).alloc (.cells Tryd.zeroCells67 67) := ⟨_, rfl⟩
  have HW := key_world w T h HT0.out HTH.out w3 hw3
  rw [← hw3]
  have HW3 : Hid (Below w.heap.size w w3 ∧ w3.heap.size = w.heap.size + 3 ∧ w3.rangeAt w.heap.size 0 T ∧ w3.there w.heap.size 0 139 ∧ w3.there (w.heap.size + 1) 0 128 ∧ w3.there (w.heap.size + 1 + 1) 0 128 ∧ (∀ j, j < 128 → w3.cell? ⟨w.heap.size + 1 + 1, j, none⟩ = some (.int .u8 0)) ∧ w3.cell? ⟨w.heap.size, 0, none⟩ = some (.int .i64 h)) := HW
  have c0 : w3.cell? ⟨w.heap.size, 0, none⟩ = some (.int .i64 h) := HW.2.2.2.2.2.2.2
  clear HW hw3
  have hv3 : View w3 (.slice a n cap) key := hv.out.kept (fun q hq => HW3.out.1.block q hq)
  have hcp := copy_eq w3 (w.heap.size + 1 + 1) 0 128 128 a n cap n key (by omega) hv3 (there_part HW3.out.2.2.2.2.2.1 (by omega) (by omega))
  rw [List.take_of_length_le (by rw [HKL.out]; exact Nat.le_refl _)] at hcp
  have HR4 : Hid ((w3.setCells (w.heap.size + 1 + 1) 0 (cellsU8 key)).rangeAt (w.heap.size + 1 + 1) 0 (keyCells key)) := key_range HW3.out.2.2.2.2.2.2.1 (by rw [HKL.out]; omega)
  have HB4 : Hid (Below w.heap.size w (w3.setCells (w.heap.size + 1 + 1) 0 (cellsU8 key)) ∧ (w3.setCells (w.heap.size + 1 + 1) 0 (cellsU8 key)).there (w.heap.size + 1) 0 128) := ⟨below_setCells _ (by omega) _ _ _ HW3.out.1, World.there_setCells HW3.out.2.2.2.2.1 _ _ _⟩
  generalize w3.setCells (w.heap.size + 1 + 1) 0 (cellsU8 key) = w4 at hcp HR4 HB4
  obtain ⟨Y, HY⟩ : ∃ Y : List Value, Hid (Y = keyCells key) := ⟨_, (show _ = _ from rfl)⟩
  rw [← HY.out] at HR4
  have HG : Hid (KbBig Y) := by show KbBig Y; rw [HY.out]; exact kbBig _
  clear hv3 HW3
  go_upto_region 4 with (first | (go_at_call 55; refine (block_any h _).mono ?_; rintro e5 w5 ⟨rfl, hw5⟩; obtain rfl := hw5.symm; rw [hblk.out]) | fail)
  clear hcp c0
  go_wp2_with (first
    | (refine wpList_load_mid (by rfl) 67 (.tmp 5) (by rfl) (w.heap.size + 1 + 1) 0 (by rfl) Y _ HR4.out Tryd.underlying67 rfl (by rw [HG.out.len]; exact size69) ?_)
    | (refine wpList_store_mid (by rfl) 67 (.tmp 4) (.tmp 16) (by rfl) (w.heap.size + 1) 0 Y.toArray (by rfl) (by rfl) (by rw [HG.out.size]; exact HB4.out.2) HG.out.info HG.out.one ?_)
    | fail)
  have hl := run_loadVar_mid (P := Tryd.prog) (w4.setCells (w.heap.size + 1) 0 Y) (w.heap.size + 1) 0 67 Y _ (World.rangeAt_setCells_same w4 (w.heap.size + 1) 0 Y (by rw [HG.out.len]; exact HB4.out.2)) Tryd.underlying67 rfl (by rw [HG.out.len]; exact size69)
  refine bodyPost_ret (v := .agg Y.toArray) ?_ rfl ⟨by rw [HY.out], below_setCells _ (by omega) _ _ _ HB4.out.1⟩
  rw [results_cell1 Tryd.results49]
  simp [Act.put, asAddr, hl]

set_option maxHeartbeats 400000 in
set_option maxRecDepth 100000 in
theorem keyBlock_long (h : Int) (n cap : Nat) (a : Option Addr) (key : List Int) (w : World) (k : Hid (Known h)) (bs : Nat) (hbsE : Hid (bs = bsz (wdOf h))) (hn : (bs : Int) < n) (hn2 : (n : Int) ≤ 33554432) (hv : Hid (View w (.slice a n cap) key)) (hT : Hid (Tables w)) :
    Calls Tryd.prog 49 #[.agg (tkL h (wdOf h) (firstE h) (fun _ => 0) 0).toArray, .slice a n cap] w fun e w' => e = .returned (.agg (keyCells (dig h key)).toArray) ∧ Below w.heap.size w w' := by
  have HKL : Hid (key.length = n) := (view_bounds hv.out).1
  have hblk : Hid (blockOf h = bs) := by show blockOf h = bs; rw [hbsE.out]; exact k.out.block
  obtain ⟨T, HTT⟩ : ∃ T : List Value, Hid (T = tkL h (wdOf h) (firstE h) (fun _ => 0) 0) := ⟨_, (show _ = _ from rfl)⟩
  rw [← HTT.out]
  have HT0 : Hid (TkBig T) := by show TkBig T; rw [HTT.out]; exact tkBig _ _ _ _ _
  have HTH : Hid (T[0]? = some (.int .i64 h)) := by show T[0]? = _; rw [HTT.out]; rfl
  go_enter Tryd.func49, Tryd.ntmps49
  go_upto_region 2 with fail
  obtain ⟨w3, hw3⟩ : ∃ w3, w3 = ((w.alloc (.cells T.toArray 69)).alloc (.cells Tryd.zeroCells67 67)).alloc (.cells Tryd.zeroCells67 67) := ⟨_, rfl⟩
  have HW := key_world w T h HT0.out HTH.out w3 hw3
  rw [← hw3]
  have HW3 : Hid (Below w.heap.size w w3 ∧ w3.heap.size = w.heap.size + 3 ∧ w3.rangeAt w.heap.size 0 T ∧ w3.there w.heap.size 0 139 ∧ w3.there (w.heap.size + 1) 0 128 ∧ w3.there (w.heap.size + 1 + 1) 0 128 ∧ (∀ j, j < 128 → w3.cell? ⟨w.heap.size + 1 + 1, j, none⟩ = some (.int .u8 0)) ∧ w3.cell? ⟨w.heap.size, 0, none⟩ = some (.int .i64 h)) := HW
  have c0 : w3.cell? ⟨w.heap.size, 0, none⟩ = some (.int .i64 h) := HW.2.2.2.2.2.2.2
  clear HW hw3
  have HADD : Hid (Calls Tryd.prog 38 #[.pointer (some ⟨w.heap.size, 0, none⟩), .slice a n cap] w3 fun e w' => e = .returned (.tuple #[]) ∧ Touch w3 w' w.heap.size 0 139 ∧ Rep w' w.heap.size 0 h (wdOf h) (firstE h) 0 key) := by
    have hr : Rep w3 w.heap.size 0 h (wdOf h) (firstE h) 0 [] := rep_nil (TK.of (half := fun _ => 0) (by rw [← HTT.out]; exact HW3.out.2.2.1) HW3.out.2.2.2.1) (Nat.zero_mod _)
    have hvb := hv.out
    obtain ⟨a', c', e', q1, q2, q3, q4⟩ := hv.out
    exact add_rep (wdOf h) w.heap.size 0 h (firstE h) 0 [] key _ w3 k.out.block hr (hvb.kept (fun q hq => HW3.out.1.block q hq)) (fun b' off l c2 e => by
      rcases q4 with rfl | ⟨b2, p2, e3, hc⟩
      · exfalso; have := HKL.out; simp at this; omega
      · left
        have hlt := lt_of_cell (hc 0 (by have := HKL.out; omega))
        rw [e] at e'
        injection e' with e4 _ _
        rw [e3] at e4
        injection e4 with e4
        injection e4 with e4 _
        simp at hlt
        omega) (hT.out.below HW3.out.1 hT.out.size) hT.out.size (by have := HKL.out; simp; omega)
  go_wp2_with (first
    | (go_at_call 55; refine (block_any h _).mono ?_; rintro e5 w5 ⟨rfl, hw5⟩; obtain rfl := hw5.symm; rw [hblk.out])
    | (go_at_call 38; refine HADD.out.mono ?_))
  rintro e4 w4 ⟨rfl, ht4, hr4⟩
  have hne1 : ∀ x : Nat, w.heap.size + 1 + x ≠ w.heap.size := fun x => by omega
  have HR4 : Hid (Rep w4 w.heap.size 0 h (wdOf h) (firstE h) 0 key) := hr4
  have HX4 : Hid (Touch w3 w4 w.heap.size 0 139 ∧ Below w.heap.size w w4) := ⟨ht4, HW3.out.1.trans (ht4.toBelow (Nat.le_refl _) HW3.out.1.size)⟩
  clear ht4 hr4 HADD c0
  go_wp2_with (first | (go_at_call 75; refine (finish_rep (wdOf h) w.heap.size 0 h (firstE h) 0 key w4 k.out.block HR4.out (by have := HKL.out; omega) (hT.out.below HX4.out.2 hT.out.size) hT.out.size).mono ?_))
  rintro e5 w5 ⟨rfl, ht5, half5, hk5⟩
  obtain ⟨z1, HZ1⟩ : ∃ z1 : List Int, Hid (z1 = spellL (wdOf h) (endW (wdOf h) (firstE h) 0 key)) := ⟨_, (show _ = _ from rfl)⟩
  have HZL : Hid (z1.length = 64) := by show z1.length = 64; rw [HZ1.out]; exact spellL_length _ _
  obtain ⟨C, HC⟩ : ∃ C : List Value, Hid (C = cellsU8 z1) := ⟨_, (show _ = _ from rfl)⟩
  rw [spellCells_eq, ← HZ1.out, ← HC.out]
  have HL : Hid (C.length = 64) := by show C.length = 64; rw [HC.out, cellsU8_length]; exact HZL.out
  have HLA : Hid (C.toArray.size = 64) := by show C.toArray.size = 64; simpa using HL.out
  have HO : Hid (C.toArray.all (·.oneCell') = true) := all_oneCell_toArray (by rw [HC.out]; exact cellsU8_one _)
  have HX : Hid ((w5.alloc (.cells #[.int .u8 0, .int .u8 0, .int .u8 0, .int .u8 0, .int .u8 0, .int .u8 0, .int .u8 0, .int .u8 0, .int .u8 0, .int .u8 0, .int .u8 0, .int .u8 0, .int .u8 0, .int .u8 0, .int .u8 0, .int .u8 0, .int .u8 0, .int .u8 0, .int .u8 0, .int .u8 0, .int .u8 0, .int .u8 0, .int .u8 0, .int .u8 0, .int .u8 0, .int .u8 0, .int .u8 0, .int .u8 0, .int .u8 0, .int .u8 0, .int .u8 0, .int .u8 0, .int .u8 0, .int .u8 0, .int .u8 0, .int .u8 0, .int .u8 0, .int .u8 0, .int .u8 0, .int .u8 0, .int .u8 0, .int .u8 0, .int .u8 0, .int .u8 0, .int .u8 0, .int .u8 0, .int .u8 0, .int .u8 0, .int .u8 0, .int .u8 0, .int .u8 0, .int .u8 0, .int .u8 0, .int .u8 0, .int .u8 0, .int .u8 0, .int .u8 0, .int .u8 0, .int .u8 0, .int .u8 0, .int .u8 0, .int .u8 0, .int .u8 0, .int .u8 0] 72)).there w5.heap.size 0 64) := there_new w5 _ 72 64 (by decide)
  have HT35 : Hid (Touch w3 w5 w.heap.size 0 139) := HX4.out.1.trans ht5
  have HB5 : Hid (Below w.heap.size w w5) := HW3.out.1.trans (HT35.out.toBelow (Nat.le_refl _) HW3.out.1.size)
  have HC5 : Hid (w5.cell? ⟨w.heap.size, 0, none⟩ = some (.int .i64 h)) := hk5.hash
  clear ht5 hk5 HX4 HR4
  go_upto_region 7 with (first
    | (refine wpList_store_mid (by rfl) 72 (.tmp 6) (.tmp 19) (by rfl) w5.heap.size 0 C.toArray (by rfl) (by rfl) (by rw [HLA.out]; exact HX.out) (by rw [HLA.out]; exact size75) HO.out ?_)
    | fail)
  have HR6 : Hid (((w5.alloc (.cells #[.int .u8 0, .int .u8 0, .int .u8 0, .int .u8 0, .int .u8 0, .int .u8 0, .int .u8 0, .int .u8 0, .int .u8 0, .int .u8 0, .int .u8 0, .int .u8 0, .int .u8 0, .int .u8 0, .int .u8 0, .int .u8 0, .int .u8 0, .int .u8 0, .int .u8 0, .int .u8 0, .int .u8 0, .int .u8 0, .int .u8 0, .int .u8 0, .int .u8 0, .int .u8 0, .int .u8 0, .int .u8 0, .int .u8 0, .int .u8 0, .int .u8 0, .int .u8 0, .int .u8 0, .int .u8 0, .int .u8 0, .int .u8 0, .int .u8 0, .int .u8 0, .int .u8 0, .int .u8 0, .int .u8 0, .int .u8 0, .int .u8 0, .int .u8 0, .int .u8 0, .int .u8 0, .int .u8 0, .int .u8 0, .int .u8 0, .int .u8 0, .int .u8 0, .int .u8 0, .int .u8 0, .int .u8 0, .int .u8 0, .int .u8 0, .int .u8 0, .int .u8 0, .int .u8 0, .int .u8 0, .int .u8 0, .int .u8 0, .int .u8 0, .int .u8 0] 72)).setCells w5.heap.size 0 C).rangeAt w5.heap.size 0 C) := World.rangeAt_setCells_same _ _ _ _ (by rw [HL.out]; exact HX.out)
  have HB6 : Hid (Below w5.heap.size w5 ((w5.alloc (.cells #[.int .u8 0, .int .u8 0, .int .u8 0, .int .u8 0, .int .u8 0, .int .u8 0, .int .u8 0, .int .u8 0, .int .u8 0, .int .u8 0, .int .u8 0, .int .u8 0, .int .u8 0, .int .u8 0, .int .u8 0, .int .u8 0, .int .u8 0, .int .u8 0, .int .u8 0, .int .u8 0, .int .u8 0, .int .u8 0, .int .u8 0, .int .u8 0, .int .u8 0, .int .u8 0, .int .u8 0, .int .u8 0, .int .u8 0, .int .u8 0, .int .u8 0, .int .u8 0, .int .u8 0, .int .u8 0, .int .u8 0, .int .u8 0, .int .u8 0, .int .u8 0, .int .u8 0, .int .u8 0, .int .u8 0, .int .u8 0, .int .u8 0, .int .u8 0, .int .u8 0, .int .u8 0, .int .u8 0, .int .u8 0, .int .u8 0, .int .u8 0, .int .u8 0, .int .u8 0, .int .u8 0, .int .u8 0, .int .u8 0, .int .u8 0, .int .u8 0, .int .u8 0, .int .u8 0, .int .u8 0, .int .u8 0, .int .u8 0, .int .u8 0, .int .u8 0] 72)).setCells w5.heap.size 0 C)) := below_setCells _ (Nat.le_refl _) _ _ _ ((Below.refl _ _).alloc (Nat.le_refl _) _)
  generalize (w5.alloc (.cells #[.int .u8 0, .int .u8 0, .int .u8 0, .int .u8 0, .int .u8 0, .int .u8 0, .int .u8 0, .int .u8 0, .int .u8 0, .int .u8 0, .int .u8 0, .int .u8 0, .int .u8 0, .int .u8 0, .int .u8 0, .int .u8 0, .int .u8 0, .int .u8 0, .int .u8 0, .int .u8 0, .int .u8 0, .int .u8 0, .int .u8 0, .int .u8 0, .int .u8 0, .int .u8 0, .int .u8 0, .int .u8 0, .int .u8 0, .int .u8 0, .int .u8 0, .int .u8 0, .int .u8 0, .int .u8 0, .int .u8 0, .int .u8 0, .int .u8 0, .int .u8 0, .int .u8 0, .int .u8 0, .int .u8 0, .int .u8 0, .int .u8 0, .int .u8 0, .int .u8 0, .int .u8 0, .int .u8 0, .int .u8 0, .int .u8 0, .int .u8 0, .int .u8 0, .int .u8 0, .int .u8 0, .int .u8 0, .int .u8 0, .int .u8 0, .int .u8 0, .int .u8 0, .int .u8 0, .int .u8 0, .int .u8 0, .int .u8 0, .int .u8 0, .int .u8 0] 72)).setCells w5.heap.size 0 C = w6 at HR6 HB6 ⊢
  have hs5 : w3.heap.size ≤ w5.heap.size := HT35.out.size
  have hs3 := HW3.out.2.1
  have HTR : Hid (w6.there (w.heap.size + 1) 0 128 ∧ w6.there (w.heap.size + 1 + 1) 0 128 ∧ (∀ j, j < 128 → w6.cell? ⟨w.heap.size + 1 + 1, j, none⟩ = some (.int .u8 0))) := by
    have hth : ∀ b, w.heap.size < b → b < w3.heap.size → w3.there b 0 128 → w6.there b 0 128 := fun b hb hb3 ht j hj => by
      rw [HB6.out.cell (p := ⟨b, 0 + j, none⟩) (by show b < w5.heap.size; omega), HB6.out.frozen (p := ⟨b, 0 + j, none⟩) (by show b < w5.heap.size; omega)]
      exact HT35.out.thereFar ht hb3 (by omega) j hj
    refine ⟨hth _ (by omega) (by omega) HW3.out.2.2.2.2.1, hth _ (by omega) (by omega) HW3.out.2.2.2.2.2.1, fun j hj => ?_⟩
    rw [HB6.out.cell (p := ⟨w.heap.size + 1 + 1, j, none⟩) (by show w.heap.size + 1 + 1 < w5.heap.size; omega), HT35.out.far (p := ⟨w.heap.size + 1 + 1, j, none⟩) (by show w.heap.size + 1 + 1 < w3.heap.size; omega) (by show w.heap.size + 1 + 1 ≠ w.heap.size; omega)]
    exact HW3.out.2.2.2.2.2.2.1 j hj
  have c6 : w6.cell? ⟨w.heap.size, 0, none⟩ = some (.int .i64 h) := by rw [HB6.out.cell (p := ⟨w.heap.size, 0, none⟩) (by show w.heap.size < w5.heap.size; omega)]; exact HC5.out
  have HB6' : Hid (Below w.heap.size w w6) := HB5.out.trans (HB6.out.mono HB5.out.size)
  clear hs5 hs3 HX
  obtain ⟨m, HM⟩ : ∃ m : Nat, Hid (m = szOf h) := ⟨_, (show _ = _ from rfl)⟩
  have hm : (m : Int) ≤ 64 := by rw [HM.out]; have := szOf_le k.out; omega
  have hm0 : (0 : Int) ≤ (m : Int) := by omega
  have hcp := copy_eq w6.drew (w.heap.size + 1 + 1) 0 128 128 (some ⟨w5.heap.size, 0, none⟩) m 64 m (z1.take m) (by omega) ((Sm.refl w6).drew.view (view_cells HR6.out HC.out HZL.out (show m ≤ 64 by omega))) (there_part (w := w6.drew) HTR.out.2.1 (by omega) (by omega))
  rw [List.take_take, Nat.min_self] at hcp
  have hz1l : (z1.take m).length ≤ 128 := by rw [List.length_take]; omega
  have HR7 : Hid ((w6.drew.setCells (w.heap.size + 1 + 1) 0 (cellsU8 (z1.take m))).rangeAt (w.heap.size + 1 + 1) 0 (keyCells (z1.take m))) := key_range (w := w6.drew) HTR.out.2.2 hz1l
  have HB7 : Hid (Below w.heap.size w (w6.drew.setCells (w.heap.size + 1 + 1) 0 (cellsU8 (z1.take m))) ∧ (w6.drew.setCells (w.heap.size + 1 + 1) 0 (cellsU8 (z1.take m))).there (w.heap.size + 1) 0 128) := ⟨below_setCells _ (by omega) _ _ _ HB6'.out.drew, World.there_setCells (w := w6.drew) HTR.out.1 _ _ _⟩
  have hS7 : (w6.drew.setCells (w.heap.size + 1 + 1) 0 (cellsU8 (z1.take m))).cell? ⟨w.heap.size, 0, none⟩ = some (.int .i64 h) := by
    rw [World.cell?_setCells_out _ _ _ _ ⟨w.heap.size, 0, none⟩ (fun e _ => absurd e (by show w.heap.size ≠ w.heap.size + 1 + 1; omega))]
    exact c6
  generalize w6.drew.setCells (w.heap.size + 1 + 1) 0 (cellsU8 (z1.take m)) = w7 at hcp HR7 HB7 hS7
  obtain ⟨Y, HY⟩ : ∃ Y : List Value, Hid (Y = keyCells (z1.take m)) := ⟨_, (show _ = _ from rfl)⟩
  rw [← HY.out] at HR7
  have HG : Hid (KbBig Y) := by show KbBig Y; rw [HY.out]; exact kbBig _
  clear hz1l
  go_region_held3 (fun u => u.cell? ⟨w.heap.size, 0, none⟩ = some (.int .i64 h)) (first | exact c6 | exact hS7 | go_keep) (first
    | (go_at_call 46; refine (size_known k.out _).mono ?_; rintro e8 w8 ⟨rfl, hw8⟩; obtain rfl := hw8.symm; rw [← HM.out]))
  clear hcp c6 hS7
  go_wp2_with (first
    | (refine wpList_load_mid (by rfl) 67 (.tmp 5) (by rfl) (w.heap.size + 1 + 1) 0 (by rfl) Y _ HR7.out Tryd.underlying67 rfl (by rw [HG.out.len]; exact size69) ?_)
    | (refine wpList_store_mid (by rfl) 67 (.tmp 4) (.tmp 26) (by rfl) (w.heap.size + 1) 0 Y.toArray (by rfl) (by rfl) (by rw [HG.out.size]; exact HB7.out.2) HG.out.info HG.out.one ?_)
    | fail)
  have hl := run_loadVar_mid (P := Tryd.prog) (w7.setCells (w.heap.size + 1) 0 Y) (w.heap.size + 1) 0 67 Y _ (World.rangeAt_setCells_same w7 (w.heap.size + 1) 0 Y (by rw [HG.out.len]; exact HB7.out.2)) Tryd.underlying67 rfl (by rw [HG.out.len]; exact size69)
  refine bodyPost_ret (v := .agg Y.toArray) ?_ rfl ⟨by rw [HY.out, dig, ← HZ1.out, ← HM.out], below_setCells _ (by omega) _ _ _ HB7.out.1⟩
  rw [results_cell1 Tryd.results49]
  simp [Act.put, asAddr, hl]

/-- keyBlock. -/
theorem keyBlock_any (h : Int) (v : Value) (key : List Int) (w : World) (k : Known h) (hv : View w v key) (hT : Tables w) (hl : key.length ≤ 33554432) :
    Calls Tryd.prog 49 #[.agg (tkL h (wdOf h) (firstE h) (fun _ => 0) 0).toArray, v] w fun e w' => e = .returned (.agg (keyCells (keyOf h key)).toArray) ∧ Below w.heap.size w w' := by
  have hvv := hv
  obtain ⟨a, cap, rfl, h1⟩ := hv
  have hb : bsz (wdOf h) ≤ 128 := by cases wdOf h <;> decide
  by_cases hs : key.length ≤ bsz (wdOf h)
  · rw [keyOf, if_pos hs]
    exact keyBlock_short h _ key.length cap a key w (tkBig _ _ _ _ _) rfl (bsz (wdOf h)) k.block (by omega) hb hvv
  · rw [keyOf, if_neg hs]
    exact keyBlock_long h key.length cap a key w k (bsz (wdOf h)) rfl (by omega) (by omega) hvv hT
end Go.Proofs.YtioggmjocelolacDoor
namespace Go.Proofs.YtioggmjocelolacDoor
open Go.RowKit
set_option linter.unusedVariables false
set_option linter.unusedSimpArgs false

/-- A block's bytes, each exclusive-or a mask. -/
def maskF (zs : List Int) (mask : Int) (i : Nat) : Int := bits .xor .u8 (fnz zs i) mask

set_option maxHeartbeats 800000 in
set_option maxRecDepth 100000 in
theorem behind64 (h : Int) (s : Eight) (half : Nat → Int) (fed : Nat) (zs : List Int) (mask : Int) (w : World) (hblk : blockOf h = 64) (hT : Hid (Tables w)) :
    Calls Tryd.prog 50 #[.agg (tkL h false s half fed).toArray, .agg (keyCells zs).toArray, .int .u8 mask] w fun e w' => e = .returned (.agg (TT false (maskF zs mask) s 1).cells.toArray) ∧ Below w.heap.size w w' := by
  obtain ⟨T, HTT⟩ : ∃ T : List Value, Hid (T = tkL h false s half fed) := ⟨_, (show _ = _ from rfl)⟩
  obtain ⟨Y, HYY⟩ : ∃ Y : List Value, Hid (Y = keyCells zs) := ⟨_, (show _ = _ from rfl)⟩
  rw [← HTT.out, ← HYY.out]
  go_enter Tryd.func50, Tryd.ntmps50
  go_upto_region 1 with fail
  obtain ⟨w3, hw3⟩ : ∃ w3, w3 = ((w.alloc (.cells T.toArray 69)).alloc (.cells Y.toArray 67)).alloc (.cells #[.int .u64 0, .int .u64 0, .int .u64 0, .int .u64 0, .int .u64 0, .int .u64 0, .int .u64 0, .int .u64 0] 66) := ⟨_, rfl⟩
  rw [← hw3]
  have HW3 : Hid (Below w.heap.size w w3 ∧ TK w3 w.heap.size 0 h false s half fed ∧ w3.there (w.heap.size + 1) 0 128 ∧ (∀ j, j < 128 → w3.cell? ⟨w.heap.size + 1, j, none⟩ = some (.int .u8 (if j < 0 then maskF zs mask j else fnz zs j))) ∧ w3.there (w.heap.size + 1 + 1) 0 8 ∧ w3.heap.size = w.heap.size + 3) := by
    subst hw3
    have h2 : (w.alloc (.cells T.toArray 69)).heap.size = w.heap.size + 1 := by simp
    have h3 : ((w.alloc (.cells T.toArray 69)).alloc (.cells Y.toArray 67)).heap.size = w.heap.size + 1 + 1 := by simp
    refine ⟨(((Below.refl _ _).alloc (Nat.le_refl _) _).alloc (by simp) _).alloc (by simp; omega) _, TK.of ?_ ?_, ?_, ?_, ?_, by simp⟩
    · rw [← HTT.out]
      exact World.rangeAt_alloc (World.rangeAt_alloc (rangeAt_new w T.toArray 69) _) _
    · exact World.there_alloc (World.there_alloc (there_new w T.toArray 69 139 (by rw [HTT.out, tkArr_size]; exact Nat.le_refl _)) _) _
    · have := there_new (w.alloc (.cells T.toArray 69)) Y.toArray 67 128 (by rw [HYY.out, (kbBig zs).size]; exact Nat.le_refl _)
      rw [h2] at this
      exact World.there_alloc this _
    · intro j hj
      rw [World.cell?_alloc_past _ _ _ (by rw [h3]; omega), World.cell?_alloc_at _ _ _ _ h2.symm, HYY.out, if_neg (by omega)]
      simp [keyCells, hj]
    · have := there_new ((w.alloc (.cells T.toArray 69)).alloc (.cells Y.toArray 67)) #[.int .u64 0, .int .u64 0, .int .u64 0, .int .u64 0, .int .u64 0, .int .u64 0, .int .u64 0, .int .u64 0] 66 8 (by decide)
      rw [h3] at this
      exact this
  clear hw3
  go_wp2
  go_loopw [8] (fun v wr => ∃ q : Nat, q ≤ 128 ∧ v = .int .i64 q ∧ Hid (Below w.heap.size w wr) ∧ Hid (TK wr w.heap.size 0 h false s half fed) ∧ Hid (wr.there (w.heap.size + 1) 0 128) ∧ Hid (∀ j, j < 128 → wr.cell? ⟨w.heap.size + 1, j, none⟩ = some (.int .u8 (if j < q then maskF zs mask j else fnz zs j))) ∧ Hid (wr.there (w.heap.size + 1 + 1) 0 8 ∧ wr.heap.size = w.heap.size + 3)) (fun v _ => 128 - (intOf v).toNat)
  case atStart => exact ⟨0, by omega, rfl, HW3.out.1, HW3.out.2.1, HW3.out.2.2.1, HW3.out.2.2.2.1, HW3.out.2.2.2.2⟩
  case round =>
    obtain ⟨q, hq, rfl, HB, HK, HTH, HC, HS⟩ := hrel
    clear HW3
    by_cases hlt : q < 128
    · have c1 : wr.cell? ⟨w.heap.size + 1, q, none⟩ = some (.int .u8 (fnz zs q)) := by rw [HC.out q hlt, if_neg (by omega)]
      have f1 : wr.frozen? ⟨w.heap.size + 1, q, none⟩ = false := by have := (HTH.out q hlt).2; rw [Nat.zero_add] at this; exact this
      have hq1 : (q : Int) < 128 := by omega
      have hq0 : (0 : Int) ≤ (q : Int) := by omega
      go_wp2
      go_roundw
      case rel =>
        have ho : ∀ j, j ≠ q → (wr.setCell ⟨w.heap.size + 1, q, none⟩ (.int .u8 (maskF zs mask q))).cell? ⟨w.heap.size + 1, j, none⟩ = wr.cell? ⟨w.heap.size + 1, j, none⟩ := fun j hj => World.cell?_setCells_out (w.heap.size + 1) [_] q wr ⟨w.heap.size + 1, j, none⟩ (fun _ _ => by show j < q ∨ q + 1 ≤ j; omega)
        refine ⟨q + 1, by omega, by go_num, HB.out.setCell (by simp) _, HK.out.newer (b := w.heap.size + 1) (by omega) [_] q, World.there_setCells HTH.out _ q [_], fun j hj => ?_, ⟨World.there_setCells HS.out.1 _ q [_], by rw [← HS.out.2]; exact size_setCells (w.heap.size + 1) [_] q wr⟩⟩
        by_cases hjq : j = q
        · subst hjq
          rw [if_pos (by omega)]
          exact World.cell?_setCell_same' _ _ _ (by rw [c1]; rfl)
        · refine (ho j hjq).trans ?_
          rw [HC.out j hj]
          by_cases hl : j < q
          · rw [if_pos hl, if_pos (by omega)]
          · rw [if_neg hl, if_neg (by omega)]
      case measure => simp [intOf]; omega
    · obtain rfl : q = 128 := by omega
      have hgw : w.heap.size < wr.heap.size := by have := HS.out.2; omega
      have c0 : wr.cell? ⟨w.heap.size, 0, none⟩ = some (.int .i64 h) := HK.out.hash
      have cf : wr.cell? ⟨w.heap.size, 1, none⟩ = some (.func (.func 64) #[] #[]) := HK.out.fn
      have HV : Hid (View wr (.slice (some ⟨w.heap.size + 1, 0, none⟩) 64 128) ((List.range 64).map (maskF zs mask))) := by
        refine ⟨_, 128, by simp, by simp, by simp [maxLen], (fun e => by cases e), .inr ⟨w.heap.size + 1, 0, rfl, fun i hi => ?_⟩⟩
        have hi' : i < 64 := by simpa using hi
        rw [Nat.zero_add, HC.out i (by omega), if_pos (by omega)]
        simp [List.getD, hi']
      have HA : Hid (∀ v, Sm wr v → Calls Tryd.prog 64 #[.pointer (some ⟨w.heap.size, 2, none⟩), .slice (some ⟨w.heap.size + 1, 0, none⟩) 64 128] v fun e w' => e = .returned (.tuple #[]) ∧ Touch wr w' w.heap.size 2 8 ∧ w'.rangeAt w.heap.size 2 (TT false (maskF zs mask) s 1).cells) := by
        intro v hsm
        have hk' := HK.out.sm hsm
        refine (take_any false w.heap.size 2 _ ((List.range 64).map (maskF zs mask)) s v (by rw [hsm.heap]; exact hgw) (by have := hk'.st; rwa [Nat.zero_add] at this) (fun j hj => by have := hk'.there (2 + j) (by omega); rw [Nat.zero_add] at this; exact this) (hsm.view HV.out) (fun _ _ _ _ e => by injection e with e1 e2 e3; injection e1 with e1; injection e1 with e4 e5; left; omega) (hsm.tables (hT.out.below HB.out hT.out.size)) hT.out.size).mono ?_
        rintro e w' ⟨rfl, ht', hr'⟩
        rw [show ((List.range 64).map (maskF zs mask)).length / bsz false = 1 by simp [bsz], TT_congr false (B' := maskF zs mask) s 1 (fun j hj => by simp [bsz] at hj; simp [List.getD, hj])] at hr'
        exact ⟨rfl, (hsm.touch w.heap.size 2 8).trans ht', hr'⟩
      obtain ⟨E, HE⟩ : ∃ E : Eight, Hid (E = TT false (maskF zs mask) s 1) := ⟨_, (show _ = _ from rfl)⟩
      rw [← HE.out] at HA
      clear HC HV
      go_upto_region 6 with fail
      go_region_held3 (fun v => v.cell? ⟨w.heap.size, 0, none⟩ = some (.int .i64 h) ∧ v.cell? ⟨w.heap.size, 1, none⟩ = some (.func (.func 64) #[] #[])) (first | exact ⟨c0, cf⟩ | exact hS6 | go_keep) (first
        | (go_at_call 55; refine (block_any h _).mono ?_; rintro e5 w5 ⟨rfl, hw5⟩; obtain rfl := hw5.symm; rw [hblk])
        | (go_at_call 64; refine (HA.out wr.drew (Sm.refl wr).drew).mono ?_; rintro e6 w6 ⟨rfl, ht6, hr6⟩; have hS6 : w6.cell? ⟨w.heap.size, 0, none⟩ = some (.int .i64 h) ∧ w6.cell? ⟨w.heap.size, 1, none⟩ = some (.func (.func 64) #[] #[]) := ⟨by rw [ht6.cell 0 (by omega)]; exact c0, by rw [ht6.cell 1 (by omega)]; exact cf⟩))
      have HR6 : Hid (w6.rangeAt w.heap.size 2 E.cells) := hr6
      have HB6 : Hid (Below w.heap.size w w6 ∧ w6.there (w.heap.size + 1 + 1) 0 E.cells.toArray.size) := ⟨HB.out.trans (ht6.toBelow (Nat.le_refl _) HB.out.size), ht6.thereFar HS.out.1 (by have := HS.out.2; omega) (by omega)⟩
      have HZ : Hid ((Tryd.prog.info? 66).map (·.size) = some E.cells.toArray.size) := size68
      clear hr6 ht6 hS6 c0 cf HA
      go_wp2_with (first
        | (refine wpList_load_mid (by rfl) 66 (.tmp 26) (by rfl) w.heap.size 2 (by rfl) E.cells _ HR6.out Tryd.underlying66 rfl size68 ?_)
        | (refine wpList_store_mid (by rfl) 66 (.tmp 6) (.tmp 27) (by rfl) (w.heap.size + 1 + 1) 0 E.cells.toArray (by rfl) (by rfl) HB6.out.2 HZ.out (cellsE_one E) ?_)
        | fail)
      have hl := run_loadVar_mid (P := Tryd.prog) (w6.setCells (w.heap.size + 1 + 1) 0 E.cells) (w.heap.size + 1 + 1) 0 66 E.cells _ (World.rangeAt_setCells_same w6 (w.heap.size + 1 + 1) 0 E.cells HB6.out.2) Tryd.underlying66 rfl size68
      refine bodyPost_ret (v := .agg E.cells.toArray) ?_ rfl ⟨by rw [HE.out], below_setCells _ (by omega) _ _ _ HB6.out.1⟩
      rw [results_cell1 Tryd.results50]
      simp [Act.put, asAddr, hl]

set_option maxHeartbeats 800000 in
set_option maxRecDepth 100000 in
theorem behind128 (h : Int) (s : Eight) (half : Nat → Int) (fed : Nat) (zs : List Int) (mask : Int) (w : World) (hblk : blockOf h = 128) (hT : Hid (Tables w)) :
    Calls Tryd.prog 50 #[.agg (tkL h true s half fed).toArray, .agg (keyCells zs).toArray, .int .u8 mask] w fun e w' => e = .returned (.agg (TT true (maskF zs mask) s 1).cells.toArray) ∧ Below w.heap.size w w' := by
  obtain ⟨T, HTT⟩ : ∃ T : List Value, Hid (T = tkL h true s half fed) := ⟨_, (show _ = _ from rfl)⟩
  obtain ⟨Y, HYY⟩ : ∃ Y : List Value, Hid (Y = keyCells zs) := ⟨_, (show _ = _ from rfl)⟩
  rw [← HTT.out, ← HYY.out]
  go_enter Tryd.func50, Tryd.ntmps50
  go_upto_region 1 with fail
  obtain ⟨w3, hw3⟩ : ∃ w3, w3 = ((w.alloc (.cells T.toArray 69)).alloc (.cells Y.toArray 67)).alloc (.cells #[.int .u64 0, .int .u64 0, .int .u64 0, .int .u64 0, .int .u64 0, .int .u64 0, .int .u64 0, .int .u64 0] 66) := ⟨_, rfl⟩
  rw [← hw3]
  have HW3 : Hid (Below w.heap.size w w3 ∧ TK w3 w.heap.size 0 h true s half fed ∧ w3.there (w.heap.size + 1) 0 128 ∧ (∀ j, j < 128 → w3.cell? ⟨w.heap.size + 1, j, none⟩ = some (.int .u8 (if j < 0 then maskF zs mask j else fnz zs j))) ∧ w3.there (w.heap.size + 1 + 1) 0 8 ∧ w3.heap.size = w.heap.size + 3) := by
    subst hw3
    have h2 : (w.alloc (.cells T.toArray 69)).heap.size = w.heap.size + 1 := by simp
    have h3 : ((w.alloc (.cells T.toArray 69)).alloc (.cells Y.toArray 67)).heap.size = w.heap.size + 1 + 1 := by simp
    refine ⟨(((Below.refl _ _).alloc (Nat.le_refl _) _).alloc (by simp) _).alloc (by simp; omega) _, TK.of ?_ ?_, ?_, ?_, ?_, by simp⟩
    · rw [← HTT.out]
      exact World.rangeAt_alloc (World.rangeAt_alloc (rangeAt_new w T.toArray 69) _) _
    · exact World.there_alloc (World.there_alloc (there_new w T.toArray 69 139 (by rw [HTT.out, tkArr_size]; exact Nat.le_refl _)) _) _
    · have := there_new (w.alloc (.cells T.toArray 69)) Y.toArray 67 128 (by rw [HYY.out, (kbBig zs).size]; exact Nat.le_refl _)
      rw [h2] at this
      exact World.there_alloc this _
    · intro j hj
      rw [World.cell?_alloc_past _ _ _ (by rw [h3]; omega), World.cell?_alloc_at _ _ _ _ h2.symm, HYY.out, if_neg (by omega)]
      simp [keyCells, hj]
    · have := there_new ((w.alloc (.cells T.toArray 69)).alloc (.cells Y.toArray 67)) #[.int .u64 0, .int .u64 0, .int .u64 0, .int .u64 0, .int .u64 0, .int .u64 0, .int .u64 0, .int .u64 0] 66 8 (by decide)
      rw [h3] at this
      exact this
  clear hw3
  go_wp2
  go_loopw [8] (fun v wr => ∃ q : Nat, q ≤ 128 ∧ v = .int .i64 q ∧ Hid (Below w.heap.size w wr) ∧ Hid (TK wr w.heap.size 0 h true s half fed) ∧ Hid (wr.there (w.heap.size + 1) 0 128) ∧ Hid (∀ j, j < 128 → wr.cell? ⟨w.heap.size + 1, j, none⟩ = some (.int .u8 (if j < q then maskF zs mask j else fnz zs j))) ∧ Hid (wr.there (w.heap.size + 1 + 1) 0 8 ∧ wr.heap.size = w.heap.size + 3)) (fun v _ => 128 - (intOf v).toNat)
  case atStart => exact ⟨0, by omega, rfl, HW3.out.1, HW3.out.2.1, HW3.out.2.2.1, HW3.out.2.2.2.1, HW3.out.2.2.2.2⟩
  case round =>
    obtain ⟨q, hq, rfl, HB, HK, HTH, HC, HS⟩ := hrel
    clear HW3
    by_cases hlt : q < 128
    · have c1 : wr.cell? ⟨w.heap.size + 1, q, none⟩ = some (.int .u8 (fnz zs q)) := by rw [HC.out q hlt, if_neg (by omega)]
      have f1 : wr.frozen? ⟨w.heap.size + 1, q, none⟩ = false := by have := (HTH.out q hlt).2; rw [Nat.zero_add] at this; exact this
      have hq1 : (q : Int) < 128 := by omega
      have hq0 : (0 : Int) ≤ (q : Int) := by omega
      go_wp2
      go_roundw
      case rel =>
        have ho : ∀ j, j ≠ q → (wr.setCell ⟨w.heap.size + 1, q, none⟩ (.int .u8 (maskF zs mask q))).cell? ⟨w.heap.size + 1, j, none⟩ = wr.cell? ⟨w.heap.size + 1, j, none⟩ := fun j hj => World.cell?_setCells_out (w.heap.size + 1) [_] q wr ⟨w.heap.size + 1, j, none⟩ (fun _ _ => by show j < q ∨ q + 1 ≤ j; omega)
        refine ⟨q + 1, by omega, by go_num, HB.out.setCell (by simp) _, HK.out.newer (b := w.heap.size + 1) (by omega) [_] q, World.there_setCells HTH.out _ q [_], fun j hj => ?_, ⟨World.there_setCells HS.out.1 _ q [_], by rw [← HS.out.2]; exact size_setCells (w.heap.size + 1) [_] q wr⟩⟩
        by_cases hjq : j = q
        · subst hjq
          rw [if_pos (by omega)]
          exact World.cell?_setCell_same' _ _ _ (by rw [c1]; rfl)
        · refine (ho j hjq).trans ?_
          rw [HC.out j hj]
          by_cases hl : j < q
          · rw [if_pos hl, if_pos (by omega)]
          · rw [if_neg hl, if_neg (by omega)]
      case measure => simp [intOf]; omega
    · obtain rfl : q = 128 := by omega
      have hgw : w.heap.size < wr.heap.size := by have := HS.out.2; omega
      have c0 : wr.cell? ⟨w.heap.size, 0, none⟩ = some (.int .i64 h) := HK.out.hash
      have cf : wr.cell? ⟨w.heap.size, 1, none⟩ = some (.func (.func 65) #[] #[]) := HK.out.fn
      have HV : Hid (View wr (.slice (some ⟨w.heap.size + 1, 0, none⟩) 128 128) ((List.range 128).map (maskF zs mask))) := by
        refine ⟨_, 128, by simp, by simp, by simp [maxLen], (fun e => by cases e), .inr ⟨w.heap.size + 1, 0, rfl, fun i hi => ?_⟩⟩
        have hi' : i < 128 := by simpa using hi
        rw [Nat.zero_add, HC.out i (by omega), if_pos (by omega)]
        simp [List.getD, hi']
      have HA : Hid (∀ v, Sm wr v → Calls Tryd.prog 65 #[.pointer (some ⟨w.heap.size, 2, none⟩), .slice (some ⟨w.heap.size + 1, 0, none⟩) 128 128] v fun e w' => e = .returned (.tuple #[]) ∧ Touch wr w' w.heap.size 2 8 ∧ w'.rangeAt w.heap.size 2 (TT true (maskF zs mask) s 1).cells) := by
        intro v hsm
        have hk' := HK.out.sm hsm
        refine (take_any true w.heap.size 2 _ ((List.range 128).map (maskF zs mask)) s v (by rw [hsm.heap]; exact hgw) (by have := hk'.st; rwa [Nat.zero_add] at this) (fun j hj => by have := hk'.there (2 + j) (by omega); rw [Nat.zero_add] at this; exact this) (hsm.view HV.out) (fun _ _ _ _ e => by injection e with e1 e2 e3; injection e1 with e1; injection e1 with e4 e5; left; omega) (hsm.tables (hT.out.below HB.out hT.out.size)) hT.out.size).mono ?_
        rintro e w' ⟨rfl, ht', hr'⟩
        rw [show ((List.range 128).map (maskF zs mask)).length / bsz true = 1 by simp [bsz], TT_congr true (B' := maskF zs mask) s 1 (fun j hj => by simp [bsz] at hj; simp [List.getD, hj])] at hr'
        exact ⟨rfl, (hsm.touch w.heap.size 2 8).trans ht', hr'⟩
      obtain ⟨E, HE⟩ : ∃ E : Eight, Hid (E = TT true (maskF zs mask) s 1) := ⟨_, (show _ = _ from rfl)⟩
      rw [← HE.out] at HA
      clear HC HV
      go_upto_region 6 with fail
      go_region_held3 (fun v => v.cell? ⟨w.heap.size, 0, none⟩ = some (.int .i64 h) ∧ v.cell? ⟨w.heap.size, 1, none⟩ = some (.func (.func 65) #[] #[])) (first | exact ⟨c0, cf⟩ | exact hS6 | go_keep) (first
        | (go_at_call 55; refine (block_any h _).mono ?_; rintro e5 w5 ⟨rfl, hw5⟩; obtain rfl := hw5.symm; rw [hblk])
        | (go_at_call 65; refine (HA.out wr.drew (Sm.refl wr).drew).mono ?_; rintro e6 w6 ⟨rfl, ht6, hr6⟩; have hS6 : w6.cell? ⟨w.heap.size, 0, none⟩ = some (.int .i64 h) ∧ w6.cell? ⟨w.heap.size, 1, none⟩ = some (.func (.func 65) #[] #[]) := ⟨by rw [ht6.cell 0 (by omega)]; exact c0, by rw [ht6.cell 1 (by omega)]; exact cf⟩))
      have HR6 : Hid (w6.rangeAt w.heap.size 2 E.cells) := hr6
      have HB6 : Hid (Below w.heap.size w w6 ∧ w6.there (w.heap.size + 1 + 1) 0 E.cells.toArray.size) := ⟨HB.out.trans (ht6.toBelow (Nat.le_refl _) HB.out.size), ht6.thereFar HS.out.1 (by have := HS.out.2; omega) (by omega)⟩
      have HZ : Hid ((Tryd.prog.info? 66).map (·.size) = some E.cells.toArray.size) := size68
      clear hr6 ht6 hS6 c0 cf HA
      go_wp2_with (first
        | (refine wpList_load_mid (by rfl) 66 (.tmp 26) (by rfl) w.heap.size 2 (by rfl) E.cells _ HR6.out Tryd.underlying66 rfl size68 ?_)
        | (refine wpList_store_mid (by rfl) 66 (.tmp 6) (.tmp 27) (by rfl) (w.heap.size + 1 + 1) 0 E.cells.toArray (by rfl) (by rfl) HB6.out.2 HZ.out (cellsE_one E) ?_)
        | fail)
      have hl := run_loadVar_mid (P := Tryd.prog) (w6.setCells (w.heap.size + 1 + 1) 0 E.cells) (w.heap.size + 1 + 1) 0 66 E.cells _ (World.rangeAt_setCells_same w6 (w.heap.size + 1 + 1) 0 E.cells HB6.out.2) Tryd.underlying66 rfl size68
      refine bodyPost_ret (v := .agg E.cells.toArray) ?_ rfl ⟨by rw [HE.out], below_setCells _ (by omega) _ _ _ HB6.out.1⟩
      rw [results_cell1 Tryd.results50]
      simp [Act.put, asAddr, hl]

/-- behindKey. -/
theorem behind_any (wd : Bool) (h : Int) (s : Eight) (half : Nat → Int) (fed : Nat) (zs : List Int) (mask : Int) (w : World) (hblk : blockOf h = bsz wd) (hT : Tables w) :
    Calls Tryd.prog 50 #[.agg (tkL h wd s half fed).toArray, .agg (keyCells zs).toArray, .int .u8 mask] w fun e w' => e = .returned (.agg (TT wd (maskF zs mask) s 1).cells.toArray) ∧ Below w.heap.size w w' := by
  cases wd
  · exact behind64 h s half fed zs mask w hblk hT
  · exact behind128 h s half fed zs mask w hblk hT
end Go.Proofs.YtioggmjocelolacDoor
namespace Go.Proofs.YtioggmjocelolacDoor
variable {P : Program} {ops : Array Oper} {Q : Exit → Act → World → Prop} {md : Region.Mode}

/-- An operation that yields in whatever world is taken first; its slot is written out. -/
theorem take_at (i d : Nat) (v : Value) {oi : Oper} {fuel : Nat} {listed : Array Bool} {tmps : Array Value} {ds : List Deferred} {w : World} (hi : ops[i]? = some oi) (hd : oi.dst = some d)
    (hs : Region.noSelect ops = true) (hf : Region.free md ops listed i = true) (hr : (Region.ready md ops listed).contains i = true)
    (hQ : ∀ c a w, Q (.panic c) (a.put oi.dst v) w → Q (.panic c) a w) (hy : Yields P ops oi v ⟨tmps, ds⟩)
    (h : wpAny P md ops Q fuel (listed.setIfInBounds i true) ⟨tmps.setIfInBounds d v, ds⟩ w) : wpAny P md ops Q (fuel + 1) listed ⟨tmps, ds⟩ w := by
  refine wpAny_take hi hs hf hr hQ hy ?_
  rw [hd]
  exact h
variable {S : World → Prop}
/-- The same under what every world of the region meets. -/
theorem takeH_at (i d : Nat) (v : Value) {oi : Oper} {fuel : Nat} {listed : Array Bool} {tmps : Array Value} {ds : List Deferred} {w : World} (hi : ops[i]? = some oi) (hd : oi.dst = some d)
    (hs : Region.noSelect ops = true) (hf : Region.free md ops listed i = true) (hr : (Region.ready md ops listed).contains i = true)
    (hQ : ∀ c a w, Q (.panic c) (a.put oi.dst v) w → Q (.panic c) a w) (hS : S w) (hy : YieldsIf P ops S oi v ⟨tmps, ds⟩)
    (h : wpAnyH P md ops Q S fuel (listed.setIfInBounds i true) ⟨tmps.setIfInBounds d v, ds⟩ w) : wpAnyH P md ops Q S (fuel + 1) listed ⟨tmps, ds⟩ w := by
  refine wpAnyH_take hi hs hf hr hQ hy hS ?_
  rw [hd]
  exact h
end Go.Proofs.YtioggmjocelolacDoor
namespace Go.Proofs.YtioggmjocelolacDoor
open Go.RowKit
set_option linter.unusedVariables false
set_option linter.unusedSimpArgs false

/-- Where a Mac's two digests stand behind the key's block. -/
def stateOf (h : Int) (key : List Int) (mask : Int) : Eight := TT (wdOf h) (maskF (keyOf h key) mask) (firstE h) 1

theorem built73 (h : Int) (wd : Bool) (s : Eight) (half : Nat → Int) (fed : Nat) (E1 E2 : Eight) : Tryd.prog.built 71 [(0, .agg (tkL h wd s half fed).toArray), (1, .agg E1.cells.toArray), (2, .agg E2.cells.toArray)] = some (tkL h wd s half fed ++ (E1.cells ++ E2.cells)).toArray := by kernel_rfl
section
variable {P : Program} {ops : Array Oper} {Q : Exit → Act → World → Prop} {S : World → Prop}
theorem yieldsIf_build {op : Oper} {a : Act} (hw : Region.wanted op (yielded ops a.tmps) = true) (ty : TypeId) (parts : Array (Nat × Operand)) (ho : op.op = .build ty parts) (cells : Array Value) (hb : P.built ty (parts.map fun (i, x) => (i, a.eval x)).toList = some cells) : YieldsIf P ops S op (.agg cells) a :=
  .inl ⟨hw, fun w _ => by
    have hrun := run_build (P := P) w ty (parts.map fun (i, x) => (i, a.eval x)) cells hb
    unfold execOp
    simp only [ho, Sem.run_bind, hrun, Result.andThen_ok, Sem.run_pure]⟩
end

set_option maxHeartbeats 400000 in
set_option maxRecDepth 100000 in
/-- NewMac. -/
theorem newMac (h : Int) (v : Value) (key : List Int) (n cap : Nat) (a : Option Addr) (w : World) (k : Hid (Known h)) (hvn : v = .slice a n cap) (hn : (n : Int) ≤ 33554432) (hv : Hid (View w v key)) (hT : Hid (Tables w)) :
    Calls Tryd.prog 32 #[.int .i64 h, v] w fun e w' => ∃ g, e = .returned (.tuple #[.pointer (some ⟨g, 0, none⟩), .int .i64 0]) ∧ w.heap.size ≤ g ∧ MRep w' g h (stateOf h key 54) (stateOf h key 92) [] ∧ Below w.heap.size w w' := by
  subst hvn
  have HKL : Hid (key.length = n) := (view_bounds hv.out).1
  go_enter Tryd.func32, Tryd.ntmps32
  go_wp2_with (first | (go_at_call 45; refine (begin_any k.out w hT.out).mono ?_))
  rintro e1 w1 ⟨rfl, hb1⟩
  obtain ⟨T, HTT⟩ : ∃ T : List Value, Hid (T = tkL h (wdOf h) (firstE h) (fun _ => 0) 0) := ⟨_, (show _ = _ from rfl)⟩
  rw [← HTT.out]
  have HG : Hid (TkBig T) := by show TkBig T; rw [HTT.out]; exact tkBig _ _ _ _ _
  have HB1 : Hid (Below w.heap.size w w1) := hb1
  have HX : Hid ((w1.alloc (.cells Tryd.zeroCells69 69)).there w1.heap.size 0 139) := there_new w1 Tryd.zeroCells69 69 139 (by rw [cells71z, size71z]; exact Nat.le_refl _)
  clear hb1
  go_upto_region 6 with (first
    | (refine wpList_store_mid (by rfl) 69 (.tmp 6) (.tmp 13) (by rfl) w1.heap.size 0 T.toArray (by rfl) (by rfl) (by rw [HG.out.size]; exact HX.out) HG.out.info HG.out.one ?_)
    | fail)
  have HR2 : Hid (((w1.alloc (.cells Tryd.zeroCells69 69)).setCells w1.heap.size 0 T).rangeAt w1.heap.size 0 T ∧ ((w1.alloc (.cells Tryd.zeroCells69 69)).setCells w1.heap.size 0 T).heap.size = w1.heap.size + 1) := ⟨World.rangeAt_setCells_same _ _ _ _ (by rw [HG.out.len]; exact HX.out), by rw [size_setCells]; simp⟩
  have HB2 : Hid (Below w.heap.size w ((w1.alloc (.cells Tryd.zeroCells69 69)).setCells w1.heap.size 0 T)) := below_setCells _ HB1.out.size _ _ _ (HB1.out.alloc HB1.out.size _)
  generalize (w1.alloc (.cells Tryd.zeroCells69 69)).setCells w1.heap.size 0 T = w2 at HR2 HB2 ⊢
  have HA : Hid (Calls Tryd.prog 49 #[.agg T.toArray, .slice a n cap] w2 fun e w' => e = .returned (.agg (keyCells (keyOf h key)).toArray) ∧ Below w2.heap.size w2 w') := by
    show Calls _ _ _ _ _
    rw [HTT.out]
    exact keyBlock_any h _ key w2 k.out (hv.out.kept (fun q hq => HB2.out.block q hq)) (hT.out.below HB2.out hT.out.size) (by rw [HKL.out]; omega)
  clear HX
  go_wp2_with (first
    | (refine wpList_load_mid (by rfl) 69 (.tmp 6) (by rfl) w1.heap.size 0 (by rfl) T _ HR2.out.1 Tryd.underlying69 rfl (by rw [HG.out.len]; exact size71) ?_)
    | (go_at_call 49; refine HA.out.mono ?_))
  rintro e3 w3 ⟨rfl, hb3⟩
  obtain ⟨Y, HYY⟩ : ∃ Y : List Value, Hid (Y = keyCells (keyOf h key)) := ⟨_, (show _ = _ from rfl)⟩
  rw [← HYY.out]
  have HGY : Hid (KbBig Y) := by show KbBig Y; rw [HYY.out]; exact kbBig _
  have HB3 : Hid (Below w.heap.size w w3 ∧ w3.rangeAt w1.heap.size 0 T ∧ w1.heap.size < w3.heap.size) := ⟨HB2.out.trans (hb3.mono HB2.out.size), range_below HR2.out.1 hb3 (by rw [HR2.out.2]; omega), by have := hb3.size; have := HR2.out.2; omega⟩
  have HX3 : Hid ((w3.alloc (.cells Tryd.zeroCells67 67)).there w3.heap.size 0 128) := there_new w3 Tryd.zeroCells67 67 128 (by rw [zero69]; simp)
  clear hb3 HA
  go_upto_region 7 with (first
    | (refine wpList_store_mid (by rfl) 67 (.tmp 8) (.tmp 23) (by rfl) w3.heap.size 0 Y.toArray (by rfl) (by rfl) (by rw [HGY.out.size]; exact HX3.out) HGY.out.info HGY.out.one ?_)
    | fail)
  have HR4 : Hid (((w3.alloc (.cells Tryd.zeroCells67 67)).setCells w3.heap.size 0 Y).rangeAt w3.heap.size 0 Y ∧ ((w3.alloc (.cells Tryd.zeroCells67 67)).setCells w3.heap.size 0 Y).heap.size = w3.heap.size + 1) := ⟨World.rangeAt_setCells_same _ _ _ _ (by rw [HGY.out.len]; exact HX3.out), by rw [size_setCells]; simp⟩
  have HB4 : Hid (Below w3.heap.size w3 ((w3.alloc (.cells Tryd.zeroCells67 67)).setCells w3.heap.size 0 Y)) := below_setCells _ (Nat.le_refl _) _ _ _ ((Below.refl _ _).alloc (Nat.le_refl _) _)
  generalize (w3.alloc (.cells Tryd.zeroCells67 67)).setCells w3.heap.size 0 Y = w4 at HR4 HB4 ⊢
  have HT4 : Hid (w4.rangeAt w1.heap.size 0 T) := range_below HB3.out.2.1 HB4.out HB3.out.2.2
  have HB4' : Hid (Below w.heap.size w w4) := HB3.out.1.trans (HB4.out.mono HB3.out.1.size)
  have HTab : Hid (Tables w4) := hT.out.below HB4'.out hT.out.size
  have HL4 : Hid (w1.heap.size < w4.heap.size ∧ w3.heap.size < w4.heap.size) := ⟨by have := HB3.out.2.2; have := HR4.out.2; omega, by have := HR4.out.2; omega⟩
  obtain ⟨E1, HE1⟩ : ∃ E : Eight, Hid (E = stateOf h key 54) := ⟨_, (show _ = _ from rfl)⟩
  obtain ⟨E2, HE2⟩ : ∃ E : Eight, Hid (E = stateOf h key 92) := ⟨_, (show _ = _ from rfl)⟩
  have H54 : Hid (∀ u, Tables u → Calls Tryd.prog 50 #[.agg T.toArray, .agg Y.toArray, .int .u8 54] u fun e w' => e = .returned (.agg E1.cells.toArray) ∧ Below u.heap.size u w') := fun u hu => by
    rw [HTT.out, HYY.out, HE1.out]; exact behind_any (wdOf h) h (firstE h) (fun _ => 0) 0 (keyOf h key) 54 u k.out.block hu
  have H92 : Hid (∀ u, Tables u → Calls Tryd.prog 50 #[.agg T.toArray, .agg Y.toArray, .int .u8 92] u fun e w' => e = .returned (.agg E2.cells.toArray) ∧ Below u.heap.size u w') := fun u hu => by
    rw [HTT.out, HYY.out, HE2.out]; exact behind_any (wdOf h) h (firstE h) (fun _ => 0) 0 (keyOf h key) 92 u k.out.block hu
  have HSB : Hid (∀ u, Below w4.heap.size w4 u → u.rangeAt w1.heap.size 0 T ∧ u.rangeAt w3.heap.size 0 Y) := fun u hb => ⟨range_below HT4.out hb HL4.out.1, range_below HR4.out.1 hb HL4.out.2⟩
  have hu71 := Tryd.underlying69
  have hi71 : (Tryd.prog.info? 69).map (·.size) = some T.length := by rw [HG.out.len]; exact size71
  have hu69 := Tryd.underlying67
  have hi69 : (Tryd.prog.info? 67).map (·.size) = some Y.length := by rw [HGY.out.len]; exact size69
  have hlen := HG.out.len
  have HBT : Hid (Tryd.prog.built 71 [(0, .agg T.toArray), (1, .agg E1.cells.toArray), (2, .agg E2.cells.toArray)] = some (T ++ (E1.cells ++ E2.cells)).toArray) := by show _ = _; rw [HTT.out]; exact built73 _ _ _ _ _ _ _
  clear hlen
  refine wp_region_noPanic ?_
  refine wp_region_held_drew (S := fun u => Below w4.heap.size w4 u) (by kernel_rfl) ((Below.refl _ _).drew) (fun _ => ?_)
  refine takeH_at 0 24 (.agg T.toArray) rfl rfl (by kernel_rfl) (by kernel_rfl) (by kernel_rfl) (fun _ _ _ h => h) ((Below.refl _ _).drew) (yieldsIf_load_mid (by rfl) 69 (.tmp 6) rfl w1.heap.size 0 rfl T _ (fun u hu => (HSB.out u hu).1) Tryd.underlying69 rfl hi71) ?_
  simp only [List.setIfInBounds_toArray, List.set_cons_zero, List.set_cons_succ]
  refine takeH_at 1 25 (.agg T.toArray) rfl rfl (by kernel_rfl) (by kernel_rfl) (by kernel_rfl) (fun _ _ _ h => h) ((Below.refl _ _).drew) (yieldsIf_load_mid (by rfl) 69 (.tmp 6) rfl w1.heap.size 0 rfl T _ (fun u hu => (HSB.out u hu).1) Tryd.underlying69 rfl hi71) ?_
  simp only [List.setIfInBounds_toArray, List.set_cons_zero, List.set_cons_succ]
  refine takeH_at 2 26 (.agg Y.toArray) rfl rfl (by kernel_rfl) (by kernel_rfl) (by kernel_rfl) (fun _ _ _ h => h) ((Below.refl _ _).drew) (yieldsIf_load_mid (by rfl) 67 (.tmp 8) rfl w3.heap.size 0 rfl Y _ (fun u hu => (HSB.out u hu).2) Tryd.underlying67 rfl hi69) ?_
  simp only [List.setIfInBounds_toArray, List.set_cons_zero, List.set_cons_succ]
  refine takeH_at 4 28 (.agg T.toArray) rfl rfl (by kernel_rfl) (by kernel_rfl) (by kernel_rfl) (fun _ _ _ h => h) ((Below.refl _ _).drew) (yieldsIf_load_mid (by rfl) 69 (.tmp 6) rfl w1.heap.size 0 rfl T _ (fun u hu => (HSB.out u hu).1) Tryd.underlying69 rfl hi71) ?_
  simp only [List.setIfInBounds_toArray, List.set_cons_zero, List.set_cons_succ]
  refine takeH_at 5 29 (.agg Y.toArray) rfl rfl (by kernel_rfl) (by kernel_rfl) (by kernel_rfl) (fun _ _ _ h => h) ((Below.refl _ _).drew) (yieldsIf_load_mid (by rfl) 67 (.tmp 8) rfl w3.heap.size 0 rfl Y _ (fun u hu => (HSB.out u hu).2) Tryd.underlying67 rfl hi69) ?_
  simp only [List.setIfInBounds_toArray, List.set_cons_zero, List.set_cons_succ]
  refine wpAnyH_ready (rs := [3]) (by kernel_rfl) (by simp) ?_
  refine AllReadyH.cons rfl (fun K hK => ?_) AllReadyH.nil
  go_simp
  refine (H54.out w4.drew ((Sm.refl w4).drew.tables HTab.out)).mono ?_
  rintro e8 w8 ⟨rfl, hb8⟩
  have hB8 : Below w4.heap.size w4 w8 := ((Below.refl w4.heap.size w4).drew).trans (hb8.mono (Nat.le_refl _))
  clear hb8
  go_wp2_with fail
  refine hK.out _ _ hB8 (fun _ => ?_)
  clear hK K
  try simp only [List.setIfInBounds_toArray, List.set_cons_zero, List.set_cons_succ]
  refine wpAnyH_ready (rs := [6]) (by kernel_rfl) (by simp) ?_
  refine AllReadyH.cons rfl (fun K hK => ?_) AllReadyH.nil
  go_simp
  refine (H92.out w8 (HTab.out.below hB8 HTab.out.size)).mono ?_
  rintro e9 w9 ⟨rfl, hb9⟩
  have hB9 : Below w4.heap.size w4 w9 := hB8.trans (hb9.mono hB8.size)
  clear hb9
  go_wp2_with fail
  refine hK.out _ _ hB9 (fun _ => ?_)
  clear hK K
  try simp only [List.setIfInBounds_toArray, List.set_cons_zero, List.set_cons_succ]
  refine takeH_at 7 31 (.agg (T ++ (E1.cells ++ E2.cells)).toArray) rfl rfl (by kernel_rfl) (by kernel_rfl) (by kernel_rfl) (fun _ _ _ h => h) (hB9) (yieldsIf_build (by rfl) 71 #[(0, .tmp 24), (1, .tmp 27), (2, .tmp 30)] rfl _ (by simp only [List.map_toArray, List.map_cons, List.map_nil]; exact HBT.out)) ?_
  simp only [List.setIfInBounds_toArray, List.set_cons_zero, List.set_cons_succ]
  refine wpAnyH_ready (rs := [8]) (by kernel_rfl) (by simp) ?_
  refine AllReadyH.cons rfl (fun K hK => ?_) AllReadyH.nil
  go_simp
  have hB10 : Below w4.heap.size w4 (w9.alloc (.cells (T ++ (E1.cells ++ E2.cells)).toArray 71)) := hB9.alloc hB9.size _
  refine hK.out _ _ hB10 (fun _ => ?_)
  clear hK K
  try simp only [List.setIfInBounds_toArray, List.set_cons_zero, List.set_cons_succ]
  refine takeH_at 9 9 (.pointer (some ⟨w9.heap.size, 0, none⟩)) rfl rfl (by kernel_rfl) (by kernel_rfl) (by kernel_rfl) (fun _ _ _ h => h) (hB10) (Or.inl ⟨by rfl, fun w' hS' => by go_simp⟩) ?_
  simp only [List.setIfInBounds_toArray, List.set_cons_zero, List.set_cons_succ]
  refine wpAnyH_done (by kernel_rfl) ?_ _
  refine NoPanic.normal ?_
  have HX10 : Hid (TK (w9.alloc (.cells (T ++ (E1.cells ++ E2.cells)).toArray 71)) w9.heap.size 0 h (wdOf h) (firstE h) (fun _ => 0) 0 ∧ MacAt (w9.alloc (.cells (T ++ (E1.cells ++ E2.cells)).toArray 71)) w9.heap.size E1 E2) := by
    have hr := rangeAt_new w9 (T ++ (E1.cells ++ E2.cells)).toArray 71
    have hsz : (T ++ (E1.cells ++ E2.cells)).toArray.size = 155 := by have := HG.out.len; simp [Eight.cells_length]; omega
    have ht := there_new w9 (T ++ (E1.cells ++ E2.cells)).toArray 71 155 (by rw [hsz]; exact Nat.le_refl _)
    have hX : T ++ (E1.cells ++ E2.cells) = mkL h (wdOf h) (firstE h) (fun _ => 0) 0 E1 E2 := by rw [HTT.out]; rfl
    refine mk_of ?_ ht
    rw [← hX]
    exact hr
  have HB10 : Hid (Below w.heap.size w (w9.alloc (.cells (T ++ (E1.cells ++ E2.cells)).toArray 71)) ∧ w.heap.size ≤ w9.heap.size) := ⟨HB4'.out.trans (hB10.mono HB4'.out.size), Nat.le_trans HB4'.out.size hB9.size⟩
  generalize w9.alloc (.cells (T ++ (E1.cells ++ E2.cells)).toArray 71) = w10 at HX10 HB10 hB10 ⊢
  have HA : Hid (Calls Tryd.prog 51 #[.pointer (some ⟨w9.heap.size, 0, none⟩), .agg E1.cells.toArray] w10 fun e w' => e = .returned (.tuple #[]) ∧ Touch w10 w' w9.heap.size 0 139 ∧ TK w' w9.heap.size 0 h (wdOf h) E1 (fun _ => 0) (bsz (wdOf h))) := restart_any w9.heap.size h (firstE h) E1 (fun _ => 0) 0 w10 k HX10.out.1
  clear hB10 hB9 hB8 hu71 hi71 hu69 hi69
  go_wp2_with (first
    | (refine wpList_load_mid (by rfl) 66 (.tmp 36) (by rfl) w9.heap.size 139 (by rfl) E1.cells _ HX10.out.2.inner Tryd.underlying66 rfl size68 ?_)
    | (go_at_call 51; refine HA.out.mono ?_; rintro e11 w11 ⟨rfl, ht11, hk11⟩)
    | fail)
  go_ret2
  refine ⟨w9.heap.size, rfl, HB10.out.2, ⟨?_, ?_⟩, HB10.out.1.trans (ht11.toBelow HB10.out.2 HB10.out.1.size)⟩
  · rw [← HE1.out]
    exact rep_nil hk11 (Nat.mod_self _)
  · rw [← HE1.out, ← HE2.out]
    exact HX10.out.2.touch ht11

end Go.Proofs.YtioggmjocelolacDoor
namespace Go.Proofs.YtioggmjocelolacDoor
open Go.RowKit
set_option linter.unusedVariables false
set_option linter.unusedSimpArgs false

/-- The HMAC of a key and bytes. -/
def hmac (h : Int) (key zs : List Int) : List Int := macL h (stateOf h key 54) (stateOf h key 92) zs
theorem newMac_any (h : Int) (v : Value) (key : List Int) (w : World) (k : Known h) (hv : View w v key) (hl : key.length ≤ 33554432) (hT : Tables w) :
    Calls Tryd.prog 32 #[.int .i64 h, v] w fun e w' => ∃ g, e = .returned (.tuple #[.pointer (some ⟨g, 0, none⟩), .int .i64 0]) ∧ w.heap.size ≤ g ∧ MRep w' g h (stateOf h key 54) (stateOf h key 92) [] ∧ Below w.heap.size w w' := by
  have hvv := hv
  obtain ⟨a, cap, hvn, _⟩ := hv
  exact newMac h v key key.length cap a w k hvn (by omega) hvv hT
theorem parts_keep {w u : World} {g : Nat} {v : Value} {yss : List (List Int)} (h : Parts w g v yss) (hb : ∀ q, q < w.heap.size → u.heap[q]? = w.heap[q]?) : Parts u g v yss := by
  obtain ⟨a, c, e, h1, h2, h3⟩ := h
  refine ⟨a, c, e, h1, h2, ?_⟩
  rcases h3 with h3 | ⟨b, p, e2, h4, h5⟩
  · exact .inl h3
  · refine .inr ⟨b, p, e2, h4, fun i hi => ?_⟩
    obtain ⟨x, hx1, hx2, hx3⟩ := h5 i hi
    exact ⟨x, by rw [World.cell?_of_block (hb b (lt_of_cell hx1))]; exact hx1, hx2.kept hb, hx3⟩
set_option maxHeartbeats 800000 in
/-- digest.Code of what fits. -/
theorem dcode (h : Int) (kv : Value) (key : List Int) (yss : List (List Int)) (v : Value) (w : World) (k : Hid (Known h)) (hkv : Hid (View w kv key)) (hkl : Hid (key.length ≤ 33554432)) (hp : Hid (∀ u g, Below w.heap.size w u → w.heap.size ≤ g → Parts u g v yss)) (hT : Hid (Tables w)) (hs : Hid (yss.flatten.length ≤ 33554432)) :
    Calls Tryd.prog 10 #[.int .i64 h, kv, v] w fun e w' => ∃ b, e = .returned (.tuple #[.slice (some ⟨b, 0, none⟩) (szOf h) (szOf h), .int .i64 0]) ∧ w'.ownsRow w.heap.size 5 1 (.slice (some ⟨b, 0, none⟩) (szOf h) (szOf h)) (szOf h) (cellsU8 (hmac h key yss.flatten)) ∧ Below w.heap.size w w' := by
  obtain ⟨si, HSI⟩ : ∃ E : Eight, Hid (E = stateOf h key 54) := ⟨_, (show _ = _ from rfl)⟩
  obtain ⟨so, HSO⟩ : ∃ E : Eight, Hid (E = stateOf h key 92) := ⟨_, (show _ = _ from rfl)⟩
  have HN : Hid (Calls Tryd.prog 32 #[.int .i64 h, kv] w fun e w' => ∃ g, e = .returned (.tuple #[.pointer (some ⟨g, 0, none⟩), .int .i64 0]) ∧ w.heap.size ≤ g ∧ MRep w' g h si so [] ∧ Below w.heap.size w w') := by
    show Calls _ _ _ _ _
    rw [HSI.out, HSO.out]
    exact newMac_any h kv key w k.out hkv.out hkl.out hT.out
  go_enter Tryd.func10, Tryd.ntmps10
  go_wp2_with (first | (go_at_call 32; refine HN.out.mono ?_))
  rintro e1 w1 ⟨g, rfl, hg, hr1, hb1⟩
  have HR1 : Hid (MRep w1 g h si so [] ∧ Below w.heap.size w w1 ∧ w.heap.size ≤ g) := ⟨hr1, hb1, hg⟩
  have HP1 : Hid (Parts w1 g v yss) := hp.out w1 g hb1 hg
  have HT1 : Hid (Tables w1) := hT.out.below hb1 hT.out.size
  have hg4 : 4 ≤ g := Nat.le_trans hT.out.size hg
  clear hr1 hb1 hg
  go_wp2_with (first | (go_at_call 35; refine (mwrite g h si so [] yss v w1 k HR1.out.1 HP1 HT1 hg4 (by show _ ≤ _; have := hs.out; simpa using this)).mono ?_))
  rintro e2 w2 ⟨rfl, ht2, hr2⟩
  have HR2 : Hid (MRep w2 g h si so yss.flatten ∧ Below w.heap.size w w2) := ⟨hr2, HR1.out.2.1.trans (ht2.toBelow HR1.out.2.2 HR1.out.2.1.size)⟩
  have HT2 : Hid (Tables w2) := HT1.out.touch ht2 hg4
  clear ht2 hr2 HR1 HP1
  go_wp2_with (first | (go_at_call 36; refine (msum g h si so yss.flatten w2 k HR2.out.1 HT2 (by show _ ≤ _; have := hs.out; omega)).mono ?_))
  rintro e3 w3 ⟨b, rfl, ho3, hb3⟩
  have HQ : Hid (w3.ownsRow w.heap.size 5 1 (.slice (some ⟨b, 0, none⟩) (szOf h) (szOf h)) (szOf h) (cellsU8 (hmac h key yss.flatten)) ∧ Below w.heap.size w w3) := ⟨by rw [hmac, ← HSI.out, ← HSO.out]; exact owns_mono ho3 HR2.out.2.size, HR2.out.2.trans (hb3.mono HR2.out.2.size)⟩
  clear ho3 hb3
  go_wp2
  go_ret2
  exact ⟨b, rfl, HQ.out.1, HQ.out.2⟩
end Go.Proofs.YtioggmjocelolacDoor
namespace Go.Proofs.YtioggmjocelolacDoor
open Go.RowKit

theorem grown_trans {w w1 w2 : World} {g g' : Option Nat} (h1 : w.grownBy w1 g) (h2 : w1.grownBy w2 g') (hg : ∀ k, k < w.heap.size → some k ≠ g → some k ≠ g') : w.grownBy w2 g :=
  ⟨h2.os.trans h1.os, h2.tape.trans h1.tape, h2.output.trans h1.output, Nat.le_trans h1.size h2.size, fun k hk hne => (h2.block k (Nat.lt_of_lt_of_le hk h1.size) (hg k hk hne)).trans (h1.block k hk hne)⟩
theorem grown_refl (w : World) (g : Option Nat) : w.grownBy w g := ⟨rfl, rfl, rfl, Nat.le_refl _, fun _ _ _ => rfl⟩

set_option maxHeartbeats 1600000 in
set_option maxRecDepth 100000 in
theorem spoil_some (B n g cap : Nat) (zs : List Int) (w : World) (hn : n ≤ 200000) (hB : B ≤ w.heap.size)
    (hown : w.ownsRow B 5 1 (.slice (some ⟨g, 0, none⟩) n cap) n (cellsU8 zs)) :
    Calls Tryd.prog 21 #[.slice (some ⟨g, 0, none⟩) n cap] w fun e w' => e = .returned (.tuple #[]) ∧ w.grownBy w' (some g) := by
  obtain ⟨i0, hi, hz0, hz1, hz2⟩ := info_parts Tryd.info5
  go_enter Tryd.func21, Tryd.ntmps21
  go_wp2
  go_loopw [2] (fun i wr => ∃ k : Nat, k ≤ n ∧ i = .int .i64 k ∧ (∃ ys : List Int, wr.ownsRow B 5 1 (.slice (some ⟨g, 0, none⟩) n cap) n (cellsU8 ys)) ∧ Hid (w.grownBy wr (some g))) (fun i _ => n - (intOf i).toNat)
  case atStart => exact ⟨0, by omega, rfl, ⟨zs, hown⟩, grown_refl _ _⟩
  case round =>
    obtain ⟨k, hk, rfl, ⟨ys, hown2⟩, HG⟩ := hrel
    have hyl : ys.length = n := by have := hown2.1; rw [cellsU8_length] at this; omega
    clear hown
    by_cases hlt : k < n
    · obtain ⟨y, hy⟩ : ∃ y, ys[k]? = some y := ⟨ys[k], List.getElem?_eq_getElem (by omega)⟩
      have hcell : wr.cell? ⟨g, k, none⟩ = some (.int .u8 y) := by
        rw [hown2.cellAt k (by omega), cellsU8, List.getElem?_map, hy]
        rfl
      have hfr : wr.frozen? ⟨g, k, none⟩ = false := hown2.frozenAt k
      have HO : Hid (wr.ownsRow B 5 1 (.slice (some ⟨g, 0, none⟩) n cap) n (cellsU8 ys)) := hown2
      clear hown2 hy hyl
      go_wp2
      have hst := HO.out.stored k (.int .u8 (bits .xor .u8 y 165))
      have HO3 : Hid ((wr.setCell ⟨g, k, none⟩ (.int .u8 (bits .xor .u8 y 165))).ownsRow B 5 1 (.slice (some ⟨g, 0, none⟩) n cap) n (cellsU8 (ys.set k (bits .xor .u8 y 165)))) := by
        rw [cellsU8, List.map_set]
        exact hst.1
      have HG3 : Hid (w.grownBy (wr.setCell ⟨g, k, none⟩ (.int .u8 (bits .xor .u8 y 165))) (some g)) := grown_trans HG.out hst.2 (fun _ _ h => h)
      clear hst HO HG
      go_roundw
      case rel => exact ⟨k + 1, by omega, by go_num, ⟨_, HO3⟩, HG3⟩
      case measure => simp [intOf]; omega
    · obtain rfl : k = n := by omega
      go_wp2_with (first | (at_builtin; go_must (refine wpList_append_lies _ rfl (.tmp 18) (.tmp 19) 22 rfl B 5 i0 (.int .u8 0) 1 1 Tryd.underlying22 hi hz0 hz1 hz2 rfl (by decide) _ _ _ rfl (hown2.alloc _) ⟨wr.heap.size, 0, none⟩ 1 1 (cellsU8 [1]) rfl rfl (World.news_of_block (heap_alloc_new wr _)) (cellsU8_one _) (by decide) (by unfold maxLen; omega) (by omega) (by have := HG.out.size; simp; omega) (wr.heap.size + 1) (by simp) ?_)))
      intro g1 cp1 w1 own1 hgr1 hat1 hlt1
      have HG1 : Hid (w.grownBy w1 (some g)) := grown_trans (grown_trans HG.out (World.grownBy_alloc wr _ none) (fun _ _ _ => by simp)) hgr1 (fun q _ hq => hq)
      have HA1 : Hid (g1 = g ∨ w.heap.size ≤ g1) := by
        rcases hat1 with h | h
        · left
          simpa [Value.ownBlock] using h.symm
        · right
          have := HG.out.size
          omega
      have HO1 : Hid (w1.ownsRow B 5 1 (.slice (some ⟨g1, 0, none⟩) (k + 1) cp1) (k + 1) (cellsU8 (ys ++ [1]))) := by
        rw [cellsU8_append]
        exact own1
      clear own1 hgr1 hat1 hlt1 hown2 HG hyl hk hlt
      go_wp2
      go_loopw [0, 3] (fun l i wr => ∃ j : Nat, j ≤ 70 ∧ i = .int .i64 j ∧ Hid (w.grownBy wr (some g)) ∧ ∃ g2 c2 ys2, l = .slice (some ⟨g2, 0, none⟩) (k + 1 + j) c2 ∧ wr.ownsRow B 5 1 (.slice (some ⟨g2, 0, none⟩) (k + 1 + j) c2) (k + 1 + j) (cellsU8 ys2) ∧ Hid (g2 = g ∨ w.heap.size ≤ g2)) (fun _ i _ => 70 - (intOf i).toNat)
      case atStart => exact ⟨0, by omega, rfl, HG1, g1, cp1, _, rfl, HO1, HA1⟩
      case round =>
        obtain ⟨j, hj, rfl, HG2, g2, c2, ys2, rfl, own2, HA2⟩ := hrel
        clear HG1 HA1 HO1
        by_cases hlt : j < 70
        · go_wp2_with (first | (at_builtin; go_must (refine wpList_append_lies _ rfl (.tmp 25) (.tmp 30) 22 rfl B 5 i0 (.int .u8 0) 1 1 Tryd.underlying22 hi hz0 hz1 hz2 rfl (by decide) _ _ _ rfl (own2.alloc _) ⟨wr.heap.size, 0, none⟩ 1 1 (cellsU8 [IntKind.u8.wrap (7 * (j : Int) + 3)]) rfl rfl (World.news_of_block (heap_alloc_new wr _)) (cellsU8_one _) (by decide) (by unfold maxLen; omega) (by omega) (by have := HG2.out.size; simp; omega) (wr.heap.size + 1) (by simp) ?_)))
          intro g3 cp3 w3 own3 hgr3 hat3 hlt3
          have HG3 : Hid (w.grownBy w3 (some g)) := grown_trans (grown_trans HG2.out (World.grownBy_alloc wr _ none) (fun _ _ _ => by simp)) hgr3 (fun q hq hne => by
            intro h
            simp only [Value.ownBlock, Option.some.injEq] at h
            rcases HA2.out with e | e
            · exact hne (by rw [h, e])
            · omega)
          have HA3 : Hid (g3 = g ∨ w.heap.size ≤ g3) := by
            rcases hat3 with h | h
            · simp only [Value.ownBlock, Option.some.injEq] at h
              rw [← h]
              exact HA2
            · right
              have := HG2.out.size
              omega
          have HO3 : Hid (w3.ownsRow B 5 1 (.slice (some ⟨g3, 0, none⟩) (k + 1 + (j + 1)) cp3) (k + 1 + (j + 1)) (cellsU8 (ys2 ++ [IntKind.u8.wrap (7 * (j : Int) + 3)]))) := by
            rw [cellsU8_append]
            exact own3
          clear own3 hgr3 hat3 hlt3 own2 HG2 HA2
          go_wp2
          go_roundw
          case rel => exact ⟨j + 1, by omega, by go_num, HG3, g3, cp3, _, rfl, HO3, HA3⟩
          case measure => simp [intOf]; omega
        · obtain rfl : j = 70 := by omega
          have hcell : wr.cell? ⟨g2, k + 70, none⟩ = some (.int .u8 (ys2.getD (k + 70) 0)) := by
            have hl2 : ys2.length = k + 1 + 70 := by have := own2.1; rw [cellsU8_length] at this; omega
            rw [own2.cellAt (k + 70) (by omega), cellsU8, List.getElem?_map, List.getElem?_eq_getElem (show k + 70 < ys2.length by omega)]
            simp [List.getD, List.getElem?_eq_getElem (show k + 70 < ys2.length by omega)]
          have hfr : wr.frozen? ⟨g2, k + 70, none⟩ = false := own2.frozenAt _
          have HO : Hid (wr.ownsRow B 5 1 (.slice (some ⟨g2, 0, none⟩) (k + 1 + 70) c2) (k + 1 + 70) (cellsU8 ys2)) := own2
          clear own2 hlt
          go_wp2
          go_end0
          have hst := HO.out.stored (k + 70) (.int .u8 77)
          refine ⟨rfl, grown_trans HG2.out hst.2 (fun q hq hne => ?_)⟩
          intro h
          simp only [Option.some.injEq] at h
          rcases HA2.out with e | e
          · exact hne (by rw [h, e])
          · omega
end Go.Proofs.YtioggmjocelolacDoor
namespace Go.Proofs.YtioggmjocelolacDoor
open Go.RowKit

set_option maxHeartbeats 1600000 in
set_option maxRecDepth 100000 in
theorem spoil_nil (w : World) :
    Calls Tryd.prog 21 #[.slice none 0 0] w fun e w' => e = .returned (.tuple #[]) ∧ w.grownBy w' none := by
  obtain ⟨i0, hi, hz0, hz1, hz2⟩ := info_parts Tryd.info5
  have hown : w.ownsRow w.heap.size 5 1 (.slice none 0 0) 0 (cellsU8 []) := ⟨rfl, .inl ⟨rfl, rfl⟩⟩
  go_enter Tryd.func21, Tryd.ntmps21
  go_wp2
  go_loop [2] (fun i => i = .int .i64 0) (fun _ => 0)
  case atStart => exact rfl
  case round =>
    obtain rfl := hrel
    go_wp2_with (first | (at_builtin; go_must (refine wpList_append_lies _ rfl (.tmp 18) (.tmp 19) 22 rfl w.heap.size 5 i0 (.int .u8 0) 1 1 Tryd.underlying22 hi hz0 hz1 hz2 rfl (by decide) _ _ _ rfl (hown.alloc _) ⟨w.heap.size, 0, none⟩ 1 1 (cellsU8 [1]) rfl rfl (World.news_of_block (heap_alloc_new w _)) (cellsU8_one _) (by decide) (by unfold maxLen; omega) (by omega) (by simp) (w.heap.size + 1) (by simp) ?_)))
    intro g1 cp1 w1 own1 hgr1 hat1 hlt1
    have HG1 : Hid (w.grownBy w1 none) := grown_trans (World.grownBy_alloc w _ none) hgr1 (fun q _ hq => hq)
    have HA1 : Hid (w.heap.size ≤ g1) := by
      rcases hat1 with h | h
      · simp [Value.ownBlock] at h
      · exact (by omega : w.heap.size ≤ g1)
    have HO1 : Hid (w1.ownsRow w.heap.size 5 1 (.slice (some ⟨g1, 0, none⟩) 1 cp1) 1 (cellsU8 [1])) := own1
    clear own1 hgr1 hat1 hlt1 hown
    go_wp2
    go_loopw [0, 3] (fun l i wr => ∃ j : Nat, j ≤ 70 ∧ i = .int .i64 j ∧ Hid (w.grownBy wr none) ∧ ∃ g2 c2 ys2, l = .slice (some ⟨g2, 0, none⟩) (1 + j) c2 ∧ wr.ownsRow w.heap.size 5 1 (.slice (some ⟨g2, 0, none⟩) (1 + j) c2) (1 + j) (cellsU8 ys2) ∧ Hid (w.heap.size ≤ g2)) (fun _ i _ => 70 - (intOf i).toNat)
    case atStart => exact ⟨0, by omega, rfl, HG1, g1, cp1, _, rfl, HO1, HA1⟩
    case round =>
      obtain ⟨j, hj, rfl, HG2, g2, c2, ys2, rfl, own2, HA2⟩ := hrel
      clear HG1 HA1 HO1
      by_cases hlt : j < 70
      · go_wp2_with (first | (at_builtin; go_must (refine wpList_append_lies _ rfl (.tmp 25) (.tmp 30) 22 rfl w.heap.size 5 i0 (.int .u8 0) 1 1 Tryd.underlying22 hi hz0 hz1 hz2 rfl (by decide) _ _ _ rfl (own2.alloc _) ⟨wr.heap.size, 0, none⟩ 1 1 (cellsU8 [IntKind.u8.wrap (7 * (j : Int) + 3)]) rfl rfl (World.news_of_block (heap_alloc_new wr _)) (cellsU8_one _) (by decide) (by unfold maxLen; omega) (by omega) (by have := HG2.out.size; simp; omega) (wr.heap.size + 1) (by simp) ?_)))
        intro g3 cp3 w3 own3 hgr3 hat3 hlt3
        have HG3 : Hid (w.grownBy w3 none) := grown_trans (grown_trans HG2.out (World.grownBy_alloc wr _ none) (fun _ _ _ => by simp)) hgr3 (fun q hq hne => by
          intro h
          simp only [Value.ownBlock, Option.some.injEq] at h
          have := HA2.out
          omega)
        have HA3 : Hid (w.heap.size ≤ g3) := by
          rcases hat3 with h | h
          · simp only [Value.ownBlock, Option.some.injEq] at h
            rw [← h]
            exact HA2
          · have := HG2.out.size
            exact (by omega : w.heap.size ≤ g3)
        have HO3 : Hid (w3.ownsRow w.heap.size 5 1 (.slice (some ⟨g3, 0, none⟩) (1 + (j + 1)) cp3) (1 + (j + 1)) (cellsU8 (ys2 ++ [IntKind.u8.wrap (7 * (j : Int) + 3)]))) := by
          rw [cellsU8_append]
          exact own3
        clear own3 hgr3 hat3 hlt3 own2 HG2 HA2
        go_wp2
        go_roundw
        case rel => exact ⟨j + 1, by omega, by go_num, HG3, g3, cp3, _, rfl, HO3, HA3⟩
        case measure => simp [intOf]; omega
      · obtain rfl : j = 70 := by omega
        have hcell : wr.cell? ⟨g2, 70, none⟩ = some (.int .u8 (ys2.getD 70 0)) := by
          have hl2 : ys2.length = 1 + 70 := by have := own2.1; rw [cellsU8_length] at this; omega
          rw [own2.cellAt 70 (by omega), cellsU8, List.getElem?_map, List.getElem?_eq_getElem (show 70 < ys2.length by omega)]
          simp [List.getD, List.getElem?_eq_getElem (show 70 < ys2.length by omega)]
        have hfr : wr.frozen? ⟨g2, 70, none⟩ = false := own2.frozenAt _
        have HO : Hid (wr.ownsRow w.heap.size 5 1 (.slice (some ⟨g2, 0, none⟩) (1 + 70) c2) (1 + 70) (cellsU8 ys2)) := own2
        clear own2 hlt
        go_wp2
        go_end0
        have hst := HO.out.stored 70 (.int .u8 77)
        refine ⟨rfl, grown_trans HG2.out hst.2 (fun q hq hne => ?_)⟩
        intro h
        simp only [Option.some.injEq] at h
        have := HA2.out
        omega

/-- cofferbook.SpoilBytes of a row that is owned: nothing else of what was there changes. -/
theorem spoil_any (B n : Nat) (v : Value) (zs : List Int) (w : World) (hn : n ≤ 200000) (hB : B ≤ w.heap.size) (hown : w.ownsRow B 5 1 v n (cellsU8 zs)) :
    Calls Tryd.prog 21 #[v] w fun e w' => e = .returned (.tuple #[]) ∧ w.grownBy w' v.ownBlock := by
  rcases hown.2 with ⟨rfl, rfl⟩ | ⟨g, c, cur, rfl, _⟩
  · exact spoil_nil w
  · exact spoil_some B n g c zs w hn hB hown
end Go.Proofs.YtioggmjocelolacDoor
namespace Go.Proofs.YtioggmjocelolacDoor
open Go.RowKit
set_option linter.unusedVariables false
set_option linter.unusedSimpArgs false

theorem view_lt {w : World} {v : Value} {zs : List Int} (hv : View w v zs) (h0 : zs ≠ []) : ∀ b off l c, v = .slice (some ⟨b, off, none⟩) l c → b < w.heap.size := fun b off l c e => by
  obtain ⟨a, cap, e1, h1, h2, h3, h4⟩ := hv
  rcases h4 with h4 | ⟨b', p', e2, hc⟩
  · exact absurd h4 h0
  · rw [e] at e1
    injection e1 with e3 _ _
    rw [e2] at e3
    injection e3 with e3
    injection e3 with e4 _
    have := lt_of_cell (hc 0 (by cases zs with | nil => exact absurd rfl h0 | cons _ _ => simp))
    simp at this
    omega
theorem view_sliced {w : World} {a : Option Addr} {n cap : Nat} {zs : List Int} (hv : View w (.slice a n cap) zs) (i j : Nat) (hij : i ≤ j) (hj : j ≤ n) : View w (sliced a i j cap 1) ((zs.drop i).take (j - i)) := by
  obtain ⟨a', c, he, h1, h2, h3, h4⟩ := hv
  injection he with e1 e2 e3
  subst e1 e2 e3
  have hl : ((zs.drop i).take (j - i)).length = j - i := by simp; omega
  refine ⟨if cap = i then a else a.map (·.add (i * 1)), cap - i, by rw [sliced, hl], by omega, by omega, ?_, ?_⟩
  · intro e
    split at e
    · omega
    · have : a = none := by cases a with | none => rfl | some x => cases e
      have := h3 this
      omega
  · by_cases hz : (zs.drop i).take (j - i) = []
    · exact .inl hz
    · right
      have hlt : i < j := by
        by_cases hlt : i < j
        · exact hlt
        · exact absurd (by rw [show j - i = 0 by omega, List.take_zero]) hz
      rcases h4 with rfl | ⟨b, off, rfl, hc⟩
      · simp at hj; omega
      · refine ⟨b, off + i, ?_, fun k hk => ?_⟩
        · rw [if_neg (by omega), Option.map_some, Nat.mul_one, Addr.add_mid]
        · rw [hl] at hk
          rw [Nat.add_assoc, hc (i + k) (by omega)]
          simp [List.getD, List.getElem?_take, hk]
theorem elem22 : Tryd.prog.elem 22 = 5 := by kernel_rfl
theorem und22 : Tryd.prog.underlying 22 = some (.slice (Tryd.prog.elem 22)) := by kernel_rfl
theorem sizeOf5 (w : World) : (Go.sizeOf 5).run Tryd.prog w = .ok 1 w := by kernel_rfl
theorem slice_lh (w : World) (a : Option Addr) (n cap i j : Nat) (hij : i ≤ j) (hj : j ≤ cap) : (Instr.slice 22 (.slice a n cap) (some (.int .i64 i)) (some (.int .i64 j)) none).run Tryd.prog w = .ok (sliced a i j cap 1) w := by
  rw [run_slice_lh w 22 a n cap und22 .i64 .i64 i j (by omega) (by omega) (by omega), elem22, sizeOf5]
  simp [Result.andThen]
theorem slice_h (w : World) (a : Option Addr) (n cap j : Nat) (hj : j ≤ cap) : (Instr.slice 22 (.slice a n cap) none (some (.int .i64 j)) none).run Tryd.prog w = .ok (sliced a 0 j cap 1) w := by
  rw [run_slice_h w 22 a n cap und22 .i64 j (by omega) (by omega), elem22, sizeOf5]
  simp [Result.andThen]
theorem slice_l (w : World) (a : Option Addr) (n cap i : Nat) (hi : i ≤ n) (hn : n ≤ cap) : (Instr.slice 22 (.slice a n cap) (some (.int .i64 i)) none none).run Tryd.prog w = .ok (sliced a i n cap 1) w := by
  rw [run_slice_l w 22 a n cap und22 .i64 i (by omega) (by omega), elem22, sizeOf5]
  simp [Result.andThen]

/-- Slices of slices that are built. -/
theorem parts1_alloc {u : World} (t : TypeId) (x : Value) (ys : List Int) (g : Nat) (hx : View u x ys) (hg : u.heap.size ≠ g) (hox : ys ≠ [] → ∀ b off l c, x = .slice (some ⟨b, off, none⟩) l c → b ≠ g) : Parts (u.alloc (.cells #[x] t)) g (.slice (some ⟨u.heap.size, 0, none⟩) 1 1) [ys] := by
  refine ⟨_, 1, rfl, by simp, by simp [maxLen], .inr ⟨u.heap.size, 0, rfl, hg, fun i hi => ?_⟩⟩
  obtain rfl : i = 0 := by simpa using hi
  exact ⟨x, World.cell?_alloc_at _ _ _ _ rfl, hx.kept (fun q hq => Below.heap_alloc u _ q hq), hox⟩
theorem parts2_alloc {u : World} (t : TypeId) (x y : Value) (ys zs : List Int) (g : Nat) (hx : View u x ys) (hy : View u y zs) (hg : u.heap.size ≠ g) (hox : ys ≠ [] → ∀ b off l c, x = .slice (some ⟨b, off, none⟩) l c → b ≠ g) (hoy : zs ≠ [] → ∀ b off l c, y = .slice (some ⟨b, off, none⟩) l c → b ≠ g) : Parts (u.alloc (.cells #[x, y] t)) g (.slice (some ⟨u.heap.size, 0, none⟩) 2 2) [ys, zs] := by
  refine ⟨_, 2, rfl, by simp, by simp [maxLen], .inr ⟨u.heap.size, 0, rfl, hg, fun i hi => ?_⟩⟩
  have hi' : i < 2 := by simpa using hi
  match i, hi' with
  | 0, _ => exact ⟨x, World.cell?_alloc_at _ _ _ _ rfl, hx.kept (fun q hq => Below.heap_alloc u _ q hq), hox⟩
  | 1, _ => exact ⟨y, World.cell?_alloc_at _ _ _ _ rfl, hy.kept (fun q hq => Below.heap_alloc u _ q hq), hoy⟩
theorem view_nil (w : World) : View w (.slice none 0 0) [] := ⟨none, 0, rfl, by simp, by simp [maxLen], fun _ => rfl, .inl rfl⟩
/-- A Marked copy's own row, without its marks. -/
theorem marked_owns {B : Nat} {w : World} {v : Value} {zs : List Int} (h : Marked B w v zs) : ∃ g c, v = .slice (some ⟨g, 0, none⟩) zs.length c ∧ B ≤ g ∧ g < w.heap.size ∧ w.ownsRow B 5 1 v zs.length (cellsU8 zs) := by
  obtain ⟨g, c, rfl, hl, ho⟩ := h
  rcases ho with ⟨h, _⟩ | ⟨g', c', cur, he, h1, h2, h3, h4, h5, h6⟩
  · cases h
  · injection he with e1 e2 e3
    injection e1 with e1
    injection e1 with e4 _
    subst e4 e3
    refine ⟨g, c, rfl, h1, (Array.getElem?_eq_some_iff.1 h2).1, by rw [cellsU8_length]; omega, .inr ⟨g, c, cur, rfl, h1, h2, by omega, h4, h5, ?_⟩⟩
    have e1 : cur.toList.take (zs.length * 1) = (cur.toList.take ((zs.length + 70) * 1)).take zs.length := by
      rw [List.take_take]
      congr 1
      omega
    rw [e1, h6, cellsU8_append, List.take_append_of_le_length (by rw [cellsU8_length]; exact Nat.le_refl _), List.take_of_length_le (by rw [cellsU8_length]; exact Nat.le_refl _)]

/-- What a run over a stream and a Mac keeps: the blocks that were there, but the two that are written. -/
structure Run (w w4 u : World) (s0 m0 gs gm : Nat) (h : Int) (si so : Eight) (zs zm : List Int) : Prop where
  bel : Below w.heap.size w u
  size : w4.heap.size ≤ u.heap.size
  kept : ∀ q, q < w4.heap.size → q ≠ s0 → q ≠ m0 → u.heap[q]? = w4.heap[q]?
  gsW : gs = s0 ∨ w4.heap.size ≤ gs
  gmW : gm = m0 ∨ w4.heap.size ≤ gm
  ne : gs ≠ gm
  sB : w.heap.size ≤ gs
  mB : w.heap.size ≤ gm
  sr : Rep u gs 0 h (wdOf h) (firstE h) 0 zs
  mr : MRep u gm h si so zm
theorem Rep.lt {w : World} {g o : Nat} {h : Int} {wd : Bool} {s : Eight} {f0 : Nat} {zs : List Int} (k : Rep w g o h wd s f0 zs) : g < w.heap.size := by obtain ⟨half, hk, _⟩ := k; exact lt_of_cell hk.hash
theorem MRep.below {w v : World} {g : Nat} {h : Int} {si so : Eight} {zs : List Int} (m : MRep w g h si so zs) (b : Below w.heap.size w v) : MRep v g h si so zs := ⟨m.1.below b, m.2.below b⟩
theorem MRep.far {w v : World} {g g' o' n : Nat} {h : Int} {si so : Eight} {zs : List Int} (m : MRep w g h si so zs) (b : Touch w v g' o' n) (hne : g ≠ g') : MRep v g h si so zs := ⟨m.1.far b hne, m.2.far b hne⟩
section
variable {w w4 u v : World} {s0 m0 gs gm : Nat} {h : Int} {si so : Eight} {zs zm : List Int}
theorem Run.below (r : Run w w4 u s0 m0 gs gm h si so zs zm) (b : Below u.heap.size u v) : Run w w4 v s0 m0 gs gm h si so zs zm :=
  ⟨r.bel.trans (b.mono r.bel.size), Nat.le_trans r.size b.size, fun q h1 h2 h3 => (b.block q (Nat.lt_of_lt_of_le h1 r.size)).trans (r.kept q h1 h2 h3), r.gsW, r.gmW, r.ne, r.sB, r.mB, r.sr.below b, r.mr.below b⟩
theorem Run.touchS (r : Run w w4 u s0 m0 gs gm h si so zs zm) (t : Touch u v gs 0 139) {zs' : List Int} (hs : Rep v gs 0 h (wdOf h) (firstE h) 0 zs') : Run w w4 v s0 m0 gs gm h si so zs' zm :=
  ⟨r.bel.trans (t.toBelow r.sB r.bel.size), Nat.le_trans r.size t.size, fun q h1 h2 h3 => (t.block q (Nat.lt_of_lt_of_le h1 r.size) (by rcases r.gsW with e | e <;> omega)).trans (r.kept q h1 h2 h3), r.gsW, r.gmW, r.ne, r.sB, r.mB, hs, r.mr.far t r.ne.symm⟩
theorem Run.touchM (r : Run w w4 u s0 m0 gs gm h si so zs zm) (t : Touch u v gm 0 139) {zm' : List Int} (hs : MRep v gm h si so zm') : Run w w4 v s0 m0 gs gm h si so zs zm' :=
  ⟨r.bel.trans (t.toBelow r.mB r.bel.size), Nat.le_trans r.size t.size, fun q h1 h2 h3 => (t.block q (Nat.lt_of_lt_of_le h1 r.size) (by rcases r.gmW with e | e <;> omega)).trans (r.kept q h1 h2 h3), r.gsW, r.gmW, r.ne, r.sB, r.mB, r.sr.far t r.ne, hs⟩
theorem Run.view (r : Run w w4 u s0 m0 gs gm h si so zs zm) {x : Value} {ys : List Int} (hv : View w4 x ys) (ho : ∀ b off l c, x = .slice (some ⟨b, off, none⟩) l c → b ≠ s0 ∧ b ≠ m0) : View u x ys := by
  have hv' := hv
  obtain ⟨a, cap, e, h1, h2, h3, h4⟩ := hv
  refine ⟨a, cap, e, h1, h2, h3, ?_⟩
  rcases h4 with h4 | ⟨b, off, rfl, hc⟩
  · exact .inl h4
  · by_cases h0 : ys = []
    · exact .inl h0
    · refine .inr ⟨b, off, rfl, fun i hi => ?_⟩
      have hb := view_lt hv' h0 b off _ _ e
      have := ho b off _ _ e
      rw [World.cell?_of_block (r.kept b hb this.1 this.2)]
      exact hc i hi
theorem Run.arg (r : Run w w4 u s0 m0 gs gm h si so zs zm) {x : Value} {ys : List Int} (hv : View w x ys) : View u x ys := hv.kept (fun q hq => r.bel.block q hq)
theorem Run.tables (r : Run w w4 u s0 m0 gs gm h si so zs zm) (hT : Tables w) : Tables u := hT.below r.bel hT.size
theorem Run.sm (r : Run w w4 u s0 m0 gs gm h si so zs zm) (t : Sm u v) : Run w w4 v s0 m0 gs gm h si so zs zm := by
  refine r.below ⟨t.os, t.tape, t.output, by rw [t.heap]; exact Nat.le_refl _, fun k _ => by rw [t.heap]⟩
theorem Run.grown (r : Run w w4 u s0 m0 gs gm h si so zs zm) {q : Nat} (t : u.grownBy v (some q)) (hq : w4.heap.size ≤ q) (hqw : w.heap.size ≤ q) (h1 : q ≠ gs) (h2 : q ≠ gm) : Run w w4 v s0 m0 gs gm h si so zs zm := by
  have hb : ∀ k, k < u.heap.size → k ≠ q → v.heap[k]? = u.heap[k]? := fun k hk hk2 => t.block k hk (fun e => hk2 (by injection e))
  have hcs : ∀ p : Addr, p.block = gs → v.cell? p = u.cell? p := fun p hp => World.cell?_of_block (by rw [hp]; exact hb gs r.sr.lt h1.symm)
  have hfs : ∀ p : Addr, p.block = gs → v.frozen? p = u.frozen? p := fun p hp => World.frozen?_of_block (by rw [hp]; exact hb gs r.sr.lt h1.symm)
  have hcm : ∀ p : Addr, p.block = gm → v.cell? p = u.cell? p := fun p hp => World.cell?_of_block (by rw [hp]; exact hb gm r.mr.1.lt h2.symm)
  have hfm : ∀ p : Addr, p.block = gm → v.frozen? p = u.frozen? p := fun p hp => World.frozen?_of_block (by rw [hp]; exact hb gm r.mr.1.lt h2.symm)
  have hk : ∀ {g : Nat} {wd : Bool} {s : Eight} {half : Nat → Int} {fed : Nat}, (∀ p : Addr, p.block = g → v.cell? p = u.cell? p) → (∀ p : Addr, p.block = g → v.frozen? p = u.frozen? p) → TK u g 0 h wd s half fed → TK v g 0 h wd s half fed := fun hc hf k =>
    ⟨by rw [hc _ rfl]; exact k.hash, by rw [hc _ rfl]; exact k.fn, fun j x hx => by rw [hc _ rfl]; exact k.st j x hx, fun i hi => by rw [hc _ rfl]; exact k.half i hi, by rw [hc _ rfl]; exact k.fed, fun j hj => by rw [hc _ rfl, hf _ rfl]; exact k.there j hj⟩
  refine ⟨r.bel.trans ⟨t.os, t.tape, t.output, t.size, fun k hk => hb k (Nat.lt_of_lt_of_le hk r.bel.size) (by omega)⟩, Nat.le_trans r.size t.size, fun k k1 k2 k3 => (hb k (Nat.lt_of_lt_of_le k1 r.size) (by omega)).trans (r.kept k k1 k2 k3), r.gsW, r.gmW, r.ne, r.sB, r.mB, ?_, ?_, ?_⟩
  · obtain ⟨half, k, q1, q2⟩ := r.sr
    exact ⟨half, hk hcs hfs k, q1, q2⟩
  · obtain ⟨half, k, q1, q2⟩ := r.mr.1
    exact ⟨half, hk hcm hfm k, q1, q2⟩
  · exact ⟨fun j x hx => by rw [hcm _ rfl]; exact r.mr.2.inner j x hx, fun j x hx => by rw [hcm _ rfl]; exact r.mr.2.outer j x hx, fun j hj => by rw [hcm _ rfl, hfm _ rfl]; exact r.mr.2.there j hj⟩
end
end Go.Proofs.YtioggmjocelolacDoor
namespace Go.Proofs.YtioggmjocelolacDoor
open Go.RowKit
set_option linter.unusedVariables false
theorem elem22p : Tryd.prog.elem 22 = 5 := by kernel_rfl
theorem und22p : Tryd.prog.underlying 22 = some (.slice (Tryd.prog.elem 22)) := by kernel_rfl
theorem sizeOf5p (w : World) : (Go.sizeOf 5).run Tryd.prog w = .ok 1 w := by kernel_rfl
/-- A digest, as bytes. -/
def sumD (h : Int) (zs : List Int) : List Int := (spellL (wdOf h) (endW (wdOf h) (firstE h) 0 zs)).take (szOf h)
theorem szOf_pos {h : Int} (k : Known h) : 1 ≤ szOf h ∧ szOf h ≤ 64 := by rcases k with rfl | rfl | rfl | rfl <;> decide
theorem viewOwns {w : World} {B n : Nat} {v : Value} {zs : List Int} (h : w.ownsRow B 5 1 v n (cellsU8 zs)) (hn : zs.length = n) : View w v zs := by
  have h0 := h
  rcases h.2 with ⟨rfl, e0⟩ | ⟨g, c, cur, rfl, q1, q2, q3, q4, q5, q6⟩
  · refine ⟨none, 0, by rw [hn, e0], by omega, by simp [maxLen], fun _ => rfl, Or.inl (List.eq_nil_of_length_eq_zero (by omega))⟩
  · refine ⟨some ⟨g, 0, none⟩, c, by rw [hn], by omega, q4, (fun e => by cases e), Or.inr ⟨g, 0, rfl, fun i hi => ?_⟩⟩
    have hc := h0.cells (g := g) rfl i (.int .u8 (zs.getD i 0)) (by simp [cellsU8, List.getD, List.getElem?_eq_getElem hi])
    rw [Addr.add_lit] at hc
    exact hc
theorem sumD_length (h : Int) (k : Known h) (X : List Int) : (sumD h X).length = szOf h := by
  have := szOf_pos k
  simp [sumD, spellL]
  omega
theorem owns_kept {w w' : World} {B n e s : Nat} {v : Value} {xs : List Value} (h : w.ownsRow B e s v n xs) (hb : Below w.heap.size w w') : w'.ownsRow B e s v n xs := by
  obtain ⟨h1, h2⟩ := h
  refine ⟨h1, ?_⟩
  rcases h2 with h2 | ⟨g, c, cur, e, q1, q2, q⟩
  · exact .inl h2
  · exact .inr ⟨g, c, cur, e, q1, by rw [hb.block g (Array.getElem?_eq_some_iff.1 q2).1]; exact q2, q⟩
/-- A list of lists of bytes: its cells, and what they hold. -/
def PV (w : World) (v : Value) (xs : List Value) (yss : List (List Int)) : Prop :=
  ∃ a c, v = .slice a xs.length c ∧ xs.length ≤ c ∧ c ≤ maxLen ∧ xs.length = yss.length ∧ (∀ i x, xs[i]? = some x → View w x (yss.getD i [])) ∧ (xs = [] ∨ ∃ b p, a = some ⟨b, p, none⟩ ∧ ∀ i x, xs[i]? = some x → w.cell? ⟨b, p + i, none⟩ = some x)
theorem PV.kept {w w' : World} {v : Value} {xs : List Value} {yss : List (List Int)} (h : PV w v xs yss) (hb : ∀ b, b < w.heap.size → w'.heap[b]? = w.heap[b]?) : PV w' v xs yss := by
  obtain ⟨a, c, e, h1, h2, h3, h4, h5⟩ := h
  refine ⟨a, c, e, h1, h2, h3, fun i x hx => (h4 i x hx).kept hb, ?_⟩
  rcases h5 with h5 | ⟨b, p, e5, h6⟩
  · exact .inl h5
  · refine .inr ⟨b, p, e5, fun i x hx => ?_⟩
    have q := h6 i x hx
    rw [World.cell?_of_block (w := w) (hb b (lt_of_cell q))]
    exact q
theorem PV.parts {w : World} {v : Value} {xs : List Value} {yss : List (List Int)} (h : PV w v xs yss) (g : Nat) (hg : w.heap.size ≤ g) : Parts w g v yss := by
  obtain ⟨a, c, e, h1, h2, h3, h4, h5⟩ := h
  refine ⟨a, c, by rw [← h3]; exact e, by omega, h2, ?_⟩
  rcases h5 with h5 | ⟨b, p, e5, h6⟩
  · left
    rw [h5] at h3
    exact List.eq_nil_of_length_eq_zero h3.symm
  · by_cases h0 : yss = []
    · exact .inl h0
    · right
      have hl : 0 < xs.length := by rw [h3]; exact List.length_pos_iff.2 h0
      have hb := lt_of_cell (h6 0 _ (List.getElem?_eq_getElem hl))
      refine ⟨b, p, e5, (by simp at hb; omega), fun i hi => ?_⟩
      have hi' : i < xs.length := by omega
      have hx := List.getElem?_eq_getElem hi'
      refine ⟨_, h6 i _ hx, h4 i _ hx, fun hne b' off l c' ex => ?_⟩
      have := view_lt (h4 i _ hx) hne b' off l c' ex
      omega
end Go.Proofs.YtioggmjocelolacDoor
