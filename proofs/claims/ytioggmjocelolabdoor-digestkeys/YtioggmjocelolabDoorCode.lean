import Derived.Test.YtioggmjocelolabDoorMac2
namespace Go.Proofs.YtioggmjocelolabDoor
open Go.RowKit
set_option linter.unusedVariables false
set_option linter.unusedSimpArgs false

/-- The words of a code: the outer digest of the inner one. -/
def macE (h : Int) (si so : Eight) (zs : List Int) : Eight :=
  endW (wdOf h) so (bsz (wdOf h)) ((spellL (wdOf h) (endW (wdOf h) si (bsz (wdOf h)) zs)).take (szOf h))
theorem szOf_le {h : Int} (k : Known h) : szOf h ≤ 64 := by rcases szOf_known k with e | e | e | e <;> omega
theorem view_cells {w : World} {b n : Nat} {C : List Value} {zs : List Int} (hr : w.rangeAt b 0 C) (hC : C = cellsU8 zs) (hz : zs.length = 64) (hn : n ≤ 64) : View w (.slice (some ⟨b, 0, none⟩) n 64) (zs.take n) := by
  have hl : (zs.take n).length = n := by simp; omega
  refine ⟨_, 64, by rw [hl], by omega, by simp [maxLen], (fun e => by cases e), .inr ⟨b, 0, rfl, fun i hi => ?_⟩⟩
  rw [hl] at hi
  refine hr i _ ?_
  rw [hC]
  simp [cellsU8, List.getD, List.getElem?_take, hi, List.getElem?_eq_getElem (show i < zs.length by omega)]
theorem range_touch {w v : World} {g o n b p : Nat} {C : List Value} (h : w.rangeAt b p C) (t : Touch w v g o n) (hb : b < w.heap.size) (hne : b ≠ g) : v.rangeAt b p C := fun j x hx => by
  rw [t.far (p := ⟨b, p + j, none⟩) hb hne]
  exact h j x hx
theorem touch_newblock {w v u : World} {g o n : Nat} (h : Touch w v g o n) (hg : g < w.heap.size) (b : Nat) (hb : w.heap.size ≤ b) (vs : List Value) (o' : Nat) (e : u = v.setCells b o' vs) : Touch w u g o n := by
  subst e
  exact touch_new h hb vs o' hg

set_option maxHeartbeats 800000 in
set_option maxRecDepth 100000 in
theorem finishCode (g : Nat) (h : Int) (si so : Eight) (zs : List Int) (w : World) (k : Hid (Known h)) (hm : Hid (MRep w g h si so zs)) (hT : Hid (Tables w)) (hg : 4 ≤ g) (hfed : Hid (zs.length ≤ 1152921504606000000)) :
    Calls Tryd.prog 52 #[.pointer (some ⟨g, 0, none⟩)] w fun e w' => e = .returned (.agg (spellCells (wsz (wdOf h)) (macE h si so zs)).toArray) ∧ Touch w w' g 0 139 ∧ ∃ s half fed, TK w' g 0 h (wdOf h) s half fed := by
  have hbs : bsz (wdOf h) ≤ 128 := by cases wdOf h <;> decide
  have HBS : Hid (bsz (wdOf h) ≤ 128) := hbs
  have HGW : Hid (g < w.heap.size) := hm.out.2.lt
  go_enter Tryd.func52, Tryd.ntmps52
  go_upto_region 1 with fail
  have HB0 : Hid (Below w.heap.size w (w.alloc (.cells #[.int .u8 0, .int .u8 0, .int .u8 0, .int .u8 0, .int .u8 0, .int .u8 0, .int .u8 0, .int .u8 0, .int .u8 0, .int .u8 0, .int .u8 0, .int .u8 0, .int .u8 0, .int .u8 0, .int .u8 0, .int .u8 0, .int .u8 0, .int .u8 0, .int .u8 0, .int .u8 0, .int .u8 0, .int .u8 0, .int .u8 0, .int .u8 0, .int .u8 0, .int .u8 0, .int .u8 0, .int .u8 0, .int .u8 0, .int .u8 0, .int .u8 0, .int .u8 0, .int .u8 0, .int .u8 0, .int .u8 0, .int .u8 0, .int .u8 0, .int .u8 0, .int .u8 0, .int .u8 0, .int .u8 0, .int .u8 0, .int .u8 0, .int .u8 0, .int .u8 0, .int .u8 0, .int .u8 0, .int .u8 0, .int .u8 0, .int .u8 0, .int .u8 0, .int .u8 0, .int .u8 0, .int .u8 0, .int .u8 0, .int .u8 0, .int .u8 0, .int .u8 0, .int .u8 0, .int .u8 0, .int .u8 0, .int .u8 0, .int .u8 0, .int .u8 0] 75)) ∧ (w.alloc (.cells #[.int .u8 0, .int .u8 0, .int .u8 0, .int .u8 0, .int .u8 0, .int .u8 0, .int .u8 0, .int .u8 0, .int .u8 0, .int .u8 0, .int .u8 0, .int .u8 0, .int .u8 0, .int .u8 0, .int .u8 0, .int .u8 0, .int .u8 0, .int .u8 0, .int .u8 0, .int .u8 0, .int .u8 0, .int .u8 0, .int .u8 0, .int .u8 0, .int .u8 0, .int .u8 0, .int .u8 0, .int .u8 0, .int .u8 0, .int .u8 0, .int .u8 0, .int .u8 0, .int .u8 0, .int .u8 0, .int .u8 0, .int .u8 0, .int .u8 0, .int .u8 0, .int .u8 0, .int .u8 0, .int .u8 0, .int .u8 0, .int .u8 0, .int .u8 0, .int .u8 0, .int .u8 0, .int .u8 0, .int .u8 0, .int .u8 0, .int .u8 0, .int .u8 0, .int .u8 0, .int .u8 0, .int .u8 0, .int .u8 0, .int .u8 0, .int .u8 0, .int .u8 0, .int .u8 0, .int .u8 0, .int .u8 0, .int .u8 0, .int .u8 0, .int .u8 0] 75)).there w.heap.size 0 64 ∧ w.heap.size < (w.alloc (.cells #[.int .u8 0, .int .u8 0, .int .u8 0, .int .u8 0, .int .u8 0, .int .u8 0, .int .u8 0, .int .u8 0, .int .u8 0, .int .u8 0, .int .u8 0, .int .u8 0, .int .u8 0, .int .u8 0, .int .u8 0, .int .u8 0, .int .u8 0, .int .u8 0, .int .u8 0, .int .u8 0, .int .u8 0, .int .u8 0, .int .u8 0, .int .u8 0, .int .u8 0, .int .u8 0, .int .u8 0, .int .u8 0, .int .u8 0, .int .u8 0, .int .u8 0, .int .u8 0, .int .u8 0, .int .u8 0, .int .u8 0, .int .u8 0, .int .u8 0, .int .u8 0, .int .u8 0, .int .u8 0, .int .u8 0, .int .u8 0, .int .u8 0, .int .u8 0, .int .u8 0, .int .u8 0, .int .u8 0, .int .u8 0, .int .u8 0, .int .u8 0, .int .u8 0, .int .u8 0, .int .u8 0, .int .u8 0, .int .u8 0, .int .u8 0, .int .u8 0, .int .u8 0, .int .u8 0, .int .u8 0, .int .u8 0, .int .u8 0, .int .u8 0, .int .u8 0] 75)).heap.size) := ⟨(Below.refl _ _).alloc (Nat.le_refl _) _, there_new w _ 75 64 (by decide), by simp⟩
  generalize w.alloc (.cells #[.int .u8 0, .int .u8 0, .int .u8 0, .int .u8 0, .int .u8 0, .int .u8 0, .int .u8 0, .int .u8 0, .int .u8 0, .int .u8 0, .int .u8 0, .int .u8 0, .int .u8 0, .int .u8 0, .int .u8 0, .int .u8 0, .int .u8 0, .int .u8 0, .int .u8 0, .int .u8 0, .int .u8 0, .int .u8 0, .int .u8 0, .int .u8 0, .int .u8 0, .int .u8 0, .int .u8 0, .int .u8 0, .int .u8 0, .int .u8 0, .int .u8 0, .int .u8 0, .int .u8 0, .int .u8 0, .int .u8 0, .int .u8 0, .int .u8 0, .int .u8 0, .int .u8 0, .int .u8 0, .int .u8 0, .int .u8 0, .int .u8 0, .int .u8 0, .int .u8 0, .int .u8 0, .int .u8 0, .int .u8 0, .int .u8 0, .int .u8 0, .int .u8 0, .int .u8 0, .int .u8 0, .int .u8 0, .int .u8 0, .int .u8 0, .int .u8 0, .int .u8 0, .int .u8 0, .int .u8 0, .int .u8 0, .int .u8 0, .int .u8 0, .int .u8 0] 75) = w0 at HB0 ⊢
  go_wp2_with (first | (go_at_call 54; refine (finish_rep (wdOf h) g 0 h si (bsz (wdOf h)) zs w0 k.out.block (hm.out.1.below HB0.out.1) (by have := hfed.out; have := HBS.out; omega) (hT.out.below HB0.out.1 hT.out.size) hg).mono ?_))
  rintro e1 w1 ⟨rfl, ht1, half1, hk1⟩
  obtain ⟨z1, HZ1⟩ : ∃ z1 : List Int, Hid (z1 = spellL (wdOf h) (endW (wdOf h) si (bsz (wdOf h)) zs)) := ⟨_, (show _ = _ from rfl)⟩
  have HZL : Hid (z1.length = 64) := by show z1.length = 64; rw [HZ1.out]; exact spellL_length _ _
  obtain ⟨C, HC⟩ : ∃ C : List Value, Hid (C = cellsU8 z1) := ⟨_, (show _ = _ from rfl)⟩
  rw [spellCells_eq, ← HZ1.out, ← HC.out]
  have HL : Hid (C.length = 64) := by show C.length = 64; rw [HC.out, cellsU8_length]; exact HZL.out
  have HLA : Hid (C.toArray.size = 64) := by show C.toArray.size = 64; simpa using HL.out
  have HO : Hid (C.toArray.all (·.oneCell') = true) := all_oneCell_toArray (by rw [HC.out]; exact cellsU8_one _)
  have HT1 : Hid (Touch w w1 g 0 139) := ((Touch.refl w g 0 139).below HB0.out.1 HGW.out).trans ht1
  have HM1 : Hid (MacAt w1 g si so) := hm.out.2.touch HT1.out
  have HK1 : Hid (∃ s half fed, TK w1 g 0 h (wdOf h) s half fed) := ⟨_, half1, _, hk1⟩
  have HRS : Hid (w1.there w.heap.size 0 64 ∧ w.heap.size < w1.heap.size) := ⟨ht1.thereFar HB0.out.2.1 HB0.out.2.2 (by have := HGW.out; omega), Nat.lt_of_lt_of_le HB0.out.2.2 ht1.size⟩
  have HX : Hid ((w1.alloc (.cells #[.int .u8 0, .int .u8 0, .int .u8 0, .int .u8 0, .int .u8 0, .int .u8 0, .int .u8 0, .int .u8 0, .int .u8 0, .int .u8 0, .int .u8 0, .int .u8 0, .int .u8 0, .int .u8 0, .int .u8 0, .int .u8 0, .int .u8 0, .int .u8 0, .int .u8 0, .int .u8 0, .int .u8 0, .int .u8 0, .int .u8 0, .int .u8 0, .int .u8 0, .int .u8 0, .int .u8 0, .int .u8 0, .int .u8 0, .int .u8 0, .int .u8 0, .int .u8 0, .int .u8 0, .int .u8 0, .int .u8 0, .int .u8 0, .int .u8 0, .int .u8 0, .int .u8 0, .int .u8 0, .int .u8 0, .int .u8 0, .int .u8 0, .int .u8 0, .int .u8 0, .int .u8 0, .int .u8 0, .int .u8 0, .int .u8 0, .int .u8 0, .int .u8 0, .int .u8 0, .int .u8 0, .int .u8 0, .int .u8 0, .int .u8 0, .int .u8 0, .int .u8 0, .int .u8 0, .int .u8 0, .int .u8 0, .int .u8 0, .int .u8 0, .int .u8 0] 75)).there w1.heap.size 0 64) := there_new w1 _ 75 64 (by decide)
  clear ht1 hk1 HB0
  go_upto_region 2 with (first
    | (refine wpList_store_mid (by rfl) 75 (.tmp 3) (.tmp 7) (by rfl) w1.heap.size 0 C.toArray (by rfl) (by rfl) (by rw [HLA.out]; exact HX.out) (by rw [HLA.out]; exact size75) HO.out ?_)
    | fail)
  have HR2 : Hid (((w1.alloc (.cells #[.int .u8 0, .int .u8 0, .int .u8 0, .int .u8 0, .int .u8 0, .int .u8 0, .int .u8 0, .int .u8 0, .int .u8 0, .int .u8 0, .int .u8 0, .int .u8 0, .int .u8 0, .int .u8 0, .int .u8 0, .int .u8 0, .int .u8 0, .int .u8 0, .int .u8 0, .int .u8 0, .int .u8 0, .int .u8 0, .int .u8 0, .int .u8 0, .int .u8 0, .int .u8 0, .int .u8 0, .int .u8 0, .int .u8 0, .int .u8 0, .int .u8 0, .int .u8 0, .int .u8 0, .int .u8 0, .int .u8 0, .int .u8 0, .int .u8 0, .int .u8 0, .int .u8 0, .int .u8 0, .int .u8 0, .int .u8 0, .int .u8 0, .int .u8 0, .int .u8 0, .int .u8 0, .int .u8 0, .int .u8 0, .int .u8 0, .int .u8 0, .int .u8 0, .int .u8 0, .int .u8 0, .int .u8 0, .int .u8 0, .int .u8 0, .int .u8 0, .int .u8 0, .int .u8 0, .int .u8 0, .int .u8 0, .int .u8 0, .int .u8 0, .int .u8 0] 75)).setCells w1.heap.size 0 C).rangeAt w1.heap.size 0 C) := World.rangeAt_setCells_same _ _ _ _ (by rw [HL.out]; exact HX.out)
  have HB2 : Hid (Below w1.heap.size w1 ((w1.alloc (.cells #[.int .u8 0, .int .u8 0, .int .u8 0, .int .u8 0, .int .u8 0, .int .u8 0, .int .u8 0, .int .u8 0, .int .u8 0, .int .u8 0, .int .u8 0, .int .u8 0, .int .u8 0, .int .u8 0, .int .u8 0, .int .u8 0, .int .u8 0, .int .u8 0, .int .u8 0, .int .u8 0, .int .u8 0, .int .u8 0, .int .u8 0, .int .u8 0, .int .u8 0, .int .u8 0, .int .u8 0, .int .u8 0, .int .u8 0, .int .u8 0, .int .u8 0, .int .u8 0, .int .u8 0, .int .u8 0, .int .u8 0, .int .u8 0, .int .u8 0, .int .u8 0, .int .u8 0, .int .u8 0, .int .u8 0, .int .u8 0, .int .u8 0, .int .u8 0, .int .u8 0, .int .u8 0, .int .u8 0, .int .u8 0, .int .u8 0, .int .u8 0, .int .u8 0, .int .u8 0, .int .u8 0, .int .u8 0, .int .u8 0, .int .u8 0, .int .u8 0, .int .u8 0, .int .u8 0, .int .u8 0, .int .u8 0, .int .u8 0, .int .u8 0, .int .u8 0] 75)).setCells w1.heap.size 0 C) ∧ ((w1.alloc (.cells #[.int .u8 0, .int .u8 0, .int .u8 0, .int .u8 0, .int .u8 0, .int .u8 0, .int .u8 0, .int .u8 0, .int .u8 0, .int .u8 0, .int .u8 0, .int .u8 0, .int .u8 0, .int .u8 0, .int .u8 0, .int .u8 0, .int .u8 0, .int .u8 0, .int .u8 0, .int .u8 0, .int .u8 0, .int .u8 0, .int .u8 0, .int .u8 0, .int .u8 0, .int .u8 0, .int .u8 0, .int .u8 0, .int .u8 0, .int .u8 0, .int .u8 0, .int .u8 0, .int .u8 0, .int .u8 0, .int .u8 0, .int .u8 0, .int .u8 0, .int .u8 0, .int .u8 0, .int .u8 0, .int .u8 0, .int .u8 0, .int .u8 0, .int .u8 0, .int .u8 0, .int .u8 0, .int .u8 0, .int .u8 0, .int .u8 0, .int .u8 0, .int .u8 0, .int .u8 0, .int .u8 0, .int .u8 0, .int .u8 0, .int .u8 0, .int .u8 0, .int .u8 0, .int .u8 0, .int .u8 0, .int .u8 0, .int .u8 0, .int .u8 0, .int .u8 0] 75)).setCells w1.heap.size 0 C).heap.size = w1.heap.size + 1) := ⟨below_setCells _ (Nat.le_refl _) _ _ _ ((Below.refl _ _).alloc (Nat.le_refl _) _), by rw [size_setCells]; simp⟩
  generalize (w1.alloc (.cells #[.int .u8 0, .int .u8 0, .int .u8 0, .int .u8 0, .int .u8 0, .int .u8 0, .int .u8 0, .int .u8 0, .int .u8 0, .int .u8 0, .int .u8 0, .int .u8 0, .int .u8 0, .int .u8 0, .int .u8 0, .int .u8 0, .int .u8 0, .int .u8 0, .int .u8 0, .int .u8 0, .int .u8 0, .int .u8 0, .int .u8 0, .int .u8 0, .int .u8 0, .int .u8 0, .int .u8 0, .int .u8 0, .int .u8 0, .int .u8 0, .int .u8 0, .int .u8 0, .int .u8 0, .int .u8 0, .int .u8 0, .int .u8 0, .int .u8 0, .int .u8 0, .int .u8 0, .int .u8 0, .int .u8 0, .int .u8 0, .int .u8 0, .int .u8 0, .int .u8 0, .int .u8 0, .int .u8 0, .int .u8 0, .int .u8 0, .int .u8 0, .int .u8 0, .int .u8 0, .int .u8 0, .int .u8 0, .int .u8 0, .int .u8 0, .int .u8 0, .int .u8 0, .int .u8 0, .int .u8 0, .int .u8 0, .int .u8 0, .int .u8 0, .int .u8 0] 75)).setCells w1.heap.size 0 C = w2 at HR2 HB2 ⊢
  have HT2 : Hid (Touch w w2 g 0 139) := HT1.out.below HB2.out.1 HGW.out
  have HM2 : Hid (MacAt w2 g si so) := hm.out.2.touch HT2.out
  obtain ⟨s1, h1, f1, hk1⟩ := HK1.out
  have HA : Hid (Calls Tryd.prog 47 #[.pointer (some ⟨g, 0, none⟩), .agg so.cells.toArray] w2 fun e w' => e = .returned (.tuple #[]) ∧ Touch w2 w' g 0 139 ∧ TK w' g 0 h (wdOf h) so (fun _ => 0) (bsz (wdOf h))) := restart_any g h s1 so h1 f1 w2 k (hk1.below HB2.out.1)
  clear hk1 HX
  go_upto_region 3 with (first
    | (refine wpList_load_mid (by rfl) 68 (.tmp 11) (by rfl) g 147 (by rfl) so.cells _ HM2.out.outer Tryd.underlying68 rfl size68 ?_)
    | (go_at_call 47; refine HA.out.mono ?_; rintro e3 w3 ⟨rfl, ht3, hk3⟩)
    | fail)
  have HT3 : Hid (Touch w w3 g 0 139) := HT2.out.trans ht3
  have HS : Hid (w1.heap.size < w2.heap.size ∧ w.heap.size ≤ w1.heap.size) := ⟨by rw [HB2.out.2]; omega, HT1.out.size⟩
  have HR3 : Hid (w3.rangeAt w1.heap.size 0 C) := range_touch HR2.out ht3 HS.out.1 (by have := HGW.out; have := HS.out.2; omega)
  have HRS3 : Hid (w3.there w.heap.size 0 64 ∧ w.heap.size < w3.heap.size) := by
    have h5 := ht3.size
    refine ⟨ht3.thereFar (b := w.heap.size) (o' := 0) (n' := 64) ?_ (by have := HRS.out.2; have := HB2.out.2; omega) (by have := HGW.out; omega), by have := HRS.out.2; have := HB2.out.2; omega⟩
    intro j hj
    rw [HB2.out.1.cell (p := ⟨w.heap.size, 0 + j, none⟩) HRS.out.2, HB2.out.1.frozen (p := ⟨w.heap.size, 0 + j, none⟩) HRS.out.2]
    exact HRS.out.1 j hj
  have HREP3 : Hid (Rep w3 g 0 h (wdOf h) so (bsz (wdOf h)) []) := rep_nil hk3 (Nat.mod_self _)
  obtain ⟨n, HN⟩ : ∃ n : Nat, Hid (n = szOf h) := ⟨_, (show _ = _ from rfl)⟩
  have hn : (n : Int) ≤ 64 := by rw [HN.out]; have := szOf_le k.out; omega
  have hn0 : (0 : Int) ≤ (n : Int) := by omega
  have c0 : w3.cell? ⟨g, 0, none⟩ = some (.int .i64 h) := hk3.hash
  have HADD : Hid (∀ u, Sm w3 u → Calls Tryd.prog 44 #[.pointer (some ⟨g, 0, none⟩), .slice (some ⟨w1.heap.size, 0, none⟩) n 64] u fun e w' => e = .returned (.tuple #[]) ∧ Touch w3 w' g 0 139 ∧ Rep w' g 0 h (wdOf h) so (bsz (wdOf h)) (z1.take n)) := by
    intro u hsm
    have hv := hsm.view (view_cells HR3.out HC.out HZL.out (show n ≤ 64 by omega))
    have hr : Rep u g 0 h (wdOf h) so (bsz (wdOf h)) [] := by obtain ⟨half, hk, q1, q2⟩ := HREP3.out; exact ⟨half, hk.sm hsm, q1, q2⟩
    refine (add_rep (wdOf h) g 0 h so (bsz (wdOf h)) [] (z1.take n) _ u k.out.block hr hv (fun b' off l c' e => .inl (by injection e with e1 e2 e3; injection e1 with e1; injection e1 with e4 e5; have := HGW.out; have := HS.out.2; omega)) (hsm.tables (hT.out.touch HT3.out hg)) hg (by have := HBS.out; simp; omega)).mono ?_
    rintro e w' ⟨rfl, ht, hr'⟩
    exact ⟨rfl, (hsm.touch g 0 139).trans ht, hr'⟩
  clear hk3 ht3 HREP3 HR2 HA HK1 HM1
  go_region_held3 (fun u => u.cell? ⟨g, 0, none⟩ = some (.int .i64 h)) (first | exact c0 | exact hS6 | go_keep) (first
    | (go_at_call 37; refine (size_known k.out _).mono ?_; rintro e5 w5 ⟨rfl, hw5⟩; obtain rfl := hw5.symm; rw [← HN.out])
    | (go_at_call 44; refine (HADD.out w3.drew (Sm.refl w3).drew).mono ?_; rintro e6 w6 ⟨rfl, ht6, hr6⟩; have hS6 : w6.cell? ⟨g, 0, none⟩ = some (.int .i64 h) := hr6.elim (fun _ q => q.1.hash)))
  have HT6 : Hid (Touch w w6 g 0 139) := HT3.out.trans ht6
  have HR6 : Hid (Rep w6 g 0 h (wdOf h) so (bsz (wdOf h)) (z1.take n)) := hr6
  have HRS6 : Hid (w6.there w.heap.size 0 64 ∧ w.heap.size < w6.heap.size) := ⟨ht6.thereFar HRS3.out.1 HRS3.out.2 (by have := HGW.out; omega), Nat.lt_of_lt_of_le HRS3.out.2 ht6.size⟩
  clear ht6 hr6 hS6 HADD c0
  go_wp2_with (first | (go_at_call 54; refine (finish_rep (wdOf h) g 0 h so (bsz (wdOf h)) (z1.take n) w6 k.out.block HR6.out (by have := HBS.out; simp; omega) (hT.out.touch HT6.out hg) hg).mono ?_))
  rintro e7 w7 ⟨rfl, ht7, half7, hk7⟩
  obtain ⟨D, HD⟩ : ∃ D : List Value, Hid (D = spellCells (wsz (wdOf h)) (macE h si so zs)) := ⟨_, (show _ = _ from rfl)⟩
  have hDD : spellCells (wsz (wdOf h)) (endW (wdOf h) so (bsz (wdOf h)) (z1.take n)) = D := by rw [HD.out, macE, ← HZ1.out, ← HN.out]
  rw [hDD]
  have HDL : Hid (D.length = 64) := by show D.length = 64; rw [HD.out]; exact spellCells_length _ _
  have HDA : Hid (D.toArray.size = 64) := by show D.toArray.size = 64; simpa using HDL.out
  have HDO : Hid (D.toArray.all (·.oneCell') = true) := by show D.toArray.all (·.oneCell') = true; rw [HD.out]; exact spellCells_one _ _
  have HT7 : Hid (Touch w w7 g 0 139) := HT6.out.trans ht7
  have HK7 : Hid (∃ s half fed, TK w7 g 0 h (wdOf h) s half fed) := ⟨_, half7, _, hk7⟩
  have HRS7 : Hid (w7.there w.heap.size 0 64) := ht7.thereFar HRS6.out.1 HRS6.out.2 (by have := HGW.out; omega)
  clear ht7 hk7 hDD
  go_wp2_with (first
    | (refine wpList_store_mid (by rfl) 75 (.tmp 2) (.tmp 28) (by rfl) w.heap.size 0 D.toArray (by rfl) (by rfl) (by rw [HDA.out]; exact HRS7.out) (by rw [HDA.out]; exact size75) HDO.out ?_)
    | fail)
  have hl := run_loadVar_mid (P := Tryd.prog) (w7.setCells w.heap.size 0 D) w.heap.size 0 75 D _ (World.rangeAt_setCells_same w7 w.heap.size 0 D (by rw [HDL.out]; exact HRS7.out)) Tryd.underlying75 rfl (by rw [HDL.out]; exact size75)
  have hQ : Touch w (w7.setCells w.heap.size 0 D) g 0 139 ∧ ∃ s half fed, TK (w7.setCells w.heap.size 0 D) g 0 h (wdOf h) s half fed := by
    obtain ⟨s, half, fed, hk⟩ := HK7.out
    exact ⟨touch_new HT7.out (Nat.le_refl _) D 0 HGW.out, s, half, fed, hk.newer (by have := HGW.out; omega) D 0⟩
  refine bodyPost_ret (v := .agg D.toArray) ?_ rfl ⟨by rw [HD.out], hQ⟩
  rw [results_cell1 Tryd.results52]
  simp [Act.put, asAddr, hl]
end Go.Proofs.YtioggmjocelolabDoor
