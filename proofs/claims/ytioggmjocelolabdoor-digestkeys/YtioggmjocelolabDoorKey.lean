import Derived.Test.YtioggmjocelolabDoorMSum
namespace Go.Proofs.YtioggmjocelolabDoor
open Go.RowKit
set_option linter.unusedVariables false
set_option linter.unusedSimpArgs false

def dig (h : Int) (zs : List Int) : List Int := (spellL (wdOf h) (endW (wdOf h) (firstE h) 0 zs)).take (szOf h)
/-- The key's block. -/
def keyOf (h : Int) (key : List Int) : List Int := if key.length ≤ bsz (wdOf h) then key else dig h key
def keyCells (zs : List Int) : List Value := (List.range 128).map fun i => .int .u8 (fnz zs i)
theorem keyCells_length (zs : List Int) : (keyCells zs).length = 128 := by simp [keyCells]
theorem keyCells_at (zs : List Int) (j : Nat) (v : Value) (h : (keyCells zs)[j]? = some v) : j < 128 ∧ v = .int .u8 (fnz zs j) := by
  have hj : j < 128 := by
    by_cases hj : j < 128
    · exact hj
    · rw [List.getElem?_eq_none (by rw [keyCells_length]; omega)] at h; cases h
  refine ⟨hj, ?_⟩
  simp [keyCells, hj] at h
  exact h.symm
theorem key_range {w : World} {K : Nat} {ys : List Int} (hz : ∀ j, j < 128 → w.cell? ⟨K, j, none⟩ = some (.int .u8 0)) (hl : ys.length ≤ 128) : (w.setCells K 0 (cellsU8 ys)).rangeAt K 0 (keyCells ys) := by
  intro j v hv
  obtain ⟨hj, rfl⟩ := keyCells_at ys j v hv
  rw [Nat.zero_add]
  by_cases h : j < ys.length
  · have := World.cell?_setCells_in K (cellsU8 ys) 0 w (fun i hi => by rw [cellsU8_length] at hi; rw [Nat.zero_add, hz i (by omega)]; rfl) j (by rw [cellsU8_length]; exact h)
    rw [Nat.zero_add] at this
    rw [this]
    simp [cellsU8, fnz, List.getD, List.getElem?_eq_getElem h]
  · rw [World.cell?_setCells_out K (cellsU8 ys) 0 w ⟨K, j, none⟩ (fun _ _ => .inr (by rw [cellsU8_length]; show 0 + ys.length ≤ j; omega)), hz j hj]
    simp [fnz, List.getD, List.getElem?_eq_none (show ys.length ≤ j by omega)]
theorem size69 : (Tryd.prog.info? 69).map (·.size) = some 128 := by kernel_rfl
theorem zero69 : Tryd.zeroCells69 = (List.replicate 128 (Value.int .u8 0)).toArray := by kernel_rfl
/-- A key's block, as a value. -/
structure KbBig (T : List Value) : Prop where
  len : T.length = 128
  one : T.toArray.all (·.oneCell') = true
theorem KbBig.size {T : List Value} (h : KbBig T) : T.toArray.size = 128 := by simpa using h.len
theorem KbBig.info {T : List Value} (h : KbBig T) : (Tryd.prog.info? 69).map (·.size) = some T.toArray.size := by rw [h.size]; exact size69
theorem kbBig (zs : List Int) : KbBig (keyCells zs) := ⟨keyCells_length zs, all_oneCell_toArray (by
  intro v hv
  simp only [keyCells, List.mem_map] at hv
  obtain ⟨i, _, rfl⟩ := hv
  rfl)⟩
/-- The three new blocks of keyBlock. -/
theorem key_world (w : World) (T : List Value) (h : Int) (hT : TkBig T) (hh : T[0]? = some (.int .i64 h)) (W : World) (hW : W = ((w.alloc (.cells T.toArray 71)).alloc (.cells Tryd.zeroCells69 69)).alloc (.cells Tryd.zeroCells69 69)) :
    Below w.heap.size w W ∧ W.heap.size = w.heap.size + 3 ∧ W.rangeAt w.heap.size 0 T ∧ W.there w.heap.size 0 139 ∧ W.there (w.heap.size + 1) 0 128 ∧ W.there (w.heap.size + 1 + 1) 0 128 ∧ (∀ j, j < 128 → W.cell? ⟨w.heap.size + 1 + 1, j, none⟩ = some (.int .u8 0)) ∧ W.cell? ⟨w.heap.size, 0, none⟩ = some (.int .i64 h) := by
  subst hW
  have hz : Tryd.zeroCells69.size = 128 := by rw [zero69]; simp
  have hr : (((w.alloc (.cells T.toArray 71)).alloc (.cells Tryd.zeroCells69 69)).alloc (.cells Tryd.zeroCells69 69)).rangeAt w.heap.size 0 T := World.rangeAt_alloc (World.rangeAt_alloc (rangeAt_new w T.toArray 71) _) _
  have h2 : (w.alloc (.cells T.toArray 71)).heap.size = w.heap.size + 1 := by simp
  have h3 : ((w.alloc (.cells T.toArray 71)).alloc (.cells Tryd.zeroCells69 69)).heap.size = w.heap.size + 1 + 1 := by simp
  refine ⟨(((Below.refl _ _).alloc (Nat.le_refl _) _).alloc (by simp) _).alloc (by simp; omega) _, by simp, hr, World.there_alloc (World.there_alloc (there_new w T.toArray 71 139 (by rw [hT.size]; exact Nat.le_refl _)) _) _, ?_, ?_, ?_, hr 0 _ hh⟩
  · have := there_new (w.alloc (.cells T.toArray 71)) Tryd.zeroCells69 69 128 (by rw [hz]; exact Nat.le_refl _)
    rw [h2] at this
    exact World.there_alloc this _
  · have := there_new ((w.alloc (.cells T.toArray 71)).alloc (.cells Tryd.zeroCells69 69)) Tryd.zeroCells69 69 128 (by rw [hz]; exact Nat.le_refl _)
    rw [h3] at this
    exact this
  · intro j hj
    rw [World.cell?_alloc_at _ _ _ _ h3.symm, zero69]
    exact zero_lit 128 j hj

set_option maxHeartbeats 400000 in
set_option maxRecDepth 100000 in
theorem keyBlock_short (h : Int) (T : List Value) (n cap : Nat) (a : Option Addr) (key : List Int) (w : World) (HT0 : Hid (TkBig T)) (HTH : Hid (T[0]? = some (.int .i64 h))) (bs : Nat) (hblk : Hid (blockOf h = bs)) (hn : (n : Int) ≤ bs) (hbs : bs ≤ 128) (hv : Hid (View w (.slice a n cap) key)) :
    Calls Tryd.prog 49 #[.agg T.toArray, .slice a n cap] w fun e w' => e = .returned (.agg (keyCells key).toArray) ∧ Below w.heap.size w w' := by
  have HKL : Hid (key.length = n) := (view_bounds hv.out).1
  go_enter Tryd.func49, Tryd.ntmps49
  go_upto_region 2 with fail
  obtain ⟨w3, hw3⟩ : ∃ w3, w3 = ((w.alloc (.cells T.toArray 71)).alloc (.cells Tryd.zeroCells69 69)).alloc (.cells Tryd.zeroCells69 69) := ⟨_, rfl⟩
  have HW := key_world w T h HT0.out HTH.out w3 hw3
  rw [← hw3]
  have HW3 : Hid (Below w.heap.size w w3 ∧ w3.heap.size = w.heap.size + 3 ∧ w3.rangeAt w.heap.size 0 T ∧ w3.there w.heap.size 0 139 ∧ w3.there (w.heap.size + 1) 0 128 ∧ w3.there (w.heap.size + 1 + 1) 0 128 ∧ (∀ j, j < 128 → w3.cell? ⟨w.heap.size + 1 + 1, j, none⟩ = some (.int .u8 0)) ∧ w3.cell? ⟨w.heap.size, 0, none⟩ = some (.int .i64 h)) := HW
  have c0 : w3.cell? ⟨w.heap.size, 0, none⟩ = some (.int .i64 h) := HW.2.2.2.2.2.2.2
  clear HW hw3
  have hv3 : View w3 (.slice a n cap) key := hv.out.kept (fun q hq => HW3.out.1.block q hq)
  have hcp := copy_eq w3 (w.heap.size + 1 + 1) 0 128 128 a n cap n key (by omega) hv3 (there_part HW3.out.2.2.2.2.2.1 (by omega) (by omega))
  rw [List.take_of_length_le (by rw [HKL.out]; exact Nat.le_refl _)] at hcp
  have HR4 : Hid ((w3.setCells (w.heap.size + 1 + 1) 0 (cellsU8 key)).rangeAt (w.heap.size + 1 + 1) 0 (keyCells key)) := key_range HW3.out.2.2.2.2.2.2.1 (by rw [HKL.out]; omega)
  have HB4 : Hid (Below w.heap.size w (w3.setCells (w.heap.size + 1 + 1) 0 (cellsU8 key)) ∧ (w3.setCells (w.heap.size + 1 + 1) 0 (cellsU8 key)).there (w.heap.size + 1) 0 128) := ⟨below_setCells _ (by omega) _ _ _ HW3.out.1, World.there_setCells HW3.out.2.2.2.2.1 _ _ _⟩
  generalize w3.setCells (w.heap.size + 1 + 1) 0 (cellsU8 key) = w4 at hcp HR4 HB4
  obtain ⟨Y, HY⟩ : ∃ Y : List Value, Hid (Y = keyCells key) := ⟨_, (show _ = _ from rfl)⟩
  rw [← HY.out] at HR4
  have HG : Hid (KbBig Y) := by show KbBig Y; rw [HY.out]; exact kbBig _
  clear hv3 HW3
  go_upto_region 4 with (first | (go_at_call 15; refine (block_any h _).mono ?_; rintro e5 w5 ⟨rfl, hw5⟩; obtain rfl := hw5.symm; rw [hblk.out]) | fail)
  clear hcp c0
  go_wp2_with (first
    | (refine wpList_load_mid (by rfl) 69 (.tmp 5) (by rfl) (w.heap.size + 1 + 1) 0 (by rfl) Y _ HR4.out Tryd.underlying69 rfl (by rw [HG.out.len]; exact size69) ?_)
    | (refine wpList_store_mid (by rfl) 69 (.tmp 4) (.tmp 16) (by rfl) (w.heap.size + 1) 0 Y.toArray (by rfl) (by rfl) (by rw [HG.out.size]; exact HB4.out.2) HG.out.info HG.out.one ?_)
    | fail)
  have hl := run_loadVar_mid (P := Tryd.prog) (w4.setCells (w.heap.size + 1) 0 Y) (w.heap.size + 1) 0 69 Y _ (World.rangeAt_setCells_same w4 (w.heap.size + 1) 0 Y (by rw [HG.out.len]; exact HB4.out.2)) Tryd.underlying69 rfl (by rw [HG.out.len]; exact size69)
  refine bodyPost_ret (v := .agg Y.toArray) ?_ rfl ⟨by rw [HY.out], below_setCells _ (by omega) _ _ _ HB4.out.1⟩
  rw [results_cell1 Tryd.results49]
  simp [Act.put, asAddr, hl]

set_option maxHeartbeats 400000 in
set_option maxRecDepth 100000 in
theorem keyBlock_long (h : Int) (n cap : Nat) (a : Option Addr) (key : List Int) (w : World) (k : Hid (Known h)) (bs : Nat) (hbsE : Hid (bs = bsz (wdOf h))) (hn : (bs : Int) < n) (hn2 : (n : Int) ≤ 33554432) (hv : Hid (View w (.slice a n cap) key)) (hT : Hid (Tables w)) :
    Calls Tryd.prog 49 #[.agg (tkL h (wdOf h) (firstE h) (fun _ => 0) 0).toArray, .slice a n cap] w fun e w' => e = .returned (.agg (keyCells (dig h key)).toArray) ∧ Below w.heap.size w w' := by
  have HKL : Hid (key.length = n) := (view_bounds hv.out).1
  have hblk : Hid (blockOf h = bs) := by show blockOf h = bs; rw [hbsE.out]; exact k.out.block
  obtain ⟨T, HTT⟩ : ∃ T : List Value, Hid (T = tkL h (wdOf h) (firstE h) (fun _ => 0) 0) := ⟨_, (show _ = _ from rfl)⟩
  rw [← HTT.out]
  have HT0 : Hid (TkBig T) := by show TkBig T; rw [HTT.out]; exact tkBig _ _ _ _ _
  have HTH : Hid (T[0]? = some (.int .i64 h)) := by show T[0]? = _; rw [HTT.out]; rfl
  go_enter Tryd.func49, Tryd.ntmps49
  go_upto_region 2 with fail
  obtain ⟨w3, hw3⟩ : ∃ w3, w3 = ((w.alloc (.cells T.toArray 71)).alloc (.cells Tryd.zeroCells69 69)).alloc (.cells Tryd.zeroCells69 69) := ⟨_, rfl⟩
  have HW := key_world w T h HT0.out HTH.out w3 hw3
  rw [← hw3]
  have HW3 : Hid (Below w.heap.size w w3 ∧ w3.heap.size = w.heap.size + 3 ∧ w3.rangeAt w.heap.size 0 T ∧ w3.there w.heap.size 0 139 ∧ w3.there (w.heap.size + 1) 0 128 ∧ w3.there (w.heap.size + 1 + 1) 0 128 ∧ (∀ j, j < 128 → w3.cell? ⟨w.heap.size + 1 + 1, j, none⟩ = some (.int .u8 0)) ∧ w3.cell? ⟨w.heap.size, 0, none⟩ = some (.int .i64 h)) := HW
  have c0 : w3.cell? ⟨w.heap.size, 0, none⟩ = some (.int .i64 h) := HW.2.2.2.2.2.2.2
  clear HW hw3
  have HADD : Hid (Calls Tryd.prog 44 #[.pointer (some ⟨w.heap.size, 0, none⟩), .slice a n cap] w3 fun e w' => e = .returned (.tuple #[]) ∧ Touch w3 w' w.heap.size 0 139 ∧ Rep w' w.heap.size 0 h (wdOf h) (firstE h) 0 key) := by
    have hr : Rep w3 w.heap.size 0 h (wdOf h) (firstE h) 0 [] := rep_nil (TK.of (half := fun _ => 0) (by rw [← HTT.out]; exact HW3.out.2.2.1) HW3.out.2.2.2.1) (Nat.zero_mod _)
    have hvb := hv.out
    obtain ⟨a', c', e', q1, q2, q3, q4⟩ := hv.out
    exact add_rep (wdOf h) w.heap.size 0 h (firstE h) 0 [] key _ w3 k.out.block hr (hvb.kept (fun q hq => HW3.out.1.block q hq)) (fun b' off l c2 e => by
      rcases q4 with rfl | ⟨b2, p2, e3, hc⟩
      · exfalso; have := HKL.out; simp at this; omega
      · left
        have hlt := lt_of_cell (hc 0 (by have := HKL.out; omega))
        rw [e] at e'
        injection e' with e4 _ _
        rw [e3] at e4
        injection e4 with e4
        injection e4 with e4 _
        simp at hlt
        omega) (hT.out.below HW3.out.1 hT.out.size) hT.out.size (by have := HKL.out; simp; omega)
  go_wp2_with (first
    | (go_at_call 15; refine (block_any h _).mono ?_; rintro e5 w5 ⟨rfl, hw5⟩; obtain rfl := hw5.symm; rw [hblk.out])
    | (go_at_call 44; refine HADD.out.mono ?_))
  rintro e4 w4 ⟨rfl, ht4, hr4⟩
  have hne1 : ∀ x : Nat, w.heap.size + 1 + x ≠ w.heap.size := fun x => by omega
  have HR4 : Hid (Rep w4 w.heap.size 0 h (wdOf h) (firstE h) 0 key) := hr4
  have HX4 : Hid (Touch w3 w4 w.heap.size 0 139 ∧ Below w.heap.size w w4) := ⟨ht4, HW3.out.1.trans (ht4.toBelow (Nat.le_refl _) HW3.out.1.size)⟩
  clear ht4 hr4 HADD c0
  go_wp2_with (first | (go_at_call 54; refine (finish_rep (wdOf h) w.heap.size 0 h (firstE h) 0 key w4 k.out.block HR4.out (by have := HKL.out; omega) (hT.out.below HX4.out.2 hT.out.size) hT.out.size).mono ?_))
  rintro e5 w5 ⟨rfl, ht5, half5, hk5⟩
  obtain ⟨z1, HZ1⟩ : ∃ z1 : List Int, Hid (z1 = spellL (wdOf h) (endW (wdOf h) (firstE h) 0 key)) := ⟨_, (show _ = _ from rfl)⟩
  have HZL : Hid (z1.length = 64) := by show z1.length = 64; rw [HZ1.out]; exact spellL_length _ _
  obtain ⟨C, HC⟩ : ∃ C : List Value, Hid (C = cellsU8 z1) := ⟨_, (show _ = _ from rfl)⟩
  rw [spellCells_eq, ← HZ1.out, ← HC.out]
  have HL : Hid (C.length = 64) := by show C.length = 64; rw [HC.out, cellsU8_length]; exact HZL.out
  have HLA : Hid (C.toArray.size = 64) := by show C.toArray.size = 64; simpa using HL.out
  have HO : Hid (C.toArray.all (·.oneCell') = true) := all_oneCell_toArray (by rw [HC.out]; exact cellsU8_one _)
  have HX : Hid ((w5.alloc (.cells #[.int .u8 0, .int .u8 0, .int .u8 0, .int .u8 0, .int .u8 0, .int .u8 0, .int .u8 0, .int .u8 0, .int .u8 0, .int .u8 0, .int .u8 0, .int .u8 0, .int .u8 0, .int .u8 0, .int .u8 0, .int .u8 0, .int .u8 0, .int .u8 0, .int .u8 0, .int .u8 0, .int .u8 0, .int .u8 0, .int .u8 0, .int .u8 0, .int .u8 0, .int .u8 0, .int .u8 0, .int .u8 0, .int .u8 0, .int .u8 0, .int .u8 0, .int .u8 0, .int .u8 0, .int .u8 0, .int .u8 0, .int .u8 0, .int .u8 0, .int .u8 0, .int .u8 0, .int .u8 0, .int .u8 0, .int .u8 0, .int .u8 0, .int .u8 0, .int .u8 0, .int .u8 0, .int .u8 0, .int .u8 0, .int .u8 0, .int .u8 0, .int .u8 0, .int .u8 0, .int .u8 0, .int .u8 0, .int .u8 0, .int .u8 0, .int .u8 0, .int .u8 0, .int .u8 0, .int .u8 0, .int .u8 0, .int .u8 0, .int .u8 0, .int .u8 0] 75)).there w5.heap.size 0 64) := there_new w5 _ 75 64 (by decide)
  have HT35 : Hid (Touch w3 w5 w.heap.size 0 139) := HX4.out.1.trans ht5
  have HB5 : Hid (Below w.heap.size w w5) := HW3.out.1.trans (HT35.out.toBelow (Nat.le_refl _) HW3.out.1.size)
  have HC5 : Hid (w5.cell? ⟨w.heap.size, 0, none⟩ = some (.int .i64 h)) := hk5.hash
  clear ht5 hk5 HX4 HR4
  go_upto_region 7 with (first
    | (refine wpList_store_mid (by rfl) 75 (.tmp 6) (.tmp 19) (by rfl) w5.heap.size 0 C.toArray (by rfl) (by rfl) (by rw [HLA.out]; exact HX.out) (by rw [HLA.out]; exact size75) HO.out ?_)
    | fail)
  have HR6 : Hid (((w5.alloc (.cells #[.int .u8 0, .int .u8 0, .int .u8 0, .int .u8 0, .int .u8 0, .int .u8 0, .int .u8 0, .int .u8 0, .int .u8 0, .int .u8 0, .int .u8 0, .int .u8 0, .int .u8 0, .int .u8 0, .int .u8 0, .int .u8 0, .int .u8 0, .int .u8 0, .int .u8 0, .int .u8 0, .int .u8 0, .int .u8 0, .int .u8 0, .int .u8 0, .int .u8 0, .int .u8 0, .int .u8 0, .int .u8 0, .int .u8 0, .int .u8 0, .int .u8 0, .int .u8 0, .int .u8 0, .int .u8 0, .int .u8 0, .int .u8 0, .int .u8 0, .int .u8 0, .int .u8 0, .int .u8 0, .int .u8 0, .int .u8 0, .int .u8 0, .int .u8 0, .int .u8 0, .int .u8 0, .int .u8 0, .int .u8 0, .int .u8 0, .int .u8 0, .int .u8 0, .int .u8 0, .int .u8 0, .int .u8 0, .int .u8 0, .int .u8 0, .int .u8 0, .int .u8 0, .int .u8 0, .int .u8 0, .int .u8 0, .int .u8 0, .int .u8 0, .int .u8 0] 75)).setCells w5.heap.size 0 C).rangeAt w5.heap.size 0 C) := World.rangeAt_setCells_same _ _ _ _ (by rw [HL.out]; exact HX.out)
  have HB6 : Hid (Below w5.heap.size w5 ((w5.alloc (.cells #[.int .u8 0, .int .u8 0, .int .u8 0, .int .u8 0, .int .u8 0, .int .u8 0, .int .u8 0, .int .u8 0, .int .u8 0, .int .u8 0, .int .u8 0, .int .u8 0, .int .u8 0, .int .u8 0, .int .u8 0, .int .u8 0, .int .u8 0, .int .u8 0, .int .u8 0, .int .u8 0, .int .u8 0, .int .u8 0, .int .u8 0, .int .u8 0, .int .u8 0, .int .u8 0, .int .u8 0, .int .u8 0, .int .u8 0, .int .u8 0, .int .u8 0, .int .u8 0, .int .u8 0, .int .u8 0, .int .u8 0, .int .u8 0, .int .u8 0, .int .u8 0, .int .u8 0, .int .u8 0, .int .u8 0, .int .u8 0, .int .u8 0, .int .u8 0, .int .u8 0, .int .u8 0, .int .u8 0, .int .u8 0, .int .u8 0, .int .u8 0, .int .u8 0, .int .u8 0, .int .u8 0, .int .u8 0, .int .u8 0, .int .u8 0, .int .u8 0, .int .u8 0, .int .u8 0, .int .u8 0, .int .u8 0, .int .u8 0, .int .u8 0, .int .u8 0] 75)).setCells w5.heap.size 0 C)) := below_setCells _ (Nat.le_refl _) _ _ _ ((Below.refl _ _).alloc (Nat.le_refl _) _)
  generalize (w5.alloc (.cells #[.int .u8 0, .int .u8 0, .int .u8 0, .int .u8 0, .int .u8 0, .int .u8 0, .int .u8 0, .int .u8 0, .int .u8 0, .int .u8 0, .int .u8 0, .int .u8 0, .int .u8 0, .int .u8 0, .int .u8 0, .int .u8 0, .int .u8 0, .int .u8 0, .int .u8 0, .int .u8 0, .int .u8 0, .int .u8 0, .int .u8 0, .int .u8 0, .int .u8 0, .int .u8 0, .int .u8 0, .int .u8 0, .int .u8 0, .int .u8 0, .int .u8 0, .int .u8 0, .int .u8 0, .int .u8 0, .int .u8 0, .int .u8 0, .int .u8 0, .int .u8 0, .int .u8 0, .int .u8 0, .int .u8 0, .int .u8 0, .int .u8 0, .int .u8 0, .int .u8 0, .int .u8 0, .int .u8 0, .int .u8 0, .int .u8 0, .int .u8 0, .int .u8 0, .int .u8 0, .int .u8 0, .int .u8 0, .int .u8 0, .int .u8 0, .int .u8 0, .int .u8 0, .int .u8 0, .int .u8 0, .int .u8 0, .int .u8 0, .int .u8 0, .int .u8 0] 75)).setCells w5.heap.size 0 C = w6 at HR6 HB6 ⊢
  have hs5 : w3.heap.size ≤ w5.heap.size := HT35.out.size
  have hs3 := HW3.out.2.1
  have HTR : Hid (w6.there (w.heap.size + 1) 0 128 ∧ w6.there (w.heap.size + 1 + 1) 0 128 ∧ (∀ j, j < 128 → w6.cell? ⟨w.heap.size + 1 + 1, j, none⟩ = some (.int .u8 0))) := by
    have hth : ∀ b, w.heap.size < b → b < w3.heap.size → w3.there b 0 128 → w6.there b 0 128 := fun b hb hb3 ht j hj => by
      rw [HB6.out.cell (p := ⟨b, 0 + j, none⟩) (by show b < w5.heap.size; omega), HB6.out.frozen (p := ⟨b, 0 + j, none⟩) (by show b < w5.heap.size; omega)]
      exact HT35.out.thereFar ht hb3 (by omega) j hj
    refine ⟨hth _ (by omega) (by omega) HW3.out.2.2.2.2.1, hth _ (by omega) (by omega) HW3.out.2.2.2.2.2.1, fun j hj => ?_⟩
    rw [HB6.out.cell (p := ⟨w.heap.size + 1 + 1, j, none⟩) (by show w.heap.size + 1 + 1 < w5.heap.size; omega), HT35.out.far (p := ⟨w.heap.size + 1 + 1, j, none⟩) (by show w.heap.size + 1 + 1 < w3.heap.size; omega) (by show w.heap.size + 1 + 1 ≠ w.heap.size; omega)]
    exact HW3.out.2.2.2.2.2.2.1 j hj
  have c6 : w6.cell? ⟨w.heap.size, 0, none⟩ = some (.int .i64 h) := by rw [HB6.out.cell (p := ⟨w.heap.size, 0, none⟩) (by show w.heap.size < w5.heap.size; omega)]; exact HC5.out
  have HB6' : Hid (Below w.heap.size w w6) := HB5.out.trans (HB6.out.mono HB5.out.size)
  clear hs5 hs3 HX
  obtain ⟨m, HM⟩ : ∃ m : Nat, Hid (m = szOf h) := ⟨_, (show _ = _ from rfl)⟩
  have hm : (m : Int) ≤ 64 := by rw [HM.out]; have := szOf_le k.out; omega
  have hm0 : (0 : Int) ≤ (m : Int) := by omega
  have hcp := copy_eq w6.drew (w.heap.size + 1 + 1) 0 128 128 (some ⟨w5.heap.size, 0, none⟩) m 64 m (z1.take m) (by omega) ((Sm.refl w6).drew.view (view_cells HR6.out HC.out HZL.out (show m ≤ 64 by omega))) (there_part (w := w6.drew) HTR.out.2.1 (by omega) (by omega))
  rw [List.take_take, Nat.min_self] at hcp
  have hz1l : (z1.take m).length ≤ 128 := by rw [List.length_take]; omega
  have HR7 : Hid ((w6.drew.setCells (w.heap.size + 1 + 1) 0 (cellsU8 (z1.take m))).rangeAt (w.heap.size + 1 + 1) 0 (keyCells (z1.take m))) := key_range (w := w6.drew) HTR.out.2.2 hz1l
  have HB7 : Hid (Below w.heap.size w (w6.drew.setCells (w.heap.size + 1 + 1) 0 (cellsU8 (z1.take m))) ∧ (w6.drew.setCells (w.heap.size + 1 + 1) 0 (cellsU8 (z1.take m))).there (w.heap.size + 1) 0 128) := ⟨below_setCells _ (by omega) _ _ _ HB6'.out.drew, World.there_setCells (w := w6.drew) HTR.out.1 _ _ _⟩
  have hS7 : (w6.drew.setCells (w.heap.size + 1 + 1) 0 (cellsU8 (z1.take m))).cell? ⟨w.heap.size, 0, none⟩ = some (.int .i64 h) := by
    rw [World.cell?_setCells_out _ _ _ _ ⟨w.heap.size, 0, none⟩ (fun e _ => absurd e (by show w.heap.size ≠ w.heap.size + 1 + 1; omega))]
    exact c6
  generalize w6.drew.setCells (w.heap.size + 1 + 1) 0 (cellsU8 (z1.take m)) = w7 at hcp HR7 HB7 hS7
  obtain ⟨Y, HY⟩ : ∃ Y : List Value, Hid (Y = keyCells (z1.take m)) := ⟨_, (show _ = _ from rfl)⟩
  rw [← HY.out] at HR7
  have HG : Hid (KbBig Y) := by show KbBig Y; rw [HY.out]; exact kbBig _
  clear hz1l
  go_region_held3 (fun u => u.cell? ⟨w.heap.size, 0, none⟩ = some (.int .i64 h)) (first | exact c6 | exact hS7 | go_keep) (first
    | (go_at_call 37; refine (size_known k.out _).mono ?_; rintro e8 w8 ⟨rfl, hw8⟩; obtain rfl := hw8.symm; rw [← HM.out]))
  clear hcp c6 hS7
  go_wp2_with (first
    | (refine wpList_load_mid (by rfl) 69 (.tmp 5) (by rfl) (w.heap.size + 1 + 1) 0 (by rfl) Y _ HR7.out Tryd.underlying69 rfl (by rw [HG.out.len]; exact size69) ?_)
    | (refine wpList_store_mid (by rfl) 69 (.tmp 4) (.tmp 26) (by rfl) (w.heap.size + 1) 0 Y.toArray (by rfl) (by rfl) (by rw [HG.out.size]; exact HB7.out.2) HG.out.info HG.out.one ?_)
    | fail)
  have hl := run_loadVar_mid (P := Tryd.prog) (w7.setCells (w.heap.size + 1) 0 Y) (w.heap.size + 1) 0 69 Y _ (World.rangeAt_setCells_same w7 (w.heap.size + 1) 0 Y (by rw [HG.out.len]; exact HB7.out.2)) Tryd.underlying69 rfl (by rw [HG.out.len]; exact size69)
  refine bodyPost_ret (v := .agg Y.toArray) ?_ rfl ⟨by rw [HY.out, dig, ← HZ1.out, ← HM.out], below_setCells _ (by omega) _ _ _ HB7.out.1⟩
  rw [results_cell1 Tryd.results49]
  simp [Act.put, asAddr, hl]

/-- keyBlock. -/
theorem keyBlock_any (h : Int) (v : Value) (key : List Int) (w : World) (k : Known h) (hv : View w v key) (hT : Tables w) (hl : key.length ≤ 33554432) :
    Calls Tryd.prog 49 #[.agg (tkL h (wdOf h) (firstE h) (fun _ => 0) 0).toArray, v] w fun e w' => e = .returned (.agg (keyCells (keyOf h key)).toArray) ∧ Below w.heap.size w w' := by
  have hvv := hv
  obtain ⟨a, cap, rfl, h1⟩ := hv
  have hb : bsz (wdOf h) ≤ 128 := by cases wdOf h <;> decide
  by_cases hs : key.length ≤ bsz (wdOf h)
  · rw [keyOf, if_pos hs]
    exact keyBlock_short h _ key.length cap a key w (tkBig _ _ _ _ _) rfl (bsz (wdOf h)) k.block (by omega) hb hvv
  · rw [keyOf, if_neg hs]
    exact keyBlock_long h key.length cap a key w k (bsz (wdOf h)) rfl (by omega) (by omega) hvv hT
end Go.Proofs.YtioggmjocelolabDoor
