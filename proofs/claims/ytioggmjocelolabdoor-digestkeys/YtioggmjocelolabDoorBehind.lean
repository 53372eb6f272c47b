import Derived.Test.YtioggmjocelolabDoorKey
namespace Go.Proofs.YtioggmjocelolabDoor
open Go.RowKit
set_option linter.unusedVariables false
set_option linter.unusedSimpArgs false

/-- A block's bytes, each exclusive-or a mask. -/
def maskF (zs : List Int) (mask : Int) (i : Nat) : Int := bits .xor .u8 (fnz zs i) mask

set_option maxHeartbeats 800000 in
set_option maxRecDepth 100000 in
theorem behind64 (h : Int) (s : Eight) (half : Nat → Int) (fed : Nat) (zs : List Int) (mask : Int) (w : World) (hblk : blockOf h = 64) (hT : Hid (Tables w)) :
    Calls Tryd.prog 50 #[.agg (tkL h false s half fed).toArray, .agg (keyCells zs).toArray, .int .u8 mask] w fun e w' => e = .returned (.agg (TT false (maskF zs mask) s 1).cells.toArray) ∧ Below w.heap.size w w' := by
  obtain ⟨T, HTT⟩ : ∃ T : List Value, Hid (T = tkL h false s half fed) := ⟨_, (show _ = _ from rfl)⟩
  obtain ⟨Y, HYY⟩ : ∃ Y : List Value, Hid (Y = keyCells zs) := ⟨_, (show _ = _ from rfl)⟩
  rw [← HTT.out, ← HYY.out]
  go_enter Tryd.func50, Tryd.ntmps50
  go_upto_region 1 with fail
  obtain ⟨w3, hw3⟩ : ∃ w3, w3 = ((w.alloc (.cells T.toArray 71)).alloc (.cells Y.toArray 69)).alloc (.cells #[.int .u64 0, .int .u64 0, .int .u64 0, .int .u64 0, .int .u64 0, .int .u64 0, .int .u64 0, .int .u64 0] 68) := ⟨_, rfl⟩
  rw [← hw3]
  have HW3 : Hid (Below w.heap.size w w3 ∧ TK w3 w.heap.size 0 h false s half fed ∧ w3.there (w.heap.size + 1) 0 128 ∧ (∀ j, j < 128 → w3.cell? ⟨w.heap.size + 1, j, none⟩ = some (.int .u8 (if j < 0 then maskF zs mask j else fnz zs j))) ∧ w3.there (w.heap.size + 1 + 1) 0 8 ∧ w3.heap.size = w.heap.size + 3) := by
    subst hw3
    have h2 : (w.alloc (.cells T.toArray 71)).heap.size = w.heap.size + 1 := by simp
    have h3 : ((w.alloc (.cells T.toArray 71)).alloc (.cells Y.toArray 69)).heap.size = w.heap.size + 1 + 1 := by simp
    refine ⟨(((Below.refl _ _).alloc (Nat.le_refl _) _).alloc (by simp) _).alloc (by simp; omega) _, TK.of ?_ ?_, ?_, ?_, ?_, by simp⟩
    · rw [← HTT.out]
      exact World.rangeAt_alloc (World.rangeAt_alloc (rangeAt_new w T.toArray 71) _) _
    · exact World.there_alloc (World.there_alloc (there_new w T.toArray 71 139 (by rw [HTT.out, tkArr_size]; exact Nat.le_refl _)) _) _
    · have := there_new (w.alloc (.cells T.toArray 71)) Y.toArray 69 128 (by rw [HYY.out, (kbBig zs).size]; exact Nat.le_refl _)
      rw [h2] at this
      exact World.there_alloc this _
    · intro j hj
      rw [World.cell?_alloc_past _ _ _ (by rw [h3]; omega), World.cell?_alloc_at _ _ _ _ h2.symm, HYY.out, if_neg (by omega)]
      simp [keyCells, hj]
    · have := there_new ((w.alloc (.cells T.toArray 71)).alloc (.cells Y.toArray 69)) #[.int .u64 0, .int .u64 0, .int .u64 0, .int .u64 0, .int .u64 0, .int .u64 0, .int .u64 0, .int .u64 0] 68 8 (by decide)
      rw [h3] at this
      exact this
  clear hw3
  go_wp2
  go_loopw [8] (fun v wr => ∃ q : Nat, q ≤ 128 ∧ v = .int .i64 q ∧ Hid (Below w.heap.size w wr) ∧ Hid (TK wr w.heap.size 0 h false s half fed) ∧ Hid (wr.there (w.heap.size + 1) 0 128) ∧ Hid (∀ j, j < 128 → wr.cell? ⟨w.heap.size + 1, j, none⟩ = some (.int .u8 (if j < q then maskF zs mask j else fnz zs j))) ∧ Hid (wr.there (w.heap.size + 1 + 1) 0 8 ∧ wr.heap.size = w.heap.size + 3)) (fun v _ => 128 - (intOf v).toNat)
  case atStart => exact ⟨0, by omega, rfl, HW3.out.1, HW3.out.2.1, HW3.out.2.2.1, HW3.out.2.2.2.1, HW3.out.2.2.2.2⟩
  case round =>
    obtain ⟨q, hq, rfl, HB, HK, HTH, HC, HS⟩ := hrel
    clear HW3
    by_cases hlt : q < 128
    · have c1 : wr.cell? ⟨w.heap.size + 1, q, none⟩ = some (.int .u8 (fnz zs q)) := by rw [HC.out q hlt, if_neg (by omega)]
      have f1 : wr.frozen? ⟨w.heap.size + 1, q, none⟩ = false := by have := (HTH.out q hlt).2; rw [Nat.zero_add] at this; exact this
      have hq1 : (q : Int) < 128 := by omega
      have hq0 : (0 : Int) ≤ (q : Int) := by omega
      go_wp2
      go_roundw
      case rel =>
        have ho : ∀ j, j ≠ q → (wr.setCell ⟨w.heap.size + 1, q, none⟩ (.int .u8 (maskF zs mask q))).cell? ⟨w.heap.size + 1, j, none⟩ = wr.cell? ⟨w.heap.size + 1, j, none⟩ := fun j hj => World.cell?_setCells_out (w.heap.size + 1) [_] q wr ⟨w.heap.size + 1, j, none⟩ (fun _ _ => by show j < q ∨ q + 1 ≤ j; omega)
        refine ⟨q + 1, by omega, by go_num, HB.out.setCell (by simp) _, HK.out.newer (b := w.heap.size + 1) (by omega) [_] q, World.there_setCells HTH.out _ q [_], fun j hj => ?_, ⟨World.there_setCells HS.out.1 _ q [_], by rw [← HS.out.2]; exact size_setCells (w.heap.size + 1) [_] q wr⟩⟩
        by_cases hjq : j = q
        · subst hjq
          rw [if_pos (by omega)]
          exact World.cell?_setCell_same' _ _ _ (by rw [c1]; rfl)
        · refine (ho j hjq).trans ?_
          rw [HC.out j hj]
          by_cases hl : j < q
          · rw [if_pos hl, if_pos (by omega)]
          · rw [if_neg hl, if_neg (by omega)]
      case measure => simp [intOf]; omega
    · obtain rfl : q = 128 := by omega
      have hgw : w.heap.size < wr.heap.size := by have := HS.out.2; omega
      have c0 : wr.cell? ⟨w.heap.size, 0, none⟩ = some (.int .i64 h) := HK.out.hash
      have cf : wr.cell? ⟨w.heap.size, 1, none⟩ = some (.func (.func 61) #[] #[]) := HK.out.fn
      have HV : Hid (View wr (.slice (some ⟨w.heap.size + 1, 0, none⟩) 64 128) ((List.range 64).map (maskF zs mask))) := by
        refine ⟨_, 128, by simp, by simp, by simp [maxLen], (fun e => by cases e), .inr ⟨w.heap.size + 1, 0, rfl, fun i hi => ?_⟩⟩
        have hi' : i < 64 := by simpa using hi
        rw [Nat.zero_add, HC.out i (by omega), if_pos (by omega)]
        simp [List.getD, hi']
      have HA : Hid (∀ v, Sm wr v → Calls Tryd.prog 61 #[.pointer (some ⟨w.heap.size, 2, none⟩), .slice (some ⟨w.heap.size + 1, 0, none⟩) 64 128] v fun e w' => e = .returned (.tuple #[]) ∧ Touch wr w' w.heap.size 2 8 ∧ w'.rangeAt w.heap.size 2 (TT false (maskF zs mask) s 1).cells) := by
        intro v hsm
        have hk' := HK.out.sm hsm
        refine (take_any false w.heap.size 2 _ ((List.range 64).map (maskF zs mask)) s v (by rw [hsm.heap]; exact hgw) (by have := hk'.st; rwa [Nat.zero_add] at this) (fun j hj => by have := hk'.there (2 + j) (by omega); rw [Nat.zero_add] at this; exact this) (hsm.view HV.out) (fun _ _ _ _ e => by injection e with e1 e2 e3; injection e1 with e1; injection e1 with e4 e5; left; omega) (hsm.tables (hT.out.below HB.out hT.out.size)) hT.out.size).mono ?_
        rintro e w' ⟨rfl, ht', hr'⟩
        rw [show ((List.range 64).map (maskF zs mask)).length / bsz false = 1 by simp [bsz], TT_congr false (B' := maskF zs mask) s 1 (fun j hj => by simp [bsz] at hj; simp [List.getD, hj])] at hr'
        exact ⟨rfl, (hsm.touch w.heap.size 2 8).trans ht', hr'⟩
      obtain ⟨E, HE⟩ : ∃ E : Eight, Hid (E = TT false (maskF zs mask) s 1) := ⟨_, (show _ = _ from rfl)⟩
      rw [← HE.out] at HA
      clear HC HV
      go_upto_region 6 with fail
      go_region_held3 (fun v => v.cell? ⟨w.heap.size, 0, none⟩ = some (.int .i64 h) ∧ v.cell? ⟨w.heap.size, 1, none⟩ = some (.func (.func 61) #[] #[])) (first | exact ⟨c0, cf⟩ | exact hS6 | go_keep) (first
        | (go_at_call 15; refine (block_any h _).mono ?_; rintro e5 w5 ⟨rfl, hw5⟩; obtain rfl := hw5.symm; rw [hblk])
        | (go_at_call 61; refine (HA.out wr.drew (Sm.refl wr).drew).mono ?_; rintro e6 w6 ⟨rfl, ht6, hr6⟩; have hS6 : w6.cell? ⟨w.heap.size, 0, none⟩ = some (.int .i64 h) ∧ w6.cell? ⟨w.heap.size, 1, none⟩ = some (.func (.func 61) #[] #[]) := ⟨by rw [ht6.cell 0 (by omega)]; exact c0, by rw [ht6.cell 1 (by omega)]; exact cf⟩))
      have HR6 : Hid (w6.rangeAt w.heap.size 2 E.cells) := hr6
      have HB6 : Hid (Below w.heap.size w w6 ∧ w6.there (w.heap.size + 1 + 1) 0 E.cells.toArray.size) := ⟨HB.out.trans (ht6.toBelow (Nat.le_refl _) HB.out.size), ht6.thereFar HS.out.1 (by have := HS.out.2; omega) (by omega)⟩
      have HZ : Hid ((Tryd.prog.info? 68).map (·.size) = some E.cells.toArray.size) := size68
      clear hr6 ht6 hS6 c0 cf HA
      go_wp2_with (first
        | (refine wpList_load_mid (by rfl) 68 (.tmp 26) (by rfl) w.heap.size 2 (by rfl) E.cells _ HR6.out Tryd.underlying68 rfl size68 ?_)
        | (refine wpList_store_mid (by rfl) 68 (.tmp 6) (.tmp 27) (by rfl) (w.heap.size + 1 + 1) 0 E.cells.toArray (by rfl) (by rfl) HB6.out.2 HZ.out (cellsE_one E) ?_)
        | fail)
      have hl := run_loadVar_mid (P := Tryd.prog) (w6.setCells (w.heap.size + 1 + 1) 0 E.cells) (w.heap.size + 1 + 1) 0 68 E.cells _ (World.rangeAt_setCells_same w6 (w.heap.size + 1 + 1) 0 E.cells HB6.out.2) Tryd.underlying68 rfl size68
      refine bodyPost_ret (v := .agg E.cells.toArray) ?_ rfl ⟨by rw [HE.out], below_setCells _ (by omega) _ _ _ HB6.out.1⟩
      rw [results_cell1 Tryd.results50]
      simp [Act.put, asAddr, hl]

set_option maxHeartbeats 800000 in
set_option maxRecDepth 100000 in
theorem behind128 (h : Int) (s : Eight) (half : Nat → Int) (fed : Nat) (zs : List Int) (mask : Int) (w : World) (hblk : blockOf h = 128) (hT : Hid (Tables w)) :
    Calls Tryd.prog 50 #[.agg (tkL h true s half fed).toArray, .agg (keyCells zs).toArray, .int .u8 mask] w fun e w' => e = .returned (.agg (TT true (maskF zs mask) s 1).cells.toArray) ∧ Below w.heap.size w w' := by
  obtain ⟨T, HTT⟩ : ∃ T : List Value, Hid (T = tkL h true s half fed) := ⟨_, (show _ = _ from rfl)⟩
  obtain ⟨Y, HYY⟩ : ∃ Y : List Value, Hid (Y = keyCells zs) := ⟨_, (show _ = _ from rfl)⟩
  rw [← HTT.out, ← HYY.out]
  go_enter Tryd.func50, Tryd.ntmps50
  go_upto_region 1 with fail
  obtain ⟨w3, hw3⟩ : ∃ w3, w3 = ((w.alloc (.cells T.toArray 71)).alloc (.cells Y.toArray 69)).alloc (.cells #[.int .u64 0, .int .u64 0, .int .u64 0, .int .u64 0, .int .u64 0, .int .u64 0, .int .u64 0, .int .u64 0] 68) := ⟨_, rfl⟩
  rw [← hw3]
  have HW3 : Hid (Below w.heap.size w w3 ∧ TK w3 w.heap.size 0 h true s half fed ∧ w3.there (w.heap.size + 1) 0 128 ∧ (∀ j, j < 128 → w3.cell? ⟨w.heap.size + 1, j, none⟩ = some (.int .u8 (if j < 0 then maskF zs mask j else fnz zs j))) ∧ w3.there (w.heap.size + 1 + 1) 0 8 ∧ w3.heap.size = w.heap.size + 3) := by
    subst hw3
    have h2 : (w.alloc (.cells T.toArray 71)).heap.size = w.heap.size + 1 := by simp
    have h3 : ((w.alloc (.cells T.toArray 71)).alloc (.cells Y.toArray 69)).heap.size = w.heap.size + 1 + 1 := by simp
    refine ⟨(((Below.refl _ _).alloc (Nat.le_refl _) _).alloc (by simp) _).alloc (by simp; omega) _, TK.of ?_ ?_, ?_, ?_, ?_, by simp⟩
    · rw [← HTT.out]
      exact World.rangeAt_alloc (World.rangeAt_alloc (rangeAt_new w T.toArray 71) _) _
    · exact World.there_alloc (World.there_alloc (there_new w T.toArray 71 139 (by rw [HTT.out, tkArr_size]; exact Nat.le_refl _)) _) _
    · have := there_new (w.alloc (.cells T.toArray 71)) Y.toArray 69 128 (by rw [HYY.out, (kbBig zs).size]; exact Nat.le_refl _)
      rw [h2] at this
      exact World.there_alloc this _
    · intro j hj
      rw [World.cell?_alloc_past _ _ _ (by rw [h3]; omega), World.cell?_alloc_at _ _ _ _ h2.symm, HYY.out, if_neg (by omega)]
      simp [keyCells, hj]
    · have := there_new ((w.alloc (.cells T.toArray 71)).alloc (.cells Y.toArray 69)) #[.int .u64 0, .int .u64 0, .int .u64 0, .int .u64 0, .int .u64 0, .int .u64 0, .int .u64 0, .int .u64 0] 68 8 (by decide)
      rw [h3] at this
      exact this
  clear hw3
  go_wp2
  go_loopw [8] (fun v wr => ∃ q : Nat, q ≤ 128 ∧ v = .int .i64 q ∧ Hid (Below w.heap.size w wr) ∧ Hid (TK wr w.heap.size 0 h true s half fed) ∧ Hid (wr.there (w.heap.size + 1) 0 128) ∧ Hid (∀ j, j < 128 → wr.cell? ⟨w.heap.size + 1, j, none⟩ = some (.int .u8 (if j < q then maskF zs mask j else fnz zs j))) ∧ Hid (wr.there (w.heap.size + 1 + 1) 0 8 ∧ wr.heap.size = w.heap.size + 3)) (fun v _ => 128 - (intOf v).toNat)
  case atStart => exact ⟨0, by omega, rfl, HW3.out.1, HW3.out.2.1, HW3.out.2.2.1, HW3.out.2.2.2.1, HW3.out.2.2.2.2⟩
  case round =>
    obtain ⟨q, hq, rfl, HB, HK, HTH, HC, HS⟩ := hrel
    clear HW3
    by_cases hlt : q < 128
    · have c1 : wr.cell? ⟨w.heap.size + 1, q, none⟩ = some (.int .u8 (fnz zs q)) := by rw [HC.out q hlt, if_neg (by omega)]
      have f1 : wr.frozen? ⟨w.heap.size + 1, q, none⟩ = false := by have := (HTH.out q hlt).2; rw [Nat.zero_add] at this; exact this
      have hq1 : (q : Int) < 128 := by omega
      have hq0 : (0 : Int) ≤ (q : Int) := by omega
      go_wp2
      go_roundw
      case rel =>
        have ho : ∀ j, j ≠ q → (wr.setCell ⟨w.heap.size + 1, q, none⟩ (.int .u8 (maskF zs mask q))).cell? ⟨w.heap.size + 1, j, none⟩ = wr.cell? ⟨w.heap.size + 1, j, none⟩ := fun j hj => World.cell?_setCells_out (w.heap.size + 1) [_] q wr ⟨w.heap.size + 1, j, none⟩ (fun _ _ => by show j < q ∨ q + 1 ≤ j; omega)
        refine ⟨q + 1, by omega, by go_num, HB.out.setCell (by simp) _, HK.out.newer (b := w.heap.size + 1) (by omega) [_] q, World.there_setCells HTH.out _ q [_], fun j hj => ?_, ⟨World.there_setCells HS.out.1 _ q [_], by rw [← HS.out.2]; exact size_setCells (w.heap.size + 1) [_] q wr⟩⟩
        by_cases hjq : j = q
        · subst hjq
          rw [if_pos (by omega)]
          exact World.cell?_setCell_same' _ _ _ (by rw [c1]; rfl)
        · refine (ho j hjq).trans ?_
          rw [HC.out j hj]
          by_cases hl : j < q
          · rw [if_pos hl, if_pos (by omega)]
          · rw [if_neg hl, if_neg (by omega)]
      case measure => simp [intOf]; omega
    · obtain rfl : q = 128 := by omega
      have hgw : w.heap.size < wr.heap.size := by have := HS.out.2; omega
      have c0 : wr.cell? ⟨w.heap.size, 0, none⟩ = some (.int .i64 h) := HK.out.hash
      have cf : wr.cell? ⟨w.heap.size, 1, none⟩ = some (.func (.func 62) #[] #[]) := HK.out.fn
      have HV : Hid (View wr (.slice (some ⟨w.heap.size + 1, 0, none⟩) 128 128) ((List.range 128).map (maskF zs mask))) := by
        refine ⟨_, 128, by simp, by simp, by simp [maxLen], (fun e => by cases e), .inr ⟨w.heap.size + 1, 0, rfl, fun i hi => ?_⟩⟩
        have hi' : i < 128 := by simpa using hi
        rw [Nat.zero_add, HC.out i (by omega), if_pos (by omega)]
        simp [List.getD, hi']
      have HA : Hid (∀ v, Sm wr v → Calls Tryd.prog 62 #[.pointer (some ⟨w.heap.size, 2, none⟩), .slice (some ⟨w.heap.size + 1, 0, none⟩) 128 128] v fun e w' => e = .returned (.tuple #[]) ∧ Touch wr w' w.heap.size 2 8 ∧ w'.rangeAt w.heap.size 2 (TT true (maskF zs mask) s 1).cells) := by
        intro v hsm
        have hk' := HK.out.sm hsm
        refine (take_any true w.heap.size 2 _ ((List.range 128).map (maskF zs mask)) s v (by rw [hsm.heap]; exact hgw) (by have := hk'.st; rwa [Nat.zero_add] at this) (fun j hj => by have := hk'.there (2 + j) (by omega); rw [Nat.zero_add] at this; exact this) (hsm.view HV.out) (fun _ _ _ _ e => by injection e with e1 e2 e3; injection e1 with e1; injection e1 with e4 e5; left; omega) (hsm.tables (hT.out.below HB.out hT.out.size)) hT.out.size).mono ?_
        rintro e w' ⟨rfl, ht', hr'⟩
        rw [show ((List.range 128).map (maskF zs mask)).length / bsz true = 1 by simp [bsz], TT_congr true (B' := maskF zs mask) s 1 (fun j hj => by simp [bsz] at hj; simp [List.getD, hj])] at hr'
        exact ⟨rfl, (hsm.touch w.heap.size 2 8).trans ht', hr'⟩
      obtain ⟨E, HE⟩ : ∃ E : Eight, Hid (E = TT true (maskF zs mask) s 1) := ⟨_, (show _ = _ from rfl)⟩
      rw [← HE.out] at HA
      clear HC HV
      go_upto_region 6 with fail
      go_region_held3 (fun v => v.cell? ⟨w.heap.size, 0, none⟩ = some (.int .i64 h) ∧ v.cell? ⟨w.heap.size, 1, none⟩ = some (.func (.func 62) #[] #[])) (first | exact ⟨c0, cf⟩ | exact hS6 | go_keep) (first
        | (go_at_call 15; refine (block_any h _).mono ?_; rintro e5 w5 ⟨rfl, hw5⟩; obtain rfl := hw5.symm; rw [hblk])
        | (go_at_call 62; refine (HA.out wr.drew (Sm.refl wr).drew).mono ?_; rintro e6 w6 ⟨rfl, ht6, hr6⟩; have hS6 : w6.cell? ⟨w.heap.size, 0, none⟩ = some (.int .i64 h) ∧ w6.cell? ⟨w.heap.size, 1, none⟩ = some (.func (.func 62) #[] #[]) := ⟨by rw [ht6.cell 0 (by omega)]; exact c0, by rw [ht6.cell 1 (by omega)]; exact cf⟩))
      have HR6 : Hid (w6.rangeAt w.heap.size 2 E.cells) := hr6
      have HB6 : Hid (Below w.heap.size w w6 ∧ w6.there (w.heap.size + 1 + 1) 0 E.cells.toArray.size) := ⟨HB.out.trans (ht6.toBelow (Nat.le_refl _) HB.out.size), ht6.thereFar HS.out.1 (by have := HS.out.2; omega) (by omega)⟩
      have HZ : Hid ((Tryd.prog.info? 68).map (·.size) = some E.cells.toArray.size) := size68
      clear hr6 ht6 hS6 c0 cf HA
      go_wp2_with (first
        | (refine wpList_load_mid (by rfl) 68 (.tmp 26) (by rfl) w.heap.size 2 (by rfl) E.cells _ HR6.out Tryd.underlying68 rfl size68 ?_)
        | (refine wpList_store_mid (by rfl) 68 (.tmp 6) (.tmp 27) (by rfl) (w.heap.size + 1 + 1) 0 E.cells.toArray (by rfl) (by rfl) HB6.out.2 HZ.out (cellsE_one E) ?_)
        | fail)
      have hl := run_loadVar_mid (P := Tryd.prog) (w6.setCells (w.heap.size + 1 + 1) 0 E.cells) (w.heap.size + 1 + 1) 0 68 E.cells _ (World.rangeAt_setCells_same w6 (w.heap.size + 1 + 1) 0 E.cells HB6.out.2) Tryd.underlying68 rfl size68
      refine bodyPost_ret (v := .agg E.cells.toArray) ?_ rfl ⟨by rw [HE.out], below_setCells _ (by omega) _ _ _ HB6.out.1⟩
      rw [results_cell1 Tryd.results50]
      simp [Act.put, asAddr, hl]

/-- behindKey. -/
theorem behind_any (wd : Bool) (h : Int) (s : Eight) (half : Nat → Int) (fed : Nat) (zs : List Int) (mask : Int) (w : World) (hblk : blockOf h = bsz wd) (hT : Tables w) :
    Calls Tryd.prog 50 #[.agg (tkL h wd s half fed).toArray, .agg (keyCells zs).toArray, .int .u8 mask] w fun e w' => e = .returned (.agg (TT wd (maskF zs mask) s 1).cells.toArray) ∧ Below w.heap.size w w' := by
  cases wd
  · exact behind64 h s half fed zs mask w hblk hT
  · exact behind128 h s half fed zs mask w hblk hT
end Go.Proofs.YtioggmjocelolabDoor
