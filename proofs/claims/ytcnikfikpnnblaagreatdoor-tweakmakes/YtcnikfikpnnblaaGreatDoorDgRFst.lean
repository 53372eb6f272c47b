import Derived.Test.YtcnikfikpnnblaaGreatDoorPart38
import Derived.Test.YtcnikfikpnnblaaGreatDoorPart12
import Derived.Test.YtcnikfikpnnblaaGreatDoorPart33
namespace Go.Proofs.YtcnikfikpnnblaaGreatDoor.Dg
open Go.RowKit
set_option linter.unusedVariables false
set_option linter.unusedSimpArgs false
/-- The two tables of the document's answer. -/
structure RTab (w : World) : Prop where
 cubes : ∀ t, t < 80 → w.cell? ⟨2, t, none⟩ = some (.int .u64 (cubeAt t))
 roots : ∀ t, t < 16 → w.cell? ⟨1, t, none⟩ = some (.int .u64 (rootAt t))
theorem RTab.kept {w w' : World} (h : RTab w) (hb : ∀ k, k < 3 → w'.heap[k]? = w.heap[k]?) : RTab w' :=
 ⟨fun t ht => by rw [World.cell?_of_block (w := w) (hb 2 (by omega))]; exact h.cubes t ht, fun t ht => by rw [World.cell?_of_block (w := w) (hb 1 (by omega))]; exact h.roots t ht⟩
theorem RTab.size {w : World} (h : RTab w) : 3 ≤ w.heap.size := lt_of_cell (h.cubes 0 (by omega))
theorem RTab.below {w w' : World} {B : Nat} (h : RTab w) (b : Below B w w') (hB : 3 ≤ B) : RTab w' := h.kept fun k hk => b.block k (by omega)
theorem first224_mod : ∀ q, q < 8 → (rootAt (8 + q)).tmod 4294967296 = firstAt 224 q := by decide +kernel
set_option maxHeartbeats 1600000 in
set_option maxRecDepth 100000 in
theorem rfirst224 (w : World) (hT : Hid (RTab w)) :
  Calls Tryz.prog 71 #[.int .i64 224] w fun e w' => e = .returned (.agg (firstE 224).cells.toArray) ∧ Below w.heap.size w w' := by
 have HB0 : Hid (Below w.heap.size w ((w.alloc (.cells #[.int .u64 0, .int .u64 0, .int .u64 0, .int .u64 0, .int .u64 0, .int .u64 0, .int .u64 0, .int .u64 0] 136)).alloc (.cells #[.int .u64 0, .int .u64 0, .int .u64 0, .int .u64 0, .int .u64 0, .int .u64 0, .int .u64 0, .int .u64 0] 136)) ∧ ((w.alloc (.cells #[.int .u64 0, .int .u64 0, .int .u64 0, .int .u64 0, .int .u64 0, .int .u64 0, .int .u64 0, .int .u64 0] 136)).alloc (.cells #[.int .u64 0, .int .u64 0, .int .u64 0, .int .u64 0, .int .u64 0, .int .u64 0, .int .u64 0, .int .u64 0] 136)).there (w.heap.size + 1) 0 8 ∧ ((w.alloc (.cells #[.int .u64 0, .int .u64 0, .int .u64 0, .int .u64 0, .int .u64 0, .int .u64 0, .int .u64 0, .int .u64 0] 136)).alloc (.cells #[.int .u64 0, .int .u64 0, .int .u64 0, .int .u64 0, .int .u64 0, .int .u64 0, .int .u64 0, .int .u64 0] 136)).there w.heap.size 0 8) := ⟨((Below.refl _ _).alloc (Nat.le_refl _) _).alloc (by simp) _, two_there w _ _ 136 136 8 (by decide), World.there_alloc (there_new w _ 136 8 (by decide)) _⟩
 go_enter Tryz.func71, Tryz.ntmps71
 go_wp2
 go_loopw [4] (fun v wr => ∃ q : Nat, q ≤ 8 ∧ v = .int .i64 q ∧ Hid (Below w.heap.size w wr) ∧ Hid (wr.there (w.heap.size + 1) 0 8 ∧ wr.there w.heap.size 0 8) ∧ Hid (∀ j, j < q → wr.cell? ⟨w.heap.size + 1, j, none⟩ = some (.int .u64 (firstAt 224 j)))) (fun v _ => 8 - (intOf v).toNat)
 case atStart => exact ⟨0, by omega, rfl, HB0.out.1, HB0.out.2, fun j hj => by omega⟩
 case round =>
  obtain ⟨q, hq, rfl, HB, HT, HF⟩ := hrel
  clear HB0
  by_cases hlt : q < 8
  ·obtain ⟨jj, hjj⟩ : ∃ jj, jj = 8 + q := ⟨_, rfl⟩
   have hTr := hT.out.below HB.out hT.out.size
   have c1 := hTr.roots (jj) (by omega)
   have hql : (q : Int) < 8 := by omega
   have hq0 : (0 : Int) ≤ (q : Int) := by omega
   have e8 : (8 : Int) + (q : Int) = (jj : Int) := by omega
   have e9 : (jj : Int) < 16 := by omega
   have HJ : Hid (jj = 8 + q) := hjj
   clear hjj
   have ff : wr.frozen? ⟨w.heap.size + 1, q, none⟩ = false := by have := (HT.out.1 q hlt).2; rw [Nat.zero_add] at this; exact this
   have fs : (wr.cell? ⟨w.heap.size + 1, q, none⟩).isSome = true := by have := (HT.out.1 q hlt).1; rw [Nat.zero_add] at this; exact this
   obtain ⟨z, hz⟩ := Option.isSome_iff_exists.1 fs
   clear fs hTr
   go_wp2
   go_roundw
   case rel =>
    have hf := fill_step (F := fun j => .int .u64 (firstAt 224 j)) HF.out HT.out.1 hlt (.int .u64 (firstAt 224 q)) rfl
    obtain rfl := HJ.out
    rw [first224_mod q hlt]
    refine ⟨q + 1, by omega, by go_num, HB.out.setCell (by simp) _, ⟨World.there_setCells HT.out.1 _ q [_], World.there_setCells HT.out.2 _ q [_]⟩, hf.1⟩
   case measure => simp [intOf]; omega
  ·obtain rfl : q = 8 := by omega
   have HR : Hid (wr.rangeAt (w.heap.size + 1) 0 (firstE 224).cells) := fun j v hv => by
    obtain ⟨hj, rfl⟩ := eightOf_at _ j v hv
    rw [Nat.zero_add]
    exact HF.out j hj
   have HY : Hid (wr.there w.heap.size 0 (firstE 224).cells.toArray.size) := HT.out.2
   have HZ : Hid ((Tryz.prog.info? 136).map (·.size) = some (firstE 224).cells.toArray.size) := size70
   obtain ⟨E, HE⟩ : ∃ E : Eight, Hid (E = firstE 224) := ⟨_, rfl⟩
   rw [← HE.out] at HR HY HZ
   clear HF
   go_wp2_with (first
    | (refine wpList_load_mid (by rfl) 136 (.tmp 3) (by rfl) (w.heap.size + 1) 0 (by rfl) E.cells _ HR.out Tryz.underlying136 rfl size70 ?_)
    | (refine wpList_store_mid (by rfl) 136 (.tmp 2) (.tmp 42) (by rfl) w.heap.size 0 E.cells.toArray (by rfl) (by rfl) HY.out HZ.out (cellsE_one E) ?_)
    | fail)
   have hl := run_loadVar_mid (P := Tryz.prog) (wr.setCells w.heap.size 0 E.cells) w.heap.size 0 136 E.cells _ (World.rangeAt_setCells_same wr w.heap.size 0 E.cells HT.out.2) Tryz.underlying136 rfl size70
   refine bodyPost_ret (v := .agg E.cells.toArray) ?_ rfl ⟨by rw [HE.out], below_setCells _ (Nat.le_refl _) _ _ _ HB.out⟩
   rw [results_cell1 Tryz.results71]
   simp [Act.put, asAddr, hl]

set_option maxHeartbeats 1600000 in
set_option maxRecDepth 100000 in
theorem rfirst256 (w : World) (hT : Hid (RTab w)) :
  Calls Tryz.prog 71 #[.int .i64 256] w fun e w' => e = .returned (.agg (firstE 256).cells.toArray) ∧ Below w.heap.size w w' := by
 have HB0 : Hid (Below w.heap.size w ((w.alloc (.cells #[.int .u64 0, .int .u64 0, .int .u64 0, .int .u64 0, .int .u64 0, .int .u64 0, .int .u64 0, .int .u64 0] 136)).alloc (.cells #[.int .u64 0, .int .u64 0, .int .u64 0, .int .u64 0, .int .u64 0, .int .u64 0, .int .u64 0, .int .u64 0] 136)) ∧ ((w.alloc (.cells #[.int .u64 0, .int .u64 0, .int .u64 0, .int .u64 0, .int .u64 0, .int .u64 0, .int .u64 0, .int .u64 0] 136)).alloc (.cells #[.int .u64 0, .int .u64 0, .int .u64 0, .int .u64 0, .int .u64 0, .int .u64 0, .int .u64 0, .int .u64 0] 136)).there (w.heap.size + 1) 0 8 ∧ ((w.alloc (.cells #[.int .u64 0, .int .u64 0, .int .u64 0, .int .u64 0, .int .u64 0, .int .u64 0, .int .u64 0, .int .u64 0] 136)).alloc (.cells #[.int .u64 0, .int .u64 0, .int .u64 0, .int .u64 0, .int .u64 0, .int .u64 0, .int .u64 0, .int .u64 0] 136)).there w.heap.size 0 8) := ⟨((Below.refl _ _).alloc (Nat.le_refl _) _).alloc (by simp) _, two_there w _ _ 136 136 8 (by decide), World.there_alloc (there_new w _ 136 8 (by decide)) _⟩
 go_enter Tryz.func71, Tryz.ntmps71
 go_wp2
 go_loopw [4] (fun v wr => ∃ q : Nat, q ≤ 8 ∧ v = .int .i64 q ∧ Hid (Below w.heap.size w wr) ∧ Hid (wr.there (w.heap.size + 1) 0 8 ∧ wr.there w.heap.size 0 8) ∧ Hid (∀ j, j < q → wr.cell? ⟨w.heap.size + 1, j, none⟩ = some (.int .u64 (firstAt 256 j)))) (fun v _ => 8 - (intOf v).toNat)
 case atStart => exact ⟨0, by omega, rfl, HB0.out.1, HB0.out.2, fun j hj => by omega⟩
 case round =>
  obtain ⟨q, hq, rfl, HB, HT, HF⟩ := hrel
  clear HB0
  by_cases hlt : q < 8
  ·obtain ⟨jj, hjj⟩ : ∃ jj, jj = 8 + q := ⟨_, rfl⟩
   have hTr := hT.out.below HB.out hT.out.size
   have c1 := hTr.roots (q) (by omega)
   have hql : (q : Int) < 8 := by omega
   have hq0 : (0 : Int) ≤ (q : Int) := by omega
   skip
   have ff : wr.frozen? ⟨w.heap.size + 1, q, none⟩ = false := by have := (HT.out.1 q hlt).2; rw [Nat.zero_add] at this; exact this
   have fs : (wr.cell? ⟨w.heap.size + 1, q, none⟩).isSome = true := by have := (HT.out.1 q hlt).1; rw [Nat.zero_add] at this; exact this
   obtain ⟨z, hz⟩ := Option.isSome_iff_exists.1 fs
   clear fs hTr
   go_wp2
   go_roundw
   case rel =>
    have hf := fill_step (F := fun j => .int .u64 (firstAt 256 j)) HF.out HT.out.1 hlt (.int .u64 (firstAt 256 q)) rfl
    skip
    refine ⟨q + 1, by omega, by go_num, HB.out.setCell (by simp) _, ⟨World.there_setCells HT.out.1 _ q [_], World.there_setCells HT.out.2 _ q [_]⟩, hf.1⟩
   case measure => simp [intOf]; omega
  ·obtain rfl : q = 8 := by omega
   have HR : Hid (wr.rangeAt (w.heap.size + 1) 0 (firstE 256).cells) := fun j v hv => by
    obtain ⟨hj, rfl⟩ := eightOf_at _ j v hv
    rw [Nat.zero_add]
    exact HF.out j hj
   have HY : Hid (wr.there w.heap.size 0 (firstE 256).cells.toArray.size) := HT.out.2
   have HZ : Hid ((Tryz.prog.info? 136).map (·.size) = some (firstE 256).cells.toArray.size) := size70
   obtain ⟨E, HE⟩ : ∃ E : Eight, Hid (E = firstE 256) := ⟨_, rfl⟩
   rw [← HE.out] at HR HY HZ
   clear HF
   go_wp2_with (first
    | (refine wpList_load_mid (by rfl) 136 (.tmp 3) (by rfl) (w.heap.size + 1) 0 (by rfl) E.cells _ HR.out Tryz.underlying136 rfl size70 ?_)
    | (refine wpList_store_mid (by rfl) 136 (.tmp 2) (.tmp 42) (by rfl) w.heap.size 0 E.cells.toArray (by rfl) (by rfl) HY.out HZ.out (cellsE_one E) ?_)
    | fail)
   have hl := run_loadVar_mid (P := Tryz.prog) (wr.setCells w.heap.size 0 E.cells) w.heap.size 0 136 E.cells _ (World.rangeAt_setCells_same wr w.heap.size 0 E.cells HT.out.2) Tryz.underlying136 rfl size70
   refine bodyPost_ret (v := .agg E.cells.toArray) ?_ rfl ⟨by rw [HE.out], below_setCells _ (Nat.le_refl _) _ _ _ HB.out⟩
   rw [results_cell1 Tryz.results71]
   simp [Act.put, asAddr, hl]

set_option maxHeartbeats 1600000 in
set_option maxRecDepth 100000 in
theorem rfirst384 (w : World) (hT : Hid (RTab w)) :
  Calls Tryz.prog 71 #[.int .i64 384] w fun e w' => e = .returned (.agg (firstE 384).cells.toArray) ∧ Below w.heap.size w w' := by
 have HB0 : Hid (Below w.heap.size w ((w.alloc (.cells #[.int .u64 0, .int .u64 0, .int .u64 0, .int .u64 0, .int .u64 0, .int .u64 0, .int .u64 0, .int .u64 0] 136)).alloc (.cells #[.int .u64 0, .int .u64 0, .int .u64 0, .int .u64 0, .int .u64 0, .int .u64 0, .int .u64 0, .int .u64 0] 136)) ∧ ((w.alloc (.cells #[.int .u64 0, .int .u64 0, .int .u64 0, .int .u64 0, .int .u64 0, .int .u64 0, .int .u64 0, .int .u64 0] 136)).alloc (.cells #[.int .u64 0, .int .u64 0, .int .u64 0, .int .u64 0, .int .u64 0, .int .u64 0, .int .u64 0, .int .u64 0] 136)).there (w.heap.size + 1) 0 8 ∧ ((w.alloc (.cells #[.int .u64 0, .int .u64 0, .int .u64 0, .int .u64 0, .int .u64 0, .int .u64 0, .int .u64 0, .int .u64 0] 136)).alloc (.cells #[.int .u64 0, .int .u64 0, .int .u64 0, .int .u64 0, .int .u64 0, .int .u64 0, .int .u64 0, .int .u64 0] 136)).there w.heap.size 0 8) := ⟨((Below.refl _ _).alloc (Nat.le_refl _) _).alloc (by simp) _, two_there w _ _ 136 136 8 (by decide), World.there_alloc (there_new w _ 136 8 (by decide)) _⟩
 go_enter Tryz.func71, Tryz.ntmps71
 go_wp2
 go_loopw [4] (fun v wr => ∃ q : Nat, q ≤ 8 ∧ v = .int .i64 q ∧ Hid (Below w.heap.size w wr) ∧ Hid (wr.there (w.heap.size + 1) 0 8 ∧ wr.there w.heap.size 0 8) ∧ Hid (∀ j, j < q → wr.cell? ⟨w.heap.size + 1, j, none⟩ = some (.int .u64 (firstAt 384 j)))) (fun v _ => 8 - (intOf v).toNat)
 case atStart => exact ⟨0, by omega, rfl, HB0.out.1, HB0.out.2, fun j hj => by omega⟩
 case round =>
  obtain ⟨q, hq, rfl, HB, HT, HF⟩ := hrel
  clear HB0
  by_cases hlt : q < 8
  ·obtain ⟨jj, hjj⟩ : ∃ jj, jj = 8 + q := ⟨_, rfl⟩
   have hTr := hT.out.below HB.out hT.out.size
   have c1 := hTr.roots (jj) (by omega)
   have hql : (q : Int) < 8 := by omega
   have hq0 : (0 : Int) ≤ (q : Int) := by omega
   have e8 : (8 : Int) + (q : Int) = (jj : Int) := by omega
   have e9 : (jj : Int) < 16 := by omega
   have HJ : Hid (jj = 8 + q) := hjj
   clear hjj
   have ff : wr.frozen? ⟨w.heap.size + 1, q, none⟩ = false := by have := (HT.out.1 q hlt).2; rw [Nat.zero_add] at this; exact this
   have fs : (wr.cell? ⟨w.heap.size + 1, q, none⟩).isSome = true := by have := (HT.out.1 q hlt).1; rw [Nat.zero_add] at this; exact this
   obtain ⟨z, hz⟩ := Option.isSome_iff_exists.1 fs
   clear fs hTr
   go_wp2
   go_roundw
   case rel =>
    have hf := fill_step (F := fun j => .int .u64 (firstAt 384 j)) HF.out HT.out.1 hlt (.int .u64 (firstAt 384 q)) rfl
    obtain rfl := HJ.out
    refine ⟨q + 1, by omega, by go_num, HB.out.setCell (by simp) _, ⟨World.there_setCells HT.out.1 _ q [_], World.there_setCells HT.out.2 _ q [_]⟩, hf.1⟩
   case measure => simp [intOf]; omega
  ·obtain rfl : q = 8 := by omega
   have HR : Hid (wr.rangeAt (w.heap.size + 1) 0 (firstE 384).cells) := fun j v hv => by
    obtain ⟨hj, rfl⟩ := eightOf_at _ j v hv
    rw [Nat.zero_add]
    exact HF.out j hj
   have HY : Hid (wr.there w.heap.size 0 (firstE 384).cells.toArray.size) := HT.out.2
   have HZ : Hid ((Tryz.prog.info? 136).map (·.size) = some (firstE 384).cells.toArray.size) := size70
   obtain ⟨E, HE⟩ : ∃ E : Eight, Hid (E = firstE 384) := ⟨_, rfl⟩
   rw [← HE.out] at HR HY HZ
   clear HF
   go_wp2_with (first
    | (refine wpList_load_mid (by rfl) 136 (.tmp 3) (by rfl) (w.heap.size + 1) 0 (by rfl) E.cells _ HR.out Tryz.underlying136 rfl size70 ?_)
    | (refine wpList_store_mid (by rfl) 136 (.tmp 2) (.tmp 42) (by rfl) w.heap.size 0 E.cells.toArray (by rfl) (by rfl) HY.out HZ.out (cellsE_one E) ?_)
    | fail)
   have hl := run_loadVar_mid (P := Tryz.prog) (wr.setCells w.heap.size 0 E.cells) w.heap.size 0 136 E.cells _ (World.rangeAt_setCells_same wr w.heap.size 0 E.cells HT.out.2) Tryz.underlying136 rfl size70
   refine bodyPost_ret (v := .agg E.cells.toArray) ?_ rfl ⟨by rw [HE.out], below_setCells _ (Nat.le_refl _) _ _ _ HB.out⟩
   rw [results_cell1 Tryz.results71]
   simp [Act.put, asAddr, hl]

set_option maxHeartbeats 1600000 in
set_option maxRecDepth 100000 in
theorem rfirst512 (w : World) (hT : Hid (RTab w)) :
  Calls Tryz.prog 71 #[.int .i64 512] w fun e w' => e = .returned (.agg (firstE 512).cells.toArray) ∧ Below w.heap.size w w' := by
 have HB0 : Hid (Below w.heap.size w ((w.alloc (.cells #[.int .u64 0, .int .u64 0, .int .u64 0, .int .u64 0, .int .u64 0, .int .u64 0, .int .u64 0, .int .u64 0] 136)).alloc (.cells #[.int .u64 0, .int .u64 0, .int .u64 0, .int .u64 0, .int .u64 0, .int .u64 0, .int .u64 0, .int .u64 0] 136)) ∧ ((w.alloc (.cells #[.int .u64 0, .int .u64 0, .int .u64 0, .int .u64 0, .int .u64 0, .int .u64 0, .int .u64 0, .int .u64 0] 136)).alloc (.cells #[.int .u64 0, .int .u64 0, .int .u64 0, .int .u64 0, .int .u64 0, .int .u64 0, .int .u64 0, .int .u64 0] 136)).there (w.heap.size + 1) 0 8 ∧ ((w.alloc (.cells #[.int .u64 0, .int .u64 0, .int .u64 0, .int .u64 0, .int .u64 0, .int .u64 0, .int .u64 0, .int .u64 0] 136)).alloc (.cells #[.int .u64 0, .int .u64 0, .int .u64 0, .int .u64 0, .int .u64 0, .int .u64 0, .int .u64 0, .int .u64 0] 136)).there w.heap.size 0 8) := ⟨((Below.refl _ _).alloc (Nat.le_refl _) _).alloc (by simp) _, two_there w _ _ 136 136 8 (by decide), World.there_alloc (there_new w _ 136 8 (by decide)) _⟩
 go_enter Tryz.func71, Tryz.ntmps71
 go_wp2
 go_loopw [4] (fun v wr => ∃ q : Nat, q ≤ 8 ∧ v = .int .i64 q ∧ Hid (Below w.heap.size w wr) ∧ Hid (wr.there (w.heap.size + 1) 0 8 ∧ wr.there w.heap.size 0 8) ∧ Hid (∀ j, j < q → wr.cell? ⟨w.heap.size + 1, j, none⟩ = some (.int .u64 (firstAt 512 j)))) (fun v _ => 8 - (intOf v).toNat)
 case atStart => exact ⟨0, by omega, rfl, HB0.out.1, HB0.out.2, fun j hj => by omega⟩
 case round =>
  obtain ⟨q, hq, rfl, HB, HT, HF⟩ := hrel
  clear HB0
  by_cases hlt : q < 8
  ·obtain ⟨jj, hjj⟩ : ∃ jj, jj = 8 + q := ⟨_, rfl⟩
   have hTr := hT.out.below HB.out hT.out.size
   have c1 := hTr.roots (q) (by omega)
   have hql : (q : Int) < 8 := by omega
   have hq0 : (0 : Int) ≤ (q : Int) := by omega
   skip
   have ff : wr.frozen? ⟨w.heap.size + 1, q, none⟩ = false := by have := (HT.out.1 q hlt).2; rw [Nat.zero_add] at this; exact this
   have fs : (wr.cell? ⟨w.heap.size + 1, q, none⟩).isSome = true := by have := (HT.out.1 q hlt).1; rw [Nat.zero_add] at this; exact this
   obtain ⟨z, hz⟩ := Option.isSome_iff_exists.1 fs
   clear fs hTr
   go_wp2
   go_roundw
   case rel =>
    have hf := fill_step (F := fun j => .int .u64 (firstAt 512 j)) HF.out HT.out.1 hlt (.int .u64 (firstAt 512 q)) rfl
    skip
    refine ⟨q + 1, by omega, by go_num, HB.out.setCell (by simp) _, ⟨World.there_setCells HT.out.1 _ q [_], World.there_setCells HT.out.2 _ q [_]⟩, hf.1⟩
   case measure => simp [intOf]; omega
  ·obtain rfl : q = 8 := by omega
   have HR : Hid (wr.rangeAt (w.heap.size + 1) 0 (firstE 512).cells) := fun j v hv => by
    obtain ⟨hj, rfl⟩ := eightOf_at _ j v hv
    rw [Nat.zero_add]
    exact HF.out j hj
   have HY : Hid (wr.there w.heap.size 0 (firstE 512).cells.toArray.size) := HT.out.2
   have HZ : Hid ((Tryz.prog.info? 136).map (·.size) = some (firstE 512).cells.toArray.size) := size70
   obtain ⟨E, HE⟩ : ∃ E : Eight, Hid (E = firstE 512) := ⟨_, rfl⟩
   rw [← HE.out] at HR HY HZ
   clear HF
   go_wp2_with (first
    | (refine wpList_load_mid (by rfl) 136 (.tmp 3) (by rfl) (w.heap.size + 1) 0 (by rfl) E.cells _ HR.out Tryz.underlying136 rfl size70 ?_)
    | (refine wpList_store_mid (by rfl) 136 (.tmp 2) (.tmp 42) (by rfl) w.heap.size 0 E.cells.toArray (by rfl) (by rfl) HY.out HZ.out (cellsE_one E) ?_)
    | fail)
   have hl := run_loadVar_mid (P := Tryz.prog) (wr.setCells w.heap.size 0 E.cells) w.heap.size 0 136 E.cells _ (World.rangeAt_setCells_same wr w.heap.size 0 E.cells HT.out.2) Tryz.underlying136 rfl size70
   refine bodyPost_ret (v := .agg E.cells.toArray) ?_ rfl ⟨by rw [HE.out], below_setCells _ (Nat.le_refl _) _ _ _ HB.out⟩
   rw [results_cell1 Tryz.results71]
   simp [Act.put, asAddr, hl]


/-- first. -/
theorem rfirst_any {h : Int} (k : Known h) (w : World) (hT : Hid (RTab w)) : Calls Tryz.prog 71 #[.int .i64 h] w fun e w' => e = .returned (.agg (firstE h).cells.toArray) ∧ Below w.heap.size w w' := by
 rcases k with rfl | rfl | rfl | rfl
 ·exact rfirst224 w hT
 ·exact rfirst256 w hT
 ·exact rfirst384 w hT
 ·exact rfirst512 w hT
theorem rblock_ok (h : Int) (k : Known h) (w : World) : Calls Tryz.prog 70 #[.int .i64 h] w fun e w' => e = .returned (.int .i64 (bsz (wdOf h))) ∧ w' = w := by
 rcases k with rfl | rfl | rfl | rfl
 all_goals
  go_enter Tryz.func70, Tryz.ntmps70
  go_wp2
  go_ret
  exact ⟨rfl, rfl⟩
theorem rsize_ok (h : Int) (k : Known h) (w : World) : Calls Tryz.prog 75 #[.int .i64 h] w fun e w' => e = .returned (.int .i64 (szOf h)) ∧ w' = w := by
 rcases k with rfl | rfl | rfl | rfl
 all_goals
  go_enter Tryz.func75, Tryz.ntmps75
  go_wp2
  go_ret
  exact ⟨rfl, rfl⟩
theorem rsize_bad (h : Int) (k : ¬ Known h) (w : World) : Calls Tryz.prog 75 #[.int .i64 h] w fun e w' => e = .returned (.int .i64 0) ∧ w' = w := by
 have d1 : ¬ h = 224 := fun e => k (.inl e)
 have d2 : ¬ h = 256 := fun e => k (.inr (.inl e))
 have d3 : ¬ h = 384 := fun e => k (.inr (.inr (.inl e)))
 have d4 : ¬ h = 512 := fun e => k (.inr (.inr (.inr e)))
 clear k
 go_enter Tryz.func75, Tryz.ntmps75
 go_wp2
 go_ret
 exact ⟨rfl, rfl⟩
end Go.Proofs.YtcnikfikpnnblaaGreatDoor.Dg
