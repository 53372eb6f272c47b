import Derived.Test.YtinmhgackihakaaDoorPart06
import Derived.Lib.LazyBuf
import Derived.Laws.EntriesVeiled
import Derived.Deep.Cut
import Derived.Lib.SliceRun
namespace Go.Proofs.YtinmhgackihakaaDoor
open Go.RowKit
set_option linter.unusedVariables false
set_option linter.unusedSimpArgs false

def eightOf (f : Nat → Int) : Eight := ⟨f 0, f 1, f 2, f 3, f 4, f 5, f 6, f 7⟩
theorem eightOf_at (f : Nat → Int) (j : Nat) (v : Value) (h : (eightOf f).cells[j]? = some v) : j < 8 ∧ v = .int .u64 (f j) := by
  have hj : j < 8 := by
    by_cases hj : j < (eightOf f).cells.length
    · exact hj
    · rw [List.getElem?_eq_none (by omega)] at h; cases h
  refine ⟨hj, ?_⟩
  match j, hj with
  | 0, _ => exact (Option.some.inj h).symm
  | 1, _ => exact (Option.some.inj h).symm
  | 2, _ => exact (Option.some.inj h).symm
  | 3, _ => exact (Option.some.inj h).symm
  | 4, _ => exact (Option.some.inj h).symm
  | 5, _ => exact (Option.some.inj h).symm
  | 6, _ => exact (Option.some.inj h).symm
  | 7, _ => exact (Option.some.inj h).symm
theorem cellsE_one (s : Eight) : s.cells.toArray.all (·.oneCell') = true := all_oneCell_toArray (by
  intro v hv
  simp only [Eight.cells, List.mem_map] at hv
  obtain ⟨x, _, rfl⟩ := hv
  rfl)
theorem size68 : (Tryd.prog.info? 114).map (·.size) = some 8 := by kernel_rfl
/-- What a digest begins with. -/
def firstAt (h : Int) (i : Nat) : Int := if h = 224 then bits .and .u64 (rootAt (8 + i)) 4294967295 else if h = 256 then rootAt i / 4294967296 else if h = 384 then rootAt (8 + i) else rootAt i
def firstE (h : Int) : Eight := eightOf (firstAt h)

set_option maxHeartbeats 1600000 in
set_option maxRecDepth 100000 in
theorem firstWords224 (w : World) (hT : Hid (Tables w)) :
    Calls Tryd.prog 86 #[.int .i64 224] w fun e w' => e = .returned (.agg (firstE 224).cells.toArray) ∧ Below w.heap.size w w' := by
  have HB0 : Hid (Below w.heap.size w ((w.alloc (.cells #[.int .u64 0, .int .u64 0, .int .u64 0, .int .u64 0, .int .u64 0, .int .u64 0, .int .u64 0, .int .u64 0] 114)).alloc (.cells #[.int .u64 0, .int .u64 0, .int .u64 0, .int .u64 0, .int .u64 0, .int .u64 0, .int .u64 0, .int .u64 0] 114)) ∧ ((w.alloc (.cells #[.int .u64 0, .int .u64 0, .int .u64 0, .int .u64 0, .int .u64 0, .int .u64 0, .int .u64 0, .int .u64 0] 114)).alloc (.cells #[.int .u64 0, .int .u64 0, .int .u64 0, .int .u64 0, .int .u64 0, .int .u64 0, .int .u64 0, .int .u64 0] 114)).there (w.heap.size + 1) 0 8 ∧ ((w.alloc (.cells #[.int .u64 0, .int .u64 0, .int .u64 0, .int .u64 0, .int .u64 0, .int .u64 0, .int .u64 0, .int .u64 0] 114)).alloc (.cells #[.int .u64 0, .int .u64 0, .int .u64 0, .int .u64 0, .int .u64 0, .int .u64 0, .int .u64 0, .int .u64 0] 114)).there w.heap.size 0 8) := ⟨((Below.refl _ _).alloc (Nat.le_refl _) _).alloc (by simp) _, two_there w _ _ 114 114 8 (by decide), World.there_alloc (there_new w _ 114 8 (by decide)) _⟩
  go_enter Tryd.func86, Tryd.ntmps86
  go_wp2
  go_loopw [5] (fun v wr => ∃ q : Nat, q ≤ 8 ∧ v = .int .i64 q ∧ Hid (Below w.heap.size w wr) ∧ Hid (wr.there (w.heap.size + 1) 0 8 ∧ wr.there w.heap.size 0 8) ∧ Hid (∀ j, j < q → wr.cell? ⟨w.heap.size + 1, j, none⟩ = some (.int .u64 (firstAt 224 j)))) (fun v _ => 8 - (intOf v).toNat)
  case atStart => exact ⟨0, by omega, rfl, HB0.out.1, HB0.out.2, fun j hj => by omega⟩
  case round =>
    obtain ⟨q, hq, rfl, HB, HT, HF⟩ := hrel
    clear HB0
    by_cases hlt : q < 8
    · obtain ⟨jj, hjj⟩ : ∃ jj, jj = 8 + q := ⟨_, rfl⟩
      have hTr := hT.out.below HB.out hT.out.size
      have c1 := hTr.roots (jj) (by omega)
      have hql : (q : Int) < 8 := by omega
      have hq0 : (0 : Int) ≤ (q : Int) := by omega
      have e8 : (8 : Int) + (q : Int) = (jj : Int) := by omega
      have e9 : (jj : Int) < 16 := by omega
      have HJ : Hid (jj = 8 + q) := hjj
      clear hjj
      have ff : wr.frozen? ⟨w.heap.size + 1, q, none⟩ = false := by have := (HT.out.1 q hlt).2; rw [Nat.zero_add] at this; exact this
      have fs : (wr.cell? ⟨w.heap.size + 1, q, none⟩).isSome = true := by have := (HT.out.1 q hlt).1; rw [Nat.zero_add] at this; exact this
      obtain ⟨z, hz⟩ := Option.isSome_iff_exists.1 fs
      clear fs hTr
      go_wp2
      go_roundw
      case rel =>
        have hf := fill_step (F := fun j => .int .u64 (firstAt 224 j)) HF.out HT.out.1 hlt (.int .u64 (firstAt 224 q)) rfl
        obtain rfl := HJ.out
        refine ⟨q + 1, by omega, by go_num, HB.out.setCell (by simp) _, ⟨World.there_setCells HT.out.1 _ q [_], World.there_setCells HT.out.2 _ q [_]⟩, hf.1⟩
      case measure => simp [intOf]; omega
    · obtain rfl : q = 8 := by omega
      have HR : Hid (wr.rangeAt (w.heap.size + 1) 0 (firstE 224).cells) := fun j v hv => by
        obtain ⟨hj, rfl⟩ := eightOf_at _ j v hv
        rw [Nat.zero_add]
        exact HF.out j hj
      have HY : Hid (wr.there w.heap.size 0 (firstE 224).cells.toArray.size) := HT.out.2
      have HZ : Hid ((Tryd.prog.info? 114).map (·.size) = some (firstE 224).cells.toArray.size) := size68
      obtain ⟨E, HE⟩ : ∃ E : Eight, Hid (E = firstE 224) := ⟨_, rfl⟩
      rw [← HE.out] at HR HY HZ
      clear HF
      go_wp2_with (first
        | (refine wpList_load_mid (by rfl) 114 (.tmp 3) (by rfl) (w.heap.size + 1) 0 (by rfl) E.cells _ HR.out Tryd.underlying114 rfl size68 ?_)
        | (refine wpList_store_mid (by rfl) 114 (.tmp 2) (.tmp 40) (by rfl) w.heap.size 0 E.cells.toArray (by rfl) (by rfl) HY.out HZ.out (cellsE_one E) ?_)
        | fail)
      have hl := run_loadVar_mid (P := Tryd.prog) (wr.setCells w.heap.size 0 E.cells) w.heap.size 0 114 E.cells _ (World.rangeAt_setCells_same wr w.heap.size 0 E.cells HT.out.2) Tryd.underlying114 rfl size68
      refine bodyPost_ret (v := .agg E.cells.toArray) ?_ rfl ⟨by rw [HE.out], below_setCells _ (Nat.le_refl _) _ _ _ HB.out⟩
      rw [results_cell1D Tryd.results86]
      simp [Act.put, asAddr, hl]

set_option maxHeartbeats 1600000 in
set_option maxRecDepth 100000 in
theorem firstWords256 (w : World) (hT : Hid (Tables w)) :
    Calls Tryd.prog 86 #[.int .i64 256] w fun e w' => e = .returned (.agg (firstE 256).cells.toArray) ∧ Below w.heap.size w w' := by
  have HB0 : Hid (Below w.heap.size w ((w.alloc (.cells #[.int .u64 0, .int .u64 0, .int .u64 0, .int .u64 0, .int .u64 0, .int .u64 0, .int .u64 0, .int .u64 0] 114)).alloc (.cells #[.int .u64 0, .int .u64 0, .int .u64 0, .int .u64 0, .int .u64 0, .int .u64 0, .int .u64 0, .int .u64 0] 114)) ∧ ((w.alloc (.cells #[.int .u64 0, .int .u64 0, .int .u64 0, .int .u64 0, .int .u64 0, .int .u64 0, .int .u64 0, .int .u64 0] 114)).alloc (.cells #[.int .u64 0, .int .u64 0, .int .u64 0, .int .u64 0, .int .u64 0, .int .u64 0, .int .u64 0, .int .u64 0] 114)).there (w.heap.size + 1) 0 8 ∧ ((w.alloc (.cells #[.int .u64 0, .int .u64 0, .int .u64 0, .int .u64 0, .int .u64 0, .int .u64 0, .int .u64 0, .int .u64 0] 114)).alloc (.cells #[.int .u64 0, .int .u64 0, .int .u64 0, .int .u64 0, .int .u64 0, .int .u64 0, .int .u64 0, .int .u64 0] 114)).there w.heap.size 0 8) := ⟨((Below.refl _ _).alloc (Nat.le_refl _) _).alloc (by simp) _, two_there w _ _ 114 114 8 (by decide), World.there_alloc (there_new w _ 114 8 (by decide)) _⟩
  go_enter Tryd.func86, Tryd.ntmps86
  go_wp2
  go_loopw [5] (fun v wr => ∃ q : Nat, q ≤ 8 ∧ v = .int .i64 q ∧ Hid (Below w.heap.size w wr) ∧ Hid (wr.there (w.heap.size + 1) 0 8 ∧ wr.there w.heap.size 0 8) ∧ Hid (∀ j, j < q → wr.cell? ⟨w.heap.size + 1, j, none⟩ = some (.int .u64 (firstAt 256 j)))) (fun v _ => 8 - (intOf v).toNat)
  case atStart => exact ⟨0, by omega, rfl, HB0.out.1, HB0.out.2, fun j hj => by omega⟩
  case round =>
    obtain ⟨q, hq, rfl, HB, HT, HF⟩ := hrel
    clear HB0
    by_cases hlt : q < 8
    · obtain ⟨jj, hjj⟩ : ∃ jj, jj = 8 + q := ⟨_, rfl⟩
      have hTr := hT.out.below HB.out hT.out.size
      have c1 := hTr.roots (q) (by omega)
      have hql : (q : Int) < 8 := by omega
      have hq0 : (0 : Int) ≤ (q : Int) := by omega
      skip
      have ff : wr.frozen? ⟨w.heap.size + 1, q, none⟩ = false := by have := (HT.out.1 q hlt).2; rw [Nat.zero_add] at this; exact this
      have fs : (wr.cell? ⟨w.heap.size + 1, q, none⟩).isSome = true := by have := (HT.out.1 q hlt).1; rw [Nat.zero_add] at this; exact this
      obtain ⟨z, hz⟩ := Option.isSome_iff_exists.1 fs
      clear fs hTr
      go_wp2
      go_roundw
      case rel =>
        have hf := fill_step (F := fun j => .int .u64 (firstAt 256 j)) HF.out HT.out.1 hlt (.int .u64 (firstAt 256 q)) rfl
        skip
        refine ⟨q + 1, by omega, by go_num, HB.out.setCell (by simp) _, ⟨World.there_setCells HT.out.1 _ q [_], World.there_setCells HT.out.2 _ q [_]⟩, hf.1⟩
      case measure => simp [intOf]; omega
    · obtain rfl : q = 8 := by omega
      have HR : Hid (wr.rangeAt (w.heap.size + 1) 0 (firstE 256).cells) := fun j v hv => by
        obtain ⟨hj, rfl⟩ := eightOf_at _ j v hv
        rw [Nat.zero_add]
        exact HF.out j hj
      have HY : Hid (wr.there w.heap.size 0 (firstE 256).cells.toArray.size) := HT.out.2
      have HZ : Hid ((Tryd.prog.info? 114).map (·.size) = some (firstE 256).cells.toArray.size) := size68
      obtain ⟨E, HE⟩ : ∃ E : Eight, Hid (E = firstE 256) := ⟨_, rfl⟩
      rw [← HE.out] at HR HY HZ
      clear HF
      go_wp2_with (first
        | (refine wpList_load_mid (by rfl) 114 (.tmp 3) (by rfl) (w.heap.size + 1) 0 (by rfl) E.cells _ HR.out Tryd.underlying114 rfl size68 ?_)
        | (refine wpList_store_mid (by rfl) 114 (.tmp 2) (.tmp 40) (by rfl) w.heap.size 0 E.cells.toArray (by rfl) (by rfl) HY.out HZ.out (cellsE_one E) ?_)
        | fail)
      have hl := run_loadVar_mid (P := Tryd.prog) (wr.setCells w.heap.size 0 E.cells) w.heap.size 0 114 E.cells _ (World.rangeAt_setCells_same wr w.heap.size 0 E.cells HT.out.2) Tryd.underlying114 rfl size68
      refine bodyPost_ret (v := .agg E.cells.toArray) ?_ rfl ⟨by rw [HE.out], below_setCells _ (Nat.le_refl _) _ _ _ HB.out⟩
      rw [results_cell1D Tryd.results86]
      simp [Act.put, asAddr, hl]

set_option maxHeartbeats 1600000 in
set_option maxRecDepth 100000 in
theorem firstWords384 (w : World) (hT : Hid (Tables w)) :
    Calls Tryd.prog 86 #[.int .i64 384] w fun e w' => e = .returned (.agg (firstE 384).cells.toArray) ∧ Below w.heap.size w w' := by
  have HB0 : Hid (Below w.heap.size w ((w.alloc (.cells #[.int .u64 0, .int .u64 0, .int .u64 0, .int .u64 0, .int .u64 0, .int .u64 0, .int .u64 0, .int .u64 0] 114)).alloc (.cells #[.int .u64 0, .int .u64 0, .int .u64 0, .int .u64 0, .int .u64 0, .int .u64 0, .int .u64 0, .int .u64 0] 114)) ∧ ((w.alloc (.cells #[.int .u64 0, .int .u64 0, .int .u64 0, .int .u64 0, .int .u64 0, .int .u64 0, .int .u64 0, .int .u64 0] 114)).alloc (.cells #[.int .u64 0, .int .u64 0, .int .u64 0, .int .u64 0, .int .u64 0, .int .u64 0, .int .u64 0, .int .u64 0] 114)).there (w.heap.size + 1) 0 8 ∧ ((w.alloc (.cells #[.int .u64 0, .int .u64 0, .int .u64 0, .int .u64 0, .int .u64 0, .int .u64 0, .int .u64 0, .int .u64 0] 114)).alloc (.cells #[.int .u64 0, .int .u64 0, .int .u64 0, .int .u64 0, .int .u64 0, .int .u64 0, .int .u64 0, .int .u64 0] 114)).there w.heap.size 0 8) := ⟨((Below.refl _ _).alloc (Nat.le_refl _) _).alloc (by simp) _, two_there w _ _ 114 114 8 (by decide), World.there_alloc (there_new w _ 114 8 (by decide)) _⟩
  go_enter Tryd.func86, Tryd.ntmps86
  go_wp2
  go_loopw [5] (fun v wr => ∃ q : Nat, q ≤ 8 ∧ v = .int .i64 q ∧ Hid (Below w.heap.size w wr) ∧ Hid (wr.there (w.heap.size + 1) 0 8 ∧ wr.there w.heap.size 0 8) ∧ Hid (∀ j, j < q → wr.cell? ⟨w.heap.size + 1, j, none⟩ = some (.int .u64 (firstAt 384 j)))) (fun v _ => 8 - (intOf v).toNat)
  case atStart => exact ⟨0, by omega, rfl, HB0.out.1, HB0.out.2, fun j hj => by omega⟩
  case round =>
    obtain ⟨q, hq, rfl, HB, HT, HF⟩ := hrel
    clear HB0
    by_cases hlt : q < 8
    · obtain ⟨jj, hjj⟩ : ∃ jj, jj = 8 + q := ⟨_, rfl⟩
      have hTr := hT.out.below HB.out hT.out.size
      have c1 := hTr.roots (jj) (by omega)
      have hql : (q : Int) < 8 := by omega
      have hq0 : (0 : Int) ≤ (q : Int) := by omega
      have e8 : (8 : Int) + (q : Int) = (jj : Int) := by omega
      have e9 : (jj : Int) < 16 := by omega
      have HJ : Hid (jj = 8 + q) := hjj
      clear hjj
      have ff : wr.frozen? ⟨w.heap.size + 1, q, none⟩ = false := by have := (HT.out.1 q hlt).2; rw [Nat.zero_add] at this; exact this
      have fs : (wr.cell? ⟨w.heap.size + 1, q, none⟩).isSome = true := by have := (HT.out.1 q hlt).1; rw [Nat.zero_add] at this; exact this
      obtain ⟨z, hz⟩ := Option.isSome_iff_exists.1 fs
      clear fs hTr
      go_wp2
      go_roundw
      case rel =>
        have hf := fill_step (F := fun j => .int .u64 (firstAt 384 j)) HF.out HT.out.1 hlt (.int .u64 (firstAt 384 q)) rfl
        obtain rfl := HJ.out
        refine ⟨q + 1, by omega, by go_num, HB.out.setCell (by simp) _, ⟨World.there_setCells HT.out.1 _ q [_], World.there_setCells HT.out.2 _ q [_]⟩, hf.1⟩
      case measure => simp [intOf]; omega
    · obtain rfl : q = 8 := by omega
      have HR : Hid (wr.rangeAt (w.heap.size + 1) 0 (firstE 384).cells) := fun j v hv => by
        obtain ⟨hj, rfl⟩ := eightOf_at _ j v hv
        rw [Nat.zero_add]
        exact HF.out j hj
      have HY : Hid (wr.there w.heap.size 0 (firstE 384).cells.toArray.size) := HT.out.2
      have HZ : Hid ((Tryd.prog.info? 114).map (·.size) = some (firstE 384).cells.toArray.size) := size68
      obtain ⟨E, HE⟩ : ∃ E : Eight, Hid (E = firstE 384) := ⟨_, rfl⟩
      rw [← HE.out] at HR HY HZ
      clear HF
      go_wp2_with (first
        | (refine wpList_load_mid (by rfl) 114 (.tmp 3) (by rfl) (w.heap.size + 1) 0 (by rfl) E.cells _ HR.out Tryd.underlying114 rfl size68 ?_)
        | (refine wpList_store_mid (by rfl) 114 (.tmp 2) (.tmp 40) (by rfl) w.heap.size 0 E.cells.toArray (by rfl) (by rfl) HY.out HZ.out (cellsE_one E) ?_)
        | fail)
      have hl := run_loadVar_mid (P := Tryd.prog) (wr.setCells w.heap.size 0 E.cells) w.heap.size 0 114 E.cells _ (World.rangeAt_setCells_same wr w.heap.size 0 E.cells HT.out.2) Tryd.underlying114 rfl size68
      refine bodyPost_ret (v := .agg E.cells.toArray) ?_ rfl ⟨by rw [HE.out], below_setCells _ (Nat.le_refl _) _ _ _ HB.out⟩
      rw [results_cell1D Tryd.results86]
      simp [Act.put, asAddr, hl]

set_option maxHeartbeats 1600000 in
set_option maxRecDepth 100000 in
theorem firstWords512 (w : World) (hT : Hid (Tables w)) :
    Calls Tryd.prog 86 #[.int .i64 512] w fun e w' => e = .returned (.agg (firstE 512).cells.toArray) ∧ Below w.heap.size w w' := by
  have HB0 : Hid (Below w.heap.size w ((w.alloc (.cells #[.int .u64 0, .int .u64 0, .int .u64 0, .int .u64 0, .int .u64 0, .int .u64 0, .int .u64 0, .int .u64 0] 114)).alloc (.cells #[.int .u64 0, .int .u64 0, .int .u64 0, .int .u64 0, .int .u64 0, .int .u64 0, .int .u64 0, .int .u64 0] 114)) ∧ ((w.alloc (.cells #[.int .u64 0, .int .u64 0, .int .u64 0, .int .u64 0, .int .u64 0, .int .u64 0, .int .u64 0, .int .u64 0] 114)).alloc (.cells #[.int .u64 0, .int .u64 0, .int .u64 0, .int .u64 0, .int .u64 0, .int .u64 0, .int .u64 0, .int .u64 0] 114)).there (w.heap.size + 1) 0 8 ∧ ((w.alloc (.cells #[.int .u64 0, .int .u64 0, .int .u64 0, .int .u64 0, .int .u64 0, .int .u64 0, .int .u64 0, .int .u64 0] 114)).alloc (.cells #[.int .u64 0, .int .u64 0, .int .u64 0, .int .u64 0, .int .u64 0, .int .u64 0, .int .u64 0, .int .u64 0] 114)).there w.heap.size 0 8) := ⟨((Below.refl _ _).alloc (Nat.le_refl _) _).alloc (by simp) _, two_there w _ _ 114 114 8 (by decide), World.there_alloc (there_new w _ 114 8 (by decide)) _⟩
  go_enter Tryd.func86, Tryd.ntmps86
  go_wp2
  go_loopw [5] (fun v wr => ∃ q : Nat, q ≤ 8 ∧ v = .int .i64 q ∧ Hid (Below w.heap.size w wr) ∧ Hid (wr.there (w.heap.size + 1) 0 8 ∧ wr.there w.heap.size 0 8) ∧ Hid (∀ j, j < q → wr.cell? ⟨w.heap.size + 1, j, none⟩ = some (.int .u64 (firstAt 512 j)))) (fun v _ => 8 - (intOf v).toNat)
  case atStart => exact ⟨0, by omega, rfl, HB0.out.1, HB0.out.2, fun j hj => by omega⟩
  case round =>
    obtain ⟨q, hq, rfl, HB, HT, HF⟩ := hrel
    clear HB0
    by_cases hlt : q < 8
    · obtain ⟨jj, hjj⟩ : ∃ jj, jj = 8 + q := ⟨_, rfl⟩
      have hTr := hT.out.below HB.out hT.out.size
      have c1 := hTr.roots (q) (by omega)
      have hql : (q : Int) < 8 := by omega
      have hq0 : (0 : Int) ≤ (q : Int) := by omega
      skip
      have ff : wr.frozen? ⟨w.heap.size + 1, q, none⟩ = false := by have := (HT.out.1 q hlt).2; rw [Nat.zero_add] at this; exact this
      have fs : (wr.cell? ⟨w.heap.size + 1, q, none⟩).isSome = true := by have := (HT.out.1 q hlt).1; rw [Nat.zero_add] at this; exact this
      obtain ⟨z, hz⟩ := Option.isSome_iff_exists.1 fs
      clear fs hTr
      go_wp2
      go_roundw
      case rel =>
        have hf := fill_step (F := fun j => .int .u64 (firstAt 512 j)) HF.out HT.out.1 hlt (.int .u64 (firstAt 512 q)) rfl
        skip
        refine ⟨q + 1, by omega, by go_num, HB.out.setCell (by simp) _, ⟨World.there_setCells HT.out.1 _ q [_], World.there_setCells HT.out.2 _ q [_]⟩, hf.1⟩
      case measure => simp [intOf]; omega
    · obtain rfl : q = 8 := by omega
      have HR : Hid (wr.rangeAt (w.heap.size + 1) 0 (firstE 512).cells) := fun j v hv => by
        obtain ⟨hj, rfl⟩ := eightOf_at _ j v hv
        rw [Nat.zero_add]
        exact HF.out j hj
      have HY : Hid (wr.there w.heap.size 0 (firstE 512).cells.toArray.size) := HT.out.2
      have HZ : Hid ((Tryd.prog.info? 114).map (·.size) = some (firstE 512).cells.toArray.size) := size68
      obtain ⟨E, HE⟩ : ∃ E : Eight, Hid (E = firstE 512) := ⟨_, rfl⟩
      rw [← HE.out] at HR HY HZ
      clear HF
      go_wp2_with (first
        | (refine wpList_load_mid (by rfl) 114 (.tmp 3) (by rfl) (w.heap.size + 1) 0 (by rfl) E.cells _ HR.out Tryd.underlying114 rfl size68 ?_)
        | (refine wpList_store_mid (by rfl) 114 (.tmp 2) (.tmp 40) (by rfl) w.heap.size 0 E.cells.toArray (by rfl) (by rfl) HY.out HZ.out (cellsE_one E) ?_)
        | fail)
      have hl := run_loadVar_mid (P := Tryd.prog) (wr.setCells w.heap.size 0 E.cells) w.heap.size 0 114 E.cells _ (World.rangeAt_setCells_same wr w.heap.size 0 E.cells HT.out.2) Tryd.underlying114 rfl size68
      refine bodyPost_ret (v := .agg E.cells.toArray) ?_ rfl ⟨by rw [HE.out], below_setCells _ (Nat.le_refl _) _ _ _ HB.out⟩
      rw [results_cell1D Tryd.results86]
      simp [Act.put, asAddr, hl]

theorem owns_of_row {w : World} {b n B : Nat} {zs : List Int} (hz : zs.length = n) (hB : B ≤ b) (hn : n ≤ maxLen) (h : w.rowIs b 5 n (fun j => .int .u8 (zs.getD j 0))) : w.ownsRow B 5 1 (.slice (some ⟨b, 0, none⟩) n n) n (cellsU8 zs) := by
  obtain ⟨c, h1, h2, h3⟩ := h
  refine ⟨by rw [cellsU8_length]; omega, .inr ⟨b, n, c, rfl, hB, h1, Nat.le_refl _, hn, by omega, ?_⟩⟩
  rw [List.take_of_length_le (by simp; omega)]
  apply List.ext_getElem?
  intro i
  by_cases hi : i < n
  · rw [Array.getElem?_toList, h3 i hi]
    simp [cellsU8, List.getD, List.getElem?_eq_getElem (show i < zs.length by omega)]
  · rw [List.getElem?_eq_none (by simp; omega), List.getElem?_eq_none (by rw [cellsU8_length]; omega)]
theorem owns_view {w : World} {v : Value} {n B : Nat} {zs : List Int} (hz : zs.length = n) (h : w.ownsRow B 5 1 v n (cellsU8 zs)) : View w v zs := by
  subst hz
  rcases h.2 with ⟨rfl, h0⟩ | ⟨g, c, cur, rfl, _, _, h1, h2, _⟩
  · obtain rfl : zs = [] := List.length_eq_zero_iff.1 h0
    exact ⟨none, 0, rfl, by simp, by simp [maxLen], fun _ => rfl, .inl rfl⟩
  · have hc := h.cells (g := g) rfl
    refine ⟨_, c, rfl, h1, h2, (fun e => by cases e), .inr ⟨g, 0, rfl, fun i hi => ?_⟩⟩
    have := hc i (.int .u8 (zs.getD i 0)) (by simp [cellsU8, List.getElem?_eq_getElem hi, List.getD])
    rw [Addr.add_lit] at this
    exact this

set_option maxHeartbeats 1600000 in
set_option maxRecDepth 100000 in
theorem first28 (C : List Value) (zs : List Int) (w : World) (hC : Hid (C = cellsU8 zs)) (hz : Hid (zs.length = 64)) :
    Calls Tryd.prog 73 #[.agg C.toArray, .int .i64 28] w fun e w' => ∃ g, e = .returned (.slice (some ⟨g, 0, none⟩) 28 28) ∧ w'.ownsRow w.heap.size 5 1 (.slice (some ⟨g, 0, none⟩) 28 28) 28 (cellsU8 (zs.take 28)) ∧ Below w.heap.size w w' := by
  have hmk : ∀ w, (Instr.makeSlice 23 (.int .i64 28) (.int .i64 28)).run Tryd.prog w = .ok (.slice (some ⟨w.heap.size, 0, none⟩) 28 28) (w.alloc (.cells #[.int .u8 0, .int .u8 0, .int .u8 0, .int .u8 0, .int .u8 0, .int .u8 0, .int .u8 0, .int .u8 0, .int .u8 0, .int .u8 0, .int .u8 0, .int .u8 0, .int .u8 0, .int .u8 0, .int .u8 0, .int .u8 0, .int .u8 0, .int .u8 0, .int .u8 0, .int .u8 0, .int .u8 0, .int .u8 0, .int .u8 0, .int .u8 0, .int .u8 0, .int .u8 0, .int .u8 0, .int .u8 0] 5)) := fun _ => by kernel_rfl
  have hlen : (zs.take 28).length = 28 := by rw [List.length_take, hz.out]; rfl
  have hv : View ((w.alloc (.cells C.toArray 123)).alloc (.cells #[.int .u8 0, .int .u8 0, .int .u8 0, .int .u8 0, .int .u8 0, .int .u8 0, .int .u8 0, .int .u8 0, .int .u8 0, .int .u8 0, .int .u8 0, .int .u8 0, .int .u8 0, .int .u8 0, .int .u8 0, .int .u8 0, .int .u8 0, .int .u8 0, .int .u8 0, .int .u8 0, .int .u8 0, .int .u8 0, .int .u8 0, .int .u8 0, .int .u8 0, .int .u8 0, .int .u8 0, .int .u8 0] 5)) (.slice (some ⟨w.heap.size, 0, none⟩) 28 64) (zs.take 28) := by
    refine ⟨_, 64, by rw [hlen], by rw [hlen]; omega, by simp [maxLen], (fun e => by cases e), .inr ⟨w.heap.size, 0, rfl, fun i hi => ?_⟩⟩
    rw [hlen] at hi
    rw [World.cell?_alloc_past _ _ _ (by simp), World.cell?_alloc_at _ _ _ _ rfl, hC.out, Nat.zero_add]
    have h64 := hz.out
    simp [cellsU8, List.getD, List.getElem?_take, hi, List.getElem?_eq_getElem (show i < zs.length by omega)]
  have hcp := copy_eq _ (w.heap.size + 1) 0 28 28 _ 28 64 28 _ rfl hv (two_there w _ _ 123 5 28 (by decide))
  rw [List.take_take, Nat.min_self] at hcp
  have HO : Hid ((((w.alloc (.cells C.toArray 123)).alloc (.cells #[.int .u8 0, .int .u8 0, .int .u8 0, .int .u8 0, .int .u8 0, .int .u8 0, .int .u8 0, .int .u8 0, .int .u8 0, .int .u8 0, .int .u8 0, .int .u8 0, .int .u8 0, .int .u8 0, .int .u8 0, .int .u8 0, .int .u8 0, .int .u8 0, .int .u8 0, .int .u8 0, .int .u8 0, .int .u8 0, .int .u8 0, .int .u8 0, .int .u8 0, .int .u8 0, .int .u8 0, .int .u8 0] 5)).setCells (w.heap.size + 1) 0 (cellsU8 (zs.take 28))).ownsRow w.heap.size 5 1 (.slice (some ⟨w.heap.size + 1, 0, none⟩) 28 28) 28 (cellsU8 (zs.take 28))) := by
    refine owns_of_row hlen (by omega) (by simp [maxLen]) ?_
    have hr := World.rowIs_alloc (w.alloc (.cells C.toArray 123)) (List.replicate 28 (Value.int .u8 0)).toArray 5 (fun _ => .int .u8 0) (fun i hi => zero_lit 28 i hi)
    have hs : (w.alloc (.cells C.toArray 123)).heap.size = w.heap.size + 1 := by simp
    rw [hs] at hr
    refine (Go.rowIs_setCells (cellsU8 (zs.take 28)) 0 _ _ hr).congr (fun j hj => ?_)
    have hj' : j < 28 := hj
    rw [if_pos ⟨Nat.zero_le _, by rw [cellsU8_length, hlen]; omega⟩]
    have h64 := hz.out
    simp [cellsU8, List.getD, List.getElem?_take, hj', List.getElem?_eq_getElem (show j < zs.length by omega)]
  have HB : Hid (Below w.heap.size w (((w.alloc (.cells C.toArray 123)).alloc (.cells #[.int .u8 0, .int .u8 0, .int .u8 0, .int .u8 0, .int .u8 0, .int .u8 0, .int .u8 0, .int .u8 0, .int .u8 0, .int .u8 0, .int .u8 0, .int .u8 0, .int .u8 0, .int .u8 0, .int .u8 0, .int .u8 0, .int .u8 0, .int .u8 0, .int .u8 0, .int .u8 0, .int .u8 0, .int .u8 0, .int .u8 0, .int .u8 0, .int .u8 0, .int .u8 0, .int .u8 0, .int .u8 0] 5)).setCells (w.heap.size + 1) 0 (cellsU8 (zs.take 28)))) := below_setCells _ (by omega) _ _ _ (((Below.refl _ _).alloc (Nat.le_refl _) _).alloc (by simp) _)
  clear hv hlen
  go_enter Tryd.func73, Tryd.ntmps73
  go_wp2
  go_ret
  exact ⟨_, rfl, HO, HB⟩

set_option maxHeartbeats 1600000 in
set_option maxRecDepth 100000 in
theorem first32 (C : List Value) (zs : List Int) (w : World) (hC : Hid (C = cellsU8 zs)) (hz : Hid (zs.length = 64)) :
    Calls Tryd.prog 73 #[.agg C.toArray, .int .i64 32] w fun e w' => ∃ g, e = .returned (.slice (some ⟨g, 0, none⟩) 32 32) ∧ w'.ownsRow w.heap.size 5 1 (.slice (some ⟨g, 0, none⟩) 32 32) 32 (cellsU8 (zs.take 32)) ∧ Below w.heap.size w w' := by
  have hmk : ∀ w, (Instr.makeSlice 23 (.int .i64 32) (.int .i64 32)).run Tryd.prog w = .ok (.slice (some ⟨w.heap.size, 0, none⟩) 32 32) (w.alloc (.cells #[.int .u8 0, .int .u8 0, .int .u8 0, .int .u8 0, .int .u8 0, .int .u8 0, .int .u8 0, .int .u8 0, .int .u8 0, .int .u8 0, .int .u8 0, .int .u8 0, .int .u8 0, .int .u8 0, .int .u8 0, .int .u8 0, .int .u8 0, .int .u8 0, .int .u8 0, .int .u8 0, .int .u8 0, .int .u8 0, .int .u8 0, .int .u8 0, .int .u8 0, .int .u8 0, .int .u8 0, .int .u8 0, .int .u8 0, .int .u8 0, .int .u8 0, .int .u8 0] 5)) := fun _ => by kernel_rfl
  have hlen : (zs.take 32).length = 32 := by rw [List.length_take, hz.out]; rfl
  have hv : View ((w.alloc (.cells C.toArray 123)).alloc (.cells #[.int .u8 0, .int .u8 0, .int .u8 0, .int .u8 0, .int .u8 0, .int .u8 0, .int .u8 0, .int .u8 0, .int .u8 0, .int .u8 0, .int .u8 0, .int .u8 0, .int .u8 0, .int .u8 0, .int .u8 0, .int .u8 0, .int .u8 0, .int .u8 0, .int .u8 0, .int .u8 0, .int .u8 0, .int .u8 0, .int .u8 0, .int .u8 0, .int .u8 0, .int .u8 0, .int .u8 0, .int .u8 0, .int .u8 0, .int .u8 0, .int .u8 0, .int .u8 0] 5)) (.slice (some ⟨w.heap.size, 0, none⟩) 32 64) (zs.take 32) := by
    refine ⟨_, 64, by rw [hlen], by rw [hlen]; omega, by simp [maxLen], (fun e => by cases e), .inr ⟨w.heap.size, 0, rfl, fun i hi => ?_⟩⟩
    rw [hlen] at hi
    rw [World.cell?_alloc_past _ _ _ (by simp), World.cell?_alloc_at _ _ _ _ rfl, hC.out, Nat.zero_add]
    have h64 := hz.out
    simp [cellsU8, List.getD, List.getElem?_take, hi, List.getElem?_eq_getElem (show i < zs.length by omega)]
  have hcp := copy_eq _ (w.heap.size + 1) 0 32 32 _ 32 64 32 _ rfl hv (two_there w _ _ 123 5 32 (by decide))
  rw [List.take_take, Nat.min_self] at hcp
  have HO : Hid ((((w.alloc (.cells C.toArray 123)).alloc (.cells #[.int .u8 0, .int .u8 0, .int .u8 0, .int .u8 0, .int .u8 0, .int .u8 0, .int .u8 0, .int .u8 0, .int .u8 0, .int .u8 0, .int .u8 0, .int .u8 0, .int .u8 0, .int .u8 0, .int .u8 0, .int .u8 0, .int .u8 0, .int .u8 0, .int .u8 0, .int .u8 0, .int .u8 0, .int .u8 0, .int .u8 0, .int .u8 0, .int .u8 0, .int .u8 0, .int .u8 0, .int .u8 0, .int .u8 0, .int .u8 0, .int .u8 0, .int .u8 0] 5)).setCells (w.heap.size + 1) 0 (cellsU8 (zs.take 32))).ownsRow w.heap.size 5 1 (.slice (some ⟨w.heap.size + 1, 0, none⟩) 32 32) 32 (cellsU8 (zs.take 32))) := by
    refine owns_of_row hlen (by omega) (by simp [maxLen]) ?_
    have hr := World.rowIs_alloc (w.alloc (.cells C.toArray 123)) (List.replicate 32 (Value.int .u8 0)).toArray 5 (fun _ => .int .u8 0) (fun i hi => zero_lit 32 i hi)
    have hs : (w.alloc (.cells C.toArray 123)).heap.size = w.heap.size + 1 := by simp
    rw [hs] at hr
    refine (Go.rowIs_setCells (cellsU8 (zs.take 32)) 0 _ _ hr).congr (fun j hj => ?_)
    have hj' : j < 32 := hj
    rw [if_pos ⟨Nat.zero_le _, by rw [cellsU8_length, hlen]; omega⟩]
    have h64 := hz.out
    simp [cellsU8, List.getD, List.getElem?_take, hj', List.getElem?_eq_getElem (show j < zs.length by omega)]
  have HB : Hid (Below w.heap.size w (((w.alloc (.cells C.toArray 123)).alloc (.cells #[.int .u8 0, .int .u8 0, .int .u8 0, .int .u8 0, .int .u8 0, .int .u8 0, .int .u8 0, .int .u8 0, .int .u8 0, .int .u8 0, .int .u8 0, .int .u8 0, .int .u8 0, .int .u8 0, .int .u8 0, .int .u8 0, .int .u8 0, .int .u8 0, .int .u8 0, .int .u8 0, .int .u8 0, .int .u8 0, .int .u8 0, .int .u8 0, .int .u8 0, .int .u8 0, .int .u8 0, .int .u8 0, .int .u8 0, .int .u8 0, .int .u8 0, .int .u8 0] 5)).setCells (w.heap.size + 1) 0 (cellsU8 (zs.take 32)))) := below_setCells _ (by omega) _ _ _ (((Below.refl _ _).alloc (Nat.le_refl _) _).alloc (by simp) _)
  clear hv hlen
  go_enter Tryd.func73, Tryd.ntmps73
  go_wp2
  go_ret
  exact ⟨_, rfl, HO, HB⟩

set_option maxHeartbeats 1600000 in
set_option maxRecDepth 100000 in
theorem first48 (C : List Value) (zs : List Int) (w : World) (hC : Hid (C = cellsU8 zs)) (hz : Hid (zs.length = 64)) :
    Calls Tryd.prog 73 #[.agg C.toArray, .int .i64 48] w fun e w' => ∃ g, e = .returned (.slice (some ⟨g, 0, none⟩) 48 48) ∧ w'.ownsRow w.heap.size 5 1 (.slice (some ⟨g, 0, none⟩) 48 48) 48 (cellsU8 (zs.take 48)) ∧ Below w.heap.size w w' := by
  have hmk : ∀ w, (Instr.makeSlice 23 (.int .i64 48) (.int .i64 48)).run Tryd.prog w = .ok (.slice (some ⟨w.heap.size, 0, none⟩) 48 48) (w.alloc (.cells #[.int .u8 0, .int .u8 0, .int .u8 0, .int .u8 0, .int .u8 0, .int .u8 0, .int .u8 0, .int .u8 0, .int .u8 0, .int .u8 0, .int .u8 0, .int .u8 0, .int .u8 0, .int .u8 0, .int .u8 0, .int .u8 0, .int .u8 0, .int .u8 0, .int .u8 0, .int .u8 0, .int .u8 0, .int .u8 0, .int .u8 0, .int .u8 0, .int .u8 0, .int .u8 0, .int .u8 0, .int .u8 0, .int .u8 0, .int .u8 0, .int .u8 0, .int .u8 0, .int .u8 0, .int .u8 0, .int .u8 0, .int .u8 0, .int .u8 0, .int .u8 0, .int .u8 0, .int .u8 0, .int .u8 0, .int .u8 0, .int .u8 0, .int .u8 0, .int .u8 0, .int .u8 0, .int .u8 0, .int .u8 0] 5)) := fun _ => by kernel_rfl
  have hlen : (zs.take 48).length = 48 := by rw [List.length_take, hz.out]; rfl
  have hv : View ((w.alloc (.cells C.toArray 123)).alloc (.cells #[.int .u8 0, .int .u8 0, .int .u8 0, .int .u8 0, .int .u8 0, .int .u8 0, .int .u8 0, .int .u8 0, .int .u8 0, .int .u8 0, .int .u8 0, .int .u8 0, .int .u8 0, .int .u8 0, .int .u8 0, .int .u8 0, .int .u8 0, .int .u8 0, .int .u8 0, .int .u8 0, .int .u8 0, .int .u8 0, .int .u8 0, .int .u8 0, .int .u8 0, .int .u8 0, .int .u8 0, .int .u8 0, .int .u8 0, .int .u8 0, .int .u8 0, .int .u8 0, .int .u8 0, .int .u8 0, .int .u8 0, .int .u8 0, .int .u8 0, .int .u8 0, .int .u8 0, .int .u8 0, .int .u8 0, .int .u8 0, .int .u8 0, .int .u8 0, .int .u8 0, .int .u8 0, .int .u8 0, .int .u8 0] 5)) (.slice (some ⟨w.heap.size, 0, none⟩) 48 64) (zs.take 48) := by
    refine ⟨_, 64, by rw [hlen], by rw [hlen]; omega, by simp [maxLen], (fun e => by cases e), .inr ⟨w.heap.size, 0, rfl, fun i hi => ?_⟩⟩
    rw [hlen] at hi
    rw [World.cell?_alloc_past _ _ _ (by simp), World.cell?_alloc_at _ _ _ _ rfl, hC.out, Nat.zero_add]
    have h64 := hz.out
    simp [cellsU8, List.getD, List.getElem?_take, hi, List.getElem?_eq_getElem (show i < zs.length by omega)]
  have hcp := copy_eq _ (w.heap.size + 1) 0 48 48 _ 48 64 48 _ rfl hv (two_there w _ _ 123 5 48 (by decide))
  rw [List.take_take, Nat.min_self] at hcp
  have HO : Hid ((((w.alloc (.cells C.toArray 123)).alloc (.cells #[.int .u8 0, .int .u8 0, .int .u8 0, .int .u8 0, .int .u8 0, .int .u8 0, .int .u8 0, .int .u8 0, .int .u8 0, .int .u8 0, .int .u8 0, .int .u8 0, .int .u8 0, .int .u8 0, .int .u8 0, .int .u8 0, .int .u8 0, .int .u8 0, .int .u8 0, .int .u8 0, .int .u8 0, .int .u8 0, .int .u8 0, .int .u8 0, .int .u8 0, .int .u8 0, .int .u8 0, .int .u8 0, .int .u8 0, .int .u8 0, .int .u8 0, .int .u8 0, .int .u8 0, .int .u8 0, .int .u8 0, .int .u8 0, .int .u8 0, .int .u8 0, .int .u8 0, .int .u8 0, .int .u8 0, .int .u8 0, .int .u8 0, .int .u8 0, .int .u8 0, .int .u8 0, .int .u8 0, .int .u8 0] 5)).setCells (w.heap.size + 1) 0 (cellsU8 (zs.take 48))).ownsRow w.heap.size 5 1 (.slice (some ⟨w.heap.size + 1, 0, none⟩) 48 48) 48 (cellsU8 (zs.take 48))) := by
    refine owns_of_row hlen (by omega) (by simp [maxLen]) ?_
    have hr := World.rowIs_alloc (w.alloc (.cells C.toArray 123)) (List.replicate 48 (Value.int .u8 0)).toArray 5 (fun _ => .int .u8 0) (fun i hi => zero_lit 48 i hi)
    have hs : (w.alloc (.cells C.toArray 123)).heap.size = w.heap.size + 1 := by simp
    rw [hs] at hr
    refine (Go.rowIs_setCells (cellsU8 (zs.take 48)) 0 _ _ hr).congr (fun j hj => ?_)
    have hj' : j < 48 := hj
    rw [if_pos ⟨Nat.zero_le _, by rw [cellsU8_length, hlen]; omega⟩]
    have h64 := hz.out
    simp [cellsU8, List.getD, List.getElem?_take, hj', List.getElem?_eq_getElem (show j < zs.length by omega)]
  have HB : Hid (Below w.heap.size w (((w.alloc (.cells C.toArray 123)).alloc (.cells #[.int .u8 0, .int .u8 0, .int .u8 0, .int .u8 0, .int .u8 0, .int .u8 0, .int .u8 0, .int .u8 0, .int .u8 0, .int .u8 0, .int .u8 0, .int .u8 0, .int .u8 0, .int .u8 0, .int .u8 0, .int .u8 0, .int .u8 0, .int .u8 0, .int .u8 0, .int .u8 0, .int .u8 0, .int .u8 0, .int .u8 0, .int .u8 0, .int .u8 0, .int .u8 0, .int .u8 0, .int .u8 0, .int .u8 0, .int .u8 0, .int .u8 0, .int .u8 0, .int .u8 0, .int .u8 0, .int .u8 0, .int .u8 0, .int .u8 0, .int .u8 0, .int .u8 0, .int .u8 0, .int .u8 0, .int .u8 0, .int .u8 0, .int .u8 0, .int .u8 0, .int .u8 0, .int .u8 0, .int .u8 0] 5)).setCells (w.heap.size + 1) 0 (cellsU8 (zs.take 48)))) := below_setCells _ (by omega) _ _ _ (((Below.refl _ _).alloc (Nat.le_refl _) _).alloc (by simp) _)
  clear hv hlen
  go_enter Tryd.func73, Tryd.ntmps73
  go_wp2
  go_ret
  exact ⟨_, rfl, HO, HB⟩

set_option maxHeartbeats 1600000 in
set_option maxRecDepth 100000 in
theorem first64 (C : List Value) (zs : List Int) (w : World) (hC : Hid (C = cellsU8 zs)) (hz : Hid (zs.length = 64)) :
    Calls Tryd.prog 73 #[.agg C.toArray, .int .i64 64] w fun e w' => ∃ g, e = .returned (.slice (some ⟨g, 0, none⟩) 64 64) ∧ w'.ownsRow w.heap.size 5 1 (.slice (some ⟨g, 0, none⟩) 64 64) 64 (cellsU8 (zs.take 64)) ∧ Below w.heap.size w w' := by
  have hmk : ∀ w, (Instr.makeSlice 23 (.int .i64 64) (.int .i64 64)).run Tryd.prog w = .ok (.slice (some ⟨w.heap.size, 0, none⟩) 64 64) (w.alloc (.cells #[.int .u8 0, .int .u8 0, .int .u8 0, .int .u8 0, .int .u8 0, .int .u8 0, .int .u8 0, .int .u8 0, .int .u8 0, .int .u8 0, .int .u8 0, .int .u8 0, .int .u8 0, .int .u8 0, .int .u8 0, .int .u8 0, .int .u8 0, .int .u8 0, .int .u8 0, .int .u8 0, .int .u8 0, .int .u8 0, .int .u8 0, .int .u8 0, .int .u8 0, .int .u8 0, .int .u8 0, .int .u8 0, .int .u8 0, .int .u8 0, .int .u8 0, .int .u8 0, .int .u8 0, .int .u8 0, .int .u8 0, .int .u8 0, .int .u8 0, .int .u8 0, .int .u8 0, .int .u8 0, .int .u8 0, .int .u8 0, .int .u8 0, .int .u8 0, .int .u8 0, .int .u8 0, .int .u8 0, .int .u8 0, .int .u8 0, .int .u8 0, .int .u8 0, .int .u8 0, .int .u8 0, .int .u8 0, .int .u8 0, .int .u8 0, .int .u8 0, .int .u8 0, .int .u8 0, .int .u8 0, .int .u8 0, .int .u8 0, .int .u8 0, .int .u8 0] 5)) := fun _ => by kernel_rfl
  have hlen : (zs.take 64).length = 64 := by rw [List.length_take, hz.out]; rfl
  have hv : View ((w.alloc (.cells C.toArray 123)).alloc (.cells #[.int .u8 0, .int .u8 0, .int .u8 0, .int .u8 0, .int .u8 0, .int .u8 0, .int .u8 0, .int .u8 0, .int .u8 0, .int .u8 0, .int .u8 0, .int .u8 0, .int .u8 0, .int .u8 0, .int .u8 0, .int .u8 0, .int .u8 0, .int .u8 0, .int .u8 0, .int .u8 0, .int .u8 0, .int .u8 0, .int .u8 0, .int .u8 0, .int .u8 0, .int .u8 0, .int .u8 0, .int .u8 0, .int .u8 0, .int .u8 0, .int .u8 0, .int .u8 0, .int .u8 0, .int .u8 0, .int .u8 0, .int .u8 0, .int .u8 0, .int .u8 0, .int .u8 0, .int .u8 0, .int .u8 0, .int .u8 0, .int .u8 0, .int .u8 0, .int .u8 0, .int .u8 0, .int .u8 0, .int .u8 0, .int .u8 0, .int .u8 0, .int .u8 0, .int .u8 0, .int .u8 0, .int .u8 0, .int .u8 0, .int .u8 0, .int .u8 0, .int .u8 0, .int .u8 0, .int .u8 0, .int .u8 0, .int .u8 0, .int .u8 0, .int .u8 0] 5)) (.slice (some ⟨w.heap.size, 0, none⟩) 64 64) (zs.take 64) := by
    refine ⟨_, 64, by rw [hlen], by rw [hlen]; omega, by simp [maxLen], (fun e => by cases e), .inr ⟨w.heap.size, 0, rfl, fun i hi => ?_⟩⟩
    rw [hlen] at hi
    rw [World.cell?_alloc_past _ _ _ (by simp), World.cell?_alloc_at _ _ _ _ rfl, hC.out, Nat.zero_add]
    have h64 := hz.out
    simp [cellsU8, List.getD, List.getElem?_take, hi, List.getElem?_eq_getElem (show i < zs.length by omega)]
  have hcp := copy_eq _ (w.heap.size + 1) 0 64 64 _ 64 64 64 _ rfl hv (two_there w _ _ 123 5 64 (by decide))
  rw [List.take_take, Nat.min_self] at hcp
  have HO : Hid ((((w.alloc (.cells C.toArray 123)).alloc (.cells #[.int .u8 0, .int .u8 0, .int .u8 0, .int .u8 0, .int .u8 0, .int .u8 0, .int .u8 0, .int .u8 0, .int .u8 0, .int .u8 0, .int .u8 0, .int .u8 0, .int .u8 0, .int .u8 0, .int .u8 0, .int .u8 0, .int .u8 0, .int .u8 0, .int .u8 0, .int .u8 0, .int .u8 0, .int .u8 0, .int .u8 0, .int .u8 0, .int .u8 0, .int .u8 0, .int .u8 0, .int .u8 0, .int .u8 0, .int .u8 0, .int .u8 0, .int .u8 0, .int .u8 0, .int .u8 0, .int .u8 0, .int .u8 0, .int .u8 0, .int .u8 0, .int .u8 0, .int .u8 0, .int .u8 0, .int .u8 0, .int .u8 0, .int .u8 0, .int .u8 0, .int .u8 0, .int .u8 0, .int .u8 0, .int .u8 0, .int .u8 0, .int .u8 0, .int .u8 0, .int .u8 0, .int .u8 0, .int .u8 0, .int .u8 0, .int .u8 0, .int .u8 0, .int .u8 0, .int .u8 0, .int .u8 0, .int .u8 0, .int .u8 0, .int .u8 0] 5)).setCells (w.heap.size + 1) 0 (cellsU8 (zs.take 64))).ownsRow w.heap.size 5 1 (.slice (some ⟨w.heap.size + 1, 0, none⟩) 64 64) 64 (cellsU8 (zs.take 64))) := by
    refine owns_of_row hlen (by omega) (by simp [maxLen]) ?_
    have hr := World.rowIs_alloc (w.alloc (.cells C.toArray 123)) (List.replicate 64 (Value.int .u8 0)).toArray 5 (fun _ => .int .u8 0) (fun i hi => zero_lit 64 i hi)
    have hs : (w.alloc (.cells C.toArray 123)).heap.size = w.heap.size + 1 := by simp
    rw [hs] at hr
    refine (Go.rowIs_setCells (cellsU8 (zs.take 64)) 0 _ _ hr).congr (fun j hj => ?_)
    have hj' : j < 64 := hj
    rw [if_pos ⟨Nat.zero_le _, by rw [cellsU8_length, hlen]; omega⟩]
    have h64 := hz.out
    simp [cellsU8, List.getD, List.getElem?_take, hj', List.getElem?_eq_getElem (show j < zs.length by omega)]
  have HB : Hid (Below w.heap.size w (((w.alloc (.cells C.toArray 123)).alloc (.cells #[.int .u8 0, .int .u8 0, .int .u8 0, .int .u8 0, .int .u8 0, .int .u8 0, .int .u8 0, .int .u8 0, .int .u8 0, .int .u8 0, .int .u8 0, .int .u8 0, .int .u8 0, .int .u8 0, .int .u8 0, .int .u8 0, .int .u8 0, .int .u8 0, .int .u8 0, .int .u8 0, .int .u8 0, .int .u8 0, .int .u8 0, .int .u8 0, .int .u8 0, .int .u8 0, .int .u8 0, .int .u8 0, .int .u8 0, .int .u8 0, .int .u8 0, .int .u8 0, .int .u8 0, .int .u8 0, .int .u8 0, .int .u8 0, .int .u8 0, .int .u8 0, .int .u8 0, .int .u8 0, .int .u8 0, .int .u8 0, .int .u8 0, .int .u8 0, .int .u8 0, .int .u8 0, .int .u8 0, .int .u8 0, .int .u8 0, .int .u8 0, .int .u8 0, .int .u8 0, .int .u8 0, .int .u8 0, .int .u8 0, .int .u8 0, .int .u8 0, .int .u8 0, .int .u8 0, .int .u8 0, .int .u8 0, .int .u8 0, .int .u8 0, .int .u8 0] 5)).setCells (w.heap.size + 1) 0 (cellsU8 (zs.take 64)))) := below_setCells _ (by omega) _ _ _ (((Below.refl _ _).alloc (Nat.le_refl _) _).alloc (by simp) _)
  clear hv hlen
  go_enter Tryd.func73, Tryd.ntmps73
  go_wp2
  go_ret
  exact ⟨_, rfl, HO, HB⟩
end Go.Proofs.YtinmhgackihakaaDoor
namespace Go.Proofs.YtinmhgackihakaaDoor
open Go.RowKit
set_option linter.unusedVariables false
set_option linter.unusedSimpArgs false

theorem tkOf_at (h : Int) : (tkOf h)[0]? = some (.int .i64 h) ∧ (tkOf h)[1]? = some .nilFunc ∧ (∀ i, i < 128 → (tkOf h)[10 + i]? = some (.int .u8 0)) ∧ (tkOf h)[138]? = some (.int .u64 0) := by
  refine ⟨rfl, rfl, ?_, rfl⟩
  intro i hi
  have e : (tkOf h)[10 + i]? = (List.replicate 128 (Value.int .u8 0) ++ [.int .u64 0])[i]? := by
    rw [tkOf, tkCells, show 10 + i = ((8 + i) + 1) + 1 by omega, List.getElem?_cons_succ, List.getElem?_cons_succ, List.getElem?_append_right (by simp), List.map_replicate]
    rw [List.length_map, List.length_replicate, show 8 + i - 8 = i by omega]
  rw [e, List.getElem?_append_left (by rw [List.length_replicate]; exact hi), List.getElem?_replicate, if_pos hi]
/-- A taken that is put together: the digest's number, then the function, then the words. -/
theorem tk_put {W V : World} {L : Nat} (h : Int) (wd : Bool) (E : Eight) (hr : W.rangeAt L 0 (tkOf h)) (ht : W.there L 0 139) (hb : ∀ j, V.cell? ⟨L, j, none⟩ = (W.setCell ⟨L, 1, none⟩ (fnV wd)).cell? ⟨L, j, none⟩) (htV : V.there L 0 139) :
    (V.setCells L 2 E.cells).rangeAt L 0 (tkL h wd E (fun _ => 0) 0) := by
  obtain ⟨h0, h1, h2, h3, h4⟩ := tkL_at h wd E (fun _ => 0) 0
  obtain ⟨k0, k1, k3, k4⟩ := tkOf_at h
  have hout : ∀ j, (j < 2 ∨ 10 ≤ j) → (V.setCells L 2 E.cells).cell? ⟨L, j, none⟩ = V.cell? ⟨L, j, none⟩ := fun j hj => World.cell?_setCells_out L E.cells 2 V ⟨L, j, none⟩ (fun _ _ => by rcases hj with hj | hj; exact .inl hj; exact .inr hj)
  have hout1 : ∀ j, j ≠ 1 → (W.setCell ⟨L, 1, none⟩ (fnV wd)).cell? ⟨L, j, none⟩ = W.cell? ⟨L, j, none⟩ := fun j hj => World.cell?_setCells_out L [fnV wd] 1 W ⟨L, j, none⟩ (fun _ _ => by show j < 1 ∨ 1 + 1 ≤ j; omega)
  intro j v hv
  have hj : j < 139 := by
    by_cases hj : j < 139
    · exact hj
    · rw [List.getElem?_eq_none (by rw [tkL_length]; omega)] at hv; cases hv
  rw [Nat.zero_add]
  by_cases j0 : j = 0
  · subst j0; rw [h0] at hv; cases hv; rw [hout 0 (by omega), hb, hout1 0 (by omega)]; exact hr 0 _ k0
  by_cases j1 : j = 1
  · subst j1; rw [h1] at hv; cases hv; rw [hout 1 (by omega), hb]; exact World.cell?_setCell_same' _ _ _ (ht 1 (by omega)).1
  by_cases j2 : j < 10
  · obtain ⟨i, rfl⟩ : ∃ i, j = 2 + i := ⟨j - 2, by omega⟩
    rw [h2 i (by omega)] at hv
    exact World.rangeAt_setCells_same V L 2 E.cells (fun j hj => by have := htV (2 + j) (by have : E.cells.length = 8 := rfl; omega); rw [Nat.zero_add] at this; exact this) i v hv
  by_cases j3 : j < 138
  · obtain ⟨i, rfl⟩ : ∃ i, j = 10 + i := ⟨j - 10, by omega⟩
    rw [h3 i (by omega)] at hv
    cases hv
    rw [hout _ (by omega), hb, hout1 _ (by omega)]
    have := hr (10 + i) _ (k3 i (by omega))
    rw [Nat.zero_add] at this
    exact this
  · obtain rfl : j = 138 := by omega
    rw [h4] at hv; cases hv; rw [hout _ (by omega), hb, hout1 _ (by omega)]; exact hr 138 _ k4

set_option maxHeartbeats 600000 in
set_option maxRecDepth 100000 in
theorem begin_good64 (h : Int) (w : World) (hblk : blockOf h = 64) (hfw : Hid (∀ v, Tables v → Calls Tryd.prog 86 #[.int .i64 h] v fun e w' => e = .returned (.agg (firstE h).cells.toArray) ∧ Below v.heap.size v w')) (hT : Hid (Tables w)) :
    Calls Tryd.prog 70 #[.int .i64 h] w fun e w' => e = .returned (.tuple #[.agg (tkL h false (firstE h) (fun _ => 0) 0).toArray, .int .i64 0]) ∧ Below w.heap.size w w' := by
  have e71 := cells71 h
  have hz : Tryd.zeroCells117.size = 139 := by rw [cells71z]; exact size71z
  have ht : ((w.alloc (.cells Tryd.zeroCells117 117)).alloc (.cells Tryd.zeroCells117 117)).there (w.heap.size + 1) 0 139 := by
    simpa using there_new (w.alloc (.cells Tryd.zeroCells117 117)) Tryd.zeroCells117 117 139 (by rw [hz]; exact Nat.le_refl _)
  have HT : Hid (((w.alloc (.cells Tryd.zeroCells117 117)).alloc (.cells Tryd.zeroCells117 117)).there (w.heap.size + 1) 0 139) := ht
  clear hz ht
  go_enter Tryd.func70, Tryd.ntmps70
  go_wp2_with (first
    | (refine wpList_store_mid (by rfl) 117 (.tmp 4) (.tmp 6) (by rfl) (w.heap.size + 1) 0 (tkOf h).toArray (by rfl) (by rfl) (by rw [size71a]; exact HT.out) (by rw [size71a]; exact size71) (tkOf_one h) ?_)
    | fail)
  refine (block_any h _).mono ?_
  rintro e w1 ⟨rfl, rfl⟩
  rw [hblk]
  have hb2 : Below w.heap.size w (((w.alloc (.cells Tryd.zeroCells117 117)).alloc (.cells Tryd.zeroCells117 117)).setCells (w.heap.size + 1) 0 (tkOf h)) :=
    below_setCells _ (by omega) _ _ _ (((Below.refl _ _).alloc (Nat.le_refl _) _).alloc (by simp) _)
  have ht2 : (((w.alloc (.cells Tryd.zeroCells117 117)).alloc (.cells Tryd.zeroCells117 117)).setCells (w.heap.size + 1) 0 (tkOf h)).there w.heap.size 0 139 :=
    World.there_setCells (World.there_alloc (there_new w Tryd.zeroCells117 117 139 (by rw [cells71z, size71z]; exact Nat.le_refl _)) _) _ _ _
  have ht3 : (((w.alloc (.cells Tryd.zeroCells117 117)).alloc (.cells Tryd.zeroCells117 117)).setCells (w.heap.size + 1) 0 (tkOf h)).there (w.heap.size + 1) 0 139 := World.there_setCells HT.out _ _ _
  have hr2 : (((w.alloc (.cells Tryd.zeroCells117 117)).alloc (.cells Tryd.zeroCells117 117)).setCells (w.heap.size + 1) 0 (tkOf h)).rangeAt (w.heap.size + 1) 0 (tkOf h) := World.rangeAt_setCells_same _ _ _ _ (by rw [tkOf_length]; exact HT.out)
  have hs2 : (((w.alloc (.cells Tryd.zeroCells117 117)).alloc (.cells Tryd.zeroCells117 117)).setCells (w.heap.size + 1) 0 (tkOf h)).heap.size = w.heap.size + 2 := by rw [size_setCells]; simp
  generalize (((w.alloc (.cells Tryd.zeroCells117 117)).alloc (.cells Tryd.zeroCells117 117)).setCells (w.heap.size + 1) 0 (tkOf h)) = W2 at hb2 ht2 ht3 hr2 hs2 ⊢
  have HB2 : Hid (Below w.heap.size w W2 ∧ W2.there w.heap.size 0 139 ∧ W2.there (w.heap.size + 1) 0 139 ∧ W2.rangeAt (w.heap.size + 1) 0 (tkOf h) ∧ W2.heap.size = w.heap.size + 2) := ⟨hb2, ht2, ht3, hr2, hs2⟩
  have c1 : W2.cell? ⟨w.heap.size + 1, 1, none⟩ = some .nilFunc := hr2 1 _ rfl
  have f1 : W2.frozen? ⟨w.heap.size + 1, 1, none⟩ = false := (ht3 1 (by omega)).2
  clear hb2 ht2 ht3 hr2 hs2 HT e71
  go_wp2_with (first
    | (go_at_call 86; refine (hfw.out _ ?_).mono ?_)
    | fail)
  · exact ((hT.out.below HB2.out.1 hT.out.size).kept fun k hk => World.heap_setCells_other W2 (w.heap.size + 1) 1 [_] (by have := hT.out.size; have := HB2.out.2.2.2.2; omega) (by have := hT.out.size; omega))
  rintro e5 w5 ⟨rfl, hb5⟩
  obtain ⟨E, HE⟩ : ∃ E : Eight, Hid (E = firstE h) := ⟨_, rfl⟩
  rw [← HE.out]
  have hsz : (W2.setCell ⟨w.heap.size + 1, 1, none⟩ (fnV false)).heap.size = w.heap.size + 2 := (size_setCells (w.heap.size + 1) [fnV false] 1 W2).trans HB2.out.2.2.2.2
  have hst := fun (b o n : Nat) (ht : W2.there b o n) => World.there_setCells ht (w.heap.size + 1) 1 [fnV false]
  have hb5' : Below (w.heap.size + 2) (W2.setCell ⟨w.heap.size + 1, 1, none⟩ (fnV false)) w5 := by rw [← hsz]; exact hb5
  have hth : ∀ b n, b < w.heap.size + 2 → W2.there b 0 n → w5.there b 0 n := fun b n hb ht j hj => by
    rw [hb5'.cell (p := ⟨b, 0 + j, none⟩) hb, hb5'.frozen (p := ⟨b, 0 + j, none⟩) hb]
    exact hst b 0 n ht j hj
  have HB5 : Hid (Below w.heap.size w w5 ∧ w5.there w.heap.size 0 139 ∧ w5.there (w.heap.size + 1) 0 139) := ⟨(HB2.out.1.setCell (p := ⟨w.heap.size + 1, 1, none⟩) (by simp) _).trans (hb5'.mono (by omega)), hth _ _ (by omega) HB2.out.2.1, hth _ _ (by omega) HB2.out.2.2.1⟩
  have hr5 := tk_put h false E HB2.out.2.2.2.1 HB2.out.2.2.1 (fun j => hb5'.cell (p := ⟨w.heap.size + 1, j, none⟩) (by simp)) HB5.out.2.2
  have HR5 : Hid ((w5.setCells (w.heap.size + 1) 2 E.cells).rangeAt (w.heap.size + 1) 0 (tkL h false E (fun _ => 0) 0)) := hr5
  have HX : Hid (w5.there (w.heap.size + 1) 2 E.cells.toArray.size) := fun j hj => by
    have := HB5.out.2.2 (2 + j) (by have : E.cells.toArray.size = 8 := rfl; omega)
    rw [Nat.zero_add] at this
    exact this
  have HZ : Hid ((Tryd.prog.info? 114).map (·.size) = some E.cells.toArray.size) := size68
  clear hr5 hth hb5' hst hsz hb5 HB2 c1 f1
  go_upto_region 9 with (first
    | (refine wpList_store_mid (by rfl) 114 (.tmp 18) (.tmp 17) (by rfl) (w.heap.size + 1) 2 E.cells.toArray (by rfl) (by rfl) HX.out HZ.out (cellsE_one E) ?_)
    | fail)
  have HB6 : Hid (Below w.heap.size w (w5.setCells (w.heap.size + 1) 2 E.cells) ∧ (w5.setCells (w.heap.size + 1) 2 E.cells).there w.heap.size 0 139) := ⟨below_setCells _ (by omega) _ _ _ HB5.out.1, World.there_setCells HB5.out.2.1 _ _ _⟩
  generalize w5.setCells (w.heap.size + 1) 2 E.cells = w6 at HR5 HB6 ⊢
  obtain ⟨T, HTT⟩ : ∃ T : List Value, Hid (T = tkL h false E (fun _ => 0) 0) := ⟨_, rfl⟩
  rw [← HTT.out] at HR5
  have HLA : Hid (T.toArray.size = 139) := by show _ = _; rw [HTT.out]; exact tkArr_size _ _ _ _ _
  have HL : Hid (T.length = 139) := by rw [HTT.out]; exact tkL_length _ _ _ _ _
  have HY : Hid (w6.there w.heap.size 0 T.toArray.size) := by rw [HLA.out]; exact HB6.out.2
  have HZ6 : Hid ((Tryd.prog.info? 117).map (·.size) = some T.toArray.size) := by rw [HLA.out]; exact size71
  have HO : Hid (T.toArray.all (·.oneCell') = true) := by rw [HTT.out]; exact tkL_one _ _ _ _ _
  clear HB5
  go_wp2_with (first
    | (refine wpList_load_mid (by rfl) 117 (.tmp 4) (by rfl) (w.heap.size + 1) 0 (by rfl) T _ HR5.out Tryd.underlying117 rfl (by rw [HL.out]; exact size71) ?_)
    | (refine wpList_store_mid (by rfl) 117 (.tmp 2) (.tmp 19) (by rfl) w.heap.size 0 T.toArray (by rfl) (by rfl) HY.out HZ6.out HO.out ?_)
    | fail)
  have hl := run_loadVar_mid (P := Tryd.prog) (w6.setCells w.heap.size 0 T) w.heap.size 0 117 T _ (World.rangeAt_setCells_same w6 w.heap.size 0 T (by rw [HL.out]; exact HB6.out.2)) Tryd.underlying117 rfl (by rw [HL.out]; exact size71)
  refine bodyPost_ret (v := .tuple #[.agg T.toArray, .int .i64 0]) ?_ rfl ⟨by rw [HTT.out, HE.out], below_setCells _ (Nat.le_refl _) _ _ _ HB6.out.1⟩
  rw [results_cell_tmp Tryd.results70]
  simp [asAddr, hl]

set_option maxHeartbeats 600000 in
set_option maxRecDepth 100000 in
theorem begin_good128 (h : Int) (w : World) (hblk : blockOf h = 128) (hfw : Hid (∀ v, Tables v → Calls Tryd.prog 86 #[.int .i64 h] v fun e w' => e = .returned (.agg (firstE h).cells.toArray) ∧ Below v.heap.size v w')) (hT : Hid (Tables w)) :
    Calls Tryd.prog 70 #[.int .i64 h] w fun e w' => e = .returned (.tuple #[.agg (tkL h true (firstE h) (fun _ => 0) 0).toArray, .int .i64 0]) ∧ Below w.heap.size w w' := by
  have e71 := cells71 h
  have hz : Tryd.zeroCells117.size = 139 := by rw [cells71z]; exact size71z
  have ht : ((w.alloc (.cells Tryd.zeroCells117 117)).alloc (.cells Tryd.zeroCells117 117)).there (w.heap.size + 1) 0 139 := by
    simpa using there_new (w.alloc (.cells Tryd.zeroCells117 117)) Tryd.zeroCells117 117 139 (by rw [hz]; exact Nat.le_refl _)
  have HT : Hid (((w.alloc (.cells Tryd.zeroCells117 117)).alloc (.cells Tryd.zeroCells117 117)).there (w.heap.size + 1) 0 139) := ht
  clear hz ht
  go_enter Tryd.func70, Tryd.ntmps70
  go_wp2_with (first
    | (refine wpList_store_mid (by rfl) 117 (.tmp 4) (.tmp 6) (by rfl) (w.heap.size + 1) 0 (tkOf h).toArray (by rfl) (by rfl) (by rw [size71a]; exact HT.out) (by rw [size71a]; exact size71) (tkOf_one h) ?_)
    | fail)
  refine (block_any h _).mono ?_
  rintro e w1 ⟨rfl, rfl⟩
  rw [hblk]
  have hb2 : Below w.heap.size w (((w.alloc (.cells Tryd.zeroCells117 117)).alloc (.cells Tryd.zeroCells117 117)).setCells (w.heap.size + 1) 0 (tkOf h)) :=
    below_setCells _ (by omega) _ _ _ (((Below.refl _ _).alloc (Nat.le_refl _) _).alloc (by simp) _)
  have ht2 : (((w.alloc (.cells Tryd.zeroCells117 117)).alloc (.cells Tryd.zeroCells117 117)).setCells (w.heap.size + 1) 0 (tkOf h)).there w.heap.size 0 139 :=
    World.there_setCells (World.there_alloc (there_new w Tryd.zeroCells117 117 139 (by rw [cells71z, size71z]; exact Nat.le_refl _)) _) _ _ _
  have ht3 : (((w.alloc (.cells Tryd.zeroCells117 117)).alloc (.cells Tryd.zeroCells117 117)).setCells (w.heap.size + 1) 0 (tkOf h)).there (w.heap.size + 1) 0 139 := World.there_setCells HT.out _ _ _
  have hr2 : (((w.alloc (.cells Tryd.zeroCells117 117)).alloc (.cells Tryd.zeroCells117 117)).setCells (w.heap.size + 1) 0 (tkOf h)).rangeAt (w.heap.size + 1) 0 (tkOf h) := World.rangeAt_setCells_same _ _ _ _ (by rw [tkOf_length]; exact HT.out)
  have hs2 : (((w.alloc (.cells Tryd.zeroCells117 117)).alloc (.cells Tryd.zeroCells117 117)).setCells (w.heap.size + 1) 0 (tkOf h)).heap.size = w.heap.size + 2 := by rw [size_setCells]; simp
  generalize (((w.alloc (.cells Tryd.zeroCells117 117)).alloc (.cells Tryd.zeroCells117 117)).setCells (w.heap.size + 1) 0 (tkOf h)) = W2 at hb2 ht2 ht3 hr2 hs2 ⊢
  have HB2 : Hid (Below w.heap.size w W2 ∧ W2.there w.heap.size 0 139 ∧ W2.there (w.heap.size + 1) 0 139 ∧ W2.rangeAt (w.heap.size + 1) 0 (tkOf h) ∧ W2.heap.size = w.heap.size + 2) := ⟨hb2, ht2, ht3, hr2, hs2⟩
  have c1 : W2.cell? ⟨w.heap.size + 1, 1, none⟩ = some .nilFunc := hr2 1 _ rfl
  have f1 : W2.frozen? ⟨w.heap.size + 1, 1, none⟩ = false := (ht3 1 (by omega)).2
  clear hb2 ht2 ht3 hr2 hs2 HT e71
  go_wp2_with (first
    | (go_at_call 86; refine (hfw.out _ ?_).mono ?_)
    | fail)
  · exact ((hT.out.below HB2.out.1 hT.out.size).kept fun k hk => World.heap_setCells_other W2 (w.heap.size + 1) 1 [_] (by have := hT.out.size; have := HB2.out.2.2.2.2; omega) (by have := hT.out.size; omega))
  rintro e5 w5 ⟨rfl, hb5⟩
  obtain ⟨E, HE⟩ : ∃ E : Eight, Hid (E = firstE h) := ⟨_, rfl⟩
  rw [← HE.out]
  have hsz : (W2.setCell ⟨w.heap.size + 1, 1, none⟩ (fnV true)).heap.size = w.heap.size + 2 := (size_setCells (w.heap.size + 1) [fnV true] 1 W2).trans HB2.out.2.2.2.2
  have hst := fun (b o n : Nat) (ht : W2.there b o n) => World.there_setCells ht (w.heap.size + 1) 1 [fnV true]
  have hb5' : Below (w.heap.size + 2) (W2.setCell ⟨w.heap.size + 1, 1, none⟩ (fnV true)) w5 := by rw [← hsz]; exact hb5
  have hth : ∀ b n, b < w.heap.size + 2 → W2.there b 0 n → w5.there b 0 n := fun b n hb ht j hj => by
    rw [hb5'.cell (p := ⟨b, 0 + j, none⟩) hb, hb5'.frozen (p := ⟨b, 0 + j, none⟩) hb]
    exact hst b 0 n ht j hj
  have HB5 : Hid (Below w.heap.size w w5 ∧ w5.there w.heap.size 0 139 ∧ w5.there (w.heap.size + 1) 0 139) := ⟨(HB2.out.1.setCell (p := ⟨w.heap.size + 1, 1, none⟩) (by simp) _).trans (hb5'.mono (by omega)), hth _ _ (by omega) HB2.out.2.1, hth _ _ (by omega) HB2.out.2.2.1⟩
  have hr5 := tk_put h true E HB2.out.2.2.2.1 HB2.out.2.2.1 (fun j => hb5'.cell (p := ⟨w.heap.size + 1, j, none⟩) (by simp)) HB5.out.2.2
  have HR5 : Hid ((w5.setCells (w.heap.size + 1) 2 E.cells).rangeAt (w.heap.size + 1) 0 (tkL h true E (fun _ => 0) 0)) := hr5
  have HX : Hid (w5.there (w.heap.size + 1) 2 E.cells.toArray.size) := fun j hj => by
    have := HB5.out.2.2 (2 + j) (by have : E.cells.toArray.size = 8 := rfl; omega)
    rw [Nat.zero_add] at this
    exact this
  have HZ : Hid ((Tryd.prog.info? 114).map (·.size) = some E.cells.toArray.size) := size68
  clear hr5 hth hb5' hst hsz hb5 HB2 c1 f1
  go_upto_region 9 with (first
    | (refine wpList_store_mid (by rfl) 114 (.tmp 18) (.tmp 17) (by rfl) (w.heap.size + 1) 2 E.cells.toArray (by rfl) (by rfl) HX.out HZ.out (cellsE_one E) ?_)
    | fail)
  have HB6 : Hid (Below w.heap.size w (w5.setCells (w.heap.size + 1) 2 E.cells) ∧ (w5.setCells (w.heap.size + 1) 2 E.cells).there w.heap.size 0 139) := ⟨below_setCells _ (by omega) _ _ _ HB5.out.1, World.there_setCells HB5.out.2.1 _ _ _⟩
  generalize w5.setCells (w.heap.size + 1) 2 E.cells = w6 at HR5 HB6 ⊢
  obtain ⟨T, HTT⟩ : ∃ T : List Value, Hid (T = tkL h true E (fun _ => 0) 0) := ⟨_, rfl⟩
  rw [← HTT.out] at HR5
  have HLA : Hid (T.toArray.size = 139) := by show _ = _; rw [HTT.out]; exact tkArr_size _ _ _ _ _
  have HL : Hid (T.length = 139) := by rw [HTT.out]; exact tkL_length _ _ _ _ _
  have HY : Hid (w6.there w.heap.size 0 T.toArray.size) := by rw [HLA.out]; exact HB6.out.2
  have HZ6 : Hid ((Tryd.prog.info? 117).map (·.size) = some T.toArray.size) := by rw [HLA.out]; exact size71
  have HO : Hid (T.toArray.all (·.oneCell') = true) := by rw [HTT.out]; exact tkL_one _ _ _ _ _
  clear HB5
  go_wp2_with (first
    | (refine wpList_load_mid (by rfl) 117 (.tmp 4) (by rfl) (w.heap.size + 1) 0 (by rfl) T _ HR5.out Tryd.underlying117 rfl (by rw [HL.out]; exact size71) ?_)
    | (refine wpList_store_mid (by rfl) 117 (.tmp 2) (.tmp 19) (by rfl) w.heap.size 0 T.toArray (by rfl) (by rfl) HY.out HZ6.out HO.out ?_)
    | fail)
  have hl := run_loadVar_mid (P := Tryd.prog) (w6.setCells w.heap.size 0 T) w.heap.size 0 117 T _ (World.rangeAt_setCells_same w6 w.heap.size 0 T (by rw [HL.out]; exact HB6.out.2)) Tryd.underlying117 rfl (by rw [HL.out]; exact size71)
  refine bodyPost_ret (v := .tuple #[.agg T.toArray, .int .i64 0]) ?_ rfl ⟨by rw [HTT.out, HE.out], below_setCells _ (Nat.le_refl _) _ _ _ HB6.out.1⟩
  rw [results_cell_tmp Tryd.results70]
  simp [asAddr, hl]
end Go.Proofs.YtinmhgackihakaaDoor
namespace Go.Proofs.YtinmhgackihakaaDoor
open Go.RowKit
set_option linter.unusedVariables false
set_option linter.unusedSimpArgs false

theorem TK.below {w v : World} {g o : Nat} {h : Int} {wd : Bool} {s : Eight} {half : Nat → Int} {fed : Nat} (k : TK w g o h wd s half fed) (b : Below w.heap.size w v) : TK v g o h wd s half fed := by
  have hg : g < w.heap.size := lt_of_cell k.hash
  exact ⟨by rw [b.cell hg]; exact k.hash, by rw [b.cell (p := ⟨g, o + 1, none⟩) hg]; exact k.fn, range_below k.st b hg, fun i hi => by rw [b.cell (p := ⟨g, o + 10 + i, none⟩) hg]; exact k.half i hi, by rw [b.cell (p := ⟨g, o + 138, none⟩) hg]; exact k.fed, fun j hj => by rw [b.cell (p := ⟨g, o + j, none⟩) hg, b.frozen (p := ⟨g, o + j, none⟩) hg]; exact k.there j hj⟩
theorem TK.setByte {w : World} {g o : Nat} {h : Int} {wd : Bool} {s : Eight} {half : Nat → Int} {fed : Nat} (k : TK w g o h wd s half fed) (u : Nat) (x : Int) (hu : u < 128) :
    TK (w.setCell ⟨g, o + 10 + u, none⟩ (.int .u8 x)) g o h wd s (fun i => if i = u then x else half i) fed ∧ Touch w (w.setCell ⟨g, o + 10 + u, none⟩ (.int .u8 x)) g o 139 := by
  have hx := k.setHalf u [x] (by simp; omega)
  refine ⟨?_, hx.2⟩
  have e : (fun i => if u ≤ i ∧ i < u + [x].length then [x].getD (i - u) 0 else half i) = fun i => if i = u then x else half i := by
    funext i
    by_cases hi : i = u
    · subst hi; simp
    · rw [if_neg (by simp; omega), if_neg hi]
  rw [e] at hx
  exact hx.1
theorem TK.clear {w : World} {g o : Nat} {h : Int} {wd : Bool} {s : Eight} {half : Nat → Int} {fed : Nat} (k : TK w g o h wd s half fed) (u n : Nat) (hu : u + n ≤ 128) :
    TK (w.setCells g (o + 10 + u) (List.replicate n (.int .u8 0))) g o h wd s (fun i => if u ≤ i ∧ i < u + n then 0 else half i) fed ∧ Touch w (w.setCells g (o + 10 + u) (List.replicate n (.int .u8 0))) g o 139 := by
  have hx := k.setHalf u (List.replicate n 0) (by simp; omega)
  have e1 : cellsU8 (List.replicate n 0) = List.replicate n (.int .u8 0) := by simp [cellsU8]
  rw [e1] at hx
  refine ⟨?_, hx.2⟩
  have e : (fun i => if u ≤ i ∧ i < u + (List.replicate n (0 : Int)).length then (List.replicate n (0 : Int)).getD (i - u) 0 else half i) = fun i => if u ≤ i ∧ i < u + n then 0 else half i := by
    funext i
    by_cases hi : u ≤ i ∧ i < u + n
    · rw [if_pos (by simpa using hi), if_pos hi]
      simp only [List.getD, List.getElem?_replicate]
      split <;> rfl
    · rw [if_neg (by simpa using hi), if_neg hi]
  rw [e] at hx
  exact hx.1
theorem TK.fun_eq {w : World} {g o : Nat} {h : Int} {wd : Bool} {s : Eight} {half half' : Nat → Int} {fed : Nat} (k : TK w g o h wd s half fed) (e : ∀ i, i < 128 → half i = half' i) : TK w g o h wd s half' fed :=
  ⟨k.hash, k.fn, k.st, fun i hi => by rw [← e i hi]; exact k.half i hi, k.fed, k.there⟩
theorem TK.newer {w : World} {g o : Nat} {h : Int} {wd : Bool} {s : Eight} {half : Nat → Int} {fed b : Nat} (k : TK w g o h wd s half fed) (hb : g ≠ b) (vs : List Value) (o' : Nat) : TK (w.setCells b o' vs) g o h wd s half fed := by
  have ho : ∀ p : Addr, p.block = g → (w.setCells b o' vs).cell? p = w.cell? p := fun p hp => World.cell?_setCells_out b vs o' w p (fun e _ => absurd (hp.symm.trans e) hb)
  exact ⟨by rw [ho _ rfl]; exact k.hash, by rw [ho _ rfl]; exact k.fn, fun j v hv => by rw [ho _ rfl]; exact k.st j v hv, fun i hi => by rw [ho _ rfl]; exact k.half i hi, by rw [ho _ rfl]; exact k.fed, World.there_setCells k.there b o' vs⟩
theorem touch_new {w v : World} {g o n : Nat} (h : Touch w v g o n) {b : Nat} (hb : w.heap.size ≤ b) (vs : List Value) (o' : Nat) (hg : g < w.heap.size) : Touch w (v.setCells b o' vs) g o n :=
  ⟨by rw [setCells_os]; exact h.os, by rw [setCells_tape]; exact h.tape, by rw [setCells_output]; exact h.output, by rw [size_setCells]; exact h.size,
    fun k hk hne => by rw [World.heap_setCells_other v b o' vs (by have := h.size; omega) (by omega)]; exact h.block k hk hne,
    fun j hj => by rw [World.cell?_setCells_out b vs o' v ⟨g, j, none⟩ (fun e _ => absurd e (by simp; omega))]; exact h.cell j hj,
    fun o2 n2 ht => World.there_setCells (h.there o2 n2 ht) b o' vs⟩
theorem zero5 (w : World) : (zeroValue 5).run Tryd.prog w = .ok (.int .u8 0) w := by kernel_rfl
theorem clear_eq (w : World) (ty : TypeId) (g o n c : Nat) (ht : w.there g o n) : (Builtin.clear_ #[23] ty #[.slice (some ⟨g, o, none⟩) n c]).run Tryd.prog w = .ok (.tuple #[]) (w.setCells g o (List.replicate n (.int .u8 0))) := by
  by_cases hn : n = 0
  · subst hn
    simp [Builtin.clear_, World.setCells, run_underlying Tryd.underlying23]
  · exact Go.Lib.run_clear_slice w 23 5 ty (.int .u8 0) Tryd.underlying23 (fun w => zero5 w) rfl rfl g o n c (by omega) (fun j hj => (ht j hj).1) (fun j hj => (ht j hj).2)
/-- How many blocks the bytes that are left and the padding make. -/
def padN (bs fed : Nat) : Nat := if fed % bs + 1 ≤ bs - bs / 8 then 1 else 2
def padF (bs : Nat) (half : Nat → Int) (fed : Nat) (i : Nat) : Int :=
  if i < fed % bs then half i else if i = fed % bs then 128 else if i + 8 < padN bs fed * bs then 0 else ((fed : Int) * 8) / 2 ^ (8 * (padN bs fed * bs - 1 - i)) % 256
end Go.Proofs.YtinmhgackihakaaDoor
namespace Go.Proofs.YtinmhgackihakaaDoor
open Go.RowKit
set_option linter.unusedVariables false
set_option linter.unusedSimpArgs false

set_option maxHeartbeats 3200000 in
set_option maxRecDepth 100000 in
theorem finish64_A (g o : Nat) (h : Int) (s : Eight) (half : Nat → Int) (fed used u1 : Nat) (w : World) (hblk : blockOf h = 64) (HK : Hid (TK w g o h false s half fed)) (hfed : fed ≤ 1152921504606846976) (hT : Hid (Tables w)) (hg : 2 ≤ g) (h0 : Hid (fed % 64 = used)) (hu1 : Hid (u1 = used + 1)) (hu : u1 ≤ 56) :
    Calls Tryd.prog 72 #[.pointer (some ⟨g, o, none⟩)] w fun e w' => e = .returned (.agg (spellCells 4 (TT false (padF 64 half fed) s (padN 64 fed))).toArray) ∧ Touch w w' g o 139 ∧ ∃ half', TK w' g o h false (TT false (padF 64 half fed) s (padN 64 fed)) half' fed := by
  have c0 := HK.out.hash
  have c138 := HK.out.fed
  have hgw : g < w.heap.size := lt_of_cell c0
  have e1 : (used : Int) + 1 = (u1 : Int) := by have := hu1.out; omega
  have hu' : (u1 : Int) ≤ 64 := by omega
  have hu'' : (0 : Int) ≤ (u1 : Int) := by omega
  have hul : used < u1 := by have := hu1.out; omega
  have hlim : (u1 : Int) ≤ 56 := by omega
  have r0 : ((fed : Int) % 64) = (used : Int) := by have := h0.out; omega
  go_enter Tryd.func72, Tryd.ntmps72
  go_upto_region 3 with (first | (go_at_call 83; refine (block_any _ _).mono ?_; rintro e1 w1 ⟨rfl, hw1⟩; obtain rfl := hw1.symm; rw [hblk]))
  have HB0 : Hid (Below w.heap.size w (w.alloc (.cells #[.int .u8 0, .int .u8 0, .int .u8 0, .int .u8 0, .int .u8 0, .int .u8 0, .int .u8 0, .int .u8 0, .int .u8 0, .int .u8 0, .int .u8 0, .int .u8 0, .int .u8 0, .int .u8 0, .int .u8 0, .int .u8 0, .int .u8 0, .int .u8 0, .int .u8 0, .int .u8 0, .int .u8 0, .int .u8 0, .int .u8 0, .int .u8 0, .int .u8 0, .int .u8 0, .int .u8 0, .int .u8 0, .int .u8 0, .int .u8 0, .int .u8 0, .int .u8 0, .int .u8 0, .int .u8 0, .int .u8 0, .int .u8 0, .int .u8 0, .int .u8 0, .int .u8 0, .int .u8 0, .int .u8 0, .int .u8 0, .int .u8 0, .int .u8 0, .int .u8 0, .int .u8 0, .int .u8 0, .int .u8 0, .int .u8 0, .int .u8 0, .int .u8 0, .int .u8 0, .int .u8 0, .int .u8 0, .int .u8 0, .int .u8 0, .int .u8 0, .int .u8 0, .int .u8 0, .int .u8 0, .int .u8 0, .int .u8 0, .int .u8 0, .int .u8 0] 123)) ∧ (w.alloc (.cells #[.int .u8 0, .int .u8 0, .int .u8 0, .int .u8 0, .int .u8 0, .int .u8 0, .int .u8 0, .int .u8 0, .int .u8 0, .int .u8 0, .int .u8 0, .int .u8 0, .int .u8 0, .int .u8 0, .int .u8 0, .int .u8 0, .int .u8 0, .int .u8 0, .int .u8 0, .int .u8 0, .int .u8 0, .int .u8 0, .int .u8 0, .int .u8 0, .int .u8 0, .int .u8 0, .int .u8 0, .int .u8 0, .int .u8 0, .int .u8 0, .int .u8 0, .int .u8 0, .int .u8 0, .int .u8 0, .int .u8 0, .int .u8 0, .int .u8 0, .int .u8 0, .int .u8 0, .int .u8 0, .int .u8 0, .int .u8 0, .int .u8 0, .int .u8 0, .int .u8 0, .int .u8 0, .int .u8 0, .int .u8 0, .int .u8 0, .int .u8 0, .int .u8 0, .int .u8 0, .int .u8 0, .int .u8 0, .int .u8 0, .int .u8 0, .int .u8 0, .int .u8 0, .int .u8 0, .int .u8 0, .int .u8 0, .int .u8 0, .int .u8 0, .int .u8 0] 123)).there w.heap.size 0 64 ∧ w.heap.size < (w.alloc (.cells #[.int .u8 0, .int .u8 0, .int .u8 0, .int .u8 0, .int .u8 0, .int .u8 0, .int .u8 0, .int .u8 0, .int .u8 0, .int .u8 0, .int .u8 0, .int .u8 0, .int .u8 0, .int .u8 0, .int .u8 0, .int .u8 0, .int .u8 0, .int .u8 0, .int .u8 0, .int .u8 0, .int .u8 0, .int .u8 0, .int .u8 0, .int .u8 0, .int .u8 0, .int .u8 0, .int .u8 0, .int .u8 0, .int .u8 0, .int .u8 0, .int .u8 0, .int .u8 0, .int .u8 0, .int .u8 0, .int .u8 0, .int .u8 0, .int .u8 0, .int .u8 0, .int .u8 0, .int .u8 0, .int .u8 0, .int .u8 0, .int .u8 0, .int .u8 0, .int .u8 0, .int .u8 0, .int .u8 0, .int .u8 0, .int .u8 0, .int .u8 0, .int .u8 0, .int .u8 0, .int .u8 0, .int .u8 0, .int .u8 0, .int .u8 0, .int .u8 0, .int .u8 0, .int .u8 0, .int .u8 0, .int .u8 0, .int .u8 0, .int .u8 0, .int .u8 0] 123)).heap.size) := ⟨(Below.refl _ _).alloc (Nat.le_refl _) _, there_new w _ 123 64 (by decide), by simp⟩
  generalize w.alloc (.cells #[.int .u8 0, .int .u8 0, .int .u8 0, .int .u8 0, .int .u8 0, .int .u8 0, .int .u8 0, .int .u8 0, .int .u8 0, .int .u8 0, .int .u8 0, .int .u8 0, .int .u8 0, .int .u8 0, .int .u8 0, .int .u8 0, .int .u8 0, .int .u8 0, .int .u8 0, .int .u8 0, .int .u8 0, .int .u8 0, .int .u8 0, .int .u8 0, .int .u8 0, .int .u8 0, .int .u8 0, .int .u8 0, .int .u8 0, .int .u8 0, .int .u8 0, .int .u8 0, .int .u8 0, .int .u8 0, .int .u8 0, .int .u8 0, .int .u8 0, .int .u8 0, .int .u8 0, .int .u8 0, .int .u8 0, .int .u8 0, .int .u8 0, .int .u8 0, .int .u8 0, .int .u8 0, .int .u8 0, .int .u8 0, .int .u8 0, .int .u8 0, .int .u8 0, .int .u8 0, .int .u8 0, .int .u8 0, .int .u8 0, .int .u8 0, .int .u8 0, .int .u8 0, .int .u8 0, .int .u8 0, .int .u8 0, .int .u8 0, .int .u8 0, .int .u8 0] 123) = w0 at HB0 ⊢
  have HK0 : Hid (TK w0 g o h false s half fed) := HK.out.below HB0.out.1
  have fu : w0.cell? ⟨g, o + 10 + used, none⟩ = some (.int .u8 (half used)) := HK0.out.half used (by omega)
  have ff : w0.frozen? ⟨g, o + 10 + used, none⟩ = false := by
    have := (HK0.out.there (10 + used) (by omega)).2
    rw [← Nat.add_assoc] at this
    exact this
  have hx1 := HK0.out.setByte used 128 (by omega)
  have hcl : ∀ ty, (Builtin.clear_ #[23] ty #[.slice (some ⟨g, o + 10 + u1, none⟩) (64 - u1) (128 - u1)]).run Tryd.prog (w0.setCell ⟨g, o + 10 + used, none⟩ (.int .u8 128)) = .ok (.tuple #[]) ((w0.setCell ⟨g, o + 10 + used, none⟩ (.int .u8 128)).setCells g (o + 10 + u1) (List.replicate (64 - u1) (.int .u8 0))) := fun ty => clear_eq _ ty g _ _ _ (fun j hj => by
    have := hx1.1.there (10 + u1 + j) (by omega)
    rw [← Nat.add_assoc, ← Nat.add_assoc] at this
    exact this)
  have hx2 := hx1.1.clear u1 (64 - u1) (by omega)
  have HT1 : Hid (Touch w ((w0.setCell ⟨g, o + 10 + used, none⟩ (.int .u8 128)).setCells g (o + 10 + u1) (List.replicate (64 - u1) (.int .u8 0))) g o 139) := (((Touch.refl w g o 139).below HB0.out.1 hgw).trans hx1.2).trans hx2.2
  have HK1 : Hid (TK ((w0.setCell ⟨g, o + 10 + used, none⟩ (.int .u8 128)).setCells g (o + 10 + u1) (List.replicate (64 - u1) (.int .u8 0))) g o h false s (fun i => if u1 ≤ i ∧ i < u1 + (64 - u1) then 0 else (fun i => if i = used then 128 else half i) i) fed) := hx2.1
  have HR1 : Hid (((w0.setCell ⟨g, o + 10 + used, none⟩ (.int .u8 128)).setCells g (o + 10 + u1) (List.replicate (64 - u1) (.int .u8 0))).there w.heap.size 0 64 ∧ w.heap.size < ((w0.setCell ⟨g, o + 10 + used, none⟩ (.int .u8 128)).setCells g (o + 10 + u1) (List.replicate (64 - u1) (.int .u8 0))).heap.size) := ⟨World.there_setCells (World.there_setCells HB0.out.2.1 g _ [_]) g _ _, by rw [size_setCells]; simpa [World.setCell] using HB0.out.2.2⟩
  clear hx1 hx2
  go_upto_region 8 with fail
  rw [show decide ((56 : Int) < (u1 : Int)) = false by simp; omega]
  generalize (w0.setCell ⟨g, o + 10 + used, none⟩ (.int .u8 128)).setCells g (o + 10 + u1) (List.replicate (64 - u1) (.int .u8 0)) = w2 at HT1 HK1 HR1 hcl ⊢
  have c138' : w2.cell? ⟨g, o + 138, none⟩ = some (.int .u64 fed) := HK1.out.fed
  obtain ⟨H1, HH1⟩ : ∃ H1 : Nat → Int, Hid ((fun i => if u1 ≤ i ∧ i < u1 + (64 - u1) then (0 : Int) else (fun i => if i = used then 128 else half i) i) = H1) := ⟨_, (show _ = _ from rfl)⟩
  rw [HH1.out] at HK1
  obtain ⟨P, HPP⟩ : ∃ P : Nat → Int, Hid (P = padF 64 half fed) := ⟨_, (show _ = _ from rfl)⟩
  obtain ⟨s1, HS1⟩ : ∃ s1 : Eight, Hid (s1 = s) := ⟨_, (show _ = _ from rfl)⟩
  rw [← HS1.out] at HK1
  have hpn : padN 64 fed = 1 := by rw [padN, if_pos (by have := h0.out; have := hu1.out; omega)]
  have HP1 : Hid (∀ k, k < 64 - 8 → H1 k = P k) := by
    intro k hk
    have hu := hu1.out
    have h00 := h0.out
    rw [← HH1.out, HPP.out]
    simp only [padF, hpn, h00]
    by_cases k2 : u1 ≤ k
    · rw [if_pos ⟨k2, by omega⟩, if_neg (by omega), if_neg (by omega), if_pos (by omega)]
    · rw [if_neg (by omega)]
      by_cases k3 : k = used
      · rw [if_pos k3, if_neg (by omega), if_pos k3]
      · rw [if_neg k3, if_pos (by omega)]
  have HPL : Hid (∀ k, 64 - 8 ≤ k → k < 64 → P k = ((fed : Int) * 8) / 2 ^ (8 * (64 - 1 - k)) % 256) := by
    intro k k1 hk
    have hu := hu1.out
    have h00 := h0.out
    rw [HPP.out]
    simp only [padF, hpn, h00]
    rw [if_neg (by omega), if_neg (by omega), if_neg (by omega)]
  have HE : Hid (TT false P s1 1 = TT false (padF 64 half fed) s (padN 64 fed)) := by show _ = _; rw [HPP.out, HS1.out, hpn]
  clear hcl fu ff HK0 HB0 c0 c138 hpn HH1 HPP HS1
  go_wp2
  clear c138'
  go_loopw [62] (fun v wr => ∃ i : Nat, i ≤ 8 ∧ v = .int .i64 i ∧ Hid (Touch w wr g o 139) ∧ Hid (TK wr g o h false s1 (fun k => if 64 - i ≤ k ∧ k < 64 then ((fed : Int) * 8) / 2 ^ (8 * (64 - 1 - k)) % 256 else H1 k) fed) ∧ Hid (wr.there w.heap.size 0 64 ∧ w.heap.size < wr.heap.size)) (fun v _ => 8 - (intOf v).toNat)
  case atStart => exact ⟨0, by omega, rfl, HT1, HK1.out.fun_eq (fun i hi => by rw [if_neg (by omega)]), HR1⟩
  case round =>
    obtain ⟨i, hi, rfl, HT2, HK2, HR2⟩ := hrel
    clear HT1 HK1 HR1
    by_cases h8 : i < 8
    · obtain ⟨j, hj⟩ : ∃ j, j = 64 - 1 - i := ⟨_, rfl⟩
      have e2 : (63 : Int) - (i : Int) = (j : Int) := by omega
      have e3 : (8 * (i : Int)).toNat = 8 * i := by omega
      have e4 : min (8 * i) 64 = 8 * i := by omega
      have e5 : (0 : Int) ≤ 8 * (i : Int) := by omega
      have e6 : (j : Int) < 128 := by omega
      have HJ : Hid (j = 64 - 1 - i) := hj
      have fc := HK2.out.half j (by omega)
      have ff : wr.frozen? ⟨g, o + 10 + j, none⟩ = false := by
        have := (HK2.out.there (10 + j) (by omega)).2
        rw [← Nat.add_assoc] at this
        exact this
      clear hj
      go_wp2
      go_region
      go_wp2
      go_roundw
      case rel =>
        have hx := HK2.out.setByte j ((fed : Int) * 8 / 2 ^ (8 * i) % 256) (by omega)
        refine ⟨i + 1, by omega, by go_num, (HT2.out.trans hx.2).drew, (hx.1.sm (Sm.refl _).drew).fun_eq (fun k hk => ?_), ⟨World.there_setCells HR2.out.1 g _ [_], by simpa [World.setCell] using HR2.out.2⟩⟩
        have hj := HJ.out
        by_cases hkj : k = j
        · subst hkj
          rw [if_pos rfl, if_pos (by omega), show 64 - 1 - k = i by omega]
        · rw [if_neg hkj]
          by_cases hc : 64 - i ≤ k ∧ k < 64
          · rw [if_pos hc, if_pos (by omega)]
          · rw [if_neg hc, if_neg (by omega)]
      case measure => simp [intOf]; omega
    · obtain rfl : i = 8 := by omega
      have c1' : wr.cell? ⟨g, o + 1, none⟩ = some (.func (.func 84) #[] #[]) := HK2.out.fn
      obtain ⟨H2, HH2⟩ : ∃ H2 : Nat → Int, Hid ((fun k => if 64 - 8 ≤ k ∧ k < 64 then ((fed : Int) * 8) / 2 ^ (8 * (64 - 1 - k)) % 256 else H1 k) = H2) := ⟨_, (show _ = _ from rfl)⟩
      rw [HH2.out] at HK2
      have HP : Hid (∀ k, k < 64 → H2 k = P k) := by
        intro k hk
        rw [← HH2.out]
        dsimp only
        by_cases k1 : 64 - 8 ≤ k
        · rw [if_pos ⟨k1, hk⟩, HPL.out k k1 hk]
        · rw [if_neg (by omega), HP1.out k (by omega)]
      obtain ⟨s', HS'⟩ : ∃ s' : Eight, Hid (s' = TT false (padF 64 half fed) s (padN 64 fed)) := ⟨_, (show _ = _ from rfl)⟩
      have HA : Hid (∀ v, Sm wr v → Calls Tryd.prog 84 #[.pointer (some ⟨g, o + 2, none⟩), .slice (some ⟨g, o + 10, none⟩) 64 128] v fun e w' => e = .returned (.tuple #[]) ∧ Touch wr w' g o 139 ∧ TK w' g o h false s' H2 fed) := by
        intro v hsm
        have hs1 := HT2.out.size
        have hk' := HK2.out.sm hsm
        refine (take_any false g (o + 2) _ ((List.range 64).map H2) s1 v (by rw [hsm.heap]; omega) hk'.st (fun j hj => by have := hk'.there (2 + j) (by omega); rw [← Nat.add_assoc] at this; exact this) (view_half hk' 64 (by omega)) (fun _ _ _ _ e => by injection e with e1 e2 e3; injection e1 with e1; injection e1 with e4 e5; omega) (hsm.tables (hT.out.touch HT2.out hg)) hg).mono ?_
        rintro e w' ⟨rfl, ht', hr'⟩
        rw [show ((List.range 64).map H2).length / bsz false = 1 by simp [bsz], TT_congr false (B' := P) s1 1 (fun j hj => by simp [bsz] at hj; simp [List.getD, hj]; exact HP.out j (by omega)), HE.out, ← HS'.out] at hr'
        exact ⟨rfl, (hsm.touch g o 139).trans (ht'.mono o 139 (by omega) (by omega)), hk'.words ht' hr'⟩
      clear HH2 h8 HP HPL HP1 HE
      go_wp2
      go_region_held3 (fun v => v.cell? ⟨g, o + 1, none⟩ = some (.func (.func 84) #[] #[])) (first | go_keep | exact hk3.fn) ((go_at_call 84; refine (HA.out wr.drew (Sm.refl wr).drew).mono ?_; rintro e3 w3 ⟨rfl, ht3, hk3⟩))
      have HT3 : Hid (Touch w w3 g o 139) := HT2.out.trans ht3
      have HR3 : Hid (w3.there w.heap.size 0 64 ∧ w.heap.size < w3.heap.size) := ⟨ht3.thereFar HR2.out.1 HR2.out.2 (by omega), Nat.lt_of_lt_of_le HR2.out.2 ht3.size⟩
      have HK3 : Hid (TK w3 g o h false s' H2 fed) := hk3
      clear ht3 hk3 HA c1' HT2 HR2 HK2
      go_wp2_with (first | (go_at_call 88; refine (spell64 g o h s' H2 fed _ hblk HK3).mono ?_))
      rintro e4 w4 ⟨rfl, hb4⟩
      have hs3 := HT3.out.size
      have HT4 : Hid (Touch w w4 g o 139) := HT3.out.below hb4 hgw
      have HK4 : Hid (TK w4 g o h false s' H2 fed) := HK3.out.below hb4
      have HR4 : Hid (w4.there w.heap.size 0 64) := fun j hj => by rw [hb4.cell (p := ⟨w.heap.size, 0 + j, none⟩) HR3.out.2, hb4.frozen (p := ⟨w.heap.size, 0 + j, none⟩) HR3.out.2]; exact HR3.out.1 j hj
      have HY : Hid (w4.there w.heap.size 0 (spellCells 4 s').toArray.size) := by rw [spellArr_size]; exact HR4.out
      have HZ : Hid ((Tryd.prog.info? 123).map (·.size) = some (spellCells 4 s').toArray.size) := by rw [spellArr_size]; exact size75
      clear HT3 HK3 HR3 hb4
      go_wp2_with (first
        | (refine wpList_store_mid (by rfl) 123 (.tmp 2) (.tmp 93) (by rfl) w.heap.size 0 (spellCells 4 s').toArray (by rfl) (by rfl) HY.out HZ.out (spellCells_one 4 s') ?_)
        | fail)
      have hl := run_loadVar_mid (P := Tryd.prog) (w4.setCells w.heap.size 0 (spellCells 4 s')) w.heap.size 0 123 (spellCells 4 s') _ (World.rangeAt_setCells_same w4 w.heap.size 0 (spellCells 4 s') (by rw [spellCells_length]; exact HR4.out)) Tryd.underlying123 rfl (by rw [spellCells_length]; exact size75)
      have hn := touch_new HT4.out (Nat.le_refl _) (spellCells 4 s') 0 hgw
      have hs' := HS'.out
      refine bodyPost_ret (v := .agg (spellCells 4 s').toArray) ?_ rfl ⟨by rw [hs'], hn, H2, by rw [← hs']; exact HK4.out.newer (by omega) _ _⟩
      rw [results_cell1D Tryd.results72]
      simp [Act.put, asAddr, hl]
end Go.Proofs.YtinmhgackihakaaDoor
namespace Go.Proofs.YtinmhgackihakaaDoor
open Go.RowKit
set_option linter.unusedVariables false
set_option linter.unusedSimpArgs false

set_option maxHeartbeats 3200000 in
set_option maxRecDepth 100000 in
theorem finish128_A (g o : Nat) (h : Int) (s : Eight) (half : Nat → Int) (fed used u1 : Nat) (w : World) (hblk : blockOf h = 128) (HK : Hid (TK w g o h true s half fed)) (hfed : fed ≤ 1152921504606846976) (hT : Hid (Tables w)) (hg : 2 ≤ g) (h0 : Hid (fed % 128 = used)) (hu1 : Hid (u1 = used + 1)) (hu : u1 ≤ 112) :
    Calls Tryd.prog 72 #[.pointer (some ⟨g, o, none⟩)] w fun e w' => e = .returned (.agg (spellCells 8 (TT true (padF 128 half fed) s (padN 128 fed))).toArray) ∧ Touch w w' g o 139 ∧ ∃ half', TK w' g o h true (TT true (padF 128 half fed) s (padN 128 fed)) half' fed := by
  have c0 := HK.out.hash
  have c138 := HK.out.fed
  have hgw : g < w.heap.size := lt_of_cell c0
  have e1 : (used : Int) + 1 = (u1 : Int) := by have := hu1.out; omega
  have hu' : (u1 : Int) ≤ 128 := by omega
  have hu'' : (0 : Int) ≤ (u1 : Int) := by omega
  have hul : used < u1 := by have := hu1.out; omega
  have hlim : (u1 : Int) ≤ 112 := by omega
  have r0 : ((fed : Int) % 128) = (used : Int) := by have := h0.out; omega
  go_enter Tryd.func72, Tryd.ntmps72
  go_upto_region 3 with (first | (go_at_call 83; refine (block_any _ _).mono ?_; rintro e1 w1 ⟨rfl, hw1⟩; obtain rfl := hw1.symm; rw [hblk]))
  have HB0 : Hid (Below w.heap.size w (w.alloc (.cells #[.int .u8 0, .int .u8 0, .int .u8 0, .int .u8 0, .int .u8 0, .int .u8 0, .int .u8 0, .int .u8 0, .int .u8 0, .int .u8 0, .int .u8 0, .int .u8 0, .int .u8 0, .int .u8 0, .int .u8 0, .int .u8 0, .int .u8 0, .int .u8 0, .int .u8 0, .int .u8 0, .int .u8 0, .int .u8 0, .int .u8 0, .int .u8 0, .int .u8 0, .int .u8 0, .int .u8 0, .int .u8 0, .int .u8 0, .int .u8 0, .int .u8 0, .int .u8 0, .int .u8 0, .int .u8 0, .int .u8 0, .int .u8 0, .int .u8 0, .int .u8 0, .int .u8 0, .int .u8 0, .int .u8 0, .int .u8 0, .int .u8 0, .int .u8 0, .int .u8 0, .int .u8 0, .int .u8 0, .int .u8 0, .int .u8 0, .int .u8 0, .int .u8 0, .int .u8 0, .int .u8 0, .int .u8 0, .int .u8 0, .int .u8 0, .int .u8 0, .int .u8 0, .int .u8 0, .int .u8 0, .int .u8 0, .int .u8 0, .int .u8 0, .int .u8 0] 123)) ∧ (w.alloc (.cells #[.int .u8 0, .int .u8 0, .int .u8 0, .int .u8 0, .int .u8 0, .int .u8 0, .int .u8 0, .int .u8 0, .int .u8 0, .int .u8 0, .int .u8 0, .int .u8 0, .int .u8 0, .int .u8 0, .int .u8 0, .int .u8 0, .int .u8 0, .int .u8 0, .int .u8 0, .int .u8 0, .int .u8 0, .int .u8 0, .int .u8 0, .int .u8 0, .int .u8 0, .int .u8 0, .int .u8 0, .int .u8 0, .int .u8 0, .int .u8 0, .int .u8 0, .int .u8 0, .int .u8 0, .int .u8 0, .int .u8 0, .int .u8 0, .int .u8 0, .int .u8 0, .int .u8 0, .int .u8 0, .int .u8 0, .int .u8 0, .int .u8 0, .int .u8 0, .int .u8 0, .int .u8 0, .int .u8 0, .int .u8 0, .int .u8 0, .int .u8 0, .int .u8 0, .int .u8 0, .int .u8 0, .int .u8 0, .int .u8 0, .int .u8 0, .int .u8 0, .int .u8 0, .int .u8 0, .int .u8 0, .int .u8 0, .int .u8 0, .int .u8 0, .int .u8 0] 123)).there w.heap.size 0 64 ∧ w.heap.size < (w.alloc (.cells #[.int .u8 0, .int .u8 0, .int .u8 0, .int .u8 0, .int .u8 0, .int .u8 0, .int .u8 0, .int .u8 0, .int .u8 0, .int .u8 0, .int .u8 0, .int .u8 0, .int .u8 0, .int .u8 0, .int .u8 0, .int .u8 0, .int .u8 0, .int .u8 0, .int .u8 0, .int .u8 0, .int .u8 0, .int .u8 0, .int .u8 0, .int .u8 0, .int .u8 0, .int .u8 0, .int .u8 0, .int .u8 0, .int .u8 0, .int .u8 0, .int .u8 0, .int .u8 0, .int .u8 0, .int .u8 0, .int .u8 0, .int .u8 0, .int .u8 0, .int .u8 0, .int .u8 0, .int .u8 0, .int .u8 0, .int .u8 0, .int .u8 0, .int .u8 0, .int .u8 0, .int .u8 0, .int .u8 0, .int .u8 0, .int .u8 0, .int .u8 0, .int .u8 0, .int .u8 0, .int .u8 0, .int .u8 0, .int .u8 0, .int .u8 0, .int .u8 0, .int .u8 0, .int .u8 0, .int .u8 0, .int .u8 0, .int .u8 0, .int .u8 0, .int .u8 0] 123)).heap.size) := ⟨(Below.refl _ _).alloc (Nat.le_refl _) _, there_new w _ 123 64 (by decide), by simp⟩
  generalize w.alloc (.cells #[.int .u8 0, .int .u8 0, .int .u8 0, .int .u8 0, .int .u8 0, .int .u8 0, .int .u8 0, .int .u8 0, .int .u8 0, .int .u8 0, .int .u8 0, .int .u8 0, .int .u8 0, .int .u8 0, .int .u8 0, .int .u8 0, .int .u8 0, .int .u8 0, .int .u8 0, .int .u8 0, .int .u8 0, .int .u8 0, .int .u8 0, .int .u8 0, .int .u8 0, .int .u8 0, .int .u8 0, .int .u8 0, .int .u8 0, .int .u8 0, .int .u8 0, .int .u8 0, .int .u8 0, .int .u8 0, .int .u8 0, .int .u8 0, .int .u8 0, .int .u8 0, .int .u8 0, .int .u8 0, .int .u8 0, .int .u8 0, .int .u8 0, .int .u8 0, .int .u8 0, .int .u8 0, .int .u8 0, .int .u8 0, .int .u8 0, .int .u8 0, .int .u8 0, .int .u8 0, .int .u8 0, .int .u8 0, .int .u8 0, .int .u8 0, .int .u8 0, .int .u8 0, .int .u8 0, .int .u8 0, .int .u8 0, .int .u8 0, .int .u8 0, .int .u8 0] 123) = w0 at HB0 ⊢
  have HK0 : Hid (TK w0 g o h true s half fed) := HK.out.below HB0.out.1
  have fu : w0.cell? ⟨g, o + 10 + used, none⟩ = some (.int .u8 (half used)) := HK0.out.half used (by omega)
  have ff : w0.frozen? ⟨g, o + 10 + used, none⟩ = false := by
    have := (HK0.out.there (10 + used) (by omega)).2
    rw [← Nat.add_assoc] at this
    exact this
  have hx1 := HK0.out.setByte used 128 (by omega)
  have hcl : ∀ ty, (Builtin.clear_ #[23] ty #[.slice (some ⟨g, o + 10 + u1, none⟩) (128 - u1) (128 - u1)]).run Tryd.prog (w0.setCell ⟨g, o + 10 + used, none⟩ (.int .u8 128)) = .ok (.tuple #[]) ((w0.setCell ⟨g, o + 10 + used, none⟩ (.int .u8 128)).setCells g (o + 10 + u1) (List.replicate (128 - u1) (.int .u8 0))) := fun ty => clear_eq _ ty g _ _ _ (fun j hj => by
    have := hx1.1.there (10 + u1 + j) (by omega)
    rw [← Nat.add_assoc, ← Nat.add_assoc] at this
    exact this)
  have hx2 := hx1.1.clear u1 (128 - u1) (by omega)
  have HT1 : Hid (Touch w ((w0.setCell ⟨g, o + 10 + used, none⟩ (.int .u8 128)).setCells g (o + 10 + u1) (List.replicate (128 - u1) (.int .u8 0))) g o 139) := (((Touch.refl w g o 139).below HB0.out.1 hgw).trans hx1.2).trans hx2.2
  have HK1 : Hid (TK ((w0.setCell ⟨g, o + 10 + used, none⟩ (.int .u8 128)).setCells g (o + 10 + u1) (List.replicate (128 - u1) (.int .u8 0))) g o h true s (fun i => if u1 ≤ i ∧ i < u1 + (128 - u1) then 0 else (fun i => if i = used then 128 else half i) i) fed) := hx2.1
  have HR1 : Hid (((w0.setCell ⟨g, o + 10 + used, none⟩ (.int .u8 128)).setCells g (o + 10 + u1) (List.replicate (128 - u1) (.int .u8 0))).there w.heap.size 0 64 ∧ w.heap.size < ((w0.setCell ⟨g, o + 10 + used, none⟩ (.int .u8 128)).setCells g (o + 10 + u1) (List.replicate (128 - u1) (.int .u8 0))).heap.size) := ⟨World.there_setCells (World.there_setCells HB0.out.2.1 g _ [_]) g _ _, by rw [size_setCells]; simpa [World.setCell] using HB0.out.2.2⟩
  clear hx1 hx2
  go_upto_region 8 with fail
  rw [show decide ((112 : Int) < (u1 : Int)) = false by simp; omega]
  generalize (w0.setCell ⟨g, o + 10 + used, none⟩ (.int .u8 128)).setCells g (o + 10 + u1) (List.replicate (128 - u1) (.int .u8 0)) = w2 at HT1 HK1 HR1 hcl ⊢
  have c138' : w2.cell? ⟨g, o + 138, none⟩ = some (.int .u64 fed) := HK1.out.fed
  obtain ⟨H1, HH1⟩ : ∃ H1 : Nat → Int, Hid ((fun i => if u1 ≤ i ∧ i < u1 + (128 - u1) then (0 : Int) else (fun i => if i = used then 128 else half i) i) = H1) := ⟨_, (show _ = _ from rfl)⟩
  rw [HH1.out] at HK1
  obtain ⟨P, HPP⟩ : ∃ P : Nat → Int, Hid (P = padF 128 half fed) := ⟨_, (show _ = _ from rfl)⟩
  obtain ⟨s1, HS1⟩ : ∃ s1 : Eight, Hid (s1 = s) := ⟨_, (show _ = _ from rfl)⟩
  rw [← HS1.out] at HK1
  have hpn : padN 128 fed = 1 := by rw [padN, if_pos (by have := h0.out; have := hu1.out; omega)]
  have HP1 : Hid (∀ k, k < 128 - 8 → H1 k = P k) := by
    intro k hk
    have hu := hu1.out
    have h00 := h0.out
    rw [← HH1.out, HPP.out]
    simp only [padF, hpn, h00]
    by_cases k2 : u1 ≤ k
    · rw [if_pos ⟨k2, by omega⟩, if_neg (by omega), if_neg (by omega), if_pos (by omega)]
    · rw [if_neg (by omega)]
      by_cases k3 : k = used
      · rw [if_pos k3, if_neg (by omega), if_pos k3]
      · rw [if_neg k3, if_pos (by omega)]
  have HPL : Hid (∀ k, 128 - 8 ≤ k → k < 128 → P k = ((fed : Int) * 8) / 2 ^ (8 * (128 - 1 - k)) % 256) := by
    intro k k1 hk
    have hu := hu1.out
    have h00 := h0.out
    rw [HPP.out]
    simp only [padF, hpn, h00]
    rw [if_neg (by omega), if_neg (by omega), if_neg (by omega)]
  have HE : Hid (TT true P s1 1 = TT true (padF 128 half fed) s (padN 128 fed)) := by show _ = _; rw [HPP.out, HS1.out, hpn]
  clear hcl fu ff HK0 HB0 c0 c138 hpn HH1 HPP HS1
  go_wp2
  clear c138'
  go_loopw [62] (fun v wr => ∃ i : Nat, i ≤ 8 ∧ v = .int .i64 i ∧ Hid (Touch w wr g o 139) ∧ Hid (TK wr g o h true s1 (fun k => if 128 - i ≤ k ∧ k < 128 then ((fed : Int) * 8) / 2 ^ (8 * (128 - 1 - k)) % 256 else H1 k) fed) ∧ Hid (wr.there w.heap.size 0 64 ∧ w.heap.size < wr.heap.size)) (fun v _ => 8 - (intOf v).toNat)
  case atStart => exact ⟨0, by omega, rfl, HT1, HK1.out.fun_eq (fun i hi => by rw [if_neg (by omega)]), HR1⟩
  case round =>
    obtain ⟨i, hi, rfl, HT2, HK2, HR2⟩ := hrel
    clear HT1 HK1 HR1
    by_cases h8 : i < 8
    · obtain ⟨j, hj⟩ : ∃ j, j = 128 - 1 - i := ⟨_, rfl⟩
      have e2 : (127 : Int) - (i : Int) = (j : Int) := by omega
      have e3 : (8 * (i : Int)).toNat = 8 * i := by omega
      have e4 : min (8 * i) 64 = 8 * i := by omega
      have e5 : (0 : Int) ≤ 8 * (i : Int) := by omega
      have e6 : (j : Int) < 128 := by omega
      have HJ : Hid (j = 128 - 1 - i) := hj
      have fc := HK2.out.half j (by omega)
      have ff : wr.frozen? ⟨g, o + 10 + j, none⟩ = false := by
        have := (HK2.out.there (10 + j) (by omega)).2
        rw [← Nat.add_assoc] at this
        exact this
      clear hj
      go_wp2
      go_region
      go_wp2
      go_roundw
      case rel =>
        have hx := HK2.out.setByte j ((fed : Int) * 8 / 2 ^ (8 * i) % 256) (by omega)
        refine ⟨i + 1, by omega, by go_num, (HT2.out.trans hx.2).drew, (hx.1.sm (Sm.refl _).drew).fun_eq (fun k hk => ?_), ⟨World.there_setCells HR2.out.1 g _ [_], by simpa [World.setCell] using HR2.out.2⟩⟩
        have hj := HJ.out
        by_cases hkj : k = j
        · subst hkj
          rw [if_pos rfl, if_pos (by omega), show 128 - 1 - k = i by omega]
        · rw [if_neg hkj]
          by_cases hc : 128 - i ≤ k ∧ k < 128
          · rw [if_pos hc, if_pos (by omega)]
          · rw [if_neg hc, if_neg (by omega)]
      case measure => simp [intOf]; omega
    · obtain rfl : i = 8 := by omega
      have c1' : wr.cell? ⟨g, o + 1, none⟩ = some (.func (.func 85) #[] #[]) := HK2.out.fn
      obtain ⟨H2, HH2⟩ : ∃ H2 : Nat → Int, Hid ((fun k => if 128 - 8 ≤ k ∧ k < 128 then ((fed : Int) * 8) / 2 ^ (8 * (128 - 1 - k)) % 256 else H1 k) = H2) := ⟨_, (show _ = _ from rfl)⟩
      rw [HH2.out] at HK2
      have HP : Hid (∀ k, k < 128 → H2 k = P k) := by
        intro k hk
        rw [← HH2.out]
        dsimp only
        by_cases k1 : 128 - 8 ≤ k
        · rw [if_pos ⟨k1, hk⟩, HPL.out k k1 hk]
        · rw [if_neg (by omega), HP1.out k (by omega)]
      obtain ⟨s', HS'⟩ : ∃ s' : Eight, Hid (s' = TT true (padF 128 half fed) s (padN 128 fed)) := ⟨_, (show _ = _ from rfl)⟩
      have HA : Hid (∀ v, Sm wr v → Calls Tryd.prog 85 #[.pointer (some ⟨g, o + 2, none⟩), .slice (some ⟨g, o + 10, none⟩) 128 128] v fun e w' => e = .returned (.tuple #[]) ∧ Touch wr w' g o 139 ∧ TK w' g o h true s' H2 fed) := by
        intro v hsm
        have hs1 := HT2.out.size
        have hk' := HK2.out.sm hsm
        refine (take_any true g (o + 2) _ ((List.range 128).map H2) s1 v (by rw [hsm.heap]; omega) hk'.st (fun j hj => by have := hk'.there (2 + j) (by omega); rw [← Nat.add_assoc] at this; exact this) (view_half hk' 128 (by omega)) (fun _ _ _ _ e => by injection e with e1 e2 e3; injection e1 with e1; injection e1 with e4 e5; omega) (hsm.tables (hT.out.touch HT2.out hg)) hg).mono ?_
        rintro e w' ⟨rfl, ht', hr'⟩
        rw [show ((List.range 128).map H2).length / bsz true = 1 by simp [bsz], TT_congr true (B' := P) s1 1 (fun j hj => by simp [bsz] at hj; simp [List.getD, hj]; exact HP.out j (by omega)), HE.out, ← HS'.out] at hr'
        exact ⟨rfl, (hsm.touch g o 139).trans (ht'.mono o 139 (by omega) (by omega)), hk'.words ht' hr'⟩
      clear HH2 h8 HP HPL HP1 HE
      go_wp2
      go_region_held3 (fun v => v.cell? ⟨g, o + 1, none⟩ = some (.func (.func 85) #[] #[])) (first | go_keep | exact hk3.fn) ((go_at_call 85; refine (HA.out wr.drew (Sm.refl wr).drew).mono ?_; rintro e3 w3 ⟨rfl, ht3, hk3⟩))
      have HT3 : Hid (Touch w w3 g o 139) := HT2.out.trans ht3
      have HR3 : Hid (w3.there w.heap.size 0 64 ∧ w.heap.size < w3.heap.size) := ⟨ht3.thereFar HR2.out.1 HR2.out.2 (by omega), Nat.lt_of_lt_of_le HR2.out.2 ht3.size⟩
      have HK3 : Hid (TK w3 g o h true s' H2 fed) := hk3
      clear ht3 hk3 HA c1' HT2 HR2 HK2
      go_wp2_with (first | (go_at_call 88; refine (spell128 g o h s' H2 fed _ hblk HK3).mono ?_))
      rintro e4 w4 ⟨rfl, hb4⟩
      have hs3 := HT3.out.size
      have HT4 : Hid (Touch w w4 g o 139) := HT3.out.below hb4 hgw
      have HK4 : Hid (TK w4 g o h true s' H2 fed) := HK3.out.below hb4
      have HR4 : Hid (w4.there w.heap.size 0 64) := fun j hj => by rw [hb4.cell (p := ⟨w.heap.size, 0 + j, none⟩) HR3.out.2, hb4.frozen (p := ⟨w.heap.size, 0 + j, none⟩) HR3.out.2]; exact HR3.out.1 j hj
      have HY : Hid (w4.there w.heap.size 0 (spellCells 8 s').toArray.size) := by rw [spellArr_size]; exact HR4.out
      have HZ : Hid ((Tryd.prog.info? 123).map (·.size) = some (spellCells 8 s').toArray.size) := by rw [spellArr_size]; exact size75
      clear HT3 HK3 HR3 hb4
      go_wp2_with (first
        | (refine wpList_store_mid (by rfl) 123 (.tmp 2) (.tmp 93) (by rfl) w.heap.size 0 (spellCells 8 s').toArray (by rfl) (by rfl) HY.out HZ.out (spellCells_one 8 s') ?_)
        | fail)
      have hl := run_loadVar_mid (P := Tryd.prog) (w4.setCells w.heap.size 0 (spellCells 8 s')) w.heap.size 0 123 (spellCells 8 s') _ (World.rangeAt_setCells_same w4 w.heap.size 0 (spellCells 8 s') (by rw [spellCells_length]; exact HR4.out)) Tryd.underlying123 rfl (by rw [spellCells_length]; exact size75)
      have hn := touch_new HT4.out (Nat.le_refl _) (spellCells 8 s') 0 hgw
      have hs' := HS'.out
      refine bodyPost_ret (v := .agg (spellCells 8 s').toArray) ?_ rfl ⟨by rw [hs'], hn, H2, by rw [← hs']; exact HK4.out.newer (by omega) _ _⟩
      rw [results_cell1D Tryd.results72]
      simp [Act.put, asAddr, hl]
end Go.Proofs.YtinmhgackihakaaDoor
