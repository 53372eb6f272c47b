import Derived.Test.YtehlppaidgkpaaaGreatDoorDgSpell
import Derived.Lib.LazyBuf
namespace Go.Proofs.YtehlppaidgkpaaaGreatDoor.Dg
open Go.RowKit
set_option linter.unusedVariables false
set_option linter.unusedSimpArgs false

def eightOf (f : Nat → Int) : Eight := ⟨f 0, f 1, f 2, f 3, f 4, f 5, f 6, f 7⟩
theorem eightOf_at (f : Nat → Int) (j : Nat) (v : Value) (h : (eightOf f).cells[j]? = some v) : j < 8 ∧ v = .int .u64 (f j) := by
  have hj : j < 8 := by
    by_cases hj : j < (eightOf f).cells.length
    · exact hj
    · rw [List.getElem?_eq_none (by omega)] at h; cases h
  refine ⟨hj, ?_⟩
  match j, hj with
  | 0, _ => exact (Option.some.inj h).symm
  | 1, _ => exact (Option.some.inj h).symm
  | 2, _ => exact (Option.some.inj h).symm
  | 3, _ => exact (Option.some.inj h).symm
  | 4, _ => exact (Option.some.inj h).symm
  | 5, _ => exact (Option.some.inj h).symm
  | 6, _ => exact (Option.some.inj h).symm
  | 7, _ => exact (Option.some.inj h).symm
theorem cellsE_one (s : Eight) : s.cells.toArray.all (·.oneCell') = true := all_oneCell_toArray (by
  intro v hv
  simp only [Eight.cells, List.mem_map] at hv
  obtain ⟨x, _, rfl⟩ := hv
  rfl)
theorem size68 : (Tryz.prog.info? 138).map (·.size) = some 8 := by kernel_rfl
/-- What a digest begins with. -/
def firstAt (h : Int) (i : Nat) : Int := if h = 224 then bits .and .u64 (rootAt (8 + i)) 4294967295 else if h = 256 then rootAt i / 4294967296 else if h = 384 then rootAt (8 + i) else rootAt i
def firstE (h : Int) : Eight := eightOf (firstAt h)

set_option maxHeartbeats 1600000 in
set_option maxRecDepth 100000 in
theorem firstWords224 (w : World) (hT : Hid (Tables w)) :
    Calls Tryz.prog 94 #[.int .i64 224] w fun e w' => e = .returned (.agg (firstE 224).cells.toArray) ∧ Below w.heap.size w w' := by
  have HB0 : Hid (Below w.heap.size w ((w.alloc (.cells #[.int .u64 0, .int .u64 0, .int .u64 0, .int .u64 0, .int .u64 0, .int .u64 0, .int .u64 0, .int .u64 0] 138)).alloc (.cells #[.int .u64 0, .int .u64 0, .int .u64 0, .int .u64 0, .int .u64 0, .int .u64 0, .int .u64 0, .int .u64 0] 138)) ∧ ((w.alloc (.cells #[.int .u64 0, .int .u64 0, .int .u64 0, .int .u64 0, .int .u64 0, .int .u64 0, .int .u64 0, .int .u64 0] 138)).alloc (.cells #[.int .u64 0, .int .u64 0, .int .u64 0, .int .u64 0, .int .u64 0, .int .u64 0, .int .u64 0, .int .u64 0] 138)).there (w.heap.size + 1) 0 8 ∧ ((w.alloc (.cells #[.int .u64 0, .int .u64 0, .int .u64 0, .int .u64 0, .int .u64 0, .int .u64 0, .int .u64 0, .int .u64 0] 138)).alloc (.cells #[.int .u64 0, .int .u64 0, .int .u64 0, .int .u64 0, .int .u64 0, .int .u64 0, .int .u64 0, .int .u64 0] 138)).there w.heap.size 0 8) := ⟨((Below.refl _ _).alloc (Nat.le_refl _) _).alloc (by simp) _, two_there w _ _ 138 138 8 (by decide), World.there_alloc (there_new w _ 138 8 (by decide)) _⟩
  go_enter Tryz.func94, Tryz.ntmps94
  go_wp2
  go_loopw [5] (fun v wr => ∃ q : Nat, q ≤ 8 ∧ v = .int .i64 q ∧ Hid (Below w.heap.size w wr) ∧ Hid (wr.there (w.heap.size + 1) 0 8 ∧ wr.there w.heap.size 0 8) ∧ Hid (∀ j, j < q → wr.cell? ⟨w.heap.size + 1, j, none⟩ = some (.int .u64 (firstAt 224 j)))) (fun v _ => 8 - (intOf v).toNat)
  case atStart => exact ⟨0, by omega, rfl, HB0.out.1, HB0.out.2, fun j hj => by omega⟩
  case round =>
    obtain ⟨q, hq, rfl, HB, HT, HF⟩ := hrel
    clear HB0
    by_cases hlt : q < 8
    · obtain ⟨jj, hjj⟩ : ∃ jj, jj = 8 + q := ⟨_, rfl⟩
      have hTr := hT.out.below HB.out hT.out.size
      have c1 := hTr.roots (jj) (by omega)
      have hql : (q : Int) < 8 := by omega
      have hq0 : (0 : Int) ≤ (q : Int) := by omega
      have e8 : (8 : Int) + (q : Int) = (jj : Int) := by omega
      have e9 : (jj : Int) < 16 := by omega
      have HJ : Hid (jj = 8 + q) := hjj
      clear hjj
      have ff : wr.frozen? ⟨w.heap.size + 1, q, none⟩ = false := by have := (HT.out.1 q hlt).2; rw [Nat.zero_add] at this; exact this
      have fs : (wr.cell? ⟨w.heap.size + 1, q, none⟩).isSome = true := by have := (HT.out.1 q hlt).1; rw [Nat.zero_add] at this; exact this
      obtain ⟨z, hz⟩ := Option.isSome_iff_exists.1 fs
      clear fs hTr
      go_wp2
      go_roundw
      case rel =>
        have hf := fill_step (F := fun j => .int .u64 (firstAt 224 j)) HF.out HT.out.1 hlt (.int .u64 (firstAt 224 q)) rfl
        obtain rfl := HJ.out
        refine ⟨q + 1, by omega, by go_num, HB.out.setCell (by simp) _, ⟨World.there_setCells HT.out.1 _ q [_], World.there_setCells HT.out.2 _ q [_]⟩, hf.1⟩
      case measure => simp [intOf]; omega
    · obtain rfl : q = 8 := by omega
      have HR : Hid (wr.rangeAt (w.heap.size + 1) 0 (firstE 224).cells) := fun j v hv => by
        obtain ⟨hj, rfl⟩ := eightOf_at _ j v hv
        rw [Nat.zero_add]
        exact HF.out j hj
      have HY : Hid (wr.there w.heap.size 0 (firstE 224).cells.toArray.size) := HT.out.2
      have HZ : Hid ((Tryz.prog.info? 138).map (·.size) = some (firstE 224).cells.toArray.size) := size68
      obtain ⟨E, HE⟩ : ∃ E : Eight, Hid (E = firstE 224) := ⟨_, rfl⟩
      rw [← HE.out] at HR HY HZ
      clear HF
      go_wp2_with (first
        | (refine wpList_load_mid (by rfl) 138 (.tmp 3) (by rfl) (w.heap.size + 1) 0 (by rfl) E.cells _ HR.out Tryz.underlying138 rfl size68 ?_)
        | (refine wpList_store_mid (by rfl) 138 (.tmp 2) (.tmp 40) (by rfl) w.heap.size 0 E.cells.toArray (by rfl) (by rfl) HY.out HZ.out (cellsE_one E) ?_)
        | fail)
      have hl := run_loadVar_mid (P := Tryz.prog) (wr.setCells w.heap.size 0 E.cells) w.heap.size 0 138 E.cells _ (World.rangeAt_setCells_same wr w.heap.size 0 E.cells HT.out.2) Tryz.underlying138 rfl size68
      refine bodyPost_ret (v := .agg E.cells.toArray) ?_ rfl ⟨by rw [HE.out], below_setCells _ (Nat.le_refl _) _ _ _ HB.out⟩
      rw [results_cell1 Tryz.results94]
      simp [Act.put, asAddr, hl]

set_option maxHeartbeats 1600000 in
set_option maxRecDepth 100000 in
theorem firstWords256 (w : World) (hT : Hid (Tables w)) :
    Calls Tryz.prog 94 #[.int .i64 256] w fun e w' => e = .returned (.agg (firstE 256).cells.toArray) ∧ Below w.heap.size w w' := by
  have HB0 : Hid (Below w.heap.size w ((w.alloc (.cells #[.int .u64 0, .int .u64 0, .int .u64 0, .int .u64 0, .int .u64 0, .int .u64 0, .int .u64 0, .int .u64 0] 138)).alloc (.cells #[.int .u64 0, .int .u64 0, .int .u64 0, .int .u64 0, .int .u64 0, .int .u64 0, .int .u64 0, .int .u64 0] 138)) ∧ ((w.alloc (.cells #[.int .u64 0, .int .u64 0, .int .u64 0, .int .u64 0, .int .u64 0, .int .u64 0, .int .u64 0, .int .u64 0] 138)).alloc (.cells #[.int .u64 0, .int .u64 0, .int .u64 0, .int .u64 0, .int .u64 0, .int .u64 0, .int .u64 0, .int .u64 0] 138)).there (w.heap.size + 1) 0 8 ∧ ((w.alloc (.cells #[.int .u64 0, .int .u64 0, .int .u64 0, .int .u64 0, .int .u64 0, .int .u64 0, .int .u64 0, .int .u64 0] 138)).alloc (.cells #[.int .u64 0, .int .u64 0, .int .u64 0, .int .u64 0, .int .u64 0, .int .u64 0, .int .u64 0, .int .u64 0] 138)).there w.heap.size 0 8) := ⟨((Below.refl _ _).alloc (Nat.le_refl _) _).alloc (by simp) _, two_there w _ _ 138 138 8 (by decide), World.there_alloc (there_new w _ 138 8 (by decide)) _⟩
  go_enter Tryz.func94, Tryz.ntmps94
  go_wp2
  go_loopw [5] (fun v wr => ∃ q : Nat, q ≤ 8 ∧ v = .int .i64 q ∧ Hid (Below w.heap.size w wr) ∧ Hid (wr.there (w.heap.size + 1) 0 8 ∧ wr.there w.heap.size 0 8) ∧ Hid (∀ j, j < q → wr.cell? ⟨w.heap.size + 1, j, none⟩ = some (.int .u64 (firstAt 256 j)))) (fun v _ => 8 - (intOf v).toNat)
  case atStart => exact ⟨0, by omega, rfl, HB0.out.1, HB0.out.2, fun j hj => by omega⟩
  case round =>
    obtain ⟨q, hq, rfl, HB, HT, HF⟩ := hrel
    clear HB0
    by_cases hlt : q < 8
    · obtain ⟨jj, hjj⟩ : ∃ jj, jj = 8 + q := ⟨_, rfl⟩
      have hTr := hT.out.below HB.out hT.out.size
      have c1 := hTr.roots (q) (by omega)
      have hql : (q : Int) < 8 := by omega
      have hq0 : (0 : Int) ≤ (q : Int) := by omega
      skip
      have ff : wr.frozen? ⟨w.heap.size + 1, q, none⟩ = false := by have := (HT.out.1 q hlt).2; rw [Nat.zero_add] at this; exact this
      have fs : (wr.cell? ⟨w.heap.size + 1, q, none⟩).isSome = true := by have := (HT.out.1 q hlt).1; rw [Nat.zero_add] at this; exact this
      obtain ⟨z, hz⟩ := Option.isSome_iff_exists.1 fs
      clear fs hTr
      go_wp2
      go_roundw
      case rel =>
        have hf := fill_step (F := fun j => .int .u64 (firstAt 256 j)) HF.out HT.out.1 hlt (.int .u64 (firstAt 256 q)) rfl
        skip
        refine ⟨q + 1, by omega, by go_num, HB.out.setCell (by simp) _, ⟨World.there_setCells HT.out.1 _ q [_], World.there_setCells HT.out.2 _ q [_]⟩, hf.1⟩
      case measure => simp [intOf]; omega
    · obtain rfl : q = 8 := by omega
      have HR : Hid (wr.rangeAt (w.heap.size + 1) 0 (firstE 256).cells) := fun j v hv => by
        obtain ⟨hj, rfl⟩ := eightOf_at _ j v hv
        rw [Nat.zero_add]
        exact HF.out j hj
      have HY : Hid (wr.there w.heap.size 0 (firstE 256).cells.toArray.size) := HT.out.2
      have HZ : Hid ((Tryz.prog.info? 138).map (·.size) = some (firstE 256).cells.toArray.size) := size68
      obtain ⟨E, HE⟩ : ∃ E : Eight, Hid (E = firstE 256) := ⟨_, rfl⟩
      rw [← HE.out] at HR HY HZ
      clear HF
      go_wp2_with (first
        | (refine wpList_load_mid (by rfl) 138 (.tmp 3) (by rfl) (w.heap.size + 1) 0 (by rfl) E.cells _ HR.out Tryz.underlying138 rfl size68 ?_)
        | (refine wpList_store_mid (by rfl) 138 (.tmp 2) (.tmp 40) (by rfl) w.heap.size 0 E.cells.toArray (by rfl) (by rfl) HY.out HZ.out (cellsE_one E) ?_)
        | fail)
      have hl := run_loadVar_mid (P := Tryz.prog) (wr.setCells w.heap.size 0 E.cells) w.heap.size 0 138 E.cells _ (World.rangeAt_setCells_same wr w.heap.size 0 E.cells HT.out.2) Tryz.underlying138 rfl size68
      refine bodyPost_ret (v := .agg E.cells.toArray) ?_ rfl ⟨by rw [HE.out], below_setCells _ (Nat.le_refl _) _ _ _ HB.out⟩
      rw [results_cell1 Tryz.results94]
      simp [Act.put, asAddr, hl]

theorem owns_of_row {w : World} {b n B : Nat} {zs : List Int} (hz : zs.length = n) (hB : B ≤ b) (hn : n ≤ maxLen) (h : w.rowIs b 5 n (fun j => .int .u8 (zs.getD j 0))) : w.ownsRow B 5 1 (.slice (some ⟨b, 0, none⟩) n n) n (cellsU8 zs) := by
  obtain ⟨c, h1, h2, h3⟩ := h
  refine ⟨by rw [cellsU8_length]; omega, .inr ⟨b, n, c, rfl, hB, h1, Nat.le_refl _, hn, by omega, ?_⟩⟩
  rw [List.take_of_length_le (by simp; omega)]
  apply List.ext_getElem?
  intro i
  by_cases hi : i < n
  · rw [Array.getElem?_toList, h3 i hi]
    simp [cellsU8, List.getD, List.getElem?_eq_getElem (show i < zs.length by omega)]
  · rw [List.getElem?_eq_none (by simp; omega), List.getElem?_eq_none (by rw [cellsU8_length]; omega)]
set_option maxHeartbeats 1600000 in
set_option maxRecDepth 100000 in
theorem first28 (C : List Value) (zs : List Int) (w : World) (hC : Hid (C = cellsU8 zs)) (hz : Hid (zs.length = 64)) :
    Calls Tryz.prog 59 #[.agg C.toArray, .int .i64 28] w fun e w' => ∃ g, e = .returned (.slice (some ⟨g, 0, none⟩) 28 28) ∧ w'.ownsRow w.heap.size 5 1 (.slice (some ⟨g, 0, none⟩) 28 28) 28 (cellsU8 (zs.take 28)) ∧ Below w.heap.size w w' := by
  have hmk : ∀ w, (Instr.makeSlice 22 (.int .i64 28) (.int .i64 28)).run Tryz.prog w = .ok (.slice (some ⟨w.heap.size, 0, none⟩) 28 28) (w.alloc (.cells #[.int .u8 0, .int .u8 0, .int .u8 0, .int .u8 0, .int .u8 0, .int .u8 0, .int .u8 0, .int .u8 0, .int .u8 0, .int .u8 0, .int .u8 0, .int .u8 0, .int .u8 0, .int .u8 0, .int .u8 0, .int .u8 0, .int .u8 0, .int .u8 0, .int .u8 0, .int .u8 0, .int .u8 0, .int .u8 0, .int .u8 0, .int .u8 0, .int .u8 0, .int .u8 0, .int .u8 0, .int .u8 0] 5)) := fun _ => by kernel_rfl
  have hlen : (zs.take 28).length = 28 := by rw [List.length_take, hz.out]; rfl
  have hv : View ((w.alloc (.cells C.toArray 147)).alloc (.cells #[.int .u8 0, .int .u8 0, .int .u8 0, .int .u8 0, .int .u8 0, .int .u8 0, .int .u8 0, .int .u8 0, .int .u8 0, .int .u8 0, .int .u8 0, .int .u8 0, .int .u8 0, .int .u8 0, .int .u8 0, .int .u8 0, .int .u8 0, .int .u8 0, .int .u8 0, .int .u8 0, .int .u8 0, .int .u8 0, .int .u8 0, .int .u8 0, .int .u8 0, .int .u8 0, .int .u8 0, .int .u8 0] 5)) (.slice (some ⟨w.heap.size, 0, none⟩) 28 64) (zs.take 28) := by
    refine ⟨_, 64, by rw [hlen], by rw [hlen]; omega, by simp [maxLen], (fun e => by cases e), .inr ⟨w.heap.size, 0, rfl, fun i hi => ?_⟩⟩
    rw [hlen] at hi
    rw [World.cell?_alloc_past _ _ _ (by simp), World.cell?_alloc_at _ _ _ _ rfl, hC.out, Nat.zero_add]
    have h64 := hz.out
    simp [cellsU8, List.getD, List.getElem?_take, hi, List.getElem?_eq_getElem (show i < zs.length by omega)]
  have hcp := copy_eq _ (w.heap.size + 1) 0 28 28 _ 28 64 28 _ rfl hv (two_there w _ _ 147 5 28 (by decide))
  rw [List.take_take, Nat.min_self] at hcp
  have HO : Hid ((((w.alloc (.cells C.toArray 147)).alloc (.cells #[.int .u8 0, .int .u8 0, .int .u8 0, .int .u8 0, .int .u8 0, .int .u8 0, .int .u8 0, .int .u8 0, .int .u8 0, .int .u8 0, .int .u8 0, .int .u8 0, .int .u8 0, .int .u8 0, .int .u8 0, .int .u8 0, .int .u8 0, .int .u8 0, .int .u8 0, .int .u8 0, .int .u8 0, .int .u8 0, .int .u8 0, .int .u8 0, .int .u8 0, .int .u8 0, .int .u8 0, .int .u8 0] 5)).setCells (w.heap.size + 1) 0 (cellsU8 (zs.take 28))).ownsRow w.heap.size 5 1 (.slice (some ⟨w.heap.size + 1, 0, none⟩) 28 28) 28 (cellsU8 (zs.take 28))) := by
    refine owns_of_row hlen (by omega) (by simp [maxLen]) ?_
    have hr := World.rowIs_alloc (w.alloc (.cells C.toArray 147)) (List.replicate 28 (Value.int .u8 0)).toArray 5 (fun _ => .int .u8 0) (fun i hi => zero_lit 28 i hi)
    have hs : (w.alloc (.cells C.toArray 147)).heap.size = w.heap.size + 1 := by simp
    rw [hs] at hr
    refine (Go.rowIs_setCells (cellsU8 (zs.take 28)) 0 _ _ hr).congr (fun j hj => ?_)
    have hj' : j < 28 := hj
    rw [if_pos ⟨Nat.zero_le _, by rw [cellsU8_length, hlen]; omega⟩]
    have h64 := hz.out
    simp [cellsU8, List.getD, List.getElem?_take, hj', List.getElem?_eq_getElem (show j < zs.length by omega)]
  have HB : Hid (Below w.heap.size w (((w.alloc (.cells C.toArray 147)).alloc (.cells #[.int .u8 0, .int .u8 0, .int .u8 0, .int .u8 0, .int .u8 0, .int .u8 0, .int .u8 0, .int .u8 0, .int .u8 0, .int .u8 0, .int .u8 0, .int .u8 0, .int .u8 0, .int .u8 0, .int .u8 0, .int .u8 0, .int .u8 0, .int .u8 0, .int .u8 0, .int .u8 0, .int .u8 0, .int .u8 0, .int .u8 0, .int .u8 0, .int .u8 0, .int .u8 0, .int .u8 0, .int .u8 0] 5)).setCells (w.heap.size + 1) 0 (cellsU8 (zs.take 28)))) := below_setCells _ (by omega) _ _ _ (((Below.refl _ _).alloc (Nat.le_refl _) _).alloc (by simp) _)
  clear hv hlen
  go_enter Tryz.func59, Tryz.ntmps59
  go_wp2
  go_ret
  exact ⟨_, rfl, HO, HB⟩

set_option maxHeartbeats 1600000 in
set_option maxRecDepth 100000 in
theorem first32 (C : List Value) (zs : List Int) (w : World) (hC : Hid (C = cellsU8 zs)) (hz : Hid (zs.length = 64)) :
    Calls Tryz.prog 59 #[.agg C.toArray, .int .i64 32] w fun e w' => ∃ g, e = .returned (.slice (some ⟨g, 0, none⟩) 32 32) ∧ w'.ownsRow w.heap.size 5 1 (.slice (some ⟨g, 0, none⟩) 32 32) 32 (cellsU8 (zs.take 32)) ∧ Below w.heap.size w w' := by
  have hmk : ∀ w, (Instr.makeSlice 22 (.int .i64 32) (.int .i64 32)).run Tryz.prog w = .ok (.slice (some ⟨w.heap.size, 0, none⟩) 32 32) (w.alloc (.cells #[.int .u8 0, .int .u8 0, .int .u8 0, .int .u8 0, .int .u8 0, .int .u8 0, .int .u8 0, .int .u8 0, .int .u8 0, .int .u8 0, .int .u8 0, .int .u8 0, .int .u8 0, .int .u8 0, .int .u8 0, .int .u8 0, .int .u8 0, .int .u8 0, .int .u8 0, .int .u8 0, .int .u8 0, .int .u8 0, .int .u8 0, .int .u8 0, .int .u8 0, .int .u8 0, .int .u8 0, .int .u8 0, .int .u8 0, .int .u8 0, .int .u8 0, .int .u8 0] 5)) := fun _ => by kernel_rfl
  have hlen : (zs.take 32).length = 32 := by rw [List.length_take, hz.out]; rfl
  have hv : View ((w.alloc (.cells C.toArray 147)).alloc (.cells #[.int .u8 0, .int .u8 0, .int .u8 0, .int .u8 0, .int .u8 0, .int .u8 0, .int .u8 0, .int .u8 0, .int .u8 0, .int .u8 0, .int .u8 0, .int .u8 0, .int .u8 0, .int .u8 0, .int .u8 0, .int .u8 0, .int .u8 0, .int .u8 0, .int .u8 0, .int .u8 0, .int .u8 0, .int .u8 0, .int .u8 0, .int .u8 0, .int .u8 0, .int .u8 0, .int .u8 0, .int .u8 0, .int .u8 0, .int .u8 0, .int .u8 0, .int .u8 0] 5)) (.slice (some ⟨w.heap.size, 0, none⟩) 32 64) (zs.take 32) := by
    refine ⟨_, 64, by rw [hlen], by rw [hlen]; omega, by simp [maxLen], (fun e => by cases e), .inr ⟨w.heap.size, 0, rfl, fun i hi => ?_⟩⟩
    rw [hlen] at hi
    rw [World.cell?_alloc_past _ _ _ (by simp), World.cell?_alloc_at _ _ _ _ rfl, hC.out, Nat.zero_add]
    have h64 := hz.out
    simp [cellsU8, List.getD, List.getElem?_take, hi, List.getElem?_eq_getElem (show i < zs.length by omega)]
  have hcp := copy_eq _ (w.heap.size + 1) 0 32 32 _ 32 64 32 _ rfl hv (two_there w _ _ 147 5 32 (by decide))
  rw [List.take_take, Nat.min_self] at hcp
  have HO : Hid ((((w.alloc (.cells C.toArray 147)).alloc (.cells #[.int .u8 0, .int .u8 0, .int .u8 0, .int .u8 0, .int .u8 0, .int .u8 0, .int .u8 0, .int .u8 0, .int .u8 0, .int .u8 0, .int .u8 0, .int .u8 0, .int .u8 0, .int .u8 0, .int .u8 0, .int .u8 0, .int .u8 0, .int .u8 0, .int .u8 0, .int .u8 0, .int .u8 0, .int .u8 0, .int .u8 0, .int .u8 0, .int .u8 0, .int .u8 0, .int .u8 0, .int .u8 0, .int .u8 0, .int .u8 0, .int .u8 0, .int .u8 0] 5)).setCells (w.heap.size + 1) 0 (cellsU8 (zs.take 32))).ownsRow w.heap.size 5 1 (.slice (some ⟨w.heap.size + 1, 0, none⟩) 32 32) 32 (cellsU8 (zs.take 32))) := by
    refine owns_of_row hlen (by omega) (by simp [maxLen]) ?_
    have hr := World.rowIs_alloc (w.alloc (.cells C.toArray 147)) (List.replicate 32 (Value.int .u8 0)).toArray 5 (fun _ => .int .u8 0) (fun i hi => zero_lit 32 i hi)
    have hs : (w.alloc (.cells C.toArray 147)).heap.size = w.heap.size + 1 := by simp
    rw [hs] at hr
    refine (Go.rowIs_setCells (cellsU8 (zs.take 32)) 0 _ _ hr).congr (fun j hj => ?_)
    have hj' : j < 32 := hj
    rw [if_pos ⟨Nat.zero_le _, by rw [cellsU8_length, hlen]; omega⟩]
    have h64 := hz.out
    simp [cellsU8, List.getD, List.getElem?_take, hj', List.getElem?_eq_getElem (show j < zs.length by omega)]
  have HB : Hid (Below w.heap.size w (((w.alloc (.cells C.toArray 147)).alloc (.cells #[.int .u8 0, .int .u8 0, .int .u8 0, .int .u8 0, .int .u8 0, .int .u8 0, .int .u8 0, .int .u8 0, .int .u8 0, .int .u8 0, .int .u8 0, .int .u8 0, .int .u8 0, .int .u8 0, .int .u8 0, .int .u8 0, .int .u8 0, .int .u8 0, .int .u8 0, .int .u8 0, .int .u8 0, .int .u8 0, .int .u8 0, .int .u8 0, .int .u8 0, .int .u8 0, .int .u8 0, .int .u8 0, .int .u8 0, .int .u8 0, .int .u8 0, .int .u8 0] 5)).setCells (w.heap.size + 1) 0 (cellsU8 (zs.take 32)))) := below_setCells _ (by omega) _ _ _ (((Below.refl _ _).alloc (Nat.le_refl _) _).alloc (by simp) _)
  clear hv hlen
  go_enter Tryz.func59, Tryz.ntmps59
  go_wp2
  go_ret
  exact ⟨_, rfl, HO, HB⟩

end Go.Proofs.YtehlppaidgkpaaaGreatDoor.Dg
