import Derived.Test.YtnkpngpjlkkkbaaBts
import Derived.Test.YtnkpngpjlkkkbaaTurn
import Derived.Deep.RegionHeld3
namespace Go.Proofs.Ytnkpngpjlkkkbaa
open Go.RowKit Go.Proofs.Ytnkpngpjlkkkbaa.Fld
set_option linter.unusedVariables false
set_option linter.unusedSimpArgs false
/-- The coefficients of a block lie in a slice. -/
def BitsAt (w : World) (g o : Nat) (y : BitVec 128) : Prop := ∀ j, j < 128 → w.cell? ⟨g, o + j, none⟩ = some (.int .i64 (cb (y.getLsbD j)))
/-- Byte j behind i coefficients. -/
def pb (y : BitVec 128) (j i : Nat) : Nat := byV y j % 2 ^ (min 8 (i - 8 * j))
theorem pb_zero (y : BitVec 128) (j : Nat) : pb y j 0 = 0 := by simp [pb, Nat.mod_one]
theorem pb_all (y : BitVec 128) (j : Nat) (hj : j < 16) : pb y j 128 = byV y j := by
  rw [pb, show min 8 (128 - 8 * j) = 8 by omega]
  exact Nat.mod_eq_of_lt (byV_lt y j)
theorem pb_other (y : BitVec 128) (j i : Nat) (h : j ≠ i / 8) : pb y j (i + 1) = pb y j i := by
  rw [pb, pb, show min 8 (i + 1 - 8 * j) = min 8 (i - 8 * j) by omega]
theorem pb_lt (y : BitVec 128) (j i : Nat) : pb y j i < 256 := Nat.lt_of_le_of_lt (Nat.mod_le _ _) (byV_lt y j)
theorem pb_step (y : BitVec 128) (i : Nat) : ((pb y (i / 8) (i + 1) : Nat) : Int) = (pb y (i / 8) i : Nat) + cb (y.getLsbD i) * 2 ^ (i % 8) := by
  have e := bit_of y (i / 8) (i % 8) (by omega)
  rw [show 8 * (i / 8) + i % 8 = i by omega] at e
  rw [← e, pb, pb, show min 8 (i + 1 - 8 * (i / 8)) = i % 8 + 1 by omega, show min 8 (i - 8 * (i / 8)) = i % 8 by omega]
  rw [Nat.mod_pow_succ]
  push_cast
  rw [Int.mul_comm]
theorem cb01 (b : Bool) : 0 ≤ cb b ∧ cb b ≤ 1 := by cases b <;> decide
set_option maxHeartbeats 1600000 in
set_option maxRecDepth 100000 in
/-- cofferref03.fromLittle. -/
theorem rfrom_ok (y : BitVec 128) (g o n c : Nat) (w : World) (hn : 128 ≤ n) (hg : g < w.heap.size) (hB : BitsAt w g o y) : Calls Try.prog 27 #[.slice (some ⟨g, o, none⟩) n c] w fun e w' => Hid (e = .returned (BV y) ∧ Below w.heap.size w w') := by
  have HB : Hid (BitsAt w g o y ∧ g < w.heap.size) := ⟨hB, hg⟩
  clear hB hg
  go_enter Try.func27, Try.ntmps27
  go_upto_region 2 with fail
  have HC : Hid (Below w.heap.size w ((w.alloc (.cells #[.int .u8 0, .int .u8 0, .int .u8 0, .int .u8 0, .int .u8 0, .int .u8 0, .int .u8 0, .int .u8 0, .int .u8 0, .int .u8 0, .int .u8 0, .int .u8 0, .int .u8 0, .int .u8 0, .int .u8 0, .int .u8 0] 23)).alloc (.cells #[.int .u8 0, .int .u8 0, .int .u8 0, .int .u8 0, .int .u8 0, .int .u8 0, .int .u8 0, .int .u8 0, .int .u8 0, .int .u8 0, .int .u8 0, .int .u8 0, .int .u8 0, .int .u8 0, .int .u8 0, .int .u8 0] 23)) ∧ BitsAt ((w.alloc (.cells #[.int .u8 0, .int .u8 0, .int .u8 0, .int .u8 0, .int .u8 0, .int .u8 0, .int .u8 0, .int .u8 0, .int .u8 0, .int .u8 0, .int .u8 0, .int .u8 0, .int .u8 0, .int .u8 0, .int .u8 0, .int .u8 0] 23)).alloc (.cells #[.int .u8 0, .int .u8 0, .int .u8 0, .int .u8 0, .int .u8 0, .int .u8 0, .int .u8 0, .int .u8 0, .int .u8 0, .int .u8 0, .int .u8 0, .int .u8 0, .int .u8 0, .int .u8 0, .int .u8 0, .int .u8 0] 23)) g o y ∧ ((w.alloc (.cells #[.int .u8 0, .int .u8 0, .int .u8 0, .int .u8 0, .int .u8 0, .int .u8 0, .int .u8 0, .int .u8 0, .int .u8 0, .int .u8 0, .int .u8 0, .int .u8 0, .int .u8 0, .int .u8 0, .int .u8 0, .int .u8 0] 23)).alloc (.cells #[.int .u8 0, .int .u8 0, .int .u8 0, .int .u8 0, .int .u8 0, .int .u8 0, .int .u8 0, .int .u8 0, .int .u8 0, .int .u8 0, .int .u8 0, .int .u8 0, .int .u8 0, .int .u8 0, .int .u8 0, .int .u8 0] 23)).there w.heap.size 0 16 ∧ ((w.alloc (.cells #[.int .u8 0, .int .u8 0, .int .u8 0, .int .u8 0, .int .u8 0, .int .u8 0, .int .u8 0, .int .u8 0, .int .u8 0, .int .u8 0, .int .u8 0, .int .u8 0, .int .u8 0, .int .u8 0, .int .u8 0, .int .u8 0] 23)).alloc (.cells #[.int .u8 0, .int .u8 0, .int .u8 0, .int .u8 0, .int .u8 0, .int .u8 0, .int .u8 0, .int .u8 0, .int .u8 0, .int .u8 0, .int .u8 0, .int .u8 0, .int .u8 0, .int .u8 0, .int .u8 0, .int .u8 0] 23)).there (w.heap.size + 1) 0 16 ∧ (∀ j, j < 16 → ((w.alloc (.cells #[.int .u8 0, .int .u8 0, .int .u8 0, .int .u8 0, .int .u8 0, .int .u8 0, .int .u8 0, .int .u8 0, .int .u8 0, .int .u8 0, .int .u8 0, .int .u8 0, .int .u8 0, .int .u8 0, .int .u8 0, .int .u8 0] 23)).alloc (.cells #[.int .u8 0, .int .u8 0, .int .u8 0, .int .u8 0, .int .u8 0, .int .u8 0, .int .u8 0, .int .u8 0, .int .u8 0, .int .u8 0, .int .u8 0, .int .u8 0, .int .u8 0, .int .u8 0, .int .u8 0, .int .u8 0] 23)).cell? ⟨w.heap.size + 1, j, none⟩ = some (.int .u8 0)) ∧ ((w.alloc (.cells #[.int .u8 0, .int .u8 0, .int .u8 0, .int .u8 0, .int .u8 0, .int .u8 0, .int .u8 0, .int .u8 0, .int .u8 0, .int .u8 0, .int .u8 0, .int .u8 0, .int .u8 0, .int .u8 0, .int .u8 0, .int .u8 0] 23)).alloc (.cells #[.int .u8 0, .int .u8 0, .int .u8 0, .int .u8 0, .int .u8 0, .int .u8 0, .int .u8 0, .int .u8 0, .int .u8 0, .int .u8 0, .int .u8 0, .int .u8 0, .int .u8 0, .int .u8 0, .int .u8 0, .int .u8 0] 23)).heap.size = w.heap.size + 2) := by
    have b0 : Below w.heap.size w ((w.alloc (.cells #[.int .u8 0, .int .u8 0, .int .u8 0, .int .u8 0, .int .u8 0, .int .u8 0, .int .u8 0, .int .u8 0, .int .u8 0, .int .u8 0, .int .u8 0, .int .u8 0, .int .u8 0, .int .u8 0, .int .u8 0, .int .u8 0] 23)).alloc (.cells #[.int .u8 0, .int .u8 0, .int .u8 0, .int .u8 0, .int .u8 0, .int .u8 0, .int .u8 0, .int .u8 0, .int .u8 0, .int .u8 0, .int .u8 0, .int .u8 0, .int .u8 0, .int .u8 0, .int .u8 0, .int .u8 0] 23)) := ((Below.refl _ _).alloc (Nat.le_refl _) _).alloc (by simp) _
    refine ⟨b0, fun j hj => ?_, World.there_alloc (there_new w _ 23 16 (Nat.le_refl _)) _, ?_, fun j hj => ?_, by simp⟩
    · rw [b0.cell (p := ⟨g, o + j, none⟩) HB.out.2]
      exact HB.out.1 j hj
    · have h := there_new (w.alloc (.cells #[.int .u8 0, .int .u8 0, .int .u8 0, .int .u8 0, .int .u8 0, .int .u8 0, .int .u8 0, .int .u8 0, .int .u8 0, .int .u8 0, .int .u8 0, .int .u8 0, .int .u8 0, .int .u8 0, .int .u8 0, .int .u8 0] 23)) #[.int .u8 0, .int .u8 0, .int .u8 0, .int .u8 0, .int .u8 0, .int .u8 0, .int .u8 0, .int .u8 0, .int .u8 0, .int .u8 0, .int .u8 0, .int .u8 0, .int .u8 0, .int .u8 0, .int .u8 0, .int .u8 0] 23 16 (Nat.le_refl _)
      simpa using h
    · have h := rangeAt_new (w.alloc (.cells #[.int .u8 0, .int .u8 0, .int .u8 0, .int .u8 0, .int .u8 0, .int .u8 0, .int .u8 0, .int .u8 0, .int .u8 0, .int .u8 0, .int .u8 0, .int .u8 0, .int .u8 0, .int .u8 0, .int .u8 0, .int .u8 0] 23)) #[.int .u8 0, .int .u8 0, .int .u8 0, .int .u8 0, .int .u8 0, .int .u8 0, .int .u8 0, .int .u8 0, .int .u8 0, .int .u8 0, .int .u8 0, .int .u8 0, .int .u8 0, .int .u8 0, .int .u8 0, .int .u8 0] 23 j _ (zeros_at j hj)
      rw [Nat.zero_add] at h
      simpa using h
  generalize (w.alloc (.cells #[.int .u8 0, .int .u8 0, .int .u8 0, .int .u8 0, .int .u8 0, .int .u8 0, .int .u8 0, .int .u8 0, .int .u8 0, .int .u8 0, .int .u8 0, .int .u8 0, .int .u8 0, .int .u8 0, .int .u8 0, .int .u8 0] 23)).alloc (.cells #[.int .u8 0, .int .u8 0, .int .u8 0, .int .u8 0, .int .u8 0, .int .u8 0, .int .u8 0, .int .u8 0, .int .u8 0, .int .u8 0, .int .u8 0, .int .u8 0, .int .u8 0, .int .u8 0, .int .u8 0, .int .u8 0] 23) = w2 at HC ⊢
  go_wp2
  go_loopw [4] (fun vi wr => ∃ i : Nat, i ≤ 128 ∧ vi = .int .i64 (i : Nat) ∧ Hid (Touch w2 wr (w.heap.size + 1) 0 16 ∧ ∀ j, j < 16 → wr.cell? ⟨w.heap.size + 1, j, none⟩ = some (.int .u8 (pb y j i : Nat)))) (fun vi _ => 128 - (intOf vi).toNat)
  case atStart => exact ⟨0, by omega, rfl, Touch.refl _ _ _ _, fun j hj => by rw [pb_zero]; exact HC.out.2.2.2.2.1 j hj⟩
  case round =>
    obtain ⟨i, hi, rfl, HR⟩ := hrel
    by_cases hlt : i < 128
    · obtain ⟨q, hq⟩ : ∃ q, q = i / 8 := ⟨_, rfl⟩
      obtain ⟨r, hr⟩ : ∃ r, r = i % 8 := ⟨_, rfl⟩
      have hq1 : ((i : Nat) : Int).tdiv 8 = (q : Nat) := by rw [Int.tdiv_eq_ediv_of_nonneg (by omega)]; omega
      have hr1 : ((i : Nat) : Int).tmod 8 = (r : Nat) := by rw [Int.tmod_eq_emod_of_nonneg (by omega)]; omega
      have HQ : Hid (q = i / 8 ∧ r = i % 8) := ⟨hq, hr⟩
      have g0 : (0 : Int) ≤ (i : Int) := by omega
      have g1 : (i : Int) < (n : Int) := by omega
      have q0 : (0 : Int) ≤ (q : Int) := by omega
      have q1 : (q : Int) < 16 := by omega
      have r0 : (0 : Int) ≤ (r : Int) := by omega
      have r1 : (r : Int) < 8 := by omega
      have il : (i : Int) < 128 := by omega
      obtain ⟨P0, HP0⟩ : ∃ P : Int, Hid (P = (pb y q i : Nat)) := ⟨_, rfl⟩
      obtain ⟨B, HBt⟩ : ∃ P : Int, Hid (P = cb (y.getLsbD i)) := ⟨_, rfl⟩
      have c0 : wr.cell? ⟨w.heap.size + 1, q, none⟩ = some (.int .u8 P0) := by rw [HP0.out]; exact HR.out.2 q (by omega)
      have c1 : wr.cell? ⟨g, o + i, none⟩ = some (.int .i64 B) := by
        have hz := HC.out.2.2.2.2.2
        have hgl := HB.out.2
        rw [HR.out.1.far (p := ⟨g, o + i, none⟩) (show g < _ by omega) (show g ≠ _ by omega), HBt.out]
        exact HC.out.2.1 i (by omega)
      have f1 := (HR.out.1.there _ _ HC.out.2.2.2.1 q (by omega)).2
      rw [Nat.zero_add] at f1
      have hqw : IntKind.i64.wrap ((q : Nat) : Int) = (q : Nat) := by rw [IntKind.wrap_i64]; omega
      have hrw : IntKind.i64.wrap ((r : Nat) : Int) = (r : Nat) := by rw [IntKind.wrap_i64]; omega
      clear hq hr hlt
      have HV : Hid ((P0 + wrap64 (B * 2 ^ r)) % 256 = (pb y q (i + 1) : Nat)) := by
        show (P0 + wrap64 (B * 2 ^ r)) % 256 = _
        have e := pb_step y i
        rw [← HQ.out.1, ← HQ.out.2, ← HP0.out, ← HBt.out] at e
        have l1 := pb_lt y q (i + 1)
        have l2 := pb_lt y q i
        rw [HP0.out] at e
        have l3 := (cb01 (y.getLsbD i))
        rw [← HBt.out] at l3
        have l4 : 0 ≤ B * 2 ^ r := Int.mul_nonneg l3.1 (Int.le_of_lt (Int.pow_pos (by decide)))
        rw [HP0.out]
        generalize hz : B * 2 ^ r = Z at e l4 ⊢
        unfold wrap64
        omega
      go_upto_region 5 with fail
      go_region
      go_wp2
      refine ⟨⟨i + 1, by omega, by simp, (HR.out.1.setCell q _ (by omega) (by omega)).drew, fun j hj => ?_⟩, by simp only [intOf]; omega⟩
      show (wr.setCell _ _).cell? _ = _
      by_cases hjk : j = q
      · subst hjk
        rw [World.cell?_setCell_same' _ _ _ (by rw [c0]; rfl), HV.out]
      · rw [cell_other2 _ _ _ _ _ (by omega), HR.out.2 j hj, pb_other y j i (by rw [← HQ.out.1]; exact hjk)]
    · obtain rfl : i = 128 := by omega
      have H4 : Hid (wr.rangeAt (w.heap.size + 1) 0 (BL y) ∧ wr.there w.heap.size 0 16 ∧ Below w.heap.size w wr) := by
        obtain ⟨t1, t2, t3, t4, t5⟩ := HC.out
        obtain ⟨p1, p2⟩ := HR.out
        refine ⟨BL_range (fun j hj => ?_), fun j hj => ?_, t1.trans (p1.toBelow (by omega) (by omega))⟩
        · have h := p2 j hj
          rw [pb_all y j hj] at h
          exact h
        · rw [p1.far (p := ⟨w.heap.size, 0 + j, none⟩) (show w.heap.size < _ by omega) (show w.heap.size ≠ _ by omega), p1.farFrozen (p := ⟨w.heap.size, 0 + j, none⟩) (show w.heap.size < _ by omega) (show w.heap.size ≠ _ by omega)]
          exact t3 j hj
      clear HR hlt hi
      obtain ⟨L, HLL⟩ : ∃ L, Hid (L = BL y) := ⟨_, rfl⟩
      rw [← HLL.out] at H4
      have HLl : Hid (L.length = 16) := by show _ = _; rw [HLL.out]; rfl
      have HLo : Hid (L.toArray.all (·.oneCell') = true) := by show _ = _; rw [HLL.out]; exact BL_one _
      have hTH : wr.there w.heap.size 0 L.length := by rw [HLl.out]; exact H4.out.2.1
      go_wp2_with (first
        | (refine wpList_load_mid (by rfl) 23 (.tmp 3) (by rfl) (w.heap.size + 1) 0 (by rfl) L _ H4.out.1 Try.underlying23 rfl (by rw [HLl.out]; exact size23) ?_)
        | (refine wpList_store_mid (by rfl) 23 (.tmp 2) (.tmp 25) (by rfl) w.heap.size 0 L.toArray (by rfl) (by rfl) (by simpa using hTH) (by rw [List.size_toArray, HLl.out]; exact size23) HLo.out ?_))
      refine ret_array L Try.results27 rfl (World.rangeAt_setCells_same _ _ _ _ hTH) Try.underlying23 rfl (by rw [HLl.out]; exact size23) ⟨?_, belowB_setCells _ (by omega) _ _ _ H4.out.2.2⟩
      rw [HLL.out]
      rfl
end Go.Proofs.Ytnkpngpjlkkkbaa
