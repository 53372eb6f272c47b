import Derived.Test.YtildgjabgengiaaGreatDoorNmc
import Derived.Deep.OwnRows
namespace Go.Proofs.YtildgjabgengiaaGreatDoor
open Go.RowKit
set_option linter.unusedVariables false
/-- The name of suite j. -/
def spN (j : Nat) : ByteArray := match sxF j with
  | .string s :: _ => s
  | _ => ⟨#[]⟩
theorem sx_row (j : Nat) : ∃ (a x y z : Int) (s : ByteArray) (f g : Value), sxF j = [.string (spN j), .int .i64 a, .string s, .int .i64 x, .int .i64 y, .int .i64 z, f, g] ∧ f.oneCell' = true ∧ g.oneCell' = true := by
  cases j with
  | zero => exact ⟨_, _, _, _, _, _, _, rfl, rfl, rfl⟩
  | succ j =>
    obtain ⟨a, b, c, f, g, h, hf⟩ := mode_at (j % 17) (Nat.mod_lt _ (by decide))
    refine ⟨((16 + 8 * (j / 17) : Nat) : Int), a, b, c, nmB (j % 17), f, .func (.func g) #[] #[], ?_, by rcases hf with rfl | ⟨m, rfl⟩ <;> rfl, rfl⟩
    rw [spN, sxF, h]
/-- The names behind i rounds. -/
def nmC (i : Nat) : List Value := (List.range 52).map fun j => .string (if j < i then spN j else ⟨#[]⟩)
theorem nmC_len (i : Nat) : (nmC i).length = 52 := by simp [nmC]
theorem nmC_at (i j : Nat) (hj : j < 52) : (nmC i)[j]? = some (.string (if j < i then spN j else ⟨#[]⟩)) := by
  simp [nmC, List.getElem?_map, List.getElem?_range hj]
theorem nmC_set (i : Nat) (hi : i < 52) : (nmC i).toArray.setIfInBounds i (.string (spN i)) = (nmC (i + 1)).toArray := by
  apply Array.ext'
  apply List.ext_getElem?
  intro j
  simp only [Array.toList_setIfInBounds]
  by_cases hj : j < 52
  · rw [nmC_at (i + 1) j hj, List.getElem?_set, nmC_len]
    by_cases e : i = j
    · subst e
      simp [hi]
    · rw [if_neg e, nmC_at i j hj]
      have : (j < i) ↔ (j < i + 1) := by omega
      simp only [this]
  · rw [List.getElem?_eq_none (by simp [nmC_len]; omega), List.getElem?_eq_none (by rw [nmC_len]; omega)]
theorem nmC_zero : madeCells #[.string ⟨#[]⟩] 52 = (nmC 0).toArray := by kernel_rfl
theorem info9 : (Tryz.prog.info? 9).map (fun i => (i.zero, i.size, i.bytes)) = some (some (.string ⟨#[]⟩), 1, 16) := by kernel_rfl
theorem make52 (w : World) : (Instr.makeSlice 22 (.int .i64 52) (.int .i64 52)).run Tryz.prog w = .ok (.slice (some ⟨w.heap.size, 0, none⟩) 52 52) (w.alloc (.cells (nmC 0).toArray 9)) := by
  obtain ⟨i, hi, hz0, hz1, hz2⟩ := info_parts info9
  have q := run_make_row (P := Tryz.prog) 22 9 i (.string ⟨#[]⟩) Tryz.underlying22 hi hz0 hz1 rfl .i64 .i64 52 (by rw [hz2]; decide) (by decide) w
  rw [nmC_zero] at q
  exact q
structure SpI (w1 wr : World) (i : Nat) : Prop where
  row : wr.heap[w1.heap.size]? = some (.cells (nmC i).toArray 9 (0, 0))
  bel : Below w1.heap.size w1 wr
theorem set_row {w : World} {N i : Nat} {cur : Array Value} {t : TypeId} (h : w.heap[N]? = some (.cells cur t (0, 0))) (v : Value) : (w.setCell ⟨N, i, none⟩ v).heap[N]? = some (.cells (cur.setIfInBounds i v) t (0, 0)) := by
  rw [setCell_eq_setRow w N i cur t (0, 0) v h]
  exact setRow_heap w N cur _ t (0, 0) h
theorem SpI.below {w1 wr wx : World} {i : Nat} (h : SpI w1 wr i) (b : Below wr.heap.size wr wx) : SpI w1 wx i := by
  have hlt : w1.heap.size < wr.heap.size := by
    rcases Nat.lt_or_ge w1.heap.size wr.heap.size with q | q
    · exact q
    · have := h.row; rw [Array.getElem?_eq_none q] at this; cases this
  exact ⟨by rw [b.block _ hlt]; exact h.row, h.bel.trans (b.mono h.bel.size)⟩
theorem sp_cell {w0 w1 wr : World} {g cap i j : Nat} (h : w1.ownsRow w0.heap.size 36 8 (.slice (some ⟨g, 0, none⟩) 52 cap) 52 (fl sxF 52)) (b : Below w1.heap.size w1 wr) (hi : i < 52) (hj : j < 8) : wr.cell? ⟨g, i * 8 + j, none⟩ = (sxF i)[j]? := by
  have hlt := (ownsRow_lt h (g := g) rfl).2
  rw [b.cell (p := ⟨g, i * 8 + j, none⟩) hlt]
  have e := fl_at sxF 8 sxF_len 52 i j hi hj
  have hx : j < (sxF i).length := by rw [sxF_len]; exact hj
  rw [List.getElem?_eq_getElem hx] at e ⊢
  have q := World.ownsRow.cells h (g := g) rfl (i * 8 + j) _ e
  rw [Addr.add_lit, Nat.zero_add] at q
  exact q
set_option maxHeartbeats 3200000 in
set_option maxRecDepth 100000 in
/-- tweak.Specs. -/
theorem specs_ok (w0 : World) (hT : Pow w0) : Calls Tryz.prog 4 #[] w0 fun e w' => Hid (∃ b, e = .returned (.slice (some ⟨b, 0, none⟩) 52 52) ∧ w0.heap.size ≤ b ∧ w'.heap[b]? = some (.cells (nmC 52).toArray 9 (0, 0)) ∧ Below w0.heap.size w0 w') := by
  have HT : Hid (Pow w0) := hT
  clear hT
  have mk := make52
  go_enter Tryz.func4, Tryz.ntmps4
  go_wp2_with (go_at_call 6; refine (suites_ok _ HT.out).mono ?_; intro e1 w1 hh; obtain ⟨g, cap, rfl, hown, hbel⟩ := hh.out; have HO : Hid (w1.ownsRow w0.heap.size 36 8 (.slice (some ⟨g, 0, none⟩) 52 cap) 52 (fl sxF 52) ∧ Below w0.heap.size w0 w1) := ⟨hown, hbel⟩; clear hh hown hbel)
  have HS0 : Hid (SpI w1 (w1.alloc (.cells (nmC 0).toArray 9)) 0) := ⟨heap_alloc_new w1 _, (Below.refl _ _).alloc (Nat.le_refl _) _⟩
  generalize w1.alloc (.cells (nmC 0).toArray 9) = wA at HS0 ⊢
  clear mk
  go_loopw [11] (fun vi wr => ∃ i : Nat, vi = .int .i64 (i : Nat) ∧ i ≤ 52 ∧ Hid (SpI w1 wr i)) (fun vi _ => 52 - (intOf vi).toNat)
  case atStart => exact ⟨0, rfl, by omega, HS0⟩
  case round =>
    obtain ⟨i, rfl, hi, HR⟩ := hrel
    clear HS0
    by_cases hlt : i < 52
    · obtain ⟨a, x, y, z, s, f, h, hrow, hf1, hg1⟩ := sx_row i
      have g0 : (0 : Int) ≤ (i : Int) := by omega
      have g1 : (i : Int) < 52 := by omega
      have hsF : ∀ u ad md, (store ad f md).run Tryz.prog u = stored Tryz.prog u ad f md := fun u ad md => run_store Tryz.prog u ad f md hf1
      have hsG : ∀ u ad md, (store ad h md).run Tryz.prog u = stored Tryz.prog u ad h md := fun u ad md => run_store Tryz.prog u ad h md hg1
      clear hf1 hg1
      obtain ⟨NM, HNM⟩ : ∃ q, Hid (spN i = q) := ⟨_, rfl⟩
      rw [HNM.out] at hrow
      have cs : ∀ j, j < 8 → wr.cell? ⟨g, i * 8 + j, none⟩ = (sxF i)[j]? := fun j hj => sp_cell HO.out.1 HR.out.bel hlt hj
      rw [hrow] at cs
      have c0 := cs 0 (by decide)
      have c1 := cs 1 (by decide)
      have c2 := cs 2 (by decide)
      have c3 := cs 3 (by decide)
      have c4 := cs 4 (by decide)
      have c5 := cs 5 (by decide)
      have c6 := cs 6 (by decide)
      have c7 := cs 7 (by decide)
      clear cs hrow
      simp only [List.getElem?_cons_zero, List.getElem?_cons_succ, Nat.add_zero] at c0 c1 c2 c3 c4 c5 c6 c7
      go_upto_region 6 with fail
      obtain ⟨w2, hw2⟩ : ∃ w2, w2 = wr.alloc (.cells #[.string NM, .int .i64 a, .string s, .int .i64 x, .int .i64 y, .int .i64 z, f, h] 36) := ⟨_, rfl⟩
      have HR2 : Hid (SpI w1 w2 i) := by rw [hw2]; exact HR.out.below ((Below.refl _ _).alloc (Nat.le_refl _) _)
      have hb2 := heap_alloc_new wr (.cells #[.string NM, .int .i64 a, .string s, .int .i64 x, .int .i64 y, .int .i64 z, f, h] 36)
      rw [← hw2] at hb2 ⊢
      have d0 : w2.cell? ⟨wr.heap.size, 0, none⟩ = some (.string NM) := by simp [World.cell?, hb2]
      clear hw2 hb2 c0 c1 c2 c3 c4 c5 c6 c7 hsF hsG
      have e0 : w2.cell? ⟨w1.heap.size, i, none⟩ = some (.string ⟨#[]⟩) := by
        rw [World.cell?, HR2.out.row]
        simp [nmC_at i i hlt]
      have e1 : w2.frozen? ⟨w1.heap.size, i, none⟩ = false := by simp [World.frozen?, HR2.out.row]
      clear HR
      have HR3 : Hid (SpI w1 (w2.setCell ⟨w1.heap.size, i, none⟩ (.string NM)) (i + 1)) := by
        refine ⟨?_, HR2.out.bel.setCell (Nat.le_refl _) _⟩
        rw [set_row HR2.out.row, ← HNM.out, nmC_set i hlt]
      go_wp2
      exact ⟨⟨i + 1, by simp, by omega, HR3⟩, by simp [intOf]; omega⟩
    · have g1 : ¬ (i : Int) < 52 := by omega
      have HE : Hid (SpI w1 wr 52) := by
        have q := HR.out
        rw [show i = 52 by omega] at q
        exact q
      clear HR
      go_wp2
      go_ret
      exact ⟨w1.heap.size, rfl, HO.out.2.size, HE.out.row, HO.out.2.trans (HE.out.bel.mono HO.out.2.size)⟩
end Go.Proofs.YtildgjabgengiaaGreatDoor
