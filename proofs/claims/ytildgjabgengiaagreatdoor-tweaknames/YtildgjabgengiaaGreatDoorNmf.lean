import Derived.Test.YtildgjabgengiaaGreatDoorNme
import Derived.Laws.Concat
namespace Go.Proofs.YtildgjabgengiaaGreatDoor
open Go.RowKit
set_option linter.unusedVariables false
theorem ns_eq (i : Nat) (hi : i < 3) : nsB i = (⟨#[97, 101, 115]⟩ : ByteArray) ++ itB i ++ (⟨#[45]⟩ : ByteArray) := by
  rcases (show i = 0 ∨ i = 1 ∨ i = 2 by omega) with rfl | rfl | rfl <;> simp [nsB, itB, Lib.itoa, Lib.decDigits, ByteArray.mk_append_mk]
theorem name_eq (j : Nat) (hj : j < 52) : (rwF j)[0]? = some (.string (spN j)) := by
  cases j with
  | zero => rfl
  | succ j =>
    rw [rwF, spN, sxF, ns_eq _ (by omega)]
    rfl
theorem nm_cell {w : World} {b i : Nat} (h : w.heap[b]? = some (.cells (nmC 52).toArray 9 (0, 0))) (hi : i < 52) : w.cell? ⟨b, i, none⟩ = some (.string (spN i)) := by
  rw [World.cell?, h]
  simp [nmC_at 52 i hi, hi]
theorem rw_cell {w : World} {B g cap i : Nat} (h : w.ownsRow B 27 5 (.slice (some ⟨g, 0, none⟩) 52 cap) 52 (fl rwF 52)) (hi : i < 52) : w.cell? ⟨g, i * 5, none⟩ = some (.string (spN i)) := by
  have e := fl_at rwF 5 rwF_len 52 i 0 hi (by decide)
  rw [name_eq i hi] at e
  have q := World.ownsRow.cells h (g := g) rfl (i * 5 + 0) _ e
  rw [Addr.add_lit, Nat.zero_add] at q
  exact q
set_option maxHeartbeats 3200000 in
set_option maxRecDepth 100000 in
/-- The law. -/
theorem names_ok (w0 : World) (hT : Pow w0) (G o cp : Nat) (hD : MdAt w0 G o cp) : Calls Tryz.prog 3 #[] w0 fun e w' => Hid (e = .returned (.bool true) ∧ Below w0.heap.size w0 w') := by
  have H4 : Hid (Calls Tryz.prog 4 #[] w0 fun e w' => Hid (∃ b, e = .returned (.slice (some ⟨b, 0, none⟩) 52 52) ∧ w0.heap.size ≤ b ∧ w'.heap[b]? = some (.cells (nmC 52).toArray 9 (0, 0)) ∧ Below w0.heap.size w0 w')) := specs_ok w0 hT
  have H5 : Hid (∀ w1, Below w0.heap.size w0 w1 → Calls Tryz.prog 5 #[] w1 fun e w' => Hid (∃ g cap, e = .returned (.slice (some ⟨g, 0, none⟩) 52 cap) ∧ w'.ownsRow w1.heap.size 27 5 (.slice (some ⟨g, 0, none⟩) 52 cap) 52 (fl rwF 52) ∧ Below w1.heap.size w1 w')) := fun w1 b => rows_ok w1 G o cp (hD.below b)
  clear hT hD
  go_enter Tryz.func3, Tryz.ntmps3
  go_wp2_with (first
    | (go_at_call 4; refine H4.out.mono ?_; intro e1 w1 hh; obtain ⟨b, rfl, hb, hr, hl⟩ := hh.out; have HA : Hid (w1.heap[b]? = some (.cells (nmC 52).toArray 9 (0, 0)) ∧ Below w0.heap.size w0 w1) := ⟨hr, hl⟩; clear hh hb hr hl)
    | (go_at_call 5; refine (H5.out w1 HA.out.2).mono ?_; intro e2 w2 hh; obtain ⟨g, cap, rfl, ho, hl⟩ := hh.out; have HB : Hid (w2.ownsRow w1.heap.size 27 5 (.slice (some ⟨g, 0, none⟩) 52 cap) 52 (fl rwF 52) ∧ Below w1.heap.size w1 w2) := ⟨ho, hl⟩; clear hh ho hl))
  have HC : Hid (w2.heap[b]? = some (.cells (nmC 52).toArray 9 (0, 0)) ∧ Below w0.heap.size w0 w2) := by
    have hlt : b < w1.heap.size := by
      rcases Nat.lt_or_ge b w1.heap.size with q | q
      · exact q
      · have := HA.out.1; rw [Array.getElem?_eq_none q] at this; cases this
    exact ⟨by rw [HB.out.2.block b hlt]; exact HA.out.1, HA.out.2.trans (HB.out.2.mono HA.out.2.size)⟩
  have HE : Hid (w2.ownsRow w1.heap.size 27 5 (.slice (some ⟨g, 0, none⟩) 52 cap) 52 (fl rwF 52)) := HB.out.1
  clear HA HB H4 H5
  go_loopw [3] (fun vi wr => ∃ i : Nat, vi = .int .i64 (i : Nat) ∧ i ≤ 52 ∧ Hid (wr.heap = w2.heap ∧ wr.os = w2.os ∧ wr.tape = w2.tape ∧ wr.output = w2.output)) (fun vi _ => 52 - (intOf vi).toNat)
  case atStart => exact ⟨0, rfl, by omega, rfl, rfl, rfl, rfl⟩
  case round =>
    obtain ⟨i, rfl, hi, HR⟩ := hrel
    by_cases hlt : i < 52
    · have g0 : (0 : Int) ≤ (i : Int) := by omega
      have g1 : (i : Int) < 52 := by omega
      obtain ⟨NM, HNM⟩ : ∃ x, Hid (spN i = x) := ⟨_, rfl⟩
      have c0 : wr.cell? ⟨b, i, none⟩ = some (.string NM) := by
        rw [← HNM.out, World.cell?_of_block (w := w2) (by rw [HR.out.1])]
        exact nm_cell HC.out.1 hlt
      have c1 : wr.cell? ⟨g, i * 5, none⟩ = some (.string NM) := by
        rw [← HNM.out, World.cell?_of_block (w := w2) (by rw [HR.out.1])]
        exact rw_cell HE.out hlt
      go_upto_region 9 with fail
      go_quiet (fail)
      have HR2 : Hid ((wr.drewN nq).heap = w2.heap ∧ (wr.drewN nq).os = w2.os ∧ (wr.drewN nq).tape = w2.tape ∧ (wr.drewN nq).output = w2.output) := HR
      clear HR c0 c1
      generalize wr.drewN nq = wq at HR2 ⊢
      go_wp2
      exact ⟨⟨i + 1, by simp, by omega, HR2⟩, by simp [intOf]; omega⟩
    · have g1 : ¬ (i : Int) < 52 := by omega
      have HF : Hid (Below w0.heap.size w0 wr) := HC.out.2.trans ⟨HR.out.2.1, HR.out.2.2.1, HR.out.2.2.2, by rw [HR.out.1]; exact Nat.le_refl _, fun _ _ => by rw [HR.out.1]⟩
      clear HR
      go_wp2
      go_ret
      exact ⟨rfl, HF.out⟩
end Go.Proofs.YtildgjabgengiaaGreatDoor
