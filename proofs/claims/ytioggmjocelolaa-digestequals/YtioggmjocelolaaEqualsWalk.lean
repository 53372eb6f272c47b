import Derived.Test.YtioggmjocelolaaWhole
namespace Go.Proofs.Ytioggmjocelolaa.digestEquals
open Go.RowKit

set_option maxHeartbeats 800000 in
theorem walk (v0 v1 : Value) (xs ys : List Int) (w : World) (nx : xs.length + 70 ≤ 140737488355328) (ny : ys.length + 70 ≤ 140737488355328) (ax : AllBytes xs) (ay : AllBytes ys) (h0 : View w v0 xs) (h1 : View w v1 ys) :
    Calls Try.prog 3 #[v0, v1] w fun e w' => e = .returned (.bool true) ∧ Below w.heap.size w w' := by
  go_enter Try.func3, Try.ntmps3
  go_wp2_with fail
  refine (copy_any _ xs _ nx h0).mono ?_
  rintro e w1 ⟨x, rfl, mx, b1⟩
  go_wp2_with fail
  refine (copy_any _ ys _ ny (h1.kept b1.block)).mono ?_
  rintro e w2 ⟨y, rfl, my, b2⟩
  have mx2 := mx.kept b2.block
  have h02 := (h0.kept b1.block).kept b2.block
  have h12 := (h1.kept b1.block).kept b2.block
  have B2 : Below w.heap.size w w2 := b1.trans (b2.mono b1.size)
  clear mx b1 b2 h0 h1
  go_wp2_with fail
  refine (same_any _ _ xs ys _ h02 h12).mono ?_
  rintro e w3 ⟨rfl, m3, rfl⟩
  obtain ⟨d, hd⟩ : ∃ d, d = decide (xs = ys) := ⟨_, rfl⟩
  rw [← hd]
  have HD : Hid (d = decide (xs = ys)) := hd
  clear hd
  go_wp2_with fail
  refine (equal_any _ _ xs ys _ ax ay (by exact mx2.view.kept (fun _ _ => rfl)) (by exact my.view.kept (fun _ _ => rfl))).mono ?_
  rintro e w4 ⟨rfl, m4, rfl⟩
  rw [← HD.out]
  go_wp2_with fail
  refine (equal_any _ _ ys xs _ ay ax (by exact my.view.kept (fun _ _ => rfl)) (by exact mx2.view.kept (fun _ _ => rfl))).mono ?_
  rintro e w5 ⟨rfl, m5, rfl⟩
  have hsym : decide (ys = xs) = d := by rw [HD.out]; exact decide_eq_decide.2 ⟨Eq.symm, Eq.symm⟩
  rw [hsym]
  clear hsym
  go_wp2_with fail
  refine (equal_any _ _ xs xs _ ax ax (by exact mx2.view.kept (fun _ _ => rfl)) (by exact h02.kept (fun _ _ => rfl))).mono ?_
  rintro e w6 ⟨rfl, m6, rfl⟩
  simp only [decide_true]
  go_wp2_with fail
  refine (whole_any _ _ xs _ _ (by exact mx2.kept (fun _ _ => rfl)) (by exact h02.kept (fun _ _ => rfl))).mono ?_
  rintro e w7 ⟨rfl, m7, rfl⟩
  go_wp2_with fail
  refine (whole_any _ _ ys _ _ (by exact my.kept (fun _ _ => rfl)) (by exact h12.kept (fun _ _ => rfl))).mono ?_
  rintro e w8 ⟨rfl, m8, rfl⟩
  go_wp2
  go_ret
  exact ⟨rfl, ⟨B2.os, B2.tape, B2.output, B2.size, B2.block⟩⟩
end Go.Proofs.Ytioggmjocelolaa.digestEquals
