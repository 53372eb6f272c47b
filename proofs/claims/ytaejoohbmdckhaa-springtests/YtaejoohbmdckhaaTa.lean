import Derived.Test.YtaejoohbmdckhaaWf
namespace Go.Proofs.Ytaejoohbmdckhaa
open Go.RowKit
set_option linter.unusedVariables false
set_option linter.unusedSimpArgs false
theorem heap2 (w : World) (o1 o2 : Obj) : ((w.alloc o1).alloc o2).heap[w.heap.size + 1]? = some o2 := by
  have q := heap_alloc_new (w.alloc o1) o2
  rw [show (w.alloc o1).heap.size = w.heap.size + 1 by simp] at q
  exact q
/-- Bit number j of a byte, from the top. -/
def btF (x j : Nat) : Nat := x / 2 ^ (7 - j) % 2
set_option maxRecDepth 100000 in
set_option maxHeartbeats 2000000 in
theorem rbit_ok (p : Option Addr) (n c : Nat) (f : Nat → Nat) (hn : n ≤ 1048576) (i : Nat) (hi : i < 8 * n) (w : World) (h : By w p n f) : Calls Try.prog 28 #[.slice p n c, .int .i64 (i : Nat)] w fun e w' => e = .returned (.int .i64 (btF (f (i / 8)) (i % 8) : Nat)) ∧ w' = w := by
  obtain ⟨b, off, rfl, hb, hc⟩ := h (by omega)
  obtain ⟨h1, h2⟩ := hc (i / 8) (by omega)
  obtain ⟨y, hy⟩ : ∃ y, Hid (y = f (i / 8)) := ⟨_, rfl⟩
  rw [← hy.out] at h1 h2
  have e1 : Int.tdiv (i : Int) 8 = ((i / 8 : Nat) : Int) := by rw [Int.tdiv_eq_ediv_of_nonneg (by omega)]; omega
  have e2 : Int.tmod (i : Int) 8 = ((i % 8 : Nat) : Int) := by rw [Int.tmod_eq_emod_of_nonneg (by omega)]; omega
  obtain ⟨q, hq⟩ : ∃ q, Hid (q = i / 8) := ⟨_, rfl⟩
  obtain ⟨r, hr⟩ : ∃ q, Hid (q = i % 8) := ⟨_, rfl⟩
  rw [← hq.out] at h1 e1
  rw [← hr.out] at e2
  have hr8 : r < 8 := by rw [hr.out]; omega
  have hqn : q < n := by rw [hq.out]; omega
  have g0 : (0 : Int) ≤ (q : Int) := by omega
  have g1 : (q : Int) < (n : Int) := by omega
  rw [← hy.out, ← hr.out]
  clear hc h hi
  go_enter Try.func28, Try.ntmps28
  go_wp2
  go_ret
  refine ⟨?_, rfl⟩
  congr 2
set_option maxRecDepth 100000 in
set_option maxHeartbeats 2000000 in
theorem rstep_ok (a b : Int) (d : Nat) (hd : d < 4) (ha : a.natAbs + 1 < 2 ^ 20) (hb : b.natAbs + 1 < 2 ^ 20) (w : World) : Calls Try.prog 27 #[.agg #[.int .i64 a, .int .i64 b], .int .i64 (d : Nat)] w fun e w' => e = .returned (.agg #[.int .i64 (a + stR d), .int .i64 (b + stI d)]) ∧ Below w.heap.size w w' := by
  have a1 : -1048576 ≤ a ∧ a ≤ 1048576 := by omega
  have b1 : -1048576 ≤ b ∧ b ≤ 1048576 := by omega
  clear ha hb
  rcases (show d = 0 ∨ d = 1 ∨ d = 2 ∨ d = 3 by omega) with rfl | rfl | rfl | rfl
  all_goals
    go_enter Try.func27, Try.ntmps27
    go_wp2
    refine bodyPost_ret (results_cell_row (P := Try.prog) (p := 4) (ty := 33) rfl _ _ (w.heap.size + 1) 33 _ (0, 0) _ rfl (heap2 _ _ _) Try.underlying33 rfl (by kernel_rfl)) rfl ?_
    refine ⟨?_, ((Below.refl _ w).alloc (Nat.le_refl _) _).alloc (by simp) _⟩
    simp [stR, stI]
    try omega
end Go.Proofs.Ytaejoohbmdckhaa
