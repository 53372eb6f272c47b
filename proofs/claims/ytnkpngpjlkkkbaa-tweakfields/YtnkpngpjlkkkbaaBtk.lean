import Derived.Test.YtnkpngpjlkkkbaaBti
import Derived.Test.YtnkpngpjlkkkbaaPval
namespace Go.Proofs.Ytnkpngpjlkkkbaa
open Go.RowKit Go.Proofs.Ytnkpngpjlkkkbaa.Fld
set_option linter.unusedVariables false
set_option linter.unusedSimpArgs false
theorem itr_undo (k : Nat) (x : BitVec 128) : itr UP k (itr TP k x) = x := by
  induction k with
  | zero => rfl
  | succ k ih =>
    have e1 : itr UP (k + 1) (itr TP (k + 1) x) = itr UP k (UP (itr TP (k + 1) x)) := (itr_comm UP k _).symm
    have e2 : itr TP (k + 1) x = TP (itr TP k x) := rfl
    rw [e1, e2, UT, ih]
theorem dot_D (a b : BitVec 128) : itr UP 128 (M TP a b) = D UP a b := by
  rw [TP_cyc.comm, ← D_M TP_lin TU a b, itr_undo]
theorem rdotD_ok (a b : BitVec 128) (w : World) : Calls Try.prog 14 #[BV a, BV b] w fun e w' => e = .returned (BV (D UP a b)) ∧ Below w.heap.size w w' := by
  refine (rdot_ok a b w).mono fun e w' hh => ?_
  rw [← dot_D]
  exact hh.out
set_option maxHeartbeats 3200000 in
set_option maxRecDepth 100000 in
theorem rpolyval_ok (h : BitVec 128) (ao : Option Addr) (n cap : Nat) (f : Nat → BitVec 128) (w : World) (hB : Blks w ao n f) (hn : n ≤ cap) (hc : cap ≤ 9223372036854775807) : Calls Try.prog 15 #[BV h, .slice ao n cap] w fun e w' => e = .returned (BV (pvF h f n)) ∧ Below w.heap.size w w' := by
  have HB : Hid (Blks w ao n f) := hB
  have HA : Hid (Below w.heap.size w (((w.alloc (.cells #[.int .u8 (byV h 0 : Nat), .int .u8 (byV h 1 : Nat), .int .u8 (byV h 2 : Nat), .int .u8 (byV h 3 : Nat), .int .u8 (byV h 4 : Nat), .int .u8 (byV h 5 : Nat), .int .u8 (byV h 6 : Nat), .int .u8 (byV h 7 : Nat), .int .u8 (byV h 8 : Nat), .int .u8 (byV h 9 : Nat), .int .u8 (byV h 10 : Nat), .int .u8 (byV h 11 : Nat), .int .u8 (byV h 12 : Nat), .int .u8 (byV h 13 : Nat), .int .u8 (byV h 14 : Nat), .int .u8 (byV h 15 : Nat)] 23)).alloc (.cells #[.int .u8 0, .int .u8 0, .int .u8 0, .int .u8 0, .int .u8 0, .int .u8 0, .int .u8 0, .int .u8 0, .int .u8 0, .int .u8 0, .int .u8 0, .int .u8 0, .int .u8 0, .int .u8 0, .int .u8 0, .int .u8 0] 23)).alloc (.cells #[.int .u8 0, .int .u8 0, .int .u8 0, .int .u8 0, .int .u8 0, .int .u8 0, .int .u8 0, .int .u8 0, .int .u8 0, .int .u8 0, .int .u8 0, .int .u8 0, .int .u8 0, .int .u8 0, .int .u8 0, .int .u8 0] 23)) ∧ (((w.alloc (.cells #[.int .u8 (byV h 0 : Nat), .int .u8 (byV h 1 : Nat), .int .u8 (byV h 2 : Nat), .int .u8 (byV h 3 : Nat), .int .u8 (byV h 4 : Nat), .int .u8 (byV h 5 : Nat), .int .u8 (byV h 6 : Nat), .int .u8 (byV h 7 : Nat), .int .u8 (byV h 8 : Nat), .int .u8 (byV h 9 : Nat), .int .u8 (byV h 10 : Nat), .int .u8 (byV h 11 : Nat), .int .u8 (byV h 12 : Nat), .int .u8 (byV h 13 : Nat), .int .u8 (byV h 14 : Nat), .int .u8 (byV h 15 : Nat)] 23)).alloc (.cells #[.int .u8 0, .int .u8 0, .int .u8 0, .int .u8 0, .int .u8 0, .int .u8 0, .int .u8 0, .int .u8 0, .int .u8 0, .int .u8 0, .int .u8 0, .int .u8 0, .int .u8 0, .int .u8 0, .int .u8 0, .int .u8 0] 23)).alloc (.cells #[.int .u8 0, .int .u8 0, .int .u8 0, .int .u8 0, .int .u8 0, .int .u8 0, .int .u8 0, .int .u8 0, .int .u8 0, .int .u8 0, .int .u8 0, .int .u8 0, .int .u8 0, .int .u8 0, .int .u8 0, .int .u8 0] 23)).rangeAt w.heap.size 0 (BL h) ∧ (((w.alloc (.cells #[.int .u8 (byV h 0 : Nat), .int .u8 (byV h 1 : Nat), .int .u8 (byV h 2 : Nat), .int .u8 (byV h 3 : Nat), .int .u8 (byV h 4 : Nat), .int .u8 (byV h 5 : Nat), .int .u8 (byV h 6 : Nat), .int .u8 (byV h 7 : Nat), .int .u8 (byV h 8 : Nat), .int .u8 (byV h 9 : Nat), .int .u8 (byV h 10 : Nat), .int .u8 (byV h 11 : Nat), .int .u8 (byV h 12 : Nat), .int .u8 (byV h 13 : Nat), .int .u8 (byV h 14 : Nat), .int .u8 (byV h 15 : Nat)] 23)).alloc (.cells #[.int .u8 0, .int .u8 0, .int .u8 0, .int .u8 0, .int .u8 0, .int .u8 0, .int .u8 0, .int .u8 0, .int .u8 0, .int .u8 0, .int .u8 0, .int .u8 0, .int .u8 0, .int .u8 0, .int .u8 0, .int .u8 0] 23)).alloc (.cells #[.int .u8 0, .int .u8 0, .int .u8 0, .int .u8 0, .int .u8 0, .int .u8 0, .int .u8 0, .int .u8 0, .int .u8 0, .int .u8 0, .int .u8 0, .int .u8 0, .int .u8 0, .int .u8 0, .int .u8 0, .int .u8 0] 23)).there (w.heap.size + 1) 0 16 ∧ (((w.alloc (.cells #[.int .u8 (byV h 0 : Nat), .int .u8 (byV h 1 : Nat), .int .u8 (byV h 2 : Nat), .int .u8 (byV h 3 : Nat), .int .u8 (byV h 4 : Nat), .int .u8 (byV h 5 : Nat), .int .u8 (byV h 6 : Nat), .int .u8 (byV h 7 : Nat), .int .u8 (byV h 8 : Nat), .int .u8 (byV h 9 : Nat), .int .u8 (byV h 10 : Nat), .int .u8 (byV h 11 : Nat), .int .u8 (byV h 12 : Nat), .int .u8 (byV h 13 : Nat), .int .u8 (byV h 14 : Nat), .int .u8 (byV h 15 : Nat)] 23)).alloc (.cells #[.int .u8 0, .int .u8 0, .int .u8 0, .int .u8 0, .int .u8 0, .int .u8 0, .int .u8 0, .int .u8 0, .int .u8 0, .int .u8 0, .int .u8 0, .int .u8 0, .int .u8 0, .int .u8 0, .int .u8 0, .int .u8 0] 23)).alloc (.cells #[.int .u8 0, .int .u8 0, .int .u8 0, .int .u8 0, .int .u8 0, .int .u8 0, .int .u8 0, .int .u8 0, .int .u8 0, .int .u8 0, .int .u8 0, .int .u8 0, .int .u8 0, .int .u8 0, .int .u8 0, .int .u8 0] 23)).rangeAt (w.heap.size + 2) 0 (BL 0#128) ∧ (((w.alloc (.cells #[.int .u8 (byV h 0 : Nat), .int .u8 (byV h 1 : Nat), .int .u8 (byV h 2 : Nat), .int .u8 (byV h 3 : Nat), .int .u8 (byV h 4 : Nat), .int .u8 (byV h 5 : Nat), .int .u8 (byV h 6 : Nat), .int .u8 (byV h 7 : Nat), .int .u8 (byV h 8 : Nat), .int .u8 (byV h 9 : Nat), .int .u8 (byV h 10 : Nat), .int .u8 (byV h 11 : Nat), .int .u8 (byV h 12 : Nat), .int .u8 (byV h 13 : Nat), .int .u8 (byV h 14 : Nat), .int .u8 (byV h 15 : Nat)] 23)).alloc (.cells #[.int .u8 0, .int .u8 0, .int .u8 0, .int .u8 0, .int .u8 0, .int .u8 0, .int .u8 0, .int .u8 0, .int .u8 0, .int .u8 0, .int .u8 0, .int .u8 0, .int .u8 0, .int .u8 0, .int .u8 0, .int .u8 0] 23)).alloc (.cells #[.int .u8 0, .int .u8 0, .int .u8 0, .int .u8 0, .int .u8 0, .int .u8 0, .int .u8 0, .int .u8 0, .int .u8 0, .int .u8 0, .int .u8 0, .int .u8 0, .int .u8 0, .int .u8 0, .int .u8 0, .int .u8 0] 23)).there (w.heap.size + 2) 0 16 ∧ (((w.alloc (.cells #[.int .u8 (byV h 0 : Nat), .int .u8 (byV h 1 : Nat), .int .u8 (byV h 2 : Nat), .int .u8 (byV h 3 : Nat), .int .u8 (byV h 4 : Nat), .int .u8 (byV h 5 : Nat), .int .u8 (byV h 6 : Nat), .int .u8 (byV h 7 : Nat), .int .u8 (byV h 8 : Nat), .int .u8 (byV h 9 : Nat), .int .u8 (byV h 10 : Nat), .int .u8 (byV h 11 : Nat), .int .u8 (byV h 12 : Nat), .int .u8 (byV h 13 : Nat), .int .u8 (byV h 14 : Nat), .int .u8 (byV h 15 : Nat)] 23)).alloc (.cells #[.int .u8 0, .int .u8 0, .int .u8 0, .int .u8 0, .int .u8 0, .int .u8 0, .int .u8 0, .int .u8 0, .int .u8 0, .int .u8 0, .int .u8 0, .int .u8 0, .int .u8 0, .int .u8 0, .int .u8 0, .int .u8 0] 23)).alloc (.cells #[.int .u8 0, .int .u8 0, .int .u8 0, .int .u8 0, .int .u8 0, .int .u8 0, .int .u8 0, .int .u8 0, .int .u8 0, .int .u8 0, .int .u8 0, .int .u8 0, .int .u8 0, .int .u8 0, .int .u8 0, .int .u8 0] 23)).heap.size = w.heap.size + 3) := by
    have e1 : Below (w.heap.size + 1) (w.alloc (.cells #[.int .u8 (byV h 0 : Nat), .int .u8 (byV h 1 : Nat), .int .u8 (byV h 2 : Nat), .int .u8 (byV h 3 : Nat), .int .u8 (byV h 4 : Nat), .int .u8 (byV h 5 : Nat), .int .u8 (byV h 6 : Nat), .int .u8 (byV h 7 : Nat), .int .u8 (byV h 8 : Nat), .int .u8 (byV h 9 : Nat), .int .u8 (byV h 10 : Nat), .int .u8 (byV h 11 : Nat), .int .u8 (byV h 12 : Nat), .int .u8 (byV h 13 : Nat), .int .u8 (byV h 14 : Nat), .int .u8 (byV h 15 : Nat)] 23)) (((w.alloc (.cells #[.int .u8 (byV h 0 : Nat), .int .u8 (byV h 1 : Nat), .int .u8 (byV h 2 : Nat), .int .u8 (byV h 3 : Nat), .int .u8 (byV h 4 : Nat), .int .u8 (byV h 5 : Nat), .int .u8 (byV h 6 : Nat), .int .u8 (byV h 7 : Nat), .int .u8 (byV h 8 : Nat), .int .u8 (byV h 9 : Nat), .int .u8 (byV h 10 : Nat), .int .u8 (byV h 11 : Nat), .int .u8 (byV h 12 : Nat), .int .u8 (byV h 13 : Nat), .int .u8 (byV h 14 : Nat), .int .u8 (byV h 15 : Nat)] 23)).alloc (.cells #[.int .u8 0, .int .u8 0, .int .u8 0, .int .u8 0, .int .u8 0, .int .u8 0, .int .u8 0, .int .u8 0, .int .u8 0, .int .u8 0, .int .u8 0, .int .u8 0, .int .u8 0, .int .u8 0, .int .u8 0, .int .u8 0] 23)).alloc (.cells #[.int .u8 0, .int .u8 0, .int .u8 0, .int .u8 0, .int .u8 0, .int .u8 0, .int .u8 0, .int .u8 0, .int .u8 0, .int .u8 0, .int .u8 0, .int .u8 0, .int .u8 0, .int .u8 0, .int .u8 0, .int .u8 0] 23)) := ((Below.refl _ _).alloc (by simp) _).alloc (by simp) _
    refine ⟨below3 w _ _ _, range_below (rangeAt_new w #[.int .u8 (byV h 0 : Nat), .int .u8 (byV h 1 : Nat), .int .u8 (byV h 2 : Nat), .int .u8 (byV h 3 : Nat), .int .u8 (byV h 4 : Nat), .int .u8 (byV h 5 : Nat), .int .u8 (byV h 6 : Nat), .int .u8 (byV h 7 : Nat), .int .u8 (byV h 8 : Nat), .int .u8 (byV h 9 : Nat), .int .u8 (byV h 10 : Nat), .int .u8 (byV h 11 : Nat), .int .u8 (byV h 12 : Nat), .int .u8 (byV h 13 : Nat), .int .u8 (byV h 14 : Nat), .int .u8 (byV h 15 : Nat)] 23) e1 (by omega), ?_, ?_, ?_, by simp⟩
    · have q := there_new (w.alloc (.cells #[.int .u8 (byV h 0 : Nat), .int .u8 (byV h 1 : Nat), .int .u8 (byV h 2 : Nat), .int .u8 (byV h 3 : Nat), .int .u8 (byV h 4 : Nat), .int .u8 (byV h 5 : Nat), .int .u8 (byV h 6 : Nat), .int .u8 (byV h 7 : Nat), .int .u8 (byV h 8 : Nat), .int .u8 (byV h 9 : Nat), .int .u8 (byV h 10 : Nat), .int .u8 (byV h 11 : Nat), .int .u8 (byV h 12 : Nat), .int .u8 (byV h 13 : Nat), .int .u8 (byV h 14 : Nat), .int .u8 (byV h 15 : Nat)] 23)) #[.int .u8 0, .int .u8 0, .int .u8 0, .int .u8 0, .int .u8 0, .int .u8 0, .int .u8 0, .int .u8 0, .int .u8 0, .int .u8 0, .int .u8 0, .int .u8 0, .int .u8 0, .int .u8 0, .int .u8 0, .int .u8 0] 23 16 (Nat.le_refl _)
      have q2 := World.there_alloc q (.cells #[.int .u8 0, .int .u8 0, .int .u8 0, .int .u8 0, .int .u8 0, .int .u8 0, .int .u8 0, .int .u8 0, .int .u8 0, .int .u8 0, .int .u8 0, .int .u8 0, .int .u8 0, .int .u8 0, .int .u8 0, .int .u8 0] 23)
      simpa using q2
    · have q := range_zero16 ((w.alloc (.cells #[.int .u8 (byV h 0 : Nat), .int .u8 (byV h 1 : Nat), .int .u8 (byV h 2 : Nat), .int .u8 (byV h 3 : Nat), .int .u8 (byV h 4 : Nat), .int .u8 (byV h 5 : Nat), .int .u8 (byV h 6 : Nat), .int .u8 (byV h 7 : Nat), .int .u8 (byV h 8 : Nat), .int .u8 (byV h 9 : Nat), .int .u8 (byV h 10 : Nat), .int .u8 (byV h 11 : Nat), .int .u8 (byV h 12 : Nat), .int .u8 (byV h 13 : Nat), .int .u8 (byV h 14 : Nat), .int .u8 (byV h 15 : Nat)] 23)).alloc (.cells #[.int .u8 0, .int .u8 0, .int .u8 0, .int .u8 0, .int .u8 0, .int .u8 0, .int .u8 0, .int .u8 0, .int .u8 0, .int .u8 0, .int .u8 0, .int .u8 0, .int .u8 0, .int .u8 0, .int .u8 0, .int .u8 0] 23))
      simpa using q
    · have q := there_new ((w.alloc (.cells #[.int .u8 (byV h 0 : Nat), .int .u8 (byV h 1 : Nat), .int .u8 (byV h 2 : Nat), .int .u8 (byV h 3 : Nat), .int .u8 (byV h 4 : Nat), .int .u8 (byV h 5 : Nat), .int .u8 (byV h 6 : Nat), .int .u8 (byV h 7 : Nat), .int .u8 (byV h 8 : Nat), .int .u8 (byV h 9 : Nat), .int .u8 (byV h 10 : Nat), .int .u8 (byV h 11 : Nat), .int .u8 (byV h 12 : Nat), .int .u8 (byV h 13 : Nat), .int .u8 (byV h 14 : Nat), .int .u8 (byV h 15 : Nat)] 23)).alloc (.cells #[.int .u8 0, .int .u8 0, .int .u8 0, .int .u8 0, .int .u8 0, .int .u8 0, .int .u8 0, .int .u8 0, .int .u8 0, .int .u8 0, .int .u8 0, .int .u8 0, .int .u8 0, .int .u8 0, .int .u8 0, .int .u8 0] 23)) #[.int .u8 0, .int .u8 0, .int .u8 0, .int .u8 0, .int .u8 0, .int .u8 0, .int .u8 0, .int .u8 0, .int .u8 0, .int .u8 0, .int .u8 0, .int .u8 0, .int .u8 0, .int .u8 0, .int .u8 0, .int .u8 0] 23 16 (Nat.le_refl _)
      simpa using q
  clear hB
  have hni : ((n : Nat) : Int) ≤ (cap : Nat) := by omega
  have hci : ((cap : Nat) : Int) ≤ 9223372036854775807 := by omega
  obtain ⟨Lh, HLh⟩ : ∃ L, Hid (L = BL h) := ⟨_, rfl⟩
  have hlh : Hid (Lh.length = 16) := by show _ = _; rw [HLh.out]; rfl
  show Calls Try.prog 15 #[.agg #[.int .u8 (byV h 0 : Nat), .int .u8 (byV h 1 : Nat), .int .u8 (byV h 2 : Nat), .int .u8 (byV h 3 : Nat), .int .u8 (byV h 4 : Nat), .int .u8 (byV h 5 : Nat), .int .u8 (byV h 6 : Nat), .int .u8 (byV h 7 : Nat), .int .u8 (byV h 8 : Nat), .int .u8 (byV h 9 : Nat), .int .u8 (byV h 10 : Nat), .int .u8 (byV h 11 : Nat), .int .u8 (byV h 12 : Nat), .int .u8 (byV h 13 : Nat), .int .u8 (byV h 14 : Nat), .int .u8 (byV h 15 : Nat)], .slice ao n cap] w _
  go_enter Try.func15, Try.ntmps15
  go_upto_region 2 with fail
  generalize ((w.alloc (.cells #[.int .u8 (byV h 0 : Nat), .int .u8 (byV h 1 : Nat), .int .u8 (byV h 2 : Nat), .int .u8 (byV h 3 : Nat), .int .u8 (byV h 4 : Nat), .int .u8 (byV h 5 : Nat), .int .u8 (byV h 6 : Nat), .int .u8 (byV h 7 : Nat), .int .u8 (byV h 8 : Nat), .int .u8 (byV h 9 : Nat), .int .u8 (byV h 10 : Nat), .int .u8 (byV h 11 : Nat), .int .u8 (byV h 12 : Nat), .int .u8 (byV h 13 : Nat), .int .u8 (byV h 14 : Nat), .int .u8 (byV h 15 : Nat)] 23)).alloc (.cells #[.int .u8 0, .int .u8 0, .int .u8 0, .int .u8 0, .int .u8 0, .int .u8 0, .int .u8 0, .int .u8 0, .int .u8 0, .int .u8 0, .int .u8 0, .int .u8 0, .int .u8 0, .int .u8 0, .int .u8 0, .int .u8 0] 23)).alloc (.cells #[.int .u8 0, .int .u8 0, .int .u8 0, .int .u8 0, .int .u8 0, .int .u8 0, .int .u8 0, .int .u8 0, .int .u8 0, .int .u8 0, .int .u8 0, .int .u8 0, .int .u8 0, .int .u8 0, .int .u8 0, .int .u8 0] 23) = w3 at HA ⊢
  rw [← HLh.out] at HA
  go_wp2
  go_loopw [6] (fun i wr => ∃ k : Nat, k ≤ n ∧ i = .int .i64 (k : Nat) ∧ Hid (Below (w.heap.size + 2) w3 wr ∧ wr.rangeAt (w.heap.size + 2) 0 (BL (pvF h f k)) ∧ wr.there (w.heap.size + 2) 0 16 ∧ w.heap.size + 3 ≤ wr.heap.size)) (fun i _ => n - (intOf i).toNat)
  case atStart => exact ⟨0, by omega, rfl, Below.refl _ _, HA.out.2.2.2.1, HA.out.2.2.2.2.1, by rw [HA.out.2.2.2.2.2]; exact Nat.le_refl _⟩
  case round =>
    obtain ⟨k, hk, rfl, HR⟩ := hrel
    by_cases hlt : k < n
    · obtain ⟨b, off, hao, HBK⟩ : ∃ b off, ao = some ⟨b, off, none⟩ ∧ Hid (b < w.heap.size ∧ ∀ i, i < n → w.rangeAt b (off + i * 16) (BL (f i))) := by
        rcases HB.out with h0 | ⟨b, off, e, q⟩
        · omega
        · exact ⟨b, off, e, q⟩
      subst hao
      have KX : Hid (∀ u, Calls Try.prog 31 #[.agg (BL (pvF h f k)).toArray, .agg (BL (f k)).toArray] u fun e w' => e = .returned (.agg (BL (pvF h f k ^^^ f k)).toArray) ∧ Below u.heap.size u w') := fun u => rplus_ok _ _ u
      have KD : Hid (∀ u, Calls Try.prog 14 #[.agg (BL (pvF h f k ^^^ f k)).toArray, .agg Lh.toArray] u fun e w' => e = .returned (.agg (BL (pvF h f (k + 1))).toArray) ∧ Below u.heap.size u w') := fun u => by rw [HLh.out]; exact rdotD_ok _ h u
      obtain ⟨L0, HL0⟩ : ∃ L, Hid (L = BL (pvF h f k)) := ⟨_, rfl⟩
      obtain ⟨Lf, HLf⟩ : ∃ L, Hid (L = BL (f k)) := ⟨_, rfl⟩
      obtain ⟨L1, HL1⟩ : ∃ L, Hid (L = BL (pvF h f k ^^^ f k)) := ⟨_, rfl⟩
      obtain ⟨L2, HL2⟩ : ∃ L, Hid (L = BL (pvF h f (k + 1))) := ⟨_, rfl⟩
      rw [← HL0.out, ← HLf.out, ← HL1.out] at KX
      rw [← HL1.out, ← HL2.out] at KD
      have hl0 : Hid (L0.length = 16) := by show _ = _; rw [HL0.out]; rfl
      have hlf : Hid (Lf.length = 16) := by show _ = _; rw [HLf.out]; rfl
      have hl2 : Hid (L2.length = 16) := by show _ = _; rw [HL2.out]; rfl
      have hof : Hid (Lf.toArray.all (·.oneCell') = true) := by show _ = _; rw [HLf.out]; exact BL_one _
      have ho2 : Hid (L2.toArray.all (·.oneCell') = true) := by show _ = _; rw [HL2.out]; exact BL_one _
      have GF : Hid (wr.rangeAt b (off + k * 16) Lf) := by
        obtain ⟨p1, p2, p3, p4, p5, p6⟩ := HA.out
        have hb0 := HBK.out.1
        show World.rangeAt _ _ _ _
        rw [HLf.out]
        exact range_same (range_same (HBK.out.2 k hlt) (p1.block b hb0)) (HR.out.1.block b (by omega))
      have hki : ((k : Nat) : Int) < (n : Nat) := by omega
      have k0 : (0 : Int) ≤ (k : Int) := by omega
      go_upto_region 5 with fail
      have H6 : Hid (Below (w.heap.size + 2) w3 wr ∧ wr.rangeAt (w.heap.size + 2) 0 L0 ∧ wr.there (w.heap.size + 2) 0 16 ∧ w.heap.size + 3 ≤ wr.heap.size ∧ wr.rangeAt w.heap.size 0 Lh ∧ b < wr.heap.size) := by
        obtain ⟨q1, q2, q3, q4⟩ := HR.out
        obtain ⟨p1, p2, p3, p4, p5, p6⟩ := HA.out
        have hb0 := HBK.out.1
        exact ⟨q1, by rw [HL0.out]; exact q2, q3, q4, range_below p2 q1 (by omega), by omega⟩
      have g0 : Hid (∀ u, Below wr.heap.size wr u → u.rangeAt (w.heap.size + 2) 0 L0) := fun u hu => range_below H6.out.2.1 hu (by have := H6.out.2.2.2.1; omega)
      have gf : Hid (∀ u, Below wr.heap.size wr u → u.rangeAt b (off + k * 16) Lf) := fun u hu => range_same GF.out (hu.block b H6.out.2.2.2.2.2)
      have gh : Hid (∀ u, Below wr.heap.size wr u → u.rangeAt w.heap.size 0 Lh) := fun u hu => range_below H6.out.2.2.2.2.1 hu (by have := H6.out.2.2.2.1; omega)
      have hS0 : Below wr.heap.size wr wr.drew := (Below.refl _ _).drew
      refine wp_region_noPanic ?_
      refine wp_region_till (fun u => Below (wr.heap.size) wr u) 8 (by kernel_rfl) (by decide) (by decide +kernel) (by decide +kernel) (by decide +kernel) (fun inv => ?_)
      refine till_at 0 13 (.agg L0.toArray) inv rfl rfl (by decide) (by decide +kernel) (by decide +kernel) (fun _ _ _ h => h) (hS0) (yieldsIf_load_mid (by rfl) 23 (.tmp 5) rfl (w.heap.size + 2) 0 rfl L0 _ (fun u hu => g0.out u hu) Try.underlying23 rfl (by rw [hl0.out]; exact size23)) (fun inv' => ?_)
      clear inv; have inv := inv'; clear inv'
      simp only [List.setIfInBounds_toArray, List.set_cons_zero, List.set_cons_succ]
      refine till_at 1 14 (.slice (some ⟨b, off, none⟩) n cap) inv rfl rfl (by decide) (by decide +kernel) (by decide +kernel) (fun _ _ _ h => h) (hS0) (Or.inl ⟨by rfl, fun w' hS' => by go_simp⟩) (fun inv' => ?_)
      clear inv; have inv := inv'; clear inv'
      simp only [List.setIfInBounds_toArray, List.set_cons_zero, List.set_cons_succ]
      refine till_at 2 15 (.int .i64 (k : Nat)) inv rfl rfl (by decide) (by decide +kernel) (by decide +kernel) (fun _ _ _ h => h) (hS0) (Or.inl ⟨by rfl, fun w' hS' => by go_simp⟩) (fun inv' => ?_)
      clear inv; have inv := inv'; clear inv'
      simp only [List.setIfInBounds_toArray, List.set_cons_zero, List.set_cons_succ]
      refine till_at 3 16 (.pointer (some ⟨b, off + k * 16, none⟩)) inv rfl rfl (by decide) (by decide +kernel) (by decide +kernel) (fun _ _ _ h => h) (hS0) (Or.inl ⟨by rfl, fun w' hS' => by go_simp⟩) (fun inv' => ?_)
      clear inv; have inv := inv'; clear inv'
      simp only [List.setIfInBounds_toArray, List.set_cons_zero, List.set_cons_succ]
      refine till_at 4 17 (.agg Lf.toArray) inv rfl rfl (by decide) (by decide +kernel) (by decide +kernel) (fun _ _ _ h => h) (hS0) (yieldsIf_load_mid (by rfl) 23 (.tmp 16) rfl b (off + k * 16) rfl Lf _ (fun u hu => gf.out u hu) Try.underlying23 rfl (by rw [hlf.out]; exact size23)) (fun inv' => ?_)
      clear inv; have inv := inv'; clear inv'
      simp only [List.setIfInBounds_toArray, List.set_cons_zero, List.set_cons_succ]
      refine till_at 6 19 (.agg Lh.toArray) inv rfl rfl (by decide) (by decide +kernel) (by decide +kernel) (fun _ _ _ h => h) (hS0) (yieldsIf_load_mid (by rfl) 23 (.tmp 2) rfl w.heap.size 0 rfl Lh _ (fun u hu => gh.out u hu) Try.underlying23 rfl (by rw [hlh.out]; exact size23)) (fun inv' => ?_)
      clear inv; have inv := inv'; clear inv'
      simp only [List.setIfInBounds_toArray, List.set_cons_zero, List.set_cons_succ]
      refine till_head (i := 5) inv (by decide +kernel) (by decide) rfl (fun K hK => ?_)
      go_simp
      refine (KX.out _).mono ?_
      rintro e1 u1 ⟨rfl, hbu1⟩
      have hSu1 : Below wr.heap.size wr u1 := (hS0).trans (hbu1.mono (hS0).size)
      go_wp2_with fail
      refine hK.out _ _ hSu1 (fun inv' => ?_)
      clear hK K inv; have inv := inv'; clear inv'
      try simp only [List.setIfInBounds_toArray, List.set_cons_zero, List.set_cons_succ]
      refine till_head (i := 7) inv (by decide +kernel) (by decide) rfl (fun K hK => ?_)
      go_simp
      refine (KD.out _).mono ?_
      rintro e1 u2 ⟨rfl, hbu2⟩
      have hSu2 : Below wr.heap.size wr u2 := (hSu1).trans (hbu2.mono (hSu1).size)
      go_wp2_with fail
      refine hK.out _ _ hSu2 (fun inv' => ?_)
      clear hK K inv; have inv := inv'; clear inv'
      try simp only [List.setIfInBounds_toArray, List.set_cons_zero, List.set_cons_succ]
      have HW : Hid (u2.there (w.heap.size + 2) 0 L2.length ∧ Below wr.heap.size wr u2) := ⟨by rw [hl2.out]; exact there_below H6.out.2.2.1 hSu2 (by have := H6.out.2.2.2.1; omega), hSu2⟩
      refine till_tail (i := 8) (by decide +kernel) (by decide) rfl (fun K hK => ?_)
      rw [if_pos (by rfl)]
      refine wp_store_mid 23 (.tmp 5) (.tmp 20) rfl (w.heap.size + 2) 0 L2.toArray rfl rfl (by simpa using HW.out.1) (by rw [List.size_toArray, hl2.out]; exact size23) ho2.out ?_
      refine hK.out _ _ ?_
      clear hK K
      try simp only [List.setIfInBounds_toArray, List.set_cons_zero, List.set_cons_succ]
      refine till_done (by decide +kernel) ?_ _
      refine NoPanic.normal ?_
      go_wp2
      refine ⟨⟨k + 1, by omega, rfl, ?_⟩, by simp only [intOf]; omega⟩
      have hsz := HW.out.2.size
      have h4 := H6.out.2.2.2.1
      refine ⟨belowB_setCells _ (Nat.le_refl _) _ _ _ (H6.out.1.trans (HW.out.2.mono (by omega))), ?_, ?_, by rw [size_setCells]; omega⟩
      · rw [← HL2.out]; exact World.rangeAt_setCells_same _ _ _ _ HW.out.1
      · refine World.there_setCells ?_ _ _ _
        have q := HW.out.1
        rw [hl2.out] at q
        exact q
    · obtain rfl : k = n := by omega
      have H9 : Hid (Below w.heap.size w wr ∧ wr.there (w.heap.size + 1) 0 16 ∧ wr.rangeAt (w.heap.size + 2) 0 (BL (pvF h f k)) ∧ w.heap.size + 3 ≤ wr.heap.size) := by
        obtain ⟨p1, p2, p3, p4, p5, p6⟩ := HA.out
        obtain ⟨q1, q2, q3, q4⟩ := HR.out
        exact ⟨p1.trans (q1.mono (by omega)), there_below p3 q1 (by omega), q2, q4⟩
      obtain ⟨LR, HLR⟩ : ∃ L, Hid (L = BL (pvF h f k)) := ⟨_, rfl⟩
      rw [← HLR.out] at H9
      have hlr : Hid (LR.length = 16) := by show _ = _; rw [HLR.out]; rfl
      have hor : Hid (LR.toArray.all (·.oneCell') = true) := by show _ = _; rw [HLR.out]; exact BL_one _
      clear HR hlt hk
      have hTH : wr.there (w.heap.size + 1) 0 LR.length := by rw [hlr.out]; exact H9.out.2.1
      go_wp2_with (first
        | (refine wpList_load_mid (by rfl) 23 (.tmp 5) (by rfl) (w.heap.size + 2) 0 (by rfl) LR _ H9.out.2.2.1 Try.underlying23 rfl (by rw [hlr.out]; exact size23) ?_)
        | (refine wpList_store_mid (by rfl) 23 (.tmp 4) (.tmp 21) (by rfl) (w.heap.size + 1) 0 LR.toArray (by rfl) (by rfl) (by simpa using hTH) (by rw [List.size_toArray, hlr.out]; exact size23) hor.out ?_))
      refine ret_array LR Try.results15 rfl (World.rangeAt_setCells_same _ _ _ _ hTH) Try.underlying23 rfl (by rw [hlr.out]; exact size23) ⟨?_, belowB_setCells _ (by omega) _ _ _ H9.out.1⟩
      rw [HLR.out]
      rfl
end Go.Proofs.Ytnkpngpjlkkkbaa
