import Derived.Test.YtdhfnehmbambpabDoorNTest
import Derived.OwnWalk
import Derived.Deep.DeepMust
namespace Go.Proofs.YtdhfnehmbambpabDoor
open Go.RowKit
set_option linter.unusedVariables false
set_option linter.unusedSimpArgs false
set_option maxHeartbeats 1600000 in
set_option maxRecDepth 100000 in
theorem judge_zero (w : World) : Calls Tryd.prog 12 #[.agg #[.int .i64 0, .int .i64 0, .int .i64 0, .int .i64 0, .int .i64 0, .int .i64 0, .int .i64 0, .int .i64 0, .int .i64 0, .int .i64 0, .int .i64 0, .int .i64 0, .int .i64 0, .int .i64 0, .int .i64 0]] w fun e w' => e = .returned (.int .i64 2) ∧ Below w.heap.size w w' := by
  go_enter Tryd.func12, Tryd.ntmps12
  go_wp2
  go_ret
  exact ⟨rfl, ((Below.refl _ w).alloc (Nat.le_refl _) _).alloc (by simp) _⟩
theorem Tryd.info5 : (Tryd.prog.info? 5).map (fun i => (i.zero, i.size, i.bytes)) = some (some (.int .u8 0), 1, 1) := by kernel_rfl
theorem make_wanted {P : Program} (w : World) {ops : Array Oper} {rest : List Oper} {o : Oper} {a : Act} {Q : Exit → Act → World → Prop}
    (hg : Region.wanted o (yielded ops a.tmps) = true) (l c : Operand) (t : TypeId) (hop : o.op = Op.makeSlice t l c)
    (base : Nat) (e : TypeId) (i : TypeInfo) (z : Value) (size : Nat) (h1 : P.underlying t = some (.slice e)) (h2 : P.info? e = some i) (h3 : i.zero = some z) (h4 : i.size = size)
    (kl kc : IntKind) (L C : Int) (n : Nat) (hl : a.eval l = .int kl L) (hc : a.eval c = .int kc C) (hL : L = (n : Int)) (hC : C = (n : Int)) (b2 : i.bytes * n ≤ 281474976710656) (b3 : n ≤ maxLen) (b4 : base ≤ w.heap.size)
    (hK : ∀ w', w'.ownsRow base e size (.slice (some ⟨w.heap.size, 0, none⟩) n n) n (madeCells z.cells (n * size)).toList → w.grownBy w' none → wpList P ops Q rest (a.put o.dst (.slice (some ⟨w.heap.size, 0, none⟩) n n)) w') :
    wpList P ops Q (o :: rest) a w := by
  refine wpList_step fun K hK' => ?_
  rw [if_pos hg]
  obtain ⟨w', hrun, r1, r2⟩ := run_make_full (P := P) w base t e i z size h1 h2 h3 h4 kl kc n b2 b3 b4
  subst hL
  subst hC
  unfold Oper.wp
  simp [execOp, hop, hl, hc, hrun, Result.andThen]
  exact hK' _ _ (hK w' r1 r2)
theorem eql_zero (w : World) : (binOp .eql 35 (.agg #[.int .i64 0, .int .i64 0, .int .i64 0, .int .i64 0, .int .i64 0, .int .i64 0, .int .i64 0, .int .i64 0, .int .i64 0, .int .i64 0, .int .i64 0, .int .i64 0, .int .i64 0, .int .i64 0, .int .i64 0]) (.agg #[.int .i64 0, .int .i64 0, .int .i64 0, .int .i64 0, .int .i64 0, .int .i64 0, .int .i64 0, .int .i64 0, .int .i64 0, .int .i64 0, .int .i64 0, .int .i64 0, .int .i64 0, .int .i64 0, .int .i64 0])).run Tryd.prog w = .ok (.bool true) w := by kernel_rfl
set_option maxHeartbeats 1600000 in
set_option maxRecDepth 100000 in
theorem none_ok (w : World) : Calls Tryd.prog 3 #[] w fun e w' => e = .returned (.bool true) ∧ Below w.heap.size w w' := by
  obtain ⟨i0, hi, hz0, hz1, hz2⟩ := info_parts Tryd.info5
  go_enter Tryd.func3, Tryd.ntmps3
  go_upto_region 3 with (go_at_call 6; refine (draw_nil _).mono ?_; rintro e w0 ⟨rfl, hw0⟩; obtain rfl := hw0.symm)
  go_cut [36] from 12 to 36 (fun b wx => b = .bool false ∧ Hid (Below w.heap.size w wx))
  case first =>
    go_wp2_with (first
      | (at_make; go_must (refine make_wanted _ (by simp [Region.wanted, yielded, Act.put]) _ _ 23 rfl w.heap.size 5 i0 (.int .u8 0) 1 Tryd.underlying23 hi hz0 hz1 .i64 .i64 16 16 16 rfl rfl rfl rfl ?_ ?_ ?_ ?_))
      | (go_at_call 7; refine (num_ok _ _).mono ?_; rintro e w0 ⟨rfl, hw0⟩; obtain rfl := hw0.symm))
    · rw [hz2]; omega
    · unfold maxLen; omega
    · exact Nat.le_refl _
    intro w1 hown hgr
    have HB1 : Hid (Below w.heap.size w w1) := (Below.refl _ _).grown hgr (Nat.le_refl _) (by intro k hk; cases hk)
    clear hown hgr
    go_wp2_with (first
      | (go_at_call 8; refine (feed_nil _ _).mono ?_; rintro e w0 ⟨rfl, hw0⟩; obtain rfl := hw0.symm)
      | (go_at_call 7; refine (num_ok _ _).mono ?_; rintro e w0 ⟨rfl, hw0⟩; obtain rfl := hw0.symm)
      | (go_at_call 9; refine (left_nil _).mono ?_; rintro e w0 ⟨rfl, hw0⟩; obtain rfl := hw0.symm)
      | (go_at_call 10; refine (copy_nil _).mono ?_; rintro e w0 ⟨rfl, hw0⟩; obtain rfl := hw0.symm))
    go_meet
    exact ⟨rfl, HB1⟩
  case rest =>
  obtain ⟨rfl, HB⟩ := hcut
  go_wp2_with (first
    | (at_make; go_must (refine wpList_make_full _ rfl _ _ 23 rfl w.heap.size 5 i0 (.int .u8 0) 1 Tryd.underlying23 hi hz0 hz1 .i64 .i64 1048577 1048577 1048577 rfl rfl rfl rfl ?_ ?_ ?_ ?_)))
  · rw [hz2]; omega
  · unfold maxLen; omega
  · exact HB.out.size
  intro w1 hown hgr
  have HB1 : Hid (Below w.heap.size w w1) := HB.out.grown hgr HB.out.size (by intro k hk; cases hk)
  clear hown hgr
  have K11 : Hid (∀ a u, Calls Tryd.prog 11 #[.slice a 1048577 1048577] u fun e w' => e = .returned (.tuple #[.agg #[.int .i64 0, .int .i64 0, .int .i64 0, .int .i64 0, .int .i64 0, .int .i64 0, .int .i64 0, .int .i64 0, .int .i64 0, .int .i64 0, .int .i64 0, .int .i64 0, .int .i64 0, .int .i64 0, .int .i64 0], .int .i64 4]) ∧ Below u.heap.size u w') := fun a u => test_long a 1048577 1048577 (by decide) u
  go_wp2_with (go_at_call 11; refine (K11.out _ _).mono ?_)
  rintro e w2 ⟨rfl, hb⟩
  have HB2 : Hid (Below w.heap.size w (w2.alloc (.cells #[.int .i64 0, .int .i64 0, .int .i64 0, .int .i64 0, .int .i64 0, .int .i64 0, .int .i64 0, .int .i64 0, .int .i64 0, .int .i64 0, .int .i64 0, .int .i64 0, .int .i64 0, .int .i64 0, .int .i64 0] 35)) ∧ (w2.alloc (.cells #[.int .i64 0, .int .i64 0, .int .i64 0, .int .i64 0, .int .i64 0, .int .i64 0, .int .i64 0, .int .i64 0, .int .i64 0, .int .i64 0, .int .i64 0, .int .i64 0, .int .i64 0, .int .i64 0, .int .i64 0] 35)).rangeAt w2.heap.size 0 [.int .i64 0, .int .i64 0, .int .i64 0, .int .i64 0, .int .i64 0, .int .i64 0, .int .i64 0, .int .i64 0, .int .i64 0, .int .i64 0, .int .i64 0, .int .i64 0, .int .i64 0, .int .i64 0, .int .i64 0] ∧ w2.heap.size < (w2.alloc (.cells #[.int .i64 0, .int .i64 0, .int .i64 0, .int .i64 0, .int .i64 0, .int .i64 0, .int .i64 0, .int .i64 0, .int .i64 0, .int .i64 0, .int .i64 0, .int .i64 0, .int .i64 0, .int .i64 0, .int .i64 0] 35)).heap.size) := by
    have h1 := HB1.out.trans (hb.mono HB1.out.size)
    exact ⟨h1.alloc h1.size _, rangeAt_new w2 _ _, by simp⟩
  clear hb HB1 K11
  go_upto_region 6 with fail
  generalize w2.alloc (.cells #[.int .i64 0, .int .i64 0, .int .i64 0, .int .i64 0, .int .i64 0, .int .i64 0, .int .i64 0, .int .i64 0, .int .i64 0, .int .i64 0, .int .i64 0, .int .i64 0, .int .i64 0, .int .i64 0, .int .i64 0] 35) = w3 at HB2 ⊢
  generalize w2.heap.size = g2 at HB2 ⊢
  go_wp2_with (go_at_call 11; refine (test_nil _).mono ?_)
  rintro e w4 ⟨rfl, hb⟩
  have HB4 : Hid (Below w.heap.size w (w4.alloc (.cells #[.int .i64 0, .int .i64 0, .int .i64 0, .int .i64 0, .int .i64 0, .int .i64 0, .int .i64 0, .int .i64 0, .int .i64 0, .int .i64 0, .int .i64 0, .int .i64 0, .int .i64 0, .int .i64 0, .int .i64 0] 35)) ∧ (w4.alloc (.cells #[.int .i64 0, .int .i64 0, .int .i64 0, .int .i64 0, .int .i64 0, .int .i64 0, .int .i64 0, .int .i64 0, .int .i64 0, .int .i64 0, .int .i64 0, .int .i64 0, .int .i64 0, .int .i64 0, .int .i64 0] 35)).rangeAt w4.heap.size 0 [.int .i64 0, .int .i64 0, .int .i64 0, .int .i64 0, .int .i64 0, .int .i64 0, .int .i64 0, .int .i64 0, .int .i64 0, .int .i64 0, .int .i64 0, .int .i64 0, .int .i64 0, .int .i64 0, .int .i64 0] ∧ (w4.alloc (.cells #[.int .i64 0, .int .i64 0, .int .i64 0, .int .i64 0, .int .i64 0, .int .i64 0, .int .i64 0, .int .i64 0, .int .i64 0, .int .i64 0, .int .i64 0, .int .i64 0, .int .i64 0, .int .i64 0, .int .i64 0] 35)).rangeAt g2 0 [.int .i64 0, .int .i64 0, .int .i64 0, .int .i64 0, .int .i64 0, .int .i64 0, .int .i64 0, .int .i64 0, .int .i64 0, .int .i64 0, .int .i64 0, .int .i64 0, .int .i64 0, .int .i64 0, .int .i64 0]) := by
    have h1 := HB2.out.1.trans (hb.mono HB2.out.1.size)
    refine ⟨h1.alloc h1.size _, rangeAt_new w4 _ _, range_below (range_below HB2.out.2.1 hb HB2.out.2.2) ((Below.refl w4.heap.size w4).alloc (Nat.le_refl _) _) (Nat.lt_of_lt_of_le HB2.out.2.2 hb.size)⟩
  clear hb HB2
  go_upto_region 7 with fail
  generalize w4.alloc (.cells #[.int .i64 0, .int .i64 0, .int .i64 0, .int .i64 0, .int .i64 0, .int .i64 0, .int .i64 0, .int .i64 0, .int .i64 0, .int .i64 0, .int .i64 0, .int .i64 0, .int .i64 0, .int .i64 0, .int .i64 0] 35) = w5 at HB4 ⊢
  generalize w4.heap.size = g4 at HB4 ⊢
  have k0 : w5.cell? ⟨g2, 0, none⟩ = some (.int .i64 0) := by have q := HB4.out.2.2 0 _ rfl; simpa using q
  have m0 : w5.cell? ⟨g4, 0, none⟩ = some (.int .i64 0) := by have q := HB4.out.2.1 0 _ rfl; simpa using q
  have k1 : w5.cell? ⟨g2, 1, none⟩ = some (.int .i64 0) := by have q := HB4.out.2.2 1 _ rfl; simpa using q
  have m1 : w5.cell? ⟨g4, 1, none⟩ = some (.int .i64 0) := by have q := HB4.out.2.1 1 _ rfl; simpa using q
  have k2 : w5.cell? ⟨g2, 2, none⟩ = some (.int .i64 0) := by have q := HB4.out.2.2 2 _ rfl; simpa using q
  have m2 : w5.cell? ⟨g4, 2, none⟩ = some (.int .i64 0) := by have q := HB4.out.2.1 2 _ rfl; simpa using q
  have k3 : w5.cell? ⟨g2, 3, none⟩ = some (.int .i64 0) := by have q := HB4.out.2.2 3 _ rfl; simpa using q
  have m3 : w5.cell? ⟨g4, 3, none⟩ = some (.int .i64 0) := by have q := HB4.out.2.1 3 _ rfl; simpa using q
  have k4 : w5.cell? ⟨g2, 4, none⟩ = some (.int .i64 0) := by have q := HB4.out.2.2 4 _ rfl; simpa using q
  have m4 : w5.cell? ⟨g4, 4, none⟩ = some (.int .i64 0) := by have q := HB4.out.2.1 4 _ rfl; simpa using q
  have k5 : w5.cell? ⟨g2, 5, none⟩ = some (.int .i64 0) := by have q := HB4.out.2.2 5 _ rfl; simpa using q
  have m5 : w5.cell? ⟨g4, 5, none⟩ = some (.int .i64 0) := by have q := HB4.out.2.1 5 _ rfl; simpa using q
  have k6 : w5.cell? ⟨g2, 6, none⟩ = some (.int .i64 0) := by have q := HB4.out.2.2 6 _ rfl; simpa using q
  have m6 : w5.cell? ⟨g4, 6, none⟩ = some (.int .i64 0) := by have q := HB4.out.2.1 6 _ rfl; simpa using q
  have k7 : w5.cell? ⟨g2, 7, none⟩ = some (.int .i64 0) := by have q := HB4.out.2.2 7 _ rfl; simpa using q
  have m7 : w5.cell? ⟨g4, 7, none⟩ = some (.int .i64 0) := by have q := HB4.out.2.1 7 _ rfl; simpa using q
  have k8 : w5.cell? ⟨g2, 8, none⟩ = some (.int .i64 0) := by have q := HB4.out.2.2 8 _ rfl; simpa using q
  have m8 : w5.cell? ⟨g4, 8, none⟩ = some (.int .i64 0) := by have q := HB4.out.2.1 8 _ rfl; simpa using q
  have k9 : w5.cell? ⟨g2, 9, none⟩ = some (.int .i64 0) := by have q := HB4.out.2.2 9 _ rfl; simpa using q
  have m9 : w5.cell? ⟨g4, 9, none⟩ = some (.int .i64 0) := by have q := HB4.out.2.1 9 _ rfl; simpa using q
  have k10 : w5.cell? ⟨g2, 10, none⟩ = some (.int .i64 0) := by have q := HB4.out.2.2 10 _ rfl; simpa using q
  have m10 : w5.cell? ⟨g4, 10, none⟩ = some (.int .i64 0) := by have q := HB4.out.2.1 10 _ rfl; simpa using q
  have k11 : w5.cell? ⟨g2, 11, none⟩ = some (.int .i64 0) := by have q := HB4.out.2.2 11 _ rfl; simpa using q
  have m11 : w5.cell? ⟨g4, 11, none⟩ = some (.int .i64 0) := by have q := HB4.out.2.1 11 _ rfl; simpa using q
  have k12 : w5.cell? ⟨g2, 12, none⟩ = some (.int .i64 0) := by have q := HB4.out.2.2 12 _ rfl; simpa using q
  have m12 : w5.cell? ⟨g4, 12, none⟩ = some (.int .i64 0) := by have q := HB4.out.2.1 12 _ rfl; simpa using q
  have k13 : w5.cell? ⟨g2, 13, none⟩ = some (.int .i64 0) := by have q := HB4.out.2.2 13 _ rfl; simpa using q
  have m13 : w5.cell? ⟨g4, 13, none⟩ = some (.int .i64 0) := by have q := HB4.out.2.1 13 _ rfl; simpa using q
  have k14 : w5.cell? ⟨g2, 14, none⟩ = some (.int .i64 0) := by have q := HB4.out.2.2 14 _ rfl; simpa using q
  have m14 : w5.cell? ⟨g4, 14, none⟩ = some (.int .i64 0) := by have q := HB4.out.2.1 14 _ rfl; simpa using q
  have hq := eql_zero
  go_wp2_with (first
    | (go_at_call 7; refine (num_ok _ _).mono ?_; rintro e w0 ⟨rfl, hw0⟩; obtain rfl := hw0.symm)
    | (go_at_call 12; refine (judge_zero _).mono ?_))
  rintro e w6 ⟨rfl, hb⟩
  have HB6 : Hid (Below w.heap.size w w6) := HB4.out.1.trans (hb.mono HB4.out.1.size)
  clear hb HB4
  go_wp2_with (go_at_call 7; refine (num_ok _ _).mono ?_; rintro e w0 ⟨rfl, hw0⟩; obtain rfl := hw0.symm)
  go_ret
  exact ⟨rfl, HB6.out⟩
end Go.Proofs.YtdhfnehmbambpabDoor
