import Derived.Test.YtjcdhfkilnbjgaaDoorJuc
namespace Go.Proofs.YtjcdhfkilnbjgaaDoor
open Go.RowKit
set_option linter.unusedVariables false
set_option linter.unusedSimpArgs false
set_option maxRecDepth 100000
/-- A row, one byte changed. -/
def chg (l : List F) (a : Nat) (x : F) : List F := l.set a (fa (l.getD a 0) x)
def idxW (i : Int) (n : Nat) : Nat := (IntKind.u64.wrap i % (n : Int)).toNat
def hurtL (l : List F) (i : Int) (x : F) (k : Int) (y : F) : List F := chg (chg l (idxW i l.length) x) (idxW k l.length) y
theorem chg_len (l : List F) (a : Nat) (x : F) : (chg l a x).length = l.length := by simp [chg]
theorem hurtL_len (l : List F) (i : Int) (x : F) (k : Int) (y : F) : (hurtL l i x k y).length = l.length := by simp [hurtL, chg_len]
theorem idxW_tmod (i : Int) (n : Nat) (h : 0 < n) : (IntKind.u64.wrap i).tmod (n : Nat) = (idxW i n : Nat) ∧ idxW i n < n := by
  have h0 : (n : Int) ≠ 0 := by omega
  have z1 := Int.emod_lt_of_pos (IntKind.u64.wrap i) (show (0 : Int) < (n : Nat) by omega)
  have z2 := Int.emod_nonneg (IntKind.u64.wrap i) h0
  unfold idxW
  rw [Int.tmod_eq_emod_of_nonneg (u64_wrap i)]
  omega
def HurQ (l2 : List F) (M : Nat) (e : Ending) (w w' : World) : Prop := e = .returned (.tuple #[.string (WLs l2), .bool true]) ∧ Below M w w'
theorem u64_nat (n : Nat) (h : n < 9223372036854775807) : IntKind.u64.wrap ((n : Nat) : Int) = (n : Nat) := by simp [IntKind.wrap, IntKind.bits, IntKind.signed]; omega
set_option maxHeartbeats 1600000 in
theorem hurt_ok (l : List F) (s : ByteArray) (hl : Hid (2 ≤ l.length ∧ l.length ≤ 78 ∧ l.length % 2 = 0)) (hs : Hid (WLs l = s)) (i k : Int) (x y : F) (w : World) : Calls Tryd.prog 18 #[.string s, .int .i64 i, .int .u8 (x.1 : Nat), .int .i64 k, .int .u8 (y.1 : Nat)] w fun e w' => HurQ (hurtL l i x k y) w.heap.size e w w' := by
  obtain ⟨M, HMM⟩ : ∃ z, Hid (w.heap.size = z) := ⟨_, rfl⟩
  obtain ⟨n, HN⟩ : ∃ z, Hid (l.length = z) := ⟨_, rfl⟩
  have H15 : Hid (Calls Tryd.prog 15 #[.string s] w fun e w' => BytQ l M e w w') := by rw [← HMM.out]; exact bytes_ok l s hl hs w
  have HL : Hid (2 ≤ n ∧ n ≤ 78) := by have := hl.out; rw [HN.out] at this; exact ⟨this.1, this.2.1⟩
  obtain ⟨A, HA⟩ : ∃ z, Hid (idxW i n = z) := ⟨_, rfl⟩
  obtain ⟨C, HC⟩ : ∃ z, Hid (idxW k n = z) := ⟨_, rfl⟩
  have HAC : Hid (((IntKind.u64.wrap i).tmod (n : Nat) = (A : Nat) ∧ A < n) ∧ (IntKind.u64.wrap k).tmod (n : Nat) = (C : Nat) ∧ C < n) := by
    rw [← HA.out, ← HC.out]
    exact ⟨idxW_tmod i n (by have := HL.out; omega), idxW_tmod k n (by have := HL.out; omega)⟩
  obtain ⟨a1, HA1⟩ : ∃ z, Hid (l.getD A 0 = z) := ⟨_, rfl⟩
  obtain ⟨b1, HB1⟩ : ∃ z, Hid (fa a1 x = z) := ⟨_, rfl⟩
  obtain ⟨l1, HL1⟩ : ∃ z, Hid (l.set A b1 = z) := ⟨_, rfl⟩
  obtain ⟨a2, HA2⟩ : ∃ z, Hid (l1.getD C 0 = z) := ⟨_, rfl⟩
  obtain ⟨b2, HB2⟩ : ∃ z, Hid (fa a2 y = z) := ⟨_, rfl⟩
  obtain ⟨l2, HL2⟩ : ∃ z, Hid (l1.set C b2 = z) := ⟨_, rfl⟩
  have HH : Hid (hurtL l i x k y = l2 ∧ l1.length = n ∧ l2.length = n) := by
    have e1 : l1.length = n := by rw [← HL1.out, List.length_set, HN.out]
    have e2 : l2.length = n := by rw [← HL2.out, List.length_set, e1]
    refine ⟨?_, e1, e2⟩
    unfold hurtL chg
    rw [HN.out, HA.out, HC.out, HA1.out, HB1.out, HL1.out, HA2.out, HB2.out, HL2.out]
  have hxa : bits .xor .u8 ((a1.1 : Nat) : Int) ((x.1 : Nat) : Int) = ((b1.1 : Nat) : Int) := by rw [xorF, HB1.out]
  have hxb : bits .xor .u8 ((a2.1 : Nat) : Int) ((y.1 : Nat) : Int) = ((b2.1 : Nat) : Int) := by rw [xorF, HB2.out]
  rw [HH.out.1, HMM.out]
  obtain ⟨x0, HX0⟩ : ∃ z, Hid (x.1 = z) := ⟨_, rfl⟩
  obtain ⟨y0, HY0⟩ : ∃ z, Hid (y.1 = z) := ⟨_, rfl⟩
  rw [HX0.out] at hxa ⊢
  rw [HY0.out] at hxb ⊢
  go_enter Tryd.func18, Tryd.ntmps18
  go_upto_region 2 with (first
    | (go_at_call 15; refine H15.out.mono ?_; intro e1 w1 hh; obtain ⟨g, c, rfl, q1, q2, q3, q4, q5⟩ := hh; have H1 : Hid (n ≤ c ∧ c ≤ maxLen ∧ M ≤ g ∧ Rx w1 g l ∧ Below M w w1) := (by rw [← HN.out]; exact ⟨q1, q2, q3, q4, q5⟩); clear q1 q2 q3 q4 q5; rw [HN.out])
    | fail)
  have g0 : ¬ ((n : Nat) : Int) = 0 := by have := HL.out; omega
  have e1 : IntKind.u64.wrap ((n : Nat) : Int) = (n : Nat) := u64_nat n (by have := HL.out; omega)
  have e2 := HAC.out.1.1
  have e3 := HAC.out.2.1
  have e4 : IntKind.i64.wrap ((A : Nat) : Int) = (A : Nat) := by rw [IntKind.wrap_i64]; have := HAC.out; have := HL.out; omega
  have e5 : IntKind.i64.wrap ((C : Nat) : Int) = (C : Nat) := by rw [IntKind.wrap_i64]; have := HAC.out; have := HL.out; omega
  have y1 : (0 : Int) ≤ (A : Int) := by omega
  have y2 : (A : Int) < (n : Int) := by have := HAC.out; omega
  have y3 : (0 : Int) ≤ (C : Int) := by omega
  have y4 : (C : Int) < (n : Int) := by have := HAC.out; omega
  have c1 : w1.cell? ⟨g, A, none⟩ = some (.int .u8 (a1.1 : Nat)) := by rw [← HA1.out]; exact H1.out.2.2.2.1.cell A (by rw [HN.out]; exact HAC.out.1.2)
  have f1 : w1.frozen? ⟨g, A, none⟩ = false := H1.out.2.2.2.1.frozen A
  have H2 : Hid (Rx (w1.setCell ⟨g, A, none⟩ (.int .u8 (b1.1 : Nat))) g l1) := by
    show Rx _ _ _
    rw [← HL1.out]
    exact H1.out.2.2.2.1.set A (by rw [HN.out]; exact HAC.out.1.2) b1
  obtain ⟨w2, hw2⟩ : ∃ u, Hid (u = w1.setCell ⟨g, A, none⟩ (.int .u8 (b1.1 : Nat))) := ⟨_, rfl⟩
  go_upto_region 6 with fail
  rw [← hw2.out] at H2 ⊢
  have c2 : w2.cell? ⟨g, C, none⟩ = some (.int .u8 (a2.1 : Nat)) := by rw [← HA2.out]; exact H2.out.cell C (by rw [HH.out.2.1]; exact HAC.out.2.2)
  have f2 : w2.frozen? ⟨g, C, none⟩ = false := H2.out.frozen C
  have H3 : Hid (Rx (w2.setCell ⟨g, C, none⟩ (.int .u8 (b2.1 : Nat))) g l2) := by
    show Rx _ _ _
    rw [← HL2.out]
    exact H2.out.set C (by rw [HH.out.2.1]; exact HAC.out.2.2) b2
  have HW2 : Hid (Below M w w2) := by
    show Below _ _ _
    rw [hw2.out]
    exact H1.out.2.2.2.2.trans (below_gb (set_gb w1 g A _) (by rw [← HMM.out]; exact H1.out.2.2.2.2.size) H1.out.2.2.1)
  obtain ⟨w3, hw3⟩ : ∃ u, Hid (u = w2.setCell ⟨g, C, none⟩ (.int .u8 (b2.1 : Nat))) := ⟨_, rfl⟩
  go_upto_region 8 with fail
  rw [← hw3.out] at H3 ⊢
  have H28 : Hid (Calls Tryd.prog 28 #[.slice (some ⟨g, 0, none⟩) n c] w3 fun e w' => Hid (e = .returned (.string (WLs l2)) ∧ Below w3.heap.size w3 w')) := (wordsF_ok g 0 n c l2 w3 HH.out.2.2 (by have := HL.out; omega) H1.out.1 (by have := H1.out.2.1; unfold maxLen at this; omega) H3.out.rw).mono fun e w' hh => hh
  have HW3 : Hid (Below M w w3) := by
    show Below _ _ _
    rw [hw3.out]
    exact HW2.out.trans (below_gb (set_gb w2 g C _) (by rw [← HMM.out]; exact HW2.out.size) H1.out.2.2.1)
  go_wp2_with (first
    | (go_at_call 28; refine H28.out.mono ?_; intro e4 w4 hh; obtain ⟨rfl, q⟩ := hh.out; have H4 : Hid (Below M w w4) := HW3.out.trans (q.mono (by rw [← HMM.out]; exact HW3.out.size)); clear hh q)
    | fail)
  go_ret2
  exact ⟨rfl, H4.out⟩
end Go.Proofs.YtjcdhfkilnbjgaaDoor
