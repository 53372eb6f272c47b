import Derived.Test.YtidkdifldlfhoaaSgc
namespace Go.Proofs.Ytidkdifldlfhoaa
open Go.RowKit
set_option linter.unusedVariables false
set_option linter.unusedSimpArgs false
def segGood (n : Nat) (r : Rot) : Prop := 1 ≤ n ∧ n ≤ 4294967296 ∧ r.on = true ∧ r.done ≤ n
instance (n : Nat) (r : Rot) : Decidable (segGood n r) := by unfold segGood; infer_instance
def segE (n : Nat) (r : Rot) : Int := if segGood n r then 0 else 2
def segL (n : Nat) (r : Rot) : List Sg := if segGood n r then kept [segX n r, segY n r] else []
/-- An answer of Segments. -/
def SegP (w : World) (L : List Sg) (E : Int) (e : Ending) (w' : World) : Prop := ∃ v, e = .returned (.tuple #[v, .int .i64 E]) ∧ w'.ownsRow w.heap.size 53 3 v L.length (sgs L) ∧ (v = .slice none 0 0 ↔ L = []) ∧ Below w.heap.size w w'
theorem segP_bad (w : World) (o : Obj) : SegP w [] 2 (.returned (.tuple #[.slice none 0 0, .int .i64 2])) (w.alloc o) :=
  ⟨_, rfl, World.ownsRow_nil _ _ _ _, by simp, (Below.refl _ w).alloc (Nat.le_refl _) _⟩
theorem ownsRow_mono {w : World} {b b' : Nat} {e : TypeId} {s : Nat} {v : Value} {n : Nat} {xs : List Value} (h : w.ownsRow b e s v n xs) (hb : b' ≤ b) : w.ownsRow b' e s v n xs := by
  obtain ⟨h1, h2⟩ := h
  refine ⟨h1, ?_⟩
  rcases h2 with h2 | ⟨g, cap, cur, a, bb, c⟩
  · exact .inl h2
  · exact .inr ⟨g, cap, cur, a, Nat.le_trans hb bb, c⟩
set_option maxRecDepth 100000 in
set_option maxHeartbeats 4000000 in
theorem pseg_ok (n : Nat) (r : Rot) (w : World) : Calls Try.prog 5 #[.int .u64 (n : Nat), .agg (rotC r)] w (SegP w (segL n r) (segE n r)) := by
  by_cases hg : segGood n r
  · have e1 : segL n r = kept [segX n r, segY n r] := by rw [segL, if_pos hg]
    have e2 : segE n r = 0 := by rw [segE, if_pos hg]
    rw [e1, e2]
    obtain ⟨h1, h2, h3, h4⟩ := hg
    have HB : Hid (∀ u, Calls Try.prog 13 #[.int .u64 (n : Nat), .agg (rotC r)] u fun e w' => ∃ g, e = .returned (.func (.func 23) #[] #[.pointer (some ⟨g, 0, none⟩)]) ∧ Two w' g (segX n r) (segY n r) ∧ Below u.heap.size u w') := fun u => segments_ok n r h2 h4 u
    obtain ⟨L, HL⟩ : ∃ L, Hid (L = kept [segX n r, segY n r]) := ⟨_, rfl⟩
    rw [← HL.out]
    have HC : Hid (∀ u g, Two u g (segX n r) (segY n r) → Calls Try.prog 12 #[.func (.func 23) #[] #[.pointer (some ⟨g, 0, none⟩)]] u fun e W' => ∃ v, e = .returned v ∧ W'.ownsRow u.heap.size 53 3 v L.length (sgs L) ∧ (v = .slice none 0 0 ↔ L = []) ∧ Below u.heap.size u W') := fun u g t => by
      rw [HL.out]
      exact listed_ok g (segX n r) (segY n r) u t.lt t.c0 t.c1 t.c2 t.c3 t.c4 t.c5
    clear HL e1 e2
    have q1 : (((n : Nat) : Int) == 0) = false := by simp; omega
    have q2 : decide ((4294967296 : Int) < (n : Nat)) = false := by simp; omega
    have q3 : decide (n < r.done) = false := by simp; omega
    obtain ⟨on, fr, to, back, mode, hot, done, ao, az, act, cnt, sum⟩ := r
    obtain rfl : on = true := h3
    clear h1 h2 h4
    go_enter Try.func5, Try.ntmps5
    go_wp2_with first | (go_at_call 13; refine (HB.out _).mono ?_; rintro e5 w5 ⟨g, rfl, ht, hb⟩) | (go_at_call 12; refine (HC.out _ _ ht).mono ?_; rintro e6 w6 ⟨v, rfl, hrow, hnil, hb6⟩)
    go_ret2
    have b0 : Below w.heap.size w w5 := ((Below.refl _ w).alloc (Nat.le_refl _) _).trans (hb.mono (by simp))
    exact ⟨v, rfl, ownsRow_mono hrow b0.size, hnil, b0.trans (hb6.mono b0.size)⟩
  · have e1 : segL n r = [] := by rw [segL, if_neg hg]
    have e2 : segE n r = 2 := by rw [segE, if_neg hg]
    rw [e1, e2]
    obtain ⟨on, fr, to, back, mode, hot, done, ao, az, act, cnt, sum⟩ := r
    simp only [segGood] at hg
    by_cases h1 : n = 0
    · subst h1
      clear hg
      go_enter Try.func5, Try.ntmps5
      go_wp2
      go_ret2
      exact segP_bad w _
    · have q1 : (((n : Nat) : Int) == 0) = false := by simp; omega
      by_cases h2 : 4294967296 < n
      · have q2 : decide ((4294967296 : Int) < (n : Nat)) = true := by simp; omega
        clear hg
        go_enter Try.func5, Try.ntmps5
        go_wp2
        go_ret2
        exact segP_bad w _
      · have q2 : decide ((4294967296 : Int) < (n : Nat)) = false := by simp; omega
        cases on with
        | false =>
          clear hg
          go_enter Try.func5, Try.ntmps5
          go_wp2
          go_ret2
          exact segP_bad w _
        | true =>
          have h3 : n < done := by
            apply Classical.byContradiction
            intro hc
            exact hg ⟨by omega, by omega, rfl, by omega⟩
          have q3 : decide (n < done) = true := by simp; omega
          clear hg
          go_enter Try.func5, Try.ntmps5
          go_wp2
          go_ret2
          exact segP_bad w _
end Go.Proofs.Ytidkdifldlfhoaa
