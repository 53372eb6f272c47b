import Derived.Test.YtffejkfkkciaaaaMdr
namespace Go.Proofs.Ytffejkfkkciaaaa
open Go.RowKit
set_option linter.unusedVariables false
set_option linter.unusedSimpArgs false
theorem load_wanted {P : Program} {ops : Array Oper} {rest : List Oper} {op : Oper} {a : Act} {w : World} {Q : Exit → Act → World → Prop} (ty : TypeId) (x : Operand) (ho : op.op = .load ty x) (hw : Region.wanted op (yielded ops a.tmps) = true)
    (b o : Nat) (hx : a.eval x = .pointer (some ⟨b, o, none⟩)) (cs : List Value) (d : TypeDesc) (hc : w.rangeAt b o cs) (hu : P.underlying ty = some d) (hd : d.isRow = true) (hi : (P.info? ty).map (·.size) = some cs.length)
    (h : wpList P ops Q rest (a.put op.dst (.agg cs.toArray)) w) : wpList P ops Q (op :: rest) a w :=
  wpList_step fun K hK => by
    rw [if_pos hw]
    exact wp_load_mid ty x ho b o hx cs d hc hu hd hi (hK _ _ h)
theorem eq24 (x0 x1 x2 x3 : Int) (w : World) : (Op.equalIn 10000 24 (.agg #[.int .u16 x0, .int .i64 x1, .int .i64 x2, .int .i64 x3]) (.agg #[.int .u16 x0, .int .i64 x1, .int .i64 x2, .int .i64 x3])).run Try.prog w = .ok true w := by
  have e3 : ∀ x : Int, (Op.equalIn 9999 3 (.int .i64 x) (.int .i64 x)).run Try.prog w = .ok true w := fun x => by
    rw [show (9999 : Nat) = 9998 + 1 from rfl, run_equalIn_int w 9998 3 .i64 .i64 x x Try.underlying3]
    simp
  have e22 : ∀ x : Int, (Op.equalIn 9999 22 (.int .u16 x) (.int .u16 x)).run Try.prog w = .ok true w := fun x => by
    rw [show (9999 : Nat) = 9998 + 1 from rfl, run_equalIn_int w 9998 22 .u16 .u16 x x Try.underlying22]
    simp
  rw [show (10000 : Nat) = 9999 + 1 from rfl, Op.equalIn]
  simp only [Sem.run_bind, run_underlying Try.underlying24, Result.andThen_ok]
  go_simp
theorem eql24 (x0 x1 x2 x3 : Int) (w : World) : (binOp .eql 24 (.agg #[.int .u16 x0, .int .i64 x1, .int .i64 x2, .int .i64 x3]) (.agg #[.int .u16 x0, .int .i64 x1, .int .i64 x2, .int .i64 x3])).run Try.prog w = .ok (.bool true) w := by
  rw [run_eql_struct, eq24, Result.andThen_ok]
theorem errnum_ok (k : Int) (w : World) : Calls Try.prog 8 #[.int .i64 k] w fun e w' => e = .returned (.int .i64 k) ∧ w' = w := by
  go_enter Try.func8, Try.ntmps8
  go_wp2
  go_ret
  exact ⟨rfl, rfl⟩
theorem rmd_bad (s : ByteArray) (k : Nat) (hk : MBad s k) (u : World) : Calls Try.prog 4 #[.string s] u fun e w' => Hid (e = .returned (.tuple #[.agg Z6l.toArray, .int .i64 (k : Nat)]) ∧ Below u.heap.size u w') :=
  (rmend_ok s u).mono (by
    rintro e w' ⟨h, hb⟩
    rcases h with ⟨k', h', rfl⟩ | ⟨m, d, g, c, h', _⟩
    · rw [bad_only h' hk]; exact ⟨rfl, hb⟩
    · exact (bad_good hk h').elim)
theorem men_bad (s : ByteArray) (k : Nat) (hk : MBad s k) (u : World) : Calls Try.prog 6 #[.string s] u fun e w' => Hid (e = .returned (.tuple #[.string ⟨#[]⟩, .int .i64 0, .int .i64 (k : Nat)]) ∧ Below u.heap.size u w') :=
  (mend_ok s u).mono (by
    rintro e w' ⟨h, hb⟩
    rcases h with ⟨k', h', rfl⟩ | ⟨m, d, h', _⟩
    · rw [bad_only h' hk]; exact ⟨rfl, hb⟩
    · exact (bad_good hk h').elim)
theorem tel_bad (s : ByteArray) (k : Nat) (hk : MBad s k) (u : World) : Calls Try.prog 7 #[.string s] u fun e w' => Hid (e = .returned (.tuple #[.agg Z4l.toArray, .int .i64 (k : Nat)]) ∧ Below u.heap.size u w') :=
  (tell_ok s u).mono (by
    rintro e w' ⟨h, hb⟩
    rcases h with ⟨k', h', rfl⟩ | ⟨m, d, h', _⟩
    · rw [bad_only h' hk]; exact ⟨rfl, hb⟩
    · exact (bad_good hk h').elim)
theorem rmd_good (s : ByteArray) (m : List F) (d : Nat) (hg : MGood s m d) (u : World) : Calls Try.prog 4 #[.string s] u fun e w' => Hid (∃ g c, e = .returned (.tuple #[.agg (partL m g c d).toArray, .int .i64 0]) ∧ Rx w' g ((m.drop 5).take ((m.getD 4 0).1 + 4)) ∧ Below u.heap.size u w') :=
  (rmend_ok s u).mono (by
    rintro e w' ⟨h, hb⟩
    rcases h with ⟨k', h', rfl⟩ | ⟨m', d', g, c, h', rfl, hr⟩
    · exact (bad_good h' hg).elim
    · obtain ⟨rfl, rfl⟩ := good_only hg h'
      exact ⟨g, c, rfl, hr, hb⟩)
theorem men_good (s : ByteArray) (m : List F) (d : Nat) (hg : MGood s m d) (u : World) : Calls Try.prog 6 #[.string s] u fun e w' => Hid (e = .returned (.tuple #[.string (WLs m), .int .i64 (d : Nat), .int .i64 0]) ∧ Below u.heap.size u w') :=
  (mend_ok s u).mono (by
    rintro e w' ⟨h, hb⟩
    rcases h with ⟨k', h', rfl⟩ | ⟨m', d', h', rfl⟩
    · exact (bad_good h' hg).elim
    · obtain ⟨rfl, rfl⟩ := good_only hg h'
      exact ⟨rfl, hb⟩)
theorem tel_good (s : ByteArray) (m : List F) (d : Nat) (hg : MGood s m d) (u : World) : Calls Try.prog 7 #[.string s] u fun e w' => Hid (e = .returned (.tuple #[.agg (tds m).toArray, .int .i64 0]) ∧ Below u.heap.size u w') :=
  (tell_ok s u).mono (by
    rintro e w' ⟨h, hb⟩
    rcases h with ⟨k', h', rfl⟩ | ⟨m', d', h', rfl⟩
    · exact (bad_good h' hg).elim
    · obtain ⟨rfl, rfl⟩ := good_only hg h'
      exact ⟨rfl, hb⟩)
theorem bad_or_good (s : ByteArray) : (∃ k, MBad s k) ∨ ∃ m d, MGood s m d := by
  by_cases h1 : 1024 < s.size
  · exact Or.inl ⟨4, Or.inl ⟨h1, rfl⟩⟩
  · by_cases h5 : all5 (txL s)
    · by_cases h2 : 14 ≤ (tx s).length ∧ (tx s).length ≤ 78
      · by_cases h3 : ∃ m, Nr (tx s) m ∧ okF m
        · obtain ⟨m, a, b⟩ := h3
          exact Or.inr ⟨m, _, by omega, h5, h2.1, h2.2, a, b, rfl⟩
        · exact Or.inl ⟨113, Or.inr ⟨by omega, Or.inr ⟨h5, rfl, Or.inr (Or.inr ⟨h2.1, h2.2, fun m a b => h3 ⟨m, a, b⟩⟩)⟩⟩⟩
      · exact Or.inl ⟨113, Or.inr ⟨by omega, Or.inr ⟨h5, rfl, by omega⟩⟩⟩
    · exact Or.inl ⟨112, Or.inr ⟨by omega, Or.inl ⟨h5, rfl⟩⟩⟩
def c6 (n : Value) (x0 x1 x2 x3 : Int) (d : Int) : List Value := [.int .u16 x0, .int .i64 x1, .int .i64 x2, .int .i64 x3, n, .int .i64 d]
set_option maxHeartbeats 6400000 in
set_option maxRecDepth 100000 in
theorem law_bad (s : ByteArray) (k : Nat) (hk : MBad s k) (w : World) : Calls Try.prog 3 #[.string s] w fun e w' => e = .returned (.bool true) ∧ Below w.heap.size w w' := by
  obtain ⟨M, HMM⟩ : ∃ M, Hid (w.heap.size = M) := ⟨_, rfl⟩
  have H4 : Hid (Calls Try.prog 4 #[.string s] w fun e w' => Hid (e = .returned (.tuple #[.agg Z6l.toArray, .int .i64 (k : Nat)]) ∧ Below w.heap.size w w')) := rmd_bad s k hk w
  have H6 : Hid (∀ u, Calls Try.prog 6 #[.string s] u fun e w' => Hid (e = .returned (.tuple #[.string ⟨#[]⟩, .int .i64 0, .int .i64 (k : Nat)]) ∧ Below u.heap.size u w')) := fun u => men_bad s k hk u
  have H7 : Hid (∀ u, Calls Try.prog 7 #[.string s] u fun e w' => Hid (e = .returned (.tuple #[.agg Z4l.toArray, .int .i64 (k : Nat)]) ∧ Below u.heap.size u w')) := fun u => tel_bad s k hk u
  have H8 : Hid (∀ u, Calls Try.prog 8 #[.int .i64 (k : Nat)] u fun e w' => e = .returned (.int .i64 (k : Nat)) ∧ w' = u) := fun u => errnum_ok k u
  have hk0 := bad_ne hk
  have g1 : ((k : Int) == 0) = false := by rw [beq_eq_false_iff_ne]; omega
  have g2 : ¬ k = 0 := by omega
  have hone := one6
  have hz6 := six6
  have hz4 : (Try.prog.info? 24).map (·.size) = some Z4l.length := by kernel_rfl
  have honez : ∀ v ∈ Z4l, v.oneCell' = true := by intro v hv; simp [Z4l] at hv; rcases hv with rfl | rfl | rfl | rfl <;> rfl
  have heq : ∀ u, (binOp .eql 24 (.agg Z4l.toArray) (.agg Z4l.toArray)).run Try.prog u = .ok (.bool true) u := fun u => eql24 0 0 0 0 u
  clear hk hk0
  go_enter Try.func3, Try.ntmps3
  go_upto_region 2 with (first
    | (go_at_call 4; refine H4.out.mono ?_; intro e1 w1 hh; obtain ⟨rfl, q⟩ := hh.out; have HB1 : Hid (Below w.heap.size w w1) := q; clear hh q)
    | (refine wpList_store_bx (by rfl) 27 (.tmp 3) (.tmp 14) (by rfl) Z6l Z6l w1.heap.size (by rfl) (by rfl) (Bx.new w1 27 Z6l) rfl hz6 hone ?_; intro w2 hb2 hg2; have HB2 : Hid (Bx w2 w1.heap.size 27 Z6l ∧ (w1.alloc (.cells Z6l.toArray 27)).grownBy w2 (some w1.heap.size)) := ⟨hb2, hg2⟩; clear hb2 hg2))
  obtain ⟨P, HP⟩ : ∃ p, Hid (w1.heap.size = p) := ⟨_, rfl⟩
  rw [HP.out] at HB2 ⊢
  have H2 : Hid (Bx w2 P 27 Z6l ∧ Below M w w2 ∧ P < w2.heap.size) := by
    have e1 : Below M w w1 := by rw [← HMM.out]; exact HB1.out
    have hs := bel_size e1 HMM.out
    exact ⟨HB2.out.1, (e1.alloc hs _).trans (below_gb HB2.out.2 (by simp; omega) (by have := HP.out; omega)), HB2.out.1.lt⟩
  clear HB1 HB2
  go_upto_region 6 with (go_at_call 6; refine (H6.out w2).mono ?_; intro e3 w3 hh; obtain ⟨rfl, q⟩ := hh.out; have HB3 : Hid (Below w2.heap.size w2 w3) := q; clear hh q)
  go_upto_region 7 with (first
    | (go_at_call 7; refine (H7.out w3).mono ?_; intro e4 w4 hh; obtain ⟨rfl, q⟩ := hh.out; have HB4 : Hid (Below w3.heap.size w3 w4) := q; clear hh q)
    | (refine wpList_store_bx (by rfl) 24 (.tmp 9) (.tmp 29) (by rfl) Z4l Z4l w4.heap.size (by rfl) (by rfl) (Bx.new w4 24 Z4l) rfl hz4 honez ?_; intro w5 hb5 hg5; have HB5 : Hid (Bx w5 w4.heap.size 24 Z4l ∧ (w4.alloc (.cells Z4l.toArray 24)).grownBy w5 (some w4.heap.size)) := ⟨hb5, hg5⟩; clear hb5 hg5))
  obtain ⟨T, HT⟩ : ∃ p, Hid (w4.heap.size = p) := ⟨_, rfl⟩
  rw [HT.out] at HB5 ⊢
  have H5 : Hid (Bx w5 P 27 Z6l ∧ Bx w5 T 24 Z4l ∧ Below M w w5) := by
    obtain ⟨q1, q2, q3⟩ := H2.out
    have p3 := q1.below HB3.out
    have p4 := p3.below HB4.out
    have hs4 : M ≤ w4.heap.size := by have := bel_size q2 HMM.out; have := HB3.out.size; have := HB4.out.size; omega
    have e4 : Below M w w4 := (q2.trans (HB3.out.mono (bel_size q2 HMM.out))).trans (HB4.out.mono (by have := bel_size q2 HMM.out; have := HB3.out.size; omega))
    have hb : Below w4.heap.size w4 w5 := Below.trans ((Below.refl _ _).alloc (Nat.le_refl _) _) (below_gb HB5.out.2 (by simp) (by have := HT.out; omega))
    exact ⟨p4.below hb, HB5.out.1, e4.trans (hb.mono hs4)⟩
  have r1 : w5.cell? ⟨P, 5, none⟩ = some (.int .i64 0) := H5.out.1.cell 5 _ rfl
  have r2 : w5.rangeAt P 0 Z4l := fun j u hj => by
    rw [Nat.zero_add]
    refine H5.out.1.cell j u ?_
    match j, hj with
    | 0, hj => exact hj
    | 1, hj => exact hj
    | 2, hj => exact hj
    | 3, hj => exact hj
    | j + 4, hj => simp [Z4l] at hj
  have r3 : w5.rangeAt T 0 Z4l := H5.out.2.1.range
  clear H2 HB3 HB4 HB5
  go_wp2_with (first
    | (go_at_call 8; refine (H8.out _).mono ?_; rintro e6 w6 ⟨rfl, hw⟩; obtain rfl := hw.symm; clear hw)
    | (refine load_wanted 24 (.tmp 9) (by rfl) (by simp [Region.wanted, yielded, Act.put]) T 0 (by rfl) Z4l _ r3 Try.underlying24 rfl hz4 ?_)
    | (refine load_wanted 24 (.tmp 48) (by rfl) (by simp [Region.wanted, yielded, Act.put]) P 0 (by rfl) Z4l _ r2 Try.underlying24 rfl hz4 ?_))
  go_ret
  exact ⟨rfl, by rw [HMM.out]; exact H5.out.2.2⟩
set_option maxHeartbeats 6400000 in
set_option maxRecDepth 100000 in
theorem law_good (s : ByteArray) (m : List F) (d : Nat) (hg : MGood s m d) (w : World) : Calls Try.prog 3 #[.string s] w fun e w' => e = .returned (.bool true) ∧ Below w.heap.size w w' := by
  obtain ⟨M, HMM⟩ : ∃ M, Hid (w.heap.size = M) := ⟨_, rfl⟩
  obtain ⟨n, HNN⟩ : ∃ n, Hid (m.length = n) := ⟨_, rfl⟩
  have HMG : Hid (okF m ∧ sumL m = [0, 0, 0, 0] ∧ m.length ≤ 78) := ⟨hg.2.2.2.2.2.1, hg.2.2.2.2.1.1, by rw [hg.2.2.2.2.1.len]; exact hg.2.2.2.1⟩
  have HTD : Hid (∀ g c, (partL m g c d) = c6 (.slice (some ⟨g, 0, none⟩) ((m.getD 4 0).1 + 4) c) (setN m : Nat) ((m.getD 2 0).1 : Nat) ((m.getD 3 0).1 : Nat) ((m.getD 4 0).1 : Nat) (d : Nat)) := fun g c => rfl
  have HT4 : Hid (tds m = [.int .u16 (setN m : Nat), .int .i64 ((m.getD 2 0).1 : Nat), .int .i64 ((m.getD 3 0).1 : Nat), .int .i64 ((m.getD 4 0).1 : Nat)]) := by show _ = _; rfl
  have H5 : Hid (∀ g c u, Rx u g ((m.drop 5).take ((m.getD 4 0).1 + 4)) → Calls Try.prog 5 #[.agg (partL m g c d).toArray] u fun e w' => Hid (e = .returned (.string (WLs m)) ∧ Below u.heap.size u w')) := fun g c u hu => line_ok m g c d u HMG.out.1 HMG.out.2.1 HMG.out.2.2 hu
  have H4 : Hid (Calls Try.prog 4 #[.string s] w fun e w' => Hid (∃ g c, e = .returned (.tuple #[.agg (partL m g c d).toArray, .int .i64 0]) ∧ Rx w' g ((m.drop 5).take ((m.getD 4 0).1 + 4)) ∧ Below w.heap.size w w')) := rmd_good s m d hg w
  have H6 : Hid (∀ u, Calls Try.prog 6 #[.string s] u fun e w' => Hid (e = .returned (.tuple #[.string (WLs m), .int .i64 (d : Nat), .int .i64 0]) ∧ Below u.heap.size u w')) := fun u => men_good s m d hg u
  have H7 : Hid (∀ u, Calls Try.prog 7 #[.string s] u fun e w' => Hid (e = .returned (.tuple #[.agg (tds m).toArray, .int .i64 0]) ∧ Below u.heap.size u w')) := fun u => tel_good s m d hg u
  have H8 : Hid (∀ u, Calls Try.prog 8 #[.int .i64 0] u fun e w' => e = .returned (.int .i64 0) ∧ w' = u) := fun u => errnum_ok 0 u
  rw [HT4.out] at H7
  obtain ⟨vl, HVL⟩ : ∃ q, Hid ((m.drop 5).take ((m.getD 4 0).1 + 4) = q) := ⟨_, rfl⟩
  rw [HVL.out] at H4 H5
  obtain ⟨W, HWW⟩ : ∃ q, Hid (WLs m = q) := ⟨_, rfl⟩
  rw [HWW.out] at H5 H6
  obtain ⟨x0, HX0⟩ : ∃ q : Nat, Hid (setN m = q) := ⟨_, rfl⟩
  obtain ⟨x1, HX1⟩ : ∃ q : Nat, Hid ((m.getD 2 0).1 = q) := ⟨_, rfl⟩
  obtain ⟨x2, HX2⟩ : ∃ q : Nat, Hid ((m.getD 3 0).1 = q) := ⟨_, rfl⟩
  obtain ⟨x3, HX3⟩ : ∃ q : Nat, Hid ((m.getD 4 0).1 = q) := ⟨_, rfl⟩
  obtain ⟨s4, HS4⟩ : ∃ q : Nat, Hid (x3 + 4 = q) := ⟨_, rfl⟩
  have HTE : Hid (∀ g c, (partL m g c d) = c6 (.slice (some ⟨g, 0, none⟩) s4 c) (x0 : Nat) (x1 : Nat) (x2 : Nat) (x3 : Nat) (d : Nat)) := fun g c => by rw [HTD.out, HX0.out, HX1.out, HX2.out, HX3.out, HS4.out]
  rw [HX0.out, HX1.out, HX2.out, HX3.out] at H7
  have H4b : Hid (Calls Try.prog 4 #[.string s] w fun e w' => Hid (∃ g c, e = .returned (.tuple #[.agg (c6 (.slice (some ⟨g, 0, none⟩) s4 c) (x0 : Nat) (x1 : Nat) (x2 : Nat) (x3 : Nat) (d : Nat)).toArray, .int .i64 0]) ∧ Rx w' g vl ∧ Below w.heap.size w w')) := H4.out.mono (by
    intro e w' hh
    obtain ⟨g, c, rfl, q1, q2⟩ := hh.out
    exact ⟨g, c, by rw [HTE.out], q1, q2⟩)
  have H5b : Hid (∀ g c u, Rx u g vl → Calls Try.prog 5 #[.agg (c6 (.slice (some ⟨g, 0, none⟩) s4 c) (x0 : Nat) (x1 : Nat) (x2 : Nat) (x3 : Nat) (d : Nat)).toArray] u fun e w' => Hid (e = .returned (.string W) ∧ Below u.heap.size u w')) := fun g c u hu => by rw [← HTE.out g c]; exact H5.out g c u hu
  obtain ⟨Y4, HY4⟩ : ∃ q : List Value, Hid (q = [.int .u16 (x0 : Nat), .int .i64 (x1 : Nat), .int .i64 (x2 : Nat), .int .i64 (x3 : Nat)]) := ⟨_, rfl⟩
  have hz4 : (Try.prog.info? 24).map (·.size) = some Y4.length := by rw [HY4.out]; kernel_rfl
  have honez : ∀ v ∈ Y4, v.oneCell' = true := by rw [HY4.out]; intro v hv; simp at hv; rcases hv with rfl | rfl | rfl | rfl <;> rfl
  have hlen4 : Y4.length = 4 := by rw [HY4.out]; rfl
  rw [← HY4.out] at H7
  have heq : ∀ u, (binOp .eql 24 (.agg Y4.toArray) (.agg Y4.toArray)).run Try.prog u = .ok (.bool true) u := fun u => by rw [HY4.out]; exact eql24 _ _ _ _ u
  have hone6 : ∀ g c, ∀ v ∈ c6 (.slice (some ⟨g, 0, none⟩) s4 c) (x0 : Nat) (x1 : Nat) (x2 : Nat) (x3 : Nat) (d : Nat), v.oneCell' = true := fun g c v hv => by simp [c6] at hv; rcases hv with rfl | rfl | rfl | rfl | rfl | rfl <;> rfl
  have hz6 : ∀ g c, (Try.prog.info? 27).map (·.size) = some (c6 (.slice (some ⟨g, 0, none⟩) s4 c) (x0 : Nat) (x1 : Nat) (x2 : Nat) (x3 : Nat) (d : Nat)).length := fun g c => by kernel_rfl
  clear hg
  go_enter Try.func3, Try.ntmps3
  go_upto_region 2 with (first
    | (go_at_call 4; refine H4b.out.mono ?_; intro e1 w1 hh; obtain ⟨g, c, rfl, q1, q⟩ := hh.out; have HB1 : Hid (Below w.heap.size w w1) := q; have HR1 : Hid (Rx w1 g vl) := q1; clear hh q q1)
    | (refine wpList_store_bx (by rfl) 27 (.tmp 3) (.tmp 14) (by rfl) Z6l (c6 (.slice (some ⟨g, 0, none⟩) s4 c) (x0 : Nat) (x1 : Nat) (x2 : Nat) (x3 : Nat) (d : Nat)) w1.heap.size (by rfl) (by rfl) (Bx.new w1 27 Z6l) rfl (hz6 g c) (hone6 g c) ?_; intro w2 hb2 hg2; have HB2 : Hid (Bx w2 w1.heap.size 27 (c6 (.slice (some ⟨g, 0, none⟩) s4 c) (x0 : Nat) (x1 : Nat) (x2 : Nat) (x3 : Nat) (d : Nat)) ∧ (w1.alloc (.cells Z6l.toArray 27)).grownBy w2 (some w1.heap.size)) := ⟨hb2, hg2⟩; clear hb2 hg2))
  obtain ⟨P, HP⟩ : ∃ p, Hid (w1.heap.size = p) := ⟨_, rfl⟩
  rw [HP.out] at HB2 ⊢
  obtain ⟨C6, HC6⟩ : ∃ q, Hid (c6 (.slice (some ⟨g, 0, none⟩) s4 c) (x0 : Nat) (x1 : Nat) (x2 : Nat) (x3 : Nat) (d : Nat) = q) := ⟨_, rfl⟩
  have H5c : Hid (∀ u, Rx u g vl → Calls Try.prog 5 #[.agg C6.toArray] u fun e w' => Hid (e = .returned (.string W) ∧ Below u.heap.size u w')) := fun u hu => by rw [← HC6.out]; exact H5b.out g c u hu
  have hz6 : (Try.prog.info? 27).map (·.size) = some C6.length := by rw [← HC6.out]; kernel_rfl
  rw [HC6.out] at HB2
  have H2 : Hid (Bx w2 P 27 C6 ∧ Below M w w2 ∧ P < w2.heap.size) := by
    have e1 : Below M w w1 := by rw [← HMM.out]; exact HB1.out
    have hs := bel_size e1 HMM.out
    exact ⟨HB2.out.1, (e1.alloc hs _).trans (below_gb HB2.out.2 (by simp; omega) (by have := HP.out; omega)), HB2.out.1.lt⟩
  have HR2 : Hid (Rx w2 g vl) := by
    have hb : Below w1.heap.size w1 w2 := Below.trans ((Below.refl _ _).alloc (Nat.le_refl _) _) (below_gb HB2.out.2 (by simp) (by have := HP.out; omega))
    exact HR1.out.below hb
  have rl : w2.rangeAt P 0 C6 := H2.out.1.range
  clear HB1 HB2 HR1
  go_upto_region 5 with (first
    | (refine wpList_load_mid (by rfl) 27 (.tmp 3) (by rfl) P 0 (by rfl) C6 _ rl Try.underlying27 rfl hz6 ?_)
    | (go_at_call 5; refine (H5c.out w2 HR2.out).mono ?_; intro e9 w9 hh; obtain ⟨rfl, q⟩ := hh.out; have HB9 : Hid (Below w2.heap.size w2 w9) := q; clear hh q))
  have H29 : Hid (Bx w9 P 27 C6 ∧ Below M w w9 ∧ P < w9.heap.size) := ⟨H2.out.1.below HB9.out, H2.out.2.1.trans (HB9.out.mono (bel_size H2.out.2.1 HMM.out)), Nat.lt_of_lt_of_le H2.out.2.2 HB9.out.size⟩
  clear H2 HB9 HR2 rl
  go_upto_region 6 with (go_at_call 6; refine (H6.out w9).mono ?_; intro e3 w3 hh; obtain ⟨rfl, q⟩ := hh.out; have HB3 : Hid (Below w9.heap.size w9 w3) := q; clear hh q)
  go_upto_region 7 with (first
    | (go_at_call 7; refine (H7.out w3).mono ?_; intro e4 w4 hh; obtain ⟨rfl, q⟩ := hh.out; have HB4 : Hid (Below w3.heap.size w3 w4) := q; clear hh q)
    | (refine wpList_store_bx (by rfl) 24 (.tmp 9) (.tmp 29) (by rfl) Z4l Y4 w4.heap.size (by rfl) (by rfl) (Bx.new w4 24 Z4l) hlen4 hz4 honez ?_; intro w5 hb5 hg5; have HB5 : Hid (Bx w5 w4.heap.size 24 Y4 ∧ (w4.alloc (.cells Z4l.toArray 24)).grownBy w5 (some w4.heap.size)) := ⟨hb5, hg5⟩; clear hb5 hg5))
  obtain ⟨T, HT⟩ : ∃ p, Hid (w4.heap.size = p) := ⟨_, rfl⟩
  rw [HT.out] at HB5 ⊢
  have H5 : Hid (Bx w5 P 27 C6 ∧ Bx w5 T 24 Y4 ∧ Below M w w5) := by
    obtain ⟨q1, q2, q3⟩ := H29.out
    have p3 := q1.below HB3.out
    have p4 := p3.below HB4.out
    have hs4 : M ≤ w4.heap.size := by have := bel_size q2 HMM.out; have := HB3.out.size; have := HB4.out.size; omega
    have e4 : Below M w w4 := (q2.trans (HB3.out.mono (bel_size q2 HMM.out))).trans (HB4.out.mono (by have := bel_size q2 HMM.out; have := HB3.out.size; omega))
    have hb : Below w4.heap.size w4 w5 := Below.trans ((Below.refl _ _).alloc (Nat.le_refl _) _) (below_gb HB5.out.2 (by simp) (by have := HT.out; omega))
    exact ⟨p4.below hb, HB5.out.1, e4.trans (hb.mono hs4)⟩
  have r1 : w5.cell? ⟨P, 5, none⟩ = some (.int .i64 (d : Nat)) := H5.out.1.cell 5 _ (by rw [← HC6.out]; rfl)
  have r2 : w5.rangeAt P 0 Y4 := fun j u hj => by
    rw [Nat.zero_add]
    refine H5.out.1.cell j u ?_
    rw [HY4.out] at hj
    rw [← HC6.out]
    match j, hj with
    | 0, hj => exact hj
    | 1, hj => exact hj
    | 2, hj => exact hj
    | 3, hj => exact hj
    | j + 4, hj => simp at hj
  have r3 : w5.rangeAt T 0 Y4 := H5.out.2.1.range
  clear H29 HB3 HB4 HB5
  go_wp2_with (first
    | (go_at_call 8; refine (H8.out _).mono ?_; rintro e6 w6 ⟨rfl, hw⟩; obtain rfl := hw.symm; clear hw)
    | (refine load_wanted 24 (.tmp 9) (by rfl) (by simp [Region.wanted, yielded, Act.put]) T 0 (by rfl) Y4 _ r3 Try.underlying24 rfl hz4 ?_)
    | (refine load_wanted 24 (.tmp 48) (by rfl) (by simp [Region.wanted, yielded, Act.put]) P 0 (by rfl) Y4 _ r2 Try.underlying24 rfl hz4 ?_))
  go_ret
  exact ⟨rfl, by rw [HMM.out]; exact H5.out.2.2⟩
theorem law_ok (s : ByteArray) (w : World) : Calls Try.prog 3 #[.string s] w fun e w' => e = .returned (.bool true) ∧ Below w.heap.size w w' := by
  rcases bad_or_good s with ⟨k, h⟩ | ⟨m, d, h⟩
  · exact law_bad s k h w
  · exact law_good s m d h w
end Go.Proofs.Ytffejkfkkciaaaa
