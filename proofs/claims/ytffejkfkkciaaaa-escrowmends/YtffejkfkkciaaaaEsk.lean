import Derived.Test.YtffejkfkkciaaaaEsi
import Derived.WalkMore
import Derived.Test.YtffejkfkkciaaaaTake
namespace Go.Proofs.Ytffejkfkkciaaaa
open Go.RowKit
set_option linter.unusedVariables false
set_option linter.unusedSimpArgs false
theorem wrap_next (j r : Nat) (h : j < r) (hr : r ≤ 1000) : wrap64 ((j : Int) + 1) = ((j + 1 : Nat) : Int) := by unfold wrap64; omega
theorem sub_next (j r : Nat) (h : j < r) : r - (intOf (.int .i64 ((j + 1 : Nat) : Int))).toNat < r - (intOf (.int .i64 (j : Nat))).toNat := by simp only [intOf, Int.toNat_natCast]; omega
theorem field24 (a b c d : Int) (w : World) : (Instr.field 24 (.agg #[.int .u16 a, .int .i64 b, .int .i64 c, .int .i64 d]) 3).run Try.prog w = .ok (.int .i64 d) w := by kernel_rfl
theorem valuesIn_ok (b off c n : Nat) (l : List F) (w : World) (hn : l.length = n) (h5 : 5 ≤ n) (hs : (l.getD 4 0).1 + 9 ≤ n) (hc : n ≤ c) (h : Rw w b off l) : Calls Try.prog 47 #[.slice (some ⟨b, off, none⟩) n c] w fun e w' => Hid (∃ a, e = .returned (.slice a ((l.getD 4 0).1 + 4) (c - 5)) ∧ Below w.heap.size w w') := by
  have H16 : Hid (Calls Try.prog 16 #[.slice (some ⟨b, off, none⟩) n c] w fun e w' => Hid (e = .returned (.agg (tds l).toArray) ∧ Below w.heap.size w w')) := told_ok b off c n l w hn h5 h
  obtain ⟨s, HS⟩ : ∃ s : Nat, Hid ((l.getD 4 0).1 = s) := ⟨_, rfl⟩
  have h256 : s < 256 := by rw [← HS.out]; exact (l.getD 4 0).2
  rw [HS.out] at hs ⊢
  have HT : Hid (tds l = [.int .u16 (setN l : Nat), .int .i64 ((l.getD 2 0).1 : Nat), .int .i64 ((l.getD 3 0).1 : Nat), .int .i64 (s : Nat)]) := by show _ = _; unfold tds; rw [HS.out]
  rw [HT.out] at H16
  have e1 : IntKind.i64.wrap (5 + (s : Int)) = ((5 + s : Nat) : Int) := by rw [IntKind.wrap_i64]; omega
  obtain ⟨a, HA⟩ : ∃ a, Hid (5 + s = a) := ⟨_, rfl⟩
  have ha := HA.out
  rw [ha] at e1
  have e2 : IntKind.i64.wrap ((a : Int) + 4) = ((a + 4 : Nat) : Int) := by rw [IntKind.wrap_i64]; omega
  obtain ⟨m, HM⟩ : ∃ b, Hid (a + 4 = b) := ⟨_, rfl⟩
  have hm := HM.out
  rw [hm] at e2
  have g1 : (5 : Int) ≤ (m : Int) := by omega
  have g2 : (m : Int) ≤ (c : Int) := by omega
  have g3 : (0 : Int) ≤ (m : Int) := by omega
  have HE : Hid (s + 4 = m - 5) := by show _ = _; omega
  have hc5 : ¬ c = 5 := by omega
  have hf := fun w => field24 (setN l : Nat) ((l.getD 2 0).1 : Nat) ((l.getD 3 0).1 : Nat) (s : Nat) w
  generalize (l.getD 2 0).1 = v2 at H16 hf
  generalize (l.getD 3 0).1 = v3 at H16 hf
  generalize setN l = sn at H16 hf
  clear h hn h5 ha hm hs HT
  go_enter Try.func47, Try.ntmps47
  go_wp2_with (first
    | (go_at_call 16; refine H16.out.mono ?_; intro e1 w1 hh; obtain ⟨rfl, q⟩ := hh.out; have HB1 : Hid (Below w.heap.size w w1) := q; clear hh q H16))
  go_ret
  rw [HE.out]
  exact ⟨_, rfl, HB1.out⟩
/-- Is it a share's row? -/
def okS (l : List F) : Prop := (1 ≤ (l.getD 2 0).1 ∧ (l.getD 2 0).1 ≤ 16) ∧ 1 ≤ (l.getD 3 0).1 ∧ (1 ≤ (l.getD 4 0).1 ∧ (l.getD 4 0).1 ≤ 64) ∧ l.length = unc (l.getD 4 0).1 + 4 ∧ (∀ j, j < (9 + (l.getD 4 0).1) % 2 → l.getD (9 + (l.getD 4 0).1 + j) 0 = 0) ∧ sumL l = [0, 0, 0, 0]
set_option maxHeartbeats 1600000 in
set_option maxRecDepth 100000 in
theorem isShare_ok (b off c n : Nat) (l : List F) (w : World) (hn : l.length = n) (h5 : 14 ≤ n) (h255 : n ≤ 255) (hc : n ≤ c) (h : Rw w b off l) (hb : b < w.heap.size) : Calls Try.prog 26 #[.slice (some ⟨b, off, none⟩) n c] w fun e w' => Hid (∃ d, e = .returned (.bool d) ∧ (d = true ↔ okS l) ∧ Below w.heap.size w w') := by
  obtain ⟨M, HMM⟩ : ∃ M, Hid (w.heap.size = M) := ⟨_, rfl⟩
  have H16 : Hid (Calls Try.prog 16 #[.slice (some ⟨b, off, none⟩) n c] w fun e w' => Hid (e = .returned (.agg (tds l).toArray) ∧ Below w.heap.size w w')) := told_ok b off c n l w hn (by omega) h
  have HR : Hid (Rw w b off l ∧ b < w.heap.size ∧ l.length = n ∧ 14 ≤ n ∧ n ≤ 255 ∧ n ≤ c) := ⟨h, hb, hn, h5, h255, hc⟩
  obtain ⟨TD, HTD⟩ : ∃ q, Hid (tds l = q) := ⟨_, rfl⟩
  have HTL : Hid (TD.length = 4 ∧ ∀ v ∈ TD, v.oneCell' = true) := by rw [← HTD.out]; refine ⟨rfl, fun v hv => ?_⟩; simp [tds] at hv; rcases hv with rfl | rfl | rfl | rfl <;> rfl
  have hi7 : (Try.prog.info? 24).map (·.size) = some TD.length := by rw [HTL.out.1]; kernel_rfl
  rw [HTD.out] at H16
  obtain ⟨nd, HND⟩ : ∃ s : Nat, Hid ((l.getD 2 0).1 = s) := ⟨_, rfl⟩
  obtain ⟨ix, HIX⟩ : ∃ s : Nat, Hid ((l.getD 3 0).1 = s) := ⟨_, rfl⟩
  obtain ⟨s, HS⟩ : ∃ s : Nat, Hid ((l.getD 4 0).1 = s) := ⟨_, rfl⟩
  have HTV : Hid (TD = [.int .u16 (setN l : Nat), .int .i64 (nd : Nat), .int .i64 (ix : Nat), .int .i64 (s : Nat)]) := by show _ = _; rw [← HTD.out, ← HND.out, ← HIX.out, ← HS.out]; rfl
  have HOK : Hid (okS l ↔ (1 ≤ nd ∧ nd ≤ 16) ∧ 1 ≤ ix ∧ (1 ≤ s ∧ s ≤ 64) ∧ n = unc s + 4 ∧ (∀ j, j < (9 + s) % 2 → l.getD (9 + s + j) 0 = 0) ∧ sumL l = [0, 0, 0, 0]) := by show _ ↔ _; unfold okS; rw [HND.out, HIX.out, HS.out, hn]
  have hs256 : s < 256 := by rw [← HS.out]; exact (l.getD 4 0).2
  have H45 : Hid (∀ u, Calls Try.prog 45 #[.int .i64 (nd : Nat)] u fun e w' => e = .returned (.bool (decide (1 ≤ nd ∧ nd ≤ 16))) ∧ w' = u) := fun u => mayNeed_ok nd u
  have H46 : Hid (∀ u, Calls Try.prog 46 #[.int .i64 (s : Nat)] u fun e w' => e = .returned (.bool (decide (1 ≤ s ∧ s ≤ 64))) ∧ w' = u) := fun u => mayShare_ok s u
  have H24 : Hid (∀ u, Calls Try.prog 24 #[.int .i64 (s : Nat)] u fun e w' => e = .returned (.int .i64 (unc s + 4 : Nat)) ∧ w' = u) := fun u => rowSize_ok s (by omega) u
  clear h hb hn h5 h255 hc
  go_enter Try.func26, Try.ntmps26
  go_upto_region 2 with (first
    | (go_at_call 16; refine H16.out.mono ?_; intro e1 w1 hh; obtain ⟨rfl, q⟩ := hh.out; have HB1 : Hid (Below w.heap.size w w1) := q; clear hh q H16)
    | (refine wpList_store_bx (by rfl) 24 (.tmp 3) (.tmp 7) (by rfl) [.int .u16 0, .int .i64 0, .int .i64 0, .int .i64 0] TD w1.heap.size (by rfl) (by rfl) (Bx.new w1 24 _) (by rw [HTL.out.1]; rfl) hi7 HTL.out.2 ?_; intro w2 hb2 hg2; have HB2 : Hid (Bx w2 w1.heap.size 24 TD ∧ (w1.alloc (.cells [Value.int .u16 0, .int .i64 0, .int .i64 0, .int .i64 0].toArray 24)).grownBy w2 (some w1.heap.size)) := ⟨hb2, hg2⟩; clear hb2 hg2))
  obtain ⟨Q, HQ⟩ : ∃ Q, Hid (w1.heap.size = Q) := ⟨_, rfl⟩
  rw [HQ.out] at HB2 ⊢
  have c1 : w2.cell? ⟨Q, 1, none⟩ = some (.int .i64 (nd : Nat)) := HB2.out.1.cell 1 _ (by rw [HTV.out]; rfl)
  have c2 : w2.cell? ⟨Q, 2, none⟩ = some (.int .i64 (ix : Nat)) := HB2.out.1.cell 2 _ (by rw [HTV.out]; rfl)
  have c3 : w2.cell? ⟨Q, 3, none⟩ = some (.int .i64 (s : Nat)) := HB2.out.1.cell 3 _ (by rw [HTV.out]; rfl)
  have HB : Hid (Below w.heap.size w w2) := HB1.out.trans ((((Below.refl _ _).alloc (by rw [HQ.out]; exact Nat.le_refl _) _).trans (below_gb HB2.out.2 (by simp) (Nat.le_of_eq HQ.out))).mono HB1.out.size)
  have HRW : Hid (Rw w2 b off l ∧ b < w2.heap.size) := ⟨HR.out.1.below HB.out, Nat.lt_of_lt_of_le HR.out.2.1 HB.out.size⟩
  have hno : ∀ p : Prop, ¬ p → (false = true ↔ p) := fun p hp => ⟨fun e => (by cases e), fun e => absurd e hp⟩
  have HNO : Hid (∀ p : Prop, ¬ p → (false = true ↔ p)) := hno
  clear hno HB1 HB2
  by_cases p1 : 1 ≤ nd ∧ nd ≤ 16
  case neg =>
    have HF : Hid (¬ okS l) := fun e => p1 (HOK.out.1 e).1
    rw [show decide (1 ≤ nd ∧ nd ≤ 16) = false from decide_eq_false p1] at H45
    clear p1
    go_wp2_with (first
      | (go_at_call 45; refine (H45.out _).mono ?_; rintro e3 w3 ⟨rfl, hw⟩; obtain rfl := hw.symm; clear hw)
      | (go_at_call 46; refine (H46.out _).mono ?_; rintro e3 w3 ⟨rfl, hw⟩; obtain rfl := hw.symm; clear hw)
      | (go_at_call 24; refine (H24.out _).mono ?_; rintro e3 w3 ⟨rfl, hw⟩; obtain rfl := hw.symm; clear hw))
    go_ret
    exact ⟨false, rfl, HNO.out _ HF.out, HB.out⟩
  case pos =>
  rw [show decide (1 ≤ nd ∧ nd ≤ 16) = true from decide_eq_true p1] at H45
  have HP1 : Hid (1 ≤ nd ∧ nd ≤ 16) := p1
  clear p1
  by_cases p2 : 1 ≤ ix
  case neg =>
    have HF : Hid (¬ okS l) := fun e => p2 (HOK.out.1 e).2.1
    have g2 : (ix : Int) < 1 := by omega
    clear p2
    go_wp2_with (first
      | (go_at_call 45; refine (H45.out _).mono ?_; rintro e3 w3 ⟨rfl, hw⟩; obtain rfl := hw.symm; clear hw)
      | (go_at_call 46; refine (H46.out _).mono ?_; rintro e3 w3 ⟨rfl, hw⟩; obtain rfl := hw.symm; clear hw)
      | (go_at_call 24; refine (H24.out _).mono ?_; rintro e3 w3 ⟨rfl, hw⟩; obtain rfl := hw.symm; clear hw))
    go_ret
    exact ⟨false, rfl, HNO.out _ HF.out, HB.out⟩
  case pos =>
  have g2 : decide ((ix : Int) < 1) = false := decide_eq_false (by omega)
  have HP2 : Hid (1 ≤ ix) := p2
  clear p2
  by_cases p3 : 1 ≤ s ∧ s ≤ 64
  case neg =>
    have HF : Hid (¬ okS l) := fun e => p3 (HOK.out.1 e).2.2.1
    rw [show decide (1 ≤ s ∧ s ≤ 64) = false from decide_eq_false p3] at H46
    clear p3
    go_wp2_with (first
      | (go_at_call 45; refine (H45.out _).mono ?_; rintro e3 w3 ⟨rfl, hw⟩; obtain rfl := hw.symm; clear hw)
      | (go_at_call 46; refine (H46.out _).mono ?_; rintro e3 w3 ⟨rfl, hw⟩; obtain rfl := hw.symm; clear hw)
      | (go_at_call 24; refine (H24.out _).mono ?_; rintro e3 w3 ⟨rfl, hw⟩; obtain rfl := hw.symm; clear hw))
    go_ret
    exact ⟨false, rfl, HNO.out _ HF.out, HB.out⟩
  case pos =>
  rw [show decide (1 ≤ s ∧ s ≤ 64) = true from decide_eq_true p3] at H46
  have HP3 : Hid (1 ≤ s ∧ s ≤ 64) := p3
  clear p3
  obtain ⟨U, HU⟩ : ∃ U, Hid (unc s = U) := ⟨_, rfl⟩
  rw [HU.out] at H24
  obtain ⟨U4, HU4⟩ : ∃ U4, Hid (U + 4 = U4) := ⟨_, rfl⟩
  rw [HU4.out] at H24
  by_cases p4 : n = U4
  case neg =>
    have HF : Hid (¬ okS l) := fun e => p4 (by rw [← HU4.out, ← HU.out]; exact (HOK.out.1 e).2.2.2.1)
    have g4 : ((n : Int) != (U4 : Int)) = true := by rw [bne_iff_ne]; omega
    clear p4
    go_wp2_with (first
      | (go_at_call 45; refine (H45.out _).mono ?_; rintro e3 w3 ⟨rfl, hw⟩; obtain rfl := hw.symm; clear hw)
      | (go_at_call 46; refine (H46.out _).mono ?_; rintro e3 w3 ⟨rfl, hw⟩; obtain rfl := hw.symm; clear hw)
      | (go_at_call 24; refine (H24.out _).mono ?_; rintro e3 w3 ⟨rfl, hw⟩; obtain rfl := hw.symm; clear hw))
    go_ret
    exact ⟨false, rfl, HNO.out _ HF.out, HB.out⟩
  case pos =>
  subst p4
  go_wp2_with (first
      | (go_at_call 45; refine (H45.out _).mono ?_; rintro e3 w3 ⟨rfl, hw⟩; obtain rfl := hw.symm; clear hw)
      | (go_at_call 46; refine (H46.out _).mono ?_; rintro e3 w3 ⟨rfl, hw⟩; obtain rfl := hw.symm; clear hw)
      | (go_at_call 24; refine (H24.out _).mono ?_; rintro e3 w3 ⟨rfl, hw⟩; obtain rfl := hw.symm; clear hw))
  clear c1 c2
  have H47 : Hid (∀ u, Rw u b off l → Calls Try.prog 47 #[.slice (some ⟨b, off, none⟩) n c] u fun e w' => Hid (∃ a, e = .returned (.slice a (s + 4) (c - 5)) ∧ Below u.heap.size u w')) := fun u hu => by
    have q := valuesIn_ok b off c n l u HR.out.2.2.1 (by have := HR.out.2.2.2.1; omega) (by have a1 := HU4.out; have a2 := HU.out; unfold unc at a2; rw [HS.out]; omega) HR.out.2.2.2.2.2 hu
    rw [HS.out] at q
    exact q
  have H38 : Hid (∀ u, Calls Try.prog 38 #[.int .i64 (s : Nat)] u fun e w' => e = .returned (.int .i64 (U : Nat)) ∧ w' = u) := fun u => by rw [← HU.out]; exact uncoded_ok s (by have := HP3.out; omega) u
  have H40 : Hid (∀ u, Rw u b off l → b < u.heap.size → Calls Try.prog 40 #[.slice (some ⟨b, off, none⟩) n c] u fun e w' => Hid (e = .returned (.agg (fc (sumL l)).toArray) ∧ Below u.heap.size u w')) := fun u hu hb => by
    have q := sumsOf_ok b off c l u (by have := HR.out; omega) hu hb
    rw [HR.out.2.2.1] at q
    exact q
  obtain ⟨V4, HV4⟩ : ∃ v, Hid (s + 4 = v) := ⟨_, rfl⟩
  obtain ⟨Z, HZ⟩ : ∃ z, Hid (9 + s = z) := ⟨_, rfl⟩
  obtain ⟨r, HRR⟩ : ∃ r, Hid (U - Z = r) := ⟨_, rfl⟩
  have HNUM : Hid (Z ≤ U ∧ U + 4 = n ∧ n ≤ c ∧ Z + r = U ∧ r = (9 + s) % 2 ∧ V4 + 5 = Z ∧ s ≤ 64 ∧ n ≤ 255) := by
    have a1 := HU4.out; have a2 := HU.out; have a3 := HZ.out; have a4 := HRR.out; have a5 := HV4.out; have a6 := HP3.out; have a7 := HR.out
    unfold unc at a2
    exact ⟨by omega, by omega, by omega, by omega, by omega, by omega, by omega, by omega⟩
  rw [HV4.out] at H47
  have e1 : IntKind.i64.wrap (5 + (V4 : Int)) = (Z : Int) := by have := HNUM.out; rw [IntKind.wrap_i64]; omega
  have e2 : (Z : Int) ≤ (U : Int) := by have := HNUM.out; omega
  have e3 : (U : Int) ≤ (c : Int) := by have := HNUM.out; omega
  have e4 : (0 : Int) ≤ (Z : Int) := by omega
  have e5 : ¬ c = Z := by have := HNUM.out; omega
  have hS0 : w2.drew.cell? ⟨Q, 3, none⟩ = some (.int .i64 (s : Nat)) ∧ Rw w2.drew b off l ∧ Below w.heap.size w w2.drew ∧ b < w2.drew.heap.size ∧ Q < w2.drew.heap.size := ⟨c3, HRW.out.1, HB.out.drew, HRW.out.2, World.block_lt_of_cell? _ _ c3⟩
  clear c3
  refine wp_region_noPanic ?_
  refine wp_region_held_drew (S := fun u => u.cell? ⟨Q, 3, none⟩ = some (.int .i64 (s : Nat)) ∧ Rw u b off l ∧ Below w.heap.size w u ∧ b < u.heap.size ∧ Q < u.heap.size) (by kernel_rfl) hS0 (fun _ => ?_)
  refine takeH_at 0 31 (.slice (some ⟨b, off, none⟩) n c) rfl rfl (by kernel_rfl) (by kernel_rfl) (by kernel_rfl) (fun _ _ _ h => h) hS0 (Or.inl ⟨by rfl, fun w' hS' => by obtain ⟨k1, k2, k3⟩ := hS'; clear k2 k3; go_simp⟩) ?_
  simp only [List.setIfInBounds_toArray, List.set_cons_zero, List.set_cons_succ]
  refine takeH_at 1 32 (.slice (some ⟨b, off, none⟩) n c) rfl rfl (by kernel_rfl) (by kernel_rfl) (by kernel_rfl) (fun _ _ _ h => h) hS0 (Or.inl ⟨by rfl, fun w' hS' => by obtain ⟨k1, k2, k3⟩ := hS'; clear k2 k3; go_simp⟩) ?_
  simp only [List.setIfInBounds_toArray, List.set_cons_zero, List.set_cons_succ]
  refine takeH_at 5 36 (.pointer (some ⟨Q, 3, none⟩)) rfl rfl (by kernel_rfl) (by kernel_rfl) (by kernel_rfl) (fun _ _ _ h => h) hS0 (Or.inl ⟨by rfl, fun w' hS' => by obtain ⟨k1, k2, k3⟩ := hS'; clear k2 k3; go_simp⟩) ?_
  simp only [List.setIfInBounds_toArray, List.set_cons_zero, List.set_cons_succ]
  refine takeH_at 6 37 (.int .i64 (s : Nat)) rfl rfl (by kernel_rfl) (by kernel_rfl) (by kernel_rfl) (fun _ _ _ h => h) hS0 (Or.inl ⟨by rfl, fun w' hS' => by obtain ⟨k1, k2, k3⟩ := hS'; clear k2 k3; go_simp⟩) ?_
  simp only [List.setIfInBounds_toArray, List.set_cons_zero, List.set_cons_succ]
  refine takeH_at 10 41 (.int .i64 0) rfl rfl (by kernel_rfl) (by kernel_rfl) (by kernel_rfl) (fun _ _ _ h => h) hS0 (Or.inl ⟨by rfl, fun w' hS' => by obtain ⟨k1, k2, k3⟩ := hS'; clear k2 k3; go_simp⟩) ?_
  simp only [List.setIfInBounds_toArray, List.set_cons_zero, List.set_cons_succ]
  refine wpAnyH_ready (rs := [2]) (by kernel_rfl) (by simp) ?_
  refine AllReadyH.cons rfl (fun K hK => ?_) AllReadyH.nil
  go_simp
  refine (H47.out _ hS0.2.1).mono ?_
  intro e91 q1 hh
  obtain ⟨av, rfl, hb1⟩ := hh.out
  have hS1 : q1.cell? ⟨Q, 3, none⟩ = some (.int .i64 (s : Nat)) ∧ Rw q1 b off l ∧ Below w.heap.size w q1 ∧ b < q1.heap.size ∧ Q < q1.heap.size := ⟨(hb1.cell hS0.2.2.2.2).trans hS0.1, hS0.2.1.below hb1, hS0.2.2.1.trans (hb1.mono hS0.2.2.1.size), Nat.lt_of_lt_of_le hS0.2.2.2.1 hb1.size, Nat.lt_of_lt_of_le hS0.2.2.2.2 hb1.size⟩
  clear hh hb1
  go_wp2_with fail
  refine hK.out _ _ hS1 (fun _ => ?_)
  clear hK K hS0
  try simp only [Act.put, List.setIfInBounds_toArray, List.set_cons_zero, List.set_cons_succ]
  refine takeH_at 3 34 (.int .i64 (V4 : Nat)) rfl rfl (by kernel_rfl) (by kernel_rfl) (by kernel_rfl) (fun _ _ _ h => h) hS1 (Or.inl ⟨by rfl, fun w' hS' => by obtain ⟨k1, k2, k3⟩ := hS'; clear k2 k3; go_simp⟩) ?_
  simp only [List.setIfInBounds_toArray, List.set_cons_zero, List.set_cons_succ]
  refine takeH_at 4 35 (.int .i64 (Z : Nat)) rfl rfl (by kernel_rfl) (by kernel_rfl) (by kernel_rfl) (fun _ _ _ h => h) hS1 (Or.inl ⟨by rfl, fun w' hS' => by obtain ⟨k1, k2, k3⟩ := hS'; clear k2 k3; go_simp⟩) ?_
  simp only [List.setIfInBounds_toArray, List.set_cons_zero, List.set_cons_succ]
  refine wpAnyH_ready (rs := [7]) (by kernel_rfl) (by simp) ?_
  refine AllReadyH.cons rfl (fun K hK => ?_) AllReadyH.nil
  go_simp
  refine (H38.out _).mono ?_
  rintro e92 q2 ⟨rfl, hw⟩
  obtain rfl := hw.symm
  clear hw
  go_wp2_with fail
  refine hK.out _ _ hS1 (fun _ => ?_)
  clear hK K
  try simp only [Act.put, List.setIfInBounds_toArray, List.set_cons_zero, List.set_cons_succ]
  refine takeH_at 8 39 (.slice (some ⟨b, off + Z, none⟩) (U - Z) (c - Z)) rfl rfl (by kernel_rfl) (by kernel_rfl) (by kernel_rfl) (fun _ _ _ h => h) hS1 (Or.inl ⟨by rfl, fun w' hS' => by obtain ⟨k1, k2, k3⟩ := hS'; clear k2 k3; go_simp⟩) ?_
  simp only [List.setIfInBounds_toArray, List.set_cons_zero, List.set_cons_succ]
  refine takeH_at 9 40 (.int .i64 (U - Z : Nat)) rfl rfl (by kernel_rfl) (by kernel_rfl) (by kernel_rfl) (fun _ _ _ h => h) hS1 (Or.inl ⟨by rfl, fun w' hS' => by obtain ⟨k1, k2, k3⟩ := hS'; clear k2 k3; go_simp⟩) ?_
  simp only [List.setIfInBounds_toArray, List.set_cons_zero, List.set_cons_succ]
  refine wpAnyH_done (by kernel_rfl) ?_ _
  refine NoPanic.normal ?_
  rw [HRR.out]
  have HI0 : Hid (Rw q1 b off l ∧ b < q1.heap.size ∧ Below w.heap.size w q1) := ⟨hS1.2.1, hS1.2.2.2.1, hS1.2.2.1⟩
  clear hS1 e1 e2 e3 e4 e5
  obtain ⟨L, HLL⟩ : ∃ L, Hid (fc (sumL l) = L) := ⟨_, rfl⟩
  rw [HLL.out] at H40
  obtain ⟨d, HD⟩ : ∃ d : Bool, Hid ((d = true ↔ sumL l = [0, 0, 0, 0]) ∧ ∀ u, (binOp .eql 77 (.agg L.toArray) (.agg #[.int .u8 0, .int .u8 0, .int .u8 0, .int .u8 0])).run Try.prog u = .ok (.bool d) u) := by
    refine ⟨decide (sumL l = [0, 0, 0, 0]), decide_eq_true_iff, fun u => ?_⟩
    rw [← HLL.out]
    exact eql4 77 Try.und77 (sumL l) [0, 0, 0, 0] rfl rfl u
  go_wp2
  go_loopw [41] (fun vi wr => ∃ j : Nat, j ≤ r ∧ vi = .int .i64 (j : Nat) ∧ Hid ((∀ q, q < j → l.getD (Z + q) 0 = 0) ∧ Rw wr b off l ∧ b < wr.heap.size ∧ Below w.heap.size w wr)) (fun vi _ => r - (intOf vi).toNat)
  case atStart => exact ⟨0, by omega, rfl, fun _ h => absurd h (by omega), HI0.out⟩
  case round =>
    obtain ⟨j, hj, rfl, HI⟩ := hrel
    clear HI0
    by_cases hlt : j < r
    · have HLT : Hid (j < r) := hlt
      have g1 : (j : Int) < (r : Int) := by omega
      have g0 : (0 : Int) ≤ (j : Int) := by omega
      have c1 : wr.cell? ⟨b, off + Z + j, none⟩ = some (.int .u8 ((l.getD (Z + j) 0).1 : Nat)) := by
        have q := HI.out.2.1 (Z + j) (by have := HNUM.out; have := HR.out; omega)
        rw [Nat.add_assoc]; exact q
      by_cases e : l.getD (Z + j) 0 = 0
      · have HNX : Hid ((∀ q, q < j + 1 → l.getD (Z + q) 0 = 0) ∧ Rw wr b off l ∧ b < wr.heap.size ∧ Below w.heap.size w wr) := by
          refine ⟨fun q hq => ?_, HI.out.2⟩
          by_cases e2 : q = j
          · rw [e2]; exact e
          · exact HI.out.1 q (by omega)
        rw [e] at c1
        have c2 : wr.cell? ⟨b, off + Z + j, none⟩ = some (.int .u8 0) := c1
        clear c1 e hj hlt HI
        go_wp2
        have wj := wrap_next j r HLT.out (by have := HNUM.out; omega)
        refine ⟨⟨j + 1, HLT.out, by rw [wj], HNX.out⟩, ?_⟩
        rw [wj]
        exact sub_next j r HLT.out
      · have HF : Hid (¬ okS l) := fun h => e (by rw [← HZ.out]; exact (HOK.out.1 h).2.2.2.2.1 j (by have := HNUM.out; omega))
        have ne : ¬ (((l.getD (Z + j) 0).1 : Nat) : Int) = 0 := fun q => e (Fin.ext (show _ = 0 by omega))
        generalize (l.getD (Z + j) 0).1 = x at c1 ne
        clear e hj hlt
        go_wp2
        go_ret
        exact ⟨false, rfl, HNO.out _ HF.out, HI.out.2.2.2⟩
    · obtain rfl : j = r := by omega
      have g2 : ¬ (j : Int) < (j : Int) := Int.lt_irrefl _
      have hq := HD.out.2
      go_wp2_with (first
        | (go_at_call 40; refine (H40.out wr HI.out.2.1 HI.out.2.2.1).mono ?_; intro e5 w5 hh; obtain ⟨rfl, q5⟩ := hh.out; have HB5 : Hid (Below wr.heap.size wr w5) := q5; clear hh q5))
      go_ret
      refine ⟨d, rfl, ?_, HI.out.2.2.2.trans (HB5.out.mono HI.out.2.2.2.size)⟩
      rw [HD.out.1, HOK.out]
      have hsm := HNUM.out
      constructor
      · intro h
        exact ⟨HP1.out, HP2.out, HP3.out, by rw [HU.out, HU4.out], fun q hq => by rw [HZ.out]; exact HI.out.1 q (by omega), h⟩
      · intro h
        exact h.2.2.2.2.2
end Go.Proofs.Ytffejkfkkciaaaa
