import Derived.Test.YtgmfiljjogdccaaDoorKeep
import Derived.Laws.OwnMore
namespace Go.Proofs.YtgmfiljjogdccaaDoor
open Go.RowKit Go.RwLone
set_option linter.unusedVariables false
set_option linter.unusedSimpArgs false
/-- Bytes n to n + k - 1 of a stream. -/
def KS (nr : Nat) (K : Nat → Nat) (s : W4) (n k : Nat) : List Int := (List.range k).map fun i => ((ksb nr K s (n + i) : Nat) : Int)
theorem KS_length (nr : Nat) (K : Nat → Nat) (s : W4) (n k : Nat) : (KS nr K s n k).length = k := by simp [KS]
theorem KS_at (nr : Nat) (K : Nat → Nat) (s : W4) (n k i : Nat) (h : i < k) : (KS nr K s n k).getD i 0 = ((ksb nr K s (n + i) : Nat) : Int) := by simp [KS, List.getD, h]
theorem xorL_zeros (nr : Nat) (K : Nat → Nat) (s : W4) (n k : Nat) : xorL nr K s n (nat8 (List.replicate k 0)) k = KS nr K s n k := by
  refine ext_getD (xorL_length _ _ _ _ _ _) (KS_length _ _ _ _ _) (fun j hj => ?_)
  rw [KS_at _ _ _ _ _ _ hj]
  have e1 : (xorL nr K s n (nat8 (List.replicate k 0)) k).getD j 0 = ((Nat.xor (nat8 (List.replicate k 0) j) (ksb nr K s (n + j)) : Nat) : Int) := by simp [xorL, List.getD, hj]
  have e2 : nat8 (List.replicate k 0) j = 0 := by simp [nat8, List.getD, hj]
  rw [e1, e2]
  have e3 : ∀ x : Nat, Nat.xor 0 x = x := fun x => Nat.zero_xor x
  rw [e3]
theorem zeros_bytes (k : Nat) : AllBytes (List.replicate k 0) := fun i => by
  have : (List.replicate k (0 : Int)).getD i 0 = 0 := by
    rw [List.getD_eq_getElem?_getD, List.getElem?_replicate]
    split <;> rfl
  rw [this]; decide
theorem KS_piece (nr : Nat) (K : Nat → Nat) (s : W4) (n k a : Nat) (h : a + k ≤ n) : ((KS nr K s 0 n).drop a).take (a + k - a) = KS nr K s a k := by
  refine ext_getD (n := k) (by simp [KS]; omega) (KS_length _ _ _ _ _) (fun j hj => ?_)
  rw [KS_at _ _ _ _ _ _ hj]
  have : (((KS nr K s 0 n).drop a).take (a + k - a)).getD j 0 = (KS nr K s 0 n).getD (a + j) 0 := by simp [List.getD, List.getElem?_take, hj]
  rw [this, KS_at _ _ _ _ _ _ (by omega), Nat.zero_add]
theorem made_zeros (n : Nat) : (madeCells #[Value.int .u8 0] n).toList = cellsU8 (List.replicate n 0) := by
  rw [toList_madeCells_one]
  simp [cellsU8]
/-- What is known at the loop's head. -/
structure PI (w u : World) (g t nr : Nat) (K : Nat → Nat) (s : W4) (fr : Nat) (v1 : Value) (WL : List Int) (lo : Nat) : Prop where
  inn : Inn w u
  key : KeyAt u g nr K
  str : StreamAt u t g s fr
  own : u.ownsRow lo 5 1 v1 600 (cellsU8 WL)
theorem PI.below {w u u' : World} {g t nr : Nat} {K : Nat → Nat} {s : W4} {fr : Nat} {v1 : Value} {WL : List Int} {lo : Nat} (h : PI w u g t nr K s fr v1 WL lo) (hb : Below u.heap.size u u') : PI w u' g t nr K s fr v1 WL lo :=
  ⟨h.inn.below hb, h.key.same (hb.block _ h.key.ciph.here) hb.size, h.str.same (hb.block _ h.str.here) hb.size, ownsRow_same h.own (fun q hq => hb.block q (h.own.lt q hq).2)⟩
theorem PI.two {w u u' : World} {g t nr : Nat} {K : Nat → Nat} {s : W4} {fr fr' : Nat} {v1 : Value} {WL : List Int} {lo : Nat} (h : PI w u g t nr K s fr v1 WL lo) (ht : Touch2 u u' g t) (hk : KeyAt u' g nr K) (hs : StreamAt u' t g s fr') (h0 : 0 < w.heap.size) (h1 : w.heap.size < g) (h2 : g < t) (h3 : t < lo) : PI w u' g t nr K s fr' v1 WL lo :=
  ⟨h.inn.two ht (by omega) (by omega) h0, hk, hs, ownsRow_same h.own (fun q hq => ht.block q (h.own.lt q hq).2 (by have := (h.own.lt q hq).1; omega) (by have := (h.own.lt q hq).1; omega))⟩
set_option maxHeartbeats 12800000 in
set_option maxRecDepth 100000 in
theorem pieces_good (nk kb ko kcap : Nat) (key : Nat → Nat) (s : W4) (ca : Option Addr) (cl cc : Nat) (cz : Nat → Int) (w : World) (hrc : RC w) (hnk : nk = 4 ∨ nk = 6 ∨ nk = 8) (hkb : kb < w.heap.size) (hkc : ∀ i, i < 4 * nk → w.cell? ⟨kb, ko + i, none⟩ = some (.int .u8 (key i : Nat))) (hkey : ∀ i, key i < 256) (hs : s.ok)
    (hcl : cl ≤ cc) (hcc : cc ≤ maxLen) (hcu : ∀ i, i < cl → ∃ b p, ca = some ⟨b, p, none⟩ ∧ w.cell? ⟨b, p + i, none⟩ = some (.int .i64 (cz i))) (hcw : ∀ i, i < cl → -9223372036854775808 ≤ cz i ∧ cz i ≤ 9223372036854775807) :
    Calls Tryd.prog 6 #[.slice (some ⟨kb, ko, none⟩) (4 * nk) kcap, s.blk, .slice ca cl cc] w fun e w' => e = .returned (.bool true) ∧ Below w.heap.size w w' := by
  obtain ⟨i0, hi, hz0, hz1, hz2⟩ := info_parts Tryd.info5
  have HP : Hid (0 < w.heap.size) := World.block_lt_of_cell? w _ (hrc 0 (by decide))
  have HS : Hid s.ok := hs
  have HCU : Hid ((∀ i, i < cl → ∃ b p, ca = some ⟨b, p, none⟩ ∧ w.cell? ⟨b, p + i, none⟩ = some (.int .i64 (cz i))) ∧ ∀ i, i < cl → -9223372036854775808 ≤ cz i ∧ cz i ≤ 9223372036854775807) := ⟨hcu, hcw⟩
  have hcm : ((cc : Nat) : Int) ≤ 9223372036854775807 := by unfold maxLen at hcc; omega
  have HKEY : Hid (kb < w.heap.size ∧ (∀ i, i < 4 * nk → w.cell? ⟨kb, ko + i, none⟩ = some (.int .u8 (key i : Nat))) ∧ (∀ i, key i < 256) ∧ (nk = 4 ∨ nk = 6 ∨ nk = 8)) := ⟨hkb, hkc, hkey, hnk⟩
  have HI0 : Hid (Inn w (w.alloc (.cells #[.int .u8 (bt0 s.a : Nat), .int .u8 (bt1 s.a : Nat), .int .u8 (bt2 s.a : Nat), .int .u8 (bt3 s.a : Nat), .int .u8 (bt0 s.b : Nat), .int .u8 (bt1 s.b : Nat), .int .u8 (bt2 s.b : Nat), .int .u8 (bt3 s.b : Nat), .int .u8 (bt0 s.c : Nat), .int .u8 (bt1 s.c : Nat), .int .u8 (bt2 s.c : Nat), .int .u8 (bt3 s.c : Nat), .int .u8 (bt0 s.d : Nat), .int .u8 (bt1 s.d : Nat), .int .u8 (bt2 s.d : Nat), .int .u8 (bt3 s.d : Nat)] 42)) ∧ Kp (w.alloc (.cells #[.int .u8 (bt0 s.a : Nat), .int .u8 (bt1 s.a : Nat), .int .u8 (bt2 s.a : Nat), .int .u8 (bt3 s.a : Nat), .int .u8 (bt0 s.b : Nat), .int .u8 (bt1 s.b : Nat), .int .u8 (bt2 s.b : Nat), .int .u8 (bt3 s.b : Nat), .int .u8 (bt0 s.c : Nat), .int .u8 (bt1 s.c : Nat), .int .u8 (bt2 s.c : Nat), .int .u8 (bt3 s.c : Nat), .int .u8 (bt0 s.d : Nat), .int .u8 (bt1 s.d : Nat), .int .u8 (bt2 s.d : Nat), .int .u8 (bt3 s.d : Nat)] 42)) w.heap.size s.bytes) := by
    refine ⟨(Inn.mk hrc HP.out (Below.refl _ _)).below ((Below.refl _ w).alloc (Nat.le_refl _) _), fun j v hv => ?_, by simp⟩
    rw [World.cell?_alloc_at _ 42 _ _ rfl, Nat.zero_add, List.getElem?_toArray]
    exact hv
  clear hrc hs hkb hkc hkey hnk hcu hcw
  obtain ⟨n, HNK⟩ : ∃ n, Hid (n = 4 * nk) := ⟨_, rfl⟩
  rw [← HNK.out]
  show Calls Tryd.prog 6 #[.slice (some ⟨kb, ko, none⟩) n kcap, .agg #[.int .u8 (bt0 s.a : Nat), .int .u8 (bt1 s.a : Nat), .int .u8 (bt2 s.a : Nat), .int .u8 (bt3 s.a : Nat), .int .u8 (bt0 s.b : Nat), .int .u8 (bt1 s.b : Nat), .int .u8 (bt2 s.b : Nat), .int .u8 (bt3 s.b : Nat), .int .u8 (bt0 s.c : Nat), .int .u8 (bt1 s.c : Nat), .int .u8 (bt2 s.c : Nat), .int .u8 (bt3 s.c : Nat), .int .u8 (bt0 s.d : Nat), .int .u8 (bt1 s.d : Nat), .int .u8 (bt2 s.d : Nat), .int .u8 (bt3 s.d : Nat)], .slice ca cl cc] w _
  go_enter Tryd.func6, Tryd.ntmps6
  go_wp2_with fail
  generalize w.alloc (.cells #[.int .u8 (bt0 s.a : Nat), .int .u8 (bt1 s.a : Nat), .int .u8 (bt2 s.a : Nat), .int .u8 (bt3 s.a : Nat), .int .u8 (bt0 s.b : Nat), .int .u8 (bt1 s.b : Nat), .int .u8 (bt2 s.b : Nat), .int .u8 (bt3 s.b : Nat), .int .u8 (bt0 s.c : Nat), .int .u8 (bt1 s.c : Nat), .int .u8 (bt2 s.c : Nat), .int .u8 (bt3 s.c : Nat), .int .u8 (bt0 s.d : Nat), .int .u8 (bt1 s.d : Nat), .int .u8 (bt2 s.d : Nat), .int .u8 (bt3 s.d : Nat)] 42) = w0 at HI0 ⊢
  refine (vectors_ok w0 HI0.out.1.rc HI0.out.1.pos).mono ?_
  rintro e0 w1 ⟨rfl, hb1⟩
  have H1 : Hid (Inn w w1 ∧ Kp w1 w.heap.size s.bytes) := ⟨HI0.out.1.below hb1, HI0.out.2.same (hb1.block _ HI0.out.2.here) hb1.size⟩
  clear hb1 HI0
  have KN : Hid (Calls Tryd.prog 9 #[.slice (some ⟨kb, ko, none⟩) n kcap] w1 fun e w' => Hid (∃ g, e = .returned (.tuple #[.pointer (some ⟨g, 0, none⟩), .int .i64 0]) ∧ w1.heap.size ≤ g ∧ KeyAt w' g (nk + 6) (schedK nk key) ∧ Below w1.heap.size w1 w')) := by
    obtain ⟨p1, p2, p3, p4⟩ := HKEY.out
    rw [HNK.out]
    exact new_ok kb ko (4 * nk) kcap nk key w1 p4 rfl (Nat.lt_of_lt_of_le p1 H1.out.1.old.size) (fun i hi => (H1.out.1.old.cell p1).trans (p2 i hi)) p3 H1.out.1.rc H1.out.1.pos
  go_wp2_with (first | (go_at_call 9; refine KN.out.mono ?_))
  intro e2 w2 hh
  obtain ⟨g, rfl, hg2, hk2, hb2⟩ := hh.out
  obtain ⟨nr, hnr⟩ : ∃ nr, nr = nk + 6 := ⟨_, rfl⟩
  obtain ⟨K, hK⟩ : ∃ K, K = schedK nk key := ⟨_, rfl⟩
  rw [← hnr, ← hK] at hk2
  obtain ⟨LS, HLS⟩ : ∃ L, Hid (L = s.bytes) := ⟨_, rfl⟩
  rw [← HLS.out] at H1
  have HLl : Hid (LS.length = 16) := by show _ = _; rw [HLS.out]; rfl
  have H2 : Hid (Inn w w2 ∧ KeyAt w2 g nr K ∧ Kp w2 w.heap.size LS ∧ w.heap.size < g) := ⟨H1.out.1.below hb2, hk2, H1.out.2.same (hb2.block _ H1.out.2.here) hb2.size, Nat.lt_of_lt_of_le H1.out.2.here hg2⟩
  clear hg2 hk2 hb2 KN H1 hnr hK HKEY hh
  have KT : Hid (∀ u, KeyAt u g nr K → Calls Tryd.prog 28 #[.pointer (some ⟨g, 0, none⟩), .agg LS.toArray] u fun e w' => Hid (∃ t, e = .returned (.tuple #[.pointer (some ⟨t, 0, none⟩), .int .i64 0]) ∧ u.heap.size ≤ t ∧ StreamAt w' t g s 0 ∧ KeyAt w' g nr K ∧ Touch u w' g 4 1)) := fun u hu => by rw [HLS.out]; exact stream_ok g nr K s u hu HS.out
  go_wp2_with (first
    | (refine wpList_load_mid (by rfl) 42 (.tmp 4) (by rfl) w.heap.size 0 (by rfl) LS _ H2.out.2.2.1.at_ Tryd.underlying42 rfl (by rw [HLl.out]; exact size42) ?_)
    | (go_at_call 28; refine (KT.out _ H2.out.2.1).mono ?_))
  intro e3 w3 hh
  obtain ⟨t1, rfl, hgt, hst, hk, ht⟩ := hh.out
  have H3 : Hid (Inn w w3 ∧ KeyAt w3 g nr K ∧ Kp w3 w.heap.size LS ∧ StreamAt w3 t1 g s 0 ∧ w.heap.size < g ∧ g < t1) := by
    obtain ⟨q1, q2, q3, q4⟩ := H2.out
    have := q2.ciph.here
    exact ⟨q1.two (ht.left g) (by omega) (by omega) HP.out, hk, q3.same (ht.block _ q3.here (by omega)) ht.size, hst, q4, by omega⟩
  clear hgt hst hk ht hh H2
  go_wp2_with (first
    | (refine wpList_load_mid (by rfl) 42 (.tmp 4) (by rfl) w.heap.size 0 (by rfl) LS _ H3.out.2.2.1.at_ Tryd.underlying42 rfl (by rw [HLl.out]; exact size42) ?_)
    | (go_at_call 28; refine (KT.out _ H3.out.2.1).mono ?_))
  intro e4 w4 hh
  obtain ⟨t2, rfl, hgt, hst, hk, ht⟩ := hh.out
  have H4 : Hid (Inn w w4 ∧ KeyAt w4 g nr K ∧ StreamAt w4 t1 g s 0 ∧ StreamAt w4 t2 g s 0 ∧ w.heap.size < g ∧ g < t1 ∧ t1 < t2) := by
    obtain ⟨q1, q2, q3, q4, q5, q6⟩ := H3.out
    have := q4.here
    exact ⟨q1.two (ht.left g) (by omega) (by omega) HP.out, hk, q4.same (ht.block _ q4.here (by omega)) ht.size, hst, q5, q6, by omega⟩
  clear hgt hst hk ht hh H3 KT
  go_wp2_with (first
    | (at_make; go_must (refine wpList_make_full _ rfl _ _ 22 rfl w4.heap.size 5 i0 (.int .u8 0) 1 Tryd.underlying22 hi hz0 hz1 .i64 .i64 600 600 600 rfl rfl ?_ ?_ ?_ ?_ ?_ ?_)))
  · rfl
  · rfl
  · rw [hz2]; omega
  · unfold maxLen; omega
  · omega
  intro w5 hown5 hgr5
  rw [made_zeros] at hown5
  have hb5 : Below w4.heap.size w4 w5 := (Below.refl _ _).grown hgr5 (Nat.le_refl _) (by intro k hk; cases hk)
  have H5 : Hid (Inn w w5 ∧ KeyAt w5 g nr K ∧ StreamAt w5 t1 g s 0 ∧ StreamAt w5 t2 g s 0 ∧ View w5 (.slice (some ⟨w4.heap.size, 0, none⟩) 600 600) (List.replicate 600 0) ∧ w.heap.size < g ∧ g < t1 ∧ t1 < t2 ∧ t2 < w4.heap.size) := by
    obtain ⟨q1, q2, q3, q4, q5, q6, q7⟩ := H4.out
    exact ⟨q1.below hb5, q2.same (hb5.block _ q2.ciph.here) hb5.size, q3.same (hb5.block _ q3.here) hb5.size, q4.same (hb5.block _ q4.here) hb5.size, view_owns hown5 (by simp), q5, q6, q7, q4.here⟩
  clear hown5 hgr5 hb5 H4
  obtain ⟨WL, HWL⟩ : ∃ L, Hid (L = KS nr K s 0 600) := ⟨_, rfl⟩
  have KX : Hid (Calls Tryd.prog 29 #[.pointer (some ⟨t1, 0, none⟩), .slice (some ⟨w4.heap.size, 0, none⟩) 600 600] w5 fun e w' => Hid (∃ v, e = .returned (.tuple #[v, .int .i64 0]) ∧ w'.ownsRow w5.heap.size 5 1 v 600 (cellsU8 WL) ∧ KeyAt w' g nr K ∧ StreamAt w' t1 g s 600 ∧ Touch2 w5 w' g t1)) := by
    obtain ⟨q1, q2, q3, q4, q5, q6, q7, q8, q9⟩ := H5.out
    have h := xor_any t1 g 0 nr K s _ _ w5 q2 q3 (by omega) q5 (zeros_bytes 600) (by simp) (by simp) (fun x hx _ => by cases hx; exact ⟨by show w4.heap.size ≠ g; omega, by show w4.heap.size ≠ t1; omega⟩)
    rw [List.length_replicate, xorL_zeros, ← HWL.out] at h
    exact h
  go_wp2_with (first | (go_at_call 29; refine KX.out.mono ?_))
  intro e6 w6 hh
  obtain ⟨v1, rfl, hown, hk, hst, ht⟩ := hh.out
  obtain ⟨lo, hlo⟩ : ∃ l, l = w5.heap.size := ⟨_, rfl⟩
  rw [← hlo] at hown
  have HO : Hid (w.heap.size < g ∧ g < t2 ∧ t2 < lo) := by
    obtain ⟨q1, q2, q3, q4, q5, q6, q7, q8, q9⟩ := H5.out
    have := q4.here
    exact ⟨q6, by omega, by omega⟩
  have H6 : Hid (PI w w6 g t2 nr K s 0 v1 WL lo) := by
    obtain ⟨q1, q2, q3, q4, q5, q6, q7, q8, q9⟩ := H5.out
    exact ⟨q1.two ht (by omega) (by omega) HP.out, hk, q4.same (ht.block _ q4.here (by omega) (by omega)) ht.size, hown⟩
  have hv1 : ∃ gv cv, v1 = .slice (some ⟨gv, 0, none⟩) 600 cv ∧ ((cv : Nat) : Int) ≤ 9223372036854775807 ∧ (600 : Int) ≤ ((cv : Nat) : Int) := by
    rcases hown.2 with ⟨_, h0⟩ | ⟨gv, cv, cur, rfl, _, _, q3, q4, _⟩
    · omega
    · exact ⟨gv, cv, rfl, by unfold maxLen at q4; omega, by omega⟩
  obtain ⟨gv, cv, rfl, hcv1, hcv2⟩ := hv1
  clear hown hk hst ht hh H5 KX hlo
  go_wp2_with (first
    | (go_at_call 11; refine (num_ok _ _).mono ?_; rintro e9 w9 ⟨rfl, hw9⟩; obtain rfl := hw9.symm))
  go_loopw [15, 16] (fun f i wr => ∃ fr k : Nat, fr ≤ 600 ∧ k ≤ 40 ∧ f = .int .i64 (fr : Nat) ∧ i = .int .i64 (k : Nat) ∧ Hid (PI w wr g t2 nr K s fr (.slice (some ⟨gv, 0, none⟩) 600 cv) WL lo)) (fun _ i _ => 40 - (intOf i).toNat)
  case atStart => exact ⟨0, 0, by omega, by omega, rfl, rfl, H6⟩
  case round =>
    obtain ⟨fr, k, hfr, hk40, rfl, rfl, HI⟩ := hrel
    clear H6
    obtain ⟨bb, HBB⟩ : ∃ bb, Hid (bb = decide (k < cl ∧ k < 40 ∧ fr < 600)) := ⟨_, rfl⟩
    go_upto_region 13 with fail
    go_cut [66] from 55 to 119 (fun b wx => b = .bool bb ∧ wx = wr)
    case first =>
      by_cases h1 : k < cl
      · by_cases h2 : k < 40
        · by_cases h3 : fr < 600
          · have i1 : ((k : Nat) : Int) < (cl : Nat) := by omega
            have i2 : ((k : Nat) : Int) < 40 := by omega
            have i3 : ((fr : Nat) : Int) < 600 := by omega
            go_wp2
            go_meet
            exact ⟨congrArg Value.bool (by rw [HBB.out]; exact (decide_eq_true ⟨h1, h2, h3⟩).symm), rfl⟩
          · have i1 : ((k : Nat) : Int) < (cl : Nat) := by omega
            have i2 : ((k : Nat) : Int) < 40 := by omega
            have i3 : ¬ ((fr : Nat) : Int) < 600 := by omega
            go_wp2
            go_meet
            exact ⟨congrArg Value.bool (by rw [HBB.out]; exact (decide_eq_false (fun h => h3 h.2.2)).symm), rfl⟩
        · have i1 : ((k : Nat) : Int) < (cl : Nat) := by omega
          have i2 : ¬ ((k : Nat) : Int) < 40 := by omega
          go_wp2
          go_meet
          exact ⟨congrArg Value.bool (by rw [HBB.out]; exact (decide_eq_false (fun h => h2 h.2.1)).symm), rfl⟩
      · have i1 : ¬ ((k : Nat) : Int) < (cl : Nat) := by omega
        go_wp2
        go_meet
        exact ⟨congrArg Value.bool (by rw [HBB.out]; exact (decide_eq_false (fun h => h1 h.1)).symm), rfl⟩
    case rest =>
    obtain ⟨rfl, hwc⟩ := hcut
    have hwc' := hwc.symm
    subst hwc'
    cases bb with
    | false =>
      clear HBB
      have KA : Hid (Calls Tryd.prog 33 #[.pointer (some ⟨t2, 0, none⟩)] wr fun e w' => e = .returned (.int .u64 (fr : Nat)) ∧ w' = wr) := at_ok t2 g fr s wr HI.out.str
      go_wp2_with (first
        | (go_at_call 33; refine KA.out.mono ?_; rintro e10 w10' ⟨rfl, hw10⟩; obtain rfl := hw10.symm))
      go_ret
      exact ⟨ret_bool (by simp), HI.out.inn.old⟩
    | true =>
      have hb : k < cl ∧ k < 40 ∧ fr < 600 := of_decide_eq_true HBB.out.symm
      clear HBB
      obtain ⟨h1, h2, h3⟩ := hb
      obtain ⟨cb, cp, hca, hcell⟩ := HCU.out.1 k h1
      subst hca
      obtain ⟨c, HC⟩ : ∃ c, Hid (c = cz k) := ⟨_, rfl⟩
      rw [← HC.out] at hcell
      have hcr := HCU.out.2 k h1
      rw [← HC.out] at hcr
      obtain ⟨hcr1, hcr2⟩ := hcr
      have gc : wr.cell? ⟨cb, cp + k, none⟩ = some (.int .i64 c) := (HI.out.inn.old.cell (World.block_lt_of_cell? w _ hcell)).trans hcell
      clear hcell
      have i1 : ((k : Nat) : Int) < (cl : Nat) := by omega
      have i3 : ((fr : Nat) : Int) < 600 := by omega
      go_upto_if 78 with fail
      obtain ⟨r, HR⟩ : ∃ r, Hid (r = c.tmod (600 - (fr : Int) + 1)) := ⟨_, rfl⟩
      rw [← HR.out]
      have hr1 : r < 600 - (fr : Int) + 1 := by rw [HR.out]; exact Int.tmod_lt_of_pos c (by omega)
      have hr2 : -(600 - (fr : Int) + 1) < r := by rw [HR.out]; exact Int.lt_tmod_of_pos c (by omega)
      obtain ⟨nn, HNN⟩ : ∃ n : Nat, Hid (n = r.natAbs) := ⟨_, rfl⟩
      have hnn : fr + nn ≤ 600 := by have := HNN.out; omega
      go_cut [17] from 55 to 119 (fun x wx => x = .int .i64 (nn : Nat) ∧ wx = wr)
      case first =>
        by_cases hr0 : r < 0
        · go_wp2
          go_meet
          exact ⟨val_eq (by have := HNN.out; omega), rfl⟩
        · go_wp2
          go_meet
          exact ⟨val_eq (by have := HNN.out; omega), rfl⟩
      case rest =>
      obtain ⟨rfl, hwc⟩ := hcut
      have hwc' := hwc.symm
      subst hwc'
      clear HR hr1 hr2 HNN
      by_cases h0 : c.tmod 3 = 0
      · have hb0 : (c.tmod 3 == 0) = true := by simp [h0]
        have KK : Hid (Calls Tryd.prog 32 #[.pointer (some ⟨t2, 0, none⟩), .int .u64 (nn : Nat)] wr fun e w' => e = .returned (.int .i64 0) ∧ Hid (PI w w' g t2 nr K s (fr + nn) (.slice (some ⟨gv, 0, none⟩) 600 cv) WL lo)) := by
          obtain ⟨o1, o2, o3⟩ := HO.out
          refine (skip_ok t2 g fr nn nr K s wr HI.out.key HI.out.str (by omega) (by omega)).mono ?_
          rintro e w' ⟨rfl, q1, q2, q3⟩
          exact ⟨rfl, HI.out.two q3 q1 q2 HP.out o1 o2 o3⟩
        go_wp2_with (first
          | (go_at_call 32; refine KK.out.mono ?_; rintro e9 w9 ⟨rfl, HI9⟩)
          | (go_at_call 11; refine (num_ok _ _).mono ?_; rintro e9 w9 ⟨rfl, hw9⟩; obtain rfl := hw9.symm))
        exact ⟨⟨fr + nn, k + 1, hnn, by omega, val_eq (by omega), val_eq (by omega), HI9⟩, by simp only [intOf]; omega⟩
      · have hb0 : (c.tmod 3 == 0) = false := by simp [h0]
        go_wp2_with (first
          | (at_make; go_must (refine wpList_make_full _ rfl _ _ 22 rfl wr.heap.size 5 i0 (.int .u8 0) 1 Tryd.underlying22 hi hz0 hz1 .i64 .i64 (nn : Nat) (nn : Nat) nn rfl rfl ?_ ?_ ?_ ?_ ?_ ?_)))
        all_goals try (first | rfl | omega | (unfold maxLen; omega) | (simp; done))
        intro w5 hown5 hgr5
        have hb5 : Below wr.heap.size wr w5 := (Below.refl _ _).grown hgr5 (Nat.le_refl _) (by intro k hk; cases hk)
        have H5 : Hid (PI w w5 g t2 nr K s fr (.slice (some ⟨gv, 0, none⟩) 600 cv) WL lo ∧ View w5 (.slice (some ⟨wr.heap.size, 0, none⟩) nn nn) (List.replicate nn 0) ∧ g < wr.heap.size ∧ t2 < wr.heap.size) := by
          have hz : w5.ownsRow wr.heap.size 5 1 (.slice (some ⟨wr.heap.size, 0, none⟩) nn nn) nn (cellsU8 (List.replicate nn 0)) := by
            rw [← made_zeros]
            first | exact hown5 | simpa using hown5
          exact ⟨HI.out.below hb5, view_owns hz (by simp), HI.out.key.ciph.here, HI.out.str.here⟩
        clear hown5 hgr5 hb5
        have KX : Hid (Calls Tryd.prog 29 #[.pointer (some ⟨t2, 0, none⟩), .slice (some ⟨wr.heap.size, 0, none⟩) nn nn] w5 fun e w' => Hid (∃ v, e = .returned (.tuple #[v, .int .i64 0]) ∧ w'.ownsRow w5.heap.size 5 1 v nn (cellsU8 (KS nr K s fr nn)) ∧ PI w w' g t2 nr K s (fr + nn) (.slice (some ⟨gv, 0, none⟩) 600 cv) WL lo)) := by
          obtain ⟨o1, o2, o3⟩ := HO.out
          obtain ⟨q1, q2, q3, q4⟩ := H5.out
          have h := xor_any t2 g fr nr K s _ _ w5 q1.key q1.str (by omega) q2 (zeros_bytes nn) (by simp; omega) (by simp; omega) (fun x hx _ => by cases hx; exact ⟨by show wr.heap.size ≠ g; omega, by show wr.heap.size ≠ t2; omega⟩)
          rw [List.length_replicate, xorL_zeros] at h
          refine h.mono ?_
          rintro e w' ⟨v, rfl, p1, p2, p3, p4⟩
          exact ⟨v, rfl, p1, q1.two p4 p2 p3 HP.out o1 o2 o3⟩
        go_wp2_with (first | (go_at_call 29; refine KX.out.mono ?_))
        intro e6 w6 hh
        obtain ⟨v, rfl, hown, hpi⟩ := hh.out
        have H6 : Hid (w6.ownsRow w5.heap.size 5 1 v nn (cellsU8 (KS nr K s fr nn)) ∧ PI w w6 g t2 nr K s (fr + nn) (.slice (some ⟨gv, 0, none⟩) 600 cv) WL lo) := ⟨hown, hpi⟩
        clear hown hpi hh KX H5
        have i4 : ((fr : Nat) : Int) + ((nn : Nat) : Int) ≤ 600 := by omega
        have KSM : Hid (Calls Tryd.prog 30 #[v, .slice (some ⟨gv, fr, none⟩) nn (cv - fr)] w6 fun e w' => e = .returned (.bool true) ∧ ∃ m, w' = w6.drewN m) := by
          have ho := H6.out.2.own
          have hV : View w6 (.slice (some ⟨gv, fr, none⟩) nn (cv - fr)) (KS nr K s fr nn) := by
            refine ⟨some ⟨gv, fr, none⟩, cv - fr, by rw [KS_length], by rw [KS_length]; omega, by unfold maxLen; omega, (fun e => by cases e), Or.inr ⟨gv, fr, rfl, fun i hi => ?_⟩⟩
            rw [KS_length] at hi
            have hc := ho.cells (g := gv) rfl (fr + i) (.int .u8 (WL.getD (fr + i) 0)) (by
              have : fr + i < WL.length := by rw [HWL.out, KS_length]; omega
              simp [cellsU8, List.getD, List.getElem?_eq_getElem this])
            rw [Addr.add_lit, Nat.zero_add] at hc
            rw [hc, HWL.out, KS_at _ _ _ _ _ _ (by omega), KS_at _ _ _ _ _ _ hi, Nat.zero_add]
          have h := same_any v (.slice (some ⟨gv, fr, none⟩) nn (cv - fr)) (KS nr K s fr nn) (KS nr K s fr nn) w6 (view_owns H6.out.1 (KS_length _ _ _ _ _)) hV
          rw [decide_eq_true (rfl : KS nr K s fr nn = KS nr K s fr nn)] at h
          exact h
        go_upto_region 23 with fail
        go_cut [116] from 55 to 119 (fun b wx => b = .bool false ∧ Hid (PI w wx g t2 nr K s (fr + nn) (.slice (some ⟨gv, 0, none⟩) 600 cv) WL lo))
        case first =>
          go_wp2_with (first
            | (go_at_call 11; refine (num_ok _ _).mono ?_; rintro e9 w9 ⟨rfl, hw9⟩; obtain rfl := hw9.symm))
          refine KSM.out.mono ?_
          rintro e9 w9 ⟨rfl, q9, hw9⟩
          have HI9 : Hid (PI w w9 g t2 nr K s (fr + nn) (.slice (some ⟨gv, 0, none⟩) 600 cv) WL lo) := by
            show PI _ _ _ _ _ _ _ _ _ _ _
            rw [hw9]
            exact H6.out.2.below (Below.drewN (Below.refl _ _) q9)
          clear hw9
          go_wp2
          go_meet
          exact ⟨rfl, HI9⟩
        case rest =>
        obtain ⟨rfl, HI9⟩ := hcut
        go_wp2
        exact ⟨⟨fr + nn, k + 1, hnn, by omega, val_eq (by omega), val_eq (by omega), HI9⟩, by simp only [intOf]; omega⟩
end Go.Proofs.YtgmfiljjogdccaaDoor
