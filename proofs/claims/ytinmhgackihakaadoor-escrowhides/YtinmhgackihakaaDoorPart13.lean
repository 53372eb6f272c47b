import Derived.Test.YtinmhgackihakaaDoorPart12
import Derived.Test.YtinmhgackihakaaDoorPart04
import Derived.Test.YtinmhgackihakaaDoorPart01
namespace Go.Proofs.YtinmhgackihakaaDoor
open Go.RowKit
set_option linter.unusedVariables false
set_option linter.unusedSimpArgs false
set_option maxRecDepth 100000
def genL (n : Nat) (f : Nat → F) : List F := (List.range n).map f
theorem genL_len (n : Nat) (f : Nat → F) : (genL n f).length = n := by simp [genL]
theorem genL_at (n : Nat) (f : Nat → F) (i : Nat) (h : i < n) : (genL n f).getD i 0 = f i := by simp [genL, List.getD_eq_getElem?_getD, List.getElem?_map, List.getElem?_range h]
theorem genL_congr (n : Nat) (f g : Nat → F) (h : ∀ i, i < n → f i = g i) : genL n f = genL n g := List.map_congr_left fun i hi => h i (List.mem_range.1 hi)
theorem genL_eq {n : Nat} {f : Nat → F} {l : List F} (hl : l.length = n) (h : ∀ i, i < n → l.getD i 0 = f i) : l = genL n f := by
  apply List.ext_getElem (by rw [hl, genL_len])
  intro i h1 h2
  have q := h i (by omega)
  rw [List.getD_eq_getElem?_getD, List.getElem?_eq_getElem h1] at q
  simp only [Option.getD_some] at q
  rw [q]
  simp [genL]
theorem genL_set (n : Nat) (f g : Nat → F) (i : Nat) (hi : i < n) (a : F) (h : ∀ q, q < n → (if q = i then a else f q) = g q) : (genL n f).set i a = genL n g := by
  refine genL_eq (by rw [List.length_set, genL_len]) fun q hq => ?_
  rw [← h q hq, List.getD_eq_getElem?_getD, List.getElem?_set]
  by_cases e : i = q
  · subst e
    rw [if_pos rfl, if_pos (by rw [genL_len]; exact hi), if_pos rfl]
    rfl
  · rw [if_neg e, if_neg (fun z => e z.symm), ← List.getD_eq_getElem?_getD, genL_at n f q hq]
/-- Between two rounds of the differences. -/
def inD (x y : Nat → F) (k i q : Nat) : F := if i < q then dst x y (k + 1) q else dst x y k q
theorem inD_start (x y : Nat → F) (n k : Nat) : genL n (inD x y k (n - 1)) = genL n (dst x y k) := genL_congr _ _ _ fun q hq => by
  unfold inD
  rw [if_neg (by omega)]
theorem inD_end (x y : Nat → F) (n k : Nat) : genL n (inD x y k k) = genL n (dst x y (k + 1)) := genL_congr _ _ _ fun q hq => by
  unfold inD
  by_cases h : k < q
  · rw [if_pos h]
  · rw [if_neg h, dst_low x y k q (by omega)]
theorem inD_step (x y : Nat → F) (n k i : Nat) (hk : k + 1 ≤ i) (hi : i < n) : (genL n (inD x y k i)).set i (fm (fa (dst x y k i) (dst x y k (i - 1))) (invF (fa (x i) (x (i - (k + 1)))))) = genL n (inD x y k (i - 1)) := genL_set _ _ _ i hi _ fun q hq => by
  unfold inD
  by_cases e : q = i
  · subst e
    rw [if_pos rfl, if_pos (by omega), dst_step x y k q hk]
  · rw [if_neg e]
    by_cases h : i < q
    · rw [if_pos h, if_pos (by omega)]
    · rw [if_neg h, if_neg (by omega)]
/-- A row that's built up to j. -/
def inN (row : List F) (a : F) (j q : Nat) : F := if q < j then fa (if q = 0 then 0 else row.getD (q - 1) 0) (fm (row.getD q 0) a) else 0
theorem inN_step (row : List F) (a : F) (n j : Nat) (hj : j < n) (v : F) (hv : v = if j = 0 then 0 else row.getD (j - 1) 0) (l : List F) (hl : l = genL n (inN row a j) ∨ l = (genL n (inN row a j)).set j v) : l.set j (fa v (fm (row.getD j 0) a)) = genL n (inN row a (j + 1)) := by
  have e : l.set j (fa v (fm (row.getD j 0) a)) = (genL n (inN row a j)).set j (fa v (fm (row.getD j 0) a)) := by
    rcases hl with rfl | rfl
    · rfl
    · rw [List.set_set]
  rw [e, hv]
  refine genL_set _ _ _ j hj _ fun q hq => ?_
  unfold inN
  by_cases e : q = j
  · subst e
    rw [if_pos rfl]
    exact (if_pos (show q < q + 1 by omega)).symm
  · rw [if_neg e]
    by_cases h : q < j
    · rw [if_pos h]
      exact (if_pos (show q < j + 1 by omega)).symm
    · rw [if_neg h, if_neg (by omega)]
theorem inN_zero (row : List F) (a : F) (n : Nat) : genL n (inN row a 0) = List.replicate n 0 := by
  refine (genL_eq (by simp) fun i hi => ?_).symm
  unfold inN
  rw [if_neg (by omega), List.getD_eq_getElem?_getD, List.getElem?_replicate, if_pos hi]
  rfl
theorem inN_end (row : List F) (a d : F) (n : Nat) (hr : row.length = n) (h0 : 0 < n) : (genL n (inN row a n)).set 0 (fa (inN row a n 0) d) = nxL row a d := by
  have e : nxL row a d = genL n fun j => fa (fa (if j = 0 then 0 else row.getD (j - 1) 0) (fm (row.getD j 0) a)) (if j = 0 then d else 0) := by
    unfold nxL genL
    rw [hr]
  rw [e]
  refine genL_set _ _ _ 0 h0 _ fun q hq => ?_
  unfold inN
  by_cases e : q = 0
  · subst e
    rw [if_pos rfl, if_pos h0, if_pos rfl, if_pos rfl]
  · rw [if_neg e, if_neg e, if_neg e, if_pos hq, fa_zero]
set_option maxHeartbeats 3200000 in
/-- through. -/
theorem throughL_ok (sx sy : Value) (X Y : List F) (w : World) (hx : Hid (Vf w sx X)) (hy : Hid (Vf w sy Y)) (hn : Hid (1 ≤ X.length ∧ X.length ≤ 17 ∧ Y.length = X.length)) (hd : Hid (∀ i j, i < j → j < X.length → X.getD j 0 ≠ X.getD i 0)) :
    Calls Tryd.prog 11 #[sx, sy] w fun e w' => Hid (∃ g, e = .returned (.slice (some ⟨g, 0, none⟩) X.length X.length) ∧ w.heap.size ≤ g ∧ Rx w' g (newtL (fun i => X.getD i 0) (fun i => Y.getD i 0) X.length) ∧ Below w.heap.size w w') := by
  obtain ⟨i0, hi0, hz0, hz1, hz2⟩ := info_parts Tryd.infoB
  have HI0 : Hid (Tryd.prog.info? 5 = some i0 ∧ i0.zero = some (.int .u8 0) ∧ i0.size = 1 ∧ i0.bytes = 1) := ⟨hi0, hz0, hz1, hz2⟩
  clear hi0 hz0 hz1 hz2
  obtain ⟨n, HN⟩ : ∃ n, Hid (X.length = n) := ⟨_, rfl⟩
  have HNN : Hid (1 ≤ n ∧ n ≤ 17 ∧ Y.length = n) := by rw [← HN.out]; exact hn.out
  obtain ⟨M, HMM⟩ : ∃ M, Hid (w.heap.size = M) := ⟨_, rfl⟩
  obtain ⟨n1, HN1⟩ : ∃ q, Hid (q + 1 = n) := ⟨n - 1, show _ = _ by have := HNN.out; omega⟩
  obtain ⟨xa, xc, rfl, hx1, hx2, hx3, hx4⟩ := hx.out.parts
  obtain ⟨ya, yc, rfl, hy1, hy2, hy3, hy4⟩ := hy.out.parts
  rcases hx4 with hx4 | ⟨xb, xo, rfl, hxr⟩
  · exact absurd (by rw [hx4] at HN; exact HN.out) (show ¬ (0 = n) by have := HNN.out; omega)
  rcases hy4 with hy4 | ⟨yb, yo, rfl, hyr⟩
  · exact absurd (by rw [hy4] at HNN; exact HNN.out.2.2) (show ¬ (0 = n) by have := HNN.out; omega)
  obtain ⟨x, HX⟩ : ∃ x : Nat → F, Hid ((fun i => X.getD i 0) = x) := ⟨_, rfl⟩
  obtain ⟨y, HY⟩ : ∃ y : Nat → F, Hid ((fun i => Y.getD i 0) = y) := ⟨_, rfl⟩
  have HXC : Hid (∀ u, Below M w u → ∀ i, i < n → u.cell? ⟨xb, xo + i, none⟩ = some (.int .u8 ((x i).1 : Nat))) := fun u hu i hi => by
    rw [← HX.out]
    have z := hxr i (by rw [HN.out]; exact hi)
    exact (hu.cell (by rw [← HMM.out]; exact World.block_lt_of_cell? _ _ z)).trans z
  have HYG : Hid (Y = genL n (dst x y 0)) := genL_eq HNN.out.2.2 fun i hi => by rw [dst_0, ← HY.out]
  have HDX : Hid (∀ i j, i < j → j < n → x j ≠ x i) := fun i j h1 h2 => by rw [← HX.out]; exact hd.out i j h1 (by rw [HN.out]; exact h2)
  have HLY : Hid ((fc Y).length = n) := (fc_len Y).trans HNN.out.2.2
  have HCY : Hid (∀ j u, (fc Y)[j]? = some u → w.cell? ((⟨yb, yo, none⟩ : Addr).add j) = some u) := fun j u hu => by
    have hj : j < Y.length := by have q := (List.getElem?_eq_some_iff.1 hu).1; rw [fc_len] at q; exact q
    rw [fc_at Y j hj] at hu
    rw [Addr.add_lit, hyr j hj]
    exact hu
  rw [HX.out, HY.out, HN.out]
  have HYL : Hid (Y.length = n) := HNN.out.2.2
  rw [HYL.out]
  clear hx hy hn hd hxr hyr hx1 hx2 hx3 hy1 hy2 hy3
  obtain ⟨vs, HV⟩ : ∃ vs, Hid (fc Y = vs) := ⟨_, rfl⟩
  have h1 : Hid (∀ u ∈ vs, u.oneCell' = true) := by rw [← HV.out]; exact fc_one Y
  rw [HV.out] at HCY HLY
  have HMF : Hid (i0.bytes * n ≤ 281474976710656 ∧ n ≤ maxLen) := made_few i0.bytes n n 1 (by decide) HI0.out.2.2.2 (by have := HNN.out; omega)
  go_enter Tryd.func11, Tryd.ntmps11
  go_upto_region 3 with (first
    | (at_builtin; go_must (refine wpList_append_own _ rfl _ _ 23 rfl w.heap.size 5 i0 (.int .u8 0) 1 1 Tryd.underlying23' HI0.out.1 HI0.out.2.1 HI0.out.2.2.1 HI0.out.2.2.2 rfl (by decide) _ 0 [] rfl (World.ownsRow_made w #[] 0 (Nat.le_refl _) (by unfold maxLen; omega) rfl) ⟨yb, yo, none⟩ n yc vs rfl (by rw [HLY.out, Nat.mul_one]) (fun j u hu => by have := HCY.out j u hu; rw [World.cell?_alloc_lt w _ _ (World.block_lt_of_cell? w _ this)]; exact this) h1.out (by unfold maxLen; have := HNN.out; omega) (by have := HNN.out; omega) (by simp) ?_; intro v1 w1 hown hgrow hnil; have HO : Hid (w1.ownsRow w.heap.size 5 1 v1 n vs ∧ Below w.heap.size w w1) := (by
        refine ⟨by show w1.ownsRow w.heap.size 5 1 v1 n vs; simpa using hown, ?_⟩
        exact ((Below.refl _ _).alloc (Nat.le_refl _) _).grown hgrow (by simp) (by intro k hk; cases hk; exact Nat.le_refl _)); clear hown hgrow hnil))
    | fail)
  obtain ⟨g, c, rfl, HG⟩ : ∃ g c, v1 = .slice (some ⟨g, 0, none⟩) n c ∧ Hid (Rx w1 g Y ∧ M ≤ g) := by
    have q := HO.out.1
    rw [← HV.out, HMM.out, ← HNN.out.2.2] at q
    have z := own_rx q (by have := HNN.out; omega)
    rw [HNN.out.2.2] at z
    exact z
  have H1 : Hid (Rx w1 g (genL n (dst x y 0)) ∧ Below M w w1 ∧ M ≤ g) := by rw [← HYG.out, ← HMM.out]; exact ⟨HG.out.1, HO.out.2, by rw [HMM.out]; exact HG.out.2⟩
  have HMG : Hid (M ≤ g) := HG.out.2
  clear HO HG HCY HLY h1 HV HYG
  have xn : IntKind.i64.wrap ((n : Nat) - 1 : Int) = (n1 : Int) := by rw [IntKind.wrap_i64]; have := HN1.out; have := HNN.out; omega
  rw [HMM.out]
  go_wp2
  go_loopw [7] (fun vi wr => ∃ K : Nat, 1 ≤ K ∧ K ≤ n ∧ vi = .int .i64 (K : Nat) ∧ Hid (Rx wr g (genL n (dst x y (K - 1))) ∧ Below M w wr)) (fun vi _ => n - (intOf vi).toNat)
  case atStart => exact ⟨1, Nat.le_refl _, HNN.out.1, rfl, H1.out.1, H1.out.2.1⟩
  case round =>
    obtain ⟨K, hK1, hKn, rfl, HI⟩ := hrel
    clear H1
    by_cases hlt : K < n
    · have HLT : Hid (1 ≤ K ∧ K < n) := ⟨hK1, hlt⟩
      have g1 : (K : Int) < (n : Int) := by omega
      have HI1 : Hid (Rx wr g (genL n (inD x y (K - 1) n1)) ∧ Below M w wr) := by
        have e : n1 = n - 1 := by have := HN1.out; omega
        rw [e, inD_start]
        exact HI.out
      have xk : IntKind.i64.wrap ((K : Int) + 1) = ((K + 1 : Nat) : Int) := by rw [IntKind.wrap_i64]; have := HNN.out; omega
      clear hK1 hKn hlt HI
      go_upto_region 7 with fail
      clear g1
      go_loopw [8] (fun vi wx => ∃ i : Nat, K - 1 ≤ i ∧ i ≤ n1 ∧ vi = .int .i64 (i : Nat) ∧ Hid (Rx wx g (genL n (inD x y (K - 1) i)) ∧ Below M w wx)) (fun vi _ => (intOf vi).toNat)
      case atStart => exact ⟨n1, by have := HLT.out; have := HN1.out; omega, Nat.le_refl _, rfl, HI1.out⟩
      case round =>
        obtain ⟨i, hi1, hi2, rfl, HT⟩ := hrel
        rename World => wx
        clear HI1
        by_cases hik : K ≤ i
        · obtain ⟨p, HP⟩ : ∃ q, Hid (q + 1 = i) := ⟨i - 1, show _ = _ by have := HLT.out; omega⟩
          obtain ⟨m, HM⟩ : ∃ q, Hid (q + K = i) := ⟨i - K, show _ = _ by omega⟩
          have HIN : Hid (i < n ∧ p < n ∧ m < n ∧ m < i ∧ K ≤ i ∧ i ≤ n1) := by have := HN1.out; have := HP.out; have := HM.out; have := HLT.out; exact ⟨by omega, by omega, by omega, by omega, hik, hi2⟩
          obtain ⟨a1, HA1⟩ : ∃ z : F, Hid (dst x y (K - 1) i = z) := ⟨_, rfl⟩
          obtain ⟨a2, HA2⟩ : ∃ z : F, Hid (dst x y (K - 1) p = z) := ⟨_, rfl⟩
          obtain ⟨b1, HB1⟩ : ∃ z : F, Hid (x i = z) := ⟨_, rfl⟩
          obtain ⟨b2, HB2⟩ : ∃ z : F, Hid (x m = z) := ⟨_, rfl⟩
          have c1 : wx.drew.cell? ⟨g, i, none⟩ = some (.int .u8 (a1.1 : Nat)) := by
            have q := HT.out.1.cell i (by rw [genL_len]; exact HIN.out.1)
            rw [genL_at _ _ _ HIN.out.1] at q
            unfold inD at q
            rw [if_neg (Nat.lt_irrefl _), HA1.out] at q
            exact q
          have c2 : wx.drew.cell? ⟨g, p, none⟩ = some (.int .u8 (a2.1 : Nat)) := by
            have q := HT.out.1.cell p (by rw [genL_len]; exact HIN.out.2.1)
            rw [genL_at _ _ _ HIN.out.2.1] at q
            unfold inD at q
            rw [if_neg (by have := HP.out; omega), HA2.out] at q
            exact q
          have c3 : wx.drew.cell? ⟨xb, xo + i, none⟩ = some (.int .u8 (b1.1 : Nat)) := by rw [← HB1.out]; exact HXC.out wx HT.out.2 i HIN.out.1
          have c4 : wx.drew.cell? ⟨xb, xo + m, none⟩ = some (.int .u8 (b2.1 : Nat)) := by rw [← HB2.out]; exact HXC.out wx HT.out.2 m HIN.out.2.2.1
          have f1 : wx.drew.frozen? ⟨g, i, none⟩ = false := HT.out.1.frozen i
          obtain ⟨s, HS⟩ : ∃ z : F, Hid (fa a1 a2 = z) := ⟨_, rfl⟩
          obtain ⟨q, HQ⟩ : ∃ z : F, Hid (fa b1 b2 = z) := ⟨_, rfl⟩
          obtain ⟨r, HR⟩ : ∃ z : F, Hid (fm s (invF q) = z) := ⟨_, rfl⟩
          have x1 : bits .xor .u8 ((a1.1 : Nat) : Int) ((a2.1 : Nat) : Int) = ((s.1 : Nat) : Int) := by rw [← HS.out]; exact xorF a1 a2
          have x2 : bits .xor .u8 ((b1.1 : Nat) : Int) ((b2.1 : Nat) : Int) = ((q.1 : Nat) : Int) := by rw [← HQ.out]; exact xorF b1 b2
          have H19 : Hid (∀ u, Calls Tryd.prog 19 #[.int .u8 (s.1 : Nat), .int .u8 (q.1 : Nat)] u fun e w' => e = .returned (.int .u8 (r.1 : Nat)) ∧ w' = u) := fun u => by
            rw [← HR.out]
            exact over_ok s q (by rw [← HQ.out, ← HB1.out, ← HB2.out]; exact fa_ne (HDX.out m i HIN.out.2.2.2.1 HIN.out.1)) u
          have HNX : Hid (Rx (wx.setCell ⟨g, i, none⟩ (.int .u8 (r.1 : Nat))).drew g (genL n (inD x y (K - 1) p)) ∧ Below M w (wx.setCell ⟨g, i, none⟩ (.int .u8 (r.1 : Nat))).drew) := by
            have e := inD_step x y n (K - 1) i (by have := HIN.out; have := HLT.out; omega) HIN.out.1
            rw [show i - 1 = p by have := HP.out; omega, show i - (K - 1 + 1) = m by have := HM.out; have := HLT.out; omega, HA1.out, HA2.out, HB1.out, HB2.out, HS.out, HQ.out, HR.out] at e
            rw [← e]
            exact ⟨(HT.out.1.set i (by rw [genL_len]; exact HIN.out.1) r).keep rfl, (HT.out.2.setCell (by show M ≤ g; exact HMG.out) _).drew⟩
          have g2 : (K : Int) ≤ (i : Int) := by omega
          have g3 : (0 : Int) ≤ (i : Int) := by omega
          have g4 : (i : Int) < (n : Int) := by have := HIN.out; omega
          have g5 : (0 : Int) ≤ (p : Int) := by omega
          have g6 : (p : Int) < (n : Int) := by have := HIN.out; omega
          have g7 : (0 : Int) ≤ (m : Int) := by omega
          have g8 : (m : Int) < (n : Int) := by have := HIN.out; omega
          have y1 : IntKind.i64.wrap ((i : Int) - 1) = (p : Int) := by rw [IntKind.wrap_i64]; have := HP.out; have := HNN.out; omega
          have y2 : IntKind.i64.wrap ((i : Int) - (K : Int)) = (m : Int) := by rw [IntKind.wrap_i64]; have := HM.out; have := HNN.out; omega
          clear HT hik hi1 hi2 HS HQ HR HA1 HA2 HB1 HB2
          generalize r.1 = r1 at HNX H19
          generalize s.1 = s1 at x1 H19
          generalize q.1 = q1 at x2 H19
          generalize a1.1 = a11 at x1 c1
          generalize a2.1 = a21 at x1 c2
          generalize b1.1 = b11 at x2 c3
          generalize b2.1 = b21 at x2 c4
          go_upto_region 9 with fail
          refine wp_region_noPanic ?_
          refine wp_region_till (fun u => u = wx.drew) 25 (by kernel_rfl) (by decide) (by decide +kernel) (by decide +kernel) (by decide +kernel) (fun inv => ?_)
          refine till_at 0 30 (.slice (some ⟨g, 0, none⟩) n c) inv rfl rfl (by decide) (by decide +kernel) (by decide +kernel) (fun _ _ _ h => h) rfl (Or.inl ⟨by rfl, fun w' hS' => by subst hS'; go_simp⟩) (fun inv' => ?_)
          clear inv; have inv := inv'; clear inv'
          try simp only [List.setIfInBounds_toArray, List.set_cons_zero, List.set_cons_succ]
          refine till_at 1 31 (.int .i64 (i : Nat)) inv rfl rfl (by decide) (by decide +kernel) (by decide +kernel) (fun _ _ _ h => h) rfl (Or.inl ⟨by rfl, fun w' hS' => by subst hS'; go_simp⟩) (fun inv' => ?_)
          clear inv; have inv := inv'; clear inv'
          try simp only [List.setIfInBounds_toArray, List.set_cons_zero, List.set_cons_succ]
          refine till_at 2 32 (.slice (some ⟨g, 0, none⟩) n c) inv rfl rfl (by decide) (by decide +kernel) (by decide +kernel) (fun _ _ _ h => h) rfl (Or.inl ⟨by rfl, fun w' hS' => by subst hS'; go_simp⟩) (fun inv' => ?_)
          clear inv; have inv := inv'; clear inv'
          try simp only [List.setIfInBounds_toArray, List.set_cons_zero, List.set_cons_succ]
          refine till_at 3 33 (.int .i64 (i : Nat)) inv rfl rfl (by decide) (by decide +kernel) (by decide +kernel) (fun _ _ _ h => h) rfl (Or.inl ⟨by rfl, fun w' hS' => by subst hS'; go_simp⟩) (fun inv' => ?_)
          clear inv; have inv := inv'; clear inv'
          try simp only [List.setIfInBounds_toArray, List.set_cons_zero, List.set_cons_succ]
          refine till_at 4 34 (.pointer (some ⟨g, i, none⟩)) inv rfl rfl (by decide) (by decide +kernel) (by decide +kernel) (fun _ _ _ h => h) rfl (Or.inl ⟨by rfl, fun w' hS' => by subst hS'; go_simp⟩) (fun inv' => ?_)
          clear inv; have inv := inv'; clear inv'
          try simp only [List.setIfInBounds_toArray, List.set_cons_zero, List.set_cons_succ]
          refine till_at 5 35 (.int .u8 (a11 : Nat)) inv rfl rfl (by decide) (by decide +kernel) (by decide +kernel) (fun _ _ _ h => h) rfl (Or.inl ⟨by rfl, fun w' hS' => by subst hS'; go_simp⟩) (fun inv' => ?_)
          clear inv; have inv := inv'; clear inv'
          try simp only [List.setIfInBounds_toArray, List.set_cons_zero, List.set_cons_succ]
          refine till_at 6 36 (.slice (some ⟨g, 0, none⟩) n c) inv rfl rfl (by decide) (by decide +kernel) (by decide +kernel) (fun _ _ _ h => h) rfl (Or.inl ⟨by rfl, fun w' hS' => by subst hS'; go_simp⟩) (fun inv' => ?_)
          clear inv; have inv := inv'; clear inv'
          try simp only [List.setIfInBounds_toArray, List.set_cons_zero, List.set_cons_succ]
          refine till_at 7 37 (.int .i64 (i : Nat)) inv rfl rfl (by decide) (by decide +kernel) (by decide +kernel) (fun _ _ _ h => h) rfl (Or.inl ⟨by rfl, fun w' hS' => by subst hS'; go_simp⟩) (fun inv' => ?_)
          clear inv; have inv := inv'; clear inv'
          try simp only [List.setIfInBounds_toArray, List.set_cons_zero, List.set_cons_succ]
          refine till_at 8 38 (.int .i64 (p : Nat)) inv rfl rfl (by decide) (by decide +kernel) (by decide +kernel) (fun _ _ _ h => h) rfl (Or.inl ⟨by rfl, fun w' hS' => by subst hS'; go_simp⟩) (fun inv' => ?_)
          clear inv; have inv := inv'; clear inv'
          try simp only [List.setIfInBounds_toArray, List.set_cons_zero, List.set_cons_succ]
          refine till_at 9 39 (.pointer (some ⟨g, p, none⟩)) inv rfl rfl (by decide) (by decide +kernel) (by decide +kernel) (fun _ _ _ h => h) rfl (Or.inl ⟨by rfl, fun w' hS' => by subst hS'; go_simp⟩) (fun inv' => ?_)
          clear inv; have inv := inv'; clear inv'
          try simp only [List.setIfInBounds_toArray, List.set_cons_zero, List.set_cons_succ]
          refine till_at 10 40 (.int .u8 (a21 : Nat)) inv rfl rfl (by decide) (by decide +kernel) (by decide +kernel) (fun _ _ _ h => h) rfl (Or.inl ⟨by rfl, fun w' hS' => by subst hS'; go_simp⟩) (fun inv' => ?_)
          clear inv; have inv := inv'; clear inv'
          try simp only [List.setIfInBounds_toArray, List.set_cons_zero, List.set_cons_succ]
          refine till_at 11 41 (.int .u8 (s1 : Nat)) inv rfl rfl (by decide) (by decide +kernel) (by decide +kernel) (fun _ _ _ h => h) rfl (Or.inl ⟨by rfl, fun w' hS' => by subst hS'; go_simp⟩) (fun inv' => ?_)
          clear inv; have inv := inv'; clear inv'
          try simp only [List.setIfInBounds_toArray, List.set_cons_zero, List.set_cons_succ]
          refine till_at 12 42 (.slice (some ⟨xb, xo, none⟩) n xc) inv rfl rfl (by decide) (by decide +kernel) (by decide +kernel) (fun _ _ _ h => h) rfl (Or.inl ⟨by rfl, fun w' hS' => by subst hS'; go_simp⟩) (fun inv' => ?_)
          clear inv; have inv := inv'; clear inv'
          try simp only [List.setIfInBounds_toArray, List.set_cons_zero, List.set_cons_succ]
          refine till_at 13 43 (.int .i64 (i : Nat)) inv rfl rfl (by decide) (by decide +kernel) (by decide +kernel) (fun _ _ _ h => h) rfl (Or.inl ⟨by rfl, fun w' hS' => by subst hS'; go_simp⟩) (fun inv' => ?_)
          clear inv; have inv := inv'; clear inv'
          try simp only [List.setIfInBounds_toArray, List.set_cons_zero, List.set_cons_succ]
          refine till_at 14 44 (.pointer (some ⟨xb, xo + i, none⟩)) inv rfl rfl (by decide) (by decide +kernel) (by decide +kernel) (fun _ _ _ h => h) rfl (Or.inl ⟨by rfl, fun w' hS' => by subst hS'; go_simp⟩) (fun inv' => ?_)
          clear inv; have inv := inv'; clear inv'
          try simp only [List.setIfInBounds_toArray, List.set_cons_zero, List.set_cons_succ]
          refine till_at 15 45 (.int .u8 (b11 : Nat)) inv rfl rfl (by decide) (by decide +kernel) (by decide +kernel) (fun _ _ _ h => h) rfl (Or.inl ⟨by rfl, fun w' hS' => by subst hS'; go_simp⟩) (fun inv' => ?_)
          clear inv; have inv := inv'; clear inv'
          try simp only [List.setIfInBounds_toArray, List.set_cons_zero, List.set_cons_succ]
          refine till_at 16 46 (.slice (some ⟨xb, xo, none⟩) n xc) inv rfl rfl (by decide) (by decide +kernel) (by decide +kernel) (fun _ _ _ h => h) rfl (Or.inl ⟨by rfl, fun w' hS' => by subst hS'; go_simp⟩) (fun inv' => ?_)
          clear inv; have inv := inv'; clear inv'
          try simp only [List.setIfInBounds_toArray, List.set_cons_zero, List.set_cons_succ]
          refine till_at 17 47 (.int .i64 (i : Nat)) inv rfl rfl (by decide) (by decide +kernel) (by decide +kernel) (fun _ _ _ h => h) rfl (Or.inl ⟨by rfl, fun w' hS' => by subst hS'; go_simp⟩) (fun inv' => ?_)
          clear inv; have inv := inv'; clear inv'
          try simp only [List.setIfInBounds_toArray, List.set_cons_zero, List.set_cons_succ]
          refine till_at 18 48 (.int .i64 (K : Nat)) inv rfl rfl (by decide) (by decide +kernel) (by decide +kernel) (fun _ _ _ h => h) rfl (Or.inl ⟨by rfl, fun w' hS' => by subst hS'; go_simp⟩) (fun inv' => ?_)
          clear inv; have inv := inv'; clear inv'
          try simp only [List.setIfInBounds_toArray, List.set_cons_zero, List.set_cons_succ]
          refine till_at 19 49 (.int .i64 (m : Nat)) inv rfl rfl (by decide) (by decide +kernel) (by decide +kernel) (fun _ _ _ h => h) rfl (Or.inl ⟨by rfl, fun w' hS' => by subst hS'; go_simp⟩) (fun inv' => ?_)
          clear inv; have inv := inv'; clear inv'
          try simp only [List.setIfInBounds_toArray, List.set_cons_zero, List.set_cons_succ]
          refine till_at 20 50 (.pointer (some ⟨xb, xo + m, none⟩)) inv rfl rfl (by decide) (by decide +kernel) (by decide +kernel) (fun _ _ _ h => h) rfl (Or.inl ⟨by rfl, fun w' hS' => by subst hS'; go_simp⟩) (fun inv' => ?_)
          clear inv; have inv := inv'; clear inv'
          try simp only [List.setIfInBounds_toArray, List.set_cons_zero, List.set_cons_succ]
          refine till_at 21 51 (.int .u8 (b21 : Nat)) inv rfl rfl (by decide) (by decide +kernel) (by decide +kernel) (fun _ _ _ h => h) rfl (Or.inl ⟨by rfl, fun w' hS' => by subst hS'; go_simp⟩) (fun inv' => ?_)
          clear inv; have inv := inv'; clear inv'
          try simp only [List.setIfInBounds_toArray, List.set_cons_zero, List.set_cons_succ]
          refine till_at 22 52 (.int .u8 (q1 : Nat)) inv rfl rfl (by decide) (by decide +kernel) (by decide +kernel) (fun _ _ _ h => h) rfl (Or.inl ⟨by rfl, fun w' hS' => by subst hS'; go_simp⟩) (fun inv' => ?_)
          clear inv; have inv := inv'; clear inv'
          try simp only [List.setIfInBounds_toArray, List.set_cons_zero, List.set_cons_succ]
          refine till_head (i := 23) inv (by decide +kernel) (by decide) rfl (fun KK hK => ?_)
          go_simp
          refine (H19.out _).mono ?_
          rintro e5 w5 ⟨rfl, hw⟩
          obtain rfl := hw.symm
          clear hw
          go_wp2_with fail
          refine hK.out _ _ rfl (fun inv' => ?_)
          clear hK KK inv; have inv := inv'; clear inv'
          try simp only [List.setIfInBounds_toArray, List.set_cons_zero, List.set_cons_succ]
          refine till_at 24 54 (.pointer (some ⟨g, i, none⟩)) inv rfl rfl (by decide) (by decide +kernel) (by decide +kernel) (fun _ _ _ h => h) rfl (Or.inl ⟨by rfl, fun w' hS' => by subst hS'; go_simp⟩) (fun inv' => ?_)
          clear inv; have inv := inv'; clear inv'
          try simp only [List.setIfInBounds_toArray, List.set_cons_zero, List.set_cons_succ]
          refine till_tail (i := 25) (by decide +kernel) (by decide) rfl (fun KK hK => ?_)
          rw [if_pos (by rfl)]
          go_simp
          refine hK.out _ _ ?_
          clear hK KK
          try simp only [List.setIfInBounds_toArray, List.set_cons_zero, List.set_cons_succ]
          refine till_done (by decide +kernel) ?_ _
          refine NoPanic.normal ?_
          go_wp2
          refine ⟨⟨p, by have := HP.out; have := HIN.out; omega, by have := HP.out; have := HIN.out; omega, by first | rfl | (simp; done), HNX⟩, ?_⟩
          simp [intOf]
          have := HP.out
          omega
        · have e : i = K - 1 := by omega
          have g2 : ¬ (K : Int) ≤ (i : Int) := by have := HLT.out; omega
          have HNX : Hid (Rx wx g (genL n (dst x y (K + 1 - 1))) ∧ Below M w wx) := by
            have q := HT.out
            rw [e, inD_end, show K - 1 + 1 = K + 1 - 1 by have := HLT.out; omega] at q
            exact q
          clear HT e
          go_wp2
          refine ⟨⟨K + 1, by omega, by have := HLT.out; omega, by first | rfl | (simp; done), HNX⟩, ?_⟩
          simp [intOf]
          have := HLT.out
          omega
    · obtain rfl : K = n := by omega
      have g1 : ¬ (K : Int) < (K : Int) := Int.lt_irrefl _
      obtain ⟨d, HDD⟩ : ∃ d : Nat → F, Hid ((fun q => ddF x y q 0) = d) := ⟨_, rfl⟩
      have HD : Hid (Rx wr g (genL K d) ∧ Below M w wr) := by
        refine ⟨?_, HI.out.2⟩
        have e : genL K d = genL K (dst x y (K - 1)) := genL_congr _ _ _ fun q hq => by rw [← HDD.out, dst_all x y K q hq]
        rw [e]
        exact HI.out.1
      have HRS : Hid (newtL x y K = hoL x d K K) := by rw [← HDD.out]; rfl
      clear HI hK1 hKn hlt HDD
      go_upto_region 11 with (first
        | (at_make; go_must (refine wpList_make_full _ rfl _ _ 23 rfl wr.heap.size 5 i0 (.int .u8 0) 1 Tryd.underlying23 HI0.out.1 HI0.out.2.1 HI0.out.2.2.1 .i64 .i64 (K : Nat) (K : Nat) K rfl rfl rfl rfl HMF.out.1 HMF.out.2 (Nat.le_refl _) ?_; intro w2 hown hgrow; have hlo : Below wr.heap.size wr w2 := ⟨hgrow.os, hgrow.tape, hgrow.output, hgrow.size, fun c hc => hgrow.block c hc (by simp)⟩; have H2 : Hid (Rx w2 wr.heap.size (List.replicate K 0) ∧ Rx w2 g (genL K d) ∧ Below M w w2 ∧ M ≤ wr.heap.size) := (by have q := (own_full1 hown).1; rw [show (Value.int .u8 0).cells = #[.int .u8 0] from rfl, Nat.mul_one, toList_madeCells_one] at q; have hM : M ≤ wr.heap.size := (by rw [← HMM.out]; exact HD.out.2.size); refine ⟨⟨[], ?_⟩, HD.out.1.below hlo, HD.out.2.trans (hlo.mono hM), hM⟩; rw [List.append_nil, fc_repD]; exact q); clear hown hgrow hlo))
        | fail)
      obtain ⟨G0, HG0⟩ : ∃ q, Hid (wr.heap.size = q) := ⟨_, rfl⟩
      rw [HG0.out] at H2 ⊢
      clear HD g1
      go_wp2
      go_loopw [9, 10] (fun vv vi wo => ∃ (t G : Nat), t ≤ K ∧ vv = .slice (some ⟨G, 0, none⟩) K K ∧ vi = .int .i64 ((K : Int) - 1 - (t : Nat)) ∧ Hid (Rx wo G (hoL x d K t) ∧ Rx wo g (genL K d) ∧ Below M w wo ∧ M ≤ G)) (fun _ vi _ => (intOf vi + 1).toNat)
      case atStart => exact ⟨0, G0, Nat.zero_le _, rfl, by congr 1; have := HN1.out; omega, H2.out⟩
      case round =>
        obtain ⟨t, G, ht, rfl, rfl, HI⟩ := hrel
        rename World => wo
        clear H2
        by_cases hlt : t < K
        · obtain ⟨a, HA⟩ : ∃ q, Hid (q + t + 1 = K) := ⟨K - t - 1, show _ = _ by omega⟩
          have HTK : Hid (t < K ∧ a < K) := by have := HA.out; exact ⟨hlt, by omega⟩
          have ea : (K : Int) - 1 - (t : Nat) = (a : Nat) := by have := HA.out; omega
          rw [ea]
          have g1 : (0 : Int) ≤ (a : Int) := by omega
          have g1b : (a : Int) < (K : Int) := by have := HA.out; omega
          have xs : IntKind.i64.wrap ((a : Int) - 1) = (K : Int) - 1 - ((t + 1 : Nat) : Int) := by rw [IntKind.wrap_i64]; have := HA.out; have := HNN.out; omega
          obtain ⟨row, HRW⟩ : ∃ l, Hid (hoL x d K t = l) := ⟨_, rfl⟩
          have HRL : Hid (row.length = K) := by rw [← HRW.out]; exact hoL_len _ _ _ _
          rw [HRW.out] at HI
          obtain ⟨za, HZA⟩ : ∃ z : F, Hid (x a = z) := ⟨_, rfl⟩
          obtain ⟨da, HDA⟩ : ∃ z : F, Hid (d a = z) := ⟨_, rfl⟩
          have HNXR : Hid (hoL x d K (t + 1) = nxL row za da) := by
            show nxL (hoL x d K t) (x (K - (t + 1))) (d (K - (t + 1))) = _
            rw [show K - (t + 1) = a by have := HA.out; omega, HRW.out, HZA.out, HDA.out]
          obtain ⟨G2, HG2⟩ : ∃ q, Hid (wo.heap.size = q) := ⟨_, rfl⟩
          have HGO : Hid (G < G2 ∧ g < G2 ∧ M ≤ G2 ∧ M ≤ G) := by
            rw [← HG2.out]
            exact ⟨HI.out.1.lt, HI.out.2.1.lt, by rw [← HMM.out]; exact HI.out.2.2.1.size, HI.out.2.2.2⟩
          clear hlt ht ea
          go_upto_region 15 with (first
            | (at_make; go_must (refine wpList_make_full _ rfl _ _ 23 rfl wo.heap.size 5 i0 (.int .u8 0) 1 Tryd.underlying23 HI0.out.1 HI0.out.2.1 HI0.out.2.2.1 .i64 .i64 (K : Nat) (K : Nat) K rfl rfl rfl rfl HMF.out.1 HMF.out.2 (Nat.le_refl _) ?_; intro w2 hown hgrow; have hlo : Below wo.heap.size wo w2 := ⟨hgrow.os, hgrow.tape, hgrow.output, hgrow.size, fun c hc => hgrow.block c hc (by simp)⟩; have H3 : Hid (Rx w2 G2 (genL K (inN row za 0)) ∧ Below G2 wo w2) := (by have q := (own_full1 hown).1; rw [show (Value.int .u8 0).cells = #[.int .u8 0] from rfl, Nat.mul_one, toList_madeCells_one] at q; rw [inN_zero, ← HG2.out]; refine ⟨⟨[], ?_⟩, hlo⟩; rw [List.append_nil, fc_repD]; exact q); clear hown hgrow hlo))
            | fail)
          rw [HG2.out]
          clear g1
          go_wp2
          go_loopw [12] (fun vi wx => ∃ j : Nat, j ≤ K ∧ vi = .int .i64 (j : Nat) ∧ Hid (Rx wx G2 (genL K (inN row za j)) ∧ Below G2 wo wx)) (fun vi _ => K - (intOf vi).toNat)
          case atStart => exact ⟨0, Nat.zero_le _, rfl, H3.out⟩
          case round =>
            obtain ⟨j, hj, rfl, HT⟩ := hrel
            rename World => wx
            clear H3
            have HKP : Hid (∀ u, Below G2 wo u → Rx u G row ∧ Rx u g (genL K d) ∧ Below M w u) := fun u hu => ⟨HI.out.1.keep (hu.block G HGO.out.1), HI.out.2.1.keep (hu.block g HGO.out.2.1), HI.out.2.2.1.trans (hu.mono HGO.out.2.2.1)⟩
            by_cases hjk : j < K
            · have HJK : Hid (j < K) := hjk
              have g2 : (j : Int) < (K : Int) := by omega
              have g3 : (0 : Int) ≤ (j : Int) := by omega
              have xj : IntKind.i64.wrap ((j : Int) + 1) = ((j + 1 : Nat) : Int) := by rw [IntKind.wrap_i64]; have := HNN.out; omega
              obtain ⟨v, HV⟩ : ∃ z : F, Hid (z = if j = 0 then 0 else row.getD (j - 1) 0) := ⟨_, show _ = _ from rfl⟩
              obtain ⟨b, HB⟩ : ∃ z : F, Hid (row.getD j 0 = z) := ⟨_, rfl⟩
              obtain ⟨q, HQ⟩ : ∃ z : F, Hid (fm b za = z) := ⟨_, rfl⟩
              obtain ⟨r, HR⟩ : ∃ z : F, Hid (fa v q = z) := ⟨_, rfl⟩
              have x1 : bits .xor .u8 ((v.1 : Nat) : Int) ((q.1 : Nat) : Int) = ((r.1 : Nat) : Int) := by rw [← HR.out]; exact xorF v q
              have H20 : Hid (∀ u, Calls Tryd.prog 20 #[.int .u8 (b.1 : Nat), .int .u8 (za.1 : Nat)] u fun e w' => e = .returned (.int .u8 (q.1 : Nat)) ∧ w' = u) := fun u => by rw [← HQ.out]; exact timesF b za u
              have HCS : Hid (∀ u, Below G2 wo u → u.cell? ⟨G, j, none⟩ = some (.int .u8 (b.1 : Nat)) ∧ u.cell? ⟨xb, xo + a, none⟩ = some (.int .u8 (za.1 : Nat))) := fun u hu => by
                rw [← HB.out, ← HZA.out]
                exact ⟨(HKP.out u hu).1.cell j (by rw [HRL.out]; exact hjk), HXC.out u (HKP.out u hu).2.2 a HTK.out.2⟩
              have HST : Hid (∀ u l, Rx u G2 l → Below G2 wo u → (l = genL K (inN row za j) ∨ l = (genL K (inN row za j)).set j v) → Rx (u.setCell ⟨G2, j, none⟩ (.int .u8 (r.1 : Nat))).drew G2 (genL K (inN row za (j + 1))) ∧ Below G2 wo (u.setCell ⟨G2, j, none⟩ (.int .u8 (r.1 : Nat))).drew) := fun u l hu hb hl => by
                have e := inN_step row za K j hjk v HV.out l hl
                rw [HB.out, HQ.out, HR.out] at e
                rw [← e]
                have hll : l.length = K := by rcases hl with rfl | rfl <;> simp [genL_len]
                exact ⟨(hu.set j (by rw [hll]; exact hjk) r).keep rfl, (hb.setCell (Nat.le_refl _) _).drew⟩
              by_cases hj0 : 0 < j
              · obtain ⟨p, HP⟩ : ∃ q, Hid (q + 1 = j) := ⟨j - 1, show _ = _ by omega⟩
                have g4 : (0 : Int) < (j : Int) := by omega
                have g5 : (0 : Int) ≤ (p : Int) := by omega
                have g6 : (p : Int) < (K : Int) := by have := HP.out; omega
                have y1 : IntKind.i64.wrap ((j : Int) - 1) = (p : Int) := by rw [IntKind.wrap_i64]; have := HP.out; have := HNN.out; omega
                have d1 : wx.cell? ⟨G, p, none⟩ = some (.int .u8 (v.1 : Nat)) := by
                  have q := (HKP.out wx HT.out.2).1.cell p (by rw [HRL.out]; have := HP.out; omega)
                  rw [HV.out, if_neg (by omega), show j - 1 = p by have := HP.out; omega]
                  exact q
                obtain ⟨z0, d2⟩ : ∃ z0, wx.cell? ⟨G2, j, none⟩ = some z0 := ⟨_, HT.out.1.cell j (by rw [genL_len]; exact hjk)⟩
                have d3 : wx.frozen? ⟨G2, j, none⟩ = false := HT.out.1.frozen j
                obtain ⟨wz, Hwz⟩ : ∃ u, u = wx.setCell ⟨G2, j, none⟩ (.int .u8 (v.1 : Nat)) := ⟨_, rfl⟩
                have HZ : Hid (Rx wz G2 ((genL K (inN row za j)).set j v) ∧ Below G2 wo wz) := by rw [Hwz]; exact ⟨HT.out.1.set j (by rw [genL_len]; exact hjk) v, HT.out.2.setCell (Nat.le_refl _) _⟩
                have HNX : Hid (Rx (wz.setCell ⟨G2, j, none⟩ (.int .u8 (r.1 : Nat))).drew G2 (genL K (inN row za (j + 1))) ∧ Below G2 wo (wz.setCell ⟨G2, j, none⟩ (.int .u8 (r.1 : Nat))).drew) := HST.out wz _ HZ.out.1 HZ.out.2 (.inr rfl)
                have c1 : wz.drew.cell? ⟨G2, j, none⟩ = some (.int .u8 (v.1 : Nat)) := by
                  have q := HZ.out.1.cell j (by rw [List.length_set, genL_len]; exact hjk)
                  rw [List.getD_eq_getElem?_getD, List.getElem?_set_self (by rw [genL_len]; exact hjk)] at q
                  exact q
                have f1 : wz.drew.frozen? ⟨G2, j, none⟩ = false := HZ.out.1.frozen j
                have c2 : wz.drew.cell? ⟨G, j, none⟩ = some (.int .u8 (b.1 : Nat)) := (HCS.out wz HZ.out.2).1
                have c3 : wz.drew.cell? ⟨xb, xo + a, none⟩ = some (.int .u8 (za.1 : Nat)) := (HCS.out wz HZ.out.2).2
                clear HZ HT HST hj0 hjk hj HV HB HQ HR
                go_upto_region 20 with fail
                rw [← Hwz]
                clear d1 d2 d3 Hwz
                generalize r.1 = r1 at x1 HNX
                generalize v.1 = v1 at x1 c1
                generalize q.1 = q1 at x1 H20
                generalize b.1 = b1 at c2 H20
                refine wp_region_noPanic ?_
                refine wp_region_till (fun u => u = wz.drew) 17 (by kernel_rfl) (by decide) (by decide +kernel) (by decide +kernel) (by decide +kernel) (fun inv => ?_)
                refine till_at 0 80 (.slice (some ⟨G2, 0, none⟩) K K) inv rfl rfl (by decide) (by decide +kernel) (by decide +kernel) (fun _ _ _ h => h) rfl (Or.inl ⟨by rfl, fun w' hS' => by subst hS'; go_simp⟩) (fun inv' => ?_)
                clear inv; have inv := inv'; clear inv'
                try simp only [List.setIfInBounds_toArray, List.set_cons_zero, List.set_cons_succ]
                refine till_at 1 81 (.int .i64 (j : Nat)) inv rfl rfl (by decide) (by decide +kernel) (by decide +kernel) (fun _ _ _ h => h) rfl (Or.inl ⟨by rfl, fun w' hS' => by subst hS'; go_simp⟩) (fun inv' => ?_)
                clear inv; have inv := inv'; clear inv'
                try simp only [List.setIfInBounds_toArray, List.set_cons_zero, List.set_cons_succ]
                refine till_at 2 82 (.slice (some ⟨G2, 0, none⟩) K K) inv rfl rfl (by decide) (by decide +kernel) (by decide +kernel) (fun _ _ _ h => h) rfl (Or.inl ⟨by rfl, fun w' hS' => by subst hS'; go_simp⟩) (fun inv' => ?_)
                clear inv; have inv := inv'; clear inv'
                try simp only [List.setIfInBounds_toArray, List.set_cons_zero, List.set_cons_succ]
                refine till_at 3 83 (.int .i64 (j : Nat)) inv rfl rfl (by decide) (by decide +kernel) (by decide +kernel) (fun _ _ _ h => h) rfl (Or.inl ⟨by rfl, fun w' hS' => by subst hS'; go_simp⟩) (fun inv' => ?_)
                clear inv; have inv := inv'; clear inv'
                try simp only [List.setIfInBounds_toArray, List.set_cons_zero, List.set_cons_succ]
                refine till_at 4 84 (.pointer (some ⟨G2, j, none⟩)) inv rfl rfl (by decide) (by decide +kernel) (by decide +kernel) (fun _ _ _ h => h) rfl (Or.inl ⟨by rfl, fun w' hS' => by subst hS'; go_simp⟩) (fun inv' => ?_)
                clear inv; have inv := inv'; clear inv'
                try simp only [List.setIfInBounds_toArray, List.set_cons_zero, List.set_cons_succ]
                refine till_at 5 85 (.int .u8 (v1 : Nat)) inv rfl rfl (by decide) (by decide +kernel) (by decide +kernel) (fun _ _ _ h => h) rfl (Or.inl ⟨by rfl, fun w' hS' => by subst hS'; go_simp⟩) (fun inv' => ?_)
                clear inv; have inv := inv'; clear inv'
                try simp only [List.setIfInBounds_toArray, List.set_cons_zero, List.set_cons_succ]
                refine till_at 6 86 (.slice (some ⟨G, 0, none⟩) K K) inv rfl rfl (by decide) (by decide +kernel) (by decide +kernel) (fun _ _ _ h => h) rfl (Or.inl ⟨by rfl, fun w' hS' => by subst hS'; go_simp⟩) (fun inv' => ?_)
                clear inv; have inv := inv'; clear inv'
                try simp only [List.setIfInBounds_toArray, List.set_cons_zero, List.set_cons_succ]
                refine till_at 7 87 (.int .i64 (j : Nat)) inv rfl rfl (by decide) (by decide +kernel) (by decide +kernel) (fun _ _ _ h => h) rfl (Or.inl ⟨by rfl, fun w' hS' => by subst hS'; go_simp⟩) (fun inv' => ?_)
                clear inv; have inv := inv'; clear inv'
                try simp only [List.setIfInBounds_toArray, List.set_cons_zero, List.set_cons_succ]
                refine till_at 8 88 (.pointer (some ⟨G, j, none⟩)) inv rfl rfl (by decide) (by decide +kernel) (by decide +kernel) (fun _ _ _ h => h) rfl (Or.inl ⟨by rfl, fun w' hS' => by subst hS'; go_simp⟩) (fun inv' => ?_)
                clear inv; have inv := inv'; clear inv'
                try simp only [List.setIfInBounds_toArray, List.set_cons_zero, List.set_cons_succ]
                refine till_at 9 89 (.int .u8 (b1 : Nat)) inv rfl rfl (by decide) (by decide +kernel) (by decide +kernel) (fun _ _ _ h => h) rfl (Or.inl ⟨by rfl, fun w' hS' => by subst hS'; go_simp⟩) (fun inv' => ?_)
                clear inv; have inv := inv'; clear inv'
                try simp only [List.setIfInBounds_toArray, List.set_cons_zero, List.set_cons_succ]
                refine till_at 10 90 (.slice (some ⟨xb, xo, none⟩) K xc) inv rfl rfl (by decide) (by decide +kernel) (by decide +kernel) (fun _ _ _ h => h) rfl (Or.inl ⟨by rfl, fun w' hS' => by subst hS'; go_simp⟩) (fun inv' => ?_)
                clear inv; have inv := inv'; clear inv'
                try simp only [List.setIfInBounds_toArray, List.set_cons_zero, List.set_cons_succ]
                refine till_at 11 91 (.int .i64 (a : Nat)) inv rfl rfl (by decide) (by decide +kernel) (by decide +kernel) (fun _ _ _ h => h) rfl (Or.inl ⟨by rfl, fun w' hS' => by subst hS'; go_simp⟩) (fun inv' => ?_)
                clear inv; have inv := inv'; clear inv'
                try simp only [List.setIfInBounds_toArray, List.set_cons_zero, List.set_cons_succ]
                refine till_at 12 92 (.pointer (some ⟨xb, xo + a, none⟩)) inv rfl rfl (by decide) (by decide +kernel) (by decide +kernel) (fun _ _ _ h => h) rfl (Or.inl ⟨by rfl, fun w' hS' => by subst hS'; go_simp⟩) (fun inv' => ?_)
                clear inv; have inv := inv'; clear inv'
                try simp only [List.setIfInBounds_toArray, List.set_cons_zero, List.set_cons_succ]
                refine till_at 13 93 (.int .u8 (za.1 : Nat)) inv rfl rfl (by decide) (by decide +kernel) (by decide +kernel) (fun _ _ _ h => h) rfl (Or.inl ⟨by rfl, fun w' hS' => by subst hS'; go_simp⟩) (fun inv' => ?_)
                clear inv; have inv := inv'; clear inv'
                try simp only [List.setIfInBounds_toArray, List.set_cons_zero, List.set_cons_succ]
                refine till_head (i := 14) inv (by decide +kernel) (by decide) rfl (fun KK hK => ?_)
                go_simp
                refine (H20.out _).mono ?_
                rintro e5 w5 ⟨rfl, hw⟩
                obtain rfl := hw.symm
                clear hw
                go_wp2_with fail
                refine hK.out _ _ rfl (fun inv' => ?_)
                clear hK KK inv; have inv := inv'; clear inv'
                try simp only [List.setIfInBounds_toArray, List.set_cons_zero, List.set_cons_succ]
                refine till_at 15 95 (.int .u8 (r1 : Nat)) inv rfl rfl (by decide) (by decide +kernel) (by decide +kernel) (fun _ _ _ h => h) rfl (Or.inl ⟨by rfl, fun w' hS' => by subst hS'; go_simp⟩) (fun inv' => ?_)
                clear inv; have inv := inv'; clear inv'
                try simp only [List.setIfInBounds_toArray, List.set_cons_zero, List.set_cons_succ]
                refine till_at 16 96 (.pointer (some ⟨G2, j, none⟩)) inv rfl rfl (by decide) (by decide +kernel) (by decide +kernel) (fun _ _ _ h => h) rfl (Or.inl ⟨by rfl, fun w' hS' => by subst hS'; go_simp⟩) (fun inv' => ?_)
                clear inv; have inv := inv'; clear inv'
                try simp only [List.setIfInBounds_toArray, List.set_cons_zero, List.set_cons_succ]
                refine till_tail (i := 17) (by decide +kernel) (by decide) rfl (fun KK hK => ?_)
                rw [if_pos (by rfl)]
                go_simp
                refine hK.out _ _ ?_
                clear hK KK
                try simp only [List.setIfInBounds_toArray, List.set_cons_zero, List.set_cons_succ]
                refine till_done (by decide +kernel) ?_ _
                refine NoPanic.normal ?_
                go_wp2
                refine ⟨⟨j + 1, by have := HJK.out; omega, by first | rfl | (simp; done), HNX⟩, ?_⟩
                simp [intOf]
                have := HJK.out
                omega
              · have g4 : ¬ (0 : Int) < (j : Int) := by omega
                have HNX : Hid (Rx (wx.setCell ⟨G2, j, none⟩ (.int .u8 (r.1 : Nat))).drew G2 (genL K (inN row za (j + 1))) ∧ Below G2 wo (wx.setCell ⟨G2, j, none⟩ (.int .u8 (r.1 : Nat))).drew) := HST.out wx _ HT.out.1 HT.out.2 (.inl rfl)
                have c1 : wx.drew.cell? ⟨G2, j, none⟩ = some (.int .u8 (v.1 : Nat)) := by
                  have q := HT.out.1.cell j (by rw [genL_len]; exact hjk)
                  rw [genL_at _ _ _ hjk] at q
                  unfold inN at q
                  rw [if_neg (Nat.lt_irrefl _)] at q
                  rw [HV.out, if_pos (by omega)]
                  exact q
                have f1 : wx.drew.frozen? ⟨G2, j, none⟩ = false := HT.out.1.frozen j
                have c2 : wx.drew.cell? ⟨G, j, none⟩ = some (.int .u8 (b.1 : Nat)) := (HCS.out wx HT.out.2).1
                have c3 : wx.drew.cell? ⟨xb, xo + a, none⟩ = some (.int .u8 (za.1 : Nat)) := (HCS.out wx HT.out.2).2
                clear HT HST hj0 hjk hj HV HB HQ HR
                go_upto_region 20 with fail
                generalize r.1 = r1 at x1 HNX
                generalize v.1 = v1 at x1 c1
                generalize q.1 = q1 at x1 H20
                generalize b.1 = b1 at c2 H20
                refine wp_region_noPanic ?_
                refine wp_region_till (fun u => u = wx.drew) 17 (by kernel_rfl) (by decide) (by decide +kernel) (by decide +kernel) (by decide +kernel) (fun inv => ?_)
                refine till_at 0 80 (.slice (some ⟨G2, 0, none⟩) K K) inv rfl rfl (by decide) (by decide +kernel) (by decide +kernel) (fun _ _ _ h => h) rfl (Or.inl ⟨by rfl, fun w' hS' => by subst hS'; go_simp⟩) (fun inv' => ?_)
                clear inv; have inv := inv'; clear inv'
                try simp only [List.setIfInBounds_toArray, List.set_cons_zero, List.set_cons_succ]
                refine till_at 1 81 (.int .i64 (j : Nat)) inv rfl rfl (by decide) (by decide +kernel) (by decide +kernel) (fun _ _ _ h => h) rfl (Or.inl ⟨by rfl, fun w' hS' => by subst hS'; go_simp⟩) (fun inv' => ?_)
                clear inv; have inv := inv'; clear inv'
                try simp only [List.setIfInBounds_toArray, List.set_cons_zero, List.set_cons_succ]
                refine till_at 2 82 (.slice (some ⟨G2, 0, none⟩) K K) inv rfl rfl (by decide) (by decide +kernel) (by decide +kernel) (fun _ _ _ h => h) rfl (Or.inl ⟨by rfl, fun w' hS' => by subst hS'; go_simp⟩) (fun inv' => ?_)
                clear inv; have inv := inv'; clear inv'
                try simp only [List.setIfInBounds_toArray, List.set_cons_zero, List.set_cons_succ]
                refine till_at 3 83 (.int .i64 (j : Nat)) inv rfl rfl (by decide) (by decide +kernel) (by decide +kernel) (fun _ _ _ h => h) rfl (Or.inl ⟨by rfl, fun w' hS' => by subst hS'; go_simp⟩) (fun inv' => ?_)
                clear inv; have inv := inv'; clear inv'
                try simp only [List.setIfInBounds_toArray, List.set_cons_zero, List.set_cons_succ]
                refine till_at 4 84 (.pointer (some ⟨G2, j, none⟩)) inv rfl rfl (by decide) (by decide +kernel) (by decide +kernel) (fun _ _ _ h => h) rfl (Or.inl ⟨by rfl, fun w' hS' => by subst hS'; go_simp⟩) (fun inv' => ?_)
                clear inv; have inv := inv'; clear inv'
                try simp only [List.setIfInBounds_toArray, List.set_cons_zero, List.set_cons_succ]
                refine till_at 5 85 (.int .u8 (v1 : Nat)) inv rfl rfl (by decide) (by decide +kernel) (by decide +kernel) (fun _ _ _ h => h) rfl (Or.inl ⟨by rfl, fun w' hS' => by subst hS'; go_simp⟩) (fun inv' => ?_)
                clear inv; have inv := inv'; clear inv'
                try simp only [List.setIfInBounds_toArray, List.set_cons_zero, List.set_cons_succ]
                refine till_at 6 86 (.slice (some ⟨G, 0, none⟩) K K) inv rfl rfl (by decide) (by decide +kernel) (by decide +kernel) (fun _ _ _ h => h) rfl (Or.inl ⟨by rfl, fun w' hS' => by subst hS'; go_simp⟩) (fun inv' => ?_)
                clear inv; have inv := inv'; clear inv'
                try simp only [List.setIfInBounds_toArray, List.set_cons_zero, List.set_cons_succ]
                refine till_at 7 87 (.int .i64 (j : Nat)) inv rfl rfl (by decide) (by decide +kernel) (by decide +kernel) (fun _ _ _ h => h) rfl (Or.inl ⟨by rfl, fun w' hS' => by subst hS'; go_simp⟩) (fun inv' => ?_)
                clear inv; have inv := inv'; clear inv'
                try simp only [List.setIfInBounds_toArray, List.set_cons_zero, List.set_cons_succ]
                refine till_at 8 88 (.pointer (some ⟨G, j, none⟩)) inv rfl rfl (by decide) (by decide +kernel) (by decide +kernel) (fun _ _ _ h => h) rfl (Or.inl ⟨by rfl, fun w' hS' => by subst hS'; go_simp⟩) (fun inv' => ?_)
                clear inv; have inv := inv'; clear inv'
                try simp only [List.setIfInBounds_toArray, List.set_cons_zero, List.set_cons_succ]
                refine till_at 9 89 (.int .u8 (b1 : Nat)) inv rfl rfl (by decide) (by decide +kernel) (by decide +kernel) (fun _ _ _ h => h) rfl (Or.inl ⟨by rfl, fun w' hS' => by subst hS'; go_simp⟩) (fun inv' => ?_)
                clear inv; have inv := inv'; clear inv'
                try simp only [List.setIfInBounds_toArray, List.set_cons_zero, List.set_cons_succ]
                refine till_at 10 90 (.slice (some ⟨xb, xo, none⟩) K xc) inv rfl rfl (by decide) (by decide +kernel) (by decide +kernel) (fun _ _ _ h => h) rfl (Or.inl ⟨by rfl, fun w' hS' => by subst hS'; go_simp⟩) (fun inv' => ?_)
                clear inv; have inv := inv'; clear inv'
                try simp only [List.setIfInBounds_toArray, List.set_cons_zero, List.set_cons_succ]
                refine till_at 11 91 (.int .i64 (a : Nat)) inv rfl rfl (by decide) (by decide +kernel) (by decide +kernel) (fun _ _ _ h => h) rfl (Or.inl ⟨by rfl, fun w' hS' => by subst hS'; go_simp⟩) (fun inv' => ?_)
                clear inv; have inv := inv'; clear inv'
                try simp only [List.setIfInBounds_toArray, List.set_cons_zero, List.set_cons_succ]
                refine till_at 12 92 (.pointer (some ⟨xb, xo + a, none⟩)) inv rfl rfl (by decide) (by decide +kernel) (by decide +kernel) (fun _ _ _ h => h) rfl (Or.inl ⟨by rfl, fun w' hS' => by subst hS'; go_simp⟩) (fun inv' => ?_)
                clear inv; have inv := inv'; clear inv'
                try simp only [List.setIfInBounds_toArray, List.set_cons_zero, List.set_cons_succ]
                refine till_at 13 93 (.int .u8 (za.1 : Nat)) inv rfl rfl (by decide) (by decide +kernel) (by decide +kernel) (fun _ _ _ h => h) rfl (Or.inl ⟨by rfl, fun w' hS' => by subst hS'; go_simp⟩) (fun inv' => ?_)
                clear inv; have inv := inv'; clear inv'
                try simp only [List.setIfInBounds_toArray, List.set_cons_zero, List.set_cons_succ]
                refine till_head (i := 14) inv (by decide +kernel) (by decide) rfl (fun KK hK => ?_)
                go_simp
                refine (H20.out _).mono ?_
                rintro e5 w5 ⟨rfl, hw⟩
                obtain rfl := hw.symm
                clear hw
                go_wp2_with fail
                refine hK.out _ _ rfl (fun inv' => ?_)
                clear hK KK inv; have inv := inv'; clear inv'
                try simp only [List.setIfInBounds_toArray, List.set_cons_zero, List.set_cons_succ]
                refine till_at 15 95 (.int .u8 (r1 : Nat)) inv rfl rfl (by decide) (by decide +kernel) (by decide +kernel) (fun _ _ _ h => h) rfl (Or.inl ⟨by rfl, fun w' hS' => by subst hS'; go_simp⟩) (fun inv' => ?_)
                clear inv; have inv := inv'; clear inv'
                try simp only [List.setIfInBounds_toArray, List.set_cons_zero, List.set_cons_succ]
                refine till_at 16 96 (.pointer (some ⟨G2, j, none⟩)) inv rfl rfl (by decide) (by decide +kernel) (by decide +kernel) (fun _ _ _ h => h) rfl (Or.inl ⟨by rfl, fun w' hS' => by subst hS'; go_simp⟩) (fun inv' => ?_)
                clear inv; have inv := inv'; clear inv'
                try simp only [List.setIfInBounds_toArray, List.set_cons_zero, List.set_cons_succ]
                refine till_tail (i := 17) (by decide +kernel) (by decide) rfl (fun KK hK => ?_)
                rw [if_pos (by rfl)]
                go_simp
                refine hK.out _ _ ?_
                clear hK KK
                try simp only [List.setIfInBounds_toArray, List.set_cons_zero, List.set_cons_succ]
                refine till_done (by decide +kernel) ?_ _
                refine NoPanic.normal ?_
                go_wp2
                refine ⟨⟨j + 1, by have := HJK.out; omega, by first | rfl | (simp; done), HNX⟩, ?_⟩
                simp [intOf]
                have := HJK.out
                omega
            · obtain rfl : j = K := by omega
              have g2 : ¬ (j : Int) < (j : Int) := Int.lt_irrefl _
              have g0 : (0 : Int) < (j : Int) := by have := HNN.out; omega
              have gz : ¬ j = 0 := by omega
              have HIT : Hid ((nxL row za da) = (genL j (inN row za j)).set 0 (fa (inN row za j 0) da)) := (inN_end row za da j HRL.out (by have := HNN.out; omega)).symm
              obtain ⟨v, HV⟩ : ∃ z : F, Hid (inN row za j 0 = z) := ⟨_, rfl⟩
              obtain ⟨r, HR⟩ : ∃ z : F, Hid (fa v da = z) := ⟨_, rfl⟩
              rw [HV.out, HR.out] at HIT
              have x1 : bits .xor .u8 ((v.1 : Nat) : Int) ((da.1 : Nat) : Int) = ((r.1 : Nat) : Int) := by rw [← HR.out]; exact xorF v da
              have c1 : wx.drew.cell? ⟨G2, 0, none⟩ = some (.int .u8 (v.1 : Nat)) := by
                have q := HT.out.1.cell 0 (by rw [genL_len]; have := HNN.out; omega)
                rw [genL_at _ _ _ (by have := HNN.out; omega), HV.out] at q
                exact q
              have f1 : wx.drew.frozen? ⟨G2, 0, none⟩ = false := HT.out.1.frozen 0
              have c2 : wx.drew.cell? ⟨g, a, none⟩ = some (.int .u8 (da.1 : Nat)) := by
                have q := (HKP.out wx HT.out.2).2.1.cell a (by rw [genL_len]; exact HTK.out.2)
                rw [genL_at _ _ _ HTK.out.2, HDA.out] at q
                exact q
              have HNX : Hid (Rx (wx.setCell ⟨G2, 0, none⟩ (.int .u8 (r.1 : Nat))).drew G2 (hoL x d j (t + 1)) ∧ Rx (wx.setCell ⟨G2, 0, none⟩ (.int .u8 (r.1 : Nat))).drew g (genL j d) ∧ Below M w (wx.setCell ⟨G2, 0, none⟩ (.int .u8 (r.1 : Nat))).drew ∧ M ≤ G2) := by
                rw [HNXR.out, HIT.out]
                have hb : Below G2 wo (wx.setCell ⟨G2, 0, none⟩ (.int .u8 (r.1 : Nat))).drew := (HT.out.2.setCell (Nat.le_refl _) _).drew
                exact ⟨(HT.out.1.set 0 (by rw [genL_len]; have := HNN.out; omega) r).keep rfl, (HKP.out _ hb).2.1, (HKP.out _ hb).2.2, HGO.out.2.2.1⟩
              have g1 : (0 : Int) ≤ (a : Int) := by omega
              clear HT HKP HIT HV HR HNXR HDA hj hjk
              go_upto_region 21 with fail
              generalize r.1 = r1 at x1 HNX
              generalize v.1 = v1 at x1 c1
              generalize da.1 = d1 at x1 c2
              refine wp_region_noPanic ?_
              refine wp_region_till (fun u => u = wx.drew) 10 (by kernel_rfl) (by decide) (by decide +kernel) (by decide +kernel) (by decide +kernel) (fun inv => ?_)
              refine till_at 0 97 (.slice (some ⟨G2, 0, none⟩) j j) inv rfl rfl (by decide) (by decide +kernel) (by decide +kernel) (fun _ _ _ h => h) rfl (Or.inl ⟨by rfl, fun w' hS' => by subst hS'; go_simp⟩) (fun inv' => ?_)
              clear inv; have inv := inv'; clear inv'
              try simp only [List.setIfInBounds_toArray, List.set_cons_zero, List.set_cons_succ]
              refine till_at 1 98 (.slice (some ⟨G2, 0, none⟩) j j) inv rfl rfl (by decide) (by decide +kernel) (by decide +kernel) (fun _ _ _ h => h) rfl (Or.inl ⟨by rfl, fun w' hS' => by subst hS'; go_simp⟩) (fun inv' => ?_)
              clear inv; have inv := inv'; clear inv'
              try simp only [List.setIfInBounds_toArray, List.set_cons_zero, List.set_cons_succ]
              refine till_at 2 99 (.pointer (some ⟨G2, 0, none⟩)) inv rfl rfl (by decide) (by decide +kernel) (by decide +kernel) (fun _ _ _ h => h) rfl (Or.inl ⟨by rfl, fun w' hS' => by subst hS'; go_simp⟩) (fun inv' => ?_)
              clear inv; have inv := inv'; clear inv'
              try simp only [List.setIfInBounds_toArray, List.set_cons_zero, List.set_cons_succ]
              refine till_at 3 100 (.int .u8 (v1 : Nat)) inv rfl rfl (by decide) (by decide +kernel) (by decide +kernel) (fun _ _ _ h => h) rfl (Or.inl ⟨by rfl, fun w' hS' => by subst hS'; go_simp⟩) (fun inv' => ?_)
              clear inv; have inv := inv'; clear inv'
              try simp only [List.setIfInBounds_toArray, List.set_cons_zero, List.set_cons_succ]
              refine till_at 4 101 (.slice (some ⟨g, 0, none⟩) j c) inv rfl rfl (by decide) (by decide +kernel) (by decide +kernel) (fun _ _ _ h => h) rfl (Or.inl ⟨by rfl, fun w' hS' => by subst hS'; go_simp⟩) (fun inv' => ?_)
              clear inv; have inv := inv'; clear inv'
              try simp only [List.setIfInBounds_toArray, List.set_cons_zero, List.set_cons_succ]
              refine till_at 5 102 (.int .i64 (a : Nat)) inv rfl rfl (by decide) (by decide +kernel) (by decide +kernel) (fun _ _ _ h => h) rfl (Or.inl ⟨by rfl, fun w' hS' => by subst hS'; go_simp⟩) (fun inv' => ?_)
              clear inv; have inv := inv'; clear inv'
              try simp only [List.setIfInBounds_toArray, List.set_cons_zero, List.set_cons_succ]
              refine till_at 6 103 (.pointer (some ⟨g, a, none⟩)) inv rfl rfl (by decide) (by decide +kernel) (by decide +kernel) (fun _ _ _ h => h) rfl (Or.inl ⟨by rfl, fun w' hS' => by subst hS'; go_simp⟩) (fun inv' => ?_)
              clear inv; have inv := inv'; clear inv'
              try simp only [List.setIfInBounds_toArray, List.set_cons_zero, List.set_cons_succ]
              refine till_at 7 104 (.int .u8 (d1 : Nat)) inv rfl rfl (by decide) (by decide +kernel) (by decide +kernel) (fun _ _ _ h => h) rfl (Or.inl ⟨by rfl, fun w' hS' => by subst hS'; go_simp⟩) (fun inv' => ?_)
              clear inv; have inv := inv'; clear inv'
              try simp only [List.setIfInBounds_toArray, List.set_cons_zero, List.set_cons_succ]
              refine till_at 8 105 (.int .u8 (r1 : Nat)) inv rfl rfl (by decide) (by decide +kernel) (by decide +kernel) (fun _ _ _ h => h) rfl (Or.inl ⟨by rfl, fun w' hS' => by subst hS'; go_simp⟩) (fun inv' => ?_)
              clear inv; have inv := inv'; clear inv'
              try simp only [List.setIfInBounds_toArray, List.set_cons_zero, List.set_cons_succ]
              refine till_at 9 106 (.pointer (some ⟨G2, 0, none⟩)) inv rfl rfl (by decide) (by decide +kernel) (by decide +kernel) (fun _ _ _ h => h) rfl (Or.inl ⟨by rfl, fun w' hS' => by subst hS'; go_simp⟩) (fun inv' => ?_)
              clear inv; have inv := inv'; clear inv'
              try simp only [List.setIfInBounds_toArray, List.set_cons_zero, List.set_cons_succ]
              refine till_tail (i := 10) (by decide +kernel) (by decide) rfl (fun KK hK => ?_)
              rw [if_pos (by rfl)]
              go_simp
              refine hK.out _ _ ?_
              clear hK KK
              try simp only [List.setIfInBounds_toArray, List.set_cons_zero, List.set_cons_succ]
              refine till_done (by decide +kernel) ?_ _
              refine NoPanic.normal ?_
              go_wp2
              refine ⟨⟨t + 1, G2, by have := HTK.out; omega, by first | rfl | (simp; done), by first | rfl | (simp; done), HNX⟩, ?_⟩
              simp [intOf]
              have := HA.out
              omega
        · obtain rfl : t = K := by omega
          have e : (t : Int) - 1 - (t : Nat) = -1 := by omega
          rw [e]
          have HE : Hid (∃ g', Ending.returned (.slice (some ⟨G, 0, none⟩) t t) = .returned (.slice (some ⟨g', 0, none⟩) t t) ∧ M ≤ g' ∧ Rx wo g' (newtL x y t) ∧ Below M w wo) := by rw [HRS.out]; exact ⟨G, rfl, HI.out.2.2.2, HI.out.1, HI.out.2.2.1⟩
          clear HI
          go_wp2
          go_ret
          rw [HMM.out]
          exact HE
end Go.Proofs.YtinmhgackihakaaDoor
namespace Go.Proofs.YtinmhgackihakaaDoor
open Go.RowKit
set_option linter.unusedVariables false
set_option linter.unusedSimpArgs false
set_option maxRecDepth 100000
theorem wl_len (xs : List Int) : ∀ k, (wl xs (k + 1)).length = 6 * k + 5
  | 0 => by simp [wl, word]
  | k + 1 => by
    have e : wl xs (k + 1 + 1) = wl xs (k + 1) ++ ((if k + 1 = 0 then [] else [32]) ++ word (xs.getD (2 * (k + 1)) 0 * 256 + xs.getD (2 * (k + 1) + 1) 0)) := rfl
    rw [e, List.length_append, wl_len xs k, if_neg (by omega)]
    simp [word]
    omega
theorem word_len (v : Int) : (word v).length = 5 := rfl
theorem wl_at (xs : List Int) : ∀ k p j, p < k → j < 5 → (wl xs k)[6 * p + j]? = (word (xs.getD (2 * p) 0 * 256 + xs.getD (2 * p + 1) 0))[j]?
  | 0, p, j, hp, _ => absurd hp (Nat.not_lt_zero p)
  | k + 1, p, j, hp, hj => by
    have e : wl xs (k + 1) = wl xs k ++ ((if k = 0 then [] else [32]) ++ word (xs.getD (2 * k) 0 * 256 + xs.getD (2 * k + 1) 0)) := rfl
    rw [e]
    by_cases h : p < k
    · obtain ⟨q, rfl⟩ : ∃ q, k = q + 1 := ⟨k - 1, by omega⟩
      rw [List.getElem?_append_left (by rw [wl_len]; omega)]
      exact wl_at xs (q + 1) p j h hj
    · have hpk : p = k := by omega
      subst hpk
      by_cases h0 : p = 0
      · subst h0
        have e3 : wl xs 0 ++ ((if (0 : Nat) = 0 then [] else [32]) ++ word (xs.getD (2 * 0) 0 * 256 + xs.getD (2 * 0 + 1) 0)) = word (xs.getD (2 * 0) 0 * 256 + xs.getD (2 * 0 + 1) 0) := rfl
        rw [e3, show 6 * 0 + j = j by omega]
      · obtain ⟨q, rfl⟩ : ∃ q, p = q + 1 := ⟨p - 1, by omega⟩
        rw [if_neg h0, List.getElem?_append_right (by rw [wl_len]; omega), wl_len, show 6 * (q + 1) + j - (6 * q + 5) = j + 1 by omega]
        rfl
theorem wl_gap (xs : List Int) : ∀ k p, p + 1 < k → (wl xs k)[6 * p + 5]? = some 32
  | 0, p, hp => absurd hp (Nat.not_lt_zero _)
  | k + 1, p, hp => by
    have e : wl xs (k + 1) = wl xs k ++ ((if k = 0 then [] else [32]) ++ word (xs.getD (2 * k) 0 * 256 + xs.getD (2 * k + 1) 0)) := rfl
    rw [e]
    by_cases h : p + 1 < k
    · obtain ⟨q, rfl⟩ : ∃ q, k = q + 1 := ⟨k - 1, by omega⟩
      rw [List.getElem?_append_left (by rw [wl_len]; omega)]
      exact wl_gap xs (q + 1) p h
    · obtain rfl : k = p + 1 := by omega
      rw [if_neg (by omega), List.getElem?_append_right (by rw [wl_len]; omega), wl_len, Nat.sub_self]
      rfl
/-- The number of a pair of bytes. -/
def vP (l : List F) (p : Nat) : Nat := (l.getD (2 * p) 0).1 * 256 + (l.getD (2 * p + 1) 0).1
theorem vP_lt (l : List F) (p : Nat) : vP l p < 65536 := by
  have := (l.getD (2 * p) 0).2
  have := (l.getD (2 * p + 1) 0).2
  unfold vP
  omega
def dgW (v : Nat) : Nat → Nat
  | 0 => v / 4096
  | 1 => v / 1024 % 4
  | 2 => v / 64 % 16
  | 3 => v / 16 % 4
  | _ => v % 16
def preW (v : Nat) : Nat → Nat
  | 0 => 0
  | 1 => v / 4096
  | 2 => v / 1024
  | 3 => v / 64
  | 4 => v / 16
  | _ => v
theorem dgW_lt (v k : Nat) (hv : v < 65536) (hk : k < 5) : dgW v k < if k % 2 = 1 then 4 else 16 := by
  match k, hk with
  | 0, _ => show v / 4096 < 16; omega
  | 1, _ => show v / 1024 % 4 < 4; omega
  | 2, _ => show v / 64 % 16 < 16; omega
  | 3, _ => show v / 16 % 4 < 4; omega
  | 4, _ => show v % 16 < 16; omega
theorem preW_step (v k : Nat) (hk : k < 5) : preW v (k + 1) = preW v k * (if k % 2 = 1 then 4 else 16) + dgW v k := by
  match k, hk with
  | 0, _ => show v / 4096 = 0 * 16 + v / 4096; omega
  | 1, _ => show v / 1024 = v / 4096 * 4 + v / 1024 % 4; omega
  | 2, _ => show v / 64 = v / 1024 * 16 + v / 64 % 16; omega
  | 3, _ => show v / 16 = v / 64 * 4 + v / 16 % 4; omega
  | 4, _ => show v = v / 16 * 16 + v % 16; omega
theorem preW_le (v k : Nat) : preW v k ≤ v := by
  unfold preW
  split <;> omega
/-- The letter number k of a number's word. -/
def ltW (v k : Nat) : UInt8 := if k % 2 = 1 then vowU (dgW v k) else conU (dgW v k)
theorem word_lt (v k : Nat) (hk : k < 5) : (word (v : Int))[k]? = some (ltW v k) := by
  match k, hk with
  | 0, _ => rfl
  | 1, _ =>
    show some (vowU ((v : Int) / 1024 % 4).toNat) = some (vowU (v / 1024 % 4))
    rw [show ((v : Int) / 1024 % 4).toNat = v / 1024 % 4 by omega]
  | 2, _ =>
    show some (conU ((v : Int) / 64 % 16).toNat) = some (conU (v / 64 % 16))
    rw [show ((v : Int) / 64 % 16).toNat = v / 64 % 16 by omega]
  | 3, _ =>
    show some (vowU ((v : Int) / 16 % 4).toNat) = some (vowU (v / 16 % 4))
    rw [show ((v : Int) / 16 % 4).toNat = v / 16 % 4 by omega]
  | 4, _ =>
    show some (conU ((v : Int) % 16).toNat) = some (conU (v % 16))
    rw [show ((v : Int) % 16).toNat = v % 16 by omega]
theorem words_sz (l : List F) (h : 2 ≤ l.length) : (WLs l).size + 1 = 6 * (l.length / 2) := by
  obtain ⟨k, hk⟩ : ∃ k, l.length / 2 = k + 1 := ⟨l.length / 2 - 1, by omega⟩
  unfold WLs
  rw [hk]
  show (wl _ (k + 1)).toArray.size + 1 = _
  rw [List.size_toArray, wl_len]
  omega
theorem words_get (l : List F) (i : Nat) (h : i < (WLs l).size) : (wl (l.map fun a => (a.1 : Int)) (l.length / 2))[i]? = some ((WLs l)[i]'h) := by
  unfold WLs at h ⊢
  have h2 : i < (wl (l.map fun a => (a.1 : Int)) (l.length / 2)).length := by simpa [ByteArray.size] using h
  rw [List.getElem?_eq_getElem h2]
  rfl
theorem words_lt (l : List F) (p k : Nat) (hp : p < l.length / 2) (hk : k < 5) (h : 6 * p + k < (WLs l).size) : (WLs l)[6 * p + k]'h = ltW (vP l p) k := by
  have e := words_get l _ h
  rw [wl_at _ _ p k hp hk, mapI_at, mapI_at] at e
  have e2 : ((l.getD (2 * p) 0).1 : Int) * 256 + ((l.getD (2 * p + 1) 0).1 : Int) = ((vP l p : Nat) : Int) := by unfold vP; omega
  rw [e2, word_lt _ k hk] at e
  exact (Option.some.inj e).symm
theorem wordsG_at (l : List F) (p : Nat) (hp : p + 1 < l.length / 2) (h : 6 * p + 5 < (WLs l).size) : (WLs l)[6 * p + 5]'h = 32 := by
  have e := words_get l _ h
  rw [wl_gap _ _ p hp] at e
  exact (Option.some.inj e).symm
theorem con_only : ∀ i j : Fin 16, ((conU i.1).toNat : Int) = ((conU j.1).toNat : Int) → i = j := by decide +kernel
theorem vow_only : ∀ i j : Fin 4, ((vowU i.1).toNat : Int) = ((vowU j.1).toNat : Int) → i = j := by decide +kernel
theorem pair_back (l : List F) (p : Nat) : fN (vP l p / 256) = l.getD (2 * p) 0 ∧ fN (vP l p) = l.getD (2 * p + 1) 0 := by
  have h1 := (l.getD (2 * p) 0).2
  have h2 := (l.getD (2 * p + 1) 0).2
  constructor
  · refine Fin.ext ?_
    show vP l p / 256 % 256 = _
    unfold vP
    omega
  · refine Fin.ext ?_
    show vP l p % 256 = _
    unfold vP
    omega
end Go.Proofs.YtinmhgackihakaaDoor
