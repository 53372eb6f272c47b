import Derived.Test.YtchfbanehohjoaaLwa
namespace Go.Proofs.Ytchfbanehohjoaa
open Go.RowKit
set_option linter.unusedVariables false
set_option linter.unusedSimpArgs false
theorem le_sum_of_mem (T : List Tk) (x : Tk) (h : x ∈ T) : x.l ≤ tkS T := by
  induction T with
  | nil => simp at h
  | cons y T ih =>
    simp only [tkS, List.map_cons, List.sum_cons]
    rcases List.mem_cons.1 h with rfl | h
    · omega
    · have := ih h
      unfold tkS at this
      omega
theorem built36s (p : Option Addr) (n c : Nat) : Try.prog.built 36 [(8, .slice p n c)] = some (metaC (.slice p n c)) := by kernel_rfl
theorem own_form {w : World} {B e sz n : Nat} {v : Value} {xs : List Value} (h : w.ownsRow B e sz v n xs) : ∃ p c, v = .slice p n c := by
  rcases h.2 with ⟨rfl, rfl⟩ | ⟨g, c, _, rfl, _⟩
  · exact ⟨_, _, rfl⟩
  · exact ⟨_, _, rfl⟩
set_option maxHeartbeats 4000000 in
set_option maxRecDepth 100000 in
theorem law_ok (m : Mt) (SL : List Slo) (EL : List Epo) (GL : List (Int × Int × Int)) (T : List Tk) (E : Nat) (w : World) (hC : 0 ≤ m.C) (hsn : Hid (SL.length = m.sn)) (hen : Hid (EL.length = m.en)) (hgn : Hid (GL.length = m.gn)) (htn : Hid (T.length = m.tn))
    (y1 : Hid ((m.sn + 1) * 88 ≤ 140737488355328)) (y2 : Hid ((m.en + 1) * 72 ≤ 140737488355328)) (y3 : Hid ((m.gn + 1) * 24 ≤ 140737488355328)) (y4 : Hid ((m.tn + 1) * 64 ≤ 140737488355328))
    (z1 : Hid (m.sp = none → m.sc = 0)) (z2 : Hid (m.ep = none → m.ec = 0)) (z3 : Hid (m.gp = none → m.gc = 0)) (z4 : Hid (m.tp = none → m.tc = 0)) (hE : Hid (∀ x, EL[m.en - 1]? = some x → x.n = (E : Nat)))
    (s1 : Hid (RV sloL 9 w m.sp SL)) (e1 : Hid (RV epoL 5 w m.ep EL)) (g1 : Hid (RV sgZ 3 w m.gp GL)) (t1 : Hid (RV tkL 4 w m.tp T)) (tV : Hid (∀ (i : Nat) (x : Tk), T[i]? = some x → x.l ≤ 1000000000000000 ∧ ∃ zs, zs.length = x.l ∧ View w (.slice x.p x.l x.c) zs)) :
    Calls Try.prog 3 #[.agg (mtC m)] w fun e w' => e = .returned (.bool true) ∧ Below w.heap.size w w' := by
  have c1 : m.sn ≤ 1000000000000000 := by have := y1.out; omega
  have c2 : m.en ≤ 1000000000000000 := by have := y2.out; omega
  have c3 : m.gn ≤ 1000000000000000 := by have := y3.out; omega
  have c4 : m.tn ≤ 1000000000000000 := by have := y4.out; omega
  have HC1 : Hid (m.sn ≤ 1000000000000000 ∧ m.en ≤ 1000000000000000 ∧ m.gn ≤ 1000000000000000 ∧ m.tn ≤ 1000000000000000 ∧ 0 ≤ m.C) := ⟨c1, c2, c3, c4, hC⟩
  clear c1 c2 c3 c4 hC
  obtain ⟨W0, hW0⟩ : ∃ W0, W0 = w.alloc (.cells (mtC m) 36) := ⟨_, rfl⟩
  have B0 : Hid (Below w.heap.size w W0) := by rw [hW0]; exact (Below.refl _ w).alloc (Nat.le_refl _) _
  have X0 : Hid (Bx W0 w.heap.size m) := by rw [hW0]; exact World.alloc_heap_new w _
  have H4 : Hid (Calls Try.prog 4 #[.agg (mtC m)] W0 fun e w' => WideP T e ∧ Below W0.heap.size W0 w') := by
    refine wide_any m T HC1.out.2.2.2.1 (fun i x hx => (tV.out i x hx).1) W0 ⟨htn.out, ?_⟩
    rcases (t1.out.below B0.out) with h | h
    · left; have := htn.out; rw [h] at this; simpa using this.symm
    · exact .inr h
  go_enter Try.func3, Try.ntmps3
  go_upto_region 1 with fail
  rw [← hW0]
  clear hW0
  go_upto_if 9 with (first | (refine wpList_load_mid (by rfl) 36 (.tmp 1) (by rfl) w.heap.size 0 (by rfl) (mtC m).toList _ X0.out.range Try.underlying36 rfl (size36 _) ?_) | (go_at_call 4; refine H4.out.mono ?_; rintro e1 w1 ⟨⟨r, rfl, hr⟩, hb1⟩))
  clear H4
  have HR : Hid (r = false → tkS T ≤ 65536) := hr
  have HB1 : Hid (Below W0.heap.size W0 w1) := hb1
  clear hr hb1
  cases r
  case true =>
    go_wp2
    go_ret
    exact ⟨rfl, B0.out.trans (HB1.out.mono B0.out.size)⟩
  case false =>
    have hr := HR.out rfl
    have HB : Hid (Below w.heap.size w w1) := B0.out.trans (HB1.out.mono B0.out.size)
    have X1 : Hid (Bx w1 w.heap.size m) := X0.out.below HB1.out
    have hlt1 : Hid (w.heap.size < w1.heap.size) := (Array.getElem?_eq_some_iff.1 X1.out).1
    have H5 : Hid (Calls Try.prog 5 #[.agg (mtC m)] w1 fun e w' => TwP w1 m SL EL GL T e w') := by
      refine twin_ok m SL EL GL T w1 hsn hen hgn htn y1 y2 y3 y4 z1 z2 z3 z4 (s1.out.below HB.out) (e1.out.below HB.out) (g1.out.below HB.out) (t1.out.below HB.out) (fun i x hx => ?_)
      obtain ⟨_, zs, hz, hv⟩ := tV.out i x hx
      have hxl : x.l ≤ tkS T := by
        exact le_sum_of_mem T x (List.mem_of_getElem? hx)
      exact ⟨zs, by rw [hz]; omega, hv.kept HB.out.block⟩
    clear HR hr X0 B0 HB1 tV z1 z2 z3 z4
    go_upto_region 4 with (first | (refine wpList_load_mid (by rfl) 36 (.tmp 1) (by rfl) w.heap.size 0 (by rfl) (mtC m).toList _ X1.out.range Try.underlying36 rfl (size36 _) ?_) | (go_at_call 5; refine H5.out.mono ?_; rintro e2 w2 ⟨q, T', rfl, tw1, tw2, tw3, tw4, tw5, tw6, tw7, tw8⟩) | (refine wpList_alloc_box (by rfl) (by rfl) ?_; intro W3 b3 hb3 hbl3 he3 hz3) | (refine wpList_store_box (by rfl) (.tmp 3) (.tmp 11) (by rfl) (m.at q) b3 mt0 (by rfl) (by rfl) hb3 rfl ?_; intro W4 bn4 st4))
    simp only [Act.put, List.setIfInBounds_toArray, List.set_cons_zero, List.set_cons_succ]
    have S24 : Below w2.heap.size w2 W4 := hbl3.trans (st4.below (by omega) (by rw [hz3]; omega))
    have HB2 : Below w.heap.size w w2 := HB.out.trans (tw8.mono HB.out.size)
    have FX : Hid (Fx w1.heap.size w.heap.size b3 m q SL EL GL T T' E W4) := by
      have f2 : ∀ {W}, Below w2.heap.size w2 W → Below w.heap.size w W := fun h => HB2.trans (h.mono HB2.size)
      refine ⟨(X1.out.below tw8).below S24, bn4, s1.out.below (f2 S24), tw1.1.below S24, e1.out.below (f2 S24), tw2.1.below S24, g1.out.below (f2 S24), tw3.1.below S24, t1.out.below (f2 S24), tw4.below S24, ?_, tw1.2.1.below S24, tw2.2.1.below S24, tw3.2.1.below S24, tw6.below S24, hsn.out, hen.out, hgn.out, htn.out, tw5, hE.out⟩
      intro i x y hx hy
      obtain ⟨a, b, c, zs, m1, v1⟩ := tw7 i x y hx hy
      exact ⟨a, b, c, zs, m1.kept S24.block, v1.kept S24.block⟩
    have HB4 : Hid (Below w.heap.size w W4) := HB2.trans (S24.mono HB2.size)
    clear S24 HB2 tw1 tw2 tw3 tw4 tw5 tw6 tw7 tw8 H5 X1 hlt1 bn4 st4 hb3 hbl3 he3 hz3 HB
    obtain ⟨N, hN⟩ : ∃ N, Hid ((segF m E).length = N) := ⟨_, rfl⟩
    obtain ⟨xs, hxs⟩ : ∃ xs, Hid (sgs (segF m E) = xs) := ⟨_, rfl⟩
    have SV : Hid (∃ f, ∀ (W : World) v B, W.ownsRow B 51 3 v N xs → SegV W v N f) := ⟨_, fun W v B h => segV_own (by rw [hxs.out]; exact h) hN.out⟩
    obtain ⟨f, SV⟩ := SV
    have SV : Hid (∀ (W : World) v B, W.ownsRow B 51 3 v N xs → SegV W v N f) := SV
    have H7 : Hid (∀ W, Fx w1.heap.size w.heap.size b3 m q SL EL GL T T' E W → Calls Try.prog 7 #[.agg (mtC (m.at q))] W fun e w' => ∃ v, e = .returned v ∧ w'.ownsRow W.heap.size 51 3 v N xs ∧ Below W.heap.size W w') := fun W h => by rw [← hN.out, ← hxs.out]; exact h.seg HC1.out.2.2.2.2 HC1.out.2.1
    have H6 : Hid (Calls Try.prog 6 #[.agg (mtC m)] W4 fun e w' => ∃ v, e = .returned v ∧ w'.ownsRow W4.heap.size 51 3 v N xs ∧ Below W4.heap.size W4 w') := by rw [← hN.out, ← hxs.out]; exact rseg_ok m E HC1.out.2.2.2.2 HC1.out.2.1 W4 (Last.of FX.out.e1 hen.out hE.out)
    have hN2 : Hid (N ≤ 2) := by rw [← hN.out]; exact segF_len m E
    go_upto_region 5 with (first | (refine wpList_load_mid (by rfl) 36 (.tmp 1) (by rfl) w.heap.size 0 (by rfl) (mtC m).toList _ FX.out.bx.range Try.underlying36 rfl (size36 _) ?_) | (go_at_call 6; refine H6.out.mono ?_; rintro e5 w5 ⟨vw, rfl, how, hb5⟩))
    have FX5 : Hid (Fx w1.heap.size w.heap.size b3 m q SL EL GL T T' E w5) := FX.out.below hb5
    have HB5 : Hid (Below w.heap.size w w5) := HB4.out.trans (hb5.mono HB4.out.size)
    have HW : Hid (w5.ownsRow W4.heap.size 51 3 vw N xs) := how
    clear how hb5 FX HB4 H6
    go_upto_region 6 with (first | (refine wpList_load_mid (by rfl) 36 (.tmp 3) (by rfl) b3 0 (by rfl) (mtC (m.at q)).toList _ FX5.out.bn.range Try.underlying36 rfl (size36 _) ?_) | (go_at_call 7; refine (H7.out _ FX5.out).mono ?_; rintro e6 w6 ⟨va, rfl, hoa, hb6⟩))
    have FX6 : Hid (Fx w1.heap.size w.heap.size b3 m q SL EL GL T T' E w6) := FX5.out.below hb6
    have HB6 : Hid (Below w5.heap.size w5 w6) := hb6
    have HA : Hid (w6.ownsRow w5.heap.size 51 3 va N xs) := hoa
    clear hoa hb6
    go_upto_region 7 with (first | (refine wpList_load_mid (by rfl) 36 (.tmp 3) (by rfl) b3 0 (by rfl) (mtC (m.at q)).toList _ FX6.out.bn.range Try.underlying36 rfl (size36 _) ?_) | (go_at_call 7; refine (H7.out _ FX6.out).mono ?_; rintro e7 w7 ⟨vb, rfl, hob, hb7⟩))
    have FX7 : Hid (Fx w1.heap.size w.heap.size b3 m q SL EL GL T T' E w7) := FX6.out.below hb7
    have HB7 : Hid (Below w6.heap.size w6 w7) := hb7
    have HBB : Hid (w7.ownsRow w6.heap.size 51 3 vb N xs) := hob
    clear hob hb7
    go_upto_region 8 with (first | (refine wpList_load_mid (by rfl) 36 (.tmp 1) (by rfl) w.heap.size 0 (by rfl) (mtC m).toList _ FX7.out.bx.range Try.underlying36 rfl (size36 _) ?_) | (refine wpList_alloc_box (by rfl) (by rfl) ?_; intro W8 b8 hb8 hbl8 he8 hz8) | (refine wpList_store_box (by rfl) (.tmp 7) (.tmp 18) (by rfl) m b8 mt0 (by rfl) (by rfl) hb8 rfl ?_; intro W9 bn9 st9))
    simp only [Act.put, List.setIfInBounds_toArray, List.set_cons_zero, List.set_cons_succ]
    have S79 : Hid (Below w7.heap.size w7 W9) := hbl8.trans (st9.below (by omega) (by rw [hz8]; omega))
    have X9 : Hid (Bx W9 b8 m) := bn9
    have he8' : Hid (b8 = w7.heap.size) := he8
    clear hbl8 bn9 st9 hb8 he8 hz8
    have FX9 : Hid (Fx w1.heap.size w.heap.size b3 m q SL EL GL T T' E W9) := FX7.out.below S79.out
    have y20 := FX9.out.bx.c 20 (.int .u64 (m.done : Nat)) rfl
    have z20 := X9.out.c 20 (.int .u64 (m.done : Nat)) rfl
    have f20 : W9.frozen? ⟨b8, 20, none⟩ = false := frozen_bx X9.out
    go_upto_region 9 with fail
    obtain ⟨D, hD⟩ : ∃ D : Nat, IntKind.u64.wrap ((m.done : Int) / 2) = (D : Int) := ⟨(IntKind.u64.wrap ((m.done : Int) / 2)).toNat, by rw [IntKind.wrap_u64]; omega⟩
    rw [hD]
    have XA : Hid (Bx (W9.setCell ⟨b8, 20, none⟩ (.int .u64 (D : Nat))) b8 { m with done := D }) := bx_set X9.out rfl
    have S7A : Hid (Below w7.heap.size w7 (W9.setCell ⟨b8, 20, none⟩ (.int .u64 (D : Nat)))) := S79.out.setCell (by rw [he8'.out]; exact Nat.le_refl _) _
    clear X9 S79 FX9 y20 z20 f20 hD
    generalize W9.setCell ⟨b8, 20, none⟩ (.int .u64 (D : Nat)) = WA at XA S7A ⊢
    have FXA : Hid (Fx w1.heap.size w.heap.size b3 m q SL EL GL T T' E WA) := FX7.out.below S7A.out
    have HO : Hid (Calls Try.prog 7 #[.agg (mtC { m with done := D })] WA fun e w' => Below WA.heap.size WA w' ∧ ∃ v, e = .returned v) := (seg_ok { m with done := D } E HC1.out.2.2.2.2 HC1.out.2.1 WA (Last.of (m := { m with done := D }) FXA.out.e1 hen.out hE.out)).mono (fun e w' h => by obtain ⟨v, h1, _, h2⟩ := h; exact ⟨h2, v, h1⟩)
    go_upto_region 10 with (first | (refine wpList_load_mid (by rfl) 36 (.tmp 7) (by rfl) b8 0 (by rfl) (mtC ({ m with done := D } : Mt)).toList _ XA.out.range Try.underlying36 rfl (size36 _) ?_) | (go_at_call 7; refine HO.out.mono ?_; rintro e10 w10 ⟨hb10, v10, rfl⟩))
    have S7B : Hid (Below w7.heap.size w7 w10) := S7A.out.trans (hb10.mono S7A.out.size)
    clear XA S7A HO FXA hb10 he8'
    have S5B : Hid (Below w5.heap.size w5 w10) := (HB6.out.trans (HB7.out.mono HB6.out.size)).trans (S7B.out.mono (Nat.le_trans HB6.out.size HB7.out.size))
    have FXB : Hid (Fx w1.heap.size w.heap.size b3 m q SL EL GL T T' E w10) := FX7.out.below S7B.out
    have HA2 : Hid (w10.ownsRow w5.heap.size 51 3 va N xs) := own_keep (own_keep HA.out HB7.out) S7B.out
    have HB2 : Hid (w10.ownsRow w6.heap.size 51 3 vb N xs) := own_keep HBB.out S7B.out
    have HW2 : Hid (w10.ownsRow W4.heap.size 51 3 vw N xs) := own_keep HW.out S5B.out
    have nA : Hid (∀ k, va.ownBlock = some k → w5.heap.size ≤ k ∧ k < w6.heap.size) := fun k h => HA.out.lt k h
    clear HA HBB FX7 S7B HB7 FX6
    have N3 : Hid (N ≤ 1000000000000000) := Nat.le_trans hN2.out (by omega)
    have G8 : Hid (∀ (u v : Value) (B1 B2 : Nat) (W : World), W.ownsRow B1 51 3 u N xs → W.ownsRow B2 51 3 v N xs → Calls Try.prog 8 #[u, v] W fun e w' => e = .returned (.bool true) ∧ Below W.heap.size W w') := fun u v B1 B2 W h1 h2 => (same_any N3.out W (SV.out W u B1 h1) (SV.out W v B2 h2)).mono (fun e w' h => ⟨h.1, (Below.refl _ _).grown h.2 (Nat.le_refl _) (by intro k hk; cases hk)⟩)
    have P1 : Hid (Calls Try.prog 8 #[va, vw] w10 fun e w' => e = .returned (.bool true) ∧ Below w10.heap.size w10 w') := G8.out _ _ _ _ _ HA2.out HW2.out
    have P2 : Hid (∀ W, Below w10.heap.size w10 W → Calls Try.prog 8 #[vb, vw] W fun e w' => e = .returned (.bool true) ∧ Below W.heap.size W w') := fun W h => G8.out _ _ _ _ _ (own_keep HB2.out h) (own_keep HW2.out h)
    have P3 : Hid (∀ W, Below w10.heap.size w10 W → Calls Try.prog 9 #[.agg (mtC (m.at q)), .agg (mtC m)] W fun e w' => e = .returned (.bool true) ∧ Below W.heap.size W w') := fun W h => (FXB.out.below h).whole HC1.out.1 HC1.out.2.1 HC1.out.2.2.1 HC1.out.2.2.2.1
    obtain ⟨pa, ca, hva⟩ := own_form HA2.out
    subst hva
    go_upto_if 42 with (first | (go_at_call 8; refine P1.out.mono ?_; rintro e11 w11 ⟨rfl, hb11⟩; have Q1 : Hid (Below w10.heap.size w10 w11) := hb11; clear P1 hb11) | (go_at_call 8; refine (P2.out _ Q1.out).mono ?_; rintro e12 w12 ⟨rfl, hb12⟩; have Q2 : Hid (Below w10.heap.size w10 w12) := Q1.out.trans (hb12.mono Q1.out.size); clear P2 hb12) | (refine wpList_load_want (by rfl) 36 (.tmp 3) (by rfl) b3 0 (by rfl) (mtC (m.at q)).toList _ (FXB.out.below Q2.out).bn.range Try.underlying36 rfl (size36 _) ?_) | (refine wpList_load_want (by rfl) 36 (.tmp 1) (by rfl) w.heap.size 0 (by rfl) (mtC m).toList _ (FXB.out.below Q2.out).bx.range Try.underlying36 rfl (size36 _) ?_) | (go_at_call 9; refine (P3.out _ Q2.out).mono ?_; rintro e13 w13 ⟨rfl, hb13⟩; have Q3 : Hid (Below w10.heap.size w10 w13) := Q2.out.trans (hb13.mono Q2.out.size); clear P3 hb13))
    have S5D : Hid (Below w5.heap.size w5 w13) := S5B.out.trans (Q3.out.mono S5B.out.size)
    have HA3 : Hid (w13.ownsRow w5.heap.size 51 3 (.slice pa N ca) N xs) := own_keep HA2.out Q3.out
    have HB3 : Hid (w13.ownsRow w6.heap.size 51 3 vb N xs) := own_keep HB2.out Q3.out
    have PS : Hid (Calls Try.prog 10 #[.agg (metaC (.slice pa N ca))] w13 fun e w' => e = .returned (.tuple #[]) ∧ w13.grownBy w' (Value.slice pa N ca).ownBlock) := spoil_own w5.heap.size _ N xs w13 (Nat.le_trans hN2.out (by omega)) S5D.out.size HA3.out
    have b36 : ∀ u, (Instr.build 36 #[(8, .slice pa N ca)]).run Try.prog u = .ok (.agg (metaC (.slice pa N ca))) u := fun u => run_build u _ _ _ (built36s pa N ca)
    clear Q1 Q2 FXB HA2 HB2 HW2 S5B
    go_upto_region 13 with (go_at_call 10; refine PS.out.mono ?_; rintro e14 w14 ⟨rfl, hg14⟩)
    have HG : Hid (w13.grownBy w14 (Value.slice pa N ca).ownBlock) := hg14
    clear hg14 PS b36
    have S5E : Hid (Below w5.heap.size w5 w14) := S5D.out.grown HG.out S5D.out.size (fun k h => (nA.out k h).1)
    have FXE : Hid (Fx w1.heap.size w.heap.size b3 m q SL EL GL T T' E w14) := FX5.out.below S5E.out
    have HW4 : Hid (w14.ownsRow W4.heap.size 51 3 vw N xs) := own_keep HW.out S5E.out
    have HB4 : Hid (w14.ownsRow w6.heap.size 51 3 vb N xs) := by
      refine HB3.out.kept HG.out ?_
      cases h2 : vb.ownBlock with
      | none => exact .inl rfl
      | some k =>
        refine .inr (fun h => ?_)
        have h3 := (nA.out k h.symm).2
        have h4 := (HB3.out.lt k h2).1
        omega
    have P1 : Hid (Calls Try.prog 8 #[vb, vw] w14 fun e w' => e = .returned (.bool true) ∧ Below w14.heap.size w14 w') := G8.out _ _ _ _ _ HB4.out HW4.out
    have P2 : Hid (∀ W, Below w14.heap.size w14 W → ∀ B v, W.ownsRow B 51 3 v N xs → Calls Try.prog 8 #[v, vw] W fun e w' => e = .returned (.bool true) ∧ Below W.heap.size W w') := fun W h B v h2 => G8.out _ _ _ _ _ h2 (own_keep HW4.out h)
    have P3 : Hid (∀ W, Below w14.heap.size w14 W → Calls Try.prog 9 #[.agg (mtC (m.at q)), .agg (mtC m)] W fun e w' => e = .returned (.bool true) ∧ Below W.heap.size W w') := fun W h => (FXE.out.below h).whole HC1.out.1 HC1.out.2.1 HC1.out.2.2.1 HC1.out.2.2.2.1
    clear HA3 HB3 S5D Q3 HG nA
    go_wp2_with (first | (go_at_call 8; refine P1.out.mono ?_; rintro e15 w15 ⟨rfl, hb15⟩; have Q5 : Hid (Below w14.heap.size w14 w15) := hb15; have F5 : Hid (Fx w1.heap.size w.heap.size b3 m q SL EL GL T T' E w15) := FXE.out.below hb15; clear P1 hb15) | (refine wpList_load_want (by rfl) 36 (.tmp 3) (by rfl) b3 0 (by rfl) (mtC (m.at q)).toList _ F5.out.bn.range Try.underlying36 rfl (size36 _) ?_) | (go_at_call 7; refine (H7.out _ F5.out).mono ?_; rintro e16 w16 ⟨v16, rfl, ho16, hb16⟩; have Q6 : Hid (Below w14.heap.size w14 w16) := Q5.out.trans (hb16.mono Q5.out.size); have O6 : Hid (w16.ownsRow w15.heap.size 51 3 v16 N xs) := ho16; clear F5 ho16 hb16 H7) | (go_at_call 8; refine (P2.out _ Q6.out _ _ O6.out).mono ?_; rintro e17 w17 ⟨rfl, hb17⟩; have Q7 : Hid (Below w14.heap.size w14 w17) := Q6.out.trans (hb17.mono Q6.out.size); have F7 : Hid (Fx w1.heap.size w.heap.size b3 m q SL EL GL T T' E w17) := FXE.out.below Q7.out; clear P2 hb17) | (refine wpList_load_want (by rfl) 36 (.tmp 3) (by rfl) b3 0 (by rfl) (mtC (m.at q)).toList _ F7.out.bn.range Try.underlying36 rfl (size36 _) ?_) | (refine wpList_load_want (by rfl) 36 (.tmp 1) (by rfl) w.heap.size 0 (by rfl) (mtC m).toList _ F7.out.bx.range Try.underlying36 rfl (size36 _) ?_) | (go_at_call 9; refine (P3.out _ Q7.out).mono ?_; rintro e18 w18 ⟨rfl, hb18⟩))
    go_ret
    exact ⟨rfl, (HB5.out.trans (S5E.out.mono HB5.out.size)).trans ((Q7.out.trans (hb18.mono Q7.out.size)).mono (Nat.le_trans HB5.out.size S5E.out.size))⟩
end Go.Proofs.Ytchfbanehohjoaa
