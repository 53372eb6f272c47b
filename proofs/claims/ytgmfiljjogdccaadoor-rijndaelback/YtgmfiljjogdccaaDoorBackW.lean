import Derived.Test.YtgmfiljjogdccaaDoorKeep
namespace Go.Proofs.YtgmfiljjogdccaaDoor
open Go.RowKit Go.RwLone
set_option linter.unusedVariables false
set_option linter.unusedSimpArgs false
theorem view_head {w : World} {a : Option Addr} {n cap : Nat} {zs : List Int} (hv : View w (.slice a n cap) zs) (j : Nat) (hj : j ≤ n) : View w (.slice a j cap) (zs.take j) := by
  obtain ⟨a', c, he, h1, h2, h3, h4⟩ := hv
  injection he with e1 e2 e3
  subst e1 e2 e3
  have hl : (zs.take j).length = j := by simp; omega
  refine ⟨a, cap, by rw [hl], by omega, h2, h3, ?_⟩
  rcases h4 with rfl | ⟨b, off, rfl, hc⟩
  · left; simp
  · right
    refine ⟨b, off, rfl, fun i hi => ?_⟩
    rw [hl] at hi
    rw [hc i (by omega)]
    simp [List.getD, List.getElem?_take, hi]
theorem load_wanted {P : Program} {ops : Array Oper} {rest : List Oper} {op : Oper} {a : Act} {w : World} {Q : Exit → Act → World → Prop} (ty : TypeId) (x : Operand) (ho : op.op = .load ty x) (hw : Region.wanted op (yielded ops a.tmps) = true)
    (b o : Nat) (hx : a.eval x = .pointer (some ⟨b, o, none⟩)) (cs : List Value) (d : TypeDesc) (hc : w.rangeAt b o cs) (hu : P.underlying ty = some d) (hd : d.isRow = true) (hi : (P.info? ty).map (·.size) = some cs.length)
    (h : wpList P ops Q rest (a.put op.dst (.agg cs.toArray)) w) : wpList P ops Q (op :: rest) a w := wpList_load_want hw ty x ho b o hx cs d hc hu hd hi h
set_option maxHeartbeats 12800000 in
set_option maxRecDepth 100000 in
theorem back_good (nk kb ko kcap : Nat) (key : Nat → Nat) (dv : Value) (dz : List Int) (s : W4) (w : World) (hrc : RC w) (hnk : nk = 4 ∨ nk = 6 ∨ nk = 8) (hkb : kb < w.heap.size) (hkc : ∀ i, i < 4 * nk → w.cell? ⟨kb, ko + i, none⟩ = some (.int .u8 (key i : Nat))) (hkey : ∀ i, key i < 256) (hs : s.ok) (hd : View w dv dz) (hdb : AllBytes dz) :
    Calls Tryd.prog 7 #[.slice (some ⟨kb, ko, none⟩) (4 * nk) kcap, s.blk, dv] w fun e w' => e = .returned (.bool true) ∧ Below w.heap.size w w' := by
  have HP : Hid (0 < w.heap.size) := World.block_lt_of_cell? w _ (hrc 0 (by decide))
  have HS : Hid s.ok := hs
  have HD0 : Hid (View w dv dz ∧ AllBytes dz) := ⟨hd, hdb⟩
  have HKEY : Hid (kb < w.heap.size ∧ (∀ i, i < 4 * nk → w.cell? ⟨kb, ko + i, none⟩ = some (.int .u8 (key i : Nat))) ∧ (∀ i, key i < 256) ∧ (nk = 4 ∨ nk = 6 ∨ nk = 8)) := ⟨hkb, hkc, hkey, hnk⟩
  have HI0 : Hid (Inn w (w.alloc (.cells #[.int .u8 (bt0 s.a : Nat), .int .u8 (bt1 s.a : Nat), .int .u8 (bt2 s.a : Nat), .int .u8 (bt3 s.a : Nat), .int .u8 (bt0 s.b : Nat), .int .u8 (bt1 s.b : Nat), .int .u8 (bt2 s.b : Nat), .int .u8 (bt3 s.b : Nat), .int .u8 (bt0 s.c : Nat), .int .u8 (bt1 s.c : Nat), .int .u8 (bt2 s.c : Nat), .int .u8 (bt3 s.c : Nat), .int .u8 (bt0 s.d : Nat), .int .u8 (bt1 s.d : Nat), .int .u8 (bt2 s.d : Nat), .int .u8 (bt3 s.d : Nat)] 42)) ∧ Kp (w.alloc (.cells #[.int .u8 (bt0 s.a : Nat), .int .u8 (bt1 s.a : Nat), .int .u8 (bt2 s.a : Nat), .int .u8 (bt3 s.a : Nat), .int .u8 (bt0 s.b : Nat), .int .u8 (bt1 s.b : Nat), .int .u8 (bt2 s.b : Nat), .int .u8 (bt3 s.b : Nat), .int .u8 (bt0 s.c : Nat), .int .u8 (bt1 s.c : Nat), .int .u8 (bt2 s.c : Nat), .int .u8 (bt3 s.c : Nat), .int .u8 (bt0 s.d : Nat), .int .u8 (bt1 s.d : Nat), .int .u8 (bt2 s.d : Nat), .int .u8 (bt3 s.d : Nat)] 42)) w.heap.size s.bytes) := by
    refine ⟨(Inn.mk hrc HP.out (Below.refl _ _)).below ((Below.refl _ w).alloc (Nat.le_refl _) _), fun j v hv => ?_, by simp⟩
    rw [World.cell?_alloc_at _ 42 _ _ rfl, Nat.zero_add, List.getElem?_toArray]
    exact hv
  clear hrc hs hd hdb hkb hkc hkey hnk
  obtain ⟨n, HNK⟩ : ∃ n, Hid (n = 4 * nk) := ⟨_, rfl⟩
  rw [← HNK.out]
  show Calls Tryd.prog 7 #[.slice (some ⟨kb, ko, none⟩) n kcap, .agg #[.int .u8 (bt0 s.a : Nat), .int .u8 (bt1 s.a : Nat), .int .u8 (bt2 s.a : Nat), .int .u8 (bt3 s.a : Nat), .int .u8 (bt0 s.b : Nat), .int .u8 (bt1 s.b : Nat), .int .u8 (bt2 s.b : Nat), .int .u8 (bt3 s.b : Nat), .int .u8 (bt0 s.c : Nat), .int .u8 (bt1 s.c : Nat), .int .u8 (bt2 s.c : Nat), .int .u8 (bt3 s.c : Nat), .int .u8 (bt0 s.d : Nat), .int .u8 (bt1 s.d : Nat), .int .u8 (bt2 s.d : Nat), .int .u8 (bt3 s.d : Nat)], dv] w _
  go_enter Tryd.func7, Tryd.ntmps7
  go_wp2_with fail
  generalize w.alloc (.cells #[.int .u8 (bt0 s.a : Nat), .int .u8 (bt1 s.a : Nat), .int .u8 (bt2 s.a : Nat), .int .u8 (bt3 s.a : Nat), .int .u8 (bt0 s.b : Nat), .int .u8 (bt1 s.b : Nat), .int .u8 (bt2 s.b : Nat), .int .u8 (bt3 s.b : Nat), .int .u8 (bt0 s.c : Nat), .int .u8 (bt1 s.c : Nat), .int .u8 (bt2 s.c : Nat), .int .u8 (bt3 s.c : Nat), .int .u8 (bt0 s.d : Nat), .int .u8 (bt1 s.d : Nat), .int .u8 (bt2 s.d : Nat), .int .u8 (bt3 s.d : Nat)] 42) = w0 at HI0 ⊢
  refine (vectors_ok w0 HI0.out.1.rc HI0.out.1.pos).mono ?_
  rintro e0 w1 ⟨rfl, hb1⟩
  have H1 : Hid (Inn w w1 ∧ Kp w1 w.heap.size s.bytes) := ⟨HI0.out.1.below hb1, HI0.out.2.same (hb1.block _ HI0.out.2.here) hb1.size⟩
  clear hb1 HI0
  have KN : Hid (Calls Tryd.prog 9 #[.slice (some ⟨kb, ko, none⟩) n kcap] w1 fun e w' => ∃ g, e = .returned (.tuple #[.pointer (some ⟨g, 0, none⟩), .int .i64 0]) ∧ w1.heap.size ≤ g ∧ KeyAt w' g (nk + 6) (schedK nk key) ∧ Below w1.heap.size w1 w') := by
    obtain ⟨p1, p2, p3, p4⟩ := HKEY.out
    rw [HNK.out]
    exact new_ok kb ko (4 * nk) kcap nk key w1 p4 rfl (Nat.lt_of_lt_of_le p1 H1.out.1.old.size) (fun i hi => (H1.out.1.old.cell p1).trans (p2 i hi)) p3 H1.out.1.rc H1.out.1.pos
  go_wp2_with (first | (go_at_call 9; refine KN.out.mono ?_))
  rintro e2 w2 ⟨g, rfl, hg2, hk2, hb2⟩
  obtain ⟨nr, hnr⟩ : ∃ nr, nr = nk + 6 := ⟨_, rfl⟩
  obtain ⟨K, hK⟩ : ∃ K, K = schedK nk key := ⟨_, rfl⟩
  rw [← hnr, ← hK] at hk2
  have HKS : Hid (∀ i, K i < 4294967296) := by rw [hK]; exact schedK_lt HKEY.out.2.2.1
  obtain ⟨LS, HLS⟩ : ∃ L, Hid (L = s.bytes) := ⟨_, rfl⟩
  rw [← HLS.out] at H1
  have HLl : Hid (LS.length = 16) := by show _ = _; rw [HLS.out]; rfl
  have H2 : Hid (Inn w w2 ∧ KeyAt w2 g nr K ∧ Kp w2 w.heap.size LS ∧ w.heap.size < g) := ⟨H1.out.1.below hb2, hk2, H1.out.2.same (hb2.block _ H1.out.2.here) hb2.size, Nat.lt_of_lt_of_le H1.out.2.here hg2⟩
  clear hg2 hk2 hb2 KN H1 hnr hK HKEY
  obtain ⟨x, HXX⟩ : ∃ x, Hid (x = encW nr K s) := ⟨_, rfl⟩
  obtain ⟨z, HZZ⟩ : ∃ z, Hid (z = dcW nr K s) := ⟨_, rfl⟩
  obtain ⟨LX, HLX⟩ : ∃ L, Hid (L = x.bytes) := ⟨_, rfl⟩
  obtain ⟨LZ, HLZ⟩ : ∃ L, Hid (L = z.bytes) := ⟨_, rfl⟩
  have HXok : Hid x.ok := by show W4.ok _; rw [HXX.out]; exact encW_ok HKS.out _ _
  have HZok : Hid z.ok := by show W4.ok _; rw [HZZ.out]; exact dcW_ok HKS.out _ _
  have HN : Hid (w.heap.size < g) := H2.out.2.2.2
  have HT : Hid (Inn w w2 ∧ KeyAt w2 g nr K ∧ Kp w2 w.heap.size LS) := ⟨H2.out.1, H2.out.2.1, H2.out.2.2.1⟩
  clear H2
  have HLlS : Hid (LS.length = 16) := HLl
  have HLoS : Hid (LS.toArray.all (·.oneCell') = true) := by show _ = _; rw [HLS.out]; kernel_rfl
  have HLlX : Hid (LX.length = 16) := by show _ = _; rw [HLX.out]; rfl
  have HLoX : Hid (LX.toArray.all (·.oneCell') = true) := by show _ = _; rw [HLX.out]; kernel_rfl
  have HLlZ : Hid (LZ.length = 16) := by show _ = _; rw [HLZ.out]; rfl
  have HLoZ : Hid (LZ.toArray.all (·.oneCell') = true) := by show _ = _; rw [HLZ.out]; kernel_rfl
  have KE : Hid (Calls Tryd.prog 21 #[.pointer (some ⟨g, 0, none⟩), .agg LS.toArray] w2 fun e w' => e = .returned (.tuple #[.agg LX.toArray, .int .i64 0]) ∧ KeyAt w' g nr K ∧ Touch w2 w' g 4 1) := by
    rw [HLS.out, HLX.out, HXX.out]
    exact kenc_ok g nr K s _ (HT.out.2.1) HS.out
  go_wp2_with (first
    | (refine wpList_load_mid (by rfl) 42 (.tmp 4) (by rfl) w.heap.size 0 (by rfl) LS _ (HT.out.2.2).at_ Tryd.underlying42 rfl (by rw [HLlS.out]; exact size42) ?_)
    | (go_at_call 21; refine KE.out.mono ?_))
  rintro e w3 ⟨rfl, hk, ht⟩
  have HT3 : Hid (Inn w w3 ∧ KeyAt w3 g nr K ∧ Kp w3 w.heap.size LS) := by
    have ht2 : Touch2 w2 w3 g g := ht.left g
    exact ⟨(HT.out.1).two ht2 (by have := HN.out; omega) (by have := HN.out; omega) HP.out, hk, (HT.out.2.2).same (ht2.block _ (HT.out.2.2).here (by have := HN.out; omega) (by have := HN.out; omega)) ht2.size⟩
  clear hk ht KE HT
  have hTH : ((w3.alloc (.cells #[.int .u8 0, .int .u8 0, .int .u8 0, .int .u8 0, .int .u8 0, .int .u8 0, .int .u8 0, .int .u8 0, .int .u8 0, .int .u8 0, .int .u8 0, .int .u8 0, .int .u8 0, .int .u8 0, .int .u8 0, .int .u8 0] 42)).there w3.heap.size 0 LX.length) := by rw [HLlX.out]; exact there_one16 w3
  go_upto_region 7 with (first
    | (refine wpList_store_mid (by rfl) 42 (.tmp 9) (.tmp 63) (by rfl) w3.heap.size 0 LX.toArray (by rfl) (by rfl) (by simpa using hTH) (by rw [List.size_toArray, HLlX.out]; exact size42) HLoX.out ?_)
    | fail)
  obtain ⟨X, hB⟩ : ∃ B, B = w3.heap.size := ⟨_, rfl⟩
  have hst : Kp ((w3.alloc (.cells #[.int .u8 0, .int .u8 0, .int .u8 0, .int .u8 0, .int .u8 0, .int .u8 0, .int .u8 0, .int .u8 0, .int .u8 0, .int .u8 0, .int .u8 0, .int .u8 0, .int .u8 0, .int .u8 0, .int .u8 0, .int .u8 0] 42)).setCells w3.heap.size 0 LX) w3.heap.size LX := ⟨World.rangeAt_setCells_same _ _ _ _ hTH, by rw [size_setCells]; simp⟩
  have hbl : Below w3.heap.size w3 ((w3.alloc (.cells #[.int .u8 0, .int .u8 0, .int .u8 0, .int .u8 0, .int .u8 0, .int .u8 0, .int .u8 0, .int .u8 0, .int .u8 0, .int .u8 0, .int .u8 0, .int .u8 0, .int .u8 0, .int .u8 0, .int .u8 0, .int .u8 0] 42)).setCells w3.heap.size 0 LX) := below_setCells _ (Nat.le_refl _) _ _ _ ((Below.refl _ w3).alloc (Nat.le_refl _) _)
  generalize (w3.alloc (.cells #[.int .u8 0, .int .u8 0, .int .u8 0, .int .u8 0, .int .u8 0, .int .u8 0, .int .u8 0, .int .u8 0, .int .u8 0, .int .u8 0, .int .u8 0, .int .u8 0, .int .u8 0, .int .u8 0, .int .u8 0, .int .u8 0] 42)).setCells w3.heap.size 0 LX = w4 at hst hbl ⊢
  have HN' : Hid ((w.heap.size < g) ∧ g < X) := ⟨HN.out, by rw [hB]; exact (HT3.out.2.1.ciph.here)⟩
  have HN : Hid (w.heap.size < g ∧ g < X) := by have h := HN'.out; show (w.heap.size < g ∧ g < X); omega
  clear HN'
  rw [← hB] at hst
  have HT4 : Hid (Inn w w4 ∧ KeyAt w4 g nr K ∧ Kp w4 w.heap.size LS ∧ Kp w4 X LX) := by
    have ht2 : Touch2 w3 w4 X X := Below.two hbl X X
    exact ⟨(HT3.out.1).two ht2 (by have := HN.out; omega) (by have := HN.out; omega) HP.out, (HT3.out.2.1).same (ht2.block _ (HT3.out.2.1).ciph.here (by have := HN.out; omega) (by have := HN.out; omega)) ht2.size, (HT3.out.2.2).same (ht2.block _ (HT3.out.2.2).here (by have := HN.out; omega) (by have := HN.out; omega)) ht2.size, hst⟩
  clear hst hbl hTH HT3
  rw [← hB]
  clear hB
  have KE : Hid (Calls Tryd.prog 22 #[.pointer (some ⟨g, 0, none⟩), .agg LX.toArray] w4 fun e w' => e = .returned (.tuple #[.agg LS.toArray, .int .i64 0]) ∧ KeyAt w' g nr K ∧ Touch w4 w' g 4 1) := by
    rw [HLS.out, HLX.out]
    have h := kdec_ok g nr K x _ (HT4.out.2.1) HXok.out
    rw [HXX.out, dec_enc HKS.out nr s HS.out, ← HXX.out] at h
    exact h
  go_wp2_with (first
    | (refine wpList_load_mid (by rfl) 42 (.tmp 9) (by rfl) X 0 (by rfl) LX _ (HT4.out.2.2.2).at_ Tryd.underlying42 rfl (by rw [HLlX.out]; exact size42) ?_)
    | (go_at_call 22; refine KE.out.mono ?_))
  rintro e w5 ⟨rfl, hk, ht⟩
  have HT5 : Hid (Inn w w5 ∧ KeyAt w5 g nr K ∧ Kp w5 w.heap.size LS ∧ Kp w5 X LX) := by
    have ht2 : Touch2 w4 w5 g g := ht.left g
    exact ⟨(HT4.out.1).two ht2 (by have := HN.out; omega) (by have := HN.out; omega) HP.out, hk, (HT4.out.2.2.1).same (ht2.block _ (HT4.out.2.2.1).here (by have := HN.out; omega) (by have := HN.out; omega)) ht2.size, (HT4.out.2.2.2).same (ht2.block _ (HT4.out.2.2.2).here (by have := HN.out; omega) (by have := HN.out; omega)) ht2.size⟩
  clear hk ht KE HT4
  have hTH : ((w5.alloc (.cells #[.int .u8 0, .int .u8 0, .int .u8 0, .int .u8 0, .int .u8 0, .int .u8 0, .int .u8 0, .int .u8 0, .int .u8 0, .int .u8 0, .int .u8 0, .int .u8 0, .int .u8 0, .int .u8 0, .int .u8 0, .int .u8 0] 42)).there w5.heap.size 0 LS.length) := by rw [HLlS.out]; exact there_one16 w5
  go_upto_region 8 with (first
    | (refine wpList_store_mid (by rfl) 42 (.tmp 11) (.tmp 69) (by rfl) w5.heap.size 0 LS.toArray (by rfl) (by rfl) (by simpa using hTH) (by rw [List.size_toArray, HLlS.out]; exact size42) HLoS.out ?_)
    | fail)
  obtain ⟨Y, hB⟩ : ∃ B, B = w5.heap.size := ⟨_, rfl⟩
  have hst : Kp ((w5.alloc (.cells #[.int .u8 0, .int .u8 0, .int .u8 0, .int .u8 0, .int .u8 0, .int .u8 0, .int .u8 0, .int .u8 0, .int .u8 0, .int .u8 0, .int .u8 0, .int .u8 0, .int .u8 0, .int .u8 0, .int .u8 0, .int .u8 0] 42)).setCells w5.heap.size 0 LS) w5.heap.size LS := ⟨World.rangeAt_setCells_same _ _ _ _ hTH, by rw [size_setCells]; simp⟩
  have hbl : Below w5.heap.size w5 ((w5.alloc (.cells #[.int .u8 0, .int .u8 0, .int .u8 0, .int .u8 0, .int .u8 0, .int .u8 0, .int .u8 0, .int .u8 0, .int .u8 0, .int .u8 0, .int .u8 0, .int .u8 0, .int .u8 0, .int .u8 0, .int .u8 0, .int .u8 0] 42)).setCells w5.heap.size 0 LS) := below_setCells _ (Nat.le_refl _) _ _ _ ((Below.refl _ w5).alloc (Nat.le_refl _) _)
  generalize (w5.alloc (.cells #[.int .u8 0, .int .u8 0, .int .u8 0, .int .u8 0, .int .u8 0, .int .u8 0, .int .u8 0, .int .u8 0, .int .u8 0, .int .u8 0, .int .u8 0, .int .u8 0, .int .u8 0, .int .u8 0, .int .u8 0, .int .u8 0] 42)).setCells w5.heap.size 0 LS = w6 at hst hbl ⊢
  have HN' : Hid ((w.heap.size < g ∧ g < X) ∧ X < Y) := ⟨HN.out, by rw [hB]; exact (HT5.out.2.2.2.here)⟩
  have HN : Hid (w.heap.size < g ∧ g < X ∧ X < Y) := by have h := HN'.out; show (w.heap.size < g ∧ g < X ∧ X < Y); omega
  clear HN'
  rw [← hB] at hst
  have HT6 : Hid (Inn w w6 ∧ KeyAt w6 g nr K ∧ Kp w6 w.heap.size LS ∧ Kp w6 X LX ∧ Kp w6 Y LS) := by
    have ht2 : Touch2 w5 w6 Y Y := Below.two hbl Y Y
    exact ⟨(HT5.out.1).two ht2 (by have := HN.out; omega) (by have := HN.out; omega) HP.out, (HT5.out.2.1).same (ht2.block _ (HT5.out.2.1).ciph.here (by have := HN.out; omega) (by have := HN.out; omega)) ht2.size, (HT5.out.2.2.1).same (ht2.block _ (HT5.out.2.2.1).here (by have := HN.out; omega) (by have := HN.out; omega)) ht2.size, (HT5.out.2.2.2).same (ht2.block _ (HT5.out.2.2.2).here (by have := HN.out; omega) (by have := HN.out; omega)) ht2.size, hst⟩
  clear hst hbl hTH HT5
  rw [← hB]
  clear hB
  have KE : Hid (Calls Tryd.prog 22 #[.pointer (some ⟨g, 0, none⟩), .agg LS.toArray] w6 fun e w' => e = .returned (.tuple #[.agg LZ.toArray, .int .i64 0]) ∧ KeyAt w' g nr K ∧ Touch w6 w' g 4 1) := by
    rw [HLS.out, HLZ.out, HZZ.out]
    exact kdec_ok g nr K s _ (HT6.out.2.1) HS.out
  go_wp2_with (first
    | (refine wpList_load_mid (by rfl) 42 (.tmp 4) (by rfl) w.heap.size 0 (by rfl) LS _ (HT6.out.2.2.1).at_ Tryd.underlying42 rfl (by rw [HLlS.out]; exact size42) ?_)
    | (go_at_call 22; refine KE.out.mono ?_))
  rintro e w7 ⟨rfl, hk, ht⟩
  have HT7 : Hid (Inn w w7 ∧ KeyAt w7 g nr K ∧ Kp w7 w.heap.size LS ∧ Kp w7 X LX ∧ Kp w7 Y LS) := by
    have ht2 : Touch2 w6 w7 g g := ht.left g
    exact ⟨(HT6.out.1).two ht2 (by have := HN.out; omega) (by have := HN.out; omega) HP.out, hk, (HT6.out.2.2.1).same (ht2.block _ (HT6.out.2.2.1).here (by have := HN.out; omega) (by have := HN.out; omega)) ht2.size, (HT6.out.2.2.2.1).same (ht2.block _ (HT6.out.2.2.2.1).here (by have := HN.out; omega) (by have := HN.out; omega)) ht2.size, (HT6.out.2.2.2.2).same (ht2.block _ (HT6.out.2.2.2.2).here (by have := HN.out; omega) (by have := HN.out; omega)) ht2.size⟩
  clear hk ht KE HT6
  have hTH : ((w7.alloc (.cells #[.int .u8 0, .int .u8 0, .int .u8 0, .int .u8 0, .int .u8 0, .int .u8 0, .int .u8 0, .int .u8 0, .int .u8 0, .int .u8 0, .int .u8 0, .int .u8 0, .int .u8 0, .int .u8 0, .int .u8 0, .int .u8 0] 42)).there w7.heap.size 0 LZ.length) := by rw [HLlZ.out]; exact there_one16 w7
  go_upto_region 9 with (first
    | (refine wpList_store_mid (by rfl) 42 (.tmp 13) (.tmp 75) (by rfl) w7.heap.size 0 LZ.toArray (by rfl) (by rfl) (by simpa using hTH) (by rw [List.size_toArray, HLlZ.out]; exact size42) HLoZ.out ?_)
    | fail)
  obtain ⟨Z, hB⟩ : ∃ B, B = w7.heap.size := ⟨_, rfl⟩
  have hst : Kp ((w7.alloc (.cells #[.int .u8 0, .int .u8 0, .int .u8 0, .int .u8 0, .int .u8 0, .int .u8 0, .int .u8 0, .int .u8 0, .int .u8 0, .int .u8 0, .int .u8 0, .int .u8 0, .int .u8 0, .int .u8 0, .int .u8 0, .int .u8 0] 42)).setCells w7.heap.size 0 LZ) w7.heap.size LZ := ⟨World.rangeAt_setCells_same _ _ _ _ hTH, by rw [size_setCells]; simp⟩
  have hbl : Below w7.heap.size w7 ((w7.alloc (.cells #[.int .u8 0, .int .u8 0, .int .u8 0, .int .u8 0, .int .u8 0, .int .u8 0, .int .u8 0, .int .u8 0, .int .u8 0, .int .u8 0, .int .u8 0, .int .u8 0, .int .u8 0, .int .u8 0, .int .u8 0, .int .u8 0] 42)).setCells w7.heap.size 0 LZ) := below_setCells _ (Nat.le_refl _) _ _ _ ((Below.refl _ w7).alloc (Nat.le_refl _) _)
  generalize (w7.alloc (.cells #[.int .u8 0, .int .u8 0, .int .u8 0, .int .u8 0, .int .u8 0, .int .u8 0, .int .u8 0, .int .u8 0, .int .u8 0, .int .u8 0, .int .u8 0, .int .u8 0, .int .u8 0, .int .u8 0, .int .u8 0, .int .u8 0] 42)).setCells w7.heap.size 0 LZ = w8 at hst hbl ⊢
  have HN' : Hid ((w.heap.size < g ∧ g < X ∧ X < Y) ∧ Y < Z) := ⟨HN.out, by rw [hB]; exact (HT7.out.2.2.2.2.here)⟩
  have HN : Hid (w.heap.size < g ∧ g < X ∧ X < Y ∧ Y < Z) := by have h := HN'.out; show (w.heap.size < g ∧ g < X ∧ X < Y ∧ Y < Z); omega
  clear HN'
  rw [← hB] at hst
  have HT8 : Hid (Inn w w8 ∧ KeyAt w8 g nr K ∧ Kp w8 w.heap.size LS ∧ Kp w8 X LX ∧ Kp w8 Y LS ∧ Kp w8 Z LZ) := by
    have ht2 : Touch2 w7 w8 Z Z := Below.two hbl Z Z
    exact ⟨(HT7.out.1).two ht2 (by have := HN.out; omega) (by have := HN.out; omega) HP.out, (HT7.out.2.1).same (ht2.block _ (HT7.out.2.1).ciph.here (by have := HN.out; omega) (by have := HN.out; omega)) ht2.size, (HT7.out.2.2.1).same (ht2.block _ (HT7.out.2.2.1).here (by have := HN.out; omega) (by have := HN.out; omega)) ht2.size, (HT7.out.2.2.2.1).same (ht2.block _ (HT7.out.2.2.2.1).here (by have := HN.out; omega) (by have := HN.out; omega)) ht2.size, (HT7.out.2.2.2.2).same (ht2.block _ (HT7.out.2.2.2.2).here (by have := HN.out; omega) (by have := HN.out; omega)) ht2.size, hst⟩
  clear hst hbl hTH HT7
  rw [← hB]
  clear hB
  have KE : Hid (Calls Tryd.prog 21 #[.pointer (some ⟨g, 0, none⟩), .agg LZ.toArray] w8 fun e w' => e = .returned (.tuple #[.agg LS.toArray, .int .i64 0]) ∧ KeyAt w' g nr K ∧ Touch w8 w' g 4 1) := by
    rw [HLS.out, HLZ.out]
    have h := kenc_ok g nr K z _ (HT8.out.2.1) HZok.out
    rw [HZZ.out, enc_dec HKS.out nr s HS.out, ← HZZ.out] at h
    exact h
  go_wp2_with (first
    | (refine wpList_load_mid (by rfl) 42 (.tmp 13) (by rfl) Z 0 (by rfl) LZ _ (HT8.out.2.2.2.2.2).at_ Tryd.underlying42 rfl (by rw [HLlZ.out]; exact size42) ?_)
    | (go_at_call 21; refine KE.out.mono ?_))
  rintro e w9 ⟨rfl, hk, ht⟩
  have HT9 : Hid (Inn w w9 ∧ KeyAt w9 g nr K ∧ Kp w9 w.heap.size LS ∧ Kp w9 X LX ∧ Kp w9 Y LS ∧ Kp w9 Z LZ) := by
    have ht2 : Touch2 w8 w9 g g := ht.left g
    exact ⟨(HT8.out.1).two ht2 (by have := HN.out; omega) (by have := HN.out; omega) HP.out, hk, (HT8.out.2.2.1).same (ht2.block _ (HT8.out.2.2.1).here (by have := HN.out; omega) (by have := HN.out; omega)) ht2.size, (HT8.out.2.2.2.1).same (ht2.block _ (HT8.out.2.2.2.1).here (by have := HN.out; omega) (by have := HN.out; omega)) ht2.size, (HT8.out.2.2.2.2.1).same (ht2.block _ (HT8.out.2.2.2.2.1).here (by have := HN.out; omega) (by have := HN.out; omega)) ht2.size, (HT8.out.2.2.2.2.2).same (ht2.block _ (HT8.out.2.2.2.2.2).here (by have := HN.out; omega) (by have := HN.out; omega)) ht2.size⟩
  clear hk ht KE HT8
  have hTH : ((w9.alloc (.cells #[.int .u8 0, .int .u8 0, .int .u8 0, .int .u8 0, .int .u8 0, .int .u8 0, .int .u8 0, .int .u8 0, .int .u8 0, .int .u8 0, .int .u8 0, .int .u8 0, .int .u8 0, .int .u8 0, .int .u8 0, .int .u8 0] 42)).there w9.heap.size 0 LS.length) := by rw [HLlS.out]; exact there_one16 w9
  go_upto_region 10 with (first
    | (refine wpList_store_mid (by rfl) 42 (.tmp 15) (.tmp 81) (by rfl) w9.heap.size 0 LS.toArray (by rfl) (by rfl) (by simpa using hTH) (by rw [List.size_toArray, HLlS.out]; exact size42) HLoS.out ?_)
    | fail)
  obtain ⟨V, hB⟩ : ∃ B, B = w9.heap.size := ⟨_, rfl⟩
  have hst : Kp ((w9.alloc (.cells #[.int .u8 0, .int .u8 0, .int .u8 0, .int .u8 0, .int .u8 0, .int .u8 0, .int .u8 0, .int .u8 0, .int .u8 0, .int .u8 0, .int .u8 0, .int .u8 0, .int .u8 0, .int .u8 0, .int .u8 0, .int .u8 0] 42)).setCells w9.heap.size 0 LS) w9.heap.size LS := ⟨World.rangeAt_setCells_same _ _ _ _ hTH, by rw [size_setCells]; simp⟩
  have hbl : Below w9.heap.size w9 ((w9.alloc (.cells #[.int .u8 0, .int .u8 0, .int .u8 0, .int .u8 0, .int .u8 0, .int .u8 0, .int .u8 0, .int .u8 0, .int .u8 0, .int .u8 0, .int .u8 0, .int .u8 0, .int .u8 0, .int .u8 0, .int .u8 0, .int .u8 0] 42)).setCells w9.heap.size 0 LS) := below_setCells _ (Nat.le_refl _) _ _ _ ((Below.refl _ w9).alloc (Nat.le_refl _) _)
  generalize (w9.alloc (.cells #[.int .u8 0, .int .u8 0, .int .u8 0, .int .u8 0, .int .u8 0, .int .u8 0, .int .u8 0, .int .u8 0, .int .u8 0, .int .u8 0, .int .u8 0, .int .u8 0, .int .u8 0, .int .u8 0, .int .u8 0, .int .u8 0] 42)).setCells w9.heap.size 0 LS = w10 at hst hbl ⊢
  have HN' : Hid ((w.heap.size < g ∧ g < X ∧ X < Y ∧ Y < Z) ∧ Z < V) := ⟨HN.out, by rw [hB]; exact (HT9.out.2.2.2.2.2.here)⟩
  have HN : Hid (w.heap.size < g ∧ g < X ∧ X < Y ∧ Y < Z ∧ Z < V) := by have h := HN'.out; show (w.heap.size < g ∧ g < X ∧ X < Y ∧ Y < Z ∧ Z < V); omega
  clear HN'
  rw [← hB] at hst
  have HT10 : Hid (Inn w w10 ∧ KeyAt w10 g nr K ∧ Kp w10 w.heap.size LS ∧ Kp w10 X LX ∧ Kp w10 Y LS ∧ Kp w10 Z LZ ∧ Kp w10 V LS) := by
    have ht2 : Touch2 w9 w10 V V := Below.two hbl V V
    exact ⟨(HT9.out.1).two ht2 (by have := HN.out; omega) (by have := HN.out; omega) HP.out, (HT9.out.2.1).same (ht2.block _ (HT9.out.2.1).ciph.here (by have := HN.out; omega) (by have := HN.out; omega)) ht2.size, (HT9.out.2.2.1).same (ht2.block _ (HT9.out.2.2.1).here (by have := HN.out; omega) (by have := HN.out; omega)) ht2.size, (HT9.out.2.2.2.1).same (ht2.block _ (HT9.out.2.2.2.1).here (by have := HN.out; omega) (by have := HN.out; omega)) ht2.size, (HT9.out.2.2.2.2.1).same (ht2.block _ (HT9.out.2.2.2.2.1).here (by have := HN.out; omega) (by have := HN.out; omega)) ht2.size, (HT9.out.2.2.2.2.2).same (ht2.block _ (HT9.out.2.2.2.2.2).here (by have := HN.out; omega) (by have := HN.out; omega)) ht2.size, hst⟩
  clear hst hbl hTH HT9
  rw [← hB]
  clear hB
  have hbin : ∀ u, (binOp .neq 42 (.agg LS.toArray) (.agg LS.toArray)).run Tryd.prog u = .ok (.bool false) u := fun u => by
    have hqu : (Op.equalIn 10000 42 (.agg LS.toArray) (.agg LS.toArray)).run Tryd.prog u = .ok true u := by rw [HLS.out]; exact eq_bytes s u
    go_simp
  go_upto_region 10 with fail
  go_cut [90] from 83 to 90 (fun b wx => b = .bool false ∧ wx = w10)
  case first =>
    go_wp2_with (first
      | (refine wpList_load_mid (by rfl) 42 (.tmp 11) (by rfl) Y 0 (by rfl) LS _ (HT10.out.2.2.2.2.1).at_ Tryd.underlying42 rfl (by rw [HLlS.out]; exact size42) ?_)
      | (refine wpList_load_mid (by rfl) 42 (.tmp 4) (by rfl) w.heap.size 0 (by rfl) LS _ (HT10.out.2.2.1).at_ Tryd.underlying42 rfl (by rw [HLlS.out]; exact size42) ?_)
      | (refine load_wanted 42 (.tmp 15) (by rfl) (by simp [Region.wanted, yielded, Act.put]) V 0 (by rfl) LS _ (HT10.out.2.2.2.2.2.2).at_ Tryd.underlying42 rfl (by rw [HLlS.out]; exact size42) ?_)
      | (refine load_wanted 42 (.tmp 4) (by rfl) (by simp [Region.wanted, yielded, Act.put]) w.heap.size 0 (by rfl) LS _ (HT10.out.2.2.1).at_ Tryd.underlying42 rfl (by rw [HLlS.out]; exact size42) ?_))
    go_meet
    exact ⟨rfl, rfl⟩
  case rest =>
  obtain ⟨rfl, hwc⟩ := hcut
  have hwc' := hwc.symm
  subst hwc'
  clear hbin
  have HVV : Hid (V < w10.heap.size) := (HT10.out.2.2.2.2.2.2).here
  have HT11 : Hid (Inn w w10 ∧ KeyAt w10 g nr K ∧ Kp w10 w.heap.size LS ∧ Kp w10 X LX ∧ Kp w10 Z LZ ∧ Kp w10 V LS) := ⟨HT10.out.1, HT10.out.2.1, HT10.out.2.2.1, HT10.out.2.2.2.1, HT10.out.2.2.2.2.2.1, HT10.out.2.2.2.2.2.2⟩
  clear HT10
  have HT12 : Hid (Inn w w10 ∧ KeyAt w10 g nr K ∧ Kp w10 w.heap.size LS ∧ Kp w10 X LX ∧ Kp w10 V LS) := ⟨HT11.out.1, HT11.out.2.1, HT11.out.2.2.1, HT11.out.2.2.2.1, HT11.out.2.2.2.2.2⟩
  clear HT11
  have HT13 : Hid (Inn w w10 ∧ KeyAt w10 g nr K ∧ Kp w10 w.heap.size LS ∧ Kp w10 X LX) := ⟨HT12.out.1, HT12.out.2.1, HT12.out.2.2.1, HT12.out.2.2.2.1⟩
  clear HT12
  obtain ⟨da, dc, hdv, hd1, hd2, hd3, hd4⟩ := HD0.out.1
  obtain ⟨m0, HM0⟩ : ∃ m, Hid (m = dz.length) := ⟨_, rfl⟩
  rw [← HM0.out] at hdv hd1
  subst hdv
  have hdi : ((m0 : Nat) : Int) ≤ (dc : Nat) := by omega
  have hdm : ((dc : Nat) : Int) ≤ 9223372036854775807 := by unfold maxLen at hd2; omega
  go_upto_if 93 with fail
  go_cut [2] from 91 to 95 (fun D wx => (∃ zs : List Int, View w D zs ∧ AllBytes zs ∧ zs.length ≤ 4096) ∧ wx = w10)
  case first =>
    by_cases h4 : m0 ≤ 4096
    · have h4i : ((m0 : Nat) : Int) ≤ 4096 := by omega
      go_wp2
      go_meet
      exact ⟨⟨dz, HD0.out.1, HD0.out.2, by have := HM0.out; omega⟩, rfl⟩
    · have h4i : ¬ ((m0 : Nat) : Int) ≤ 4096 := by omega
      go_wp2
      go_meet
      refine ⟨⟨dz.take 4096, view_head HD0.out.1 4096 (by omega), fun i => ?_, by simp; omega⟩, rfl⟩
      by_cases hi : i < 4096
      · have e : (dz.take 4096).getD i 0 = dz.getD i 0 := by simp [List.getD, List.getElem?_take, hi]
        rw [e]; exact HD0.out.2 i
      · have e : (dz.take 4096).getD i 0 = 0 := by rw [List.getD_eq_getElem?_getD, List.getElem?_eq_none (by simp; omega)]; rfl
        rw [e]; decide
  case rest =>
  obtain ⟨⟨zs, hz1, hz2, hz3⟩, hwc⟩ := hcut
  have hwc' := hwc.symm
  subst hwc'
  have HZ : Hid (View w u2 zs ∧ AllBytes zs ∧ zs.length ≤ 4096) := ⟨hz1, hz2, hz3⟩
  have HF : Hid (∀ x, u2.ownBlock = some x → zs ≠ [] → x < w.heap.size) := fun x hx h0 => by
    obtain ⟨a, c, e1, q1, q2, q3, q4⟩ := hz1
    rcases q4 with q4 | ⟨b, off, e2, hc⟩
    · exact absurd q4 h0
    · rw [e1, e2] at hx
      cases hx
      exact World.block_lt_of_cell? w _ (hc 0 (List.length_pos_iff.2 h0))
  clear hz1 hz2 hz3 HD0 hd1 hd2 hd3 hd4 HM0 hdi hdm
  have HW : Hid (V < w10.heap.size) := HVV
  have KT : Hid (Calls Tryd.prog 28 #[.pointer (some ⟨g, 0, none⟩), .agg LS.toArray] w10 fun e w' => Hid (∃ t, e = .returned (.tuple #[.pointer (some ⟨t, 0, none⟩), .int .i64 0]) ∧ w10.heap.size ≤ t ∧ StreamAt w' t g s 0 ∧ KeyAt w' g nr K ∧ Touch w10 w' g 4 1)) := by rw [HLS.out]; exact stream_ok g nr K s w10 (HT13.out.2.1) HS.out
  go_wp2_with (first
    | (refine wpList_load_mid (by rfl) 42 (.tmp 4) (by rfl) w.heap.size 0 (by rfl) LS _ (HT13.out.2.2.1).at_ Tryd.underlying42 rfl (by rw [HLlS.out]; exact size42) ?_)
    | (go_at_call 28; refine KT.out.mono ?_))
  intro e w11 hh
  obtain ⟨t1, rfl, hgt, hst, hk, ht⟩ := hh.out
  have HN' : Hid ((w.heap.size < g ∧ g < X ∧ X < Y ∧ Y < Z ∧ Z < V) ∧ V < t1) := ⟨HN.out, Nat.lt_of_lt_of_le HW.out hgt⟩
  have HN : Hid (w.heap.size < g ∧ g < X ∧ X < Y ∧ Y < Z ∧ Z < V ∧ V < t1) := by have h := HN'.out; show (w.heap.size < g ∧ g < X ∧ X < Y ∧ Y < Z ∧ Z < V ∧ V < t1); omega
  clear HN'
  have HT14 : Hid (Inn w w11 ∧ KeyAt w11 g nr K ∧ Kp w11 w.heap.size LS ∧ Kp w11 X LX ∧ StreamAt w11 t1 g s 0) := by
    have ht2 : Touch2 w10 w11 g g := ht.left g
    exact ⟨(HT13.out.1).two ht2 (by have := HN.out; omega) (by have := HN.out; omega) HP.out, hk, (HT13.out.2.2.1).same (ht2.block _ (HT13.out.2.2.1).here (by have := HN.out; omega) (by have := HN.out; omega)) ht2.size, (HT13.out.2.2.2).same (ht2.block _ (HT13.out.2.2.2).here (by have := HN.out; omega) (by have := HN.out; omega)) ht2.size, hst⟩
  clear hgt hst hk ht KT hh HT13
  have KT : Hid (Calls Tryd.prog 28 #[.pointer (some ⟨g, 0, none⟩), .agg LS.toArray] w11 fun e w' => Hid (∃ t, e = .returned (.tuple #[.pointer (some ⟨t, 0, none⟩), .int .i64 0]) ∧ w11.heap.size ≤ t ∧ StreamAt w' t g s 0 ∧ KeyAt w' g nr K ∧ Touch w11 w' g 4 1)) := by rw [HLS.out]; exact stream_ok g nr K s w11 (HT14.out.2.1) HS.out
  go_wp2_with (first
    | (refine wpList_load_mid (by rfl) 42 (.tmp 4) (by rfl) w.heap.size 0 (by rfl) LS _ (HT14.out.2.2.1).at_ Tryd.underlying42 rfl (by rw [HLlS.out]; exact size42) ?_)
    | (go_at_call 28; refine KT.out.mono ?_))
  intro e w12 hh
  obtain ⟨t2, rfl, hgt, hst, hk, ht⟩ := hh.out
  have HN' : Hid ((w.heap.size < g ∧ g < X ∧ X < Y ∧ Y < Z ∧ Z < V ∧ V < t1) ∧ t1 < t2) := ⟨HN.out, Nat.lt_of_lt_of_le (HT14.out.2.2.2.2).here hgt⟩
  have HN : Hid (w.heap.size < g ∧ g < X ∧ X < Y ∧ Y < Z ∧ Z < V ∧ V < t1 ∧ t1 < t2) := by have h := HN'.out; show (w.heap.size < g ∧ g < X ∧ X < Y ∧ Y < Z ∧ Z < V ∧ V < t1 ∧ t1 < t2); omega
  clear HN'
  have HT15 : Hid (Inn w w12 ∧ KeyAt w12 g nr K ∧ Kp w12 w.heap.size LS ∧ Kp w12 X LX ∧ StreamAt w12 t1 g s 0 ∧ StreamAt w12 t2 g s 0) := by
    have ht2 : Touch2 w11 w12 g g := ht.left g
    exact ⟨(HT14.out.1).two ht2 (by have := HN.out; omega) (by have := HN.out; omega) HP.out, hk, (HT14.out.2.2.1).same (ht2.block _ (HT14.out.2.2.1).here (by have := HN.out; omega) (by have := HN.out; omega)) ht2.size, (HT14.out.2.2.2.1).same (ht2.block _ (HT14.out.2.2.2.1).here (by have := HN.out; omega) (by have := HN.out; omega)) ht2.size, (HT14.out.2.2.2.2).same (ht2.block _ (HT14.out.2.2.2.2).here (by have := HN.out; omega) (by have := HN.out; omega)) ht2.size, hst⟩
  clear hgt hst hk ht KT hh HT14
  have KT : Hid (Calls Tryd.prog 28 #[.pointer (some ⟨g, 0, none⟩), .agg LX.toArray] w12 fun e w' => Hid (∃ t, e = .returned (.tuple #[.pointer (some ⟨t, 0, none⟩), .int .i64 0]) ∧ w12.heap.size ≤ t ∧ StreamAt w' t g x 0 ∧ KeyAt w' g nr K ∧ Touch w12 w' g 4 1)) := by rw [HLX.out]; exact stream_ok g nr K x w12 (HT15.out.2.1) HXok.out
  go_wp2_with (first
    | (refine wpList_load_mid (by rfl) 42 (.tmp 9) (by rfl) X 0 (by rfl) LX _ (HT15.out.2.2.2.1).at_ Tryd.underlying42 rfl (by rw [HLlX.out]; exact size42) ?_)
    | (go_at_call 28; refine KT.out.mono ?_))
  intro e w13 hh
  obtain ⟨t3, rfl, hgt, hst, hk, ht⟩ := hh.out
  have HN' : Hid ((w.heap.size < g ∧ g < X ∧ X < Y ∧ Y < Z ∧ Z < V ∧ V < t1 ∧ t1 < t2) ∧ t2 < t3) := ⟨HN.out, Nat.lt_of_lt_of_le (HT15.out.2.2.2.2.2).here hgt⟩
  have HN : Hid (w.heap.size < g ∧ g < X ∧ X < Y ∧ Y < Z ∧ Z < V ∧ V < t1 ∧ t1 < t2 ∧ t2 < t3) := by have h := HN'.out; show (w.heap.size < g ∧ g < X ∧ X < Y ∧ Y < Z ∧ Z < V ∧ V < t1 ∧ t1 < t2 ∧ t2 < t3); omega
  clear HN'
  have HT16 : Hid (Inn w w13 ∧ KeyAt w13 g nr K ∧ Kp w13 w.heap.size LS ∧ Kp w13 X LX ∧ StreamAt w13 t1 g s 0 ∧ StreamAt w13 t2 g s 0 ∧ StreamAt w13 t3 g x 0) := by
    have ht2 : Touch2 w12 w13 g g := ht.left g
    exact ⟨(HT15.out.1).two ht2 (by have := HN.out; omega) (by have := HN.out; omega) HP.out, hk, (HT15.out.2.2.1).same (ht2.block _ (HT15.out.2.2.1).here (by have := HN.out; omega) (by have := HN.out; omega)) ht2.size, (HT15.out.2.2.2.1).same (ht2.block _ (HT15.out.2.2.2.1).here (by have := HN.out; omega) (by have := HN.out; omega)) ht2.size, (HT15.out.2.2.2.2.1).same (ht2.block _ (HT15.out.2.2.2.2.1).here (by have := HN.out; omega) (by have := HN.out; omega)) ht2.size, (HT15.out.2.2.2.2.2).same (ht2.block _ (HT15.out.2.2.2.2.2).here (by have := HN.out; omega) (by have := HN.out; omega)) ht2.size, hst⟩
  clear hgt hst hk ht KT hh HT15
  have HT17 : Hid (Inn w w13 ∧ KeyAt w13 g nr K ∧ Kp w13 X LX ∧ StreamAt w13 t1 g s 0 ∧ StreamAt w13 t2 g s 0 ∧ StreamAt w13 t3 g x 0) := ⟨HT16.out.1, HT16.out.2.1, HT16.out.2.2.2.1, HT16.out.2.2.2.2.1, HT16.out.2.2.2.2.2.1, HT16.out.2.2.2.2.2.2⟩
  clear HT16
  have HT18 : Hid (Inn w w13 ∧ KeyAt w13 g nr K ∧ StreamAt w13 t1 g s 0 ∧ StreamAt w13 t2 g s 0 ∧ StreamAt w13 t3 g x 0) := ⟨HT17.out.1, HT17.out.2.1, HT17.out.2.2.2.1, HT17.out.2.2.2.2.1, HT17.out.2.2.2.2.2⟩
  clear HT17
  obtain ⟨a2, c2, hu2, hq1, hq2, hq3, hq4⟩ := HZ.out.1
  obtain ⟨m, HM⟩ : ∃ m, Hid (m = zs.length) := ⟨_, rfl⟩
  rw [← HM.out] at hu2 hq1
  subst hu2
  have hm4 : m ≤ 4096 := by have := HM.out; have := HZ.out.2.2; omega
  have hc63 : ((c2 : Nat) : Int) ≤ 9223372036854775807 := by unfold maxLen at hq2; omega
  obtain ⟨CL, HCL⟩ : ∃ L, Hid (L = xorL nr K s 0 (nat8 zs) zs.length) := ⟨_, rfl⟩
  have HCLl : Hid (CL.length = zs.length) := by show _ = _; rw [HCL.out, xorL_length]
  have HCLb : Hid (AllBytes CL) := by show AllBytes _; rw [HCL.out]; exact xorL_bytes _ _ _ _ _ (nat8_lt HZ.out.2.1)
  have KX : Hid (Calls Tryd.prog 29 #[.pointer (some ⟨t1, 0, none⟩), .slice a2 m c2] w13 fun e w' => Hid (∃ v, e = .returned (.tuple #[v, .int .i64 0]) ∧ w'.ownsRow w13.heap.size 5 1 v m (cellsU8 CL) ∧ KeyAt w' g nr K ∧ StreamAt w' t1 g s m ∧ Touch2 w13 w' g t1)) := by
    have hV := (HZ.out.1.kept (HT18.out.1).old.block)
    have h := xor_any t1 g 0 nr K s _ _ w13 (HT18.out.2.1) (HT18.out.2.2.1) (by have := HN.out; omega) hV HZ.out.2.1 (by rw [← HM.out]; omega) (by rw [← HM.out]; omega) (fun x hx h0 => by have h1 := HF.out x hx h0; have := HN.out; omega)
    rw [Nat.zero_add, ← HM.out] at h
    rw [HM.out, ← HCL.out, ← HM.out] at h
    exact h
  go_wp2_with (first | (go_at_call 29; refine KX.out.mono ?_))
  intro e w14 hh
  obtain ⟨v1, rfl, hown, hk, hst, ht⟩ := hh.out
  obtain ⟨lo1, hlo⟩ : ∃ l, l = w13.heap.size := ⟨_, rfl⟩
  rw [← hlo] at hown
  have HN' : Hid ((w.heap.size < g ∧ g < X ∧ X < Y ∧ Y < Z ∧ Z < V ∧ V < t1 ∧ t1 < t2 ∧ t2 < t3) ∧ t3 < lo1) := ⟨HN.out, by rw [hlo]; exact (HT18.out.2.2.2.2).here⟩
  have HN : Hid (w.heap.size < g ∧ g < X ∧ X < Y ∧ Y < Z ∧ Z < V ∧ V < t1 ∧ t1 < t2 ∧ t2 < t3 ∧ t3 < lo1) := by have h := HN'.out; show (w.heap.size < g ∧ g < X ∧ X < Y ∧ Y < Z ∧ Z < V ∧ V < t1 ∧ t1 < t2 ∧ t2 < t3 ∧ t3 < lo1); omega
  clear HN'
  have HT19 : Hid (Inn w w14 ∧ KeyAt w14 g nr K ∧ StreamAt w14 t1 g s m ∧ StreamAt w14 t2 g s 0 ∧ StreamAt w14 t3 g x 0 ∧ w14.ownsRow lo1 5 1 v1 m (cellsU8 CL)) := by
    have ht2 : Touch2 w13 w14 g t1 := ht
    exact ⟨(HT18.out.1).two ht2 (by have := HN.out; omega) (by have := HN.out; omega) HP.out, hk, hst, (HT18.out.2.2.2.1).same (ht2.block _ (HT18.out.2.2.2.1).here (by have := HN.out; omega) (by have := HN.out; omega)) ht2.size, (HT18.out.2.2.2.2).same (ht2.block _ (HT18.out.2.2.2.2).here (by have := HN.out; omega) (by have := HN.out; omega)) ht2.size, hown⟩
  clear hown hk hst ht KX hh HT18
  clear hlo
  have KX : Hid (Calls Tryd.prog 29 #[.pointer (some ⟨t3, 0, none⟩), .slice a2 m c2] w14 fun e w' => Hid (∃ v, e = .returned (.tuple #[v, .int .i64 0]) ∧ w'.ownsRow w14.heap.size 5 1 v m (cellsU8 (xorL nr K x 0 (nat8 zs) zs.length)) ∧ KeyAt w' g nr K ∧ StreamAt w' t3 g x m ∧ Touch2 w14 w' g t3)) := by
    have hV := (HZ.out.1.kept (HT19.out.1).old.block)
    have h := xor_any t3 g 0 nr K x _ _ w14 (HT19.out.2.1) (HT19.out.2.2.2.2.1) (by have := HN.out; omega) hV HZ.out.2.1 (by rw [← HM.out]; omega) (by rw [← HM.out]; omega) (fun x hx h0 => by have h1 := HF.out x hx h0; have := HN.out; omega)
    rw [Nat.zero_add, ← HM.out] at h
    rw [HM.out] at h ⊢
    exact h
  go_wp2_with (first | (go_at_call 29; refine KX.out.mono ?_))
  intro e w15 hh
  obtain ⟨v0, rfl, hown, hk, hst, ht⟩ := hh.out
  have HT20 : Hid (Inn w w15 ∧ KeyAt w15 g nr K ∧ StreamAt w15 t1 g s m ∧ StreamAt w15 t2 g s 0 ∧ StreamAt w15 t3 g x m ∧ w15.ownsRow lo1 5 1 v1 m (cellsU8 CL)) := by
    have ht2 : Touch2 w14 w15 g t3 := ht
    exact ⟨(HT19.out.1).two ht2 (by have := HN.out; omega) (by have := HN.out; omega) HP.out, hk, (HT19.out.2.2.1).same (ht2.block _ (HT19.out.2.2.1).here (by have := HN.out; omega) (by have := HN.out; omega)) ht2.size, (HT19.out.2.2.2.1).same (ht2.block _ (HT19.out.2.2.2.1).here (by have := HN.out; omega) (by have := HN.out; omega)) ht2.size, hst, ownsRow_same (HT19.out.2.2.2.2.2) (fun q hq => ht2.block q ((HT19.out.2.2.2.2.2).lt q hq).2 (by have h1 := ((HT19.out.2.2.2.2.2).lt q hq).1; have := HN.out; omega) (by have h1 := ((HT19.out.2.2.2.2.2).lt q hq).1; have := HN.out; omega))⟩
  clear hown hk hst ht KX hh HT19
  have KX : Hid (Calls Tryd.prog 29 #[.pointer (some ⟨t2, 0, none⟩), v1] w15 fun e w' => Hid (∃ v, e = .returned (.tuple #[v, .int .i64 0]) ∧ w'.ownsRow w15.heap.size 5 1 v m (cellsU8 zs) ∧ KeyAt w' g nr K ∧ StreamAt w' t2 g s m ∧ Touch2 w15 w' g t2)) := by
    have hV := view_owns (HT20.out.2.2.2.2.2) (by rw [HCLl.out, HM.out])
    have h := xor_any t2 g 0 nr K s _ _ w15 (HT20.out.2.1) (HT20.out.2.2.2.1) (by have := HN.out; omega) hV HCLb.out (by rw [show CL.length = m by rw [HCLl.out, HM.out]]; omega) (by rw [show CL.length = m by rw [HCLl.out, HM.out]]; omega) (fun x hx h0 => by have h1 := ((HT20.out.2.2.2.2.2).lt x hx).1; have := HN.out; omega)
    rw [Nat.zero_add, show CL.length = m by rw [HCLl.out, HM.out]] at h
    rw [show xorL nr K s 0 (nat8 CL) m = zs by rw [HCL.out, HM.out]; exact xorL_back nr K s 0 HZ.out.2.1] at h
    exact h
  go_wp2_with (first | (go_at_call 29; refine KX.out.mono ?_))
  intro e w16 hh
  obtain ⟨v2, rfl, hown, hk, hst, ht⟩ := hh.out
  obtain ⟨lo2, hlo⟩ : ∃ l, l = w15.heap.size := ⟨_, rfl⟩
  rw [← hlo] at hown
  have HT21 : Hid (Inn w w16 ∧ KeyAt w16 g nr K ∧ StreamAt w16 t1 g s m ∧ StreamAt w16 t2 g s m ∧ StreamAt w16 t3 g x m ∧ w16.ownsRow lo1 5 1 v1 m (cellsU8 CL) ∧ w16.ownsRow lo2 5 1 v2 m (cellsU8 zs)) := by
    have ht2 : Touch2 w15 w16 g t2 := ht
    exact ⟨(HT20.out.1).two ht2 (by have := HN.out; omega) (by have := HN.out; omega) HP.out, hk, (HT20.out.2.2.1).same (ht2.block _ (HT20.out.2.2.1).here (by have := HN.out; omega) (by have := HN.out; omega)) ht2.size, hst, (HT20.out.2.2.2.2.1).same (ht2.block _ (HT20.out.2.2.2.2.1).here (by have := HN.out; omega) (by have := HN.out; omega)) ht2.size, ownsRow_same (HT20.out.2.2.2.2.2) (fun q hq => ht2.block q ((HT20.out.2.2.2.2.2).lt q hq).2 (by have h1 := ((HT20.out.2.2.2.2.2).lt q hq).1; have := HN.out; omega) (by have h1 := ((HT20.out.2.2.2.2.2).lt q hq).1; have := HN.out; omega)), hown⟩
  clear hown hk hst ht KX hh HT20
  clear hlo
  have KS : Hid (Calls Tryd.prog 30 #[v2, .slice a2 m c2] w16 fun e w' => e = .returned (.bool true) ∧ ∃ q, w' = w16.drewN q) := by
    have h := same_any v2 (.slice a2 m c2) zs zs w16 (view_owns (HT21.out.2.2.2.2.2.2) HM.out.symm) (HZ.out.1.kept (HT21.out.1).old.block)
    rw [decide_eq_true (rfl : zs = zs)] at h
    exact h
  have KA : Hid (∀ u', Below w16.heap.size w16 u' → Calls Tryd.prog 33 #[.pointer (some ⟨t1, 0, none⟩)] u' fun e w' => e = .returned (.int .u64 (m : Nat)) ∧ w' = u') := fun u' hb => at_ok t1 g m s u' ((HT21.out.2.2.1).same (hb.block _ (HT21.out.2.2.1).here) hb.size)
  have hmi : ((m : Nat) : Int) ≤ 4096 := by omega
  go_upto_region 20 with fail
  go_cut [150] from 129 to 150 (fun b wx => b = .bool false ∧ Hid (Below w16.heap.size w16 wx))
  case first =>
    go_wp2_with (first
      | (go_at_call 11; refine (num_ok _ _).mono ?_; rintro e9 w9 ⟨rfl, hw9⟩; obtain rfl := hw9.symm)
      | (go_at_call 30; refine KS.out.mono ?_))
    rintro e9 w9 ⟨rfl, q9, hw9⟩
    have HB9 : Hid (Below w16.heap.size w16 w9) := by rw [hw9]; exact Below.drewN (Below.refl _ _) q9
    clear hw9
    have KA9 := KA.out w9 HB9.out
    clear KA KS
    go_wp2_with (first
      | (go_at_call 33; refine KA9.mono ?_; rintro e10 w10' ⟨rfl, hw10⟩; obtain rfl := hw10.symm))
    go_meet
    exact ⟨rfl, HB9⟩
  case rest =>
  obtain ⟨rfl, hbc⟩ := hcut
  generalize wc = w17 at hbc ⊢
  have HT22 : Hid (Inn w w17 ∧ KeyAt w17 g nr K ∧ StreamAt w17 t1 g s m ∧ StreamAt w17 t2 g s m ∧ StreamAt w17 t3 g x m ∧ w17.ownsRow lo1 5 1 v1 m (cellsU8 CL) ∧ w17.ownsRow lo2 5 1 v2 m (cellsU8 zs)) := by
    have hb : Below w16.heap.size w16 w17 := hbc.out
    exact ⟨(HT21.out.1).below hb, (HT21.out.2.1).same (hb.block _ (HT21.out.2.1).ciph.here) hb.size, (HT21.out.2.2.1).same (hb.block _ (HT21.out.2.2.1).here) hb.size, (HT21.out.2.2.2.1).same (hb.block _ (HT21.out.2.2.2.1).here) hb.size, (HT21.out.2.2.2.2.1).same (hb.block _ (HT21.out.2.2.2.2.1).here) hb.size, ownsRow_same (HT21.out.2.2.2.2.2.1) (fun q hq => hb.block q ((HT21.out.2.2.2.2.2.1).lt q hq).2), ownsRow_same (HT21.out.2.2.2.2.2.2) (fun q hq => hb.block q ((HT21.out.2.2.2.2.2.2).lt q hq).2)⟩
  clear KS KA hbc hmi HT21
  have HT23 : Hid (Inn w w17 ∧ KeyAt w17 g nr K ∧ StreamAt w17 t2 g s m ∧ StreamAt w17 t3 g x m ∧ w17.ownsRow lo1 5 1 v1 m (cellsU8 CL) ∧ w17.ownsRow lo2 5 1 v2 m (cellsU8 zs)) := ⟨HT22.out.1, HT22.out.2.1, HT22.out.2.2.2.1, HT22.out.2.2.2.2.1, HT22.out.2.2.2.2.2.1, HT22.out.2.2.2.2.2.2⟩
  clear HT22
  have HT24 : Hid (Inn w w17 ∧ KeyAt w17 g nr K ∧ StreamAt w17 t3 g x m ∧ w17.ownsRow lo1 5 1 v1 m (cellsU8 CL) ∧ w17.ownsRow lo2 5 1 v2 m (cellsU8 zs)) := ⟨HT23.out.1, HT23.out.2.1, HT23.out.2.2.2.1, HT23.out.2.2.2.2.1, HT23.out.2.2.2.2.2⟩
  clear HT23
  have HT25 : Hid (Inn w w17 ∧ KeyAt w17 g nr K ∧ w17.ownsRow lo1 5 1 v1 m (cellsU8 CL) ∧ w17.ownsRow lo2 5 1 v2 m (cellsU8 zs)) := ⟨HT24.out.1, HT24.out.2.1, HT24.out.2.2.2.1, HT24.out.2.2.2.2⟩
  clear HT24
  have HT26 : Hid (Inn w w17 ∧ KeyAt w17 g nr K ∧ w17.ownsRow lo2 5 1 v2 m (cellsU8 zs)) := ⟨HT25.out.1, HT25.out.2.1, HT25.out.2.2.2⟩
  clear HT25
  have HT27 : Hid (Inn w w17 ∧ KeyAt w17 g nr K) := ⟨HT26.out.1, HT26.out.2.1⟩
  clear HT26
  obtain ⟨n8, HN8⟩ : ∃ q, Hid (q = m / 8) := ⟨_, rfl⟩
  obtain ⟨M8, HM8⟩ : ∃ q, Hid (q = 8 * n8) := ⟨_, rfl⟩
  have hdv8 : ((m : Nat) : Int) / 8 = ((n8 : Nat) : Int) := by have := HN8.out; omega
  have hml8 : ((n8 : Nat) : Int) * 8 = ((M8 : Nat) : Int) := by have := HM8.out; omega
  have hM8 : M8 ≤ m := by have := HM8.out; have := HN8.out; omega
  by_cases h16 : M8 < 16
  · have h16i : ((M8 : Nat) : Int) < 16 := by omega
    go_wp2
    go_ret
    exact ⟨rfl, (HT27.out.1).old⟩
  have h16i : ¬ ((M8 : Nat) : Int) < 16 := by omega
  have hDa : ∃ db doff, a2 = some ⟨db, doff, none⟩ ∧ Hid (db < w.heap.size ∧ ∀ i, i < m → w.cell? ⟨db, doff + i, none⟩ = some (.int .u8 (nat8 zs i : Nat))) := by
    rcases hq4 with rfl | ⟨db, doff, e2, hc⟩
    · have := HM.out; simp at this; omega
    · refine ⟨db, doff, e2, World.block_lt_of_cell? w _ (hc 0 (by have := HM.out; omega)), fun i hi => ?_⟩
      rw [hc i (by rw [← HM.out]; exact hi), nat8_eq HZ.out.2.1]
  obtain ⟨db, doff, rfl, HDA⟩ := hDa
  clear hq3 hq4
  have HNg : Hid (w.heap.size < g) := by have h := HN.out; show w.heap.size < g; omega
  clear HN
  have HN : Hid (w.heap.size < g) := HNg
  clear HNg
  obtain ⟨Q8, HQ8⟩ : ∃ q, Hid (q = 8 + M8) := ⟨_, rfl⟩
  have hQ8 : ((M8 : Nat) : Int) + 8 = ((Q8 : Nat) : Int) := by have := HQ8.out; omega
  have hM8c : ((M8 : Nat) : Int) ≤ (c2 : Nat) := by omega
  have hM8m : M8 ≤ 4096 := by omega
  have HB8 : Hid (2 ≤ n8 ∧ n8 ≤ 512 ∧ 8 * n8 ≤ c2 ∧ M8 = 8 * n8 ∧ Q8 = 8 + 8 * n8) := by have h1 := HM8.out; have h2 := HQ8.out; show _ ∧ _; omega
  obtain ⟨TL, HTL⟩ : ∃ L, Hid (L = zs.take M8) := ⟨_, rfl⟩
  have HTLl : Hid (TL.length = M8) := by show _ = _; rw [HTL.out]; have := HM.out; simp; omega
  have HTLa : Hid (∀ i, i < M8 → TL.getD i 0 = ((nat8 zs i : Nat) : Int)) := fun i hi => by rw [HTL.out, nat8_eq HZ.out.2.1]; simp [List.getD, List.getElem?_take, hi]
  obtain ⟨PL, HPL⟩ : ∃ L : List Int, Hid (L = (List.range Q8).map fun i => ((wrB (wrapF nr K n8 (nat8 zs) (6 * n8)) i : Nat) : Int)) := ⟨_, rfl⟩
  have HPLl : Hid (PL.length = Q8) := by show _ = _; rw [HPL.out]; simp
  have HPLa : Hid (∀ i, i < Q8 → PL.getD i 0 = ((wrB (wrapF nr K n8 (nat8 zs) (6 * n8)) i : Nat) : Int)) := fun i hi => by rw [HPL.out]; simp [List.getD, hi]
  have HLT : Hid (∀ i, nat8 zs i < 256) := nat8_lt HZ.out.2.1
  clear hM8 h16
  have KW : Hid (Calls Tryd.prog 34 #[.pointer (some ⟨g, 0, none⟩), .slice (some ⟨db, doff, none⟩) M8 c2] w17 fun e w' => Hid (∃ s, e = .returned (.tuple #[.slice (some ⟨s, 0, none⟩) Q8 Q8, .int .i64 0]) ∧ w17.heap.size ≤ s ∧ Halves w' s 8 n8 (wrapF nr K n8 (nat8 zs) (6 * n8)).2 ∧ (∀ k, k < 8 → w'.cell? ⟨s, k, none⟩ = some (.int .u8 (byteK (wrapF nr K n8 (nat8 zs) (6 * n8)).1 k : Nat))) ∧ KeyAt w' g nr K ∧ Touch w17 w' g 4 1)) := by
    obtain ⟨b1, b2, b3, b4, b5⟩ := HB8.out
    have h := kwrap_ok g nr n8 db doff c2 K (nat8 zs) w17 (HT27.out.2) b1 b2 b3 (Nat.lt_of_lt_of_le HDA.out.1 (HT27.out.1).old.size) (by have h1 := HDA.out.1; have h2 := HN.out; omega) (fun i hi => ((HT27.out.1).old.cell HDA.out.1).trans (HDA.out.2 i (by have := HN8.out; omega))) HLT.out
    rw [← b5, ← b4] at h
    exact h
  go_wp2_with (first | (go_at_call 34; refine KW.out.mono ?_))
  intro e w18 hh
  obtain ⟨s1, rfl, hgt, hh1, hc1, hk, ht⟩ := hh.out
  have HN' : Hid ((w.heap.size < g) ∧ g < s1) := ⟨HN.out, Nat.lt_of_lt_of_le (HT27.out.2).ciph.here hgt⟩
  have HN : Hid (w.heap.size < g ∧ g < s1) := by have h := HN'.out; show (w.heap.size < g ∧ g < s1); omega
  clear HN'
  have HT28 : Hid (Inn w w18 ∧ KeyAt w18 g nr K ∧ Halves w18 s1 8 n8 (wrapF nr K n8 (nat8 zs) (6 * n8)).2 ∧ (∀ k, k < 8 → w18.cell? ⟨s1, k, none⟩ = some (.int .u8 (byteK (wrapF nr K n8 (nat8 zs) (6 * n8)).1 k : Nat)))) := by
    have ht2 : Touch2 w17 w18 g g := ht.left g
    exact ⟨(HT27.out.1).two ht2 (by have := HN.out; omega) (by have := HN.out; omega) HP.out, hk, hh1, hc1⟩
  clear hgt hh1 hc1 hk ht KW hh HT27
  have KW : Hid (Calls Tryd.prog 34 #[.pointer (some ⟨g, 0, none⟩), .slice (some ⟨db, doff, none⟩) M8 c2] w18 fun e w' => Hid (∃ s, e = .returned (.tuple #[.slice (some ⟨s, 0, none⟩) Q8 Q8, .int .i64 0]) ∧ w18.heap.size ≤ s ∧ Halves w' s 8 n8 (wrapF nr K n8 (nat8 zs) (6 * n8)).2 ∧ (∀ k, k < 8 → w'.cell? ⟨s, k, none⟩ = some (.int .u8 (byteK (wrapF nr K n8 (nat8 zs) (6 * n8)).1 k : Nat))) ∧ KeyAt w' g nr K ∧ Touch w18 w' g 4 1)) := by
    obtain ⟨b1, b2, b3, b4, b5⟩ := HB8.out
    have h := kwrap_ok g nr n8 db doff c2 K (nat8 zs) w18 (HT28.out.2.1) b1 b2 b3 (Nat.lt_of_lt_of_le HDA.out.1 (HT28.out.1).old.size) (by have h1 := HDA.out.1; have h2 := HN.out; omega) (fun i hi => ((HT28.out.1).old.cell HDA.out.1).trans (HDA.out.2 i (by have := HN8.out; omega))) HLT.out
    rw [← b5, ← b4] at h
    exact h
  go_wp2_with (first | (go_at_call 34; refine KW.out.mono ?_))
  intro e w19 hh
  obtain ⟨s2, rfl, hgt, hh1, hc1, hk, ht⟩ := hh.out
  have HN' : Hid ((w.heap.size < g ∧ g < s1) ∧ s1 < s2) := ⟨HN.out, Nat.lt_of_lt_of_le (HT28.out.2.2.1).here hgt⟩
  have HN : Hid (w.heap.size < g ∧ g < s1 ∧ s1 < s2) := by have h := HN'.out; show (w.heap.size < g ∧ g < s1 ∧ s1 < s2); omega
  clear HN'
  have HT29 : Hid (Inn w w19 ∧ KeyAt w19 g nr K ∧ Halves w19 s1 8 n8 (wrapF nr K n8 (nat8 zs) (6 * n8)).2 ∧ (∀ k, k < 8 → w19.cell? ⟨s1, k, none⟩ = some (.int .u8 (byteK (wrapF nr K n8 (nat8 zs) (6 * n8)).1 k : Nat))) ∧ Halves w19 s2 8 n8 (wrapF nr K n8 (nat8 zs) (6 * n8)).2 ∧ (∀ k, k < 8 → w19.cell? ⟨s2, k, none⟩ = some (.int .u8 (byteK (wrapF nr K n8 (nat8 zs) (6 * n8)).1 k : Nat)))) := by
    have ht2 : Touch2 w18 w19 g g := ht.left g
    exact ⟨(HT28.out.1).two ht2 (by have := HN.out; omega) (by have := HN.out; omega) HP.out, hk, (HT28.out.2.2.1).same (ht2.block _ (HT28.out.2.2.1).here (by have := HN.out; omega) (by have := HN.out; omega)) ht2.size, fun k hk => (World.cell?_of_block (a := ⟨s1, k, none⟩) (ht2.block _ (World.block_lt_of_cell? _ _ ((HT28.out.2.2.2) k hk)) (by have := HN.out; show s1 ≠ _; omega) (by have := HN.out; show s1 ≠ _; omega))).trans ((HT28.out.2.2.2) k hk), hh1, hc1⟩
  clear hgt hh1 hc1 hk ht KW hh HT28
  have KU : Hid (Calls Tryd.prog 35 #[.pointer (some ⟨g, 0, none⟩), .slice (some ⟨s1, 0, none⟩) Q8 Q8] w19 fun e w' => Hid (∃ s, e = .returned (.tuple #[.slice (some ⟨s, 0, none⟩) M8 M8, .int .i64 0]) ∧ w19.heap.size ≤ s ∧ Halves w' s 0 n8 (halfs (nat8 zs)) ∧ KeyAt w' g nr K ∧ Touch w19 w' g 4 1)) := by
    obtain ⟨b1, b2, b3, b4, b5⟩ := HB8.out
    have h := kunwrap_room g nr n8 s1 Q8 K (nat8 zs) w19 (HT29.out.2.1) b1 b2 (by omega) (by have := HN.out; omega) (HT29.out.2.2.1) (HT29.out.2.2.2.1) HLT.out
    rw [← b5, ← b4] at h
    exact h
  go_wp2_with (first | (go_at_call 35; refine KU.out.mono ?_))
  intro e w20 hh
  obtain ⟨s3, rfl, hgt, hh1, hk, ht⟩ := hh.out
  have HN' : Hid ((w.heap.size < g ∧ g < s1 ∧ s1 < s2) ∧ s2 < s3) := ⟨HN.out, Nat.lt_of_lt_of_le (HT29.out.2.2.2.2.1).here hgt⟩
  have HN : Hid (w.heap.size < g ∧ g < s1 ∧ s1 < s2 ∧ s2 < s3) := by have h := HN'.out; show (w.heap.size < g ∧ g < s1 ∧ s1 < s2 ∧ s2 < s3); omega
  clear HN'
  have HT30 : Hid (Inn w w20 ∧ KeyAt w20 g nr K ∧ Halves w20 s1 8 n8 (wrapF nr K n8 (nat8 zs) (6 * n8)).2 ∧ (∀ k, k < 8 → w20.cell? ⟨s1, k, none⟩ = some (.int .u8 (byteK (wrapF nr K n8 (nat8 zs) (6 * n8)).1 k : Nat))) ∧ Halves w20 s2 8 n8 (wrapF nr K n8 (nat8 zs) (6 * n8)).2 ∧ (∀ k, k < 8 → w20.cell? ⟨s2, k, none⟩ = some (.int .u8 (byteK (wrapF nr K n8 (nat8 zs) (6 * n8)).1 k : Nat))) ∧ Halves w20 s3 0 n8 (halfs (nat8 zs))) := by
    have ht2 : Touch2 w19 w20 g g := ht.left g
    exact ⟨(HT29.out.1).two ht2 (by have := HN.out; omega) (by have := HN.out; omega) HP.out, hk, (HT29.out.2.2.1).same (ht2.block _ (HT29.out.2.2.1).here (by have := HN.out; omega) (by have := HN.out; omega)) ht2.size, fun k hk => (World.cell?_of_block (a := ⟨s1, k, none⟩) (ht2.block _ (World.block_lt_of_cell? _ _ ((HT29.out.2.2.2.1) k hk)) (by have := HN.out; show s1 ≠ _; omega) (by have := HN.out; show s1 ≠ _; omega))).trans ((HT29.out.2.2.2.1) k hk), (HT29.out.2.2.2.2.1).same (ht2.block _ (HT29.out.2.2.2.2.1).here (by have := HN.out; omega) (by have := HN.out; omega)) ht2.size, fun k hk => (World.cell?_of_block (a := ⟨s2, k, none⟩) (ht2.block _ (World.block_lt_of_cell? _ _ ((HT29.out.2.2.2.2.2) k hk)) (by have := HN.out; show s2 ≠ _; omega) (by have := HN.out; show s2 ≠ _; omega))).trans ((HT29.out.2.2.2.2.2) k hk), hh1⟩
  clear hgt hh1 hk ht KU hh HT29
  have KO : Hid (Calls Tryd.prog 30 #[.slice (some ⟨s3, 0, none⟩) M8 M8, .slice (some ⟨db, doff, none⟩) M8 c2] w20 fun e w' => e = .returned (.bool true) ∧ ∃ q, w' = w20.drewN q) := by
    have h := same_core s3 0 db doff M8 c2 M8 TL TL w20 HTLl.out HTLl.out (by omega) (fun i hi => by rw [Nat.zero_add, halves_bytes HLT.out (HT30.out.2.2.2.2.2.2) i (by have := HB8.out; omega), HTLa.out i hi]) (fun i hi => by rw [HTLa.out i hi]; exact ((HT30.out.1).old.cell HDA.out.1).trans (HDA.out.2 i (by have := HB8.out; have := HN8.out; omega)))
    rw [decide_eq_true (rfl : TL = TL)] at h
    exact h
  have KP : Hid (∀ u', Below w20.heap.size w20 u' → Calls Tryd.prog 30 #[.slice (some ⟨s1, 0, none⟩) Q8 Q8, .slice (some ⟨s2, 0, none⟩) Q8 Q8] u' fun e w' => e = .returned (.bool true) ∧ ∃ q, w' = u'.drewN q) := fun u' hb => by
    have h := same_core s1 0 s2 0 Q8 Q8 Q8 PL PL u' HPLl.out HPLl.out (by have := HB8.out; omega) (fun i hi => by rw [Nat.zero_add, hb.cell (p := ⟨s1, i, none⟩) (HT30.out.2.2.1).here, halves_wrB (HT30.out.2.2.1) (HT30.out.2.2.2.1) i (by have := HB8.out; omega), HPLa.out i hi]) (fun i hi => by rw [Nat.zero_add, hb.cell (p := ⟨s2, i, none⟩) (HT30.out.2.2.2.2.1).here, halves_wrB (HT30.out.2.2.2.2.1) (HT30.out.2.2.2.2.2.1) i (by have := HB8.out; omega), HPLa.out i hi])
    rw [decide_eq_true (rfl : PL = PL)] at h
    exact h
  go_upto_region 28 with fail
  go_cut [207] from 179 to 207 (fun b wx => b = .bool false ∧ Hid (Below w20.heap.size w20 wx))
  case first =>
    go_wp2_with (first
      | (go_at_call 11; refine (num_ok _ _).mono ?_; rintro e9 w9 ⟨rfl, hw9⟩; obtain rfl := hw9.symm)
      | (go_at_call 30; refine KO.out.mono ?_))
    rintro e9 w9 ⟨rfl, q9, hw9⟩
    have HB9 : Hid (Below w20.heap.size w20 w9) := by rw [hw9]; exact Below.drewN (Below.refl _ _) q9
    clear hw9
    have KP9 := KP.out w9 HB9.out
    clear KP KO
    go_wp2_with (first
      | (go_at_call 30; refine KP9.mono ?_))
    rintro e10 w10' ⟨rfl, q10, hw10⟩
    have HB10 : Hid (Below w20.heap.size w20 w10') := by rw [hw10]; exact Below.drewN HB9.out q10
    clear hw10
    go_wp2
    go_meet
    exact ⟨rfl, HB10⟩
  case rest =>
  obtain ⟨rfl, hbc⟩ := hcut
  generalize wc = w21 at hbc ⊢
  have HT31 : Hid (Inn w w21 ∧ KeyAt w21 g nr K ∧ Halves w21 s1 8 n8 (wrapF nr K n8 (nat8 zs) (6 * n8)).2 ∧ (∀ k, k < 8 → w21.cell? ⟨s1, k, none⟩ = some (.int .u8 (byteK (wrapF nr K n8 (nat8 zs) (6 * n8)).1 k : Nat))) ∧ Halves w21 s2 8 n8 (wrapF nr K n8 (nat8 zs) (6 * n8)).2 ∧ (∀ k, k < 8 → w21.cell? ⟨s2, k, none⟩ = some (.int .u8 (byteK (wrapF nr K n8 (nat8 zs) (6 * n8)).1 k : Nat))) ∧ Halves w21 s3 0 n8 (halfs (nat8 zs))) := by
    have hb : Below w20.heap.size w20 w21 := hbc.out
    exact ⟨(HT30.out.1).below hb, (HT30.out.2.1).same (hb.block _ (HT30.out.2.1).ciph.here) hb.size, (HT30.out.2.2.1).same (hb.block _ (HT30.out.2.2.1).here) hb.size, fun k hk => (World.cell?_of_block (a := ⟨s1, k, none⟩) (hb.block _ (World.block_lt_of_cell? _ _ ((HT30.out.2.2.2.1) k hk)))).trans ((HT30.out.2.2.2.1) k hk), (HT30.out.2.2.2.2.1).same (hb.block _ (HT30.out.2.2.2.2.1).here) hb.size, fun k hk => (World.cell?_of_block (a := ⟨s2, k, none⟩) (hb.block _ (World.block_lt_of_cell? _ _ ((HT30.out.2.2.2.2.2.1) k hk)))).trans ((HT30.out.2.2.2.2.2.1) k hk), (HT30.out.2.2.2.2.2.2).same (hb.block _ (HT30.out.2.2.2.2.2.2).here) hb.size⟩
  clear KO KP hbc HT30
  have KQ : Hid (Calls Tryd.prog 16 #[.slice (some ⟨s1, 0, none⟩) Q8 Q8] w21 fun e w' => e = .returned (.tuple #[]) ∧ w21.grownBy w' (some s1)) :=
    spoil_full Q8 s1 (fun i => ((wrB (wrapF nr K n8 (nat8 zs) (6 * n8)) i : Nat) : Int)) w21 (by have := HB8.out; omega) (HT31.out.2.2.1).here (fun i hi => halves_wrB (HT31.out.2.2.1) (HT31.out.2.2.2.1) i (by have := HB8.out; omega)) (by have h := (HT31.out.2.2.1).room; rw [← HB8.out.2.2.2.2] at h; exact h)
  go_wp2_with (first | (go_at_call 16; refine KQ.out.mono ?_))
  rintro e w22 ⟨rfl, hgr⟩
  have HT32 : Hid (Inn w w21 ∧ KeyAt w21 g nr K ∧ Halves w21 s2 8 n8 (wrapF nr K n8 (nat8 zs) (6 * n8)).2 ∧ (∀ k, k < 8 → w21.cell? ⟨s2, k, none⟩ = some (.int .u8 (byteK (wrapF nr K n8 (nat8 zs) (6 * n8)).1 k : Nat))) ∧ Halves w21 s3 0 n8 (halfs (nat8 zs))) := ⟨HT31.out.1, HT31.out.2.1, HT31.out.2.2.2.2.1, HT31.out.2.2.2.2.2.1, HT31.out.2.2.2.2.2.2⟩
  have HT33 : Hid (Inn w w22 ∧ KeyAt w22 g nr K ∧ Halves w22 s2 8 n8 (wrapF nr K n8 (nat8 zs) (6 * n8)).2 ∧ (∀ k, k < 8 → w22.cell? ⟨s2, k, none⟩ = some (.int .u8 (byteK (wrapF nr K n8 (nat8 zs) (6 * n8)).1 k : Nat))) ∧ Halves w22 s3 0 n8 (halfs (nat8 zs))) := by
    have ht2 : Touch2 w21 w22 s1 s1 := grown_two hgr
    exact ⟨(HT32.out.1).two ht2 (by have := HN.out; omega) (by have := HN.out; omega) HP.out, (HT32.out.2.1).same (ht2.block _ (HT32.out.2.1).ciph.here (by have := HN.out; omega) (by have := HN.out; omega)) ht2.size, (HT32.out.2.2.1).same (ht2.block _ (HT32.out.2.2.1).here (by have := HN.out; omega) (by have := HN.out; omega)) ht2.size, fun k hk => (World.cell?_of_block (a := ⟨s2, k, none⟩) (ht2.block _ (World.block_lt_of_cell? _ _ ((HT32.out.2.2.2.1) k hk)) (by have := HN.out; show s2 ≠ _; omega) (by have := HN.out; show s2 ≠ _; omega))).trans ((HT32.out.2.2.2.1) k hk), (HT32.out.2.2.2.2).same (ht2.block _ (HT32.out.2.2.2.2).here (by have := HN.out; omega) (by have := HN.out; omega)) ht2.size⟩
  clear hgr KQ HT31 HT32
  have KU : Hid (Calls Tryd.prog 35 #[.pointer (some ⟨g, 0, none⟩), .slice (some ⟨s2, 0, none⟩) Q8 Q8] w22 fun e w' => Hid (∃ s, e = .returned (.tuple #[.slice (some ⟨s, 0, none⟩) M8 M8, .int .i64 0]) ∧ w22.heap.size ≤ s ∧ Halves w' s 0 n8 (halfs (nat8 zs)) ∧ KeyAt w' g nr K ∧ Touch w22 w' g 4 1)) := by
    obtain ⟨b1, b2, b3, b4, b5⟩ := HB8.out
    have h := kunwrap_room g nr n8 s2 Q8 K (nat8 zs) w22 (HT33.out.2.1) b1 b2 (by omega) (by have := HN.out; omega) (HT33.out.2.2.1) (HT33.out.2.2.2.1) HLT.out
    rw [← b5, ← b4] at h
    exact h
  go_wp2_with (first | (go_at_call 35; refine KU.out.mono ?_))
  intro e w23 hh
  obtain ⟨s4, rfl, hgt, hh1, hk, ht⟩ := hh.out
  have HN' : Hid ((w.heap.size < g ∧ g < s1 ∧ s1 < s2 ∧ s2 < s3) ∧ s3 < s4) := ⟨HN.out, Nat.lt_of_lt_of_le (HT33.out.2.2.2.2).here hgt⟩
  have HN : Hid (w.heap.size < g ∧ g < s1 ∧ s1 < s2 ∧ s2 < s3 ∧ s3 < s4) := by have h := HN'.out; show (w.heap.size < g ∧ g < s1 ∧ s1 < s2 ∧ s2 < s3 ∧ s3 < s4); omega
  clear HN'
  have HT34 : Hid (Inn w w23 ∧ KeyAt w23 g nr K ∧ Halves w23 s2 8 n8 (wrapF nr K n8 (nat8 zs) (6 * n8)).2 ∧ (∀ k, k < 8 → w23.cell? ⟨s2, k, none⟩ = some (.int .u8 (byteK (wrapF nr K n8 (nat8 zs) (6 * n8)).1 k : Nat))) ∧ Halves w23 s3 0 n8 (halfs (nat8 zs)) ∧ Halves w23 s4 0 n8 (halfs (nat8 zs))) := by
    have ht2 : Touch2 w22 w23 g g := ht.left g
    exact ⟨(HT33.out.1).two ht2 (by have := HN.out; omega) (by have := HN.out; omega) HP.out, hk, (HT33.out.2.2.1).same (ht2.block _ (HT33.out.2.2.1).here (by have := HN.out; omega) (by have := HN.out; omega)) ht2.size, fun k hk => (World.cell?_of_block (a := ⟨s2, k, none⟩) (ht2.block _ (World.block_lt_of_cell? _ _ ((HT33.out.2.2.2.1) k hk)) (by have := HN.out; show s2 ≠ _; omega) (by have := HN.out; show s2 ≠ _; omega))).trans ((HT33.out.2.2.2.1) k hk), (HT33.out.2.2.2.2).same (ht2.block _ (HT33.out.2.2.2.2).here (by have := HN.out; omega) (by have := HN.out; omega)) ht2.size, hh1⟩
  clear hgt hh1 hk ht KU hh HT33
  have KO : Hid (Calls Tryd.prog 30 #[.slice (some ⟨s4, 0, none⟩) M8 M8, .slice (some ⟨db, doff, none⟩) M8 c2] w23 fun e w' => e = .returned (.bool true) ∧ ∃ q, w' = w23.drewN q) := by
    have h := same_core s4 0 db doff M8 c2 M8 TL TL w23 HTLl.out HTLl.out (by omega) (fun i hi => by rw [Nat.zero_add, halves_bytes HLT.out (HT34.out.2.2.2.2.2) i (by have := HB8.out; omega), HTLa.out i hi]) (fun i hi => by rw [HTLa.out i hi]; exact ((HT34.out.1).old.cell HDA.out.1).trans (HDA.out.2 i (by have := HB8.out; have := HN8.out; omega)))
    rw [decide_eq_true (rfl : TL = TL)] at h
    exact h
  go_upto_region 32 with fail
  go_cut [226] from 216 to 226 (fun b wx => b = .bool false ∧ Hid (Below w23.heap.size w23 wx))
  case first =>
    go_wp2_with (first
      | (go_at_call 11; refine (num_ok _ _).mono ?_; rintro e9 w9 ⟨rfl, hw9⟩; obtain rfl := hw9.symm)
      | (go_at_call 30; refine KO.out.mono ?_))
    rintro e9 w9 ⟨rfl, q9, hw9⟩
    have HB9 : Hid (Below w23.heap.size w23 w9) := by rw [hw9]; exact Below.drewN (Below.refl _ _) q9
    clear hw9
    go_wp2
    go_meet
    exact ⟨rfl, HB9⟩
  case rest =>
  obtain ⟨rfl, hbc⟩ := hcut
  generalize wc = w24 at hbc ⊢
  have HT35 : Hid (Inn w w24 ∧ KeyAt w24 g nr K ∧ Halves w24 s2 8 n8 (wrapF nr K n8 (nat8 zs) (6 * n8)).2 ∧ (∀ k, k < 8 → w24.cell? ⟨s2, k, none⟩ = some (.int .u8 (byteK (wrapF nr K n8 (nat8 zs) (6 * n8)).1 k : Nat))) ∧ Halves w24 s3 0 n8 (halfs (nat8 zs)) ∧ Halves w24 s4 0 n8 (halfs (nat8 zs))) := by
    have hb : Below w23.heap.size w23 w24 := hbc.out
    exact ⟨(HT34.out.1).below hb, (HT34.out.2.1).same (hb.block _ (HT34.out.2.1).ciph.here) hb.size, (HT34.out.2.2.1).same (hb.block _ (HT34.out.2.2.1).here) hb.size, fun k hk => (World.cell?_of_block (a := ⟨s2, k, none⟩) (hb.block _ (World.block_lt_of_cell? _ _ ((HT34.out.2.2.2.1) k hk)))).trans ((HT34.out.2.2.2.1) k hk), (HT34.out.2.2.2.2.1).same (hb.block _ (HT34.out.2.2.2.2.1).here) hb.size, (HT34.out.2.2.2.2.2).same (hb.block _ (HT34.out.2.2.2.2.2).here) hb.size⟩
  clear KO hbc HT34
  have KQ : Hid (Calls Tryd.prog 16 #[.slice (some ⟨s3, 0, none⟩) M8 M8] w24 fun e w' => e = .returned (.tuple #[]) ∧ w24.grownBy w' (some s3)) :=
    spoil_full M8 s3 (fun i => ((nat8 zs i : Nat) : Int)) w24 (by have := HB8.out; omega) (HT35.out.2.2.2.2.1).here (fun i hi => halves_bytes HLT.out (HT35.out.2.2.2.2.1) i (by have := HB8.out; omega)) (by have h := (HT35.out.2.2.2.2.1).room; rw [show 0 + 8 * n8 = M8 by have := HB8.out; omega] at h; exact h)
  go_wp2_with (first | (go_at_call 16; refine KQ.out.mono ?_))
  rintro e w25 ⟨rfl, hgr⟩
  have HT36 : Hid (Inn w w24 ∧ KeyAt w24 g nr K ∧ Halves w24 s2 8 n8 (wrapF nr K n8 (nat8 zs) (6 * n8)).2 ∧ (∀ k, k < 8 → w24.cell? ⟨s2, k, none⟩ = some (.int .u8 (byteK (wrapF nr K n8 (nat8 zs) (6 * n8)).1 k : Nat))) ∧ Halves w24 s4 0 n8 (halfs (nat8 zs))) := ⟨HT35.out.1, HT35.out.2.1, HT35.out.2.2.1, HT35.out.2.2.2.1, HT35.out.2.2.2.2.2⟩
  have HT37 : Hid (Inn w w25 ∧ KeyAt w25 g nr K ∧ Halves w25 s2 8 n8 (wrapF nr K n8 (nat8 zs) (6 * n8)).2 ∧ (∀ k, k < 8 → w25.cell? ⟨s2, k, none⟩ = some (.int .u8 (byteK (wrapF nr K n8 (nat8 zs) (6 * n8)).1 k : Nat))) ∧ Halves w25 s4 0 n8 (halfs (nat8 zs))) := by
    have ht2 : Touch2 w24 w25 s3 s3 := grown_two hgr
    exact ⟨(HT36.out.1).two ht2 (by have := HN.out; omega) (by have := HN.out; omega) HP.out, (HT36.out.2.1).same (ht2.block _ (HT36.out.2.1).ciph.here (by have := HN.out; omega) (by have := HN.out; omega)) ht2.size, (HT36.out.2.2.1).same (ht2.block _ (HT36.out.2.2.1).here (by have := HN.out; omega) (by have := HN.out; omega)) ht2.size, fun k hk => (World.cell?_of_block (a := ⟨s2, k, none⟩) (ht2.block _ (World.block_lt_of_cell? _ _ ((HT36.out.2.2.2.1) k hk)) (by have := HN.out; show s2 ≠ _; omega) (by have := HN.out; show s2 ≠ _; omega))).trans ((HT36.out.2.2.2.1) k hk), (HT36.out.2.2.2.2).same (ht2.block _ (HT36.out.2.2.2.2).here (by have := HN.out; omega) (by have := HN.out; omega)) ht2.size⟩
  clear hgr KQ HT35 HT36
  have KO : Hid (Calls Tryd.prog 30 #[.slice (some ⟨s4, 0, none⟩) M8 M8, .slice (some ⟨db, doff, none⟩) M8 c2] w25 fun e w' => e = .returned (.bool true) ∧ ∃ q, w' = w25.drewN q) := by
    have h := same_core s4 0 db doff M8 c2 M8 TL TL w25 HTLl.out HTLl.out (by omega) (fun i hi => by rw [Nat.zero_add, halves_bytes HLT.out (HT37.out.2.2.2.2) i (by have := HB8.out; omega), HTLa.out i hi]) (fun i hi => by rw [HTLa.out i hi]; exact ((HT37.out.1).old.cell HDA.out.1).trans (HDA.out.2 i (by have := HB8.out; have := HN8.out; omega)))
    rw [decide_eq_true (rfl : TL = TL)] at h
    exact h
  go_wp2_with (first | (go_at_call 30; refine KO.out.mono ?_))
  rintro e9 w26 ⟨rfl, q9, hw9⟩
  have HFIN : Hid (Below w.heap.size w w26) := by rw [hw9]; exact Below.drewN (HT37.out.1).old q9
  clear hw9
  go_wp2
  go_ret
  exact ⟨rfl, HFIN.out⟩
end Go.Proofs.YtgmfiljjogdccaaDoor
