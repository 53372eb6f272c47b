import Derived.Test.YtgmfiljjogdccaaDoorBke
import Derived.Test.YtgmfiljjogdccaaDoorPart13
import Derived.Test.YtgmfiljjogdccaaDoorPart21
import Derived.Test.YtgmfiljjogdccaaDoorKEnc
import Derived.Test.YtgmfiljjogdccaaDoorKDec
import Derived.Test.YtgmfiljjogdccaaDoorPart28
namespace Go.Proofs.YtgmfiljjogdccaaDoor
open Go.RowKit
set_option linter.unusedVariables false
theorem wpList_load_wantK {P : Program} {ops : Array Oper} {rest : List Oper} {op : Oper} {a : Act} {w : World} {Q : Exit → Act → World → Prop} (hw : Region.wanted op (yielded ops a.tmps) = true) (ty : TypeId) (x : Operand) (ho : op.op = .load ty x)
    (b o : Nat) (hx : a.eval x = .pointer (some ⟨b, o, none⟩)) (cs : List Value) (d : TypeDesc) (hc : w.rangeAt b o cs) (hu : P.underlying ty = some d) (hd : d.isRow = true) (hi : (P.info? ty).map (·.size) = some cs.length)
    (h : wpList P ops Q rest (a.put op.dst (.agg cs.toArray)) w) : wpList P ops Q (op :: rest) a w :=
  wpList_step fun K hK => by
    rw [if_pos hw]
    exact wp_load_mid ty x ho b o hx cs d hc hu hd hi (hK _ _ h)
/-- A block that a call answered, in its variable. -/
theorem box_new (u : World) (L : List Value) (hL : A16 L) : Below u.heap.size u ((u.alloc (.cells z16 42)).setCells u.heap.size 0 L) ∧ ((u.alloc (.cells z16 42)).setCells u.heap.size 0 L).rangeAt u.heap.size 0 L ∧ ((u.alloc (.cells z16 42)).setCells u.heap.size 0 L).heap.size = u.heap.size + 1 ∧ (u.alloc (.cells z16 42)).there u.heap.size 0 L.toArray.size := by
  have ht : (u.alloc (.cells z16 42)).there u.heap.size 0 16 := there_new u z16 42 16 (by show 16 ≤ 16; omega)
  exact ⟨belowB_setCells _ (Nat.le_refl _) _ _ _ ((Below.refl _ _).alloc (Nat.le_refl _) _), World.rangeAt_setCells_same _ _ _ _ (by rw [hL.len]; exact ht), by rw [sizeB_setCells]; simp, hL.there ht⟩
theorem a42 {L : List Value} (h : A16 L) : (Tryd.prog.info? 42).map (·.size) = some L.length ∧ (Tryd.prog.info? 42).map (·.size) = some L.toArray.size := by
  rw [List.size_toArray, h.len]
  exact ⟨size42, size42⟩
theorem range_below {u u' : World} {b o : Nat} {L : List Value} (h : u.rangeAt b o L) (hb : Below u.heap.size u u') (hlt : b < u.heap.size) : u'.rangeAt b o L := fun j v hv => (hb.cell hlt).trans (h j v hv)
theorem range_touch {u u' : World} {b o g : Nat} {L : List Value} (h : u.rangeAt b o L) (ht : Touch u u' g 4 1) (hlt : b < u.heap.size) (hne : b ≠ g) : u'.rangeAt b o L := fun j v hv => (ht.far hlt hne).trans (h j v hv)
theorem eq_ar (f : Nat → Nat) (u : World) : (Op.equalIn 10000 42 (.agg (arL f).toArray) (.agg (arL f).toArray)).run Tryd.prog u = .ok true u := eq_same (f 0 : Nat) (f 1 : Nat) (f 2 : Nat) (f 3 : Nat) (f 4 : Nat) (f 5 : Nat) (f 6 : Nat) (f 7 : Nat) (f 8 : Nat) (f 9 : Nat) (f 10 : Nat) (f 11 : Nat) (f 12 : Nat) (f 13 : Nat) (f 14 : Nat) (f 15 : Nat) u
/-- What stands behind both sides' answers of a block. -/
structure BlS (w : World) (g g2 gr nk : Nat) (K : Nat → Nat) (A1 A2 bb o : Nat) (EL DL SL : List Value) (u : World) : Prop where
  l : LwS w g g2 gr nk K u
  e : u.rangeAt A1 0 EL
  d : u.rangeAt A2 0 DL
  s : u.rangeAt bb o SL
  lt : A1 < u.heap.size ∧ A2 < u.heap.size ∧ bb < u.heap.size
theorem BlS.below {w u u' : World} {g g2 gr nk A1 A2 bb o : Nat} {K : Nat → Nat} {EL DL SL : List Value} (h : BlS w g g2 gr nk K A1 A2 bb o EL DL SL u) (hb : Below u.heap.size u u') : BlS w g g2 gr nk K A1 A2 bb o EL DL SL u' :=
  ⟨h.l.below hb, range_below h.e hb h.lt.1, range_below h.d hb h.lt.2.1, range_below h.s hb h.lt.2.2, by have := h.lt; have := hb.size; omega⟩
set_option maxHeartbeats 6400000 in
set_option maxRecDepth 100000 in
theorem blocks_good (kb ko cap nk : Nat) (kz : List Int) (ao : Option Addr) (m mc : Nat) (F : Nat → W4) (w : World) (hrc : RC w) (hnk : nk = 4 ∨ nk = 6 ∨ nk = 8) (hl : kz.length = 4 * nk) (hb : AllBytes kz) (hkb : kb < w.heap.size) (hcell : ∀ i, i < 4 * nk → w.cell? ⟨kb, ko + i, none⟩ = some (.int .u8 (kz.getD i 0))) (hB : Blks w ao m F) (hm : m ≤ mc) (hmc : mc ≤ 9223372036854775807) :
    Calls Tryd.prog 4 #[.slice (some ⟨kb, ko, none⟩) (4 * nk) cap, .slice ao m mc] w fun e w' => e = .returned (.bool true) ∧ Below w.heap.size w w' := by
  have HPOS : Hid (0 < w.heap.size) := World.block_lt_of_cell? w _ (hrc 0 (by decide))
  have HRC : Hid (RC w) := hrc
  have HNK : Hid (nk = 4 ∨ nk = 6 ∨ nk = 8) := hnk
  have HKB : Hid (kb < w.heap.size) := hkb
  have HKEY : Hid (∀ i, nat8K kz i < 256) := nat8K_lt hb
  have HCELL : Hid (∀ i, i < 4 * nk → w.cell? ⟨kb, ko + i, none⟩ = some (.int .u8 (nat8K kz i : Nat))) := fun i hi => by rw [hcell i hi, nat8K_eq hb]
  obtain ⟨K, HK⟩ : ∃ K, Hid (K = schedK nk (nat8K kz)) := ⟨_, rfl⟩
  have HKlt : Hid (∀ j, K j < 4294967296) := by show ∀ j, _; rw [HK.out]; exact schedK_lt HKEY.out
  have HN8 : Hid (nk ≤ 8) := by show _ ≤ _; omega
  have HBL : Hid (Blks w ao m F) := hB
  have hmi : ((m : Nat) : Int) ≤ 9223372036854775807 := by omega
  obtain ⟨n, HN⟩ : ∃ n, Hid (n = 4 * nk) := ⟨_, rfl⟩
  clear hrc hnk hl hb hkb hcell hB hm hmc
  rw [← HN.out]
  have KN : Hid (Calls Tryd.prog 9 #[.slice (some ⟨kb, ko, none⟩) n cap] w fun e w' => ∃ g, e = .returned (.tuple #[.pointer (some ⟨g, 0, none⟩), .int .i64 0]) ∧ w.heap.size ≤ g ∧ KeyAt w' g (nk + 6) K ∧ Below w.heap.size w w') := by
    rw [HK.out]
    exact new_ok kb ko n cap nk (nat8K kz) w HNK.out HN.out HKB.out (fun i hi => HCELL.out i (by have := HN.out; omega)) HKEY.out HRC.out HPOS.out
  go_enter Tryd.func4, Tryd.ntmps4
  go_wp2_with (first | (go_at_call 9; refine KN.out.mono ?_))
  rintro e1 w1 ⟨g, rfl, hg1, hk1, hb1⟩
  have HB1 : Hid (Below w.heap.size w w1) := hb1
  have HK1 : Hid (w.heap.size ≤ g ∧ KeyAt w1 g (nk + 6) K) := ⟨hg1, hk1⟩
  clear hg1 hk1 hb1 KN
  have KR : Hid (Calls Tryd.prog 10 #[.slice (some ⟨kb, ko, none⟩) n cap] w1 fun e w' => ∃ gr, e = .returned (.tuple #[.pointer (some ⟨w1.heap.size, 0, none⟩), .int .i64 0]) ∧ RefAt w' w1.heap.size gr nk K ∧ Below w1.heap.size w1 w') := by
    rw [HK.out]
    exact rnew_ok kb ko n cap nk (nat8K kz) w1 HNK.out HN.out (Nat.lt_of_lt_of_le HKB.out HB1.out.size) (fun i hi => (HB1.out.cell (p := ⟨kb, ko + i, none⟩) HKB.out).trans (HCELL.out i (by have := HN.out; omega))) HKEY.out
  go_wp2_with (first | (go_at_call 10; refine KR.out.mono ?_))
  rintro e2 w2 ⟨gr, rfl, hr2, hb2⟩
  obtain ⟨g2, HG2⟩ : ∃ b, Hid (w1.heap.size = b) := ⟨_, rfl⟩
  rw [HG2.out] at hr2 ⊢
  have HL2 : Hid (LwS w g g2 gr nk K w2) := by
    have h1 := HK1.out
    have h2 := h1.2.ciph.here
    have h3 := HG2.out
    refine ⟨HB1.out.trans (hb2.mono HB1.out.size), h1.2.sameK (hb2.block g h2) hb2.size, hr2, h1.1, ?_, hr2.gt⟩
    omega
  clear hr2 hb2 KR HK1 HB1 HG2
  go_wp2_with (first | (go_at_call 11; refine (num_okK _ _).mono ?_; rintro e9 w9 ⟨rfl, hw9⟩; obtain rfl := hw9.symm))
  go_loopw [9] (fun ii wr => ∃ k : Nat, k ≤ m ∧ k ≤ 8 ∧ ii = .int .i64 (k : Nat) ∧ Hid (LwS w g g2 gr nk K wr)) (fun ii _ => 8 - (intOf ii).toNat)
  case atStart => exact ⟨0, by omega, by omega, rfl, HL2.out⟩
  case round =>
    obtain ⟨k, hkm, hk8, rfl, HJ⟩ := hrel
    by_cases hlt : k < m ∧ k < 8
    · have hki : ((k : Nat) : Int) < ((m : Nat) : Int) := by omega
      have hk8i : ((k : Nat) : Int) < 8 := by omega
      obtain ⟨bb, off, rfl, hbb, hbs⟩ : ∃ b off, ao = some ⟨b, off, none⟩ ∧ b < w.heap.size ∧ ∀ i, i < m → (F i).ok ∧ w.rangeAt b (off + i * 16) (arL (sb (F i))) := by
        rcases HBL.out with h | h
        · omega
        · exact h
      obtain ⟨x, HX⟩ : ∃ x, Hid (x = F k) := ⟨_, rfl⟩
      obtain ⟨SL, HSL⟩ : ∃ L, Hid (L = arL (sb x)) := ⟨_, rfl⟩
      obtain ⟨EL, HEL⟩ : ∃ L, Hid (L = arL (sb (encW (nk + 6) K x))) := ⟨_, rfl⟩
      obtain ⟨DL, HDL⟩ : ∃ L, Hid (L = arL (sb (dcW (nk + 6) K x))) := ⟨_, rfl⟩
      have HXok : Hid (x.ok) := by show x.ok; rw [HX.out]; exact (hbs k hlt.1).1
      have HBB : Hid (bb < w.heap.size) := hbb
      have HWS : Hid (w.rangeAt bb (off + k * 16) SL) := by show World.rangeAt _ _ _ _; rw [HSL.out, HX.out]; exact (hbs k hlt.1).2
      have HAS : Hid (A16 SL) := by show A16 SL; rw [HSL.out]; exact a16 _
      have HAE : Hid (A16 EL) := by show A16 EL; rw [HEL.out]; exact a16 _
      have HAD : Hid (A16 DL) := by show A16 DL; rw [HDL.out]; exact a16 _
      have hqE : ∀ u, (Op.equalIn 10000 42 (.agg EL.toArray) (.agg EL.toArray)).run Tryd.prog u = .ok true u := by rw [HEL.out]; exact eq_ar _
      have hqD : ∀ u, (Op.equalIn 10000 42 (.agg DL.toArray) (.agg DL.toArray)).run Tryd.prog u = .ok true u := by rw [HDL.out]; exact eq_ar _
      have KE : Hid (∀ u, KeyAt u g (nk + 6) K → Calls Tryd.prog 21 #[.pointer (some ⟨g, 0, none⟩), .agg SL.toArray] u fun e u' => e = .returned (.tuple #[.agg EL.toArray, .int .i64 0]) ∧ KeyAt u' g (nk + 6) K ∧ Touch u u' g 4 1) := fun u hu => by
        rw [HSL.out, HEL.out, arL_array, arL_array, ← blk_sb, ← blk_sb]
        exact kenc_ok g (nk + 6) K x u hu HXok.out
      have KD : Hid (∀ u, KeyAt u g (nk + 6) K → Calls Tryd.prog 22 #[.pointer (some ⟨g, 0, none⟩), .agg SL.toArray] u fun e u' => e = .returned (.tuple #[.agg DL.toArray, .int .i64 0]) ∧ KeyAt u' g (nk + 6) K ∧ Touch u u' g 4 1) := fun u hu => by
        rw [HSL.out, HDL.out, arL_array, arL_array, ← blk_sb, ← blk_sb]
        exact kdec_ok g (nk + 6) K x u hu HXok.out
      have KE2 : Hid (∀ u, RefAt u g2 gr nk K → Calls Tryd.prog 23 #[.pointer (some ⟨g2, 0, none⟩), .agg SL.toArray] u fun e u' => e = .returned (.agg EL.toArray) ∧ Below u.heap.size u u') := fun u hu => by
        rw [HSL.out, HEL.out, arL_array, arL_array]
        exact renc_ok g2 gr nk K x u hu HN8.out HKlt.out HXok.out
      have KD2 : Hid (∀ u, RefAt u g2 gr nk K → Calls Tryd.prog 24 #[.pointer (some ⟨g2, 0, none⟩), .agg SL.toArray] u fun e u' => e = .returned (.agg DL.toArray) ∧ Below u.heap.size u u') := fun u hu => by
        rw [HSL.out, HDL.out, arL_array, arL_array]
        exact rdec_ok g2 gr nk K x u hu HN8.out HKlt.out HXok.out
      clear hbb hbs
      have HR0 : Hid (wr.rangeAt bb (off + k * 16) SL) := fun j v hv => (HJ.out.old.cell (p := ⟨bb, off + k * 16 + j, none⟩) HBB.out).trans (HWS.out j v hv)
      go_wp2_with (first
        | (refine wpList_load_mid (by rfl) 42 (.tmp 49) (by rfl) bb (off + k * 16) (by rfl) SL _ HR0.out Tryd.underlying42 rfl (a42 HAS.out).1 ?_)
        | (go_at_call 21; refine (KE.out _ HJ.out.k).mono ?_))
      rintro e3 w3 ⟨rfl, hk3, ht3⟩
      have H3 : Hid (LwS w g g2 gr nk K w3) := HJ.out.touch ht3 hk3
      clear hk3 ht3
      have H4 : Hid _ := box_new w3 EL HAE.out
      unfold z16 at H4
      go_upto_region 9 with (first
        | (refine wpList_store_mid (by rfl) 42 (.tmp 10) (.tmp 52) (by rfl) w3.heap.size 0 EL.toArray (by rfl) (by rfl) H4.out.2.2.2 (a42 HAE.out).2 HAE.out.one ?_))
      have H5 : Hid (LwS w g g2 gr nk K ((w3.alloc (.cells #[.int .u8 0, .int .u8 0, .int .u8 0, .int .u8 0, .int .u8 0, .int .u8 0, .int .u8 0, .int .u8 0, .int .u8 0, .int .u8 0, .int .u8 0, .int .u8 0, .int .u8 0, .int .u8 0, .int .u8 0, .int .u8 0] 42)).setCells w3.heap.size 0 EL)) := H3.out.below H4.out.1
      have H5' : Hid (((w3.alloc (.cells #[.int .u8 0, .int .u8 0, .int .u8 0, .int .u8 0, .int .u8 0, .int .u8 0, .int .u8 0, .int .u8 0, .int .u8 0, .int .u8 0, .int .u8 0, .int .u8 0, .int .u8 0, .int .u8 0, .int .u8 0, .int .u8 0] 42)).setCells w3.heap.size 0 EL).rangeAt w3.heap.size 0 EL ∧ w3.heap.size < ((w3.alloc (.cells #[.int .u8 0, .int .u8 0, .int .u8 0, .int .u8 0, .int .u8 0, .int .u8 0, .int .u8 0, .int .u8 0, .int .u8 0, .int .u8 0, .int .u8 0, .int .u8 0, .int .u8 0, .int .u8 0, .int .u8 0, .int .u8 0] 42)).setCells w3.heap.size 0 EL).heap.size) := ⟨H4.out.2.1, by rw [H4.out.2.2.1]; omega⟩
      clear H4
      obtain ⟨A1, HA1⟩ : ∃ b, Hid (w3.heap.size = b) := ⟨_, rfl⟩
      have HG1 : Hid (g < A1) := by show g < A1; rw [← HA1.out]; exact H3.out.lt.1
      have HW1 : Hid (w.heap.size ≤ A1) := by show _ ≤ A1; rw [← HA1.out]; exact H3.out.old.size
      generalize ((w3.alloc (.cells #[.int .u8 0, .int .u8 0, .int .u8 0, .int .u8 0, .int .u8 0, .int .u8 0, .int .u8 0, .int .u8 0, .int .u8 0, .int .u8 0, .int .u8 0, .int .u8 0, .int .u8 0, .int .u8 0, .int .u8 0, .int .u8 0] 42)).setCells w3.heap.size 0 EL) = w5 at H5 H5' ⊢
      rw [HA1.out] at H5' ⊢
      clear H3 HA1
      have HR5 : Hid (w5.rangeAt bb (off + k * 16) SL) := fun j v hv => (H5.out.old.cell (p := ⟨bb, off + k * 16 + j, none⟩) HBB.out).trans (HWS.out j v hv)
      go_wp2_with (first
        | (refine wpList_load_mid (by rfl) 42 (.tmp 58) (by rfl) bb (off + k * 16) (by rfl) SL _ HR5.out Tryd.underlying42 rfl (a42 HAS.out).1 ?_)
        | (go_at_call 22; refine (KD.out _ H5.out.k).mono ?_))
      rintro e6 w6 ⟨rfl, hk6, ht6⟩
      have H6 : Hid (LwS w g g2 gr nk K w6) := H5.out.touch ht6 hk6
      have H6' : Hid (w6.rangeAt A1 0 EL ∧ A1 < w6.heap.size) := ⟨range_touch H5'.out.1 ht6 H5'.out.2 (by have := HG1.out; omega), Nat.lt_of_lt_of_le H5'.out.2 ht6.size⟩
      clear hk6 ht6 H5 H5'
      have H7 : Hid _ := box_new w6 DL HAD.out
      unfold z16 at H7
      go_upto_region 13 with (first
        | (refine wpList_store_mid (by rfl) 42 (.tmp 12) (.tmp 61) (by rfl) w6.heap.size 0 DL.toArray (by rfl) (by rfl) H7.out.2.2.2 (a42 HAD.out).2 HAD.out.one ?_))
      have H8 : Hid (BlS w g g2 gr nk K A1 w6.heap.size bb (off + k * 16) EL DL SL ((w6.alloc (.cells #[.int .u8 0, .int .u8 0, .int .u8 0, .int .u8 0, .int .u8 0, .int .u8 0, .int .u8 0, .int .u8 0, .int .u8 0, .int .u8 0, .int .u8 0, .int .u8 0, .int .u8 0, .int .u8 0, .int .u8 0, .int .u8 0] 42)).setCells w6.heap.size 0 DL)) := by
        have hb7 := H7.out.1
        have hs7 := H7.out.2.2.1
        have hbw : bb < w6.heap.size := Nat.lt_of_lt_of_le HBB.out H6.out.old.size
        refine ⟨H6.out.below hb7, range_below H6'.out.1 hb7 H6'.out.2, H7.out.2.1, range_below (fun j v hv => (H6.out.old.cell (p := ⟨bb, off + k * 16 + j, none⟩) HBB.out).trans (HWS.out j v hv)) hb7 hbw, ?_⟩
        have := H6'.out.2
        omega
      clear H7 H6'
      obtain ⟨A2, HA2⟩ : ∃ b, Hid (w6.heap.size = b) := ⟨_, rfl⟩
      generalize ((w6.alloc (.cells #[.int .u8 0, .int .u8 0, .int .u8 0, .int .u8 0, .int .u8 0, .int .u8 0, .int .u8 0, .int .u8 0, .int .u8 0, .int .u8 0, .int .u8 0, .int .u8 0, .int .u8 0, .int .u8 0, .int .u8 0, .int .u8 0] 42)).setCells w6.heap.size 0 DL) = w0 at H8 ⊢
      rw [HA2.out] at H8 ⊢
      clear H6 HA2
      have hS0 : BlS w g g2 gr nk K A1 A2 bb (off + k * 16) EL DL SL w0.drew := H8.out.below ((Below.refl _ _).drew)
      obtain ⟨o, HO⟩ : ∃ t, Hid (off + k * 16 = t) := ⟨_, rfl⟩
      rw [HO.out] at hS0
      have hob : off + k * 16 = o := HO.out
      refine wp_region_noPanic ?_
      refine wp_region_held_drew (S := fun u => BlS w g g2 gr nk K A1 A2 bb o EL DL SL u) (by kernel_rfl) (hS0) (fun _ => ?_)
      refine takeH_at 0 83 (.int .i64 0) rfl rfl (by kernel_rfl) (by kernel_rfl) (by kernel_rfl) (fun _ _ _ h => h) (hS0) (Or.inl ⟨by kernel_rfl, fun w' hS' => by go_simp⟩) ?_
      simp only [List.setIfInBounds_toArray, List.set_cons_zero, List.set_cons_succ]
      refine wpAnyH_ready (rs := [1]) (by kernel_rfl) (by simp) ?_
      refine AllReadyH.cons rfl (fun Kx hK => ?_) AllReadyH.nil
      rw [if_pos (by kernel_rfl)]
      go_simp
      refine (num_okK _ _).mono ?_
      intro e1 q1 hh
      obtain ⟨he, hq1⟩ := hh
      subst he
      obtain rfl := hq1.symm
      have hS1 := hS0
      go_wp2_with fail
      refine hK.out _ _ hS1 (fun _ => ?_)
      clear hK Kx
      try simp only [Act.put, List.setIfInBounds_toArray, List.set_cons_zero, List.set_cons_succ]
      refine takeH_at 2 85 (.bool false) rfl rfl (by kernel_rfl) (by kernel_rfl) (by kernel_rfl) (fun _ _ _ h => h) (hS1) (Or.inl ⟨by kernel_rfl, fun w' hS' => by go_simp⟩) ?_
      simp only [List.setIfInBounds_toArray, List.set_cons_zero, List.set_cons_succ]
      refine takeH_at 3 86 (.bool false) rfl rfl (by kernel_rfl) (by kernel_rfl) (by kernel_rfl) (fun _ _ _ h => h) (hS1) (Or.inl ⟨by kernel_rfl, fun w' hS' => by go_simp⟩) ?_
      simp only [List.setIfInBounds_toArray, List.set_cons_zero, List.set_cons_succ]
      refine takeH_at 4 87 (.int .i64 0) rfl rfl (by kernel_rfl) (by kernel_rfl) (by kernel_rfl) (fun _ _ _ h => h) (hS1) (Or.inl ⟨by kernel_rfl, fun w' hS' => by go_simp⟩) ?_
      simp only [List.setIfInBounds_toArray, List.set_cons_zero, List.set_cons_succ]
      refine wpAnyH_ready (rs := [5]) (by kernel_rfl) (by simp) ?_
      refine AllReadyH.cons rfl (fun Kx hK => ?_) AllReadyH.nil
      rw [if_pos (by kernel_rfl)]
      go_simp
      refine (num_okK _ _).mono ?_
      intro e1 q2 hh
      obtain ⟨he, hq2⟩ := hh
      subst he
      obtain rfl := hq2.symm
      have hS2 := hS1
      go_wp2_with fail
      refine hK.out _ _ hS2 (fun _ => ?_)
      clear hK Kx
      try simp only [Act.put, List.setIfInBounds_toArray, List.set_cons_zero, List.set_cons_succ]
      refine takeH_at 6 89 (.bool false) rfl rfl (by kernel_rfl) (by kernel_rfl) (by kernel_rfl) (fun _ _ _ h => h) (hS2) (Or.inl ⟨by kernel_rfl, fun w' hS' => by go_simp⟩) ?_
      simp only [List.setIfInBounds_toArray, List.set_cons_zero, List.set_cons_succ]
      refine takeH_at 7 90 (.bool false) rfl rfl (by kernel_rfl) (by kernel_rfl) (by kernel_rfl) (fun _ _ _ h => h) (hS2) (Or.inl ⟨by kernel_rfl, fun w' hS' => by go_simp⟩) ?_
      simp only [List.setIfInBounds_toArray, List.set_cons_zero, List.set_cons_succ]
      refine takeH_at 8 91 (.bool false) rfl rfl (by kernel_rfl) (by kernel_rfl) (by kernel_rfl) (fun _ _ _ h => h) (hS2) (Or.inl ⟨by kernel_rfl, fun w' hS' => by go_simp⟩) ?_
      simp only [List.setIfInBounds_toArray, List.set_cons_zero, List.set_cons_succ]
      refine takeH_at 9 92 (.agg EL.toArray) rfl rfl (by kernel_rfl) (by kernel_rfl) (by kernel_rfl) (fun _ _ _ h => h) (hS2) (yieldsIf_load_mid (by kernel_rfl) 42 (.tmp 10) rfl A1 0 rfl EL _ (fun u hu => hu.e) Tryd.underlying42 rfl (a42 HAE.out).1) ?_
      simp only [List.setIfInBounds_toArray, List.set_cons_zero, List.set_cons_succ]
      refine takeH_at 10 93 (.pointer (some ⟨g2, 0, none⟩)) rfl rfl (by kernel_rfl) (by kernel_rfl) (by kernel_rfl) (fun _ _ _ h => h) (hS2) (Or.inl ⟨by kernel_rfl, fun w' hS' => by go_simp⟩) ?_
      simp only [List.setIfInBounds_toArray, List.set_cons_zero, List.set_cons_succ]
      refine takeH_at 11 94 (.slice (some ⟨bb, off, none⟩) m mc) rfl rfl (by kernel_rfl) (by kernel_rfl) (by kernel_rfl) (fun _ _ _ h => h) (hS2) (Or.inl ⟨by kernel_rfl, fun w' hS' => by go_simp⟩) ?_
      simp only [List.setIfInBounds_toArray, List.set_cons_zero, List.set_cons_succ]
      refine takeH_at 12 95 (.int .i64 (k : Nat)) rfl rfl (by kernel_rfl) (by kernel_rfl) (by kernel_rfl) (fun _ _ _ h => h) (hS2) (Or.inl ⟨by kernel_rfl, fun w' hS' => by go_simp⟩) ?_
      simp only [List.setIfInBounds_toArray, List.set_cons_zero, List.set_cons_succ]
      refine takeH_at 13 96 (.pointer (some ⟨bb, o, none⟩)) rfl rfl (by kernel_rfl) (by kernel_rfl) (by kernel_rfl) (fun _ _ _ h => h) (hS2) (Or.inl ⟨by kernel_rfl, fun w' hS' => by go_simp⟩) ?_
      simp only [List.setIfInBounds_toArray, List.set_cons_zero, List.set_cons_succ]
      refine takeH_at 14 97 (.agg SL.toArray) rfl rfl (by kernel_rfl) (by kernel_rfl) (by kernel_rfl) (fun _ _ _ h => h) (hS2) (yieldsIf_load_mid (by kernel_rfl) 42 (.tmp 96) rfl bb o rfl SL _ (fun u hu => hu.s) Tryd.underlying42 rfl (a42 HAS.out).1) ?_
      simp only [List.setIfInBounds_toArray, List.set_cons_zero, List.set_cons_succ]
      refine wpAnyH_ready (rs := [15]) (by kernel_rfl) (by simp) ?_
      refine AllReadyH.cons rfl (fun Kx hK => ?_) AllReadyH.nil
      rw [if_pos (by kernel_rfl)]
      go_simp
      refine (KE2.out _ hS2.l.r).mono ?_
      intro e1 q3 hh
      obtain ⟨he, hq3⟩ := hh
      subst he
      have hS3 := (hS2).below hq3
      go_wp2_with fail
      refine hK.out _ _ hS3 (fun _ => ?_)
      clear hK Kx
      try simp only [Act.put, List.setIfInBounds_toArray, List.set_cons_zero, List.set_cons_succ]
      refine takeH_at 16 99 (.bool false) rfl rfl (by kernel_rfl) (by kernel_rfl) (by kernel_rfl) (fun _ _ _ h => h) (hS3) (Or.inl ⟨by kernel_rfl, fun w' hS' => by have q1 := hqE w'; go_simp⟩) ?_
      simp only [List.setIfInBounds_toArray, List.set_cons_zero, List.set_cons_succ]
      refine takeH_at 17 100 (.bool false) rfl rfl (by kernel_rfl) (by kernel_rfl) (by kernel_rfl) (fun _ _ _ h => h) (hS3) (Or.inl ⟨by kernel_rfl, fun w' hS' => by go_simp⟩) ?_
      simp only [List.setIfInBounds_toArray, List.set_cons_zero, List.set_cons_succ]
      refine takeH_at 18 101 (.bool false) rfl rfl (by kernel_rfl) (by kernel_rfl) (by kernel_rfl) (fun _ _ _ h => h) (hS3) (Or.inl ⟨by kernel_rfl, fun w' hS' => by go_simp⟩) ?_
      simp only [List.setIfInBounds_toArray, List.set_cons_zero, List.set_cons_succ]
      refine takeH_at 19 102 (.agg DL.toArray) rfl rfl (by kernel_rfl) (by kernel_rfl) (by kernel_rfl) (fun _ _ _ h => h) (hS3) (yieldsIf_load_mid (by kernel_rfl) 42 (.tmp 12) rfl A2 0 rfl DL _ (fun u hu => hu.d) Tryd.underlying42 rfl (a42 HAD.out).1) ?_
      simp only [List.setIfInBounds_toArray, List.set_cons_zero, List.set_cons_succ]
      refine takeH_at 20 103 (.pointer (some ⟨g2, 0, none⟩)) rfl rfl (by kernel_rfl) (by kernel_rfl) (by kernel_rfl) (fun _ _ _ h => h) (hS3) (Or.inl ⟨by kernel_rfl, fun w' hS' => by go_simp⟩) ?_
      simp only [List.setIfInBounds_toArray, List.set_cons_zero, List.set_cons_succ]
      refine takeH_at 21 104 (.slice (some ⟨bb, off, none⟩) m mc) rfl rfl (by kernel_rfl) (by kernel_rfl) (by kernel_rfl) (fun _ _ _ h => h) (hS3) (Or.inl ⟨by kernel_rfl, fun w' hS' => by go_simp⟩) ?_
      simp only [List.setIfInBounds_toArray, List.set_cons_zero, List.set_cons_succ]
      refine takeH_at 22 105 (.int .i64 (k : Nat)) rfl rfl (by kernel_rfl) (by kernel_rfl) (by kernel_rfl) (fun _ _ _ h => h) (hS3) (Or.inl ⟨by kernel_rfl, fun w' hS' => by go_simp⟩) ?_
      simp only [List.setIfInBounds_toArray, List.set_cons_zero, List.set_cons_succ]
      refine takeH_at 23 106 (.pointer (some ⟨bb, o, none⟩)) rfl rfl (by kernel_rfl) (by kernel_rfl) (by kernel_rfl) (fun _ _ _ h => h) (hS3) (Or.inl ⟨by kernel_rfl, fun w' hS' => by go_simp⟩) ?_
      simp only [List.setIfInBounds_toArray, List.set_cons_zero, List.set_cons_succ]
      refine takeH_at 24 107 (.agg SL.toArray) rfl rfl (by kernel_rfl) (by kernel_rfl) (by kernel_rfl) (fun _ _ _ h => h) (hS3) (yieldsIf_load_mid (by kernel_rfl) 42 (.tmp 106) rfl bb o rfl SL _ (fun u hu => hu.s) Tryd.underlying42 rfl (a42 HAS.out).1) ?_
      simp only [List.setIfInBounds_toArray, List.set_cons_zero, List.set_cons_succ]
      refine wpAnyH_ready (rs := [25]) (by kernel_rfl) (by simp) ?_
      refine AllReadyH.cons rfl (fun Kx hK => ?_) AllReadyH.nil
      rw [if_pos (by kernel_rfl)]
      go_simp
      refine (KD2.out _ hS3.l.r).mono ?_
      intro e1 q4 hh
      obtain ⟨he, hq4⟩ := hh
      subst he
      have hS4 := (hS3).below hq4
      go_wp2_with fail
      refine hK.out _ _ hS4 (fun _ => ?_)
      clear hK Kx
      try simp only [Act.put, List.setIfInBounds_toArray, List.set_cons_zero, List.set_cons_succ]
      refine takeH_at 26 109 (.bool false) rfl rfl (by kernel_rfl) (by kernel_rfl) (by kernel_rfl) (fun _ _ _ h => h) (hS4) (Or.inl ⟨by kernel_rfl, fun w' hS' => by have q1 := hqD w'; go_simp⟩) ?_
      simp only [List.setIfInBounds_toArray, List.set_cons_zero, List.set_cons_succ]
      refine takeH_at 27 110 (.bool false) rfl rfl (by kernel_rfl) (by kernel_rfl) (by kernel_rfl) (fun _ _ _ h => h) (hS4) (Or.inl ⟨by kernel_rfl, fun w' hS' => by go_simp⟩) ?_
      simp only [List.setIfInBounds_toArray, List.set_cons_zero, List.set_cons_succ]
      refine wpAnyH_done (by kernel_rfl) ?_ _
      refine NoPanic.normal ?_
      have HE : Hid (LwS w g g2 gr nk K _) := hS4.l
      clear hS0 hS1 hS2 hS3 hS4
      go_wp2
      refine ⟨⟨k + 1, by omega, by omega, rfl, HE.out⟩, by simp only [intOf]; omega⟩
    · have HQ : Hid (Below w.heap.size w wr) := HJ.out.old
      by_cases hkl : k < m
      · have hki : ((k : Nat) : Int) < ((m : Nat) : Int) := by omega
        obtain rfl : k = 8 := by omega
        go_wp2
        go_ret
        exact ⟨rfl, HQ.out⟩
      · obtain rfl : k = m := by omega
        go_wp2
        go_ret
        exact ⟨rfl, HQ.out⟩
set_option maxHeartbeats 6400000 in
set_option maxRecDepth 100000 in
theorem blocks_bad (a : Option Addr) (n cap : Nat) (ao : Option Addr) (m mc : Nat) (F : Nat → W4) (w : World) (hn : n ≠ 16 ∧ n ≠ 24 ∧ n ≠ 32) (hB : Blks w ao m F) (hm : m ≤ mc) (hmc : mc ≤ 9223372036854775807) :
    Calls Tryd.prog 4 #[.slice a n cap, .slice ao m mc] w fun e w' => e = .returned (.bool true) ∧ Below w.heap.size w w' := by
  have HBL : Hid (Blks w ao m F) := hB
  have hmi : ((m : Nat) : Int) ≤ 9223372036854775807 := by omega
  have KN : Hid (Calls Tryd.prog 9 #[.slice a n cap] w fun e w' => e = .returned (.tuple #[.pointer none, .int .i64 20]) ∧ w' = w) := new_bad _ n cap w hn
  have KR : Hid (Calls Tryd.prog 10 #[.slice a n cap] w fun e w' => e = .returned (.tuple #[.pointer none, .int .i64 20]) ∧ w' = w) := rnew_bad a n cap w hn
  clear hn hB hm hmc
  go_enter Tryd.func4, Tryd.ntmps4
  go_wp2_with (first
    | (go_at_call 9; refine KN.out.mono ?_; rintro e2 w2 ⟨rfl, hw2⟩; obtain rfl := hw2.symm)
    | (go_at_call 10; refine KR.out.mono ?_; rintro e2 w2 ⟨rfl, hw2⟩; obtain rfl := hw2.symm)
    | (go_at_call 11; refine (num_okK _ _).mono ?_; rintro e9 w9 ⟨rfl, hw9⟩; obtain rfl := hw9.symm))
  clear KN KR
  go_loopw [9] (fun ii wr => ∃ k : Nat, k ≤ m ∧ k ≤ 8 ∧ ii = .int .i64 (k : Nat) ∧ Hid (Below w.heap.size w wr)) (fun ii _ => 8 - (intOf ii).toNat)
  case atStart => exact ⟨0, by omega, by omega, rfl, Below.refl _ _⟩
  case round =>
    obtain ⟨k, hkm, hk8, rfl, HJ⟩ := hrel
    by_cases hlt : k < m ∧ k < 8
    · have hki : ((k : Nat) : Int) < ((m : Nat) : Int) := by omega
      have hk8i : ((k : Nat) : Int) < 8 := by omega
      obtain ⟨bb, off, rfl, hbb, hbs⟩ : ∃ b off, ao = some ⟨b, off, none⟩ ∧ b < w.heap.size ∧ ∀ i, i < m → (F i).ok ∧ w.rangeAt b (off + i * 16) (arL (sb (F i))) := by
        rcases HBL.out with h | h
        · omega
        · exact h
      obtain ⟨x, HX⟩ : ∃ x, Hid (x = F k) := ⟨_, rfl⟩
      obtain ⟨SL, HSL⟩ : ∃ L, Hid (L = arL (sb x)) := ⟨_, rfl⟩
      have HBB : Hid (bb < w.heap.size) := hbb
      have HWS : Hid (w.rangeAt bb (off + k * 16) SL) := by show World.rangeAt _ _ _ _; rw [HSL.out, HX.out]; exact (hbs k hlt.1).2
      have HAS : Hid (A16 SL) := by show A16 SL; rw [HSL.out]; exact a16 _
      obtain ⟨ZL, HZL⟩ : ∃ L, Hid (L = arL zero8) := ⟨_, rfl⟩
      have HAZ : Hid (A16 ZL) := by show A16 ZL; rw [HZL.out]; exact a16 _
      have hq0 : ∀ u, (Op.equalIn 10000 42 (.agg ZL.toArray) (.agg #[.int .u8 0, .int .u8 0, .int .u8 0, .int .u8 0, .int .u8 0, .int .u8 0, .int .u8 0, .int .u8 0, .int .u8 0, .int .u8 0, .int .u8 0, .int .u8 0, .int .u8 0, .int .u8 0, .int .u8 0, .int .u8 0])).run Tryd.prog u = .ok true u := fun u => by rw [HZL.out]; exact eq_same 0 0 0 0 0 0 0 0 0 0 0 0 0 0 0 0 u
      have KE : Hid (∀ u, Calls Tryd.prog 21 #[.pointer none, .agg SL.toArray] u fun e u' => e = .returned (.tuple #[.agg ZL.toArray, .int .i64 1]) ∧ Below u.heap.size u u') := fun u => by
        rw [HSL.out, HZL.out, arL_array, arL_array, ← z16_ar]
        exact kenc_nil _ u
      have KD : Hid (∀ u, Calls Tryd.prog 22 #[.pointer none, .agg SL.toArray] u fun e u' => e = .returned (.tuple #[.agg ZL.toArray, .int .i64 1]) ∧ Below u.heap.size u u') := fun u => by
        rw [HSL.out, HZL.out, arL_array, arL_array, ← z16_ar]
        exact kdec_nil _ u
      clear hbb hbs
      have HR0 : Hid (wr.rangeAt bb (off + k * 16) SL) := fun j v hv => (HJ.out.cell (p := ⟨bb, off + k * 16 + j, none⟩) HBB.out).trans (HWS.out j v hv)
      go_wp2_with (first
        | (refine wpList_load_mid (by rfl) 42 (.tmp 49) (by rfl) bb (off + k * 16) (by rfl) SL _ HR0.out Tryd.underlying42 rfl (a42 HAS.out).1 ?_)
        | (go_at_call 21; refine (KE.out _).mono ?_))
      rintro e3 w3 ⟨rfl, hb3⟩
      have H3 : Hid (Below w.heap.size w w3) := HJ.out.trans (hb3.mono HJ.out.size)
      clear hb3
      have H4 : Hid _ := box_new w3 ZL HAZ.out
      unfold z16 at H4
      go_upto_region 9 with (first
        | (refine wpList_store_mid (by rfl) 42 (.tmp 10) (.tmp 52) (by rfl) w3.heap.size 0 ZL.toArray (by rfl) (by rfl) H4.out.2.2.2 (a42 HAZ.out).2 HAZ.out.one ?_))
      have H5 : Hid (Below w.heap.size w ((w3.alloc (.cells #[.int .u8 0, .int .u8 0, .int .u8 0, .int .u8 0, .int .u8 0, .int .u8 0, .int .u8 0, .int .u8 0, .int .u8 0, .int .u8 0, .int .u8 0, .int .u8 0, .int .u8 0, .int .u8 0, .int .u8 0, .int .u8 0] 42)).setCells w3.heap.size 0 ZL)) := H3.out.trans (H4.out.1.mono H3.out.size)
      have H5' : Hid (((w3.alloc (.cells #[.int .u8 0, .int .u8 0, .int .u8 0, .int .u8 0, .int .u8 0, .int .u8 0, .int .u8 0, .int .u8 0, .int .u8 0, .int .u8 0, .int .u8 0, .int .u8 0, .int .u8 0, .int .u8 0, .int .u8 0, .int .u8 0] 42)).setCells w3.heap.size 0 ZL).rangeAt w3.heap.size 0 ZL ∧ w3.heap.size < ((w3.alloc (.cells #[.int .u8 0, .int .u8 0, .int .u8 0, .int .u8 0, .int .u8 0, .int .u8 0, .int .u8 0, .int .u8 0, .int .u8 0, .int .u8 0, .int .u8 0, .int .u8 0, .int .u8 0, .int .u8 0, .int .u8 0, .int .u8 0] 42)).setCells w3.heap.size 0 ZL).heap.size) := ⟨H4.out.2.1, by rw [H4.out.2.2.1]; omega⟩
      clear H4
      obtain ⟨A1, HA1⟩ : ∃ b, Hid (w3.heap.size = b) := ⟨_, rfl⟩
      generalize ((w3.alloc (.cells #[.int .u8 0, .int .u8 0, .int .u8 0, .int .u8 0, .int .u8 0, .int .u8 0, .int .u8 0, .int .u8 0, .int .u8 0, .int .u8 0, .int .u8 0, .int .u8 0, .int .u8 0, .int .u8 0, .int .u8 0, .int .u8 0] 42)).setCells w3.heap.size 0 ZL) = w5 at H5 H5' ⊢
      rw [HA1.out] at H5' ⊢
      clear H3 HA1
      have HR5 : Hid (w5.rangeAt bb (off + k * 16) SL) := fun j v hv => (H5.out.cell (p := ⟨bb, off + k * 16 + j, none⟩) HBB.out).trans (HWS.out j v hv)
      go_wp2_with (first
        | (refine wpList_load_mid (by rfl) 42 (.tmp 58) (by rfl) bb (off + k * 16) (by rfl) SL _ HR5.out Tryd.underlying42 rfl (a42 HAS.out).1 ?_)
        | (go_at_call 22; refine (KD.out _).mono ?_))
      rintro e6 w6 ⟨rfl, hb6⟩
      have H6 : Hid (Below w.heap.size w w6) := H5.out.trans (hb6.mono H5.out.size)
      have H6' : Hid (w6.rangeAt A1 0 ZL ∧ A1 < w6.heap.size) := ⟨range_below H5'.out.1 hb6 H5'.out.2, Nat.lt_of_lt_of_le H5'.out.2 hb6.size⟩
      clear hb6 H5 H5'
      have H7 : Hid _ := box_new w6 ZL HAZ.out
      unfold z16 at H7
      go_upto_region 11 with (first
        | (refine wpList_store_mid (by rfl) 42 (.tmp 12) (.tmp 61) (by rfl) w6.heap.size 0 ZL.toArray (by rfl) (by rfl) H7.out.2.2.2 (a42 HAZ.out).2 HAZ.out.one ?_))
      have H8 : Hid (Below w.heap.size w ((w6.alloc (.cells #[.int .u8 0, .int .u8 0, .int .u8 0, .int .u8 0, .int .u8 0, .int .u8 0, .int .u8 0, .int .u8 0, .int .u8 0, .int .u8 0, .int .u8 0, .int .u8 0, .int .u8 0, .int .u8 0, .int .u8 0, .int .u8 0] 42)).setCells w6.heap.size 0 ZL) ∧ ((w6.alloc (.cells #[.int .u8 0, .int .u8 0, .int .u8 0, .int .u8 0, .int .u8 0, .int .u8 0, .int .u8 0, .int .u8 0, .int .u8 0, .int .u8 0, .int .u8 0, .int .u8 0, .int .u8 0, .int .u8 0, .int .u8 0, .int .u8 0] 42)).setCells w6.heap.size 0 ZL).rangeAt A1 0 ZL ∧ ((w6.alloc (.cells #[.int .u8 0, .int .u8 0, .int .u8 0, .int .u8 0, .int .u8 0, .int .u8 0, .int .u8 0, .int .u8 0, .int .u8 0, .int .u8 0, .int .u8 0, .int .u8 0, .int .u8 0, .int .u8 0, .int .u8 0, .int .u8 0] 42)).setCells w6.heap.size 0 ZL).rangeAt w6.heap.size 0 ZL) :=
        ⟨H6.out.trans (H7.out.1.mono H6.out.size), range_below H6'.out.1 H7.out.1 H6'.out.2, H7.out.2.1⟩
      clear H7 H6'
      obtain ⟨A2, HA2⟩ : ∃ b, Hid (w6.heap.size = b) := ⟨_, rfl⟩
      generalize ((w6.alloc (.cells #[.int .u8 0, .int .u8 0, .int .u8 0, .int .u8 0, .int .u8 0, .int .u8 0, .int .u8 0, .int .u8 0, .int .u8 0, .int .u8 0, .int .u8 0, .int .u8 0, .int .u8 0, .int .u8 0, .int .u8 0, .int .u8 0] 42)).setCells w6.heap.size 0 ZL) = w0 at H8 ⊢
      rw [HA2.out] at H8 ⊢
      clear H6 HA2
      go_wp2_with (first
        | (go_at_call 11; refine (num_okK _ _).mono ?_; rintro e9 w9 ⟨rfl, hw9⟩; obtain rfl := hw9.symm)
        | (refine wpList_load_wantK (by rfl) 42 (.tmp 10) (by rfl) A1 0 (by rfl) ZL _ H8.out.2.1 Tryd.underlying42 rfl (a42 HAZ.out).1 ?_)
        | (refine wpList_load_wantK (by rfl) 42 (.tmp 12) (by rfl) A2 0 (by rfl) ZL _ H8.out.2.2 Tryd.underlying42 rfl (a42 HAZ.out).1 ?_))
      refine ⟨⟨k + 1, by omega, by omega, rfl, H8.out.1⟩, by simp only [intOf]; omega⟩
    · by_cases hkl : k < m
      · have hki : ((k : Nat) : Int) < ((m : Nat) : Int) := by omega
        obtain rfl : k = 8 := by omega
        go_wp2
        go_ret
        exact ⟨rfl, HJ.out⟩
      · obtain rfl : k = m := by omega
        go_wp2
        go_ret
        exact ⟨rfl, HJ.out⟩
theorem blocks_any (v : Value) (kz : List Int) (ao : Option Addr) (m mc : Nat) (F : Nat → W4) (w : World) (hrc : RC w) (hv : View w v kz) (hb : AllBytes kz) (hB : Blks w ao m F) (hm : m ≤ mc) (hmc : mc ≤ 9223372036854775807) :
    Calls Tryd.prog 4 #[v, .slice ao m mc] w fun e w' => e = .returned (.bool true) ∧ Below w.heap.size w w' := by
  have hv0 := hv
  obtain ⟨a, cap, rfl, h1, h2, h3, h4⟩ := hv
  by_cases hn : kz.length = 16 ∨ kz.length = 24 ∨ kz.length = 32
  · obtain ⟨nk, hnk, hlen⟩ : ∃ nk, (nk = 4 ∨ nk = 6 ∨ nk = 8) ∧ kz.length = 4 * nk := by
      rcases hn with h | h | h
      · exact ⟨4, by decide, h⟩
      · exact ⟨6, by decide, h⟩
      · exact ⟨8, by decide, h⟩
    rcases h4 with rfl | ⟨b, off, rfl, hc⟩
    · simp at hn
    · have hbl : b < w.heap.size := World.block_lt_of_cell? w _ (hc 0 (by omega))
      rw [hlen] at hv0 hc ⊢
      exact blocks_good b off cap nk kz ao m mc F w hrc hnk hlen hb hbl hc hB hm hmc
  · exact blocks_bad a kz.length cap ao m mc F w ⟨fun h => hn (.inl h), fun h => hn (.inr (.inl h)), fun h => hn (.inr (.inr h))⟩ hB hm hmc
end Go.Proofs.YtgmfiljjogdccaaDoor
