import Derived.Test.YtgmfiljjogdccabGreatDoorPart00
import Derived.Test.YtgmfiljjogdccabGreatDoorPart43
import Derived.Test.YtgmfiljjogdccabGreatDoorPart24
import Derived.Test.YtgmfiljjogdccabGreatDoorPart28
namespace Go.Proofs.YtgmfiljjogdccabGreatDoor
open Go.RowKit Go.RwLone Go.Conc.Locks
set_option linter.unusedVariables false
set_option linter.unusedSimpArgs false
set_option maxHeartbeats 6400000 in
set_option maxRecDepth 100000 in
theorem one_block2 (w : World) (B m : Nat) (kx : Option Kx) (g : Bool) (an : Nat) (sx : Nat → Sx) (av lv : Value) (lz : List Int) (o : OpV) (h : BS w B m kx g g an sx av lv lz) (he : Even an sx) (ho : OpOk o) (hd : Dat w (BW m kx an sx av) o.dv o.zs) (hk : o.k = 4) (k : Kx) (hx : kx = some k) (hg : g = false) :
  Calls Tryz.prog 7 #[.pointer (some ⟨m, 0, none⟩), .agg o.L.toArray] w (OneP w B m kx an)   := by
 subst hx hg
 obtain ⟨ok, oa, on, os, da, dn, dc, zs⟩ := o
 simp only at hk
 subst hk
 obtain ⟨S, HS⟩ : ∃ S, Hid (S = BW m (some k) an sx av) := ⟨_, rfl⟩
 obtain ⟨h1, h2, h3, h4⟩ := os_start _ h hd
 have HOK : Hid (OpOk ⟨4, oa, on, os, da, dn, dc, zs⟩) := ho
 have HEV : Hid (Even an sx) := he
 have HBm : Hid (B ≤ w.heap.size) := Nat.le_trans h.ord.1 (Nat.le_of_lt h.mlt)
 obtain ⟨W1, HW1⟩ : ∃ W, Hid (W = w.alloc (.cells (OpV.L ⟨4, oa, on, os, da, dn, dc, zs⟩).toArray 40)) := ⟨_, rfl⟩
 rw [← HW1.out] at h1 h2 h3 h4
 have H1 : Hid (BS W1 B m (some k) false false an sx av lv lz) := h1
 have H2 : Hid (OpAt W1 (BW m (some k) an sx av) w.heap.size ⟨4, oa, on, os, da, dn, dc, zs⟩) := h2
 have H3 : Hid (Dat W1 (BW m (some k) an sx av) (.slice da dn dc) zs) := h3
 have H4 : Hid (Below w.heap.size w W1) := h4
 have c19 : W1.cell? ⟨w.heap.size, 19, none⟩ = some (.slice da dn dc) := H2.out.cell 19 _ rfl
 have c0 : W1.cell? ⟨w.heap.size, 0, none⟩ = some (.int .i64 4) := H2.out.cell 0 _ rfl
 have K11 : Hid (Calls Tryz.prog 11 #[.slice da dn dc] W1 fun e w' => ∃ v', e = .returned v' ∧ Marked W1.heap.size w' v' zs ∧ Below W1.heap.size W1 w') := copy_any _ zs W1 ho.mx h3.vw
 clear h1 h2 h3 h4 h he ho hd
 unfold OpV.L at HW1 ⊢
 simp only at HW1 ⊢
 generalize sb os 0 = s0 at HW1 ⊢
 generalize sb os 1 = s1 at HW1 ⊢
 generalize sb os 2 = s2 at HW1 ⊢
 generalize sb os 3 = s3 at HW1 ⊢
 generalize sb os 4 = s4 at HW1 ⊢
 generalize sb os 5 = s5 at HW1 ⊢
 generalize sb os 6 = s6 at HW1 ⊢
 generalize sb os 7 = s7 at HW1 ⊢
 generalize sb os 8 = s8 at HW1 ⊢
 generalize sb os 9 = s9 at HW1 ⊢
 generalize sb os 10 = s10 at HW1 ⊢
 generalize sb os 11 = s11 at HW1 ⊢
 generalize sb os 12 = s12 at HW1 ⊢
 generalize sb os 13 = s13 at HW1 ⊢
 generalize sb os 14 = s14 at HW1 ⊢
 generalize sb os 15 = s15 at HW1 ⊢
 obtain ⟨bo, HBO⟩ : ∃ b, Hid (w.heap.size = b) := ⟨_, rfl⟩
 go_enter Tryz.func7, Tryz.ntmps7
 go_upto_region 1 with fail
 rw [← HW1.out, HBO.out]
 rw [HBO.out] at H2 c19 c0
 go_wp2_with (first | (go_at_call 11; refine K11.out.mono ?_))
 rintro e2 w2 ⟨own, rfl, hm2, hb2⟩
 have H : Hid (OS w2 B m (some k) false false an sx av lv lz (BW m (some k) an sx av) bo ⟨4, oa, on, os, da, dn, dc, zs⟩ own) := os_copied H1.out H2.out H3.out hm2 hb2
 have HB : Hid (Below B w w2) := (H4.out.mono HBm.out).trans (hb2.mono (Nat.le_trans HBm.out H4.out.size))
 clear hm2 hb2 c19 c0 K11 H1 H2 H3 H4
 have c0 : w2.cell? ⟨bo, 0, none⟩ = some (.int .i64 4) := H.out.op.cell 0 _ rfl
 obtain ⟨SL, HSL⟩ : ∃ L, Hid (L = arL (sb os)) := ⟨_, rfl⟩
 have HSB : Hid (B16 SL) := by show B16 _; rw [HSL.out]; exact b16 _
 obtain ⟨XL, HXL⟩ : ∃ L, Hid (L = arL (EncR (some k) false os)) := ⟨_, rfl⟩
 obtain ⟨DL, HDL⟩ : ∃ L, Hid (L = arL (DecR (some k) false os)) := ⟨_, rfl⟩
 have HXB : Hid (B16 XL) := by show B16 _; rw [HXL.out]; exact b16 _
 have HDB : Hid (B16 DL) := by show B16 _; rw [HDL.out]; exact b16 _
 have K21 : Hid (∀ u w0, SF w0 u B m (some k) false an sx av lv lz → Calls Tryz.prog 21 #[.pointer (some ⟨k.g, 0, none⟩), .agg SL.toArray] u fun e u' => e = .returned (.tuple #[.agg XL.toArray, .int .i64 0]) ∧ BS u' B m (some k) false false an sx av lv lz ∧ FrP u u' (BW m (some k) an sx av)) := fun u w0 hu => by
  rw [HSL.out, HXL.out, arL_array, arL_array]
  exact kenc_b os HOK.out.s hu.s
 have K22 : Hid (∀ u w0, SF w0 u B m (some k) false an sx av lv lz → Calls Tryz.prog 22 #[.pointer (some ⟨k.g, 0, none⟩), .agg SL.toArray] u fun e u' => e = .returned (.tuple #[.agg DL.toArray, .int .i64 0]) ∧ BS u' B m (some k) false false an sx av lv lz ∧ FrP u u' (BW m (some k) an sx av)) := fun u w0 hu => by
  rw [HSL.out, HDL.out, arL_array, arL_array]
  exact kdec_b os HOK.out.s hu.s
 have Hw2 : Hid (OS w2 B m (some k) false false an sx av lv lz (BW m (some k) an sx av) bo ⟨4, oa, on, os, da, dn, dc, zs⟩ own) := H
 clear H
 go_upto_region 21 with fail
 go_cut [15, 16] from 149 to 158 (fun p e wx => ∃ A, p = .pointer (some ⟨A, 0, none⟩) ∧ e = .int .i64 0 ∧ Hid (SF w2 wx B m (some k) false an sx av lv lz ∧ BxAt wx (BW m (some k) an sx av) A XL))
 case first =>
  have hS0 : SF w2 w2.drew B m (some k) false an sx av lv lz := ⟨Hw2.out.s.below ((Below.refl _ _).drew), below_frp ((Below.refl _ _).drew) _⟩
  refine wp_region_noPanic ?_
  refine wp_region_held_drew (S := fun u => SF w2 u B m (some k) false an sx av lv lz) (by kernel_rfl) (hS0) (fun _ => ?_)
  refine tG 0 150 (.pointer (some ⟨m, 0, none⟩)) rfl rfl hS0 ?_
  simp only [pU]
  refine tG 1 151 (.pointer (some ⟨m, 0, none⟩)) rfl rfl hS0 ?_
  simp only [pU]
  refine tG 2 152 (.pointer (some ⟨m, 0, none⟩)) rfl rfl hS0 ?_
  simp only [pU]
  refine tH 3 153 (.pointer (some ⟨k.g, 0, none⟩)) rfl rfl (by kernel_rfl) (hS0) (Or.inl ⟨by rfl, fun w' hS' => by have q1 : w'.cell? ⟨m, 0, none⟩ = some (.pointer (some ⟨k.g, 0, none⟩)) := hS'.s.ck; go_simp⟩) ?_
  simp only [pU]
  refine tG 4 154 (.pointer (some ⟨bo, 3, none⟩)) rfl rfl hS0 ?_
  simp only [pU]
  refine tH 5 155 (.agg SL.toArray) rfl rfl (by kernel_rfl) (hS0) (yieldsIf_load_mid (by kernel_rfl) 38 (.tmp 154) rfl bo 3 rfl SL _ (fun u hu => by rw [HSL.out]; exact (Hw2.out.op.frp hu.f).start) Tryz.underlying38 rfl HSB.out.sz) ?_
  simp only [pU]
  refine wpAnyH_ready (rs := [6, 10]) (by kernel_rfl) (by simp) ?_
  refine AllReadyH.cons rfl (fun K hK => ?_) (AllReadyH.cons rfl (fun K hK => ?_) AllReadyH.nil)
  ·skip
   go_simp
   refine (K21.out _ _ hS0).mono ?_
   rintro e1 u1 ⟨rfl, s1, f1⟩
   have hS1 : SF w2 u1 B m (some k) false an sx av lv lz := hS0.then s1 f1
   go_wp2_with fail
   refine hK.out _ _ hS1 (fun _ => ?_)
   clear hK K
   try simp only [pU]
   refine tG 7 149 (.tuple #[.agg XL.toArray, .int .i64 0]) rfl rfl hS1 ?_
   simp only [pU]
   refine tG 8 157 (.agg XL.toArray) rfl rfl hS1 ?_
   simp only [pU]
   refine tG 9 158 (.int .i64 0) rfl rfl hS1 ?_
   simp only [pU]
   refine wpAnyH_ready (rs := [10]) (by kernel_rfl) (by simp) ?_
   refine AllReadyH.cons rfl (fun K hK => ?_) AllReadyH.nil
   go_simp
   have hSa : SF w2 (World.alloc u1 (.cells #[.int .u8 0, .int .u8 0, .int .u8 0, .int .u8 0, .int .u8 0, .int .u8 0, .int .u8 0, .int .u8 0, .int .u8 0, .int .u8 0, .int .u8 0, .int .u8 0, .int .u8 0, .int .u8 0, .int .u8 0, .int .u8 0] 38)) B m (some k) false an sx av lv lz := hS1.below ((Below.refl _ _).alloc (Nat.le_refl _) _)
   have htn : (World.alloc u1 (.cells #[.int .u8 0, .int .u8 0, .int .u8 0, .int .u8 0, .int .u8 0, .int .u8 0, .int .u8 0, .int .u8 0, .int .u8 0, .int .u8 0, .int .u8 0, .int .u8 0, .int .u8 0, .int .u8 0, .int .u8 0, .int .u8 0] 38)).there u1.heap.size 0 16 := there_new u1 _ 38 16 (by show 16 ≤ 16; omega)
   refine hK.out _ _ hSa (fun _ => ?_)
   clear hK K
   try simp only [pU]
   refine wpAnyH_ready (rs := [11]) (by kernel_rfl) (by simp) ?_
   refine AllReadyH.cons rfl (fun K hK => ?_) AllReadyH.nil
   rw [if_pos (by rfl)]
   have htA : (World.alloc u1 (.cells #[.int .u8 0, .int .u8 0, .int .u8 0, .int .u8 0, .int .u8 0, .int .u8 0, .int .u8 0, .int .u8 0, .int .u8 0, .int .u8 0, .int .u8 0, .int .u8 0, .int .u8 0, .int .u8 0, .int .u8 0, .int .u8 0] 38)).there u1.heap.size 0 XL.toArray.size := by
    have ez : XL.toArray.size = 16 := by rw [List.size_toArray]; exact HXB.out.len
    rw [ez]; exact htn
   have hfA : ¬ BW m (some k) an sx av u1.heap.size := fun q => by have h1 := (Hw2.out.s.bw _ q).2; have h2 := hS0.f.size; have h4 := hS1.f.size; omega
   refine wp_store_mid 38 (.tmp 15) (.tmp 157) rfl _ 0 XL.toArray rfl rfl htA HXB.out.sza HXB.out.one ?_
   have hSz : SF w2 ((World.alloc u1 (.cells #[.int .u8 0, .int .u8 0, .int .u8 0, .int .u8 0, .int .u8 0, .int .u8 0, .int .u8 0, .int .u8 0, .int .u8 0, .int .u8 0, .int .u8 0, .int .u8 0, .int .u8 0, .int .u8 0, .int .u8 0, .int .u8 0] 38)).setCells u1.heap.size 0 XL) B m (some k) false an sx av lv lz := SF.store Hw2.out.s hSa _ _ (by have h2 := hS0.f.size; have h4 := hS1.f.size; omega)
   refine hK.out _ _ hSz (fun _ => ?_)
   clear hK K
   try simp only [pU]
   refine tG 12 16 (.int .i64 0) rfl rfl hSz ?_
   simp only [pU]
   refine wpAnyH_done (by kernel_rfl) ?_ _
   refine NoPanic.normal ?_
   go_wp2_with fail
   go_meet
   exact ⟨_, rfl, rfl, hSz, bx_store (by rw [HXB.out.len]; exact htn) (there_lt16 htn) hfA⟩
  ·skip
   go_simp
   have hSa : SF w2 (World.alloc w2.drew (.cells #[.int .u8 0, .int .u8 0, .int .u8 0, .int .u8 0, .int .u8 0, .int .u8 0, .int .u8 0, .int .u8 0, .int .u8 0, .int .u8 0, .int .u8 0, .int .u8 0, .int .u8 0, .int .u8 0, .int .u8 0, .int .u8 0] 38)) B m (some k) false an sx av lv lz := hS0.below ((Below.refl _ _).alloc (Nat.le_refl _) _)
   have htn : (World.alloc w2.drew (.cells #[.int .u8 0, .int .u8 0, .int .u8 0, .int .u8 0, .int .u8 0, .int .u8 0, .int .u8 0, .int .u8 0, .int .u8 0, .int .u8 0, .int .u8 0, .int .u8 0, .int .u8 0, .int .u8 0, .int .u8 0, .int .u8 0] 38)).there w2.drew.heap.size 0 16 := there_new w2.drew _ 38 16 (by show 16 ≤ 16; omega)
   refine hK.out _ _ hSa (fun _ => ?_)
   clear hK K
   try simp only [pU]
   refine wpAnyH_ready (rs := [6]) (by kernel_rfl) (by simp) ?_
   refine AllReadyH.cons rfl (fun K hK => ?_) AllReadyH.nil
   go_simp
   refine (K21.out _ _ hSa).mono ?_
   rintro e1 u1 ⟨rfl, s1, f1⟩
   have hS1 : SF w2 u1 B m (some k) false an sx av lv lz := hSa.then s1 f1
   have htm : u1.there w2.drew.heap.size 0 16 := there_sameG htn (f1.block _ (there_lt16 htn) (fun q => by have h1 := (Hw2.out.s.bw _ q).2; have h2 := hS0.f.size; omega))
   go_wp2_with fail
   refine hK.out _ _ hS1 (fun _ => ?_)
   clear hK K
   try simp only [pU]
   refine tG 7 149 (.tuple #[.agg XL.toArray, .int .i64 0]) rfl rfl hS1 ?_
   simp only [pU]
   refine tG 8 157 (.agg XL.toArray) rfl rfl hS1 ?_
   simp only [pU]
   refine tG 9 158 (.int .i64 0) rfl rfl hS1 ?_
   simp only [pU]
   refine wpAnyH_ready (rs := [11]) (by kernel_rfl) (by simp) ?_
   refine AllReadyH.cons rfl (fun K hK => ?_) AllReadyH.nil
   rw [if_pos (by rfl)]
   have htA : (u1).there w2.drew.heap.size 0 XL.toArray.size := by
    have ez : XL.toArray.size = 16 := by rw [List.size_toArray]; exact HXB.out.len
    rw [ez]; exact htm
   have hfA : ¬ BW m (some k) an sx av w2.drew.heap.size := fun q => by have h1 := (Hw2.out.s.bw _ q).2; have h2 := hS0.f.size; have h4 := hS0.f.size; omega
   refine wp_store_mid 38 (.tmp 15) (.tmp 157) rfl _ 0 XL.toArray rfl rfl htA HXB.out.sza HXB.out.one ?_
   have hSz : SF w2 ((u1).setCells w2.drew.heap.size 0 XL) B m (some k) false an sx av lv lz := SF.store Hw2.out.s hS1 _ _ (by have h2 := hS0.f.size; have h4 := hS0.f.size; omega)
   refine hK.out _ _ hSz (fun _ => ?_)
   clear hK K
   try simp only [pU]
   refine tG 12 16 (.int .i64 0) rfl rfl hSz ?_
   simp only [pU]
   refine wpAnyH_done (by kernel_rfl) ?_ _
   refine NoPanic.normal ?_
   go_wp2_with fail
   go_meet
   exact ⟨_, rfl, rfl, hSz, bx_store (by rw [HXB.out.len]; exact htm) (there_lt16 htm) hfA⟩
 case rest =>
  obtain ⟨Aw3, rfl, rfl, HDw3⟩ := hcut
  rename World => w3
  have Hw3 : Hid (OS w3 B m (some k) false false an sx av lv lz (BW m (some k) an sx av) bo ⟨4, oa, on, os, da, dn, dc, zs⟩ own) := Hw2.out.to HDw3.out.1.s HDw3.out.1.f (fun i => ⟨rfl, rfl⟩)
  have HB3 : Hid (Below B w w3) := HB.out.trans (HDw3.out.1.f.toBelow (fun b q => (Hw2.out.s.bw b q).1) (Nat.le_trans HBm.out HB.out.size))
  have HX3 : Hid (BxAt w3 (BW m (some k) an sx av) Aw3 XL) := HDw3.out.2
  clear HDw3 Hw2 HB c0
  go_upto_region 22 with fail
  go_cut [17, 18] from 159 to 168 (fun p e wx => ∃ A, p = .pointer (some ⟨A, 0, none⟩) ∧ e = .int .i64 0 ∧ Hid (SF w3 wx B m (some k) false an sx av lv lz ∧ BxAt wx (BW m (some k) an sx av) A DL))
  case first =>
   have hS0 : SF w3 w3.drew B m (some k) false an sx av lv lz := ⟨Hw3.out.s.below ((Below.refl _ _).drew), below_frp ((Below.refl _ _).drew) _⟩
   refine wp_region_noPanic ?_
   refine wp_region_held_drew (S := fun u => SF w3 u B m (some k) false an sx av lv lz) (by kernel_rfl) (hS0) (fun _ => ?_)
   refine tG 0 160 (.pointer (some ⟨m, 0, none⟩)) rfl rfl hS0 ?_
   simp only [pU]
   refine tG 1 161 (.pointer (some ⟨m, 0, none⟩)) rfl rfl hS0 ?_
   simp only [pU]
   refine tG 2 162 (.pointer (some ⟨m, 0, none⟩)) rfl rfl hS0 ?_
   simp only [pU]
   refine tH 3 163 (.pointer (some ⟨k.g, 0, none⟩)) rfl rfl (by kernel_rfl) (hS0) (Or.inl ⟨by rfl, fun w' hS' => by have q1 : w'.cell? ⟨m, 0, none⟩ = some (.pointer (some ⟨k.g, 0, none⟩)) := hS'.s.ck; go_simp⟩) ?_
   simp only [pU]
   refine tG 4 164 (.pointer (some ⟨bo, 3, none⟩)) rfl rfl hS0 ?_
   simp only [pU]
   refine tH 5 165 (.agg SL.toArray) rfl rfl (by kernel_rfl) (hS0) (yieldsIf_load_mid (by kernel_rfl) 38 (.tmp 164) rfl bo 3 rfl SL _ (fun u hu => by rw [HSL.out]; exact (Hw3.out.op.frp hu.f).start) Tryz.underlying38 rfl HSB.out.sz) ?_
   simp only [pU]
   refine wpAnyH_ready (rs := [6, 10]) (by kernel_rfl) (by simp) ?_
   refine AllReadyH.cons rfl (fun K hK => ?_) (AllReadyH.cons rfl (fun K hK => ?_) AllReadyH.nil)
   ·skip
    go_simp
    refine (K22.out _ _ hS0).mono ?_
    rintro e1 u1 ⟨rfl, s1, f1⟩
    have hS1 : SF w3 u1 B m (some k) false an sx av lv lz := hS0.then s1 f1
    go_wp2_with fail
    refine hK.out _ _ hS1 (fun _ => ?_)
    clear hK K
    try simp only [pU]
    refine tG 7 159 (.tuple #[.agg DL.toArray, .int .i64 0]) rfl rfl hS1 ?_
    simp only [pU]
    refine tG 8 167 (.agg DL.toArray) rfl rfl hS1 ?_
    simp only [pU]
    refine tG 9 168 (.int .i64 0) rfl rfl hS1 ?_
    simp only [pU]
    refine wpAnyH_ready (rs := [10]) (by kernel_rfl) (by simp) ?_
    refine AllReadyH.cons rfl (fun K hK => ?_) AllReadyH.nil
    go_simp
    have hSa : SF w3 (World.alloc u1 (.cells #[.int .u8 0, .int .u8 0, .int .u8 0, .int .u8 0, .int .u8 0, .int .u8 0, .int .u8 0, .int .u8 0, .int .u8 0, .int .u8 0, .int .u8 0, .int .u8 0, .int .u8 0, .int .u8 0, .int .u8 0, .int .u8 0] 38)) B m (some k) false an sx av lv lz := hS1.below ((Below.refl _ _).alloc (Nat.le_refl _) _)
    have htn : (World.alloc u1 (.cells #[.int .u8 0, .int .u8 0, .int .u8 0, .int .u8 0, .int .u8 0, .int .u8 0, .int .u8 0, .int .u8 0, .int .u8 0, .int .u8 0, .int .u8 0, .int .u8 0, .int .u8 0, .int .u8 0, .int .u8 0, .int .u8 0] 38)).there u1.heap.size 0 16 := there_new u1 _ 38 16 (by show 16 ≤ 16; omega)
    refine hK.out _ _ hSa (fun _ => ?_)
    clear hK K
    try simp only [pU]
    refine wpAnyH_ready (rs := [11]) (by kernel_rfl) (by simp) ?_
    refine AllReadyH.cons rfl (fun K hK => ?_) AllReadyH.nil
    rw [if_pos (by rfl)]
    have htA : (World.alloc u1 (.cells #[.int .u8 0, .int .u8 0, .int .u8 0, .int .u8 0, .int .u8 0, .int .u8 0, .int .u8 0, .int .u8 0, .int .u8 0, .int .u8 0, .int .u8 0, .int .u8 0, .int .u8 0, .int .u8 0, .int .u8 0, .int .u8 0] 38)).there u1.heap.size 0 DL.toArray.size := by
     have ez : DL.toArray.size = 16 := by rw [List.size_toArray]; exact HDB.out.len
     rw [ez]; exact htn
    have hfA : ¬ BW m (some k) an sx av u1.heap.size := fun q => by have h1 := (Hw3.out.s.bw _ q).2; have h2 := hS0.f.size; have h4 := hS1.f.size; omega
    refine wp_store_mid 38 (.tmp 17) (.tmp 167) rfl _ 0 DL.toArray rfl rfl htA HDB.out.sza HDB.out.one ?_
    have hSz : SF w3 ((World.alloc u1 (.cells #[.int .u8 0, .int .u8 0, .int .u8 0, .int .u8 0, .int .u8 0, .int .u8 0, .int .u8 0, .int .u8 0, .int .u8 0, .int .u8 0, .int .u8 0, .int .u8 0, .int .u8 0, .int .u8 0, .int .u8 0, .int .u8 0] 38)).setCells u1.heap.size 0 DL) B m (some k) false an sx av lv lz := SF.store Hw3.out.s hSa _ _ (by have h2 := hS0.f.size; have h4 := hS1.f.size; omega)
    refine hK.out _ _ hSz (fun _ => ?_)
    clear hK K
    try simp only [pU]
    refine tG 12 18 (.int .i64 0) rfl rfl hSz ?_
    simp only [pU]
    refine wpAnyH_done (by kernel_rfl) ?_ _
    refine NoPanic.normal ?_
    go_wp2_with fail
    go_meet
    exact ⟨_, rfl, rfl, hSz, bx_store (by rw [HDB.out.len]; exact htn) (there_lt16 htn) hfA⟩
   ·skip
    go_simp
    have hSa : SF w3 (World.alloc w3.drew (.cells #[.int .u8 0, .int .u8 0, .int .u8 0, .int .u8 0, .int .u8 0, .int .u8 0, .int .u8 0, .int .u8 0, .int .u8 0, .int .u8 0, .int .u8 0, .int .u8 0, .int .u8 0, .int .u8 0, .int .u8 0, .int .u8 0] 38)) B m (some k) false an sx av lv lz := hS0.below ((Below.refl _ _).alloc (Nat.le_refl _) _)
    have htn : (World.alloc w3.drew (.cells #[.int .u8 0, .int .u8 0, .int .u8 0, .int .u8 0, .int .u8 0, .int .u8 0, .int .u8 0, .int .u8 0, .int .u8 0, .int .u8 0, .int .u8 0, .int .u8 0, .int .u8 0, .int .u8 0, .int .u8 0, .int .u8 0] 38)).there w3.drew.heap.size 0 16 := there_new w3.drew _ 38 16 (by show 16 ≤ 16; omega)
    refine hK.out _ _ hSa (fun _ => ?_)
    clear hK K
    try simp only [pU]
    refine wpAnyH_ready (rs := [6]) (by kernel_rfl) (by simp) ?_
    refine AllReadyH.cons rfl (fun K hK => ?_) AllReadyH.nil
    go_simp
    refine (K22.out _ _ hSa).mono ?_
    rintro e1 u1 ⟨rfl, s1, f1⟩
    have hS1 : SF w3 u1 B m (some k) false an sx av lv lz := hSa.then s1 f1
    have htm : u1.there w3.drew.heap.size 0 16 := there_sameG htn (f1.block _ (there_lt16 htn) (fun q => by have h1 := (Hw3.out.s.bw _ q).2; have h2 := hS0.f.size; omega))
    go_wp2_with fail
    refine hK.out _ _ hS1 (fun _ => ?_)
    clear hK K
    try simp only [pU]
    refine tG 7 159 (.tuple #[.agg DL.toArray, .int .i64 0]) rfl rfl hS1 ?_
    simp only [pU]
    refine tG 8 167 (.agg DL.toArray) rfl rfl hS1 ?_
    simp only [pU]
    refine tG 9 168 (.int .i64 0) rfl rfl hS1 ?_
    simp only [pU]
    refine wpAnyH_ready (rs := [11]) (by kernel_rfl) (by simp) ?_
    refine AllReadyH.cons rfl (fun K hK => ?_) AllReadyH.nil
    rw [if_pos (by rfl)]
    have htA : (u1).there w3.drew.heap.size 0 DL.toArray.size := by
     have ez : DL.toArray.size = 16 := by rw [List.size_toArray]; exact HDB.out.len
     rw [ez]; exact htm
    have hfA : ¬ BW m (some k) an sx av w3.drew.heap.size := fun q => by have h1 := (Hw3.out.s.bw _ q).2; have h2 := hS0.f.size; have h4 := hS0.f.size; omega
    refine wp_store_mid 38 (.tmp 17) (.tmp 167) rfl _ 0 DL.toArray rfl rfl htA HDB.out.sza HDB.out.one ?_
    have hSz : SF w3 ((u1).setCells w3.drew.heap.size 0 DL) B m (some k) false an sx av lv lz := SF.store Hw3.out.s hS1 _ _ (by have h2 := hS0.f.size; have h4 := hS0.f.size; omega)
    refine hK.out _ _ hSz (fun _ => ?_)
    clear hK K
    try simp only [pU]
    refine tG 12 18 (.int .i64 0) rfl rfl hSz ?_
    simp only [pU]
    refine wpAnyH_done (by kernel_rfl) ?_ _
    refine NoPanic.normal ?_
    go_wp2_with fail
    go_meet
    exact ⟨_, rfl, rfl, hSz, bx_store (by rw [HDB.out.len]; exact htm) (there_lt16 htm) hfA⟩
  case rest =>
   obtain ⟨Aw4, rfl, rfl, HDw4⟩ := hcut
   rename World => w4
   have Hw4 : Hid (OS w4 B m (some k) false false an sx av lv lz (BW m (some k) an sx av) bo ⟨4, oa, on, os, da, dn, dc, zs⟩ own) := Hw3.out.to HDw4.out.1.s HDw4.out.1.f (fun i => ⟨rfl, rfl⟩)
   have HB4 : Hid (Below B w w4) := HB3.out.trans (HDw4.out.1.f.toBelow (fun b q => (Hw3.out.s.bw b q).1) (Nat.le_trans HBm.out HB3.out.size))
   have HX4 : Hid (BxAt w4 (BW m (some k) an sx av) Aw3 XL) := HX3.out.frp HDw4.out.1.f
   have HD4 : Hid (BxAt w4 (BW m (some k) an sx av) Aw4 DL) := HDw4.out.2
   clear HDw4 Hw3 HB3 HX3 K21 K22
   have K20 : Hid (∀ u, BS u B m (some k) false false an sx av lv lz → Calls Tryz.prog 20 #[.pointer (some ⟨m, 0, none⟩)] u fun e u' => e = .returned (.int .i64 0) ∧ u' = u) := fun u hu => gone_b hu
   have K6 : Hid (∀ u, Calls Tryz.prog 6 #[.int .i64 0] u fun e u' => e = .returned (.int .i64 0) ∧ u' = u) := num_o _
   go_wp2_with (first | (go_at_call 20; refine (K20.out _ Hw4.out.s).mono ?_))
   rintro e5 w5 ⟨rfl, hw5⟩
   obtain rfl := hw5.symm
   obtain ⟨r1, r2, r3, r4, r5⟩ := Hw4.out.s.kk k rfl
   have HKK : Hid (k.nk ≤ 8 ∧ ∀ i, k.K i < 4294967296) := ⟨by rcases r1.nk with e | e | e <;> omega, r1.K⟩
   have K23 : Hid (∀ u, Below w4.heap.size w4 u → Calls Tryz.prog 23 #[.pointer (some ⟨k.g2, 0, none⟩), .agg SL.toArray] u fun e u' => e = .returned (.agg XL.toArray) ∧ Below u.heap.size u u') := fun u hu => by
    rw [HSL.out, HXL.out, arL_array, arL_array, EncR_on]
    exact renc_ok k.g2 k.gr k.nk k.K os u (((Hw4.out.below hu).s.kk k rfl).2.2.1.on rfl) HKK.out.1 HKK.out.2 HOK.out.s
   have K24 : Hid (∀ u, Below w4.heap.size w4 u → Calls Tryz.prog 24 #[.pointer (some ⟨k.g2, 0, none⟩), .agg SL.toArray] u fun e u' => e = .returned (.agg DL.toArray) ∧ Below u.heap.size u u') := fun u hu => by
    rw [HSL.out, HDL.out, arL_array, arL_array, DecR_on]
    exact rdec_ok k.g2 k.gr k.nk k.K os u (((Hw4.out.below hu).s.kk k rfl).2.2.1.on rfl) HKK.out.1 HKK.out.2 HOK.out.s
   clear r1 r2 r3 r4 r5
   have hqX : ∀ u, (Op.equalIn 10000 38 (.agg XL.toArray) (.agg XL.toArray)).run Tryz.prog u = .ok true u := by rw [HXL.out]; exact eq_ar _
   have hqD : ∀ u, (Op.equalIn 10000 38 (.agg DL.toArray) (.agg DL.toArray)).run Tryz.prog u = .ok true u := by rw [HDL.out]; exact eq_ar _
   go_upto_region 25 with fail
   have hS0 : Below w4.heap.size w4 w4.drew := (Below.refl _ _).drew
   refine wp_region_noPanic ?_
   refine wp_region_held_drew (S := fun u => Below w4.heap.size w4 u) (by kernel_rfl) (hS0) (fun _ => ?_)
   refine tG 0 194 (.int .i64 0) rfl rfl hS0 ?_
   simp only [pU]
   refine wpAnyH_ready (rs := [1]) (by kernel_rfl) (by simp) ?_
   refine AllReadyH.cons rfl (fun K hK => ?_) AllReadyH.nil
   go_simp
   refine (K6.out _).mono ?_
   rintro e6 w6 ⟨rfl, hw6⟩
   obtain rfl := hw6.symm
   go_wp2_with fail
   refine hK.out _ _ hS0 (fun _ => ?_)
   clear hK K
   try simp only [pU]
   refine tG 2 196 (.bool true) rfl rfl hS0 ?_
   simp only [pU]
   refine tG 3 197 (.bool true) rfl rfl hS0 ?_
   simp only [pU]
   refine tG 4 198 (.int .i64 0) rfl rfl hS0 ?_
   simp only [pU]
   refine wpAnyH_ready (rs := [5]) (by kernel_rfl) (by simp) ?_
   refine AllReadyH.cons rfl (fun K hK => ?_) AllReadyH.nil
   go_simp
   refine (K6.out _).mono ?_
   rintro e7 w7 ⟨rfl, hw7⟩
   obtain rfl := hw7.symm
   go_wp2_with fail
   refine hK.out _ _ hS0 (fun _ => ?_)
   clear hK K
   try simp only [pU]
   refine tG 6 200 (.bool true) rfl rfl hS0 ?_
   simp only [pU]
   refine tG 7 201 (.bool true) rfl rfl hS0 ?_
   simp only [pU]
   refine tG 8 202 (.bool true) rfl rfl hS0 ?_
   simp only [pU]
   refine tH 9 203 (.agg XL.toArray) rfl rfl (by kernel_rfl) (hS0) (yieldsIf_load_mid (by kernel_rfl) 38 (.tmp 15) rfl Aw3 0 rfl XL _ (fun u hu => (HX4.out.frp (below_frp hu _)).c) Tryz.underlying38 rfl HXB.out.sz) ?_
   simp only [pU]
   refine tG 10 204 (.pointer (some ⟨m, 0, none⟩)) rfl rfl hS0 ?_
   simp only [pU]
   refine tG 11 205 (.pointer (some ⟨m, 0, none⟩)) rfl rfl hS0 ?_
   simp only [pU]
   refine tG 12 206 (.pointer (some ⟨m, 1, none⟩)) rfl rfl hS0 ?_
   simp only [pU]
   refine tH 13 207 (.pointer (some ⟨k.g2, 0, none⟩)) rfl rfl (by kernel_rfl) (hS0) (Or.inl ⟨by rfl, fun w' hS' => by have q1 : w'.cell? ⟨m, 1, none⟩ = some (.pointer (some ⟨k.g2, 0, none⟩)) := (Hw4.out.below hS').s.cr; go_simp⟩) ?_
   simp only [pU]
   refine tG 14 208 (.pointer (some ⟨bo, 3, none⟩)) rfl rfl hS0 ?_
   simp only [pU]
   refine tH 15 209 (.agg SL.toArray) rfl rfl (by kernel_rfl) (hS0) (yieldsIf_load_mid (by kernel_rfl) 38 (.tmp 208) rfl bo 3 rfl SL _ (fun u hu => by rw [HSL.out]; exact (Hw4.out.below hu).op.start) Tryz.underlying38 rfl HSB.out.sz) ?_
   simp only [pU]
   refine wpAnyH_ready (rs := [16]) (by kernel_rfl) (by simp) ?_
   refine AllReadyH.cons rfl (fun K hK => ?_) AllReadyH.nil
   go_simp
   refine (K23.out _ hS0).mono ?_
   rintro e8 w8 ⟨rfl, hb8⟩
   have hS8 : Below w4.heap.size w4 w8 := hS0.trans (hb8.mono hS0.size)
   go_wp2_with fail
   refine hK.out _ _ hS8 (fun _ => ?_)
   clear hK K
   try simp only [pU]
   refine tG 17 211 (.bool true) rfl rfl hS8 ?_
   simp only [pU]
   refine tG 18 212 (.bool true) rfl rfl hS8 ?_
   simp only [pU]
   refine tG 19 213 (.bool true) rfl rfl hS8 ?_
   simp only [pU]
   refine tH 20 214 (.agg DL.toArray) rfl rfl (by kernel_rfl) (hS8) (yieldsIf_load_mid (by kernel_rfl) 38 (.tmp 17) rfl Aw4 0 rfl DL _ (fun u hu => (HD4.out.frp (below_frp hu _)).c) Tryz.underlying38 rfl HDB.out.sz) ?_
   simp only [pU]
   refine tG 21 215 (.pointer (some ⟨m, 0, none⟩)) rfl rfl hS8 ?_
   simp only [pU]
   refine tG 22 216 (.pointer (some ⟨m, 0, none⟩)) rfl rfl hS8 ?_
   simp only [pU]
   refine tG 23 217 (.pointer (some ⟨m, 1, none⟩)) rfl rfl hS8 ?_
   simp only [pU]
   refine tH 24 218 (.pointer (some ⟨k.g2, 0, none⟩)) rfl rfl (by kernel_rfl) (hS8) (Or.inl ⟨by rfl, fun w' hS' => by have q1 : w'.cell? ⟨m, 1, none⟩ = some (.pointer (some ⟨k.g2, 0, none⟩)) := (Hw4.out.below hS').s.cr; go_simp⟩) ?_
   simp only [pU]
   refine tG 25 219 (.pointer (some ⟨bo, 3, none⟩)) rfl rfl hS8 ?_
   simp only [pU]
   refine tH 26 220 (.agg SL.toArray) rfl rfl (by kernel_rfl) (hS8) (yieldsIf_load_mid (by kernel_rfl) 38 (.tmp 219) rfl bo 3 rfl SL _ (fun u hu => by rw [HSL.out]; exact (Hw4.out.below hu).op.start) Tryz.underlying38 rfl HSB.out.sz) ?_
   simp only [pU]
   refine wpAnyH_ready (rs := [27]) (by kernel_rfl) (by simp) ?_
   refine AllReadyH.cons rfl (fun K hK => ?_) AllReadyH.nil
   go_simp
   refine (K24.out _ hS8).mono ?_
   rintro e9 w9 ⟨rfl, hb9⟩
   have hS9 : Below w4.heap.size w4 w9 := hS8.trans (hb9.mono hS8.size)
   go_wp2_with fail
   refine hK.out _ _ hS9 (fun _ => ?_)
   clear hK K
   try simp only [pU]
   refine tG 28 222 (.bool true) rfl rfl hS9 ?_
   simp only [pU]
   refine tG 29 223 (.bool true) rfl rfl hS9 ?_
   simp only [pU]
   refine tG 30 4 (.bool true) rfl rfl hS9 ?_
   simp only [pU]
   refine wpAnyH_done (by kernel_rfl) ?_ _
   refine NoPanic.normal ?_
   go_wp2
   go_ret
   exact (Hw4.out.below hS9).fin HEV.out (HB4.out.trans (hS9.mono (Nat.le_trans HBm.out HB4.out.size)))
end Go.Proofs.YtgmfiljjogdccabGreatDoor
