import Derived.Test.YtgmfiljjogdccabGreatDoorPart00
import Derived.Test.YtgmfiljjogdccabGreatDoorPart43
namespace Go.Proofs.YtgmfiljjogdccabGreatDoor
open Go.RowKit Go.RwLone Go.Conc.Locks
set_option linter.unusedVariables false
set_option linter.unusedSimpArgs false
set_option maxHeartbeats 6400000 in
set_option maxRecDepth 100000 in
theorem one_xor (w : World) (B m : Nat) (kx : Option Kx) (g : Bool) (an : Nat) (sx : Nat → Sx) (av lv : Value) (lz : List Int) (o : OpV) (h : BS w B m kx g g an sx av lv lz) (he : Even an sx) (ho : OpOk o) (hd : Dat w (BW m kx an sx av) o.dv o.zs) (hk : o.k = 1) :
  Calls Tryz.prog 7 #[.pointer (some ⟨m, 0, none⟩), .agg o.L.toArray] w (OneP w B m kx an) := by
 obtain ⟨ok, oa, on, os, da, dn, dc, zs⟩ := o
 simp only at hk
 subst hk
 obtain ⟨S, HS⟩ : ∃ S, Hid (S = BW m kx an sx av) := ⟨_, rfl⟩
 obtain ⟨h1, h2, h3, h4⟩ := os_start _ h hd
 have HOK : Hid (OpOk ⟨1, oa, on, os, da, dn, dc, zs⟩) := ho
 have HEV : Hid (Even an sx) := he
 have HBm : Hid (B ≤ w.heap.size) := Nat.le_trans h.ord.1 (Nat.le_of_lt h.mlt)
 obtain ⟨W1, HW1⟩ : ∃ W, Hid (W = w.alloc (.cells (OpV.L ⟨1, oa, on, os, da, dn, dc, zs⟩).toArray 40)) := ⟨_, rfl⟩
 rw [← HW1.out] at h1 h2 h3 h4
 have H1 : Hid (BS W1 B m kx g g an sx av lv lz) := h1
 have H2 : Hid (OpAt W1 (BW m kx an sx av) w.heap.size ⟨1, oa, on, os, da, dn, dc, zs⟩) := h2
 have H3 : Hid (Dat W1 (BW m kx an sx av) (.slice da dn dc) zs) := h3
 have H4 : Hid (Below w.heap.size w W1) := h4
 have c19 : W1.cell? ⟨w.heap.size, 19, none⟩ = some (.slice da dn dc) := H2.out.cell 19 _ rfl
 have c0 : W1.cell? ⟨w.heap.size, 0, none⟩ = some (.int .i64 1) := H2.out.cell 0 _ rfl
 have K11 : Hid (Calls Tryz.prog 11 #[.slice da dn dc] W1 fun e w' => ∃ v', e = .returned v' ∧ Marked W1.heap.size w' v' zs ∧ Below W1.heap.size W1 w') := copy_any _ zs W1 ho.mx h3.vw
 clear h1 h2 h3 h4 h he ho hd
 unfold OpV.L at HW1 ⊢
 simp only at HW1 ⊢
 generalize sb os 0 = s0 at HW1 ⊢
 generalize sb os 1 = s1 at HW1 ⊢
 generalize sb os 2 = s2 at HW1 ⊢
 generalize sb os 3 = s3 at HW1 ⊢
 generalize sb os 4 = s4 at HW1 ⊢
 generalize sb os 5 = s5 at HW1 ⊢
 generalize sb os 6 = s6 at HW1 ⊢
 generalize sb os 7 = s7 at HW1 ⊢
 generalize sb os 8 = s8 at HW1 ⊢
 generalize sb os 9 = s9 at HW1 ⊢
 generalize sb os 10 = s10 at HW1 ⊢
 generalize sb os 11 = s11 at HW1 ⊢
 generalize sb os 12 = s12 at HW1 ⊢
 generalize sb os 13 = s13 at HW1 ⊢
 generalize sb os 14 = s14 at HW1 ⊢
 generalize sb os 15 = s15 at HW1 ⊢
 obtain ⟨bo, HBO⟩ : ∃ b, Hid (w.heap.size = b) := ⟨_, rfl⟩
 go_enter Tryz.func7, Tryz.ntmps7
 go_upto_region 1 with fail
 rw [← HW1.out, HBO.out]
 rw [HBO.out] at H2 c19 c0
 go_wp2_with (first | (go_at_call 11; refine K11.out.mono ?_))
 rintro e2 w2 ⟨own, rfl, hm2, hb2⟩
 have H : Hid (OS w2 B m kx g g an sx av lv lz (BW m kx an sx av) bo ⟨1, oa, on, os, da, dn, dc, zs⟩ own) := os_copied H1.out H2.out H3.out hm2 hb2
 have HB : Hid (Below B w w2) := (H4.out.mono HBm.out).trans (hb2.mono (Nat.le_trans HBm.out H4.out.size))
 clear hm2 hb2 c19 c0 K11 H1 H2 H3 H4
 have c0 : w2.cell? ⟨bo, 0, none⟩ = some (.int .i64 1) := H.out.op.cell 0 _ rfl
 go_upto_region 4 with fail
 have c1 : w2.cell? ⟨bo, 1, none⟩ = some (.int .i64 oa) := H.out.op.cell 1 _ rfl
 have K12 : Hid (Calls Tryz.prog 12 #[.pointer (some ⟨m, 0, none⟩), .int .i64 oa] w2 (SelQ w2 an sx)) := sel_q oa HOK.out.a H.out.s
 go_wp2_with (first | (go_at_call 12; refine K12.out.mono ?_))
 rintro e3 w3 ⟨pt, pr, rfl, hb3, hsel⟩
 have HSEL : Hid (SelR an sx pt pr) := hsel
 obtain ⟨hp4, hb4⟩ := pr_new H.out.s hb3 pt pr
 have HP4 : Hid (PrAt (w3.alloc (.cells #[.pointer pt, .pointer pr] 73)) (BW m kx an sx av) w3.heap.size pt pr) := hp4
 have H4 : Hid (OS (w3.alloc (.cells #[.pointer pt, .pointer pr] 73)) B m kx g g an sx av lv lz (BW m kx an sx av) bo ⟨1, oa, on, os, da, dn, dc, zs⟩ own) := (H.out.below hb3).below hb4
 have HB4 : Hid (Below B w (w3.alloc (.cells #[.pointer pt, .pointer pr] 73))) := (HB.out.trans (hb3.mono (Nat.le_trans HBm.out HB.out.size))).trans (hb4.mono (Nat.le_trans (Nat.le_trans HBm.out HB.out.size) hb3.size))
 clear hb3 hsel hp4 hb4 c0 c1 K12 H HB
 go_upto_region 5 with fail
 obtain ⟨bp, HBP⟩ : ∃ b, Hid (w3.heap.size = b) := ⟨_, rfl⟩
 generalize (w3.alloc (.cells #[.pointer pt, .pointer pr] 73)) = w4 at HP4 H4 HB4 ⊢
 rw [HBP.out] at HP4 ⊢
 obtain ⟨E, Z, sx1, sx2, hxc⟩ := xor_c zs (fun i hi => by obtain ⟨k, e, _⟩ := H4.out.s.st i hi; exact ⟨k, e⟩) HEV.out HSEL.out g
 have HXC : Hid (XorC kx g an sx pt pr zs E Z sx1 sx2) := hxc
 clear hxc
 obtain ⟨ob, oc, rfl, hoa⟩ := H4.out.own
 simp only at hoa
 have c5 : w4.cell? ⟨bp, 0, none⟩ = some (.pointer pt) := HP4.out.c0
 have K13 : Hid (Calls Tryz.prog 13 #[.pointer pt, .slice (some ⟨ob, 0, none⟩) zs.length oc] w4 (XorP w4 B m kx g an sx sx1 av lv lz E Z)) := HXC.out.p w4 B m av lv lz ob oc H4.out.s hoa
 clear hoa
 go_wp2_with (first | (go_at_call 13; refine K13.out.mono ?_))
 rintro e5 w5 ⟨xa, xn, xc, rfl, hx5, h5, f5, n5⟩
 have H5 : Hid (OS w5 B m kx g g an sx1 av lv lz (BW m kx an sx av) bo ⟨1, oa, on, os, da, dn, dc, zs⟩ (.slice (some ⟨ob, 0, none⟩) zs.length oc)) := H4.out.to h5 f5 HXC.out.i1
 have HP5 : Hid (PrAt w5 (BW m kx an sx av) bp pt pr) := HP4.out.frp f5
 have HB5 : Hid (Below B w w5) := HB4.out.trans (f5.toBelow (fun b q => (H4.out.s.bw b q).1) (Nat.le_trans HBm.out HB4.out.size))
 have HX5 : Hid (View w5 (.slice xa xn xc) Z ∧ (Z ≠ [] → ∀ b, b ∈ vblk (.slice xa xn xc) → ¬ BW m kx an sx av b)) := ⟨hx5, fun e b q x => by have h1 := n5 e b q; have h2 := (H4.out.s.bw b x).2; omega⟩
 clear h5 f5 n5 hx5 c5 K13 H4 HP4 HB4
 have c6 : w5.cell? ⟨bp, 1, none⟩ = some (.pointer pr) := HP5.out.c1
 have c7 : w5.cell? ⟨bo, 19, none⟩ = some (.slice da dn dc) := H5.out.op.cell 19 _ rfl
 have K14 : Hid (Calls Tryz.prog 14 #[.pointer pr, .slice da dn dc] w5 (XorP w5 B m kx g an sx1 sx2 av lv lz E Z)) := HXC.out.r w5 B m av lv lz _ H5.out.s H5.out.dat ⟨_, _, _, rfl⟩
 go_wp2_with (first | (go_at_call 14; refine K14.out.mono ?_))
 rintro e6 w6 ⟨ya, yn, yc, rfl, hy6, h6, f6, n6⟩
 have H6 : Hid (OS w6 B m kx g g an sx2 av lv lz (BW m kx an sx av) bo ⟨1, oa, on, os, da, dn, dc, zs⟩ (.slice (some ⟨ob, 0, none⟩) zs.length oc)) := H5.out.to h6 f6 HXC.out.i2
 have HF6 : Hid (FrP w5 w6 (BW m kx an sx av)) := f6.mono (fun b q => (H5.out.e b).1 q)
 have HP6 : Hid (PrAt w6 (BW m kx an sx av) bp pt pr) := HP5.out.frp HF6.out
 have HB6 : Hid (Below B w w6) := HB5.out.trans (f6.toBelow (fun b q => (H5.out.s.bw b q).1) (Nat.le_trans HBm.out HB5.out.size))
 have HX6 : Hid (View w6 (.slice xa xn xc) Z) := view_frp HX5.out.1 HX5.out.2 HF6.out
 have HY6 : Hid (View w6 (.slice ya yn yc) Z) := hy6
 clear h6 f6 n6 hy6 c6 c7 K14 H5 HP5 HB5 HX5 HF6
 have HSE2 : Hid (SelR an sx2 pt pr) := selr_congr (selr_congr HSEL.out HXC.out.i1) HXC.out.i2
 have K6 : Hid (∀ u, Calls Tryz.prog 6 #[.int .i64 E] u fun e u' => e = .returned (.int .i64 E) ∧ u' = u) := num_o _
 have K15 : Hid (∀ u, Below w6.heap.size w6 u → Calls Tryz.prog 15 #[.slice xa xn xc, .int .i64 E, .slice ya yn yc, .int .i64 E, .slice (some ⟨ob, 0, none⟩) zs.length oc, .slice da dn dc] u fun e u' => e = .returned (.bool true) ∧ ∃ r, u' = u.drewN r) := fun u hu => lists_ok _ _ _ _ E Z zs (BW m kx an sx av) u (HX6.out.kept hu.block) (HY6.out.kept hu.block) (H6.out.below hu).w (H6.out.below hu).d.vw
 have K16 : Hid (∀ u, Below w6.heap.size w6 u → Calls Tryz.prog 16 #[.agg #[.pointer pt, .pointer pr]] u fun e u' => e = .returned (.bool true) ∧ Below u.heap.size u u') := fun u hu => at_r (H6.out.below hu).s HXC.out.ev HSE2.out
 have G2 : Hid (∀ u, Below w6.heap.size w6 u → u.cell? ⟨bo, 19, none⟩ = some (.slice da dn dc)) := fun u hu => (H6.out.below hu).op.cell 19 _ rfl
 have G3 : Hid (∀ u, Below w6.heap.size w6 u → u.cell? ⟨bp, 0, none⟩ = some (.pointer pt)) := fun u hu => (HP6.out.frp (below_frp hu _)).c0
 have G4 : Hid (∀ u, Below w6.heap.size w6 u → u.cell? ⟨bp, 1, none⟩ = some (.pointer pr)) := fun u hu => (HP6.out.frp (below_frp hu _)).c1
 go_upto_region 7 with fail
 have hS0 : Below w6.heap.size w6 w6.drew := (Below.refl _ _).drew
 refine wp_region_noPanic ?_
 refine wp_region_held_drew (S := fun u => Below w6.heap.size w6 u) (by kernel_rfl) (hS0) (fun _ => ?_)
 refine tG 0 59 (.slice xa xn xc) rfl rfl hS0 ?_
 simp only [pU]
 refine tG 1 60 (.int .i64 E) rfl rfl hS0 ?_
 simp only [pU]
 refine tG 3 62 (.slice ya yn yc) rfl rfl hS0 ?_
 simp only [pU]
 refine tG 4 63 (.int .i64 E) rfl rfl hS0 ?_
 simp only [pU]
 refine tG 5 64 (.slice (some ⟨ob, 0, none⟩) zs.length oc) rfl rfl hS0 ?_
 simp only [pU]
 refine tG 6 65 (.pointer (some ⟨bo, 19, none⟩)) rfl rfl hS0 ?_
 simp only [pU]
 refine tQ 7 66 (.slice da dn dc) rfl rfl hS0 G2.out ?_
 simp only [pU]
 refine wpAnyH_ready (rs := [2]) (by kernel_rfl) (by simp) ?_
 refine AllReadyH.cons rfl (fun K hK => ?_) AllReadyH.nil
 go_simp
 refine (K6.out _).mono ?_
 rintro e7 w7 ⟨rfl, hw7⟩
 obtain rfl := hw7.symm
 go_wp2_with fail
 refine hK.out _ _ hS0 (fun _ => ?_)
 clear hK K
 try simp only [pU]
 refine wpAnyH_ready (rs := [8]) (by kernel_rfl) (by simp) ?_
 refine AllReadyH.cons rfl (fun K hK => ?_) AllReadyH.nil
 go_simp
 refine (K15.out _ hS0).mono ?_
 rintro e8 w8 ⟨rfl, q8, hw8⟩
 have hS8 : Below w6.heap.size w6 w8 := by rw [hw8]; exact hS0.trans ((below_drewN _ q8).mono hS0.size)
 clear hw8
 go_wp2_with fail
 refine hK.out _ _ hS8 (fun _ => ?_)
 clear hK K
 try simp only [pU]
 refine tG 9 68 (.bool true) rfl rfl hS8 ?_
 simp only [pU]
 refine tH 10 69 (.agg #[.pointer pt, .pointer pr]) rfl rfl (by kernel_rfl) (hS8) (Or.inl ⟨by rfl, fun w' hS' => by have q1 := G3.out w' hS'; have q2 := G4.out w' hS'; go_simp⟩) ?_
 simp only [pU]
 refine wpAnyH_ready (rs := [11]) (by kernel_rfl) (by simp) ?_
 refine AllReadyH.cons rfl (fun K hK => ?_) AllReadyH.nil
 go_simp
 refine (K16.out _ hS8).mono ?_
 rintro e9 w9 ⟨rfl, hb9⟩
 have hS9 : Below w6.heap.size w6 w9 := hS8.trans (hb9.mono hS8.size)
 go_wp2_with fail
 refine hK.out _ _ hS9 (fun _ => ?_)
 clear hK K
 try simp only [pU]
 refine tG 12 71 (.bool true) rfl rfl hS9 ?_
 simp only [pU]
 refine tG 13 4 (.bool true) rfl rfl hS9 ?_
 simp only [pU]
 refine wpAnyH_done (by kernel_rfl) ?_ _
 refine NoPanic.normal ?_
 go_wp2
 go_ret
 exact (H6.out.below hS9).fin HXC.out.ev (HB6.out.trans (hS9.mono (Nat.le_trans HBm.out HB6.out.size)))
end Go.Proofs.YtgmfiljjogdccabGreatDoor
namespace Go.Proofs.YtgmfiljjogdccabGreatDoor
open Go.RowKit Go.RwLone Go.Conc.Locks
set_option linter.unusedVariables false
set_option linter.unusedSimpArgs false
set_option maxHeartbeats 6400000 in
set_option maxRecDepth 100000 in
theorem one_skip (w : World) (B m : Nat) (kx : Option Kx) (g : Bool) (an : Nat) (sx : Nat → Sx) (av lv : Value) (lz : List Int) (o : OpV) (h : BS w B m kx g g an sx av lv lz) (he : Even an sx) (ho : OpOk o) (hd : Dat w (BW m kx an sx av) o.dv o.zs) (hk : o.k = 2) :
  Calls Tryz.prog 7 #[.pointer (some ⟨m, 0, none⟩), .agg o.L.toArray] w (OneP w B m kx an) := by
 obtain ⟨ok, oa, on, os, da, dn, dc, zs⟩ := o
 simp only at hk
 subst hk
 obtain ⟨S, HS⟩ : ∃ S, Hid (S = BW m kx an sx av) := ⟨_, rfl⟩
 obtain ⟨h1, h2, h3, h4⟩ := os_start _ h hd
 have HOK : Hid (OpOk ⟨2, oa, on, os, da, dn, dc, zs⟩) := ho
 have HEV : Hid (Even an sx) := he
 have HBm : Hid (B ≤ w.heap.size) := Nat.le_trans h.ord.1 (Nat.le_of_lt h.mlt)
 obtain ⟨W1, HW1⟩ : ∃ W, Hid (W = w.alloc (.cells (OpV.L ⟨2, oa, on, os, da, dn, dc, zs⟩).toArray 40)) := ⟨_, rfl⟩
 rw [← HW1.out] at h1 h2 h3 h4
 have H1 : Hid (BS W1 B m kx g g an sx av lv lz) := h1
 have H2 : Hid (OpAt W1 (BW m kx an sx av) w.heap.size ⟨2, oa, on, os, da, dn, dc, zs⟩) := h2
 have H3 : Hid (Dat W1 (BW m kx an sx av) (.slice da dn dc) zs) := h3
 have H4 : Hid (Below w.heap.size w W1) := h4
 have c19 : W1.cell? ⟨w.heap.size, 19, none⟩ = some (.slice da dn dc) := H2.out.cell 19 _ rfl
 have c0 : W1.cell? ⟨w.heap.size, 0, none⟩ = some (.int .i64 2) := H2.out.cell 0 _ rfl
 have K11 : Hid (Calls Tryz.prog 11 #[.slice da dn dc] W1 fun e w' => ∃ v', e = .returned v' ∧ Marked W1.heap.size w' v' zs ∧ Below W1.heap.size W1 w') := copy_any _ zs W1 ho.mx h3.vw
 clear h1 h2 h3 h4 h he ho hd
 unfold OpV.L at HW1 ⊢
 simp only at HW1 ⊢
 generalize sb os 0 = s0 at HW1 ⊢
 generalize sb os 1 = s1 at HW1 ⊢
 generalize sb os 2 = s2 at HW1 ⊢
 generalize sb os 3 = s3 at HW1 ⊢
 generalize sb os 4 = s4 at HW1 ⊢
 generalize sb os 5 = s5 at HW1 ⊢
 generalize sb os 6 = s6 at HW1 ⊢
 generalize sb os 7 = s7 at HW1 ⊢
 generalize sb os 8 = s8 at HW1 ⊢
 generalize sb os 9 = s9 at HW1 ⊢
 generalize sb os 10 = s10 at HW1 ⊢
 generalize sb os 11 = s11 at HW1 ⊢
 generalize sb os 12 = s12 at HW1 ⊢
 generalize sb os 13 = s13 at HW1 ⊢
 generalize sb os 14 = s14 at HW1 ⊢
 generalize sb os 15 = s15 at HW1 ⊢
 obtain ⟨bo, HBO⟩ : ∃ b, Hid (w.heap.size = b) := ⟨_, rfl⟩
 go_enter Tryz.func7, Tryz.ntmps7
 go_upto_region 1 with fail
 rw [← HW1.out, HBO.out]
 rw [HBO.out] at H2 c19 c0
 go_wp2_with (first | (go_at_call 11; refine K11.out.mono ?_))
 rintro e2 w2 ⟨own, rfl, hm2, hb2⟩
 have H : Hid (OS w2 B m kx g g an sx av lv lz (BW m kx an sx av) bo ⟨2, oa, on, os, da, dn, dc, zs⟩ own) := os_copied H1.out H2.out H3.out hm2 hb2
 have HB : Hid (Below B w w2) := (H4.out.mono HBm.out).trans (hb2.mono (Nat.le_trans HBm.out H4.out.size))
 clear hm2 hb2 c19 c0 K11 H1 H2 H3 H4
 have c0 : w2.cell? ⟨bo, 0, none⟩ = some (.int .i64 2) := H.out.op.cell 0 _ rfl
 go_upto_region 9 with fail
 have c1 : w2.cell? ⟨bo, 1, none⟩ = some (.int .i64 oa) := H.out.op.cell 1 _ rfl
 have K12 : Hid (Calls Tryz.prog 12 #[.pointer (some ⟨m, 0, none⟩), .int .i64 oa] w2 (SelQ w2 an sx)) := sel_q oa HOK.out.a H.out.s
 go_wp2_with (first | (go_at_call 12; refine K12.out.mono ?_))
 rintro e3 w3 ⟨pt, pr, rfl, hb3, hsel⟩
 have HSEL : Hid (SelR an sx pt pr) := hsel
 obtain ⟨hp4, hb4⟩ := pr_new H.out.s hb3 pt pr
 have HP4 : Hid (PrAt (w3.alloc (.cells #[.pointer pt, .pointer pr] 73)) (BW m kx an sx av) w3.heap.size pt pr) := hp4
 have H4 : Hid (OS (w3.alloc (.cells #[.pointer pt, .pointer pr] 73)) B m kx g g an sx av lv lz (BW m kx an sx av) bo ⟨2, oa, on, os, da, dn, dc, zs⟩ own) := (H.out.below hb3).below hb4
 have HB4 : Hid (Below B w (w3.alloc (.cells #[.pointer pt, .pointer pr] 73))) := (HB.out.trans (hb3.mono (Nat.le_trans HBm.out HB.out.size))).trans (hb4.mono (Nat.le_trans (Nat.le_trans HBm.out HB.out.size) hb3.size))
 clear hb3 hsel hp4 hb4 c0 c1 K12 H HB
 go_upto_region 10 with fail
 obtain ⟨bp, HBP⟩ : ∃ b, Hid (w3.heap.size = b) := ⟨_, rfl⟩
 generalize (w3.alloc (.cells #[.pointer pt, .pointer pr] 73)) = w4 at HP4 H4 HB4 ⊢
 rw [HBP.out] at HP4 ⊢
 obtain ⟨E, sx1, sx2, hxc⟩ := sk_c on HOK.out.n (fun i hi => by obtain ⟨k, e, _⟩ := H4.out.s.st i hi; exact ⟨k, e⟩) HEV.out HSEL.out g
 have HSK : Hid (SkC kx g an sx pt pr on E sx1 sx2) := hxc
 clear hxc
 have HSE2 : Hid (SelR an sx2 pt pr) := selr_congr (selr_congr HSEL.out HSK.out.i1) HSK.out.i2
 have HD4 : Hid (BS w4.drew B m kx g g an sx av lv lz) := H4.out.s.below ((Below.refl _ _).drew)
 have K6 : Hid (∀ u, Calls Tryz.prog 6 #[.int .i64 E] u fun e u' => e = .returned (.int .i64 E) ∧ u' = u) := num_o _
 have G2 : Hid (∀ u, FrP w4 u (BW m kx an sx av) → u.cell? ⟨bo, 2, none⟩ = some (.int .u64 (on : Nat))) := fun u hu => (H4.out.op.frp hu).cell 2 _ rfl
 have G3 : Hid (∀ u, FrP w4 u (BW m kx an sx av) → u.cell? ⟨bp, 0, none⟩ = some (.pointer pt)) := fun u hu => (HP4.out.frp hu).c0
 have G4 : Hid (∀ u, FrP w4 u (BW m kx an sx av) → u.cell? ⟨bp, 1, none⟩ = some (.pointer pr)) := fun u hu => (HP4.out.frp hu).c1
 have hS0 : FrP w4 w4.drew (BW m kx an sx av) := below_frp ((Below.refl _ _).drew) _
 refine wp_region_noPanic ?_
 refine wp_region_held_drew (S := fun u => FrP w4 u (BW m kx an sx av)) (by kernel_rfl) (hS0) (fun _ => ?_)
 refine tG 0 78 (.pointer (some ⟨bp, 0, none⟩)) rfl rfl hS0 ?_
 simp only [pU]
 refine tQ 1 79 (.pointer pt) rfl rfl hS0 G3.out ?_
 simp only [pU]
 refine tG 2 80 (.pointer (some ⟨bo, 2, none⟩)) rfl rfl hS0 ?_
 simp only [pU]
 refine tQ 3 81 (.int .u64 (on : Nat)) rfl rfl hS0 G2.out ?_
 simp only [pU]
 refine tG 6 84 (.pointer (some ⟨bp, 1, none⟩)) rfl rfl hS0 ?_
 simp only [pU]
 refine tQ 7 85 (.pointer pr) rfl rfl hS0 G4.out ?_
 simp only [pU]
 refine tG 8 86 (.pointer (some ⟨bo, 2, none⟩)) rfl rfl hS0 ?_
 simp only [pU]
 refine tQ 9 87 (.int .u64 (on : Nat)) rfl rfl hS0 G2.out ?_
 simp only [pU]
 refine wpAnyH_ready (rs := [4]) (by kernel_rfl) (by simp) ?_
 refine AllReadyH.cons rfl (fun K hK => ?_) AllReadyH.nil
 go_simp
 refine (HSK.out.p _ B m av lv lz HD4.out).mono ?_
 rintro e5 w5 ⟨rfl, h5, f5⟩
 have H5 : Hid (BS w5 B m kx g g an sx1 av lv lz) := h5
 have hS5 : FrP w4 w5 (BW m kx an sx av) := hS0.trans f5
 go_wp2_with fail
 refine hK.out _ _ hS5 (fun _ => ?_)
 clear hK K
 try simp only [pU]
 refine wpAnyH_ready (rs := [5]) (by kernel_rfl) (by simp) ?_
 refine AllReadyH.cons rfl (fun K hK => ?_) AllReadyH.nil
 go_simp
 refine (K6.out _).mono ?_
 rintro e6 w6 ⟨rfl, hw6⟩
 obtain rfl := hw6.symm
 go_wp2_with fail
 refine hK.out _ _ hS5 (fun _ => ?_)
 clear hK K
 try simp only [pU]
 refine wpAnyH_ready (rs := [10]) (by kernel_rfl) (by simp) ?_
 refine AllReadyH.cons rfl (fun K hK => ?_) AllReadyH.nil
 go_simp
 refine (HSK.out.r _ B m av lv lz H5.out).mono ?_
 rintro e7 w7 ⟨rfl, h7, f7⟩
 have H7 : Hid (BS w7 B m kx g g an sx2 av lv lz) := h7
 have hS7 : FrP w4 w7 (BW m kx an sx av) := hS5.trans (f7.mono (fun b q => (bw_id HSK.out.i1 b).1 q))
 go_wp2_with fail
 refine hK.out _ _ hS7 (fun _ => ?_)
 clear hK K
 try simp only [pU]
 refine tG 11 89 (.bool true) rfl rfl hS7 ?_
 simp only [pU]
 refine tG 12 90 (.bool true) rfl rfl hS7 ?_
 simp only [pU]
 refine tH 13 91 (.agg #[.pointer pt, .pointer pr]) rfl rfl (by kernel_rfl) (hS7) (Or.inl ⟨by rfl, fun w' hS' => by have q1 := G3.out w' hS'; have q2 := G4.out w' hS'; go_simp⟩) ?_
 simp only [pU]
 refine wpAnyH_ready (rs := [14]) (by kernel_rfl) (by simp) ?_
 refine AllReadyH.cons rfl (fun K hK => ?_) AllReadyH.nil
 go_simp
 refine (at_r H7.out HSK.out.ev HSE2.out).mono ?_
 rintro e9 w9 ⟨rfl, hb9⟩
 have hS9 : FrP w4 w9 (BW m kx an sx av) := hS7.trans (below_frp hb9 _)
 have H9 : Hid (BS w9 B m kx g g an sx2 av lv lz) := H7.out.below hb9
 go_wp2_with fail
 refine hK.out _ _ hS9 (fun _ => ?_)
 clear hK K
 try simp only [pU]
 refine tG 15 93 (.bool true) rfl rfl hS9 ?_
 simp only [pU]
 refine tG 16 4 (.bool true) rfl rfl hS9 ?_
 simp only [pU]
 refine wpAnyH_done (by kernel_rfl) ?_ _
 refine NoPanic.normal ?_
 go_wp2
 go_ret
 exact ⟨g, an, sx2, av, lv, lz, rfl, H9.out, HSK.out.ev, HB4.out.trans (hS9.toBelow (fun b q => (H4.out.s.bw b q).1) (Nat.le_trans HBm.out HB4.out.size)), Nat.le_succ _⟩
end Go.Proofs.YtgmfiljjogdccabGreatDoor
