import Derived.Test.YtgmfiljjogdccabGreatDoorPart00
import Derived.Test.YtgmfiljjogdccabGreatDoorPart42
namespace Go.Proofs.YtgmfiljjogdccabGreatDoor
open Go.RowKit Go.RwLone Go.Conc.Locks
set_option linter.unusedVariables false
set_option linter.unusedSimpArgs false
set_option maxHeartbeats 6400000 in
set_option maxRecDepth 100000 in
theorem one_unwrap (w : World) (B m : Nat) (kx : Option Kx) (g : Bool) (an : Nat) (sx : Nat → Sx) (av lv : Value) (lz : List Int) (o : OpV) (h : BS w B m kx g g an sx av lv lz) (he : Even an sx) (ho : OpOk o) (hd : Dat w (BW m kx an sx av) o.dv o.zs) (hk : o.k = 7) :
  Calls Tryz.prog 7 #[.pointer (some ⟨m, 0, none⟩), .agg o.L.toArray] w (OneP w B m kx an) := by
 obtain ⟨ok, oa, on, os, da, dn, dc, zs⟩ := o
 simp only at hk
 subst hk
 obtain ⟨S, HS⟩ : ∃ S, Hid (S = BW m kx an sx av) := ⟨_, rfl⟩
 obtain ⟨h1, h2, h3, h4⟩ := os_start _ h hd
 have HOK : Hid (OpOk ⟨7, oa, on, os, da, dn, dc, zs⟩) := ho
 have HEV : Hid (Even an sx) := he
 have HBm : Hid (B ≤ w.heap.size) := Nat.le_trans h.ord.1 (Nat.le_of_lt h.mlt)
 obtain ⟨W1, HW1⟩ : ∃ W, Hid (W = w.alloc (.cells (OpV.L ⟨7, oa, on, os, da, dn, dc, zs⟩).toArray 40)) := ⟨_, rfl⟩
 rw [← HW1.out] at h1 h2 h3 h4
 have H1 : Hid (BS W1 B m kx g g an sx av lv lz) := h1
 have H2 : Hid (OpAt W1 (BW m kx an sx av) w.heap.size ⟨7, oa, on, os, da, dn, dc, zs⟩) := h2
 have H3 : Hid (Dat W1 (BW m kx an sx av) (.slice da dn dc) zs) := h3
 have H4 : Hid (Below w.heap.size w W1) := h4
 have c19 : W1.cell? ⟨w.heap.size, 19, none⟩ = some (.slice da dn dc) := H2.out.cell 19 _ rfl
 have c0 : W1.cell? ⟨w.heap.size, 0, none⟩ = some (.int .i64 7) := H2.out.cell 0 _ rfl
 have K11 : Hid (Calls Tryz.prog 11 #[.slice da dn dc] W1 fun e w' => ∃ v', e = .returned v' ∧ Marked W1.heap.size w' v' zs ∧ Below W1.heap.size W1 w') := copy_any _ zs W1 ho.mx h3.vw
 clear h1 h2 h3 h4 h he ho hd
 unfold OpV.L at HW1 ⊢
 simp only at HW1 ⊢
 generalize sb os 0 = s0 at HW1 ⊢
 generalize sb os 1 = s1 at HW1 ⊢
 generalize sb os 2 = s2 at HW1 ⊢
 generalize sb os 3 = s3 at HW1 ⊢
 generalize sb os 4 = s4 at HW1 ⊢
 generalize sb os 5 = s5 at HW1 ⊢
 generalize sb os 6 = s6 at HW1 ⊢
 generalize sb os 7 = s7 at HW1 ⊢
 generalize sb os 8 = s8 at HW1 ⊢
 generalize sb os 9 = s9 at HW1 ⊢
 generalize sb os 10 = s10 at HW1 ⊢
 generalize sb os 11 = s11 at HW1 ⊢
 generalize sb os 12 = s12 at HW1 ⊢
 generalize sb os 13 = s13 at HW1 ⊢
 generalize sb os 14 = s14 at HW1 ⊢
 generalize sb os 15 = s15 at HW1 ⊢
 obtain ⟨bo, HBO⟩ : ∃ b, Hid (w.heap.size = b) := ⟨_, rfl⟩
 go_enter Tryz.func7, Tryz.ntmps7
 go_upto_region 1 with fail
 rw [← HW1.out, HBO.out]
 rw [HBO.out] at H2 c19 c0
 go_wp2_with (first | (go_at_call 11; refine K11.out.mono ?_))
 rintro e2 w2 ⟨own, rfl, hm2, hb2⟩
 have H : Hid (OS w2 B m kx g g an sx av lv lz (BW m kx an sx av) bo ⟨7, oa, on, os, da, dn, dc, zs⟩ own) := os_copied H1.out H2.out H3.out hm2 hb2
 have HB : Hid (Below B w w2) := (H4.out.mono HBm.out).trans (hb2.mono (Nat.le_trans HBm.out H4.out.size))
 clear hm2 hb2 c19 c0 K11 H1 H2 H3 H4
 have c0 : w2.cell? ⟨bo, 0, none⟩ = some (.int .i64 7) := H.out.op.cell 0 _ rfl
 go_upto_region 38 with fail
 obtain ⟨pg, HPG⟩ : ∃ p, Hid (gq (kx.map Kx.g) = .pointer p) := gq_ptr _
 obtain ⟨pr, HPR⟩ : ∃ p, Hid (gq (kx.map Kx.g2) = .pointer p) := gq_ptr _
 have ck : w2.cell? ⟨m, 0, none⟩ = some (.pointer pg) := by rw [← HPG.out]; exact H.out.s.ck
 obtain ⟨ob, oc, rfl, hoa⟩ := H.out.own
 simp only at hoa
 have KP : Hid (Calls Tryz.prog 28 #[.pointer pg, .slice (some ⟨ob, 0, none⟩) zs.length oc] w2 (LsP w2 B m kx g g an sx av lv lz (unwR kx g zs) (BW m kx an sx av))) := by
  show Calls _ _ _ _ _
  rw [← HPG.out]
  exact unwrap_b ob oc zs H.out.s hoa
 clear hoa
 obtain ⟨RR, HRR⟩ : ∃ R, Hid (R = unwR kx g zs) := ⟨_, rfl⟩
 rw [← HRR.out] at KP
 obtain ⟨E, Z⟩ := RR
 go_wp2_with (first | (go_at_call 28; refine KP.out.mono ?_))
 rintro e3 w3 ⟨xa, xn, xc, rfl, hx3, h3, f3, n3⟩
 have H3 : Hid (OS w3 B m kx g g an sx av lv lz (BW m kx an sx av) bo ⟨7, oa, on, os, da, dn, dc, zs⟩ (.slice (some ⟨ob, 0, none⟩) zs.length oc)) := H.out.to h3 f3 (fun i => ⟨rfl, rfl⟩)
 have HB3 : Hid (Below B w w3) := HB.out.trans (f3.toBelow (fun b q => (H.out.s.bw b q).1) (Nat.le_trans HBm.out HB.out.size))
 have HX3 : Hid (View w3 (.slice xa xn xc) Z ∧ (Z ≠ [] → ∀ b, b ∈ vblk (.slice xa xn xc) → ¬ BW m kx an sx av b)) := ⟨hx3, fun e b q x => by have h1 := n3 e b q; have h2 := (H.out.s.bw b x).2; omega⟩
 clear h3 f3 n3 hx3 ck KP c0
 have G1 : Hid (∀ u, Below w3.heap.size w3 u → u.cell? ⟨m, 1, none⟩ = some (.pointer pr)) := fun u hu => (hu.cell (p := ⟨m, 1, none⟩) H3.out.s.mlt).trans (by rw [← HPR.out]; exact H3.out.s.cr)
 have G2 : Hid (∀ u, Below w3.heap.size w3 u → u.cell? ⟨bo, 19, none⟩ = some (.slice da dn dc)) := fun u hu => (hu.cell (p := ⟨bo, 19, none⟩) H3.out.op.lt).trans (H3.out.op.cell 19 _ rfl)
 have KR : Hid (∀ u, Below w3.heap.size w3 u → Calls Tryz.prog 29 #[.pointer pr, .slice da dn dc] u (LsN u (E, Z))) := fun u hu => by
  rw [HRR.out, ← HPR.out]
  exact runwrap_b _ zs (H3.out.below hu).s (H3.out.below hu).dat
 go_upto_region 39 with fail
 have hS0 : Below w3.heap.size w3 w3.drew := (Below.refl _ _).drew
 refine wp_region_noPanic ?_
 refine wp_region_held_drew (S := fun u => Below w3.heap.size w3 u) (by kernel_rfl) (hS0) (fun _ => ?_)
 refine tG 0 294 (.pointer (some ⟨m, 0, none⟩)) rfl rfl hS0 ?_
 simp only [pU]
 refine tG 1 295 (.pointer (some ⟨m, 0, none⟩)) rfl rfl hS0 ?_
 simp only [pU]
 refine tG 2 296 (.pointer (some ⟨m, 1, none⟩)) rfl rfl hS0 ?_
 simp only [pU]
 refine tQ 3 297 (.pointer pr) rfl rfl hS0 G1.out ?_
 simp only [pU]
 refine tG 4 298 (.pointer (some ⟨bo, 19, none⟩)) rfl rfl hS0 ?_
 simp only [pU]
 refine tQ 5 299 (.slice da dn dc) rfl rfl hS0 G2.out ?_
 simp only [pU]
 refine wpAnyH_ready (rs := [6]) (by kernel_rfl) (by simp) ?_
 refine AllReadyH.cons rfl (fun K hK => ?_) AllReadyH.nil
 go_simp
 refine (KR.out _ hS0).mono ?_
 rintro e4 w4 ⟨ya, yn, yc, rfl, hv4, hb4, hby4, hf4⟩
 have hS4 : Below w3.heap.size w3 w4 := hS0.trans (hb4.mono hS0.size)
 go_wp2_with fail
 refine hK.out _ _ hS4 (fun _ => ?_)
 clear hK K
 try simp only [pU]
 refine tG 7 293 (.tuple #[.slice ya yn yc, .int .i64 E]) rfl rfl hS4 ?_
 simp only [pU]
 refine tG 8 301 (.slice ya yn yc) rfl rfl hS4 ?_
 simp only [pU]
 refine tG 9 302 (.int .i64 E) rfl rfl hS4 ?_
 simp only [pU]
 refine tG 10 27 (.slice ya yn yc) rfl rfl hS4 ?_
 simp only [pU]
 refine tG 11 28 (.int .i64 E) rfl rfl hS4 ?_
 simp only [pU]
 refine wpAnyH_done (by kernel_rfl) ?_ _
 refine NoPanic.normal ?_
 have H4 : Hid (OS w4 B m kx g g an sx av lv lz (BW m kx an sx av) bo ⟨7, oa, on, os, da, dn, dc, zs⟩ (.slice (some ⟨ob, 0, none⟩) zs.length oc)) := H3.out.below hS4
 have HB4 : Hid (Below B w w4) := HB3.out.trans (hS4.mono (Nat.le_trans HBm.out HB3.out.size))
 have HX4 : Hid (View w4 (.slice xa xn xc) Z ∧ (Z ≠ [] → ∀ b, b ∈ vblk (.slice xa xn xc) → ¬ BW m kx an sx av b)) := ⟨view_frp HX3.out.1 HX3.out.2 (below_frp hS4 _), HX3.out.2⟩
 have HY4 : Hid (View w4 (.slice ya yn yc) Z ∧ AllBytes Z ∧ (Z ≠ [] → ∀ b, b ∈ vblk (.slice ya yn yc) → ¬ BW m kx an sx av b)) := ⟨hv4, hby4, fun e b q x => by have h1 := hf4 e b q; have h2 := (H3.out.s.bw b x).2; have h3 := hS0.size; omega⟩
 clear hS4 hS0 hv4 hby4 hf4 hb4 H3 HB3 HX3 G1 G2 KR
 have K6 : Hid (∀ u, Calls Tryz.prog 6 #[.int .i64 E] u fun e u' => e = .returned (.int .i64 E) ∧ u' = u) := num_o _
 obtain ⟨own, HOW⟩ : ∃ x, Hid (x = Value.slice (some ⟨ob, 0, none⟩) zs.length oc) := ⟨_, rfl⟩
 have H5 : Hid (OS w4 B m kx g g an sx av lv lz (BW m kx an sx av) bo ⟨7, oa, on, os, da, dn, dc, zs⟩ (.slice (some ⟨ob, 0, none⟩) zs.length oc)) := H4
 have HB5 : Hid (Below B w w4) := HB4
 have HX5 : Hid (View w4 (.slice xa xn xc) Z) := HX4.out.1
 have HY5 : Hid (View w4 (.slice ya yn yc) Z) := HY4.out.1
 have K15 : Hid (∀ q, Calls Tryz.prog 15 #[.slice xa xn xc, .int .i64 E, .slice ya yn yc, .int .i64 E, own, .slice da dn dc] (w4.drewN q) fun e u' => e = .returned (.bool true) ∧ ∃ r, u' = (w4.drewN q).drewN r) := fun q => lists_ok _ _ _ _ E Z zs (BW m kx an sx av) _ (view_drew HX5.out q) (view_drew HY5.out q) (by rw [HOW.out]; exact H5.out.w.drew q) (view_drew H5.out.d.vw q)
 rw [← HOW.out]
 go_upto_region 40 with fail
 have hS5 : ∃ q, w4.drew = w4.drewN q := ⟨1, rfl⟩
 refine wp_region_noPanic ?_
 refine wp_region_held_drew (S := fun u => ∃ q, u = w4.drewN q) (by kernel_rfl) (hS5) (fun _ => ?_)
 refine tG 0 303 (.slice xa xn xc) rfl rfl hS5 ?_
 simp only [pU]
 refine tG 1 304 (.int .i64 E) rfl rfl hS5 ?_
 simp only [pU]
 refine tG 3 306 (.slice ya yn yc) rfl rfl hS5 ?_
 simp only [pU]
 refine tG 4 307 (.int .i64 E) rfl rfl hS5 ?_
 simp only [pU]
 refine tG 5 308 (own) rfl rfl hS5 ?_
 simp only [pU]
 refine tG 6 309 (.pointer (some ⟨bo, 19, none⟩)) rfl rfl hS5 ?_
 simp only [pU]
 refine tH 7 310 (.slice da dn dc) rfl rfl (by kernel_rfl) (hS5) (Or.inl ⟨by rfl, fun w' hS' => by obtain ⟨qq, rfl⟩ := hS'; have q1 : (w4.drewN qq).cell? ⟨bo, 19, none⟩ = some (.slice da dn dc) := H5.out.op.cell 19 _ rfl; go_simp⟩) ?_
 simp only [pU]
 refine wpAnyH_ready (rs := [2]) (by kernel_rfl) (by simp) ?_
 refine AllReadyH.cons rfl (fun K hK => ?_) AllReadyH.nil
 go_simp
 refine (K6.out _).mono ?_
 rintro e6 w6 ⟨rfl, hw6⟩
 obtain rfl := hw6.symm
 go_wp2_with fail
 refine hK.out _ _ hS5 (fun _ => ?_)
 clear hK K
 try simp only [pU]
 refine wpAnyH_ready (rs := [8]) (by kernel_rfl) (by simp) ?_
 refine AllReadyH.cons rfl (fun K hK => ?_) AllReadyH.nil
 go_simp
 refine (K15.out 1).mono ?_
 rintro e7 w7 ⟨rfl, q7, rfl⟩
 have hS7 : ∃ q, w4.drewN (1 + q7) = w4.drewN q := ⟨1 + q7, rfl⟩
 go_wp2_with fail
 refine hK.out _ _ hS7 (fun _ => ?_)
 clear hK K
 try simp only [pU]
 refine tG 9 4 (.bool true) rfl rfl hS7 ?_
 simp only [pU]
 refine wpAnyH_done (by kernel_rfl) ?_ _
 refine NoPanic.normal ?_
 go_wp2
 go_ret
 have H6 := H5.out.drew (1 + q7)
 exact H6.fin HEV.out (HB5.out.trans ((below_drewN _ (1 + q7)).mono (Nat.le_trans HBm.out HB5.out.size)))
end Go.Proofs.YtgmfiljjogdccabGreatDoor
namespace Go.Proofs.YtgmfiljjogdccabGreatDoor
open Go.RowKit Go.RwLone Go.Conc.Locks
set_option linter.unusedVariables false
set_option linter.unusedSimpArgs false
set_option maxHeartbeats 6400000 in
set_option maxRecDepth 100000 in
theorem one_last (w : World) (B m : Nat) (kx : Option Kx) (g : Bool) (an : Nat) (sx : Nat → Sx) (av lv : Value) (lz : List Int) (o : OpV) (h : BS w B m kx g g an sx av lv lz) (he : Even an sx) (ho : OpOk o) (hd : Dat w (BW m kx an sx av) o.dv o.zs) (hk : o.k = 8) :
  Calls Tryz.prog 7 #[.pointer (some ⟨m, 0, none⟩), .agg o.L.toArray] w (OneP w B m kx an) := by
 obtain ⟨ok, oa, on, os, da, dn, dc, zs⟩ := o
 simp only at hk
 subst hk
 obtain ⟨S, HS⟩ : ∃ S, Hid (S = BW m kx an sx av) := ⟨_, rfl⟩
 obtain ⟨h1, h2, h3, h4⟩ := os_start _ h hd
 have HOK : Hid (OpOk ⟨8, oa, on, os, da, dn, dc, zs⟩) := ho
 have HEV : Hid (Even an sx) := he
 have HBm : Hid (B ≤ w.heap.size) := Nat.le_trans h.ord.1 (Nat.le_of_lt h.mlt)
 obtain ⟨W1, HW1⟩ : ∃ W, Hid (W = w.alloc (.cells (OpV.L ⟨8, oa, on, os, da, dn, dc, zs⟩).toArray 40)) := ⟨_, rfl⟩
 rw [← HW1.out] at h1 h2 h3 h4
 have H1 : Hid (BS W1 B m kx g g an sx av lv lz) := h1
 have H2 : Hid (OpAt W1 (BW m kx an sx av) w.heap.size ⟨8, oa, on, os, da, dn, dc, zs⟩) := h2
 have H3 : Hid (Dat W1 (BW m kx an sx av) (.slice da dn dc) zs) := h3
 have H4 : Hid (Below w.heap.size w W1) := h4
 have c19 : W1.cell? ⟨w.heap.size, 19, none⟩ = some (.slice da dn dc) := H2.out.cell 19 _ rfl
 have c0 : W1.cell? ⟨w.heap.size, 0, none⟩ = some (.int .i64 8) := H2.out.cell 0 _ rfl
 have K11 : Hid (Calls Tryz.prog 11 #[.slice da dn dc] W1 fun e w' => ∃ v', e = .returned v' ∧ Marked W1.heap.size w' v' zs ∧ Below W1.heap.size W1 w') := copy_any _ zs W1 ho.mx h3.vw
 clear h1 h2 h3 h4 h he ho hd
 unfold OpV.L at HW1 ⊢
 simp only at HW1 ⊢
 generalize sb os 0 = s0 at HW1 ⊢
 generalize sb os 1 = s1 at HW1 ⊢
 generalize sb os 2 = s2 at HW1 ⊢
 generalize sb os 3 = s3 at HW1 ⊢
 generalize sb os 4 = s4 at HW1 ⊢
 generalize sb os 5 = s5 at HW1 ⊢
 generalize sb os 6 = s6 at HW1 ⊢
 generalize sb os 7 = s7 at HW1 ⊢
 generalize sb os 8 = s8 at HW1 ⊢
 generalize sb os 9 = s9 at HW1 ⊢
 generalize sb os 10 = s10 at HW1 ⊢
 generalize sb os 11 = s11 at HW1 ⊢
 generalize sb os 12 = s12 at HW1 ⊢
 generalize sb os 13 = s13 at HW1 ⊢
 generalize sb os 14 = s14 at HW1 ⊢
 generalize sb os 15 = s15 at HW1 ⊢
 obtain ⟨bo, HBO⟩ : ∃ b, Hid (w.heap.size = b) := ⟨_, rfl⟩
 go_enter Tryz.func7, Tryz.ntmps7
 go_upto_region 1 with fail
 rw [← HW1.out, HBO.out]
 rw [HBO.out] at H2 c19 c0
 go_wp2_with (first | (go_at_call 11; refine K11.out.mono ?_))
 rintro e2 w2 ⟨own, rfl, hm2, hb2⟩
 have H : Hid (OS w2 B m kx g g an sx av lv lz (BW m kx an sx av) bo ⟨8, oa, on, os, da, dn, dc, zs⟩ own) := os_copied H1.out H2.out H3.out hm2 hb2
 have HB : Hid (Below B w w2) := (H4.out.mono HBm.out).trans (hb2.mono (Nat.le_trans HBm.out H4.out.size))
 clear hm2 hb2 c19 c0 K11 H1 H2 H3 H4
 have c0 : w2.cell? ⟨bo, 0, none⟩ = some (.int .i64 8) := H.out.op.cell 0 _ rfl
 go_upto_region 42 with fail
 obtain ⟨pg, HPG⟩ : ∃ p, Hid (gq (kx.map Kx.g) = .pointer p) := gq_ptr _
 obtain ⟨pr, HPR⟩ : ∃ p, Hid (gq (kx.map Kx.g2) = .pointer p) := gq_ptr _
 obtain ⟨la, lc, rfl, _⟩ := H.out.s.lw
 have c3 : w2.cell? ⟨m, 3, none⟩ = some (.slice la lz.length lc) := H.out.s.cl
 have K11 : Hid (Calls Tryz.prog 11 #[.slice la lz.length lc] w2 fun e w' => ∃ v', e = .returned v' ∧ Marked w2.heap.size w' v' lz ∧ Below w2.heap.size w2 w') := copy_any _ lz w2 (by have := H.out.s.ll; omega) H.out.s.lw
 go_wp2_with (first | (go_at_call 11; refine K11.out.mono ?_))
 rintro e3 w3 ⟨own3, rfl, hm3, hb3⟩
 have H3 : Hid (OS w3 B m kx g g an sx av (.slice la lz.length lc) lz (BW m kx an sx av) bo ⟨8, oa, on, os, da, dn, dc, zs⟩ own) := H.out.below hb3
 have HW3 : Hid (Own w3 (BW m kx an sx av) own3 lz) := Own.new hm3 H.out.s.lb (fun b q => (H.out.s.bw b q).2)
 have HB3 : Hid (Below B w w3) := HB.out.trans (hb3.mono (Nat.le_trans HBm.out HB.out.size))
 clear hm3 hb3 c3 c0 K11
 obtain ⟨ob, oc, rfl, hoa⟩ := HW3.out.at
 have ck : w3.cell? ⟨m, 0, none⟩ = some (.pointer pg) := by rw [← HPG.out]; exact H3.out.s.ck
 have KP : Hid (Calls Tryz.prog 28 #[.pointer pg, .slice (some ⟨ob, 0, none⟩) lz.length oc] w3 (LsP w3 B m kx g g an sx av (.slice la lz.length lc) lz (unwR kx g lz) (BW m kx an sx av))) := by
  show Calls _ _ _ _ _
  rw [← HPG.out]
  exact unwrap_b ob oc lz H3.out.s hoa
 clear hoa
 obtain ⟨RR, HRR⟩ : ∃ R, Hid (R = unwR kx g lz) := ⟨_, rfl⟩
 rw [← HRR.out] at KP
 obtain ⟨E, Z⟩ := RR
 go_wp2_with (first | (go_at_call 28; refine KP.out.mono ?_))
 rintro e4 w4 ⟨xa, xn, xc, rfl, hx4, h4, f4, n4⟩
 have H4 : Hid (OS w4 B m kx g g an sx av (.slice la lz.length lc) lz (BW m kx an sx av) bo ⟨8, oa, on, os, da, dn, dc, zs⟩ own) := H3.out.to h4 f4 (fun i => ⟨rfl, rfl⟩)
 have HW4 : Hid (Own w4 (BW m kx an sx av) (.slice (some ⟨ob, 0, none⟩) lz.length oc) lz) := HW3.out.frp f4
 have HB4 : Hid (Below B w w4) := HB3.out.trans (f4.toBelow (fun b q => (H3.out.s.bw b q).1) (Nat.le_trans HBm.out HB3.out.size))
 have HX4 : Hid (View w4 (.slice xa xn xc) Z ∧ (Z ≠ [] → ∀ b, b ∈ vblk (.slice xa xn xc) → ¬ BW m kx an sx av b)) := ⟨hx4, fun e b q x => by have h1 := n4 e b q; have h2 := (H3.out.s.bw b x).2; omega⟩
 clear h4 f4 n4 hx4 ck KP
 have G1 : Hid (∀ u, Below w4.heap.size w4 u → u.cell? ⟨m, 1, none⟩ = some (.pointer pr)) := fun u hu => (hu.cell (p := ⟨m, 1, none⟩) H4.out.s.mlt).trans (by rw [← HPR.out]; exact H4.out.s.cr)
 have G2 : Hid (∀ u, Below w4.heap.size w4 u → u.cell? ⟨m, 3, none⟩ = some (.slice la lz.length lc)) := fun u hu => (hu.cell (p := ⟨m, 3, none⟩) H4.out.s.mlt).trans H4.out.s.cl
 have KR : Hid (∀ u, Below w4.heap.size w4 u → Calls Tryz.prog 29 #[.pointer pr, .slice la lz.length lc] u (LsN u (E, Z))) := fun u hu => by
  rw [HRR.out, ← HPR.out]
  exact runwrap_b _ lz (H4.out.below hu).s (H4.out.below hu).s.dl
 go_upto_region 44 with fail
 have hS0 : Below w4.heap.size w4 w4.drew := (Below.refl _ _).drew
 refine wp_region_noPanic ?_
 refine wp_region_held_drew (S := fun u => Below w4.heap.size w4 u) (by kernel_rfl) (hS0) (fun _ => ?_)
 refine tG 0 329 (.pointer (some ⟨m, 0, none⟩)) rfl rfl hS0 ?_
 simp only [pU]
 refine tG 1 330 (.pointer (some ⟨m, 0, none⟩)) rfl rfl hS0 ?_
 simp only [pU]
 refine tG 2 331 (.pointer (some ⟨m, 1, none⟩)) rfl rfl hS0 ?_
 simp only [pU]
 refine tQ 3 332 (.pointer pr) rfl rfl hS0 G1.out ?_
 simp only [pU]
 refine tG 4 333 (.pointer (some ⟨m, 0, none⟩)) rfl rfl hS0 ?_
 simp only [pU]
 refine tG 5 334 (.pointer (some ⟨m, 0, none⟩)) rfl rfl hS0 ?_
 simp only [pU]
 refine tG 6 335 (.pointer (some ⟨m, 3, none⟩)) rfl rfl hS0 ?_
 simp only [pU]
 refine tQ 7 336 (.slice la lz.length lc) rfl rfl hS0 G2.out ?_
 simp only [pU]
 refine wpAnyH_ready (rs := [8]) (by kernel_rfl) (by simp) ?_
 refine AllReadyH.cons rfl (fun K hK => ?_) AllReadyH.nil
 go_simp
 refine (KR.out _ hS0).mono ?_
 rintro e5 w5 ⟨ya, yn, yc, rfl, hv5, hb5, hby5, hf5⟩
 have hS5 : Below w4.heap.size w4 w5 := hS0.trans (hb5.mono hS0.size)
 go_wp2_with fail
 refine hK.out _ _ hS5 (fun _ => ?_)
 clear hK K
 try simp only [pU]
 refine tG 9 328 (.tuple #[.slice ya yn yc, .int .i64 E]) rfl rfl hS5 ?_
 simp only [pU]
 refine tG 10 338 (.slice ya yn yc) rfl rfl hS5 ?_
 simp only [pU]
 refine tG 11 339 (.int .i64 E) rfl rfl hS5 ?_
 simp only [pU]
 refine tG 12 31 (.slice ya yn yc) rfl rfl hS5 ?_
 simp only [pU]
 refine tG 13 32 (.int .i64 E) rfl rfl hS5 ?_
 simp only [pU]
 refine wpAnyH_done (by kernel_rfl) ?_ _
 refine NoPanic.normal ?_
 have H5 : Hid (OS w5 B m kx g g an sx av (.slice la lz.length lc) lz (BW m kx an sx av) bo ⟨8, oa, on, os, da, dn, dc, zs⟩ own) := H4.out.below hS5
 have HW5 : Hid (Own w5 (BW m kx an sx av) (.slice (some ⟨ob, 0, none⟩) lz.length oc) lz) := HW4.out.frp (below_frp hS5 _)
 have HB5 : Hid (Below B w w5) := HB4.out.trans (hS5.mono (Nat.le_trans HBm.out HB4.out.size))
 have HX5 : Hid (View w5 (.slice xa xn xc) Z) := view_frp HX4.out.1 HX4.out.2 (below_frp hS5 _)
 have HY5 : Hid (View w5 (.slice ya yn yc) Z) := hv5
 clear hS5 hS0 hv5 hby5 hf5 hb5 H4 HB4 HX4 G1 G2 KR
 have K6 : Hid (∀ u, Calls Tryz.prog 6 #[.int .i64 E] u fun e u' => e = .returned (.int .i64 E) ∧ u' = u) := num_o _
 have K15 : Hid (∀ q, Calls Tryz.prog 15 #[.slice xa xn xc, .int .i64 E, .slice ya yn yc, .int .i64 E, .slice (some ⟨ob, 0, none⟩) lz.length oc, .slice la lz.length lc] (w5.drewN q) fun e u' => e = .returned (.bool true) ∧ ∃ r, u' = (w5.drewN q).drewN r) := fun q => lists_ok _ _ _ _ E Z lz (BW m kx an sx av) _ (view_drew HX5.out q) (view_drew HY5.out q) (HW5.out.drew q) (view_drew H5.out.s.lw q)
 go_upto_region 45 with fail
 have hS5 : ∃ q, w5.drew = w5.drewN q := ⟨1, rfl⟩
 refine wp_region_noPanic ?_
 refine wp_region_held_drew (S := fun u => ∃ q, u = w5.drewN q) (by kernel_rfl) (hS5) (fun _ => ?_)
 refine tG 0 340 (.slice xa xn xc) rfl rfl hS5 ?_
 simp only [pU]
 refine tG 1 341 (.int .i64 E) rfl rfl hS5 ?_
 simp only [pU]
 refine tG 3 343 (.slice ya yn yc) rfl rfl hS5 ?_
 simp only [pU]
 refine tG 4 344 (.int .i64 E) rfl rfl hS5 ?_
 simp only [pU]
 refine tG 5 345 (.slice (some ⟨ob, 0, none⟩) lz.length oc) rfl rfl hS5 ?_
 simp only [pU]
 refine tG 6 346 (.pointer (some ⟨m, 0, none⟩)) rfl rfl hS5 ?_
 simp only [pU]
 refine tG 7 347 (.pointer (some ⟨m, 0, none⟩)) rfl rfl hS5 ?_
 simp only [pU]
 refine tG 8 348 (.pointer (some ⟨m, 3, none⟩)) rfl rfl hS5 ?_
 simp only [pU]
 refine tH 9 349 (.slice la lz.length lc) rfl rfl (by kernel_rfl) (hS5) (Or.inl ⟨by rfl, fun w' hS' => by obtain ⟨qq, rfl⟩ := hS'; have q1 : (w5.drewN qq).cell? ⟨m, 3, none⟩ = some (.slice la lz.length lc) := H5.out.s.cl; go_simp⟩) ?_
 simp only [pU]
 refine wpAnyH_ready (rs := [2]) (by kernel_rfl) (by simp) ?_
 refine AllReadyH.cons rfl (fun K hK => ?_) AllReadyH.nil
 go_simp
 refine (K6.out _).mono ?_
 rintro e6 w6 ⟨rfl, hw6⟩
 obtain rfl := hw6.symm
 go_wp2_with fail
 refine hK.out _ _ hS5 (fun _ => ?_)
 clear hK K
 try simp only [pU]
 refine wpAnyH_ready (rs := [10]) (by kernel_rfl) (by simp) ?_
 refine AllReadyH.cons rfl (fun K hK => ?_) AllReadyH.nil
 go_simp
 refine (K15.out 1).mono ?_
 rintro e7 w7 ⟨rfl, q7, rfl⟩
 have hS7 : ∃ q, w5.drewN (1 + q7) = w5.drewN q := ⟨1 + q7, rfl⟩
 go_wp2_with fail
 refine hK.out _ _ hS7 (fun _ => ?_)
 clear hK K
 try simp only [pU]
 refine tG 11 4 (.bool true) rfl rfl hS7 ?_
 simp only [pU]
 refine wpAnyH_done (by kernel_rfl) ?_ _
 refine NoPanic.normal ?_
 go_wp2
 go_ret
 have H6 := H5.out.drew (1 + q7)
 exact H6.fin HEV.out (HB5.out.trans ((below_drewN _ (1 + q7)).mono (Nat.le_trans HBm.out HB5.out.size)))
end Go.Proofs.YtgmfiljjogdccabGreatDoor
