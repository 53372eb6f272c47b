import Derived.Test.YtgmfiljjogdccabGreatDoorPart00
import Derived.Test.YtgmfiljjogdccabGreatDoorPart43
import Derived.Test.YtgmfiljjogdccabGreatDoorPart28
namespace Go.Proofs.YtgmfiljjogdccabGreatDoor
open Go.RowKit Go.RwLone Go.Conc.Locks
set_option linter.unusedVariables false
set_option linter.unusedSimpArgs false
set_option maxHeartbeats 6400000 in
set_option maxRecDepth 100000 in
theorem one_tells (w : World) (B m : Nat) (kx : Option Kx) (g : Bool) (an : Nat) (sx : Nat → Sx) (av lv : Value) (lz : List Int) (o : OpV) (h : BS w B m kx g g an sx av lv lz) (he : Even an sx) (ho : OpOk o) (hd : Dat w (BW m kx an sx av) o.dv o.zs) (hk : o.k = 9) :
  Calls Tryz.prog 7 #[.pointer (some ⟨m, 0, none⟩), .agg o.L.toArray] w (OneP w B m kx an) := by
 obtain ⟨ok, oa, on, os, da, dn, dc, zs⟩ := o
 simp only at hk
 subst hk
 obtain ⟨S, HS⟩ : ∃ S, Hid (S = BW m kx an sx av) := ⟨_, rfl⟩
 obtain ⟨h1, h2, h3, h4⟩ := os_start _ h hd
 have HOK : Hid (OpOk ⟨9, oa, on, os, da, dn, dc, zs⟩) := ho
 have HEV : Hid (Even an sx) := he
 have HBm : Hid (B ≤ w.heap.size) := Nat.le_trans h.ord.1 (Nat.le_of_lt h.mlt)
 obtain ⟨W1, HW1⟩ : ∃ W, Hid (W = w.alloc (.cells (OpV.L ⟨9, oa, on, os, da, dn, dc, zs⟩).toArray 40)) := ⟨_, rfl⟩
 rw [← HW1.out] at h1 h2 h3 h4
 have H1 : Hid (BS W1 B m kx g g an sx av lv lz) := h1
 have H2 : Hid (OpAt W1 (BW m kx an sx av) w.heap.size ⟨9, oa, on, os, da, dn, dc, zs⟩) := h2
 have H3 : Hid (Dat W1 (BW m kx an sx av) (.slice da dn dc) zs) := h3
 have H4 : Hid (Below w.heap.size w W1) := h4
 have c19 : W1.cell? ⟨w.heap.size, 19, none⟩ = some (.slice da dn dc) := H2.out.cell 19 _ rfl
 have c0 : W1.cell? ⟨w.heap.size, 0, none⟩ = some (.int .i64 9) := H2.out.cell 0 _ rfl
 have K11 : Hid (Calls Tryz.prog 11 #[.slice da dn dc] W1 fun e w' => ∃ v', e = .returned v' ∧ Marked W1.heap.size w' v' zs ∧ Below W1.heap.size W1 w') := copy_any _ zs W1 ho.mx h3.vw
 clear h1 h2 h3 h4 h he ho hd
 unfold OpV.L at HW1 ⊢
 simp only at HW1 ⊢
 generalize sb os 0 = s0 at HW1 ⊢
 generalize sb os 1 = s1 at HW1 ⊢
 generalize sb os 2 = s2 at HW1 ⊢
 generalize sb os 3 = s3 at HW1 ⊢
 generalize sb os 4 = s4 at HW1 ⊢
 generalize sb os 5 = s5 at HW1 ⊢
 generalize sb os 6 = s6 at HW1 ⊢
 generalize sb os 7 = s7 at HW1 ⊢
 generalize sb os 8 = s8 at HW1 ⊢
 generalize sb os 9 = s9 at HW1 ⊢
 generalize sb os 10 = s10 at HW1 ⊢
 generalize sb os 11 = s11 at HW1 ⊢
 generalize sb os 12 = s12 at HW1 ⊢
 generalize sb os 13 = s13 at HW1 ⊢
 generalize sb os 14 = s14 at HW1 ⊢
 generalize sb os 15 = s15 at HW1 ⊢
 obtain ⟨bo, HBO⟩ : ∃ b, Hid (w.heap.size = b) := ⟨_, rfl⟩
 go_enter Tryz.func7, Tryz.ntmps7
 go_upto_region 1 with fail
 rw [← HW1.out, HBO.out]
 rw [HBO.out] at H2 c19 c0
 go_wp2_with (first | (go_at_call 11; refine K11.out.mono ?_))
 rintro e2 w2 ⟨own, rfl, hm2, hb2⟩
 have H : Hid (OS w2 B m kx g g an sx av lv lz (BW m kx an sx av) bo ⟨9, oa, on, os, da, dn, dc, zs⟩ own) := os_copied H1.out H2.out H3.out hm2 hb2
 have HB : Hid (Below B w w2) := (H4.out.mono HBm.out).trans (hb2.mono (Nat.le_trans HBm.out H4.out.size))
 clear hm2 hb2 c19 c0 K11 H1 H2 H3 H4
 have c0 : w2.cell? ⟨bo, 0, none⟩ = some (.int .i64 9) := H.out.op.cell 0 _ rfl
 go_upto_region 47 with fail
 cases kx with
 | none =>
  have K20 : Hid (Calls Tryz.prog 20 #[.pointer (some ⟨m, 0, none⟩)] w2 fun e u' => e = .returned (.int .i64 1) ∧ u' = w2) := gone_b H.out.s
  go_wp2_with (first | (go_at_call 20; refine K20.out.mono ?_))
  rintro e3 w3 ⟨rfl, hw3⟩
  obtain rfl := hw3.symm
  clear K20 c0
  have ck : w2.cell? ⟨m, 0, none⟩ = some (.pointer none) := H.out.s.ck
  have K30 : Hid (Calls Tryz.prog 30 #[.pointer none] w2 fun e w' => e = .returned (.int .i64 0) ∧ BS w' B m none g g an sx av lv lz ∧ FrP w2 w' (BW m none an sx av)) := size_b H.out.s
  go_wp2_with (first | (go_at_call 30; refine K30.out.mono ?_))
  rintro e4 w4 ⟨rfl, h4, f4⟩
  have H4 : Hid (OS w4 B m none g g an sx av lv lz (BW m none an sx av) bo ⟨9, oa, on, os, da, dn, dc, zs⟩ own) := H.out.to h4 f4 (fun i => ⟨rfl, rfl⟩)
  have HB4 : Hid (Below B w w4) := HB.out.trans (f4.toBelow (fun b q => (H.out.s.bw b q).1) (Nat.le_trans HBm.out HB.out.size))
  clear h4 f4 ck K30
  have ck : w4.cell? ⟨m, 0, none⟩ = some (.pointer none) := H4.out.s.ck
  have K31 : Hid (Calls Tryz.prog 31 #[.pointer none] w4 fun e w' => e = .returned (.int .i64 0) ∧ BS w' B m none g g an sx av lv lz ∧ FrP w4 w' (BW m none an sx av)) := rounds_b H4.out.s
  go_wp2_with (first | (go_at_call 31; refine K31.out.mono ?_))
  rintro e5 w5 ⟨rfl, h5, f5⟩
  have H5 : Hid (OS w5 B m none g g an sx av lv lz (BW m none an sx av) bo ⟨9, oa, on, os, da, dn, dc, zs⟩ own) := H4.out.to h5 f5 (fun i => ⟨rfl, rfl⟩)
  have HB5 : Hid (Below B w w5) := HB4.out.trans (f5.toBelow (fun b q => (H4.out.s.bw b q).1) (Nat.le_trans HBm.out HB4.out.size))
  clear h5 f5 ck K31
  have ck : w5.cell? ⟨m, 0, none⟩ = some (.pointer none) := H5.out.s.ck
  have K32 : Hid (Calls Tryz.prog 32 #[.pointer none] w5 (WrdP w5 B m none g g an sx av lv lz)) := words_b H5.out.s
  go_wp2_with (first | (go_at_call 32; refine K32.out.mono ?_; rintro e6 w6 ⟨xa, xn, xc, rfl, h6, f6, hz6, _⟩; obtain rfl := hz6 (by show (1 : Int) ≠ 0; decide); clear hz6))
  have H6 : Hid (OS w6 B m none g g an sx av lv lz (BW m none an sx av) bo ⟨9, oa, on, os, da, dn, dc, zs⟩ own) := H5.out.to h6 f6 (fun i => ⟨rfl, rfl⟩)
  have HB6 : Hid (Below B w w6) := HB5.out.trans (f6.toBelow (fun b q => (H5.out.s.bw b q).1) (Nat.le_trans HBm.out HB5.out.size))
  go_ret
  exact H6.out.fin HEV.out HB6.out
 | some k =>
  cases g with
  | true =>
   have K20 : Hid (Calls Tryz.prog 20 #[.pointer (some ⟨m, 0, none⟩)] w2 fun e u' => e = .returned (.int .i64 21) ∧ u' = w2) := gone_b H.out.s
   go_wp2_with (first | (go_at_call 20; refine K20.out.mono ?_))
   rintro e3 w3 ⟨rfl, hw3⟩
   obtain rfl := hw3.symm
   clear K20 c0
   have ck : w2.cell? ⟨m, 0, none⟩ = some (.pointer (some ⟨k.g, 0, none⟩)) := H.out.s.ck
   have K30 : Hid (Calls Tryz.prog 30 #[.pointer (some ⟨k.g, 0, none⟩)] w2 fun e w' => e = .returned (.int .i64 0) ∧ BS w' B m (some k) true true an sx av lv lz ∧ FrP w2 w' (BW m (some k) an sx av)) := size_b H.out.s
   go_wp2_with (first | (go_at_call 30; refine K30.out.mono ?_))
   rintro e4 w4 ⟨rfl, h4, f4⟩
   have H4 : Hid (OS w4 B m (some k) true true an sx av lv lz (BW m (some k) an sx av) bo ⟨9, oa, on, os, da, dn, dc, zs⟩ own) := H.out.to h4 f4 (fun i => ⟨rfl, rfl⟩)
   have HB4 : Hid (Below B w w4) := HB.out.trans (f4.toBelow (fun b q => (H.out.s.bw b q).1) (Nat.le_trans HBm.out HB.out.size))
   clear h4 f4 ck K30
   have ck : w4.cell? ⟨m, 0, none⟩ = some (.pointer (some ⟨k.g, 0, none⟩)) := H4.out.s.ck
   have K31 : Hid (Calls Tryz.prog 31 #[.pointer (some ⟨k.g, 0, none⟩)] w4 fun e w' => e = .returned (.int .i64 0) ∧ BS w' B m (some k) true true an sx av lv lz ∧ FrP w4 w' (BW m (some k) an sx av)) := rounds_b H4.out.s
   go_wp2_with (first | (go_at_call 31; refine K31.out.mono ?_))
   rintro e5 w5 ⟨rfl, h5, f5⟩
   have H5 : Hid (OS w5 B m (some k) true true an sx av lv lz (BW m (some k) an sx av) bo ⟨9, oa, on, os, da, dn, dc, zs⟩ own) := H4.out.to h5 f5 (fun i => ⟨rfl, rfl⟩)
   have HB5 : Hid (Below B w w5) := HB4.out.trans (f5.toBelow (fun b q => (H4.out.s.bw b q).1) (Nat.le_trans HBm.out HB4.out.size))
   clear h5 f5 ck K31
   have ck : w5.cell? ⟨m, 0, none⟩ = some (.pointer (some ⟨k.g, 0, none⟩)) := H5.out.s.ck
   have K32 : Hid (Calls Tryz.prog 32 #[.pointer (some ⟨k.g, 0, none⟩)] w5 (WrdP w5 B m (some k) true true an sx av lv lz)) := words_b H5.out.s
   go_wp2_with (first | (go_at_call 32; refine K32.out.mono ?_; rintro e6 w6 ⟨xa, xn, xc, rfl, h6, f6, hz6, _⟩; obtain rfl := hz6 (by show (21 : Int) ≠ 0; decide); clear hz6))
   have H6 : Hid (OS w6 B m (some k) true true an sx av lv lz (BW m (some k) an sx av) bo ⟨9, oa, on, os, da, dn, dc, zs⟩ own) := H5.out.to h6 f6 (fun i => ⟨rfl, rfl⟩)
   have HB6 : Hid (Below B w w6) := HB5.out.trans (f6.toBelow (fun b q => (H5.out.s.bw b q).1) (Nat.le_trans HBm.out HB5.out.size))
   go_ret
   exact H6.out.fin HEV.out HB6.out
  | false =>
   have K20 : Hid (Calls Tryz.prog 20 #[.pointer (some ⟨m, 0, none⟩)] w2 fun e u' => e = .returned (.int .i64 0) ∧ u' = w2) := gone_b H.out.s
   go_wp2_with (first | (go_at_call 20; refine K20.out.mono ?_))
   rintro e3 w3 ⟨rfl, hw3⟩
   obtain rfl := hw3.symm
   clear K20 c0
   obtain ⟨r1, r2, r3, r4, r5⟩ := H.out.s.kk k rfl
   obtain ⟨bp, bc, hbs⟩ := (r3.on rfl).bytes
   have HGG : Hid (k.g < k.g2 ∧ k.g2 < w2.heap.size ∧ k.nk ≤ 8 ∧ (∀ i, k.K i < 4294967296)) := ⟨r1.g2, r3.lt, by rcases r1.nk with e | e | e <;> omega, r1.K⟩
   have HBS : Hid (w2.cell? ⟨k.g2, 0, none⟩ = some (.slice bp (4 * k.nk) bc)) := hbs
   obtain ⟨s4, HS4⟩ : ∃ x, Hid (x = 4 * k.nk) := ⟨_, rfl⟩
   obtain ⟨r6, HR6⟩ : ∃ x, Hid (x = k.nk + 6) := ⟨_, rfl⟩
   obtain ⟨mm, HMM⟩ : ∃ x, Hid (x = 4 * (k.nk + 7)) := ⟨_, rfl⟩
   rw [← HS4.out] at HBS
   clear r1 r2 r3 r4 r5 hbs
   have HKT : Hid (∀ u u' : World, (BS u B m (some k) false false an sx av lv lz ∧ u.heap[k.g2]? = w2.heap[k.g2]? ∧ Below B w u) → KeyAt u' k.g (k.nk + 6) k.K → Touch u u' k.g 4 1 → (BS u' B m (some k) false false an sx av lv lz ∧ u'.heap[k.g2]? = w2.heap[k.g2]? ∧ Below B w u')) := fun u u' hu h1 h2 => by
    obtain ⟨q1, q2⟩ := hu.1.onp h1 h2
    refine ⟨q1, (h2.block k.g2 (hu.1.kk k rfl).2.2.1.lt (by have := HGG.out.1; omega)).trans hu.2.1, hu.2.2.trans (q2.toBelow (fun b q => (hu.1.bw b q).1) (Nat.le_trans HBm.out hu.2.2.size))⟩
   have HKY : Hid (∀ u : World, (BS u B m (some k) false false an sx av lv lz ∧ u.heap[k.g2]? = w2.heap[k.g2]? ∧ Below B w u) → KeyAt u k.g (k.nk + 6) k.K ∧ RefAt u k.g2 k.gr k.nk k.K) := fun u hu => ⟨(hu.1.kk k rfl).2.1.on rfl, (hu.1.kk k rfl).2.2.1.on rfl⟩
   have K30 : Hid (∀ u : World, (BS u B m (some k) false false an sx av lv lz ∧ u.heap[k.g2]? = w2.heap[k.g2]? ∧ Below B w u) → Calls Tryz.prog 30 #[.pointer (some ⟨k.g, 0, none⟩)] u fun e u' => e = .returned (.int .i64 (s4 : Nat)) ∧ (BS u' B m (some k) false false an sx av lv lz ∧ u'.heap[k.g2]? = w2.heap[k.g2]? ∧ Below B w u')) := fun u hu => by
    refine (size_ok k.g (k.nk + 6) k.K u (HKY.out u hu).1 (by omega)).mono ?_
    rintro e u' ⟨rfl, h1, h2⟩
    exact ⟨by rw [HS4.out, Nat.add_sub_cancel], HKT.out u u' hu h1 h2⟩
   have K31 : Hid (∀ u : World, (BS u B m (some k) false false an sx av lv lz ∧ u.heap[k.g2]? = w2.heap[k.g2]? ∧ Below B w u) → Calls Tryz.prog 31 #[.pointer (some ⟨k.g, 0, none⟩)] u fun e u' => e = .returned (.int .i64 (r6 : Nat)) ∧ (BS u' B m (some k) false false an sx av lv lz ∧ u'.heap[k.g2]? = w2.heap[k.g2]? ∧ Below B w u')) := fun u hu => by
    refine (rounds_ok k.g (k.nk + 6) k.K u (HKY.out u hu).1).mono ?_
    rintro e u' ⟨rfl, h1, h2⟩
    exact ⟨by rw [HR6.out], HKT.out u u' hu h1 h2⟩
   have K33 : Hid (∀ u : World, (BS u B m (some k) false false an sx av lv lz ∧ u.heap[k.g2]? = w2.heap[k.g2]? ∧ Below B w u) → Calls Tryz.prog 33 #[.pointer (some ⟨k.g2, 0, none⟩)] u fun e u' => e = .returned (.int .i64 (r6 : Nat)) ∧ u' = u) := fun u hu => by
    rw [HR6.out]
    exact rrounds_ok k.g2 k.gr k.nk k.K u (HKY.out u hu).2 HGG.out.2.2.1
   have K32 : Hid (∀ u : World, (BS u B m (some k) false false an sx av lv lz ∧ u.heap[k.g2]? = w2.heap[k.g2]? ∧ Below B w u) → Calls Tryz.prog 32 #[.pointer (some ⟨k.g, 0, none⟩)] u fun e u' => ∃ t c, e = .returned (.slice (some ⟨t, 0, none⟩) mm c) ∧ Wr u' t mm k.K ∧ (BS u' B m (some k) false false an sx av lv lz ∧ u'.heap[k.g2]? = w2.heap[k.g2]? ∧ Below B w u')) := fun u hu => by
    refine (words_ok k.g (k.nk + 6) k.K u (HKY.out u hu).1).mono ?_
    rintro e u' ⟨v, rfl, h0, h1, h2⟩
    obtain ⟨t, c, rfl, _, h3⟩ := own_wr h0 (by omega)
    rw [HMM.out]
    exact ⟨t, c, rfl, h3, HKT.out u u' hu h1 h2⟩
   have K35 : Hid (∀ u : World, (BS u B m (some k) false false an sx av lv lz ∧ u.heap[k.g2]? = w2.heap[k.g2]? ∧ Below B w u) → Calls Tryz.prog 35 #[.pointer (some ⟨k.g2, 0, none⟩)] u fun e u' => ∃ t c, e = .returned (.slice (some ⟨t, 0, none⟩) mm c) ∧ Wr u' t mm k.K ∧ Below u.heap.size u u') := fun u hu => by
    refine (rwords_ok k.g2 k.gr k.nk k.K u (HKY.out u hu).2 HGG.out.2.2.1 HGG.out.2.2.2).mono ?_
    rintro e u' ⟨v, rfl, h0, h1⟩
    obtain ⟨t, c, rfl, _, h3⟩ := own_wr h0 (by omega)
    rw [HMM.out]
    exact ⟨t, c, rfl, h3, h1⟩
   have HSB : Hid (∀ u u' : World, (BS u B m (some k) false false an sx av lv lz ∧ u.heap[k.g2]? = w2.heap[k.g2]? ∧ Below B w u) → Below u.heap.size u u' → (BS u' B m (some k) false false an sx av lv lz ∧ u'.heap[k.g2]? = w2.heap[k.g2]? ∧ Below B w u')) := fun u u' hu hb => ⟨hu.1.below hb, (hb.block k.g2 (hu.1.kk k rfl).2.2.1.lt).trans hu.2.1, hu.2.2.trans (hb.mono (Nat.le_trans HBm.out hu.2.2.size))⟩
   have hs4 : s4 ≤ 32 := by have := HS4.out; have := HGG.out.2.2.1; omega
   have hr6 : r6 ≤ 14 := by have := HR6.out; have := HGG.out.2.2.1; omega
   have HMM2 : Hid (mm ≤ 1000) := by have := HMM.out; have := HGG.out.2.2.1; show mm ≤ 1000; omega
   go_upto_region 49 with fail
   have hS0 : (BS w2.drew B m (some k) false false an sx av lv lz ∧ w2.drew.heap[k.g2]? = w2.heap[k.g2]? ∧ Below B w w2.drew) := HSB.out w2 w2.drew ⟨H.out.s, rfl, HB.out⟩ ((Below.refl _ _).drew)
   refine wp_region_noPanic ?_
   refine wp_region_held_drew (S := fun u => BS u B m (some k) false false an sx av lv lz ∧ u.heap[k.g2]? = w2.heap[k.g2]? ∧ Below B w u) (by kernel_rfl) (hS0) (fun _ => ?_)
   refine tG 0 379 (.pointer (some ⟨m, 0, none⟩)) rfl rfl hS0 ?_
   simp only [pU]
   refine tG 1 380 (.pointer (some ⟨m, 0, none⟩)) rfl rfl hS0 ?_
   simp only [pU]
   refine tG 2 381 (.pointer (some ⟨m, 0, none⟩)) rfl rfl hS0 ?_
   simp only [pU]
   refine tH 3 382 (.pointer (some ⟨k.g, 0, none⟩)) rfl rfl (by kernel_rfl) (hS0) (Or.inl ⟨by rfl, fun w' hS' => by have q1 : w'.cell? ⟨m, 0, none⟩ = some (.pointer (some ⟨k.g, 0, none⟩)) := hS'.1.ck; go_simp⟩) ?_
   simp only [pU]
   refine tG 5 384 (.pointer (some ⟨m, 0, none⟩)) rfl rfl hS0 ?_
   simp only [pU]
   refine tG 6 385 (.pointer (some ⟨m, 0, none⟩)) rfl rfl hS0 ?_
   simp only [pU]
   refine tG 7 386 (.pointer (some ⟨m, 1, none⟩)) rfl rfl hS0 ?_
   simp only [pU]
   refine tH 8 387 (.pointer (some ⟨k.g2, 0, none⟩)) rfl rfl (by kernel_rfl) (hS0) (Or.inl ⟨by rfl, fun w' hS' => by have q1 : w'.cell? ⟨m, 1, none⟩ = some (.pointer (some ⟨k.g2, 0, none⟩)) := hS'.1.cr; go_simp⟩) ?_
   simp only [pU]
   refine tG 9 388 (.pointer (some ⟨k.g2, 0, none⟩)) rfl rfl hS0 ?_
   simp only [pU]
   refine tG 10 389 (.pointer (some ⟨k.g2, 0, none⟩)) rfl rfl hS0 ?_
   simp only [pU]
   refine tH 11 390 (.slice bp s4 bc) rfl rfl (by kernel_rfl) (hS0) (Or.inl ⟨by rfl, fun w' hS' => by have q1 : w'.cell? ⟨k.g2, 0, none⟩ = some (.slice bp s4 bc) := (World.cell?_of_block (a := ⟨k.g2, 0, none⟩) hS'.2.1).trans HBS.out; go_simp⟩) ?_
   simp only [pU]
   refine tG 12 391 (.int .i64 (s4 : Nat)) rfl rfl hS0 ?_
   simp only [pU]
   refine wpAnyH_ready (rs := [4]) (by kernel_rfl) (by simp) ?_
   refine AllReadyH.cons rfl (fun K hK => ?_) AllReadyH.nil
   go_simp
   refine (K30.out _ hS0).mono ?_
   rintro e4 w4 ⟨rfl, hS4⟩
   go_wp2_with fail
   refine hK.out _ _ hS4 (fun _ => ?_)
   clear hK K
   try simp only [pU]
   refine tG 13 392 (.bool true) rfl rfl hS4 ?_
   simp only [pU]
   refine tG 14 393 (.bool true) rfl rfl hS4 ?_
   simp only [pU]
   refine tG 15 394 (.pointer (some ⟨m, 0, none⟩)) rfl rfl hS4 ?_
   simp only [pU]
   refine tG 16 395 (.pointer (some ⟨m, 0, none⟩)) rfl rfl hS4 ?_
   simp only [pU]
   refine tG 17 396 (.pointer (some ⟨m, 0, none⟩)) rfl rfl hS4 ?_
   simp only [pU]
   refine tH 18 397 (.pointer (some ⟨k.g, 0, none⟩)) rfl rfl (by kernel_rfl) (hS4) (Or.inl ⟨by rfl, fun w' hS' => by have q1 : w'.cell? ⟨m, 0, none⟩ = some (.pointer (some ⟨k.g, 0, none⟩)) := hS'.1.ck; go_simp⟩) ?_
   simp only [pU]
   refine tG 20 399 (.pointer (some ⟨m, 0, none⟩)) rfl rfl hS4 ?_
   simp only [pU]
   refine tG 21 400 (.pointer (some ⟨m, 0, none⟩)) rfl rfl hS4 ?_
   simp only [pU]
   refine tG 22 401 (.pointer (some ⟨m, 1, none⟩)) rfl rfl hS4 ?_
   simp only [pU]
   refine tH 23 402 (.pointer (some ⟨k.g2, 0, none⟩)) rfl rfl (by kernel_rfl) (hS4) (Or.inl ⟨by rfl, fun w' hS' => by have q1 : w'.cell? ⟨m, 1, none⟩ = some (.pointer (some ⟨k.g2, 0, none⟩)) := hS'.1.cr; go_simp⟩) ?_
   simp only [pU]
   refine wpAnyH_ready (rs := [19]) (by kernel_rfl) (by simp) ?_
   refine AllReadyH.cons rfl (fun K hK => ?_) AllReadyH.nil
   go_simp
   refine (K31.out _ hS4).mono ?_
   rintro e5 w5 ⟨rfl, hS5⟩
   go_wp2_with fail
   refine hK.out _ _ hS5 (fun _ => ?_)
   clear hK K
   try simp only [pU]
   refine wpAnyH_ready (rs := [24]) (by kernel_rfl) (by simp) ?_
   refine AllReadyH.cons rfl (fun K hK => ?_) AllReadyH.nil
   go_simp
   refine (K33.out _ hS5).mono ?_
   rintro e6 w6 ⟨rfl, hw6⟩
   obtain rfl := hw6.symm
   go_wp2_with fail
   refine hK.out _ _ hS5 (fun _ => ?_)
   clear hK K
   try simp only [pU]
   refine tG 25 404 (.bool true) rfl rfl hS5 ?_
   simp only [pU]
   refine tG 26 405 (.bool true) rfl rfl hS5 ?_
   simp only [pU]
   refine tG 27 406 (.bool true) rfl rfl hS5 ?_
   simp only [pU]
   refine tG 28 407 (.pointer (some ⟨m, 0, none⟩)) rfl rfl hS5 ?_
   simp only [pU]
   refine tG 29 408 (.pointer (some ⟨m, 0, none⟩)) rfl rfl hS5 ?_
   simp only [pU]
   refine tG 30 409 (.pointer (some ⟨m, 0, none⟩)) rfl rfl hS5 ?_
   simp only [pU]
   refine tH 31 410 (.pointer (some ⟨k.g, 0, none⟩)) rfl rfl (by kernel_rfl) (hS5) (Or.inl ⟨by rfl, fun w' hS' => by have q1 : w'.cell? ⟨m, 0, none⟩ = some (.pointer (some ⟨k.g, 0, none⟩)) := hS'.1.ck; go_simp⟩) ?_
   simp only [pU]
   refine tG 33 412 (.pointer (some ⟨m, 0, none⟩)) rfl rfl hS5 ?_
   simp only [pU]
   refine tG 34 413 (.pointer (some ⟨m, 0, none⟩)) rfl rfl hS5 ?_
   simp only [pU]
   refine tG 35 414 (.pointer (some ⟨m, 1, none⟩)) rfl rfl hS5 ?_
   simp only [pU]
   refine tH 36 415 (.pointer (some ⟨k.g2, 0, none⟩)) rfl rfl (by kernel_rfl) (hS5) (Or.inl ⟨by rfl, fun w' hS' => by have q1 : w'.cell? ⟨m, 1, none⟩ = some (.pointer (some ⟨k.g2, 0, none⟩)) := hS'.1.cr; go_simp⟩) ?_
   simp only [pU]
   refine wpAnyH_ready (rs := [32]) (by kernel_rfl) (by simp) ?_
   refine AllReadyH.cons rfl (fun K hK => ?_) AllReadyH.nil
   go_simp
   refine (K32.out _ hS5).mono ?_
   rintro e7 w7 ⟨t7, c7, rfl, hr7, hS7⟩
   go_wp2_with fail
   refine hK.out _ _ hS7 (fun _ => ?_)
   clear hK K
   try simp only [pU]
   refine wpAnyH_ready (rs := [37]) (by kernel_rfl) (by simp) ?_
   refine AllReadyH.cons rfl (fun K hK => ?_) AllReadyH.nil
   go_simp
   refine (K35.out _ hS7).mono ?_
   rintro e8 w8 ⟨t8, c8, rfl, hr8, hb8⟩
   have hS8 := HSB.out _ _ hS7 hb8
   have hr9 := hr7.below hb8
   go_wp2_with fail
   refine hK.out _ _ hS8 (fun _ => ?_)
   clear hK K
   try simp only [pU]
   refine wpAnyH_ready (rs := [38]) (by kernel_rfl) (by simp) ?_
   refine AllReadyH.cons rfl (fun K hK => ?_) AllReadyH.nil
   go_simp
   refine (sameW t7 t8 c7 c8 mm k.K w8 HMM2.out hr9.c hr8.c).mono ?_
   rintro e9 w9 ⟨rfl, q9, rfl⟩
   have hS9 := HSB.out _ _ hS8 (below_drewN w8 q9)
   go_wp2_with fail
   refine hK.out _ _ hS9 (fun _ => ?_)
   clear hK K
   try simp only [pU]
   refine tG 39 418 (.bool true) rfl rfl hS9 ?_
   simp only [pU]
   refine tG 40 4 (.bool true) rfl rfl hS9 ?_
   simp only [pU]
   refine wpAnyH_done (by kernel_rfl) ?_ _
   refine NoPanic.normal ?_
   go_wp2
   go_ret
   exact ⟨false, an, sx, av, lv, lz, rfl, hS9.1, HEV.out, hS9.2.2, Nat.le_succ _⟩
end Go.Proofs.YtgmfiljjogdccabGreatDoor
