import Derived.Test.YtgmfiljjogdccabGreatDoorPart50
import Derived.Test.YtgmfiljjogdccabGreatDoorPart00
import Derived.Deep.Slices
namespace Go.Proofs.YtgmfiljjogdccabGreatDoor
open Go.RowKit Go.RwLone Go.Conc.Locks
set_option linter.unusedVariables false
set_option linter.unusedSimpArgs false
set_option maxHeartbeats 6400000 in
set_option maxRecDepth 100000 in
theorem plays_good (kb ko kn kc nk : Nat) (key : Nat → Nat) (sa : Option Addr) (sn sc : Nat) (os : Nat → OpV) (w : World) (hS : ScAt w sa sn os) (hsn : sn ≤ sc) (hsc : sc ≤ 9223372036854775807) (hnk : nk = 4 ∨ nk = 6 ∨ nk = 8) (hn : kn = 4 * nk) (hkb : kb < w.heap.size) (hcell : ∀ i, i < kn → w.cell? ⟨kb, ko + i, none⟩ = some (.int .u8 (key i : Nat))) (hkey : ∀ i, key i < 256) (hrc : RC w) (hpos : 0 < w.heap.size) (hKK : ∀ i, schedK nk key i < 4294967296) :
  Calls Tryz.prog 3 #[.slice (some ⟨kb, ko, none⟩) kn kc, .slice sa sn sc] w fun e w' => e = .returned (.bool true) ∧ Below w.heap.size w w' := by
 have HS : Hid (ScAt w sa sn os) := hS
 have hsi : ((sn : Nat) : Int) ≤ 9223372036854775807 := by omega
 obtain ⟨B, HBE⟩ : ∃ B, Hid (w.heap.size = B) := ⟨_, rfl⟩
 have K4 : Hid (Calls Tryz.prog 4 #[.slice (some ⟨kb, ko, none⟩) kn kc] w fun e w' => ∃ g, e = .returned (.tuple #[.pointer (some ⟨g, 0, none⟩), .int .i64 0]) ∧ w.heap.size ≤ g ∧ KeyAt w' g (nk + 6) (schedK nk key) ∧ Below w.heap.size w w' ∧ Free w' g) := new_okF kb ko kn kc nk key w hnk hn hkb hcell hkey hrc hpos
 have K5 : Hid (∀ u, Below w.heap.size w u → Calls Tryz.prog 5 #[.slice (some ⟨kb, ko, none⟩) kn kc] u fun e w' => ∃ gr, e = .returned (.tuple #[.pointer (some ⟨u.heap.size, 0, none⟩), .int .i64 0]) ∧ RefAt w' u.heap.size gr nk (schedK nk key) ∧ Below u.heap.size u w') := fun u hu => rnew_ok kb ko kn kc nk key u hnk hn (Nat.lt_of_lt_of_le hkb hu.size) (fun i hi => (hu.cell (p := ⟨kb, ko + i, none⟩) hkb).trans (hcell i hi)) hkey
 have K6 : Hid (∀ u, Calls Tryz.prog 6 #[.int .i64 0] u fun e u' => e = .returned (.int .i64 0) ∧ u' = u) := num_o _
 have HNK : Hid ((nk = 4 ∨ nk = 6 ∨ nk = 8) ∧ ∀ i, schedK nk key i < 4294967296) := ⟨hnk, hKK⟩
 obtain ⟨K, HK⟩ : ∃ K, Hid (schedK nk key = K) := ⟨_, rfl⟩
 rw [HK.out] at K4 K5 HNK
 clear hS hsn hsc hnk hn hkb hcell hkey hrc hpos hKK
 go_enter Tryz.func3, Tryz.ntmps3
 go_wp2_with (first | (go_at_call 4; refine K4.out.mono ?_))
 rintro e1 w1 ⟨kg, rfl, hg1, hk1, hb1, hf1⟩
 have H1 : Hid (w.heap.size ≤ kg ∧ KeyAt w1 kg (nk + 6) K ∧ Below w.heap.size w w1 ∧ Free w1 kg) := ⟨hg1, hk1, hb1, hf1⟩
 clear hg1 hk1 hb1 hf1 K4
 go_wp2_with (first | (go_at_call 5; refine (K5.out _ H1.out.2.2.1).mono ?_))
 rintro e2 w2 ⟨gr, rfl, hr2, hb2⟩
 obtain ⟨g2, HG2⟩ : ∃ x, Hid (w1.heap.size = x) := ⟨_, rfl⟩
 rw [HG2.out] at hr2 ⊢
 have H3 : Hid (BS (w2.alloc (.cells #[.pointer (some ⟨kg, 0, none⟩), .pointer (some ⟨g2, 0, none⟩), .slice none 0 0, .slice none 0 0] 35)) w.heap.size w2.heap.size (some ⟨kg, g2, gr, nk, K⟩) false false 0 (fun _ => ⟨0, 0, ⟨0, 0, 0, 0⟩, 0, 0⟩) (.slice none 0 0) (.slice none 0 0) []) := by
  refine bs_start (u := w2) w.heap.size (some ⟨kg, g2, gr, nk, K⟩) (fun k e => ?_) (Nat.le_trans H1.out.2.2.1.size hb2.size)
  obtain rfl := (Option.some.inj e).symm
  have h1 := H1.out.2.1.ciph.here
  have h2 := HG2.out
  refine ⟨⟨HNK.out.1, HNK.out.2, by show kg < g2; omega, hr2.gt⟩, ⟨H1.out.2.2.2.same (hb2.block _ h1), fun _ => H1.out.2.1.sameK (hb2.block _ h1) hb2.size, fun e => (by cases e)⟩, ⟨fun _ => hr2, fun e => (by cases e)⟩, H1.out.1, hr2.ltr⟩
 have HB3 : Hid (Below w.heap.size w (w2.alloc (.cells #[.pointer (some ⟨kg, 0, none⟩), .pointer (some ⟨g2, 0, none⟩), .slice none 0 0, .slice none 0 0] 35))) := (H1.out.2.2.1.trans (hb2.mono H1.out.2.2.1.size)).alloc (Nat.le_trans H1.out.2.2.1.size hb2.size) _
 clear hr2 hb2 K5
 obtain ⟨M, HM⟩ : ∃ M, Hid (w2.heap.size = M) := ⟨_, rfl⟩
 go_upto_region 6 with (first
  | (go_at_call 6; refine (K6.out _).mono ?_; rintro e3 w3 ⟨rfl, hw3⟩; obtain rfl := hw3.symm))
 generalize (w2.alloc (.cells #[.pointer (some ⟨kg, 0, none⟩), .pointer (some ⟨g2, 0, none⟩), .slice none 0 0, .slice none 0 0] 35)) = w3 at H3 HB3 ⊢
 rw [HBE.out, HM.out] at H3
 rw [HBE.out] at HB3
 rw [HM.out]
 go_wp2
 go_loopw [10] (fun vi wr => ∃ i : Nat, i ≤ sn ∧ i ≤ 24 ∧ vi = .int .i64 (i : Nat) ∧ Hid (Below B w wr ∧ ∃ g an sx av lv lz, an ≤ i ∧ BS wr B M (some ⟨kg, g2, gr, nk, K⟩) g g an sx av lv lz ∧ Even an sx)) (fun v _ => 24 - (intOf v).toNat)
 case atStart => exact ⟨0, by omega, by omega, rfl, HB3.out, false, 0, _, _, _, _, Nat.le_refl _, H3.out, fun i hi => by omega⟩
 case round =>
  obtain ⟨i, his, hi24, rfl, HR⟩ := hrel
  clear H3 HB3
  by_cases hlt : i < sn ∧ i < 24
  ·have h1 : ((i : Nat) : Int) < ((sn : Nat) : Int) := by omega
   have h2 : ((i : Nat) : Int) < 24 := by omega
   obtain ⟨b, off, rfl, hbl, hop⟩ : ∃ b off, sa = some ⟨b, off, none⟩ ∧ b < w.heap.size ∧ ∀ i, i < sn → OpIn w (os i) ∧ w.rangeAt b (off + i * 20) (os i).L := by
    rcases HS.out with h | h
    ·omega
    ·exact h
   obtain ⟨g, an, sx, av, lv, lz, han, hbs, hev⟩ := HR.out.2
   have HSR : Hid (BS wr B M (some ⟨kg, g2, gr, nk, K⟩) g g an sx av lv lz) := hbs
   have HEV : Hid (Even an sx) := hev
   have HAN : Hid (an ≤ i ∧ i < 24) := ⟨han, hlt.2⟩
   obtain ⟨o, HO⟩ : ∃ o, Hid (o = os i) := ⟨_, rfl⟩
   have HOI : Hid (OpIn w o) := by show OpIn _ _; rw [HO.out]; exact (hop i hlt.1).1
   obtain ⟨OL, HOL⟩ : ∃ L, Hid (L = o.L) := ⟨_, rfl⟩
   have HO20 : Hid (O20 OL) := by show O20 _; rw [HOL.out]; exact o20 o
   have HBR : Hid (Below B w wr) := HR.out.1
   have HRG : Hid (wr.rangeAt b (off + i * 20) OL) := fun j v hv => (HBR.out.cell (p := ⟨b, off + i * 20 + j, none⟩) (by show b < B; rw [← HBE.out]; exact hbl)).trans ((hop i hlt.1).2 j v (by rw [← HO.out, ← HOL.out]; exact hv))
   have c19 : Hid (OL[19]? = some (.slice o.da o.dn o.dc)) := by show _ = _; rw [HOL.out]; rfl
   have HDM : Hid (o.dn = o.zs.length ∧ o.zs.length + 70 ≤ 140737488355328) := ⟨HOI.out.ok.len.symm, HOI.out.ok.mx⟩
   clear hbs hev han hop hbl HR
   have HTA : Hid ((wr.alloc (.cells #[.int .i64 0, .int .i64 0, .int .u64 0, .int .u8 0, .int .u8 0, .int .u8 0, .int .u8 0, .int .u8 0, .int .u8 0, .int .u8 0, .int .u8 0, .int .u8 0, .int .u8 0, .int .u8 0, .int .u8 0, .int .u8 0, .int .u8 0, .int .u8 0, .int .u8 0, .slice none 0 0] 40)).there wr.heap.size 0 OL.toArray.size) := by
    have ez : OL.toArray.size = 20 := by rw [List.size_toArray]; exact HO20.out.len
    show World.there _ _ _ _
    rw [ez]
    exact there_new wr _ 40 20 (by show 20 ≤ 20; omega)
   have HBA : Hid (Below wr.heap.size wr (wr.alloc (.cells #[.int .i64 0, .int .i64 0, .int .u64 0, .int .u8 0, .int .u8 0, .int .u8 0, .int .u8 0, .int .u8 0, .int .u8 0, .int .u8 0, .int .u8 0, .int .u8 0, .int .u8 0, .int .u8 0, .int .u8 0, .int .u8 0, .int .u8 0, .int .u8 0, .int .u8 0, .slice none 0 0] 40))) := (Below.refl _ _).alloc (Nat.le_refl _) _
   go_upto_region 10 with (first
    | (refine wpList_load_mid (by rfl) 40 (.tmp 49) (by rfl) b (off + i * 20) (by rfl) OL _ HRG.out Tryz.underlying40 rfl HO20.out.sz ?_)
    | (refine wpList_store_mid (by rfl) 40 (.tmp 11) (.tmp 50) (by rfl) wr.heap.size 0 OL.toArray (by rfl) (by rfl) HTA.out HO20.out.sza HO20.out.one ?_))
   try rw [List.toList_toArray]
   obtain ⟨bx, HBX0⟩ : ∃ x, Hid (wr.heap.size = x) := ⟨_, rfl⟩
   have HW2 : Hid (Below wr.heap.size wr ((wr.alloc (.cells #[.int .i64 0, .int .i64 0, .int .u64 0, .int .u8 0, .int .u8 0, .int .u8 0, .int .u8 0, .int .u8 0, .int .u8 0, .int .u8 0, .int .u8 0, .int .u8 0, .int .u8 0, .int .u8 0, .int .u8 0, .int .u8 0, .int .u8 0, .int .u8 0, .int .u8 0, .slice none 0 0] 40)).setCells wr.heap.size 0 OL) ∧ ((wr.alloc (.cells #[.int .i64 0, .int .i64 0, .int .u64 0, .int .u8 0, .int .u8 0, .int .u8 0, .int .u8 0, .int .u8 0, .int .u8 0, .int .u8 0, .int .u8 0, .int .u8 0, .int .u8 0, .int .u8 0, .int .u8 0, .int .u8 0, .int .u8 0, .int .u8 0, .int .u8 0, .slice none 0 0] 40)).setCells wr.heap.size 0 OL).rangeAt wr.heap.size 0 OL ∧ ((wr.alloc (.cells #[.int .i64 0, .int .i64 0, .int .u64 0, .int .u8 0, .int .u8 0, .int .u8 0, .int .u8 0, .int .u8 0, .int .u8 0, .int .u8 0, .int .u8 0, .int .u8 0, .int .u8 0, .int .u8 0, .int .u8 0, .int .u8 0, .int .u8 0, .int .u8 0, .int .u8 0, .slice none 0 0] 40)).setCells wr.heap.size 0 OL).there wr.heap.size 0 20) := by
    have ez : OL.toArray.size = OL.length := List.size_toArray ..
    refine ⟨belowB_setCells _ (Nat.le_refl _) _ _ _ HBA.out, World.rangeAt_setCells_same _ _ _ _ (by have := HTA.out; rw [ez] at this; exact this), World.there_setCells (there_new wr _ 40 20 (by show 20 ≤ 20; omega)) _ _ _⟩
   generalize ((wr.alloc (.cells #[.int .i64 0, .int .i64 0, .int .u64 0, .int .u8 0, .int .u8 0, .int .u8 0, .int .u8 0, .int .u8 0, .int .u8 0, .int .u8 0, .int .u8 0, .int .u8 0, .int .u8 0, .int .u8 0, .int .u8 0, .int .u8 0, .int .u8 0, .int .u8 0, .int .u8 0, .slice none 0 0] 40)).setCells wr.heap.size 0 OL) = w4 at HW2 ⊢
   have HS4 : Hid (BS w4 B M (some ⟨kg, g2, gr, nk, K⟩) g g an sx av lv lz) := HSR.out.below HW2.out.1
   have HB4 : Hid (Below B w w4) := HBR.out.trans (HW2.out.1.mono (by have h1 := HBR.out.size; have h2 := HBE.out; omega))
   have HLV : Hid (lz ≠ [] → ∀ b, b ∈ vblk lv → b < wr.heap.size) := fun e b q => view_blks HSR.out.lw e b q
   have HNB : Hid (∀ q, BW M (some ⟨kg, g2, gr, nk, K⟩) an sx av q → q < wr.heap.size) := fun q hq => (HSR.out.bw q hq).2
   rw [HBX0.out] at HW2 HNB HLV ⊢
   clear HTA HBA HSR HBR HRG
   have c4 : w4.cell? ⟨bx, 19, none⟩ = some (.slice o.da o.dn o.dc) := by have := HW2.out.2.1 19 _ c19.out; rwa [Nat.zero_add] at this
   have z4 : w4.frozen? ⟨bx, 19, none⟩ = false := by have := (HW2.out.2.2 19 (by omega)).2; rwa [Nat.zero_add] at this
   obtain ⟨dn, HDN⟩ : ∃ x, Hid (x = o.dn) := ⟨_, rfl⟩
   obtain ⟨dc, HDC⟩ : ∃ x, Hid (x = o.dc) := ⟨_, rfl⟩
   obtain ⟨da, HDA⟩ : ∃ x, Hid (x = o.da) := ⟨_, rfl⟩
   rw [← HDN.out, ← HDC.out, ← HDA.out] at c4
   have hdm : dn ≤ 140737488355328 := by have h1 := HDN.out; have h2 := HDM.out; omega
   by_cases hbig : 5000 < dn ∧ dn ≤ 1048576
   ·have d1 : (5000 : Int) < (dn : Nat) := by omega
    have d2 : ((dn : Nat) : Int) ≤ 1048576 := by omega
    have HBIG : Hid (5000 < o.dn) := by have h1 := HDN.out; show 5000 < o.dn; omega
    obtain ⟨db, dof, hda, hdc⟩ := HOI.out.some HBIG.out
    rw [← HDA.out] at hda
    obtain rfl := hda
    have hdc5 : 5000 ≤ dc := by have h1 := HDC.out; have h2 := HBIG.out; omega
    have hsl : ∀ u : World, (Instr.slice 22 (.slice (some ⟨db, dof, none⟩) dn dc) none (some (.int .i64 5000)) none).run Tryz.prog u = .ok (.slice (some ⟨db, dof, none⟩) 5000 dc) u := fun u => by
     have h := slice_h u (some ⟨db, dof, none⟩) dn dc 5000 hdc5
     rw [show ((5000 : Nat) : Int) = 5000 from rfl] at h
     rw [h]
     have h0 : ¬ dc = 0 := by omega
     simp [sliced, h0, Addr.add]
    obtain ⟨OC, HOC⟩ : ∃ L, Hid (L = o.cut.L) := ⟨_, rfl⟩
    have HO20C : Hid (O20 OC) := by show O20 _; rw [HOC.out]; exact o20 _
    have HRXF : Hid ((w4.setCell ⟨bx, 19, none⟩ (.slice (some ⟨db, dof, none⟩) 5000 dc)).rangeAt bx 0 OC) := fun j v hv => by
     rw [Nat.zero_add]
     have hj : j < 20 := by have := (List.getElem?_eq_some_iff.1 hv).1; rw [HO20C.out.len] at this; exact this
     by_cases e19 : j = 19
     ·subst e19
      rw [World.cell?_setCell_same' _ _ _ (by rw [c4]; rfl)]
      rw [HOC.out] at hv
      rw [← hv]
      show some (Value.slice (some ⟨db, dof, none⟩) 5000 dc) = some (.slice o.da 5000 o.dc)
      rw [← HDA.out, ← HDC.out]
     ·rw [setCell_at _ _ _ _ _ e19]
      have h3 : OL[j]? = OC[j]? := by
       rw [HOL.out, HOC.out]
       have hm : j = 0 ∨ j = 1 ∨ j = 2 ∨ j = 3 ∨ j = 4 ∨ j = 5 ∨ j = 6 ∨ j = 7 ∨ j = 8 ∨ j = 9 ∨ j = 10 ∨ j = 11 ∨ j = 12 ∨ j = 13 ∨ j = 14 ∨ j = 15 ∨ j = 16 ∨ j = 17 ∨ j = 18 := by omega
       rcases hm with rfl | rfl | rfl | rfl | rfl | rfl | rfl | rfl | rfl | rfl | rfl | rfl | rfl | rfl | rfl | rfl | rfl | rfl | rfl <;> rfl
      have := HW2.out.2.1 j v (by rw [h3]; exact hv)
      rwa [Nat.zero_add] at this
    have HF5 : Hid (Below bx w4 (w4.setCell ⟨bx, 19, none⟩ (.slice (some ⟨db, dof, none⟩) 5000 dc)))   := (show Below bx w4 _ from (Below.refl bx w4).setCell (by show bx ≤ bx; omega) _)
    go_upto_region 12 with fail
    generalize w4.setCell ⟨bx, 19, none⟩ (.slice (some ⟨db, dof, none⟩) 5000 dc) = w5 at HRXF HF5 ⊢
    have hbxB : Hid (B ≤ bx) := by have h1 := HW2.out.1.size; have h2 := HB4.out.size; have h3 := HS4.out.mlt; have h4 := HNB.out M (.inl rfl); have h5 := HS4.out.ord.1; show B ≤ bx; omega
    have HSX : Hid (BS w5 B M (some ⟨kg, g2, gr, nk, K⟩) g g an sx av lv lz) := bs_far HS4.out HF5.out HNB.out HLV.out
    have HBX : Hid (Below B w w5) := HB4.out.trans (HF5.out.mono hbxB.out)
    clear c4 z4 hsl
    have HRX : Hid (w5.rangeAt bx 0 OC) := HRXF
    have K7 : Hid (Calls Tryz.prog 7 #[.pointer (some ⟨M, 0, none⟩), .agg OC.toArray] w5 (OneP w5 B M (some ⟨kg, g2, gr, nk, K⟩) an)) := by
     show Calls _ _ _ _ _
     rw [HOC.out]
     exact one_any w5 B M (some ⟨kg, g2, gr, nk, K⟩) g an sx av lv lz o.cut HSX.out HEV.out (cut_in HOI.out HBIG.out).ok ((cut_in HOI.out HBIG.out).dat HBE.out HBX.out HSX.out) (by have := HAN.out; omega)
    go_wp2_with (first
     | (refine wpList_load_mid (by rfl) 40 (.tmp 11) (by rfl) bx 0 (by rfl) OC _ HRX.out Tryz.underlying40 rfl HO20C.out.sz ?_)
     | (go_at_call 7; refine K7.out.mono ?_))
    rintro e9 w9 ⟨g9, an9, sx9, av9, lv9, lz9, rfl, h9, he9, hb9, ha9⟩
    have H9 : Hid (Below B w w9 ∧ ∃ g an sx av lv lz, an ≤ i + 1 ∧ BS w9 B M (some ⟨kg, g2, gr, nk, K⟩) g g an sx av lv lz ∧ Even an sx) := ⟨HBX.out.trans hb9, g9, an9, sx9, av9, lv9, lz9, by have := HAN.out; omega, h9, he9⟩
    clear h9 he9 hb9 ha9 K7
    go_wp2
    refine ⟨⟨i + 1, by omega, by omega, by go_num, H9⟩, by simp only [intOf]; omega⟩
   ·have HRXF : Hid (w4.rangeAt bx 0 OL) := HW2.out.2.1
    have HSX : Hid (BS w4 B M (some ⟨kg, g2, gr, nk, K⟩) g g an sx av lv lz) := HS4
    have HBX : Hid (Below B w w4) := HB4
    by_cases hd5 : 5000 < dn
    ·have d1 : (5000 : Int) < (dn : Nat) := by omega
     have d2 : ¬ ((dn : Nat) : Int) ≤ 1048576 := by omega
     go_upto_region 12 with fail
     have HRX : Hid (w4.rangeAt bx 0 OL) := HRXF
     have K7 : Hid (Calls Tryz.prog 7 #[.pointer (some ⟨M, 0, none⟩), .agg OL.toArray] w4 (OneP w4 B M (some ⟨kg, g2, gr, nk, K⟩) an)) := by
      show Calls _ _ _ _ _
      rw [HOL.out]
      exact one_any w4 B M (some ⟨kg, g2, gr, nk, K⟩) g an sx av lv lz o HSX.out HEV.out HOI.out.ok (HOI.out.dat HBE.out HBX.out HSX.out) (by have := HAN.out; omega)
     go_wp2_with (first
      | (refine wpList_load_mid (by rfl) 40 (.tmp 11) (by rfl) bx 0 (by rfl) OL _ HRX.out Tryz.underlying40 rfl HO20.out.sz ?_)
      | (go_at_call 7; refine K7.out.mono ?_))
     rintro e9 w9 ⟨g9, an9, sx9, av9, lv9, lz9, rfl, h9, he9, hb9, ha9⟩
     have H9 : Hid (Below B w w9 ∧ ∃ g an sx av lv lz, an ≤ i + 1 ∧ BS w9 B M (some ⟨kg, g2, gr, nk, K⟩) g g an sx av lv lz ∧ Even an sx) := ⟨HBX.out.trans hb9, g9, an9, sx9, av9, lv9, lz9, by have := HAN.out; omega, h9, he9⟩
     clear h9 he9 hb9 ha9 K7
     go_wp2
     refine ⟨⟨i + 1, by omega, by omega, by go_num, H9⟩, by simp only [intOf]; omega⟩
    ·have d1 : ¬ (5000 : Int) < (dn : Nat) := by omega
     go_upto_region 12 with fail
     have HRX : Hid (w4.rangeAt bx 0 OL) := HRXF
     have K7 : Hid (Calls Tryz.prog 7 #[.pointer (some ⟨M, 0, none⟩), .agg OL.toArray] w4 (OneP w4 B M (some ⟨kg, g2, gr, nk, K⟩) an)) := by
      show Calls _ _ _ _ _
      rw [HOL.out]
      exact one_any w4 B M (some ⟨kg, g2, gr, nk, K⟩) g an sx av lv lz o HSX.out HEV.out HOI.out.ok (HOI.out.dat HBE.out HBX.out HSX.out) (by have := HAN.out; omega)
     go_wp2_with (first
      | (refine wpList_load_mid (by rfl) 40 (.tmp 11) (by rfl) bx 0 (by rfl) OL _ HRX.out Tryz.underlying40 rfl HO20.out.sz ?_)
      | (go_at_call 7; refine K7.out.mono ?_))
     rintro e9 w9 ⟨g9, an9, sx9, av9, lv9, lz9, rfl, h9, he9, hb9, ha9⟩
     have H9 : Hid (Below B w w9 ∧ ∃ g an sx av lv lz, an ≤ i + 1 ∧ BS w9 B M (some ⟨kg, g2, gr, nk, K⟩) g g an sx av lv lz ∧ Even an sx) := ⟨HBX.out.trans hb9, g9, an9, sx9, av9, lv9, lz9, by have := HAN.out; omega, h9, he9⟩
     clear h9 he9 hb9 ha9 K7
     go_wp2
     refine ⟨⟨i + 1, by omega, by omega, by go_num, H9⟩, by simp only [intOf]; omega⟩
  ·by_cases hi : i < sn
   ·have h1 : ((i : Nat) : Int) < ((sn : Nat) : Int) := by omega
    have h2 : ¬ ((i : Nat) : Int) < 24 := by omega
    go_wp2
    go_ret
    exact ⟨rfl, by rw [HBE.out]; exact HR.out.1⟩
   ·have h1 : ¬ ((i : Nat) : Int) < ((sn : Nat) : Int) := by omega
    go_wp2
    go_ret
    exact ⟨rfl, by rw [HBE.out]; exact HR.out.1⟩
end Go.Proofs.YtgmfiljjogdccabGreatDoor
namespace Go.Proofs.YtgmfiljjogdccabGreatDoor
open Go.Deep Go.ChangeShapes Go.WideShapes Go.ChangeAt Go.RowKit
set_option linter.unusedVariables false
theorem cells38o : Tryz.prog.cellsOf 38 = 16 := by kernel_rfl
theorem cells40o : Tryz.prog.cellsOf 40 = 20 := by kernel_rfl
theorem cells3o : Tryz.prog.cellsOf 3 = 1 := by kernel_rfl
theorem cells36o : Tryz.prog.cellsOf 36 = 1 := by kernel_rfl
theorem cells22o : Tryz.prog.cellsOf 22 = 1 := by kernel_rfl
theorem bytes5o : Tryz.prog.bytesOf 5 = 1 := by kernel_rfl
theorem und23o : Tryz.prog.underlying 23 = some (.slice 40) := by kernel_rfl
/-- A block of bytes that are given one by one. -/
def ofG (F : Nat → Nat) : W4 := ⟨wd (F 0) (F 1) (F 2) (F 3), wd (F 4) (F 5) (F 6) (F 7), wd (F 8) (F 9) (F 10) (F 11), wd (F 12) (F 13) (F 14) (F 15)⟩
theorem ofG_ok {F : Nat → Nat} (h : ∀ i, F i < 256) : (ofG F).ok := by
 unfold W4.ok ofG
 simp only
 exact ⟨wd_lt (h 0) (h 1) (h 2) (h 3), wd_lt (h 4) (h 5) (h 6) (h 7), wd_lt (h 8) (h 9) (h 10) (h 11), wd_lt (h 12) (h 13) (h 14) (h 15)⟩
theorem sbf0 (s : W4) : sb s 0 = bt0 s.a := rfl
theorem sbf1 (s : W4) : sb s 1 = bt1 s.a := rfl
theorem sbf2 (s : W4) : sb s 2 = bt2 s.a := rfl
theorem sbf3 (s : W4) : sb s 3 = bt3 s.a := rfl
theorem sbf4 (s : W4) : sb s 4 = bt0 s.b := rfl
theorem sbf5 (s : W4) : sb s 5 = bt1 s.b := rfl
theorem sbf6 (s : W4) : sb s 6 = bt2 s.b := rfl
theorem sbf7 (s : W4) : sb s 7 = bt3 s.b := rfl
theorem sbf8 (s : W4) : sb s 8 = bt0 s.c := rfl
theorem sbf9 (s : W4) : sb s 9 = bt1 s.c := rfl
theorem sbf10 (s : W4) : sb s 10 = bt2 s.c := rfl
theorem sbf11 (s : W4) : sb s 11 = bt3 s.c := rfl
theorem sbf12 (s : W4) : sb s 12 = bt0 s.d := rfl
theorem sbf13 (s : W4) : sb s 13 = bt1 s.d := rfl
theorem sbf14 (s : W4) : sb s 14 = bt2 s.d := rfl
theorem sbf15 (s : W4) : sb s 15 = bt3 s.d := rfl
theorem ofG_a (F : Nat → Nat) : (ofG F).a = wd (F 0) (F 1) (F 2) (F 3) := rfl
theorem ofG_b (F : Nat → Nat) : (ofG F).b = wd (F 4) (F 5) (F 6) (F 7) := rfl
theorem ofG_c (F : Nat → Nat) : (ofG F).c = wd (F 8) (F 9) (F 10) (F 11) := rfl
theorem ofG_d (F : Nat → Nat) : (ofG F).d = wd (F 12) (F 13) (F 14) (F 15) := rfl
theorem ofG_sb {F : Nat → Nat} (h : ∀ i, F i < 256) (j : Nat) (hj : j < 16) : sb (ofG F) j = F j := by
 obtain ⟨a0, a1, a2, a3⟩ := bt_wd (h 0) (h 1) (h 2) (h 3)
 obtain ⟨b0, b1, b2, b3⟩ := bt_wd (h 4) (h 5) (h 6) (h 7)
 obtain ⟨c0, c1, c2, c3⟩ := bt_wd (h 8) (h 9) (h 10) (h 11)
 obtain ⟨d0, d1, d2, d3⟩ := bt_wd (h 12) (h 13) (h 14) (h 15)
 rcases sixteen hj with rfl | rfl | rfl | rfl | rfl | rfl | rfl | rfl | rfl | rfl | rfl | rfl | rfl | rfl | rfl | rfl
 ·rw [sbf0, ofG_a]; exact a0
 ·rw [sbf1, ofG_a]; exact a1
 ·rw [sbf2, ofG_a]; exact a2
 ·rw [sbf3, ofG_a]; exact a3
 ·rw [sbf4, ofG_b]; exact b0
 ·rw [sbf5, ofG_b]; exact b1
 ·rw [sbf6, ofG_b]; exact b2
 ·rw [sbf7, ofG_b]; exact b3
 ·rw [sbf8, ofG_c]; exact c0
 ·rw [sbf9, ofG_c]; exact c1
 ·rw [sbf10, ofG_c]; exact c2
 ·rw [sbf11, ofG_c]; exact c3
 ·rw [sbf12, ofG_d]; exact d0
 ·rw [sbf13, ofG_d]; exact d1
 ·rw [sbf14, ofG_d]; exact d2
 ·rw [sbf15, ofG_d]; exact d3
/-- Sixteen cells that read as a block. -/
theorem open_cells {H : Type} {enc : TypeId × Value → H} {W : World} {spare : Nat → Bool} {fuel : Nat} {cs : List Value} {x : DataW H × List MemPlace} (hl : cs.length = 16) (h : DataW.trod enc Tryz.prog W 0 spare true fuel 38 cs = some x) : ∃ s : W4, s.ok ∧ cs = arL (sb s) := by
 obtain ⟨xs, m, _, _, _, hlen, hi⟩ := DataW.trod_array Tryz.underlying38 h
 have hc : ∀ i, i < 16 → ∃ z : Nat, z < 256 ∧ cs[i]? = some (.int .u8 (z : Nat)) := fun i h16 => by
  have hx : xs[i]? = some xs[i] := List.getElem?_eq_getElem (by omega)
  have h1 := hi i h16
  rw [hx, cells5, Nat.mul_one] at h1
  obtain ⟨n, hn, _, hw⟩ := DataW.trod_int Tryz.underlying5 h1
  have h2 : IntKind.u8.min = 0 := rfl
  have h3 : IntKind.u8.max = 255 := rfl
  simp only [Lit.wf, Bool.and_eq_true, decide_eq_true_eq] at hw
  refine ⟨n.toNat, by omega, ?_⟩
  have h6 : cs[i]? = some (.int .u8 n) := by
   have := congrArg (fun l => l[0]?) hn
   simpa using this
  rw [h6]
  congr 2
  omega
 obtain ⟨F, hF1, hF2⟩ : ∃ F : Nat → Nat, (∀ i, F i < 256) ∧ ∀ i, i < 16 → cs[i]? = some (.int .u8 (F i : Nat)) := by
  refine ⟨fun i => if h : i < 16 then (hc i h).choose else 0, fun i => ?_, fun i h => ?_⟩
  ·by_cases h : i < 16
   ·simp only [dif_pos h]; exact (hc i h).choose_spec.1
   ·simp only [dif_neg h]; decide
  ·simp only [dif_pos h]
   exact (hc i h).choose_spec.2
 refine ⟨ofG F, ofG_ok hF1, ?_⟩
 rw [arL_congr (fun j hj => ofG_sb hF1 j hj)]
 apply List.ext_getElem?
 intro i
 by_cases hi : i < 16
 ·rw [hF2 i hi, arL_at F i hi]
 ·rw [List.getElem?_eq_none (by omega), List.getElem?_eq_none (by show 16 ≤ i; omega)]
set_option maxRecDepth 100000 in
theorem reach_one {H : Type} {d : DataW H} {xs : List Int} (hw : ∀ x ∈ d.weights Tryz.prog 22, x ≤ reachBytes) (h : d = .nil ∧ xs = [] ∨ ∃ sp, d = .slice (lits .u8 xs) sp) : xs.length ≤ 140737488351232 := by
 rcases h with ⟨_, rfl⟩ | ⟨sp, rfl⟩
 ·exact Nat.zero_le _
 ·rw [DataW.weights, Tryz.underlying22] at hw
  have := hw _ (List.mem_cons_self ..)
  rw [bytes5o] at this
  simp only [lits, List.length_map, reachBytes] at this
  omega
set_option maxRecDepth 100000 in
theorem open_op {H : Type} {enc : TypeId × Value → H} {W : World} {n : Nat} {cs : List Value} {y : DataW H × List MemPlace} (hl : cs.length = 20) (h : DataW.trod enc Tryz.prog W 0 (fun _ => true) true n 40 cs = some y) (hw : ∀ x ∈ y.1.weights Tryz.prog 40, x ≤ reachBytes) : ∃ o : OpV, cs = o.L ∧ OpIn W o := by
 obtain ⟨d0, p0⟩ := y
 obtain ⟨ys, n, _, hx, _, hlen, hfs⟩ := DataW.trod_struct Tryz.underlying40 h
 match cs, hl with
 | v0 :: v1 :: v2 :: v3 :: v4 :: v5 :: v6 :: v7 :: v8 :: v9 :: v10 :: v11 :: v12 :: v13 :: v14 :: v15 :: v16 :: v17 :: v18 :: v19 :: [], _ =>
  match ys, hlen with
  | [y0, y1, y2, y3, y4], _ =>
   have k0 := hfs 0 _ rfl
   have k1 := hfs 1 _ rfl
   have k2 := hfs 2 _ rfl
   have k3 := hfs 3 _ rfl
   have k4 := hfs 4 _ rfl
   simp [cells3o, cells36o, cells38o, cells22o] at k0 k1 k2 k3 k4
   obtain ⟨i0, e0, _, w0⟩ := DataW.trod_int Tryz.underlying3 k0
   obtain ⟨i1, e1, _, w1⟩ := DataW.trod_int Tryz.underlying3 k1
   obtain ⟨i2, e2, _, w2⟩ := DataW.trod_int Tryz.underlying36 k2
   obtain ⟨s, hs, e3⟩ := open_cells rfl k3
   have e4 : ∃ a n c, v19 = .slice a n c := by
    rcases open_ints Tryz.underlying22 Tryz.underlying5 cells5 k4 with ⟨hcs, _⟩ | ⟨x, l, c, zs, hcs, _⟩
    ·exact ⟨_, _, _, by simpa using hcs⟩
    ·exact ⟨_, _, _, by simpa using hcs⟩
   obtain ⟨da, dn, dc, rfl⟩ := e4
   obtain ⟨zs, hzl, hzb, hzv, hzd⟩ := open_bytes (enc := enc) (W := W) (a := da) (len := dn) (cap := dc) (d := y4.1) (p := y4.2) ⟨_, by simpa [Value.cells] using k4⟩
   have hd : d0 = .agg [y0.1, y1.1, y2.1, y3.1, y4.1] := by simpa using congrArg Prod.fst hx
   have hr := reach_one (d := y4.1) (fun x hx => hw x (by
    show x ∈ d0.weights Tryz.prog 40
    rw [hd, DataW.weights, Tryz.underlying40]
    exact DataW.weights_mem_each (j := 4) rfl rfl x hx)) hzd
   have f0 : v0 = .int .i64 i0 := by simpa using e0
   have f1 : v1 = .int .i64 i1 := by simpa using e1
   have f2 : v2 = .int .u64 i2 := by simpa using e2
   have h2 : IntKind.u64.min = 0 := rfl
   have h3 : IntKind.u64.max = 18446744073709551615 := rfl
   have h5 : IntKind.i64.max = 9223372036854775807 := rfl
   simp only [Lit.wf, Bool.and_eq_true, decide_eq_true_eq] at w1 w2
   subst f0 f1 f2
   refine ⟨⟨i0, i1, i2.toNat, s, da, dn, dc, zs⟩, ?_, ⟨by show i1 ≤ _; omega, by show i2.toNat < _; omega, hs, hzl, by show zs.length + 70 ≤ _; omega⟩, hzv, hzb⟩
   have e2' : ((i2.toNat : Nat) : Int) = i2 := by omega
   unfold OpV.L
   simp only [e2']
   unfold arL at e3
   simp only [List.cons.injEq, and_true] at e3
   obtain ⟨g0, g1, g2, g3, g4, g5, g6, g7, g8, g9, g10, g11, g12, g13, g14, g15⟩ := e3
   rw [g0, g1, g2, g3, g4, g5, g6, g7, g8, g9, g10, g11, g12, g13, g14, g15]
theorem weights_all {H : Type} {P : Program} {e : TypeId} : ∀ {ds : List (DataW H)} {d : DataW H}, d ∈ ds → ∀ x ∈ d.weights P e, x ∈ DataW.weightsAll P e ds
 | d0 :: ds, d, hd, x, hx => by
  simp only [DataW.weightsAll, List.mem_append]
  rcases List.mem_cons.1 hd with rfl | hd
  ·exact .inl hx
  ·exact .inr (weights_all hd x hx)
 | [], _, hd, _, _ => by simp at hd
/-- A script that came in. -/
theorem open_ops {H : Type} {enc : TypeId × Value → H} {W : World} {a : Option Addr} {n c : Nat} {d : DataW H} {p : List MemPlace} (h : DataW.Trod enc Tryz.prog W 0 (fun _ => true) true 23 (.slice a n c) d p) (hw : ∀ x ∈ d.weights Tryz.prog 23, x ≤ reachBytes) : (∃ os, ScAt W a n os) ∧ n ≤ c ∧ c ≤ 9223372036854775807 := by
 obtain ⟨fuel, hf⟩ := h
 rcases open_slice und23o hf with ⟨hcs, hx⟩ | ⟨a', len, cap, m, k, D, Pl, hcs, hb, hl, hm, hmm, hx, hc⟩
 ·simp [Value.cells] at hcs
  obtain ⟨rfl, rfl, rfl⟩ := hcs
  exact ⟨⟨fun _ => ⟨0, 0, 0, ⟨0, 0, 0, 0⟩, none, 0, 0, []⟩, .inl rfl⟩, Nat.le_refl _, by omega⟩
 ·simp [Value.cells] at hcs
  obtain ⟨rfl, rfl, rfl⟩ := hcs
  simp only [if_true] at hmm
  subst hmm
  simp only [Prod.mk.injEq] at hx
  have hd : d = .slice ((List.range n).map D) ((List.range (m - n)).map fun j => D (n + j)) := hx.1
  rw [hd, DataW.weights, und23o] at hw
  simp only [List.mem_cons, List.mem_append] at hw
  refine ⟨?_, hl, by unfold maxLen at hm; omega⟩
  by_cases h0 : n = 0
  ·exact ⟨fun _ => ⟨0, 0, 0, ⟨0, 0, 0, 0⟩, none, 0, 0, []⟩, .inl h0⟩
  ·obtain ⟨b, off, spot⟩ := a'
   have hspot : spot = none := by
    obtain ⟨cs0, z1, _⟩ := hc 0 (by omega)
    rw [cells40o] at z1
    obtain ⟨_, zl, zc⟩ := World.cells?_some z1
    have q := zc 0 (by omega)
    have hz : ∃ u, cs0[0]? = some u := ⟨_, List.getElem?_eq_getElem (by omega)⟩
    obtain ⟨u, hz⟩ := hz
    rw [hz] at q
    simpa [Addr.add] using World.cell?_spot q
   subst hspot
   have hone : ∀ i, i < n → ∃ o : OpV, OpIn W o ∧ W.rangeAt b (off + i * 20) o.L := fun i hi => by
    obtain ⟨cs', h1, h2⟩ := hc i (by omega)
    rw [cells40o] at h1
    obtain ⟨_, hlen, hcell⟩ := World.cells?_some h1
    obtain ⟨o, rfl, ho⟩ := open_op hlen h2 (fun z hz => hw z (.inr (.inl (weights_all (List.mem_map.2 ⟨i, List.mem_range.2 hi, rfl⟩) z hz))))
    refine ⟨o, ho, fun j v hv => ?_⟩
    have hj : j < 20 := (List.getElem?_eq_some_iff.1 hv).1
    have q := hcell j hj
    rw [Addr.add_lit, Addr.add_lit] at q
    rw [q]
    exact hv
   refine ⟨fun i => if h : i < n then (hone i h).choose else ⟨0, 0, 0, ⟨0, 0, 0, 0⟩, none, 0, 0, []⟩, .inr ⟨b, off, rfl, ?_, fun i hi => ?_⟩⟩
   ·obtain ⟨o, _, hr⟩ := hone 0 (by omega)
    exact World.block_lt_of_cell? W _ (hr 0 _ rfl)
   ·simp only [dif_pos hi]
    exact (hone i hi).choose_spec
/-- The law, of any key and any script. -/
theorem plays_any (v : Value) (zs : List Int) (sa : Option Addr) (sn sc : Nat) (os : Nat → OpV) (w : World) (hT : RC w) (hv : View w v zs) (hb : AllBytes zs) (hS : ScAt w sa sn os) (hsn : sn ≤ sc) (hsc : sc ≤ 9223372036854775807) : Calls Tryz.prog 3 #[v, .slice sa sn sc] w fun e w' => e = .returned (.bool true) ∧ Below w.heap.size w w' := by
 have hpos : 0 < w.heap.size := Nat.lt_of_le_of_lt (Nat.zero_le _) (World.block_lt_of_cell? w _ (hT 0 (by decide)))
 by_cases hk : zs.length = 16 ∨ zs.length = 24 ∨ zs.length = 32
 ·obtain ⟨nk, hnk, hn⟩ : ∃ nk, (nk = 4 ∨ nk = 6 ∨ nk = 8) ∧ zs.length = 4 * nk := by
   rcases hk with h | h | h
   ·exact ⟨4, .inl rfl, h⟩
   ·exact ⟨6, .inr (.inl rfl), h⟩
   ·exact ⟨8, .inr (.inr rfl), h⟩
  have h0 : zs ≠ [] := fun e => by rw [e] at hn; simp at hn; omega
  have hbl := view_blks hv h0
  obtain ⟨a, c, rfl, h1, h2, h3, h4⟩ := hv
  rcases h4 with h4 | ⟨b, off, rfl, h5⟩
  ·exact absurd h4 h0
  ·exact plays_good b off zs.length c nk (nat8 zs) sa sn sc os w hS hsn hsc hnk hn (hbl b (by simp [vblk, Value.ownBlock])) (fun i hi => by rw [nat8_eq hb i]; exact h5 i hi) (nat8_lt hb) hT hpos (fun j => schedK_lt (nat8_lt hb) j)
 ·obtain ⟨a, c, rfl, _⟩ := hv
  exact plays_bad a zs.length c sa sn sc os w hS hsn hsc (by omega)
end Go.Proofs.YtgmfiljjogdccabGreatDoor
