import Derived.Test.YtgmfiljjogdccabGreatDoorPart48
namespace Go.Proofs.YtgmfiljjogdccabGreatDoor
open Go.RowKit Go.RwLone Go.Conc.Locks
set_option linter.unusedVariables false
set_option linter.unusedSimpArgs false
set_option maxHeartbeats 6400000 in
set_option maxRecDepth 100000 in
theorem plays_bad (ka : Option Addr) (kn kc : Nat) (sa : Option Addr) (sn sc : Nat) (os : Nat → OpV) (w : World) (hS : ScAt w sa sn os) (hsn : sn ≤ sc) (hsc : sc ≤ 9223372036854775807) (hk : kn ≠ 16 ∧ kn ≠ 24 ∧ kn ≠ 32) :
  Calls Tryz.prog 3 #[.slice ka kn kc, .slice sa sn sc] w fun e w' => e = .returned (.bool true) ∧ Below w.heap.size w w' := by
 have HS : Hid (ScAt w sa sn os) := hS
 have hsi : ((sn : Nat) : Int) ≤ 9223372036854775807 := by omega
 obtain ⟨B, HBE⟩ : ∃ B, Hid (w.heap.size = B) := ⟨_, rfl⟩
 have K4 : Hid (∀ u, Calls Tryz.prog 4 #[.slice ka kn kc] u fun e w' => e = .returned (.tuple #[.pointer none, .int .i64 20]) ∧ w' = u) := fun u => new_bad ka kn kc u hk
 have K5 : Hid (∀ u, Calls Tryz.prog 5 #[.slice ka kn kc] u fun e w' => e = .returned (.tuple #[.pointer none, .int .i64 20]) ∧ w' = u) := fun u => rnew_bad ka kn kc u hk
 have K6 : Hid (∀ u, Calls Tryz.prog 6 #[.int .i64 20] u fun e u' => e = .returned (.int .i64 20) ∧ u' = u) := num_o _
 have H3 : Hid (BS (w.alloc (.cells #[.pointer none, .pointer none, .slice none 0 0, .slice none 0 0] 35)) w.heap.size w.heap.size none false false 0 (fun _ => ⟨0, 0, ⟨0, 0, 0, 0⟩, 0, 0⟩) (.slice none 0 0) (.slice none 0 0) []) := bs_start w.heap.size none (fun k e => (by cases e)) (Nat.le_refl _)
 have HB3 : Hid (Below w.heap.size w (w.alloc (.cells #[.pointer none, .pointer none, .slice none 0 0, .slice none 0 0] 35))) := (Below.refl _ _).alloc (Nat.le_refl _) _
 clear hS hsn hsc hk
 obtain ⟨M, HM⟩ : ∃ M, Hid (w.heap.size = M) := ⟨_, rfl⟩
 go_enter Tryz.func3, Tryz.ntmps3
 go_upto_region 6 with (first
  | (go_at_call 4; refine (K4.out _).mono ?_; rintro e1 w1 ⟨rfl, hw1⟩; obtain rfl := hw1.symm)
  | (go_at_call 5; refine (K5.out _).mono ?_; rintro e2 w2 ⟨rfl, hw2⟩; obtain rfl := hw2.symm)
  | (go_at_call 6; refine (K6.out _).mono ?_; rintro e3 w3 ⟨rfl, hw3⟩; obtain rfl := hw3.symm))
 generalize (w.alloc (.cells #[.pointer none, .pointer none, .slice none 0 0, .slice none 0 0] 35)) = w3 at H3 HB3 ⊢
 have H3' : Hid (BS w3 B M none false false 0 (fun _ => ⟨0, 0, ⟨0, 0, 0, 0⟩, 0, 0⟩) (.slice none 0 0) (.slice none 0 0) []) := by have h := H3.out; rw [HBE.out] at h; have e : M = B := HM.out.symm.trans HBE.out; rw [e]; exact h
 clear H3
 have H3 := H3'
 clear H3'
 rw [HBE.out] at HB3
 rw [HM.out]
 go_wp2
 go_loopw [10] (fun vi wr => ∃ i : Nat, i ≤ sn ∧ i ≤ 24 ∧ vi = .int .i64 (i : Nat) ∧ Hid (Below B w wr ∧ ∃ g an sx av lv lz, an ≤ i ∧ BS wr B M none g g an sx av lv lz ∧ Even an sx)) (fun v _ => 24 - (intOf v).toNat)
 case atStart => exact ⟨0, by omega, by omega, rfl, HB3.out, false, 0, _, _, _, _, Nat.le_refl _, H3.out, fun i hi => by omega⟩
 case round =>
  obtain ⟨i, his, hi24, rfl, HR⟩ := hrel
  clear H3 HB3
  by_cases hlt : i < sn ∧ i < 24
  ·have h1 : ((i : Nat) : Int) < ((sn : Nat) : Int) := by omega
   have h2 : ((i : Nat) : Int) < 24 := by omega
   obtain ⟨b, off, rfl, hbl, hop⟩ : ∃ b off, sa = some ⟨b, off, none⟩ ∧ b < w.heap.size ∧ ∀ i, i < sn → OpIn w (os i) ∧ w.rangeAt b (off + i * 20) (os i).L := by
    rcases HS.out with h | h
    ·omega
    ·exact h
   obtain ⟨g, an, sx, av, lv, lz, han, hbs, hev⟩ := HR.out.2
   have HSR : Hid (BS wr B M none g g an sx av lv lz) := hbs
   have HEV : Hid (Even an sx) := hev
   have HAN : Hid (an ≤ i ∧ i < 24) := ⟨han, hlt.2⟩
   obtain ⟨o, HO⟩ : ∃ o, Hid (o = os i) := ⟨_, rfl⟩
   have HOI : Hid (OpIn w o) := by show OpIn _ _; rw [HO.out]; exact (hop i hlt.1).1
   obtain ⟨OL, HOL⟩ : ∃ L, Hid (L = o.L) := ⟨_, rfl⟩
   have HO20 : Hid (O20 OL) := by show O20 _; rw [HOL.out]; exact o20 o
   have HBR : Hid (Below B w wr) := HR.out.1
   have HRG : Hid (wr.rangeAt b (off + i * 20) OL) := fun j v hv => (HBR.out.cell (p := ⟨b, off + i * 20 + j, none⟩) (by show b < B; rw [← HBE.out]; exact hbl)).trans ((hop i hlt.1).2 j v (by rw [← HO.out, ← HOL.out]; exact hv))
   have c19 : Hid (OL[19]? = some (.slice o.da o.dn o.dc)) := by show _ = _; rw [HOL.out]; rfl
   have HDM : Hid (o.dn = o.zs.length ∧ o.zs.length + 70 ≤ 140737488355328) := ⟨HOI.out.ok.len.symm, HOI.out.ok.mx⟩
   clear hbs hev han hop hbl HR
   have HTA : Hid ((wr.alloc (.cells #[.int .i64 0, .int .i64 0, .int .u64 0, .int .u8 0, .int .u8 0, .int .u8 0, .int .u8 0, .int .u8 0, .int .u8 0, .int .u8 0, .int .u8 0, .int .u8 0, .int .u8 0, .int .u8 0, .int .u8 0, .int .u8 0, .int .u8 0, .int .u8 0, .int .u8 0, .slice none 0 0] 40)).there wr.heap.size 0 OL.toArray.size) := by
    have ez : OL.toArray.size = 20 := by rw [List.size_toArray]; exact HO20.out.len
    show World.there _ _ _ _
    rw [ez]
    exact there_new wr _ 40 20 (by show 20 ≤ 20; omega)
   have HBA : Hid (Below wr.heap.size wr (wr.alloc (.cells #[.int .i64 0, .int .i64 0, .int .u64 0, .int .u8 0, .int .u8 0, .int .u8 0, .int .u8 0, .int .u8 0, .int .u8 0, .int .u8 0, .int .u8 0, .int .u8 0, .int .u8 0, .int .u8 0, .int .u8 0, .int .u8 0, .int .u8 0, .int .u8 0, .int .u8 0, .slice none 0 0] 40))) := (Below.refl _ _).alloc (Nat.le_refl _) _
   go_upto_region 10 with (first
    | (refine wpList_load_mid (by rfl) 40 (.tmp 49) (by rfl) b (off + i * 20) (by rfl) OL _ HRG.out Tryz.underlying40 rfl HO20.out.sz ?_)
    | (refine wpList_store_mid (by rfl) 40 (.tmp 11) (.tmp 50) (by rfl) wr.heap.size 0 OL.toArray (by rfl) (by rfl) HTA.out HO20.out.sza HO20.out.one ?_))
   try rw [List.toList_toArray]
   obtain ⟨bx, HBX0⟩ : ∃ x, Hid (wr.heap.size = x) := ⟨_, rfl⟩
   have HW2 : Hid (Below wr.heap.size wr ((wr.alloc (.cells #[.int .i64 0, .int .i64 0, .int .u64 0, .int .u8 0, .int .u8 0, .int .u8 0, .int .u8 0, .int .u8 0, .int .u8 0, .int .u8 0, .int .u8 0, .int .u8 0, .int .u8 0, .int .u8 0, .int .u8 0, .int .u8 0, .int .u8 0, .int .u8 0, .int .u8 0, .slice none 0 0] 40)).setCells wr.heap.size 0 OL) ∧ ((wr.alloc (.cells #[.int .i64 0, .int .i64 0, .int .u64 0, .int .u8 0, .int .u8 0, .int .u8 0, .int .u8 0, .int .u8 0, .int .u8 0, .int .u8 0, .int .u8 0, .int .u8 0, .int .u8 0, .int .u8 0, .int .u8 0, .int .u8 0, .int .u8 0, .int .u8 0, .int .u8 0, .slice none 0 0] 40)).setCells wr.heap.size 0 OL).rangeAt wr.heap.size 0 OL ∧ ((wr.alloc (.cells #[.int .i64 0, .int .i64 0, .int .u64 0, .int .u8 0, .int .u8 0, .int .u8 0, .int .u8 0, .int .u8 0, .int .u8 0, .int .u8 0, .int .u8 0, .int .u8 0, .int .u8 0, .int .u8 0, .int .u8 0, .int .u8 0, .int .u8 0, .int .u8 0, .int .u8 0, .slice none 0 0] 40)).setCells wr.heap.size 0 OL).there wr.heap.size 0 20) := by
    have ez : OL.toArray.size = OL.length := List.size_toArray ..
    refine ⟨belowB_setCells _ (Nat.le_refl _) _ _ _ HBA.out, World.rangeAt_setCells_same _ _ _ _ (by have := HTA.out; rw [ez] at this; exact this), World.there_setCells (there_new wr _ 40 20 (by show 20 ≤ 20; omega)) _ _ _⟩
   generalize ((wr.alloc (.cells #[.int .i64 0, .int .i64 0, .int .u64 0, .int .u8 0, .int .u8 0, .int .u8 0, .int .u8 0, .int .u8 0, .int .u8 0, .int .u8 0, .int .u8 0, .int .u8 0, .int .u8 0, .int .u8 0, .int .u8 0, .int .u8 0, .int .u8 0, .int .u8 0, .int .u8 0, .slice none 0 0] 40)).setCells wr.heap.size 0 OL) = w4 at HW2 ⊢
   have HS4 : Hid (BS w4 B M none g g an sx av lv lz) := HSR.out.below HW2.out.1
   have HB4 : Hid (Below B w w4) := HBR.out.trans (HW2.out.1.mono (by have h1 := HBR.out.size; have h2 := HBE.out; omega))
   have HLV : Hid (lz ≠ [] → ∀ b, b ∈ vblk lv → b < wr.heap.size) := fun e b q => view_blks HSR.out.lw e b q
   have HNB : Hid (∀ q, BW M none an sx av q → q < wr.heap.size) := fun q hq => (HSR.out.bw q hq).2
   rw [HBX0.out] at HW2 HNB HLV ⊢
   clear HTA HBA HSR HBR HRG
   have c4 : w4.cell? ⟨bx, 19, none⟩ = some (.slice o.da o.dn o.dc) := by have := HW2.out.2.1 19 _ c19.out; rwa [Nat.zero_add] at this
   have z4 : w4.frozen? ⟨bx, 19, none⟩ = false := by have := (HW2.out.2.2 19 (by omega)).2; rwa [Nat.zero_add] at this
   obtain ⟨dn, HDN⟩ : ∃ x, Hid (x = o.dn) := ⟨_, rfl⟩
   obtain ⟨dc, HDC⟩ : ∃ x, Hid (x = o.dc) := ⟨_, rfl⟩
   obtain ⟨da, HDA⟩ : ∃ x, Hid (x = o.da) := ⟨_, rfl⟩
   rw [← HDN.out, ← HDC.out, ← HDA.out] at c4
   have hdm : dn ≤ 140737488355328 := by have h1 := HDN.out; have h2 := HDM.out; omega
   by_cases hbig : 5000 < dn ∧ dn ≤ 1048576
   ·have d1 : (5000 : Int) < (dn : Nat) := by omega
    have d2 : ((dn : Nat) : Int) ≤ 1048576 := by omega
    have HBIG : Hid (5000 < o.dn) := by have h1 := HDN.out; show 5000 < o.dn; omega
    obtain ⟨db, dof, hda, hdc⟩ := HOI.out.some HBIG.out
    rw [← HDA.out] at hda
    obtain rfl := hda
    have hdc5 : 5000 ≤ dc := by have h1 := HDC.out; have h2 := HBIG.out; omega
    have hsl : ∀ u : World, (Instr.slice 22 (.slice (some ⟨db, dof, none⟩) dn dc) none (some (.int .i64 5000)) none).run Tryz.prog u = .ok (.slice (some ⟨db, dof, none⟩) 5000 dc) u := fun u => by
     have h := slice_h u (some ⟨db, dof, none⟩) dn dc 5000 hdc5
     rw [show ((5000 : Nat) : Int) = 5000 from rfl] at h
     rw [h]
     have h0 : ¬ dc = 0 := by omega
     simp [sliced, h0, Addr.add]
    obtain ⟨OC, HOC⟩ : ∃ L, Hid (L = o.cut.L) := ⟨_, rfl⟩
    have HO20C : Hid (O20 OC) := by show O20 _; rw [HOC.out]; exact o20 _
    have HRXF : Hid ((w4.setCell ⟨bx, 19, none⟩ (.slice (some ⟨db, dof, none⟩) 5000 dc)).rangeAt bx 0 OC) := fun j v hv => by
     rw [Nat.zero_add]
     have hj : j < 20 := by have := (List.getElem?_eq_some_iff.1 hv).1; rw [HO20C.out.len] at this; exact this
     by_cases e19 : j = 19
     ·subst e19
      rw [World.cell?_setCell_same' _ _ _ (by rw [c4]; rfl)]
      rw [HOC.out] at hv
      rw [← hv]
      show some (Value.slice (some ⟨db, dof, none⟩) 5000 dc) = some (.slice o.da 5000 o.dc)
      rw [← HDA.out, ← HDC.out]
     ·rw [setCell_at _ _ _ _ _ e19]
      have h3 : OL[j]? = OC[j]? := by
       rw [HOL.out, HOC.out]
       have hm : j = 0 ∨ j = 1 ∨ j = 2 ∨ j = 3 ∨ j = 4 ∨ j = 5 ∨ j = 6 ∨ j = 7 ∨ j = 8 ∨ j = 9 ∨ j = 10 ∨ j = 11 ∨ j = 12 ∨ j = 13 ∨ j = 14 ∨ j = 15 ∨ j = 16 ∨ j = 17 ∨ j = 18 := by omega
       rcases hm with rfl | rfl | rfl | rfl | rfl | rfl | rfl | rfl | rfl | rfl | rfl | rfl | rfl | rfl | rfl | rfl | rfl | rfl | rfl <;> rfl
      have := HW2.out.2.1 j v (by rw [h3]; exact hv)
      rwa [Nat.zero_add] at this
    have HF5 : Hid (Below bx w4 (w4.setCell ⟨bx, 19, none⟩ (.slice (some ⟨db, dof, none⟩) 5000 dc)))   := (show Below bx w4 _ from (Below.refl bx w4).setCell (by show bx ≤ bx; omega) _)
    go_upto_region 12 with fail
    generalize w4.setCell ⟨bx, 19, none⟩ (.slice (some ⟨db, dof, none⟩) 5000 dc) = w5 at HRXF HF5 ⊢
    have hbxB : Hid (B ≤ bx) := by have h1 := HW2.out.1.size; have h2 := HB4.out.size; have h3 := HS4.out.mlt; have h4 := HNB.out M (.inl rfl); have h5 := HS4.out.ord.1; show B ≤ bx; omega
    have HSX : Hid (BS w5 B M none g g an sx av lv lz) := bs_far HS4.out HF5.out HNB.out HLV.out
    have HBX : Hid (Below B w w5) := HB4.out.trans (HF5.out.mono hbxB.out)
    clear c4 z4 hsl
    have HRX : Hid (w5.rangeAt bx 0 OC) := HRXF
    have K7 : Hid (Calls Tryz.prog 7 #[.pointer (some ⟨M, 0, none⟩), .agg OC.toArray] w5 (OneP w5 B M none an)) := by
     show Calls _ _ _ _ _
     rw [HOC.out]
     exact one_any w5 B M none g an sx av lv lz o.cut HSX.out HEV.out (cut_in HOI.out HBIG.out).ok ((cut_in HOI.out HBIG.out).dat HBE.out HBX.out HSX.out) (by have := HAN.out; omega)
    go_wp2_with (first
     | (refine wpList_load_mid (by rfl) 40 (.tmp 11) (by rfl) bx 0 (by rfl) OC _ HRX.out Tryz.underlying40 rfl HO20C.out.sz ?_)
     | (go_at_call 7; refine K7.out.mono ?_))
    rintro e9 w9 ⟨g9, an9, sx9, av9, lv9, lz9, rfl, h9, he9, hb9, ha9⟩
    have H9 : Hid (Below B w w9 ∧ ∃ g an sx av lv lz, an ≤ i + 1 ∧ BS w9 B M none g g an sx av lv lz ∧ Even an sx) := ⟨HBX.out.trans hb9, g9, an9, sx9, av9, lv9, lz9, by have := HAN.out; omega, h9, he9⟩
    clear h9 he9 hb9 ha9 K7
    go_wp2
    refine ⟨⟨i + 1, by omega, by omega, by go_num, H9⟩, by simp only [intOf]; omega⟩
   ·have HRXF : Hid (w4.rangeAt bx 0 OL) := HW2.out.2.1
    have HSX : Hid (BS w4 B M none g g an sx av lv lz) := HS4
    have HBX : Hid (Below B w w4) := HB4
    by_cases hd5 : 5000 < dn
    ·have d1 : (5000 : Int) < (dn : Nat) := by omega
     have d2 : ¬ ((dn : Nat) : Int) ≤ 1048576 := by omega
     go_upto_region 12 with fail
     have HRX : Hid (w4.rangeAt bx 0 OL) := HRXF
     have K7 : Hid (Calls Tryz.prog 7 #[.pointer (some ⟨M, 0, none⟩), .agg OL.toArray] w4 (OneP w4 B M none an)) := by
      show Calls _ _ _ _ _
      rw [HOL.out]
      exact one_any w4 B M none g an sx av lv lz o HSX.out HEV.out HOI.out.ok (HOI.out.dat HBE.out HBX.out HSX.out) (by have := HAN.out; omega)
     go_wp2_with (first
      | (refine wpList_load_mid (by rfl) 40 (.tmp 11) (by rfl) bx 0 (by rfl) OL _ HRX.out Tryz.underlying40 rfl HO20.out.sz ?_)
      | (go_at_call 7; refine K7.out.mono ?_))
     rintro e9 w9 ⟨g9, an9, sx9, av9, lv9, lz9, rfl, h9, he9, hb9, ha9⟩
     have H9 : Hid (Below B w w9 ∧ ∃ g an sx av lv lz, an ≤ i + 1 ∧ BS w9 B M none g g an sx av lv lz ∧ Even an sx) := ⟨HBX.out.trans hb9, g9, an9, sx9, av9, lv9, lz9, by have := HAN.out; omega, h9, he9⟩
     clear h9 he9 hb9 ha9 K7
     go_wp2
     refine ⟨⟨i + 1, by omega, by omega, by go_num, H9⟩, by simp only [intOf]; omega⟩
    ·have d1 : ¬ (5000 : Int) < (dn : Nat) := by omega
     go_upto_region 12 with fail
     have HRX : Hid (w4.rangeAt bx 0 OL) := HRXF
     have K7 : Hid (Calls Tryz.prog 7 #[.pointer (some ⟨M, 0, none⟩), .agg OL.toArray] w4 (OneP w4 B M none an)) := by
      show Calls _ _ _ _ _
      rw [HOL.out]
      exact one_any w4 B M none g an sx av lv lz o HSX.out HEV.out HOI.out.ok (HOI.out.dat HBE.out HBX.out HSX.out) (by have := HAN.out; omega)
     go_wp2_with (first
      | (refine wpList_load_mid (by rfl) 40 (.tmp 11) (by rfl) bx 0 (by rfl) OL _ HRX.out Tryz.underlying40 rfl HO20.out.sz ?_)
      | (go_at_call 7; refine K7.out.mono ?_))
     rintro e9 w9 ⟨g9, an9, sx9, av9, lv9, lz9, rfl, h9, he9, hb9, ha9⟩
     have H9 : Hid (Below B w w9 ∧ ∃ g an sx av lv lz, an ≤ i + 1 ∧ BS w9 B M none g g an sx av lv lz ∧ Even an sx) := ⟨HBX.out.trans hb9, g9, an9, sx9, av9, lv9, lz9, by have := HAN.out; omega, h9, he9⟩
     clear h9 he9 hb9 ha9 K7
     go_wp2
     refine ⟨⟨i + 1, by omega, by omega, by go_num, H9⟩, by simp only [intOf]; omega⟩
  ·by_cases hi : i < sn
   ·have h1 : ((i : Nat) : Int) < ((sn : Nat) : Int) := by omega
    have h2 : ¬ ((i : Nat) : Int) < 24 := by omega
    go_wp2
    go_ret
    exact ⟨rfl, by rw [HBE.out]; exact HR.out.1⟩
   ·have h1 : ¬ ((i : Nat) : Int) < ((sn : Nat) : Int) := by omega
    go_wp2
    go_ret
    exact ⟨rfl, by rw [HBE.out]; exact HR.out.1⟩
end Go.Proofs.YtgmfiljjogdccabGreatDoor
