import Derived.Test.YtioggmjocelolacDoorStlG
namespace Go.Proofs.YtioggmjocelolacDoor
open Go.RowKit
set_option linter.unusedVariables false
set_option linter.unusedSimpArgs false
set_option maxHeartbeats 6400000 in
set_option maxRecDepth 100000 in
theorem stl_b (h t : Int) (m D : Nat) (M : Int) (k : Hid (Known h)) (hE : Hid (strE h t (m : Nat) = 0)) (sz : Nat) (HSZ : Hid (sz = szOf h)) (hsz : 1 ≤ sz ∧ sz ≤ 64) (HD : ((m : Nat) + (sz : Nat) - 1 : Int).tdiv (sz : Nat) = (D : Nat)) (hDb : D ≤ 65600) (HM : t * (D : Nat) = M) (hM : 0 ≤ M ∧ M ≤ 2097152) (hm : 1 ≤ m ∧ m ≤ 65536) (ht : 1 ≤ t ∧ t ≤ 1048576) (hc1 : 600 < t) (pa sa ia : Option Addr) (pn pc sn sc il ic : Nat) (pass salt : List Int) (w : World) (hT : Hid (Tables w)) (hR : Hid (RTab w)) (hpv : Hid (View w (.slice pa pn pc) pass)) (HPl : Hid (pass.length = pn)) (hsv : Hid (View w (.slice sa sn sc) salt)) (HSl : Hid (salt.length = sn)) (hps : pn + sn ≤ 65536) :
    Calls Tryd.prog 4 #[.agg #[.int .i64 h, .slice pa pn pc, .slice sa sn sc, .slice ia il ic, .int .i64 t, .int .i64 (m : Nat)]] w fun e w' => e = .returned (.bool true) ∧ Below w.heap.size w w' := by
  have hm1 : (1 : Int) ≤ (m : Nat) := by omega
  have hm2 : ((m : Nat) : Int) ≤ 65536 := by omega
  have hz : ¬ ((sz : Nat) : Int) = 0 := by omega
  have H15 : Hid (∀ u, Calls Tryd.prog 15 #[.int .i64 h, .int .i64 pn, .int .i64 sn, .int .i64 t, .int .i64 (m : Nat)] u fun e w' => e = .returned (.int .i64 0) ∧ w' = u) := fun u => by
    rw [← hE.out]
    exact rsterr_any h pn sn t (m : Nat) u (by omega) (by omega) (by omega) (by omega) (by omega) (by omega)
  have H16 : Hid (∀ u, Calls Tryd.prog 16 #[.int .i64 h] u fun e w' => e = .returned (.int .i64 (sz : Nat)) ∧ w' = u) := fun u => by rw [HSZ.out]; exact rsize_ok h k.out u
  have hT4 := hT.out.size
  have hR2 := hR.out.size
  obtain ⟨w0, hw0⟩ : ∃ w0, w0 = w.alloc (.cells #[.int .i64 h, .slice pa pn pc, .slice sa sn sc, .slice ia il ic, .int .i64 t, .int .i64 (m : Nat)] 32) := ⟨_, rfl⟩
  have HB00 : Hid (Below w.heap.size w w0) := by rw [hw0]; exact (Below.refl _ _).alloc (Nat.le_refl _) _
  have F : ∀ j v, #[Value.int .i64 h, .slice pa pn pc, .slice sa sn sc, .slice ia il ic, .int .i64 t, .int .i64 (m : Nat)][j]? = some v → w0.cell? ⟨w.heap.size, j, none⟩ = some v := fun j v hj => by
    rw [hw0, World.cell?_alloc_mark]
    exact hj
  have f0 := F 0 _ rfl
  have f1 := F 1 _ rfl
  have f2 := F 2 _ rfl
  have f4 := F 4 _ rfl
  have f5 := F 5 _ rfl
  clear F
  have d1 : ¬ (65536 : Int) < (pn : Nat) + (sn : Nat) := by omega
  go_enter Tryd.func4, Tryd.ntmps4
  go_upto_region 1 with fail
  rw [← hw0]
  clear hw0
  go_upto_region 12 with (first | (go_at_call 15; refine (H15.out _).mono ?_; rintro e1 wx ⟨rfl, hwx⟩; obtain rfl := hwx.symm) | (go_at_call 16; refine (H16.out _).mono ?_; rintro e1 wx ⟨rfl, hwx⟩; obtain rfl := hwx.symm))
  obtain ⟨T2, hT2⟩ : ∃ T2, 1 + t % 4 = T2 := ⟨_, rfl⟩
  obtain ⟨m2, hm2'⟩ : ∃ m2 : Nat, (1 : Int) + (m : Nat) % 200 = (m2 : Nat) := ⟨1 + m % 200, by omega⟩
  rw [hT2, hm2']
  have hq1 : 1 ≤ T2 ∧ T2 ≤ 4 := by omega
  have hq2 : 1 ≤ m2 ∧ m2 ≤ 200 := by omega
  obtain ⟨t2, ht2⟩ : ∃ t2 : Nat, T2 - 1 = (t2 : Nat) := ⟨(T2 - 1).toNat, by omega⟩
  have HF2 : Hid (T2 - 1 = (t2 : Nat) ∧ t2 ≤ 1048575) := ⟨ht2, by omega⟩
  have HE2 : Hid (strE h T2 (m2 : Nat) = 0) := strE_small k.out T2 m2 hq1 (by omega)
  have hT2a : 1 ≤ T2 ∧ T2 ≤ 1048576 := by omega
  have hm2a : 1 ≤ m2 ∧ m2 ≤ 65536 := by omega
  clear hT2 hm2' ht2 hq1 hq2
  have HCx : Hid (Calls Tryd.prog 17 #[.slice pa pn pc] w0 fun e w' => Hid (∃ v', e = .returned v' ∧ Marked w0.heap.size w' v' pass ∧ Below w0.heap.size w0 w')) := copy_any _ pass w0 (by rw [HPl.out]; omega) (hpv.out.kept fun b hb => HB00.out.block b hb)
  go_upto_region 13 with (first | (go_at_call 17; refine HCx.out.mono ?_))
  intro ex w1 hh
  obtain ⟨vx, rfl, hm, hb⟩ := hh.out
  obtain ⟨gx, cx, hvx⟩ : ∃ g c, vx = .slice (some ⟨g, 0, none⟩) pn c := by
    obtain ⟨g, c, e, _⟩ := hm
    exact ⟨g, c, by rw [e, HPl.out]⟩
  subst hvx
  have HMx : Hid (Marked w0.heap.size w1 (.slice (some ⟨gx, 0, none⟩) pn cx) pass) := hm
  have HB01 : Hid (Below w.heap.size w w1) := HB00.out.trans (hb.mono HB00.out.size)
  clear hh hm hb HCx
  have HCy : Hid (Calls Tryd.prog 17 #[.slice sa sn sc] w1 fun e w' => Hid (∃ v', e = .returned v' ∧ Marked w1.heap.size w' v' salt ∧ Below w1.heap.size w1 w')) := copy_any _ salt w1 (by rw [HSl.out]; omega) (hsv.out.kept fun b hb => HB01.out.block b hb)
  go_upto_region 14 with (go_at_call 17; refine HCy.out.mono ?_)
  intro ey w2 hh
  obtain ⟨vy, rfl, hm, hb⟩ := hh.out
  obtain ⟨gy, cy, hvy⟩ : ∃ g c, vy = .slice (some ⟨g, 0, none⟩) sn c := by
    obtain ⟨g, c, e, _⟩ := hm
    exact ⟨g, c, by rw [e, HSl.out]⟩
  subst hvy
  have HMy : Hid (Marked w1.heap.size w2 (.slice (some ⟨gy, 0, none⟩) sn cy) salt) := hm
  have HB12 : Hid (Below w1.heap.size w1 w2) := hb
  have HB02 : Hid (Below w.heap.size w w2) := HB01.out.trans (hb.mono HB01.out.size)
  clear hh hm hb HCy
  have HM2x : Hid (Marked w0.heap.size w2 (.slice (some ⟨gx, 0, none⟩) pn cx) pass) := HMx.out.kept fun b hb => HB12.out.block b hb
  have W1 : Hid (∀ u : World, Below w2.heap.size w2 u → Calls Tryd.prog 18 #[.slice (some ⟨gx, 0, none⟩) pn cx, .slice pa pn pc] u fun e w' => e = .returned (.bool true) ∧ ∃ m, w' = u.drewN m) := fun u hu =>
    whole_any _ _ pass w0.heap.size u (HM2x.out.kept fun b hb => hu.block b hb) (hpv.out.kept fun b hb => (HB02.out.trans (hu.mono HB02.out.size)).block b hb)
  have W2 : Hid (∀ u : World, Below w2.heap.size w2 u → Calls Tryd.prog 18 #[.slice (some ⟨gy, 0, none⟩) sn cy, .slice sa sn sc] u fun e w' => e = .returned (.bool true) ∧ ∃ m, w' = u.drewN m) := fun u hu =>
    whole_any _ _ salt w1.heap.size u (HMy.out.kept fun b hb => hu.block b hb) (hsv.out.kept fun b hb => (HB02.out.trans (hu.mono HB02.out.size)).block b hb)
  obtain ⟨X, HX⟩ : ∃ X, Hid (X = (strL h pass salt t2 m2).take m2) := ⟨_, rfl⟩
  have HXl : Hid (X.length = m2) := by
    show _ = _
    rw [HX.out, List.length_take, strL_length k.out]
    have := Nat.le_mul_of_pos_right m2 (szOf_pos k.out).1
    omega
  have HVx : Hid (View w2 (.slice (some ⟨gx, 0, none⟩) pn cx) pass) := HM2x.out.view
  have HVy : Hid (View w2 (.slice (some ⟨gy, 0, none⟩) sn cy) salt) := HMy.out.view
  have H13 : Hid (∀ u, Below w2.heap.size w2 u → Calls Tryd.prog 13 #[.int .i64 h, .slice (some ⟨gx, 0, none⟩) pn cx, .slice (some ⟨gy, 0, none⟩) sn cy, .int .i64 T2, .int .i64 (m2 : Nat)] u fun e w' => Hid (∃ v, e = .returned (.tuple #[v, .int .i64 0]) ∧ w'.ownsRow u.heap.size 5 1 v m2 (cellsU8 X) ∧ Below u.heap.size u w')) := fun u hu => by
    have hb0 : Below w.heap.size w u := HB02.out.trans (hu.mono HB02.out.size)
    refine (stretch_ok h (some ⟨gx, 0, none⟩) (some ⟨gy, 0, none⟩) pn cx sn cy m2 pass salt T2 t2 u k (HVx.out.kept fun b hb => hu.block b hb) (HVy.out.kept fun b hb => hu.block b hb) (hT.out.below hb0 hT4) (by omega) (by omega) HF2.out.1 (by have := HF2.out.2; omega) (by omega) (by omega) HE2).mono ?_
    rintro e w' ⟨v, q, rfl, h1, h2, h3⟩
    rw [str_take k.out pass salt t2 m2 q h1, ← HX.out] at h2
    exact ⟨v, rfl, h2, h3⟩
  clear HMx HMy HM2x HB12 HB01 HB00 f0 f1 f2 f4 f5 HVx HVy
  go_upto_region 15 with (go_at_call 13; refine (H13.out w2 (Below.refl _ _)).mono ?_)
  intro e3 w3 hh
  obtain ⟨va, rfl, hoa, hb3⟩ := hh.out
  have HB23 : Hid (Below w2.heap.size w2 w3) := hb3
  have HA3 : Hid (w3.ownsRow w2.heap.size 5 1 va m2 (cellsU8 X)) := hoa
  clear hh hoa hb3
  go_upto_region 16 with (go_at_call 13; refine (H13.out w3 HB23.out).mono ?_)
  intro e4 w4 hh
  obtain ⟨vb, rfl, hob, hb4⟩ := hh.out
  have HB34 : Hid (Below w3.heap.size w3 w4) := hb4
  have HB24 : Hid (Below w2.heap.size w2 w4) := HB23.out.trans (hb4.mono HB23.out.size)
  have HB04 : Hid (Below w.heap.size w w4) := HB02.out.trans (HB24.out.mono HB02.out.size)
  have HV4 : Hid (w4.ownsRow w3.heap.size 5 1 vb m2 (cellsU8 X)) := hob
  clear hh hob hb4 H13
  have H19 : Hid (∀ u : World, Below w4.heap.size w4 u → Calls Tryd.prog 19 #[.int .i64 h, .slice pa pn pc, .slice sa sn sc, .int .i64 T2, .int .i64 (m2 : Nat)] u fun e w' => Hid (∃ v', e = .returned v' ∧ View w' v' X ∧ (∀ b, v'.ownBlock = some b → u.heap.size ≤ b) ∧ Below u.heap.size u w')) := fun u hu => by
    have hb0 : Below w.heap.size w u := HB04.out.trans (hu.mono HB04.out.size)
    refine (rstretch_walk h pa sa pn pc sn sc m2 pass salt T2 t2 u k (hR.out.below hb0 hR2) (hpv.out.kept fun b hb => hb0.block b hb) HPl (hsv.out.kept fun b hb => hb0.block b hb) HSl (by omega) (by omega) (by omega) (by omega) (by show _ = _; have := HF2.out.1; omega) (by have := HF2.out.2; omega)).mono ?_
    rintro e w' ⟨v, q, rfl, h1, h2, h3, h4⟩
    rw [str_take k.out pass salt t2 m2 q h2, ← HX.out] at h1
    exact ⟨v, rfl, h1, h3, h4⟩
  go_wp2_with (go_at_call 11; refine (num_any _ _ (by decide) (by decide)).mono ?_; rintro e1 wx ⟨rfl, hwx⟩; obtain rfl := hwx.symm)
  refine (W1.out _ ?_).mono ?_
  · exact ⟨HB24.out.os, HB24.out.tape, HB24.out.output, HB24.out.size, HB24.out.block⟩
  rintro e6 w6 ⟨rfl, m6, rfl⟩
  go_wp2_with fail
  refine (W2.out _ ?_).mono ?_
  · exact ⟨HB24.out.os, HB24.out.tape, HB24.out.output, HB24.out.size, HB24.out.block⟩
  rintro e7 w7 ⟨rfl, m7, rfl⟩
  go_wp2_with (go_at_call 19; refine (H19.out _ ?_).mono ?_)
  · exact ⟨rfl, rfl, rfl, Nat.le_refl _, fun _ _ => rfl⟩
  intro e5 w5 hh
  obtain ⟨vw, rfl, hvw, hwb, hb5⟩ : ∃ v', e5 = .returned v' ∧ View w5 v' X ∧ (∀ b, v'.ownBlock = some b → w4.heap.size ≤ b) ∧ Below w4.heap.size w4 w5 := by
    obtain ⟨v', q1, q2, q3, q4⟩ := hh.out
    exact ⟨v', q1, q2, q3, ⟨q4.os, q4.tape, q4.output, q4.size, q4.block⟩⟩
  have HB45 : Hid (Below w4.heap.size w4 w5) := hb5
  have HB35 : Hid (Below w3.heap.size w3 w5) := HB34.out.trans (hb5.mono HB34.out.size)
  have HB05 : Hid (Below w.heap.size w w5) := HB04.out.trans (hb5.mono HB04.out.size)
  have HVW : Hid (View w5 vw X) := hvw
  have HWb : Hid (∀ b, vw.ownBlock = some b → w4.heap.size ≤ b) := hwb
  have HA : Hid (w5.ownsRow w2.heap.size 5 1 va m2 (cellsU8 X)) := owns_kept HA3.out HB35.out
  have HBr : Hid (w5.ownsRow w3.heap.size 5 1 vb m2 (cellsU8 X)) := owns_kept HV4.out HB45.out
  have HAb : Hid (∀ b, va.ownBlock = some b → w2.heap.size ≤ b ∧ b < w3.heap.size) := fun b hb => HA3.out.lt b hb
  have HVA : Hid (View w5 va X) := viewOwns HA.out HXl.out
  have HVB : Hid (View w5 vb X) := viewOwns HBr.out HXl.out
  have HSS : Hid (w.heap.size ≤ w2.heap.size ∧ w2.heap.size ≤ w3.heap.size ∧ w3.heap.size ≤ w4.heap.size ∧ w4.heap.size ≤ w5.heap.size) := ⟨HB02.out.size, HB23.out.size, HB34.out.size, HB45.out.size⟩
  clear hh hvw hwb hb5 H19 W1 W2
  have C1 : Hid (∀ u : World, u.heap = w5.heap → Calls Tryd.prog 20 #[va, vw] u fun e w' => e = .returned (.bool true) ∧ ∃ m, w' = u.drewN m) := fun u hu => by
    have q := same_any va vw X X u (HVA.out.kept fun b _ => by rw [hu]) (HVW.out.kept fun b _ => by rw [hu])
    rw [show decide (X = X) = true from decide_eq_true rfl] at q
    exact q
  have C2 : Hid (∀ u : World, u.heap = w5.heap → Calls Tryd.prog 20 #[vb, vw] u fun e w' => e = .returned (.bool true) ∧ ∃ m, w' = u.drewN m) := fun u hu => by
    have q := same_any vb vw X X u (HVB.out.kept fun b _ => by rw [hu]) (HVW.out.kept fun b _ => by rw [hu])
    rw [show decide (X = X) = true from decide_eq_true rfl] at q
    exact q
  have C3 : Hid (∀ u : World, u.heap = w5.heap → Calls Tryd.prog 21 #[va] u fun e w' => e = .returned (.tuple #[]) ∧ u.grownBy w' va.ownBlock) := fun u hu =>
    spoil_any w2.heap.size m2 va X u (by omega) (by rw [hu]; have := HSS.out; omega) (by
      obtain ⟨q1, q2⟩ := HA.out
      refine ⟨q1, ?_⟩
      rw [hu]
      exact q2)
  go_wp2_with fail
  refine (C1.out _ ?_).mono ?_
  · rfl
  rintro e7 w7 ⟨rfl, m8, rfl⟩
  go_wp2_with fail
  refine (C2.out _ ?_).mono ?_
  · rfl
  rintro e8 w8 ⟨rfl, m9, rfl⟩
  go_wp2_with fail
  refine (C3.out _ ?_).mono ?_
  · rfl
  rintro e9 w9 ⟨rfl, hg⟩
  have HVB2 : Hid (View w9 vb X) := (HVB.out.kept (w' := w5.drewN (m8 + m9)) fun b _ => rfl).grown hg (owns_apart HBr.out fun b hb => (HAb.out b hb).2)
  have HVW2 : Hid (View w9 vw X) := (HVW.out.kept (w' := w5.drewN (m8 + m9)) fun b _ => rfl).grown hg (fun b off l c e e2 => by
    have h1 := HWb.out b (by rw [e]; rfl)
    have h2 := (HAb.out b e2.symm).2
    have h3 := HSS.out
    omega)
  have HB09 : Hid (Below w.heap.size w w9) := by
    have hb : Below w.heap.size w (w5.drewN (m8 + m9)) := ⟨HB05.out.os, HB05.out.tape, HB05.out.output, HB05.out.size, HB05.out.block⟩
    exact hb.grown hg hb.size (fun b hb => by have := (HAb.out b hb).1; have := HSS.out; omega)
  have C5 : Hid (∀ u : World, u.heap = w9.heap → Calls Tryd.prog 20 #[vb, vw] u fun e w' => e = .returned (.bool true) ∧ ∃ m, w' = u.drewN m) := fun u hu => by
    have q := same_any vb vw X X u (HVB2.out.kept fun b _ => by rw [hu]) (HVW2.out.kept fun b _ => by rw [hu])
    rw [show decide (X = X) = true from decide_eq_true rfl] at q
    exact q
  clear hg C1 C2 C3
  go_wp2_with fail
  refine (C5.out _ ?_).mono ?_
  · rfl
  rintro e11 w11 ⟨rfl, m11, rfl⟩
  go_wp2_with fail
  go_ret
  exact ⟨rfl, ⟨HB09.out.os, HB09.out.tape, HB09.out.output, HB09.out.size, HB09.out.block⟩⟩
set_option maxHeartbeats 6400000 in
set_option maxRecDepth 100000 in
theorem stl_c (h t : Int) (m D : Nat) (M : Int) (k : Hid (Known h)) (hE : Hid (strE h t (m : Nat) = 0)) (sz : Nat) (HSZ : Hid (sz = szOf h)) (hsz : 1 ≤ sz ∧ sz ≤ 64) (HD : ((m : Nat) + (sz : Nat) - 1 : Int).tdiv (sz : Nat) = (D : Nat)) (hDb : D ≤ 65600) (HM : t * (D : Nat) = M) (hM : 0 ≤ M ∧ M ≤ 2097152) (hm : 1 ≤ m ∧ m ≤ 65536) (ht : 1 ≤ t ∧ t ≤ 1048576) (hc1 : ¬ 600 < t) (hc2 : 600 < M) (pa sa ia : Option Addr) (pn pc sn sc il ic : Nat) (pass salt : List Int) (w : World) (hT : Hid (Tables w)) (hR : Hid (RTab w)) (hpv : Hid (View w (.slice pa pn pc) pass)) (HPl : Hid (pass.length = pn)) (hsv : Hid (View w (.slice sa sn sc) salt)) (HSl : Hid (salt.length = sn)) (hps : pn + sn ≤ 65536) :
    Calls Tryd.prog 4 #[.agg #[.int .i64 h, .slice pa pn pc, .slice sa sn sc, .slice ia il ic, .int .i64 t, .int .i64 (m : Nat)]] w fun e w' => e = .returned (.bool true) ∧ Below w.heap.size w w' := by
  have hm1 : (1 : Int) ≤ (m : Nat) := by omega
  have hm2 : ((m : Nat) : Int) ≤ 65536 := by omega
  have hz : ¬ ((sz : Nat) : Int) = 0 := by omega
  have H15 : Hid (∀ u, Calls Tryd.prog 15 #[.int .i64 h, .int .i64 pn, .int .i64 sn, .int .i64 t, .int .i64 (m : Nat)] u fun e w' => e = .returned (.int .i64 0) ∧ w' = u) := fun u => by
    rw [← hE.out]
    exact rsterr_any h pn sn t (m : Nat) u (by omega) (by omega) (by omega) (by omega) (by omega) (by omega)
  have H16 : Hid (∀ u, Calls Tryd.prog 16 #[.int .i64 h] u fun e w' => e = .returned (.int .i64 (sz : Nat)) ∧ w' = u) := fun u => by rw [HSZ.out]; exact rsize_ok h k.out u
  have hT4 := hT.out.size
  have hR2 := hR.out.size
  obtain ⟨w0, hw0⟩ : ∃ w0, w0 = w.alloc (.cells #[.int .i64 h, .slice pa pn pc, .slice sa sn sc, .slice ia il ic, .int .i64 t, .int .i64 (m : Nat)] 32) := ⟨_, rfl⟩
  have HB00 : Hid (Below w.heap.size w w0) := by rw [hw0]; exact (Below.refl _ _).alloc (Nat.le_refl _) _
  have F : ∀ j v, #[Value.int .i64 h, .slice pa pn pc, .slice sa sn sc, .slice ia il ic, .int .i64 t, .int .i64 (m : Nat)][j]? = some v → w0.cell? ⟨w.heap.size, j, none⟩ = some v := fun j v hj => by
    rw [hw0, World.cell?_alloc_mark]
    exact hj
  have f0 := F 0 _ rfl
  have f1 := F 1 _ rfl
  have f2 := F 2 _ rfl
  have f4 := F 4 _ rfl
  have f5 := F 5 _ rfl
  clear F
  have d1 : ¬ (65536 : Int) < (pn : Nat) + (sn : Nat) := by omega
  go_enter Tryd.func4, Tryd.ntmps4
  go_upto_region 1 with fail
  rw [← hw0]
  clear hw0
  go_upto_region 12 with (first | (go_at_call 15; refine (H15.out _).mono ?_; rintro e1 wx ⟨rfl, hwx⟩; obtain rfl := hwx.symm) | (go_at_call 16; refine (H16.out _).mono ?_; rintro e1 wx ⟨rfl, hwx⟩; obtain rfl := hwx.symm))
  obtain ⟨T2, hT2⟩ : ∃ T2, 1 + t % 4 = T2 := ⟨_, rfl⟩
  obtain ⟨m2, hm2'⟩ : ∃ m2 : Nat, (1 : Int) + (m : Nat) % 200 = (m2 : Nat) := ⟨1 + m % 200, by omega⟩
  rw [hT2, hm2']
  have hq1 : 1 ≤ T2 ∧ T2 ≤ 4 := by omega
  have hq2 : 1 ≤ m2 ∧ m2 ≤ 200 := by omega
  obtain ⟨t2, ht2⟩ : ∃ t2 : Nat, T2 - 1 = (t2 : Nat) := ⟨(T2 - 1).toNat, by omega⟩
  have HF2 : Hid (T2 - 1 = (t2 : Nat) ∧ t2 ≤ 1048575) := ⟨ht2, by omega⟩
  have HE2 : Hid (strE h T2 (m2 : Nat) = 0) := strE_small k.out T2 m2 hq1 (by omega)
  have hT2a : 1 ≤ T2 ∧ T2 ≤ 1048576 := by omega
  have hm2a : 1 ≤ m2 ∧ m2 ≤ 65536 := by omega
  clear hT2 hm2' ht2 hq1 hq2
  have HCx : Hid (Calls Tryd.prog 17 #[.slice pa pn pc] w0 fun e w' => Hid (∃ v', e = .returned v' ∧ Marked w0.heap.size w' v' pass ∧ Below w0.heap.size w0 w')) := copy_any _ pass w0 (by rw [HPl.out]; omega) (hpv.out.kept fun b hb => HB00.out.block b hb)
  go_upto_region 13 with (first | (go_at_call 17; refine HCx.out.mono ?_))
  intro ex w1 hh
  obtain ⟨vx, rfl, hm, hb⟩ := hh.out
  obtain ⟨gx, cx, hvx⟩ : ∃ g c, vx = .slice (some ⟨g, 0, none⟩) pn c := by
    obtain ⟨g, c, e, _⟩ := hm
    exact ⟨g, c, by rw [e, HPl.out]⟩
  subst hvx
  have HMx : Hid (Marked w0.heap.size w1 (.slice (some ⟨gx, 0, none⟩) pn cx) pass) := hm
  have HB01 : Hid (Below w.heap.size w w1) := HB00.out.trans (hb.mono HB00.out.size)
  clear hh hm hb HCx
  have HCy : Hid (Calls Tryd.prog 17 #[.slice sa sn sc] w1 fun e w' => Hid (∃ v', e = .returned v' ∧ Marked w1.heap.size w' v' salt ∧ Below w1.heap.size w1 w')) := copy_any _ salt w1 (by rw [HSl.out]; omega) (hsv.out.kept fun b hb => HB01.out.block b hb)
  go_upto_region 14 with (go_at_call 17; refine HCy.out.mono ?_)
  intro ey w2 hh
  obtain ⟨vy, rfl, hm, hb⟩ := hh.out
  obtain ⟨gy, cy, hvy⟩ : ∃ g c, vy = .slice (some ⟨g, 0, none⟩) sn c := by
    obtain ⟨g, c, e, _⟩ := hm
    exact ⟨g, c, by rw [e, HSl.out]⟩
  subst hvy
  have HMy : Hid (Marked w1.heap.size w2 (.slice (some ⟨gy, 0, none⟩) sn cy) salt) := hm
  have HB12 : Hid (Below w1.heap.size w1 w2) := hb
  have HB02 : Hid (Below w.heap.size w w2) := HB01.out.trans (hb.mono HB01.out.size)
  clear hh hm hb HCy
  have HM2x : Hid (Marked w0.heap.size w2 (.slice (some ⟨gx, 0, none⟩) pn cx) pass) := HMx.out.kept fun b hb => HB12.out.block b hb
  have W1 : Hid (∀ u : World, Below w2.heap.size w2 u → Calls Tryd.prog 18 #[.slice (some ⟨gx, 0, none⟩) pn cx, .slice pa pn pc] u fun e w' => e = .returned (.bool true) ∧ ∃ m, w' = u.drewN m) := fun u hu =>
    whole_any _ _ pass w0.heap.size u (HM2x.out.kept fun b hb => hu.block b hb) (hpv.out.kept fun b hb => (HB02.out.trans (hu.mono HB02.out.size)).block b hb)
  have W2 : Hid (∀ u : World, Below w2.heap.size w2 u → Calls Tryd.prog 18 #[.slice (some ⟨gy, 0, none⟩) sn cy, .slice sa sn sc] u fun e w' => e = .returned (.bool true) ∧ ∃ m, w' = u.drewN m) := fun u hu =>
    whole_any _ _ salt w1.heap.size u (HMy.out.kept fun b hb => hu.block b hb) (hsv.out.kept fun b hb => (HB02.out.trans (hu.mono HB02.out.size)).block b hb)
  obtain ⟨X, HX⟩ : ∃ X, Hid (X = (strL h pass salt t2 m2).take m2) := ⟨_, rfl⟩
  have HXl : Hid (X.length = m2) := by
    show _ = _
    rw [HX.out, List.length_take, strL_length k.out]
    have := Nat.le_mul_of_pos_right m2 (szOf_pos k.out).1
    omega
  have HVx : Hid (View w2 (.slice (some ⟨gx, 0, none⟩) pn cx) pass) := HM2x.out.view
  have HVy : Hid (View w2 (.slice (some ⟨gy, 0, none⟩) sn cy) salt) := HMy.out.view
  have H13 : Hid (∀ u, Below w2.heap.size w2 u → Calls Tryd.prog 13 #[.int .i64 h, .slice (some ⟨gx, 0, none⟩) pn cx, .slice (some ⟨gy, 0, none⟩) sn cy, .int .i64 T2, .int .i64 (m2 : Nat)] u fun e w' => Hid (∃ v, e = .returned (.tuple #[v, .int .i64 0]) ∧ w'.ownsRow u.heap.size 5 1 v m2 (cellsU8 X) ∧ Below u.heap.size u w')) := fun u hu => by
    have hb0 : Below w.heap.size w u := HB02.out.trans (hu.mono HB02.out.size)
    refine (stretch_ok h (some ⟨gx, 0, none⟩) (some ⟨gy, 0, none⟩) pn cx sn cy m2 pass salt T2 t2 u k (HVx.out.kept fun b hb => hu.block b hb) (HVy.out.kept fun b hb => hu.block b hb) (hT.out.below hb0 hT4) (by omega) (by omega) HF2.out.1 (by have := HF2.out.2; omega) (by omega) (by omega) HE2).mono ?_
    rintro e w' ⟨v, q, rfl, h1, h2, h3⟩
    rw [str_take k.out pass salt t2 m2 q h1, ← HX.out] at h2
    exact ⟨v, rfl, h2, h3⟩
  clear HMx HMy HM2x HB12 HB01 HB00 f0 f1 f2 f4 f5 HVx HVy
  go_upto_region 15 with (go_at_call 13; refine (H13.out w2 (Below.refl _ _)).mono ?_)
  intro e3 w3 hh
  obtain ⟨va, rfl, hoa, hb3⟩ := hh.out
  have HB23 : Hid (Below w2.heap.size w2 w3) := hb3
  have HA3 : Hid (w3.ownsRow w2.heap.size 5 1 va m2 (cellsU8 X)) := hoa
  clear hh hoa hb3
  go_upto_region 16 with (go_at_call 13; refine (H13.out w3 HB23.out).mono ?_)
  intro e4 w4 hh
  obtain ⟨vb, rfl, hob, hb4⟩ := hh.out
  have HB34 : Hid (Below w3.heap.size w3 w4) := hb4
  have HB24 : Hid (Below w2.heap.size w2 w4) := HB23.out.trans (hb4.mono HB23.out.size)
  have HB04 : Hid (Below w.heap.size w w4) := HB02.out.trans (HB24.out.mono HB02.out.size)
  have HV4 : Hid (w4.ownsRow w3.heap.size 5 1 vb m2 (cellsU8 X)) := hob
  clear hh hob hb4 H13
  have H19 : Hid (∀ u : World, Below w4.heap.size w4 u → Calls Tryd.prog 19 #[.int .i64 h, .slice pa pn pc, .slice sa sn sc, .int .i64 T2, .int .i64 (m2 : Nat)] u fun e w' => Hid (∃ v', e = .returned v' ∧ View w' v' X ∧ (∀ b, v'.ownBlock = some b → u.heap.size ≤ b) ∧ Below u.heap.size u w')) := fun u hu => by
    have hb0 : Below w.heap.size w u := HB04.out.trans (hu.mono HB04.out.size)
    refine (rstretch_walk h pa sa pn pc sn sc m2 pass salt T2 t2 u k (hR.out.below hb0 hR2) (hpv.out.kept fun b hb => hb0.block b hb) HPl (hsv.out.kept fun b hb => hb0.block b hb) HSl (by omega) (by omega) (by omega) (by omega) (by show _ = _; have := HF2.out.1; omega) (by have := HF2.out.2; omega)).mono ?_
    rintro e w' ⟨v, q, rfl, h1, h2, h3, h4⟩
    rw [str_take k.out pass salt t2 m2 q h2, ← HX.out] at h1
    exact ⟨v, rfl, h1, h3, h4⟩
  go_wp2_with (go_at_call 11; refine (num_any _ _ (by decide) (by decide)).mono ?_; rintro e1 wx ⟨rfl, hwx⟩; obtain rfl := hwx.symm)
  refine (W1.out _ ?_).mono ?_
  · exact ⟨HB24.out.os, HB24.out.tape, HB24.out.output, HB24.out.size, HB24.out.block⟩
  rintro e6 w6 ⟨rfl, m6, rfl⟩
  go_wp2_with fail
  refine (W2.out _ ?_).mono ?_
  · exact ⟨HB24.out.os, HB24.out.tape, HB24.out.output, HB24.out.size, HB24.out.block⟩
  rintro e7 w7 ⟨rfl, m7, rfl⟩
  go_wp2_with (go_at_call 19; refine (H19.out _ ?_).mono ?_)
  · exact ⟨rfl, rfl, rfl, Nat.le_refl _, fun _ _ => rfl⟩
  intro e5 w5 hh
  obtain ⟨vw, rfl, hvw, hwb, hb5⟩ : ∃ v', e5 = .returned v' ∧ View w5 v' X ∧ (∀ b, v'.ownBlock = some b → w4.heap.size ≤ b) ∧ Below w4.heap.size w4 w5 := by
    obtain ⟨v', q1, q2, q3, q4⟩ := hh.out
    exact ⟨v', q1, q2, q3, ⟨q4.os, q4.tape, q4.output, q4.size, q4.block⟩⟩
  have HB45 : Hid (Below w4.heap.size w4 w5) := hb5
  have HB35 : Hid (Below w3.heap.size w3 w5) := HB34.out.trans (hb5.mono HB34.out.size)
  have HB05 : Hid (Below w.heap.size w w5) := HB04.out.trans (hb5.mono HB04.out.size)
  have HVW : Hid (View w5 vw X) := hvw
  have HWb : Hid (∀ b, vw.ownBlock = some b → w4.heap.size ≤ b) := hwb
  have HA : Hid (w5.ownsRow w2.heap.size 5 1 va m2 (cellsU8 X)) := owns_kept HA3.out HB35.out
  have HBr : Hid (w5.ownsRow w3.heap.size 5 1 vb m2 (cellsU8 X)) := owns_kept HV4.out HB45.out
  have HAb : Hid (∀ b, va.ownBlock = some b → w2.heap.size ≤ b ∧ b < w3.heap.size) := fun b hb => HA3.out.lt b hb
  have HVA : Hid (View w5 va X) := viewOwns HA.out HXl.out
  have HVB : Hid (View w5 vb X) := viewOwns HBr.out HXl.out
  have HSS : Hid (w.heap.size ≤ w2.heap.size ∧ w2.heap.size ≤ w3.heap.size ∧ w3.heap.size ≤ w4.heap.size ∧ w4.heap.size ≤ w5.heap.size) := ⟨HB02.out.size, HB23.out.size, HB34.out.size, HB45.out.size⟩
  clear hh hvw hwb hb5 H19 W1 W2
  have C1 : Hid (∀ u : World, u.heap = w5.heap → Calls Tryd.prog 20 #[va, vw] u fun e w' => e = .returned (.bool true) ∧ ∃ m, w' = u.drewN m) := fun u hu => by
    have q := same_any va vw X X u (HVA.out.kept fun b _ => by rw [hu]) (HVW.out.kept fun b _ => by rw [hu])
    rw [show decide (X = X) = true from decide_eq_true rfl] at q
    exact q
  have C2 : Hid (∀ u : World, u.heap = w5.heap → Calls Tryd.prog 20 #[vb, vw] u fun e w' => e = .returned (.bool true) ∧ ∃ m, w' = u.drewN m) := fun u hu => by
    have q := same_any vb vw X X u (HVB.out.kept fun b _ => by rw [hu]) (HVW.out.kept fun b _ => by rw [hu])
    rw [show decide (X = X) = true from decide_eq_true rfl] at q
    exact q
  have C3 : Hid (∀ u : World, u.heap = w5.heap → Calls Tryd.prog 21 #[va] u fun e w' => e = .returned (.tuple #[]) ∧ u.grownBy w' va.ownBlock) := fun u hu =>
    spoil_any w2.heap.size m2 va X u (by omega) (by rw [hu]; have := HSS.out; omega) (by
      obtain ⟨q1, q2⟩ := HA.out
      refine ⟨q1, ?_⟩
      rw [hu]
      exact q2)
  go_wp2_with fail
  refine (C1.out _ ?_).mono ?_
  · rfl
  rintro e7 w7 ⟨rfl, m8, rfl⟩
  go_wp2_with fail
  refine (C2.out _ ?_).mono ?_
  · rfl
  rintro e8 w8 ⟨rfl, m9, rfl⟩
  go_wp2_with fail
  refine (C3.out _ ?_).mono ?_
  · rfl
  rintro e9 w9 ⟨rfl, hg⟩
  have HVB2 : Hid (View w9 vb X) := (HVB.out.kept (w' := w5.drewN (m8 + m9)) fun b _ => rfl).grown hg (owns_apart HBr.out fun b hb => (HAb.out b hb).2)
  have HVW2 : Hid (View w9 vw X) := (HVW.out.kept (w' := w5.drewN (m8 + m9)) fun b _ => rfl).grown hg (fun b off l c e e2 => by
    have h1 := HWb.out b (by rw [e]; rfl)
    have h2 := (HAb.out b e2.symm).2
    have h3 := HSS.out
    omega)
  have HB09 : Hid (Below w.heap.size w w9) := by
    have hb : Below w.heap.size w (w5.drewN (m8 + m9)) := ⟨HB05.out.os, HB05.out.tape, HB05.out.output, HB05.out.size, HB05.out.block⟩
    exact hb.grown hg hb.size (fun b hb => by have := (HAb.out b hb).1; have := HSS.out; omega)
  have C5 : Hid (∀ u : World, u.heap = w9.heap → Calls Tryd.prog 20 #[vb, vw] u fun e w' => e = .returned (.bool true) ∧ ∃ m, w' = u.drewN m) := fun u hu => by
    have q := same_any vb vw X X u (HVB2.out.kept fun b _ => by rw [hu]) (HVW2.out.kept fun b _ => by rw [hu])
    rw [show decide (X = X) = true from decide_eq_true rfl] at q
    exact q
  clear hg C1 C2 C3
  go_wp2_with fail
  refine (C5.out _ ?_).mono ?_
  · rfl
  rintro e11 w11 ⟨rfl, m11, rfl⟩
  go_wp2_with fail
  go_ret
  exact ⟨rfl, ⟨HB09.out.os, HB09.out.tape, HB09.out.output, HB09.out.size, HB09.out.block⟩⟩
end Go.Proofs.YtioggmjocelolacDoor
