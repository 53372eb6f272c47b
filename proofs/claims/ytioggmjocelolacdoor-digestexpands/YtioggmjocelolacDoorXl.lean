import Derived.Test.YtioggmjocelolacDoorXp
namespace Go.Proofs.YtioggmjocelolacDoor
open Go.RowKit
set_option linter.unusedVariables false
set_option linter.unusedSimpArgs false
set_option maxHeartbeats 800000 in
theorem ext_ok (h E : Int) (hE : Hid (cmE h = E)) (xa ya : Option Addr) (xl xc yl yc : Nat) (X Y : List Int) (w : World) (hT : Hid (Tables w)) (hx : Hid (View w (.slice xa xl xc) X)) (hxl : Hid (X.length ≤ 33554432)) (hy : Hid (View w (.slice ya yl yc) Y)) (hyl : Hid (Y.length ≤ 33554432)) :
    Calls Tryd.prog 26 #[.int .i64 h, .slice xa xl xc, .slice ya yl yc] w fun e w' => ∃ v', e = .returned (.tuple #[v', .int .i64 E]) ∧ w'.ownsRow w.heap.size 5 1 v' (cmL h X Y).length (cellsU8 (cmL h X Y)) ∧ Below w.heap.size w w' := by
  have H10 : Hid (Calls Tryd.prog 10 #[.int .i64 h, .slice xa xl xc, .slice (some ⟨w.heap.size, 0, none⟩) 1 1] (w.alloc (.cells #[.slice ya yl yc] 22)) fun e w' => Hid (∃ v', e = .returned (.tuple #[v', .int .i64 E]) ∧ w'.ownsRow w.heap.size 5 1 v' (cmL h X Y).length (cellsU8 (cmL h X Y)) ∧ Below w.heap.size w w')) := by
    have hb : Below w.heap.size w (w.alloc (.cells #[.slice ya yl yc] 22)) := (Below.refl _ _).alloc (Nat.le_refl _) _
    have q := cm_ok h (.slice xa xl xc) X _ _ [Y] _ (hT.out.below hb hT.out.size) (hx.out.kept fun b hb => Below.heap_alloc _ _ b hb) hxl.out (pv_one w (.slice ya yl yc) Y hy.out) (by simpa using hyl.out)
    rw [hE.out, size_alloc, List.flatten_singleton] at q
    exact q.mono fun e w' hh => by
      obtain ⟨v', q1, q2, q3⟩ := hh
      exact ⟨v', q1, owns_base q2 (by omega), hb.trans (q3.mono (by omega))⟩
  go_enter Tryd.func26, Tryd.ntmps26
  go_wp2_with (go_at_call 10; refine H10.out.mono ?_)
  intro e1 w1 hh
  obtain ⟨v, rfl, ho, hb⟩ := hh.out
  have HO : Hid (w1.ownsRow w.heap.size 5 1 v (cmL h X Y).length (cellsU8 (cmL h X Y))) := ho
  have HB : Hid (Below w.heap.size w w1) := hb
  clear hh ho hb H10
  go_wp2
  go_ret2
  exact ⟨_, rfl, HO.out, HB.out⟩
set_option maxHeartbeats 800000 in
theorem rext_ok (h : Int) (x y : Value) (X Y : List Int) (w : World) (hR : Hid (RTab w)) (hx : Hid (View w x X)) (hxl : Hid (X.length ≤ 33554432)) (hy : Hid (View w y Y)) (hyl : Hid (Y.length ≤ 33554432)) :
    Calls Tryd.prog 27 #[.int .i64 h, x, y] w fun e w' => ∃ v', e = .returned v' ∧ w'.ownsRow w.heap.size 5 1 v' (cmL h X Y).length (cellsU8 (cmL h X Y)) ∧ Below w.heap.size w w' := by
  have H24 : Hid (Calls Tryd.prog 24 #[.int .i64 h, x, y] w fun e w' => Hid (∃ v', e = .returned v' ∧ w'.ownsRow w.heap.size 5 1 v' (cmL h X Y).length (cellsU8 (cmL h X Y)) ∧ Below w.heap.size w w')) := rc_ok h x X y Y w hR.out hx.out (by have := hxl.out; omega) hy.out (by have := hyl.out; omega)
  go_enter Tryd.func27, Tryd.ntmps27
  go_wp2_with (go_at_call 24; refine H24.out.mono ?_)
  intro e1 w1 hh
  obtain ⟨v, rfl, ho, hb⟩ := hh.out
  have HO : Hid (w1.ownsRow w.heap.size 5 1 v (cmL h X Y).length (cellsU8 (cmL h X Y))) := ho
  have HB : Hid (Below w.heap.size w w1) := hb
  clear hh ho hb H24
  go_wp2
  go_ret
  exact ⟨_, rfl, HO.out, HB.out⟩
set_option maxHeartbeats 6400000 in
set_option maxRecDepth 100000 in
theorem xlaw_known (h t n : Int) (k : Known h) (pa sa ia : Option Addr) (pn pc sn sc il ic : Nat) (pass salt info : List Int) (w : World) (hT : Hid (Tables w)) (hR : Hid (RTab w)) (hpv : Hid (View w (.slice pa pn pc) pass)) (HPl : Hid (pass.length = pn)) (hsv : Hid (View w (.slice sa sn sc) salt)) (HSl : Hid (salt.length = sn)) (hiv : Hid (View w (.slice ia il ic) info)) (HIl : Hid (info.length = il)) (hp0 : pn ≤ 140737488355328) (hs0 : sn ≤ 140737488355328) (hi0 : il ≤ 140737488355328) (hn1 : -9223372036854775808 ≤ n) (hn2 : n ≤ 9223372036854775807) :
    Calls Tryd.prog 6 #[.agg #[.int .i64 h, .slice pa pn pc, .slice sa sn sc, .slice ia il ic, .int .i64 t, .int .i64 n]] w fun e w' => e = .returned (.bool true) ∧ Below w.heap.size w w' := by
  have hT4 := hT.out.size
  have hR2 := hR.out.size
  have hp := szOf_pos k
  have HSz : Hid (∀ u, Calls Tryd.prog 16 #[.int .i64 h] u fun e w' => e = .returned (.int .i64 (szOf h : Nat)) ∧ w' = u) := fun u => rsize_ok h k u
  have HEs : Hid (cmE h = 0) := by show _ = _; unfold cmE; rw [if_pos k]
  clear k
  obtain ⟨w0, hw0⟩ : ∃ w0, w0 = w.alloc (.cells #[.int .i64 h, .slice pa pn pc, .slice sa sn sc, .slice ia il ic, .int .i64 t, .int .i64 n] 32) := ⟨_, rfl⟩
  have HB00 : Hid (Below w.heap.size w w0) := by rw [hw0]; exact (Below.refl _ _).alloc (Nat.le_refl _) _
  have F : ∀ j v, #[Value.int .i64 h, .slice pa pn pc, .slice sa sn sc, .slice ia il ic, .int .i64 t, .int .i64 n][j]? = some v → w0.cell? ⟨w.heap.size, j, none⟩ = some v := fun j v hj => by
    rw [hw0, World.cell?_alloc_mark]
    exact hj
  have f0 := F 0 _ rfl
  have f1 := F 1 _ rfl
  have f2 := F 2 _ rfl
  have f3 := F 3 _ rfl
  have f5 := F 5 _ rfl
  clear F
  go_enter Tryd.func6, Tryd.ntmps6
  go_upto_region 1 with fail
  rw [← hw0]
  clear hw0
  by_cases c1 : 65536 < sn + pn
  · have d1 : (65536 : Int) < (sn : Nat) + (pn : Nat) := by omega
    go_wp2
    go_ret
    exact ⟨rfl, HB00.out⟩
  by_cases c2 : 1024 < il
  · have d1 : ¬ (65536 : Int) < (sn : Nat) + (pn : Nat) := by omega
    have d2 : (1024 : Int) < (il : Nat) := by omega
    go_wp2
    go_ret
    exact ⟨rfl, HB00.out⟩
  · have d1 : ¬ (65536 : Int) < (sn : Nat) + (pn : Nat) := by omega
    have d2 : ¬ (1024 : Int) < (il : Nat) := by omega
    have HCx : Hid (Calls Tryd.prog 17 #[.slice sa sn sc] w0 fun e w' => Hid (∃ v', e = .returned v' ∧ Marked w0.heap.size w' v' salt ∧ Below w0.heap.size w0 w')) := copy_any _ salt w0 (by rw [HSl.out]; omega) (hsv.out.kept fun b hb => HB00.out.block b hb)
    go_upto_region 9 with (go_at_call 17; refine HCx.out.mono ?_)
    intro ex w1 hh
    obtain ⟨vx, rfl, hm, hb⟩ := hh.out
    obtain ⟨gx, cx, hvx⟩ : ∃ g c, vx = .slice (some ⟨g, 0, none⟩) sn c := by
      obtain ⟨g, c, e, _⟩ := hm
      exact ⟨g, c, by rw [e, HSl.out]⟩
    subst hvx
    have HMx : Hid (Marked w0.heap.size w1 (.slice (some ⟨gx, 0, none⟩) sn cx) salt) := hm
    have HB01 : Hid (Below w0.heap.size w0 w1) := hb
    have HB01 : Hid (Below w.heap.size w w1) := HB00.out.trans (hb.mono HB00.out.size)
    clear hh hm hb HCx
    have HCy : Hid (Calls Tryd.prog 17 #[.slice pa pn pc] w1 fun e w' => Hid (∃ v', e = .returned v' ∧ Marked w1.heap.size w' v' pass ∧ Below w1.heap.size w1 w')) := copy_any _ pass w1 (by rw [HPl.out]; omega) (hpv.out.kept fun b hb => HB01.out.block b hb)
    go_upto_region 10 with (go_at_call 17; refine HCy.out.mono ?_)
    intro ey w2 hh
    obtain ⟨vy, rfl, hm, hb⟩ := hh.out
    obtain ⟨gy, cy, hvy⟩ : ∃ g c, vy = .slice (some ⟨g, 0, none⟩) pn c := by
      obtain ⟨g, c, e, _⟩ := hm
      exact ⟨g, c, by rw [e, HPl.out]⟩
    subst hvy
    have HMy : Hid (Marked w1.heap.size w2 (.slice (some ⟨gy, 0, none⟩) pn cy) pass) := hm
    have HB12 : Hid (Below w1.heap.size w1 w2) := hb
    have HB02 : Hid (Below w.heap.size w w2) := HB01.out.trans (hb.mono HB01.out.size)
    clear hh hm hb HCy
    have HCz : Hid (Calls Tryd.prog 17 #[.slice ia il ic] w2 fun e w' => Hid (∃ v', e = .returned v' ∧ Marked w2.heap.size w' v' info ∧ Below w2.heap.size w2 w')) := copy_any _ info w2 (by rw [HIl.out]; omega) (hiv.out.kept fun b hb => HB02.out.block b hb)
    go_upto_region 11 with (go_at_call 17; refine HCz.out.mono ?_)
    intro ez w3 hh
    obtain ⟨vz, rfl, hm, hb⟩ := hh.out
    obtain ⟨gz, cz, hvz⟩ : ∃ g c, vz = .slice (some ⟨g, 0, none⟩) il c := by
      obtain ⟨g, c, e, _⟩ := hm
      exact ⟨g, c, by rw [e, HIl.out]⟩
    subst hvz
    have HMz : Hid (Marked w2.heap.size w3 (.slice (some ⟨gz, 0, none⟩) il cz) info) := hm
    have HB23 : Hid (Below w2.heap.size w2 w3) := hb
    have HB03 : Hid (Below w.heap.size w w3) := HB02.out.trans (hb.mono HB02.out.size)
    clear hh hm hb HCz
    have HB13 : Hid (Below w1.heap.size w1 w3) := HB12.out.trans (HB23.out.mono HB12.out.size)
    have HVx : Hid (View w3 (.slice (some ⟨gx, 0, none⟩) sn cx) salt) := HMx.out.view.kept fun b hb => HB13.out.block b hb
    have HVy : Hid (View w3 (.slice (some ⟨gy, 0, none⟩) pn cy) pass) := HMy.out.view.kept fun b hb => HB23.out.block b hb
    have HVz : Hid (View w3 (.slice (some ⟨gz, 0, none⟩) il cz) info) := HMz.out.view
    have HSb : Hid (salt.length ≤ 33554432) := by show _ ≤ _; rw [HSl.out]; omega
    have HPb : Hid (pass.length ≤ 33554432) := by show _ ≤ _; rw [HPl.out]; omega
    have HX : Hid (Calls Tryd.prog 26 #[.int .i64 h, .slice (some ⟨gx, 0, none⟩) sn cx, .slice (some ⟨gy, 0, none⟩) pn cy] w3 fun e w' => Hid (∃ v', e = .returned (.tuple #[v', .int .i64 0]) ∧ w'.ownsRow w3.heap.size 5 1 v' (cmL h salt pass).length (cellsU8 (cmL h salt pass)) ∧ Below w3.heap.size w3 w')) := by
      exact ext_ok h 0 HEs (some ⟨gx, 0, none⟩) (some ⟨gy, 0, none⟩) sn cx pn cy salt pass w3 (hT.out.below HB03.out hT4) HVx HSb HVy HPb
    go_upto_region 12 with (go_at_call 26; refine HX.out.mono ?_)
    intro e4 w4 hh
    obtain ⟨vq, rfl, hoq, hb4⟩ := hh.out
    have HB34 : Hid (Below w3.heap.size w3 w4) := hb4
    have HB04 : Hid (Below w.heap.size w w4) := HB03.out.trans (hb4.mono HB03.out.size)
    have HQ4 : Hid (w4.ownsRow w3.heap.size 5 1 vq (cmL h salt pass).length (cellsU8 (cmL h salt pass))) := hoq
    clear hh hoq hb4 HX
    have HY : Hid (Calls Tryd.prog 27 #[.int .i64 h, .slice sa sn sc, .slice pa pn pc] w4 fun e w' => Hid (∃ v', e = .returned v' ∧ w'.ownsRow w4.heap.size 5 1 v' (cmL h salt pass).length (cellsU8 (cmL h salt pass)) ∧ Below w4.heap.size w4 w')) := rext_ok h _ _ salt pass w4 (hR.out.below HB04.out hR2) (hsv.out.kept fun b hb => HB04.out.block b hb) HSb (hpv.out.kept fun b hb => HB04.out.block b hb) HPb
    go_upto_region 13 with (go_at_call 27; refine HY.out.mono ?_)
    intro e5 w5 hh
    obtain ⟨vk, rfl, hok, hb5⟩ := hh.out
    have HB45 : Hid (Below w4.heap.size w4 w5) := hb5
    have HB35 : Hid (Below w3.heap.size w3 w5) := HB34.out.trans (hb5.mono HB34.out.size)
    have HB05 : Hid (Below w.heap.size w w5) := HB03.out.trans (HB35.out.mono HB03.out.size)
    obtain ⟨ka, kc, hvk⟩ := owns_slice hok
    obtain ⟨kl, hkl⟩ : ∃ kl, kl = (cmL h salt pass).length := ⟨_, rfl⟩
    rw [← hkl] at hok hvk
    subst hvk
    have HKl : Hid ((cmL h salt pass).length = kl) := hkl.symm
    have hkb : kl ≤ 64 := by rw [hkl]; exact cmL_length h salt pass
    have HVk : Hid (View w5 (.slice ka kl kc) (cmL h salt pass)) := viewOwns hok HKl.out
    have HVq : Hid (View w5 vq (cmL h salt pass)) := viewOwns (owns_kept HQ4.out HB45.out) rfl
    clear hh hok hb5 HY hkl
    have C1 : Hid (∀ u : World, u.heap = w5.heap → Calls Tryd.prog 20 #[vq, .slice ka kl kc] u fun e w' => e = .returned (.bool true) ∧ ∃ m, w' = u.drewN m) := fun u hu => by
      have q := same_any vq (.slice ka kl kc) (cmL h salt pass) (cmL h salt pass) u (HVq.out.kept fun b _ => by rw [hu]) (HVk.out.kept fun b _ => by rw [hu])
      rw [show decide (cmL h salt pass = cmL h salt pass) = true from decide_eq_true rfl] at q
      exact q
    have X1 : Hid (∀ u : World, Below w5.heap.size w5 u → Calls Tryd.prog 28 #[.int .i64 h, .slice ka kl kc, .slice (some ⟨gz, 0, none⟩) il cz, .slice ia il ic, .int .i64 n] u fun e w' => e = .returned (.bool true) ∧ Below u.heap.size u w') := fun u hu => by
      have hb0 : Below w.heap.size w u := HB05.out.trans (hu.mono HB05.out.size)
      exact expands_ok h ka (some ⟨gz, 0, none⟩) ia kl kc il cz ic n (cmL h salt pass) info u (hT.out.below hb0 hT4) (hR.out.below hb0 hR2) (HVk.out.kept fun b hb => hu.block b hb) HKl.out (((HVz.out.kept fun b hb => HB35.out.block b hb)).kept fun b hb => hu.block b hb) (hiv.out.kept fun b hb => hb0.block b hb) HIl.out (by omega) (by omega) hn1 hn2
    have X2 : Hid (∀ u : World, Below w5.heap.size w5 u → Calls Tryd.prog 28 #[.int .i64 h, .slice (some ⟨gy, 0, none⟩) pn cy, .slice (some ⟨gz, 0, none⟩) il cz, .slice ia il ic, .int .i64 n] u fun e w' => e = .returned (.bool true) ∧ Below u.heap.size u w') := fun u hu => by
      have hb0 : Below w.heap.size w u := HB05.out.trans (hu.mono HB05.out.size)
      exact expands_ok h (some ⟨gy, 0, none⟩) (some ⟨gz, 0, none⟩) ia pn cy il cz ic n pass info u (hT.out.below hb0 hT4) (hR.out.below hb0 hR2) ((HVy.out.kept fun b hb => HB35.out.block b hb).kept fun b hb => hu.block b hb) HPl.out (((HVz.out.kept fun b hb => HB35.out.block b hb)).kept fun b hb => hu.block b hb) (hiv.out.kept fun b hb => hb0.block b hb) HIl.out (by omega) (by omega) hn1 hn2
    have W1 : Hid (∀ u : World, Below w5.heap.size w5 u → Calls Tryd.prog 18 #[.slice (some ⟨gx, 0, none⟩) sn cx, .slice sa sn sc] u fun e w' => e = .returned (.bool true) ∧ ∃ m, w' = u.drewN m) := fun u hu => by
      have hb3 : Below w3.heap.size w3 u := HB35.out.trans (hu.mono HB35.out.size)
      exact whole_any _ _ salt w0.heap.size u ((HMx.out.kept fun b hb => HB13.out.block b hb).kept fun b hb => hb3.block b hb) (hsv.out.kept fun b hb => (HB03.out.trans (hb3.mono HB03.out.size)).block b hb)
    have W2 : Hid (∀ u : World, Below w5.heap.size w5 u → Calls Tryd.prog 18 #[.slice (some ⟨gy, 0, none⟩) pn cy, .slice pa pn pc] u fun e w' => e = .returned (.bool true) ∧ ∃ m, w' = u.drewN m) := fun u hu => by
      have hb3 : Below w3.heap.size w3 u := HB35.out.trans (hu.mono HB35.out.size)
      exact whole_any _ _ pass w1.heap.size u ((HMy.out.kept fun b hb => HB23.out.block b hb).kept fun b hb => hb3.block b hb) (hpv.out.kept fun b hb => (HB03.out.trans (hb3.mono HB03.out.size)).block b hb)
    have W3 : Hid (∀ u : World, Below w5.heap.size w5 u → Calls Tryd.prog 18 #[.slice (some ⟨gz, 0, none⟩) il cz, .slice ia il ic] u fun e w' => e = .returned (.bool true) ∧ ∃ m, w' = u.drewN m) := fun u hu => by
      have hb3 : Below w3.heap.size w3 u := HB35.out.trans (hu.mono HB35.out.size)
      exact whole_any _ _ info w2.heap.size u (HMz.out.kept fun b hb => hb3.block b hb) (hiv.out.kept fun b hb => (HB03.out.trans (hb3.mono HB03.out.size)).block b hb)
    clear HB12 HB23 HB13 HB34 HB45 HB35 HB04 HMx HMy HMz HVx HVy HVz HVk HVq HQ4 HSb HPb
    go_wp2_with (first
      | (go_at_call 16; refine (HSz.out _).mono ?_; rintro e1 wx ⟨rfl, hwx⟩; obtain rfl := hwx.symm)
      | (go_at_call 11; refine (num_any _ _ (by decide) (by decide)).mono ?_; rintro e1 wx ⟨rfl, hwx⟩; obtain rfl := hwx.symm))
    refine (C1.out _ ?_).mono ?_
    · rfl
    rintro e6 w6 ⟨rfl, m6, rfl⟩
    go_wp2_with fail
    refine (X1.out _ ?_).mono ?_
    · exact ⟨rfl, rfl, rfl, Nat.le_refl _, fun _ _ => rfl⟩
    rintro e7 w7 ⟨rfl, hb7⟩
    have HB57 : Hid (Below w5.heap.size w5 w7) := ⟨hb7.os, hb7.tape, hb7.output, hb7.size, hb7.block⟩
    clear hb7
    go_wp2_with fail
    refine (X2.out _ ?_).mono ?_
    · exact ⟨HB57.out.os, HB57.out.tape, HB57.out.output, HB57.out.size, HB57.out.block⟩
    rintro e8 w8 ⟨rfl, hb8⟩
    have HB58 : Hid (Below w5.heap.size w5 w8) := HB57.out.trans (Below.mono ⟨hb8.os, hb8.tape, hb8.output, hb8.size, hb8.block⟩ HB57.out.size)
    clear hb8
    go_wp2_with fail
    refine (W1.out _ ?_).mono ?_
    · exact ⟨HB58.out.os, HB58.out.tape, HB58.out.output, HB58.out.size, HB58.out.block⟩
    rintro e9 w9 ⟨rfl, m9, rfl⟩
    go_wp2_with fail
    refine (W2.out _ ?_).mono ?_
    · exact ⟨HB58.out.os, HB58.out.tape, HB58.out.output, HB58.out.size, HB58.out.block⟩
    rintro e10 w10 ⟨rfl, m10, rfl⟩
    go_wp2_with fail
    refine (W3.out _ ?_).mono ?_
    · exact ⟨HB58.out.os, HB58.out.tape, HB58.out.output, HB58.out.size, HB58.out.block⟩
    rintro e11 w11 ⟨rfl, m11, rfl⟩
    go_wp2_with fail
    go_ret
    have HB : Below w.heap.size w w8 := HB05.out.trans (HB58.out.mono HB05.out.size)
    exact ⟨rfl, ⟨HB.os, HB.tape, HB.output, HB.size, HB.block⟩⟩
set_option maxHeartbeats 6400000 in
set_option maxRecDepth 100000 in
theorem xlaw_bad (h t n : Int) (k : ¬ Known h) (pa sa ia : Option Addr) (pn pc sn sc il ic : Nat) (pass salt info : List Int) (w : World) (hT : Hid (Tables w)) (hR : Hid (RTab w)) (hpv : Hid (View w (.slice pa pn pc) pass)) (HPl : Hid (pass.length = pn)) (hsv : Hid (View w (.slice sa sn sc) salt)) (HSl : Hid (salt.length = sn)) (hiv : Hid (View w (.slice ia il ic) info)) (HIl : Hid (info.length = il)) (hp0 : pn ≤ 140737488355328) (hs0 : sn ≤ 140737488355328) (hi0 : il ≤ 140737488355328) (hn1 : -9223372036854775808 ≤ n) (hn2 : n ≤ 9223372036854775807) :
    Calls Tryd.prog 6 #[.agg #[.int .i64 h, .slice pa pn pc, .slice sa sn sc, .slice ia il ic, .int .i64 t, .int .i64 n]] w fun e w' => e = .returned (.bool true) ∧ Below w.heap.size w w' := by
  have hT4 := hT.out.size
  have hR2 := hR.out.size
  have HSz : Hid (∀ u, Calls Tryd.prog 16 #[.int .i64 h] u fun e w' => e = .returned (.int .i64 0) ∧ w' = u) := fun u => rsize_bad h k u
  have HEs : Hid (cmE h = 10) := by show _ = _; unfold cmE; rw [if_neg k]
  clear k
  obtain ⟨w0, hw0⟩ : ∃ w0, w0 = w.alloc (.cells #[.int .i64 h, .slice pa pn pc, .slice sa sn sc, .slice ia il ic, .int .i64 t, .int .i64 n] 32) := ⟨_, rfl⟩
  have HB00 : Hid (Below w.heap.size w w0) := by rw [hw0]; exact (Below.refl _ _).alloc (Nat.le_refl _) _
  have F : ∀ j v, #[Value.int .i64 h, .slice pa pn pc, .slice sa sn sc, .slice ia il ic, .int .i64 t, .int .i64 n][j]? = some v → w0.cell? ⟨w.heap.size, j, none⟩ = some v := fun j v hj => by
    rw [hw0, World.cell?_alloc_mark]
    exact hj
  have f0 := F 0 _ rfl
  have f1 := F 1 _ rfl
  have f2 := F 2 _ rfl
  have f3 := F 3 _ rfl
  have f5 := F 5 _ rfl
  clear F
  go_enter Tryd.func6, Tryd.ntmps6
  go_upto_region 1 with fail
  rw [← hw0]
  clear hw0
  by_cases c1 : 65536 < sn + pn
  · have d1 : (65536 : Int) < (sn : Nat) + (pn : Nat) := by omega
    go_wp2
    go_ret
    exact ⟨rfl, HB00.out⟩
  by_cases c2 : 1024 < il
  · have d1 : ¬ (65536 : Int) < (sn : Nat) + (pn : Nat) := by omega
    have d2 : (1024 : Int) < (il : Nat) := by omega
    go_wp2
    go_ret
    exact ⟨rfl, HB00.out⟩
  · have d1 : ¬ (65536 : Int) < (sn : Nat) + (pn : Nat) := by omega
    have d2 : ¬ (1024 : Int) < (il : Nat) := by omega
    have HCx : Hid (Calls Tryd.prog 17 #[.slice sa sn sc] w0 fun e w' => Hid (∃ v', e = .returned v' ∧ Marked w0.heap.size w' v' salt ∧ Below w0.heap.size w0 w')) := copy_any _ salt w0 (by rw [HSl.out]; omega) (hsv.out.kept fun b hb => HB00.out.block b hb)
    go_upto_region 9 with (go_at_call 17; refine HCx.out.mono ?_)
    intro ex w1 hh
    obtain ⟨vx, rfl, hm, hb⟩ := hh.out
    obtain ⟨gx, cx, hvx⟩ : ∃ g c, vx = .slice (some ⟨g, 0, none⟩) sn c := by
      obtain ⟨g, c, e, _⟩ := hm
      exact ⟨g, c, by rw [e, HSl.out]⟩
    subst hvx
    have HMx : Hid (Marked w0.heap.size w1 (.slice (some ⟨gx, 0, none⟩) sn cx) salt) := hm
    have HB01 : Hid (Below w0.heap.size w0 w1) := hb
    have HB01 : Hid (Below w.heap.size w w1) := HB00.out.trans (hb.mono HB00.out.size)
    clear hh hm hb HCx
    have HCy : Hid (Calls Tryd.prog 17 #[.slice pa pn pc] w1 fun e w' => Hid (∃ v', e = .returned v' ∧ Marked w1.heap.size w' v' pass ∧ Below w1.heap.size w1 w')) := copy_any _ pass w1 (by rw [HPl.out]; omega) (hpv.out.kept fun b hb => HB01.out.block b hb)
    go_upto_region 10 with (go_at_call 17; refine HCy.out.mono ?_)
    intro ey w2 hh
    obtain ⟨vy, rfl, hm, hb⟩ := hh.out
    obtain ⟨gy, cy, hvy⟩ : ∃ g c, vy = .slice (some ⟨g, 0, none⟩) pn c := by
      obtain ⟨g, c, e, _⟩ := hm
      exact ⟨g, c, by rw [e, HPl.out]⟩
    subst hvy
    have HMy : Hid (Marked w1.heap.size w2 (.slice (some ⟨gy, 0, none⟩) pn cy) pass) := hm
    have HB12 : Hid (Below w1.heap.size w1 w2) := hb
    have HB02 : Hid (Below w.heap.size w w2) := HB01.out.trans (hb.mono HB01.out.size)
    clear hh hm hb HCy
    have HCz : Hid (Calls Tryd.prog 17 #[.slice ia il ic] w2 fun e w' => Hid (∃ v', e = .returned v' ∧ Marked w2.heap.size w' v' info ∧ Below w2.heap.size w2 w')) := copy_any _ info w2 (by rw [HIl.out]; omega) (hiv.out.kept fun b hb => HB02.out.block b hb)
    go_upto_region 11 with (go_at_call 17; refine HCz.out.mono ?_)
    intro ez w3 hh
    obtain ⟨vz, rfl, hm, hb⟩ := hh.out
    obtain ⟨gz, cz, hvz⟩ : ∃ g c, vz = .slice (some ⟨g, 0, none⟩) il c := by
      obtain ⟨g, c, e, _⟩ := hm
      exact ⟨g, c, by rw [e, HIl.out]⟩
    subst hvz
    have HMz : Hid (Marked w2.heap.size w3 (.slice (some ⟨gz, 0, none⟩) il cz) info) := hm
    have HB23 : Hid (Below w2.heap.size w2 w3) := hb
    have HB03 : Hid (Below w.heap.size w w3) := HB02.out.trans (hb.mono HB02.out.size)
    clear hh hm hb HCz
    have HB13 : Hid (Below w1.heap.size w1 w3) := HB12.out.trans (HB23.out.mono HB12.out.size)
    have HVx : Hid (View w3 (.slice (some ⟨gx, 0, none⟩) sn cx) salt) := HMx.out.view.kept fun b hb => HB13.out.block b hb
    have HVy : Hid (View w3 (.slice (some ⟨gy, 0, none⟩) pn cy) pass) := HMy.out.view.kept fun b hb => HB23.out.block b hb
    have HVz : Hid (View w3 (.slice (some ⟨gz, 0, none⟩) il cz) info) := HMz.out.view
    have HSb : Hid (salt.length ≤ 33554432) := by show _ ≤ _; rw [HSl.out]; omega
    have HPb : Hid (pass.length ≤ 33554432) := by show _ ≤ _; rw [HPl.out]; omega
    have HX : Hid (Calls Tryd.prog 26 #[.int .i64 h, .slice (some ⟨gx, 0, none⟩) sn cx, .slice (some ⟨gy, 0, none⟩) pn cy] w3 fun e w' => Hid (∃ v', e = .returned (.tuple #[v', .int .i64 10]) ∧ w'.ownsRow w3.heap.size 5 1 v' (cmL h salt pass).length (cellsU8 (cmL h salt pass)) ∧ Below w3.heap.size w3 w')) := by
      exact ext_ok h 10 HEs (some ⟨gx, 0, none⟩) (some ⟨gy, 0, none⟩) sn cx pn cy salt pass w3 (hT.out.below HB03.out hT4) HVx HSb HVy HPb
    go_upto_region 12 with (go_at_call 26; refine HX.out.mono ?_)
    intro e4 w4 hh
    obtain ⟨vq, rfl, hoq, hb4⟩ := hh.out
    have HB34 : Hid (Below w3.heap.size w3 w4) := hb4
    have HB04 : Hid (Below w.heap.size w w4) := HB03.out.trans (hb4.mono HB03.out.size)
    have HQ4 : Hid (w4.ownsRow w3.heap.size 5 1 vq (cmL h salt pass).length (cellsU8 (cmL h salt pass))) := hoq
    clear hh hoq hb4 HX
    have HY : Hid (Calls Tryd.prog 27 #[.int .i64 h, .slice sa sn sc, .slice pa pn pc] w4 fun e w' => Hid (∃ v', e = .returned v' ∧ w'.ownsRow w4.heap.size 5 1 v' (cmL h salt pass).length (cellsU8 (cmL h salt pass)) ∧ Below w4.heap.size w4 w')) := rext_ok h _ _ salt pass w4 (hR.out.below HB04.out hR2) (hsv.out.kept fun b hb => HB04.out.block b hb) HSb (hpv.out.kept fun b hb => HB04.out.block b hb) HPb
    go_upto_region 13 with (go_at_call 27; refine HY.out.mono ?_)
    intro e5 w5 hh
    obtain ⟨vk, rfl, hok, hb5⟩ := hh.out
    have HB45 : Hid (Below w4.heap.size w4 w5) := hb5
    have HB35 : Hid (Below w3.heap.size w3 w5) := HB34.out.trans (hb5.mono HB34.out.size)
    have HB05 : Hid (Below w.heap.size w w5) := HB03.out.trans (HB35.out.mono HB03.out.size)
    obtain ⟨ka, kc, hvk⟩ := owns_slice hok
    obtain ⟨kl, hkl⟩ : ∃ kl, kl = (cmL h salt pass).length := ⟨_, rfl⟩
    rw [← hkl] at hok hvk
    subst hvk
    have HKl : Hid ((cmL h salt pass).length = kl) := hkl.symm
    have hkb : kl ≤ 64 := by rw [hkl]; exact cmL_length h salt pass
    have HVk : Hid (View w5 (.slice ka kl kc) (cmL h salt pass)) := viewOwns hok HKl.out
    have HVq : Hid (View w5 vq (cmL h salt pass)) := viewOwns (owns_kept HQ4.out HB45.out) rfl
    clear hh hok hb5 HY hkl
    have C1 : Hid (∀ u : World, u.heap = w5.heap → Calls Tryd.prog 20 #[vq, .slice ka kl kc] u fun e w' => e = .returned (.bool true) ∧ ∃ m, w' = u.drewN m) := fun u hu => by
      have q := same_any vq (.slice ka kl kc) (cmL h salt pass) (cmL h salt pass) u (HVq.out.kept fun b _ => by rw [hu]) (HVk.out.kept fun b _ => by rw [hu])
      rw [show decide (cmL h salt pass = cmL h salt pass) = true from decide_eq_true rfl] at q
      exact q
    have X1 : Hid (∀ u : World, Below w5.heap.size w5 u → Calls Tryd.prog 28 #[.int .i64 h, .slice ka kl kc, .slice (some ⟨gz, 0, none⟩) il cz, .slice ia il ic, .int .i64 n] u fun e w' => e = .returned (.bool true) ∧ Below u.heap.size u w') := fun u hu => by
      have hb0 : Below w.heap.size w u := HB05.out.trans (hu.mono HB05.out.size)
      exact expands_ok h ka (some ⟨gz, 0, none⟩) ia kl kc il cz ic n (cmL h salt pass) info u (hT.out.below hb0 hT4) (hR.out.below hb0 hR2) (HVk.out.kept fun b hb => hu.block b hb) HKl.out (((HVz.out.kept fun b hb => HB35.out.block b hb)).kept fun b hb => hu.block b hb) (hiv.out.kept fun b hb => hb0.block b hb) HIl.out (by omega) (by omega) hn1 hn2
    have X2 : Hid (∀ u : World, Below w5.heap.size w5 u → Calls Tryd.prog 28 #[.int .i64 h, .slice (some ⟨gy, 0, none⟩) pn cy, .slice (some ⟨gz, 0, none⟩) il cz, .slice ia il ic, .int .i64 n] u fun e w' => e = .returned (.bool true) ∧ Below u.heap.size u w') := fun u hu => by
      have hb0 : Below w.heap.size w u := HB05.out.trans (hu.mono HB05.out.size)
      exact expands_ok h (some ⟨gy, 0, none⟩) (some ⟨gz, 0, none⟩) ia pn cy il cz ic n pass info u (hT.out.below hb0 hT4) (hR.out.below hb0 hR2) ((HVy.out.kept fun b hb => HB35.out.block b hb).kept fun b hb => hu.block b hb) HPl.out (((HVz.out.kept fun b hb => HB35.out.block b hb)).kept fun b hb => hu.block b hb) (hiv.out.kept fun b hb => hb0.block b hb) HIl.out (by omega) (by omega) hn1 hn2
    have W1 : Hid (∀ u : World, Below w5.heap.size w5 u → Calls Tryd.prog 18 #[.slice (some ⟨gx, 0, none⟩) sn cx, .slice sa sn sc] u fun e w' => e = .returned (.bool true) ∧ ∃ m, w' = u.drewN m) := fun u hu => by
      have hb3 : Below w3.heap.size w3 u := HB35.out.trans (hu.mono HB35.out.size)
      exact whole_any _ _ salt w0.heap.size u ((HMx.out.kept fun b hb => HB13.out.block b hb).kept fun b hb => hb3.block b hb) (hsv.out.kept fun b hb => (HB03.out.trans (hb3.mono HB03.out.size)).block b hb)
    have W2 : Hid (∀ u : World, Below w5.heap.size w5 u → Calls Tryd.prog 18 #[.slice (some ⟨gy, 0, none⟩) pn cy, .slice pa pn pc] u fun e w' => e = .returned (.bool true) ∧ ∃ m, w' = u.drewN m) := fun u hu => by
      have hb3 : Below w3.heap.size w3 u := HB35.out.trans (hu.mono HB35.out.size)
      exact whole_any _ _ pass w1.heap.size u ((HMy.out.kept fun b hb => HB23.out.block b hb).kept fun b hb => hb3.block b hb) (hpv.out.kept fun b hb => (HB03.out.trans (hb3.mono HB03.out.size)).block b hb)
    have W3 : Hid (∀ u : World, Below w5.heap.size w5 u → Calls Tryd.prog 18 #[.slice (some ⟨gz, 0, none⟩) il cz, .slice ia il ic] u fun e w' => e = .returned (.bool true) ∧ ∃ m, w' = u.drewN m) := fun u hu => by
      have hb3 : Below w3.heap.size w3 u := HB35.out.trans (hu.mono HB35.out.size)
      exact whole_any _ _ info w2.heap.size u (HMz.out.kept fun b hb => hb3.block b hb) (hiv.out.kept fun b hb => (HB03.out.trans (hb3.mono HB03.out.size)).block b hb)
    clear HB12 HB23 HB13 HB34 HB45 HB35 HB04 HMx HMy HMz HVx HVy HVz HVk HVq HQ4 HSb HPb
    go_wp2_with (first
      | (go_at_call 16; refine (HSz.out _).mono ?_; rintro e1 wx ⟨rfl, hwx⟩; obtain rfl := hwx.symm)
      | (go_at_call 11; refine (num_any _ _ (by decide) (by decide)).mono ?_; rintro e1 wx ⟨rfl, hwx⟩; obtain rfl := hwx.symm))
    refine (C1.out _ ?_).mono ?_
    · rfl
    rintro e6 w6 ⟨rfl, m6, rfl⟩
    go_wp2_with fail
    refine (X1.out _ ?_).mono ?_
    · exact ⟨rfl, rfl, rfl, Nat.le_refl _, fun _ _ => rfl⟩
    rintro e7 w7 ⟨rfl, hb7⟩
    have HB57 : Hid (Below w5.heap.size w5 w7) := ⟨hb7.os, hb7.tape, hb7.output, hb7.size, hb7.block⟩
    clear hb7
    go_wp2_with fail
    refine (X2.out _ ?_).mono ?_
    · exact ⟨HB57.out.os, HB57.out.tape, HB57.out.output, HB57.out.size, HB57.out.block⟩
    rintro e8 w8 ⟨rfl, hb8⟩
    have HB58 : Hid (Below w5.heap.size w5 w8) := HB57.out.trans (Below.mono ⟨hb8.os, hb8.tape, hb8.output, hb8.size, hb8.block⟩ HB57.out.size)
    clear hb8
    go_wp2_with fail
    refine (W1.out _ ?_).mono ?_
    · exact ⟨HB58.out.os, HB58.out.tape, HB58.out.output, HB58.out.size, HB58.out.block⟩
    rintro e9 w9 ⟨rfl, m9, rfl⟩
    go_wp2_with fail
    refine (W2.out _ ?_).mono ?_
    · exact ⟨HB58.out.os, HB58.out.tape, HB58.out.output, HB58.out.size, HB58.out.block⟩
    rintro e10 w10 ⟨rfl, m10, rfl⟩
    go_wp2_with fail
    refine (W3.out _ ?_).mono ?_
    · exact ⟨HB58.out.os, HB58.out.tape, HB58.out.output, HB58.out.size, HB58.out.block⟩
    rintro e11 w11 ⟨rfl, m11, rfl⟩
    go_wp2_with fail
    go_ret
    have HB : Below w.heap.size w w8 := HB05.out.trans (HB58.out.mono HB05.out.size)
    exact ⟨rfl, ⟨HB.os, HB.tape, HB.output, HB.size, HB.block⟩⟩
theorem xlaw_ok (h t n : Int) (pa sa ia : Option Addr) (pn pc sn sc il ic : Nat) (pass salt info : List Int) (w : World) (hT : Tables w) (hR : RTab w) (hpv : View w (.slice pa pn pc) pass) (HPl : pass.length = pn) (hsv : View w (.slice sa sn sc) salt) (HSl : salt.length = sn) (hiv : View w (.slice ia il ic) info) (HIl : info.length = il) (hp0 : pn ≤ 140737488355328) (hs0 : sn ≤ 140737488355328) (hi0 : il ≤ 140737488355328) (hn1 : -9223372036854775808 ≤ n) (hn2 : n ≤ 9223372036854775807) :
    Calls Tryd.prog 6 #[.agg #[.int .i64 h, .slice pa pn pc, .slice sa sn sc, .slice ia il ic, .int .i64 t, .int .i64 n]] w fun e w' => e = .returned (.bool true) ∧ Below w.heap.size w w' := by
  by_cases k : Known h
  · exact xlaw_known h t n k pa sa ia pn pc sn sc il ic pass salt info w hT hR hpv HPl hsv HSl hiv HIl hp0 hs0 hi0 hn1 hn2
  · exact xlaw_bad h t n k pa sa ia pn pc sn sc il ic pass salt info w hT hR hpv HPl hsv HSl hiv HIl hp0 hs0 hi0 hn1 hn2
end Go.Proofs.YtioggmjocelolacDoor
