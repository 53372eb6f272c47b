import Derived.Test.YtioggmjocelolacDoorRStr
import Derived.Test.YtioggmjocelolacDoorXp
namespace Go.Proofs.YtioggmjocelolacDoor
open Go.RowKit
set_option linter.unusedVariables false
set_option linter.unusedSimpArgs false
/-- Enough blocks give the same bytes. -/
theorem str_take {h : Int} (k : Known h) (key salt : List Int) (t1 n q : Nat) (hq : n ≤ q * szOf h) : (strL h key salt t1 q).take n = (strL h key salt t1 n).take n := by
  have h1 := strL_length k key salt t1
  have hs := (szOf_pos k).1
  have hn : n ≤ n * szOf h := Nat.le_mul_of_pos_right n hs
  rcases Nat.le_total q n with hle | hle
  · obtain ⟨r, hr⟩ := strL_prefix (h := h) key salt t1 q (n - q)
    rw [show q + (n - q) = n by omega] at hr
    rw [hr, List.take_append_of_le_length (by rw [h1]; exact hq)]
  · obtain ⟨r, hr⟩ := strL_prefix (h := h) key salt t1 n (q - n)
    rw [show n + (q - n) = q by omega] at hr
    rw [hr, List.take_append_of_le_length (by rw [h1]; exact hn)]
set_option maxHeartbeats 800000 in
theorem stretch_err (h : Int) (pa sa : Option Addr) (pn pc sl sc : Nat) (T n E : Int) (w : World) (hE : Hid (strE h T n = E)) (d0 : (E == 0) = false) (hk : pn ≤ 65536) (hs : sl ≤ 65536) (hn1 : -9223372036854775808 ≤ n) (hn2 : n ≤ 9223372036854775807) (ht1 : -9223372036854775808 ≤ T) (ht2 : T ≤ 9223372036854775807) :
    Calls Tryd.prog 13 #[.int .i64 h, .slice pa pn pc, .slice sa sl sc, .int .i64 T, .int .i64 n] w fun e w' => e = .returned (.tuple #[.slice none 0 0, .int .i64 E]) ∧ w' = w := by
  have HM : Hid (∀ u, Calls Tryd.prog 37 #[.int .i64 h, .int .i64 pn, .int .i64 sl, .int .i64 T, .int .i64 n] u fun e w' => e = .returned (.int .i64 E) ∧ w' = u) := fun u => by
    rw [← hE.out]
    exact mayStretch_any h pn sl T n u hk hs hn1 hn2 ht1 ht2
  go_enter Tryd.func13, Tryd.ntmps13
  go_wp2_with (go_at_call 37; refine (HM.out _).mono ?_; rintro e1 w1 ⟨rfl, hw1⟩; obtain rfl := hw1.symm)
  go_ret2
  exact ⟨rfl, rfl⟩
set_option maxHeartbeats 3200000 in
set_option maxRecDepth 100000 in
theorem stl_err (h t n E : Int) (hE : Hid (strE h t n = E)) (d0 : (E == 0) = false) (hE1 : 0 ≤ E) (hE2 : E ≤ 15) (pa sa ia : Option Addr) (pn pc sn sc il ic : Nat) (pass salt : List Int) (w : World) (hT : Hid (Tables w)) (hR : Hid (RTab w)) (hpv : Hid (View w (.slice pa pn pc) pass)) (HPl : Hid (pass.length = pn)) (hsv : Hid (View w (.slice sa sn sc) salt)) (HSl : Hid (salt.length = sn)) (hps : pn + sn ≤ 65536) (hn1 : -9223372036854775808 ≤ n) (hn2 : n ≤ 9223372036854775807) (ht1 : -9223372036854775808 ≤ t) (ht2 : t ≤ 9223372036854775807) :
    Calls Tryd.prog 4 #[.agg #[.int .i64 h, .slice pa pn pc, .slice sa sn sc, .slice ia il ic, .int .i64 t, .int .i64 n]] w fun e w' => e = .returned (.bool true) ∧ Below w.heap.size w w' := by
  have H15 : Hid (∀ u, Calls Tryd.prog 15 #[.int .i64 h, .int .i64 pn, .int .i64 sn, .int .i64 t, .int .i64 n] u fun e w' => e = .returned (.int .i64 E) ∧ w' = u) := fun u => by
    rw [← hE.out]
    exact rsterr_any h pn sn t n u (by omega) (by omega) hn1 hn2 ht1 ht2
  have HN : Hid (∀ u, Calls Tryd.prog 11 #[.int .i64 E] u fun e w' => e = .returned (.int .i64 E) ∧ w' = u) := fun u => num_any E u (by omega) (by omega)
  have hT4 := hT.out.size
  have hR2 := hR.out.size
  obtain ⟨w0, hw0⟩ : ∃ w0, w0 = w.alloc (.cells #[.int .i64 h, .slice pa pn pc, .slice sa sn sc, .slice ia il ic, .int .i64 t, .int .i64 n] 32) := ⟨_, rfl⟩
  have HB00 : Hid (Below w.heap.size w w0) := by rw [hw0]; exact (Below.refl _ _).alloc (Nat.le_refl _) _
  have F : ∀ j v, #[Value.int .i64 h, .slice pa pn pc, .slice sa sn sc, .slice ia il ic, .int .i64 t, .int .i64 n][j]? = some v → w0.cell? ⟨w.heap.size, j, none⟩ = some v := fun j v hj => by
    rw [hw0, World.cell?_alloc_mark]
    exact hj
  have f0 := F 0 _ rfl
  have f1 := F 1 _ rfl
  have f2 := F 2 _ rfl
  have f4 := F 4 _ rfl
  have f5 := F 5 _ rfl
  clear F
  have d1 : ¬ (65536 : Int) < (pn : Nat) + (sn : Nat) := by omega
  go_enter Tryd.func4, Tryd.ntmps4
  go_upto_region 1 with fail
  rw [← hw0]
  clear hw0
  have HCx : Hid (Calls Tryd.prog 17 #[.slice pa pn pc] w0 fun e w' => Hid (∃ v', e = .returned v' ∧ Marked w0.heap.size w' v' pass ∧ Below w0.heap.size w0 w')) := copy_any _ pass w0 (by rw [HPl.out]; omega) (hpv.out.kept fun b hb => HB00.out.block b hb)
  go_upto_region 13 with (first | (go_at_call 15; refine (H15.out _).mono ?_; rintro e1 wx ⟨rfl, hwx⟩; obtain rfl := hwx.symm) | (go_at_call 17; refine HCx.out.mono ?_))
  intro ex w1 hh
  obtain ⟨vx, rfl, hm, hb⟩ := hh.out
  obtain ⟨gx, cx, hvx⟩ : ∃ g c, vx = .slice (some ⟨g, 0, none⟩) pn c := by
    obtain ⟨g, c, e, _⟩ := hm
    exact ⟨g, c, by rw [e, HPl.out]⟩
  subst hvx
  have HMx : Hid (Marked w0.heap.size w1 (.slice (some ⟨gx, 0, none⟩) pn cx) pass) := hm
  have HB01 : Hid (Below w.heap.size w w1) := HB00.out.trans (hb.mono HB00.out.size)
  clear hh hm hb HCx
  have HCy : Hid (Calls Tryd.prog 17 #[.slice sa sn sc] w1 fun e w' => Hid (∃ v', e = .returned v' ∧ Marked w1.heap.size w' v' salt ∧ Below w1.heap.size w1 w')) := copy_any _ salt w1 (by rw [HSl.out]; omega) (hsv.out.kept fun b hb => HB01.out.block b hb)
  go_upto_region 14 with (go_at_call 17; refine HCy.out.mono ?_)
  intro ey w2 hh
  obtain ⟨vy, rfl, hm, hb⟩ := hh.out
  obtain ⟨gy, cy, hvy⟩ : ∃ g c, vy = .slice (some ⟨g, 0, none⟩) sn c := by
    obtain ⟨g, c, e, _⟩ := hm
    exact ⟨g, c, by rw [e, HSl.out]⟩
  subst hvy
  have HMy : Hid (Marked w1.heap.size w2 (.slice (some ⟨gy, 0, none⟩) sn cy) salt) := hm
  have HB12 : Hid (Below w1.heap.size w1 w2) := hb
  have HB02 : Hid (Below w.heap.size w w2) := HB01.out.trans (hb.mono HB01.out.size)
  clear hh hm hb HCy
  have HM2x : Hid (Marked w0.heap.size w2 (.slice (some ⟨gx, 0, none⟩) pn cx) pass) := HMx.out.kept fun b hb => HB12.out.block b hb
  have W1 : Hid (∀ u : World, Below w2.heap.size w2 u → Calls Tryd.prog 18 #[.slice (some ⟨gx, 0, none⟩) pn cx, .slice pa pn pc] u fun e w' => e = .returned (.bool true) ∧ ∃ m, w' = u.drewN m) := fun u hu =>
    whole_any _ _ pass w0.heap.size u (HM2x.out.kept fun b hb => hu.block b hb) (hpv.out.kept fun b hb => (HB02.out.trans (hu.mono HB02.out.size)).block b hb)
  have W2 : Hid (∀ u : World, Below w2.heap.size w2 u → Calls Tryd.prog 18 #[.slice (some ⟨gy, 0, none⟩) sn cy, .slice sa sn sc] u fun e w' => e = .returned (.bool true) ∧ ∃ m, w' = u.drewN m) := fun u hu =>
    whole_any _ _ salt w1.heap.size u (HMy.out.kept fun b hb => hu.block b hb) (hsv.out.kept fun b hb => (HB02.out.trans (hu.mono HB02.out.size)).block b hb)
  have H13 : Hid (∀ u, Calls Tryd.prog 13 #[.int .i64 h, .slice (some ⟨gx, 0, none⟩) pn cx, .slice (some ⟨gy, 0, none⟩) sn cy, .int .i64 t, .int .i64 n] u fun e w' => e = .returned (.tuple #[.slice none 0 0, .int .i64 E]) ∧ w' = u) := fun u => stretch_err h (some ⟨gx, 0, none⟩) (some ⟨gy, 0, none⟩) pn cx sn cy t n E u hE d0 (by omega) (by omega) hn1 hn2 ht1 ht2
  have C1 : Hid (∀ u : World, Calls Tryd.prog 20 #[.slice none 0 0, .slice none 0 0] u fun e w' => e = .returned (.bool true) ∧ ∃ m, w' = u.drewN m) := fun u => by
    have q := same_any _ _ [] [] u (view_nil0 u) (view_nil0 u)
    rw [show decide (([] : List Int) = []) = true from decide_eq_true rfl] at q
    exact q
  clear HMx HMy HM2x HB12 HB01 HB00 f0 f1 f2 f4 f5
  go_wp2_with (first
    | (go_at_call 13; refine (H13.out _).mono ?_; rintro e1 w1 ⟨rfl, hw1⟩; obtain rfl := hw1.symm)
    | (go_at_call 11; refine (HN.out _).mono ?_; rintro e1 w1 ⟨rfl, hw1⟩; obtain rfl := hw1.symm))
  refine (W1.out _ ?_).mono ?_
  · exact ⟨rfl, rfl, rfl, Nat.le_refl _, fun _ _ => rfl⟩
  rintro e6 w6 ⟨rfl, m6, rfl⟩
  go_wp2_with fail
  refine (W2.out _ ?_).mono ?_
  · exact ⟨rfl, rfl, rfl, Nat.le_refl _, fun _ _ => rfl⟩
  rintro e7 w7 ⟨rfl, m7, rfl⟩
  go_wp2_with fail
  refine (C1.out _).mono ?_
  rintro e8 w8 ⟨rfl, m8, rfl⟩
  go_wp2_with fail
  refine (C1.out _).mono ?_
  rintro e9 w9 ⟨rfl, m9, rfl⟩
  go_wp2_with fail
  refine (spoil_nil _).mono ?_
  rintro e10 w10 ⟨rfl, hg⟩
  have HB : Hid (Below w.heap.size w w10) := by
    have hb : Below w.heap.size w (w2.drewN (m6 + m7 + m8 + m9)) := ⟨HB02.out.os, HB02.out.tape, HB02.out.output, HB02.out.size, HB02.out.block⟩
    exact hb.grown hg hb.size (fun b hb => by cases hb)
  clear hg
  go_wp2_with fail
  refine (C1.out _).mono ?_
  rintro e11 w11 ⟨rfl, m11, rfl⟩
  go_wp2_with fail
  go_ret
  exact ⟨rfl, ⟨HB.out.os, HB.out.tape, HB.out.output, HB.out.size, HB.out.block⟩⟩
end Go.Proofs.YtioggmjocelolacDoor
