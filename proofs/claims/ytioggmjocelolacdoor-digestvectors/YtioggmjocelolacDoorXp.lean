import Derived.Test.YtioggmjocelolacDoorXErr
namespace Go.Proofs.YtioggmjocelolacDoor
open Go.RowKit
set_option linter.unusedVariables false
set_option linter.unusedSimpArgs false
set_option maxHeartbeats 800000 in
theorem expand_err (h : Int) (pa ia : Option Addr) (pn pc il ic : Nat) (n E : Int) (w : World) (hE : Hid (expE h pn n = E)) (d0 : (E == 0) = false) (hk : pn ≤ 65536) (hi : il ≤ 1024) (hn1 : -9223372036854775808 ≤ n) (hn2 : n ≤ 9223372036854775807) :
    Calls Tryd.prog 42 #[.int .i64 h, .slice pa pn pc, .slice ia il ic, .int .i64 n] w fun e w' => e = .returned (.tuple #[.slice none 0 0, .int .i64 E]) ∧ w' = w := by
  have HM : Hid (∀ u, Calls Tryd.prog 63 #[.int .i64 h, .int .i64 pn, .int .i64 il, .int .i64 n] u fun e w' => e = .returned (.int .i64 E) ∧ w' = u) := fun u => by
    rw [← hE.out]
    exact may_any h pn il n u hk hi hn1 hn2
  go_enter Tryd.func42, Tryd.ntmps42
  go_wp2_with (go_at_call 63; refine (HM.out _).mono ?_; rintro e1 w1 ⟨rfl, hw1⟩; obtain rfl := hw1.symm)
  go_ret2
  exact ⟨rfl, rfl⟩
theorem view_nil0 (w : World) : View w (.slice none 0 0) [] := ⟨none, 0, rfl, by simp, by simp [maxLen], fun _ => rfl, .inl rfl⟩
set_option maxHeartbeats 1600000 in
set_option maxRecDepth 100000 in
theorem expands_err (h : Int) (ka za ia : Option Addr) (kn kc il zc ic : Nat) (n E : Int) (w : World) (hE : Hid (expE h kn n = E)) (d0 : (E == 0) = false) (hE1 : 0 ≤ E) (hE2 : E ≤ 15) (hk : kn ≤ 65536) (hi : il ≤ 1024) (hn1 : -9223372036854775808 ≤ n) (hn2 : n ≤ 9223372036854775807) :
    Calls Tryd.prog 28 #[.int .i64 h, .slice ka kn kc, .slice za il zc, .slice ia il ic, .int .i64 n] w fun e w' => e = .returned (.bool true) ∧ Below w.heap.size w w' := by
  have H42 : Hid (∀ u, Calls Tryd.prog 42 #[.int .i64 h, .slice ka kn kc, .slice za il zc, .int .i64 n] u fun e w' => e = .returned (.tuple #[.slice none 0 0, .int .i64 E]) ∧ w' = u) := fun u => expand_err h ka za kn kc il zc n E u hE d0 hk hi hn1 hn2
  have H43 : Hid (∀ u, Calls Tryd.prog 43 #[.int .i64 h, .int .i64 kn, .int .i64 il, .int .i64 n] u fun e w' => e = .returned (.int .i64 E) ∧ w' = u) := fun u => by
    rw [← hE.out]
    exact xerr_any h kn il n u hk hi hn1 hn2
  have HN : Hid (∀ u, Calls Tryd.prog 11 #[.int .i64 E] u fun e w' => e = .returned (.int .i64 E) ∧ w' = u) := fun u => num_any E u (by omega) (by omega)
  have C1 : Hid (∀ u : World, Calls Tryd.prog 20 #[.slice none 0 0, .slice none 0 0] u fun e w' => e = .returned (.bool true) ∧ ∃ m, w' = u.drewN m) := fun u => by
    have q := same_any _ _ [] [] u (view_nil0 u) (view_nil0 u)
    rw [show decide (([] : List Int) = []) = true from decide_eq_true rfl] at q
    exact q
  go_enter Tryd.func28, Tryd.ntmps28
  go_wp2_with (first
    | (go_at_call 42; refine (H42.out _).mono ?_; rintro e1 w1 ⟨rfl, hw1⟩; obtain rfl := hw1.symm)
    | (go_at_call 43; refine (H43.out _).mono ?_; rintro e1 w1 ⟨rfl, hw1⟩; obtain rfl := hw1.symm)
    | (go_at_call 11; refine (HN.out _).mono ?_; rintro e1 w1 ⟨rfl, hw1⟩; obtain rfl := hw1.symm))
  refine (C1.out _).mono ?_
  rintro e7 w7 ⟨rfl, m7, rfl⟩
  go_wp2_with fail
  refine (C1.out _).mono ?_
  rintro e8 w8 ⟨rfl, m8, rfl⟩
  go_wp2_with fail
  refine (spoil_nil _).mono ?_
  rintro e9 w9 ⟨rfl, hg⟩
  have HB : Hid (Below w.heap.size w w9) := by
    have hb : Below w.heap.size w (w.drewN (m7 + m8)) := ⟨rfl, rfl, rfl, Nat.le_refl _, fun _ _ => rfl⟩
    exact hb.grown hg hb.size (fun b hb => by cases hb)
  clear hg
  go_wp2_with fail
  refine (C1.out _).mono ?_
  rintro e10 w10 ⟨rfl, m10, rfl⟩
  go_wp2_with fail
  go_ret
  exact ⟨rfl, ⟨HB.out.os, HB.out.tape, HB.out.output, HB.out.size, HB.out.block⟩⟩
set_option maxHeartbeats 1600000 in
set_option maxRecDepth 100000 in
theorem expands_good (h : Int) (ka za ia : Option Addr) (kn kc il zc ic n : Nat) (key info : List Int) (w : World) (k : Hid (Known h)) (hE : Hid (expE h kn n = 0)) (hT : Hid (Tables w)) (hR : Hid (RTab w)) (hkv : Hid (View w (.slice ka kn kc) key)) (HKl : Hid (key.length = kn)) (hzv : Hid (View w (.slice za il zc) info)) (hiv : Hid (View w (.slice ia il ic) info)) (HIl : Hid (info.length = il)) (hk : kn ≤ 65536) (hi : il ≤ 1024) (hks : Hid (szOf h ≤ kn)) (hn0 : 1 ≤ n) (hn : Hid (n ≤ 255 * szOf h)) (hn2 : n ≤ 16320) :
    Calls Tryd.prog 28 #[.int .i64 h, .slice ka kn kc, .slice za il zc, .slice ia il ic, .int .i64 n] w fun e w' => e = .returned (.bool true) ∧ Below w.heap.size w w' := by
  have hT4 := hT.out.size
  have hR2 := hR.out.size
  obtain ⟨X, HX⟩ : ∃ X, Hid (X = (expL h key info n).take n) := ⟨_, rfl⟩
  have HXl : Hid (X.length = n) := by
    show _ = _
    rw [HX.out, List.length_take, expL_length k.out]
    have := Nat.le_mul_of_pos_right n (szOf_pos k.out).1
    omega
  have H42 : Hid (∀ u, Below w.heap.size w u → Calls Tryd.prog 42 #[.int .i64 h, .slice ka kn kc, .slice za il zc, .int .i64 n] u fun e w' => Hid (∃ v, e = .returned (.tuple #[v, .int .i64 0]) ∧ w'.ownsRow u.heap.size 5 1 v n (cellsU8 X) ∧ Below u.heap.size u w')) := fun u hu => by
    refine (expand_ok h ka za kn kc il zc n key info u k (hkv.out.kept fun b hb => hu.block b hb) (hzv.out.kept fun b hb => hu.block b hb) (hT.out.below hu hT4) hks (by omega) (by omega) (by omega) (by have := hn.out; show _ ≤ _; omega)).mono ?_
    rintro e w' ⟨v, q, rfl, h1, h2, h3⟩
    rw [exp_take k.out key info n q h1, ← HX.out] at h2
    exact ⟨v, rfl, h2, h3⟩
  have H43 : Hid (∀ u, Calls Tryd.prog 43 #[.int .i64 h, .int .i64 kn, .int .i64 il, .int .i64 n] u fun e w' => e = .returned (.int .i64 0) ∧ w' = u) := fun u => by
    rw [← hE.out]
    exact xerr_any h kn il n u hk hi (by omega) (by omega)
  go_enter Tryd.func28, Tryd.ntmps28
  go_upto_region 2 with (go_at_call 42; refine (H42.out w (Below.refl _ _)).mono ?_)
  intro e1 w1 hh
  obtain ⟨va, rfl, hoa, hb1⟩ := hh.out
  have HB01 : Hid (Below w.heap.size w w1) := hb1
  have HA1 : Hid (w1.ownsRow w.heap.size 5 1 va n (cellsU8 X)) := hoa
  clear hh hoa hb1
  go_upto_region 3 with (go_at_call 42; refine (H42.out w1 HB01.out).mono ?_)
  intro e2 w2 hh
  obtain ⟨vb, rfl, hob, hb2⟩ := hh.out
  have HB12 : Hid (Below w1.heap.size w1 w2) := hb2
  have HB02 : Hid (Below w.heap.size w w2) := HB01.out.trans (hb2.mono HB01.out.size)
  have HV2 : Hid (w2.ownsRow w1.heap.size 5 1 vb n (cellsU8 X)) := hob
  clear hh hob hb2 H42
  have H44 : Hid (Calls Tryd.prog 44 #[.int .i64 h, .slice ka kn kc, .slice ia il ic, .int .i64 n] w2 fun e w' => Hid (∃ v', e = .returned v' ∧ View w' v' X ∧ (∀ b, v'.ownBlock = some b → w2.heap.size ≤ b) ∧ Below w2.heap.size w2 w')) := by
    refine (rexpand_walk h ka ia kn kc il ic n key info w2 k (hR.out.below HB02.out hR2) (hkv.out.kept fun b hb => HB02.out.block b hb) HKl (hiv.out.kept fun b hb => HB02.out.block b hb) HIl (by omega) (by omega) hn0 hn hn2).mono ?_
    rintro e w' ⟨v, q, rfl, h1, h2, h3, h4⟩
    rw [exp_take k.out key info n q h2, ← HX.out] at h1
    exact ⟨v, rfl, h1, h3, h4⟩
  go_upto_region 7 with (first
    | (go_at_call 43; refine (H43.out _).mono ?_; rintro e1 w1 ⟨rfl, hw1⟩; obtain rfl := hw1.symm)
    | (go_at_call 44; refine H44.out.mono ?_))
  intro e3 w3 hh
  obtain ⟨vw, rfl, hvw, hwb, hb3⟩ : ∃ v', e3 = .returned v' ∧ View w3 v' X ∧ (∀ b, v'.ownBlock = some b → w2.heap.size ≤ b) ∧ Below w2.heap.size w2 w3 := by
    have := hh.out
    grind
  have HB23 : Hid (Below w2.heap.size w2 w3) := hb3
  have HB13 : Hid (Below w1.heap.size w1 w3) := HB12.out.trans (hb3.mono HB12.out.size)
  have HB03 : Hid (Below w.heap.size w w3) := HB02.out.trans (hb3.mono HB02.out.size)
  have HVW : Hid (View w3 vw X) := hvw
  have HWb : Hid (∀ b, vw.ownBlock = some b → w2.heap.size ≤ b) := hwb
  have HA : Hid (w3.ownsRow w.heap.size 5 1 va n (cellsU8 X)) := owns_kept HA1.out HB13.out
  have HBr : Hid (w3.ownsRow w1.heap.size 5 1 vb n (cellsU8 X)) := owns_kept HV2.out HB23.out
  have HAb : Hid (∀ b, va.ownBlock = some b → w.heap.size ≤ b ∧ b < w1.heap.size) := fun b hb => HA1.out.lt b hb
  have HVA : Hid (View w3 va X) := viewOwns HA.out HXl.out
  have HVB : Hid (View w3 vb X) := viewOwns HBr.out HXl.out
  clear hh hvw hwb hb3 H44 H43
  have C1 : Hid (∀ u : World, u.heap = w3.heap → Calls Tryd.prog 20 #[va, vw] u fun e w' => e = .returned (.bool true) ∧ ∃ m, w' = u.drewN m) := fun u hu => by
    have q := same_any va vw X X u (HVA.out.kept fun b _ => by rw [hu]) (HVW.out.kept fun b _ => by rw [hu])
    rw [show decide (X = X) = true from decide_eq_true rfl] at q
    exact q
  have C2 : Hid (∀ u : World, u.heap = w3.heap → Calls Tryd.prog 20 #[vb, vw] u fun e w' => e = .returned (.bool true) ∧ ∃ m, w' = u.drewN m) := fun u hu => by
    have q := same_any vb vw X X u (HVB.out.kept fun b _ => by rw [hu]) (HVW.out.kept fun b _ => by rw [hu])
    rw [show decide (X = X) = true from decide_eq_true rfl] at q
    exact q
  have C3 : Hid (∀ u : World, u.heap = w3.heap → Calls Tryd.prog 21 #[va] u fun e w' => e = .returned (.tuple #[]) ∧ u.grownBy w' va.ownBlock) := fun u hu =>
    spoil_any w.heap.size n va X u (by omega) (by rw [hu]; exact HB03.out.size) (by
      obtain ⟨q1, q2⟩ := HA.out
      refine ⟨q1, ?_⟩
      rw [hu]
      exact q2)
  go_wp2_with (go_at_call 11; refine (num_any _ _ (by decide) (by decide)).mono ?_; rintro e1 wx ⟨rfl, hwx⟩; obtain rfl := hwx.symm)
  refine (C1.out _ ?_).mono ?_
  · rfl
  rintro e7 w7 ⟨rfl, m7, rfl⟩
  go_wp2_with fail
  refine (C2.out _ ?_).mono ?_
  · rfl
  rintro e8 w8 ⟨rfl, m8, rfl⟩
  go_wp2_with fail
  refine (C3.out _ ?_).mono ?_
  · rfl
  rintro e9 w9 ⟨rfl, hg⟩
  have HS1 := HB12.out.size
  have HVB2 : Hid (View w9 vb X) := (HVB.out.kept (w' := w3.drewN (m7 + m8)) fun b _ => rfl).grown hg (owns_apart HBr.out fun b hb => (HAb.out b hb).2)
  have HVW2 : Hid (View w9 vw X) := (HVW.out.kept (w' := w3.drewN (m7 + m8)) fun b _ => rfl).grown hg (fun b off l c e e2 => by
    have h1 := HWb.out b (by rw [e]; rfl)
    have h2 := (HAb.out b e2.symm).2
    omega)
  have HB09 : Hid (Below w.heap.size w w9) := by
    have hb : Below w.heap.size w (w3.drewN (m7 + m8)) := ⟨HB03.out.os, HB03.out.tape, HB03.out.output, HB03.out.size, HB03.out.block⟩
    exact hb.grown hg hb.size (fun b hb => (HAb.out b hb).1)
  have C5 : Hid (∀ u : World, u.heap = w9.heap → Calls Tryd.prog 20 #[vb, vw] u fun e w' => e = .returned (.bool true) ∧ ∃ m, w' = u.drewN m) := fun u hu => by
    have q := same_any vb vw X X u (HVB2.out.kept fun b _ => by rw [hu]) (HVW2.out.kept fun b _ => by rw [hu])
    rw [show decide (X = X) = true from decide_eq_true rfl] at q
    exact q
  clear hg C1 C2 C3 HS1
  go_wp2_with fail
  refine (C5.out _ ?_).mono ?_
  · rfl
  rintro e11 w11 ⟨rfl, m11, rfl⟩
  go_wp2_with fail
  go_ret
  exact ⟨rfl, ⟨HB09.out.os, HB09.out.tape, HB09.out.output, HB09.out.size, HB09.out.block⟩⟩
/-- expands, whatever is asked. -/
theorem expands_ok (h : Int) (ka za ia : Option Addr) (kn kc il zc ic : Nat) (n : Int) (key info : List Int) (w : World) (hT : Tables w) (hR : RTab w) (hkv : View w (.slice ka kn kc) key) (HKl : key.length = kn) (hzv : View w (.slice za il zc) info) (hiv : View w (.slice ia il ic) info) (HIl : info.length = il) (hk : kn ≤ 65536) (hi : il ≤ 1024) (hn1 : -9223372036854775808 ≤ n) (hn2 : n ≤ 9223372036854775807) :
    Calls Tryd.prog 28 #[.int .i64 h, .slice ka kn kc, .slice za il zc, .slice ia il ic, .int .i64 n] w fun e w' => e = .returned (.bool true) ∧ Below w.heap.size w w' := by
  by_cases k : Known h
  · have hs := szOf_pos k
    have hE : expE h kn n = if kn < szOf h then 15 else if n < 1 ∨ 255 * (szOf h : Int) < n then 12 else 0 := by
      unfold expE
      rw [if_neg (fun h => h k)]
    by_cases c1 : kn < szOf h
    · exact expands_err h ka za ia kn kc il zc ic n 15 w (by show _ = _; rw [hE, if_pos c1]) rfl (by decide) (by decide) hk hi hn1 hn2
    · by_cases c2 : n < 1 ∨ 255 * (szOf h : Int) < n
      · exact expands_err h ka za ia kn kc il zc ic n 12 w (by show _ = _; rw [hE, if_neg c1, if_pos c2]) rfl (by decide) (by decide) hk hi hn1 hn2
      · obtain ⟨m, rfl⟩ : ∃ m : Nat, n = m := ⟨n.toNat, by omega⟩
        exact expands_good h ka za ia kn kc il zc ic m key info w k (by show _ = _; rw [hE, if_neg c1, if_neg c2]) hT hR hkv HKl hzv hiv HIl hk hi (by show _ ≤ _; omega) (by omega) (by show _ ≤ _; omega) (by omega)
  · exact expands_err h ka za ia kn kc il zc ic n 10 w (by show _ = _; unfold expE; rw [if_pos k]) rfl (by decide) (by decide) hk hi hn1 hn2
end Go.Proofs.YtioggmjocelolacDoor
