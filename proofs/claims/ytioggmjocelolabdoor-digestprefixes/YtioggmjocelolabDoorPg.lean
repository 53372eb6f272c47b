import Derived.Test.YtioggmjocelolabDoorPf
namespace Go.Proofs.YtioggmjocelolabDoor
open Go.RowKit
set_option linter.unusedVariables false
set_option linter.unusedSimpArgs false
theorem owns_some2 {w : World} {B n : Nat} {v : Value} {cs : List Value} (h : w.ownsRow B 5 1 v n cs) (h0 : 0 < n) : ∃ g c, v = .slice (some ⟨g, 0, none⟩) n c ∧ n ≤ c ∧ c ≤ maxLen := by
  rcases h.2 with ⟨_, h1⟩ | ⟨g, c, _, h1, _, _, h2, h3, _⟩
  · omega
  · exact ⟨g, c, h1, h2, h3⟩
theorem strE_few {h : Int} (k : Known h) (T n : Int) (h1 : 1 ≤ T ∧ T ≤ 20) (h2 : 1 ≤ n ∧ n ≤ 600) : strE h T n = 0 := by
  have hs := szOf_pos2 k
  have hD : 0 ≤ (n + szOf h - 1).tdiv (szOf h) ∧ (n + szOf h - 1).tdiv (szOf h) ≤ 663 := by
    rw [Int.tdiv_eq_ediv_of_nonneg (by omega)]
    refine ⟨Int.ediv_nonneg (by omega) (by omega), ?_⟩
    have := Int.ediv_le_self (a := n + (szOf h : Nat) - 1) (szOf h : Nat) (by omega)
    omega
  have hM : T * (n + szOf h - 1).tdiv (szOf h) ≤ 20 * 663 := Int.mul_le_mul h1.2 hD.2 hD.1 (by omega)
  unfold strE
  rw [if_neg (show ¬ ¬ (h = 224 ∨ h = 256 ∨ h = 384 ∨ h = 512) from fun q => q k), if_neg (by omega), if_neg (by omega)]
set_option maxHeartbeats 6400000 in
set_option maxRecDepth 100000 in
theorem pf_good (h t : Int) (n m n2 t1 : Nat) (pa sa ia : Option Addr) (pn pc sn sc il ic : Nat) (pass salt : List Int) (w : World) (k : Hid (Known h)) (hT : Hid (Tables w)) (hpv : Hid (View w (.slice pa pn pc) pass)) (HPl : Hid (pass.length = pn)) (hsv : Hid (View w (.slice sa sn sc) salt)) (HSl : Hid (salt.length = sn)) (hps : pn + sn ≤ 65536) (ht : 1 ≤ t ∧ t ≤ 20) (HT1 : Hid (t - 1 = (t1 : Nat))) (hn : 1 ≤ n ∧ n ≤ 300) (hm : m ≤ 300) (hn2 : (n : Int) + (m : Int) = (n2 : Nat)) :
    Calls Tryd.prog 3 #[.agg #[.int .i64 h, .slice pa pn pc, .slice sa sn sc, .slice ia il ic, .int .i64 t, .int .i64 (n : Nat)], .int .i64 (m : Nat)] w fun e w' => e = .returned (.bool true) ∧ Below w.heap.size w w' := by
  have hT4 := hT.out.size
  have hn2b : n ≤ n2 ∧ n2 ≤ 600 := by omega
  have HK9 : Hid (∀ u, Calls Tryd.prog 9 #[.int .i64 h] u fun e w' => e = .returned (.bool true) ∧ w' = u) := fun u => known_any h u k.out
  have d1 : ¬ (65536 : Int) < (pn : Nat) + (sn : Nat) := by omega
  obtain ⟨w0, hw0⟩ : ∃ w0, w0 = w.alloc (.cells #[.int .i64 h, .slice pa pn pc, .slice sa sn sc, .slice ia il ic, .int .i64 t, .int .i64 (n : Nat)] 24) := ⟨_, rfl⟩
  have HB00 : Hid (Below w.heap.size w w0) := by rw [hw0]; exact (Below.refl _ _).alloc (Nat.le_refl _) _
  have F : ∀ j v, (#[.int .i64 h, .slice pa pn pc, .slice sa sn sc, .slice ia il ic, .int .i64 t, .int .i64 (n : Nat)] : Array Value)[j]? = some v → w0.cell? ⟨w.heap.size, j, none⟩ = some v := fun j v hj => by
    rw [hw0, World.cell?_alloc_at _ 24 _ _ rfl]
    exact hj
  have f0 := F 0 _ rfl
  have f1 := F 1 _ rfl
  have f2 := F 2 _ rfl
  have f4 := F 4 _ rfl
  have f5 := F 5 _ rfl
  clear F
  obtain ⟨sz, HSZ⟩ : ∃ sz, Hid (sz = szOf h) := ⟨_, rfl⟩
  have hszb : 1 ≤ sz ∧ sz ≤ 64 := by rw [HSZ.out]; exact szOf_pos2 k.out
  have hq8 : h.tdiv 8 = (sz : Nat) := by rw [HSZ.out]; exact (sz_div k.out).1
  have hq9 : 0 ≤ h ∧ h ≤ 512 := (sz_div k.out).2
  have hq7 : h / 8 = (sz : Nat) := by rw [← hq8, Int.tdiv_eq_ediv_of_nonneg hq9.1]
  have HS10 : Hid (∀ (u : World) (nn : Nat), 1 ≤ nn → nn ≤ 600 → Below w0.heap.size w0 u → Calls Tryd.prog 10 #[.int .i64 h, .slice pa pn pc, .slice sa sn sc, .int .i64 t, .int .i64 (nn : Nat)] u fun e w' => Hid (∃ v, e = .returned (.tuple #[v, .int .i64 0]) ∧ w'.ownsRow u.heap.size 5 1 v nn (cellsU8 ((strL h pass salt t1 nn).take nn)) ∧ Below u.heap.size u w')) := fun u nn h1 h2 hu => by
    have hb0 : Below w.heap.size w u := HB00.out.trans (hu.mono HB00.out.size)
    refine (stretch_ok h pa sa pn pc sn sc nn pass salt t t1 u k (hpv.out.kept fun b hb => hb0.block b hb) (hsv.out.kept fun b hb => hb0.block b hb) (hT.out.below hb0 hT4) (by omega) (by omega) HT1.out (by have := HT1.out; omega) (by omega) (by omega) (strE_few k.out t nn ht (by omega))).mono ?_
    rintro e w' ⟨v, q, rfl, q1, q2, q3⟩
    rw [take_pre (strL_length k.out pass salt t1) (strL_prefix (h := h) pass salt t1) nn q nn q1 (Nat.le_mul_of_pos_right nn (szOf_pos2 k.out).1)] at q2
    exact ⟨v, rfl, q2, q3⟩
  have HAB : Hid (((strL h pass salt t1 n2).take n2).take n = (strL h pass salt t1 n).take n) := by
    show _ = _
    rw [List.take_take, Nat.min_eq_left hn2b.1]
    exact take_pre (strL_length k.out pass salt t1) (strL_prefix (h := h) pass salt t1) n n2 n (Nat.le_trans hn2b.1 (Nat.le_mul_of_pos_right n2 (szOf_pos2 k.out).1)) (Nat.le_mul_of_pos_right n (szOf_pos2 k.out).1)
  have HLen : Hid (∀ nn : Nat, ((strL h pass salt t1 nn).take nn).length = nn) := fun nn => by
    have h1 := strL_length k.out pass salt t1 nn
    have h2 := Nat.le_mul_of_pos_right nn (szOf_pos2 k.out).1
    rw [List.length_take]
    omega
  go_enter Tryd.func3, Tryd.ntmps3
  go_upto_region 1 with fail
  rw [← hw0]
  clear hw0
  go_upto_region 9 with (first | (go_at_call 9; refine (HK9.out _).mono ?_; rintro e1 wx ⟨rfl, hwx⟩; obtain rfl := hwx.symm) | (go_at_call 10; refine (HS10.out w0 n hn.1 (by omega) (Below.refl _ _)).mono ?_))
  intro e1 w1 hh
  obtain ⟨va, rfl, hoa, hb1⟩ := hh.out
  obtain ⟨ga, ca, rfl, hca1, hca2⟩ := owns_some2 hoa (by omega)
  have HB01 : Hid (Below w0.heap.size w0 w1) := hb1
  have HA1 : Hid (w1.ownsRow w0.heap.size 5 1 (.slice (some ⟨ga, 0, none⟩) n ca) n (cellsU8 ((strL h pass salt t1 n).take n))) := hoa
  clear hh hoa hb1
  go_upto_region 10 with (go_at_call 10; refine (HS10.out w1 n2 (by omega) (by omega) HB01.out).mono ?_)
  intro e2 w2 hh
  obtain ⟨vb, rfl, hob, hb2⟩ := hh.out
  obtain ⟨gb, cb, rfl, hcb1, hcb2⟩ := owns_some2 hob (by omega)
  have HB12 : Hid (Below w1.heap.size w1 w2) := hb2
  have HB02 : Hid (Below w.heap.size w w2) := HB00.out.trans ((HB01.out.trans (hb2.mono HB01.out.size)).mono HB00.out.size)
  have HVB : Hid (View w2 (.slice (some ⟨gb, 0, none⟩) n2 cb) ((strL h pass salt t1 n2).take n2)) := owns_view (HLen.out n2) hob
  have HVA : Hid (View w2 (.slice (some ⟨ga, 0, none⟩) n ca) ((strL h pass salt t1 n).take n)) := (owns_view (HLen.out n) HA1.out).kept fun b hb => HB12.out.block b hb
  have HVC : Hid (View w2 (.slice (some ⟨gb, 0, none⟩) n cb) ((strL h pass salt t1 n).take n)) := by
    show View _ _ _
    rw [← HAB.out]
    exact view_take HVB.out hn2b.1
  have HS12 : Hid (∀ u : World, Sm w2 u → Calls Tryd.prog 12 #[.slice (some ⟨ga, 0, none⟩) n ca, .slice (some ⟨gb, 0, none⟩) n cb] u fun e w' => e = .returned (.bool true) ∧ Sm w2 w') := fun u hu => by
    refine (same_yes _ _ _ u (hu.view HVA.out) (hu.view HVC.out)).mono ?_
    rintro e w' ⟨q1, q2⟩
    exact ⟨q1, hu.trans q2⟩
  unfold maxLen at hca2 hcb2
  have hcbn : (n : Int) ≤ (cb : Int) := by omega
  have hn2n : (n : Int) ≤ (n2 : Int) := by omega
  clear hh hob hb2 HS10 HA1 HVB HAB HLen
  go_wp2_with (first | (go_at_call 11; refine (num0 _).mono ?_; rintro e1 wx ⟨rfl, hwx⟩; obtain rfl := hwx.symm) | (go_at_call 12; refine (HS12.out _ ?_).mono ?_))
  · exact ⟨rfl, rfl, rfl, rfl⟩
  rintro e3 w3 ⟨rfl, hs3⟩
  have HB03 : Hid (Below w.heap.size w w3) := ⟨hs3.os.trans HB02.out.os, hs3.tape.trans HB02.out.tape, hs3.output.trans HB02.out.output, by rw [hs3.heap]; exact HB02.out.size, fun q hq => by rw [hs3.heap]; exact HB02.out.block q hq⟩
  clear hs3 HS12 HVA HVC HB12 HB01
  have HX : Hid (Calls Tryd.prog 13 #[.int .i64 h, .slice sa sn sc, .slice pa pn pc] w3 fun e w' => Hid (∃ b, e = .returned (.tuple #[.slice (some ⟨b, 0, none⟩) sz sz, .int .i64 0]) ∧ View w' (.slice (some ⟨b, 0, none⟩) sz sz) (hmac h salt pass) ∧ Below w3.heap.size w3 w')) := by
    rw [HSZ.out]
    exact extract_ok h sa pa sn sc pn pc salt pass w3 k (hT.out.below HB03.out hT4) (hsv.out.kept fun b hb => HB03.out.block b hb) (by show _ ≤ _; rw [HSl.out]; omega) (hpv.out.kept fun b hb => HB03.out.block b hb) (by show _ ≤ _; rw [HPl.out]; omega)
  go_wp2_with (go_at_call 13; refine HX.out.mono ?_)
  intro e4 w4 hh
  obtain ⟨bk, rfl, hvk, hb4⟩ := hh.out
  have HB04 : Hid (Below w.heap.size w w4) := HB03.out.trans (hb4.mono HB03.out.size)
  have HVK : Hid (View w4 (.slice (some ⟨bk, 0, none⟩) sz sz) (hmac h salt pass)) := hvk
  clear hh hvk hb4 HX HB03 HB02
  have HE14 : Hid (∀ (u : World) (nn : Nat), 1 ≤ nn → nn ≤ 600 → Below w4.heap.size w4 u → Calls Tryd.prog 14 #[.int .i64 h, .slice (some ⟨bk, 0, none⟩) sz sz, .slice sa sn sc, .int .i64 (nn : Nat)] u fun e w' => Hid (∃ v, e = .returned (.tuple #[v, .int .i64 0]) ∧ w'.ownsRow u.heap.size 5 1 v nn (cellsU8 ((expL h (hmac h salt pass) salt nn).take nn)) ∧ Below u.heap.size u w')) := fun u nn h1 h2 hu => by
    have hb0 : Below w.heap.size w u := HB04.out.trans (hu.mono HB04.out.size)
    have hs28 : 28 ≤ szOf h := by rcases szOf_known k.out with e | e | e | e <;> rw [e] <;> decide
    refine (expand_ok h (some ⟨bk, 0, none⟩) sa sz sz sn sc nn (hmac h salt pass) salt u k (HVK.out.kept fun b hb => hu.block b hb) (hsv.out.kept fun b hb => hb0.block b hb) (hT.out.below hb0 hT4) (by show _ ≤ _; rw [HSZ.out]; omega) (by omega) (by omega) (by omega) (by show _ ≤ _; omega)).mono ?_
    rintro e w' ⟨v, q, rfl, q1, q2, q3⟩
    rw [take_pre (expL_length k.out (hmac h salt pass) salt) (expL_prefix (h := h) (hmac h salt pass) salt) nn q nn q1 (Nat.le_mul_of_pos_right nn (szOf_pos2 k.out).1)] at q2
    exact ⟨v, rfl, q2, q3⟩
  have HAB : Hid (((expL h (hmac h salt pass) salt n2).take n2).take n = (expL h (hmac h salt pass) salt n).take n) := by
    show _ = _
    rw [List.take_take, Nat.min_eq_left hn2b.1]
    exact take_pre (expL_length k.out (hmac h salt pass) salt) (expL_prefix (h := h) (hmac h salt pass) salt) n n2 n (Nat.le_trans hn2b.1 (Nat.le_mul_of_pos_right n2 (szOf_pos2 k.out).1)) (Nat.le_mul_of_pos_right n (szOf_pos2 k.out).1)
  have HLen : Hid (∀ nn : Nat, ((expL h (hmac h salt pass) salt nn).take nn).length = nn) := fun nn => by
    have h1 := expL_length k.out (hmac h salt pass) salt nn
    have h2 := Nat.le_mul_of_pos_right nn (szOf_pos2 k.out).1
    rw [List.length_take]
    omega
  go_wp2_with (first | (go_at_call 11; refine (num0 _).mono ?_; rintro e1 wx ⟨rfl, hwx⟩; obtain rfl := hwx.symm) | (go_at_call 14; refine (HE14.out w4 n hn.1 (by omega) (Below.refl _ _)).mono ?_))
  intro e5 w5 hh
  obtain ⟨vx, rfl, hox, hb5⟩ := hh.out
  obtain ⟨gx, cx, rfl, hcx1, hcx2⟩ := owns_some2 hox (by omega)
  have HB45 : Hid (Below w4.heap.size w4 w5) := hb5
  have HX5 : Hid (w5.ownsRow w4.heap.size 5 1 (.slice (some ⟨gx, 0, none⟩) n cx) n (cellsU8 ((expL h (hmac h salt pass) salt n).take n))) := hox
  clear hh hox hb5
  go_wp2_with (go_at_call 14; refine (HE14.out w5 n2 (by omega) (by omega) HB45.out).mono ?_)
  intro e6 w6 hh
  obtain ⟨vy, rfl, hoy, hb6⟩ := hh.out
  obtain ⟨gy, cy, rfl, hcy1, hcy2⟩ := owns_some2 hoy (by omega)
  have HB56 : Hid (Below w5.heap.size w5 w6) := hb6
  have HB06 : Hid (Below w.heap.size w w6) := HB04.out.trans ((HB45.out.trans (hb6.mono HB45.out.size)).mono HB04.out.size)
  have HVY : Hid (View w6 (.slice (some ⟨gy, 0, none⟩) n2 cy) ((expL h (hmac h salt pass) salt n2).take n2)) := owns_view (HLen.out n2) hoy
  have HVX : Hid (View w6 (.slice (some ⟨gx, 0, none⟩) n cx) ((expL h (hmac h salt pass) salt n).take n)) := (owns_view (HLen.out n) HX5.out).kept fun b hb => HB56.out.block b hb
  have HVZ : Hid (View w6 (.slice (some ⟨gy, 0, none⟩) n cy) ((expL h (hmac h salt pass) salt n).take n)) := by
    show View _ _ _
    rw [← HAB.out]
    exact view_take HVY.out hn2b.1
  have HS12 : Hid (∀ u : World, Sm w6 u → Calls Tryd.prog 12 #[.slice (some ⟨gx, 0, none⟩) n cx, .slice (some ⟨gy, 0, none⟩) n cy] u fun e w' => e = .returned (.bool true) ∧ Sm w6 w') := fun u hu => by
    refine (same_yes _ _ _ u (hu.view HVX.out) (hu.view HVZ.out)).mono ?_
    rintro e w' ⟨q1, q2⟩
    exact ⟨q1, hu.trans q2⟩
  unfold maxLen at hcx2 hcy2
  have hcyn : (n : Int) ≤ (cy : Int) := by omega
  clear hh hoy hb6 HE14 HX5 HVY HAB HLen
  go_wp2_with (first | (go_at_call 11; refine (num0 _).mono ?_; rintro e1 wx ⟨rfl, hwx⟩; obtain rfl := hwx.symm) | (go_at_call 12; refine (HS12.out _ ?_).mono ?_))
  · exact ⟨rfl, rfl, rfl, rfl⟩
  rintro e7 w7 ⟨rfl, hs7⟩
  have HB07 : Hid (Below w.heap.size w w7) := ⟨hs7.os.trans HB06.out.os, hs7.tape.trans HB06.out.tape, hs7.output.trans HB06.out.output, by rw [hs7.heap]; exact HB06.out.size, fun q hq => by rw [hs7.heap]; exact HB06.out.block q hq⟩
  clear hs7
  go_wp2
  go_ret
  exact ⟨rfl, HB07.out⟩
theorem pf_ok (h t n mo : Int) (pa sa ia : Option Addr) (pn pc sn sc il ic : Nat) (pass salt : List Int) (w : World) (hT : Tables w) (hpv : View w (.slice pa pn pc) pass) (HPl : pass.length = pn) (hsv : View w (.slice sa sn sc) salt) (HSl : salt.length = sn) (hp0 : pn ≤ 140737488355328) (hs0 : sn ≤ 140737488355328) :
    Calls Tryd.prog 3 #[.agg #[.int .i64 h, .slice pa pn pc, .slice sa sn sc, .slice ia il ic, .int .i64 t, .int .i64 n], .int .i64 mo] w fun e w' => e = .returned (.bool true) ∧ Below w.heap.size w w' := by
  by_cases k : Known h
  · by_cases c0 : t < 1
    · exact pf_1 h t n mo pa sa ia pn pc sn sc il ic w hp0 hs0 k c0
    by_cases c1 : 20 < t
    · exact pf_2 h t n mo pa sa ia pn pc sn sc il ic w hp0 hs0 k c0 c1
    by_cases c2 : n < 1
    · exact pf_3 h t n mo pa sa ia pn pc sn sc il ic w hp0 hs0 k c0 c1 c2
    by_cases c3 : 300 < n
    · exact pf_4 h t n mo pa sa ia pn pc sn sc il ic w hp0 hs0 k c0 c1 c2 c3
    by_cases c4 : mo < 0
    · exact pf_5 h t n mo pa sa ia pn pc sn sc il ic w hp0 hs0 k c0 c1 c2 c3 c4
    by_cases c5 : 300 < mo
    · exact pf_6 h t n mo pa sa ia pn pc sn sc il ic w hp0 hs0 k c0 c1 c2 c3 c4 c5
    by_cases c6 : (65536 : Int) < (pn : Nat) + (sn : Nat)
    · exact pf_7 h t n mo pa sa ia pn pc sn sc il ic w hp0 hs0 k c0 c1 c2 c3 c4 c5 c6
    obtain ⟨n', rfl⟩ : ∃ m : Nat, n = m := ⟨n.toNat, by omega⟩
    obtain ⟨m', rfl⟩ : ∃ m : Nat, mo = m := ⟨mo.toNat, by omega⟩
    exact pf_good h t n' m' (n' + m') (t - 1).toNat pa sa ia pn pc sn sc il ic pass salt w k hT hpv HPl hsv HSl (by omega) (by omega) (by show _ = _; omega) (by omega) (by omega) (by omega)
  · exact pf_0 h t n mo pa sa ia pn pc sn sc il ic w hp0 hs0 k
end Go.Proofs.YtioggmjocelolabDoor
