import Derived.Test.YtffejkfkkciaaaaCow
import Derived.Test.YtffejkfkkciaaaaEsl
namespace Go.Proofs.Ytffejkfkkciaaaa
open Go.RowKit
set_option linter.unusedVariables false
set_option linter.unusedSimpArgs false
theorem take_five (m : List F) (h : 5 ≤ m.length) : m.take 5 = [m.getD 0 0, m.getD 1 0, m.getD 2 0, m.getD 3 0, m.getD 4 0] := by
  match m, h with
  | a :: b :: c :: d :: e :: t, _ => rfl
theorem take_fill (m : List F) (k : Nat) : ∀ (r : Nat), k + r ≤ m.length → (∀ j, j < r → m.getD (k + j) 0 = 0) → (m.drop k).take r = List.replicate r 0 := fun r h hz => by
  refine list_same (by simp; omega) fun q hq => ?_
  rw [List.length_replicate] at hq
  simp only [List.getD_eq_getElem?_getD, List.getElem?_take, List.getElem?_drop, List.getElem?_replicate, if_pos hq, Option.getD_some]
  have := hz q hq
  rw [List.getD_eq_getElem?_getD] at this
  exact this
/-- A share's bytes ahead of its code. -/
def frontL (m : List F) (s : Nat) : List F := [m.getD 0 0, m.getD 1 0, m.getD 2 0, m.getD 3 0, m.getD 4 0] ++ (m.drop 5).take (s + 4)
theorem front_eq (m : List F) (s U : Nat) (hU : unc s = U) (hn : m.length = U + 4) (hz : ∀ j, j < (9 + s) % 2 → m.getD (9 + s + j) 0 = 0) : frontL m s ++ List.replicate ((9 + s) % 2) 0 = m.take U ∧ (m.take U).length = U ∧ (m.drop U).length = 4 ∧ m.take U ++ m.drop U = m ∧ (frontL m s).length = 9 + s := by
  have hU2 : U = 9 + s + (9 + s) % 2 := by rw [← hU]; unfold unc; omega
  refine ⟨?_, by rw [List.length_take]; omega, by rw [List.length_drop]; omega, List.take_append_drop U m, ?_⟩
  · rw [← take_fill m (9 + s) ((9 + s) % 2) (by omega) hz]
    unfold frontL
    rw [← take_five m (by omega), show 9 + s = 5 + (s + 4) by omega]
    rw [show m.take 5 ++ (m.drop 5).take (s + 4) = m.take (5 + (s + 4)) from (List.take_add ..).symm, ← List.take_add, hU2]
    congr 1
    omega
  · unfold frontL
    rw [List.length_append, List.length_take, List.length_drop]
    simp
    omega
theorem setN_parts (m : List F) (b0 b1 : Nat) (h0 : (m.getD 0 0).1 = b0) (h1 : (m.getD 1 0).1 = b1) : setN m = b0 * 256 + b1 := by unfold setN; rw [h0, h1]
theorem set_num (b0 b1 sn nd ix s : Nat) (h0 : b0 < 256) (h1 : b1 < 256) (hs : b0 * 256 + b1 = sn) (h2 : nd < 256) (h3 : ix < 256) (h4 : s < 256) : (sn : Int).tdiv 256 = (b0 : Int) ∧ (sn : Int).tmod 256 = (b1 : Int) ∧ (sn : Int) / 256 = (b0 : Int) ∧ (sn : Int) % 256 = (b1 : Int) ∧ IntKind.u8.wrap (b0 : Int) = (b0 : Int) ∧ IntKind.u8.wrap (b1 : Int) = (b1 : Int) ∧ IntKind.u8.wrap (nd : Int) = (nd : Int) ∧ IntKind.u8.wrap (ix : Int) = (ix : Int) ∧ IntKind.u8.wrap (s : Int) = (s : Int) := by
  refine ⟨?_, ?_, by omega, by omega, wraps_u8 _ (by omega) (by omega), wraps_u8 _ (by omega) (by omega), wraps_u8 _ (by omega) (by omega), wraps_u8 _ (by omega) (by omega), wraps_u8 _ (by omega) (by omega)⟩
  · rw [Int.tdiv_eq_ediv_of_nonneg (by omega)]; omega
  · rw [Int.tmod_eq_emod_of_nonneg (by omega)]; omega
set_option maxHeartbeats 3200000 in
set_option maxRecDepth 100000 in
theorem bytes_ok (g c' : Nat) (m : List F) (w : World) (hm : okF m) (hz : sumL m = [0, 0, 0, 0]) (h : Rx w g ((m.drop 5).take ((m.getD 4 0).1 + 4))) : Calls Try.prog 13 #[.agg (tds m).toArray, .slice (some ⟨g, 0, none⟩) ((m.getD 4 0).1 + 4) c'] w fun e w' => Hid (∃ g9 c9, e = .returned (.slice (some ⟨g9, 0, none⟩) m.length c9) ∧ (m.length ≤ c9 ∧ c9 ≤ 9223372036854775807) ∧ Rx w' g9 m ∧ Below w.heap.size w w') := by
  obtain ⟨M, HMM⟩ : ∃ M, Hid (w.heap.size = M) := ⟨_, rfl⟩
  have HT : Hid (tds m = [.int .u16 (setN m : Nat), .int .i64 ((m.getD 2 0).1 : Nat), .int .i64 ((m.getD 3 0).1 : Nat), .int .i64 ((m.getD 4 0).1 : Nat)]) := by show _ = _; rfl
  obtain ⟨hk1, hk2, hk3, hk4, hk5⟩ := hm
  obtain ⟨b0, Hb0⟩ : ∃ q : Nat, Hid ((m.getD 0 0).1 = q) := ⟨_, rfl⟩
  obtain ⟨b1, Hb1⟩ : ∃ q : Nat, Hid ((m.getD 1 0).1 = q) := ⟨_, rfl⟩
  obtain ⟨nd, Hnd⟩ : ∃ q : Nat, Hid ((m.getD 2 0).1 = q) := ⟨_, rfl⟩
  obtain ⟨ix, Hix⟩ : ∃ q : Nat, Hid ((m.getD 3 0).1 = q) := ⟨_, rfl⟩
  obtain ⟨s, Hs⟩ : ∃ q : Nat, Hid ((m.getD 4 0).1 = q) := ⟨_, rfl⟩
  obtain ⟨sn, Hsn⟩ : ∃ q : Nat, Hid (setN m = q) := ⟨_, rfl⟩
  rw [HT.out, Hsn.out, Hnd.out, Hix.out, Hs.out]
  rw [Hs.out] at h hk3 hk4 hk5
  obtain ⟨U, HU⟩ : ∃ q, Hid (unc s = q) := ⟨_, rfl⟩
  rw [HU.out] at hk4
  have HF := front_eq m s U HU.out hk4 hk5
  have HFR : Hid (frontL m s ++ List.replicate ((9 + s) % 2) 0 = m.take U ∧ (m.take U).length = U ∧ (m.drop U).length = 4 ∧ m.take U ++ m.drop U = m ∧ (frontL m s).length = 9 + s) := HF
  have HUN : Hid (U = 9 + s + (9 + s) % 2 ∧ 1 ≤ s ∧ s ≤ 64 ∧ m.length = U + 4) := ⟨by rw [← HU.out]; unfold unc; omega, hk3.1, hk3.2, hk4⟩
  have HV : Hid (Rx w g ((m.drop 5).take (s + 4)) ∧ ((m.drop 5).take (s + 4)).length = s + 4) := ⟨h, by rw [List.length_take, List.length_drop]; have := HUN.out; omega⟩
  obtain ⟨vs, HVS⟩ : ∃ q, Hid ((m.drop 5).take (s + 4) = q) := ⟨_, rfl⟩
  rw [HVS.out] at HV
  have HHD : Hid (fc (frontL m s) = [.int .u8 (b0 : Nat), .int .u8 (b1 : Nat), .int .u8 (nd : Nat), .int .u8 (ix : Nat), .int .u8 (s : Nat)] ++ fc vs) := by
    show _ = _
    unfold frontL
    rw [fc_app, HVS.out, ← Hb0.out, ← Hb1.out, ← Hnd.out, ← Hix.out, ← Hs.out]
    rfl
  obtain ⟨n1, n2, n3, n4, n5, n6, n7, n8, n9⟩ := set_num b0 b1 sn nd ix s (by rw [← Hb0.out]; exact (m.getD 0 0).2) (by rw [← Hb1.out]; exact (m.getD 1 0).2) (by rw [← Hsn.out]; exact (setN_parts m b0 b1 Hb0.out Hb1.out).symm) (by rw [← Hnd.out]; exact (m.getD 2 0).2) (by rw [← Hix.out]; exact (m.getD 3 0).2) (by rw [← Hs.out]; exact (m.getD 4 0).2)
  have H22 : Hid (∀ (g c : Nat) u, Rx u g (m.take U) → Calls Try.prog 22 #[.slice (some ⟨g, 0, none⟩) U c] u fun e w' => CodQ (m.take U) (m.drop U) U u.heap.size e u w') := fun g c u hu => coded_ok g 0 U c (m.take U) (m.drop U) u HFR.out.2.1 (by have := HUN.out; omega) (by have := HUN.out; omega) hu.rw HFR.out.2.2.1 (by rw [HFR.out.2.2.2.1]; exact hz)
  have hb0 : b0 < 256 := by rw [← Hb0.out]; exact (m.getD 0 0).2
  have n10 : IntKind.u16.wrap (b0 : Int) = (b0 : Int) := wraps_u16' _ (by omega) (by omega)
  have n11 : (b0 : Int) % 256 = (b0 : Int) := by omega
  clear hb0
  obtain ⟨i0, hi, hz0, hz1, hz2⟩ := info_parts Try.infoB
  clear h hk1 hk2 hk3 hk4 hk5 HF hz
  have g0 : wrap64 ((s : Int) + 4) = ((s + 4 : Nat) : Int) := by have := HUN.out; unfold wrap64; omega
  clear g0
  go_enter Try.func13, Try.ntmps13
  go_upto_region 2 with fail
  obtain ⟨w1, hw1⟩ : ∃ u, u = w.alloc (.cells #[.int .u16 (sn : Nat), .int .i64 (nd : Nat), .int .i64 (ix : Nat), .int .i64 (s : Nat)] 24) := ⟨_, rfl⟩
  have HW1 : Hid (w1.heap.size = w.heap.size + 1 ∧ Below M w w1) := by rw [hw1, ← HMM.out]; exact ⟨by simp, (Below.refl _ _).alloc (Nat.le_refl _) _⟩
  obtain ⟨w2, hw2⟩ : ∃ u, u = w1.alloc (.cells #[.int .u8 (b0 : Nat), .int .u8 (b1 : Nat), .int .u8 (nd : Nat), .int .u8 (ix : Nat), .int .u8 (s : Nat)] 5) := ⟨_, rfl⟩
  have H2 : Hid (w2.ownsRow M 5 1 (.slice (some ⟨w.heap.size + 1, 0, none⟩) 5 5) 5 [.int .u8 (b0 : Nat), .int .u8 (b1 : Nat), .int .u8 (nd : Nat), .int .u8 (ix : Nat), .int .u8 (s : Nat)] ∧ Below M w w2 ∧ M ≤ w2.heap.size) := by
    have hs1 : M ≤ w1.heap.size := bel_size HW1.out.2 HMM.out
    have hb : Below M w w2 := by rw [hw2]; exact HW1.out.2.alloc hs1 _
    refine ⟨?_, hb, bel_size hb HMM.out⟩
    rw [hw2, ← HW1.out.1]
    exact World.ownsRow_lit w1 #[.int .u8 (b0 : Nat), .int .u8 (b1 : Nat), .int .u8 (nd : Nat), .int .u8 (ix : Nat), .int .u8 (s : Nat)] 5 hs1 (by decide) rfl
  rw [← hw1, ← hw2]
  clear hw1 hw2 HW1 n10 n11 n1 n2 n3 n4 n5 n6 n7 n8 n9
  have HV2 : Hid (Rx w2 g vs) := HV.out.1.below (by rw [HMM.out]; exact H2.out.2.1)
  go_upto_region 3 with (at_builtin; go_must (refine wpList_append_own _ rfl (.tmp 24) (.tmp 25) 25 rfl M 5 i0 (.int .u8 0) 1 1 Try.underlying25 hi hz0 hz1 hz2 rfl (by decide) _ 5 _ rfl H2.out.1 ⟨g, 0, none⟩ (s + 4) c' (fc vs) rfl (by rw [fc_len, HV.out.2]; omega) (rx_cells HV2.out) (fc_one _) (by have := HUN.out; unfold maxLen; omega) (by have := HUN.out; omega) H2.out.2.2 ?_; intro v3 w3 hown hgrow hnil; have H3 : Hid (w3.ownsRow M 5 1 v3 (9 + s) (fc (frontL m s)) ∧ Below M w w3 ∧ M ≤ w3.heap.size) := ⟨by rw [HHD.out, show 9 + s = 5 + (s + 4) by omega]; exact hown, H2.out.2.1.grown hgrow H2.out.2.2 (fun q hq => (H2.out.1.lt q hq).1), Nat.le_trans H2.out.2.2 hgrow.size⟩; clear hown hgrow hnil))
  clear H2 HV2
  obtain ⟨g3, c3, rfl, HG3⟩ := own_rx (l := frontL m s) (by rw [HFR.out.2.2.2.2]; exact H3.out.1) (by rw [HFR.out.2.2.2.2]; omega)
  rw [HFR.out.2.2.2.2] at H3 ⊢
  have HEND : Hid (∀ e u v, Below M w u → CodQ (m.take U) (m.drop U) U u.heap.size e u v → ∃ g9 c9, e = .returned (.slice (some ⟨g9, 0, none⟩) m.length c9) ∧ (m.length ≤ c9 ∧ c9 ≤ 9223372036854775807) ∧ Rx v g9 m ∧ Below M w v) := fun e u v hu hq => by
    obtain ⟨g9, c9, rfl, q1, q2, q3⟩ := hq
    rw [HFR.out.2.2.2.1] at q2
    exact ⟨g9, c9, by rw [HUN.out.2.2.2], by rw [HUN.out.2.2.2]; exact q1, q2, hu.trans (q3.mono (bel_size hu HMM.out))⟩
  by_cases hp : (9 + s) % 2 = 1
  case pos =>
    have r1 : ((9 + s : Nat) : Int).tmod 2 = 1 := by rw [Int.tmod_eq_emod_of_nonneg (by omega)]; omega
    have r2 : ((9 : Int) + (s : Int)).tmod 2 = 1 := by rw [Int.tmod_eq_emod_of_nonneg (by omega)]; omega
    have HE : Hid (fc (frontL m s) ++ [.int .u8 0] = fc (m.take U) ∧ 9 + s + 1 = U) := by
      refine ⟨?_, by have := HUN.out; omega⟩
      rw [← HFR.out.1, hp, fc_app]
      rfl
    clear hp
    go_upto_region 5 with (at_builtin; go_must (refine wpList_append_own _ rfl (.tmp 31) (.tmp 32) 25 rfl M 5 i0 (.int .u8 0) 1 1 Try.underlying25 hi hz0 hz1 hz2 rfl (by decide) _ (9 + s) _ rfl (H3.out.1.alloc _) ⟨w3.heap.size, 0, none⟩ 1 1 [.int .u8 0] rfl rfl (one_cell w3 _ 5) (one_u8 _) (by have := HUN.out; unfold maxLen; omega) (by have := HUN.out; omega) (by have := H3.out.2.2; simp; omega) ?_; intro v4 w4 hown hgrow hnil; have H4 : Hid (w4.ownsRow M 5 1 v4 U (fc (m.take U)) ∧ Below M w w4) := ⟨by rw [← HE.out.1, ← HE.out.2]; exact hown, (H3.out.2.1.alloc H3.out.2.2 _).grown hgrow (by have := H3.out.2.2; simp; omega) (fun q hq => (H3.out.1.lt q hq).1)⟩; clear hown hgrow hnil))
    obtain ⟨g4, c4, rfl, HG4⟩ := own_rx (l := m.take U) (by rw [HFR.out.2.1]; exact H4.out.1) (by rw [HFR.out.2.1]; have := HUN.out; omega)
    rw [HFR.out.2.1]
    go_wp2_with (go_at_call 22; refine (H22.out g4 c4 w4 HG4.out.1).mono ?_; intro e5 w5 hh; have HQ := HEND.out e5 w4 w5 H4.out.2 hh; obtain ⟨g9, c9, rfl, q1, q2, q3⟩ := HQ; have HQ2 : Hid ((m.length ≤ c9 ∧ c9 ≤ 9223372036854775807) ∧ Rx w5 g9 m ∧ Below M w w5) := ⟨q1, q2, q3⟩; clear hh q1 q2 q3)
    go_ret
    exact ⟨g9, c9, rfl, HQ2.out.1, HQ2.out.2.1, by rw [HMM.out]; exact HQ2.out.2.2⟩
  case neg =>
    have r1 : ((9 + s : Nat) : Int).tmod 2 = 0 := by rw [Int.tmod_eq_emod_of_nonneg (by omega)]; omega
    have r2 : ((9 : Int) + (s : Int)).tmod 2 = 0 := by rw [Int.tmod_eq_emod_of_nonneg (by omega)]; omega
    have HE : Hid (frontL m s = m.take U ∧ 9 + s = U) := by
      have h0 : (9 + s) % 2 = 0 := by omega
      refine ⟨?_, by have := HUN.out; omega⟩
      rw [← HFR.out.1, h0]
      simp
    clear hp
    have HG4 : Hid (Rx w3 g3 (m.take U)) := by rw [← HE.out.1]; exact HG3.out.1
    go_upto_region 5 with fail
    rw [HE.out.2]
    go_wp2_with (go_at_call 22; refine (H22.out g3 c3 w3 HG4.out).mono ?_; intro e5 w5 hh; have HQ := HEND.out e5 w3 w5 H3.out.2.1 hh; obtain ⟨g9, c9, rfl, q1, q2, q3⟩ := HQ; have HQ2 : Hid ((m.length ≤ c9 ∧ c9 ≤ 9223372036854775807) ∧ Rx w5 g9 m ∧ Below M w w5) := ⟨q1, q2, q3⟩; clear hh q1 q2 q3)
    go_ret
    exact ⟨g9, c9, rfl, HQ2.out.1, HQ2.out.2.1, by rw [HMM.out]; exact HQ2.out.2.2⟩
end Go.Proofs.Ytffejkfkkciaaaa
