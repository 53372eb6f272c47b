import Derived.Test.YtbpkocohddlbhaaDoorPart08
import Derived.Test.YtbpkocohddlbhaaDoorPart03
import Derived.Test.YtbpkocohddlbhaaDoorPart07
import Derived.Deep.AppendLies
import Derived.Laws.EntriesVeiled
namespace Go.Proofs.YtbpkocohddlbhaaDoor
open Go.RowKit
set_option linter.unusedVariables false
set_option linter.unusedSimpArgs false
set_option maxRecDepth 100000
theorem take_five (m : List F) (h : 5 ≤ m.length) : m.take 5 = [m.getD 0 0, m.getD 1 0, m.getD 2 0, m.getD 3 0, m.getD 4 0] := by
  match m, h with
  | a :: b :: c :: d :: e :: t, _ => rfl
theorem take_fill (m : List F) (k : Nat) : ∀ (r : Nat), k + r ≤ m.length → (∀ j, j < r → m.getD (k + j) 0 = 0) → (m.drop k).take r = List.replicate r 0 := fun r h hz => by
  refine list_same (by simp; omega) fun q hq => ?_
  rw [List.length_replicate] at hq
  simp only [List.getD_eq_getElem?_getD, List.getElem?_take, List.getElem?_drop, List.getElem?_replicate, if_pos hq, Option.getD_some]
  have := hz q hq
  rw [List.getD_eq_getElem?_getD] at this
  exact this
/-- A share's bytes ahead of its code. -/
def frontL (m : List F) (s : Nat) : List F := [m.getD 0 0, m.getD 1 0, m.getD 2 0, m.getD 3 0, m.getD 4 0] ++ (m.drop 5).take (s + 4)
theorem front_eq (m : List F) (s U : Nat) (hU : unc s = U) (hn : m.length = U + 4) (hz : ∀ j, j < (9 + s) % 2 → m.getD (9 + s + j) 0 = 0) : frontL m s ++ List.replicate ((9 + s) % 2) 0 = m.take U ∧ (m.take U).length = U ∧ (m.drop U).length = 4 ∧ m.take U ++ m.drop U = m ∧ (frontL m s).length = 9 + s := by
  have hU2 : U = 9 + s + (9 + s) % 2 := by rw [← hU]; unfold unc; omega
  refine ⟨?_, by rw [List.length_take]; omega, by rw [List.length_drop]; omega, List.take_append_drop U m, ?_⟩
  · rw [← take_fill m (9 + s) ((9 + s) % 2) (by omega) hz]
    unfold frontL
    rw [← take_five m (by omega), show 9 + s = 5 + (s + 4) by omega]
    rw [show m.take 5 ++ (m.drop 5).take (s + 4) = m.take (5 + (s + 4)) from (List.take_add ..).symm, ← List.take_add, hU2]
    congr 1
    omega
  · unfold frontL
    rw [List.length_append, List.length_take, List.length_drop]
    simp
    omega
theorem setN_parts (m : List F) (b0 b1 : Nat) (h0 : (m.getD 0 0).1 = b0) (h1 : (m.getD 1 0).1 = b1) : setN m = b0 * 256 + b1 := by unfold setN; rw [h0, h1]
theorem set_num (b0 b1 sn nd ix s : Nat) (h0 : b0 < 256) (h1 : b1 < 256) (hs : b0 * 256 + b1 = sn) (h2 : nd < 256) (h3 : ix < 256) (h4 : s < 256) : (sn : Int).tdiv 256 = (b0 : Int) ∧ (sn : Int).tmod 256 = (b1 : Int) ∧ (sn : Int) / 256 = (b0 : Int) ∧ (sn : Int) % 256 = (b1 : Int) ∧ IntKind.u8.wrap (b0 : Int) = (b0 : Int) ∧ IntKind.u8.wrap (b1 : Int) = (b1 : Int) ∧ IntKind.u8.wrap (nd : Int) = (nd : Int) ∧ IntKind.u8.wrap (ix : Int) = (ix : Int) ∧ IntKind.u8.wrap (s : Int) = (s : Int) := by
  refine ⟨?_, ?_, by omega, by omega, wraps_u8 _ (by omega) (by omega), wraps_u8 _ (by omega) (by omega), wraps_u8 _ (by omega) (by omega), wraps_u8 _ (by omega) (by omega), wraps_u8 _ (by omega) (by omega)⟩
  · rw [Int.tdiv_eq_ediv_of_nonneg (by omega)]; omega
  · rw [Int.tmod_eq_emod_of_nonneg (by omega)]; omega
set_option maxHeartbeats 3200000 in
set_option maxRecDepth 100000 in
theorem bytes_ok (g c' : Nat) (m : List F) (w : World) (hm : okF m) (hz : sumL m = [0, 0, 0, 0]) (h : Rx w g ((m.drop 5).take ((m.getD 4 0).1 + 4))) : Calls Tryd.prog 20 #[.agg (tds m).toArray, .slice (some ⟨g, 0, none⟩) ((m.getD 4 0).1 + 4) c'] w fun e w' => Hid (∃ g9 c9, e = .returned (.slice (some ⟨g9, 0, none⟩) m.length c9) ∧ (m.length ≤ c9 ∧ c9 ≤ 9223372036854775807) ∧ Rx w' g9 m ∧ Below w.heap.size w w') := by
  obtain ⟨M, HMM⟩ : ∃ M, Hid (w.heap.size = M) := ⟨_, rfl⟩
  have HT : Hid (tds m = [.int .u16 (setN m : Nat), .int .i64 ((m.getD 2 0).1 : Nat), .int .i64 ((m.getD 3 0).1 : Nat), .int .i64 ((m.getD 4 0).1 : Nat)]) := by show _ = _; rfl
  obtain ⟨hk1, hk2, hk3, hk4, hk5⟩ := hm
  obtain ⟨b0, Hb0⟩ : ∃ q : Nat, Hid ((m.getD 0 0).1 = q) := ⟨_, rfl⟩
  obtain ⟨b1, Hb1⟩ : ∃ q : Nat, Hid ((m.getD 1 0).1 = q) := ⟨_, rfl⟩
  obtain ⟨nd, Hnd⟩ : ∃ q : Nat, Hid ((m.getD 2 0).1 = q) := ⟨_, rfl⟩
  obtain ⟨ix, Hix⟩ : ∃ q : Nat, Hid ((m.getD 3 0).1 = q) := ⟨_, rfl⟩
  obtain ⟨s, Hs⟩ : ∃ q : Nat, Hid ((m.getD 4 0).1 = q) := ⟨_, rfl⟩
  obtain ⟨sn, Hsn⟩ : ∃ q : Nat, Hid (setN m = q) := ⟨_, rfl⟩
  rw [HT.out, Hsn.out, Hnd.out, Hix.out, Hs.out]
  rw [Hs.out] at h hk3 hk4 hk5
  obtain ⟨U, HU⟩ : ∃ q, Hid (unc s = q) := ⟨_, rfl⟩
  rw [HU.out] at hk4
  have HF := front_eq m s U HU.out hk4 hk5
  have HFR : Hid (frontL m s ++ List.replicate ((9 + s) % 2) 0 = m.take U ∧ (m.take U).length = U ∧ (m.drop U).length = 4 ∧ m.take U ++ m.drop U = m ∧ (frontL m s).length = 9 + s) := HF
  have HUN : Hid (U = 9 + s + (9 + s) % 2 ∧ 1 ≤ s ∧ s ≤ 64 ∧ m.length = U + 4) := ⟨by rw [← HU.out]; unfold unc; omega, hk3.1, hk3.2, hk4⟩
  have HV : Hid (Rx w g ((m.drop 5).take (s + 4)) ∧ ((m.drop 5).take (s + 4)).length = s + 4) := ⟨h, by rw [List.length_take, List.length_drop]; have := HUN.out; omega⟩
  obtain ⟨vs, HVS⟩ : ∃ q, Hid ((m.drop 5).take (s + 4) = q) := ⟨_, rfl⟩
  rw [HVS.out] at HV
  have HHD : Hid (fc (frontL m s) = [.int .u8 (b0 : Nat), .int .u8 (b1 : Nat), .int .u8 (nd : Nat), .int .u8 (ix : Nat), .int .u8 (s : Nat)] ++ fc vs) := by
    show _ = _
    unfold frontL
    rw [fc_app, HVS.out, ← Hb0.out, ← Hb1.out, ← Hnd.out, ← Hix.out, ← Hs.out]
    rfl
  obtain ⟨n1, n2, n3, n4, n5, n6, n7, n8, n9⟩ := set_num b0 b1 sn nd ix s (by rw [← Hb0.out]; exact (m.getD 0 0).2) (by rw [← Hb1.out]; exact (m.getD 1 0).2) (by rw [← Hsn.out]; exact (setN_parts m b0 b1 Hb0.out Hb1.out).symm) (by rw [← Hnd.out]; exact (m.getD 2 0).2) (by rw [← Hix.out]; exact (m.getD 3 0).2) (by rw [← Hs.out]; exact (m.getD 4 0).2)
  have H22 : Hid (∀ (g c : Nat) u, Rx u g (m.take U) → Calls Tryd.prog 30 #[.slice (some ⟨g, 0, none⟩) U c] u fun e w' => CodQ (m.take U) (m.drop U) U u.heap.size e u w') := fun g c u hu => coded_ok g 0 U c (m.take U) (m.drop U) u HFR.out.2.1 (by have := HUN.out; omega) (by have := HUN.out; omega) hu.rw HFR.out.2.2.1 (by rw [HFR.out.2.2.2.1]; exact hz)
  have hb0 : b0 < 256 := by rw [← Hb0.out]; exact (m.getD 0 0).2
  have n10 : IntKind.u16.wrap (b0 : Int) = (b0 : Int) := wraps_u16' _ (by omega) (by omega)
  have n11 : (b0 : Int) % 256 = (b0 : Int) := by omega
  clear hb0
  obtain ⟨i0, hi, hz0, hz1, hz2⟩ := info_parts Tryd.infoB
  clear h hk1 hk2 hk3 hk4 hk5 HF hz
  go_enter Tryd.func20, Tryd.ntmps20
  go_upto_region 2 with fail
  obtain ⟨w1, hw1⟩ : ∃ u, u = w.alloc (.cells #[.int .u16 (sn : Nat), .int .i64 (nd : Nat), .int .i64 (ix : Nat), .int .i64 (s : Nat)] 48) := ⟨_, rfl⟩
  have HW1 : Hid (w1.heap.size = w.heap.size + 1 ∧ Below M w w1) := by rw [hw1, ← HMM.out]; exact ⟨by simp, (Below.refl _ _).alloc (Nat.le_refl _) _⟩
  obtain ⟨w2, hw2⟩ : ∃ u, u = w1.alloc (.cells #[.int .u8 (b0 : Nat), .int .u8 (b1 : Nat), .int .u8 (nd : Nat), .int .u8 (ix : Nat), .int .u8 (s : Nat)] 5) := ⟨_, rfl⟩
  have H2 : Hid (w2.ownsRow M 5 1 (.slice (some ⟨w.heap.size + 1, 0, none⟩) 5 5) 5 [.int .u8 (b0 : Nat), .int .u8 (b1 : Nat), .int .u8 (nd : Nat), .int .u8 (ix : Nat), .int .u8 (s : Nat)] ∧ Below M w w2 ∧ M ≤ w2.heap.size) := by
    have hs1 : M ≤ w1.heap.size := bel_size HW1.out.2 HMM.out
    have hb : Below M w w2 := by rw [hw2]; exact HW1.out.2.alloc hs1 _
    refine ⟨?_, hb, bel_size hb HMM.out⟩
    rw [hw2, ← HW1.out.1]
    exact World.ownsRow_lit w1 #[.int .u8 (b0 : Nat), .int .u8 (b1 : Nat), .int .u8 (nd : Nat), .int .u8 (ix : Nat), .int .u8 (s : Nat)] 5 hs1 (by decide) rfl
  rw [← hw1, ← hw2]
  clear hw1 hw2 HW1 n10 n11 n1 n2 n3 n4 n5 n6 n7 n8 n9
  have HV2 : Hid (Rx w2 g vs) := HV.out.1.below (by rw [HMM.out]; exact H2.out.2.1)
  go_upto_region 3 with (at_builtin; go_must (refine wpList_append_own _ rfl (.tmp 24) (.tmp 25) 23 rfl M 5 i0 (.int .u8 0) 1 1 Tryd.underlying23 hi hz0 hz1 hz2 rfl (by decide) _ 5 _ rfl H2.out.1 ⟨g, 0, none⟩ (s + 4) c' (fc vs) rfl (by rw [fc_len, HV.out.2]; omega) (rx_cells HV2.out) (fc_one _) (by have := HUN.out; unfold maxLen; omega) (by have := HUN.out; omega) H2.out.2.2 ?_; intro v3 w3 hown hgrow hnil; have H3 : Hid (w3.ownsRow M 5 1 v3 (9 + s) (fc (frontL m s)) ∧ Below M w w3 ∧ M ≤ w3.heap.size) := ⟨by rw [HHD.out, show 9 + s = 5 + (s + 4) by omega]; exact hown, H2.out.2.1.grown hgrow H2.out.2.2 (fun q hq => (H2.out.1.lt q hq).1), Nat.le_trans H2.out.2.2 hgrow.size⟩; clear hown hgrow hnil))
  clear H2 HV2
  obtain ⟨g3, c3, rfl, HG3⟩ := own_rx (l := frontL m s) (by rw [HFR.out.2.2.2.2]; exact H3.out.1) (by rw [HFR.out.2.2.2.2]; omega)
  rw [HFR.out.2.2.2.2] at H3 ⊢
  have HEND : Hid (∀ e u v, Below M w u → CodQ (m.take U) (m.drop U) U u.heap.size e u v → ∃ g9 c9, e = .returned (.slice (some ⟨g9, 0, none⟩) m.length c9) ∧ (m.length ≤ c9 ∧ c9 ≤ 9223372036854775807) ∧ Rx v g9 m ∧ Below M w v) := fun e u v hu hq => by
    obtain ⟨g9, c9, rfl, q1, q2, q3⟩ := hq
    rw [HFR.out.2.2.2.1] at q2
    exact ⟨g9, c9, by rw [HUN.out.2.2.2], by rw [HUN.out.2.2.2]; exact q1, q2, hu.trans (q3.mono (bel_size hu HMM.out))⟩
  by_cases hp : (9 + s) % 2 = 1
  case pos =>
    have r1 : ((9 + s : Nat) : Int).tmod 2 = 1 := by rw [Int.tmod_eq_emod_of_nonneg (by omega)]; omega
    have r2 : ((9 : Int) + (s : Int)).tmod 2 = 1 := by rw [Int.tmod_eq_emod_of_nonneg (by omega)]; omega
    have HE : Hid (fc (frontL m s) ++ [.int .u8 0] = fc (m.take U) ∧ 9 + s + 1 = U) := by
      refine ⟨?_, by have := HUN.out; omega⟩
      rw [← HFR.out.1, hp, fc_app]
      rfl
    clear hp
    go_upto_region 5 with (at_builtin; go_must (refine wpList_append_own _ rfl (.tmp 31) (.tmp 32) 23 rfl M 5 i0 (.int .u8 0) 1 1 Tryd.underlying23 hi hz0 hz1 hz2 rfl (by decide) _ (9 + s) _ rfl (H3.out.1.alloc _) ⟨w3.heap.size, 0, none⟩ 1 1 [.int .u8 0] rfl rfl (one_cell w3 _ 5) (one_u8 _) (by have := HUN.out; unfold maxLen; omega) (by have := HUN.out; omega) (by have := H3.out.2.2; simp; omega) ?_; intro v4 w4 hown hgrow hnil; have H4 : Hid (w4.ownsRow M 5 1 v4 U (fc (m.take U)) ∧ Below M w w4) := ⟨by rw [← HE.out.1, ← HE.out.2]; exact hown, (H3.out.2.1.alloc H3.out.2.2 _).grown hgrow (by have := H3.out.2.2; simp; omega) (fun q hq => (H3.out.1.lt q hq).1)⟩; clear hown hgrow hnil))
    obtain ⟨g4, c4, rfl, HG4⟩ := own_rx (l := m.take U) (by rw [HFR.out.2.1]; exact H4.out.1) (by rw [HFR.out.2.1]; have := HUN.out; omega)
    rw [HFR.out.2.1]
    go_wp2_with (go_at_call 30; refine (H22.out g4 c4 w4 HG4.out.1).mono ?_; intro e5 w5 hh; have HQ := HEND.out e5 w4 w5 H4.out.2 hh; obtain ⟨g9, c9, rfl, q1, q2, q3⟩ := HQ; have HQ2 : Hid ((m.length ≤ c9 ∧ c9 ≤ 9223372036854775807) ∧ Rx w5 g9 m ∧ Below M w w5) := ⟨q1, q2, q3⟩; clear hh q1 q2 q3)
    go_ret
    exact ⟨g9, c9, rfl, HQ2.out.1, HQ2.out.2.1, by rw [HMM.out]; exact HQ2.out.2.2⟩
  case neg =>
    have r1 : ((9 + s : Nat) : Int).tmod 2 = 0 := by rw [Int.tmod_eq_emod_of_nonneg (by omega)]; omega
    have r2 : ((9 : Int) + (s : Int)).tmod 2 = 0 := by rw [Int.tmod_eq_emod_of_nonneg (by omega)]; omega
    have HE : Hid (frontL m s = m.take U ∧ 9 + s = U) := by
      have h0 : (9 + s) % 2 = 0 := by omega
      refine ⟨?_, by have := HUN.out; omega⟩
      rw [← HFR.out.1, h0]
      simp
    clear hp
    have HG4 : Hid (Rx w3 g3 (m.take U)) := by rw [← HE.out.1]; exact HG3.out.1
    go_upto_region 5 with fail
    rw [HE.out.2]
    go_wp2_with (go_at_call 30; refine (H22.out g3 c3 w3 HG4.out).mono ?_; intro e5 w5 hh; have HQ := HEND.out e5 w3 w5 H3.out.2.1 hh; obtain ⟨g9, c9, rfl, q1, q2, q3⟩ := HQ; have HQ2 : Hid ((m.length ≤ c9 ∧ c9 ≤ 9223372036854775807) ∧ Rx w5 g9 m ∧ Below M w w5) := ⟨q1, q2, q3⟩; clear hh q1 q2 q3)
    go_ret
    exact ⟨g9, c9, rfl, HQ2.out.1, HQ2.out.2.1, by rw [HMM.out]; exact HQ2.out.2.2⟩
end Go.Proofs.YtbpkocohddlbhaaDoor
namespace Go.Proofs.YtbpkocohddlbhaaDoor
open Go.RowKit
set_option linter.unusedVariables false
set_option linter.unusedSimpArgs false
set_option maxRecDepth 100000
theorem rwordsF_ok (g o n c : Nat) (l : List F) (w : World) (hl : l.length = n) (hn : n ≤ 3000) (hnc : n ≤ c) (hcm : c ≤ 9223372036854775807) (h : Rw w g o l) : Calls Tryd.prog 19 #[.slice (some ⟨g, o, none⟩) n c] w fun e w' => e = .returned (.string (WLs l)) ∧ Below w.heap.size w w' := by
  have q := rwords_core g o n c (l.map fun a => (a.1 : Int)) w hn (fun i => by rw [mapI_at]; have := (l.getD i 0).2; omega) hnc hcm (fun i hi => by rw [mapI_at]; exact h i (by omega))
  unfold WLs
  rw [hl]
  exact q
end Go.Proofs.YtbpkocohddlbhaaDoor
namespace Go.Proofs.YtbpkocohddlbhaaDoor
open Go.RowKit
set_option linter.unusedVariables false
set_option linter.unusedSimpArgs false
set_option maxRecDepth 100000
theorem sumD_bytes (h : Int) (zs : List Int) : AllBytes (sumD h zs) := fun i => by
  unfold sumD
  rw [List.getD_eq_getElem?_getD, List.getElem?_take]
  split
  · unfold spellL
    rw [List.getElem?_map]
    cases (List.range 64)[i]? with
    | none => simp
    | some q => simp only [Option.map_some, Option.getD_some]; unfold spellAt; omega
  · simp
/-- Bytes as numbers, and back. -/
def zi (l : List F) : List Int := l.map fun c => ((c.1 : Nat) : Int)
def fI (z : Int) : F := ⟨z.toNat % 256, Nat.mod_lt _ (by decide)⟩
theorem zi_len (l : List F) : (zi l).length = l.length := by simp [zi]
theorem zi_getD (l : List F) (i : Nat) (h : i < l.length) : (zi l).getD i 0 = ((l.getD i 0).1 : Nat) := by
  simp [zi, List.getD_eq_getElem?_getD, List.getElem?_map, List.getElem?_eq_getElem h]
theorem zi_app (a b : List F) : zi (a ++ b) = zi a ++ zi b := by simp [zi]
theorem zi_cells (l : List F) : cellsU8 (zi l) = fc l := by simp [zi, fc, cellsU8]
/-- A secret's check. -/
def ckL (b0 b1 : F) (l : List F) : List F := ((sumD 256 (zi ([b0, b1] ++ l))).take 4).map fI
theorem ck_len (b0 b1 : F) (l : List F) : (ckL b0 b1 l).length = 4 := by
  unfold ckL
  rw [List.length_map, List.length_take, sumD_length 256 (.inr (.inl rfl))]
  rfl
theorem ck_at (b0 b1 : F) (l : List F) (i : Nat) (h : i < 4) : (((ckL b0 b1 l).getD i 0).1 : Int) = (sumD 256 (zi ([b0, b1] ++ l))).getD i 0 := by
  have hl : (sumD 256 (zi ([b0, b1] ++ l))).length = 32 := sumD_length 256 (.inr (.inl rfl)) _
  have hb := sumD_bytes 256 (zi ([b0, b1] ++ l)) i
  unfold ckL
  simp only [List.getD_eq_getElem?_getD] at hb ⊢
  rw [List.getElem?_map, List.getElem?_take, if_pos h, List.getElem?_eq_getElem (by omega)] at *
  simp only [Option.map_some, Option.getD_some] at hb ⊢
  unfold fI
  simp only
  omega
theorem ck_cells (b0 b1 : F) (l : List F) : cellsU8 ((sumD 256 (zi ([b0, b1] ++ l))).take 4) = fc (ckL b0 b1 l) := by
  have hl : (sumD 256 (zi ([b0, b1] ++ l))).length = 32 := sumD_length 256 (.inr (.inl rfl)) _
  refine List.ext_getElem? fun i => ?_
  by_cases h : i < 4
  · rw [fc_at _ _ (by rw [ck_len]; exact h), ck_at b0 b1 l i h]
    unfold cellsU8
    rw [List.getElem?_map, List.getElem?_take, if_pos h, List.getD_eq_getElem?_getD, List.getElem?_eq_getElem (by omega)]
    rfl
  · rw [List.getElem?_eq_none (by rw [cellsU8_length, List.length_take]; omega), List.getElem?_eq_none (by rw [fc_len, ck_len]; omega)]
theorem rw_view {w : World} {b off n c : Nat} {l : List F} (h : Rw w b off l) (hl : l.length = n) (hc : n ≤ c) (hm : c ≤ maxLen) : View w (.slice (some ⟨b, off, none⟩) n c) (zi l) := by
  refine ⟨_, c, by rw [zi_len, hl], by rw [zi_len, hl]; exact hc, hm, (fun e => by cases e), Or.inr ⟨b, off, rfl, fun i hi => ?_⟩⟩
  rw [zi_len] at hi
  rw [zi_getD l i hi]
  exact h i hi
/-- A row: the secret and its check. -/
def rowS (b0 b1 : F) (l : List F) : List F := l ++ ckL b0 b1 l
theorem rowS_len (b0 b1 : F) (l : List F) : (rowS b0 b1 l).length = l.length + 4 := by unfold rowS; rw [List.length_append, ck_len]
/-- A polynomial's coefficients, that of the highest power first. -/
def cfL (R row : List F) (n nd i : Nat) : List F := (List.range nd).map fun t => if t + 1 < nd then R.getD ((nd - 2 - t) * n + i) 0 else row.getD i 0
theorem cfL_len (R row : List F) (n nd i : Nat) : (cfL R row n nd i).length = nd := by simp [cfL]
/-- The same, the constant one first, the first k of the random ones. -/
def cfR (R row : List F) (n i k : Nat) : List F := row.getD i 0 :: (List.range k).map fun j => R.getD (j * n + i) 0
theorem cfR_len (R row : List F) (n i k : Nat) : (cfR R row n i k).length = k + 1 := by simp [cfR]
theorem cfR_next (R row : List F) (n i k : Nat) : cfR R row n i (k + 1) = cfR R row n i k ++ [R.getD (k * n + i) 0] := by
  unfold cfR
  rw [List.range_succ, List.map_append]
  rfl
theorem cfR_rev (R row : List F) (n nd i : Nat) (h : 1 ≤ nd) : (cfR R row n i (nd - 1)).reverse = cfL R row n nd i := by
  refine list_same (by rw [List.length_reverse, cfR_len, cfL_len]; omega) fun q hq => ?_
  rw [cfL_len] at hq
  have e : nd - 1 + 1 = nd := by omega
  rw [List.getD_eq_getElem?_getD, List.getElem?_reverse (by rw [cfR_len]; omega), cfR_len, e]
  unfold cfL cfR
  rw [List.getD_eq_getElem?_getD (l := List.map _ _), List.getElem?_map, List.getElem?_range hq]
  simp only [Option.map_some, Option.getD_some]
  by_cases h1 : q + 1 < nd
  · rw [if_pos h1, show nd - 1 - q = (nd - 2 - q) + 1 by omega, List.getElem?_cons_succ, List.getElem?_map, List.getElem?_range (by omega)]
    rfl
  · rw [if_neg h1, show nd - 1 - q = 0 by omega, List.getElem?_cons_zero]
    rfl
theorem cf_val (R row : List F) (n nd i : Nat) (x : F) (h : 1 ≤ nd) : valF (cfR R row n i (nd - 1)) x = pv x (cfL R row n nd i) := by
  rw [← cfR_rev R row n nd i h, valF_rev]
/-- A share's values; its bytes ahead of its code; its line. -/
def valsL (R row : List F) (n nd : Nat) (x : F) : List F := (List.range n).map fun i => pv x (cfL R row n nd i)
theorem valsL_len (R row : List F) (n nd : Nat) (x : F) : (valsL R row n nd x).length = n := by simp [valsL]
def headL (b0 b1 bn bi bs : F) (s : Nat) (vs : List F) : List F := [b0, b1, bn, bi, bs] ++ vs ++ List.replicate ((9 + s) % 2) 0
def fullL (b0 b1 bn bi bs : F) (s : Nat) (vs : List F) : List F := headL b0 b1 bn bi bs s vs ++ codeL (headL b0 b1 bn bi bs s vs)
/-- A row of which some cells are filled. -/
def Cd (n : Nat) (D : Nat → Prop) (g : Nat → F) (cu : List Value) : Prop := cu.length = n ∧ (∀ i, i < n → D i → cu[i]? = some (.int .u8 ((g i).1 : Nat))) ∧ ∀ i, i < n → ∃ x : Int, cu[i]? = some (.int .u8 x)
theorem Cd.next {n k : Nat} {D D' : Nat → Prop} {g : Nat → F} {cu : List Value} (h : Cd n D g cu) (hk : k < n) (hd : ∀ i, D' i → D i ∨ i = k) : Cd n D' g (cu.set k (.int .u8 ((g k).1 : Nat))) := by
  refine ⟨by rw [List.length_set]; exact h.1, fun i hi hD => ?_, fun i hi => ?_⟩
  · by_cases e : k = i
    · subst e; rw [List.getElem?_set_self (by rw [h.1]; exact hk)]
    · rw [List.getElem?_set_ne e]
      rcases hd i hD with q | q
      · exact h.2.1 i hi q
      · exact absurd q.symm e
  · by_cases e : k = i
    · subst e; rw [List.getElem?_set_self (by rw [h.1]; exact hk)]; exact ⟨_, rfl⟩
    · rw [List.getElem?_set_ne e]; exact h.2.2 i hi
theorem Cd.all {n : Nat} {D : Nat → Prop} {g : Nat → F} {cu : List Value} (h : Cd n D g cu) (hd : ∀ i, i < n → D i) : cu = fc ((List.range n).map g) := by
  refine List.ext_getElem? fun i => ?_
  by_cases hi : i < n
  · rw [h.2.1 i hi (hd i hi), fc_at _ _ (by simp; exact hi)]
    simp [List.getD_eq_getElem?_getD, List.getElem?_range hi]
  · rw [List.getElem?_eq_none (by rw [h.1]; omega), List.getElem?_eq_none (by rw [fc_len]; simp; omega)]
theorem Cd.zero (n : Nat) (g : Nat → F) : Cd n (fun _ => False) g (List.replicate n (.int .u8 0)) :=
  ⟨by simp, fun i _ h => h.elim, fun i hi => ⟨0, by simp [hi]⟩⟩
end Go.Proofs.YtbpkocohddlbhaaDoor
namespace Go.Proofs.YtbpkocohddlbhaaDoor
open Go.RowKit
set_option linter.unusedVariables false
set_option linter.unusedSimpArgs false
set_option maxRecDepth 100000
theorem infoShare : (Tryd.prog.info? 48).map (·.zero) = some (some (.agg #[.int .u16 0, .int .i64 0, .int .i64 0, .int .i64 0])) := by kernel_rfl
def ZS : List Value := [.int .u16 0, .int .i64 0, .int .i64 0, .int .i64 0]
theorem alloc48_run (w : World) : (execOp (fun _ => undef) { dst := some 0, op := Op.alloc 48, type := 0, pos := "", after := #[], guard := none }).run Tryd.prog w = .ok (.value (.pointer (some ⟨w.heap.size, 0, none⟩))) (w.alloc (.cells ZS.toArray 48)) := by kernel_rfl
theorem step_alloc48 {ops : Array Oper} {o : Oper} {a : Act} {w : World} {K : Act → World → Prop} {Q : Exit → Act → World → Prop} {E : Prop} (hgd : o.guard = none) (d : Nat) (hd : o.dst = some d) (ho : o.op = .alloc 48)
    (h : ∀ u b, Hid (u = w.alloc (.cells ZS.toArray 48)) → Hid (b = w.heap.size) → K (a.put (some d) (.pointer (some ⟨b, 0, none⟩))) u) : if Region.wanted o (yielded ops a.tmps) = true then Oper.wp Tryd.prog o a w K Q else E := by
  have hw : Region.wanted o (yielded ops a.tmps) = true := by simp [Region.wanted, hgd]
  rw [if_pos hw]
  have z := h _ _ rfl rfl
  rw [← hd] at z
  have q : (execOp a.eval o).run Tryd.prog w = .ok (.value (.pointer (some ⟨w.heap.size, 0, none⟩))) (w.alloc (.cells ZS.toArray 48)) := by
    have e := alloc48_run w
    simp only [execOp, ho] at e ⊢
    exact e
  unfold Oper.wp
  rw [q]
  exact z
theorem step_store_bx {P : Program} {ops : Array Oper} {o : Oper} {a : Act} {w : World} {K : Act → World → Prop} {Q : Exit → Act → World → Prop} {E : Prop} (hgd : o.guard = none) (t : TypeId) (x y : Operand) (ho : o.op = .store t x y) {bt : TypeId} (c c' : List Value) (g : Nat) (hx : a.eval x = .pointer (some ⟨g, 0, none⟩)) (hy : a.eval y = .agg c'.toArray)
    (hb : Bx w g bt c) (hl : c'.length = c.length) (hi : (P.info? t).map (·.size) = some c'.length) (h1 : ∀ v ∈ c', v.oneCell' = true) (h : ∀ u, Hid (Bx u g bt c') → Hid (w.grownBy u (some g)) → K a u) (hdn : o.dst = none := by rfl) :
    if Region.wanted o (yielded ops a.tmps) = true then Oper.wp P o a w K Q else E := by
  have hw : Region.wanted o (yielded ops a.tmps) = true := by simp [Region.wanted, hgd]
  rw [if_pos hw]
  refine wp_store_mid t x y ho g 0 c'.toArray hx hy (fun j hj => ?_) (by simpa using hi) (all_oneCell_toArray h1) (by rw [hdn]; exact h _ (hb.store c' hl) (setCells_gb g _ 0 w))
  rw [Nat.zero_add]
  have hj' : j < c.length := by rw [← hl]; simpa using hj
  refine ⟨?_, hb.frozen j⟩
  rw [hb.cell j _ (List.getElem?_eq_getElem hj')]
  rfl
set_option maxHeartbeats 3200000 in
/-- A share's line. -/
theorem line_ok (sn nd ix s n m U N LB lc : Nat) (b0 b1 bn bi bs : F) (C : Nat → List F) (p q : Nat → Nat) (w : World) (hs : Hid (b0.1 * 256 + b1.1 = sn)) (hbn : Hid (bn.1 = nd)) (hbi : Hid (bi.1 = ix)) (hbs : Hid (bs.1 = s)) (hU : Hid (U = unc s ∧ N = U + 4 ∧ n = s + 4 ∧ m ≤ 4000)) (hp : Hid (PolI LB n m C p q w)) :
    Calls Tryd.prog 23 #[.agg #[.int .u16 (sn : Nat), .int .i64 (nd : Nat), .slice (some ⟨LB, 0, none⟩) n lc], .int .i64 (ix : Nat)] w fun e w' => Hid (e = .returned (.string (WLs (fullL b0 b1 bn bi bs s ((List.range n).map fun i => pv bi (C i))))) ∧ Below w.heap.size w w') := by
  have HSS : Hid (s < 256 ∧ n ≤ 1000 ∧ ix < 256 ∧ s + 4 = n ∧ N ≤ 1000 ∧ nd < 256 ∧ sn < 65536) := by
    have := bs.2; have := bi.2; have := hbs.out; have := hbi.out; have := bn.2; have := hbn.out; have := b0.2; have := b1.2; have := hs.out
    have h2 := hU.out
    have h3 := h2.1
    unfold unc at h3
    exact ⟨by omega, by omega, by omega, by omega, by omega, by omega, by omega⟩
  obtain ⟨M, HMM⟩ : ∃ M, Hid (w.heap.size = M) := ⟨_, rfl⟩
  obtain ⟨SD, HSD⟩ : ∃ q : List Value, Hid ([.int .u16 (sn : Nat), .int .i64 (nd : Nat), .slice (some ⟨LB, 0, none⟩) n lc] = q) := ⟨_, rfl⟩
  obtain ⟨TD, HTD⟩ : ∃ q : List Value, Hid ([.int .u16 (sn : Nat), .int .i64 (nd : Nat), .int .i64 (ix : Nat), .int .i64 (s : Nat)] = q) := ⟨_, rfl⟩
  have HTL : Hid (TD.length = 4 ∧ ∀ v ∈ TD, v.oneCell' = true) := by rw [← HTD.out]; refine ⟨rfl, fun v hv => ?_⟩; simp at hv; rcases hv with rfl | rfl | rfl | rfl <;> rfl
  have hi5 : (Tryd.prog.info? 52).map (·.size) = some SD.length := by rw [← HSD.out]; kernel_rfl
  have hi7 : (Tryd.prog.info? 48).map (·.size) = some TD.length := by rw [HTL.out.1]; kernel_rfl
  obtain ⟨w1, hw1⟩ : ∃ w1, w1 = w.alloc (.cells #[.int .u16 (sn : Nat), .int .i64 (nd : Nat), .slice (some ⟨LB, 0, none⟩) n lc] 52) := ⟨_, rfl⟩
  have HS0 : Hid (Bx w1 M 52 SD ∧ Below M w w1) := by
    have hb0 : Below w.heap.size w w1 := by rw [hw1]; exact (Below.refl _ _).alloc (Nat.le_refl _) _
    rw [← HMM.out, ← HSD.out]
    exact ⟨by rw [hw1]; exact Bx.new w 52 _, hb0⟩
  have HSC : Hid (∀ u, Bx u M 52 SD → u.cell? ⟨M, 0, none⟩ = some (.int .u16 (sn : Nat)) ∧ u.cell? ⟨M, 1, none⟩ = some (.int .i64 (nd : Nat)) ∧ u.cell? ⟨M, 2, none⟩ = some (.slice (some ⟨LB, 0, none⟩) n lc)) := fun u h => by
    rw [← HSD.out] at h
    exact ⟨h.cell 0 _ rfl, h.cell 1 _ rfl, h.cell 2 _ rfl⟩
  have H34 : Hid (∀ u, Calls Tryd.prog 34 #[.agg SD.toArray] u fun e w' => Hid (e = .returned (.int .i64 (s : Nat)) ∧ Below u.heap.size u w')) := fun u => by
    rw [← HSD.out]
    exact size_ok sn nd LB n lc s (show n = s + 4 ∧ n ≤ 1000 from ⟨hU.out.2.2.1, HSS.out.2.1⟩) u
  obtain ⟨VS, HVS⟩ : ∃ q : List F, Hid (q = (List.range n).map fun i => pv bi (C i)) := ⟨(List.range n).map fun i => pv bi (C i), show _ = _ from rfl⟩
  rw [← HVS.out]
  have HVL : Hid (VS.length = n) := by show _ = _; rw [HVS.out]; simp
  obtain ⟨FU, HFF⟩ : ∃ q : List F, Hid (q = fullL b0 b1 bn bi bs s VS) := ⟨fullL b0 b1 bn bi bs s VS, show _ = _ from rfl⟩
  have HFL : Hid (FU.length = N) := by
    show _ = _
    have h1 := hU.out
    have h2 := h1.1
    unfold unc at h2
    have h3 := HVL.out
    rw [HFF.out]
    unfold fullL headL
    rw [List.length_append, codeL_len]
    simp
    omega
  have H35 : Hid (∀ u gr, Bx u gr 5 (fc FU) → Calls Tryd.prog 35 #[.slice (some ⟨gr, 0, none⟩) N N] u fun e w' => Hid (e = .returned (.string (WLs FU)) ∧ Below u.heap.size u w')) := fun u gr hu => (wordsF_ok gr 0 N N FU u HFL.out (by have := HSS.out; omega) (Nat.le_refl _) (by have := HSS.out; omega) (bx_rw hu)).mono fun e w' hh => hh
  rw [← HFF.out]
  go_enter Tryd.func23, Tryd.ntmps23
  go_upto_region 1 with fail
  rw [← hw1, HMM.out]
  clear hw1
  go_cut [5] from 6 to 14 (fun vt wx => ∃ g : Nat, vt = .pointer (some ⟨g, 0, none⟩) ∧ Hid (Bx wx M 52 SD ∧ Below M w wx ∧ Bx wx g 48 TD ∧ M < g))
  case first =>
    have hS0 : Bx w1.drew M 52 SD ∧ Below M w w1.drew := ⟨HS0.out.1.keep rfl, HS0.out.2.drew⟩
    refine wp_region_noPanic ?_
    refine wp_region_held_drew (S := (fun u => Bx u M 52 SD ∧ Below M w u)) (by kernel_rfl) (hS0) (fun _ => ?_)
    refine takeH_at 0 6 (.pointer (some ⟨M, 0, none⟩)) rfl rfl (by kernel_rfl) (by kernel_rfl) (by kernel_rfl) (fun _ _ _ h => h) (hS0) (Or.inl ⟨by rfl, fun w' hS' => by obtain ⟨k0, k1, k2⟩ := HSC.out _ hS'.1; go_simp⟩) ?_
    try simp only [List.setIfInBounds_toArray, List.set_cons_zero, List.set_cons_succ]
    refine takeH_at 1 7 (.int .u16 (sn : Nat)) rfl rfl (by kernel_rfl) (by kernel_rfl) (by kernel_rfl) (fun _ _ _ h => h) (hS0) (Or.inl ⟨by rfl, fun w' hS' => by obtain ⟨k0, k1, k2⟩ := HSC.out _ hS'.1; go_simp⟩) ?_
    try simp only [List.setIfInBounds_toArray, List.set_cons_zero, List.set_cons_succ]
    refine takeH_at 2 8 (.pointer (some ⟨M, 1, none⟩)) rfl rfl (by kernel_rfl) (by kernel_rfl) (by kernel_rfl) (fun _ _ _ h => h) (hS0) (Or.inl ⟨by rfl, fun w' hS' => by obtain ⟨k0, k1, k2⟩ := HSC.out _ hS'.1; go_simp⟩) ?_
    try simp only [List.setIfInBounds_toArray, List.set_cons_zero, List.set_cons_succ]
    refine takeH_at 3 9 (.int .i64 (nd : Nat)) rfl rfl (by kernel_rfl) (by kernel_rfl) (by kernel_rfl) (fun _ _ _ h => h) (hS0) (Or.inl ⟨by rfl, fun w' hS' => by obtain ⟨k0, k1, k2⟩ := HSC.out _ hS'.1; go_simp⟩) ?_
    try simp only [List.setIfInBounds_toArray, List.set_cons_zero, List.set_cons_succ]
    refine takeH_at 4 10 (.int .i64 (ix : Nat)) rfl rfl (by kernel_rfl) (by kernel_rfl) (by kernel_rfl) (fun _ _ _ h => h) (hS0) (Or.inl ⟨by rfl, fun w' hS' => by obtain ⟨k0, k1, k2⟩ := HSC.out _ hS'.1; go_simp⟩) ?_
    try simp only [List.setIfInBounds_toArray, List.set_cons_zero, List.set_cons_succ]
    refine takeH_at 5 11 (.agg SD.toArray) rfl rfl (by kernel_rfl) (by kernel_rfl) (by kernel_rfl) (fun _ _ _ h => h) (hS0) (yieldsIf_load_mid (by rfl) 52 (.tmp 2) rfl M 0 rfl SD _ (fun u hu => hu.1.range) Tryd.underlying52 rfl hi5) ?_
    try simp only [List.setIfInBounds_toArray, List.set_cons_zero, List.set_cons_succ]
    refine wpAnyH_ready (rs := [6, 8]) (by kernel_rfl) (by simp) ?_
    refine AllReadyH.cons rfl (fun KK hK => ?_) (AllReadyH.cons rfl (fun KK hK => ?_) AllReadyH.nil)
    · skip
      go_simp
      refine (H34.out _).mono ?_
      intro e q1 hh
      obtain ⟨rfl, hb⟩ := hh.out
      have HQ1 : Hid (Bx q1 M 52 SD ∧ Below M w q1) := ⟨hS0.1.below hb, hS0.2.trans (hb.mono (Nat.le_of_lt hS0.1.lt))⟩
      clear hh hb
      go_wp2_with fail
      refine hK.out _ _ (HQ1.out) (fun _ => ?_)
      clear hK KK
      try simp only [List.setIfInBounds_toArray, List.set_cons_zero, List.set_cons_succ]
      refine takeH_at 7 13 (.agg TD.toArray) rfl rfl (by kernel_rfl) (by kernel_rfl) (by kernel_rfl) (fun _ _ _ h => h) (HQ1.out) (Or.inl ⟨by rfl, fun w' hS' => by rw [← HTD.out]; go_simp⟩) ?_
      try simp only [List.setIfInBounds_toArray, List.set_cons_zero, List.set_cons_succ]
      refine wpAnyH_ready (rs := [8]) (by kernel_rfl) (by simp) ?_
      refine AllReadyH.cons rfl (fun KK hK => ?_) AllReadyH.nil
      refine step_alloc48 rfl 5 rfl rfl ?_
      intro q2 b2 hu hb
      have HQ2 : Hid (Bx q2 M 52 SD ∧ Below M w q2) := by rw [hu.out]; exact ⟨HQ1.out.1.below ((Below.refl _ _).alloc (Nat.le_refl _) _), HQ1.out.2.alloc (Nat.le_of_lt HQ1.out.1.lt) _⟩
      have HZ2 : Hid (Bx q2 b2 48 ZS ∧ M < b2) := by rw [hu.out, hb.out]; exact ⟨Bx.new _ 48 ZS, HQ1.out.1.lt⟩
      clear hu hb
      refine hK.out _ _ (HQ2.out) (fun _ => ?_)
      clear hK KK
      try simp only [List.setIfInBounds_toArray, List.set_cons_zero, List.set_cons_succ]
      refine wpAnyH_ready (rs := [9]) (by kernel_rfl) (by simp) ?_
      refine AllReadyH.cons rfl (fun KK hK => ?_) AllReadyH.nil
      refine step_store_bx rfl 48 (.tmp 5) (.tmp 13) rfl ZS TD b2 rfl rfl HZ2.out.1 (by rw [HTL.out.1]; rfl) hi7 HTL.out.2 ?_
      intro u9 HB9 HG9
      have H9 : Hid (Bx u9 M 52 SD ∧ Below M w u9 ∧ Bx u9 b2 48 TD ∧ M < b2) := ⟨HQ2.out.1.keep (HG9.out.block M HQ2.out.1.lt (fun e => by injection e with e; exact absurd e (Nat.ne_of_lt HZ2.out.2))), HQ2.out.2.trans (below_gb HG9.out (Nat.le_of_lt HQ2.out.1.lt) (Nat.le_of_lt HZ2.out.2)), HB9.out, HZ2.out.2⟩
      clear HB9 HG9
      refine hK.out _ _ (⟨H9.out.1, H9.out.2.1⟩) (fun _ => ?_)
      clear hK KK
      try simp only [List.setIfInBounds_toArray, List.set_cons_zero, List.set_cons_succ]
      refine wpAnyH_done (by kernel_rfl) ?_ _
      refine NoPanic.normal ?_
      go_wp2_with fail
      go_meet
      exact ⟨b2, rfl, H9⟩
    · skip
      refine step_alloc48 rfl 5 rfl rfl ?_
      intro q3 b3 hu hb
      have HQ3 : Hid (Bx q3 M 52 SD ∧ Below M w q3) := by rw [hu.out]; exact ⟨hS0.1.below ((Below.refl _ _).alloc (Nat.le_refl _) _), hS0.2.alloc (Nat.le_of_lt hS0.1.lt) _⟩
      have HZ3 : Hid (Bx q3 b3 48 ZS ∧ M < b3) := by rw [hu.out, hb.out]; exact ⟨Bx.new _ 48 ZS, hS0.1.lt⟩
      clear hu hb
      refine hK.out _ _ (HQ3.out) (fun _ => ?_)
      clear hK KK
      try simp only [List.setIfInBounds_toArray, List.set_cons_zero, List.set_cons_succ]
      refine wpAnyH_ready (rs := [6]) (by kernel_rfl) (by simp) ?_
      refine AllReadyH.cons rfl (fun KK hK => ?_) AllReadyH.nil
      go_simp
      refine (H34.out _).mono ?_
      intro e q4 hh
      obtain ⟨rfl, hb⟩ := hh.out
      have HQ4 : Hid (Bx q4 M 52 SD ∧ Below M w q4) := ⟨HQ3.out.1.below hb, HQ3.out.2.trans (hb.mono (Nat.le_of_lt HQ3.out.1.lt))⟩
      have HZ4 : Hid (Bx q4 b3 48 ZS ∧ M < b3) := ⟨HZ3.out.1.below hb, HZ3.out.2⟩
      clear hh hb
      go_wp2_with fail
      refine hK.out _ _ (HQ4.out) (fun _ => ?_)
      clear hK KK
      try simp only [List.setIfInBounds_toArray, List.set_cons_zero, List.set_cons_succ]
      refine takeH_at 7 13 (.agg TD.toArray) rfl rfl (by kernel_rfl) (by kernel_rfl) (by kernel_rfl) (fun _ _ _ h => h) (HQ4.out) (Or.inl ⟨by rfl, fun w' hS' => by rw [← HTD.out]; go_simp⟩) ?_
      try simp only [List.setIfInBounds_toArray, List.set_cons_zero, List.set_cons_succ]
      refine wpAnyH_ready (rs := [9]) (by kernel_rfl) (by simp) ?_
      refine AllReadyH.cons rfl (fun KK hK => ?_) AllReadyH.nil
      refine step_store_bx rfl 48 (.tmp 5) (.tmp 13) rfl ZS TD b3 rfl rfl HZ4.out.1 (by rw [HTL.out.1]; rfl) hi7 HTL.out.2 ?_
      intro u9 HB9 HG9
      have H9 : Hid (Bx u9 M 52 SD ∧ Below M w u9 ∧ Bx u9 b3 48 TD ∧ M < b3) := ⟨HQ4.out.1.keep (HG9.out.block M HQ4.out.1.lt (fun e => by injection e with e; exact absurd e (Nat.ne_of_lt HZ4.out.2))), HQ4.out.2.trans (below_gb HG9.out (Nat.le_of_lt HQ4.out.1.lt) (Nat.le_of_lt HZ4.out.2)), HB9.out, HZ4.out.2⟩
      clear HB9 HG9
      refine hK.out _ _ (⟨H9.out.1, H9.out.2.1⟩) (fun _ => ?_)
      clear hK KK
      try simp only [List.setIfInBounds_toArray, List.set_cons_zero, List.set_cons_succ]
      refine wpAnyH_done (by kernel_rfl) ?_ _
      refine NoPanic.normal ?_
      go_wp2_with fail
      go_meet
      exact ⟨b3, rfl, H9⟩
  case rest =>
    obtain ⟨g, rfl, HG⟩ := hcut
    have HPW : Hid (PolI LB n m C p q wc) := hp.out.below (Nat.le_of_eq HMM.out) HG.out.2.1
    have HB8 : Hid (bi.1 = ix) := hbi
    have n2 : IntKind.u8.wrap (ix : Int) = (ix : Int) := wraps_u8 _ (by omega) (by have := HSS.out; omega)
    have HTC : Hid (TD = [.int .u16 (sn : Nat), .int .i64 (nd : Nat), .int .i64 (ix : Nat), .int .i64 (s : Nat)]) := HTD.out.symm
    have H37 : Hid (∀ u, PolI LB n m C p q u → Calls Tryd.prog 37 #[.int .u8 (ix : Nat), .slice (some ⟨LB, 0, none⟩) n lc] u fun e w' => Hid (∃ vb, e = .returned (.slice (some ⟨vb, 0, none⟩) n n) ∧ u.heap.size ≤ vb ∧ Bx w' vb 5 (fc VS) ∧ Below u.heap.size u w')) := fun u hu => by
      rw [HVS.out, ← hbi.out]
      exact values_ok LB n m lc bi C p q u HSS.out.2.1 hU.out.2.2.2 hu
    have H36 : Hid (∀ u vb vc, Bx u vb 5 (fc VS) → Calls Tryd.prog 36 #[.agg TD.toArray, .slice (some ⟨vb, 0, none⟩) n vc] u fun e w' => Hid (∃ g, e = .returned (.slice (some ⟨g, 0, none⟩) N N) ∧ u.heap.size ≤ g ∧ (∃ hd, hd = [b0, b1, bn, bi, bs] ++ VS ++ List.replicate ((9 + s) % 2) 0 ∧ Bx w' g 5 (fc (hd ++ codeL hd))) ∧ Below u.heap.size u w')) := fun u vb vc hu => by
      have q := newRow_ok sn nd ix s U N vb vc b0 b1 bn bi bs VS u hs hbn hbi hbs (show U = unc s ∧ N = U + 4 ∧ VS.length = s + 4 from ⟨hU.out.1, hU.out.2.1, by rw [HVL.out]; exact hU.out.2.2.1⟩) hu
      rw [HSS.out.2.2.2.1] at q
      rw [← HTD.out]
      exact q
    have hS0 : Bx wc.drew M 52 SD ∧ Bx wc.drew g 48 TD ∧ PolI LB n m C p q wc.drew ∧ Below M w wc.drew := ⟨HG.out.1.keep rfl, HG.out.2.2.1.keep rfl, HPW.out.below (Nat.le_refl _) (Below.refl _ _).drew, HG.out.2.1.drew⟩
    have hMG : Hid (M < g) := HG.out.2.2.2
    clear HPW HG
    go_upto_region 2 with fail
    refine wp_region_noPanic ?_
    refine wp_region_till (fun u => Bx u M 52 SD ∧ Bx u g 48 TD ∧ PolI LB n m C p q u ∧ Below M w u) 8 (by kernel_rfl) (by decide) (by decide +kernel) (by decide +kernel) (by decide +kernel) (fun inv => ?_)
    refine till_at 0 14 (.agg TD.toArray) inv rfl rfl (by decide) (by decide +kernel) (by decide +kernel) (fun _ _ _ h => h) hS0 (yieldsIf_load_mid (by rfl) 48 (.tmp 5) rfl g 0 rfl TD _ (fun u hu => hu.2.1.range) Tryd.underlying48 rfl hi7) (fun inv' => ?_)
    clear inv; have inv := inv'; clear inv'
    try simp only [List.setIfInBounds_toArray, List.set_cons_zero, List.set_cons_succ]
    refine till_at 1 15 (.int .i64 (ix : Nat)) inv rfl rfl (by decide) (by decide +kernel) (by decide +kernel) (fun _ _ _ h => h) hS0 (Or.inl ⟨by rfl, fun w' hS' => by obtain ⟨k0, k1, k2⟩ := HSC.out _ hS'.1; go_simp⟩) (fun inv' => ?_)
    clear inv; have inv := inv'; clear inv'
    try simp only [List.setIfInBounds_toArray, List.set_cons_zero, List.set_cons_succ]
    refine till_at 2 16 (.int .u8 (ix : Nat)) inv rfl rfl (by decide) (by decide +kernel) (by decide +kernel) (fun _ _ _ h => h) hS0 (Or.inl ⟨by rfl, fun w' hS' => by obtain ⟨k0, k1, k2⟩ := HSC.out _ hS'.1; go_simp⟩) (fun inv' => ?_)
    clear inv; have inv := inv'; clear inv'
    try simp only [List.setIfInBounds_toArray, List.set_cons_zero, List.set_cons_succ]
    refine till_at 3 17 (.pointer (some ⟨M, 2, none⟩)) inv rfl rfl (by decide) (by decide +kernel) (by decide +kernel) (fun _ _ _ h => h) hS0 (Or.inl ⟨by rfl, fun w' hS' => by obtain ⟨k0, k1, k2⟩ := HSC.out _ hS'.1; go_simp⟩) (fun inv' => ?_)
    clear inv; have inv := inv'; clear inv'
    try simp only [List.setIfInBounds_toArray, List.set_cons_zero, List.set_cons_succ]
    refine till_at 4 18 (.slice (some ⟨LB, 0, none⟩) n lc) inv rfl rfl (by decide) (by decide +kernel) (by decide +kernel) (fun _ _ _ h => h) hS0 (Or.inl ⟨by rfl, fun w' hS' => by obtain ⟨k0, k1, k2⟩ := HSC.out _ hS'.1; go_simp⟩) (fun inv' => ?_)
    clear inv; have inv := inv'; clear inv'
    try simp only [List.setIfInBounds_toArray, List.set_cons_zero, List.set_cons_succ]
    refine till_head (i := 5) inv (by decide +kernel) (by decide) rfl (fun KK hK => ?_)
    go_simp
    refine (H37.out _ hS0.2.2.1).mono ?_
    intro e4 w4 h4
    obtain ⟨vb, rfl, h5, h6, h7⟩ := h4.out
    have hS1 : Bx w4 M 52 SD ∧ Bx w4 g 48 TD ∧ PolI LB n m C p q w4 ∧ Below M w w4 := ⟨hS0.1.below h7, hS0.2.1.below h7, hS0.2.2.1.below (Nat.le_refl _) h7, hS0.2.2.2.trans (h7.mono (Nat.le_of_lt hS0.1.lt))⟩
    have HV5 : Hid (Bx w4 vb 5 (fc VS)) := h6
    clear h4 h5 h6 h7
    go_wp2_with fail
    refine hK.out _ _ (hS1) (fun inv' => ?_)
    clear hK KK inv; have inv := inv'; clear inv'
    try simp only [List.setIfInBounds_toArray, List.set_cons_zero, List.set_cons_succ]
    refine till_head (i := 6) inv (by decide +kernel) (by decide) rfl (fun KK hK => ?_)
    go_simp
    refine (H36.out _ vb n HV5.out).mono ?_
    intro e5 w5 h4
    obtain ⟨gr, rfl, h5, ⟨hd, hhd, h6⟩, h7⟩ := h4.out
    have hS2 : Bx w5 M 52 SD ∧ Bx w5 g 48 TD ∧ PolI LB n m C p q w5 ∧ Below M w w5 := ⟨hS1.1.below h7, hS1.2.1.below h7, hS1.2.2.1.below (Nat.le_refl _) h7, hS1.2.2.2.trans (h7.mono (Nat.le_of_lt hS1.1.lt))⟩
    have HFU : Hid (hd ++ codeL hd = FU) := by show _ = _; rw [HFF.out, hhd]; rfl
    rw [HFU.out] at h6
    have HR5 : Hid (Bx w5 gr 5 (fc FU)) := h6
    clear h4 h5 h6 h7 hhd HFU
    go_wp2_with fail
    refine hK.out _ _ (hS2) (fun inv' => ?_)
    clear hK KK inv; have inv := inv'; clear inv'
    try simp only [List.setIfInBounds_toArray, List.set_cons_zero, List.set_cons_succ]
    refine till_head (i := 7) inv (by decide +kernel) (by decide) rfl (fun KK hK => ?_)
    go_simp
    refine (H35.out _ gr HR5.out).mono ?_
    intro e6 w6 h4
    obtain ⟨rfl, h7⟩ := h4.out
    have hS3 : Bx w6 M 52 SD ∧ Bx w6 g 48 TD ∧ PolI LB n m C p q w6 ∧ Below M w w6 := ⟨hS2.1.below h7, hS2.2.1.below h7, hS2.2.2.1.below (Nat.le_refl _) h7, hS2.2.2.2.trans (h7.mono (Nat.le_of_lt hS2.1.lt))⟩
    clear h4 h7
    go_wp2_with fail
    refine hK.out _ _ (hS3) (fun inv' => ?_)
    clear hK KK inv; have inv := inv'; clear inv'
    try simp only [List.setIfInBounds_toArray, List.set_cons_zero, List.set_cons_succ]
    refine till_tail (i := 8) (by decide +kernel) (by decide) rfl (fun KK hK => ?_)
    rw [if_pos (by rfl)]
    go_simp
    refine hK.out _ _ ?_
    clear hK KK
    try simp only [List.setIfInBounds_toArray, List.set_cons_zero, List.set_cons_succ]
    refine till_done (by decide +kernel) ?_ _
    refine NoPanic.normal ?_
    go_wp2
    go_ret
    exact ⟨rfl, by rw [HMM.out]; exact hS3.2.2.2⟩
end Go.Proofs.YtbpkocohddlbhaaDoor
namespace Go.Proofs.YtbpkocohddlbhaaDoor
open Go.RowKit
set_option linter.unusedVariables false
set_option linter.unusedSimpArgs false
set_option maxRecDepth 100000
theorem parts2_later (w : World) (x y : Value) (ys zs : List Int) (t : TypeId) (hx : View w x ys) (hy : View w y zs) (u : World) (g : Nat) (hu : Below (w.heap.size + 1) (w.alloc (.cells #[x, y] t)) u) (hg : w.heap.size + 1 ≤ g) : Parts u g (.slice (some ⟨w.heap.size, 0, none⟩) 2 2) [ys, zs] := by
  have hk : ∀ b, b < w.heap.size → u.heap[b]? = w.heap[b]? := fun b hb => (hu.block b (by omega)).trans (Below.heap_alloc w _ b hb)
  have hc : ∀ i v, (#[x, y] : Array Value)[i]? = some v → u.cell? ⟨w.heap.size, i, none⟩ = some v := fun i v e => by
    rw [World.cell?_of_block (w := w.alloc (.cells #[x, y] t)) (hu.block _ (by simp))]
    rw [World.cell?_alloc_at _ _ _ _ rfl]; exact e
  refine ⟨_, 2, rfl, by simp, by simp [maxLen], .inr ⟨w.heap.size, 0, rfl, by omega, fun i hi => ?_⟩⟩
  have hi' : i < 2 := by simpa using hi
  match i, hi' with
  | 0, _ => exact ⟨x, hc 0 x rfl, hx.kept hk, fun hne b' off l c e => by have := view_lt hx hne b' off l c e; omega⟩
  | 1, _ => exact ⟨y, hc 1 y rfl, hy.kept hk, fun hne b' off l c e => by have := view_lt hy hne b' off l c e; omega⟩
set_option maxHeartbeats 1600000 in
/-- A secret's check. -/
theorem check_ok (sn b off n c : Nat) (b0 b1 : F) (l : List F) (w : World) (hs : Hid (b0.1 * 256 + b1.1 = sn)) (hl : l.length = n) (hn : n ≤ 4000) (hc : n ≤ c ∧ c ≤ maxLen) (h : Rw w b off l) (hT : Tables w) :
    Calls Tryd.prog 32 #[.int .u16 (sn : Nat), .slice (some ⟨b, off, none⟩) n c] w fun e w' => Hid (∃ g, e = .returned (.slice (some ⟨g, 0, none⟩) 4 32) ∧ w.heap.size ≤ g ∧ Rw w' g 0 (ckL b0 b1 l) ∧ Below w.heap.size w w') := by
  have HV : Hid (View w (.slice (some ⟨b, off, none⟩) n c) (zi l)) := rw_view h hl hc.1 hc.2
  have HN : Hid (l.length = n ∧ n ≤ 4000) := ⟨hl, hn⟩
  have HT : Hid (Tables w) := hT
  obtain ⟨M, HMM⟩ : ∃ M, Hid (w.heap.size = M) := ⟨_, rfl⟩
  have H49 : Hid (∀ u, Calls Tryd.prog 49 #[.int .u16 (sn : Nat)] u fun e w' => Hid (e = .returned (.slice (some ⟨u.heap.size, 0, none⟩) 2 2) ∧ Bx w' u.heap.size 5 (fc [b0, b1]) ∧ Below u.heap.size u w')) := fun u => twob_ok sn b0 b1 hs u
  have hcc : Hid (n ≤ c ∧ c ≤ maxLen) := hc
  clear hl hn h hT hc
  go_enter Tryd.func32, Tryd.ntmps32
  go_upto_region 2 with (first
    | (go_at_call 49; refine (H49.out _).mono ?_; intro e4 w4 h4; obtain ⟨rfl, h5, h6⟩ := h4.out; have HC4 : Hid (View w4 (.slice (some ⟨w.heap.size, 0, none⟩) 2 2) (zi [b0, b1]) ∧ View w4 (.slice (some ⟨b, off, none⟩) n c) (zi l) ∧ Below w.heap.size w w4) := ⟨rw_view (bx_rw h5) rfl (by omega) (by unfold maxLen; omega), HV.out.kept (fun k hk => h6.block k hk), h6⟩; clear h4 h5 h6 H49)
    | (go_at_call 48; refine (dsum 256 [zi [b0, b1], zi l] _ _ (.inr (.inl rfl)) (fun u g hu hg => parts2_later w4 _ _ _ _ 23 HC4.out.1 HC4.out.2.1 u g (by simpa using hu) (by simpa using hg)) (HT.out.below (HC4.out.2.2.trans ((Below.refl _ _).alloc HC4.out.2.2.size _)) HT.out.size) (by show _ ≤ _; have := HN.out; simp [zi_len]; omega)).mono ?_; rintro e5 w5 ⟨g, rfl, ho, hb⟩; have H5 : Hid (w5.ownsRow (w4.heap.size + 1) 5 1 (.slice (some ⟨g, 0, none⟩) 32 32) 32 (cellsU8 (sumD 256 (zi ([b0, b1] ++ l)))) ∧ Below w.heap.size w w5 ∧ w.heap.size ≤ w4.heap.size) := ⟨by have q := ho; rw [World.size_alloc] at q; simp only [List.flatten_cons, List.flatten_nil, List.append_nil] at q; rw [← zi_app] at q; exact q, HC4.out.2.2.trans (((Below.refl _ _).alloc HC4.out.2.2.size _).trans (hb.mono (by have := HC4.out.2.2.size; simp; omega))), HC4.out.2.2.size⟩; clear ho hb)
    | fail)
  simp only [show szOf 256 = 32 from rfl]
  clear HC4
  go_wp2
  go_ret
  refine ⟨g, rfl, ?_, fun i hi => ?_, H5.out.2.1⟩
  · rcases H5.out.1.2 with ⟨q, _⟩ | ⟨g', c', cur, q, q1, _⟩
    · cases q
    · injection q with q; injection q with q; injection q with q; have := H5.out.2.2; omega
  · rw [ck_len] at hi
    have hc := H5.out.1.cells (g := g) rfl i _ (by unfold cellsU8; rw [List.getElem?_map, List.getElem?_eq_getElem (by rw [sumD_length 256 (.inr (.inl rfl))]; exact Nat.lt_trans hi (by decide))]; rfl)
    rw [Addr.add_lit] at hc
    rw [hc, ck_at b0 b1 l i hi, List.getD_eq_getElem?_getD, List.getElem?_eq_getElem (by rw [sumD_length 256 (.inr (.inl rfl))]; exact Nat.lt_trans hi (by decide))]
    rfl
end Go.Proofs.YtbpkocohddlbhaaDoor
namespace Go.Proofs.YtbpkocohddlbhaaDoor
open Go.RowKit
set_option linter.unusedVariables false
set_option linter.unusedSimpArgs false
set_option maxRecDepth 100000
theorem Tryd.info60q : (Tryd.prog.info? 60).map (fun i => (i.zero, i.size, i.bytes)) = some (some .nilFunc, 1, 8) := by kernel_rfl
theorem Tryd.und50 : Tryd.prog.underlying 50 = some (.slice 60) := by kernel_rfl
def fV (p : Nat → Nat) (j : Nat) : Value := .func (.func 50) #[] #[.pointer (some ⟨p j, 0, none⟩)]
def Z52 : List Value := [.int .u16 0, .int .i64 0, .slice none 0 0]
/-- A sharing that is being made: its box, its polynomials, the row. -/
structure NsI (M SB rg sn nd s : Nat) (C : Nat → List F) (rowC : List Value) (w u : World) (i : Nat) (v : Value) (p q : Nat → Nat) : Prop where
  res : Bx u M 52 Z52
  box : Bx u SB 52 [.int .u16 (sn : Nat), .int .i64 (nd : Nat), v]
  own : u.ownsRow M 60 1 v i ((List.range i).map (fV p))
  pol : ∀ j, j < i → (∃ c, Bx u (p j) 23 [.slice (some ⟨q j, 0, none⟩) nd c]) ∧ Bx u (q j) 5 (fc (C j)) ∧ (C j).length = nd
  row : Bx u rg 5 rowC
  bel : Below M w u
  lt : M < SB ∧ M < rg
theorem NsI.below {M SB rg sn nd s : Nat} {C : Nat → List F} {rowC : List Value} {w u v2 : World} {i : Nat} {v : Value} {p q : Nat → Nat} (h : NsI M SB rg sn nd s C rowC w u i v p q) (hb : Below u.heap.size u v2) : NsI M SB rg sn nd s C rowC w v2 i v p q :=
  ⟨h.res.below hb, h.box.below hb, own_below h.own hb, fun j hj => by obtain ⟨⟨c, h1⟩, h2, h3⟩ := h.pol j hj; exact ⟨⟨c, h1.below hb⟩, h2.below hb, h3⟩, h.row.below hb, h.bel.trans (hb.mono (Nat.le_of_lt h.res.lt)), h.lt⟩
theorem bx_apart {u v : World} {rv : Value} {M t t2 n : Nat} {xs cs : List Value} {b : Nat} (ho : u.ownsRow M t2 1 rv n xs) (hg : u.grownBy v rv.ownBlock) (ht : t ≠ t2) (hb : Bx u b t cs) : Bx v b t cs := by
  refine hb.keep (hg.block b hb.lt fun e => ?_)
  rcases ho.2 with ⟨q, _⟩ | ⟨g', cap, cur, q, _, q3, _⟩
  · rw [q] at e; cases e
  · rw [q] at e
    injection e with e
    subst e
    unfold Bx at hb
    rw [q3] at hb
    injection hb with hb
    injection hb with _ hb _
    exact ht hb.symm
/-- One more polynomial. -/
theorem NsI.more {M SB rg sn nd s : Nat} {C : Nat → List F} {rowC : List Value} {w u w1 w2 w3 : World} {i : Nat} {v v3 : Value} {p q : Nat → Nat} {pb qb c : Nat} (h : NsI M SB rg sn nd s C rowC w u i v p q)
    (hb : Below u.heap.size u w1) (hp : Bx w1 pb 23 [.slice (some ⟨qb, 0, none⟩) nd c]) (hq : Bx w1 qb 5 (fc (C i))) (hl : (C i).length = nd)
    (hown : w2.ownsRow M 60 1 v3 (i + 1) ((List.range i).map (fV p) ++ [.func (.func 50) #[] #[.pointer (some ⟨pb, 0, none⟩)]])) (hgr : w1.grownBy w2 v.ownBlock)
    (hx : Bx w3 SB 52 [.int .u16 (sn : Nat), .int .i64 (nd : Nat), v3]) (hgs : w2.grownBy w3 (some SB)) :
    NsI M SB rg sn nd s C rowC w w3 (i + 1) v3 (fun j => if j = i then pb else p j) (fun j => if j = i then qb else q j) := by
  have h1 := h.below hb
  have k2 : ∀ {b t cs}, t ≠ 60 → Bx w1 b t cs → Bx w2 b t cs := fun ht hx => bx_apart h1.own hgr ht hx
  have hs2 : Bx w2 SB 52 [.int .u16 (sn : Nat), .int .i64 (nd : Nat), v] := k2 (by decide) h1.box
  have k3 : ∀ {b t cs}, t ≠ 60 → b ≠ SB → Bx w1 b t cs → Bx w3 b t cs := fun ht hn hx => (k2 ht hx).keep (hgs.block _ (k2 ht hx).lt (fun e => hn (by injection e)))
  have ne : ∀ {b t cs}, t ≠ 52 → Bx w1 b t cs → b ≠ SB := fun ht hz e => by
    have hb1 := h1.box
    rw [e] at hz
    unfold Bx at hz hb1
    rw [hb1] at hz
    injection hz with hz
    injection hz with _ hz _
    exact ht hz.symm
  have hM1 : M ≤ w1.heap.size := Nat.le_of_lt h1.res.lt
  refine ⟨k3 (by decide) (Nat.ne_of_lt h.lt.1) h1.res, hx, ?_, fun j hj => ?_, k3 (by decide) (ne (by decide) h1.row) h1.row, ?_, h.lt⟩
  · have e : (List.range (i + 1)).map (fV (fun j => if j = i then pb else p j)) = (List.range i).map (fV p) ++ [.func (.func 50) #[] #[.pointer (some ⟨pb, 0, none⟩)]] := by
      rw [List.range_succ, List.map_append]
      congr 1
      · apply List.map_congr_left
        intro j hj
        have := List.mem_range.1 hj
        unfold fV
        simp only []
        rw [if_neg (by omega)]
      · show [fV _ i] = _
        unfold fV
        simp only [if_true]
    rw [e]
    refine ⟨hown.1, ?_⟩
    rcases hown.2 with q | ⟨g, cap, cur, q, hB, hh, q3⟩
    · exact .inl q
    · refine .inr ⟨g, cap, cur, q, hB, ?_, q3⟩
      have hgl := (Array.getElem?_eq_some_iff.1 hh).1
      rw [hgs.block g hgl (fun e => ?_)]
      · exact hh
      · injection e with e
        subst e
        unfold Bx at hs2
        rw [hs2] at hh
        injection hh with hh
        injection hh with _ hh _
        exact absurd hh (by decide)
  · by_cases e2 : j = i
    · subst e2
      rw [if_pos rfl, if_pos rfl]
      exact ⟨⟨c, k3 (by decide) (ne (by decide) hp) hp⟩, k3 (by decide) (ne (by decide) hq) hq, hl⟩
    · rw [if_neg e2, if_neg e2]
      obtain ⟨⟨c', h2⟩, h3, h4⟩ := h1.pol j (by omega)
      exact ⟨⟨c', k3 (by decide) (ne (by decide) h2) h2⟩, k3 (by decide) (ne (by decide) h3) h3, h4⟩
  · refine h1.bel.trans ?_
    have q2 : Below M w1 w2 := ⟨hgr.os, hgr.tape, hgr.output, hgr.size, fun k hk => hgr.block k (by omega) (fun e => by
      rcases h1.own.2 with ⟨q, _⟩ | ⟨g', cap, cur, q, q2, q3, _⟩
      · rw [q] at e; cases e
      · rw [q] at e; simp [Value.ownBlock] at e; omega)⟩
    exact q2.trans (below_gb hgs (Nat.le_trans hM1 hgr.size) (Nat.le_of_lt h.lt.1))
theorem NsI.fin {M SB rg sn nd s : Nat} {C : Nat → List F} {rowC : List Value} {w u : World} {n : Nat} {v : Value} {p q : Nat → Nat} (h : NsI M SB rg sn nd s C rowC w u n v p q) (hn : 1 ≤ n) : ∃ LB lc, v = .slice (some ⟨LB, 0, none⟩) n lc ∧ Hid (∀ v2, u.grownBy v2 (some M) → PolI LB n nd C p q v2 ∧ Below M w v2) := by
  have ho := h.own
  have hm : ∀ {b t cs}, t ≠ 52 → Bx u b t cs → b ≠ M := fun ht hz e => by
    have hb1 := h.res
    rw [e] at hz
    unfold Bx at hz hb1
    rw [hb1] at hz
    injection hz with hz
    injection hz with _ hz _
    exact ht hz.symm
  rcases h.own.2 with ⟨_, e⟩ | ⟨g, cap, cur, rfl, hB, hh, h3, h4, h5, h6⟩
  · omega
  · refine ⟨g, cap, rfl, fun v2 hv => ⟨⟨fun i hi => ?_, fun i hi => ?_, fun i hi => ?_⟩, h.bel.trans (below_gb hv (Nat.le_of_lt h.res.lt) (Nat.le_refl _))⟩⟩
    · have hc := ho.cells (g := g) rfl i (fV p i) (by rw [List.getElem?_map, List.getElem?_range hi]; rfl)
      rw [Addr.add_lit, Nat.zero_add] at hc
      have hgM : g ≠ M := fun e => by
        have hb1 := h.res
        rw [e] at hh
        unfold Bx at hb1
        rw [hb1] at hh
        injection hh with hh
        injection hh with _ hh _
        exact absurd hh (by decide)
      rw [World.cell?_of_block (w := u) (hv.block g (Array.getElem?_eq_some_iff.1 hh).1 (fun e => hgM (by injection e)))]
      exact hc
    · obtain ⟨⟨c, h1⟩, _⟩ := h.pol i hi
      exact ⟨c, (h1.keep (hv.block _ h1.lt (fun e => hm (by decide) h1 (by injection e)))).cell 0 _ rfl⟩
    · obtain ⟨_, h2, h3⟩ := h.pol i hi
      exact ⟨bx_rw (h2.keep (hv.block _ h2.lt (fun e => hm (by decide) h2 (by injection e)))), h3⟩
end Go.Proofs.YtbpkocohddlbhaaDoor
namespace Go.Proofs.YtbpkocohddlbhaaDoor
open Go.RowKit
set_option linter.unusedVariables false
set_option linter.unusedSimpArgs false
set_option maxRecDepth 100000
theorem rw_cells {w : World} {g : Nat} {l : List F} (h : Rw w g 0 l) : ∀ (j : Nat) (u : Value), (fc l)[j]? = some u → w.cell? ((⟨g, 0, none⟩ : Addr).add j) = some u := fun j u hu => by
  have hj : j < l.length := by have := (List.getElem?_eq_some_iff.1 hu).1; rw [fc_len] at this; exact this
  rw [fc_at l j hj] at hu
  injection hu with hu
  rw [← hu, Addr.add_lit]
  exact h j hj
/-- A sharing that is made. -/
def NewSQ (sn nd n : Nat) (C : Nat → List F) (w : World) (e : Ending) (w' : World) : Prop := ∃ LB lc p q, e = .returned (.agg #[.int .u16 (sn : Nat), .int .i64 (nd : Nat), .slice (some ⟨LB, 0, none⟩) n lc]) ∧ PolI LB n nd C p q w' ∧ Below w.heap.size w w'
set_option maxHeartbeats 3200000 in
/-- newSharing. -/
theorem newS_ok (sn nd s b off c : Nat) (ra : Option Addr) (rn rc : Nat) (b0 b1 : F) (l R : List F) (w : World) (hs : Hid (b0.1 * 256 + b1.1 = sn)) (hl : Hid (l.length = s ∧ 1 ≤ s ∧ s ≤ 64)) (hnd : Hid (1 ≤ nd ∧ nd ≤ 16)) (hc : Hid (s ≤ c ∧ c ≤ maxLen)) (h : Hid (Rw w b off l))
    (hR : Hid (R.length = (nd - 1) * (s + 4) ∧ rn = R.length)) (hRw : Hid (∀ i, i < R.length → ∃ rb ro, ra = some ⟨rb, ro, none⟩ ∧ w.cell? ⟨rb, ro + i, none⟩ = some (.int .u8 ((R.getD i 0).1 : Nat)))) (hT : Hid (Tables w)) :
    Calls Tryd.prog 22 #[.int .u16 (sn : Nat), .slice (some ⟨b, off, none⟩) s c, .int .i64 (nd : Nat), .slice ra rn rc] w fun e w' => NewSQ sn nd (s + 4) (cfL R (rowS b0 b1 l) (s + 4) nd) w e w' := by
  obtain ⟨i0, hi0, hz0, hz1, hz2⟩ := info_parts Tryd.infoB
  have HI0 : Hid (Tryd.prog.info? 5 = some i0 ∧ i0.zero = some (.int .u8 0) ∧ i0.size = 1 ∧ i0.bytes = 1) := ⟨hi0, hz0, hz1, hz2⟩
  obtain ⟨i6, hi0', hz0', hz1', hz2'⟩ := info_parts Tryd.info60q
  have HI6 : Hid (Tryd.prog.info? 60 = some i6 ∧ i6.zero = some .nilFunc ∧ i6.size = 1 ∧ i6.bytes = 8) := ⟨hi0', hz0', hz1', hz2'⟩
  clear hi0 hz0 hz1 hz2 hi0' hz0' hz1' hz2'
  have HMF : Hid (i0.bytes * nd ≤ 281474976710656 ∧ nd ≤ maxLen) := made_few i0.bytes nd nd 1 (by decide) HI0.out.2.2.2 (by have := hnd.out; omega)
  obtain ⟨ROW, HRO⟩ : ∃ q : List F, Hid (q = rowS b0 b1 l) := ⟨rowS b0 b1 l, show _ = _ from rfl⟩
  obtain ⟨n, HNN⟩ : ∃ n : Nat, Hid (n = s + 4) := ⟨_, show _ = _ from rfl⟩
  have HRL : Hid (ROW.length = n ∧ ROW = l ++ ckL b0 b1 l) := by
    show _ ∧ _
    rw [HRO.out, HNN.out, rowS_len, hl.out.1]
    exact ⟨rfl, rfl⟩
  rw [← HRO.out, ← HNN.out]
  have HSZ : Hid (n ≤ 68 ∧ 5 ≤ n ∧ R.length = (nd - 1) * n ∧ rn = R.length) := ⟨by have := HNN.out; have := hl.out; omega, by have := HNN.out; have := hl.out; omega, by rw [HNN.out]; exact hR.out.1, hR.out.2⟩
  obtain ⟨M, HMM⟩ : ∃ M, Hid (w.heap.size = M) := ⟨_, rfl⟩
  go_enter Tryd.func22, Tryd.ntmps22
  go_upto_region 2 with fail
  obtain ⟨w2, hw2⟩ : ∃ u, u = (w.alloc (.cells #[.int .u16 0, .int .i64 0, .slice none 0 0] 52)).alloc (.cells #[.int .u16 (sn : Nat), .int .i64 (nd : Nat), .slice none 0 0] 52) := ⟨_, rfl⟩
  have HW2 : Hid (Bx w2 M 52 Z52 ∧ Bx w2 (M + 1) 52 [.int .u16 (sn : Nat), .int .i64 (nd : Nat), .slice none 0 0] ∧ Below M w w2 ∧ w2.heap.size = M + 2) := by
    have ha : Below w.heap.size w (w.alloc (.cells #[.int .u16 0, .int .i64 0, .slice none 0 0] 52)) := (Below.refl _ _).alloc (Nat.le_refl _) _
    have hb1 : Below (M + 1) (w.alloc (.cells #[.int .u16 0, .int .i64 0, .slice none 0 0] 52)) w2 := by rw [hw2, ← HMM.out]; exact (Below.refl _ _).alloc (by simp) _
    refine ⟨?_, ?_, ?_, by rw [hw2, ← HMM.out]; simp⟩
    · have q := Bx.new w 52 Z52
      rw [HMM.out] at q
      exact q.below (by rw [World.size_alloc, HMM.out]; exact hb1)
    · have q := Bx.new (w.alloc (.cells #[.int .u16 0, .int .i64 0, .slice none 0 0] 52)) 52 [.int .u16 (sn : Nat), .int .i64 (nd : Nat), .slice none 0 0]
      rw [World.size_alloc, HMM.out] at q
      rw [hw2]; exact q
    · rw [HMM.out] at ha
      exact ha.trans (hb1.mono (Nat.le_succ _))
  rw [← hw2, HMM.out]
  clear hw2
  have HL2 : Hid (Rw w2 b off l ∧ Tables w2) := ⟨h.out.below (by rw [HMM.out]; exact HW2.out.2.2.1), hT.out.below (by rw [← HMM.out] at HW2; exact HW2.out.2.2.1) hT.out.size⟩
  have H31 : Hid (Calls Tryd.prog 31 #[.slice (some ⟨b, off, none⟩) s c] w2 fun e w' => Hid (∃ v, e = .returned v ∧ w'.ownsRow w2.heap.size 5 1 v s (fc l) ∧ Below w2.heap.size w2 w')) := bclone_ok b off s c l w2 hl.out.1 hl.out.2.1 (by have := hl.out; omega) HL2.out.1
  have H32 : Hid (∀ u, Below w2.heap.size w2 u → Calls Tryd.prog 32 #[.int .u16 (sn : Nat), .slice (some ⟨b, off, none⟩) s c] u fun e w' => Hid (∃ g, e = .returned (.slice (some ⟨g, 0, none⟩) 4 32) ∧ u.heap.size ≤ g ∧ Rw w' g 0 (ckL b0 b1 l) ∧ Below u.heap.size u w')) := fun u hu => check_ok sn b off s c b0 b1 l u hs hl.out.1 (by have := hl.out; omega) hc.out (HL2.out.1.below hu) (HL2.out.2.below hu HL2.out.2.size)
  go_upto_region 3 with (first
    | (go_at_call 31; refine H31.out.mono ?_; intro e3 w3 h3; obtain ⟨v3, rfl, h4, h5⟩ := h3.out; have HC3 : Hid (w3.ownsRow w2.heap.size 5 1 v3 s (fc l) ∧ Below w2.heap.size w2 w3) := ⟨h4, h5⟩; clear h3 h4 h5 H31)
    | (go_at_call 32; refine (H32.out _ HC3.out.2).mono ?_; intro e4 w4 h3; obtain ⟨g4, rfl, h4, h5, h6⟩ := h3.out; have HC4 : Hid (w4.ownsRow w2.heap.size 5 1 v3 s (fc l) ∧ Below w2.heap.size w2 w4 ∧ Rw w4 g4 0 (ckL b0 b1 l)) := ⟨own_below HC3.out.1 h6, HC3.out.2.trans (h6.mono HC3.out.2.size), h5⟩; clear h3 h4 h5 h6 H32)
    | (at_builtin; go_must (refine wpList_append_own _ rfl (.tmp 19) (.tmp 22) 23 rfl w2.heap.size 5 i0 (.int .u8 0) 1 1 Tryd.underlying23 HI0.out.1 HI0.out.2.1 HI0.out.2.2.1 HI0.out.2.2.2 rfl (by decide) _ s _ rfl HC4.out.1 ⟨g4, 0, none⟩ 4 32 (fc (ckL b0 b1 l)) rfl (by rw [fc_len, ck_len]) (rw_cells HC4.out.2.2) (fc_one _) (by have := hl.out; unfold maxLen; omega) (by have := hl.out; omega) HC4.out.2.1.size ?_; intro v5 w5 hown hgrow hnil; have H5 : Hid (w5.ownsRow w2.heap.size 5 1 v5 n (fc ROW) ∧ Below w2.heap.size w2 w5) := ⟨by rw [HRL.out.2, fc_apps, HNN.out]; exact hown, HC4.out.2.1.grown hgrow HC4.out.2.1.size (fun q hq => (HC4.out.1.lt q hq).1)⟩; clear hown hgrow hnil))
    | fail)
  clear HC3 HC4
  obtain ⟨rg, rcp, rfl, HG5⟩ := own_rx (l := ROW) (by rw [HRL.out.1]; exact H5.out.1) (by rw [HRL.out.1]; have := HSZ.out; omega)
  rw [HRL.out.1]
  obtain ⟨rowC, HRC⟩ : ∃ rowC, Hid (NsI M (M + 1) rg sn nd s (cfL R ROW n nd) rowC w w5 0 (.slice none 0 0) (fun _ => 0) (fun _ => 0) ∧ ∀ i, i < n → rowC[i]? = some (.int .u8 ((ROW.getD i 0).1 : Nat))) := by
    obtain ⟨sp, hsp⟩ := HG5.out.1
    refine ⟨fc ROW ++ sp, ⟨HW2.out.1.below H5.out.2, HW2.out.2.1.below H5.out.2, World.ownsRow_nil _ _ _ _, fun j hj => absurd hj (Nat.not_lt_zero _), hsp, HW2.out.2.2.1.trans (H5.out.2.mono (by have := HW2.out.2.2.2; omega)), ?_⟩, fun i hi => ?_⟩
    · have := HG5.out.2
      have := HW2.out.2.2.2
      omega
    · rw [List.getElem?_append_left (by rw [fc_len, HRL.out.1]; exact hi), fc_at _ _ (by rw [HRL.out.1]; exact hi)]
  have HRW : Hid (∀ u, Below M w u → ∀ i, i < R.length → ∃ rb ro, ra = some ⟨rb, ro, none⟩ ∧ u.cell? ⟨rb, ro + i, none⟩ = some (.int .u8 ((R.getD i 0).1 : Nat))) := fun u hu i hi => by
    obtain ⟨rb, ro, e, hcell⟩ := hRw.out i hi
    exact ⟨rb, ro, e, (hu.cell (by rw [← HMM.out]; exact World.block_lt_of_cell? _ _ hcell)).trans hcell⟩
  clear H5 HG5 HW2 HL2
  go_wp2
  go_loopw [26] (fun vi wr => ∃ (i : Nat) (v : Value) (p q : Nat → Nat), i ≤ n ∧ vi = .int .i64 (i : Nat) ∧ Hid (NsI M (M + 1) rg sn nd s (cfL R ROW n nd) rowC w wr i v p q)) (fun vi _ => n - (intOf vi).toNat)
  case atStart => exact ⟨0, _, _, _, by omega, rfl, HRC.out.1⟩
  case round =>
    obtain ⟨i, v, p, q, hi, rfl, HI⟩ := hrel
    rename World => wo
    by_cases hlt : i < n
    · obtain ⟨X0, HX0⟩ : ∃ X0 : F, Hid (ROW.getD i 0 = X0) := ⟨_, rfl⟩
      have c0 : wo.cell? ⟨rg, i, none⟩ = some (.int .u8 (X0.1 : Nat)) := by rw [← HX0.out]; exact HI.out.row.cell i _ (HRC.out.2 i hlt)
      have g0 : (0 : Int) ≤ (i : Int) := by omega
      have g1 : (i : Int) < (n : Int) := by omega
      have hnd' : nd ≤ 16 ∧ 1 ≤ nd := ⟨hnd.out.2, hnd.out.1⟩
      obtain ⟨G, HG⟩ : ∃ G : Nat → F, Hid (G = fun t => if t + 1 < nd then R.getD ((nd - 2 - t) * n + i) 0 else ROW.getD i 0) := ⟨fun t => if t + 1 < nd then R.getD ((nd - 2 - t) * n + i) 0 else ROW.getD i 0, show _ = _ from rfl⟩
      have HCF : Hid ((List.range nd).map G = cfL R ROW n nd i) := by show _ = _; rw [HG.out]; rfl
      obtain ⟨g, HBB⟩ : ∃ g, Hid (wo.heap.size = g) := ⟨_, rfl⟩
      go_upto_region 7 with (first
        | (at_make; go_must (refine wpList_make_full _ rfl _ _ 23 rfl wo.heap.size 5 i0 (.int .u8 0) 1 Tryd.underlying23 HI0.out.1 HI0.out.2.1 HI0.out.2.2.1 .i64 .i64 (nd : Nat) (nd : Nat) nd rfl rfl rfl rfl HMF.out.1 HMF.out.2 (Nat.le_refl _) ?_; intro w6 hown hgrow; have hlo : Below wo.heap.size wo w6 := ⟨hgrow.os, hgrow.tape, hgrow.output, hgrow.size, fun c hc => hgrow.block c hc (by simp)⟩; have HX6 : Hid ((∃ cu, Bx w6 g 5 cu ∧ Cd nd (fun _ => False) G cu) ∧ Below g wo w6) := (by rw [← HBB.out]; exact ⟨⟨_, (own_full1 hown).1, by rw [show (Value.int .u8 0).cells = #[.int .u8 0] from rfl, Nat.mul_one, toList_madeCells_one]; exact Cd.zero nd G⟩, hlo⟩); clear hown hgrow hlo)))
      rw [HBB.out]
      go_wp2
      go_loopw [14] (fun vj wx => ∃ k j1 : Nat, k + 1 ≤ nd ∧ vj = .int .i64 (j1 : Nat) ∧ Hid (j1 = k + 1) ∧ Hid ((∃ cu, Bx wx g 5 cu ∧ Cd nd (fun t => nd - 1 - k ≤ t ∧ t + 1 < nd) G cu) ∧ Below g wo wx)) (fun vj _ => nd - (intOf vj).toNat)
      case atStart => exact ⟨0, 1, by omega, rfl, rfl, by obtain ⟨⟨cu, h1, h2⟩, h3⟩ := HX6.out; exact ⟨⟨cu, h1, h2.1, fun t ht hd => by omega, h2.2.2⟩, h3⟩⟩
      case round =>
        obtain ⟨k, j1, hk, rfl, HJ1, HK⟩ := hrel
        clear HX6
        by_cases hkl : k + 1 < nd
        · obtain ⟨⟨cu, hcu, hC⟩, hbl⟩ := HK.out
          have hin : k * n + i < R.length := by
            rw [HSZ.out.2.2.1]
            have h1 : (k + 1) * n ≤ (nd - 1) * n := Nat.mul_le_mul_right n (by omega)
            rw [Nat.succ_mul] at h1
            omega
          have hlen : R.length ≤ 1020 := by
            rw [HSZ.out.2.2.1]
            have h1 : (nd - 1) * n ≤ 15 * 68 := Nat.mul_le_mul (by omega) HSZ.out.1
            omega
          obtain ⟨rb, ro, rfl, hcell⟩ := HRW.out wr (HI.out.bel.trans (hbl.mono (by have := HI.out.res.lt; have := HBB.out; omega))) (k * n + i) hin
          obtain ⟨Y, HY⟩ : ∃ Y : F, Hid (R.getD (k * n + i) 0 = Y) := ⟨_, rfl⟩
          rw [HY.out] at hcell
          obtain ⟨t, HTT⟩ : ∃ t, Hid (t = nd - 2 - k) := ⟨nd - 2 - k, show _ = _ from rfl⟩
          have ht : t + k + 2 = nd := by have := HTT.out; omega
          have HGT : Hid (G t = Y) := by
            show _ = _
            rw [HG.out]
            simp only []
            rw [if_pos (by omega), show nd - 2 - t = k by omega]
            exact HY.out
          obtain ⟨y, hy⟩ := hC.2.2 t (by omega)
          have c1 : wr.cell? ⟨g, t, none⟩ = some (.int .u8 y) := hcu.cell t _ hy
          have f1 : wr.frozen? ⟨g, t, none⟩ = false := hcu.frozen t
          obtain ⟨j, HJ⟩ : ∃ j, Hid (j = k * n + i) := ⟨k * n + i, show _ = _ from rfl⟩
          rw [← HJ.out] at hcell hin
          obtain ⟨a1, HA1⟩ : ∃ a1, Hid (a1 = t + k + 1) := ⟨t + k + 1, show _ = _ from rfl⟩
          obtain ⟨kn, HKN⟩ : ∃ kn, Hid (kn = k * n) := ⟨k * n, show _ = _ from rfl⟩
          obtain ⟨j2, HJ2⟩ : ∃ j2, Hid (j2 = j1 + 1) := ⟨j1 + 1, show _ = _ from rfl⟩
          have HQ : Hid (a1 = t + k + 1 ∧ j1 = k + 1 ∧ nd = t + k + 2 ∧ nd ≤ 16 ∧ j = kn + i ∧ j < R.length ∧ R.length ≤ 1020 ∧ rn = R.length ∧ j2 = j1 + 1) := ⟨HA1.out, HJ1.out, by omega, hnd'.1, by rw [HKN.out]; exact HJ.out, hin, hlen, HSZ.out.2.2.2, HJ2.out⟩
          have HKM : Hid (((k : Nat) : Int) * ((n : Nat) : Int) = ((kn : Nat) : Int)) := by show _ = _; rw [HKN.out]; exact (Int.natCast_mul k n).symm
          have x1 : IntKind.i64.wrap ((nd : Int) - 1) = (a1 : Int) := by rw [IntKind.wrap_i64]; have := HQ.out; omega
          have x2 : IntKind.i64.wrap ((a1 : Int) - (j1 : Int)) = (t : Int) := by rw [IntKind.wrap_i64]; have := HQ.out; omega
          have x3 : IntKind.i64.wrap ((j1 : Int) - 1) = (k : Int) := by rw [IntKind.wrap_i64]; have := HQ.out; omega
          have x4 : IntKind.i64.wrap ((k : Int) * (n : Int)) = (kn : Int) := by rw [HKM.out, IntKind.wrap_i64]; have := HQ.out; omega
          have x5 : IntKind.i64.wrap ((kn : Int) + (i : Int)) = (j : Int) := by rw [IntKind.wrap_i64]; have := HQ.out; omega
          have x6 : IntKind.i64.wrap ((j1 : Int) + 1) = (j2 : Int) := by rw [IntKind.wrap_i64]; have := HQ.out; omega
          have y1 : (j1 : Int) < (nd : Int) := by have := HQ.out; omega
          have y2 : (0 : Int) ≤ (j : Int) := by omega
          have y3 : (j : Int) < (rn : Int) := by have := HQ.out; omega
          have y4 : (0 : Int) ≤ (t : Int) := by omega
          have y5 : (t : Int) < (nd : Int) := by have := HQ.out; omega
          have HN2 : Hid ((∃ cu, Bx (wr.setCell ⟨g, t, none⟩ (.int .u8 (Y.1 : Nat))) g 5 cu ∧ Cd nd (fun t => nd - 1 - (k + 1) ≤ t ∧ t + 1 < nd) G cu) ∧ Below g wo (wr.setCell ⟨g, t, none⟩ (.int .u8 (Y.1 : Nat)))) :=
            ⟨⟨_, hcu.set t _, by rw [← HGT.out]; exact hC.next (by omega) (fun q hq => by have := HTT.out; omega)⟩, hbl.setCell (Nat.le_refl _) _⟩
          clear hC hcu hbl HK hin hlen hk hkl ht hnd'
          go_wp2
          go_roundw
          case rel => exact ⟨k + 1, j2, by have := HQ.out; omega, by go_num, by rw [HJ2.out, HJ1.out]; rfl, HN2.out⟩
          case measure => simp [intOf]; have := HQ.out; omega
        · obtain ⟨⟨cu, hcu, hC⟩, hbl⟩ := HK.out
          have hj9 : k + 1 = nd := by omega
          obtain ⟨y, hy⟩ := hC.2.2 k (by omega)
          have c1 : wr.cell? ⟨g, k, none⟩ = some (.int .u8 y) := hcu.cell k _ hy
          have f1 : wr.frozen? ⟨g, k, none⟩ = false := hcu.frozen k
          have HGT : Hid (G k = X0) := by
            show _ = _
            rw [HG.out]
            simp only []
            rw [if_neg (by omega)]
            exact HX0.out
          have HQ : Hid (nd = k + 1 ∧ nd ≤ 16 ∧ j1 = k + 1) := ⟨hj9.symm, hnd'.1, HJ1.out⟩
          have x1 : IntKind.i64.wrap ((nd : Int) - 1) = (k : Int) := by rw [IntKind.wrap_i64]; have := HQ.out; omega
          have y1 : ¬ (j1 : Int) < (nd : Int) := by have := HQ.out; omega
          have y4 : (0 : Int) ≤ (k : Int) := by omega
          have y5 : (k : Int) < (nd : Int) := by have := HQ.out; omega
          obtain ⟨wz, Hwz⟩ : ∃ u, u = wr.setCell ⟨g, k, none⟩ (.int .u8 (X0.1 : Nat)) := ⟨_, rfl⟩
          have HFZ : Hid (Bx wz g 5 (fc (cfL R ROW n nd i)) ∧ Below g wo wz ∧ NsI M (M + 1) rg sn nd s (cfL R ROW n nd) rowC w wz i v p q) := by
            have hb : Below g wo wz := by rw [Hwz]; exact hbl.setCell (Nat.le_refl _) _
            refine ⟨?_, hb, HI.out.below (by rw [HBB.out]; exact hb)⟩
            have q1 := hcu.set k (.int .u8 (X0.1 : Nat))
            rw [← HGT.out, (hC.next (D' := fun q => q < nd) (k := k) (by omega) (fun q hq => by omega)).all (fun _ hq => hq), HCF.out, HGT.out, ← Hwz] at q1
            exact q1
          have HNX : Hid (i + 1 ≤ n ∧ n ≤ 68 ∧ wo.heap.size = g) := ⟨by omega, HSZ.out.1, HBB.out⟩
          clear hC hcu hbl HK hk hkl hj9 hnd' hlt hi HX0 c0
          go_upto_region 12 with fail
          rw [← Hwz]
          clear Hwz c1 f1 x1 y1 y4 y5
          obtain ⟨va, vc, rfl⟩ : ∃ va vc, v = .slice va i vc := by
            rcases HFZ.out.2.2.own.2 with ⟨q, q0⟩ | ⟨g', cap, cur, q, _⟩
            · exact ⟨none, 0, by rw [q, q0]⟩
            · exact ⟨_, _, q⟩
          have hS0 : Bx wz.drew (M + 1) 52 [.int .u16 (sn : Nat), .int .i64 (nd : Nat), .slice va i vc] := HFZ.out.2.2.box.keep rfl
          have HFD : Hid (NsI M (M + 1) rg sn nd s (cfL R ROW n nd) rowC w wz.drew i (.slice va i vc) p q ∧ Bx wz.drew g 5 (fc (cfL R ROW n nd i)) ∧ Below g wo wz.drew) := ⟨HFZ.out.2.2.below ((Below.refl _ _).drew), HFZ.out.1.keep rfl, HFZ.out.2.1.drew⟩
          clear HFZ
          refine wp_region_noPanic ?_
          refine wp_region_till (fun u => Bx u (M + 1) 52 [.int .u16 (sn : Nat), .int .i64 (nd : Nat), .slice va i vc]) 6 (by kernel_rfl) (by decide) (by decide +kernel) (by decide +kernel) (by decide +kernel) (fun inv => ?_)
          refine till_at 0 59 (.pointer (some ⟨M + 1, 2, none⟩)) inv rfl rfl (by decide) (by decide +kernel) (by decide +kernel) (fun _ _ _ h => h) hS0 (Or.inl ⟨by rfl, fun w' hS' => by have k2 := hS'.cell 2 _ rfl; go_simp⟩) (fun inv' => ?_)
          clear inv; have inv := inv'; clear inv'
          try simp only [List.setIfInBounds_toArray, List.set_cons_zero, List.set_cons_succ]
          refine till_at 1 60 (.slice va i vc) inv rfl rfl (by decide) (by decide +kernel) (by decide +kernel) (fun _ _ _ h => h) hS0 (Or.inl ⟨by rfl, fun w' hS' => by have k2 := hS'.cell 2 _ rfl; go_simp⟩) (fun inv' => ?_)
          clear inv; have inv := inv'; clear inv'
          try simp only [List.setIfInBounds_toArray, List.set_cons_zero, List.set_cons_succ]
          refine till_at 2 61 (.slice (some ⟨g, 0, none⟩) nd nd) inv rfl rfl (by decide) (by decide +kernel) (by decide +kernel) (fun _ _ _ h => h) hS0 (Or.inl ⟨by rfl, fun w' hS' => by have k2 := hS'.cell 2 _ rfl; go_simp⟩) (fun inv' => ?_)
          clear inv; have inv := inv'; clear inv'
          try simp only [List.setIfInBounds_toArray, List.set_cons_zero, List.set_cons_succ]
          refine till_head (i := 3) inv (by decide +kernel) (by decide) rfl (fun KK hK => ?_)
          go_simp
          refine (withC_ok (.slice (some ⟨g, 0, none⟩) nd nd) ⟨_, _, _, rfl⟩ _).mono ?_
          intro e8 w8 h8
          obtain ⟨rfl, h9, h10⟩ := h8.out
          have hS1 : Bx w8 (M + 1) 52 [.int .u16 (sn : Nat), .int .i64 (nd : Nat), .slice va i vc] := hS0.below h10
          obtain ⟨pb, HPB⟩ : ∃ pb, Hid (wz.drew.heap.size = pb) := ⟨_, rfl⟩
          have HF8 : Hid (NsI M (M + 1) rg sn nd s (cfL R ROW n nd) rowC w w8 i (.slice va i vc) p q ∧ Bx w8 g 5 (fc (cfL R ROW n nd i)) ∧ Below g wo w8 ∧ Bx w8 pb 23 [.slice (some ⟨g, 0, none⟩) nd nd]) := ⟨HFD.out.1.below h10, HFD.out.2.1.below h10, HFD.out.2.2.trans (h10.mono (Nat.le_of_lt HFD.out.2.1.lt)), by rw [HPB.out] at h9; exact h9⟩
          rw [HPB.out]
          clear h8 h9 h10
          go_wp2_with fail
          refine hK.out _ _ (hS1) (fun inv' => ?_)
          clear hK KK inv; have inv := inv'; clear inv'
          try simp only [List.setIfInBounds_toArray, List.set_cons_zero, List.set_cons_succ]
          refine till_head (i := 4) inv (by decide +kernel) (by decide) rfl (fun KK hK => ?_)
          go_simp
          obtain ⟨wa, hwa⟩ : ∃ u, u = w8.alloc (.cells #[.func (.func 50) #[] #[.pointer (some ⟨pb, 0, none⟩)]] 60) := ⟨_, rfl⟩
          have HFA : Hid (NsI M (M + 1) rg sn nd s (cfL R ROW n nd) rowC w wa i (.slice va i vc) p q ∧ Bx wa g 5 (fc (cfL R ROW n nd i)) ∧ Below g wo wa ∧ Bx wa pb 23 [.slice (some ⟨g, 0, none⟩) nd nd] ∧ (∀ j u, [Value.func (.func 50) #[] #[.pointer (some ⟨pb, 0, none⟩)]][j]? = some u → wa.cell? ((⟨w8.heap.size, 0, none⟩ : Addr).add j) = some u)) := by
            have hb : Below w8.heap.size w8 wa := by rw [hwa]; exact (Below.refl _ _).alloc (Nat.le_refl _) _
            refine ⟨HF8.out.1.below hb, HF8.out.2.1.below hb, HF8.out.2.2.1.trans (hb.mono (Nat.le_of_lt HF8.out.2.1.lt)), HF8.out.2.2.2.below hb, ?_⟩
            rw [hwa]
            exact World.news_of_block (cs := #[.func (.func 50) #[] #[.pointer (some ⟨pb, 0, none⟩)]]) (heap_alloc_new w8 _)
          try rw [← hwa]
          have hS2 : Bx wa (M + 1) 52 [.int .u16 (sn : Nat), .int .i64 (nd : Nat), .slice va i vc] := HFA.out.1.box
          clear hwa HF8
          refine hK.out _ _ (hS2) (fun inv' => ?_)
          clear hK KK inv; have inv := inv'; clear inv'
          try simp only [List.setIfInBounds_toArray, List.set_cons_zero, List.set_cons_succ]
          refine till_head (i := 5) inv (by decide +kernel) (by decide) rfl (fun KK hK => ?_)
          refine step_append_lies wa rfl (.tmp 60) (.tmp 63) 50 rfl M 60 i6 .nilFunc 1 8 Tryd.und50 HI6.out.1 HI6.out.2.1 HI6.out.2.2.1 HI6.out.2.2.2 rfl (by decide) (.slice va i vc) i ((List.range i).map (fV p)) rfl HFA.out.1.own ⟨w8.heap.size, 0, none⟩ 1 1 [.func (.func 50) #[] #[.pointer (some ⟨pb, 0, none⟩)]] rfl rfl HFA.out.2.2.2.2 (by intro x hx; simp at hx; subst hx; rfl) (by decide) (by have := HNX.out; unfold maxLen; omega) (by have := HNX.out; omega) (Nat.le_of_lt HFA.out.1.res.lt) _ rfl ?_
          intro gv cv w9 hown hgrow hgv hgl
          have HAP : Hid (w9.ownsRow M 60 1 (.slice (some ⟨gv, 0, none⟩) (i + 1) cv) (i + 1) ((List.range i).map (fV p) ++ [.func (.func 50) #[] #[.pointer (some ⟨pb, 0, none⟩)]]) ∧ wa.grownBy w9 (Value.slice va i vc).ownBlock) := ⟨hown, hgrow⟩
          have hS3 : Bx w9 (M + 1) 52 [.int .u16 (sn : Nat), .int .i64 (nd : Nat), .slice va i vc] := bx_apart HFA.out.1.own HAP.out.2 (by decide) hS2
          clear hown hgrow hgv hgl
          refine hK.out _ _ (hS3) (fun inv' => ?_)
          clear hK KK inv; have inv := inv'; clear inv'
          try simp only [List.setIfInBounds_toArray, List.set_cons_zero, List.set_cons_succ]
          refine till_tail (i := 6) (by decide +kernel) (by decide) rfl (fun KK hK => ?_)
          rw [if_pos (by rfl)]
          go_simp
          refine hK.out _ _ ?_
          clear hK KK
          try simp only [List.setIfInBounds_toArray, List.set_cons_zero, List.set_cons_succ]
          refine till_tail (i := 7) (by decide +kernel) (by decide) rfl (fun KK hK => ?_)
          rw [if_pos (by rfl)]
          have c2 := hS3.cell 2 _ rfl
          have f2 := hS3.frozen 2
          go_simp
          refine hK.out _ _ ?_
          clear hK KK
          try simp only [List.setIfInBounds_toArray, List.set_cons_zero, List.set_cons_succ]
          refine till_done (by decide +kernel) ?_ _
          refine NoPanic.normal ?_
          have HNS : Hid (NsI M (M + 1) rg sn nd s (cfL R ROW n nd) rowC w (w9.setCell ⟨M + 1, 2, none⟩ (.slice (some ⟨gv, 0, none⟩) (i + 1) cv)) (i + 1) (.slice (some ⟨gv, 0, none⟩) (i + 1) cv) (fun j => if j = i then pb else p j) (fun j => if j = i then g else q j)) :=
            HFA.out.1.more (Below.refl _ _) HFA.out.2.2.2.1 HFA.out.2.1 (cfL_len _ _ _ _ _) HAP.out.1 HAP.out.2 (hS3.set 2 _) (set_gb _ _ _ _)
          generalize w9.setCell ⟨M + 1, 2, none⟩ (.slice (some ⟨gv, 0, none⟩) (i + 1) cv) = w10 at HNS ⊢
          have x1 : IntKind.i64.wrap ((i : Int) + 1) = ((i + 1 : Nat) : Int) := by rw [IntKind.wrap_i64]; have := HNX.out; omega
          clear hS0 hS1 hS2 hS3 HFA HAP HFD
          go_wp2
          go_roundw
          case rel => exact ⟨i + 1, _, _, _, HNX.out.1, by go_num, HNS.out⟩
          case measure => simp [intOf]; have := HNX.out; omega
    · have hin : i = n := by omega
      subst hin
      have g1 : ¬ (i : Int) < (i : Int) := by omega
      obtain ⟨LB, lc, rfl, HFN⟩ := HI.out.fin (by have := HSZ.out; omega)
      have HBX : Hid (Bx wo (M + 1) 52 [.int .u16 (sn : Nat), .int .i64 (nd : Nat), .slice (some ⟨LB, 0, none⟩) i lc] ∧ Bx wo M 52 Z52) := ⟨HI.out.box, HI.out.res⟩
      have hi5 : (Tryd.prog.info? 52).map (·.size) = some 3 := by kernel_rfl
      obtain ⟨LL, HLL⟩ : ∃ q : List Value, Hid (q = [.int .u16 (sn : Nat), .int .i64 (nd : Nat), .slice (some ⟨LB, 0, none⟩) i lc]) := ⟨_, show _ = _ from rfl⟩
      have HLN : Hid (LL.length = 3 ∧ ∀ v ∈ LL, v.oneCell' = true) := by rw [HLL.out]; refine ⟨rfl, fun v hv => ?_⟩; simp at hv; rcases hv with rfl | rfl | rfl <;> rfl
      rw [← HLL.out] at HBX
      have hi7 : (Tryd.prog.info? 52).map (·.size) = some LL.length := by rw [HLN.out.1]; exact hi5
      clear HRC HRW HI
      go_wp2_with (first
        | (refine wpList_load_mid (by rfl) 52 (.tmp 9) (by rfl) (M + 1) 0 (by rfl) LL _ HBX.out.1.range Tryd.underlying52 rfl hi7 ?_)
        | (refine wpList_store_bx (by rfl) 52 (.tmp 8) (.tmp 67) (by rfl) Z52 LL M (by rfl) (by rfl) HBX.out.2 (by rw [HLN.out.1]; rfl) hi7 HLN.out.2 ?_; intro u9 hb9 hg9))
      refine ret_array (b := M) LL rfl rfl hb9.range Tryd.underlying52 rfl hi7 ?_
      obtain ⟨p1, p2⟩ := HFN.out u9 hg9
      exact ⟨LB, lc, p, q, by rw [HLL.out], p1, by rw [HMM.out]; exact p2⟩
end Go.Proofs.YtbpkocohddlbhaaDoor
namespace Go.Proofs.YtbpkocohddlbhaaDoor
open Go.RowKit
set_option linter.unusedVariables false
set_option linter.unusedSimpArgs false
set_option maxRecDepth 100000
/-- A number as a byte; a share's line; lines as cells. -/
def fN (k : Nat) : F := ⟨k % 256, Nat.mod_lt _ (by decide)⟩
theorem fN_val (k : Nat) (h : k < 256) : (fN k).1 = k := Nat.mod_eq_of_lt h
def lineT (b0 b1 bn bs : F) (s : Nat) (R row : List F) (n nd i : Nat) : ByteArray := WLs (fullL b0 b1 bn (fN (i + 1)) bs s (valsL R row n nd (fN (i + 1))))
def tcs (T : Nat → ByteArray) (n : Nat) : List Value := (List.range n).map fun i => Value.string (T i)
theorem tcs_len (T : Nat → ByteArray) (n : Nat) : (tcs T n).length = n := by simp [tcs]
theorem tcs_at (T : Nat → ByteArray) (n i : Nat) (h : i < n) : (tcs T n)[i]? = some (.string (T i)) := by simp [tcs, h]
theorem tcs_succ (T : Nat → ByteArray) (n : Nat) : tcs T (n + 1) = tcs T n ++ [.string (T n)] := by simp [tcs, List.range_succ]
theorem tcs_one (T : Nat → ByteArray) (n : Nat) : ∀ v ∈ tcs T n, v.oneCell' = true := fun v hv => by
  obtain ⟨i, _, rfl⟩ := List.mem_map.1 hv
  rfl
/-- A list of texts of which the first ones are filled in. -/
def Td (n i : Nat) (T : Nat → ByteArray) (cu : List Value) : Prop := cu.length = n ∧ (∀ j, j < i → cu[j]? = some (.string (T j))) ∧ ∀ j, j < n → ∃ x, cu[j]? = some (.string x)
theorem Td.next {n i : Nat} {T : Nat → ByteArray} {cu : List Value} (h : Td n i T cu) (hi : i < n) : Td n (i + 1) T (cu.set i (.string (T i))) := by
  refine ⟨by rw [List.length_set]; exact h.1, fun j hj => ?_, fun j hj => ?_⟩
  · by_cases e : i = j
    · subst e; rw [List.getElem?_set_self (by rw [h.1]; exact hi)]
    · rw [List.getElem?_set_ne e]; exact h.2.1 j (by omega)
  · by_cases e : i = j
    · subst e; rw [List.getElem?_set_self (by rw [h.1]; exact hi)]; exact ⟨_, rfl⟩
    · rw [List.getElem?_set_ne e]; exact h.2.2 j hj
theorem Td.all {n : Nat} {T : Nat → ByteArray} {cu : List Value} (h : Td n n T cu) : cu = tcs T n := by
  refine List.ext_getElem? fun i => ?_
  by_cases hi : i < n
  · rw [h.2.1 i hi, tcs_at T n i hi]
  · rw [List.getElem?_eq_none (by rw [h.1]; omega), List.getElem?_eq_none (by rw [tcs_len]; omega)]
theorem Td.zero (n : Nat) (T : Nat → ByteArray) : Td n 0 T (List.replicate n (.string ⟨#[]⟩)) :=
  ⟨by simp, fun i h => absurd h (Nat.not_lt_zero i), fun i hi => ⟨⟨#[]⟩, by simp [hi]⟩⟩
theorem rnd_eq (s nd r : Nat) (h1 : 1 ≤ s ∧ s ≤ 64) (h2 : 1 ≤ nd ∧ nd ≤ 16) (h : r = (nd - 1) * (s + 4)) : rnd (nd : Nat) (s : Nat) = (r : Nat) := by
  unfold rnd
  rw [if_pos (by omega), h, Int.natCast_mul]
  congr 1
  omega
theorem may_zero (s nd ct : Nat) (h1 : 1 ≤ s ∧ s ≤ 64) (h2 : 1 ≤ nd ∧ nd ≤ 16 ∧ nd ≤ ct ∧ ct ≤ 255) : mayN (s : Nat) (nd : Nat) (ct : Nat) = 0 := by
  unfold mayN
  rw [if_pos (by omega), if_pos (by omega)]
set_option maxHeartbeats 3200000 in
/-- Deal, of what may be shared. -/
theorem deal_good (sn nd ct s b off c : Nat) (ra : Option Addr) (rn rc : Nat) (b0 b1 bn bs : F) (l R : List F) (w : World) (hs : Hid (b0.1 * 256 + b1.1 = sn)) (hl : Hid (l.length = s ∧ 1 ≤ s ∧ s ≤ 64)) (hnd : Hid (1 ≤ nd ∧ nd ≤ 16 ∧ nd ≤ ct ∧ ct ≤ 255)) (hbn : Hid (bn.1 = nd)) (hbs : Hid (bs.1 = s)) (hc : Hid (s ≤ c ∧ c ≤ maxLen)) (h : Hid (Rw w b off l))
    (hR : Hid (R.length = (nd - 1) * (s + 4) ∧ rn = R.length)) (hRw : Hid (∀ i, i < R.length → ∃ rb ro, ra = some ⟨rb, ro, none⟩ ∧ w.cell? ⟨rb, ro + i, none⟩ = some (.int .u8 ((R.getD i 0).1 : Nat)))) (hT : Hid (Tables w)) :
    Calls Tryd.prog 8 #[.int .u16 (sn : Nat), .slice (some ⟨b, off, none⟩) s c, .int .i64 (nd : Nat), .int .i64 (ct : Nat), .slice ra rn rc] w fun e w' => Hid (∃ g, e = .returned (.tuple #[.slice (some ⟨g, 0, none⟩) ct ct, .int .i64 0]) ∧ w.heap.size ≤ g ∧ Bx w' g 9 (tcs (lineT b0 b1 bn bs s R (rowS b0 b1 l) (s + 4) nd) ct) ∧ Below w.heap.size w w') := by
  obtain ⟨n, HNN⟩ : ∃ n : Nat, Hid (n = s + 4) := ⟨_, show _ = _ from rfl⟩
  obtain ⟨M, HMM⟩ : ∃ M, Hid (w.heap.size = M) := ⟨_, rfl⟩
  obtain ⟨T, HTT⟩ : ∃ T : Nat → ByteArray, Hid (T = lineT b0 b1 bn bs s R (rowS b0 b1 l) n nd) := ⟨_, show _ = _ from rfl⟩
  obtain ⟨i9, hi9, hz9, hs9, hb9⟩ := info_parts Tryd.infoT9
  have HI9 : Hid (Tryd.prog.info? 9 = some i9 ∧ i9.zero = some (.string ⟨#[]⟩) ∧ i9.size = 1 ∧ i9.bytes = 16) := ⟨hi9, hz9, hs9, hb9⟩
  clear hi9 hz9 hs9 hb9
  have HMF : Hid (i9.bytes * ct ≤ 281474976710656 ∧ ct ≤ maxLen) := made_few i9.bytes ct ct 16 (by decide) HI9.out.2.2.2 (by have := hnd.out; omega)
  have H21 : Hid (∀ u, Calls Tryd.prog 21 #[.slice (some ⟨b, off, none⟩) s c, .int .i64 (nd : Nat), .int .i64 (ct : Nat)] u fun e w' => e = .returned (.int .i64 0) ∧ w' = u) := fun u => by
    have q := refusal_ok (some ⟨b, off, none⟩) s c (nd : Int) (ct : Int) u
    rw [may_zero s nd ct hl.out.2 hnd.out] at q
    exact q
  have H9 : Hid (∀ u, Calls Tryd.prog 9 #[.int .i64 (nd : Nat), .int .i64 (s : Nat)] u fun e w' => e = .returned (.int .i64 (rn : Nat)) ∧ w' = u) := fun u => by
    have q := random_ok (nd : Int) (s : Int) u
    rw [rnd_eq s nd rn hl.out.2 ⟨hnd.out.1, hnd.out.2.1⟩ (hR.out.2.trans hR.out.1)] at q
    exact q
  have H22 : Hid (Calls Tryd.prog 22 #[.int .u16 (sn : Nat), .slice (some ⟨b, off, none⟩) s c, .int .i64 (nd : Nat), .slice ra rn rc] w fun e w' => Hid (NewSQ sn nd n (cfL R (rowS b0 b1 l) n nd) w e w')) := by
    rw [HNN.out]
    exact newS_ok sn nd s b off c ra rn rc b0 b1 l R w hs hl (show _ ∧ _ from ⟨hnd.out.1, hnd.out.2.1⟩) hc h hR hRw hT
  rw [← HNN.out, ← HTT.out]
  obtain ⟨C, HC⟩ : ∃ C : Nat → List F, Hid (C = cfL R (rowS b0 b1 l) n nd) := ⟨_, show _ = _ from rfl⟩
  rw [← HC.out] at H22
  have hi52 : (Tryd.prog.info? 52).map (·.size) = some 3 := by kernel_rfl
  rw [HMM.out]
  go_enter Tryd.func8, Tryd.ntmps8
  go_upto_region 6 with (first
    | (go_at_call 21; refine (H21.out _).mono ?_; rintro e1 w1 ⟨rfl, hw1⟩; obtain rfl := hw1.symm; clear hw1)
    | (go_at_call 9; refine (H9.out _).mono ?_; rintro e1 w1 ⟨rfl, hw1⟩; obtain rfl := hw1.symm; clear hw1)
    | fail)
  go_upto_region 7 with (first
    | (go_at_call 22; refine H22.out.mono ?_; intro e2 w2 h2; obtain ⟨LB, lc, p, q, rfl, h3, h4⟩ := h2.out; have H2 : Hid (PolI LB n nd C p q w2 ∧ Below M w w2) := ⟨h3, by rw [← HMM.out]; exact h4⟩; clear h2 h3 h4 H22)
    | (refine wpList_store_bx (by rfl) 52 (.tmp 13) (.tmp 34) (by rfl) Z52 [.int .u16 (sn : Nat), .int .i64 (nd : Nat), .slice (some ⟨LB, 0, none⟩) n lc] w2.heap.size (by rfl) (by rfl) (Bx.new w2 52 Z52) (by rfl) hi52 (by intro v hv; simp at hv; rcases hv with rfl | rfl | rfl <;> rfl) ?_; intro w3 h3 h4; have H3 : Hid (Bx w3 w2.heap.size 52 [.int .u16 (sn : Nat), .int .i64 (nd : Nat), .slice (some ⟨LB, 0, none⟩) n lc] ∧ PolI LB n nd C p q w3 ∧ Below M w w3) := (by
        have hz : w2.heap.size < (w2.alloc (.cells Z52.toArray 52)).heap.size := by simp
        have hb : Below w2.heap.size w2 w3 := ((Below.refl _ _).alloc (Nat.le_refl _) _).trans (below_gb h4 (by simp) (Nat.le_refl _))
        exact ⟨h3, H2.out.1.below (Nat.le_refl _) hb, H2.out.2.trans (hb.mono (bel_size H2.out.2 HMM.out))⟩); clear h3 h4 H2)
    | fail)
  obtain ⟨SB, HSB⟩ : ∃ q, Hid (w2.heap.size = q) := ⟨_, rfl⟩
  rw [HSB.out] at H3 ⊢
  clear HSB
  obtain ⟨G, HG⟩ : ∃ q, Hid (w3.heap.size = q) := ⟨_, rfl⟩
  go_upto_region 8 with (first
    | (at_make; go_must (refine wpList_make_full _ rfl _ _ 29 rfl w3.heap.size 9 i9 (.string ⟨#[]⟩) 1 Tryd.underlying29 HI9.out.1 HI9.out.2.1 HI9.out.2.2.1 .i64 .i64 (ct : Nat) (ct : Nat) ct rfl rfl rfl rfl HMF.out.1 HMF.out.2 (Nat.le_refl _) ?_; intro w4 hown hgrow; have hlo : Below w3.heap.size w3 w4 := ⟨hgrow.os, hgrow.tape, hgrow.output, hgrow.size, fun c hc => hgrow.block c hc (by simp)⟩; have H4 : Hid ((∃ cu, Bx w4 G 9 cu ∧ Td ct 0 T cu) ∧ Below G w3 w4) := (by rw [← HG.out]; exact ⟨⟨_, (own_full1 hown).1, by rw [show (Value.string ⟨#[]⟩).cells = #[.string ⟨#[]⟩] from rfl, Nat.mul_one, toList_madeCells_one]; exact Td.zero ct T⟩, hlo⟩); clear hown hgrow hlo))
    | fail)
  rw [HG.out]
  have HK : Hid (SB < G ∧ M ≤ G ∧ n ≤ 1000 ∧ unc s + 4 = unc s + 4) := ⟨by rw [← HG.out]; exact H3.out.1.lt, by rw [← HG.out]; exact bel_size H3.out.2.2 HMM.out, by have := hl.out; have := HNN.out; omega, rfl⟩
  have H23 : Hid (∀ u i, i < ct → PolI LB n nd C p q u → Calls Tryd.prog 23 #[.agg #[.int .u16 (sn : Nat), .int .i64 (nd : Nat), .slice (some ⟨LB, 0, none⟩) n lc], .int .i64 ((i + 1 : Nat) : Int)] u fun e w' => Hid (e = .returned (.string (T i)) ∧ Below u.heap.size u w')) := fun u i hi hp => by
    have h255 := hnd.out
    have q := line_ok sn nd (i + 1) s n nd (unc s) (unc s + 4) LB lc b0 b1 bn (fN (i + 1)) bs C p q u hs hbn (fN_val (i + 1) (by omega)) hbs (show _ ∧ _ ∧ _ ∧ _ from ⟨rfl, rfl, HNN.out, by omega⟩) hp
    rw [HTT.out]
    unfold lineT valsL
    rw [HC.out] at q
    exact q
  go_wp2
  go_loopw [39] (fun vi wr => ∃ i : Nat, i ≤ ct ∧ vi = .int .i64 (i : Nat) ∧ Hid ((∃ cu, Bx wr G 9 cu ∧ Td ct i T cu) ∧ Below G w3 wr)) (fun vi _ => ct - (intOf vi).toNat)
  case atStart => exact ⟨0, by omega, rfl, H4.out⟩
  case round =>
    obtain ⟨i, hi, rfl, HI⟩ := hrel
    clear H4
    by_cases hlt : i < ct
    · obtain ⟨⟨cu, hcu, hC⟩, hbl⟩ := HI.out
      have g1 : (i : Int) < (ct : Int) := by omega
      have g0 : (0 : Int) ≤ (i : Int) := by omega
      obtain ⟨i1, HI1⟩ : ∃ q, Hid (q = i + 1) := ⟨i + 1, show _ = _ from rfl⟩
      have x1 : IntKind.i64.wrap ((i : Int) + 1) = (i1 : Int) := by rw [IntKind.wrap_i64]; have := HI1.out; have := hnd.out; omega
      have HSX : Hid (∀ u, Below G w3 u → Bx u SB 52 [.int .u16 (sn : Nat), .int .i64 (nd : Nat), .slice (some ⟨LB, 0, none⟩) n lc] ∧ PolI LB n nd C p q u) := fun u hu => ⟨H3.out.1.keep (hu.block SB HK.out.1), H3.out.2.1.below (Nat.le_of_eq HG.out) hu⟩
      have HCU : Hid (Bx wr G 9 cu ∧ Td ct i T cu ∧ Below G w3 wr) := ⟨hcu, hC, hbl⟩
      have HLT : Hid (i < ct) := hlt
      have HRG : Hid (wr.rangeAt SB 0 [.int .u16 (sn : Nat), .int .i64 (nd : Nat), .slice (some ⟨LB, 0, none⟩) n lc]) := ((HSX.out wr hbl).1).range
      have H23i : Hid (Calls Tryd.prog 23 #[.agg #[.int .u16 (sn : Nat), .int .i64 (nd : Nat), .slice (some ⟨LB, 0, none⟩) n lc], .int .i64 (i1 : Int)] wr fun e w' => Hid (e = .returned (.string (T i)) ∧ Below wr.heap.size wr w')) := by rw [HI1.out]; exact H23.out wr i hlt (HSX.out wr hbl).2
      clear HI hcu hC hbl hlt hi
      go_wp2_with (first
        | (refine wpList_load_mid (by rfl) 52 (.tmp 13) (by rfl) SB 0 (by rfl) [.int .u16 (sn : Nat), .int .i64 (nd : Nat), .slice (some ⟨LB, 0, none⟩) n lc] _ HRG.out Tryd.underlying52 rfl hi52 ?_)
        | (go_at_call 23; refine H23i.out.mono ?_; intro e5 w5 h5; obtain ⟨rfl, h6⟩ := h5.out; have H5 : Hid (Bx w5 G 9 cu ∧ Below G w3 w5) := ⟨HCU.out.1.below h6, HCU.out.2.2.trans (h6.mono (Nat.le_of_lt HCU.out.1.lt))⟩; clear h5 h6; obtain ⟨z, hz⟩ := HCU.out.2.1.2.2 i HLT.out; have c1 : w5.cell? ⟨G, i, none⟩ = some (.string z) := H5.out.1.cell i _ hz; have f1 : w5.frozen? ⟨G, i, none⟩ = false := H5.out.1.frozen i; clear hz)
        | fail)
      have HN : Hid ((∃ cu, Bx (w5.setCell ⟨G, i, none⟩ (.string (T i))) G 9 cu ∧ Td ct (i + 1) T cu) ∧ Below G w3 (w5.setCell ⟨G, i, none⟩ (.string (T i)))) := ⟨⟨_, H5.out.1.set i _, HCU.out.2.1.next HLT.out⟩, H5.out.2.setCell (Nat.le_refl _) _⟩
      go_roundw
      case rel => exact ⟨i + 1, by have := HLT.out; omega, by rw [HI1.out], HN.out⟩
      case measure => simp [intOf]; have := HLT.out; have := HI1.out; omega
    · have hin : i = ct := by omega
      subst hin
      have g1 : ¬ (i : Int) < (i : Int) := by omega
      obtain ⟨⟨cu, hcu, hC⟩, hbl⟩ := HI.out
      have HF : Hid (Bx wr G 9 (tcs T i) ∧ Below M w wr) := ⟨by rw [← hC.all]; exact hcu, H3.out.2.2.trans (hbl.mono HK.out.2.1)⟩
      clear HI hcu hC hbl H3 H23
      go_wp2
      go_ret2
      exact ⟨G, rfl, HK.out.2.1, HF.out.1, HF.out.2⟩
end Go.Proofs.YtbpkocohddlbhaaDoor
namespace Go.Proofs.YtbpkocohddlbhaaDoor
open Go.RowKit
set_option linter.unusedVariables false
/-- What a block function of the document's answer has in memory: the words that it was handed (block N), the constants (block N + 1, where there are some), room for what it answers (rb), the schedule (wb). -/
structure TX (w wr : World) (H : List Value) (K : Nat → Option Value) (rb wb M : Nat) (G : Nat → Value) : Prop where
  below : Below w.heap.size w wr
  nb : w.heap.size < rb ∧ w.heap.size < wb ∧ rb ≠ wb ∧ wb ≠ w.heap.size + 1 ∨ w.heap.size < rb ∧ w.heap.size < wb ∧ rb ≠ wb ∧ ∀ t, K t = none
  sz : rb < wr.heap.size ∧ wb < wr.heap.size ∧ w.heap.size < wr.heap.size
  h : wr.rangeAt w.heap.size 0 H
  k : ∀ t v, K t = some v → wr.cell? ⟨w.heap.size + 1, t, none⟩ = some v
  res : wr.there rb 0 8
  wth : wr.there wb 0 M
  fill : ∀ j, j < M → wr.cell? ⟨wb, j, none⟩ = some (G j)
theorem TX.drewN {w wr : World} {H : List Value} {K : Nat → Option Value} {rb wb M : Nat} {G : Nat → Value} (h : TX w wr H K rb wb M G) (n : Nat) : TX w (wr.drewN n) H K rb wb M G :=
  ⟨⟨h.below.os, h.below.tape, h.below.output, h.below.size, h.below.block⟩, h.nb, h.sz, h.h, h.k, h.res, h.wth, h.fill⟩
theorem TX.drew {w wr : World} {H : List Value} {K : Nat → Option Value} {rb wb M : Nat} {G : Nat → Value} (h : TX w wr H K rb wb M G) : TX w wr.drew H K rb wb M G :=
  ⟨⟨h.below.os, h.below.tape, h.below.output, h.below.size, h.below.block⟩, h.nb, h.sz, h.h, h.k, h.res, h.wth, h.fill⟩
theorem TX.congr {w wr : World} {H : List Value} {K : Nat → Option Value} {rb wb M : Nat} {G G' : Nat → Value} (h : TX w wr H K rb wb M G) (e : ∀ j, j < M → G j = G' j) : TX w wr H K rb wb M G' :=
  ⟨h.below, h.nb, h.sz, h.h, h.k, h.res, h.wth, fun j hj => by rw [← e j hj]; exact h.fill j hj⟩
theorem setCell_other (w : World) (b o b' o' : Nat) (u : Value) (hne : b' ≠ b) : (w.setCell ⟨b, o, none⟩ u).cell? ⟨b', o', none⟩ = w.cell? ⟨b', o', none⟩ :=
  World.cell?_of_block (w := w) (Below.heap_setCell w ⟨b, o, none⟩ u b' (by simpa using hne))
theorem TX.put {w wr : World} {H : List Value} {K : Nat → Option Value} {rb wb M : Nat} {G : Nat → Value} (h : TX w wr H K rb wb M G) (t : Nat) (ht : t < M) (u : Value) : TX w (wr.setCell ⟨wb, t, none⟩ u) H K rb wb M (fun j => if j = t then u else G j) := by
  have n1 : w.heap.size < rb ∧ w.heap.size < wb ∧ rb ≠ wb := by rcases h.nb with q | q <;> exact ⟨q.1, q.2.1, q.2.2.1⟩
  refine ⟨h.below.setCell (by show _ ≤ wb; omega) u, h.nb, by simpa [World.setCell] using h.sz, fun j v hv => ?_, fun j v hv => ?_, World.there_setCells h.res wb t [u], World.there_setCells h.wth wb t [u], fun j hj => ?_⟩
  · rw [setCell_other wr wb t _ _ u (by omega)]
    exact h.h j v hv
  · rcases h.nb with q | q
    · rw [setCell_other wr wb t _ _ u (by omega)]
      exact h.k j v hv
    · rw [q.2.2.2 j] at hv
      cases hv
  · by_cases e : j = t
    · subst e
      rw [if_pos rfl]
      have := (h.wth j hj).1
      rw [Nat.zero_add] at this
      exact World.cell?_setCell_same' _ _ _ this
    · rw [if_neg e]
      have := World.cell?_setCells_out wb [u] t wr ⟨wb, j, none⟩ (fun _ _ => by show j < t ∨ t + 1 ≤ j; omega)
      exact this.trans (h.fill j hj)
/-- Cells of what was made before lie as they did. -/
theorem cell_alloc_old (w : World) (o : Obj) (b j : Nat) (hb : b < w.heap.size) : (w.alloc o).cell? ⟨b, j, none⟩ = w.cell? ⟨b, j, none⟩ := World.cell?_of_block (w := w) (Below.heap_alloc w o b hb)
theorem there_alloc_old {w : World} {b o n : Nat} (h : w.there b o n) (hb : b < w.heap.size) (ob : Obj) : (w.alloc ob).there b o n := fun j hj => by
  rw [cell_alloc_old w ob b (o + j) hb, World.frozen?_of_block (w := w) (a := ⟨b, o + j, none⟩) (Below.heap_alloc w ob b hb)]
  exact h j hj
theorem range_alloc_old {w : World} {b o : Nat} {cs : List Value} (h : w.rangeAt b o cs) (hb : b < w.heap.size) (ob : Obj) : (w.alloc ob).rangeAt b o cs := fun j v hv => by
  rw [cell_alloc_old w ob b (o + j) hb]
  exact h j v hv
theorem size_alloc (w : World) (o : Obj) : (w.alloc o).heap.size = w.heap.size + 1 := by simp
theorem tx_new4 (w : World) (H Kc Z8 Zw : Array Value) (t1 t2 t3 t4 : TypeId) (K : Nat → Option Value) (M : Nat) (G : Nat → Value) (h8 : Z8.size = 8) (hM : Zw.size = M) (hK : ∀ t v, K t = some v → Kc[t]? = some v) (hG : ∀ j, j < M → Zw[j]? = some (G j)) :
    TX w ((((w.alloc (.cells H t1)).alloc (.cells Kc t2)).alloc (.cells Z8 t3)).alloc (.cells Zw t4)) H.toList K (w.heap.size + 2) (w.heap.size + 3) M G := by
  obtain ⟨w1, e1⟩ : ∃ w1, w1 = w.alloc (.cells H t1) := ⟨_, rfl⟩
  obtain ⟨w2, e2⟩ : ∃ w2, w2 = w1.alloc (.cells Kc t2) := ⟨_, rfl⟩
  obtain ⟨w3, e3⟩ : ∃ w3, w3 = w2.alloc (.cells Z8 t3) := ⟨_, rfl⟩
  have s1 : w1.heap.size = w.heap.size + 1 := by rw [e1, size_alloc]
  have s2 : w2.heap.size = w.heap.size + 2 := by rw [e2, size_alloc, s1]
  have s3 : w3.heap.size = w.heap.size + 3 := by rw [e3, size_alloc, s2]
  rw [← e1, ← e2, ← e3]
  have b1 : Below w.heap.size w w1 := by rw [e1]; exact (Below.refl _ _).alloc (Nat.le_refl _) _
  have b2 : Below w.heap.size w w2 := by rw [e2]; exact b1.alloc (by omega) _
  have b3 : Below w.heap.size w w3 := by rw [e3]; exact b2.alloc (by omega) _
  refine ⟨b3.alloc (by omega) _, .inl (by omega), by rw [size_alloc]; omega, ?_, fun t v hv => ?_, ?_, ?_, fun j hj => ?_⟩
  · have r1 : w1.rangeAt w.heap.size 0 H.toList := by rw [e1]; exact rangeAt_new w H t1
    have r2 : w2.rangeAt w.heap.size 0 H.toList := by rw [e2]; exact range_alloc_old r1 (by omega) _
    have r3 : w3.rangeAt w.heap.size 0 H.toList := by rw [e3]; exact range_alloc_old r2 (by omega) _
    exact range_alloc_old r3 (by omega) _
  · rw [cell_alloc_old w3 _ _ _ (by omega), e3, cell_alloc_old w2 _ _ _ (by omega), e2]
    have := rangeAt_new w1 Kc t2 t v (by simpa using hK t v hv)
    rw [s1, Nat.zero_add] at this
    exact this
  · have := there_new w2 Z8 t3 8 (by omega)
    rw [s2, ← e3] at this
    exact there_alloc_old this (by omega) _
  · have := there_new w3 Zw t4 M (by omega)
    rw [s3] at this
    exact this
  · have := rangeAt_new w3 Zw t4 j (G j) (by simpa using hG j hj)
    rw [s3, Nat.zero_add] at this
    exact this
theorem tx_new3 (w : World) (H Z8 Zw : Array Value) (t1 t3 t4 : TypeId) (M : Nat) (G : Nat → Value) (h8 : Z8.size = 8) (hM : Zw.size = M) (hG : ∀ j, j < M → Zw[j]? = some (G j)) :
    TX w (((w.alloc (.cells H t1)).alloc (.cells Z8 t3)).alloc (.cells Zw t4)) H.toList (fun _ => none) (w.heap.size + 1) (w.heap.size + 2) M G := by
  obtain ⟨w1, e1⟩ : ∃ w1, w1 = w.alloc (.cells H t1) := ⟨_, rfl⟩
  obtain ⟨w2, e2⟩ : ∃ w2, w2 = w1.alloc (.cells Z8 t3) := ⟨_, rfl⟩
  have s1 : w1.heap.size = w.heap.size + 1 := by rw [e1, size_alloc]
  have s2 : w2.heap.size = w.heap.size + 2 := by rw [e2, size_alloc, s1]
  rw [← e1, ← e2]
  have b1 : Below w.heap.size w w1 := by rw [e1]; exact (Below.refl _ _).alloc (Nat.le_refl _) _
  have b2 : Below w.heap.size w w2 := by rw [e2]; exact b1.alloc (by omega) _
  refine ⟨b2.alloc (by omega) _, .inr ⟨by omega, by omega, by omega, fun _ => rfl⟩, by rw [size_alloc]; omega, ?_, fun t v hv => (by cases hv), ?_, ?_, fun j hj => ?_⟩
  · have r1 : w1.rangeAt w.heap.size 0 H.toList := by rw [e1]; exact rangeAt_new w H t1
    have r2 : w2.rangeAt w.heap.size 0 H.toList := by rw [e2]; exact range_alloc_old r1 (by omega) _
    exact range_alloc_old r2 (by omega) _
  · have := there_new w1 Z8 t3 8 (by omega)
    rw [s1, ← e2] at this
    exact there_alloc_old this (by omega) _
  · have := there_new w2 Zw t4 M (by omega)
    rw [s2] at this
    exact this
  · have := rangeAt_new w2 Zw t4 j (G j) (by simpa using hG j hj)
    rw [s2, Nat.zero_add] at this
    exact this
end Go.Proofs.YtbpkocohddlbhaaDoor
