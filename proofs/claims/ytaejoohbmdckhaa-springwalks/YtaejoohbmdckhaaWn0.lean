import Derived.Test.YtaejoohbmdckhaaWn1
import Derived.Deep.RegionHeld3
namespace Go.Proofs.Ytaejoohbmdckhaa
open Go.RowKit
set_option linter.unusedVariables false
set_option linter.unusedSimpArgs false
set_option maxHeartbeats 4000000 in
set_option maxRecDepth 100000 in
theorem law_ok (p1 p2 : Option Addr) (n1 n2 c1 c2 : Nat) (f1 f2 : Nat → Nat) (w : World) (m1 : n1 ≤ 140737488355328) (m2 : n2 ≤ 140737488355328) (hf1 : Hid (∀ i, f1 i < 256)) (hf2 : Hid (∀ i, f2 i < 256)) (q1 : Hid (p1 = none → c1 = 0)) (q2 : Hid (p2 = none → c2 = 0)) (h1 : Hid (By w p1 n1 f1)) (h2 : Hid (By w p2 n2 f2)) : Calls Try.prog 3 #[.slice p1 n1 c1, .slice p2 n2 c2] w (Ans w) := by
  go_enter Try.func3, Try.ntmps3
  go_upto_if 21 with fail
  by_cases hs : n1 + n2 ≤ 131072
  · have hd : decide ((131072 : Int) < (n1 : Int) + (n2 : Int)) = false := by simp; omega
    obtain ⟨i5, hi5, hz0, hz1, hz2⟩ := info_parts info5
    have HI : Hid (_ ∧ _ ∧ _ ∧ _) := ⟨hi5, hz0, hz1, hz2⟩
    clear hi5 hz0 hz1 hz2
    have HS : Hid (n1 + n2 ≤ 131072) := hs
    have hn1 : n1 ≤ 131072 := by omega
    have hn2 : n2 ≤ 131072 := by omega
    go_upto_region 4 with (first
      | (at_builtin; (refine wpList_append_rv rfl (.tmp 22) (.tmp 23) 22 rfl 5 i5 _ 1 1 Try.underlying22 HI.out.1 HI.out.2.1 HI.out.2.2.1 HI.out.2.2.2 rfl (by decide) byL_len byL_one w.heap.size w.heap.size 0 0 [] rfl (own_empty (heap_alloc_new w _) (Nat.le_refl _)) p1 n1 c1 ((List.range n1).map f1) rfl (by simp) ((h1.out.below ((Below.refl _ w).alloc (Nat.le_refl _) _)).rv) q1.out (by unfold maxLen; omega) (by omega) (by simp) ?_); intro g1 k1 W1 ho1 hg1 ha1; rw [Nat.zero_add] at ho1; rw [List.nil_append] at ho1; rw [Nat.zero_add]; have hB1 : Below w.heap.size w W1 := ((Below.refl _ w).alloc (Nat.le_refl _) _).grown hg1 (by simp) (by intro q hq; cases hq; exact Nat.le_refl _); clear hg1 ha1)
      | (at_builtin; (refine wpList_append_rv rfl (.tmp 24) (.tmp 25) 22 rfl 5 i5 _ 1 1 Try.underlying22 HI.out.1 HI.out.2.1 HI.out.2.2.1 HI.out.2.2.2 rfl (by decide) byL_len byL_one w.heap.size g1 n1 k1 (((List.range n1).map f1).flatMap byL) rfl (ho1) p2 n2 c2 ((List.range n2).map f2) rfl (by simp) ((h2.out.below hB1).rv) q2.out (by unfold maxLen; omega) (by omega) hB1.size ?_); intro g2 k2 W2 ho2 hg2 ha2; have hB2 : Below w.heap.size w W2 := hB1.grown hg2 hB1.size (by intro q hq; cases hq; exact (ho1.lt g1 rfl).1); clear hg2 ha2))
    have HA : Hid (By W2 (some ⟨g2, 0, none⟩) (n1 + n2) (cat f1 f2 n1)) := by_own hf1.out hf2.out ho2
    have HB2 : Hid (Below w.heap.size w W2) := hB2
    clear ho1 hB1 ho2 hB2 HI
    have T3 : Hid (Calls Try.prog 6 #[.slice p1 n1 c1] W2 fun e w' => e = .returned (.tuple #[.agg (teC f1 n1), .int .i64 0]) ∧ Below W2.heap.size W2 w') := test_ok p1 (n1) c1 f1 (by omega) W2 (h1.out.below HB2.out)
    go_upto_region 5 with (first
      | (go_at_call 6; refine T3.out.mono ?_; rintro e3 V3 ⟨rfl, hv3⟩)
      | (refine wpList_alloc_arr (by rfl) 27 15 (by rfl) zero27 ?_; intro X3 b3 ht3 hb3 hG3 hz3; subst hG3)
      | (refine wpList_store_he (by rfl) (.tmp 6) (.tmp 30) (by rfl) (teC f1 n1) (teC_ok _ _) V3.heap.size (by rfl) (by rfl) ht3 ?_; intro Y3 hy3 hw3 hl3))
    try simp only [Act.put, List.setIfInBounds_toArray, List.set_cons_zero, List.set_cons_succ]
    have HE3 : Hid (Hb Y3 V3.heap.size (teC f1 n1)) := hy3
    have HD3 : Hid (Below W2.heap.size W2 Y3) := hv3.trans ((hb3.mono hv3.size).trans (hw3.mono hv3.size))
    clear hy3 hv3 ht3 hb3 hw3 hl3 hz3 T3
    generalize V3.heap.size = b3 at HE3 ⊢
    have T4 : Hid (Calls Try.prog 6 #[.slice p2 n2 c2] Y3 fun e w' => e = .returned (.tuple #[.agg (teC f2 n2), .int .i64 0]) ∧ Below Y3.heap.size Y3 w') := test_ok p2 (n2) c2 f2 (by omega) Y3 ((h2.out.below HB2.out).below HD3.out)
    go_upto_region 6 with (first
      | (go_at_call 6; refine T4.out.mono ?_; rintro e4 V4 ⟨rfl, hv4⟩)
      | (refine wpList_alloc_arr (by rfl) 27 15 (by rfl) zero27 ?_; intro X4 b4 ht4 hb4 hG4 hz4; subst hG4)
      | (refine wpList_store_he (by rfl) (.tmp 8) (.tmp 35) (by rfl) (teC f2 n2) (teC_ok _ _) V4.heap.size (by rfl) (by rfl) ht4 ?_; intro Y4 hy4 hw4 hl4))
    try simp only [Act.put, List.setIfInBounds_toArray, List.set_cons_zero, List.set_cons_succ]
    have HE4 : Hid (Hb Y4 V4.heap.size (teC f2 n2)) := hy4
    have HD4 : Hid (Below Y3.heap.size Y3 Y4) := hv4.trans ((hb4.mono hv4.size).trans (hw4.mono hv4.size))
    clear hy4 hv4 ht4 hb4 hw4 hl4 hz4 T4
    generalize V4.heap.size = b4 at HE4 ⊢
    go_upto_region 6 with fail
    go_cut [10, 11] from 16 (fun a b wx => ∃ b5 : Nat, a = .pointer (some ⟨b5, 0, none⟩) ∧ b = .int .i64 0 ∧ Hid (Hb wx b3 (teC f1 n1) ∧ Hb wx b4 (teC f2 n2) ∧ Hb wx b5 (teC (cat f1 f2 n1) (n1 + n2)) ∧ Below w.heap.size w wx))
    case first =>
      have T5 : Hid (Calls Try.prog 6 #[.slice (some ⟨g2, 0, none⟩) (n1 + n2) k2] Y4 fun e w' => e = .returned (.tuple #[.agg (teC (cat f1 f2 n1) (n1 + n2)), .int .i64 0]) ∧ Below Y4.heap.size Y4 w') := test_ok (some ⟨g2, 0, none⟩) ((n1 + n2)) k2 (cat f1 f2 n1) (by omega) Y4 ((HA.out.below HD3.out).below HD4.out)
      go_wp2_with (first
        | (go_at_call 6; refine T5.out.mono ?_; rintro e5 V5 ⟨rfl, hv5⟩)
        | (refine wpList_alloc_arr (by rfl) 27 15 (by rfl) zero27 ?_; intro X5 b5 ht5 hb5 hG5 hz5; subst hG5)
        | (refine wpList_store_he (by rfl) (.tmp 10) (.tmp 40) (by rfl) (teC (cat f1 f2 n1) (n1 + n2)) (teC_ok _ _) V5.heap.size (by rfl) (by rfl) ht5 ?_; intro Y5 hy5 hw5 hl5))
      have HE5 : Hid (Hb Y5 V5.heap.size (teC (cat f1 f2 n1) (n1 + n2))) := hy5
      have HD5 : Hid (Below Y4.heap.size Y4 Y5) := hv5.trans ((hb5.mono hv5.size).trans (hw5.mono hv5.size))
      clear hy5 hv5 ht5 hb5 hw5 hl5 hz5 T5
      generalize V5.heap.size = b5 at HE5 ⊢
      have EX : Hid (Hb Y5 b3 (teC f1 n1)) := (HE3.out.below HD4.out).below HD5.out
      have EY : Hid (Hb Y5 b4 (teC f2 n2)) := HE4.out.below HD5.out
      have EZ : Hid (Hb Y5 b5 (teC (cat f1 f2 n1) (n1 + n2))) := HE5
      have HBB : Hid (Below w.heap.size w Y5) := ((HB2.out.trans (HD3.out.mono HB2.out.size)).trans (HD4.out.mono (Nat.le_trans HB2.out.size HD3.out.size))).trans (HD5.out.mono (Nat.le_trans (Nat.le_trans HB2.out.size HD3.out.size) HD4.out.size))
      go_meet
      case rel => exact ⟨b5, rfl, rfl, (show Hid (_ ∧ _) from ⟨EX.out, EY.out, EZ.out, HBB.out⟩)⟩
    obtain ⟨b5, rfl, rfl, HQ⟩ := hcut
    apply_assumption
    refine wp_seq_k fun K2 hK2 => ?_
    exact t7 _ _ rfl p1 p2 n1 n2 c1 c2 g2 k2 b3 b4 b5 f1 f2 HS hn1 hn2 hf1 hf2 w wc HQ.out.2.2.2 (h1.out.below HQ.out.2.2.2) (h2.out.below HQ.out.2.2.2) HQ.out.1 HQ.out.2.1 HQ.out.2.2.1 _ _ _ _ _ _ _ _ _ _ _ _ _ _ _ _ _ _ _ _ _ _ _ _ _ _ _ _ _ _ _ _ _ _ _ _ _ _ _ _ _ _ _ _ _ _ _ _ _ _ _ _ _ _ _ _ _ _ _ _ _ _ _ _ _ _ _ _ _ _ _ _ _ _ _ _ _ _ _ _ _ _ _ _ _ _ _ _ _ _ _ _ _ _ _ _ _ _ _ _ _ _ _ _ _ _ _ _ _ _ _ _ _ _ _ _ _ _ _ _ _ _ _ _ _ _ _ _ _ _ _ _ _ _ _ _ _ _ _ _ _ _ _ _ _ _ _ _ _ _ _ _ _ _ _ _ _ _ _ _ _ _ _ _ _ _ _ _ _ _ _ _ _ _ _ _ _ _ _ _ _ _ _ _ _ _ _ _ _ _ _ _ _ _ _ _ _ _ _ _ _ _ _ _ _ _ _ _ _ _ _ _ _ _ _ _ _ _ _ _ _ _ _ _ _ _ _ _ _ _ _ _ _ _ _ _ _ _ _ _ _ _ _ _ K2 hK2
  · have hd : decide ((131072 : Int) < (n1 : Int) + (n2 : Int)) = true := by simp; omega
    go_wp2
    go_ret
    exact ⟨rfl, Below.refl _ _⟩
end Go.Proofs.Ytaejoohbmdckhaa
