import Derived.Test.YtmfnhdflmnmooaaNxc
namespace Go.Proofs.Ytmfnhdflmnmooaa
open Go.RowKit
set_option linter.unusedVariables false
set_option linter.unusedSimpArgs false
/-- Is it one of the first k sizes of a header? -/
def hdB (H : Int) : Nat → Bool
  | 0 => false
  | k + 1 => hdB H k || H == 16384 * 2 ^ k
theorem hdB_all (H : Int) : hdB H 9 = headB H := by
  simp [hdB, headB]
set_option maxHeartbeats 1600000 in
set_option maxRecDepth 100000 in
theorem shaped_ok (U C H K : Int) (c00 : 0 ≤ C) (c99 : C ≤ 18446744073709551615) (w : World) : Calls Try.prog 26 #[.agg #[.int .i64 U, .int .u64 C, .int .i64 H, .int .i64 K]] w fun e w' => e = .returned (.bool (mayB U C H K)) ∧ Below w.heap.size w w' := by
  have HA : Hid (SAt (w.alloc (.cells #[.int .i64 U, .int .u64 C, .int .i64 H, .int .i64 K] 24)) w.heap.size U C H K ∧ Below w.heap.size w (w.alloc (.cells #[.int .i64 U, .int .u64 C, .int .i64 H, .int .i64 K] 24))) := ⟨SAt.new _ _ _ _ _ _, below_alloc1 _ _⟩
  go_enter Try.func26, Try.ntmps26
  go_upto_region 1 with fail
  generalize w.alloc (.cells #[.int .i64 U, .int .u64 C, .int .i64 H, .int .i64 K] 24) = w0 at HA ⊢
  go_wp2
  have c2 := HA.out.1.c2
  go_loopw [3, 4] (fun hd h wr => ∃ k : Nat, k ≤ 9 ∧ h = .int .i64 ((16384 * 2 ^ k : Nat) : Int) ∧ hd = .bool (hdB H k) ∧ wr = w0) (fun _ h _ => 8388609 - (intOf h).toNat)
  case atStart => exact ⟨0, by omega, rfl, rfl, rfl⟩
  case round =>
    obtain ⟨k, hk, rfl, rfl, hw⟩ := hrel
    obtain rfl := hw.symm
    by_cases h9 : k < 9
    · have HN : Hid (∀ b : Bool, b = (hdB H k || H == 16384 * 2 ^ k) → b = hdB H (k + 1)) := fun b hb => by rw [hb]; rfl
      obtain ⟨b, hb⟩ : ∃ b, Hid (b = hdB H k) := ⟨_, rfl⟩
      rw [← hb.out] at HN ⊢
      obtain rfl | rfl | rfl | rfl | rfl | rfl | rfl | rfl | rfl : k = 0 ∨ k = 1 ∨ k = 2 ∨ k = 3 ∨ k = 4 ∨ k = 5 ∨ k = 6 ∨ k = 7 ∨ k = 8 := by omega
      · cases b
        · go_wp2
          exact ⟨⟨1, by omega, by go_num, congrArg Value.bool (HN.out _ (by simp)), trivial⟩, by simp [intOf]⟩
        · go_wp2
          exact ⟨⟨1, by omega, by go_num, congrArg Value.bool (HN.out true (by simp)), trivial⟩, by simp [intOf]⟩
      · cases b
        · go_wp2
          exact ⟨⟨2, by omega, by go_num, congrArg Value.bool (HN.out _ (by simp)), trivial⟩, by simp [intOf]⟩
        · go_wp2
          exact ⟨⟨2, by omega, by go_num, congrArg Value.bool (HN.out true (by simp)), trivial⟩, by simp [intOf]⟩
      · cases b
        · go_wp2
          exact ⟨⟨3, by omega, by go_num, congrArg Value.bool (HN.out _ (by simp)), trivial⟩, by simp [intOf]⟩
        · go_wp2
          exact ⟨⟨3, by omega, by go_num, congrArg Value.bool (HN.out true (by simp)), trivial⟩, by simp [intOf]⟩
      · cases b
        · go_wp2
          exact ⟨⟨4, by omega, by go_num, congrArg Value.bool (HN.out _ (by simp)), trivial⟩, by simp [intOf]⟩
        · go_wp2
          exact ⟨⟨4, by omega, by go_num, congrArg Value.bool (HN.out true (by simp)), trivial⟩, by simp [intOf]⟩
      · cases b
        · go_wp2
          exact ⟨⟨5, by omega, by go_num, congrArg Value.bool (HN.out _ (by simp)), trivial⟩, by simp [intOf]⟩
        · go_wp2
          exact ⟨⟨5, by omega, by go_num, congrArg Value.bool (HN.out true (by simp)), trivial⟩, by simp [intOf]⟩
      · cases b
        · go_wp2
          exact ⟨⟨6, by omega, by go_num, congrArg Value.bool (HN.out _ (by simp)), trivial⟩, by simp [intOf]⟩
        · go_wp2
          exact ⟨⟨6, by omega, by go_num, congrArg Value.bool (HN.out true (by simp)), trivial⟩, by simp [intOf]⟩
      · cases b
        · go_wp2
          exact ⟨⟨7, by omega, by go_num, congrArg Value.bool (HN.out _ (by simp)), trivial⟩, by simp [intOf]⟩
        · go_wp2
          exact ⟨⟨7, by omega, by go_num, congrArg Value.bool (HN.out true (by simp)), trivial⟩, by simp [intOf]⟩
      · cases b
        · go_wp2
          exact ⟨⟨8, by omega, by go_num, congrArg Value.bool (HN.out _ (by simp)), trivial⟩, by simp [intOf]⟩
        · go_wp2
          exact ⟨⟨8, by omega, by go_num, congrArg Value.bool (HN.out true (by simp)), trivial⟩, by simp [intOf]⟩
      · cases b
        · go_wp2
          exact ⟨⟨9, by omega, by go_num, congrArg Value.bool (HN.out _ (by simp)), trivial⟩, by simp [intOf]⟩
        · go_wp2
          exact ⟨⟨9, by omega, by go_num, congrArg Value.bool (HN.out true (by simp)), trivial⟩, by simp [intOf]⟩
    · obtain rfl : k = 9 := by omega
      rw [hdB_all]
      have HU : Hid (∀ v, Calls Try.prog 55 #[.int .i64 U] v fun e w' => e = .returned (.bool (unitB U)) ∧ w' = v) := fun v => runit_ok U v
      have c0 := HA.out.1.c0
      have c1 := HA.out.1.c1
      have c3 := HA.out.1.c3
      have HM : Hid (mayB U C H K = (unitB U && headB H && decide (4096 ≤ K) && decide (K ≤ 134217728) && decide (K % 4096 = 0) && decide (C ≤ 4294967296) && decide (2 * H + K < C * U))) := rfl
      obtain ⟨M, hM⟩ : ∃ M, Hid (M = mayB U C H K) := ⟨_, rfl⟩
      rw [← hM.out] at HM
      have HV : Hid (∀ b, b = M → (Ending.returned (.bool b) = .returned (.bool (mayB U C H K)))) := fun b h => by rw [h, hM.out]
      cases hu : unitB U with
      | false =>
        rw [hu] at HU HM
        have HF : Hid (false = M) := by show false = M; rw [HM.out]; simp
        clear HM
        go_wp2_with (go_at_call 55; refine (HU.out _).mono ?_; rintro e5 w5 ⟨rfl, hw5⟩; obtain rfl := hw5.symm)
        go_ret
        exact ⟨HV.out _ HF.out, HA.out.2⟩
      | true =>
      cases hh : headB H with
      | false =>
        rw [hu] at HU
        rw [hh] at HM
        have HF : Hid (false = M) := by show false = M; rw [HM.out]; simp
        clear HM
        go_wp2_with (go_at_call 55; refine (HU.out _).mono ?_; rintro e5 w5 ⟨rfl, hw5⟩; obtain rfl := hw5.symm)
        go_ret
        exact ⟨HV.out _ HF.out, HA.out.2⟩
      | true =>
      rw [hu] at HU
      have hr := headB_range hh
      have hur : 512 ≤ U ∧ U ≤ 4096 := by rcases unitB_cases hu with h | h | h | h <;> omega
      rw [hu, hh] at HM
      by_cases k1 : K < 4096
      · have HF : Hid (false = M) := by show false = M; rw [HM.out]; simp; omega
        clear HM
        have d1 : decide (K < 4096) = true := by simp; omega
        go_wp2_with (go_at_call 55; refine (HU.out _).mono ?_; rintro e5 w5 ⟨rfl, hw5⟩; obtain rfl := hw5.symm)
        go_ret
        exact ⟨HV.out _ HF.out, HA.out.2⟩
      have d1 : decide (K < 4096) = false := by simp; omega
      by_cases k2 : 134217728 < K
      · have HF : Hid (false = M) := by show false = M; rw [HM.out]; simp; omega
        clear HM
        have d2 : decide (134217728 < K) = true := by simp; omega
        go_wp2_with (go_at_call 55; refine (HU.out _).mono ?_; rintro e5 w5 ⟨rfl, hw5⟩; obtain rfl := hw5.symm)
        go_ret
        exact ⟨HV.out _ HF.out, HA.out.2⟩
      have d2 : decide (134217728 < K) = false := by simp; omega
      have eT : K.tmod 4096 = K % 4096 := Int.tmod_eq_emod_of_nonneg (by omega)
      by_cases k3 : K % 4096 = 0
      · have d3 : ((K % 4096 : Int) != 0) = false := by simp [k3]
        by_cases k4 : 4294967296 < C
        · have HF : Hid (false = M) := by show false = M; rw [HM.out]; simp; omega
          clear HM k3
          have d4 : decide (4294967296 < C) = true := by simp; omega
          go_wp2_with (go_at_call 55; refine (HU.out _).mono ?_; rintro e5 w5 ⟨rfl, hw5⟩; obtain rfl := hw5.symm)
          go_ret
          exact ⟨HV.out _ HF.out, HA.out.2⟩
        have d4 : decide (4294967296 < C) = false := by simp; omega
        have HF : Hid (decide (2 * H + K < C * U) = M) := by show _ = M; rw [HM.out]; simp [k3]; omega
        have hcu : 0 ≤ C * U ∧ C * U ≤ 17592186044416 := by
          rcases unitB_cases hu with h | h | h | h <;> (rw [h]; omega)
        have x1 : IntKind.i64.wrap C = C := by rw [IntKind.wrap_i64]; omega
        have x1' : wrap64 C = C := by unfold wrap64; omega
        have x2 : IntKind.i64.wrap (C * U) = C * U := by rw [IntKind.wrap_i64]; omega
        have x2' : wrap64 (C * U) = C * U := by unfold wrap64; omega
        have x3 : IntKind.i64.wrap (2 * H) = 2 * H := by rw [IntKind.wrap_i64]; omega
        have x4 : IntKind.i64.wrap (2 * H + K) = 2 * H + K := by rw [IntKind.wrap_i64]; omega
        clear HM k3
        go_wp2_with (go_at_call 55; refine (HU.out _).mono ?_; rintro e5 w5 ⟨rfl, hw5⟩; obtain rfl := hw5.symm)
        go_ret
        exact ⟨HV.out _ HF.out, HA.out.2⟩
      · have d3 : ((K % 4096 : Int) != 0) = true := by simp [k3]
        have HF : Hid (false = M) := by show false = M; rw [HM.out]; simp [k3]
        clear HM
        go_wp2_with (go_at_call 55; refine (HU.out _).mono ?_; rintro e5 w5 ⟨rfl, hw5⟩; obtain rfl := hw5.symm)
        go_ret
        exact ⟨HV.out _ HF.out, HA.out.2⟩
end Go.Proofs.Ytmfnhdflmnmooaa
