import Derived.Test.YtmgbnaekibaleaaShe
namespace Go.Proofs.Ytmgbnaekibaleaa
open Go.RowKit
set_option linter.unusedVariables false
set_option linter.unusedSimpArgs false
theorem num_ok (x : Int) (w : World) : Calls Try.prog 7 #[.int .i64 x] w fun e w' => e = .returned (.int .i64 x) ∧ w' = w := by
  go_enter Try.func7, Try.ntmps7
  go_wp2
  go_ret
  exact ⟨rfl, rfl⟩
set_option maxHeartbeats 1600000 in
/-- The law. -/
theorem law_ok (U C H K st mode : Int) (hot : Nat) (unit : Int) (c00 : 0 ≤ C) (hh : hot ≤ 18446744073709551615) (w : World) : Calls Try.prog 3 #[.agg #[.int .i64 U, .int .u64 C, .int .i64 H, .int .i64 K], .int .i64 st, .int .i64 mode, .int .u64 (hot : Nat), .int .i64 unit] w fun e w' => Hid (e = .returned (.bool true) ∧ Below w.heap.size w w') := by
  have HA : Hid (SAt (w.alloc (.cells #[.int .i64 U, .int .u64 C, .int .i64 H, .int .i64 K] 24)) w.heap.size U C H K ∧ Below w.heap.size w (w.alloc (.cells #[.int .i64 U, .int .u64 C, .int .i64 H, .int .i64 K] 24))) := ⟨SAt.new _ _ _ _ _ _, below_alloc1 _ _⟩
  obtain ⟨x, HX⟩ : ∃ x, Hid (x = secN U C H K) := ⟨_, rfl⟩
  obtain ⟨y, HY⟩ : ∃ y, Hid (y = secE U C H K) := ⟨_, rfl⟩
  have H5 : Hid (∀ u, Calls Try.prog 5 #[.agg #[.int .i64 U, .int .u64 C, .int .i64 H, .int .i64 K]] u fun e w' => Hid (e = .returned (.tuple #[.int .u64 x, .int .i64 y]) ∧ Below u.heap.size u w')) := by rw [HX.out, HY.out]; exact fun u => sect_ok U C H K c00 u
  have H6 : Hid (∀ u, Calls Try.prog 6 #[.agg #[.int .i64 U, .int .u64 C, .int .i64 H, .int .i64 K]] u fun e w' => Hid (e = .returned (.tuple #[.int .u64 x, .int .i64 y]) ∧ Below u.heap.size u w')) := by rw [HX.out, HY.out]; exact fun u => rsec_ok U C H K c00 u
  obtain ⟨a, HSa⟩ : ∃ a : Nat, Hid (a = slotF st) := ⟨_, rfl⟩
  obtain ⟨b, HSb⟩ : ∃ b : Nat, Hid (b = jF mode hot unit) := ⟨_, rfl⟩
  have H8 : Hid (∀ u, Calls Try.prog 8 #[.int .i64 st] u fun e w' => e = .returned (.int .i64 (a : Nat)) ∧ w' = u) := by rw [HSa.out]; exact fun u => slot_ok st u
  have H9 : Hid (∀ u, Calls Try.prog 9 #[.int .i64 st] u fun e w' => e = .returned (.int .i64 (a : Nat)) ∧ w' = u) := by rw [HSa.out]; exact fun u => rslot_ok st u
  have H10 : Hid (∀ u, Calls Try.prog 10 #[.int .i64 mode, .int .u64 (hot : Nat), .int .i64 unit] u fun e w' => e = .returned (.int .i64 (b : Nat)) ∧ w' = u) := by rw [HSb.out]; exact fun u => jour_ok mode hot unit hh u
  have H11 : Hid (∀ u, Calls Try.prog 11 #[.int .i64 mode, .int .u64 (hot : Nat), .int .i64 unit] u fun e w' => e = .returned (.int .i64 (b : Nat)) ∧ w' = u) := by rw [HSb.out]; exact fun u => rjour_ok mode hot unit hh u
  clear HX HY HSa HSb
  go_enter Try.func3, Try.ntmps3
  go_upto_region 1 with fail
  generalize w.alloc (.cells #[.int .i64 U, .int .u64 C, .int .i64 H, .int .i64 K] 24) = w0 at HA ⊢
  have c0 := HA.out.1.c0
  have c1 := HA.out.1.c1
  have c2 := HA.out.1.c2
  have c3 := HA.out.1.c3
  go_upto_region 2 with (go_at_call 5; refine (H5.out _).mono ?_; intro e1 w1 hq; obtain ⟨rfl, hb1⟩ := hq.out)
  have HA1 : Hid (SAt w1 w.heap.size U C H K ∧ Below w.heap.size w w1) := ⟨HA.out.1.below hb1, HA.out.2.trans (hb1.mono HA.out.2.size)⟩
  clear hq hb1 c0 c1 c2 c3 HA
  have c0 := HA1.out.1.c0
  have c1 := HA1.out.1.c1
  have c2 := HA1.out.1.c2
  have c3 := HA1.out.1.c3
  go_upto_region 3 with (go_at_call 6; refine (H6.out _).mono ?_; intro e2 w2 hq; obtain ⟨rfl, hb2⟩ := hq.out)
  have HB2 : Hid (Below w.heap.size w w2) := HA1.out.2.trans (hb2.mono HA1.out.2.size)
  clear hq hb2 c0 c1 c2 c3 HA1
  go_wp2_with (first
    | (go_at_call 7; refine (num_ok _ _).mono ?_; rintro e5 w5 ⟨rfl, hw5⟩; obtain rfl := hw5.symm)
    | (go_at_call 8; refine (H8.out _).mono ?_; rintro e5 w5 ⟨rfl, hw5⟩; obtain rfl := hw5.symm)
    | (go_at_call 9; refine (H9.out _).mono ?_; rintro e5 w5 ⟨rfl, hw5⟩; obtain rfl := hw5.symm)
    | (go_at_call 10; refine (H10.out _).mono ?_; rintro e5 w5 ⟨rfl, hw5⟩; obtain rfl := hw5.symm)
    | (go_at_call 11; refine (H11.out _).mono ?_; rintro e5 w5 ⟨rfl, hw5⟩; obtain rfl := hw5.symm))
  go_ret
  exact ⟨rfl, HB2.out⟩
end Go.Proofs.Ytmgbnaekibaleaa
