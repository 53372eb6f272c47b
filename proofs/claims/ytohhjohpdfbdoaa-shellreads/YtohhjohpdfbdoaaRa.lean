import Derived.Test.YtohhjohpdfbdoaaPu
import Derived.OwnWalk
import Derived.BigQuiet
import Derived.Deep.QuietTactic
import Derived.Maps.AppendAt
import Derived.Laws.BitsLemmas
import Derived.WalkLawsBesides
import Derived.Deep.RegionHeld3
import Derived.Deep.DeepMust
import Derived.Deep.AppendLies
import Derived.Maps.RangeWalk
namespace Go.Proofs.Ytohhjohpdfbdoaa
open Go.RowKit
set_option linter.unusedVariables false
set_option linter.unusedSimpArgs false
/-- A reader at block g: its line, and how many bytes were taken. -/
structure Rd (w : World) (g : Nat) (s : ByteArray) (i : Nat) : Prop where
  at_ : w.heap[g]? = some (.cells #[.string s, .int .i64 (i : Nat)] 41 (0, 0))
  le : i ≤ s.size
  most : s.size ≤ 4096
variable {w w' : World} {g : Nat} {s : ByteArray} {i : Nat}
theorem Rd.lt (h : Rd w g s i) : g < w.heap.size := (Array.getElem?_eq_some_iff.1 h.at_).1
theorem Rd.c0 (h : Rd w g s i) : w.cell? ⟨g, 0, none⟩ = some (.string s) := by simp [World.cell?, h.at_]
theorem Rd.c1 (h : Rd w g s i) : w.cell? ⟨g, 1, none⟩ = some (.int .i64 (i : Nat)) := by simp [World.cell?, h.at_]
theorem Rd.fz (h : Rd w g s i) : w.frozen? ⟨g, 1, none⟩ = false := by simp [World.frozen?, h.at_]
theorem Rd.kept {row : Option Nat} (h : Rd w g s i) (hg : w.grownBy w' row) (hne : some g ≠ row) : Rd w' g s i := ⟨(hg.block g h.lt hne).trans h.at_, h.le, h.most⟩
theorem Rd.still (h : Rd w g s i) (hg : w.grownBy w' none) : Rd w' g s i := h.kept hg (by simp)
theorem Rd.set (h : Rd w g s i) (hi : i < s.size) : Rd (w.setCell ⟨g, 1, none⟩ (.int .i64 ((i : Int) + 1))) g s (i + 1) := by
  refine ⟨?_, hi, h.most⟩
  obtain ⟨hlt, hk⟩ := Array.getElem?_eq_some_iff.1 h.at_
  show (w.heap.modify g _)[g]? = _
  rw [Array.getElem?_eq_getElem (by rw [Array.size_modify]; exact hlt), Array.getElem_modify_self, hk]
  rfl
theorem grown_set (w : World) (g k : Nat) (v : Value) : w.grownBy (w.setCell ⟨g, k, none⟩ v) (some g) := ⟨rfl, rfl, rfl, by simp, fun j _ hj => Below.heap_setCell w ⟨g, k, none⟩ v j (fun e => hj (by rw [e]))⟩
theorem grown_drewN (w : World) (n : Nat) : w.grownBy (w.drewN n) none := ⟨rfl, rfl, rfl, Nat.le_refl _, fun _ _ _ => rfl⟩
theorem ieq (a b : Nat) : ((a : Int) == (b : Int)) = decide (a = b) := by
  rw [Bool.eq_iff_iff, beq_iff_eq, decide_eq_true_eq]
  omega
set_option maxHeartbeats 1000000 in
set_option maxRecDepth 100000 in
theorem ended_ok (h : Rd w g s i) : Calls Try.prog 24 #[.pointer (some ⟨g, 0, none⟩)] w fun e w' => e = .returned (.bool (decide (i = s.size))) ∧ w.grownBy w' none := by
  have c0 := h.c0
  have c1 := h.c1
  have hle := h.le
  have hmo := h.most
  go_enter Try.func24, Try.ntmps24
  go_wp2
  go_quiet (fail)
  go_wp2
  go_ret
  rw [ieq]
  exact ⟨rfl, grown_drewN w nq⟩
set_option maxHeartbeats 1000000 in
set_option maxRecDepth 100000 in
theorem next_ok (h : Rd w g s i) : Calls Try.prog 27 #[.pointer (some ⟨g, 0, none⟩)] w fun e w' => e = .returned (.int .u8 (nx s i)) ∧ w.grownBy w' none := by
  have hle := h.le
  have hmo := h.most
  by_cases he : i = s.size
  · go_enter Try.func27, Try.ntmps27
    go_wp2_with (go_at_call 24; refine (ended_ok h).mono ?_; rintro e w1 ⟨rfl, h1⟩; simp only [he, decide_true])
    go_ret
    rw [he, nx_end]
    exact ⟨rfl, h1⟩
  · have hlt : i < s.size := by omega
    have hx := nx_at s i hlt
    go_enter Try.func27, Try.ntmps27
    go_wp2_with (go_at_call 24; refine (ended_ok h).mono ?_; rintro e w1 ⟨rfl, h1⟩; simp only [he, decide_false]; have c0 := (h.still h1).c0; have c1 := (h.still h1).c1)
    go_quiet (fail)
    go_wp2
    go_ret
    rw [hx]
    exact ⟨rfl, h1.trans (grown_drewN w1 nq)⟩
set_option maxHeartbeats 1000000 in
set_option maxRecDepth 100000 in
/-- takes, where the byte comes (which is not 0). -/
theorem takes_yes (h : Rd w g s i) (c : Int) (hc : nx s i = c) (h0 : c ≠ 0) : Calls Try.prog 26 #[.pointer (some ⟨g, 0, none⟩), .int .u8 c] w fun e w' => e = .returned (.bool true) ∧ Rd w' g s (i + 1) ∧ w.grownBy w' (some g) := by
  have hle := h.le
  have hmo := h.most
  have hlt : i < s.size := by
    by_cases he : i = s.size
    · exfalso
      rw [he, nx_end] at hc
      exact h0 hc.symm
    · omega
  have wr : IntKind.i64.wrap ((i : Int) + 1) = ((i + 1 : Nat) : Int) := by rw [IntKind.wrap_i64]; omega
  go_enter Try.func26, Try.ntmps26
  go_wp2_with (go_at_call 27; refine (next_ok h).mono ?_; rintro e w1 ⟨rfl, h1⟩; simp only [hc]; have k1 := h.still h1; have c1 := k1.c1; have f1 := k1.fz)
  go_ret
  exact ⟨rfl, k1.set hlt, (h1.but _).trans (grown_set _ _ _ _)⟩
set_option maxHeartbeats 1000000 in
set_option maxRecDepth 100000 in
theorem takes_no (h : Rd w g s i) (c : Int) (hc : nx s i ≠ c) : Calls Try.prog 26 #[.pointer (some ⟨g, 0, none⟩), .int .u8 c] w fun e w' => e = .returned (.bool false) ∧ w.grownBy w' none := by
  go_enter Try.func26, Try.ntmps26
  go_wp2_with (go_at_call 27; refine (next_ok h).mono ?_; rintro e w1 ⟨rfl, h1⟩)
  go_ret
  exact ⟨rfl, h1⟩
set_option maxRecDepth 100000 in
theorem mayStand_ok (c : Int) (w : World) : Calls Try.prog 28 #[.int .u8 c] w fun e w' => e = .returned (.bool (decide (fine c))) ∧ w' = w := by
  by_cases h0 : c = 9
  all_goals by_cases h1 : 32 ≤ c
  all_goals
    go_enter Try.func28, Try.ntmps28
    go_wp2
    go_ret
    refine ⟨congrArg (fun b => Ending.returned (.bool b)) ?_, rfl⟩
    rw [Bool.eq_iff_iff]
    simp only [beq_iff_eq, decide_eq_true_eq, Bool.false_eq_true, true_iff, false_iff, Bool.or_eq_true, Bool.and_eq_true]
    unfold fine
    omega
set_option maxRecDepth 100000 in
theorem isLetter_ok (c : Int) (w : World) : Calls Try.prog 33 #[.int .u8 c] w fun e w' => e = .returned (.bool (decide (letter c))) ∧ w' = w := by
  by_cases h0 : 97 ≤ c
  all_goals
    go_enter Try.func33, Try.ntmps33
    go_wp2
    go_ret
    refine ⟨congrArg (fun b => Ending.returned (.bool b)) ?_, rfl⟩
    rw [Bool.eq_iff_iff]
    simp only [beq_iff_eq, decide_eq_true_eq, Bool.false_eq_true, true_iff, false_iff, Bool.or_eq_true, Bool.and_eq_true]
    unfold letter
    omega
set_option maxRecDepth 100000 in
theorem isMark_ok (c : Int) (w : World) : Calls Try.prog 34 #[.int .u8 c] w fun e w' => e = .returned (.bool (decide (mark c))) ∧ w' = w := by
  by_cases h0 : 48 ≤ c
  all_goals by_cases h1 : c ≤ 57
  all_goals
    go_enter Try.func34, Try.ntmps34
    go_wp2
    go_ret
    refine ⟨congrArg (fun b => Ending.returned (.bool b)) ?_, rfl⟩
    rw [Bool.eq_iff_iff]
    simp only [beq_iff_eq, decide_eq_true_eq, Bool.false_eq_true, true_iff, false_iff, Bool.or_eq_true, Bool.and_eq_true]
    unfold mark digit
    omega
/-- What reading gives up with. -/
abbrev fault (p : Nat) : Ending := .panicked [{ v := .iface 48 (.agg #[.int .i64 (p : Nat)]), recovered := false }]
set_option maxHeartbeats 1000000 in
set_option maxRecDepth 100000 in
theorem stop_ok (h : Rd w g s i) : Calls Try.prog 29 #[.pointer (some ⟨g, 0, none⟩)] w fun e w' => e = fault (i + 1) ∧ w' = w := by
  have c1 := h.c1
  have hle := h.le
  have hmo := h.most
  go_enter Try.func29, Try.ntmps29
  go_wp2
  exact ⟨rfl, rfl, rfl⟩
set_option maxHeartbeats 2000000 in
set_option maxRecDepth 100000 in
/-- digit: the next byte's worth, or giving up. -/
theorem digit_ok (h : Rd w g s i) : Calls Try.prog 39 #[.pointer (some ⟨g, 0, none⟩)] w fun e w' =>
    (0 ≤ hexa (nx s i) ∧ e = .returned (.int .u8 (hexa (nx s i))) ∧ Rd w' g s (i + 1) ∧ i < s.size ∧ w.grownBy w' (some g)) ∨ (¬ 0 ≤ hexa (nx s i) ∧ e = fault (i + 1) ∧ w.grownBy w' (some g)) := by
  have hle := h.le
  have hmo := h.most
  have hr := nx_range s i
  have hen : 0 ≤ hexa (nx s i) → i < s.size := by
    intro hx
    by_cases he : i = s.size
    · exfalso
      rw [he, nx_end] at hx
      revert hx
      decide
    · omega
  obtain ⟨c, hc⟩ : ∃ c, nx s i = c := ⟨_, rfl⟩
  rw [hc] at hr hen ⊢
  unfold hexa at hen ⊢
  obtain ⟨hr0, hr1⟩ := hr
  by_cases h1 : 48 ≤ c ∧ c ≤ 57
  · rw [if_pos h1] at hen ⊢
    obtain ⟨h1, h2⟩ := h1
    have hlt := hen (by omega)
    refine Calls.mono (R := fun e w' => e = .returned (.int .u8 (c - 48)) ∧ Rd w' g s (i + 1) ∧ w.grownBy w' (some g)) ?_ (fun e w' hh => .inl ⟨by omega, hh.1, hh.2.1, hlt, hh.2.2⟩)
    have wr : IntKind.u8.wrap (c - 48) = c - 48 := by rw [IntKind.wrap_u8]; omega
    go_enter Try.func39, Try.ntmps39
    go_wp2_with (go_at_call 27; refine (next_ok h).mono ?_; rintro e w1 ⟨rfl, h1'⟩; simp only [hc]; have k1 := h.still h1'; have c1 := k1.c1; have f1 := k1.fz)
    go_ret
    exact ⟨by simp [wr], k1.set hlt, (h1'.but _).trans (grown_set _ _ _ _)⟩
  · rw [if_neg h1] at hen ⊢
    by_cases h3 : 97 ≤ c ∧ c ≤ 102
    · rw [if_pos h3] at hen ⊢
      obtain ⟨h3, h4⟩ := h3
      have hlt := hen (by omega)
      refine Calls.mono (R := fun e w' => e = .returned (.int .u8 (c - 87)) ∧ Rd w' g s (i + 1) ∧ w.grownBy w' (some g)) ?_ (fun e w' hh => .inl ⟨by omega, hh.1, hh.2.1, hlt, hh.2.2⟩)
      have wr : IntKind.u8.wrap (c - 97) = c - 97 := by rw [IntKind.wrap_u8]; omega
      have wr2 : IntKind.u8.wrap (c - 97 + 10) = c - 87 := by rw [IntKind.wrap_u8]; omega
      have h5 : ¬ c ≤ 57 := by omega
      clear h1
      go_enter Try.func39, Try.ntmps39
      go_wp2_with (go_at_call 27; refine (next_ok h).mono ?_; rintro e w1 ⟨rfl, h1'⟩; simp only [hc]; have k1 := h.still h1'; have c1 := k1.c1; have f1 := k1.fz)
      go_ret
      exact ⟨by simp [wr2], k1.set hlt, (h1'.but _).trans (grown_set _ _ _ _)⟩
    · rw [if_neg h3] at hen ⊢
      by_cases h5 : 65 ≤ c ∧ c ≤ 70
      · rw [if_pos h5] at hen ⊢
        obtain ⟨h5, h6⟩ := h5
        have hlt := hen (by omega)
        refine Calls.mono (R := fun e w' => e = .returned (.int .u8 (c - 55)) ∧ Rd w' g s (i + 1) ∧ w.grownBy w' (some g)) ?_ (fun e w' hh => .inl ⟨by omega, hh.1, hh.2.1, hlt, hh.2.2⟩)
        have wr : IntKind.u8.wrap (c - 65) = c - 65 := by rw [IntKind.wrap_u8]; omega
        have wr2 : IntKind.u8.wrap (c - 65 + 10) = c - 55 := by rw [IntKind.wrap_u8]; omega
        have h7 : ¬ c ≤ 57 := by omega
        have h8 : ¬ 97 ≤ c := by omega
        clear h1 h3
        go_enter Try.func39, Try.ntmps39
        go_wp2_with (go_at_call 27; refine (next_ok h).mono ?_; rintro e w1 ⟨rfl, h1'⟩; simp only [hc]; have k1 := h.still h1'; have c1 := k1.c1; have f1 := k1.fz)
        go_ret
        exact ⟨by simp [wr2], k1.set hlt, (h1'.but _).trans (grown_set _ _ _ _)⟩
      · rw [if_neg h5] at hen ⊢
        refine Calls.mono (R := fun e w' => e = fault (i + 1) ∧ w.grownBy w' (some g)) ?_ (fun e w' hh => .inr ⟨by decide, hh⟩)
        have q1 : decide (48 ≤ c) = false ∨ (decide (48 ≤ c) = true ∧ decide (c ≤ 57) = false) := by simp only [decide_eq_false_iff_not, decide_eq_true_eq]; omega
        have q2 : decide (97 ≤ c) = false ∨ (decide (97 ≤ c) = true ∧ decide (c ≤ 102) = false) := by simp only [decide_eq_false_iff_not, decide_eq_true_eq]; omega
        have q3 : decide (65 ≤ c) = false ∨ (decide (65 ≤ c) = true ∧ decide (c ≤ 70) = false) := by simp only [decide_eq_false_iff_not, decide_eq_true_eq]; omega
        clear h1 h3 h5 hen
        rcases q1 with q1 | ⟨q1, q1'⟩
        all_goals rcases q2 with q2 | ⟨q2, q2'⟩
        all_goals rcases q3 with q3 | ⟨q3, q3'⟩
        all_goals
          go_enter Try.func39, Try.ntmps39
          go_wp2_with (first
            | (go_at_call 27; refine (next_ok h).mono ?_; rintro e w1 ⟨rfl, h1'⟩; simp only [hc]; have k1 := h.still h1')
            | (go_at_call 29; refine (stop_ok k1).mono ?_; rintro e w2 ⟨rfl, rfl⟩))
          exact ⟨rfl, rfl, h1'.but _⟩
end Go.Proofs.Ytohhjohpdfbdoaa
