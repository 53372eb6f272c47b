import Derived.Test.YtohhjohpdfbdoaaQb
namespace Go.Proofs.Ytohhjohpdfbdoaa
open Go.RowKit
attribute [local go_sem ↓] Go.wp_at_zero Go.wp_at_succ
set_option linter.unusedVariables false
set_option linter.unusedSimpArgs false
theorem extract_one (s : ByteArray) (k : Nat) (h : k < s.size) : s.extract k (k + 1) = strOfNums [nx s k] := by rw [extract_eq, cut_snoc s (Nat.le_refl _) h, cut_nil]; rfl
set_option maxHeartbeats 3200000 in
set_option maxRecDepth 100000 in
theorem rquote_ok (s : ByteArray) (n : Nat) (w : World) (hs : Hid (s.size = n)) (hn : n ≤ 1048576) :
    Calls Try.prog 6 #[.string s] w fun e w' => e = .returned (.string (quoted s)) ∧ Below w.heap.size w w' := by
  have hsz : s.size = n := hs.out
  go_enter Try.func6, Try.ntmps6
  go_wp2
  go_loopw [3, 4] (fun v i wr => ∃ k : Nat, k ≤ n ∧ i = .int .i64 k ∧ v = .string (strOfNums (qK s k)) ∧ Hid (Below w.heap.size w wr)) (fun _ i _ => n - (intOf i).toNat)
  case atStart => exact ⟨0, by omega, rfl, rfl, Below.refl _ _⟩
  case round =>
    obtain ⟨k, hk, rfl, rfl, HB2⟩ := hrel
    by_cases hlt : k < n
    · have hks : k < s.size := by omega
      have hex := extract_one s k hks
      obtain ⟨z, hz⟩ : ∃ c : Int, c = nx s k := ⟨_, rfl⟩
      rw [← hz] at hex
      have hr := nx_range s k
      rw [← hz] at hr
      obtain ⟨hb1, hb2⟩ := hr
      have hcs : ((s[k]'hks).toNat : Int) = z := by rw [hz, nx_at s k hks]
      have HZ : Hid (z = nx s k) := hz
      clear hz
      have wr2 : IntKind.i64.wrap ((k : Int) + 1) = (k : Int) + 1 := by rw [IntKind.wrap_i64]; omega
      have hnext := qK_next s k hks z HZ.out
      have hle := qK_len s k (by omega)
      obtain ⟨L, hL⟩ : ∃ L, (strOfNums (qK s k)).size = L := ⟨_, rfl⟩
      rw [← strOfNums_size, hL] at hle
      have hz1 : (strOfNums [z]).size = 1 := rfl
      have m1 : ¬ 9223372036854775807 < L + 1 := by omega
      have m2 : ¬ 9223372036854775807 < L + 1 + 1 := by omega
      have m3 : ¬ 9223372036854775807 < L + 2 := by omega
      have m4 : ¬ 9223372036854775807 < L + 2 + 2 := by omega
      have hsl : ∀ W : World, (Instr.slice 9 (.string s) (some (.int .i64 (k : Nat))) (some (.int .i64 ((k : Int) + 1))) none).run Try.prog W = .ok (.string (strOfNums [z])) W := fun W => by
        have h := run_slice_string (P := Try.prog) W 9 s .i64 .i64 (k : Nat) ((k : Int) + 1) Try.underlying9 (by omega) (by omega) (by omega)
        rwa [show ((k : Int)).toNat = k by omega, show ((k : Int) + 1).toNat = k + 1 by omega, hex] at h
      by_cases he : z = 34 ∨ z = 92
      · have hq1 : q1 z = [92, z] := by unfold q1; rw [if_pos he]
        have hS : Hid (strOfNums (qK s k) ++ ⟨#[92]⟩ ++ strOfNums [z] = strOfNums (qK s (k + 1))) := by
          have h0 : (⟨#[92]⟩ : ByteArray) = strOfNums [92] := rfl
          have h1 : strOfNums (qK s k) ++ ⟨#[92]⟩ ++ strOfNums [z] = strOfNums (qK s (k + 1)) := by rw [h0, strOf_append, strOf_append, hnext, hq1, List.append_assoc]; rfl
          exact h1
        have hc1 : (z == 34) = true ∨ ((z == 34) = false ∧ (z == 92) = true) := by simp only [beq_iff_eq, beq_eq_false_iff_ne, ne_eq]; omega
        clear he hnext hq1
        rcases hc1 with h1 | ⟨h1, h2⟩
        all_goals
          go_wp2
          refine ⟨⟨k + 1, by omega, by go_num, congrArg Value.string hS.out, HB2⟩, by simp [intOf]; omega⟩
      · have h1 : (z == 34) = false := by simp only [beq_eq_false_iff_ne, ne_eq]; omega
        have h2 : (z == 92) = false := by simp only [beq_eq_false_iff_ne, ne_eq]; omega
        by_cases hx : z < 32 ∨ 126 < z
        · have hq1 : q1 z = [92, 120, hexD (z / 16).toNat, hexD (z % 16).toNat] := by unfold q1; rw [if_neg he, if_pos hx]
          have hS : Hid (strOfNums (qK s k) ++ ⟨#[92, 120]⟩ ++ strOfNums [hexD (z / 16).toNat, hexD (z % 16).toNat] = strOfNums (qK s (k + 1))) := by
            have h0 : (⟨#[92, 120]⟩ : ByteArray) = strOfNums [92, 120] := rfl
            have h1 : strOfNums (qK s k) ++ ⟨#[92, 120]⟩ ++ strOfNums [hexD (z / 16).toNat, hexD (z % 16).toNat] = strOfNums (qK s (k + 1)) := by rw [h0, strOf_append, strOf_append, hnext, hq1, List.append_assoc]; rfl
            exact h1
          have hc1 : decide (32 ≤ z) = false ∨ (decide (32 ≤ z) = true ∧ decide (z ≤ 126) = false) := by simp only [decide_eq_true_eq, decide_eq_false_iff_not]; omega
          have hz2 : (strOfNums [hexD (z / 16).toNat, hexD (z % 16).toNat]).size = 2 := rfl
          have hnew := World.alloc_heap_new wr (.cells #[.int .u8 z] 5)
          have hcell : (wr.alloc (.cells #[.int .u8 z] 5)).cell? ⟨wr.heap.size, 0, none⟩ = some (.int .u8 z) := by simp only [World.cell?]; rw [hnew]; rfl
          have H16 := hex1_ok wr.heap.size z (wr.alloc (.cells #[.int .u8 z] 5)) hb1 hb2 hcell
          have hBa : Hid (Below w.heap.size w (wr.alloc (.cells #[.int .u8 z] 5))) := HB2.out.alloc HB2.out.size _
          clear he hnext hq1 hx hnew hcell
          rcases hc1 with h3 | ⟨h3, h4⟩
          all_goals
            go_wp2_with (go_at_call 11; refine H16.mono ?_; rintro e w1 ⟨rfl, b1⟩; have HB3 : Hid (Below w.heap.size w w1) := hBa.out.trans (b1.mono hBa.out.size))
            refine ⟨⟨k + 1, by omega, by go_num, congrArg Value.string hS.out, HB3⟩, by simp [intOf]; omega⟩
        · have hq1 : q1 z = [z] := by unfold q1; rw [if_neg he, if_neg hx]
          have hS : Hid (strOfNums (qK s k) ++ strOfNums [z] = strOfNums (qK s (k + 1))) := by
            have h1 : strOfNums (qK s k) ++ strOfNums [z] = strOfNums (qK s (k + 1)) := by rw [strOf_append, hnext, hq1]
            exact h1
          have h3 : decide (32 ≤ z) = true := by simp only [decide_eq_true_eq]; omega
          have h4 : decide (z ≤ 126) = true := by simp only [decide_eq_true_eq]; omega
          clear he hnext hq1 hx
          go_wp2
          refine ⟨⟨k + 1, by omega, by go_num, congrArg Value.string hS.out, HB2⟩, by simp [intOf]; omega⟩
    · obtain rfl : k = n := by omega
      have hle := qK_len s k (by omega)
      obtain ⟨L, hL⟩ : ∃ L, (strOfNums (qK s k)).size = L := ⟨_, rfl⟩
      rw [← strOfNums_size, hL] at hle
      have m1 : ¬ 9223372036854775807 < L + 1 := by omega
      have hS : Hid (strOfNums (qK s k) ++ ⟨#[34]⟩ = quoted s) := by
        have h0 : (⟨#[34]⟩ : ByteArray) = strOfNums [34] := rfl
        have h1 : strOfNums (qK s k) ++ ⟨#[34]⟩ = quoted s := by rw [h0, strOf_append, ← hsz, qK_end]; rfl
        exact h1
      go_wp2
      go_ret
      exact ⟨congrArg (fun x => Ending.returned (.string x)) hS.out, HB2.out⟩
end Go.Proofs.Ytohhjohpdfbdoaa
