import Derived.Test.YtohhjohpdfbdoaaQd
namespace Go.Proofs.Ytohhjohpdfbdoaa
open Go.RowKit
attribute [local go_sem ↓] Go.wp_at_zero Go.wp_at_succ
set_option linter.unusedVariables false
set_option linter.unusedSimpArgs false
theorem num_ok (x : Int) (W : World) : Calls Try.prog 8 #[.int .i64 x] W fun e w' => e = .returned (.int .i64 x) ∧ w' = W := by
  go_enter Try.func8, Try.ntmps8
  go_wp2
  go_ret
  exact ⟨rfl, rfl⟩
theorem par_good (s : ByteArray) (t : ByteArray) (ht : t = ⟨#[97, 32, 98, 32, 99, 61]⟩ ++ quoted s) (W : World) (h : t.size ≤ 4096) : Calls Try.prog 7 #[.string t] W fun e w' =>
    ∃ g c, e = .returned (.tuple #[.agg #[.string ⟨#[97]⟩, .string ⟨#[98]⟩, .slice (some ⟨g, 0, none⟩) 1 c], .int .i64 0, .int .i64 0]) ∧ w'.cell? ⟨g, 0, none⟩ = some (.string ⟨#[99]⟩) ∧ w'.cell? ⟨g, 1, none⟩ = some (.string s) ∧ g < w'.heap.size ∧ Below W.heap.size W w' := by
  have hp := parse_quoted s t ht h
  refine (parse_ok t W (by omega)).mono ?_
  rintro e w' (⟨a, v, rfl, hrow, _, hR, hb⟩ | ⟨p, rfl, hR, hb⟩)
  · rw [hp] at hR
    cases hR
    have hrow' : w'.ownsRow W.heap.size 31 2 v 1 [.string (strOfNums [99]), .string (strOfNums (nums s))] := hrow
    rw [strOf_nums] at hrow'
    obtain ⟨g, c, rfl⟩ := ownsRow_succ hrow'
    have c0 := hrow'.cells (g := g) rfl 0 (.string ⟨#[99]⟩) rfl
    have c1 := hrow'.cells (g := g) rfl 1 (.string s) rfl
    rw [Addr.add_lit] at c0 c1
    exact ⟨g, c, rfl, by simpa using c0, by simpa using c1, (hrow'.lt g rfl).2, hb⟩
  · rw [hp] at hR
    cases hR
theorem par_bad (t : ByteArray) (W : World) (h : 4096 < t.size) (hs : t.size ≤ 140737488355328) : Calls Try.prog 7 #[.string t] W fun e w' =>
    e = .returned (.tuple #[.agg #[.string ⟨#[]⟩, .string ⟨#[]⟩, .slice none 0 0], .int .i64 160, .int .i64 4097]) ∧ Below W.heap.size W w' := by
  have hp : parse t = .bad 4097 := by unfold parse; rw [if_pos h]
  refine (parse_ok t W hs).mono ?_
  rintro e w' (⟨a, v, rfl, hrow, _, hR, hb⟩ | ⟨p, rfl, hR, hb⟩)
  · rw [hp] at hR
    cases hR
  · rw [hp] at hR
    cases hR
    exact ⟨rfl, hb⟩
set_option maxHeartbeats 4000000 in
set_option maxRecDepth 100000 in
theorem quotes_ok (s : ByteArray) (w : World) (hn : s.size ≤ 1048576) : Calls Try.prog 3 #[.string s] w fun e w' => e = .returned (.bool true) ∧ Below w.heap.size w w' := by
  have hl1 : (quoted s).size ≤ 4 * s.size + 2 := by
    have := qB_len (nums s)
    rw [nums_length] at this
    unfold quoted
    rw [strOfNums_size]
    simp
    omega
  have hl2 : ((⟨#[97, 32, 98, 32, 99, 61]⟩ : ByteArray) ++ quoted s).size = 6 + (quoted s).size := by rw [ByteArray.size_append]; rfl
  have H5 : ∀ W : World, Calls Try.prog 5 #[.string s] W fun e w' => e = .returned (.string (quoted s)) ∧ Below W.heap.size W w' := fun W => quote_ok s s.size W rfl hn
  have H6 : ∀ W : World, Calls Try.prog 6 #[.string s] W fun e w' => e = .returned (.string (quoted s)) ∧ Below W.heap.size W w' := fun W => rquote_ok s s.size W rfl hn
  have Hg := par_good s _ rfl
  have Hb := par_bad (⟨#[97, 32, 98, 32, 99, 61]⟩ ++ quoted s)
  rw [hl2] at Hg Hb
  obtain ⟨q, hq⟩ : ∃ q, quoted s = q := ⟨_, rfl⟩
  rw [hq] at hl1 hl2 H5 H6 Hg Hb
  clear hq
  obtain ⟨m, hm⟩ : ∃ m, q.size = m := ⟨_, rfl⟩
  rw [hm] at hl1 Hg Hb
  have m0 : ¬ 9223372036854775807 < 6 + m := by omega
  clear hl2
  by_cases h1 : 4000 < m
  · have d1 : decide ((4000 : Int) < (m : Int)) = true := by simp; omega
    have wr : IntKind.i64.wrap ((m : Int) + 6) = (m : Int) + 6 := by rw [IntKind.wrap_i64]; omega
    by_cases h2 : m + 6 ≤ 4096
    · have d2 : decide ((m : Int) + 6 ≤ 4096) = true := by simp; omega
      go_enter Try.func3, Try.ntmps3
      go_wp2_with (first
        | (go_at_call 5; refine (H5 _).mono ?_; rintro e w1 ⟨rfl, b1⟩)
        | (go_at_call 6; refine (H6 _).mono ?_; rintro e w2 ⟨rfl, b2⟩)
        | (go_at_call 7; refine (Hg _ (by omega)).mono ?_; rintro e w3 ⟨g, c, rfl, c0, c1, hgl, b3⟩))
      go_ret
      have b12 : Below w.heap.size w w2 := b1.trans (b2.mono b1.size)
      have b13 : Below w.heap.size w w3 := b12.trans (b3.mono b12.size)
      exact ⟨rfl, b13.alloc b13.size _⟩
    · have d2 : decide ((m : Int) + 6 ≤ 4096) = false := by simp; omega
      go_enter Try.func3, Try.ntmps3
      go_wp2_with (first
        | (go_at_call 5; refine (H5 _).mono ?_; rintro e w1 ⟨rfl, b1⟩)
        | (go_at_call 6; refine (H6 _).mono ?_; rintro e w2 ⟨rfl, b2⟩)
        | (go_at_call 7; refine (Hb _ (by omega) (by omega)).mono ?_; rintro e w3 ⟨rfl, b3⟩)
        | (go_at_call 8; refine (num_ok _ _).mono ?_; rintro e w4 ⟨rfl, rfl⟩))
      go_ret
      have b12 : Below w.heap.size w w2 := b1.trans (b2.mono b1.size)
      have b13 : Below w.heap.size w w3 := b12.trans (b3.mono b12.size)
      exact ⟨rfl, b13.alloc b13.size _⟩
  · have d1 : decide ((4000 : Int) < (m : Int)) = false := by simp; omega
    go_enter Try.func3, Try.ntmps3
    go_wp2_with (first
      | (go_at_call 5; refine (H5 _).mono ?_; rintro e w1 ⟨rfl, b1⟩)
      | (go_at_call 6; refine (H6 _).mono ?_; rintro e w2 ⟨rfl, b2⟩)
      | (go_at_call 7; refine (Hg _ (by omega)).mono ?_; rintro e w3 ⟨g, c, rfl, c0, c1, hgl, b3⟩; have hneg : g ≠ w3.heap.size := (by omega); have c0' : (w3.alloc (.cells #[.string ⟨#[97]⟩, .string ⟨#[98]⟩, .slice (some ⟨g, 0, none⟩) 1 c] 25)).cell? ⟨g, 0, none⟩ = some (.string ⟨#[99]⟩) := (World.grownBy_alloc w3 _ none).cell c0 (by simp); have c1' : (w3.alloc (.cells #[.string ⟨#[97]⟩, .string ⟨#[98]⟩, .slice (some ⟨g, 0, none⟩) 1 c] 25)).cell? ⟨g, 1, none⟩ = some (.string s) := (World.grownBy_alloc w3 _ none).cell c1 (by simp))
      | (go_at_call 8; refine (num_ok _ _).mono ?_; rintro e w4 ⟨rfl, rfl⟩))
    go_ret
    have b12 : Below w.heap.size w w2 := b1.trans (b2.mono b1.size)
    have b13 : Below w.heap.size w w3 := b12.trans (b3.mono b12.size)
    exact ⟨by simp, b13.alloc b13.size _⟩
end Go.Proofs.Ytohhjohpdfbdoaa
