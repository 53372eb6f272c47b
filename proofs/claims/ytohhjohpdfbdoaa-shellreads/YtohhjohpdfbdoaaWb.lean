import Derived.Test.YtohhjohpdfbdoaaWa
namespace Go.Proofs.Ytohhjohpdfbdoaa
open Go.RowKit
set_option linter.unusedVariables false
set_option linter.unusedSimpArgs false
variable {w w' : World} {g : Nat} {s : ByteArray} {i j : Nat}
theorem grown_drew (w : World) : w.grownBy w.drew none := ⟨rfl, rfl, rfl, Nat.le_refl _, fun _ _ _ => rfl⟩
/-- Within a word: what it may become. -/
def wst (f : Nat) (l : List Int) : St := if f = 0 then .command l else if f = 1 then (if lets l = true then .second l else .named l) else .key l
theorem lets_snoc (l : List Int) (c : Int) : lets (l ++ [c]) = (lets l && decide (letter c)) := by simp [lets]
theorem step_start (a : Acc) (c : Int) (hl : letter c) : step a .ahead c = some ({ a with f := a.f + 1 }, wst a.f [c]) := by
  have h1 : ¬ blank c := by unfold letter at hl; unfold blank; omega
  have h2 : c ≠ 35 := by unfold letter at hl; omega
  have h3 : lets [c] = true := by simp [lets, hl]
  simp only [step]
  rw [if_neg h1, if_neg h2, if_pos hl]
  unfold start wst
  rw [h3]
  simp
theorem step_word (a : Acc) (f : Nat) (l : List Int) (c : Int) (h16 : l.length ≠ 16) (hc : letter c ∨ (f = 1 ∧ mark c)) : step a (wst f l) c = some (a, wst f (l ++ [c])) := by
  have h1 : ¬ blank c := by unfold letter mark digit at hc; unfold blank; omega
  have h2 : c ≠ 61 := by unfold letter mark digit at hc; omega
  unfold wst
  by_cases hf : f = 0
  · have hl : letter c := by rcases hc with h | h; exact h; omega
    simp [hf, step, h1, hl, h16]
  · by_cases hf1 : f = 1
    · have hlm : letter c ∨ mark c := by rcases hc with h | h; exact .inl h; exact .inr h.2
      rw [if_neg hf, if_pos hf1, if_neg hf, if_pos hf1]
      by_cases hls : lets l = true
      · rw [if_pos hls]
        simp only [step]
        rw [if_neg h1, if_neg h2, if_pos ⟨hlm, h16⟩, lets_snoc, hls]
        by_cases hl : letter c <;> simp [hl]
      · have hls' : lets l = false := by simpa using hls
        rw [if_neg hls]
        simp only [step]
        rw [if_neg h1, if_pos ⟨hlm, h16⟩, lets_snoc, hls']
        simp
    · have hl : letter c := by rcases hc with h | h; exact h; omega
      simp [hf, hf1, step, h2, hl, h16]
theorem step_full (a : Acc) (f : Nat) (l : List Int) (c : Int) (h16 : l.length = 16) (hc : letter c ∨ (f = 1 ∧ mark c)) : step a (wst f l) c = none := by
  have h1 : ¬ blank c := by unfold letter mark digit at hc; unfold blank; omega
  have h2 : c ≠ 61 := by unfold letter mark digit at hc; omega
  unfold wst
  by_cases hf : f = 0
  · simp [hf, step, h1, h16]
  · by_cases hf1 : f = 1
    · rw [if_neg hf, if_pos hf1]
      by_cases hls : lets l = true
      · rw [if_pos hls]; simp [step, h1, h2, h16]
      · rw [if_neg hls]; simp [step, h1, h2, h16]
    · simp [hf, hf1, step, h2, h16]
/-- Of a word so much has been read. -/
def WInv (s : ByteArray) (i : Nat) (a : Acc) (j : Nat) : Prop := (j = i ∨ R s i a .ahead = R s j { a with f := a.f + 1 } (wst a.f (cut s i j))) ∧ (a.f ≠ 1 → lets (cut s i j) = true)
theorem winv_step {a : Acc} (h : WInv s i a j) (hij : i ≤ j) (hj : j < s.size) (hc : letter (nx s j) ∨ (a.f = 1 ∧ i < j ∧ mark (nx s j))) (h16 : j - i ≠ 16) : WInv s i a (j + 1) := by
  have hf : fine (nx s j) := by unfold letter mark digit at hc; unfold fine; omega
  refine ⟨?_, fun hne => ?_⟩
  rotate_left
  · have hl : letter (nx s j) := by rcases hc with h | h; exact h; exact absurd h.1 hne
    rw [cut_snoc s hij hj, lets_snoc, h.2 hne]
    simp [hl]
  right
  by_cases he : j = i
  · subst he
    have hl : letter (nx s j) := by rcases hc with h | h; exact h; omega
    rw [cut_snoc s (Nat.le_refl _) hj, cut_nil]
    exact R_go s j hj hf (step_start a _ hl)
  · rw [h.1.resolve_left he, cut_snoc s hij hj]
    exact R_go s j hj hf (step_word _ _ _ _ (by rw [cut_len s (by omega)]; exact h16) (by rcases hc with h | h; exact .inl h; exact .inr ⟨h.1, h.2.2⟩))
theorem winv_full {a : Acc} (h : WInv s i a j) (hij : i ≤ j) (hj : j < s.size) (hc : letter (nx s j) ∨ (a.f = 1 ∧ i < j ∧ mark (nx s j))) (h16 : j - i = 16) : R s i a .ahead = .bad (j + 1) := by
  rw [h.1.resolve_left (by omega)]
  exact R_none s j hj (step_full _ _ _ _ (by rw [cut_len s (by omega)]; exact h16) (by rcases hc with h | h; exact .inl h; exact .inr ⟨h.1, h.2.2⟩))
theorem letter_fine (c : Int) (h : letter c ∨ mark c) : fine c := by unfold letter mark digit at h; unfold fine; omega
def WordQ (w : World) (g : Nat) (s : ByteArray) (i : Nat) (a : Acc) (e : Ending) (w' : World) : Prop :=
  (∃ j, e = .returned (.string (strOfNums (cut s i j))) ∧ i < j ∧ Rd w' g s j ∧ R s i a .ahead = R s j { a with f := a.f + 1 } (wst a.f (cut s i j)) ∧ ¬ letter (nx s j) ∧ (a.f = 1 → ¬ mark (nx s j)) ∧ (a.f ≠ 1 → lets (cut s i j) = true) ∧ w.grownBy w' (some g)) ∨
  (∃ p, e = fault p ∧ R s i a .ahead = .bad p ∧ w.grownBy w' (some g))
set_option maxHeartbeats 8000000 in
set_option maxRecDepth 100000 in
theorem word_ok (h : Rd w g s i) (a : Acc) (nm : Bool) (hnm : Hid (nm = decide (a.f = 1))) (hi : i < s.size) (hb : Hid (¬ blank (nx s i))) (h35 : Hid (nx s i ≠ 35)) : Calls Try.prog 30 #[.pointer (some ⟨g, 0, none⟩), .bool nm] w (WordQ w g s i a) := by
  have hmo := h.most
  have hgl := h.lt
  have c1 := h.c1
  go_enter Try.func30, Try.ntmps30
  go_wp2
  clear c1
  go_loopw [10] (fun _ wr => ∃ j, i ≤ j ∧ j - i ≤ 16 ∧ Rd wr g s j ∧ Hid (WInv s i a j) ∧ Hid (w.grownBy wr (some g))) (fun _ wr => left s g wr)
  case atStart => exact ⟨i, by omega, by omega, h, (⟨Or.inl rfl, fun _ => by rw [cut_nil]; rfl⟩ : WInv s i a i), World.grownBy.refl _ _⟩
  case round =>
    obtain ⟨j, hij, hj16, k0, hW, hgr⟩ := hrel
    have hj := k0.le
    have hme := k0.left_eq
    have wr2 : IntKind.i64.wrap ((j : Int) + 1) = (j : Int) + 1 := by rw [IntKind.wrap_i64]; omega
    have wr3 : IntKind.i64.wrap ((j : Int) - (i : Int)) = (j : Int) - (i : Int) := by rw [IntKind.wrap_i64]; omega
    have hex : (s.extract i j).size ≤ 281474976710656 := by rw [extract_eq, strOfNums_size, cut_len s hj]; omega
    obtain ⟨c, hc⟩ : ∃ c, nx s j = c := ⟨_, rfl⟩
    by_cases hle : letter c
    · have hlt : j < s.size := lt_of_fine hj (letter_fine _ (by rw [hc]; exact .inl hle))
      have hcc : letter (nx s j) ∨ (a.f = 1 ∧ i < j ∧ mark (nx s j)) := by rw [hc]; exact .inl hle
      by_cases h16 : j - i = 16
      · have hR := winv_full hW.out hij hlt hcc h16
        have q16 : ((j : Int) - (i : Int) == 16) = true := by rw [beq_iff_eq]; omega
        clear h16
        go_wp2_with (first
          | (go_at_call 27; refine (next_ok k0).mono ?_; rintro e w1 ⟨rfl, g1⟩; have k1 := k0.still g1; have c1 := k1.c1; have f1 := k1.fz; simp only [hc])
          | (go_at_call 33; refine (isLetter_ok _ _).mono ?_; rintro e w3 ⟨rfl, rfl⟩; simp only [hle, decide_true])
          | (go_at_call 29; refine (stop_ok k1).mono ?_; rintro e w4 ⟨rfl, rfl⟩))
        exact ⟨rfl, .inr ⟨_, rfl, hR, hgr.out.trans (g1.but _)⟩⟩
      · have hW2 : Hid (WInv s i a (j + 1)) := winv_step hW.out hij hlt hcc h16
        have q16 : ((j : Int) - (i : Int) == 16) = false := by rw [beq_eq_false_iff_ne]; omega
        clear hW
        go_wp2_with (first
          | (go_at_call 27; refine (next_ok k0).mono ?_; rintro e w1 ⟨rfl, g1⟩; have k1 := k0.still g1; have c1 := k1.c1; have f1 := k1.fz; simp only [hc])
          | (go_at_call 33; refine (isLetter_ok _ _).mono ?_; rintro e w3 ⟨rfl, rfl⟩; simp only [hle, decide_true]))
        have k7 := k1.set hlt
        have hme6 := k7.left_eq
        go_roundw
        case rel => exact ⟨j + 1, by omega, by omega, k7, hW2, (hgr.out.trans (g1.but _)).trans (grown_set _ _ _ _)⟩
        case measure => omega
    · cases nm with
      | false =>
        have hf1 : ¬ a.f = 1 := by simpa using hnm.out
        have hMk : a.f = 1 → ¬ mark (nx s j) := fun hh => absurd hh hf1
        by_cases hji : i = j
        · have hR : R s i a .ahead = .bad (i + 1) := R_none s i hi (by simp only [step]; rw [if_neg hb.out, if_neg h35.out, if_neg (by rw [hji, hc]; exact hle)])
          subst hji
          go_wp2_with (first
            | (go_at_call 27; refine (next_ok k0).mono ?_; rintro e w1 ⟨rfl, g1⟩; have k1 := k0.still g1; have c1 := k1.c1; simp only [hc]; clear k0)
            | (go_at_call 33; refine (isLetter_ok _ _).mono ?_; rintro e w3 ⟨rfl, rfl⟩; simp only [hle, decide_false])
            | (go_at_call 29; refine (stop_ok k1).mono ?_; rintro e w4 ⟨rfl, rfl⟩))
          exact ⟨rfl, .inr ⟨_, rfl, hR, hgr.out.trans (g1.but _)⟩⟩
        · have hji2 : ((j : Int) == (i : Int)) = false := by rw [beq_eq_false_iff_ne]; omega
          go_wp2_with (first
            | (go_at_call 27; refine (next_ok k0).mono ?_; rintro e w1 ⟨rfl, g1⟩; have k1 := k0.still g1; have c1 := k1.c1; simp only [hc]; clear k0)
            | (go_at_call 33; refine (isLetter_ok _ _).mono ?_; rintro e w3 ⟨rfl, rfl⟩; simp only [hle, decide_false]))
          have hS : Rd _ g s j ∧ w.grownBy _ (some g) := ⟨k1, hgr.out.trans (g1.but _)⟩
          refine wp_region_noPanic ?_
          refine wp_region_held_drew (S := fun w' => Rd w' g s j ∧ w.grownBy w' (some g)) (by kernel_rfl) (⟨hS.1.still (grown_drew _), hS.2.trans ((grown_drew _).but _)⟩) (fun _ => ?_)
          have hS2 := hS
          clear hS
          have hS : Rd (World.drew _) g s j ∧ w.grownBy (World.drew _) (some g) := ⟨hS2.1.still (grown_drew _), hS2.2.trans ((grown_drew _).but _)⟩
          refine takeH_at 0 53 ((.pointer (some ⟨g, 0, none⟩))) rfl rfl (by kernel_rfl) (by kernel_rfl) (by kernel_rfl) (fun _ _ _ h => h) (hS) (Or.inl ⟨by rfl, fun w' hS' => by go_simp⟩) ?_
          simp only [List.setIfInBounds_toArray, List.set_cons_zero, List.set_cons_succ]
          refine takeH_at 1 54 ((.pointer (some ⟨g, 0, none⟩))) rfl rfl (by kernel_rfl) (by kernel_rfl) (by kernel_rfl) (fun _ _ _ h => h) (hS) (Or.inl ⟨by rfl, fun w' hS' => by go_simp⟩) ?_
          simp only [List.setIfInBounds_toArray, List.set_cons_zero, List.set_cons_succ]
          refine takeH_at 2 55 ((.pointer (some ⟨g, 0, none⟩))) rfl rfl (by kernel_rfl) (by kernel_rfl) (by kernel_rfl) (fun _ _ _ h => h) (hS) (Or.inl ⟨by rfl, fun w' hS' => by go_simp⟩) ?_
          simp only [List.setIfInBounds_toArray, List.set_cons_zero, List.set_cons_succ]
          refine takeH_at 3 56 ((.string s)) rfl rfl (by kernel_rfl) (by kernel_rfl) (by kernel_rfl) (fun _ _ _ h => h) (hS) (Or.inl ⟨by rfl, fun w' hS' => by have q := hS'.1.c0; go_simp⟩) ?_
          simp only [List.setIfInBounds_toArray, List.set_cons_zero, List.set_cons_succ]
          refine takeH_at 4 57 ((.int .i64 (i : Nat))) rfl rfl (by kernel_rfl) (by kernel_rfl) (by kernel_rfl) (fun _ _ _ h => h) (hS) (Or.inl ⟨by rfl, fun w' hS' => by go_simp⟩) ?_
          simp only [List.setIfInBounds_toArray, List.set_cons_zero, List.set_cons_succ]
          refine takeH_at 5 58 ((.pointer (some ⟨g, 0, none⟩))) rfl rfl (by kernel_rfl) (by kernel_rfl) (by kernel_rfl) (fun _ _ _ h => h) (hS) (Or.inl ⟨by rfl, fun w' hS' => by go_simp⟩) ?_
          simp only [List.setIfInBounds_toArray, List.set_cons_zero, List.set_cons_succ]
          refine takeH_at 6 59 ((.pointer (some ⟨g, 0, none⟩))) rfl rfl (by kernel_rfl) (by kernel_rfl) (by kernel_rfl) (fun _ _ _ h => h) (hS) (Or.inl ⟨by rfl, fun w' hS' => by go_simp⟩) ?_
          simp only [List.setIfInBounds_toArray, List.set_cons_zero, List.set_cons_succ]
          refine takeH_at 7 60 ((.pointer (some ⟨g, 1, none⟩))) rfl rfl (by kernel_rfl) (by kernel_rfl) (by kernel_rfl) (fun _ _ _ h => h) (hS) (Or.inl ⟨by rfl, fun w' hS' => by go_simp⟩) ?_
          simp only [List.setIfInBounds_toArray, List.set_cons_zero, List.set_cons_succ]
          refine takeH_at 8 61 ((.int .i64 (j : Nat))) rfl rfl (by kernel_rfl) (by kernel_rfl) (by kernel_rfl) (fun _ _ _ h => h) (hS) (Or.inl ⟨by rfl, fun w' hS' => by have q := hS'.1.c1; go_simp⟩) ?_
          simp only [List.setIfInBounds_toArray, List.set_cons_zero, List.set_cons_succ]
          refine takeH_at 9 62 ((.string (s.extract i j))) rfl rfl (by kernel_rfl) (by kernel_rfl) (by kernel_rfl) (fun _ _ _ h => h) (hS) (Or.inl ⟨by rfl, fun w' hS' => by go_simp⟩) ?_
          simp only [List.setIfInBounds_toArray, List.set_cons_zero, List.set_cons_succ]
          refine wpAnyH_ready (rs := [10]) (by kernel_rfl) (by simp) ?_
          refine AllReadyH.cons rfl (fun K hK => ?_) AllReadyH.nil
          go_simp
          refine (clone_ok (s.extract i j) _ hex).mono ?_
          rintro e7 w7 ⟨rfl, g7⟩
          go_wp2_with fail
          refine hK.out _ _ ⟨hS.1.still g7, hS.2.trans (g7.but _)⟩ (fun _ => ?_)
          have hS7 : Rd w7 g s j ∧ w.grownBy w7 (some g) := ⟨hS.1.still g7, hS.2.trans (g7.but _)⟩
          clear hK K
          try simp only [List.setIfInBounds_toArray, List.set_cons_zero, List.set_cons_succ]
          refine takeH_at 11 4 ((.string (s.extract i j))) rfl rfl (by kernel_rfl) (by kernel_rfl) (by kernel_rfl) (fun _ _ _ h => h) (hS7) (Or.inl ⟨by rfl, fun w' hS' => by go_simp⟩) ?_
          simp only [List.setIfInBounds_toArray, List.set_cons_zero, List.set_cons_succ]
          refine wpAnyH_done (by kernel_rfl) ?_ _
          refine NoPanic.normal ?_
          go_wp2
          go_ret
          rw [extract_eq]
          exact .inl ⟨j, rfl, by omega, hS7.1, hW.out.1.resolve_left (by omega), by rw [hc]; exact hle, hMk, hW.out.2, hS7.2⟩
      | true =>
        have hf1 : a.f = 1 := by simpa using hnm.out
        by_cases hlt0 : i < j
        · have q0 : decide ((i : Int) < (j : Int)) = true := by simp; omega
          have hji2 : ((j : Int) == (i : Int)) = false := by rw [beq_eq_false_iff_ne]; omega
          by_cases hma : mark c
          · have hlt : j < s.size := lt_of_fine hj (letter_fine _ (by rw [hc]; exact .inr hma))
            have hcc : letter (nx s j) ∨ (a.f = 1 ∧ i < j ∧ mark (nx s j)) := by rw [hc]; exact .inr ⟨by simpa using hnm.out, hlt0, hma⟩
            by_cases h16 : j - i = 16
            · have hR := winv_full hW.out hij hlt hcc h16
              have q16 : ((j : Int) - (i : Int) == 16) = true := by rw [beq_iff_eq]; omega
              clear h16
              go_wp2_with (first
                | (go_at_call 27; refine (next_ok k0).mono ?_; rintro e w1 ⟨rfl, g1⟩; have k1 := k0.still g1; have c1 := k1.c1; simp only [hc]; clear k0)
                | (go_at_call 33; refine (isLetter_ok _ _).mono ?_; rintro e w3 ⟨rfl, rfl⟩; simp only [hle, decide_false])
                | (go_at_call 27; refine (next_ok k1).mono ?_; rintro e w2 ⟨rfl, g2⟩; have k2 := k1.still g2; have c2 := k2.c1; have f2 := k2.fz; simp only [hc])
                | (go_at_call 34; refine (isMark_ok _ _).mono ?_; rintro e w3 ⟨rfl, rfl⟩; simp only [hma, decide_true, decide_false])
                | (go_at_call 29; refine (stop_ok k2).mono ?_; rintro e w4 ⟨rfl, rfl⟩))
              exact ⟨rfl, .inr ⟨_, rfl, hR, hgr.out.trans ((g1.trans g2).but _)⟩⟩
            · have hW2 : Hid (WInv s i a (j + 1)) := winv_step hW.out hij hlt hcc h16
              have q16 : ((j : Int) - (i : Int) == 16) = false := by rw [beq_eq_false_iff_ne]; omega
              clear hW
              go_wp2_with (first
                | (go_at_call 27; refine (next_ok k0).mono ?_; rintro e w1 ⟨rfl, g1⟩; have k1 := k0.still g1; have c1 := k1.c1; simp only [hc]; clear k0)
                | (go_at_call 33; refine (isLetter_ok _ _).mono ?_; rintro e w3 ⟨rfl, rfl⟩; simp only [hle, decide_false])
                | (go_at_call 27; refine (next_ok k1).mono ?_; rintro e w2 ⟨rfl, g2⟩; have k2 := k1.still g2; have c2 := k2.c1; have f2 := k2.fz; simp only [hc])
                | (go_at_call 34; refine (isMark_ok _ _).mono ?_; rintro e w3 ⟨rfl, rfl⟩; simp only [hma, decide_true, decide_false]))
              have k7 := k2.set hlt
              have hme6 := k7.left_eq
              go_roundw
              case rel => exact ⟨j + 1, by omega, by omega, k7, hW2, (hgr.out.trans ((g1.trans g2).but _)).trans (grown_set _ _ _ _)⟩
              case measure => omega
          · have hMk : a.f = 1 → ¬ mark (nx s j) := fun _ => by rw [hc]; exact hma
            go_wp2_with (first
              | (go_at_call 27; refine (next_ok k0).mono ?_; rintro e w1 ⟨rfl, g1⟩; have k1 := k0.still g1; have c1 := k1.c1; simp only [hc]; clear k0)
              | (go_at_call 33; refine (isLetter_ok _ _).mono ?_; rintro e w3 ⟨rfl, rfl⟩; simp only [hle, decide_false])
              | (go_at_call 27; refine (next_ok k1).mono ?_; rintro e w2 ⟨rfl, g2⟩; have k2 := k1.still g2; have c2 := k2.c1; have f2 := k2.fz; simp only [hc])
              | (go_at_call 34; refine (isMark_ok _ _).mono ?_; rintro e w3 ⟨rfl, rfl⟩; simp only [hma, decide_true, decide_false]))
            have hS : Rd _ g s j ∧ w.grownBy _ (some g) := ⟨k2, hgr.out.trans ((g1.trans g2).but _)⟩
            refine wp_region_noPanic ?_
            refine wp_region_held_drew (S := fun w' => Rd w' g s j ∧ w.grownBy w' (some g)) (by kernel_rfl) (⟨hS.1.still (grown_drew _), hS.2.trans ((grown_drew _).but _)⟩) (fun _ => ?_)
            have hS2 := hS
            clear hS
            have hS : Rd (World.drew _) g s j ∧ w.grownBy (World.drew _) (some g) := ⟨hS2.1.still (grown_drew _), hS2.2.trans ((grown_drew _).but _)⟩
            refine takeH_at 0 53 ((.pointer (some ⟨g, 0, none⟩))) rfl rfl (by kernel_rfl) (by kernel_rfl) (by kernel_rfl) (fun _ _ _ h => h) (hS) (Or.inl ⟨by rfl, fun w' hS' => by go_simp⟩) ?_
            simp only [List.setIfInBounds_toArray, List.set_cons_zero, List.set_cons_succ]
            refine takeH_at 1 54 ((.pointer (some ⟨g, 0, none⟩))) rfl rfl (by kernel_rfl) (by kernel_rfl) (by kernel_rfl) (fun _ _ _ h => h) (hS) (Or.inl ⟨by rfl, fun w' hS' => by go_simp⟩) ?_
            simp only [List.setIfInBounds_toArray, List.set_cons_zero, List.set_cons_succ]
            refine takeH_at 2 55 ((.pointer (some ⟨g, 0, none⟩))) rfl rfl (by kernel_rfl) (by kernel_rfl) (by kernel_rfl) (fun _ _ _ h => h) (hS) (Or.inl ⟨by rfl, fun w' hS' => by go_simp⟩) ?_
            simp only [List.setIfInBounds_toArray, List.set_cons_zero, List.set_cons_succ]
            refine takeH_at 3 56 ((.string s)) rfl rfl (by kernel_rfl) (by kernel_rfl) (by kernel_rfl) (fun _ _ _ h => h) (hS) (Or.inl ⟨by rfl, fun w' hS' => by have q := hS'.1.c0; go_simp⟩) ?_
            simp only [List.setIfInBounds_toArray, List.set_cons_zero, List.set_cons_succ]
            refine takeH_at 4 57 ((.int .i64 (i : Nat))) rfl rfl (by kernel_rfl) (by kernel_rfl) (by kernel_rfl) (fun _ _ _ h => h) (hS) (Or.inl ⟨by rfl, fun w' hS' => by go_simp⟩) ?_
            simp only [List.setIfInBounds_toArray, List.set_cons_zero, List.set_cons_succ]
            refine takeH_at 5 58 ((.pointer (some ⟨g, 0, none⟩))) rfl rfl (by kernel_rfl) (by kernel_rfl) (by kernel_rfl) (fun _ _ _ h => h) (hS) (Or.inl ⟨by rfl, fun w' hS' => by go_simp⟩) ?_
            simp only [List.setIfInBounds_toArray, List.set_cons_zero, List.set_cons_succ]
            refine takeH_at 6 59 ((.pointer (some ⟨g, 0, none⟩))) rfl rfl (by kernel_rfl) (by kernel_rfl) (by kernel_rfl) (fun _ _ _ h => h) (hS) (Or.inl ⟨by rfl, fun w' hS' => by go_simp⟩) ?_
            simp only [List.setIfInBounds_toArray, List.set_cons_zero, List.set_cons_succ]
            refine takeH_at 7 60 ((.pointer (some ⟨g, 1, none⟩))) rfl rfl (by kernel_rfl) (by kernel_rfl) (by kernel_rfl) (fun _ _ _ h => h) (hS) (Or.inl ⟨by rfl, fun w' hS' => by go_simp⟩) ?_
            simp only [List.setIfInBounds_toArray, List.set_cons_zero, List.set_cons_succ]
            refine takeH_at 8 61 ((.int .i64 (j : Nat))) rfl rfl (by kernel_rfl) (by kernel_rfl) (by kernel_rfl) (fun _ _ _ h => h) (hS) (Or.inl ⟨by rfl, fun w' hS' => by have q := hS'.1.c1; go_simp⟩) ?_
            simp only [List.setIfInBounds_toArray, List.set_cons_zero, List.set_cons_succ]
            refine takeH_at 9 62 ((.string (s.extract i j))) rfl rfl (by kernel_rfl) (by kernel_rfl) (by kernel_rfl) (fun _ _ _ h => h) (hS) (Or.inl ⟨by rfl, fun w' hS' => by go_simp⟩) ?_
            simp only [List.setIfInBounds_toArray, List.set_cons_zero, List.set_cons_succ]
            refine wpAnyH_ready (rs := [10]) (by kernel_rfl) (by simp) ?_
            refine AllReadyH.cons rfl (fun K hK => ?_) AllReadyH.nil
            go_simp
            refine (clone_ok (s.extract i j) _ hex).mono ?_
            rintro e7 w7 ⟨rfl, g7⟩
            go_wp2_with fail
            refine hK.out _ _ ⟨hS.1.still g7, hS.2.trans (g7.but _)⟩ (fun _ => ?_)
            have hS7 : Rd w7 g s j ∧ w.grownBy w7 (some g) := ⟨hS.1.still g7, hS.2.trans (g7.but _)⟩
            clear hK K
            try simp only [List.setIfInBounds_toArray, List.set_cons_zero, List.set_cons_succ]
            refine takeH_at 11 4 ((.string (s.extract i j))) rfl rfl (by kernel_rfl) (by kernel_rfl) (by kernel_rfl) (fun _ _ _ h => h) (hS7) (Or.inl ⟨by rfl, fun w' hS' => by go_simp⟩) ?_
            simp only [List.setIfInBounds_toArray, List.set_cons_zero, List.set_cons_succ]
            refine wpAnyH_done (by kernel_rfl) ?_ _
            refine NoPanic.normal ?_
            go_wp2
            go_ret
            rw [extract_eq]
            exact .inl ⟨j, rfl, by omega, hS7.1, hW.out.1.resolve_left (by omega), by rw [hc]; exact hle, hMk, hW.out.2, hS7.2⟩
        · obtain rfl : i = j := by omega
          have hR : R s i a .ahead = .bad (i + 1) := R_none s i hi (by simp only [step]; rw [if_neg hb.out, if_neg h35.out, if_neg (by rw [hc]; exact hle)])
          go_wp2_with (first
            | (go_at_call 27; refine (next_ok k0).mono ?_; rintro e w1 ⟨rfl, g1⟩; have k1 := k0.still g1; have c1 := k1.c1; simp only [hc]; clear k0)
            | (go_at_call 33; refine (isLetter_ok _ _).mono ?_; rintro e w3 ⟨rfl, rfl⟩; simp only [hle, decide_false])
            | (go_at_call 29; refine (stop_ok k1).mono ?_; rintro e w4 ⟨rfl, rfl⟩))
          exact ⟨rfl, .inr ⟨_, rfl, hR, hgr.out.trans (g1.but _)⟩⟩
end Go.Proofs.Ytohhjohpdfbdoaa
