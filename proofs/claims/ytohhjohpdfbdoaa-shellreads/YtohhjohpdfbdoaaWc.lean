import Derived.Test.YtohhjohpdfbdoaaWb
namespace Go.Proofs.Ytohhjohpdfbdoaa
open Go.RowKit
set_option linter.unusedVariables false
set_option linter.unusedSimpArgs false
variable {w w' : World} {g : Nat} {s : ByteArray} {i j : Nat}
/-- A field that may be over at j. -/
structure Over (s : ByteArray) (j : Nat) (a : Acc) (st : St) (a' : Acc) : Prop where
  fin : fin a st = some a'
  blank : ∀ c, blank c → step a st c = some (a', .ahead)
  bad : j < s.size → ¬ Go.Proofs.Ytohhjohpdfbdoaa.blank (nx s j) → R s j a st = .bad (j + 1)
theorem Over.good {a a' : Acc} {st : St} (h : Over s j a st a') (hj : j ≤ s.size) (hb : j = s.size ∨ Go.Proofs.Ytohhjohpdfbdoaa.blank (nx s j)) : R s j a st = R s j a' .ahead := R_over s j hj hb h.fin h.blank
def bst (k l : List Int) : St := if l = [] then .begun k else .bare k l
theorem step_bare (a : Acc) (k l : List Int) (c : Int) (h1 : 32 < c) (h3 : l = [] → c ≠ 34) : step a (bst k l) c = some (a, bst k (l ++ [c])) := by
  have hb : ¬ blank c := by unfold blank; omega
  unfold bst
  by_cases hl : l = []
  · subst hl
    have h4 := h3 rfl
    simp [step, hb, h4]
  · simp [hl, step, hb]
theorem over_bare (a : Acc) (k l : List Int) (hf : ¬ (32 < nx s j ∧ nx s j ≤ 126)) : Over s j a (bst k l) (a.opt k l) := by
  refine ⟨?_, ?_, ?_⟩
  · unfold bst; by_cases hl : l = [] <;> simp [hl, fin]
  · intro c hc; unfold bst; by_cases hl : l = [] <;> simp [hl, step, hc]
  · intro hj hb
    exact R_foul s j _ _ hj (by unfold blank at hb; unfold fine; omega)
theorem over_shut (a : Acc) (k l : List Int) : Over s j a (.shut k l) (a.opt k l) :=
  ⟨rfl, fun c hc => by simp [step, hc], fun hj hb => R_none s j hj (by simp [step, hb])⟩
def ValQ (w : World) (g : Nat) (s : ByteArray) (i : Nat) (a : Acc) (k : List Int) (e : Ending) (w' : World) : Prop :=
  (∃ v j st, e = .returned (.string (strOfNums v)) ∧ i ≤ j ∧ Rd w' g s j ∧ R s i a (.begun k) = R s j a st ∧ Over s j a st (a.opt k v) ∧ w.grownBy w' (some g)) ∨
  (∃ p, e = fault p ∧ R s i a (.begun k) = .bad p ∧ w.grownBy w' (some g))
set_option maxHeartbeats 8000000 in
set_option maxRecDepth 100000 in
theorem value_ok (h : Rd w g s i) (a : Acc) (k : List Int) : Calls Try.prog 32 #[.pointer (some ⟨g, 0, none⟩)] w (ValQ w g s i a k) := by
  have hmo := h.most
  have hgl := h.lt
  have hle := h.le
  by_cases h34 : nx s i = 34
  · have hf : fine (nx s i) := by rw [h34]; decide
    have hR : R s i a (.begun k) = R s (i + 1) a (.quoted k []) := R_go s i (lt_of_fine hle hf) hf (by rw [h34]; rfl)
    go_enter Try.func32, Try.ntmps32
    go_wp2_with (first
      | (go_at_call 26; refine (takes_yes h 34 h34 (by omega)).mono ?_; rintro e w1 ⟨rfl, k1, g1⟩)
      | (go_at_call 36; refine (quoted_ok k1 a k).mono ?_))
    rintro e w2 (⟨v, j, rfl, hij, k2, hR2, g2⟩ | ⟨p, rfl, hR2, g2⟩)
    · go_wp2
      go_ret
      exact .inl ⟨v, j, _, rfl, by omega, k2, hR.trans hR2, over_shut a k v, g1.trans g2⟩
    · exact ⟨rfl, .inr ⟨p, rfl, hR.trans hR2, g1.trans g2⟩⟩
  · have H34 : Hid (nx s i ≠ 34) := h34
    go_enter Try.func32, Try.ntmps32
    go_wp2_with (go_at_call 26; refine (takes_no h 34 h34).mono ?_; rintro e w0 ⟨rfl, g0⟩; have k9 := h.still g0; have c9 := k9.c1)
    clear h34
    go_loopw [12] (fun _ wr => ∃ j, i ≤ j ∧ Rd wr g s j ∧ Hid (R s i a (.begun k) = R s j a (bst k (cut s i j))) ∧ Hid (w.grownBy wr (some g))) (fun _ wr => left s g wr)
    case atStart => exact ⟨i, by omega, k9, (by rw [cut_nil]; rfl : R s i a (.begun k) = R s i a (bst k (cut s i i))), g0.but _⟩
    case round =>
      obtain ⟨j, hij, k0, hR, hgr⟩ := hrel
      clear c9
      have hj := k0.le
      have hme := k0.left_eq
      have wr2 : IntKind.i64.wrap ((j : Int) + 1) = (j : Int) + 1 := by rw [IntKind.wrap_i64]; omega
      have hex : (s.extract i j).size ≤ 281474976710656 := by rw [extract_eq, strOfNums_size, cut_len s hj]; omega
      obtain ⟨c, hc⟩ : ∃ c, nx s j = c := ⟨_, rfl⟩
      by_cases h1 : 32 < c
      · by_cases h2 : c ≤ 126
        · have hlt : j < s.size := lt_of_fine hj (by rw [hc]; unfold fine; omega)
          have hR2 : Hid (R s i a (.begun k) = R s (j + 1) a (bst k (cut s i (j + 1)))) := by
            rw [hR.out, cut_snoc s hij hlt, hc]
            exact R_go s j hlt (by rw [hc]; unfold fine; omega) (by rw [hc]; exact step_bare a k _ c h1 (fun he => by
              have h9 := cut_len (i := i) s hj
              rw [he] at h9
              obtain rfl : j = i := by simp at h9; omega
              rw [← hc]
              exact H34.out))
          clear hR
          go_wp2_with (first
            | (go_at_call 27; refine (next_ok k0).mono ?_; rintro e w1 ⟨rfl, g1⟩; have k1 := k0.still g1; simp only [hc]; clear k0)
            | (go_at_call 27; refine (next_ok k1).mono ?_; rintro e w2 ⟨rfl, g2⟩; have k2 := k1.still g2; have c2 := k2.c1; have f2 := k2.fz; simp only [hc]))
          have k7 := k2.set hlt
          have hme6 := k7.left_eq
          go_roundw
          case rel => exact ⟨j + 1, by omega, k7, hR2, (hgr.out.trans ((g1.trans g2).but _)).trans (grown_set _ _ _ _)⟩
          case measure => omega
        · go_wp2_with (first
            | (go_at_call 27; refine (next_ok k0).mono ?_; rintro e w1 ⟨rfl, g1⟩; have k1 := k0.still g1; simp only [hc]; clear k0)
            | (go_at_call 27; refine (next_ok k1).mono ?_; rintro e w2 ⟨rfl, g2⟩; have k2 := k1.still g2; simp only [hc]))
          have hO : Hid (Over s j a (bst k (cut s i j)) (a.opt k (cut s i j))) := over_bare a k _ (by rw [hc]; omega)
          have hS : Rd _ g s j ∧ w.grownBy _ (some g) := ⟨k2, hgr.out.trans ((g1.trans g2).but _)⟩
          refine wp_region_noPanic ?_
          refine wp_region_held_drew (S := fun w' => Rd w' g s j ∧ w.grownBy w' (some g)) (by kernel_rfl) (⟨hS.1.still (grown_drew _), hS.2.trans ((grown_drew _).but _)⟩) (fun _ => ?_)
          have hS2 := hS
          clear hS
          have hS : Rd (World.drew _) g s j ∧ w.grownBy (World.drew _) (some g) := ⟨hS2.1.still (grown_drew _), hS2.2.trans ((grown_drew _).but _)⟩
          refine takeH_at 0 27 ((.pointer (some ⟨g, 0, none⟩))) rfl rfl (by kernel_rfl) (by kernel_rfl) (by kernel_rfl) (fun _ _ _ h => h) (hS) (Or.inl ⟨by rfl, fun w' hS' => by go_simp⟩) ?_
          simp only [List.setIfInBounds_toArray, List.set_cons_zero, List.set_cons_succ]
          refine takeH_at 1 28 ((.pointer (some ⟨g, 0, none⟩))) rfl rfl (by kernel_rfl) (by kernel_rfl) (by kernel_rfl) (fun _ _ _ h => h) (hS) (Or.inl ⟨by rfl, fun w' hS' => by go_simp⟩) ?_
          simp only [List.setIfInBounds_toArray, List.set_cons_zero, List.set_cons_succ]
          refine takeH_at 2 29 ((.pointer (some ⟨g, 0, none⟩))) rfl rfl (by kernel_rfl) (by kernel_rfl) (by kernel_rfl) (fun _ _ _ h => h) (hS) (Or.inl ⟨by rfl, fun w' hS' => by go_simp⟩) ?_
          simp only [List.setIfInBounds_toArray, List.set_cons_zero, List.set_cons_succ]
          refine takeH_at 3 30 ((.string s)) rfl rfl (by kernel_rfl) (by kernel_rfl) (by kernel_rfl) (fun _ _ _ h => h) (hS) (Or.inl ⟨by rfl, fun w' hS' => by have q := hS'.1.c0; go_simp⟩) ?_
          simp only [List.setIfInBounds_toArray, List.set_cons_zero, List.set_cons_succ]
          refine takeH_at 4 31 ((.int .i64 (i : Nat))) rfl rfl (by kernel_rfl) (by kernel_rfl) (by kernel_rfl) (fun _ _ _ h => h) (hS) (Or.inl ⟨by rfl, fun w' hS' => by go_simp⟩) ?_
          simp only [List.setIfInBounds_toArray, List.set_cons_zero, List.set_cons_succ]
          refine takeH_at 5 32 ((.pointer (some ⟨g, 0, none⟩))) rfl rfl (by kernel_rfl) (by kernel_rfl) (by kernel_rfl) (fun _ _ _ h => h) (hS) (Or.inl ⟨by rfl, fun w' hS' => by go_simp⟩) ?_
          simp only [List.setIfInBounds_toArray, List.set_cons_zero, List.set_cons_succ]
          refine takeH_at 6 33 ((.pointer (some ⟨g, 0, none⟩))) rfl rfl (by kernel_rfl) (by kernel_rfl) (by kernel_rfl) (fun _ _ _ h => h) (hS) (Or.inl ⟨by rfl, fun w' hS' => by go_simp⟩) ?_
          simp only [List.setIfInBounds_toArray, List.set_cons_zero, List.set_cons_succ]
          refine takeH_at 7 34 ((.pointer (some ⟨g, 1, none⟩))) rfl rfl (by kernel_rfl) (by kernel_rfl) (by kernel_rfl) (fun _ _ _ h => h) (hS) (Or.inl ⟨by rfl, fun w' hS' => by go_simp⟩) ?_
          simp only [List.setIfInBounds_toArray, List.set_cons_zero, List.set_cons_succ]
          refine takeH_at 8 35 ((.int .i64 (j : Nat))) rfl rfl (by kernel_rfl) (by kernel_rfl) (by kernel_rfl) (fun _ _ _ h => h) (hS) (Or.inl ⟨by rfl, fun w' hS' => by have q := hS'.1.c1; go_simp⟩) ?_
          simp only [List.setIfInBounds_toArray, List.set_cons_zero, List.set_cons_succ]
          refine takeH_at 9 36 ((.string (s.extract i j))) rfl rfl (by kernel_rfl) (by kernel_rfl) (by kernel_rfl) (fun _ _ _ h => h) (hS) (Or.inl ⟨by rfl, fun w' hS' => by go_simp⟩) ?_
          simp only [List.setIfInBounds_toArray, List.set_cons_zero, List.set_cons_succ]
          refine wpAnyH_ready (rs := [10]) (by kernel_rfl) (by simp) ?_
          refine AllReadyH.cons rfl (fun K hK => ?_) AllReadyH.nil
          go_simp
          refine (clone_ok (s.extract i j) _ hex).mono ?_
          rintro e7 w7 ⟨rfl, g7⟩
          go_wp2_with fail
          refine hK.out _ _ ⟨hS.1.still g7, hS.2.trans (g7.but _)⟩ (fun _ => ?_)
          have hS7 : Rd w7 g s j ∧ w.grownBy w7 (some g) := ⟨hS.1.still g7, hS.2.trans (g7.but _)⟩
          clear hK K
          try simp only [List.setIfInBounds_toArray, List.set_cons_zero, List.set_cons_succ]
          refine takeH_at 11 2 ((.string (s.extract i j))) rfl rfl (by kernel_rfl) (by kernel_rfl) (by kernel_rfl) (fun _ _ _ h => h) (hS7) (Or.inl ⟨by rfl, fun w' hS' => by go_simp⟩) ?_
          simp only [List.setIfInBounds_toArray, List.set_cons_zero, List.set_cons_succ]
          refine wpAnyH_done (by kernel_rfl) ?_ _
          refine NoPanic.normal ?_
          go_wp2
          go_ret
          rw [extract_eq]
          exact .inl ⟨cut s i j, j, _, rfl, hij, hS7.1, hR.out, hO.out, hS7.2⟩
      · go_wp2_with (first
          | (go_at_call 27; refine (next_ok k0).mono ?_; rintro e w1 ⟨rfl, g1⟩; have k1 := k0.still g1; simp only [hc]; clear k0))
        have hO : Hid (Over s j a (bst k (cut s i j)) (a.opt k (cut s i j))) := over_bare a k _ (by rw [hc]; omega)
        have hS : Rd _ g s j ∧ w.grownBy _ (some g) := ⟨k1, hgr.out.trans (g1.but _)⟩
        refine wp_region_noPanic ?_
        refine wp_region_held_drew (S := fun w' => Rd w' g s j ∧ w.grownBy w' (some g)) (by kernel_rfl) (⟨hS.1.still (grown_drew _), hS.2.trans ((grown_drew _).but _)⟩) (fun _ => ?_)
        have hS2 := hS
        clear hS
        have hS : Rd (World.drew _) g s j ∧ w.grownBy (World.drew _) (some g) := ⟨hS2.1.still (grown_drew _), hS2.2.trans ((grown_drew _).but _)⟩
        refine takeH_at 0 27 ((.pointer (some ⟨g, 0, none⟩))) rfl rfl (by kernel_rfl) (by kernel_rfl) (by kernel_rfl) (fun _ _ _ h => h) (hS) (Or.inl ⟨by rfl, fun w' hS' => by go_simp⟩) ?_
        simp only [List.setIfInBounds_toArray, List.set_cons_zero, List.set_cons_succ]
        refine takeH_at 1 28 ((.pointer (some ⟨g, 0, none⟩))) rfl rfl (by kernel_rfl) (by kernel_rfl) (by kernel_rfl) (fun _ _ _ h => h) (hS) (Or.inl ⟨by rfl, fun w' hS' => by go_simp⟩) ?_
        simp only [List.setIfInBounds_toArray, List.set_cons_zero, List.set_cons_succ]
        refine takeH_at 2 29 ((.pointer (some ⟨g, 0, none⟩))) rfl rfl (by kernel_rfl) (by kernel_rfl) (by kernel_rfl) (fun _ _ _ h => h) (hS) (Or.inl ⟨by rfl, fun w' hS' => by go_simp⟩) ?_
        simp only [List.setIfInBounds_toArray, List.set_cons_zero, List.set_cons_succ]
        refine takeH_at 3 30 ((.string s)) rfl rfl (by kernel_rfl) (by kernel_rfl) (by kernel_rfl) (fun _ _ _ h => h) (hS) (Or.inl ⟨by rfl, fun w' hS' => by have q := hS'.1.c0; go_simp⟩) ?_
        simp only [List.setIfInBounds_toArray, List.set_cons_zero, List.set_cons_succ]
        refine takeH_at 4 31 ((.int .i64 (i : Nat))) rfl rfl (by kernel_rfl) (by kernel_rfl) (by kernel_rfl) (fun _ _ _ h => h) (hS) (Or.inl ⟨by rfl, fun w' hS' => by go_simp⟩) ?_
        simp only [List.setIfInBounds_toArray, List.set_cons_zero, List.set_cons_succ]
        refine takeH_at 5 32 ((.pointer (some ⟨g, 0, none⟩))) rfl rfl (by kernel_rfl) (by kernel_rfl) (by kernel_rfl) (fun _ _ _ h => h) (hS) (Or.inl ⟨by rfl, fun w' hS' => by go_simp⟩) ?_
        simp only [List.setIfInBounds_toArray, List.set_cons_zero, List.set_cons_succ]
        refine takeH_at 6 33 ((.pointer (some ⟨g, 0, none⟩))) rfl rfl (by kernel_rfl) (by kernel_rfl) (by kernel_rfl) (fun _ _ _ h => h) (hS) (Or.inl ⟨by rfl, fun w' hS' => by go_simp⟩) ?_
        simp only [List.setIfInBounds_toArray, List.set_cons_zero, List.set_cons_succ]
        refine takeH_at 7 34 ((.pointer (some ⟨g, 1, none⟩))) rfl rfl (by kernel_rfl) (by kernel_rfl) (by kernel_rfl) (fun _ _ _ h => h) (hS) (Or.inl ⟨by rfl, fun w' hS' => by go_simp⟩) ?_
        simp only [List.setIfInBounds_toArray, List.set_cons_zero, List.set_cons_succ]
        refine takeH_at 8 35 ((.int .i64 (j : Nat))) rfl rfl (by kernel_rfl) (by kernel_rfl) (by kernel_rfl) (fun _ _ _ h => h) (hS) (Or.inl ⟨by rfl, fun w' hS' => by have q := hS'.1.c1; go_simp⟩) ?_
        simp only [List.setIfInBounds_toArray, List.set_cons_zero, List.set_cons_succ]
        refine takeH_at 9 36 ((.string (s.extract i j))) rfl rfl (by kernel_rfl) (by kernel_rfl) (by kernel_rfl) (fun _ _ _ h => h) (hS) (Or.inl ⟨by rfl, fun w' hS' => by go_simp⟩) ?_
        simp only [List.setIfInBounds_toArray, List.set_cons_zero, List.set_cons_succ]
        refine wpAnyH_ready (rs := [10]) (by kernel_rfl) (by simp) ?_
        refine AllReadyH.cons rfl (fun K hK => ?_) AllReadyH.nil
        go_simp
        refine (clone_ok (s.extract i j) _ hex).mono ?_
        rintro e7 w7 ⟨rfl, g7⟩
        go_wp2_with fail
        refine hK.out _ _ ⟨hS.1.still g7, hS.2.trans (g7.but _)⟩ (fun _ => ?_)
        have hS7 : Rd w7 g s j ∧ w.grownBy w7 (some g) := ⟨hS.1.still g7, hS.2.trans (g7.but _)⟩
        clear hK K
        try simp only [List.setIfInBounds_toArray, List.set_cons_zero, List.set_cons_succ]
        refine takeH_at 11 2 ((.string (s.extract i j))) rfl rfl (by kernel_rfl) (by kernel_rfl) (by kernel_rfl) (fun _ _ _ h => h) (hS7) (Or.inl ⟨by rfl, fun w' hS' => by go_simp⟩) ?_
        simp only [List.setIfInBounds_toArray, List.set_cons_zero, List.set_cons_succ]
        refine wpAnyH_done (by kernel_rfl) ?_ _
        refine NoPanic.normal ?_
        go_wp2
        go_ret
        rw [extract_eq]
        exact .inl ⟨cut s i j, j, _, rfl, hij, hS7.1, hR.out, hO.out, hS7.2⟩
set_option maxHeartbeats 1000000 in
set_option maxRecDepth 100000 in
theorem blanks_ok (h : Rd w g s i) (a : Acc) : Calls Try.prog 22 #[.pointer (some ⟨g, 0, none⟩)] w fun e w' => ∃ j, e = .returned (.tuple #[]) ∧ i ≤ j ∧ Rd w' g s j ∧ R s i a .ahead = R s j a .ahead ∧ ¬ blank (nx s j) ∧ w.grownBy w' (some g) := by
  have hmo := h.most
  have hgl := h.lt
  have hle := h.le
  go_enter Try.func22, Try.ntmps22
  go_wp2
  go_loopw [2] (fun _ wr => ∃ j, i ≤ j ∧ Rd wr g s j ∧ Hid (R s i a .ahead = R s j a .ahead) ∧ Hid (w.grownBy wr (some g))) (fun _ wr => left s g wr)
  case atStart => exact ⟨i, by omega, h, rfl, World.grownBy.refl _ _⟩
  case round =>
    obtain ⟨j, hij, k0, hR, hgr⟩ := hrel
    have hj := k0.le
    have hme := k0.left_eq
    by_cases h1 : nx s j = 32
    · have hf : fine (nx s j) := by rw [h1]; decide
      have hlt := lt_of_fine hj hf
      have hR2 : Hid (R s i a .ahead = R s (j + 1) a .ahead) := hR.out.trans (R_go s j hlt hf (by rw [h1]; rfl))
      go_wp2_with (go_at_call 26; refine (takes_yes k0 32 h1 (by omega)).mono ?_; rintro e w1 ⟨rfl, k1, g1⟩)
      have hme6 := k1.left_eq
      go_roundw
      case rel => exact ⟨j + 1, by omega, k1, hR2, hgr.out.trans g1⟩
      case measure => omega
    · by_cases h2 : nx s j = 9
      · have hf : fine (nx s j) := by rw [h2]; decide
        have hlt := lt_of_fine hj hf
        have hR2 : Hid (R s i a .ahead = R s (j + 1) a .ahead) := hR.out.trans (R_go s j hlt hf (by rw [h2]; rfl))
        go_wp2_with (first
          | (go_at_call 26; refine (takes_no k0 32 h1).mono ?_; rintro e w0 ⟨rfl, g0⟩; have k9 := k0.still g0; clear h1)
          | (go_at_call 26; refine (takes_yes k9 9 h2 (by omega)).mono ?_; rintro e w1 ⟨rfl, k1, g1⟩))
        have hme6 := k1.left_eq
        go_roundw
        case rel => exact ⟨j + 1, by omega, k1, hR2, hgr.out.trans ((g0.but _).trans g1)⟩
        case measure => omega
      · have hb : ¬ blank (nx s j) := by unfold blank; omega
        go_wp2_with (first
          | (go_at_call 26; refine (takes_no k0 32 h1).mono ?_; rintro e w0 ⟨rfl, g0⟩; have k9 := k0.still g0; clear h1)
          | (go_at_call 26; refine (takes_no k9 9 h2).mono ?_; rintro e w1 ⟨rfl, g1⟩; clear h2))
        go_end0
        exact ⟨j, rfl, hij, k9.still g1, hR.out, hb, hgr.out.trans ((g0.trans g1).but _)⟩
def ComQ (w : World) (g : Nat) (s : ByteArray) (i : Nat) (a : Acc) (e : Ending) (w' : World) : Prop :=
  (∃ j, e = .returned (.tuple #[]) ∧ Rd w' g s j ∧ R s i a .ahead = R s j a .ahead ∧ (j = s.size ∨ j = i ∧ nx s i ≠ 35) ∧ w.grownBy w' (some g)) ∨
  (∃ p, e = fault p ∧ R s i a .ahead = .bad p ∧ w.grownBy w' (some g))
set_option maxHeartbeats 2000000 in
set_option maxRecDepth 100000 in
theorem comment_ok (h : Rd w g s i) (a : Acc) : Calls Try.prog 23 #[.pointer (some ⟨g, 0, none⟩)] w (ComQ w g s i a) := by
  have hmo := h.most
  have hgl := h.lt
  have hle := h.le
  by_cases h35 : nx s i = 35
  · have hf : fine (nx s i) := by rw [h35]; decide
    have hlt := lt_of_fine hle hf
    have hR0 : Hid (R s i a .ahead = R s i a .comment) := by
      have h1 : R s i a .ahead = R s (i + 1) a .comment := R_go s i hlt hf (by rw [h35]; rfl)
      have h2 : R s i a .comment = R s (i + 1) a .comment := R_go s i hlt hf rfl
      exact h1.trans h2.symm
    go_enter Try.func23, Try.ntmps23
    go_wp2_with (go_at_call 27; refine (next_ok h).mono ?_; rintro e w0 ⟨rfl, g0⟩; have k9 := h.still g0; simp only [h35])
    go_loopw [5] (fun _ wr => ∃ j, i ≤ j ∧ Rd wr g s j ∧ Hid (R s i a .ahead = R s j a .comment) ∧ Hid (w.grownBy wr (some g))) (fun _ wr => left s g wr)
    case atStart => exact ⟨i, by omega, k9, hR0, g0.but _⟩
    case round =>
      obtain ⟨j, hij, k0, hR, hgr⟩ := hrel
      have hj := k0.le
      have hme := k0.left_eq
      clear h35 hf hlt
      have wr2 : IntKind.i64.wrap ((j : Int) + 1) = (j : Int) + 1 := by rw [IntKind.wrap_i64]; omega
      by_cases hf : fine (nx s j)
      · have hlt := lt_of_fine hj hf
        have hR2 : Hid (R s i a .ahead = R s (j + 1) a .comment) := hR.out.trans (R_go s j hlt hf rfl)
        go_wp2_with (first
          | (go_at_call 27; refine (next_ok k0).mono ?_; rintro e w1 ⟨rfl, g1⟩; have k1 := k0.still g1; have c1 := k1.c1; have f1 := k1.fz; clear k0)
          | (go_at_call 28; refine (mayStand_ok _ _).mono ?_; rintro e w3 ⟨rfl, rfl⟩; simp only [hf, decide_true]))
        have k7 := k1.set hlt
        have hme6 := k7.left_eq
        go_roundw
        case rel => exact ⟨j + 1, by omega, k7, hR2, (hgr.out.trans (g1.but _)).trans (grown_set _ _ _ _)⟩
        case measure => omega
      · by_cases he : j = s.size
        · have hR2 : R s j a .comment = R s j a .ahead := by rw [R_end s j he (a' := a) rfl, R_end s j he (a' := a) rfl]
          have HE : Hid (j = s.size) := he
          clear he
          go_wp2_with (first
            | (go_at_call 27; refine (next_ok k0).mono ?_; rintro e w1 ⟨rfl, g1⟩; have k1 := k0.still g1; clear k0)
            | (go_at_call 28; refine (mayStand_ok _ _).mono ?_; rintro e w3 ⟨rfl, rfl⟩; simp only [hf, decide_false])
            | (go_at_call 24; refine (ended_ok k1).mono ?_; rintro e w4 ⟨rfl, g4⟩; have k4 := k1.still g4; rw [show decide (j = s.size) = true from decide_eq_true HE.out]))
          go_end0
          exact .inl ⟨j, rfl, k4, hR.out.trans hR2, .inl HE.out, hgr.out.trans ((g1.trans g4).but _)⟩
        · have hR2 : R s j a .comment = .bad (j + 1) := R_foul s j _ _ (by omega) hf
          go_wp2_with (first
            | (go_at_call 27; refine (next_ok k0).mono ?_; rintro e w1 ⟨rfl, g1⟩; have k1 := k0.still g1; clear k0)
            | (go_at_call 28; refine (mayStand_ok _ _).mono ?_; rintro e w3 ⟨rfl, rfl⟩; simp only [hf, decide_false])
            | (go_at_call 24; refine (ended_ok k1).mono ?_; rintro e w4 ⟨rfl, g4⟩; have k4 := k1.still g4; simp only [he, decide_false])
            | (go_at_call 29; refine (stop_ok k4).mono ?_; rintro e w5 ⟨rfl, rfl⟩))
          exact ⟨rfl, .inr ⟨_, rfl, hR.out.trans hR2, hgr.out.trans ((g1.trans g4).but _)⟩⟩
  · have H35 : Hid (nx s i ≠ 35) := h35
    go_enter Try.func23, Try.ntmps23
    go_wp2_with (go_at_call 27; refine (next_ok h).mono ?_; rintro e w0 ⟨rfl, g0⟩; have k9 := h.still g0)
    first | go_end0 | refine bodyPost_ret (results_none rfl _ _ _) rfl ?_
    exact .inl ⟨i, rfl, k9, rfl, .inr ⟨rfl, H35.out⟩, g0.but _⟩
end Go.Proofs.Ytohhjohpdfbdoaa
