import Derived.Test.YtohhjohpdfbdoaaWc
namespace Go.Proofs.Ytohhjohpdfbdoaa
open Go.RowKit
set_option linter.unusedVariables false
set_option linter.unusedSimpArgs false
variable {w w' : World} {g : Nat} {s : ByteArray} {i j : Nat}
/-- A field: a word, whether it is an option, a value. -/
structure Fd where
  w : List Int
  o : Bool
  v : List Int
abbrev Fd.val (f : Fd) : Value := .agg #[.string (strOfNums f.w), .bool f.o, .string (strOfNums f.v)]
def Acc.put (a : Acc) (f : Fd) : Acc :=
  if a.f = 0 then { a with cmd := f.w, f := a.f + 1 } else if f.o = true then { a with opts := a.opts ++ [(f.w, f.v)], f := a.f + 1 } else { a with name := f.w, f := a.f + 1 }
def FieldQ (w : World) (g : Nat) (s : ByteArray) (i : Nat) (a : Acc) (e : Ending) (w' : World) : Prop :=
  (∃ f j, e = .returned (Fd.val f) ∧ i < j ∧ Rd w' g s j ∧ R s i a .ahead = R s j (a.put f) .ahead ∧ w.grownBy w' (some g)) ∨
  (∃ p, e = fault p ∧ R s i a .ahead = .bad p ∧ w.grownBy w' (some g))
/-- A field in memory. -/
def Fb (W : World) (b : Nat) (f : Fd) : Prop := W.heap[b]? = some (.cells #[.string (strOfNums f.w), .bool f.o, .string (strOfNums f.v)] 54 (0, 0))
variable {b : Nat} {f : Fd}
theorem Fb.lt (h : Fb w b f) : b < w.heap.size := (Array.getElem?_eq_some_iff.1 h).1
theorem Fb.c0 (h : Fb w b f) : w.cell? ⟨b, 0, none⟩ = some (.string (strOfNums f.w)) := by simp [World.cell?, show w.heap[b]? = _ from h]
theorem Fb.c1 (h : Fb w b f) : w.cell? ⟨b, 1, none⟩ = some (.bool f.o) := by simp [World.cell?, show w.heap[b]? = _ from h]
theorem Fb.c2 (h : Fb w b f) : w.cell? ⟨b, 2, none⟩ = some (.string (strOfNums f.v)) := by simp [World.cell?, show w.heap[b]? = _ from h]
theorem Fb.f0 (h : Fb w b f) : w.frozen? ⟨b, 0, none⟩ = false := by simp [World.frozen?, show w.heap[b]? = _ from h]
theorem Fb.f1 (h : Fb w b f) : w.frozen? ⟨b, 1, none⟩ = false := by simp [World.frozen?, show w.heap[b]? = _ from h]
theorem Fb.f2 (h : Fb w b f) : w.frozen? ⟨b, 2, none⟩ = false := by simp [World.frozen?, show w.heap[b]? = _ from h]
theorem Fb.kept {row : Option Nat} (h : Fb w b f) (hg : w.grownBy w' row) (hne : some b ≠ row) : Fb w' b f := (hg.block b h.lt hne).trans h
theorem Fb.still (h : Fb w b f) (hg : w.grownBy w' none) : Fb w' b f := h.kept hg (by simp)
theorem Fb.new (w : World) (f : Fd) : Fb (w.alloc (.cells #[.string (strOfNums f.w), .bool f.o, .string (strOfNums f.v)] 54)) w.heap.size f := World.alloc_heap_new w _
theorem set_block {W : World} {b : Nat} {C : Array Value} {t : TypeId} {z : Nat × Nat} (h : W.heap[b]? = some (.cells C t z)) (k : Nat) (v : Value) : (W.setCell ⟨b, k, none⟩ v).heap[b]? = some (.cells (C.setIfInBounds k v) t z) := by
  obtain ⟨hlt, hk⟩ := Array.getElem?_eq_some_iff.1 h
  show (W.heap.modify b _)[b]? = _
  rw [Array.getElem?_eq_getElem (by rw [Array.size_modify]; exact hlt), Array.getElem_modify_self, hk]
  rfl
theorem Fb.set3 {f' : Fd} (h : Fb w b f) : Fb (((w.setCell ⟨b, 0, none⟩ (.string (strOfNums f'.w))).setCell ⟨b, 1, none⟩ (.bool f'.o)).setCell ⟨b, 2, none⟩ (.string (strOfNums f'.v))) b f' := by
  have h3 := set_block (set_block (set_block h 0 (.string (strOfNums f'.w))) 1 (.bool f'.o)) 2 (.string (strOfNums f'.v))
  simp only [List.setIfInBounds_toArray, List.set_cons_zero, List.set_cons_succ] at h3
  exact h3
theorem Fb.set2 {x y : Bool} {l u v : List Int} (h : Fb w b ⟨l, x, u⟩) : Fb ((w.setCell ⟨b, 1, none⟩ (.bool y)).setCell ⟨b, 2, none⟩ (.string (strOfNums v))) b ⟨l, y, v⟩ := by
  have h3 := set_block (set_block h 1 (.bool y)) 2 (.string (strOfNums v))
  simp only [List.setIfInBounds_toArray, List.set_cons_zero, List.set_cons_succ] at h3
  exact h3
theorem grown_set3 (w : World) (b : Nat) (x y z : Value) : w.grownBy (((w.setCell ⟨b, 0, none⟩ x).setCell ⟨b, 1, none⟩ y).setCell ⟨b, 2, none⟩ z) (some b) := ((grown_set _ _ _ _).trans (grown_set _ _ _ _)).trans (grown_set _ _ _ _)
theorem put0 {a : Acc} {l : List Int} (h : a.f = 0) : a.put ⟨l, false, []⟩ = { { a with f := a.f + 1 } with cmd := l } := by simp [Acc.put, h]
theorem putN {a : Acc} {l : List Int} (h : a.f ≠ 0) : a.put ⟨l, false, []⟩ = { { a with f := a.f + 1 } with name := l } := by simp [Acc.put, h]
theorem putO {a : Acc} {l v : List Int} (h : a.f ≠ 0) : a.put ⟨l, true, v⟩ = Acc.opt { a with f := a.f + 1 } l v := by simp [Acc.put, Acc.opt, h]
theorem over_command (a : Acc) (l : List Int) (hl : ¬ letter (nx s j)) : Over s j a (.command l) { a with cmd := l } :=
  ⟨rfl, fun c hc => by simp [step, hc], fun hj hb => R_none s j hj (by simp [step, hb, hl])⟩
theorem over_second (a : Acc) (l : List Int) (hl : ¬ letter (nx s j)) (hm : ¬ mark (nx s j)) (he : nx s j ≠ 61) : Over s j a (.second l) { a with name := l } :=
  ⟨rfl, fun c hc => by simp [step, hc], fun hj hb => R_none s j hj (by simp [step, hb, hl, hm, he])⟩
theorem over_named (a : Acc) (l : List Int) (hl : ¬ letter (nx s j)) (hm : ¬ mark (nx s j)) : Over s j a (.named l) { a with name := l } :=
  ⟨rfl, fun c hc => by simp [step, hc], fun hj hb => R_none s j hj (by simp [step, hb, hl, hm])⟩
theorem lets_ok (hj : j ≤ s.size) (hmo : s.size ≤ 4096) (w : World) : Calls Try.prog 31 #[.string (strOfNums (cut s i j))] w fun e w' => e = .returned (.bool (lets (cut s i j))) ∧ w.grownBy w' none := by
  have h := isLetters_ok (strOfNums (cut s i j)) (j - i) (by rw [strOfNums_size, cut_len s hj]; exact (rfl : _ = _)) (by omega) w
  rwa [← extract_eq, nums_extract, extract_eq] at h
theorem R_key_bad (a : Acc) (l : List Int) (hj : j ≤ s.size) (hl : ¬ letter (nx s j)) (he : nx s j ≠ 61) : R s j a (.key l) = .bad (j + 1) := R_stop s j hj (fun _ _ => by simp [step, he, hl]) (fun _ => rfl)
theorem R_equals (a : Acc) (st : St) (l : List Int) (hj : j ≤ s.size) (he : nx s j = 61) (hs : step a st 61 = some (a, .begun l)) : R s j a st = R s (j + 1) a (.begun l) := R_go s j (lt_of_fine hj (by rw [he]; decide)) (by rw [he]; decide) (by rw [he]; exact hs)
set_option maxHeartbeats 8000000 in
set_option maxRecDepth 100000 in
theorem field_ok (h : Rd w g s i) (a : Acc) (n : Nat) (hn : Hid (n = a.f)) (hn2 : n ≤ 4096) (hi : i < s.size) (hb : Hid (¬ blank (nx s i))) (h35 : Hid (nx s i ≠ 35)) : Calls Try.prog 25 #[.pointer (some ⟨g, 0, none⟩), .int .i64 (n : Nat)] w (FieldQ w g s i a) := by
  have hmo := h.most
  have hgl := h.lt
  have hle := h.le
  by_cases h0 : n = 0
  · subst h0
    have H00 : Hid (a.f = 0) := hn.out.symm
    go_enter Try.func25, Try.ntmps25
    go_wp2_with (go_at_call 30; refine (word_ok (h.still (World.grownBy_alloc w _ none)) a false (by rw [H00.out]; rfl) hi hb h35).mono ?_)
    rintro e w1 (⟨j, rfl, hij, k1, hR1, hnl, hnm, hls, g1⟩ | ⟨p, rfl, hR1, g1⟩)
    · have hR2 : Hid (R s i a .ahead = R s j { a with f := a.f + 1 } (.command (cut s i j))) := by rw [hR1, H00.out]; rfl
      have hO : Hid (Over s j { a with f := a.f + 1 } (.command (cut s i j)) { { a with f := a.f + 1 } with cmd := cut s i j }) := over_command _ _ hnl
      clear hR1 hnl hnm hls
      have K : Rd (w1.alloc (.cells #[.string (strOfNums (cut s i j)), .bool false, .string ⟨#[]⟩] 54)) g s j := k1.still (World.grownBy_alloc w1 _ none)
      have F1 : Fb (w1.alloc (.cells #[.string (strOfNums (cut s i j)), .bool false, .string ⟨#[]⟩] 54)) w1.heap.size ⟨cut s i j, false, []⟩ := Fb.new w1 ⟨cut s i j, false, []⟩
      have F0 : Fb (w1.alloc (.cells #[.string (strOfNums (cut s i j)), .bool false, .string ⟨#[]⟩] 54)) w.heap.size ⟨[], false, []⟩ := ((Fb.new w ⟨[], false, []⟩).kept g1 (fun e => by cases e; omega)).still (World.grownBy_alloc w1 _ none)
      have G1 : w.grownBy (w1.alloc (.cells #[.string (strOfNums (cut s i j)), .bool false, .string ⟨#[]⟩] 54)) (some g) := ((World.grownBy_alloc w _ _).trans g1).trans (World.grownBy_alloc w1 _ _)
      have hw1 := g1.size
      simp only [World.size_alloc] at hw1
      have hjle := (K).le
      obtain ⟨c, hc⟩ : ∃ c, nx s j = c := ⟨_, rfl⟩
      by_cases he : j = s.size
      · have hR9 : R s i a .ahead = R s j (a.put ⟨cut s i j, false, []⟩) .ahead := by rw [put0 H00.out]; exact (hR2.out).trans ((hO.out).good hjle (.inl he))
        have HE : Hid (j = s.size) := he
        clear he
        go_wp2_with (go_at_call 24; refine (ended_ok (K)).mono ?_; rintro e w4 ⟨rfl, g4⟩; have K4 := (K).still g4; have F14 := (F1).still g4; have F04 := (F0).still g4; have K5 := K4; have x0 := F14.c0; have x1 := F14.c1; have x2 := F14.c2; have y0 := F04.f0; have y1 := F04.f1; have y2 := F04.f2; have z0 := F04.c0; have z1 := F04.c1; have z2 := F04.c2; rw [show decide (j = s.size) = true from decide_eq_true HE.out])
        have FF := F04.set3 (f' := ⟨cut s i j, false, []⟩)
        refine bodyPost_ret (results_cell_row Try.results25 _ _ w.heap.size 54 _ (0, 0) _ rfl FF Try.underlying54 rfl (by kernel_rfl)) rfl ?_
        exact .inl ⟨⟨cut s i j, false, []⟩, j, rfl, by omega, (K5.kept (grown_set3 w4 w.heap.size _ _ _) (fun e => by cases e; omega)), hR9, ((G1).trans (g4.but _)).andThen (grown_set3 w4 w.heap.size _ _ _) (fun q e => by cases e; exact .inl (Nat.le_refl _))⟩
      · have he2 : decide (j = s.size) = false := decide_eq_false he
        have HE : Hid (¬ j = s.size) := he
        clear he
        by_cases h32 : c = 32
        · have hR9 : R s i a .ahead = R s j (a.put ⟨cut s i j, false, []⟩) .ahead := by rw [put0 H00.out]; exact (hR2.out).trans ((hO.out).good hjle (.inr (by rw [hc, h32]; decide)))
          subst h32
          go_wp2_with (first
            | (go_at_call 24; refine (ended_ok (K)).mono ?_; rintro e w4 ⟨rfl, g4⟩; have K4 := (K).still g4; have F14 := (F1).still g4; have F04 := (F0).still g4; rw [he2])
            | (go_at_call 27; refine (next_ok K4).mono ?_; rintro e w5 ⟨rfl, g5⟩; have K5 := K4.still g5; have F15 := F14.still g5; have F05 := F04.still g5; clear K4 F14 F04; have F14 := F15; have F04 := F05; have x0 := F14.c0; have x1 := F14.c1; have x2 := F14.c2; have y0 := F04.f0; have y1 := F04.f1; have y2 := F04.f2; have z0 := F04.c0; have z1 := F04.c1; have z2 := F04.c2; simp only [hc]))
          have FF := F04.set3 (f' := ⟨cut s i j, false, []⟩)
          refine bodyPost_ret (results_cell_row Try.results25 _ _ w.heap.size 54 _ (0, 0) _ rfl FF Try.underlying54 rfl (by kernel_rfl)) rfl ?_
          exact .inl ⟨⟨cut s i j, false, []⟩, j, rfl, by omega, (K5.kept (grown_set3 w5 w.heap.size _ _ _) (fun e => by cases e; omega)), hR9, ((G1).trans ((g4.trans g5).but _)).andThen (grown_set3 w5 w.heap.size _ _ _) (fun q e => by cases e; exact .inl (Nat.le_refl _))⟩
        · by_cases h9 : c = 9
          · have hR9 : R s i a .ahead = R s j (a.put ⟨cut s i j, false, []⟩) .ahead := by rw [put0 H00.out]; exact (hR2.out).trans ((hO.out).good hjle (.inr (by rw [hc, h9]; decide)))
            subst h9
            go_wp2_with (first
              | (go_at_call 24; refine (ended_ok (K)).mono ?_; rintro e w4 ⟨rfl, g4⟩; have K4 := (K).still g4; have F14 := (F1).still g4; have F04 := (F0).still g4; rw [he2])
              | (go_at_call 27; refine (next_ok K4).mono ?_; rintro e w5 ⟨rfl, g5⟩; have K5 := K4.still g5; have F15 := F14.still g5; have F05 := F04.still g5; clear K4 F14 F04; have F14 := F15; have F04 := F05; have x0 := F14.c0; have x1 := F14.c1; have x2 := F14.c2; have y0 := F04.f0; have y1 := F04.f1; have y2 := F04.f2; have z0 := F04.c0; have z1 := F04.c1; have z2 := F04.c2; simp only [hc])
              | (go_at_call 27; refine (next_ok K5).mono ?_; rintro e w6 ⟨rfl, g6⟩; have K6 := K5.still g6; have F16 := F14.still g6; have F06 := F04.still g6; clear K5 F14 F04 x0 x1 x2 y0 y1 y2 z0 z1 z2; have K5 := K6; have F14 := F16; have F04 := F06; have x0 := F14.c0; have x1 := F14.c1; have x2 := F14.c2; have y0 := F04.f0; have y1 := F04.f1; have y2 := F04.f2; have z0 := F04.c0; have z1 := F04.c1; have z2 := F04.c2; simp only [hc]))
            have FF := F04.set3 (f' := ⟨cut s i j, false, []⟩)
            refine bodyPost_ret (results_cell_row Try.results25 _ _ w.heap.size 54 _ (0, 0) _ rfl FF Try.underlying54 rfl (by kernel_rfl)) rfl ?_
            exact .inl ⟨⟨cut s i j, false, []⟩, j, rfl, by omega, (K5.kept (grown_set3 w6 w.heap.size _ _ _) (fun e => by cases e; omega)), hR9, ((G1).trans (((g4.trans g5).trans g6).but _)).andThen (grown_set3 w6 w.heap.size _ _ _) (fun q e => by cases e; exact .inl (Nat.le_refl _))⟩
          · have hR9 : R s i a .ahead = .bad (j + 1) := (hR2.out).trans ((hO.out).bad (by have := HE.out; omega) (by rw [hc]; unfold blank; omega))
            have m32 : (c != 32) = true := by simpa using h32
            have m9 : (c != 9) = true := by simpa using h9
            go_wp2_with (first
              | (go_at_call 24; refine (ended_ok (K)).mono ?_; rintro e w4 ⟨rfl, g4⟩; have K4 := (K).still g4; have F14 := (F1).still g4; have F04 := (F0).still g4; rw [he2])
              | (go_at_call 27; refine (next_ok K4).mono ?_; rintro e w5 ⟨rfl, g5⟩; have K5 := K4.still g5; have F15 := F14.still g5; have F05 := F04.still g5; clear K4 F14 F04; have F14 := F15; have F04 := F05; have x0 := F14.c0; have x1 := F14.c1; have x2 := F14.c2; have y0 := F04.f0; have y1 := F04.f1; have y2 := F04.f2; have z0 := F04.c0; have z1 := F04.c1; have z2 := F04.c2; simp only [hc])
              | (go_at_call 27; refine (next_ok K5).mono ?_; rintro e w6 ⟨rfl, g6⟩; have K6 := K5.still g6; have F16 := F14.still g6; have F06 := F04.still g6; clear K5 F14 F04 x0 x1 x2 y0 y1 y2 z0 z1 z2; have K5 := K6; have F14 := F16; have F04 := F06; have x0 := F14.c0; have x1 := F14.c1; have x2 := F14.c2; have y0 := F04.f0; have y1 := F04.f1; have y2 := F04.f2; have z0 := F04.c0; have z1 := F04.c1; have z2 := F04.c2; simp only [hc])
              | (go_at_call 29; refine (stop_ok K5).mono ?_; rintro e w7 ⟨rfl, rfl⟩))
            exact ⟨rfl, .inr ⟨_, rfl, hR9, (G1).trans (((g4.trans g5).trans g6).but _)⟩⟩
    · exact ⟨rfl, .inr ⟨p, rfl, hR1, (World.grownBy_alloc w _ _).trans g1⟩⟩
  · have HF0 : a.f ≠ 0 := by rw [← hn.out]; exact h0
    by_cases h1 : n = 1
    · subst h1
      have H1 : Hid (a.f = 1) := hn.out.symm
      have HNM : Hid (true = decide (a.f = 1)) := (decide_eq_true H1.out).symm
      go_enter Try.func25, Try.ntmps25
      go_wp2_with (go_at_call 30; refine (word_ok (h.still (World.grownBy_alloc w _ none)) a true HNM hi hb h35).mono ?_)
      rintro e w1 (⟨j, rfl, hij, k1, hR1, hnl, hnm, hls, g1⟩ | ⟨p, rfl, hR1, g1⟩)
      · have hnm2 := hnm H1.out
        clear hnm hls
        have K : Rd (w1.alloc (.cells #[.string (strOfNums (cut s i j)), .bool false, .string ⟨#[]⟩] 54)) g s j := k1.still (World.grownBy_alloc w1 _ none)
        have F1 : Fb (w1.alloc (.cells #[.string (strOfNums (cut s i j)), .bool false, .string ⟨#[]⟩] 54)) w1.heap.size ⟨cut s i j, false, []⟩ := Fb.new w1 ⟨cut s i j, false, []⟩
        have F0 : Fb (w1.alloc (.cells #[.string (strOfNums (cut s i j)), .bool false, .string ⟨#[]⟩] 54)) w.heap.size ⟨[], false, []⟩ := ((Fb.new w ⟨[], false, []⟩).kept g1 (fun e => by cases e; omega)).still (World.grownBy_alloc w1 _ none)
        have G1 : w.grownBy (w1.alloc (.cells #[.string (strOfNums (cut s i j)), .bool false, .string ⟨#[]⟩] 54)) (some g) := ((World.grownBy_alloc w _ _).trans g1).trans (World.grownBy_alloc w1 _ _)
        have hw1 := g1.size
        simp only [World.size_alloc] at hw1
        have x0 := F1.c0
        cases hl : lets (cut s i j) with
        | true =>
          have hR2' : R s i a .ahead = R s j { a with f := a.f + 1 } (.second (cut s i j)) := by rw [hR1, H1.out]; simp [wst, hl]
          have hR2 : Hid (R s i a .ahead = R s j { a with f := a.f + 1 } (.second (cut s i j))) := hR2'
          clear hR2'
          clear hR1
          by_cases h61 : nx s j = 61
          · have H61 : Hid (R s i a .ahead = R s (j + 1) { a with f := a.f + 1 } (.begun (cut s i j))) := hR2.out.trans (R_equals _ _ _ k1.le h61 (by simp [step, blank]))
            go_wp2_with (first
              | (go_at_call 31; refine (lets_ok k1.le hmo _).mono ?_; rintro e w2 ⟨rfl, g2⟩; rw [hl])
              | (go_at_call 26; refine (takes_yes (K.still g2) 61 h61 (by omega)).mono ?_; rintro e w3 ⟨rfl, k3, g3⟩)
              | (go_at_call 32; refine (value_ok k3 { a with f := a.f + 1 } (cut s i j)).mono ?_))
            rintro e w4 (⟨v, jj, st, rfl, hjj, k4, hR4, hO4, g4⟩ | ⟨p, rfl, hR4, g4⟩)
            · have F13 := ((F1.still g2).kept g3 (fun e => by cases e; omega)).kept g4 (fun e => by cases e; omega)
              have F03 := ((F0.still g2).kept g3 (fun e => by cases e; omega)).kept g4 (fun e => by cases e; omega)
              have G4 : w.grownBy w4 (some g) := ((G1.trans (g2.but _)).trans g3).trans g4
              have GS : w4.grownBy ((w4.setCell ⟨w1.heap.size, 1, none⟩ (.bool true)).setCell ⟨w1.heap.size, 2, none⟩ (.string (strOfNums v))) (some w1.heap.size) := (grown_set _ _ _ _).trans (grown_set _ _ _ _)
              have KK : Rd ((w4.setCell ⟨w1.heap.size, 1, none⟩ (.bool true)).setCell ⟨w1.heap.size, 2, none⟩ (.string (strOfNums v))) g s jj := k4.kept GS (fun e => by cases e; omega)
              have FK : Fb ((w4.setCell ⟨w1.heap.size, 1, none⟩ (.bool true)).setCell ⟨w1.heap.size, 2, none⟩ (.string (strOfNums v))) w1.heap.size ⟨cut s i j, true, v⟩ := F13.set2
              have FZ : Fb ((w4.setCell ⟨w1.heap.size, 1, none⟩ (.bool true)).setCell ⟨w1.heap.size, 2, none⟩ (.string (strOfNums v))) w.heap.size ⟨[], false, []⟩ := F03.kept GS (fun e => by have := Option.some.inj e; omega)
              have GG : w.grownBy ((w4.setCell ⟨w1.heap.size, 1, none⟩ (.bool true)).setCell ⟨w1.heap.size, 2, none⟩ (.string (strOfNums v))) (some g) := G4.andThen GS (fun q e => by cases e; exact .inl (by omega))
              have hR5 : Hid (R s i a .ahead = R s jj { a with f := a.f + 1 } st) := H61.out.trans hR4
              have hO5 : Hid (Over s jj { a with f := a.f + 1 } st (Acc.opt { a with f := a.f + 1 } (cut s i j) v)) := hO4
              have p1 := F13.f1
              have p2 := F13.f2
              have p3 := F13.c1
              have p4 := F13.c2
              clear hR2 H61 hR4 hO4 x0 K F1 F0 G1
              have hjle := (KK).le
              obtain ⟨c, hc⟩ : ∃ c, nx s jj = c := ⟨_, rfl⟩
              by_cases he : jj = s.size
              · have hR9 : R s i a .ahead = R s jj (a.put ⟨cut s i j, true, v⟩) .ahead := by rw [putO HF0]; exact (hR5.out).trans ((hO5.out).good hjle (.inl he))
                have HE : Hid (jj = s.size) := he
                clear he
                go_wp2_with (go_at_call 24; refine (ended_ok (KK)).mono ?_; rintro e w4 ⟨rfl, g4⟩; have K4 := (KK).still g4; have F14 := (FK).still g4; have F04 := (FZ).still g4; have K5 := K4; have x0 := F14.c0; have x1 := F14.c1; have x2 := F14.c2; have y0 := F04.f0; have y1 := F04.f1; have y2 := F04.f2; have z0 := F04.c0; have z1 := F04.c1; have z2 := F04.c2; rw [show decide (jj = s.size) = true from decide_eq_true HE.out])
                have FF := F04.set3 (f' := ⟨cut s i j, true, v⟩)
                refine bodyPost_ret (results_cell_row Try.results25 _ _ w.heap.size 54 _ (0, 0) _ rfl FF Try.underlying54 rfl (by kernel_rfl)) rfl ?_
                exact .inl ⟨⟨cut s i j, true, v⟩, jj, rfl, by omega, (K5.kept (grown_set3 w4 w.heap.size _ _ _) (fun e => by cases e; omega)), hR9, ((GG).trans (g4.but _)).andThen (grown_set3 w4 w.heap.size _ _ _) (fun q e => by cases e; exact .inl (Nat.le_refl _))⟩
              · have he2 : decide (jj = s.size) = false := decide_eq_false he
                have HE : Hid (¬ jj = s.size) := he
                clear he
                by_cases h32 : c = 32
                · have hR9 : R s i a .ahead = R s jj (a.put ⟨cut s i j, true, v⟩) .ahead := by rw [putO HF0]; exact (hR5.out).trans ((hO5.out).good hjle (.inr (by rw [hc, h32]; decide)))
                  subst h32
                  go_wp2_with (first
                    | (go_at_call 24; refine (ended_ok (KK)).mono ?_; rintro e w4 ⟨rfl, g4⟩; have K4 := (KK).still g4; have F14 := (FK).still g4; have F04 := (FZ).still g4; rw [he2])
                    | (go_at_call 27; refine (next_ok K4).mono ?_; rintro e w5 ⟨rfl, g5⟩; have K5 := K4.still g5; have F15 := F14.still g5; have F05 := F04.still g5; clear K4 F14 F04; have F14 := F15; have F04 := F05; have x0 := F14.c0; have x1 := F14.c1; have x2 := F14.c2; have y0 := F04.f0; have y1 := F04.f1; have y2 := F04.f2; have z0 := F04.c0; have z1 := F04.c1; have z2 := F04.c2; simp only [hc]))
                  have FF := F04.set3 (f' := ⟨cut s i j, true, v⟩)
                  refine bodyPost_ret (results_cell_row Try.results25 _ _ w.heap.size 54 _ (0, 0) _ rfl FF Try.underlying54 rfl (by kernel_rfl)) rfl ?_
                  exact .inl ⟨⟨cut s i j, true, v⟩, jj, rfl, by omega, (K5.kept (grown_set3 w5 w.heap.size _ _ _) (fun e => by cases e; omega)), hR9, ((GG).trans ((g4.trans g5).but _)).andThen (grown_set3 w5 w.heap.size _ _ _) (fun q e => by cases e; exact .inl (Nat.le_refl _))⟩
                · by_cases h9 : c = 9
                  · have hR9 : R s i a .ahead = R s jj (a.put ⟨cut s i j, true, v⟩) .ahead := by rw [putO HF0]; exact (hR5.out).trans ((hO5.out).good hjle (.inr (by rw [hc, h9]; decide)))
                    subst h9
                    go_wp2_with (first
                      | (go_at_call 24; refine (ended_ok (KK)).mono ?_; rintro e w4 ⟨rfl, g4⟩; have K4 := (KK).still g4; have F14 := (FK).still g4; have F04 := (FZ).still g4; rw [he2])
                      | (go_at_call 27; refine (next_ok K4).mono ?_; rintro e w5 ⟨rfl, g5⟩; have K5 := K4.still g5; have F15 := F14.still g5; have F05 := F04.still g5; clear K4 F14 F04; have F14 := F15; have F04 := F05; have x0 := F14.c0; have x1 := F14.c1; have x2 := F14.c2; have y0 := F04.f0; have y1 := F04.f1; have y2 := F04.f2; have z0 := F04.c0; have z1 := F04.c1; have z2 := F04.c2; simp only [hc])
                      | (go_at_call 27; refine (next_ok K5).mono ?_; rintro e w6 ⟨rfl, g6⟩; have K6 := K5.still g6; have F16 := F14.still g6; have F06 := F04.still g6; clear K5 F14 F04 x0 x1 x2 y0 y1 y2 z0 z1 z2; have K5 := K6; have F14 := F16; have F04 := F06; have x0 := F14.c0; have x1 := F14.c1; have x2 := F14.c2; have y0 := F04.f0; have y1 := F04.f1; have y2 := F04.f2; have z0 := F04.c0; have z1 := F04.c1; have z2 := F04.c2; simp only [hc]))
                    have FF := F04.set3 (f' := ⟨cut s i j, true, v⟩)
                    refine bodyPost_ret (results_cell_row Try.results25 _ _ w.heap.size 54 _ (0, 0) _ rfl FF Try.underlying54 rfl (by kernel_rfl)) rfl ?_
                    exact .inl ⟨⟨cut s i j, true, v⟩, jj, rfl, by omega, (K5.kept (grown_set3 w6 w.heap.size _ _ _) (fun e => by cases e; omega)), hR9, ((GG).trans (((g4.trans g5).trans g6).but _)).andThen (grown_set3 w6 w.heap.size _ _ _) (fun q e => by cases e; exact .inl (Nat.le_refl _))⟩
                  · have hR9 : R s i a .ahead = .bad (jj + 1) := (hR5.out).trans ((hO5.out).bad (by have := HE.out; omega) (by rw [hc]; unfold blank; omega))
                    have m32 : (c != 32) = true := by simpa using h32
                    have m9 : (c != 9) = true := by simpa using h9
                    go_wp2_with (first
                      | (go_at_call 24; refine (ended_ok (KK)).mono ?_; rintro e w4 ⟨rfl, g4⟩; have K4 := (KK).still g4; have F14 := (FK).still g4; have F04 := (FZ).still g4; rw [he2])
                      | (go_at_call 27; refine (next_ok K4).mono ?_; rintro e w5 ⟨rfl, g5⟩; have K5 := K4.still g5; have F15 := F14.still g5; have F05 := F04.still g5; clear K4 F14 F04; have F14 := F15; have F04 := F05; have x0 := F14.c0; have x1 := F14.c1; have x2 := F14.c2; have y0 := F04.f0; have y1 := F04.f1; have y2 := F04.f2; have z0 := F04.c0; have z1 := F04.c1; have z2 := F04.c2; simp only [hc])
                      | (go_at_call 27; refine (next_ok K5).mono ?_; rintro e w6 ⟨rfl, g6⟩; have K6 := K5.still g6; have F16 := F14.still g6; have F06 := F04.still g6; clear K5 F14 F04 x0 x1 x2 y0 y1 y2 z0 z1 z2; have K5 := K6; have F14 := F16; have F04 := F06; have x0 := F14.c0; have x1 := F14.c1; have x2 := F14.c2; have y0 := F04.f0; have y1 := F04.f1; have y2 := F04.f2; have z0 := F04.c0; have z1 := F04.c1; have z2 := F04.c2; simp only [hc])
                      | (go_at_call 29; refine (stop_ok K5).mono ?_; rintro e w7 ⟨rfl, rfl⟩))
                    exact ⟨rfl, .inr ⟨_, rfl, hR9, (GG).trans (((g4.trans g5).trans g6).but _)⟩⟩
            · exact ⟨rfl, .inr ⟨p, rfl, H61.out.trans hR4, ((G1.trans (g2.but _)).trans g3).trans g4⟩⟩
          · have hO : Hid (Over s j { a with f := a.f + 1 } (.second (cut s i j)) { { a with f := a.f + 1 } with name := cut s i j }) := over_second _ _ hnl hnm2 h61
            clear hnl hnm2
            go_wp2_with (first
              | (go_at_call 31; refine (lets_ok k1.le hmo _).mono ?_; rintro e w2 ⟨rfl, g2⟩; rw [hl])
              | (go_at_call 26; refine (takes_no (K.still g2) 61 h61).mono ?_; rintro e w3 ⟨rfl, g3⟩))
            have KK := K.still (g2.trans g3)
            have FK := F1.still (g2.trans g3)
            have FZ := F0.still (g2.trans g3)
            have GG := G1.trans ((g2.trans g3).but _)
            clear x0 K F1 F0 G1
            have hjle := (KK).le
            obtain ⟨c, hc⟩ : ∃ c, nx s j = c := ⟨_, rfl⟩
            by_cases he : j = s.size
            · have hR9 : R s i a .ahead = R s j (a.put ⟨cut s i j, false, []⟩) .ahead := by rw [putN HF0]; exact (hR2.out).trans ((hO.out).good hjle (.inl he))
              have HE : Hid (j = s.size) := he
              clear he
              go_wp2_with (go_at_call 24; refine (ended_ok (KK)).mono ?_; rintro e w4 ⟨rfl, g4⟩; have K4 := (KK).still g4; have F14 := (FK).still g4; have F04 := (FZ).still g4; have K5 := K4; have x0 := F14.c0; have x1 := F14.c1; have x2 := F14.c2; have y0 := F04.f0; have y1 := F04.f1; have y2 := F04.f2; have z0 := F04.c0; have z1 := F04.c1; have z2 := F04.c2; rw [show decide (j = s.size) = true from decide_eq_true HE.out])
              have FF := F04.set3 (f' := ⟨cut s i j, false, []⟩)
              refine bodyPost_ret (results_cell_row Try.results25 _ _ w.heap.size 54 _ (0, 0) _ rfl FF Try.underlying54 rfl (by kernel_rfl)) rfl ?_
              exact .inl ⟨⟨cut s i j, false, []⟩, j, rfl, by omega, (K5.kept (grown_set3 w4 w.heap.size _ _ _) (fun e => by cases e; omega)), hR9, ((GG).trans (g4.but _)).andThen (grown_set3 w4 w.heap.size _ _ _) (fun q e => by cases e; exact .inl (Nat.le_refl _))⟩
            · have he2 : decide (j = s.size) = false := decide_eq_false he
              have HE : Hid (¬ j = s.size) := he
              clear he
              by_cases h32 : c = 32
              · have hR9 : R s i a .ahead = R s j (a.put ⟨cut s i j, false, []⟩) .ahead := by rw [putN HF0]; exact (hR2.out).trans ((hO.out).good hjle (.inr (by rw [hc, h32]; decide)))
                subst h32
                go_wp2_with (first
                  | (go_at_call 24; refine (ended_ok (KK)).mono ?_; rintro e w4 ⟨rfl, g4⟩; have K4 := (KK).still g4; have F14 := (FK).still g4; have F04 := (FZ).still g4; rw [he2])
                  | (go_at_call 27; refine (next_ok K4).mono ?_; rintro e w5 ⟨rfl, g5⟩; have K5 := K4.still g5; have F15 := F14.still g5; have F05 := F04.still g5; clear K4 F14 F04; have F14 := F15; have F04 := F05; have x0 := F14.c0; have x1 := F14.c1; have x2 := F14.c2; have y0 := F04.f0; have y1 := F04.f1; have y2 := F04.f2; have z0 := F04.c0; have z1 := F04.c1; have z2 := F04.c2; simp only [hc]))
                have FF := F04.set3 (f' := ⟨cut s i j, false, []⟩)
                refine bodyPost_ret (results_cell_row Try.results25 _ _ w.heap.size 54 _ (0, 0) _ rfl FF Try.underlying54 rfl (by kernel_rfl)) rfl ?_
                exact .inl ⟨⟨cut s i j, false, []⟩, j, rfl, by omega, (K5.kept (grown_set3 w5 w.heap.size _ _ _) (fun e => by cases e; omega)), hR9, ((GG).trans ((g4.trans g5).but _)).andThen (grown_set3 w5 w.heap.size _ _ _) (fun q e => by cases e; exact .inl (Nat.le_refl _))⟩
              · by_cases h9 : c = 9
                · have hR9 : R s i a .ahead = R s j (a.put ⟨cut s i j, false, []⟩) .ahead := by rw [putN HF0]; exact (hR2.out).trans ((hO.out).good hjle (.inr (by rw [hc, h9]; decide)))
                  subst h9
                  go_wp2_with (first
                    | (go_at_call 24; refine (ended_ok (KK)).mono ?_; rintro e w4 ⟨rfl, g4⟩; have K4 := (KK).still g4; have F14 := (FK).still g4; have F04 := (FZ).still g4; rw [he2])
                    | (go_at_call 27; refine (next_ok K4).mono ?_; rintro e w5 ⟨rfl, g5⟩; have K5 := K4.still g5; have F15 := F14.still g5; have F05 := F04.still g5; clear K4 F14 F04; have F14 := F15; have F04 := F05; have x0 := F14.c0; have x1 := F14.c1; have x2 := F14.c2; have y0 := F04.f0; have y1 := F04.f1; have y2 := F04.f2; have z0 := F04.c0; have z1 := F04.c1; have z2 := F04.c2; simp only [hc])
                    | (go_at_call 27; refine (next_ok K5).mono ?_; rintro e w6 ⟨rfl, g6⟩; have K6 := K5.still g6; have F16 := F14.still g6; have F06 := F04.still g6; clear K5 F14 F04 x0 x1 x2 y0 y1 y2 z0 z1 z2; have K5 := K6; have F14 := F16; have F04 := F06; have x0 := F14.c0; have x1 := F14.c1; have x2 := F14.c2; have y0 := F04.f0; have y1 := F04.f1; have y2 := F04.f2; have z0 := F04.c0; have z1 := F04.c1; have z2 := F04.c2; simp only [hc]))
                  have FF := F04.set3 (f' := ⟨cut s i j, false, []⟩)
                  refine bodyPost_ret (results_cell_row Try.results25 _ _ w.heap.size 54 _ (0, 0) _ rfl FF Try.underlying54 rfl (by kernel_rfl)) rfl ?_
                  exact .inl ⟨⟨cut s i j, false, []⟩, j, rfl, by omega, (K5.kept (grown_set3 w6 w.heap.size _ _ _) (fun e => by cases e; omega)), hR9, ((GG).trans (((g4.trans g5).trans g6).but _)).andThen (grown_set3 w6 w.heap.size _ _ _) (fun q e => by cases e; exact .inl (Nat.le_refl _))⟩
                · have hR9 : R s i a .ahead = .bad (j + 1) := (hR2.out).trans ((hO.out).bad (by have := HE.out; omega) (by rw [hc]; unfold blank; omega))
                  have m32 : (c != 32) = true := by simpa using h32
                  have m9 : (c != 9) = true := by simpa using h9
                  go_wp2_with (first
                    | (go_at_call 24; refine (ended_ok (KK)).mono ?_; rintro e w4 ⟨rfl, g4⟩; have K4 := (KK).still g4; have F14 := (FK).still g4; have F04 := (FZ).still g4; rw [he2])
                    | (go_at_call 27; refine (next_ok K4).mono ?_; rintro e w5 ⟨rfl, g5⟩; have K5 := K4.still g5; have F15 := F14.still g5; have F05 := F04.still g5; clear K4 F14 F04; have F14 := F15; have F04 := F05; have x0 := F14.c0; have x1 := F14.c1; have x2 := F14.c2; have y0 := F04.f0; have y1 := F04.f1; have y2 := F04.f2; have z0 := F04.c0; have z1 := F04.c1; have z2 := F04.c2; simp only [hc])
                    | (go_at_call 27; refine (next_ok K5).mono ?_; rintro e w6 ⟨rfl, g6⟩; have K6 := K5.still g6; have F16 := F14.still g6; have F06 := F04.still g6; clear K5 F14 F04 x0 x1 x2 y0 y1 y2 z0 z1 z2; have K5 := K6; have F14 := F16; have F04 := F06; have x0 := F14.c0; have x1 := F14.c1; have x2 := F14.c2; have y0 := F04.f0; have y1 := F04.f1; have y2 := F04.f2; have z0 := F04.c0; have z1 := F04.c1; have z2 := F04.c2; simp only [hc])
                    | (go_at_call 29; refine (stop_ok K5).mono ?_; rintro e w7 ⟨rfl, rfl⟩))
                  exact ⟨rfl, .inr ⟨_, rfl, hR9, (GG).trans (((g4.trans g5).trans g6).but _)⟩⟩
        | false =>
          have hR2' : R s i a .ahead = R s j { a with f := a.f + 1 } (.named (cut s i j)) := by rw [hR1, H1.out]; simp [wst, hl]
          have hR2 : Hid (R s i a .ahead = R s j { a with f := a.f + 1 } (.named (cut s i j))) := hR2'
          clear hR2'
          clear hR1
          have hO : Hid (Over s j { a with f := a.f + 1 } (.named (cut s i j)) { { a with f := a.f + 1 } with name := cut s i j }) := over_named _ _ hnl hnm2
          clear hnl hnm2
          go_wp2_with (go_at_call 31; refine (lets_ok k1.le hmo _).mono ?_; rintro e w2 ⟨rfl, g2⟩; rw [hl])
          have KK := K.still (g2)
          have FK := F1.still (g2)
          have FZ := F0.still (g2)
          have GG := G1.trans ((g2).but _)
          clear x0 K F1 F0 G1
          have hjle := (KK).le
          obtain ⟨c, hc⟩ : ∃ c, nx s j = c := ⟨_, rfl⟩
          by_cases he : j = s.size
          · have hR9 : R s i a .ahead = R s j (a.put ⟨cut s i j, false, []⟩) .ahead := by rw [putN HF0]; exact (hR2.out).trans ((hO.out).good hjle (.inl he))
            have HE : Hid (j = s.size) := he
            clear he
            go_wp2_with (go_at_call 24; refine (ended_ok (KK)).mono ?_; rintro e w4 ⟨rfl, g4⟩; have K4 := (KK).still g4; have F14 := (FK).still g4; have F04 := (FZ).still g4; have K5 := K4; have x0 := F14.c0; have x1 := F14.c1; have x2 := F14.c2; have y0 := F04.f0; have y1 := F04.f1; have y2 := F04.f2; have z0 := F04.c0; have z1 := F04.c1; have z2 := F04.c2; rw [show decide (j = s.size) = true from decide_eq_true HE.out])
            have FF := F04.set3 (f' := ⟨cut s i j, false, []⟩)
            refine bodyPost_ret (results_cell_row Try.results25 _ _ w.heap.size 54 _ (0, 0) _ rfl FF Try.underlying54 rfl (by kernel_rfl)) rfl ?_
            exact .inl ⟨⟨cut s i j, false, []⟩, j, rfl, by omega, (K5.kept (grown_set3 w4 w.heap.size _ _ _) (fun e => by cases e; omega)), hR9, ((GG).trans (g4.but _)).andThen (grown_set3 w4 w.heap.size _ _ _) (fun q e => by cases e; exact .inl (Nat.le_refl _))⟩
          · have he2 : decide (j = s.size) = false := decide_eq_false he
            have HE : Hid (¬ j = s.size) := he
            clear he
            by_cases h32 : c = 32
            · have hR9 : R s i a .ahead = R s j (a.put ⟨cut s i j, false, []⟩) .ahead := by rw [putN HF0]; exact (hR2.out).trans ((hO.out).good hjle (.inr (by rw [hc, h32]; decide)))
              subst h32
              go_wp2_with (first
                | (go_at_call 24; refine (ended_ok (KK)).mono ?_; rintro e w4 ⟨rfl, g4⟩; have K4 := (KK).still g4; have F14 := (FK).still g4; have F04 := (FZ).still g4; rw [he2])
                | (go_at_call 27; refine (next_ok K4).mono ?_; rintro e w5 ⟨rfl, g5⟩; have K5 := K4.still g5; have F15 := F14.still g5; have F05 := F04.still g5; clear K4 F14 F04; have F14 := F15; have F04 := F05; have x0 := F14.c0; have x1 := F14.c1; have x2 := F14.c2; have y0 := F04.f0; have y1 := F04.f1; have y2 := F04.f2; have z0 := F04.c0; have z1 := F04.c1; have z2 := F04.c2; simp only [hc]))
              have FF := F04.set3 (f' := ⟨cut s i j, false, []⟩)
              refine bodyPost_ret (results_cell_row Try.results25 _ _ w.heap.size 54 _ (0, 0) _ rfl FF Try.underlying54 rfl (by kernel_rfl)) rfl ?_
              exact .inl ⟨⟨cut s i j, false, []⟩, j, rfl, by omega, (K5.kept (grown_set3 w5 w.heap.size _ _ _) (fun e => by cases e; omega)), hR9, ((GG).trans ((g4.trans g5).but _)).andThen (grown_set3 w5 w.heap.size _ _ _) (fun q e => by cases e; exact .inl (Nat.le_refl _))⟩
            · by_cases h9 : c = 9
              · have hR9 : R s i a .ahead = R s j (a.put ⟨cut s i j, false, []⟩) .ahead := by rw [putN HF0]; exact (hR2.out).trans ((hO.out).good hjle (.inr (by rw [hc, h9]; decide)))
                subst h9
                go_wp2_with (first
                  | (go_at_call 24; refine (ended_ok (KK)).mono ?_; rintro e w4 ⟨rfl, g4⟩; have K4 := (KK).still g4; have F14 := (FK).still g4; have F04 := (FZ).still g4; rw [he2])
                  | (go_at_call 27; refine (next_ok K4).mono ?_; rintro e w5 ⟨rfl, g5⟩; have K5 := K4.still g5; have F15 := F14.still g5; have F05 := F04.still g5; clear K4 F14 F04; have F14 := F15; have F04 := F05; have x0 := F14.c0; have x1 := F14.c1; have x2 := F14.c2; have y0 := F04.f0; have y1 := F04.f1; have y2 := F04.f2; have z0 := F04.c0; have z1 := F04.c1; have z2 := F04.c2; simp only [hc])
                  | (go_at_call 27; refine (next_ok K5).mono ?_; rintro e w6 ⟨rfl, g6⟩; have K6 := K5.still g6; have F16 := F14.still g6; have F06 := F04.still g6; clear K5 F14 F04 x0 x1 x2 y0 y1 y2 z0 z1 z2; have K5 := K6; have F14 := F16; have F04 := F06; have x0 := F14.c0; have x1 := F14.c1; have x2 := F14.c2; have y0 := F04.f0; have y1 := F04.f1; have y2 := F04.f2; have z0 := F04.c0; have z1 := F04.c1; have z2 := F04.c2; simp only [hc]))
                have FF := F04.set3 (f' := ⟨cut s i j, false, []⟩)
                refine bodyPost_ret (results_cell_row Try.results25 _ _ w.heap.size 54 _ (0, 0) _ rfl FF Try.underlying54 rfl (by kernel_rfl)) rfl ?_
                exact .inl ⟨⟨cut s i j, false, []⟩, j, rfl, by omega, (K5.kept (grown_set3 w6 w.heap.size _ _ _) (fun e => by cases e; omega)), hR9, ((GG).trans (((g4.trans g5).trans g6).but _)).andThen (grown_set3 w6 w.heap.size _ _ _) (fun q e => by cases e; exact .inl (Nat.le_refl _))⟩
              · have hR9 : R s i a .ahead = .bad (j + 1) := (hR2.out).trans ((hO.out).bad (by have := HE.out; omega) (by rw [hc]; unfold blank; omega))
                have m32 : (c != 32) = true := by simpa using h32
                have m9 : (c != 9) = true := by simpa using h9
                go_wp2_with (first
                  | (go_at_call 24; refine (ended_ok (KK)).mono ?_; rintro e w4 ⟨rfl, g4⟩; have K4 := (KK).still g4; have F14 := (FK).still g4; have F04 := (FZ).still g4; rw [he2])
                  | (go_at_call 27; refine (next_ok K4).mono ?_; rintro e w5 ⟨rfl, g5⟩; have K5 := K4.still g5; have F15 := F14.still g5; have F05 := F04.still g5; clear K4 F14 F04; have F14 := F15; have F04 := F05; have x0 := F14.c0; have x1 := F14.c1; have x2 := F14.c2; have y0 := F04.f0; have y1 := F04.f1; have y2 := F04.f2; have z0 := F04.c0; have z1 := F04.c1; have z2 := F04.c2; simp only [hc])
                  | (go_at_call 27; refine (next_ok K5).mono ?_; rintro e w6 ⟨rfl, g6⟩; have K6 := K5.still g6; have F16 := F14.still g6; have F06 := F04.still g6; clear K5 F14 F04 x0 x1 x2 y0 y1 y2 z0 z1 z2; have K5 := K6; have F14 := F16; have F04 := F06; have x0 := F14.c0; have x1 := F14.c1; have x2 := F14.c2; have y0 := F04.f0; have y1 := F04.f1; have y2 := F04.f2; have z0 := F04.c0; have z1 := F04.c1; have z2 := F04.c2; simp only [hc])
                  | (go_at_call 29; refine (stop_ok K5).mono ?_; rintro e w7 ⟨rfl, rfl⟩))
                exact ⟨rfl, .inr ⟨_, rfl, hR9, (GG).trans (((g4.trans g5).trans g6).but _)⟩⟩
      · exact ⟨rfl, .inr ⟨p, rfl, hR1, (World.grownBy_alloc w _ _).trans g1⟩⟩
    · have q1 : ((n : Int) == 1) = false := by rw [beq_eq_false_iff_ne]; omega
      have q2 : decide ((0 : Int) < (n : Int)) = true := by simp; omega
      have q3 : decide ((1 : Int) < (n : Int)) = true := by simp; omega
      have H1 : Hid (a.f ≠ 1) := by rw [← hn.out]; exact (h1 : _)
      have HNM : Hid (false = decide (a.f = 1)) := (decide_eq_false H1.out).symm
      go_enter Try.func25, Try.ntmps25
      go_wp2_with (go_at_call 30; refine (word_ok (h.still (World.grownBy_alloc w _ none)) a false HNM hi hb h35).mono ?_)
      rintro e w1 (⟨j, rfl, hij, k1, hR1, hnl, hnm, hls, g1⟩ | ⟨p, rfl, hR1, g1⟩)
      · have hl := hls H1.out
        clear hnm hls
        have K : Rd (w1.alloc (.cells #[.string (strOfNums (cut s i j)), .bool false, .string ⟨#[]⟩] 54)) g s j := k1.still (World.grownBy_alloc w1 _ none)
        have F1 : Fb (w1.alloc (.cells #[.string (strOfNums (cut s i j)), .bool false, .string ⟨#[]⟩] 54)) w1.heap.size ⟨cut s i j, false, []⟩ := Fb.new w1 ⟨cut s i j, false, []⟩
        have F0 : Fb (w1.alloc (.cells #[.string (strOfNums (cut s i j)), .bool false, .string ⟨#[]⟩] 54)) w.heap.size ⟨[], false, []⟩ := ((Fb.new w ⟨[], false, []⟩).kept g1 (fun e => by cases e; omega)).still (World.grownBy_alloc w1 _ none)
        have G1 : w.grownBy (w1.alloc (.cells #[.string (strOfNums (cut s i j)), .bool false, .string ⟨#[]⟩] 54)) (some g) := ((World.grownBy_alloc w _ _).trans g1).trans (World.grownBy_alloc w1 _ _)
        have hw1 := g1.size
        simp only [World.size_alloc] at hw1
        have x0 := F1.c0
        have hR2' : R s i a .ahead = R s j { a with f := a.f + 1 } (.key (cut s i j)) := by rw [hR1]; simp [wst, HF0, H1.out]
        have hR2 : Hid (R s i a .ahead = R s j { a with f := a.f + 1 } (.key (cut s i j))) := hR2'
        clear hR2'
        clear hR1
        by_cases h61 : nx s j = 61
        · have H61 : Hid (R s i a .ahead = R s (j + 1) { a with f := a.f + 1 } (.begun (cut s i j))) := hR2.out.trans (R_equals _ _ _ k1.le h61 (by simp [step]))
          go_wp2_with (first
            | (go_at_call 31; refine (lets_ok k1.le hmo _).mono ?_; rintro e w2 ⟨rfl, g2⟩; rw [hl])
            | (go_at_call 26; refine (takes_yes (K.still g2) 61 h61 (by omega)).mono ?_; rintro e w3 ⟨rfl, k3, g3⟩)
            | (go_at_call 32; refine (value_ok k3 { a with f := a.f + 1 } (cut s i j)).mono ?_))
          rintro e w4 (⟨v, jj, st, rfl, hjj, k4, hR4, hO4, g4⟩ | ⟨p, rfl, hR4, g4⟩)
          · have F13 := ((F1.still g2).kept g3 (fun e => by cases e; omega)).kept g4 (fun e => by cases e; omega)
            have F03 := ((F0.still g2).kept g3 (fun e => by cases e; omega)).kept g4 (fun e => by cases e; omega)
            have G4 : w.grownBy w4 (some g) := ((G1.trans (g2.but _)).trans g3).trans g4
            have GS : w4.grownBy ((w4.setCell ⟨w1.heap.size, 1, none⟩ (.bool true)).setCell ⟨w1.heap.size, 2, none⟩ (.string (strOfNums v))) (some w1.heap.size) := (grown_set _ _ _ _).trans (grown_set _ _ _ _)
            have KK : Rd ((w4.setCell ⟨w1.heap.size, 1, none⟩ (.bool true)).setCell ⟨w1.heap.size, 2, none⟩ (.string (strOfNums v))) g s jj := k4.kept GS (fun e => by cases e; omega)
            have FK : Fb ((w4.setCell ⟨w1.heap.size, 1, none⟩ (.bool true)).setCell ⟨w1.heap.size, 2, none⟩ (.string (strOfNums v))) w1.heap.size ⟨cut s i j, true, v⟩ := F13.set2
            have FZ : Fb ((w4.setCell ⟨w1.heap.size, 1, none⟩ (.bool true)).setCell ⟨w1.heap.size, 2, none⟩ (.string (strOfNums v))) w.heap.size ⟨[], false, []⟩ := F03.kept GS (fun e => by have := Option.some.inj e; omega)
            have GG : w.grownBy ((w4.setCell ⟨w1.heap.size, 1, none⟩ (.bool true)).setCell ⟨w1.heap.size, 2, none⟩ (.string (strOfNums v))) (some g) := G4.andThen GS (fun q e => by cases e; exact .inl (by omega))
            have hR5 : Hid (R s i a .ahead = R s jj { a with f := a.f + 1 } st) := H61.out.trans hR4
            have hO5 : Hid (Over s jj { a with f := a.f + 1 } st (Acc.opt { a with f := a.f + 1 } (cut s i j) v)) := hO4
            have p1 := F13.f1
            have p2 := F13.f2
            have p3 := F13.c1
            have p4 := F13.c2
            clear hR2 H61 hR4 hO4 x0 K F1 F0 G1
            have hjle := (KK).le
            obtain ⟨c, hc⟩ : ∃ c, nx s jj = c := ⟨_, rfl⟩
            by_cases he : jj = s.size
            · have hR9 : R s i a .ahead = R s jj (a.put ⟨cut s i j, true, v⟩) .ahead := by rw [putO HF0]; exact (hR5.out).trans ((hO5.out).good hjle (.inl he))
              have HE : Hid (jj = s.size) := he
              clear he
              go_wp2_with (go_at_call 24; refine (ended_ok (KK)).mono ?_; rintro e w4 ⟨rfl, g4⟩; have K4 := (KK).still g4; have F14 := (FK).still g4; have F04 := (FZ).still g4; have K5 := K4; have x0 := F14.c0; have x1 := F14.c1; have x2 := F14.c2; have y0 := F04.f0; have y1 := F04.f1; have y2 := F04.f2; have z0 := F04.c0; have z1 := F04.c1; have z2 := F04.c2; rw [show decide (jj = s.size) = true from decide_eq_true HE.out])
              have FF := F04.set3 (f' := ⟨cut s i j, true, v⟩)
              refine bodyPost_ret (results_cell_row Try.results25 _ _ w.heap.size 54 _ (0, 0) _ rfl FF Try.underlying54 rfl (by kernel_rfl)) rfl ?_
              exact .inl ⟨⟨cut s i j, true, v⟩, jj, rfl, by omega, (K5.kept (grown_set3 w4 w.heap.size _ _ _) (fun e => by cases e; omega)), hR9, ((GG).trans (g4.but _)).andThen (grown_set3 w4 w.heap.size _ _ _) (fun q e => by cases e; exact .inl (Nat.le_refl _))⟩
            · have he2 : decide (jj = s.size) = false := decide_eq_false he
              have HE : Hid (¬ jj = s.size) := he
              clear he
              by_cases h32 : c = 32
              · have hR9 : R s i a .ahead = R s jj (a.put ⟨cut s i j, true, v⟩) .ahead := by rw [putO HF0]; exact (hR5.out).trans ((hO5.out).good hjle (.inr (by rw [hc, h32]; decide)))
                subst h32
                go_wp2_with (first
                  | (go_at_call 24; refine (ended_ok (KK)).mono ?_; rintro e w4 ⟨rfl, g4⟩; have K4 := (KK).still g4; have F14 := (FK).still g4; have F04 := (FZ).still g4; rw [he2])
                  | (go_at_call 27; refine (next_ok K4).mono ?_; rintro e w5 ⟨rfl, g5⟩; have K5 := K4.still g5; have F15 := F14.still g5; have F05 := F04.still g5; clear K4 F14 F04; have F14 := F15; have F04 := F05; have x0 := F14.c0; have x1 := F14.c1; have x2 := F14.c2; have y0 := F04.f0; have y1 := F04.f1; have y2 := F04.f2; have z0 := F04.c0; have z1 := F04.c1; have z2 := F04.c2; simp only [hc]))
                have FF := F04.set3 (f' := ⟨cut s i j, true, v⟩)
                refine bodyPost_ret (results_cell_row Try.results25 _ _ w.heap.size 54 _ (0, 0) _ rfl FF Try.underlying54 rfl (by kernel_rfl)) rfl ?_
                exact .inl ⟨⟨cut s i j, true, v⟩, jj, rfl, by omega, (K5.kept (grown_set3 w5 w.heap.size _ _ _) (fun e => by cases e; omega)), hR9, ((GG).trans ((g4.trans g5).but _)).andThen (grown_set3 w5 w.heap.size _ _ _) (fun q e => by cases e; exact .inl (Nat.le_refl _))⟩
              · by_cases h9 : c = 9
                · have hR9 : R s i a .ahead = R s jj (a.put ⟨cut s i j, true, v⟩) .ahead := by rw [putO HF0]; exact (hR5.out).trans ((hO5.out).good hjle (.inr (by rw [hc, h9]; decide)))
                  subst h9
                  go_wp2_with (first
                    | (go_at_call 24; refine (ended_ok (KK)).mono ?_; rintro e w4 ⟨rfl, g4⟩; have K4 := (KK).still g4; have F14 := (FK).still g4; have F04 := (FZ).still g4; rw [he2])
                    | (go_at_call 27; refine (next_ok K4).mono ?_; rintro e w5 ⟨rfl, g5⟩; have K5 := K4.still g5; have F15 := F14.still g5; have F05 := F04.still g5; clear K4 F14 F04; have F14 := F15; have F04 := F05; have x0 := F14.c0; have x1 := F14.c1; have x2 := F14.c2; have y0 := F04.f0; have y1 := F04.f1; have y2 := F04.f2; have z0 := F04.c0; have z1 := F04.c1; have z2 := F04.c2; simp only [hc])
                    | (go_at_call 27; refine (next_ok K5).mono ?_; rintro e w6 ⟨rfl, g6⟩; have K6 := K5.still g6; have F16 := F14.still g6; have F06 := F04.still g6; clear K5 F14 F04 x0 x1 x2 y0 y1 y2 z0 z1 z2; have K5 := K6; have F14 := F16; have F04 := F06; have x0 := F14.c0; have x1 := F14.c1; have x2 := F14.c2; have y0 := F04.f0; have y1 := F04.f1; have y2 := F04.f2; have z0 := F04.c0; have z1 := F04.c1; have z2 := F04.c2; simp only [hc]))
                  have FF := F04.set3 (f' := ⟨cut s i j, true, v⟩)
                  refine bodyPost_ret (results_cell_row Try.results25 _ _ w.heap.size 54 _ (0, 0) _ rfl FF Try.underlying54 rfl (by kernel_rfl)) rfl ?_
                  exact .inl ⟨⟨cut s i j, true, v⟩, jj, rfl, by omega, (K5.kept (grown_set3 w6 w.heap.size _ _ _) (fun e => by cases e; omega)), hR9, ((GG).trans (((g4.trans g5).trans g6).but _)).andThen (grown_set3 w6 w.heap.size _ _ _) (fun q e => by cases e; exact .inl (Nat.le_refl _))⟩
                · have hR9 : R s i a .ahead = .bad (jj + 1) := (hR5.out).trans ((hO5.out).bad (by have := HE.out; omega) (by rw [hc]; unfold blank; omega))
                  have m32 : (c != 32) = true := by simpa using h32
                  have m9 : (c != 9) = true := by simpa using h9
                  go_wp2_with (first
                    | (go_at_call 24; refine (ended_ok (KK)).mono ?_; rintro e w4 ⟨rfl, g4⟩; have K4 := (KK).still g4; have F14 := (FK).still g4; have F04 := (FZ).still g4; rw [he2])
                    | (go_at_call 27; refine (next_ok K4).mono ?_; rintro e w5 ⟨rfl, g5⟩; have K5 := K4.still g5; have F15 := F14.still g5; have F05 := F04.still g5; clear K4 F14 F04; have F14 := F15; have F04 := F05; have x0 := F14.c0; have x1 := F14.c1; have x2 := F14.c2; have y0 := F04.f0; have y1 := F04.f1; have y2 := F04.f2; have z0 := F04.c0; have z1 := F04.c1; have z2 := F04.c2; simp only [hc])
                    | (go_at_call 27; refine (next_ok K5).mono ?_; rintro e w6 ⟨rfl, g6⟩; have K6 := K5.still g6; have F16 := F14.still g6; have F06 := F04.still g6; clear K5 F14 F04 x0 x1 x2 y0 y1 y2 z0 z1 z2; have K5 := K6; have F14 := F16; have F04 := F06; have x0 := F14.c0; have x1 := F14.c1; have x2 := F14.c2; have y0 := F04.f0; have y1 := F04.f1; have y2 := F04.f2; have z0 := F04.c0; have z1 := F04.c1; have z2 := F04.c2; simp only [hc])
                    | (go_at_call 29; refine (stop_ok K5).mono ?_; rintro e w7 ⟨rfl, rfl⟩))
                  exact ⟨rfl, .inr ⟨_, rfl, hR9, (GG).trans (((g4.trans g5).trans g6).but _)⟩⟩
          · exact ⟨rfl, .inr ⟨p, rfl, H61.out.trans hR4, ((G1.trans (g2.but _)).trans g3).trans g4⟩⟩
        · have hR3 := hR2.out.trans (R_key_bad _ _ k1.le hnl h61)
          go_wp2_with (first
            | (go_at_call 31; refine (lets_ok k1.le hmo _).mono ?_; rintro e w2 ⟨rfl, g2⟩; rw [hl])
            | (go_at_call 26; refine (takes_no (K.still g2) 61 h61).mono ?_; rintro e w3 ⟨rfl, g3⟩)
            | (go_at_call 29; refine (stop_ok (K.still (g2.trans g3))).mono ?_; rintro e w7 ⟨rfl, rfl⟩))
          exact ⟨rfl, .inr ⟨_, rfl, hR3, G1.trans ((g2.trans g3).but _)⟩⟩
      · exact ⟨rfl, .inr ⟨p, rfl, hR1, (World.grownBy_alloc w _ _).trans g1⟩⟩
end Go.Proofs.Ytohhjohpdfbdoaa
