import Derived.Test.YtoanndhaopgkjaaDoorVb
namespace Go.Proofs.YtoanndhaopgkjaaDoor
open Go.RowKit
set_option linter.unusedVariables false
set_option linter.unusedSimpArgs false
theorem unpR_bad {L : List Int} {sec : Bool} {E : Int} (h : unpE L sec = E) (h0 : E ≠ 0) : unpC L sec = zHc := by
  rw [unpC, if_neg (by rw [h]; exact h0)]
theorem sha_list : (strB sha256L).toList = [115, 104, 97, 50, 53, 54] := by rw [Lib.toList_data]; rfl
/-- The two boxes of the document's Unpack. -/
structure RuI (w u : World) : Prop where
  b4 : Bo u w.heap.size zHc
  b6 : Bo u (w.heap.size + 1) zHc
  below : Below w.heap.size w u
theorem RuI.kept {w u u' : World} (h : RuI w u) (hb : Below u.heap.size u u') : RuI w u' := ⟨h.b4.below hb, h.b6.below hb, h.below.trans (hb.mono h.below.size)⟩
theorem RuI.new (w : World) : RuI w ((w.alloc (.cells #[.bool false, .int .i64 0, .int .u64 0, .string ⟨#[]⟩, .string ⟨#[]⟩, .string ⟨#[]⟩, .string ⟨#[]⟩, .string ⟨#[]⟩] 24)).alloc (.cells #[.bool false, .int .i64 0, .int .u64 0, .string ⟨#[]⟩, .string ⟨#[]⟩, .string ⟨#[]⟩, .string ⟨#[]⟩, .string ⟨#[]⟩] 24)) := by
  refine ⟨(Bo.new w zHc).below (al1 _ _), ?_, (al1 w _).trans ((al1 _ _).mono (by simp))⟩
  have q := Bo.new (w.alloc (.cells #[.bool false, .int .i64 0, .int .u64 0, .string ⟨#[]⟩, .string ⟨#[]⟩, .string ⟨#[]⟩, .string ⟨#[]⟩, .string ⟨#[]⟩] 24)) zHc
  rw [World.size_alloc] at q
  exact q
theorem RuI.set {w u : World} (h : RuI w u) (g i : Nat) (v : Value) (hg : w.heap.size + 1 < g) : RuI w (u.setCell ⟨g, i, none⟩ v) :=
  ⟨h.b4.keep (Below.heap_setCell _ _ _ _ (by show w.heap.size ≠ g; omega)), h.b6.keep (Below.heap_setCell _ _ _ _ (by show w.heap.size + 1 ≠ g; omega)), h.below.setCell (by show w.heap.size ≤ g; omega) _⟩
set_option maxRecDepth 100000 in
theorem runpack_short (a : Option Addr) (n c : Nat) (L : List Int) (sec : Bool) (w : World) (hn : L.length = n) (h : n < 4096) : Calls Tryd.prog 14 #[.slice a n c, .bool sec] w (UnpR L sec w) := by
  have HE : Hid (unpE L sec = 5) := by show _ = _; rw [unpE, if_pos (by omega)]
  have HR : Hid (RuI w ((w.alloc (.cells #[.bool false, .int .i64 0, .int .u64 0, .string ⟨#[]⟩, .string ⟨#[]⟩, .string ⟨#[]⟩, .string ⟨#[]⟩, .string ⟨#[]⟩] 24)).alloc (.cells #[.bool false, .int .i64 0, .int .u64 0, .string ⟨#[]⟩, .string ⟨#[]⟩, .string ⟨#[]⟩, .string ⟨#[]⟩, .string ⟨#[]⟩] 24))) := RuI.new w
  clear hn
  go_enter Tryd.func14, Tryd.ntmps14
  go_upto_region 3 with fail
  generalize ((w.alloc (.cells #[.bool false, .int .i64 0, .int .u64 0, .string ⟨#[]⟩, .string ⟨#[]⟩, .string ⟨#[]⟩, .string ⟨#[]⟩, .string ⟨#[]⟩] 24)).alloc (.cells #[.bool false, .int .i64 0, .int .u64 0, .string ⟨#[]⟩, .string ⟨#[]⟩, .string ⟨#[]⟩, .string ⟨#[]⟩, .string ⟨#[]⟩] 24)) = u0 at HR ⊢
  go_wp2_with (first | (refine wpList_load_mid (by rfl) 24 (.tmp 6) (by rfl) (w.heap.size + 1) 0 (by rfl) zHc.cells _ HR.out.b6.range Tryd.underlying24 rfl (by kernel_rfl) ?_) | (refine wpList_store_bo (by rfl) (.tmp 4) (.tmp 23) (by rfl) zHc zHc w.heap.size (by rfl) (by rfl) HR.out.b4 ?_; intro u99 hb99 hg99))
  refine ret_array2 (b := w.heap.size) zHc.cells (.int .i64 5) rfl rfl rfl hb99.range Tryd.underlying24 rfl (by kernel_rfl) ⟨by rw [HE.out, unpR_bad HE.out (by decide)], HR.out.below.trans (below_gb hg99 HR.out.below.size (Nat.le_refl _))⟩
set_option maxHeartbeats 4000000 in
set_option maxRecDepth 100000 in
theorem runpack_long (b o N cp : Nat) (L : List Int) (sec : Bool) (w : World) (hT : RTab w) (hN : L.length = N) (h1 : 4096 ≤ N) (h2 : N ≤ cp) (h3 : cp ≤ 9223372036854775807) (hL : Byt L) (hb : By w b o L) :
    Calls Tryd.prog 14 #[.slice (some ⟨b, o, none⟩) N cp, .bool sec] w (UnpR L sec w) := by
  have hblt := hb.lt (by omega)
  have HT : Hid (RTab w) := hT
  have HL : Hid (Byt L ∧ L.length = N ∧ 4096 ≤ L.length) := ⟨hL, hN, by omega⟩
  have HBy : Hid (∀ u, Below w.heap.size w u → By u b o L) := fun u hu => hb.below hu hblt
  have HR : Hid (RuI w ((w.alloc (.cells #[.bool false, .int .i64 0, .int .u64 0, .string ⟨#[]⟩, .string ⟨#[]⟩, .string ⟨#[]⟩, .string ⟨#[]⟩, .string ⟨#[]⟩] 24)).alloc (.cells #[.bool false, .int .i64 0, .int .u64 0, .string ⟨#[]⟩, .string ⟨#[]⟩, .string ⟨#[]⟩, .string ⟨#[]⟩, .string ⟨#[]⟩] 24))) := RuI.new w
  have HFr : Hid (∀ u, Below w.heap.size w u → Calls Tryd.prog 27 #[.slice (some ⟨b, o, none⟩) N cp, .bool sec] u fun e w' => FrQ L sec e ∧ Below u.heap.size u w') := fun u hu => rfront_ok b o N cp L sec u HL.out.2.1 h1 h2 HL.out.1 (HBy.out u hu)
  have d1 : decide ((N : Int) < 4096) = false := decide_eq_false (by omega)
  clear hT hN hL hb
  go_enter Tryd.func14, Tryd.ntmps14
  go_upto_region 4 with fail
  generalize ((w.alloc (.cells #[.bool false, .int .i64 0, .int .u64 0, .string ⟨#[]⟩, .string ⟨#[]⟩, .string ⟨#[]⟩, .string ⟨#[]⟩, .string ⟨#[]⟩] 24)).alloc (.cells #[.bool false, .int .i64 0, .int .u64 0, .string ⟨#[]⟩, .string ⟨#[]⟩, .string ⟨#[]⟩, .string ⟨#[]⟩, .string ⟨#[]⟩] 24)) = u0 at HR ⊢
  go_wp2_with (go_at_call 27; refine (HFr.out _ HR.out.below).mono ?_)
  rintro e1 u1 ⟨hq, hb1⟩
  have HR1 : Hid (RuI w u1) := HR.out.kept hb1
  clear hb1 HR HFr
  rcases hq with ⟨r0, rfl⟩ | ⟨r0, r1, rfl⟩ | ⟨r0, r1, hh, rfl⟩ | ⟨r0, r1, hh, rfl⟩
  · have HE : Hid (unpE L sec = 81) := unpE_at HL.out.2.2 (k := 0) (by decide) (fun j hj => by omega) r0
    go_wp2_with (first | (refine wpList_load_mid (by rfl) 24 (.tmp 6) (by rfl) (w.heap.size + 1) 0 (by rfl) zHc.cells _ HR1.out.b6.range Tryd.underlying24 rfl (by kernel_rfl) ?_) | (refine wpList_store_bo (by rfl) (.tmp 4) (.tmp 32) (by rfl) zHc zHc w.heap.size (by rfl) (by rfl) HR1.out.b4 ?_; intro u99 hb99 hg99))
    refine ret_array2 (b := w.heap.size) zHc.cells (.int .i64 81) rfl rfl rfl hb99.range Tryd.underlying24 rfl (by kernel_rfl) ⟨by rw [HE.out, unpR_bad HE.out (by decide)], HR1.out.below.trans (below_gb hg99 HR1.out.below.size (Nat.le_refl _))⟩
  · have HE : Hid (unpE L sec = 82) := unpE_at HL.out.2.2 (k := 1) (by decide) (fun j hj => by (have : j = 0 := by omega); subst this; exact r0) r1
    go_wp2_with (first | (refine wpList_load_mid (by rfl) 24 (.tmp 6) (by rfl) (w.heap.size + 1) 0 (by rfl) zHc.cells _ HR1.out.b6.range Tryd.underlying24 rfl (by kernel_rfl) ?_) | (refine wpList_store_bo (by rfl) (.tmp 4) (.tmp 32) (by rfl) zHc zHc w.heap.size (by rfl) (by rfl) HR1.out.b4 ?_; intro u99 hb99 hg99))
    refine ret_array2 (b := w.heap.size) zHc.cells (.int .i64 82) rfl rfl rfl hb99.range Tryd.underlying24 rfl (by kernel_rfl) ⟨by rw [HE.out, unpR_bad HE.out (by decide)], HR1.out.below.trans (below_gb hg99 HR1.out.below.size (Nat.le_refl _))⟩
  · have HE : Hid (unpE L sec = 83) := unpE_at HL.out.2.2 (k := 2) (by decide) (fun j hj => by
      match j, hj with
      | 0, _ => exact r0
      | 1, _ => exact r1) (by show (headB _ && _) = false; rw [hh]; rfl)
    go_wp2_with (first | (refine wpList_load_mid (by rfl) 24 (.tmp 6) (by rfl) (w.heap.size + 1) 0 (by rfl) zHc.cells _ HR1.out.b6.range Tryd.underlying24 rfl (by kernel_rfl) ?_) | (refine wpList_store_bo (by rfl) (.tmp 4) (.tmp 32) (by rfl) zHc zHc w.heap.size (by rfl) (by rfl) HR1.out.b4 ?_; intro u99 hb99 hg99))
    refine ret_array2 (b := w.heap.size) zHc.cells (.int .i64 83) rfl rfl rfl hb99.range Tryd.underlying24 rfl (by kernel_rfl) ⟨by rw [HE.out, unpR_bad HE.out (by decide)], HR1.out.below.trans (below_gb hg99 HR1.out.below.size (Nat.le_refl _))⟩
  · obtain ⟨x, HX⟩ : ∃ x, Hid (x = beN (cutL L 8 8)) := ⟨_, rfl⟩
    rw [← HX.out] at hh ⊢
    have hxl := headB_le hh
    rcases (Decidable.em (x = (N : Int))).symm with heq | heq
    · have HE : Hid (unpE L sec = 83) := unpE_at HL.out.2.2 (k := 2) (by decide) (fun j hj => by
        match j, hj with
        | 0, _ => exact r0
        | 1, _ => exact r1) (by show (headB (beN (cutL L 8 8)) && decide ((L.length : Int) = beN (cutL L 8 8))) = false; rw [← HX.out, hh, HL.out.2.1, Bool.true_and]; exact decide_eq_false (fun e => heq e.symm))
      have dne : (x != (N : Int)) = true := by simpa using heq
      clear heq
      go_wp2_with (first | (refine wpList_load_mid (by rfl) 24 (.tmp 6) (by rfl) (w.heap.size + 1) 0 (by rfl) zHc.cells _ HR1.out.b6.range Tryd.underlying24 rfl (by kernel_rfl) ?_) | (refine wpList_store_bo (by rfl) (.tmp 4) (.tmp 38) (by rfl) zHc zHc w.heap.size (by rfl) (by rfl) HR1.out.b4 ?_; intro u99 hb99 hg99))
      refine ret_array2 (b := w.heap.size) zHc.cells (.int .i64 83) rfl rfl rfl hb99.range Tryd.underlying24 rfl (by kernel_rfl) ⟨by rw [HE.out, unpR_bad HE.out (by decide)], HR1.out.below.trans (below_gb hg99 HR1.out.below.size (Nat.le_refl _))⟩
    · have r2 : rightB L sec 2 = true := by
        show (headB (beN (cutL L 8 8)) && decide ((L.length : Int) = beN (cutL L 8 8))) = true
        rw [← HX.out, hh, HL.out.2.1, Bool.true_and]
        exact decide_eq_true heq.symm
      have hNm : N ≤ 4194304 := by omega
      have HXN : Hid (x = (N : Int)) := heq
      have dne : (x != (N : Int)) = false := by simpa using heq
      clear heq
      go_upto_region 9 with fail
      have hS0 : Below u1.heap.size u1 u1.drew := (Below.refl _ _).drew
      have s9 : ∀ u, (Instr.slice 25 (.slice (some ⟨b, o, none⟩) N cp) (some (.int .i64 448)) (some (.int .i64 480)) none).run Tryd.prog u = .ok (.slice (some ⟨b, o + 448, none⟩) 32 (cp - 448)) u := fun u => by
        have q := slice_lh u (some ⟨b, o, none⟩) N cp 448 480 (by omega) (by omega)
        rw [show sliced (some ⟨b, o, none⟩) 448 480 cp 1 = .slice (some ⟨b, o + 448, none⟩) 32 (cp - 448) by rw [sliced, if_neg (by omega)]; rfl] at q
        exact q
      have HB1 : Hid (∀ u, Below u1.heap.size u1 u → Below w.heap.size w u) := fun u hu => HR1.out.below.trans (hu.mono HR1.out.below.size)
      have cv9 : ∀ u, Below u1.heap.size u1 u → (convert 25 9 (.slice (some ⟨b, o + 448, none⟩) 32 (cp - 448))).run Tryd.prog u = .ok (.string (strB (cutL L 448 32))) u := fun u hu =>
        conv_by u b (o + 448) 32 (cp - 448) (cutL L 448 32) (cutL_length (by rw [HL.out.2.1]; omega)) ((HBy.out u (HB1.out u hu)).cut 448 32 (by rw [HL.out.2.1]; omega))
      have HSm : Hid (∀ u, Below u1.heap.size u1 u → Calls Tryd.prog 13 #[.slice (some ⟨b, o, none⟩) N cp] u fun e w' => ∃ v', e = .returned v' ∧ w'.ownsRow u.heap.size 5 1 v' 32 (cellsU8 (sumI L)) ∧ Below u.heap.size u w') := fun u hu =>
        rsum8_ok b o N cp L u (HT.out.below (HB1.out u hu) HT.out.size) HL.out.2.1 (by omega) ⟨some ⟨b, o, none⟩, cp, by rw [HL.out.2.1], by rw [HL.out.2.1]; exact h2, by simp [maxLen]; omega, (fun e => by cases e), .inr ⟨b, o, rfl, HBy.out u (HB1.out u hu)⟩⟩ (by omega)
      have HR3 : Hid (rightB L sec 3 = ((strB (cutL L 448 32)).toList == (strB (sumI L)).toList)) := by
        show decide (cutL L 448 32 = sumI L) = _
        rw [toList_beq]
        by_cases h : cutL L 448 32 = sumI L
        · rw [h]; simp
        · rw [decide_eq_false h, decide_eq_false (fun e => h (strB_inj (HL.out.1.cut 448 32) (sumD_range _) e))]
      obtain ⟨p9, HP9⟩ : ∃ p : Nat, Hid (p = o + 448) := ⟨_, rfl⟩
      obtain ⟨q9, HQ9⟩ : ∃ p : Nat, Hid (p = cp - 448) := ⟨_, rfl⟩
      rw [← HP9.out, ← HQ9.out] at s9 cv9
      generalize strB (cutL L 448 32) = st at cv9 HR3
      cases r3 : rightB L sec 3
      · refine wp_region_noPanic ?_
        refine wp_region_held_drew (S := fun u => Below u1.heap.size u1 u) (by kernel_rfl) (hS0) (fun _ => ?_)
        refine takeH_at 0 39 (.slice (some ⟨b, o, none⟩) N cp) rfl rfl (by kernel_rfl) (by kernel_rfl) (by kernel_rfl) (fun _ _ _ h => h) (hS0) (Or.inl ⟨by kernel_rfl, fun w' hS' => by go_simp⟩) ?_
        simp only [List.setIfInBounds_toArray, List.set_cons_zero, List.set_cons_succ]
        refine takeH_at 1 40 (.slice (some ⟨b, p9, none⟩) 32 q9) rfl rfl (by kernel_rfl) (by kernel_rfl) (by kernel_rfl) (fun _ _ _ h => h) (hS0) (Or.inl ⟨by kernel_rfl, fun w' hS' => by have q := s9 w'; go_simp⟩) ?_
        simp only [List.setIfInBounds_toArray, List.set_cons_zero, List.set_cons_succ]
        refine takeH_at 2 41 (.string st) rfl rfl (by kernel_rfl) (by kernel_rfl) (by kernel_rfl) (fun _ _ _ h => h) (hS0) (Or.inl ⟨by kernel_rfl, fun w' hS' => by have q := cv9 w' hS'; go_simp⟩) ?_
        simp only [List.setIfInBounds_toArray, List.set_cons_zero, List.set_cons_succ]
        refine takeH_at 3 42 (.slice (some ⟨b, o, none⟩) N cp) rfl rfl (by kernel_rfl) (by kernel_rfl) (by kernel_rfl) (fun _ _ _ h => h) (hS0) (Or.inl ⟨by kernel_rfl, fun w' hS' => by go_simp⟩) ?_
        simp only [List.setIfInBounds_toArray, List.set_cons_zero, List.set_cons_succ]
        refine wpAnyH_ready (rs := [4]) (by kernel_rfl) (by simp) ?_
        refine AllReadyH.cons rfl (fun Kx hK => ?_) AllReadyH.nil
        rw [if_pos (by kernel_rfl)]
        go_simp
        refine (HSm.out _ hS0).mono ?_
        rintro e4 u4 ⟨v4, rfl, ho4, hb4⟩
        have hS4 : Below u1.heap.size u1 u4 := hS0.trans (hb4.mono hS0.size)
        have cv4 := conv_own ho4 (by decide)
        clear ho4 hb4
        generalize strB (sumI L) = sq at cv4 HR3
        go_wp2_with fail
        refine hK.out _ _ hS4 (fun _ => ?_)
        clear hK Kx
        try simp only [Act.put, List.setIfInBounds_toArray, List.set_cons_zero, List.set_cons_succ]
        refine wpAnyH_ready (rs := [5]) (by kernel_rfl) (by simp) ?_
        refine AllReadyH.cons rfl (fun Kx hK => ?_) AllReadyH.nil
        rw [if_pos (by kernel_rfl)]
        go_simp
        refine hK.out _ _ hS4 (fun _ => ?_)
        clear hK Kx
        try simp only [Act.put, List.setIfInBounds_toArray, List.set_cons_zero, List.set_cons_succ]
        have hc3 : (st.toList == sq.toList) = false := by rw [← HR3.out]; exact r3
        refine takeH_at 6 45 (.bool true) rfl rfl (by kernel_rfl) (by kernel_rfl) (by kernel_rfl) (fun _ _ _ h => h) (hS4) (Or.inl ⟨by kernel_rfl, fun w' hS' => by go_simp⟩) ?_
        simp only [List.setIfInBounds_toArray, List.set_cons_zero, List.set_cons_succ]
        refine wpAnyH_done (by kernel_rfl) ?_ _
        refine NoPanic.normal ?_
        have HR4 : Hid (RuI w u4) := HR1.out.kept hS4
        have HE : Hid (unpE L sec = 84) := unpE_at HL.out.2.2 (k := 3) (by decide) (fun j hj => by
          match j, hj with
          | 0, _ => exact r0
          | 1, _ => exact r1
          | 2, _ => exact r2) r3
        go_wp2_with (first | (refine wpList_load_mid (by rfl) 24 (.tmp 6) (by rfl) (w.heap.size + 1) 0 (by rfl) zHc.cells _ HR4.out.b6.range Tryd.underlying24 rfl (by kernel_rfl) ?_) | (refine wpList_store_bo (by rfl) (.tmp 4) (.tmp 46) (by rfl) zHc zHc w.heap.size (by rfl) (by rfl) HR4.out.b4 ?_; intro u99 hb99 hg99))
        refine ret_array2 (b := w.heap.size) zHc.cells (.int .i64 84) rfl rfl rfl hb99.range Tryd.underlying24 rfl (by kernel_rfl) ⟨by rw [HE.out, unpR_bad HE.out (by decide)], HR4.out.below.trans (below_gb hg99 HR4.out.below.size (Nat.le_refl _))⟩
      · refine wp_region_noPanic ?_
        refine wp_region_held_drew (S := fun u => Below u1.heap.size u1 u) (by kernel_rfl) (hS0) (fun _ => ?_)
        refine takeH_at 0 39 (.slice (some ⟨b, o, none⟩) N cp) rfl rfl (by kernel_rfl) (by kernel_rfl) (by kernel_rfl) (fun _ _ _ h => h) (hS0) (Or.inl ⟨by kernel_rfl, fun w' hS' => by go_simp⟩) ?_
        simp only [List.setIfInBounds_toArray, List.set_cons_zero, List.set_cons_succ]
        refine takeH_at 1 40 (.slice (some ⟨b, p9, none⟩) 32 q9) rfl rfl (by kernel_rfl) (by kernel_rfl) (by kernel_rfl) (fun _ _ _ h => h) (hS0) (Or.inl ⟨by kernel_rfl, fun w' hS' => by have q := s9 w'; go_simp⟩) ?_
        simp only [List.setIfInBounds_toArray, List.set_cons_zero, List.set_cons_succ]
        refine takeH_at 2 41 (.string st) rfl rfl (by kernel_rfl) (by kernel_rfl) (by kernel_rfl) (fun _ _ _ h => h) (hS0) (Or.inl ⟨by kernel_rfl, fun w' hS' => by have q := cv9 w' hS'; go_simp⟩) ?_
        simp only [List.setIfInBounds_toArray, List.set_cons_zero, List.set_cons_succ]
        refine takeH_at 3 42 (.slice (some ⟨b, o, none⟩) N cp) rfl rfl (by kernel_rfl) (by kernel_rfl) (by kernel_rfl) (fun _ _ _ h => h) (hS0) (Or.inl ⟨by kernel_rfl, fun w' hS' => by go_simp⟩) ?_
        simp only [List.setIfInBounds_toArray, List.set_cons_zero, List.set_cons_succ]
        refine wpAnyH_ready (rs := [4]) (by kernel_rfl) (by simp) ?_
        refine AllReadyH.cons rfl (fun Kx hK => ?_) AllReadyH.nil
        rw [if_pos (by kernel_rfl)]
        go_simp
        refine (HSm.out _ hS0).mono ?_
        rintro e4 u4 ⟨v4, rfl, ho4, hb4⟩
        have hS4 : Below u1.heap.size u1 u4 := hS0.trans (hb4.mono hS0.size)
        have cv4 := conv_own ho4 (by decide)
        clear ho4 hb4
        generalize strB (sumI L) = sq at cv4 HR3
        go_wp2_with fail
        refine hK.out _ _ hS4 (fun _ => ?_)
        clear hK Kx
        try simp only [Act.put, List.setIfInBounds_toArray, List.set_cons_zero, List.set_cons_succ]
        refine wpAnyH_ready (rs := [5]) (by kernel_rfl) (by simp) ?_
        refine AllReadyH.cons rfl (fun Kx hK => ?_) AllReadyH.nil
        rw [if_pos (by kernel_rfl)]
        go_simp
        refine hK.out _ _ hS4 (fun _ => ?_)
        clear hK Kx
        try simp only [Act.put, List.setIfInBounds_toArray, List.set_cons_zero, List.set_cons_succ]
        have hc3 : (st.toList == sq.toList) = true := by rw [← HR3.out]; exact r3
        refine takeH_at 6 45 (.bool false) rfl rfl (by kernel_rfl) (by kernel_rfl) (by kernel_rfl) (fun _ _ _ h => h) (hS4) (Or.inl ⟨by kernel_rfl, fun w' hS' => by go_simp⟩) ?_
        simp only [List.setIfInBounds_toArray, List.set_cons_zero, List.set_cons_succ]
        refine wpAnyH_done (by kernel_rfl) ?_ _
        refine NoPanic.normal ?_
        have HR4 : Hid (RuI w u4) := HR1.out.kept hS4
        clear cv4 s9 cv9 HSm HR3 hc3 hS0 hS4 HR1
        have HR03 : Hid (∀ j, j < 4 → rightB L sec j = true) := fun j hj => by
          match j, hj with
          | 0, _ => exact r0
          | 1, _ => exact r1
          | 2, _ => exact r2
          | 3, _ => exact r3
        clear r0 r1 r2 r3
        go_upto_region 12 with fail
        have HB5 : Hid (RuI w (u4.alloc (.cells #[.bool false, .int .i64 0, .int .u64 0, .string ⟨#[]⟩, .string ⟨#[]⟩, .string ⟨#[]⟩, .string ⟨#[]⟩, .string ⟨#[]⟩] 24)) ∧ Bo (u4.alloc (.cells #[.bool false, .int .i64 0, .int .u64 0, .string ⟨#[]⟩, .string ⟨#[]⟩, .string ⟨#[]⟩, .string ⟨#[]⟩, .string ⟨#[]⟩] 24)) u4.heap.size zHc ∧ w.heap.size + 1 < u4.heap.size) := ⟨HR4.out.kept (al1 u4 _), Bo.new u4 zHc, HR4.out.b6.lt⟩
        generalize (u4.alloc (.cells #[.bool false, .int .i64 0, .int .u64 0, .string ⟨#[]⟩, .string ⟨#[]⟩, .string ⟨#[]⟩, .string ⟨#[]⟩, .string ⟨#[]⟩] 24)) = u5 at HB5 ⊢
        generalize u4.heap.size = g9 at HB5 ⊢
        obtain ⟨sq, HSQ⟩ : ∃ s, Hid (s = beN (cutL L 16 8)) := ⟨_, rfl⟩
        obtain ⟨slt, HSLT⟩ : ∃ s, Hid (s = strB (cutL L 104 64)) := ⟨_, rfl⟩
        have HGs : Hid (∀ u, Below w.heap.size w u → Calls Tryd.prog 28 #[.slice (some ⟨b, o, none⟩) N cp, .int .i64 16, .int .i64 8] u fun e w' => e = .returned (.int .u64 sq) ∧ u = w') := fun u hu => by
          rw [HSQ.out]
          exact rget_ok b o N cp 16 8 L u HL.out.2.1 (by omega) (by decide) (by decide) HL.out.1 (HBy.out u hu)
        have s15 : ∀ u, (Instr.slice 25 (.slice (some ⟨b, o, none⟩) N cp) (some (.int .i64 104)) (some (.int .i64 168)) none).run Tryd.prog u = .ok (.slice (some ⟨b, o + 104, none⟩) 64 (cp - 104)) u := fun u => by
          have q := slice_lh u (some ⟨b, o, none⟩) N cp 104 168 (by omega) (by omega)
          rw [show sliced (some ⟨b, o, none⟩) 104 168 cp 1 = .slice (some ⟨b, o + 104, none⟩) 64 (cp - 104) by rw [sliced, if_neg (by omega)]; rfl] at q
          exact q
        have HCv : Hid (∀ u, Below w.heap.size w u → (convert 25 9 (.slice (some ⟨b, o + 104, none⟩) 64 (cp - 104))).run Tryd.prog u = .ok (.string slt) u) := fun u hu => by
          rw [HSLT.out]
          exact conv_by u b (o + 104) 64 (cp - 104) (cutL L 104 64) (cutL_length (by rw [HL.out.2.1]; omega)) ((HBy.out u hu).cut 104 64 (by rw [HL.out.2.1]; omega))
        have HTx : Hid (∀ u at' en, at' < en → en ≤ N → Below w.heap.size w u → Calls Tryd.prog 29 #[.slice (some ⟨b, o, none⟩) N cp, .int .i64 (at' : Nat), .int .i64 (en : Nat)] u fun e w' => TxQ (cutL L at' (en - at')) e ∧ u = w') := fun u at' en h4 h5 hu => rtext_ok b o N cp at' en L u HL.out.2.1 h2 h4 h5 (by omega) (HBy.out u hu)
        have f0 : u5.frozen? ⟨g9, 0, none⟩ = false := HB5.out.2.1.frozen 0
        have c0 : u5.cell? ⟨g9, 0, none⟩ = some (.bool false) := HB5.out.2.1.cell 0 _ rfl
        go_upto_region 13 with fail
        have HB6 : Hid (RuI w (u5.setCell ⟨g9, 0, none⟩ (.bool sec)) ∧ Bo (u5.setCell ⟨g9, 0, none⟩ (.bool sec)) g9 ⟨sec, 0, 0, ⟨#[]⟩, ⟨#[]⟩, ⟨#[]⟩, ⟨#[]⟩, ⟨#[]⟩⟩ ∧ w.heap.size + 1 < g9) := ⟨HB5.out.1.set g9 0 _ HB5.out.2.2, HB5.out.2.1.set 0 _ rfl, HB5.out.2.2⟩
        generalize (u5.setCell ⟨g9, 0, none⟩ (.bool sec)) = u6 at HB6 ⊢
        clear f0 c0 HB5
        have f1 : u6.frozen? ⟨g9, 1, none⟩ = false := HB6.out.2.1.frozen 1
        have c1 : u6.cell? ⟨g9, 1, none⟩ = some (.int .i64 0) := HB6.out.2.1.cell 1 _ rfl
        go_upto_region 14 with fail
        have HB7 : Hid (RuI w (u6.setCell ⟨g9, 1, none⟩ (.int .i64 x)) ∧ Bo (u6.setCell ⟨g9, 1, none⟩ (.int .i64 x)) g9 ⟨sec, x, 0, ⟨#[]⟩, ⟨#[]⟩, ⟨#[]⟩, ⟨#[]⟩, ⟨#[]⟩⟩ ∧ w.heap.size + 1 < g9) := ⟨HB6.out.1.set g9 1 _ HB6.out.2.2, HB6.out.2.1.set 1 _ rfl, HB6.out.2.2⟩
        generalize (u6.setCell ⟨g9, 1, none⟩ (.int .i64 x)) = u7 at HB7 ⊢
        clear f1 c1 HB6
        have f2 : u7.frozen? ⟨g9, 2, none⟩ = false := HB7.out.2.1.frozen 2
        have c2 : u7.cell? ⟨g9, 2, none⟩ = some (.int .u64 0) := HB7.out.2.1.cell 2 _ rfl
        go_upto_region 15 with (go_at_call 28; refine (HGs.out _ HB7.out.1.below).mono ?_; rintro e7 w7 ⟨rfl, hw7⟩; obtain rfl := hw7)
        have HB8 : Hid (RuI w (u7.setCell ⟨g9, 2, none⟩ (.int .u64 sq)) ∧ Bo (u7.setCell ⟨g9, 2, none⟩ (.int .u64 sq)) g9 ⟨sec, x, sq, ⟨#[]⟩, ⟨#[]⟩, ⟨#[]⟩, ⟨#[]⟩, ⟨#[]⟩⟩ ∧ w.heap.size + 1 < g9) := ⟨HB7.out.1.set g9 2 _ HB7.out.2.2, HB7.out.2.1.set 2 _ rfl, HB7.out.2.2⟩
        generalize (u7.setCell ⟨g9, 2, none⟩ (.int .u64 sq)) = u8 at HB8 ⊢
        clear f2 c2 HB7
        have cv15 := HCv.out u8 HB8.out.1.below
        have f6 : u8.frozen? ⟨g9, 6, none⟩ = false := HB8.out.2.1.frozen 6
        have c6 : u8.cell? ⟨g9, 6, none⟩ = some (.string ⟨#[]⟩) := HB8.out.2.1.cell 6 _ rfl
        go_upto_region 16 with fail
        have HB9 : Hid (RuI w (u8.setCell ⟨g9, 6, none⟩ (.string slt)) ∧ Bo (u8.setCell ⟨g9, 6, none⟩ (.string slt)) g9 ⟨sec, x, sq, ⟨#[]⟩, ⟨#[]⟩, ⟨#[]⟩, slt, ⟨#[]⟩⟩ ∧ w.heap.size + 1 < g9) := ⟨HB8.out.1.set g9 6 _ HB8.out.2.2, HB8.out.2.1.set 6 _ rfl, HB8.out.2.2⟩
        generalize (u8.setCell ⟨g9, 6, none⟩ (.string slt)) = u9 at HB9 ⊢
        clear f6 c6 HB8
        clear cv15 s15 HCv HGs
        have HT16 := HTx.out u9 24 72 (by decide) (by omega) HB9.out.1.below
        go_upto_region 17 with (go_at_call 29; refine HT16.mono ?_; rintro e16 w16 ⟨⟨x1, rfl, hx1⟩, hw16⟩; obtain rfl := hw16)
        have Hx1 : Hid (txtB (cutL L 24 48) = true → x1 = txtS (cutL L 24 48)) := hx1
        clear hx1 HT16
        have HT17 := HTx.out u9 72 104 (by decide) (by omega) HB9.out.1.below
        go_upto_region 18 with (go_at_call 29; refine HT17.mono ?_; rintro e17 w17 ⟨⟨x2, rfl, hx2⟩, hw17⟩; obtain rfl := hw17)
        have Hx2 : Hid (txtB (cutL L 72 32) = true → x2 = txtS (cutL L 72 32)) := hx2
        clear hx2 HT17
        have HT18 := HTx.out u9 168 208 (by decide) (by omega) HB9.out.1.below
        go_upto_region 19 with (go_at_call 29; refine HT18.mono ?_; rintro e18 w18 ⟨⟨x3, rfl, hx3⟩, hw18⟩; obtain rfl := hw18)
        have Hx3 : Hid (txtB (cutL L 168 40) = true → x3 = txtS (cutL L 168 40)) := hx3
        clear hx3 HT18
        have HT19 := HTx.out u9 208 256 (by decide) (by omega) HB9.out.1.below
        go_upto_region 20 with (go_at_call 29; refine HT19.mono ?_; rintro e19 w19 ⟨⟨x4, rfl, hx4⟩, hw19⟩; obtain rfl := hw19)
        have Hx4 : Hid (txtB (cutL L 208 48) = true → x4 = txtS (cutL L 208 48)) := hx4
        clear hx4 HT19
        have c2 : u9.cell? ⟨g9, 2, none⟩ = some (.int .u64 sq) := HB9.out.2.1.cell 2 _ rfl
        have HR4q : Hid (rightB L sec 4 = seqB sq) := by show seqB (beN (cutL L 16 8)) = _; rw [← HSQ.out]
        have HR5 : Hid (rightB L sec 5 = txtB (cutL L 24 48)) := rfl
        have HR8 : Hid (rightB L sec 8 = txtB (cutL L 168 40)) := rfl
        have HR9 : Hid (rightB L sec 9 = txtB (cutL L 208 48)) := rfl
        have HR6 : Hid (rightB L sec 6 = (txtB (cutL L 72 32) && decide (txtS (cutL L 72 32) = strB sha256L))) := right6 L sec HL.out.2.2 HL.out.1
        generalize txtB (cutL L 24 (72 - 24)) = t1 at Hx1 HR5 ⊢
        generalize txtB (cutL L 72 (104 - 72)) = t2 at Hx2 HR6 ⊢
        generalize txtB (cutL L 168 (208 - 168)) = t3 at Hx3 HR8 ⊢
        generalize txtB (cutL L 208 (256 - 208)) = t4 at Hx4 HR9 ⊢
        by_cases hs1 : sq < 1
        · have HE : Hid (unpE L sec = 85) := unpE_85 HL.out.2.2 HR03.out (k := 4) (by decide) (by rw [HR4q.out]; unfold seqB; exact decide_eq_false (by omega))
          go_wp2_with (first | (refine wpList_load_mid (by rfl) 24 (.tmp 6) (by rfl) (w.heap.size + 1) 0 (by rfl) zHc.cells _ HB9.out.1.b6.range Tryd.underlying24 rfl (by kernel_rfl) ?_) | (refine wpList_store_bo (by rfl) (.tmp 4) (.tmp 106) (by rfl) zHc zHc w.heap.size (by rfl) (by rfl) HB9.out.1.b4 ?_; intro u99 hb99 hg99))
          refine ret_array2 (b := w.heap.size) zHc.cells (.int .i64 85) rfl rfl rfl hb99.range Tryd.underlying24 rfl (by kernel_rfl) ⟨by rw [HE.out, unpR_bad HE.out (by decide)], HB9.out.1.below.trans (below_gb hg99 HB9.out.1.below.size (Nat.le_refl _))⟩
        by_cases hs2 : 4611686018427387904 < sq
        · have hs1b : decide (sq < 1) = false := decide_eq_false hs1
          have HE : Hid (unpE L sec = 85) := unpE_85 HL.out.2.2 HR03.out (k := 4) (by decide) (by rw [HR4q.out]; unfold seqB; exact decide_eq_false (by omega))
          go_wp2_with (first | (refine wpList_load_mid (by rfl) 24 (.tmp 6) (by rfl) (w.heap.size + 1) 0 (by rfl) zHc.cells _ HB9.out.1.b6.range Tryd.underlying24 rfl (by kernel_rfl) ?_) | (refine wpList_store_bo (by rfl) (.tmp 4) (.tmp 106) (by rfl) zHc zHc w.heap.size (by rfl) (by rfl) HB9.out.1.b4 ?_; intro u99 hb99 hg99))
          refine ret_array2 (b := w.heap.size) zHc.cells (.int .i64 85) rfl rfl rfl hb99.range Tryd.underlying24 rfl (by kernel_rfl) ⟨by rw [HE.out, unpR_bad HE.out (by decide)], HB9.out.1.below.trans (below_gb hg99 HB9.out.1.below.size (Nat.le_refl _))⟩
        have hs1b : decide (sq < 1) = false := decide_eq_false hs1
        have hs2b : decide (4611686018427387904 < sq) = false := decide_eq_false hs2
        have r4 : rightB L sec 4 = true := by rw [HR4q.out]; unfold seqB; exact decide_eq_true (by omega)
        have HSR : Hid (1 ≤ sq ∧ sq ≤ 4611686018427387904) := ⟨by omega, by omega⟩
        clear hs1 hs2
        cases t1
        · have HE : Hid (unpE L sec = 85) := unpE_85 HL.out.2.2 HR03.out (k := 5) (by decide) (HR5.out)
          go_wp2_with (first | (refine wpList_load_mid (by rfl) 24 (.tmp 6) (by rfl) (w.heap.size + 1) 0 (by rfl) zHc.cells _ HB9.out.1.b6.range Tryd.underlying24 rfl (by kernel_rfl) ?_) | (refine wpList_store_bo (by rfl) (.tmp 4) (.tmp 106) (by rfl) zHc zHc w.heap.size (by rfl) (by rfl) HB9.out.1.b4 ?_; intro u99 hb99 hg99))
          refine ret_array2 (b := w.heap.size) zHc.cells (.int .i64 85) rfl rfl rfl hb99.range Tryd.underlying24 rfl (by kernel_rfl) ⟨by rw [HE.out, unpR_bad HE.out (by decide)], HB9.out.1.below.trans (below_gb hg99 HB9.out.1.below.size (Nat.le_refl _))⟩
        cases t2
        · have HE : Hid (unpE L sec = 85) := unpE_85 HL.out.2.2 HR03.out (k := 6) (by decide) (by rw [HR6.out]; rfl)
          go_wp2_with (first | (refine wpList_load_mid (by rfl) 24 (.tmp 6) (by rfl) (w.heap.size + 1) 0 (by rfl) zHc.cells _ HB9.out.1.b6.range Tryd.underlying24 rfl (by kernel_rfl) ?_) | (refine wpList_store_bo (by rfl) (.tmp 4) (.tmp 106) (by rfl) zHc zHc w.heap.size (by rfl) (by rfl) HB9.out.1.b4 ?_; intro u99 hb99 hg99))
          refine ret_array2 (b := w.heap.size) zHc.cells (.int .i64 85) rfl rfl rfl hb99.range Tryd.underlying24 rfl (by kernel_rfl) ⟨by rw [HE.out, unpR_bad HE.out (by decide)], HB9.out.1.below.trans (below_gb hg99 HB9.out.1.below.size (Nat.le_refl _))⟩
        cases t3
        · have HE : Hid (unpE L sec = 85) := unpE_85 HL.out.2.2 HR03.out (k := 8) (by decide) (HR8.out)
          go_wp2_with (first | (refine wpList_load_mid (by rfl) 24 (.tmp 6) (by rfl) (w.heap.size + 1) 0 (by rfl) zHc.cells _ HB9.out.1.b6.range Tryd.underlying24 rfl (by kernel_rfl) ?_) | (refine wpList_store_bo (by rfl) (.tmp 4) (.tmp 106) (by rfl) zHc zHc w.heap.size (by rfl) (by rfl) HB9.out.1.b4 ?_; intro u99 hb99 hg99))
          refine ret_array2 (b := w.heap.size) zHc.cells (.int .i64 85) rfl rfl rfl hb99.range Tryd.underlying24 rfl (by kernel_rfl) ⟨by rw [HE.out, unpR_bad HE.out (by decide)], HB9.out.1.below.trans (below_gb hg99 HB9.out.1.below.size (Nat.le_refl _))⟩
        cases t4
        · have HE : Hid (unpE L sec = 85) := unpE_85 HL.out.2.2 HR03.out (k := 9) (by decide) (HR9.out)
          go_wp2_with (first | (refine wpList_load_mid (by rfl) 24 (.tmp 6) (by rfl) (w.heap.size + 1) 0 (by rfl) zHc.cells _ HB9.out.1.b6.range Tryd.underlying24 rfl (by kernel_rfl) ?_) | (refine wpList_store_bo (by rfl) (.tmp 4) (.tmp 106) (by rfl) zHc zHc w.heap.size (by rfl) (by rfl) HB9.out.1.b4 ?_; intro u99 hb99 hg99))
          refine ret_array2 (b := w.heap.size) zHc.cells (.int .i64 85) rfl rfl rfl hb99.range Tryd.underlying24 rfl (by kernel_rfl) ⟨by rw [HE.out, unpR_bad HE.out (by decide)], HB9.out.1.below.trans (below_gb hg99 HB9.out.1.below.size (Nat.le_refl _))⟩
        have E2 := Hx2.out rfl
        rcases (Decidable.em (x2 = strB sha256L)).symm with hal | hal
        · have hcm : (x2.toList == [115, 104, 97, 50, 53, 54]) = false := by have q := toList_beq x2 (strB sha256L); rw [sha_list] at q; rw [q]; exact decide_eq_false hal
          have HNE : Hid (x2 ≠ strB sha256L) := hal
          have HXE : Hid (x2 = txtS (cutL L 72 (104 - 72))) := E2
          clear hal E2
          have HE : Hid (unpE L sec = 85) := unpE_85 HL.out.2.2 HR03.out (k := 6) (by decide) (by rw [HR6.out, Bool.true_and]; exact decide_eq_false (fun e => HNE.out (HXE.out.trans e)))
          go_wp2_with (first | (refine wpList_load_mid (by rfl) 24 (.tmp 6) (by rfl) (w.heap.size + 1) 0 (by rfl) zHc.cells _ HB9.out.1.b6.range Tryd.underlying24 rfl (by kernel_rfl) ?_) | (refine wpList_store_bo (by rfl) (.tmp 4) (.tmp 106) (by rfl) zHc zHc w.heap.size (by rfl) (by rfl) HB9.out.1.b4 ?_; intro u99 hb99 hg99))
          refine ret_array2 (b := w.heap.size) zHc.cells (.int .i64 85) rfl rfl rfl hb99.range Tryd.underlying24 rfl (by kernel_rfl) ⟨by rw [HE.out, unpR_bad HE.out (by decide)], HB9.out.1.below.trans (below_gb hg99 HB9.out.1.below.size (Nat.le_refl _))⟩
        · have hcm : (x2.toList == [115, 104, 97, 50, 53, 54]) = true := by have q := toList_beq x2 (strB sha256L); rw [sha_list] at q; rw [q]; exact decide_eq_true hal
          have r6 : rightB L sec 6 = true := by rw [HR6.out, Bool.true_and]; exact decide_eq_true (E2.symm.trans hal)
          clear hal E2
          go_upto_region 22 with fail
          have r5 : rightB L sec 5 = true := HR5.out
          have r8 : rightB L sec 8 = true := HR8.out
          have r9 : rightB L sec 9 = true := HR9.out
          clear HR5 HR6 HR8 HR9 HR4q hcm hs1b hs2b c2
          obtain ⟨stt, HSTT⟩ : ∃ z : Int, Hid (z = (⟨sec, x, sq, ⟨#[]⟩, ⟨#[]⟩, ⟨#[]⟩, slt, ⟨#[]⟩⟩ : Hc).start) := ⟨_, rfl⟩
          have HST : Hid (stt = (rdC L sec 10).start ∧ 0 ≤ stt ∧ stt < 18446744073709551616) := by
            have e : stt = if sec then x else 0 := HSTT.out
            refine ⟨by rw [rd_start, ← HX.out]; exact e, ?_, ?_⟩
            · rw [e]; split <;> omega
            · rw [e]; split <;> omega
          have HR10 : Hid (rightB L sec 10 = decide (beN (cutL L 256 8) = stt)) := by
            rw [HST.out.1]
            exact right10 L sec HL.out.2.2 HL.out.1 (by rw [← HST.out.1]; exact HST.out.2.1) (by rw [← HST.out.1]; exact HST.out.2.2)
          have HR11 : Hid (rightB L sec 11 = decide (rtz (cutL L 264 184) 184 ≤ 0)) := right11 L sec HL.out.2.2
          have HR12 : Hid (rightB L sec 12 = decide (rtz (cutL L 480 3616) 3616 ≤ 0)) := right12 L sec HL.out.2.2
          obtain ⟨gt, HGT⟩ : ∃ z : Int, Hid (z = beN (cutL L 256 8)) := ⟨_, rfl⟩
          rw [← HGT.out] at HR10
          have eS : IntKind.u64.wrap stt = stt := wrapU _ HST.out.2.1 HST.out.2.2
          have hS0 : Below u9.heap.size u9 u9.drew := (Below.refl _ _).drew
          have HB10 : Hid (∀ u, Below u9.heap.size u9 u → Below w.heap.size w u) := fun u hu => HB9.out.1.below.trans (hu.mono HB9.out.1.below.size)
          have HG10 : Hid (∀ u, Below u9.heap.size u9 u → Calls Tryd.prog 28 #[.slice (some ⟨b, o, none⟩) N cp, .int .i64 256, .int .i64 8] u fun e w' => e = .returned (.int .u64 gt) ∧ u = w') := fun u hu => by
            rw [HGT.out]
            exact rget_ok b o N cp 256 8 L u HL.out.2.1 (by omega) (by decide) (by decide) HL.out.1 (HBy.out u (HB10.out u hu))
          have HBg : Hid (∀ u, Calls Tryd.prog 25 #[.agg (⟨sec, x, sq, ⟨#[]⟩, ⟨#[]⟩, ⟨#[]⟩, slt, ⟨#[]⟩⟩ : Hc).cells.toArray] u fun e w' => e = .returned (.int .i64 stt) ∧ Below u.heap.size u w') := fun u => by
            rw [HSTT.out]
            exact rbegin_ok _ u
          have HZ1 : Hid (∀ u, Below u9.heap.size u9 u → Calls Tryd.prog 30 #[.slice (some ⟨b, o, none⟩) N cp, .int .i64 264, .int .i64 448] u fun e w' => e = .returned (.bool (rightB L sec 11)) ∧ u = w') := fun u hu => by
            rw [HR11.out]
            exact rzeros_ok b o N cp 264 448 L u HL.out.2.1 (by decide) (by omega) (by decide) (HBy.out u (HB10.out u hu))
          have HZ2 : Hid (∀ u, Below u9.heap.size u9 u → Calls Tryd.prog 30 #[.slice (some ⟨b, o, none⟩) N cp, .int .i64 480, .int .i64 4096] u fun e w' => e = .returned (.bool (rightB L sec 12)) ∧ u = w') := fun u hu => by
            rw [HR12.out]
            exact rzeros_ok b o N cp 480 4096 L u HL.out.2.1 (by decide) (by omega) (by decide) (HBy.out u (HB10.out u hu))
          have hrs : ∀ u, Below u9.heap.size u9 u → u.rangeAt g9 0 (⟨sec, x, sq, ⟨#[]⟩, ⟨#[]⟩, ⟨#[]⟩, slt, ⟨#[]⟩⟩ : Hc).cells := fun u hu => (HB9.out.2.1.below hu).range
          clear HTx
          cases r10 : rightB L sec 10
          · have dg : (gt != stt) = true := by have q := HR10.out; rw [r10] at q; have := of_decide_eq_false q.symm; simpa using this
            refine wp_region_noPanic ?_
            refine wp_region_held_drew (S := fun u => Below u9.heap.size u9 u) (by kernel_rfl) (hS0) (fun _ => ?_)
            refine takeH_at 0 107 (.slice (some ⟨b, o, none⟩) N cp) rfl rfl (by kernel_rfl) (by kernel_rfl) (by kernel_rfl) (fun _ _ _ h => h) (hS0) (Or.inl ⟨by kernel_rfl, fun w' hS' => by go_simp⟩) ?_
            simp only [List.setIfInBounds_toArray, List.set_cons_zero, List.set_cons_succ]
            refine takeH_at 2 109 (.agg (⟨sec, x, sq, ⟨#[]⟩, ⟨#[]⟩, ⟨#[]⟩, slt, ⟨#[]⟩⟩ : Hc).cells.toArray) rfl rfl (by kernel_rfl) (by kernel_rfl) (by kernel_rfl) (fun _ _ _ h => h) (hS0) (yieldsIf_load_mid (by kernel_rfl) 24 (.tmp 9) rfl g9 0 rfl (⟨sec, x, sq, ⟨#[]⟩, ⟨#[]⟩, ⟨#[]⟩, slt, ⟨#[]⟩⟩ : Hc).cells _ hrs Tryd.underlying24 rfl (by kernel_rfl)) ?_
            simp only [List.setIfInBounds_toArray, List.set_cons_zero, List.set_cons_succ]
            refine wpAnyH_ready (rs := [1]) (by kernel_rfl) (by simp) ?_
            refine AllReadyH.cons rfl (fun Kx hK => ?_) AllReadyH.nil
            rw [if_pos (by kernel_rfl)]
            go_simp
            refine (HG10.out _ hS0).mono ?_
            intro e1 q1 hh
            obtain ⟨he, hq1⟩ := hh
            subst he
            subst hq1
            have hS1 := hS0
            go_wp2_with fail
            refine hK.out _ _ hS1 (fun _ => ?_)
            clear hK Kx
            try simp only [Act.put, List.setIfInBounds_toArray, List.set_cons_zero, List.set_cons_succ]
            refine wpAnyH_ready (rs := [3]) (by kernel_rfl) (by simp) ?_
            refine AllReadyH.cons rfl (fun Kx hK => ?_) AllReadyH.nil
            rw [if_pos (by kernel_rfl)]
            go_simp
            refine (HBg.out _).mono ?_
            intro e1 q2 hh
            obtain ⟨he, hq2⟩ := hh
            subst he
            have hS2 : Below u9.heap.size u9 q2 := (hS1).trans (hq2.mono (hS1).size)
            go_wp2_with fail
            refine hK.out _ _ hS2 (fun _ => ?_)
            clear hK Kx
            try simp only [Act.put, List.setIfInBounds_toArray, List.set_cons_zero, List.set_cons_succ]
            refine takeH_at 4 111 (.int .u64 stt) rfl rfl (by kernel_rfl) (by kernel_rfl) (by kernel_rfl) (fun _ _ _ h => h) (hS2) (Or.inl ⟨by kernel_rfl, fun w' hS' => by go_simp⟩) ?_
            simp only [List.setIfInBounds_toArray, List.set_cons_zero, List.set_cons_succ]
            refine takeH_at 5 112 (.bool true) rfl rfl (by kernel_rfl) (by kernel_rfl) (by kernel_rfl) (fun _ _ _ h => h) (hS2) (Or.inl ⟨by kernel_rfl, fun w' hS' => by go_simp⟩) ?_
            simp only [List.setIfInBounds_toArray, List.set_cons_zero, List.set_cons_succ]
            refine takeH_at 6 113 (.bool true) rfl rfl (by kernel_rfl) (by kernel_rfl) (by kernel_rfl) (fun _ _ _ h => h) (hS2) (Or.inl ⟨by kernel_rfl, fun w' hS' => by go_simp⟩) ?_
            simp only [List.setIfInBounds_toArray, List.set_cons_zero, List.set_cons_succ]
            refine takeH_at 7 114 undef rfl rfl (by kernel_rfl) (by kernel_rfl) (by kernel_rfl) (fun _ _ _ h => h) (hS2) (Or.inr ⟨by kernel_rfl, rfl⟩) ?_
            simp only [List.setIfInBounds_toArray, List.set_cons_zero, List.set_cons_succ]
            refine takeH_at 8 115 undef rfl rfl (by kernel_rfl) (by kernel_rfl) (by kernel_rfl) (fun _ _ _ h => h) (hS2) (Or.inr ⟨by kernel_rfl, rfl⟩) ?_
            simp only [List.setIfInBounds_toArray, List.set_cons_zero, List.set_cons_succ]
            refine takeH_at 9 116 undef rfl rfl (by kernel_rfl) (by kernel_rfl) (by kernel_rfl) (fun _ _ _ h => h) (hS2) (Or.inr ⟨by kernel_rfl, rfl⟩) ?_
            simp only [List.setIfInBounds_toArray, List.set_cons_zero, List.set_cons_succ]
            refine takeH_at 10 117 (.bool true) rfl rfl (by kernel_rfl) (by kernel_rfl) (by kernel_rfl) (fun _ _ _ h => h) (hS2) (Or.inl ⟨by kernel_rfl, fun w' hS' => by go_simp⟩) ?_
            simp only [List.setIfInBounds_toArray, List.set_cons_zero, List.set_cons_succ]
            refine takeH_at 11 118 (.bool true) rfl rfl (by kernel_rfl) (by kernel_rfl) (by kernel_rfl) (fun _ _ _ h => h) (hS2) (Or.inl ⟨by kernel_rfl, fun w' hS' => by go_simp⟩) ?_
            simp only [List.setIfInBounds_toArray, List.set_cons_zero, List.set_cons_succ]
            refine takeH_at 12 119 undef rfl rfl (by kernel_rfl) (by kernel_rfl) (by kernel_rfl) (fun _ _ _ h => h) (hS2) (Or.inr ⟨by kernel_rfl, rfl⟩) ?_
            simp only [List.setIfInBounds_toArray, List.set_cons_zero, List.set_cons_succ]
            refine takeH_at 13 120 undef rfl rfl (by kernel_rfl) (by kernel_rfl) (by kernel_rfl) (fun _ _ _ h => h) (hS2) (Or.inr ⟨by kernel_rfl, rfl⟩) ?_
            simp only [List.setIfInBounds_toArray, List.set_cons_zero, List.set_cons_succ]
            refine takeH_at 14 121 undef rfl rfl (by kernel_rfl) (by kernel_rfl) (by kernel_rfl) (fun _ _ _ h => h) (hS2) (Or.inr ⟨by kernel_rfl, rfl⟩) ?_
            simp only [List.setIfInBounds_toArray, List.set_cons_zero, List.set_cons_succ]
            refine takeH_at 15 122 (.bool true) rfl rfl (by kernel_rfl) (by kernel_rfl) (by kernel_rfl) (fun _ _ _ h => h) (hS2) (Or.inl ⟨by kernel_rfl, fun w' hS' => by go_simp⟩) ?_
            simp only [List.setIfInBounds_toArray, List.set_cons_zero, List.set_cons_succ]
            refine wpAnyH_done (by kernel_rfl) ?_ _
            refine NoPanic.normal ?_
            have HB11 : Hid (RuI w q2 ∧ Bo q2 g9 (⟨sec, x, sq, ⟨#[]⟩, ⟨#[]⟩, ⟨#[]⟩, slt, ⟨#[]⟩⟩ : Hc) ∧ w.heap.size + 1 < g9) := ⟨HB9.out.1.kept hS2, HB9.out.2.1.below hS2, HB9.out.2.2⟩
            have HE : Hid (unpE L sec = 85) := unpE_85 HL.out.2.2 HR03.out (k := 10) (by decide) (r10)
            go_wp2_with (first | (refine wpList_load_mid (by rfl) 24 (.tmp 6) (by rfl) (w.heap.size + 1) 0 (by rfl) zHc.cells _ HB11.out.1.b6.range Tryd.underlying24 rfl (by kernel_rfl) ?_) | (refine wpList_store_bo (by rfl) (.tmp 4) (.tmp 123) (by rfl) zHc zHc w.heap.size (by rfl) (by rfl) HB11.out.1.b4 ?_; intro u99 hb99 hg99))
            refine ret_array2 (b := w.heap.size) zHc.cells (.int .i64 85) rfl rfl rfl hb99.range Tryd.underlying24 rfl (by kernel_rfl) ⟨by rw [HE.out, unpR_bad HE.out (by decide)], HB11.out.1.below.trans (below_gb hg99 HB11.out.1.below.size (Nat.le_refl _))⟩
          have dg : (gt != stt) = false := by have q := HR10.out; rw [r10] at q; have := of_decide_eq_true q.symm; simpa using this
          cases r11 : rightB L sec 11
          · refine wp_region_noPanic ?_
            refine wp_region_held_drew (S := fun u => Below u9.heap.size u9 u) (by kernel_rfl) (hS0) (fun _ => ?_)
            refine takeH_at 0 107 (.slice (some ⟨b, o, none⟩) N cp) rfl rfl (by kernel_rfl) (by kernel_rfl) (by kernel_rfl) (fun _ _ _ h => h) (hS0) (Or.inl ⟨by kernel_rfl, fun w' hS' => by go_simp⟩) ?_
            simp only [List.setIfInBounds_toArray, List.set_cons_zero, List.set_cons_succ]
            refine takeH_at 2 109 (.agg (⟨sec, x, sq, ⟨#[]⟩, ⟨#[]⟩, ⟨#[]⟩, slt, ⟨#[]⟩⟩ : Hc).cells.toArray) rfl rfl (by kernel_rfl) (by kernel_rfl) (by kernel_rfl) (fun _ _ _ h => h) (hS0) (yieldsIf_load_mid (by kernel_rfl) 24 (.tmp 9) rfl g9 0 rfl (⟨sec, x, sq, ⟨#[]⟩, ⟨#[]⟩, ⟨#[]⟩, slt, ⟨#[]⟩⟩ : Hc).cells _ hrs Tryd.underlying24 rfl (by kernel_rfl)) ?_
            simp only [List.setIfInBounds_toArray, List.set_cons_zero, List.set_cons_succ]
            refine wpAnyH_ready (rs := [1]) (by kernel_rfl) (by simp) ?_
            refine AllReadyH.cons rfl (fun Kx hK => ?_) AllReadyH.nil
            rw [if_pos (by kernel_rfl)]
            go_simp
            refine (HG10.out _ hS0).mono ?_
            intro e1 q1 hh
            obtain ⟨he, hq1⟩ := hh
            subst he
            subst hq1
            have hS1 := hS0
            go_wp2_with fail
            refine hK.out _ _ hS1 (fun _ => ?_)
            clear hK Kx
            try simp only [Act.put, List.setIfInBounds_toArray, List.set_cons_zero, List.set_cons_succ]
            refine wpAnyH_ready (rs := [3]) (by kernel_rfl) (by simp) ?_
            refine AllReadyH.cons rfl (fun Kx hK => ?_) AllReadyH.nil
            rw [if_pos (by kernel_rfl)]
            go_simp
            refine (HBg.out _).mono ?_
            intro e1 q2 hh
            obtain ⟨he, hq2⟩ := hh
            subst he
            have hS2 : Below u9.heap.size u9 q2 := (hS1).trans (hq2.mono (hS1).size)
            go_wp2_with fail
            refine hK.out _ _ hS2 (fun _ => ?_)
            clear hK Kx
            try simp only [Act.put, List.setIfInBounds_toArray, List.set_cons_zero, List.set_cons_succ]
            refine takeH_at 4 111 (.int .u64 stt) rfl rfl (by kernel_rfl) (by kernel_rfl) (by kernel_rfl) (fun _ _ _ h => h) (hS2) (Or.inl ⟨by kernel_rfl, fun w' hS' => by go_simp⟩) ?_
            simp only [List.setIfInBounds_toArray, List.set_cons_zero, List.set_cons_succ]
            refine takeH_at 5 112 (.bool false) rfl rfl (by kernel_rfl) (by kernel_rfl) (by kernel_rfl) (fun _ _ _ h => h) (hS2) (Or.inl ⟨by kernel_rfl, fun w' hS' => by go_simp⟩) ?_
            simp only [List.setIfInBounds_toArray, List.set_cons_zero, List.set_cons_succ]
            refine takeH_at 6 113 (.bool false) rfl rfl (by kernel_rfl) (by kernel_rfl) (by kernel_rfl) (fun _ _ _ h => h) (hS2) (Or.inl ⟨by kernel_rfl, fun w' hS' => by go_simp⟩) ?_
            simp only [List.setIfInBounds_toArray, List.set_cons_zero, List.set_cons_succ]
            refine takeH_at 7 114 (.slice (some ⟨b, o, none⟩) N cp) rfl rfl (by kernel_rfl) (by kernel_rfl) (by kernel_rfl) (fun _ _ _ h => h) (hS2) (Or.inl ⟨by kernel_rfl, fun w' hS' => by go_simp⟩) ?_
            simp only [List.setIfInBounds_toArray, List.set_cons_zero, List.set_cons_succ]
            refine wpAnyH_ready (rs := [8]) (by kernel_rfl) (by simp) ?_
            refine AllReadyH.cons rfl (fun Kx hK => ?_) AllReadyH.nil
            rw [if_pos (by kernel_rfl)]
            go_simp
            refine (HZ1.out _ hS2).mono ?_
            intro e1 q3 hh
            obtain ⟨he, hq3⟩ := hh
            subst he; rw [r11]
            subst hq3
            have hS3 := hS2
            go_wp2_with fail
            refine hK.out _ _ hS3 (fun _ => ?_)
            clear hK Kx
            try simp only [Act.put, List.setIfInBounds_toArray, List.set_cons_zero, List.set_cons_succ]
            refine takeH_at 9 116 (.bool true) rfl rfl (by kernel_rfl) (by kernel_rfl) (by kernel_rfl) (fun _ _ _ h => h) (hS3) (Or.inl ⟨by kernel_rfl, fun w' hS' => by go_simp⟩) ?_
            simp only [List.setIfInBounds_toArray, List.set_cons_zero, List.set_cons_succ]
            refine takeH_at 10 117 (.bool true) rfl rfl (by kernel_rfl) (by kernel_rfl) (by kernel_rfl) (fun _ _ _ h => h) (hS3) (Or.inl ⟨by kernel_rfl, fun w' hS' => by go_simp⟩) ?_
            simp only [List.setIfInBounds_toArray, List.set_cons_zero, List.set_cons_succ]
            refine takeH_at 11 118 (.bool true) rfl rfl (by kernel_rfl) (by kernel_rfl) (by kernel_rfl) (fun _ _ _ h => h) (hS3) (Or.inl ⟨by kernel_rfl, fun w' hS' => by go_simp⟩) ?_
            simp only [List.setIfInBounds_toArray, List.set_cons_zero, List.set_cons_succ]
            refine takeH_at 12 119 undef rfl rfl (by kernel_rfl) (by kernel_rfl) (by kernel_rfl) (fun _ _ _ h => h) (hS3) (Or.inr ⟨by kernel_rfl, rfl⟩) ?_
            simp only [List.setIfInBounds_toArray, List.set_cons_zero, List.set_cons_succ]
            refine takeH_at 13 120 undef rfl rfl (by kernel_rfl) (by kernel_rfl) (by kernel_rfl) (fun _ _ _ h => h) (hS3) (Or.inr ⟨by kernel_rfl, rfl⟩) ?_
            simp only [List.setIfInBounds_toArray, List.set_cons_zero, List.set_cons_succ]
            refine takeH_at 14 121 undef rfl rfl (by kernel_rfl) (by kernel_rfl) (by kernel_rfl) (fun _ _ _ h => h) (hS3) (Or.inr ⟨by kernel_rfl, rfl⟩) ?_
            simp only [List.setIfInBounds_toArray, List.set_cons_zero, List.set_cons_succ]
            refine takeH_at 15 122 (.bool true) rfl rfl (by kernel_rfl) (by kernel_rfl) (by kernel_rfl) (fun _ _ _ h => h) (hS3) (Or.inl ⟨by kernel_rfl, fun w' hS' => by go_simp⟩) ?_
            simp only [List.setIfInBounds_toArray, List.set_cons_zero, List.set_cons_succ]
            refine wpAnyH_done (by kernel_rfl) ?_ _
            refine NoPanic.normal ?_
            have HB11 : Hid (RuI w q2 ∧ Bo q2 g9 (⟨sec, x, sq, ⟨#[]⟩, ⟨#[]⟩, ⟨#[]⟩, slt, ⟨#[]⟩⟩ : Hc) ∧ w.heap.size + 1 < g9) := ⟨HB9.out.1.kept hS3, HB9.out.2.1.below hS3, HB9.out.2.2⟩
            have HE : Hid (unpE L sec = 85) := unpE_85 HL.out.2.2 HR03.out (k := 11) (by decide) (r11)
            go_wp2_with (first | (refine wpList_load_mid (by rfl) 24 (.tmp 6) (by rfl) (w.heap.size + 1) 0 (by rfl) zHc.cells _ HB11.out.1.b6.range Tryd.underlying24 rfl (by kernel_rfl) ?_) | (refine wpList_store_bo (by rfl) (.tmp 4) (.tmp 123) (by rfl) zHc zHc w.heap.size (by rfl) (by rfl) HB11.out.1.b4 ?_; intro u99 hb99 hg99))
            refine ret_array2 (b := w.heap.size) zHc.cells (.int .i64 85) rfl rfl rfl hb99.range Tryd.underlying24 rfl (by kernel_rfl) ⟨by rw [HE.out, unpR_bad HE.out (by decide)], HB11.out.1.below.trans (below_gb hg99 HB11.out.1.below.size (Nat.le_refl _))⟩
          cases r12 : rightB L sec 12
          · refine wp_region_noPanic ?_
            refine wp_region_held_drew (S := fun u => Below u9.heap.size u9 u) (by kernel_rfl) (hS0) (fun _ => ?_)
            refine takeH_at 0 107 (.slice (some ⟨b, o, none⟩) N cp) rfl rfl (by kernel_rfl) (by kernel_rfl) (by kernel_rfl) (fun _ _ _ h => h) (hS0) (Or.inl ⟨by kernel_rfl, fun w' hS' => by go_simp⟩) ?_
            simp only [List.setIfInBounds_toArray, List.set_cons_zero, List.set_cons_succ]
            refine takeH_at 2 109 (.agg (⟨sec, x, sq, ⟨#[]⟩, ⟨#[]⟩, ⟨#[]⟩, slt, ⟨#[]⟩⟩ : Hc).cells.toArray) rfl rfl (by kernel_rfl) (by kernel_rfl) (by kernel_rfl) (fun _ _ _ h => h) (hS0) (yieldsIf_load_mid (by kernel_rfl) 24 (.tmp 9) rfl g9 0 rfl (⟨sec, x, sq, ⟨#[]⟩, ⟨#[]⟩, ⟨#[]⟩, slt, ⟨#[]⟩⟩ : Hc).cells _ hrs Tryd.underlying24 rfl (by kernel_rfl)) ?_
            simp only [List.setIfInBounds_toArray, List.set_cons_zero, List.set_cons_succ]
            refine wpAnyH_ready (rs := [1]) (by kernel_rfl) (by simp) ?_
            refine AllReadyH.cons rfl (fun Kx hK => ?_) AllReadyH.nil
            rw [if_pos (by kernel_rfl)]
            go_simp
            refine (HG10.out _ hS0).mono ?_
            intro e1 q1 hh
            obtain ⟨he, hq1⟩ := hh
            subst he
            subst hq1
            have hS1 := hS0
            go_wp2_with fail
            refine hK.out _ _ hS1 (fun _ => ?_)
            clear hK Kx
            try simp only [Act.put, List.setIfInBounds_toArray, List.set_cons_zero, List.set_cons_succ]
            refine wpAnyH_ready (rs := [3]) (by kernel_rfl) (by simp) ?_
            refine AllReadyH.cons rfl (fun Kx hK => ?_) AllReadyH.nil
            rw [if_pos (by kernel_rfl)]
            go_simp
            refine (HBg.out _).mono ?_
            intro e1 q2 hh
            obtain ⟨he, hq2⟩ := hh
            subst he
            have hS2 : Below u9.heap.size u9 q2 := (hS1).trans (hq2.mono (hS1).size)
            go_wp2_with fail
            refine hK.out _ _ hS2 (fun _ => ?_)
            clear hK Kx
            try simp only [Act.put, List.setIfInBounds_toArray, List.set_cons_zero, List.set_cons_succ]
            refine takeH_at 4 111 (.int .u64 stt) rfl rfl (by kernel_rfl) (by kernel_rfl) (by kernel_rfl) (fun _ _ _ h => h) (hS2) (Or.inl ⟨by kernel_rfl, fun w' hS' => by go_simp⟩) ?_
            simp only [List.setIfInBounds_toArray, List.set_cons_zero, List.set_cons_succ]
            refine takeH_at 5 112 (.bool false) rfl rfl (by kernel_rfl) (by kernel_rfl) (by kernel_rfl) (fun _ _ _ h => h) (hS2) (Or.inl ⟨by kernel_rfl, fun w' hS' => by go_simp⟩) ?_
            simp only [List.setIfInBounds_toArray, List.set_cons_zero, List.set_cons_succ]
            refine takeH_at 6 113 (.bool false) rfl rfl (by kernel_rfl) (by kernel_rfl) (by kernel_rfl) (fun _ _ _ h => h) (hS2) (Or.inl ⟨by kernel_rfl, fun w' hS' => by go_simp⟩) ?_
            simp only [List.setIfInBounds_toArray, List.set_cons_zero, List.set_cons_succ]
            refine takeH_at 7 114 (.slice (some ⟨b, o, none⟩) N cp) rfl rfl (by kernel_rfl) (by kernel_rfl) (by kernel_rfl) (fun _ _ _ h => h) (hS2) (Or.inl ⟨by kernel_rfl, fun w' hS' => by go_simp⟩) ?_
            simp only [List.setIfInBounds_toArray, List.set_cons_zero, List.set_cons_succ]
            refine wpAnyH_ready (rs := [8]) (by kernel_rfl) (by simp) ?_
            refine AllReadyH.cons rfl (fun Kx hK => ?_) AllReadyH.nil
            rw [if_pos (by kernel_rfl)]
            go_simp
            refine (HZ1.out _ hS2).mono ?_
            intro e1 q3 hh
            obtain ⟨he, hq3⟩ := hh
            subst he; rw [r11]
            subst hq3
            have hS3 := hS2
            go_wp2_with fail
            refine hK.out _ _ hS3 (fun _ => ?_)
            clear hK Kx
            try simp only [Act.put, List.setIfInBounds_toArray, List.set_cons_zero, List.set_cons_succ]
            refine takeH_at 9 116 (.bool false) rfl rfl (by kernel_rfl) (by kernel_rfl) (by kernel_rfl) (fun _ _ _ h => h) (hS3) (Or.inl ⟨by kernel_rfl, fun w' hS' => by go_simp⟩) ?_
            simp only [List.setIfInBounds_toArray, List.set_cons_zero, List.set_cons_succ]
            refine takeH_at 10 117 (.bool false) rfl rfl (by kernel_rfl) (by kernel_rfl) (by kernel_rfl) (fun _ _ _ h => h) (hS3) (Or.inl ⟨by kernel_rfl, fun w' hS' => by go_simp⟩) ?_
            simp only [List.setIfInBounds_toArray, List.set_cons_zero, List.set_cons_succ]
            refine takeH_at 11 118 (.bool false) rfl rfl (by kernel_rfl) (by kernel_rfl) (by kernel_rfl) (fun _ _ _ h => h) (hS3) (Or.inl ⟨by kernel_rfl, fun w' hS' => by go_simp⟩) ?_
            simp only [List.setIfInBounds_toArray, List.set_cons_zero, List.set_cons_succ]
            refine takeH_at 12 119 (.slice (some ⟨b, o, none⟩) N cp) rfl rfl (by kernel_rfl) (by kernel_rfl) (by kernel_rfl) (fun _ _ _ h => h) (hS3) (Or.inl ⟨by kernel_rfl, fun w' hS' => by go_simp⟩) ?_
            simp only [List.setIfInBounds_toArray, List.set_cons_zero, List.set_cons_succ]
            refine wpAnyH_ready (rs := [13]) (by kernel_rfl) (by simp) ?_
            refine AllReadyH.cons rfl (fun Kx hK => ?_) AllReadyH.nil
            rw [if_pos (by kernel_rfl)]
            go_simp
            refine (HZ2.out _ hS3).mono ?_
            intro e1 q4 hh
            obtain ⟨he, hq4⟩ := hh
            subst he; rw [r12]
            subst hq4
            have hS4 := hS3
            go_wp2_with fail
            refine hK.out _ _ hS4 (fun _ => ?_)
            clear hK Kx
            try simp only [Act.put, List.setIfInBounds_toArray, List.set_cons_zero, List.set_cons_succ]
            refine takeH_at 14 121 (.bool true) rfl rfl (by kernel_rfl) (by kernel_rfl) (by kernel_rfl) (fun _ _ _ h => h) (hS4) (Or.inl ⟨by kernel_rfl, fun w' hS' => by go_simp⟩) ?_
            simp only [List.setIfInBounds_toArray, List.set_cons_zero, List.set_cons_succ]
            refine takeH_at 15 122 (.bool true) rfl rfl (by kernel_rfl) (by kernel_rfl) (by kernel_rfl) (fun _ _ _ h => h) (hS4) (Or.inl ⟨by kernel_rfl, fun w' hS' => by go_simp⟩) ?_
            simp only [List.setIfInBounds_toArray, List.set_cons_zero, List.set_cons_succ]
            refine wpAnyH_done (by kernel_rfl) ?_ _
            refine NoPanic.normal ?_
            have HB11 : Hid (RuI w q2 ∧ Bo q2 g9 (⟨sec, x, sq, ⟨#[]⟩, ⟨#[]⟩, ⟨#[]⟩, slt, ⟨#[]⟩⟩ : Hc) ∧ w.heap.size + 1 < g9) := ⟨HB9.out.1.kept hS4, HB9.out.2.1.below hS4, HB9.out.2.2⟩
            have HE : Hid (unpE L sec = 85) := unpE_85 HL.out.2.2 HR03.out (k := 12) (by decide) (r12)
            go_wp2_with (first | (refine wpList_load_mid (by rfl) 24 (.tmp 6) (by rfl) (w.heap.size + 1) 0 (by rfl) zHc.cells _ HB11.out.1.b6.range Tryd.underlying24 rfl (by kernel_rfl) ?_) | (refine wpList_store_bo (by rfl) (.tmp 4) (.tmp 123) (by rfl) zHc zHc w.heap.size (by rfl) (by rfl) HB11.out.1.b4 ?_; intro u99 hb99 hg99))
            refine ret_array2 (b := w.heap.size) zHc.cells (.int .i64 85) rfl rfl rfl hb99.range Tryd.underlying24 rfl (by kernel_rfl) ⟨by rw [HE.out, unpR_bad HE.out (by decide)], HB11.out.1.below.trans (below_gb hg99 HB11.out.1.below.size (Nat.le_refl _))⟩
          · refine wp_region_noPanic ?_
            refine wp_region_held_drew (S := fun u => Below u9.heap.size u9 u) (by kernel_rfl) (hS0) (fun _ => ?_)
            refine takeH_at 0 107 (.slice (some ⟨b, o, none⟩) N cp) rfl rfl (by kernel_rfl) (by kernel_rfl) (by kernel_rfl) (fun _ _ _ h => h) (hS0) (Or.inl ⟨by kernel_rfl, fun w' hS' => by go_simp⟩) ?_
            simp only [List.setIfInBounds_toArray, List.set_cons_zero, List.set_cons_succ]
            refine takeH_at 2 109 (.agg (⟨sec, x, sq, ⟨#[]⟩, ⟨#[]⟩, ⟨#[]⟩, slt, ⟨#[]⟩⟩ : Hc).cells.toArray) rfl rfl (by kernel_rfl) (by kernel_rfl) (by kernel_rfl) (fun _ _ _ h => h) (hS0) (yieldsIf_load_mid (by kernel_rfl) 24 (.tmp 9) rfl g9 0 rfl (⟨sec, x, sq, ⟨#[]⟩, ⟨#[]⟩, ⟨#[]⟩, slt, ⟨#[]⟩⟩ : Hc).cells _ hrs Tryd.underlying24 rfl (by kernel_rfl)) ?_
            simp only [List.setIfInBounds_toArray, List.set_cons_zero, List.set_cons_succ]
            refine wpAnyH_ready (rs := [1]) (by kernel_rfl) (by simp) ?_
            refine AllReadyH.cons rfl (fun Kx hK => ?_) AllReadyH.nil
            rw [if_pos (by kernel_rfl)]
            go_simp
            refine (HG10.out _ hS0).mono ?_
            intro e1 q1 hh
            obtain ⟨he, hq1⟩ := hh
            subst he
            subst hq1
            have hS1 := hS0
            go_wp2_with fail
            refine hK.out _ _ hS1 (fun _ => ?_)
            clear hK Kx
            try simp only [Act.put, List.setIfInBounds_toArray, List.set_cons_zero, List.set_cons_succ]
            refine wpAnyH_ready (rs := [3]) (by kernel_rfl) (by simp) ?_
            refine AllReadyH.cons rfl (fun Kx hK => ?_) AllReadyH.nil
            rw [if_pos (by kernel_rfl)]
            go_simp
            refine (HBg.out _).mono ?_
            intro e1 q2 hh
            obtain ⟨he, hq2⟩ := hh
            subst he
            have hS2 : Below u9.heap.size u9 q2 := (hS1).trans (hq2.mono (hS1).size)
            go_wp2_with fail
            refine hK.out _ _ hS2 (fun _ => ?_)
            clear hK Kx
            try simp only [Act.put, List.setIfInBounds_toArray, List.set_cons_zero, List.set_cons_succ]
            refine takeH_at 4 111 (.int .u64 stt) rfl rfl (by kernel_rfl) (by kernel_rfl) (by kernel_rfl) (fun _ _ _ h => h) (hS2) (Or.inl ⟨by kernel_rfl, fun w' hS' => by go_simp⟩) ?_
            simp only [List.setIfInBounds_toArray, List.set_cons_zero, List.set_cons_succ]
            refine takeH_at 5 112 (.bool false) rfl rfl (by kernel_rfl) (by kernel_rfl) (by kernel_rfl) (fun _ _ _ h => h) (hS2) (Or.inl ⟨by kernel_rfl, fun w' hS' => by go_simp⟩) ?_
            simp only [List.setIfInBounds_toArray, List.set_cons_zero, List.set_cons_succ]
            refine takeH_at 6 113 (.bool false) rfl rfl (by kernel_rfl) (by kernel_rfl) (by kernel_rfl) (fun _ _ _ h => h) (hS2) (Or.inl ⟨by kernel_rfl, fun w' hS' => by go_simp⟩) ?_
            simp only [List.setIfInBounds_toArray, List.set_cons_zero, List.set_cons_succ]
            refine takeH_at 7 114 (.slice (some ⟨b, o, none⟩) N cp) rfl rfl (by kernel_rfl) (by kernel_rfl) (by kernel_rfl) (fun _ _ _ h => h) (hS2) (Or.inl ⟨by kernel_rfl, fun w' hS' => by go_simp⟩) ?_
            simp only [List.setIfInBounds_toArray, List.set_cons_zero, List.set_cons_succ]
            refine wpAnyH_ready (rs := [8]) (by kernel_rfl) (by simp) ?_
            refine AllReadyH.cons rfl (fun Kx hK => ?_) AllReadyH.nil
            rw [if_pos (by kernel_rfl)]
            go_simp
            refine (HZ1.out _ hS2).mono ?_
            intro e1 q3 hh
            obtain ⟨he, hq3⟩ := hh
            subst he; rw [r11]
            subst hq3
            have hS3 := hS2
            go_wp2_with fail
            refine hK.out _ _ hS3 (fun _ => ?_)
            clear hK Kx
            try simp only [Act.put, List.setIfInBounds_toArray, List.set_cons_zero, List.set_cons_succ]
            refine takeH_at 9 116 (.bool false) rfl rfl (by kernel_rfl) (by kernel_rfl) (by kernel_rfl) (fun _ _ _ h => h) (hS3) (Or.inl ⟨by kernel_rfl, fun w' hS' => by go_simp⟩) ?_
            simp only [List.setIfInBounds_toArray, List.set_cons_zero, List.set_cons_succ]
            refine takeH_at 10 117 (.bool false) rfl rfl (by kernel_rfl) (by kernel_rfl) (by kernel_rfl) (fun _ _ _ h => h) (hS3) (Or.inl ⟨by kernel_rfl, fun w' hS' => by go_simp⟩) ?_
            simp only [List.setIfInBounds_toArray, List.set_cons_zero, List.set_cons_succ]
            refine takeH_at 11 118 (.bool false) rfl rfl (by kernel_rfl) (by kernel_rfl) (by kernel_rfl) (fun _ _ _ h => h) (hS3) (Or.inl ⟨by kernel_rfl, fun w' hS' => by go_simp⟩) ?_
            simp only [List.setIfInBounds_toArray, List.set_cons_zero, List.set_cons_succ]
            refine takeH_at 12 119 (.slice (some ⟨b, o, none⟩) N cp) rfl rfl (by kernel_rfl) (by kernel_rfl) (by kernel_rfl) (fun _ _ _ h => h) (hS3) (Or.inl ⟨by kernel_rfl, fun w' hS' => by go_simp⟩) ?_
            simp only [List.setIfInBounds_toArray, List.set_cons_zero, List.set_cons_succ]
            refine wpAnyH_ready (rs := [13]) (by kernel_rfl) (by simp) ?_
            refine AllReadyH.cons rfl (fun Kx hK => ?_) AllReadyH.nil
            rw [if_pos (by kernel_rfl)]
            go_simp
            refine (HZ2.out _ hS3).mono ?_
            intro e1 q4 hh
            obtain ⟨he, hq4⟩ := hh
            subst he; rw [r12]
            subst hq4
            have hS4 := hS3
            go_wp2_with fail
            refine hK.out _ _ hS4 (fun _ => ?_)
            clear hK Kx
            try simp only [Act.put, List.setIfInBounds_toArray, List.set_cons_zero, List.set_cons_succ]
            refine takeH_at 14 121 (.bool false) rfl rfl (by kernel_rfl) (by kernel_rfl) (by kernel_rfl) (fun _ _ _ h => h) (hS4) (Or.inl ⟨by kernel_rfl, fun w' hS' => by go_simp⟩) ?_
            simp only [List.setIfInBounds_toArray, List.set_cons_zero, List.set_cons_succ]
            refine takeH_at 15 122 (.bool false) rfl rfl (by kernel_rfl) (by kernel_rfl) (by kernel_rfl) (fun _ _ _ h => h) (hS4) (Or.inl ⟨by kernel_rfl, fun w' hS' => by go_simp⟩) ?_
            simp only [List.setIfInBounds_toArray, List.set_cons_zero, List.set_cons_succ]
            refine wpAnyH_done (by kernel_rfl) ?_ _
            refine NoPanic.normal ?_
            have HB11 : Hid (RuI w q2 ∧ Bo q2 g9 (⟨sec, x, sq, ⟨#[]⟩, ⟨#[]⟩, ⟨#[]⟩, slt, ⟨#[]⟩⟩ : Hc) ∧ w.heap.size + 1 < g9) := ⟨HB9.out.1.kept hS4, HB9.out.2.1.below hS4, HB9.out.2.2⟩
            have HAll : Hid (∀ j, j < 13 → rightB L sec j = true) := fun j hj => by
              match j, hj with
              | 0, _ => exact HR03.out 0 (by decide)
              | 1, _ => exact HR03.out 1 (by decide)
              | 2, _ => exact HR03.out 2 (by decide)
              | 3, _ => exact HR03.out 3 (by decide)
              | 4, _ => exact r4
              | 5, _ => exact r5
              | 6, _ => exact r6
              | 7, _ => rfl
              | 8, _ => exact r8
              | 9, _ => exact r9
              | 10, _ => exact r10
              | 11, _ => exact r11
              | 12, _ => exact r12
            have HT24 := rtext_ok b o N cp 4096 N L q2 HL.out.2.1 h2 (by have := HXN.out; omega) (Nat.le_refl _) hNm (HBy.out q2 HB11.out.1.below)
            rw [txt_drop L N HL.out.2.1 h1] at HT24
            have HXN2 : Hid (x = (N : Int)) := HXN
            clear dg eS hS0 hrs HG10 HBg HZ1 HZ2 HR10 HR11 HR12 HB10 dne
            obtain rfl := HXN2.out
            have r4096 : ((4096 : Nat) : Int) = 4096 := rfl
            rw [r4096] at HT24
            clear r4096
            go_upto_region 25 with (go_at_call 29; refine HT24.mono ?_; rintro e24 w24 ⟨⟨x5, rfl, hx5⟩, hw24⟩; obtain rfl := hw24)
            have Hx5 : Hid (txtB (L.drop 4096) = true → x5 = txtS (L.drop 4096)) := hx5
            clear hx5 HT24
            have HTX : Hid (txtB (L.drop 4096) = txtB (L.drop 4096)) := rfl
            cases ht : txtB (L.drop 4096)
            · have HE : Hid (unpE L sec = 86) := unpE_86 HL.out.2.2 HAll.out ht
              go_wp2_with (first | (refine wpList_load_mid (by rfl) 24 (.tmp 6) (by rfl) (w.heap.size + 1) 0 (by rfl) zHc.cells _ HB11.out.1.b6.range Tryd.underlying24 rfl (by kernel_rfl) ?_) | (refine wpList_store_bo (by rfl) (.tmp 4) (.tmp 132) (by rfl) zHc zHc w.heap.size (by rfl) (by rfl) HB11.out.1.b4 ?_; intro u99 hb99 hg99))
              refine ret_array2 (b := w.heap.size) zHc.cells (.int .i64 86) rfl rfl rfl hb99.range Tryd.underlying24 rfl (by kernel_rfl) ⟨by rw [HE.out, unpR_bad HE.out (by decide)], HB11.out.1.below.trans (below_gb hg99 HB11.out.1.below.size (Nat.le_refl _))⟩
            · have HE : Hid (unpE L sec = 0) := unpE_ok HL.out.2.2 HAll.out ht
              have E1 := Hx1.out (by first | rfl | trivial)
              have E3 := Hx3.out (by first | rfl | trivial)
              have E4 := Hx4.out (by first | rfl | trivial)
              have E5 := Hx5.out ht
              have HUC : Hid (unpC L sec = ⟨sec, (N : Int), sq, x1, x4, x3, slt, x5⟩) := by
                show _ = _
                rw [unpC, if_pos HE.out, rd_fields, ← HX.out, ← HSQ.out, ← HSLT.out, E1, E3, E4, E5]
              clear E1 E3 E4 E5
              generalize q2 = u11 at HB11 ⊢
              have f3 : u11.frozen? ⟨g9, 3, none⟩ = false := HB11.out.2.1.frozen 3
              have c3 : u11.cell? ⟨g9, 3, none⟩ = some (.string ⟨#[]⟩) := HB11.out.2.1.cell 3 _ rfl
              go_upto_region 28 with fail
              have HB12 : Hid (RuI w (u11.setCell ⟨g9, 3, none⟩ (.string x1)) ∧ Bo (u11.setCell ⟨g9, 3, none⟩ (.string x1)) g9 ⟨sec, (N : Int), sq, x1, ⟨#[]⟩, ⟨#[]⟩, slt, ⟨#[]⟩⟩ ∧ w.heap.size + 1 < g9) := ⟨HB11.out.1.set g9 3 _ HB11.out.2.2, HB11.out.2.1.set 3 _ rfl, HB11.out.2.2⟩
              generalize (u11.setCell ⟨g9, 3, none⟩ (.string x1)) = u12 at HB12 ⊢
              clear f3 c3 HB11
              have f5 : u12.frozen? ⟨g9, 5, none⟩ = false := HB12.out.2.1.frozen 5
              have c5 : u12.cell? ⟨g9, 5, none⟩ = some (.string ⟨#[]⟩) := HB12.out.2.1.cell 5 _ rfl
              go_upto_region 29 with fail
              have HB13 : Hid (RuI w (u12.setCell ⟨g9, 5, none⟩ (.string x3)) ∧ Bo (u12.setCell ⟨g9, 5, none⟩ (.string x3)) g9 ⟨sec, (N : Int), sq, x1, ⟨#[]⟩, x3, slt, ⟨#[]⟩⟩ ∧ w.heap.size + 1 < g9) := ⟨HB12.out.1.set g9 5 _ HB12.out.2.2, HB12.out.2.1.set 5 _ rfl, HB12.out.2.2⟩
              generalize (u12.setCell ⟨g9, 5, none⟩ (.string x3)) = u13 at HB13 ⊢
              clear f5 c5 HB12
              have f4 : u13.frozen? ⟨g9, 4, none⟩ = false := HB13.out.2.1.frozen 4
              have c4 : u13.cell? ⟨g9, 4, none⟩ = some (.string ⟨#[]⟩) := HB13.out.2.1.cell 4 _ rfl
              go_upto_region 30 with fail
              have HB14 : Hid (RuI w (u13.setCell ⟨g9, 4, none⟩ (.string x4)) ∧ Bo (u13.setCell ⟨g9, 4, none⟩ (.string x4)) g9 ⟨sec, (N : Int), sq, x1, x4, x3, slt, ⟨#[]⟩⟩ ∧ w.heap.size + 1 < g9) := ⟨HB13.out.1.set g9 4 _ HB13.out.2.2, HB13.out.2.1.set 4 _ rfl, HB13.out.2.2⟩
              generalize (u13.setCell ⟨g9, 4, none⟩ (.string x4)) = u14 at HB14 ⊢
              clear f4 c4 HB13
              have f7 : u14.frozen? ⟨g9, 7, none⟩ = false := HB14.out.2.1.frozen 7
              have c7 : u14.cell? ⟨g9, 7, none⟩ = some (.string ⟨#[]⟩) := HB14.out.2.1.cell 7 _ rfl
              go_upto_region 31 with fail
              have HB15 : Hid (RuI w (u14.setCell ⟨g9, 7, none⟩ (.string x5)) ∧ Bo (u14.setCell ⟨g9, 7, none⟩ (.string x5)) g9 ⟨sec, (N : Int), sq, x1, x4, x3, slt, x5⟩ ∧ w.heap.size + 1 < g9) := ⟨HB14.out.1.set g9 7 _ HB14.out.2.2, HB14.out.2.1.set 7 _ rfl, HB14.out.2.2⟩
              generalize (u14.setCell ⟨g9, 7, none⟩ (.string x5)) = u15 at HB15 ⊢
              clear f7 c7 HB14
              go_wp2_with (first | (refine wpList_load_mid (by rfl) 24 (.tmp 9) (by rfl) g9 0 (by rfl) (⟨sec, (N : Int), sq, x1, x4, x3, slt, x5⟩ : Hc).cells _ HB15.out.2.1.range Tryd.underlying24 rfl (by kernel_rfl) ?_) | (refine wpList_store_bo (by rfl) (.tmp 4) (.tmp 141) (by rfl) zHc (⟨sec, (N : Int), sq, x1, x4, x3, slt, x5⟩ : Hc) w.heap.size (by rfl) (by rfl) HB15.out.1.b4 ?_; intro u99 hb99 hg99))
              refine ret_array2 (b := w.heap.size) (⟨sec, (N : Int), sq, x1, x4, x3, slt, x5⟩ : Hc).cells (.int .i64 0) rfl rfl rfl hb99.range Tryd.underlying24 rfl (by kernel_rfl) ⟨by rw [HE.out, HUC.out], HB15.out.1.below.trans (below_gb hg99 HB15.out.1.below.size (Nat.le_refl _))⟩
/-- The document's Unpack of any bytes. -/
theorem runpack_ok (v : Value) (L : List Int) (sec : Bool) (w : World) (hT : RTab w) (hL : Byt L) (hv : View w v L) : Calls Tryd.prog 14 #[v, .bool sec] w (UnpR L sec w) := by
  obtain ⟨a, cp, rfl, h1, h2, h3, h4⟩ := hv
  by_cases h : L.length < 4096
  · exact runpack_short a L.length cp L sec w rfl h
  · rcases h4 with rfl | ⟨b, o, rfl, hc⟩
    · simp at h
    · exact runpack_long b o L.length cp L sec w hT rfl (by omega) h1 (by simpa [maxLen] using h2) hL hc
end Go.Proofs.YtoanndhaopgkjaaDoor
