import Derived.Test.YtoanndhaopgkjaaDoorVa
import Derived.Test.YtoanndhaopgkjaaDoorPart10
namespace Go.Proofs.YtoanndhaopgkjaaDoor
open Go.RowKit
set_option linter.unusedVariables false
set_option linter.unusedSimpArgs false
theorem holds_full {z t : List Int} (h : z.length = t.length) : holdsB z t = decide (z = t) := by
  rw [Bool.eq_iff_iff, decide_eq_true_eq]
  constructor
  · intro q
    have := holds_inv q
    exact ext_at h this.2
  · intro q
    subst q
    have := holds_pad (t := z) (s := z.length) (Nat.le_refl _)
    rwa [pad_full rfl] at this
theorem holds_nil (z : List Int) : holdsB z [] = decide (rtz z z.length ≤ 0) := by
  unfold holdsB
  simp
theorem beN_inj {a b : List Int} (n : Nat) (ha : a.length = n) (hb : b.length = n) (ba : Byt a) (bb : Byt b) (h : beN a = beN b) : a = b := by
  rw [← beL_beN n a ha ba, ← beL_beN n b hb bb, h]
theorem right0 (L : List Int) (sec : Bool) (hl : 4096 ≤ L.length) (hL : Byt L) : rightB L sec 0 = ((strB (cutL L 0 6)).toList == (strB (magicL sec)).toList) := by
  show holdsB (cutL L 0 6) (magicL sec) = _
  rw [holds_full (by rw [cutL_length (by omega)]; cases sec <;> rfl), toList_beq]
  have hm : Byt (magicL sec) := toldL_range ⟨sec, 0, 0, ⟨#[]⟩, ⟨#[]⟩, ⟨#[]⟩, ⟨#[]⟩, ⟨#[]⟩⟩ 0
  by_cases h : cutL L 0 6 = magicL sec
  · rw [h]; simp
  · rw [decide_eq_false h, decide_eq_false (fun e => h (strB_inj (hL.cut 0 6) hm e))]
theorem right1 (L : List Int) (sec : Bool) (hl : 4096 ≤ L.length) (hL : Byt L) : rightB L sec 1 = decide (beN (cutL L 6 2) = 2) := by
  show holdsB (cutL L 6 2) (beL 2 2) = _
  have h2 : (cutL L 6 2).length = 2 := cutL_length (by omega)
  rw [holds_full (by rw [h2, beL_length])]
  have e2 : beN (beL 2 2) = 2 := by decide
  by_cases h : cutL L 6 2 = beL 2 2
  · rw [h, e2]; simp
  · rw [decide_eq_false h, decide_eq_false (fun e => h (beN_inj 2 h2 (beL_length _ _) (hL.cut 6 2) (beL_range _ _) (by rw [e, e2])))]
theorem right10 (L : List Int) (sec : Bool) (hl : 4096 ≤ L.length) (hL : Byt L) (s0 : 0 ≤ (rdC L sec 10).start) (s1 : (rdC L sec 10).start < 18446744073709551616) : rightB L sec 10 = decide (beN (cutL L 256 8) = (rdC L sec 10).start) := by
  show holdsB (cutL L 256 8) (beL (rdC L sec 10).start 8) = _
  have h2 : (cutL L 256 8).length = 8 := cutL_length (by omega)
  generalize (rdC L sec 10).start = st at s0 s1
  rw [holds_full (by rw [h2, beL_length])]
  have e2 : beN (beL st 8) = st := beN_beL 8 st s0 s1
  by_cases h : cutL L 256 8 = beL st 8
  · rw [h, e2]; simp
  · rw [decide_eq_false h, decide_eq_false (fun e => h (beN_inj 8 h2 (beL_length _ _) (hL.cut 256 8) (beL_range _ _) (by rw [e, e2])))]
theorem sha_plain : plainB (strB sha256L) 32 = true := by decide
theorem nums_sha : nums (strB sha256L) = sha256L := nums_strB sha256L (toldL_range zHc 6)
theorem right6 (L : List Int) (sec : Bool) (hl : 4096 ≤ L.length) (hL : Byt L) : rightB L sec 6 = (txtB (cutL L 72 32) && decide (txtS (cutL L 72 32) = strB sha256L)) := by
  show holdsB (cutL L 72 32) sha256L = _
  have h2 : (cutL L 72 32).length = 32 := cutL_length (by omega)
  have hb := hL.cut 72 32
  generalize cutL L 72 32 = z at h2 hb
  rw [Bool.eq_iff_iff, Bool.and_eq_true, decide_eq_true_eq]
  constructor
  · intro h
    have q := holds_inv h
    have e : z = padL (nums (strB sha256L)) 32 := by
      rw [nums_sha]
      refine ext_at (by rw [h2, padL_length (by decide)]) (fun i hi => ?_)
      rw [padL_at]
      exact q.2 i hi
    rw [e]
    exact txt_pad (n := 32) sha_plain
  · rintro ⟨h, e⟩
    have q := (txt_inv hb h).2
    rw [e, nums_sha] at q
    have e2 : z = padL sha256L 32 := ext_at (by rw [h2, padL_length (by decide)]) (fun i hi => by rw [padL_at]; exact q i hi)
    rw [e2]
    exact holds_pad (by decide)
theorem right11 (L : List Int) (sec : Bool) (hl : 4096 ≤ L.length) : rightB L sec 11 = decide (rtz (cutL L 264 184) 184 ≤ 0) := by
  show holdsB (cutL L 264 184) [] = _
  rw [holds_nil, cutL_length (by omega)]
theorem right12 (L : List Int) (sec : Bool) (hl : 4096 ≤ L.length) : rightB L sec 12 = decide (rtz (cutL L 480 3616) 3616 ≤ 0) := by
  show holdsB (cutL L 480 3616) [] = _
  rw [holds_nil, cutL_length (by omega)]
theorem unpE_at {L : List Int} {sec : Bool} (hl : 4096 ≤ L.length) {k : Nat} (hk : k < 13) (h1 : ∀ j, j < k → rightB L sec j = true) (h2 : rightB L sec k = false) : unpE L sec = (fldE k : Nat) := by
  rw [unpE, if_neg (by omega), badK_some hk h1 h2]
theorem unpE_85 {L : List Int} {sec : Bool} (hl : 4096 ≤ L.length) (h : ∀ j, j < 4 → rightB L sec j = true) {k : Nat} (hk : k < 13) (h2 : rightB L sec k = false) : unpE L sec = 85 := by
  rw [unpE, if_neg (by omega)]
  cases hb : badK L sec with
  | none => rw [badK_all hb k hk] at h2; cases h2
  | some j =>
    have hj : j < 13 := by
      have := List.mem_of_find?_eq_some hb
      simpa using this
    have hr : rightB L sec j = false := by
      have := List.find?_some hb
      simpa using this
    have h4 : 4 ≤ j := by
      by_cases c : 4 ≤ j
      · exact c
      · rw [h j (by omega)] at hr; cases hr
    show ((fldE j : Nat) : Int) = 85
    match j, hj with
    | 4, _ | 5, _ | 6, _ | 7, _ | 8, _ | 9, _ | 10, _ | 11, _ | 12, _ => rfl
theorem unpE_86 {L : List Int} {sec : Bool} (hl : 4096 ≤ L.length) (h : ∀ j, j < 13 → rightB L sec j = true) (ht : txtB (L.drop 4096) = false) : unpE L sec = 86 := by
  rw [unpE, if_neg (by omega), badK_none h]
  show (if txtB (L.drop 4096) = true then (0 : Int) else 86) = 86
  rw [ht]
  rfl
theorem unpE_ok {L : List Int} {sec : Bool} (hl : 4096 ≤ L.length) (h : ∀ j, j < 13 → rightB L sec j = true) (ht : txtB (L.drop 4096) = true) : unpE L sec = 0 := by
  rw [unpE, if_neg (by omega), badK_none h]
  show (if txtB (L.drop 4096) = true then (0 : Int) else 86) = 0
  rw [ht]
  rfl
/-- What the document's front answers. -/
def FrQ (L : List Int) (sec : Bool) (e : Ending) : Prop :=
  (rightB L sec 0 = false ∧ e = .returned (.tuple #[.int .i64 0, .int .i64 81])) ∨
  (rightB L sec 0 = true ∧ rightB L sec 1 = false ∧ e = .returned (.tuple #[.int .i64 0, .int .i64 82])) ∨
  (rightB L sec 0 = true ∧ rightB L sec 1 = true ∧ headB (beN (cutL L 8 8)) = false ∧ e = .returned (.tuple #[.int .i64 0, .int .i64 83])) ∨
  (rightB L sec 0 = true ∧ rightB L sec 1 = true ∧ headB (beN (cutL L 8 8)) = true ∧ e = .returned (.tuple #[.int .i64 (beN (cutL L 8 8)), .int .i64 0]))
set_option maxHeartbeats 1000000 in
set_option maxRecDepth 100000 in
theorem rfront_ok (b o N cp : Nat) (L : List Int) (sec : Bool) (w : World) (hN : L.length = N) (h1 : 4096 ≤ N) (h2 : N ≤ cp) (hL : Byt L) (hb : By w b o L) :
    Calls Tryd.prog 27 #[.slice (some ⟨b, o, none⟩) N cp, .bool sec] w fun e w' => FrQ L sec e ∧ Below w.heap.size w w' := by
  have hblt := hb.lt (by omega)
  have HL : Hid (Byt L ∧ L.length = N ∧ 4096 ≤ L.length) := ⟨hL, hN, by omega⟩
  have HBy : Hid (∀ u, Below w.heap.size w u → By u b o L) := fun u hu => hb.below hu hblt
  have s1 : ∀ u, (Instr.slice 25 (.slice (some ⟨b, o, none⟩) N cp) none (some (.int .i64 6)) none).run Tryd.prog u = .ok (.slice (some ⟨b, o, none⟩) 6 cp) u := fun u => by
    have q := slice_h u (some ⟨b, o, none⟩) N cp 6 (by omega)
    rw [show sliced (some ⟨b, o, none⟩) 0 6 cp 1 = .slice (some ⟨b, o, none⟩) 6 cp by rw [sliced, if_neg (by omega)]; rfl] at q
    exact q
  have cv : ∀ u, Below w.heap.size w u → (convert 25 9 (.slice (some ⟨b, o, none⟩) 6 cp)).run Tryd.prog u = .ok (.string (strB (cutL L 0 6))) u := fun u hu => by
    have q := (HBy.out u hu).cut 0 6 (by rw [HL.out.2.1]; omega)
    exact conv_by u b o 6 cp (cutL L 0 6) (cutL_length (by rw [HL.out.2.1]; omega)) q
  have HG1 : Hid (∀ u, Below w.heap.size w u → Calls Tryd.prog 28 #[.slice (some ⟨b, o, none⟩) N cp, .int .i64 6, .int .i64 2] u fun e w' => e = .returned (.int .u64 (beN (cutL L 6 2))) ∧ u = w') := fun u hu => rget_ok b o N cp 6 2 L u HL.out.2.1 (by omega) (by decide) (by decide) HL.out.1 (HBy.out u hu)
  have HG2 : Hid (∀ u, Below w.heap.size w u → Calls Tryd.prog 28 #[.slice (some ⟨b, o, none⟩) N cp, .int .i64 8, .int .i64 8] u fun e w' => e = .returned (.int .u64 (beN (cutL L 8 8))) ∧ u = w') := fun u hu => rget_ok b o N cp 8 8 L u HL.out.2.1 (by omega) (by decide) (by decide) HL.out.1 (HBy.out u hu)
  have HR0 : Hid (rightB L sec 0 = ((strB (cutL L 0 6)).toList == (strB (magicL sec)).toList)) := right0 L sec HL.out.2.2 HL.out.1
  have HR1 : Hid (rightB L sec 1 = decide (beN (cutL L 6 2) = 2)) := right1 L sec HL.out.2.2 HL.out.1
  have hx := beN_u64 (cutL L 8 8) (hL.cut 8 8) (by rw [cutL_length (by omega)]; decide)
  have HQ : Hid (∀ e, FrQ L sec e ↔ FrQ L sec e) := fun _ => Iff.rfl
  clear hN hL hb HQ
  generalize strB (cutL L 0 6) = st at cv HR0
  have HM : Hid (∀ u, Calls Tryd.prog 23 #[.bool sec] u fun e w' => e = .returned (.string (strB (magicL sec))) ∧ u = w') := fun u => rmagic_ok sec u
  generalize strB (magicL sec) = sm at HR0 HM
  obtain ⟨x, HX⟩ : ∃ x, Hid (x = beN (cutL L 8 8)) := ⟨_, rfl⟩
  obtain ⟨y, HY⟩ : ∃ x, Hid (x = beN (cutL L 6 2)) := ⟨_, rfl⟩
  rw [← HX.out] at hx HG2
  rw [← HY.out] at HG1 HR1
  have hS0 : Below w.heap.size w w.drew := (Below.refl _ _).drew
  go_enter Tryd.func27, Tryd.ntmps27
  go_upto_region 1 with fail
  cases hr0 : rightB L sec 0
  · have hc0 : (st.toList == sm.toList) = false := by rw [← HR0.out]; exact hr0
    refine wp_region_noPanic ?_
    refine wp_region_held_drew (S := fun u => Below w.heap.size w u) (by kernel_rfl) (hS0) (fun _ => ?_)
    refine takeH_at 0 7 (.slice (some ⟨b, o, none⟩) N cp) rfl rfl (by kernel_rfl) (by kernel_rfl) (by kernel_rfl) (fun _ _ _ h => h) (hS0) (Or.inl ⟨by kernel_rfl, fun w' hS' => by go_simp⟩) ?_
    simp only [List.setIfInBounds_toArray, List.set_cons_zero, List.set_cons_succ]
    refine takeH_at 1 8 (.slice (some ⟨b, o, none⟩) 6 cp) rfl rfl (by kernel_rfl) (by kernel_rfl) (by kernel_rfl) (fun _ _ _ h => h) (hS0) (Or.inl ⟨by kernel_rfl, fun w' hS' => by have q := s1 w'; go_simp⟩) ?_
    simp only [List.setIfInBounds_toArray, List.set_cons_zero, List.set_cons_succ]
    refine takeH_at 2 9 (.string st) rfl rfl (by kernel_rfl) (by kernel_rfl) (by kernel_rfl) (fun _ _ _ h => h) (hS0) (Or.inl ⟨by kernel_rfl, fun w' hS' => by have q := cv w' hS'; go_simp⟩) ?_
    simp only [List.setIfInBounds_toArray, List.set_cons_zero, List.set_cons_succ]
    refine takeH_at 3 10 (.bool sec) rfl rfl (by kernel_rfl) (by kernel_rfl) (by kernel_rfl) (fun _ _ _ h => h) (hS0) (Or.inl ⟨by kernel_rfl, fun w' hS' => by go_simp⟩) ?_
    simp only [List.setIfInBounds_toArray, List.set_cons_zero, List.set_cons_succ]
    refine wpAnyH_ready (rs := [4]) (by kernel_rfl) (by simp) ?_
    refine AllReadyH.cons rfl (fun Kx hK => ?_) AllReadyH.nil
    rw [if_pos (by kernel_rfl)]
    go_simp
    refine (HM.out _).mono ?_
    rintro e1 q1 ⟨rfl, hw1⟩
    subst hw1
    go_wp2_with fail
    refine hK.out _ _ hS0 (fun _ => ?_)
    clear hK Kx
    try simp only [Act.put, List.setIfInBounds_toArray, List.set_cons_zero, List.set_cons_succ]
    refine takeH_at 5 12 (.bool true) rfl rfl (by kernel_rfl) (by kernel_rfl) (by kernel_rfl) (fun _ _ _ h => h) (hS0) (Or.inl ⟨by kernel_rfl, fun w' hS' => by go_simp⟩) ?_
    simp only [List.setIfInBounds_toArray, List.set_cons_zero, List.set_cons_succ]
    refine wpAnyH_done (by kernel_rfl) ?_ _
    refine NoPanic.normal ?_
    go_wp2
    go_ret2
    exact ⟨Or.inl ⟨hr0, rfl⟩, hS0⟩
  · have hc0 : (st.toList == sm.toList) = true := by rw [← HR0.out]; exact hr0
    refine wp_region_noPanic ?_
    refine wp_region_held_drew (S := fun u => Below w.heap.size w u) (by kernel_rfl) (hS0) (fun _ => ?_)
    refine takeH_at 0 7 (.slice (some ⟨b, o, none⟩) N cp) rfl rfl (by kernel_rfl) (by kernel_rfl) (by kernel_rfl) (fun _ _ _ h => h) (hS0) (Or.inl ⟨by kernel_rfl, fun w' hS' => by go_simp⟩) ?_
    simp only [List.setIfInBounds_toArray, List.set_cons_zero, List.set_cons_succ]
    refine takeH_at 1 8 (.slice (some ⟨b, o, none⟩) 6 cp) rfl rfl (by kernel_rfl) (by kernel_rfl) (by kernel_rfl) (fun _ _ _ h => h) (hS0) (Or.inl ⟨by kernel_rfl, fun w' hS' => by have q := s1 w'; go_simp⟩) ?_
    simp only [List.setIfInBounds_toArray, List.set_cons_zero, List.set_cons_succ]
    refine takeH_at 2 9 (.string st) rfl rfl (by kernel_rfl) (by kernel_rfl) (by kernel_rfl) (fun _ _ _ h => h) (hS0) (Or.inl ⟨by kernel_rfl, fun w' hS' => by have q := cv w' hS'; go_simp⟩) ?_
    simp only [List.setIfInBounds_toArray, List.set_cons_zero, List.set_cons_succ]
    refine takeH_at 3 10 (.bool sec) rfl rfl (by kernel_rfl) (by kernel_rfl) (by kernel_rfl) (fun _ _ _ h => h) (hS0) (Or.inl ⟨by kernel_rfl, fun w' hS' => by go_simp⟩) ?_
    simp only [List.setIfInBounds_toArray, List.set_cons_zero, List.set_cons_succ]
    refine wpAnyH_ready (rs := [4]) (by kernel_rfl) (by simp) ?_
    refine AllReadyH.cons rfl (fun Kx hK => ?_) AllReadyH.nil
    rw [if_pos (by kernel_rfl)]
    go_simp
    refine (HM.out _).mono ?_
    rintro e1 q1 ⟨rfl, hw1⟩
    subst hw1
    go_wp2_with fail
    refine hK.out _ _ hS0 (fun _ => ?_)
    clear hK Kx
    try simp only [Act.put, List.setIfInBounds_toArray, List.set_cons_zero, List.set_cons_succ]
    refine takeH_at 5 12 (.bool false) rfl rfl (by kernel_rfl) (by kernel_rfl) (by kernel_rfl) (fun _ _ _ h => h) (hS0) (Or.inl ⟨by kernel_rfl, fun w' hS' => by go_simp⟩) ?_
    simp only [List.setIfInBounds_toArray, List.set_cons_zero, List.set_cons_succ]
    refine wpAnyH_done (by kernel_rfl) ?_ _
    refine NoPanic.normal ?_
    have HW : Hid (Below w.heap.size w w.drew) := hS0
    generalize w.drew = w1 at HW ⊢
    cases hr1 : rightB L sec 1
    · have hy : (y != 2) = true := by
        have := HR1.out
        rw [hr1] at this
        have q := of_decide_eq_false this.symm
        simpa using q
      go_wp2_with (go_at_call 28; refine (HG1.out _ HW.out).mono ?_; rintro e2 w2 ⟨rfl, hw2⟩; obtain rfl := hw2)
      go_ret2
      exact ⟨Or.inr (Or.inl ⟨hr0, hr1, rfl⟩), HW.out⟩
    · have hy : (y != 2) = false := by
        have := HR1.out
        rw [hr1] at this
        have q := of_decide_eq_true this.symm
        simpa using q
      go_upto_region 5 with (go_at_call 28; refine (HG1.out _ HW.out).mono ?_; rintro e2 w2 ⟨rfl, hw2⟩; obtain rfl := hw2)
      go_upto_region 6 with (go_at_call 28; refine (HG2.out _ HW.out).mono ?_; rintro e3 w3 ⟨rfl, hw3⟩; obtain rfl := hw3)
      by_cases hbig : 4194304 < x
      · have hh : headB x = false := by
          cases h : headB x
          · rfl
          · have := headB_le h; omega
        go_wp2
        go_ret2
        exact ⟨Or.inr (Or.inr (Or.inl ⟨hr0, hr1, by rw [← HX.out]; exact hh, rfl⟩)), HW.out⟩
      · have eX : IntKind.i64.wrap x = x := by rw [IntKind.wrap_i64]; omega
        have dx : decide (4194304 < x) = false := decide_eq_false hbig
        cases hh : headB x
        · go_wp2_with (go_at_call 20; refine (risHead_ok x _).mono ?_; rintro e4 w4 ⟨rfl, hw4⟩; obtain rfl := hw4; rw [hh])
          go_ret2
          exact ⟨Or.inr (Or.inr (Or.inl ⟨hr0, hr1, by rw [← HX.out]; exact hh, rfl⟩)), HW.out⟩
        · go_wp2_with (go_at_call 20; refine (risHead_ok x _).mono ?_; rintro e4 w4 ⟨rfl, hw4⟩; obtain rfl := hw4; rw [hh])
          go_ret2
          exact ⟨Or.inr (Or.inr (Or.inr ⟨hr0, hr1, by rw [← HX.out]; exact hh, by rw [← HX.out]; rfl⟩)), HW.out⟩
end Go.Proofs.YtoanndhaopgkjaaDoor
