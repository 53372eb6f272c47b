import Derived.Test.YtohhjohpdfbdoaaFc
namespace Go.Proofs.Ytohhjohpdfbdoaa
open Go.RowKit
set_option linter.unusedVariables false
set_option linter.unusedSimpArgs false
variable {w w' : World} {s : ByteArray} {i j : Nat}
set_option maxRecDepth 100000 in
theorem rfine_ok (c : Int) (w : World) : Calls Try.prog 13 #[.int .u8 c] w fun e w' => e = .returned (.bool (decide (fine c))) ∧ w = w' := by
  by_cases h0 : c = 9
  all_goals by_cases h1 : 32 ≤ c
  all_goals
    go_enter Try.func13, Try.ntmps13
    go_wp2
    go_ret
    refine ⟨congrArg (fun b => Ending.returned (.bool b)) ?_, rfl⟩
    rw [Bool.eq_iff_iff]
    simp only [beq_iff_eq, decide_eq_true_eq, Bool.false_eq_true, true_iff, false_iff, Bool.or_eq_true, Bool.and_eq_true]
    unfold fine
    omega
set_option maxRecDepth 100000 in
theorem rblank_ok (c : Int) (w : World) : Calls Try.prog 14 #[.int .u8 c] w fun e w' => e = .returned (.bool (decide (blank c))) ∧ w = w' := by
  by_cases h0 : c = 32
  all_goals
    go_enter Try.func14, Try.ntmps14
    go_wp2
    go_ret
    refine ⟨congrArg (fun b => Ending.returned (.bool b)) ?_, rfl⟩
    rw [Bool.eq_iff_iff]
    simp only [beq_iff_eq, decide_eq_true_eq, Bool.false_eq_true, true_iff, false_iff, Bool.or_eq_true, Bool.and_eq_true]
    unfold blank
    omega
set_option maxRecDepth 100000 in
theorem rletter_ok (c : Int) (w : World) : Calls Try.prog 15 #[.int .u8 c] w fun e w' => e = .returned (.bool (decide (letter c))) ∧ w = w' := by
  by_cases h0 : 97 ≤ c
  all_goals
    go_enter Try.func15, Try.ntmps15
    go_wp2
    go_ret
    refine ⟨congrArg (fun b => Ending.returned (.bool b)) ?_, rfl⟩
    rw [Bool.eq_iff_iff]
    simp only [beq_iff_eq, decide_eq_true_eq, Bool.false_eq_true, true_iff, false_iff, Bool.or_eq_true, Bool.and_eq_true]
    unfold letter
    omega
set_option maxRecDepth 100000 in
theorem rdigit_ok (c : Int) (w : World) : Calls Try.prog 16 #[.int .u8 c] w fun e w' => e = .returned (.bool (decide (digit c))) ∧ w = w' := by
  by_cases h0 : 48 ≤ c
  all_goals
    go_enter Try.func16, Try.ntmps16
    go_wp2
    go_ret
    refine ⟨congrArg (fun b => Ending.returned (.bool b)) ?_, rfl⟩
    rw [Bool.eq_iff_iff]
    simp only [beq_iff_eq, decide_eq_true_eq, Bool.false_eq_true, true_iff, false_iff, Bool.or_eq_true, Bool.and_eq_true]
    unfold digit
    omega
set_option maxHeartbeats 1000000 in
set_option maxRecDepth 100000 in
theorem rhexa_ok (c : Int) (hc0 : 0 ≤ c) (hc1 : c < 256) (w : World) : Calls Try.prog 17 #[.int .u8 c] w fun e w' => e = .returned (.int .i64 (hexa c)) ∧ w = w' := by
  unfold hexa
  by_cases h1 : 48 ≤ c ∧ c ≤ 57
  · have hd : digit c := h1
    rw [if_pos h1]
    have wr : IntKind.u8.wrap (c - 48) = c - 48 := by rw [IntKind.wrap_u8]; omega
    go_enter Try.func17, Try.ntmps17
    go_wp2_with (go_at_call 16; refine (rdigit_ok _ _).mono ?_; rintro e w3 ⟨rfl, rfl⟩; simp only [hd, decide_true])
    go_ret
    simp [wr]
  · have hd : ¬ digit c := h1
    rw [if_neg h1]
    clear h1
    by_cases h3 : 97 ≤ c ∧ c ≤ 102
    · rw [if_pos h3]
      obtain ⟨h3, h4⟩ := h3
      have wr : IntKind.u8.wrap (c - 97) = c - 97 := by rw [IntKind.wrap_u8]; omega
      have wr2 : IntKind.i64.wrap (c - 97 + 10) = c - 87 := by rw [IntKind.wrap_i64]; omega
      go_enter Try.func17, Try.ntmps17
      go_wp2_with (go_at_call 16; refine (rdigit_ok _ _).mono ?_; rintro e w3 ⟨rfl, rfl⟩; simp only [hd, decide_false])
      go_ret
      refine ⟨congrArg (fun b => Ending.returned (.int .i64 b)) ?_, rfl⟩
      omega
    · rw [if_neg h3]
      by_cases h5 : 65 ≤ c ∧ c ≤ 70
      · rw [if_pos h5]
        obtain ⟨h5, h6⟩ := h5
        have wr : IntKind.u8.wrap (c - 65) = c - 65 := by rw [IntKind.wrap_u8]; omega
        have wr2 : IntKind.i64.wrap (c - 65 + 10) = c - 55 := by rw [IntKind.wrap_i64]; omega
        have h8 : ¬ 97 ≤ c := by omega
        clear h3
        go_enter Try.func17, Try.ntmps17
        go_wp2_with (go_at_call 16; refine (rdigit_ok _ _).mono ?_; rintro e w3 ⟨rfl, rfl⟩; simp only [hd, decide_false])
        go_ret
        refine ⟨congrArg (fun b => Ending.returned (.int .i64 b)) ?_, rfl⟩
        omega
      · rw [if_neg h5]
        have q2 : decide (97 ≤ c) = false ∨ (decide (97 ≤ c) = true ∧ decide (c ≤ 102) = false) := by simp only [decide_eq_false_iff_not, decide_eq_true_eq]; omega
        have q3 : decide (65 ≤ c) = false ∨ (decide (65 ≤ c) = true ∧ decide (c ≤ 70) = false) := by simp only [decide_eq_false_iff_not, decide_eq_true_eq]; omega
        clear h3 h5
        rcases q2 with q2 | ⟨q2, q2'⟩
        all_goals rcases q3 with q3 | ⟨q3, q3'⟩
        all_goals
          go_enter Try.func17, Try.ntmps17
          go_wp2_with (go_at_call 16; refine (rdigit_ok _ _).mono ?_; rintro e w3 ⟨rfl, rfl⟩; simp only [hd, decide_false])
          go_ret
          exact ⟨rfl, rfl⟩
/-- A byte, as a string. -/
theorem conv1 (c : Int) (W : World) : (convert 37 9 (.slice (some ⟨W.heap.size, 0, none⟩) 1 1)).run Try.prog (W.alloc (.cells #[.int .u8 c] 5)) = .ok (.string (strOfNums [c])) (W.alloc (.cells #[.int .u8 c] 5)) := by
  refine run_convert_bytes_arg _ 37 5 Try.underlying37 Try.underlying5 W.heap.size 0 1 1 [c] rfl (fun i hi => ?_) 9 Try.underlying9
  obtain rfl : i = 0 := by omega
  have h := World.alloc_heap_new W (.cells #[.int .u8 c] 5)
  simp only [World.cell?]
  rw [h]
  rfl
/-- What the reference has said so far: the zero line at w.heap.size and behind it, the line at w.heap.size + 2. -/
structure Lb (w : World) (a : Acc) (W : World) : Prop where
  b : Below w.heap.size w W
  z0 : W.heap[w.heap.size]? = some (.cells #[.string ⟨#[]⟩, .string ⟨#[]⟩, .slice none 0 0] 25 (0, 0))
  z1 : W.heap[w.heap.size + 1]? = some (.cells #[.string ⟨#[]⟩, .string ⟨#[]⟩, .slice none 0 0] 25 (0, 0))
  said : ∃ v, W.heap[w.heap.size + 2]? = some (.cells #[.string (strOfNums a.cmd), .string (strOfNums a.name), v] 25 (0, 0)) ∧ W.ownsRow (w.heap.size + 3) 31 2 v a.opts.length (optL a.opts)
theorem Lb.size {a : Acc} {W : World} (h : Lb w a W) : w.heap.size + 3 ≤ W.heap.size := by
  obtain ⟨v, hv, _⟩ := h.said
  have := (Array.getElem?_eq_some_iff.1 hv).1
  omega
theorem Lb.still {a : Acc} {W W' : World} (h : Lb w a W) (hg : W.grownBy W' none) : Lb w a W' := by
  obtain ⟨v, hv, hr⟩ := h.said
  exact ⟨h.b.grown hg (by have := h.size; omega) (fun k e => by cases e), at_kept h.z0 hg (by simp), at_kept h.z1 hg (by simp), ⟨v, at_kept hv hg (by simp), hr.kept hg (Classical.em _)⟩⟩
theorem Lb.f {a : Acc} {W : World} (h : Lb w a W) : Lb w { a with f := a.f + 1 } W := ⟨h.b, h.z0, h.z1, h.said⟩
theorem Lb.cmd {a : Acc} {W : World} (h : Lb w a W) (l : List Int) : Lb w { a with cmd := l } (W.setCell ⟨w.heap.size + 2, 0, none⟩ (.string (strOfNums l))) := by
  obtain ⟨v, hv, hr⟩ := h.said
  have gS := grown_set W (w.heap.size + 2) 0 (.string (strOfNums l))
  have h3 := set_block hv 0 (.string (strOfNums l))
  simp only [List.setIfInBounds_toArray, List.set_cons_zero, List.set_cons_succ] at h3
  exact ⟨h.b.grown gS (by have := h.size; omega) (fun k e => by cases e; omega), at_kept h.z0 gS (by simp), at_kept h.z1 gS (by simp), ⟨v, h3, hr.kept gS (own_far hr (by omega))⟩⟩
theorem Lb.nam {a : Acc} {W : World} (h : Lb w a W) (l : List Int) : Lb w { a with name := l } (W.setCell ⟨w.heap.size + 2, 1, none⟩ (.string (strOfNums l))) := by
  obtain ⟨v, hv, hr⟩ := h.said
  have gS := grown_set W (w.heap.size + 2) 1 (.string (strOfNums l))
  have h3 := set_block hv 1 (.string (strOfNums l))
  simp only [List.setIfInBounds_toArray, List.set_cons_zero, List.set_cons_succ] at h3
  exact ⟨h.b.grown gS (by have := h.size; omega) (fun k e => by cases e; omega), at_kept h.z0 gS (by simp), at_kept h.z1 gS (by simp), ⟨v, h3, hr.kept gS (own_far hr (by omega))⟩⟩
theorem Lb.opt {a : Acc} {W W6 : World} {vp : Option Addr} {vc g6 cap6 : Nat} {o : Obj} (h : Lb w a W) (k v : List Int) (hS : W.heap[w.heap.size + 2]? = some (.cells #[.string (strOfNums a.cmd), .string (strOfNums a.name), .slice vp a.opts.length vc] 25 (0, 0)))
    (hrow : W.ownsRow (w.heap.size + 3) 31 2 (.slice vp a.opts.length vc) a.opts.length (optL a.opts)) (hown : W6.ownsRow (w.heap.size + 3) 31 2 (.slice (some ⟨g6, 0, none⟩) (a.opts.length + 1) cap6) (a.opts.length + 1) (optL a.opts ++ [.string (strOfNums k), .string (strOfNums v)]))
    (hg : (W.alloc o).grownBy W6 (Value.slice vp a.opts.length vc).ownBlock) : Lb w (a.opt k v) (W6.setCell ⟨w.heap.size + 2, 2, none⟩ (.slice (some ⟨g6, 0, none⟩) (a.opts.length + 1) cap6)) := by
  have hsz := h.size
  have gA := World.grownBy_alloc W o none
  have far : ∀ k : Nat, k < w.heap.size + 3 → some k ≠ (Value.slice vp a.opts.length vc).ownBlock := fun k hk e => by have := (hrow.lt _ e.symm).1; omega
  have gS := grown_set W6 (w.heap.size + 2) 2 (.slice (some ⟨g6, 0, none⟩) (a.opts.length + 1) cap6)
  have h3 := set_block (at_kept (at_kept hS gA (by simp)) hg (far _ (by omega))) 2 (.slice (some ⟨g6, 0, none⟩) (a.opts.length + 1) cap6)
  simp only [List.setIfInBounds_toArray, List.set_cons_zero, List.set_cons_succ] at h3
  refine ⟨((h.b.alloc (by omega) o).grown hg (by simp; omega) (fun k e => by have := (hrow.lt _ e).1; omega)).grown gS (by have := hg.size; simp only [World.size_alloc] at this; omega) (fun k e => by cases e; omega), at_kept (at_kept (at_kept h.z0 gA (by simp)) hg (far _ (by omega))) gS (by simp), at_kept (at_kept (at_kept h.z1 gA (by simp)) hg (far _ (by omega))) gS (by simp), ⟨_, h3, ?_⟩⟩
  have e1 : (a.opt k v).opts.length = a.opts.length + 1 := by simp [Acc.opt]
  have e2 : optL (a.opt k v).opts = optL a.opts ++ [.string (strOfNums k), .string (strOfNums v)] := by simp only [Acc.opt]; exact optL_snoc _ _ _
  rw [e1, e2]
  exact hown.kept gS (own_far hown (by omega))
end Go.Proofs.Ytohhjohpdfbdoaa
