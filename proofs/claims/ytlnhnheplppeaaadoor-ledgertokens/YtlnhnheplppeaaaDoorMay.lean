import Derived.Test.YtlnhnheplppeaaaDoorRis
import Derived.Deep.Cut
import Derived.Deep.RegionHeld3
namespace Go.Proofs.YtlnhnheplppeaaaDoor
open Go.RowKit
set_option linter.unusedVariables false
set_option linter.unusedSimpArgs false
/-- A token in a block. -/
structure TAt (u : World) (s : Nat) (num : Int) (kind : ByteArray) (sl : Value) (note : ByteArray) : Prop where
  c0 : u.cell? ⟨s, 0, none⟩ = some (.int .i64 num)
  c1 : u.cell? ⟨s, 1, none⟩ = some (.string kind)
  c2 : u.cell? ⟨s, 2, none⟩ = some sl
  c3 : u.cell? ⟨s, 3, none⟩ = some (.string note)
theorem TAt.blk {u v : World} {s : Nat} {num : Int} {kind note : ByteArray} {sl : Value} (a : TAt u s num kind sl note) (hb : v.heap[s]? = u.heap[s]?) : TAt v s num kind sl note := by
  have hc : ∀ j, v.cell? ⟨s, j, none⟩ = u.cell? ⟨s, j, none⟩ := fun j => World.cell?_of_block (a := ⟨s, j, none⟩) hb
  exact ⟨by rw [hc]; exact a.c0, by rw [hc]; exact a.c1, by rw [hc]; exact a.c2, by rw [hc]; exact a.c3⟩
theorem TAt.lt {u : World} {s : Nat} {num : Int} {kind note : ByteArray} {sl : Value} (a : TAt u s num kind sl note) : s < u.heap.size := World.block_lt_of_cell? u _ a.c0
theorem TAt.below {u v : World} {s : Nat} {num : Int} {kind note : ByteArray} {sl : Value} (a : TAt u s num kind sl note) (b : Below u.heap.size u v) : TAt v s num kind sl note := a.blk (b.block s a.lt)
theorem TAt.new (w : World) (num : Int) (kind note : ByteArray) (sl : Value) (t : TypeId) : TAt (w.alloc (.cells #[.int .i64 num, .string kind, sl, .string note] t)) w.heap.size num kind sl note := by
  have F : ∀ j v, (#[.int .i64 num, .string kind, sl, .string note] : Array Value)[j]? = some v → (w.alloc (.cells #[.int .i64 num, .string kind, sl, .string note] t)).cell? ⟨w.heap.size, j, none⟩ = some v := fun j v hj => by
    rw [World.cell?_alloc_at _ t _ _ rfl]
    exact hj
  exact ⟨F 0 _ rfl, F 1 _ rfl, F 2 _ rfl, F 3 _ rfl⟩
theorem below_drw (w : World) (m : Nat) {B : Nat} (h : B ≤ w.heap.size) : Below B w (w.drewN m) := ⟨rfl, rfl, rfl, Nat.le_refl _, fun _ _ => rfl⟩
theorem below_alloc (w : World) (o : Obj) : Below w.heap.size w (w.alloc o) := (Below.refl _ _).alloc (Nat.le_refl _) _
/-- May a token be? -/
def mayB (num : Int) (kind note : ByteArray) (zs : List Int) (n : Nat) : Bool := decide (0 ≤ num) && (decide (num < 32) && (decide (0 < kind.size) && ((decide ((kind.size : Int) ≤ 64) && Lib.validD kind.data.toList) && ((decide ((note.size : Int) ≤ 4096) && Lib.validD note.data.toList) && risB zs n))))
set_option maxHeartbeats 1600000 in
set_option maxRecDepth 100000 in
theorem may_prog (num : Int) (kind note : ByteArray) (a : Option Addr) (n c : Nat) (zs : List Int) (w : World) (hT : Hid (Tabs w)) (hk : kind.size ≤ 9223372036854770000) (hnn : note.size ≤ 9223372036854770000) (hl : Hid (zs.length = n)) (hn : n ≤ 4611686018427387904) (hv : Hid (View w (.slice a n c) zs)) :
    Calls Tryd.prog 5 #[.agg #[.int .i64 num, .string kind, .slice a n c, .string note]] w fun e w' => Hid (e = .returned (.bool (mayB num kind note zs n)) ∧ Below w.heap.size w w') := by
  obtain ⟨ANS, HANS⟩ : ∃ A, Hid (mayB num kind note zs n = A) := ⟨_, rfl⟩
  rw [HANS.out]
  obtain ⟨B1, HB1⟩ : ∃ x, Hid ((decide ((kind.size : Int) ≤ 64) && Lib.validD kind.data.toList) = x) := ⟨_, rfl⟩
  obtain ⟨B2, HB2⟩ : ∃ x, Hid ((decide ((note.size : Int) ≤ 4096) && Lib.validD note.data.toList) = x) := ⟨_, rfl⟩
  obtain ⟨R, HR⟩ : ∃ x, Hid (risB zs n = x) := ⟨_, rfl⟩
  have HA0 : Hid (TAt (w.alloc (.cells #[.int .i64 num, .string kind, .slice a n c, .string note] 24)) w.heap.size num kind (.slice a n c) note ∧ Below w.heap.size w (w.alloc (.cells #[.int .i64 num, .string kind, .slice a n c, .string note] 24))) := ⟨TAt.new _ _ _ _ _ _, below_alloc _ _⟩
  go_enter Tryd.func5, Tryd.ntmps5
  go_upto_region 1 with fail
  generalize w.alloc (.cells #[.int .i64 num, .string kind, .slice a n c, .string note] 24) = w0 at HA0 ⊢
  have c0 := HA0.out.1.c0
  have c1 := HA0.out.1.c1
  by_cases h1 : 0 ≤ num
  case neg =>
    have d1 : decide (0 ≤ num) = false := by simpa using h1
    have hA : ANS = false := by rw [← HANS.out]; simp only [mayB, d1, Bool.true_and, Bool.false_and]
    subst hA
    go_wp2
    go_ret
    exact ⟨rfl, HA0.out.2⟩
  have d1 : decide (0 ≤ num) = true := by simpa using h1
  by_cases h2 : num < 32
  case neg =>
    have d2 : decide (num < 32) = false := by simpa using h2
    have hA : ANS = false := by rw [← HANS.out]; simp only [mayB, d1, d2, Bool.true_and, Bool.false_and]
    subst hA
    go_wp2
    go_ret
    exact ⟨rfl, HA0.out.2⟩
  have d2 : decide (num < 32) = true := by simpa using h2
  by_cases h3 : 0 < kind.size
  case neg =>
    have d3 : decide (0 < kind.size) = false := by simpa using h3
    have d3' : decide ((0 : Int) < (kind.size : Int)) = false := decide_eq_false (by omega)
    have hA : ANS = false := by rw [← HANS.out]; simp only [mayB, d1, d2, d3, Bool.true_and, Bool.false_and]
    subst hA
    go_wp2
    go_ret
    exact ⟨rfl, HA0.out.2⟩
  have d3 : decide (0 < kind.size) = true := by simpa using h3
  have d3' : decide ((0 : Int) < (kind.size : Int)) = true := decide_eq_true (by omega)
  have HAN : Hid (ANS = (B1 && (B2 && R))) := by
    show _ = _
    rw [← HANS.out, ← HB1.out, ← HB2.out, ← HR.out]
    simp only [mayB, d1, d2, d3, Bool.true_and]
  have H8 : Hid (Calls Tryd.prog 8 #[.string kind, .int .i64 64] w0 fun e w' => Hid (e = .returned (.bool B1) ∧ Below w0.heap.size w0 w')) := by
    have q := isText_ok kind 64 w0 hk (hT.out.below HA0.out.2)
    rw [HB1.out] at q
    exact q
  clear d3
  go_wp2_with (go_at_call 8; refine H8.out.mono ?_)
  intro e1 w1 hh
  obtain ⟨rfl, b1⟩ := hh.out
  have HA1 : Hid (TAt w1 w.heap.size num kind (.slice a n c) note ∧ Below w.heap.size w w1) := ⟨HA0.out.1.below b1, HA0.out.2.trans (b1.mono HA0.out.2.size)⟩
  clear hh b1 H8 c0 c1 HA0
  have c3 := HA1.out.1.c3
  cases B1
  · have hA : ANS = false := by rw [HAN.out]; rfl
    subst hA
    go_wp2
    go_ret
    exact ⟨rfl, HA1.out.2⟩
  have H8 : Hid (Calls Tryd.prog 8 #[.string note, .int .i64 4096] w1 fun e w' => Hid (e = .returned (.bool B2) ∧ Below w1.heap.size w1 w')) := by
    have q := isText_ok note 4096 w1 hnn (hT.out.below HA1.out.2)
    rw [HB2.out] at q
    exact q
  go_wp2_with (go_at_call 8; refine H8.out.mono ?_)
  intro e2 w2 hh
  obtain ⟨rfl, b2⟩ := hh.out
  have HA2 : Hid (TAt w2 w.heap.size num kind (.slice a n c) note ∧ Below w.heap.size w w2) := ⟨HA1.out.1.below b2, HA1.out.2.trans (b2.mono HA1.out.2.size)⟩
  clear hh b2 H8 c3 HA1
  have c2 := HA2.out.1.c2
  cases B2
  · have hA : ANS = false := by rw [HAN.out]; rfl
    subst hA
    go_wp2
    go_ret
    exact ⟨rfl, HA2.out.2⟩
  have H9 : Hid (Calls Tryd.prog 9 #[.slice a n c, .func (.func 10) #[] #[]] w2 fun e w' => e = .returned (.bool R) ∧ w' = w2) := by
    have q := rising_ok a n c zs w2 hl hn (hv.out.kept fun b hb => HA2.out.2.block b hb)
    rw [HR.out] at q
    exact q
  have hA : ANS = R := by rw [HAN.out]; rfl
  subst hA
  go_wp2_with (go_at_call 9; refine H9.out.mono ?_; rintro e3 w3 ⟨rfl, hw3⟩; obtain rfl := hw3.symm)
  go_ret
  exact ⟨rfl, HA2.out.2⟩
theorem may_false {num : Int} {kind note : ByteArray} {zs : List Int} {n : Nat} (h : ¬ (0 ≤ num ∧ num < 32 ∧ 0 < kind.size ∧ (kind.size : Int) ≤ 64 ∧ Lib.validD kind.data.toList = true ∧ (note.size : Int) ≤ 4096 ∧ Lib.validD note.data.toList = true)) : mayB num kind note zs n = false := by
  cases hm : mayB num kind note zs n with
  | false => rfl
  | true =>
    exfalso
    simp only [mayB, Bool.and_eq_true, decide_eq_true_eq] at hm
    exact h ⟨hm.1, hm.2.1, hm.2.2.1, hm.2.2.2.1.1, hm.2.2.2.1.2, hm.2.2.2.2.1.1, hm.2.2.2.2.1.2⟩
theorem may_true {num : Int} {kind note : ByteArray} {zs : List Int} {n : Nat} (h : 0 ≤ num ∧ num < 32 ∧ 0 < kind.size ∧ (kind.size : Int) ≤ 64 ∧ Lib.validD kind.data.toList = true ∧ (note.size : Int) ≤ 4096 ∧ Lib.validD note.data.toList = true) : mayB num kind note zs n = risB zs n := by
  simp only [mayB, decide_eq_true h.1, decide_eq_true h.2.1, decide_eq_true h.2.2.1, decide_eq_true h.2.2.2.1, h.2.2.2.2.1, decide_eq_true h.2.2.2.2.2.1, h.2.2.2.2.2.2, Bool.true_and, Bool.and_true]
set_option maxHeartbeats 3200000 in
set_option maxRecDepth 100000 in
theorem may_ref (num : Int) (kind note : ByteArray) (a : Option Addr) (n c : Nat) (zs : List Int) (w : World) (hk : kind.size ≤ 9223372036854770000) (hnn : note.size ≤ 9223372036854770000) (hl : Hid (zs.length = n)) (hn : n ≤ 4611686018427387904) (hv : Hid (View w (.slice a n c) zs)) :
    Calls Tryd.prog 6 #[.agg #[.int .i64 num, .string kind, .slice a n c, .string note]] w fun e w' => Hid (e = .returned (.bool (mayB num kind note zs n)) ∧ Below w.heap.size w w') := by
  obtain ⟨ANS, HANS⟩ : ∃ A, Hid (mayB num kind note zs n = A) := ⟨_, rfl⟩
  rw [HANS.out]
  have HA0 : Hid (TAt (w.alloc (.cells #[.int .i64 num, .string kind, .slice a n c, .string note] 24)) w.heap.size num kind (.slice a n c) note ∧ Below w.heap.size w (w.alloc (.cells #[.int .i64 num, .string kind, .slice a n c, .string note] 24))) := ⟨TAt.new _ _ _ _ _ _, below_alloc _ _⟩
  go_enter Tryd.func6, Tryd.ntmps6
  go_upto_region 1 with fail
  generalize w.alloc (.cells #[.int .i64 num, .string kind, .slice a n c, .string note] 24) = w0 at HA0 ⊢
  have c0 := HA0.out.1.c0
  have c1 := HA0.out.1.c1
  have c2 := HA0.out.1.c2
  have c3 := HA0.out.1.c3
  by_cases h1 : 0 ≤ num ∧ num ≤ 31
  case neg =>
    have i1 : (decide ((0 : Int) ≤ num) && decide (num ≤ 31)) = false := by simp; omega
    have hA : ANS = false := by rw [← HANS.out]; exact may_false (by omega)
    subst hA
    go_wp2_with (first | (go_at_call 11; refine (in_ok _ _ _ _).mono ?_; rintro e1 w1 ⟨rfl, hw1⟩; obtain rfl := hw1.symm) | (go_at_call 12; refine (isText_ref _ _ (by assumption)).mono ?_; rintro e1 w1 ⟨rfl, hw1⟩; obtain rfl := hw1.symm))
    go_ret
    exact ⟨rfl, HA0.out.2⟩
  have i1 : (decide ((0 : Int) ≤ num) && decide (num ≤ 31)) = true := by simp; omega
  by_cases h2 : 1 ≤ kind.size ∧ kind.size ≤ 64
  case neg =>
    have i2 : (decide ((1 : Int) ≤ (kind.size : Int)) && decide ((kind.size : Int) ≤ 64)) = false := by rw [Bool.and_eq_false_iff, decide_eq_false_iff_not, decide_eq_false_iff_not]; omega
    have hA : ANS = false := by rw [← HANS.out]; exact may_false (by omega)
    subst hA
    go_wp2_with (first | (go_at_call 11; refine (in_ok _ _ _ _).mono ?_; rintro e1 w1 ⟨rfl, hw1⟩; obtain rfl := hw1.symm) | (go_at_call 12; refine (isText_ref _ _ (by assumption)).mono ?_; rintro e1 w1 ⟨rfl, hw1⟩; obtain rfl := hw1.symm))
    go_ret
    exact ⟨rfl, HA0.out.2⟩
  have i2 : (decide ((1 : Int) ≤ (kind.size : Int)) && decide ((kind.size : Int) ≤ 64)) = true := by rw [Bool.and_eq_true, decide_eq_true_eq, decide_eq_true_eq]; omega
  by_cases h3 : note.size ≤ 4096
  case neg =>
    have i3 : decide ((4096 : Int) < (note.size : Int)) = true := decide_eq_true (by omega)
    have hA : ANS = false := by rw [← HANS.out]; exact may_false (by omega)
    subst hA
    go_wp2_with (first | (go_at_call 11; refine (in_ok _ _ _ _).mono ?_; rintro e1 w1 ⟨rfl, hw1⟩; obtain rfl := hw1.symm) | (go_at_call 12; refine (isText_ref _ _ (by assumption)).mono ?_; rintro e1 w1 ⟨rfl, hw1⟩; obtain rfl := hw1.symm))
    go_ret
    exact ⟨rfl, HA0.out.2⟩
  have i3 : decide ((4096 : Int) < (note.size : Int)) = false := decide_eq_false (by omega)
  cases v1 : Lib.validD kind.data.toList
  · have hA : ANS = false := by rw [← HANS.out]; exact may_false (fun q => by rw [v1] at q; exact Bool.noConfusion q.2.2.2.2.1)
    subst hA
    go_wp2_with (first | (go_at_call 11; refine (in_ok _ _ _ _).mono ?_; rintro e1 w1 ⟨rfl, hw1⟩; obtain rfl := hw1.symm) | (go_at_call 12; refine (isText_ref _ _ (by assumption)).mono ?_; rintro e1 w1 ⟨rfl, hw1⟩; obtain rfl := hw1.symm))
    go_ret
    exact ⟨rfl, HA0.out.2⟩
  cases v2 : Lib.validD note.data.toList
  · have hA : ANS = false := by rw [← HANS.out]; exact may_false (fun q => by rw [v2] at q; exact Bool.noConfusion q.2.2.2.2.2.2)
    subst hA
    go_wp2_with (first | (go_at_call 11; refine (in_ok _ _ _ _).mono ?_; rintro e1 w1 ⟨rfl, hw1⟩; obtain rfl := hw1.symm) | (go_at_call 12; refine (isText_ref _ _ (by assumption)).mono ?_; rintro e1 w1 ⟨rfl, hw1⟩; obtain rfl := hw1.symm))
    go_ret
    exact ⟨rfl, HA0.out.2⟩
  have HAR : Hid (ANS = risB zs n) := by rw [← HANS.out]; exact may_true ⟨by omega, by omega, by omega, by omega, v1, by omega, v2⟩
  go_wp2_with (first | (go_at_call 11; refine (in_ok _ _ _ _).mono ?_; rintro e1 w1 ⟨rfl, hw1⟩; obtain rfl := hw1.symm) | (go_at_call 12; refine (isText_ref _ _ (by assumption)).mono ?_; rintro e1 w1 ⟨rfl, hw1⟩; obtain rfl := hw1.symm))
  clear HANS i1 i2 i3 c0 c1 c3 v1 v2
  go_loopw [3] (fun vi wr => ∃ k : Nat, vi = .int .i64 (k : Nat) ∧ k ≤ n ∧ Hid (risB zs k = true) ∧ Hid (∃ m, wr = w0.drewN m)) (fun vi _ => n - (intOf vi).toNat)
  case atStart => exact ⟨0, rfl, by omega, rfl, 0, rfl⟩
  case round =>
    obtain ⟨k, rfl, hkn, HR, HW⟩ := hrel
    have k2 : wr.cell? ⟨w.heap.size, 2, none⟩ = some (.slice a n c) := by obtain ⟨m, rfl⟩ := HW.out; exact c2
    by_cases hlt : k < n
    · have hlz : (k : Int) < (n : Int) := by omega
      obtain ⟨b, off, hab, HC⟩ : ∃ b off, a = some ⟨b, off, none⟩ ∧ Hid (∀ i, i < n → w0.cell? ⟨b, off + i, none⟩ = some (.int .i64 (zs.getD i 0))) := by
        obtain ⟨a', c', e, _, _, _, h4⟩ := hv.out.kept fun b hb => HA0.out.2.block b hb
        injection e with e1 e2 e3
        rcases h4 with h4 | ⟨b, off, e4, h5⟩
        · have := hl.out; rw [h4] at this; simp at this; omega
        · exact ⟨b, off, by rw [e1, e4], fun i hi => h5 i (by rw [hl.out]; exact hi)⟩
      subst hab
      obtain ⟨z, HZ⟩ : ∃ z, Hid (zs.getD k 0 = z) := ⟨_, rfl⟩
      have f1 : wr.cell? ⟨b, off + k, none⟩ = some (.int .i64 z) := by rw [← HZ.out]; obtain ⟨m, rfl⟩ := HW.out; exact HC.out k hlt
      have HS : Hid (risB zs (k + 1) = ((decide (0 ≤ z) && decide (z < 32)) && (decide (k = 0) || decide (zs.getD (k - 1) 0 < z)))) := by
        show risB zs (k + 1) = _
        simp only [risB]
        rw [HR.out, HZ.out, Bool.true_and]
      have H11 : Hid (∀ q, Calls Tryd.prog 11 #[.int .i64 z, .int .i64 0, .int .i64 31] (wr.drewN q) fun e w' => e = .returned (.bool (decide (0 ≤ z) && decide (z ≤ 31))) ∧ ∃ m', w' = (wr.drewN q).drewN m') := fun q => (in_ok z 0 31 _).mono fun e w' h => ⟨h.1, 0, h.2⟩
      by_cases hz : 0 ≤ z ∧ z ≤ 31
      case neg =>
        have i1 : (decide ((0 : Int) ≤ z) && decide (z ≤ 31)) = false := by simp; omega
        have hA : ANS = false := by rw [HAR.out]; exact risB_false zs (j := k + 1) (by rw [HS.out]; simp; omega) (by omega)
        subst hA
        go_wp2
        go_quiet (first | (go_at_call 11; refine Calls.quiet_of (H11.out _)))
        go_wp2
        go_ret
        exact ⟨rfl, by obtain ⟨m, rfl⟩ := HW.out; exact HA0.out.2.trans ((below_drw _ _ HA0.out.2.size).trans (below_drw _ _ HA0.out.2.size))⟩
      have i1 : (decide ((0 : Int) ≤ z) && decide (z ≤ 31)) = true := by simp; omega
      have i1' : (decide ((0 : Int) ≤ z) && decide (z < 32)) = true := by simp; omega
      rw [i1'] at HS
      by_cases h0 : k = 0
      · have hk0 : decide ((0 : Int) < (k : Int)) = false := decide_eq_false (by omega)
        have hk1 : decide (0 < k) = false := decide_eq_false (by omega)
        have H0 : Hid (k = 0) := h0
        clear h0 i1'
        go_wp2
        go_quiet (first | (go_at_call 11; refine Calls.quiet_of (H11.out _)))
        go_wp2
        go_roundw
        case rel => exact ⟨k + 1, by go_num, by omega, by show risB _ _ = true; rw [HS.out, H0.out]; simp, by obtain ⟨m, rfl⟩ := HW.out; exact ⟨_, World.drewN_drewN _ _ _⟩⟩
        case measure => simp [intOf]; omega
      · have hk0 : (0 : Int) < (k : Int) := by omega
        have hk0' : decide ((0 : Int) < (k : Int)) = true := decide_eq_true (by omega)
        obtain ⟨A, HA⟩ : ∃ A, Hid (zs.getD (k - 1) 0 = A) := ⟨_, rfl⟩
        have f2 : wr.cell? ⟨b, off + (k - 1), none⟩ = some (.int .i64 A) := by rw [← HA.out]; obtain ⟨m, rfl⟩ := HW.out; exact HC.out (k - 1) (by omega)
        obtain ⟨j, rfl⟩ : ∃ j, k = j + 1 := ⟨k - 1, by omega⟩
        simp only [Nat.add_sub_cancel] at f2
        by_cases hzA : z ≤ A
        · have hA : ANS = false := by rw [HAR.out]; exact risB_false zs (j := j + 1 + 1) (by rw [HS.out, HA.out]; simp; omega) (by omega)
          subst hA
          clear i1'
          go_wp2
          go_quiet (first | (go_at_call 11; refine Calls.quiet_of (H11.out _)))
          go_wp2
          go_ret
          exact ⟨rfl, by obtain ⟨m, rfl⟩ := HW.out; exact HA0.out.2.trans ((below_drw _ _ HA0.out.2.size).trans (below_drw _ _ HA0.out.2.size))⟩
        · clear i1'
          go_wp2
          go_quiet (first | (go_at_call 11; refine Calls.quiet_of (H11.out _)))
          go_wp2
          go_roundw
          case rel => exact ⟨j + 1 + 1, by go_num, by omega, by rw [HS.out, HA.out, decide_eq_true (show A < z by omega), Bool.or_true, Bool.and_true]; rfl, by obtain ⟨m, rfl⟩ := HW.out; exact ⟨_, World.drewN_drewN _ _ _⟩⟩
          case measure => simp [intOf]; omega
    · obtain rfl : k = n := by omega
      have hA : ANS = true := by rw [HAR.out]; exact HR.out
      subst hA
      go_wp2
      go_ret
      exact ⟨rfl, by obtain ⟨m, rfl⟩ := HW.out; exact HA0.out.2.trans (below_drw _ _ HA0.out.2.size)⟩
end Go.Proofs.YtlnhnheplppeaaaDoor
