import Derived.Test.YtkeklmkaleomkaaDoorPart08
import Derived.Test.YtkeklmkaleomkaaDoorPart05
import Derived.Test.YtkeklmkaleomkaaDoorPart04
import Derived.BigQuiet
import Derived.Deep.AppendLies
import Derived.Deep.RegionLaw
namespace Go.Proofs.YtkeklmkaleomkaaDoor
open Go.RowKit
set_option linter.unusedVariables false
set_option linter.unusedSimpArgs false
set_option maxHeartbeats 400000 in
theorem feeds_few2 (a : Option Addr) (n c : Nat) (w : World) (h1 : n < 16) : Calls Tryd.prog 23 #[.slice a n c] w fun e w' => e = .returned (.bool false) ∧ w' = w := by
  have d1 : decide ((16 : Int) ≤ (n : Nat)) = false := by simp; omega
  go_enter Tryd.func23, Tryd.ntmps23
  go_wp2
  go_ret
  exact ⟨rfl, rfl⟩
set_option maxHeartbeats 400000 in
theorem feeds_many2 (a : Option Addr) (n c : Nat) (w : World) (h1 : 65536 < n) : Calls Tryd.prog 23 #[.slice a n c] w fun e w' => e = .returned (.bool false) ∧ w' = w := by
  have d1 : decide ((16 : Int) ≤ (n : Nat)) = true := by simp; omega
  have d2 : decide (((n : Nat) : Int) ≤ 65536) = false := by simp; omega
  go_enter Tryd.func23, Tryd.ntmps23
  go_wp2
  go_ret
  exact ⟨rfl, rfl⟩
instance (h : Int) : Decidable (Known h) := by unfold Known; infer_instance
/-- What New tells of what it doesn't take. -/
def newE (h L : Int) (en nn pn : Nat) : Int := if ¬ Known h then 10 else if L < 1 ∨ 16777216 < L then 2 else if en < 16 ∨ 65536 < en then 60 else if 65536 < nn ∨ 65536 < pn then 4 else 0
theorem newE_zero {h L : Int} {en nn pn : Nat} (e : newE h L en nn pn = 0) : Known h ∧ 1 ≤ L ∧ L ≤ 16777216 ∧ 16 ≤ en ∧ en ≤ 65536 ∧ nn ≤ 65536 ∧ pn ≤ 65536 := by
  unfold newE at e
  by_cases k : ¬ Known h
  · rw [if_pos k] at e; cases e
  · rw [if_neg k] at e
    by_cases h1 : L < 1 ∨ 16777216 < L
    · rw [if_pos h1] at e; cases e
    · rw [if_neg h1] at e
      by_cases h2 : en < 16 ∨ 65536 < en
      · rw [if_pos h2] at e; cases e
      · rw [if_neg h2] at e
        by_cases h3 : 65536 < nn ∨ 65536 < pn
        · rw [if_pos h3] at e; cases e
        · exact ⟨Classical.not_not.1 k, by omega, by omega, by omega, by omega, by omega, by omega⟩
set_option maxHeartbeats 800000 in
set_option maxRecDepth 100000 in
theorem rnew_10 (h L : Int) (ea na pa : Option Addr) (en ec nn nc pn pc : Nat) (w : World) (k : ¬ Known h) : Calls Tryd.prog 28 #[.int .i64 h, .int .i64 L, .slice ea en ec, .slice na nn nc, .slice pa pn pc] w fun e w' => e = .returned (.tuple #[.pointer none, .int .i64 10]) ∧ w' = w := by
  go_enter Tryd.func28, Tryd.ntmps28
  go_wp2_with (go_at_call 42; refine (rsize_bad h k w).mono ?_; rintro e1 w1 ⟨rfl, hw1⟩; obtain rfl := hw1.symm)
  go_ret2
  exact ⟨rfl, rfl⟩
set_option maxHeartbeats 800000 in
set_option maxRecDepth 100000 in
theorem rnew_2a (h L : Int) (ea na pa : Option Addr) (en ec nn nc pn pc : Nat) (w : World) (k : Known h) (hL1t : L < 1) : Calls Tryd.prog 28 #[.int .i64 h, .int .i64 L, .slice ea en ec, .slice na nn nc, .slice pa pn pc] w fun e w' => e = .returned (.tuple #[.pointer none, .int .i64 2]) ∧ w' = w := by
  obtain ⟨sz, HSZ⟩ : ∃ n : Nat, Hid (n = szOf h) := ⟨_, (show _ = _ from rfl)⟩
  have hsz : 1 ≤ sz ∧ sz ≤ 64 := by rw [HSZ.out]; exact szOf_pos k
  have H42 : Hid (Calls Tryd.prog 42 #[.int .i64 h] w fun e w' => e = .returned (.int .i64 (sz : Nat)) ∧ w' = w) := by
    have q := rsize_ok h k w
    rw [← HSZ.out] at q
    exact q
  have q0 : (((sz : Nat) : Int) == 0) = false := by simp; omega
  have qL1t : decide (L < 1) = true := by simp; omega
  go_enter Tryd.func28, Tryd.ntmps28
  go_wp2_with (go_at_call 42; refine H42.out.mono ?_; rintro e1 w1 ⟨rfl, hw1⟩; obtain rfl := hw1.symm)
  go_ret2
  exact ⟨rfl, rfl⟩
set_option maxHeartbeats 800000 in
set_option maxRecDepth 100000 in
theorem rnew_2b (h L : Int) (ea na pa : Option Addr) (en ec nn nc pn pc : Nat) (w : World) (k : Known h) (hL1f : ¬ L < 1) (hL2t : 16777216 < L) : Calls Tryd.prog 28 #[.int .i64 h, .int .i64 L, .slice ea en ec, .slice na nn nc, .slice pa pn pc] w fun e w' => e = .returned (.tuple #[.pointer none, .int .i64 2]) ∧ w' = w := by
  obtain ⟨sz, HSZ⟩ : ∃ n : Nat, Hid (n = szOf h) := ⟨_, (show _ = _ from rfl)⟩
  have hsz : 1 ≤ sz ∧ sz ≤ 64 := by rw [HSZ.out]; exact szOf_pos k
  have H42 : Hid (Calls Tryd.prog 42 #[.int .i64 h] w fun e w' => e = .returned (.int .i64 (sz : Nat)) ∧ w' = w) := by
    have q := rsize_ok h k w
    rw [← HSZ.out] at q
    exact q
  have q0 : (((sz : Nat) : Int) == 0) = false := by simp; omega
  have qL1f : decide (L < 1) = false := by simp; omega
  have qL2t : decide (16777216 < L) = true := by simp; omega
  go_enter Tryd.func28, Tryd.ntmps28
  go_wp2_with (go_at_call 42; refine H42.out.mono ?_; rintro e1 w1 ⟨rfl, hw1⟩; obtain rfl := hw1.symm)
  go_ret2
  exact ⟨rfl, rfl⟩
set_option maxHeartbeats 800000 in
set_option maxRecDepth 100000 in
theorem rnew_60a (h L : Int) (ea na pa : Option Addr) (en ec nn nc pn pc : Nat) (w : World) (k : Known h) (hL1f : ¬ L < 1) (hL2f : ¬ 16777216 < L) (he1t : en < 16) : Calls Tryd.prog 28 #[.int .i64 h, .int .i64 L, .slice ea en ec, .slice na nn nc, .slice pa pn pc] w fun e w' => e = .returned (.tuple #[.pointer none, .int .i64 60]) ∧ w' = w := by
  obtain ⟨sz, HSZ⟩ : ∃ n : Nat, Hid (n = szOf h) := ⟨_, (show _ = _ from rfl)⟩
  have hsz : 1 ≤ sz ∧ sz ≤ 64 := by rw [HSZ.out]; exact szOf_pos k
  have H42 : Hid (Calls Tryd.prog 42 #[.int .i64 h] w fun e w' => e = .returned (.int .i64 (sz : Nat)) ∧ w' = w) := by
    have q := rsize_ok h k w
    rw [← HSZ.out] at q
    exact q
  have q0 : (((sz : Nat) : Int) == 0) = false := by simp; omega
  have qL1f : decide (L < 1) = false := by simp; omega
  have qL2f : decide (16777216 < L) = false := by simp; omega
  have qe1t : decide (((en : Nat) : Int) < 16) = true := by simp; omega
  go_enter Tryd.func28, Tryd.ntmps28
  go_wp2_with (go_at_call 42; refine H42.out.mono ?_; rintro e1 w1 ⟨rfl, hw1⟩; obtain rfl := hw1.symm)
  go_ret2
  exact ⟨rfl, rfl⟩
set_option maxHeartbeats 800000 in
set_option maxRecDepth 100000 in
theorem rnew_60b (h L : Int) (ea na pa : Option Addr) (en ec nn nc pn pc : Nat) (w : World) (k : Known h) (hL1f : ¬ L < 1) (hL2f : ¬ 16777216 < L) (he1f : ¬ en < 16) (he2t : 65536 < en) : Calls Tryd.prog 28 #[.int .i64 h, .int .i64 L, .slice ea en ec, .slice na nn nc, .slice pa pn pc] w fun e w' => e = .returned (.tuple #[.pointer none, .int .i64 60]) ∧ w' = w := by
  obtain ⟨sz, HSZ⟩ : ∃ n : Nat, Hid (n = szOf h) := ⟨_, (show _ = _ from rfl)⟩
  have hsz : 1 ≤ sz ∧ sz ≤ 64 := by rw [HSZ.out]; exact szOf_pos k
  have H42 : Hid (Calls Tryd.prog 42 #[.int .i64 h] w fun e w' => e = .returned (.int .i64 (sz : Nat)) ∧ w' = w) := by
    have q := rsize_ok h k w
    rw [← HSZ.out] at q
    exact q
  have q0 : (((sz : Nat) : Int) == 0) = false := by simp; omega
  have qL1f : decide (L < 1) = false := by simp; omega
  have qL2f : decide (16777216 < L) = false := by simp; omega
  have qe1f : decide (((en : Nat) : Int) < 16) = false := by simp; omega
  have qe2t : decide ((65536 : Int) < (en : Nat)) = true := by simp; omega
  go_enter Tryd.func28, Tryd.ntmps28
  go_wp2_with (go_at_call 42; refine H42.out.mono ?_; rintro e1 w1 ⟨rfl, hw1⟩; obtain rfl := hw1.symm)
  go_ret2
  exact ⟨rfl, rfl⟩
set_option maxHeartbeats 800000 in
set_option maxRecDepth 100000 in
theorem rnew_4a (h L : Int) (ea na pa : Option Addr) (en ec nn nc pn pc : Nat) (w : World) (k : Known h) (hL1f : ¬ L < 1) (hL2f : ¬ 16777216 < L) (he1f : ¬ en < 16) (he2f : ¬ 65536 < en) (hn1t : 65536 < nn) : Calls Tryd.prog 28 #[.int .i64 h, .int .i64 L, .slice ea en ec, .slice na nn nc, .slice pa pn pc] w fun e w' => e = .returned (.tuple #[.pointer none, .int .i64 4]) ∧ w' = w := by
  obtain ⟨sz, HSZ⟩ : ∃ n : Nat, Hid (n = szOf h) := ⟨_, (show _ = _ from rfl)⟩
  have hsz : 1 ≤ sz ∧ sz ≤ 64 := by rw [HSZ.out]; exact szOf_pos k
  have H42 : Hid (Calls Tryd.prog 42 #[.int .i64 h] w fun e w' => e = .returned (.int .i64 (sz : Nat)) ∧ w' = w) := by
    have q := rsize_ok h k w
    rw [← HSZ.out] at q
    exact q
  have q0 : (((sz : Nat) : Int) == 0) = false := by simp; omega
  have qL1f : decide (L < 1) = false := by simp; omega
  have qL2f : decide (16777216 < L) = false := by simp; omega
  have qe1f : decide (((en : Nat) : Int) < 16) = false := by simp; omega
  have qe2f : decide ((65536 : Int) < (en : Nat)) = false := by simp; omega
  have qn1t : decide ((65536 : Int) < (nn : Nat)) = true := by simp; omega
  go_enter Tryd.func28, Tryd.ntmps28
  go_wp2_with (go_at_call 42; refine H42.out.mono ?_; rintro e1 w1 ⟨rfl, hw1⟩; obtain rfl := hw1.symm)
  go_ret2
  exact ⟨rfl, rfl⟩
set_option maxHeartbeats 800000 in
set_option maxRecDepth 100000 in
theorem rnew_4b (h L : Int) (ea na pa : Option Addr) (en ec nn nc pn pc : Nat) (w : World) (k : Known h) (hL1f : ¬ L < 1) (hL2f : ¬ 16777216 < L) (he1f : ¬ en < 16) (he2f : ¬ 65536 < en) (hn1f : ¬ 65536 < nn) (hp1t : 65536 < pn) : Calls Tryd.prog 28 #[.int .i64 h, .int .i64 L, .slice ea en ec, .slice na nn nc, .slice pa pn pc] w fun e w' => e = .returned (.tuple #[.pointer none, .int .i64 4]) ∧ w' = w := by
  obtain ⟨sz, HSZ⟩ : ∃ n : Nat, Hid (n = szOf h) := ⟨_, (show _ = _ from rfl)⟩
  have hsz : 1 ≤ sz ∧ sz ≤ 64 := by rw [HSZ.out]; exact szOf_pos k
  have H42 : Hid (Calls Tryd.prog 42 #[.int .i64 h] w fun e w' => e = .returned (.int .i64 (sz : Nat)) ∧ w' = w) := by
    have q := rsize_ok h k w
    rw [← HSZ.out] at q
    exact q
  have q0 : (((sz : Nat) : Int) == 0) = false := by simp; omega
  have qL1f : decide (L < 1) = false := by simp; omega
  have qL2f : decide (16777216 < L) = false := by simp; omega
  have qe1f : decide (((en : Nat) : Int) < 16) = false := by simp; omega
  have qe2f : decide ((65536 : Int) < (en : Nat)) = false := by simp; omega
  have qn1f : decide ((65536 : Int) < (nn : Nat)) = false := by simp; omega
  have qp1t : decide ((65536 : Int) < (pn : Nat)) = true := by simp; omega
  go_enter Tryd.func28, Tryd.ntmps28
  go_wp2_with (go_at_call 42; refine H42.out.mono ?_; rintro e1 w1 ⟨rfl, hw1⟩; obtain rfl := hw1.symm)
  go_ret2
  exact ⟨rfl, rfl⟩
/-- cofferref06.New, of what is refused. -/
theorem rnew_bad (h L : Int) (ea na pa : Option Addr) (en ec nn nc pn pc : Nat) (w : World) (hE : newE h L en nn pn ≠ 0) : Calls Tryd.prog 28 #[.int .i64 h, .int .i64 L, .slice ea en ec, .slice na nn nc, .slice pa pn pc] w fun e w' => e = .returned (.tuple #[.pointer none, .int .i64 (newE h L en nn pn)]) ∧ w' = w := by
  unfold newE at hE ⊢
  by_cases k : ¬ Known h
  · rw [if_pos k]; exact rnew_10 h L ea na pa en ec nn nc pn pc w k
  · rw [if_neg k] at hE ⊢
    have k' := Classical.not_not.1 k
    by_cases h1 : L < 1 ∨ 16777216 < L
    · rw [if_pos h1]
      by_cases h1' : L < 1
      · exact rnew_2a h L ea na pa en ec nn nc pn pc w k' h1'
      · exact rnew_2b h L ea na pa en ec nn nc pn pc w k' h1' (by omega)
    · rw [if_neg h1] at hE ⊢
      by_cases h2 : en < 16 ∨ 65536 < en
      · rw [if_pos h2]
        by_cases h2' : en < 16
        · exact rnew_60a h L ea na pa en ec nn nc pn pc w k' (by omega) (by omega) h2'
        · exact rnew_60b h L ea na pa en ec nn nc pn pc w k' (by omega) (by omega) h2' (by omega)
      · rw [if_neg h2] at hE ⊢
        by_cases h3 : 65536 < nn ∨ 65536 < pn
        · rw [if_pos h3]
          by_cases h3' : 65536 < nn
          · exact rnew_4a h L ea na pa en ec nn nc pn pc w k' (by omega) (by omega) (by omega) (by omega) h3'
          · exact rnew_4b h L ea na pa en ec nn nc pn pc w k' (by omega) (by omega) (by omega) (by omega) h3' (by omega)
        · rw [if_neg h3] at hE; exact absurd rfl hE
theorem zc60 : Tryd.zeroCells60 = (stL 0 (fun _ => 0) (fun _ => 0)).toArray := by kernel_rfl
set_option maxHeartbeats 800000 in
set_option maxRecDepth 100000 in
/-- digest.Size of what is no digest. -/
theorem size_un (h : Int) (k : ¬ Known h) (w : World) : Calls Tryd.prog 39 #[.int .i64 h] w fun e w' => e = .returned (.int .i64 0) ∧ w' = w := by
  have d1 : ¬ h = 224 := fun e => k (.inl e)
  have d2 : ¬ h = 256 := fun e => k (.inr (.inl e))
  have d3 : ¬ h = 384 := fun e => k (.inr (.inr (.inl e)))
  have d4 : ¬ h = 512 := fun e => k (.inr (.inr (.inr e)))
  have e1 : blockOf h = 0 := by simp [blockOf, d1, d2, d3, d4]
  go_enter Tryd.func39, Tryd.ntmps39
  go_wp2_with (first | (go_at_call 45; refine (block_any _ _).mono ?_; rintro e1 w1 ⟨rfl, hw1⟩; obtain rfl := hw1.symm; rw [e1]))
  go_ret
  exact ⟨rfl, rfl⟩
set_option maxHeartbeats 1600000 in
set_option maxRecDepth 100000 in
/-- firstState, of what is no digest. -/
theorem firstState_bad (h : Int) (w : World) (k : ¬ Known h) :
    Calls Tryd.prog 22 #[.int .i64 h] w fun e w' => e = .returned (.tuple #[.agg (stL 0 (fun _ => 0) (fun _ => 0)).toArray, .int .i64 10]) ∧ Below w.heap.size w w' := by
  obtain ⟨C, HC⟩ : ∃ C : List Value, Hid (C = stL 0 (fun _ => 0) (fun _ => 0)) := ⟨_, rfl⟩
  have e60 : Tryd.zeroCells60 = C.toArray := by rw [HC.out]; exact zc60
  have HCl : Hid (C.length = 129) := by show _ = _; rw [HC.out]; exact stL_length _ _ _
  have HCs : Hid (C.toArray.size = 129) := by show _ = _; simpa using HCl.out
  have HCo : Hid (C.toArray.all (·.oneCell') = true) := by show _ = _; rw [HC.out]; exact stL_one _ _ _
  have HT : Hid ((w.alloc (.cells C.toArray 60)).there w.heap.size 0 129) := there_new w C.toArray 60 129 (by rw [HCs.out]; exact Nat.le_refl _)
  rw [← HC.out]
  go_enter Tryd.func22, Tryd.ntmps22
  go_wp2_with (first
    | (go_at_call 39; refine (size_un h k _).mono ?_; rintro e5 w5 ⟨rfl, hw5⟩; obtain rfl := hw5.symm)
    | (refine wpList_store_mid (by rfl) 60 (.tmp 2) (.tmp 11) (by rfl) w.heap.size 0 C.toArray (by rfl) (by first | rfl | exact congrArg _ e60 | simp [e60]) (by rw [HCs.out]; exact HT.out) (by rw [HCs.out]; exact size60) HCo.out ?_)
    | fail)
  have HW : Hid (Below w.heap.size w ((w.alloc (.cells C.toArray 60)).setCells w.heap.size 0 C)) := below_setCells _ (Nat.le_refl _) _ _ _ ((Below.refl _ _).alloc (Nat.le_refl _) _)
  have hl := run_loadVar_mid (P := Tryd.prog) ((w.alloc (.cells C.toArray 60)).setCells w.heap.size 0 C) w.heap.size 0 60 C _ (World.rangeAt_setCells_same (w.alloc (.cells C.toArray 60)) w.heap.size 0 C (by rw [HCl.out]; exact HT.out)) Tryd.underlying60 rfl (by rw [HCl.out]; exact size60)
  (try simp only [Exit.inBlock, Exit.then])
  refine bodyPost_ret (v := .tuple #[.agg C.toArray, .int .i64 10]) ?_ rfl ⟨rfl, HW.out⟩
  rw [results_cell_tmp Tryd.results22]
  simp [asAddr, hl]
set_option maxHeartbeats 1600000 in
set_option maxRecDepth 100000 in
theorem spnew_10 (h L : Int) (ea na pa : Option Addr) (en ec nn nc pn pc : Nat) (w : World) (k : ¬ Known h)  : Calls Tryd.prog 9 #[.int .i64 h, .int .i64 L, .slice ea en ec, .slice na nn nc, .slice pa pn pc] w fun e w' => e = .returned (.tuple #[.pointer none, .int .i64 10]) ∧ Below w.heap.size w w' := by
  obtain ⟨C, HC⟩ : ∃ C : List Value, Hid (C = stL 0 (fun _ => 0) (fun _ => 0)) := ⟨_, rfl⟩
  have HCl : Hid (C.length = 129) := by show _ = _; rw [HC.out]; exact stL_length _ _ _
  have HCs : Hid (C.toArray.size = 129) := by show _ = _; simpa using HCl.out
  have HCo : Hid (C.toArray.all (·.oneCell') = true) := by show _ = _; rw [HC.out]; exact stL_one _ _ _
  have H22 : Hid (Calls Tryd.prog 22 #[.int .i64 h] w fun e w' => Hid (e = .returned (.tuple #[.agg C.toArray, .int .i64 10]) ∧ Below w.heap.size w w')) := by
    have q := firstState_bad h w k
    rw [← HC.out] at q
    exact q
  go_enter Tryd.func9, Tryd.ntmps9
  go_wp2_with (go_at_call 22; refine H22.out.mono ?_)
  intro e1 w1 hh
  obtain ⟨rfl, hb1⟩ := hh.out
  have HB1 : Hid (Below w.heap.size w w1) := hb1
  have HX1 : Hid ((w1.alloc (.cells Tryd.zeroCells60 60)).there w1.heap.size 0 129) := there_new w1 Tryd.zeroCells60 60 129 (by rw [zero60]; exact Nat.le_refl _)
  clear hh hb1 H22
  go_upto_region 2 with (first
    | (refine wpList_store_mid (by rfl) 60 (.tmp 12) (.tmp 18) (by rfl) w1.heap.size 0 C.toArray (by rfl) (by rfl) (by rw [HCs.out]; exact HX1.out) (by rw [HCs.out]; exact size60) HCo.out ?_)
    | fail)
  have HW2 : Hid (Below w.heap.size w ((w1.alloc (.cells Tryd.zeroCells60 60)).setCells w1.heap.size 0 C)) := below_setCells _ HB1.out.size _ _ _ (HB1.out.alloc HB1.out.size _)
  generalize (w1.alloc (.cells Tryd.zeroCells60 60)).setCells w1.heap.size 0 C = w2 at HW2 ⊢
  clear HX1
  go_wp2
  go_ret2
  exact ⟨rfl, HW2.out⟩
set_option maxHeartbeats 1600000 in
set_option maxRecDepth 100000 in
theorem spnew_2a (h L : Int) (ea na pa : Option Addr) (en ec nn nc pn pc : Nat) (w : World) (k : Known h) (hL1t : L < 1) : Calls Tryd.prog 9 #[.int .i64 h, .int .i64 L, .slice ea en ec, .slice na nn nc, .slice pa pn pc] w fun e w' => e = .returned (.tuple #[.pointer none, .int .i64 2]) ∧ Below w.heap.size w w' := by
  obtain ⟨C, HC⟩ : ∃ C : List Value, Hid (C = stL h (fun _ => 0) (ones (szOf h))) := ⟨_, rfl⟩
  have HCl : Hid (C.length = 129) := by show _ = _; rw [HC.out]; exact stL_length _ _ _
  have HCs : Hid (C.toArray.size = 129) := by show _ = _; simpa using HCl.out
  have HCo : Hid (C.toArray.all (·.oneCell') = true) := by show _ = _; rw [HC.out]; exact stL_one _ _ _
  have H22 : Hid (Calls Tryd.prog 22 #[.int .i64 h] w fun e w' => Hid (e = .returned (.tuple #[.agg C.toArray, .int .i64 0]) ∧ Below w.heap.size w w')) := by
    have q := firstState_ok h w k
    rw [← HC.out] at q
    exact q
  have qL1t : decide (L < 1) = true := by simp; omega
  go_enter Tryd.func9, Tryd.ntmps9
  go_wp2_with (go_at_call 22; refine H22.out.mono ?_)
  intro e1 w1 hh
  obtain ⟨rfl, hb1⟩ := hh.out
  have HB1 : Hid (Below w.heap.size w w1) := hb1
  have HX1 : Hid ((w1.alloc (.cells Tryd.zeroCells60 60)).there w1.heap.size 0 129) := there_new w1 Tryd.zeroCells60 60 129 (by rw [zero60]; exact Nat.le_refl _)
  clear hh hb1 H22
  go_upto_region 2 with (first
    | (refine wpList_store_mid (by rfl) 60 (.tmp 12) (.tmp 18) (by rfl) w1.heap.size 0 C.toArray (by rfl) (by rfl) (by rw [HCs.out]; exact HX1.out) (by rw [HCs.out]; exact size60) HCo.out ?_)
    | fail)
  have HW2 : Hid (Below w.heap.size w ((w1.alloc (.cells Tryd.zeroCells60 60)).setCells w1.heap.size 0 C)) := below_setCells _ HB1.out.size _ _ _ (HB1.out.alloc HB1.out.size _)
  generalize (w1.alloc (.cells Tryd.zeroCells60 60)).setCells w1.heap.size 0 C = w2 at HW2 ⊢
  clear HX1
  go_wp2
  go_ret2
  exact ⟨rfl, HW2.out⟩
set_option maxHeartbeats 1600000 in
set_option maxRecDepth 100000 in
theorem spnew_2b (h L : Int) (ea na pa : Option Addr) (en ec nn nc pn pc : Nat) (w : World) (k : Known h) (hL1f : ¬ L < 1) (hL2t : 16777216 < L) : Calls Tryd.prog 9 #[.int .i64 h, .int .i64 L, .slice ea en ec, .slice na nn nc, .slice pa pn pc] w fun e w' => e = .returned (.tuple #[.pointer none, .int .i64 2]) ∧ Below w.heap.size w w' := by
  obtain ⟨C, HC⟩ : ∃ C : List Value, Hid (C = stL h (fun _ => 0) (ones (szOf h))) := ⟨_, rfl⟩
  have HCl : Hid (C.length = 129) := by show _ = _; rw [HC.out]; exact stL_length _ _ _
  have HCs : Hid (C.toArray.size = 129) := by show _ = _; simpa using HCl.out
  have HCo : Hid (C.toArray.all (·.oneCell') = true) := by show _ = _; rw [HC.out]; exact stL_one _ _ _
  have H22 : Hid (Calls Tryd.prog 22 #[.int .i64 h] w fun e w' => Hid (e = .returned (.tuple #[.agg C.toArray, .int .i64 0]) ∧ Below w.heap.size w w')) := by
    have q := firstState_ok h w k
    rw [← HC.out] at q
    exact q
  have qL1f : decide (L < 1) = false := by simp; omega
  have qL2t : decide (16777216 < L) = true := by simp; omega
  go_enter Tryd.func9, Tryd.ntmps9
  go_wp2_with (go_at_call 22; refine H22.out.mono ?_)
  intro e1 w1 hh
  obtain ⟨rfl, hb1⟩ := hh.out
  have HB1 : Hid (Below w.heap.size w w1) := hb1
  have HX1 : Hid ((w1.alloc (.cells Tryd.zeroCells60 60)).there w1.heap.size 0 129) := there_new w1 Tryd.zeroCells60 60 129 (by rw [zero60]; exact Nat.le_refl _)
  clear hh hb1 H22
  go_upto_region 2 with (first
    | (refine wpList_store_mid (by rfl) 60 (.tmp 12) (.tmp 18) (by rfl) w1.heap.size 0 C.toArray (by rfl) (by rfl) (by rw [HCs.out]; exact HX1.out) (by rw [HCs.out]; exact size60) HCo.out ?_)
    | fail)
  have HW2 : Hid (Below w.heap.size w ((w1.alloc (.cells Tryd.zeroCells60 60)).setCells w1.heap.size 0 C)) := below_setCells _ HB1.out.size _ _ _ (HB1.out.alloc HB1.out.size _)
  generalize (w1.alloc (.cells Tryd.zeroCells60 60)).setCells w1.heap.size 0 C = w2 at HW2 ⊢
  clear HX1
  go_wp2
  go_ret2
  exact ⟨rfl, HW2.out⟩
set_option maxHeartbeats 1600000 in
set_option maxRecDepth 100000 in
theorem spnew_60a (h L : Int) (ea na pa : Option Addr) (en ec nn nc pn pc : Nat) (w : World) (k : Known h) (hL1f : ¬ L < 1) (hL2f : ¬ 16777216 < L) (he1t : en < 16) : Calls Tryd.prog 9 #[.int .i64 h, .int .i64 L, .slice ea en ec, .slice na nn nc, .slice pa pn pc] w fun e w' => e = .returned (.tuple #[.pointer none, .int .i64 60]) ∧ Below w.heap.size w w' := by
  obtain ⟨C, HC⟩ : ∃ C : List Value, Hid (C = stL h (fun _ => 0) (ones (szOf h))) := ⟨_, rfl⟩
  have HCl : Hid (C.length = 129) := by show _ = _; rw [HC.out]; exact stL_length _ _ _
  have HCs : Hid (C.toArray.size = 129) := by show _ = _; simpa using HCl.out
  have HCo : Hid (C.toArray.all (·.oneCell') = true) := by show _ = _; rw [HC.out]; exact stL_one _ _ _
  have H22 : Hid (Calls Tryd.prog 22 #[.int .i64 h] w fun e w' => Hid (e = .returned (.tuple #[.agg C.toArray, .int .i64 0]) ∧ Below w.heap.size w w')) := by
    have q := firstState_ok h w k
    rw [← HC.out] at q
    exact q
  have qL1f : decide (L < 1) = false := by simp; omega
  have qL2f : decide (16777216 < L) = false := by simp; omega
  go_enter Tryd.func9, Tryd.ntmps9
  go_wp2_with (go_at_call 22; refine H22.out.mono ?_)
  intro e1 w1 hh
  obtain ⟨rfl, hb1⟩ := hh.out
  have HB1 : Hid (Below w.heap.size w w1) := hb1
  have HX1 : Hid ((w1.alloc (.cells Tryd.zeroCells60 60)).there w1.heap.size 0 129) := there_new w1 Tryd.zeroCells60 60 129 (by rw [zero60]; exact Nat.le_refl _)
  clear hh hb1 H22
  go_upto_region 2 with (first
    | (refine wpList_store_mid (by rfl) 60 (.tmp 12) (.tmp 18) (by rfl) w1.heap.size 0 C.toArray (by rfl) (by rfl) (by rw [HCs.out]; exact HX1.out) (by rw [HCs.out]; exact size60) HCo.out ?_)
    | fail)
  have HW2 : Hid (Below w.heap.size w ((w1.alloc (.cells Tryd.zeroCells60 60)).setCells w1.heap.size 0 C)) := below_setCells _ HB1.out.size _ _ _ (HB1.out.alloc HB1.out.size _)
  generalize (w1.alloc (.cells Tryd.zeroCells60 60)).setCells w1.heap.size 0 C = w2 at HW2 ⊢
  clear HX1
  go_wp2_with (go_at_call 23; refine (feeds_few2 ea en ec _ he1t).mono ?_; rintro e5 w5 ⟨rfl, hw5⟩; obtain rfl := hw5.symm)
  go_ret2
  exact ⟨rfl, HW2.out⟩
set_option maxHeartbeats 1600000 in
set_option maxRecDepth 100000 in
theorem spnew_60b (h L : Int) (ea na pa : Option Addr) (en ec nn nc pn pc : Nat) (w : World) (k : Known h) (hL1f : ¬ L < 1) (hL2f : ¬ 16777216 < L) (he1f : ¬ en < 16) (he2t : 65536 < en) : Calls Tryd.prog 9 #[.int .i64 h, .int .i64 L, .slice ea en ec, .slice na nn nc, .slice pa pn pc] w fun e w' => e = .returned (.tuple #[.pointer none, .int .i64 60]) ∧ Below w.heap.size w w' := by
  obtain ⟨C, HC⟩ : ∃ C : List Value, Hid (C = stL h (fun _ => 0) (ones (szOf h))) := ⟨_, rfl⟩
  have HCl : Hid (C.length = 129) := by show _ = _; rw [HC.out]; exact stL_length _ _ _
  have HCs : Hid (C.toArray.size = 129) := by show _ = _; simpa using HCl.out
  have HCo : Hid (C.toArray.all (·.oneCell') = true) := by show _ = _; rw [HC.out]; exact stL_one _ _ _
  have H22 : Hid (Calls Tryd.prog 22 #[.int .i64 h] w fun e w' => Hid (e = .returned (.tuple #[.agg C.toArray, .int .i64 0]) ∧ Below w.heap.size w w')) := by
    have q := firstState_ok h w k
    rw [← HC.out] at q
    exact q
  have qL1f : decide (L < 1) = false := by simp; omega
  have qL2f : decide (16777216 < L) = false := by simp; omega
  go_enter Tryd.func9, Tryd.ntmps9
  go_wp2_with (go_at_call 22; refine H22.out.mono ?_)
  intro e1 w1 hh
  obtain ⟨rfl, hb1⟩ := hh.out
  have HB1 : Hid (Below w.heap.size w w1) := hb1
  have HX1 : Hid ((w1.alloc (.cells Tryd.zeroCells60 60)).there w1.heap.size 0 129) := there_new w1 Tryd.zeroCells60 60 129 (by rw [zero60]; exact Nat.le_refl _)
  clear hh hb1 H22
  go_upto_region 2 with (first
    | (refine wpList_store_mid (by rfl) 60 (.tmp 12) (.tmp 18) (by rfl) w1.heap.size 0 C.toArray (by rfl) (by rfl) (by rw [HCs.out]; exact HX1.out) (by rw [HCs.out]; exact size60) HCo.out ?_)
    | fail)
  have HW2 : Hid (Below w.heap.size w ((w1.alloc (.cells Tryd.zeroCells60 60)).setCells w1.heap.size 0 C)) := below_setCells _ HB1.out.size _ _ _ (HB1.out.alloc HB1.out.size _)
  generalize (w1.alloc (.cells Tryd.zeroCells60 60)).setCells w1.heap.size 0 C = w2 at HW2 ⊢
  clear HX1
  go_wp2_with (go_at_call 23; refine (feeds_many2 ea en ec _ he2t).mono ?_; rintro e5 w5 ⟨rfl, hw5⟩; obtain rfl := hw5.symm)
  go_ret2
  exact ⟨rfl, HW2.out⟩
set_option maxHeartbeats 1600000 in
set_option maxRecDepth 100000 in
theorem spnew_4a (h L : Int) (ea na pa : Option Addr) (en ec nn nc pn pc : Nat) (w : World) (k : Known h) (hL1f : ¬ L < 1) (hL2f : ¬ 16777216 < L) (he1f : ¬ en < 16) (he2f : ¬ 65536 < en) (hn1t : 65536 < nn) : Calls Tryd.prog 9 #[.int .i64 h, .int .i64 L, .slice ea en ec, .slice na nn nc, .slice pa pn pc] w fun e w' => e = .returned (.tuple #[.pointer none, .int .i64 4]) ∧ Below w.heap.size w w' := by
  obtain ⟨C, HC⟩ : ∃ C : List Value, Hid (C = stL h (fun _ => 0) (ones (szOf h))) := ⟨_, rfl⟩
  have HCl : Hid (C.length = 129) := by show _ = _; rw [HC.out]; exact stL_length _ _ _
  have HCs : Hid (C.toArray.size = 129) := by show _ = _; simpa using HCl.out
  have HCo : Hid (C.toArray.all (·.oneCell') = true) := by show _ = _; rw [HC.out]; exact stL_one _ _ _
  have H22 : Hid (Calls Tryd.prog 22 #[.int .i64 h] w fun e w' => Hid (e = .returned (.tuple #[.agg C.toArray, .int .i64 0]) ∧ Below w.heap.size w w')) := by
    have q := firstState_ok h w k
    rw [← HC.out] at q
    exact q
  have qL1f : decide (L < 1) = false := by simp; omega
  have qL2f : decide (16777216 < L) = false := by simp; omega
  have qn1t : decide ((65536 : Int) < (nn : Nat)) = true := by simp; omega
  go_enter Tryd.func9, Tryd.ntmps9
  go_wp2_with (go_at_call 22; refine H22.out.mono ?_)
  intro e1 w1 hh
  obtain ⟨rfl, hb1⟩ := hh.out
  have HB1 : Hid (Below w.heap.size w w1) := hb1
  have HX1 : Hid ((w1.alloc (.cells Tryd.zeroCells60 60)).there w1.heap.size 0 129) := there_new w1 Tryd.zeroCells60 60 129 (by rw [zero60]; exact Nat.le_refl _)
  clear hh hb1 H22
  go_upto_region 2 with (first
    | (refine wpList_store_mid (by rfl) 60 (.tmp 12) (.tmp 18) (by rfl) w1.heap.size 0 C.toArray (by rfl) (by rfl) (by rw [HCs.out]; exact HX1.out) (by rw [HCs.out]; exact size60) HCo.out ?_)
    | fail)
  have HW2 : Hid (Below w.heap.size w ((w1.alloc (.cells Tryd.zeroCells60 60)).setCells w1.heap.size 0 C)) := below_setCells _ HB1.out.size _ _ _ (HB1.out.alloc HB1.out.size _)
  generalize (w1.alloc (.cells Tryd.zeroCells60 60)).setCells w1.heap.size 0 C = w2 at HW2 ⊢
  clear HX1
  go_wp2_with (go_at_call 23; refine (feeds_ok ea en ec _ (by omega) (by omega)).mono ?_; rintro e5 w5 ⟨rfl, hw5⟩; obtain rfl := hw5.symm)
  go_ret2
  exact ⟨rfl, HW2.out⟩
set_option maxHeartbeats 1600000 in
set_option maxRecDepth 100000 in
theorem spnew_4b (h L : Int) (ea na pa : Option Addr) (en ec nn nc pn pc : Nat) (w : World) (k : Known h) (hL1f : ¬ L < 1) (hL2f : ¬ 16777216 < L) (he1f : ¬ en < 16) (he2f : ¬ 65536 < en) (hn1f : ¬ 65536 < nn) (hp1t : 65536 < pn) : Calls Tryd.prog 9 #[.int .i64 h, .int .i64 L, .slice ea en ec, .slice na nn nc, .slice pa pn pc] w fun e w' => e = .returned (.tuple #[.pointer none, .int .i64 4]) ∧ Below w.heap.size w w' := by
  obtain ⟨C, HC⟩ : ∃ C : List Value, Hid (C = stL h (fun _ => 0) (ones (szOf h))) := ⟨_, rfl⟩
  have HCl : Hid (C.length = 129) := by show _ = _; rw [HC.out]; exact stL_length _ _ _
  have HCs : Hid (C.toArray.size = 129) := by show _ = _; simpa using HCl.out
  have HCo : Hid (C.toArray.all (·.oneCell') = true) := by show _ = _; rw [HC.out]; exact stL_one _ _ _
  have H22 : Hid (Calls Tryd.prog 22 #[.int .i64 h] w fun e w' => Hid (e = .returned (.tuple #[.agg C.toArray, .int .i64 0]) ∧ Below w.heap.size w w')) := by
    have q := firstState_ok h w k
    rw [← HC.out] at q
    exact q
  have qL1f : decide (L < 1) = false := by simp; omega
  have qL2f : decide (16777216 < L) = false := by simp; omega
  have qn1f : decide ((65536 : Int) < (nn : Nat)) = false := by simp; omega
  have qp1t : decide ((65536 : Int) < (pn : Nat)) = true := by simp; omega
  go_enter Tryd.func9, Tryd.ntmps9
  go_wp2_with (go_at_call 22; refine H22.out.mono ?_)
  intro e1 w1 hh
  obtain ⟨rfl, hb1⟩ := hh.out
  have HB1 : Hid (Below w.heap.size w w1) := hb1
  have HX1 : Hid ((w1.alloc (.cells Tryd.zeroCells60 60)).there w1.heap.size 0 129) := there_new w1 Tryd.zeroCells60 60 129 (by rw [zero60]; exact Nat.le_refl _)
  clear hh hb1 H22
  go_upto_region 2 with (first
    | (refine wpList_store_mid (by rfl) 60 (.tmp 12) (.tmp 18) (by rfl) w1.heap.size 0 C.toArray (by rfl) (by rfl) (by rw [HCs.out]; exact HX1.out) (by rw [HCs.out]; exact size60) HCo.out ?_)
    | fail)
  have HW2 : Hid (Below w.heap.size w ((w1.alloc (.cells Tryd.zeroCells60 60)).setCells w1.heap.size 0 C)) := below_setCells _ HB1.out.size _ _ _ (HB1.out.alloc HB1.out.size _)
  generalize (w1.alloc (.cells Tryd.zeroCells60 60)).setCells w1.heap.size 0 C = w2 at HW2 ⊢
  clear HX1
  go_wp2_with (go_at_call 23; refine (feeds_ok ea en ec _ (by omega) (by omega)).mono ?_; rintro e5 w5 ⟨rfl, hw5⟩; obtain rfl := hw5.symm)
  go_ret2
  exact ⟨rfl, HW2.out⟩
/-- spring.New, of what is refused. -/
theorem spnew_bad (h L : Int) (ea na pa : Option Addr) (en ec nn nc pn pc : Nat) (w : World) (hE : newE h L en nn pn ≠ 0) : Calls Tryd.prog 9 #[.int .i64 h, .int .i64 L, .slice ea en ec, .slice na nn nc, .slice pa pn pc] w fun e w' => e = .returned (.tuple #[.pointer none, .int .i64 (newE h L en nn pn)]) ∧ Below w.heap.size w w' := by
  unfold newE at hE ⊢
  by_cases k : ¬ Known h
  · rw [if_pos k]; exact spnew_10 h L ea na pa en ec nn nc pn pc w k
  · rw [if_neg k] at hE ⊢
    have k' := Classical.not_not.1 k
    by_cases h1 : L < 1 ∨ 16777216 < L
    · rw [if_pos h1]
      by_cases h1' : L < 1
      · exact spnew_2a h L ea na pa en ec nn nc pn pc w k' h1'
      · exact spnew_2b h L ea na pa en ec nn nc pn pc w k' h1' (by omega)
    · rw [if_neg h1] at hE ⊢
      by_cases h2 : en < 16 ∨ 65536 < en
      · rw [if_pos h2]
        by_cases h2' : en < 16
        · exact spnew_60a h L ea na pa en ec nn nc pn pc w k' (by omega) (by omega) h2'
        · exact spnew_60b h L ea na pa en ec nn nc pn pc w k' (by omega) (by omega) h2' (by omega)
      · rw [if_neg h2] at hE ⊢
        by_cases h3 : 65536 < nn ∨ 65536 < pn
        · rw [if_pos h3]
          by_cases h3' : 65536 < nn
          · exact spnew_4a h L ea na pa en ec nn nc pn pc w k' (by omega) (by omega) (by omega) (by omega) h3'
          · exact spnew_4b h L ea na pa en ec nn nc pn pc w k' (by omega) (by omega) (by omega) (by omega) h3' (by omega)
        · rw [if_neg h3] at hE; exact absurd rfl hE
end Go.Proofs.YtkeklmkaleomkaaDoor
namespace Go.Proofs.YtkeklmkaleomkaaDoor
open Go.RowKit
set_option linter.unusedVariables false
set_option linter.unusedSimpArgs false
theorem num_ok (x : Int) (w : World) : Calls Tryd.prog 10 #[.int .i64 x] w fun e w' => e = .returned (.int .i64 x) ∧ w' = w := by
  go_enter Tryd.func10, Tryd.ntmps10
  go_wp2
  go_ret
  exact ⟨rfl, rfl⟩
/-- A Seed in a block. -/
structure SeedAt (u : World) (s : Nat) (h L : Int) (x y z : Value) : Prop where
  c0 : u.cell? ⟨s, 0, none⟩ = some (.int .i64 h)
  c1 : u.cell? ⟨s, 1, none⟩ = some (.int .i64 L)
  c2 : u.cell? ⟨s, 2, none⟩ = some x
  c3 : u.cell? ⟨s, 3, none⟩ = some y
  c4 : u.cell? ⟨s, 4, none⟩ = some z
theorem SeedAt.blk {u v : World} {s : Nat} {h L : Int} {x y z : Value} (a : SeedAt u s h L x y z) (hb : v.heap[s]? = u.heap[s]?) : SeedAt v s h L x y z := by
  have hc : ∀ j, v.cell? ⟨s, j, none⟩ = u.cell? ⟨s, j, none⟩ := fun j => World.cell?_of_block (a := ⟨s, j, none⟩) hb
  exact ⟨by rw [hc]; exact a.c0, by rw [hc]; exact a.c1, by rw [hc]; exact a.c2, by rw [hc]; exact a.c3, by rw [hc]; exact a.c4⟩
theorem SeedAt.below {u v : World} {s : Nat} {h L : Int} {x y z : Value} (a : SeedAt u s h L x y z) (b : Below u.heap.size u v) : SeedAt v s h L x y z := a.blk (b.block s (lt_of_cell a.c0))
theorem SeedAt.new (w : World) (h L : Int) (x y z : Value) (t : TypeId) : SeedAt (w.alloc (.cells #[.int .i64 h, .int .i64 L, x, y, z] t)) w.heap.size h L x y z := by
  have r := rangeAt_new w #[.int .i64 h, .int .i64 L, x, y, z] t
  exact ⟨r 0 _ rfl, r 1 _ rfl, r 2 _ rfl, r 3 _ rfl, r 4 _ rfl⟩
/-- What Bytes leaves. -/
def CpP (u w' : World) (e : Ending) (n : Nat) (Z : List Int) : Prop := ∃ g c, e = .returned (.slice (some ⟨g, 0, none⟩) n c) ∧ u.heap.size ≤ g ∧ g < w'.heap.size ∧ Marked u.heap.size w' (.slice (some ⟨g, 0, none⟩) n c) Z ∧ Below u.heap.size u w'
theorem cp_ok (a : Option Addr) (n c : Nat) (Z : List Int) (u : World) (hv : View u (.slice a n c) Z) (hl : Z.length = n) (hn : n ≤ 262144) : Calls Tryd.prog 27 #[.slice a n c] u fun e w' => Hid (CpP u w' e n Z) := by
  refine (copy_any (.slice a n c) Z u (by omega) hv).mono ?_
  rintro e w' ⟨v', r1, r2, r3⟩
  obtain ⟨g, c', rfl, q1, q2, _⟩ := marked_owns r2
  rw [hl] at r1 r2
  exact ⟨g, c', r1, q1, q2, r2, r3⟩
/-- Only what lies above B changed. -/
theorem whole_ok (v1 v2 : Value) (zs : List Int) (B : Nat) (w : World) (h1 : Marked B w v1 zs) (h2 : View w v2 zs) :
    Calls Tryd.prog 29 #[v1, v2] w fun e w' => Hid (e = .returned (.bool true) ∧ Below w.heap.size w w') := by
  refine (whole_any v1 v2 zs B w h1 h2).mono ?_
  rintro e w' ⟨r1, m, rfl⟩
  exact ⟨r1, (Touch.refl w w.heap.size 0 0 |>.drewN m).os, (Touch.refl w w.heap.size 0 0 |>.drewN m).tape, (Touch.refl w w.heap.size 0 0 |>.drewN m).output, (Touch.refl w w.heap.size 0 0 |>.drewN m).size, fun q hq => (Touch.refl w w.heap.size 0 0 |>.drewN m).block q hq (by omega)⟩
theorem spoilm_ok (B n g c : Nat) (zs : List Int) (w : World) (hm : Marked B w (.slice (some ⟨g, 0, none⟩) n c) zs) (hl : zs.length = n) (hn : n ≤ 262144) (hB : B ≤ w.heap.size) :
    Calls Tryd.prog 21 #[.slice (some ⟨g, 0, none⟩) n c] w fun e w' => Hid (e = .returned (.tuple #[]) ∧ w.grownBy w' (some g)) := by
  obtain ⟨g', c', e1, q1, q2, q3⟩ := marked_owns hm
  rw [hl] at q3
  exact (spoil_any B n _ zs w (by omega) hB q3)
theorem Marked.blk {B : Nat} {w v : World} {g n c : Nat} {zs : List Int} (h : Marked B w (.slice (some ⟨g, 0, none⟩) n c) zs) (hb : v.heap[g]? = w.heap[g]?) : Marked B v (.slice (some ⟨g, 0, none⟩) n c) zs := by
  obtain ⟨g', c', e, hl, h⟩ := h
  injection e with e1 e2 e3
  injection e1 with e1
  injection e1 with e1 _
  subst e1 e3
  refine ⟨g, c, by rw [e2], hl, ?_⟩
  rcases h with ⟨h, _⟩ | ⟨g', c', cur, he, h1, h2, r⟩
  · cases h
  · have he' := he
    injection he with he1 _ _
    injection he1 with he1
    injection he1 with he1 _
    refine .inr ⟨g', c', cur, he', h1, ?_, r⟩
    rw [← he1, hb, he1]
    exact h2
/-- What spring.New leaves. -/
def NewP (w w' : World) (e : Ending) (h L : Int) (xs : List Int) : Prop := ∃ g, e = .returned (.tuple #[.pointer (some ⟨g, 0, none⟩), .int .i64 0]) ∧ w.heap.size ≤ g ∧ SpAt w' g h (updK h (fun _ => 0) (ones (szOf h)) xs) (updV h (fun _ => 0) (ones (szOf h)) xs) L 0 ∧ Below w.heap.size w w'
/-- Both springs behind begun. -/
structure Beg (w u : World) (B g t : Nat) (h L : Int) (xs : List Int) (ka va : Option Addr) (kc vc : Nat) : Prop where
  sp : SpAt u g h (updK h (fun _ => 0) (ones (szOf h)) xs) (updV h (fun _ => 0) (ones (szOf h)) xs) L 0
  rs : RSp u t h L 0 ka kc va vc (fL (updK h (fun _ => 0) (ones (szOf h)) xs) (szOf h)) (fL (updV h (fun _ => 0) (ones (szOf h)) xs) (szOf h))
  bel : Below w.heap.size w u
  gB : B ≤ g
  tG : g < t
  kG : ∀ b off, ka = some ⟨b, off, none⟩ → g < b ∧ b < u.heap.size
  vG : ∀ b off, va = some ⟨b, off, none⟩ → g < b ∧ b < u.heap.size
theorem Beg.below {w u v : World} {B g t : Nat} {h L : Int} {xs : List Int} {ka va : Option Addr} {kc vc : Nat} (a : Beg w u B g t h L xs ka va kc vc) (b : Below u.heap.size u v) (hw : w.heap.size ≤ B) : Beg w v B g t h L xs ka va kc vc :=
  ⟨a.sp.below b, a.rs.below b, a.bel.trans (b.mono (by have := a.sp.lt; have := a.gB; omega)), a.gB, a.tG, fun q off e => ⟨(a.kG q off e).1, Nat.lt_of_lt_of_le (a.kG q off e).2 b.size⟩, fun q off e => ⟨(a.vG q off e).1, Nat.lt_of_lt_of_le (a.vG q off e).2 b.size⟩⟩
theorem Beg.spoil {w u v : World} {B g t x : Nat} {h L : Int} {xs : List Int} {ka va : Option Addr} {kc vc : Nat} (a : Beg w u B g t h L xs ka va kc vc) (hg : u.grownBy v (some x)) (h1 : w.heap.size ≤ x) (h2 : x < B) : Beg w v B g t h L xs ka va kc vc := by
  have gB := a.gB
  have tG := a.tG
  have hlt := a.sp.lt
  have hlt2 := a.rs.lt
  have blk : ∀ b, b < u.heap.size → b ≠ x → v.heap[b]? = u.heap[b]? := fun b hb hne => hg.block b hb (fun e => hne (by injection e))
  have sz := hg.size
  exact ⟨a.sp.block (blk g hlt (by omega)), a.rs.blk (blk t hlt2 (by omega)) (fun b off e => blk b (a.kG b off e).2 (by have := a.kG b off e; omega)) (fun b off e => blk b (a.vG b off e).2 (by have := a.vG b off e; omega)), a.bel.grown hg a.bel.size (fun b hb => by injection hb with hb; omega), a.gB, a.tG, fun q off e => ⟨(a.kG q off e).1, Nat.lt_of_lt_of_le (a.kG q off e).2 sz⟩, fun q off e => ⟨(a.vG q off e).1, Nat.lt_of_lt_of_le (a.vG q off e).2 sz⟩⟩
def BegBad (w w' : World) (e : Ending) : Prop := e = .returned (.tuple #[.pointer none, .pointer none, .bool true]) ∧ Below w.heap.size w w'
def BegGood (w w' : World) (e : Ending) (h L : Int) (xs : List Int) : Prop := ∃ B g t ka va kc vc, e = .returned (.tuple #[.pointer (some ⟨g, 0, none⟩), .pointer (some ⟨t, 0, none⟩), .bool true]) ∧ w.heap.size ≤ B ∧ Beg w w' B g t h L xs ka va kc vc
theorem newE_range (h L : Int) (en nn pn : Nat) : 0 ≤ newE h L en nn pn ∧ newE h L en nn pn ≤ 60 := by
  unfold newE
  split
  · omega
  · split
    · omega
    · split
      · omega
      · split <;> omega
set_option maxHeartbeats 3200000 in
set_option maxRecDepth 100000 in
theorem begun_bad (h L : Int) (ea na pa : Option Addr) (en ec nn nc pn pc : Nat) (E N P : List Int) (w : World) (hT : Hid (Tables w)) (hR : Hid (RTab w)) (he : Hid (View w (.slice ea en ec) E)) (hel : Hid (E.length = en)) (hn : Hid (View w (.slice na nn nc) N)) (hnl : Hid (N.length = nn)) (hp : Hid (View w (.slice pa pn pc) P)) (hpl : Hid (P.length = pn)) (hs : en + nn + pn ≤ 262144) (hE : newE h L en nn pn ≠ 0) :
    Calls Tryd.prog 17 #[.agg #[.int .i64 h, .int .i64 L, .slice ea en ec, .slice na nn nc, .slice pa pn pc]] w fun e w' => Hid (BegBad w w' e) := by
  have hT4 := hT.out.size
  go_enter Tryd.func17, Tryd.ntmps17
  go_upto_region 1 with fail
  have HA0 : Hid (SeedAt (w.alloc (.cells #[.int .i64 h, .int .i64 L, .slice ea en ec, .slice na nn nc, .slice pa pn pc] 24)) w.heap.size h L (.slice ea en ec) (.slice na nn nc) (.slice pa pn pc) ∧ Below w.heap.size w (w.alloc (.cells #[.int .i64 h, .int .i64 L, .slice ea en ec, .slice na nn nc, .slice pa pn pc] 24)) ∧ (w.alloc (.cells #[.int .i64 h, .int .i64 L, .slice ea en ec, .slice na nn nc, .slice pa pn pc] 24)).heap.size = w.heap.size + 1) := ⟨SeedAt.new _ _ _ _ _ _ _, below_alloc1 _ _, size_alloc1 _ _⟩
  generalize w.alloc (.cells #[.int .i64 h, .int .i64 L, .slice ea en ec, .slice na nn nc, .slice pa pn pc] 24) = w0 at HA0 ⊢
  have c2 := HA0.out.1.c2
  have H1 : Hid (Calls Tryd.prog 27 #[.slice ea en ec] w0 fun e w' => Hid (CpP w0 w' e en E)) := cp_ok ea en ec E w0 (he.out.kept fun q hq => HA0.out.2.1.block q hq) hel.out (by omega)
  go_upto_region 2 with (go_at_call 27; refine H1.out.mono ?_; intro e1 w1 hh; obtain ⟨gx, cx, rfl, hx1, hx2, hx3, hx4⟩ := hh.out)
  have HX1 : Hid (w0.heap.size ≤ gx ∧ gx < w1.heap.size ∧ Marked w0.heap.size w1 (.slice (some ⟨gx, 0, none⟩) en cx) E ∧ Below w0.heap.size w0 w1) := ⟨hx1, hx2, hx3, hx4⟩
  have HB1 : Hid (Below w.heap.size w w1) := HA0.out.2.1.trans (hx4.mono HA0.out.2.1.size)
  have HA1 : Hid (SeedAt w1 w.heap.size h L (.slice ea en ec) (.slice na nn nc) (.slice pa pn pc)) := HA0.out.1.below hx4
  clear hh hx1 hx2 hx3 hx4 H1 c2
  have c3 := HA1.out.c3
  have H2 : Hid (Calls Tryd.prog 27 #[.slice na nn nc] w1 fun e w' => Hid (CpP w1 w' e nn N)) := cp_ok na nn nc N w1 (hn.out.kept fun q hq => HB1.out.block q hq) hnl.out (by omega)
  go_upto_region 3 with (go_at_call 27; refine H2.out.mono ?_; intro e2 w2 hh; obtain ⟨gy, cy, rfl, hx1, hx2, hx3, hx4⟩ := hh.out)
  have HY2 : Hid (w1.heap.size ≤ gy ∧ gy < w2.heap.size ∧ Marked w1.heap.size w2 (.slice (some ⟨gy, 0, none⟩) nn cy) N ∧ Below w1.heap.size w1 w2) := ⟨hx1, hx2, hx3, hx4⟩
  have HB2 : Hid (Below w.heap.size w w2) := HB1.out.trans (hx4.mono HB1.out.size)
  have HA2 : Hid (SeedAt w2 w.heap.size h L (.slice ea en ec) (.slice na nn nc) (.slice pa pn pc)) := HA1.out.below hx4
  clear hh hx1 hx2 hx3 hx4 H2 c3
  have c4 := HA2.out.c4
  have H3 : Hid (Calls Tryd.prog 27 #[.slice pa pn pc] w2 fun e w' => Hid (CpP w2 w' e pn P)) := cp_ok pa pn pc P w2 (hp.out.kept fun q hq => HB2.out.block q hq) hpl.out (by omega)
  go_upto_region 4 with (go_at_call 27; refine H3.out.mono ?_; intro e3 w3 hh; obtain ⟨gz, cz, rfl, hx1, hx2, hx3, hx4⟩ := hh.out)
  have HZ3 : Hid (w2.heap.size ≤ gz ∧ gz < w3.heap.size ∧ Marked w2.heap.size w3 (.slice (some ⟨gz, 0, none⟩) pn cz) P ∧ Below w2.heap.size w2 w3) := ⟨hx1, hx2, hx3, hx4⟩
  have HB3 : Hid (Below w.heap.size w w3) := HB2.out.trans (hx4.mono HB2.out.size)
  have HA3 : Hid (SeedAt w3 w.heap.size h L (.slice ea en ec) (.slice na nn nc) (.slice pa pn pc)) := HA2.out.below hx4
  clear hh hx1 hx2 hx3 hx4 H3 c4
  have HO : Hid (w.heap.size < gx ∧ gx < gy ∧ gy < gz ∧ gz < w3.heap.size) := by
    have h1 := HX1.out; have h2 := HY2.out; have h3 := HZ3.out; have h0 := HA0.out.2.2
    exact ⟨by omega, by omega, by omega, by omega⟩
  have HM3 : Hid (Marked w0.heap.size w3 (.slice (some ⟨gx, 0, none⟩) en cx) E ∧ Marked w1.heap.size w3 (.slice (some ⟨gy, 0, none⟩) nn cy) N ∧ Marked w2.heap.size w3 (.slice (some ⟨gz, 0, none⟩) pn cz) P ∧ w0.heap.size ≤ w3.heap.size ∧ w1.heap.size ≤ w3.heap.size ∧ w2.heap.size ≤ w3.heap.size) := by
    have s1 := HX1.out.2.2.2.size; have s2 := HY2.out.2.2.2.size; have s3 := HZ3.out.2.2.2.size
    exact ⟨(HX1.out.2.2.1.kept fun q hq => HY2.out.2.2.2.block q hq).kept fun q hq => HZ3.out.2.2.2.block q hq, HY2.out.2.2.1.kept fun q hq => HZ3.out.2.2.2.block q hq, HZ3.out.2.2.1, by omega, by omega, by omega⟩
  clear HX1 HY2 HZ3 HA0 HA1 HA2 HB1 HB2
  have c0 := HA3.out.c0
  have c1 := HA3.out.c1
  obtain ⟨x, HX⟩ : ∃ x, Hid (x = newE h L en nn pn) := ⟨_, rfl⟩
  have H9 : Hid (Calls Tryd.prog 9 #[.int .i64 h, .int .i64 L, .slice (some ⟨gx, 0, none⟩) en cx, .slice (some ⟨gy, 0, none⟩) nn cy, .slice (some ⟨gz, 0, none⟩) pn cz] w3 fun e w' => Hid (e = .returned (.tuple #[.pointer none, .int .i64 x]) ∧ Below w3.heap.size w3 w')) := by
    rw [HX.out]
    exact spnew_bad h L _ _ _ en cx nn cy pn cz w3 hE
  have H28 : Hid (∀ u, Calls Tryd.prog 28 #[.int .i64 h, .int .i64 L, .slice ea en ec, .slice na nn nc, .slice pa pn pc] u fun e w' => e = .returned (.tuple #[.pointer none, .int .i64 x]) ∧ w' = u) := by
    rw [HX.out]
    exact fun u => rnew_bad h L _ _ _ en ec nn nc pn pc u hE
  go_upto_region 5 with (go_at_call 9; refine H9.out.mono ?_; intro e4 w5 hh; obtain ⟨rfl, hb5⟩ := hh.out)
  have HA5 : Hid (SeedAt w5 w.heap.size h L (.slice ea en ec) (.slice na nn nc) (.slice pa pn pc)) := HA3.out.below hb5
  have HM5 : Hid (Marked w0.heap.size w5 (.slice (some ⟨gx, 0, none⟩) en cx) E ∧ Marked w1.heap.size w5 (.slice (some ⟨gy, 0, none⟩) nn cy) N ∧ Marked w2.heap.size w5 (.slice (some ⟨gz, 0, none⟩) pn cz) P ∧ w0.heap.size ≤ w5.heap.size ∧ w1.heap.size ≤ w5.heap.size ∧ w2.heap.size ≤ w5.heap.size) := by
    have s := hb5.size
    obtain ⟨m1, m2, m3, m4, m5, m6⟩ := HM3.out
    exact ⟨m1.kept fun q hq => hb5.block q hq, m2.kept fun q hq => hb5.block q hq, m3.kept fun q hq => hb5.block q hq, by omega, by omega, by omega⟩
  have HB5 : Hid (Below w.heap.size w w5) := HB3.out.trans (hb5.mono HB3.out.size)
  have HS5 : Hid (w3.heap.size ≤ w5.heap.size) := hb5.size
  clear hh hb5 H9 c0 c1
  have c0 := HA5.out.c0
  have c1 := HA5.out.c1
  have c2 := HA5.out.c2
  have c3 := HA5.out.c3
  have c4 := HA5.out.c4
  go_upto_region 6 with (go_at_call 28; refine (H28.out _).mono ?_; rintro e5 w6 ⟨rfl, hw6⟩; obtain rfl := hw6.symm)
  clear c0 c1 c3 c4 H28
  have c2 := HA5.out.c2
  have HW1 : Hid (Calls Tryd.prog 29 #[.slice (some ⟨gx, 0, none⟩) en cx, .slice ea en ec] w5 fun e w' => Hid (e = .returned (.bool true) ∧ Below w5.heap.size w5 w')) := whole_ok _ _ E _ w5 HM5.out.1 (he.out.kept fun q hq => HB5.out.block q hq)
  go_wp2_with (first | (go_at_call 10; refine (num_ok _ _).mono ?_; rintro e6 w6 ⟨rfl, hw6⟩; obtain rfl := hw6.symm) | (go_at_call 29; refine HW1.out.mono ?_))
  intro e6 w6 hh
  obtain ⟨rfl, hb6⟩ := hh.out
  have HA6 : Hid (SeedAt w6 w.heap.size h L (.slice ea en ec) (.slice na nn nc) (.slice pa pn pc)) := HA5.out.below hb6
  have HM6 : Hid (Marked w0.heap.size w6 (.slice (some ⟨gx, 0, none⟩) en cx) E ∧ Marked w1.heap.size w6 (.slice (some ⟨gy, 0, none⟩) nn cy) N ∧ Marked w2.heap.size w6 (.slice (some ⟨gz, 0, none⟩) pn cz) P ∧ w0.heap.size ≤ w6.heap.size ∧ w1.heap.size ≤ w6.heap.size ∧ w2.heap.size ≤ w6.heap.size) := by
    have s := hb6.size
    obtain ⟨m1, m2, m3, m4, m5, m6⟩ := HM5.out
    exact ⟨m1.kept fun q hq => hb6.block q hq, m2.kept fun q hq => hb6.block q hq, m3.kept fun q hq => hb6.block q hq, by omega, by omega, by omega⟩
  have HB6 : Hid (Below w.heap.size w w6) := HB5.out.trans (hb6.mono HB5.out.size)
  have HS56 : Hid (w5.heap.size ≤ w6.heap.size) := hb6.size
  clear hh hb6 HA5 HM5 HB5  c2 HW1
  have c3 := HA6.out.c3
  have HW2 : Hid (Calls Tryd.prog 29 #[.slice (some ⟨gy, 0, none⟩) nn cy, .slice na nn nc] w6 fun e w' => Hid (e = .returned (.bool true) ∧ Below w6.heap.size w6 w')) := whole_ok _ _ N _ w6 HM6.out.2.1 (hn.out.kept fun q hq => HB6.out.block q hq)
  go_wp2_with (go_at_call 29; refine HW2.out.mono ?_)
  intro e7 w7 hh
  obtain ⟨rfl, hb7⟩ := hh.out
  have HA7 : Hid (SeedAt w7 w.heap.size h L (.slice ea en ec) (.slice na nn nc) (.slice pa pn pc)) := HA6.out.below hb7
  have HM7 : Hid (Marked w0.heap.size w7 (.slice (some ⟨gx, 0, none⟩) en cx) E ∧ Marked w1.heap.size w7 (.slice (some ⟨gy, 0, none⟩) nn cy) N ∧ Marked w2.heap.size w7 (.slice (some ⟨gz, 0, none⟩) pn cz) P ∧ w0.heap.size ≤ w7.heap.size ∧ w1.heap.size ≤ w7.heap.size ∧ w2.heap.size ≤ w7.heap.size) := by
    have s := hb7.size
    obtain ⟨m1, m2, m3, m4, m5, m6⟩ := HM6.out
    exact ⟨m1.kept fun q hq => hb7.block q hq, m2.kept fun q hq => hb7.block q hq, m3.kept fun q hq => hb7.block q hq, by omega, by omega, by omega⟩
  have HB7 : Hid (Below w.heap.size w w7) := HB6.out.trans (hb7.mono HB6.out.size)
  have HS57 : Hid (w5.heap.size ≤ w7.heap.size) := Nat.le_trans HS56.out hb7.size
  clear hh hb7 HA6 HM6 HB6  c3 HW2
  have c4 := HA7.out.c4
  have HW3 : Hid (Calls Tryd.prog 29 #[.slice (some ⟨gz, 0, none⟩) pn cz, .slice pa pn pc] w7 fun e w' => Hid (e = .returned (.bool true) ∧ Below w7.heap.size w7 w')) := whole_ok _ _ P _ w7 HM7.out.2.2.1 (hp.out.kept fun q hq => HB7.out.block q hq)
  go_wp2_with (go_at_call 29; refine HW3.out.mono ?_)
  intro e8 w8 hh
  obtain ⟨rfl, hb8⟩ := hh.out
  have HM8 : Hid (Marked w0.heap.size w8 (.slice (some ⟨gx, 0, none⟩) en cx) E ∧ Marked w1.heap.size w8 (.slice (some ⟨gy, 0, none⟩) nn cy) N ∧ Marked w2.heap.size w8 (.slice (some ⟨gz, 0, none⟩) pn cz) P ∧ w0.heap.size ≤ w8.heap.size ∧ w1.heap.size ≤ w8.heap.size ∧ w2.heap.size ≤ w8.heap.size) := by
    have s := hb8.size
    obtain ⟨m1, m2, m3, m4, m5, m6⟩ := HM7.out
    exact ⟨m1.kept fun q hq => hb8.block q hq, m2.kept fun q hq => hb8.block q hq, m3.kept fun q hq => hb8.block q hq, by omega, by omega, by omega⟩
  have HB8 : Hid (Below w.heap.size w w8 ∧ w3.heap.size ≤ w8.heap.size) := ⟨HB7.out.trans (hb8.mono HB7.out.size), Nat.le_trans HS5.out (Nat.le_trans HS57.out hb8.size)⟩
  clear hh hb8 HA7 HM7 HB7  c4 HW3
  have HSx0 : Hid (Calls Tryd.prog 21 #[.slice (some ⟨gx, 0, none⟩) en cx] w8 fun e w' => Hid (e = .returned (.tuple #[]) ∧ w8.grownBy w' (some gx))) := spoilm_ok _ en gx cx E w8 HM8.out.1 hel.out (by omega) HM8.out.2.2.2.1
  go_upto_region 8 with (go_at_call 21; refine HSx0.out.mono ?_; intro e9 w9 hh; obtain ⟨rfl, hg9⟩ := hh.out)
  have HB9 : Hid (Below w.heap.size w w9 ∧ w3.heap.size ≤ w9.heap.size) := ⟨HB8.out.1.grown hg9 HB8.out.1.size (fun b hb => by injection hb with hb; have := HO.out; omega), Nat.le_trans HB8.out.2 hg9.size⟩
  have HM9 : Hid (Marked w1.heap.size w9 (.slice (some ⟨gy, 0, none⟩) nn cy) N ∧ Marked w2.heap.size w9 (.slice (some ⟨gz, 0, none⟩) pn cz) P ∧ w1.heap.size ≤ w9.heap.size ∧ w2.heap.size ≤ w9.heap.size) := by
    have s := hg9.size
    have ho := HO.out
    have hz := HB8.out.2
    obtain ⟨m1, m2, m3, m4, m5, m6⟩ := HM8.out
    exact ⟨m2.blk (hg9.block gy (by omega) (fun e => by injection e with e; omega)), m3.blk (hg9.block gz (by omega) (fun e => by injection e with e; omega)), by omega, by omega⟩
  clear hh hg9 HSx0 HM8 HB8 
  have HSx1 : Hid (Calls Tryd.prog 21 #[.slice (some ⟨gy, 0, none⟩) nn cy] w9 fun e w' => Hid (e = .returned (.tuple #[]) ∧ w9.grownBy w' (some gy))) := spoilm_ok _ nn gy cy N w9 HM9.out.1 hnl.out (by omega) HM9.out.2.2.1
  go_upto_region 9 with (go_at_call 21; refine HSx1.out.mono ?_; intro e10 w10 hh; obtain ⟨rfl, hg10⟩ := hh.out)
  have HB10 : Hid (Below w.heap.size w w10 ∧ w3.heap.size ≤ w10.heap.size) := ⟨HB9.out.1.grown hg10 HB9.out.1.size (fun b hb => by injection hb with hb; have := HO.out; omega), Nat.le_trans HB9.out.2 hg10.size⟩
  have HM10 : Hid (Marked w2.heap.size w10 (.slice (some ⟨gz, 0, none⟩) pn cz) P ∧ w2.heap.size ≤ w10.heap.size) := by
    have s := hg10.size
    have ho := HO.out
    have hz := HB9.out.2
    obtain ⟨m2, m3, m5, m6⟩ := HM9.out
    exact ⟨m3.blk (hg10.block gz (by omega) (fun e => by injection e with e; omega)), by omega⟩
  clear hh hg10 HSx1 HM9 HB9 
  have HSx2 : Hid (Calls Tryd.prog 21 #[.slice (some ⟨gz, 0, none⟩) pn cz] w10 fun e w' => Hid (e = .returned (.tuple #[]) ∧ w10.grownBy w' (some gz))) := spoilm_ok _ pn gz cz P w10 HM10.out.1 hpl.out (by omega) HM10.out.2
  go_upto_region 10 with (go_at_call 21; refine HSx2.out.mono ?_; intro e11 w11 hh; obtain ⟨rfl, hg11⟩ := hh.out)
  have HB11 : Hid (Below w.heap.size w w11 ∧ w3.heap.size ≤ w11.heap.size) := ⟨HB10.out.1.grown hg11 HB10.out.1.size (fun b hb => by injection hb with hb; have := HO.out; omega), Nat.le_trans HB10.out.2 hg11.size⟩
  clear hh hg11 HSx2 HM10 HB10 
  go_wp2
  go_ret3
  exact ⟨rfl, HB11.out.1⟩
set_option maxHeartbeats 3200000 in
set_option maxRecDepth 100000 in
theorem begun_good (h L : Int) (ea na pa : Option Addr) (en ec nn nc pn pc : Nat) (E N P : List Int) (w : World) (hT : Hid (Tables w)) (hR : Hid (RTab w)) (he : Hid (View w (.slice ea en ec) E)) (hel : Hid (E.length = en)) (hn : Hid (View w (.slice na nn nc) N)) (hnl : Hid (N.length = nn)) (hp : Hid (View w (.slice pa pn pc) P)) (hpl : Hid (P.length = pn)) (hs : en + nn + pn ≤ 262144) (hE : newE h L en nn pn = 0) :
    Calls Tryd.prog 17 #[.agg #[.int .i64 h, .int .i64 L, .slice ea en ec, .slice na nn nc, .slice pa pn pc]] w fun e w' => Hid (BegGood w w' e h L (E ++ (N ++ P))) := by
  have hT4 := hT.out.size
  go_enter Tryd.func17, Tryd.ntmps17
  go_upto_region 1 with fail
  have HA0 : Hid (SeedAt (w.alloc (.cells #[.int .i64 h, .int .i64 L, .slice ea en ec, .slice na nn nc, .slice pa pn pc] 24)) w.heap.size h L (.slice ea en ec) (.slice na nn nc) (.slice pa pn pc) ∧ Below w.heap.size w (w.alloc (.cells #[.int .i64 h, .int .i64 L, .slice ea en ec, .slice na nn nc, .slice pa pn pc] 24)) ∧ (w.alloc (.cells #[.int .i64 h, .int .i64 L, .slice ea en ec, .slice na nn nc, .slice pa pn pc] 24)).heap.size = w.heap.size + 1) := ⟨SeedAt.new _ _ _ _ _ _ _, below_alloc1 _ _, size_alloc1 _ _⟩
  generalize w.alloc (.cells #[.int .i64 h, .int .i64 L, .slice ea en ec, .slice na nn nc, .slice pa pn pc] 24) = w0 at HA0 ⊢
  have c2 := HA0.out.1.c2
  have H1 : Hid (Calls Tryd.prog 27 #[.slice ea en ec] w0 fun e w' => Hid (CpP w0 w' e en E)) := cp_ok ea en ec E w0 (he.out.kept fun q hq => HA0.out.2.1.block q hq) hel.out (by omega)
  go_upto_region 2 with (go_at_call 27; refine H1.out.mono ?_; intro e1 w1 hh; obtain ⟨gx, cx, rfl, hx1, hx2, hx3, hx4⟩ := hh.out)
  have HX1 : Hid (w0.heap.size ≤ gx ∧ gx < w1.heap.size ∧ Marked w0.heap.size w1 (.slice (some ⟨gx, 0, none⟩) en cx) E ∧ Below w0.heap.size w0 w1) := ⟨hx1, hx2, hx3, hx4⟩
  have HB1 : Hid (Below w.heap.size w w1) := HA0.out.2.1.trans (hx4.mono HA0.out.2.1.size)
  have HA1 : Hid (SeedAt w1 w.heap.size h L (.slice ea en ec) (.slice na nn nc) (.slice pa pn pc)) := HA0.out.1.below hx4
  clear hh hx1 hx2 hx3 hx4 H1 c2
  have c3 := HA1.out.c3
  have H2 : Hid (Calls Tryd.prog 27 #[.slice na nn nc] w1 fun e w' => Hid (CpP w1 w' e nn N)) := cp_ok na nn nc N w1 (hn.out.kept fun q hq => HB1.out.block q hq) hnl.out (by omega)
  go_upto_region 3 with (go_at_call 27; refine H2.out.mono ?_; intro e2 w2 hh; obtain ⟨gy, cy, rfl, hx1, hx2, hx3, hx4⟩ := hh.out)
  have HY2 : Hid (w1.heap.size ≤ gy ∧ gy < w2.heap.size ∧ Marked w1.heap.size w2 (.slice (some ⟨gy, 0, none⟩) nn cy) N ∧ Below w1.heap.size w1 w2) := ⟨hx1, hx2, hx3, hx4⟩
  have HB2 : Hid (Below w.heap.size w w2) := HB1.out.trans (hx4.mono HB1.out.size)
  have HA2 : Hid (SeedAt w2 w.heap.size h L (.slice ea en ec) (.slice na nn nc) (.slice pa pn pc)) := HA1.out.below hx4
  clear hh hx1 hx2 hx3 hx4 H2 c3
  have c4 := HA2.out.c4
  have H3 : Hid (Calls Tryd.prog 27 #[.slice pa pn pc] w2 fun e w' => Hid (CpP w2 w' e pn P)) := cp_ok pa pn pc P w2 (hp.out.kept fun q hq => HB2.out.block q hq) hpl.out (by omega)
  go_upto_region 4 with (go_at_call 27; refine H3.out.mono ?_; intro e3 w3 hh; obtain ⟨gz, cz, rfl, hx1, hx2, hx3, hx4⟩ := hh.out)
  have HZ3 : Hid (w2.heap.size ≤ gz ∧ gz < w3.heap.size ∧ Marked w2.heap.size w3 (.slice (some ⟨gz, 0, none⟩) pn cz) P ∧ Below w2.heap.size w2 w3) := ⟨hx1, hx2, hx3, hx4⟩
  have HB3 : Hid (Below w.heap.size w w3) := HB2.out.trans (hx4.mono HB2.out.size)
  have HA3 : Hid (SeedAt w3 w.heap.size h L (.slice ea en ec) (.slice na nn nc) (.slice pa pn pc)) := HA2.out.below hx4
  clear hh hx1 hx2 hx3 hx4 H3 c4
  have HO : Hid (w.heap.size < gx ∧ gx < gy ∧ gy < gz ∧ gz < w3.heap.size) := by
    have h1 := HX1.out; have h2 := HY2.out; have h3 := HZ3.out; have h0 := HA0.out.2.2
    exact ⟨by omega, by omega, by omega, by omega⟩
  have HM3 : Hid (Marked w0.heap.size w3 (.slice (some ⟨gx, 0, none⟩) en cx) E ∧ Marked w1.heap.size w3 (.slice (some ⟨gy, 0, none⟩) nn cy) N ∧ Marked w2.heap.size w3 (.slice (some ⟨gz, 0, none⟩) pn cz) P ∧ w0.heap.size ≤ w3.heap.size ∧ w1.heap.size ≤ w3.heap.size ∧ w2.heap.size ≤ w3.heap.size) := by
    have s1 := HX1.out.2.2.2.size; have s2 := HY2.out.2.2.2.size; have s3 := HZ3.out.2.2.2.size
    exact ⟨(HX1.out.2.2.1.kept fun q hq => HY2.out.2.2.2.block q hq).kept fun q hq => HZ3.out.2.2.2.block q hq, HY2.out.2.2.1.kept fun q hq => HZ3.out.2.2.2.block q hq, HZ3.out.2.2.1, by omega, by omega, by omega⟩
  clear HX1 HY2 HZ3 HA0 HA1 HA2 HB1 HB2
  have c0 := HA3.out.c0
  have c1 := HA3.out.c1
  obtain ⟨k, hL1, hL2, he1, he2, hn2, hp2⟩ := newE_zero hE
  have HX5 : Hid (∀ u, View u (.slice ea en ec) E → View u (.slice na nn nc) N → View u (.slice pa pn pc) P → RTab u → 4 ≤ u.heap.size → Calls Tryd.prog 28 #[.int .i64 h, .int .i64 L, .slice ea en ec, .slice na nn nc, .slice pa pn pc] u fun e w' => Hid (RNewP u w' e h L (E ++ (N ++ P)))) := fun u v1 v2 v3 hr h4 => rnew_ok h L ea na pa en ec nn nc pn pc E N P u k hr hL1 hL2 v1 hel v2 hnl v3 hpl he1 he2 hn2 hp2 h4
  have H9 : Hid (Calls Tryd.prog 9 #[.int .i64 h, .int .i64 L, .slice (some ⟨gx, 0, none⟩) en cx, .slice (some ⟨gy, 0, none⟩) nn cy, .slice (some ⟨gz, 0, none⟩) pn cz] w3 fun e w' => Hid (NewP w3 w' e h L (E ++ (N ++ P)))) := by
    exact spnew h L _ _ _ en cx nn cy pn cz E N P w3 k (hT.out.below HB3.out hT4) hL1 hL2 HM3.out.1.view hel HM3.out.2.1.view hnl HM3.out.2.2.1.view hpl he1 he2 hn2 hp2
  go_upto_region 5 with (go_at_call 9; refine H9.out.mono ?_; intro e4 w4 hh; obtain ⟨g, rfl, hg1, hg2, hb4⟩ := hh.out)
  have HG4 : Hid (w3.heap.size ≤ g ∧ SpAt w4 g h (updK h (fun _ => 0) (ones (szOf h)) (E ++ (N ++ P))) (updV h (fun _ => 0) (ones (szOf h)) (E ++ (N ++ P))) L 0 ∧ Below w3.heap.size w3 w4) := ⟨hg1, hg2, hb4⟩
  have HA4 : Hid (SeedAt w4 w.heap.size h L (.slice ea en ec) (.slice na nn nc) (.slice pa pn pc)) := HA3.out.below hb4
  have HB4 : Hid (Below w.heap.size w w4) := HB3.out.trans (hb4.mono HB3.out.size)
  clear hh hg1 hg2 hb4 H9 c0 c1
  have c0 := HA4.out.c0
  have c1 := HA4.out.c1
  have c2 := HA4.out.c2
  have c3 := HA4.out.c3
  have c4 := HA4.out.c4
  have hs4 := HB4.out.size
  have H28 : Hid (Calls Tryd.prog 28 #[.int .i64 h, .int .i64 L, .slice ea en ec, .slice na nn nc, .slice pa pn pc] w4 fun e w' => Hid (RNewP w4 w' e h L (E ++ (N ++ P)))) := HX5.out w4 (he.out.kept fun q hq => HB4.out.block q hq) (hn.out.kept fun q hq => HB4.out.block q hq) (hp.out.kept fun q hq => HB4.out.block q hq) (hR.out.below HB4.out (by have := hR.out.size; omega)) (by omega)
  go_upto_region 6 with (go_at_call 28; refine H28.out.mono ?_; intro e5 w5 hh; obtain ⟨t, ka, kc, va, vc, rfl, r1, r2, r3, hb5⟩ := hh.out)
  have HP5 : Hid (Beg w w5 w3.heap.size g t h L (E ++ (N ++ P)) ka va kc vc) := by
    have gl := HG4.out.2.1.lt
    have hk1 : 0 < (fL (updK h (fun _ => 0) (ones (szOf h)) (E ++ (N ++ P))) (szOf h)).length := by rw [fL_length]; exact (szOf_pos k).1
    have hv1 : 0 < (fL (updV h (fun _ => 0) (ones (szOf h)) (E ++ (N ++ P))) (szOf h)).length := by rw [fL_length]; exact (szOf_pos k).1
    refine ⟨HG4.out.2.1.below hb5, r2, HB4.out.trans (hb5.mono HB4.out.size), HG4.out.1, by omega, fun b off e => ⟨by have := r3.1 b off e; omega, ?_⟩, fun b off e => ⟨by have := r3.2 b off e; omega, ?_⟩⟩
    · have q := r2.vK; rw [e] at q; exact view_blk_lt q hk1
    · have q := r2.vV; rw [e] at q; exact view_blk_lt q hv1
  have HA5 : Hid (SeedAt w5 w.heap.size h L (.slice ea en ec) (.slice na nn nc) (.slice pa pn pc)) := HA4.out.below hb5
  have HM5 : Hid (Marked w0.heap.size w5 (.slice (some ⟨gx, 0, none⟩) en cx) E ∧ Marked w1.heap.size w5 (.slice (some ⟨gy, 0, none⟩) nn cy) N ∧ Marked w2.heap.size w5 (.slice (some ⟨gz, 0, none⟩) pn cz) P ∧ w0.heap.size ≤ w5.heap.size ∧ w1.heap.size ≤ w5.heap.size ∧ w2.heap.size ≤ w5.heap.size) := by
    have s := hb5.size
    have s4 := HG4.out.2.2.size
    obtain ⟨m1, m2, m3, m4, m5, m6⟩ := HM3.out
    have hk : ∀ q, q < w3.heap.size → w5.heap[q]? = w3.heap[q]? := fun q hq => (hb5.block q (by omega)).trans (HG4.out.2.2.block q hq)
    exact ⟨m1.kept hk, m2.kept hk, m3.kept hk, by omega, by omega, by omega⟩
  have HB5 : Hid (Below w.heap.size w w5) := HB4.out.trans (hb5.mono HB4.out.size)
  have HS5 : Hid (w3.heap.size ≤ w5.heap.size) := Nat.le_trans HG4.out.2.2.size hb5.size
  clear hh r1 r2 r3 hb5 H28 HX5 HA4 HB4 HG4 c0 c1 c2 c3 c4 hs4
  have c2 := HA5.out.c2
  have HW1 : Hid (Calls Tryd.prog 29 #[.slice (some ⟨gx, 0, none⟩) en cx, .slice ea en ec] w5 fun e w' => Hid (e = .returned (.bool true) ∧ Below w5.heap.size w5 w')) := whole_ok _ _ E _ w5 HM5.out.1 (he.out.kept fun q hq => HB5.out.block q hq)
  go_wp2_with (first | (go_at_call 10; refine (num_ok _ _).mono ?_; rintro e6 w6 ⟨rfl, hw6⟩; obtain rfl := hw6.symm) | (go_at_call 29; refine HW1.out.mono ?_))
  intro e6 w6 hh
  obtain ⟨rfl, hb6⟩ := hh.out
  have HA6 : Hid (SeedAt w6 w.heap.size h L (.slice ea en ec) (.slice na nn nc) (.slice pa pn pc)) := HA5.out.below hb6
  have HM6 : Hid (Marked w0.heap.size w6 (.slice (some ⟨gx, 0, none⟩) en cx) E ∧ Marked w1.heap.size w6 (.slice (some ⟨gy, 0, none⟩) nn cy) N ∧ Marked w2.heap.size w6 (.slice (some ⟨gz, 0, none⟩) pn cz) P ∧ w0.heap.size ≤ w6.heap.size ∧ w1.heap.size ≤ w6.heap.size ∧ w2.heap.size ≤ w6.heap.size) := by
    have s := hb6.size
    obtain ⟨m1, m2, m3, m4, m5, m6⟩ := HM5.out
    exact ⟨m1.kept fun q hq => hb6.block q hq, m2.kept fun q hq => hb6.block q hq, m3.kept fun q hq => hb6.block q hq, by omega, by omega, by omega⟩
  have HB6 : Hid (Below w.heap.size w w6) := HB5.out.trans (hb6.mono HB5.out.size)
  have HP6 : Hid (Beg w w6 w3.heap.size g t h L (E ++ (N ++ P)) ka va kc vc) := HP5.out.below hb6 HB3.out.size
  have HS56 : Hid (w5.heap.size ≤ w6.heap.size) := hb6.size
  clear hh hb6 HA5 HM5 HB5 HP5 c2 HW1
  have c3 := HA6.out.c3
  have HW2 : Hid (Calls Tryd.prog 29 #[.slice (some ⟨gy, 0, none⟩) nn cy, .slice na nn nc] w6 fun e w' => Hid (e = .returned (.bool true) ∧ Below w6.heap.size w6 w')) := whole_ok _ _ N _ w6 HM6.out.2.1 (hn.out.kept fun q hq => HB6.out.block q hq)
  go_wp2_with (go_at_call 29; refine HW2.out.mono ?_)
  intro e7 w7 hh
  obtain ⟨rfl, hb7⟩ := hh.out
  have HA7 : Hid (SeedAt w7 w.heap.size h L (.slice ea en ec) (.slice na nn nc) (.slice pa pn pc)) := HA6.out.below hb7
  have HM7 : Hid (Marked w0.heap.size w7 (.slice (some ⟨gx, 0, none⟩) en cx) E ∧ Marked w1.heap.size w7 (.slice (some ⟨gy, 0, none⟩) nn cy) N ∧ Marked w2.heap.size w7 (.slice (some ⟨gz, 0, none⟩) pn cz) P ∧ w0.heap.size ≤ w7.heap.size ∧ w1.heap.size ≤ w7.heap.size ∧ w2.heap.size ≤ w7.heap.size) := by
    have s := hb7.size
    obtain ⟨m1, m2, m3, m4, m5, m6⟩ := HM6.out
    exact ⟨m1.kept fun q hq => hb7.block q hq, m2.kept fun q hq => hb7.block q hq, m3.kept fun q hq => hb7.block q hq, by omega, by omega, by omega⟩
  have HB7 : Hid (Below w.heap.size w w7) := HB6.out.trans (hb7.mono HB6.out.size)
  have HP7 : Hid (Beg w w7 w3.heap.size g t h L (E ++ (N ++ P)) ka va kc vc) := HP6.out.below hb7 HB3.out.size
  have HS57 : Hid (w5.heap.size ≤ w7.heap.size) := Nat.le_trans HS56.out hb7.size
  clear hh hb7 HA6 HM6 HB6 HP6 c3 HW2
  have c4 := HA7.out.c4
  have HW3 : Hid (Calls Tryd.prog 29 #[.slice (some ⟨gz, 0, none⟩) pn cz, .slice pa pn pc] w7 fun e w' => Hid (e = .returned (.bool true) ∧ Below w7.heap.size w7 w')) := whole_ok _ _ P _ w7 HM7.out.2.2.1 (hp.out.kept fun q hq => HB7.out.block q hq)
  go_wp2_with (go_at_call 29; refine HW3.out.mono ?_)
  intro e8 w8 hh
  obtain ⟨rfl, hb8⟩ := hh.out
  have HM8 : Hid (Marked w0.heap.size w8 (.slice (some ⟨gx, 0, none⟩) en cx) E ∧ Marked w1.heap.size w8 (.slice (some ⟨gy, 0, none⟩) nn cy) N ∧ Marked w2.heap.size w8 (.slice (some ⟨gz, 0, none⟩) pn cz) P ∧ w0.heap.size ≤ w8.heap.size ∧ w1.heap.size ≤ w8.heap.size ∧ w2.heap.size ≤ w8.heap.size) := by
    have s := hb8.size
    obtain ⟨m1, m2, m3, m4, m5, m6⟩ := HM7.out
    exact ⟨m1.kept fun q hq => hb8.block q hq, m2.kept fun q hq => hb8.block q hq, m3.kept fun q hq => hb8.block q hq, by omega, by omega, by omega⟩
  have HB8 : Hid (Below w.heap.size w w8 ∧ w3.heap.size ≤ w8.heap.size) := ⟨HB7.out.trans (hb8.mono HB7.out.size), Nat.le_trans HS5.out (Nat.le_trans HS57.out hb8.size)⟩
  have HP8 : Hid (Beg w w8 w3.heap.size g t h L (E ++ (N ++ P)) ka va kc vc) := HP7.out.below hb8 HB3.out.size
  clear hh hb8 HA7 HM7 HB7 HP7 c4 HW3
  have HSx0 : Hid (Calls Tryd.prog 21 #[.slice (some ⟨gx, 0, none⟩) en cx] w8 fun e w' => Hid (e = .returned (.tuple #[]) ∧ w8.grownBy w' (some gx))) := spoilm_ok _ en gx cx E w8 HM8.out.1 hel.out (by omega) HM8.out.2.2.2.1
  go_upto_region 8 with (go_at_call 21; refine HSx0.out.mono ?_; intro e9 w9 hh; obtain ⟨rfl, hg9⟩ := hh.out)
  have HB9 : Hid (Below w.heap.size w w9 ∧ w3.heap.size ≤ w9.heap.size) := ⟨HB8.out.1.grown hg9 HB8.out.1.size (fun b hb => by injection hb with hb; have := HO.out; omega), Nat.le_trans HB8.out.2 hg9.size⟩
  have HP9 : Hid (Beg w w9 w3.heap.size g t h L (E ++ (N ++ P)) ka va kc vc) := HP8.out.spoil hg9 (by have := HO.out; omega) (by have := HO.out; omega)
  have HM9 : Hid (Marked w1.heap.size w9 (.slice (some ⟨gy, 0, none⟩) nn cy) N ∧ Marked w2.heap.size w9 (.slice (some ⟨gz, 0, none⟩) pn cz) P ∧ w1.heap.size ≤ w9.heap.size ∧ w2.heap.size ≤ w9.heap.size) := by
    have s := hg9.size
    have ho := HO.out
    have hz := HB8.out.2
    obtain ⟨m1, m2, m3, m4, m5, m6⟩ := HM8.out
    exact ⟨m2.blk (hg9.block gy (by omega) (fun e => by injection e with e; omega)), m3.blk (hg9.block gz (by omega) (fun e => by injection e with e; omega)), by omega, by omega⟩
  clear hh hg9 HSx0 HM8 HB8 HP8
  have HSx1 : Hid (Calls Tryd.prog 21 #[.slice (some ⟨gy, 0, none⟩) nn cy] w9 fun e w' => Hid (e = .returned (.tuple #[]) ∧ w9.grownBy w' (some gy))) := spoilm_ok _ nn gy cy N w9 HM9.out.1 hnl.out (by omega) HM9.out.2.2.1
  go_upto_region 9 with (go_at_call 21; refine HSx1.out.mono ?_; intro e10 w10 hh; obtain ⟨rfl, hg10⟩ := hh.out)
  have HB10 : Hid (Below w.heap.size w w10 ∧ w3.heap.size ≤ w10.heap.size) := ⟨HB9.out.1.grown hg10 HB9.out.1.size (fun b hb => by injection hb with hb; have := HO.out; omega), Nat.le_trans HB9.out.2 hg10.size⟩
  have HP10 : Hid (Beg w w10 w3.heap.size g t h L (E ++ (N ++ P)) ka va kc vc) := HP9.out.spoil hg10 (by have := HO.out; omega) (by have := HO.out; omega)
  have HM10 : Hid (Marked w2.heap.size w10 (.slice (some ⟨gz, 0, none⟩) pn cz) P ∧ w2.heap.size ≤ w10.heap.size) := by
    have s := hg10.size
    have ho := HO.out
    have hz := HB9.out.2
    obtain ⟨m2, m3, m5, m6⟩ := HM9.out
    exact ⟨m3.blk (hg10.block gz (by omega) (fun e => by injection e with e; omega)), by omega⟩
  clear hh hg10 HSx1 HM9 HB9 HP9
  have HSx2 : Hid (Calls Tryd.prog 21 #[.slice (some ⟨gz, 0, none⟩) pn cz] w10 fun e w' => Hid (e = .returned (.tuple #[]) ∧ w10.grownBy w' (some gz))) := spoilm_ok _ pn gz cz P w10 HM10.out.1 hpl.out (by omega) HM10.out.2
  go_upto_region 10 with (go_at_call 21; refine HSx2.out.mono ?_; intro e11 w11 hh; obtain ⟨rfl, hg11⟩ := hh.out)
  have HB11 : Hid (Below w.heap.size w w11 ∧ w3.heap.size ≤ w11.heap.size) := ⟨HB10.out.1.grown hg11 HB10.out.1.size (fun b hb => by injection hb with hb; have := HO.out; omega), Nat.le_trans HB10.out.2 hg11.size⟩
  have HP11 : Hid (Beg w w11 w3.heap.size g t h L (E ++ (N ++ P)) ka va kc vc) := HP10.out.spoil hg11 (by have := HO.out; omega) (by have := HO.out; omega)
  clear hh hg11 HSx2 HM10 HB10 HP10
  go_wp2
  go_ret3
  exact ⟨w3.heap.size, g, t, ka, va, kc, vc, rfl, HB3.out.size, HP11.out⟩
end Go.Proofs.YtkeklmkaleomkaaDoor
namespace Go.Proofs.YtkeklmkaleomkaaDoor
open Go.RowKit
set_option linter.unusedVariables false
set_option linter.unusedSimpArgs false
/-- Only copies' blocks, and new ones, changed. -/
structure Kw (w u : World) (vs : List Value) : Prop where
  os : u.os = w.os
  tape : u.tape = w.tape
  output : u.output = w.output
  size : w.heap.size ≤ u.heap.size
  block : ∀ q : Nat, q < w.heap.size → (∀ (i : Nat) (x : Value), vs[i]? = some x → Value.ownBlock x ≠ some q) → u.heap[q]? = w.heap[q]?
theorem Kw.refl (w : World) (vs : List Value) : Kw w w vs := ⟨rfl, rfl, rfl, Nat.le_refl _, fun _ _ _ => rfl⟩
theorem Kw.below {w u v : World} {vs : List Value} (h : Kw w u vs) (b : Below u.heap.size u v) : Kw w v vs :=
  ⟨b.os.trans h.os, b.tape.trans h.tape, b.output.trans h.output, Nat.le_trans h.size b.size, fun q hq hn => (b.block q (Nat.lt_of_lt_of_le hq h.size)).trans (h.block q hq hn)⟩
theorem Kw.spoil {w u v : World} {vs : List Value} {g i : Nat} {x : Value} (h : Kw w u vs) (hg : u.grownBy v (some g)) (hx : vs[i]? = some x) (hb : x.ownBlock = some g) : Kw w v vs :=
  ⟨hg.os.trans h.os, hg.tape.trans h.tape, hg.output.trans h.output, Nat.le_trans h.size hg.size, fun q hq hn => (hg.block q (Nat.lt_of_lt_of_le hq h.size) (fun e => hn i x hx (by rw [hb, ← e]))).trans (h.block q hq hn)⟩
theorem row_ne {w : World} {B B2 n s : Nat} {r x : Value} {rs : List Value} {zs : List Int} (hr : w.ownsRow B 22 s r n rs) (h : Marked B2 w x zs) {g : Nat} (hg : r.ownBlock = some g) : x.ownBlock ≠ some g := by
  intro hx
  obtain ⟨g1, c1, rfl, ho⟩ := h
  have e1 : g1 = g := by simpa [Value.ownBlock] using hx
  subst e1
  rcases ho.2 with ⟨h, _⟩ | ⟨g', c', cur, he, _, p2, _⟩
  · cases h
  · rcases hr.2 with ⟨hrn, _⟩ | ⟨g2, c2, cur2, er, _, q2, _⟩
    · rw [hrn] at hg; cases hg
    · rw [er] at hg
      have e2 : g2 = g1 := by simpa [Value.ownBlock] using hg
      injection he with he1 _ _
      injection he1 with he1
      injection he1 with he1 _
      subst e2 he1
      rw [q2] at p2
      injection p2 with p2
      injection p2 with p3 p4
      cases p4
set_option maxHeartbeats 3200000 in
set_option maxRecDepth 100000 in
/-- kept, of copies that are as they were. -/
theorem kept_ok (B : Nat) (va xa : Option Addr) (n vc xc : Nat) (vs xs : List Value) (yss : List (List Int)) (w : World) (hv : Hid (w.ownsRow B 22 1 (.slice va n vc) n vs)) (hvl : Hid (vs.length = n)) (hL : Hid (Lent B w vs yss)) (hI : Hid (Inc vs)) (hP : Hid (∀ u, Kw w u vs → PV u (.slice xa n xc) xs yss)) (hxn : Hid (xs.length = n)) (hs : Hid (yss.flatten.length ≤ 262144)) (hn : n ≤ 4611686018427387904) (hB : B ≤ w.heap.size) :
    Calls Tryd.prog 35 #[.slice va n vc, .slice xa n xc] w fun e w' => Hid (e = .returned (.bool true) ∧ Kw w w' vs) := by
  have hyn : Hid (yss.length = n) := by
    obtain ⟨_, _, _, _, _, h3, _⟩ := hP.out w (Kw.refl _ _)
    show _ = _
    rw [← h3, hxn.out]
  go_enter Tryd.func35, Tryd.ntmps35
  go_wp2
  go_loopw [5] (fun vi wr => ∃ i : Nat, i ≤ n ∧ vi = .int .i64 i ∧ Hid (Kw w wr vs ∧ (∀ (j : Nat) (x : Value), i ≤ j → vs[j]? = some x → Marked B wr x (yss.getD j [])))) (fun vi _ => n - (intOf vi).toNat)
  case atStart => exact ⟨0, by omega, rfl, Kw.refl _ _, fun j x _ hx => hL.out j x hx⟩
  case round =>
    obtain ⟨i, hin, rfl, HK⟩ := hrel
    by_cases hlt : i < n
    · obtain ⟨x, hx⟩ : ∃ x, vs[i]? = some x := ⟨_, List.getElem?_eq_getElem (by rw [hvl.out]; exact hlt)⟩
      have hM := HK.out.2 i x (Nat.le_refl _) hx
      obtain ⟨gx, cx, LX, HLX, rfl⟩ : ∃ g c L, Hid (L = (yss.getD i []).length) ∧ x = .slice (some ⟨g, 0, none⟩) L c := by
        obtain ⟨g, c, e, _⟩ := hM
        exact ⟨g, c, _, rfl, e⟩
      have hyl : (yss.getD i []).length ≤ 262144 := by
        have h1 := sum_le yss (i + 1)
        rw [flat_step yss i (by rw [hyn.out]; exact hlt), List.length_append] at h1
        have h3 := hs.out
        omega
      have HLXb : Hid (LX ≤ 262144) := by show _ ≤ _; rw [HLX.out]; exact hyl
      obtain ⟨vb, hva⟩ : ∃ vb, va = some ⟨vb, 0, none⟩ := by
        rcases hv.out.2 with ⟨h, h0⟩ | ⟨g, c, cur, he, _⟩
        · omega
        · injection he with he _ _; exact ⟨g, he⟩
      subst hva
      have cv : wr.cell? ⟨vb, i, none⟩ = some (.slice (some ⟨gx, 0, none⟩) LX cx) := by
        rw [World.cell?_of_block (a := ⟨vb, i, none⟩) (HK.out.1.block vb (hv.out.lt vb rfl).2 (fun j y hy => row_ne hv.out (hL.out j y hy) rfl)), hv.out.cellAt i (by omega)]
        exact hx
      obtain ⟨xb, p, y, hxa, cy, hvy⟩ : ∃ xb p y, xa = some ⟨xb, p, none⟩ ∧ wr.cell? ⟨xb, p + i, none⟩ = some y ∧ View wr y (yss.getD i []) := by
        obtain ⟨a', c', e, h1, h2, h3, h4, h5⟩ := hP.out wr HK.out.1
        injection e with e1 e2 e3
        have hii : i < xs.length := by rw [hxn.out]; exact hlt
        obtain ⟨y, hy⟩ : ∃ y, xs[i]? = some y := ⟨_, List.getElem?_eq_getElem hii⟩
        rcases h5 with h5 | ⟨b', p', e5, h6⟩
        · rw [h5] at hii; simp at hii
        · exact ⟨b', p', y, by rw [e1, e5], h6 i y hy, h4 i y hy⟩
      subst hxa
      have H29 : Hid (∀ m, Calls Tryd.prog 29 #[.slice (some ⟨gx, 0, none⟩) LX cx, y] (wr.drewN m) fun e w' => e = .returned (.bool true) ∧ ∃ k, w' = (wr.drewN m).drewN k) := fun m => whole_any _ _ (yss.getD i []) B (wr.drewN m) (hM.kept fun q hq => rfl) (hvy.kept fun q hq => rfl)
      have HX : Hid (vs[i]? = some (.slice (some ⟨gx, 0, none⟩) LX cx)) := hx
      have HM : Hid (Marked B wr (.slice (some ⟨gx, 0, none⟩) LX cx) (yss.getD i [])) := hM
      clear hx hM hvy hyl
      have q2 : ((i : Nat) : Int) < (n : Nat) := by omega
      go_upto_region 4 with fail
      go_quiet ((go_at_call 29; exact Calls.quiet_of (H29.out _)))
      have HBq : Hid (Below wr.heap.size wr (wr.drewN nq)) := ⟨rfl, rfl, rfl, Nat.le_refl _, fun _ _ => rfl⟩
      have cv2 : (wr.drewN nq).cell? ⟨vb, i, none⟩ = some (.slice (some ⟨gx, 0, none⟩) LX cx) := cv
      have HM2 : Hid (Marked B (wr.drewN nq) (.slice (some ⟨gx, 0, none⟩) LX cx) (yss.getD i [])) := HM.out.kept fun q hq => rfl
      generalize wr.drewN nq = w3 at HBq cv2 HM2 ⊢
      have H21 : Hid (Calls Tryd.prog 21 #[.slice (some ⟨gx, 0, none⟩) LX cx] w3 fun e w' => Hid (e = .returned (.tuple #[]) ∧ w3.grownBy w' (some gx))) := spoilm_ok B LX gx cx (yss.getD i []) w3 HM2.out HLX.out.symm HLXb.out (Nat.le_trans hB (Nat.le_trans HK.out.1.size HBq.out.size))
      go_wp2_with (go_at_call 21; refine H21.out.mono ?_)
      intro e4 w4 hh
      obtain ⟨rfl, hg4⟩ := hh.out
      have HK4 : Hid (Kw w w4 vs ∧ (∀ (j : Nat) (x : Value), i + 1 ≤ j → vs[j]? = some x → Marked B w4 x (yss.getD j []))) := by
        refine ⟨(HK.out.1.below HBq.out).spoil hg4 HX.out rfl, fun j x hj hx => ?_⟩
        have m3 : Marked B w3 x (yss.getD j []) := (HK.out.2 j x (by omega) hx).kept fun q hq => HBq.out.block q hq
        refine m3.blk2 fun g hg => hg4.block g (m3.blk_lt hg).2 (fun e => ?_)
        injection e with e
        have := hI.out i j _ x gx g (by omega) HX.out hx rfl hg
        omega
      clear hh hg4 H21 HM2 HBq cv2 HK HM H29 cv cy
      go_wp2
      go_roundw
      case rel => exact ⟨i + 1, by omega, by go_num, HK4.out⟩
      case measure => simp [intOf]; omega
    · obtain rfl : i = n := by omega
      go_wp2
      go_ret
      exact ⟨rfl, HK.out.1⟩
end Go.Proofs.YtkeklmkaleomkaaDoor
namespace Go.Proofs.YtkeklmkaleomkaaDoor
open Go.RowKit
set_option linter.unusedVariables false
set_option linter.unusedSimpArgs false
set_option maxHeartbeats 3200000 in
set_option maxRecDepth 100000 in
/-- state.give. -/
theorem give2_ok (g : Nat) (dg : Int) (K V : Nat → Int) (L c : Int) (n : Nat) (w : World) (k : Hid (Known dg)) (hs : Hid (SpAt w g dg K V L c)) (hT : Hid (Tables w)) (hg : 4 ≤ g) (hn : n ≤ 65536) :
    Calls Tryd.prog 26 #[.pointer (some ⟨g, 0, none⟩), .int .i64 (n : Nat)] w fun e w' => ∃ b, e = .returned (.slice (some ⟨b, 0, none⟩) n n) ∧ w.heap.size ≤ b ∧ OutAt w' b n (gv dg K V) ∧ SpAt w' g dg K (vq dg K V ((n + szOf dg - 1) / szOf dg)) L c ∧ Touch w w' g 0 131 := by
  obtain ⟨sz, HSZ⟩ : ∃ n : Nat, Hid (n = szOf dg) := ⟨_, (show _ = _ from rfl)⟩
  have hsz : 1 ≤ sz ∧ sz ≤ 64 := by rw [HSZ.out]; exact szOf_pos k.out
  obtain ⟨i0, hi0, hz0, hz1, hz2⟩ := info_parts Tryd.info5
  have HGW : Hid (g < w.heap.size) := hs.out.lt
  go_enter Tryd.func26, Tryd.ntmps26
  go_wp2_with (first
    | (at_make; go_must (refine wpList_make_full _ rfl _ _ 22 rfl w.heap.size 5 i0 (.int .u8 0) 1 Tryd.underlying22 hi0 hz0 hz1 .i64 .i64 (n : Nat) (n : Nat) n rfl rfl rfl rfl ?_ ?_ ?_ ?_)))
  · rw [hz2]; omega
  · unfold maxLen; omega
  · exact Nat.le_refl _
  intro w1 hown hgrow
  have hb1 : Below w.heap.size w w1 := (Below.refl _ _).grown hgrow (Nat.le_refl _) (by intro k hk; cases hk)
  have HO1 : Hid (OutAt w1 w.heap.size n (fun i => if i < 0 then gv dg K V i else 0)) := by
    have hth : ∀ j, j < n → w1.cell? ⟨w.heap.size, j, none⟩ = some (.int .u8 0) := fun j hj => by
      rw [hown.cellAt j (by omega)]
      exact made_get n j hj
    refine ⟨fun i hi => by rw [hth i hi]; simp, fun j hj => ?_, (hown.lt _ rfl).2⟩
    rw [Nat.zero_add]
    exact ⟨by rw [hth j hj]; rfl, hown.frozenAt j⟩
  have HT1 : Hid (Touch w w1 g 0 131) := (Touch.refl w g 0 131).below hb1 HGW.out
  have HS1 : Hid (SpAt w1 g dg K (vq dg K V 0) L c) := hs.out.below hb1
  clear hown hgrow hb1
  go_wp2
  go_loopw [6] (fun vi wr => ∃ q at_ : Nat, vi = .int .i64 (at_ : Nat) ∧ at_ ≤ 65600 ∧ Hid (at_ = q * sz) ∧ Hid (q = 0 ∨ (q - 1) * sz < n) ∧ Hid (Touch w wr g 0 131 ∧ SpAt wr g dg K (vq dg K V q) L c ∧ OutAt wr w.heap.size n (fun i => if i < at_ then gv dg K V i else 0))) (fun vi _ => n - (intOf vi).toNat)
  case atStart => exact ⟨0, 0, rfl, by omega, (by show 0 = _; rw [Nat.zero_mul]), .inl rfl, HT1.out, HS1.out, HO1.out⟩
  case round =>
    obtain ⟨q, at_, rfl, hat, HA, HQ, HR⟩ := hrel
    clear HO1 HT1 HS1
    by_cases hlt : (at_ : Int) < (n : Nat)
    · have HTT : Hid (Tables wr) := hT.out.touch HR.out.1 hg
      have HSr : Hid (SpAt wr g dg K (vq dg K V q) L c) := HR.out.2.1
      go_upto_region 6 with (go_at_call 41; refine (turn_ok g dg K (vq dg K V q) L c wr k HSr HTT).mono ?_; rintro e2 w2 ⟨rfl, hs2, ht2⟩)
      have HS2 : Hid (SpAt w2 g dg K (vq dg K V (q + 1)) L c) := hs2
      have HT2 : Hid (Touch w w2 g 0 131) := HR.out.1.trans ht2
      have HO2 : Hid (OutAt w2 w.heap.size n (fun i => if i < at_ then gv dg K V i else 0)) := HR.out.2.2.touch ht2 (by have := HGW.out; omega)
      clear hs2 ht2 HSr HR HTT
      obtain ⟨kk, hkk⟩ : ∃ kk, kk = min sz (n - at_) := ⟨_, rfl⟩
      have c0 : w2.cell? ⟨g, 0, none⟩ = some (.int .i64 dg) := HS2.out.hash
      have hat1 : (at_ : Int) ≤ (n : Nat) := by omega
      have hsz1 : ((sz : Nat) : Int) ≤ 64 := by omega
      have hsz0 : (0 : Int) ≤ ((sz : Nat) : Int) := by omega
      have hcp := copy_eq w2.drew w.heap.size at_ (n - at_) (n - at_) (some ⟨g, 65, none⟩) sz 64 kk (fL (vq dg K V (q + 1)) sz) hkk ((Sm.refl w2).drew.view (HS2.out.viewV sz (by omega))) (fun j hj => by
        have q := HO2.out.there (at_ + j) (by omega)
        rwa [Nat.zero_add] at q)
      have HX : Hid (Touch w (w2.drew.setCells w.heap.size at_ (cellsU8 (List.take kk (fL (vq dg K V (q + 1)) sz)))) g 0 131 ∧ SpAt (w2.drew.setCells w.heap.size at_ (cellsU8 (List.take kk (fL (vq dg K V (q + 1)) sz)))) g dg K (vq dg K V (q + 1)) L c ∧ OutAt (w2.drew.setCells w.heap.size at_ (cellsU8 (List.take kk (fL (vq dg K V (q + 1)) sz)))) w.heap.size n (fun i => if i < at_ + sz then gv dg K V i else 0) ∧ Hid (at_ + sz = (q + 1) * sz) ∧ Hid (q + 1 = 0 ∨ (q + 1 - 1) * sz < n)) := by
        have hgw := HGW.out
        refine ⟨touch_new HT2.out.drew (Nat.le_refl _) _ _ hgw, ?_, ?_, (by show _ = _; rw [Nat.succ_mul, HA.out]), .inr (by rw [Nat.add_sub_cancel, ← HA.out]; omega)⟩
        · have s0 : SpAt w2.drew g dg K (vq dg K V (q + 1)) L c := ⟨HS2.out.hash, HS2.out.key, HS2.out.val, HS2.out.lim, HS2.out.cnt, HS2.out.there⟩
          have hc : ∀ j, (w2.drew.setCells w.heap.size at_ (cellsU8 (List.take kk (fL (vq dg K V (q + 1)) sz)))).cell? ⟨g, j, none⟩ = w2.drew.cell? ⟨g, j, none⟩ := fun j => World.cell?_setCells_out _ _ _ _ ⟨g, j, none⟩ (fun e => by have e' : g = w.heap.size := e; omega)
          exact ⟨by rw [hc]; exact s0.hash, fun i hi => by rw [hc]; exact s0.key i hi, fun i hi => by rw [hc]; exact s0.val i hi, by rw [hc]; exact s0.lim, by rw [hc]; exact s0.cnt, World.there_setCells s0.there _ _ _⟩
        · have o0 : OutAt w2.drew w.heap.size n (fun i => if i < at_ then gv dg K V i else 0) := ⟨HO2.out.cells, HO2.out.there, HO2.out.lt⟩
          refine o0.lay (kk := kk) _ (by rw [List.length_take, fL_length]; omega) (by omega) (fun i hi hc => ?_) (fun i hi => ?_)
          · by_cases h1 : i < at_
            · rw [if_pos h1, if_pos (by omega)]
            · rw [if_neg h1, if_neg (by omega)]
          · rw [if_pos (by omega), HA.out, HSZ.out, gv_at k.out K V q i (by rw [← HSZ.out]; omega), fL_take _ _ _ (by rw [← HSZ.out]; omega), fL_get _ _ _ hi]
      clear HO2 HT2 HA HQ
      have HKK : Hid (kk = min sz (n - at_)) := hkk
      clear hkk
      go_region_with (go_at_call 39; refine (size_known k.out _).mono ?_; rintro e5 w5 ⟨rfl, hw5⟩; obtain rfl := hw5.symm; rw [← HSZ.out])
      clear hcp c0
      generalize w2.drew.setCells w.heap.size at_ (cellsU8 (List.take kk (fL (vq dg K V (q + 1)) sz))) = w3 at HX ⊢
      have c0 : w3.cell? ⟨g, 0, none⟩ = some (.int .i64 dg) := HX.out.2.1.hash
      go_wp2_with (go_at_call 39; refine (size_known k.out _).mono ?_; rintro e5 w5 ⟨rfl, hw5⟩; obtain rfl := hw5.symm; rw [← HSZ.out])
      go_roundw
      case rel => exact ⟨q + 1, at_ + sz, by go_num, by omega, HX.out.2.2.2.1, HX.out.2.2.2.2, HX.out.1, HX.out.2.1, HX.out.2.2.1⟩
      case measure => simp [intOf]; omega
    · have HF : Hid (OutAt wr w.heap.size n (gv dg K V) ∧ SpAt wr g dg K (vq dg K V ((n + szOf dg - 1) / szOf dg)) L c ∧ Touch w wr g 0 131) := by
        refine ⟨?_, ?_, HR.out.1⟩
        · have q1 : OutAt wr w.heap.size n (gv dg K V) := ⟨fun i hi => by rw [HR.out.2.2.cells i hi, if_pos (by omega)], HR.out.2.2.there, HR.out.2.2.lt⟩
          exact q1
        · rw [← HSZ.out, ceil_eq n sz q hsz.1 (by have := HA.out; omega) HQ.out]
          exact HR.out.2.1
      clear HR HA HQ
      go_wp2
      go_ret
      exact ⟨w.heap.size, rfl, Nat.le_refl _, HF.out⟩
set_option maxHeartbeats 3200000 in
set_option maxRecDepth 100000 in
/-- Draw, of what must be given. -/
theorem spdraw2 (g : Nat) (dg : Int) (K V : Nat → Int) (L c : Int) (n : Nat) (v : Value) (yss : List (List Int)) (w : World) (k : Hid (Known dg)) (hs : Hid (SpAt w g dg K V L c)) (hT : Hid (Tables w)) (hp : Hid (PL w g v yss)) (hl : Hid (yss.flatten.length ≤ 65536)) (hlb : Hid ((2 + yss.length) * 24 ≤ 140737488355328)) (hg : 4 ≤ g) (hn : n ≤ 65536) (hc : c ≠ L) (hc0 : 0 ≤ c) (hc1 : c ≤ 16777216) :
    Calls Tryd.prog 12 #[.pointer (some ⟨g, 0, none⟩), .int .i64 (n : Nat), v] w fun e w' => ∃ b, e = .returned (.tuple #[.slice (some ⟨b, 0, none⟩) n n, .int .i64 0]) ∧ w.heap.size ≤ b ∧ OutAt w' b n (drO dg K V yss.flatten) ∧ SpAt w' g dg (drK dg K V yss.flatten n) (drV dg K V yss.flatten n) L (c + 1) ∧ Touch w w' g 0 131 := by
  obtain ⟨N, HNN⟩ : ∃ N, Hid (N = yss.flatten.length) := ⟨_, rfl⟩
  obtain ⟨ys, HY⟩ : ∃ ys, Hid (ys = yss.flatten) := ⟨_, rfl⟩
  have hN : N ≤ 65536 := by rw [HNN.out]; exact hl.out
  have HGW : Hid (g < w.heap.size) := hs.out.lt
  have HJ : Hid (∀ u, PL u g v yss → Calls Tryd.prog 25 #[v] u fun e w' => e = .returned (.int .i64 (N : Nat)) ∧ w' = u) := fun u hu => by
    have q := joined_ok g v yss u hu.parts (by show _ ≤ _; have := hl.out; omega)
    rw [← HNN.out] at q
    exact q
  have HU : Hid (∀ (u : World) (K V : Nat → Int), SpAt u g dg K V L c → Tables u → PL u g v yss → Calls Tryd.prog 24 #[.pointer (some ⟨g, 0, none⟩), v] u fun e w' => Hid (e = .returned (.tuple #[]) ∧ SpAt w' g dg (updK dg K V ys) (updV dg K V ys) L c ∧ Touch u w' g 0 131)) := fun u K V h1 h2 h3 => by
    have q := update_ok g dg K V L c v yss u k h1 h2 h3 (by show _ ≤ _; have := hl.out; omega) hlb hg
    rw [← HY.out] at q
    exact q
  have c1 : w.cell? ⟨g, 129, none⟩ = some (.int .i64 L) := hs.out.lim
  have c2 : w.cell? ⟨g, 130, none⟩ = some (.int .i64 c) := hs.out.cnt
  have hcb : (c == L) = false := by simpa using hc
  have d1 : decide ((65536 : Int) < (n : Nat)) = false := by simp; omega
  have d2 : decide ((65536 : Int) < (N : Nat)) = false := by simp; omega
  have d3 : ¬ ((n : Nat) : Int) < 0 := by omega
  rw [← HY.out]
  go_enter Tryd.func12, Tryd.ntmps12
  go_upto_region 7 with (go_at_call 25; refine (HJ.out _ hp.out).mono ?_; rintro e5 w5 ⟨rfl, hw5⟩; obtain rfl := hw5.symm)
  go_quiet (fail)
  have HSw : Hid (SpAt (w.drewN nq) g dg K V L c) := ⟨hs.out.hash, hs.out.key, hs.out.val, hs.out.lim, hs.out.cnt, hs.out.there⟩
  have HTw : Hid (Touch w (w.drewN nq) g 0 131) := (Touch.refl w g 0 131).drewN nq
  generalize w.drewN nq = wd at HSw HTw ⊢
  have HTTw : Hid (Tables wd) := hT.out.touch HTw.out hg
  have HPw : Hid (PL wd g v yss) := hp.out.touch HTw.out
  obtain ⟨K1, HK1⟩ : ∃ K1, Hid (K1 = preK dg K V ys) := ⟨_, rfl⟩
  obtain ⟨V1, HV1⟩ : ∃ V1, Hid (V1 = preV dg K V ys) := ⟨_, rfl⟩
  clear c1 c2
  by_cases h0 : N = 0
  · subst h0
    have HE : Hid (ys = []) := List.eq_nil_of_length_eq_zero (by rw [HY.out]; exact HNN.out.symm)
    obtain ⟨wa, hwa⟩ : ∃ wa, wa = wd := ⟨_, rfl⟩
    have HSa : Hid (SpAt wa g dg K1 V1 L c) := by
      show SpAt _ _ _ _ _ _ _
      rw [HK1.out, HV1.out, hwa, preK, preV, if_pos HE.out, if_pos HE.out]
      exact HSw.out
    have HTa : Hid (Touch w wa g 0 131) := by rw [hwa]; exact HTw.out
    rw [← hwa] at HPw ⊢
    clear hwa HSw HTw HTTw
    have HTTa : Hid (Tables wa) := hT.out.touch HTa.out hg
    have HPa : Hid (PL wa g v yss) := hp.out.touch HTa.out
    have HG : Hid (Calls Tryd.prog 26 #[.pointer (some ⟨g, 0, none⟩), .int .i64 (n : Nat)] wa fun e w' => Hid (∃ b, e = .returned (.slice (some ⟨b, 0, none⟩) n n) ∧ wa.heap.size ≤ b ∧ OutAt w' b n (drO dg K V ys) ∧ SpAt w' g dg K1 (drV0 dg K V ys n) L c ∧ Touch wa w' g 0 131)) := by
      have q := give2_ok g dg K1 V1 L c n wa k HSa HTTa hg hn
      rw [HK1.out, HV1.out] at q
      rw [HK1.out]
      exact q
    go_wp2_with (first | (go_at_call 25; refine (HJ.out _ HPw.out).mono ?_; rintro e5 w5 ⟨rfl, hw5⟩; obtain rfl := hw5.symm) | (go_at_call 26; refine HG.out.mono ?_))
    intro e3 w3 hh
    obtain ⟨b, rfl, hb3, hv3, hs3, ht3⟩ := hh.out
    have HT3 : Hid (Touch w w3 g 0 131) := HTa.out.trans ht3
    have HS3 : Hid (SpAt w3 g dg K1 (drV0 dg K V ys n) L c) := hs3
    have HV3 : Hid (OutAt w3 b n (drO dg K V ys) ∧ w.heap.size ≤ b) := ⟨hv3, Nat.le_trans HTa.out.size hb3⟩
    have HTT3 : Hid (Tables w3) := hT.out.touch HT3.out hg
    have HP3 : Hid (PL w3 g v yss) := hp.out.touch HT3.out
    clear hh hb3 hv3 hs3 ht3 HG HTTa HPa HSa HTa
    go_wp2_with (go_at_call 24; refine (HU.out _ _ _ HS3.out HTT3.out HP3.out).mono ?_)
    intro e4 w4 hh
    obtain ⟨rfl, hs4, ht4⟩ := hh.out
    have HS4 : Hid (SpAt w4 g dg (drK dg K V ys n) (drV dg K V ys n) L c) := by
      show SpAt _ _ _ _ _ _ _
      have q := hs4
      rw [HK1.out] at q
      exact q
    have HT4 : Hid (Touch w w4 g 0 131) := HT3.out.trans ht4
    have HV4 : Hid (OutAt w4 b n (drO dg K V ys)) := HV3.out.1.touch ht4 (by have := HV3.out.2; have := HGW.out; omega)
    have c3 : w4.cell? ⟨g, 130, none⟩ = some (.int .i64 c) := HS4.out.cnt
    have f3 : w4.frozen? ⟨g, 130, none⟩ = false := by have := (HS4.out.there 130 (by omega)).2; simpa using this
    have HF : Hid (OutAt (w4.setCell ⟨g, 130, none⟩ (.int .i64 (c + 1))) b n (drO dg K V ys) ∧ SpAt (w4.setCell ⟨g, 130, none⟩ (.int .i64 (c + 1))) g dg (drK dg K V ys n) (drV dg K V ys n) L (c + 1) ∧ Touch w (w4.setCell ⟨g, 130, none⟩ (.int .i64 (c + 1))) g 0 131) := by
      have t5 : Touch w4 (w4.setCell ⟨g, 130, none⟩ (.int .i64 (c + 1))) g 0 131 := (Touch.refl w4 g 0 131).setCell 130 _ (by omega) (by omega)
      exact ⟨HV4.out.touch t5 (by have := HV3.out.2; have := HGW.out; omega), HS4.out.setC (c + 1), HT4.out.trans t5⟩
    clear hh hs4 ht4 HS3 HT3 HTT3 HP3
    go_wp2
    go_ret2
    exact ⟨b, rfl, HV3.out.2, HF.out.1, HF.out.2.1, HF.out.2.2⟩
  · have h1 : (0 : Int) < (N : Nat) := by omega
    have HE : Hid (ys ≠ []) := fun e => h0 (by rw [HNN.out, ← HY.out, e]; rfl)
    go_wp2_with (first
      | (go_at_call 25; refine (HJ.out _ HPw.out).mono ?_; rintro e5 w5 ⟨rfl, hw5⟩; obtain rfl := hw5.symm)
      | (go_at_call 24; refine (HU.out _ _ _ HSw.out HTTw.out HPw.out).mono ?_))
    intro e2 wa hh
    obtain ⟨rfl, hsa, hta⟩ := hh.out
    have HSa : Hid (SpAt wa g dg K1 V1 L c) := by
      show SpAt _ _ _ _ _ _ _
      rw [HK1.out, HV1.out, preK, preV, if_neg HE.out, if_neg HE.out]
      exact hsa
    have HTa : Hid (Touch w wa g 0 131) := HTw.out.trans hta
    clear hh hsa hta HSw HTw HTTw
    have HTTa : Hid (Tables wa) := hT.out.touch HTa.out hg
    have HPa : Hid (PL wa g v yss) := hp.out.touch HTa.out
    have HG : Hid (Calls Tryd.prog 26 #[.pointer (some ⟨g, 0, none⟩), .int .i64 (n : Nat)] wa fun e w' => Hid (∃ b, e = .returned (.slice (some ⟨b, 0, none⟩) n n) ∧ wa.heap.size ≤ b ∧ OutAt w' b n (drO dg K V ys) ∧ SpAt w' g dg K1 (drV0 dg K V ys n) L c ∧ Touch wa w' g 0 131)) := by
      have q := give2_ok g dg K1 V1 L c n wa k HSa HTTa hg hn
      rw [HK1.out, HV1.out] at q
      rw [HK1.out]
      exact q
    go_wp2_with (first | (go_at_call 25; refine (HJ.out _ HPw.out).mono ?_; rintro e5 w5 ⟨rfl, hw5⟩; obtain rfl := hw5.symm) | (go_at_call 26; refine HG.out.mono ?_))
    intro e3 w3 hh
    obtain ⟨b, rfl, hb3, hv3, hs3, ht3⟩ := hh.out
    have HT3 : Hid (Touch w w3 g 0 131) := HTa.out.trans ht3
    have HS3 : Hid (SpAt w3 g dg K1 (drV0 dg K V ys n) L c) := hs3
    have HV3 : Hid (OutAt w3 b n (drO dg K V ys) ∧ w.heap.size ≤ b) := ⟨hv3, Nat.le_trans HTa.out.size hb3⟩
    have HTT3 : Hid (Tables w3) := hT.out.touch HT3.out hg
    have HP3 : Hid (PL w3 g v yss) := hp.out.touch HT3.out
    clear hh hb3 hv3 hs3 ht3 HG HTTa HPa HSa HTa
    go_wp2_with (go_at_call 24; refine (HU.out _ _ _ HS3.out HTT3.out HP3.out).mono ?_)
    intro e4 w4 hh
    obtain ⟨rfl, hs4, ht4⟩ := hh.out
    have HS4 : Hid (SpAt w4 g dg (drK dg K V ys n) (drV dg K V ys n) L c) := by
      show SpAt _ _ _ _ _ _ _
      have q := hs4
      rw [HK1.out] at q
      exact q
    have HT4 : Hid (Touch w w4 g 0 131) := HT3.out.trans ht4
    have HV4 : Hid (OutAt w4 b n (drO dg K V ys)) := HV3.out.1.touch ht4 (by have := HV3.out.2; have := HGW.out; omega)
    have c3 : w4.cell? ⟨g, 130, none⟩ = some (.int .i64 c) := HS4.out.cnt
    have f3 : w4.frozen? ⟨g, 130, none⟩ = false := by have := (HS4.out.there 130 (by omega)).2; simpa using this
    have HF : Hid (OutAt (w4.setCell ⟨g, 130, none⟩ (.int .i64 (c + 1))) b n (drO dg K V ys) ∧ SpAt (w4.setCell ⟨g, 130, none⟩ (.int .i64 (c + 1))) g dg (drK dg K V ys n) (drV dg K V ys n) L (c + 1) ∧ Touch w (w4.setCell ⟨g, 130, none⟩ (.int .i64 (c + 1))) g 0 131) := by
      have t5 : Touch w4 (w4.setCell ⟨g, 130, none⟩ (.int .i64 (c + 1))) g 0 131 := (Touch.refl w4 g 0 131).setCell 130 _ (by omega) (by omega)
      exact ⟨HV4.out.touch t5 (by have := HV3.out.2; have := HGW.out; omega), HS4.out.setC (c + 1), HT4.out.trans t5⟩
    clear hh hs4 ht4 HS3 HT3 HTT3 HP3
    go_wp2
    go_ret2
    exact ⟨b, rfl, HV3.out.2, HF.out.1, HF.out.2.1, HF.out.2.2⟩
end Go.Proofs.YtkeklmkaleomkaaDoor
namespace Go.Proofs.YtkeklmkaleomkaaDoor
open Go.RowKit
set_option linter.unusedVariables false
set_option linter.unusedSimpArgs false
theorem pv2_alloc {u : World} (t : TypeId) (x y : Value) (E N : List Int) (hx : View u x E) (hy : View u y N) : PV (u.alloc (.cells #[x, y] t)) (.slice (some ⟨u.heap.size, 0, none⟩) 2 2) [x, y] [E, N] := by
  refine ⟨_, 2, rfl, by simp, by simp [maxLen], rfl, fun i v hv => ?_, .inr ⟨u.heap.size, 0, rfl, fun i v hv => ?_⟩⟩
  · have hi : i < 2 := by have := (List.getElem?_eq_some_iff.1 hv).1; simpa using this
    match i, hi with
    | 0, _ => cases hv; exact hx.kept (fun q hq => Below.heap_alloc u _ q hq)
    | 1, _ => cases hv; exact hy.kept (fun q hq => Below.heap_alloc u _ q hq)
  · exact rangeAt_new u #[x, y] t i v hv
/-- joined, with the answer as a slice. -/
def JnP (w w' : World) (e : Ending) (n : Nat) (ys : List Int) : Prop := ∃ ja jc, e = .returned (.slice ja n jc) ∧ w'.ownsRow w.heap.size 5 1 (.slice ja n jc) n (cellsU8 ys) ∧ Below w.heap.size w w'
theorem jn_ok (xa : Option Addr) (xn xc : Nat) (xs : List Value) (yss : List (List Int)) (w : World) (hP : PV w (.slice xa xn xc) xs yss) (hxn : xs.length = xn) (hl : yss.flatten.length ≤ 1048576) (hn : xn ≤ 1048576) :
    Calls Tryd.prog 30 #[.slice xa xn xc] w fun e w' => Hid (JnP w w' e yss.flatten.length yss.flatten) := by
  refine (rjoined_ok xa xn xc xs yss w hP hxn hl hn).mono ?_
  intro e w' hh
  obtain ⟨v', r1, r2, r3⟩ := hh.out
  obtain ⟨ja, jc, rfl⟩ := owns_slice0 r2
  exact ⟨ja, jc, r1, r2, r3⟩
set_option maxHeartbeats 800000 in
/-- cofferref06.Left. -/
theorem rleft_ok (g : Nat) (dg L c : Int) (ka va : Option Addr) (kc vc : Nat) (KL VL : List Int) (w : World) (hs : Hid (RSp w g dg L c ka kc va vc KL VL)) (h0 : 0 ≤ c) (h1 : c ≤ 16777216) (h2 : 0 ≤ L) (h3 : L ≤ 16777216) :
    Calls Tryd.prog 37 #[.pointer (some ⟨g, 0, none⟩)] w fun e w' => e = .returned (.int .i64 (L - c)) ∧ ∃ m, w' = w.drewN m := by
  have c1 := hs.out.c1
  have c2 := hs.out.c2
  go_enter Tryd.func37, Tryd.ntmps37
  go_upto_region 3 with fail
  go_quiet (fail)
  go_wp2
  go_ret
  exact ⟨rfl, _, rfl⟩
theorem rleft_nil (w : World) : Calls Tryd.prog 37 #[.pointer none] w fun e w' => e = .returned (.int .i64 0) ∧ w' = w := by
  go_enter Tryd.func37, Tryd.ntmps37
  go_wp2
  go_ret
  exact ⟨rfl, rfl⟩
def RFeedP (w w' : World) (e : Ending) (g : Nat) (dg : Int) (K V : Nat → Int) (L : Int) (ys : List Int) : Prop := ∃ ka' kc' va' vc', e = .returned (.int .i64 0) ∧ RSp w' g dg L 0 ka' kc' va' vc' (fL (updK dg K V ys) (szOf dg)) (fL (updV dg K V ys) (szOf dg)) ∧ Touch w w' g 0 5 ∧ New2 w ka' va'
set_option maxHeartbeats 3200000 in
set_option maxRecDepth 100000 in
/-- cofferref06.Feed, of what must be taken. -/
theorem rfeed_ok (g : Nat) (dg : Int) (K V : Nat → Int) (L c : Int) (ka va xa ea : Option Addr) (kc vc xn xc en ec : Nat) (E : List Int) (xs : List Value) (yss : List (List Int)) (w : World) (k : Hid (Known dg)) (hs : Hid (RSp w g dg L c ka kc va vc (fL K (szOf dg)) (fL V (szOf dg)))) (hR : Hid (RTab w)) (he : Hid (View w (.slice ea en ec) E)) (hel : Hid (E.length = en)) (hP : Hid (PV w (.slice xa xn xc) xs yss)) (hxn : Hid (xs.length = xn)) (hl : Hid (yss.flatten.length ≤ 65536)) (hxb : xn ≤ 1048576) (hg : 4 ≤ g) (he1 : 16 ≤ en) (he2 : en ≤ 65536) :
    Calls Tryd.prog 36 #[.pointer (some ⟨g, 0, none⟩), .slice ea en ec, .slice xa xn xc] w fun e w' => Hid (RFeedP w w' e g dg K V L (E ++ yss.flatten)) := by
  obtain ⟨N, HNN⟩ : ∃ N, Hid (N = yss.flatten.length) := ⟨_, rfl⟩
  obtain ⟨ys, HY⟩ : ∃ ys, Hid (ys = yss.flatten) := ⟨_, rfl⟩
  have hN : N ≤ 65536 := by rw [HNN.out]; exact hl.out
  have HYN : Hid (ys.length = N) := by rw [HY.out]; exact HNN.out.symm
  have HGW : Hid (g < w.heap.size) := hs.out.lt
  have H30 : Hid (Calls Tryd.prog 30 #[.slice xa xn xc] w fun e w' => Hid (JnP w w' e N ys)) := by
    rw [HNN.out, HY.out]
    exact jn_ok xa xn xc xs yss w hP.out hxn.out (by have := hl.out; omega) hxb
  have q5 : decide (((en : Nat) : Int) < 16) = false := by simp; omega
  have q6 : decide ((65536 : Int) < (en : Nat)) = false := by simp; omega
  have d2 : decide ((65536 : Int) < (N : Nat)) = false := by simp; omega
  rw [← HY.out]
  go_enter Tryd.func36, Tryd.ntmps36
  go_upto_region 2 with (go_at_call 30; refine H30.out.mono ?_; intro e1 w1 hh; obtain ⟨ja, jc, rfl, ho1, hb1⟩ := hh.out)
  have HJ1 : Hid (View w1 (.slice ja N jc) ys) := viewOwns ho1 HYN.out
  have HT1 : Hid (Touch w w1 g 0 5) := (Touch.refl w g 0 5).below hb1 HGW.out
  have HS1 : Hid (RSp w1 g dg L c ka kc va vc (fL K (szOf dg)) (fL V (szOf dg))) := hs.out.below hb1
  have HE1 : Hid (View w1 (.slice ea en ec) E) := he.out.kept fun q hq => hb1.block q hq
  clear hh ho1 hb1 H30
  obtain ⟨zs, HZ⟩ : ∃ zs, Hid (zs = E ++ ys) := ⟨_, rfl⟩
  obtain ⟨T, HTT⟩ : ∃ T, Hid (T = zs.length) := ⟨_, rfl⟩
  have hT : T ≤ 131072 := by rw [HTT.out, HZ.out, List.length_append, hel.out, HYN.out]; omega
  have H30b : Hid (∀ t, Calls Tryd.prog 30 #[.slice (some ⟨w1.heap.size, 0, none⟩) 2 2] (w1.alloc (.cells #[.slice ea en ec, .slice ja N jc] t)) fun e w' => Hid (JnP w1 w' e T zs)) := by
    intro t
    have q := jn_ok (some ⟨w1.heap.size, 0, none⟩) 2 2 _ [E, ys] _ (pv2_alloc t _ _ E ys HE1.out HJ1.out) rfl (by simp [hel.out, HYN.out]; omega) (by decide)
    have ef : ([E, ys] : List (List Int)).flatten = zs := by rw [HZ.out]; simp
    rw [ef, ← HTT.out] at q
    refine q.mono ?_
    intro e w' hh
    obtain ⟨ja2, jc2, r1, r2, r3⟩ := hh.out
    have ba := below_alloc1 w1 (.cells #[.slice ea en ec, .slice ja N jc] t)
    exact ⟨ja2, jc2, r1, owns_base r2 ba.size, ba.trans (r3.mono ba.size)⟩
  go_upto_region 9 with (go_at_call 30; refine (H30b.out _).mono ?_; intro e2 w2 hh; obtain ⟨ya, yc, rfl, ho2, hb2⟩ := hh.out)
  have HS2 : Hid (RSp w2 g dg L c ka kc va vc (fL K (szOf dg)) (fL V (szOf dg))) := HS1.out.below hb2
  have HT2 : Hid (Touch w w2 g 0 5) := HT1.out.trans ((Touch.refl w1 g 0 5).below hb2 HS1.out.lt)
  have HU : Hid (Calls Tryd.prog 31 #[.pointer (some ⟨g, 0, none⟩), .slice ya T yc] w2 fun e w' => Hid (e = .returned (.tuple #[]) ∧ RUpdP w2 w' g dg L c K V zs)) := by
    have q := rupdate_ok g dg L c ka va ya kc vc T yc (fL K (szOf dg)) (fL V (szOf dg)) zs w2 k HS2 (hR.out.touch HT2.out hg) (viewOwns ho2 HTT.out.symm) HTT.out.symm (by omega) hg (fun b off l c e => .inl (by injection e with e1 _ _; have := (ho2.lt b (by rw [e1]; rfl)).1; have := HS1.out.lt; omega))
    refine q.mono ?_
    intro e w' hh
    obtain ⟨r1, ka', kc', va', vc', r2, r3, r4⟩ := hh.out
    rw [upd_rst k.out] at r2
    exact ⟨r1, ka', kc', va', vc', r2, r3, r4⟩
  clear hh ho2 hb2 H30b HE1 HJ1
  go_upto_region 10 with (go_at_call 31; refine HU.out.mono ?_; intro e3 w3 hh; obtain ⟨rfl, ka3, kc3, va3, vc3, r2, r3, r4⟩ := hh.out)
  have c2 : w3.cell? ⟨g, 2, none⟩ = some (.int .i64 c) := r2.c2
  have f2 : w3.frozen? ⟨g, 2, none⟩ = false := by have := (r2.there 2 (by omega)).2; simpa using this
  have HF : Hid (RFeedP w (w3.setCell ⟨g, 2, none⟩ (.int .i64 0)) (.returned (.int .i64 0)) g dg K V L zs) := by
    have s2 := HT2.out.size
    exact ⟨ka3, kc3, va3, vc3, rfl, r2.setC 0, (HT2.out.trans r3).setCell 2 _ (by omega) (by omega), ⟨fun b off e => by have := r4.1 b off e; omega, fun b off e => by have := r4.2 b off e; omega⟩⟩
  clear hh r2 r3 r4 HU HS1 HS2
  go_wp2
  go_ret
  rw [← HZ.out]
  exact HF.out
end Go.Proofs.YtkeklmkaleomkaaDoor
namespace Go.Proofs.YtkeklmkaleomkaaDoor
open Go.RowKit
set_option linter.unusedVariables false
set_option linter.unusedSimpArgs false
theorem view_some {w : World} {a : Option Addr} {n c : Nat} {zs : List Int} (h : View w (.slice a n c) zs) (h0 : 0 < zs.length) : ∃ b o, a = some ⟨b, o, none⟩ := by
  obtain ⟨a', c', e, _, _, _, h4⟩ := h
  injection e with e1 _ _
  rcases h4 with rfl | ⟨b, o, e4, _⟩
  · simp at h0
  · exact ⟨b, o, by rw [e1, e4]⟩
theorem view_news {w : World} {b o n c : Nat} {zs : List Int} (h : View w (.slice (some ⟨b, o, none⟩) n c) zs) : ∀ j u, (cellsU8 zs)[j]? = some u → w.cell? ((⟨b, o, none⟩ : Addr).add j) = some u := by
  intro j u hu
  have hj : j < zs.length := by have := (List.getElem?_eq_some_iff.1 hu).1; rwa [cellsU8_length] at this
  obtain ⟨a', c', e, _, _, _, h4⟩ := h
  rcases h4 with rfl | ⟨b', o', e4, hc⟩
  · simp at hj
  · injection e with e1 _ _
    rw [e4] at e1
    injection e1 with e1
    injection e1 with e1 e2
    subst e1 e2
    rw [Addr.add_lit, hc j hj]
    have q := cellU8_at hj
    rw [hu] at q
    exact q.symm
/-- A new spring of the document's, without its slices. -/
structure RC0 (w u : World) (dg L c : Int) : Prop where
  c0 : u.cell? ⟨w.heap.size, 0, none⟩ = some (.int .i64 dg)
  c1 : u.cell? ⟨w.heap.size, 1, none⟩ = some (.int .i64 L)
  c2 : u.cell? ⟨w.heap.size, 2, none⟩ = some (.int .i64 c)
  c3 : u.cell? ⟨w.heap.size, 3, none⟩ = some (.slice none 0 0)
  c4 : u.cell? ⟨w.heap.size, 4, none⟩ = some (.slice none 0 0)
  there : u.there w.heap.size 0 5
  bel : Below w.heap.size w u
  size : u.heap.size = w.heap.size + 1
def RCopyP (w w' : World) (e : Ending) (dg L c : Int) (KL VL : List Int) : Prop := ∃ g ka kc va vc, e = .returned (.pointer (some ⟨g, 0, none⟩)) ∧ w.heap.size ≤ g ∧ RSp w' g dg L c ka kc va vc KL VL ∧ New2 w ka va ∧ Below w.heap.size w w'
/-- .. with its K. -/
structure RC1 (w u : World) (dg L c : Int) (gk sz ck : Nat) (KL : List Int) : Prop where
  c0 : u.cell? ⟨w.heap.size, 0, none⟩ = some (.int .i64 dg)
  c1 : u.cell? ⟨w.heap.size, 1, none⟩ = some (.int .i64 L)
  c2 : u.cell? ⟨w.heap.size, 2, none⟩ = some (.int .i64 c)
  c3 : u.cell? ⟨w.heap.size, 3, none⟩ = some (.slice (some ⟨gk, 0, none⟩) sz ck)
  c4 : u.cell? ⟨w.heap.size, 4, none⟩ = some (.slice none 0 0)
  there : u.there w.heap.size 0 5
  bel : Below w.heap.size w u
  size : w.heap.size + 1 ≤ u.heap.size
  vK : View u (.slice (some ⟨gk, 0, none⟩) sz ck) KL
  gK : w.heap.size < gk ∧ gk < u.heap.size
theorem set_cells {u : World} {n i : Nat} {v : Value} (j : Nat) (hj : j ≠ i) : (u.setCell ⟨n, i, none⟩ v).cell? ⟨n, j, none⟩ = u.cell? ⟨n, j, none⟩ := World.cell?_setCell_other _ _ _ _ (by intro q; injection q with _ q2; omega)
theorem rc1_of {w w1 w2 : World} {dg L c : Int} {gk sz ck : Nat} {KL : List Int} (h : RC0 w w1 dg L c) (ho : w2.ownsRow (w.heap.size + 1) 5 1 (.slice (some ⟨gk, 0, none⟩) sz ck) sz (cellsU8 KL)) (hl : KL.length = sz) (hg : w1.drew.grownBy w2 none) : RC1 w (w2.setCell ⟨w.heap.size, 3, none⟩ (.slice (some ⟨gk, 0, none⟩) sz ck)) dg L c gk sz ck KL := by
  have hn : w.heap.size < w1.heap.size := by rw [h.size]; exact Nat.lt_succ_self _
  have hb : w2.heap[w.heap.size]? = w1.heap[w.heap.size]? := hg.block w.heap.size hn (fun e => by cases e)
  have hc : ∀ j, w2.cell? ⟨w.heap.size, j, none⟩ = w1.cell? ⟨w.heap.size, j, none⟩ := fun j => World.cell?_of_block (a := ⟨w.heap.size, j, none⟩) hb
  have hf : ∀ j, w2.frozen? ⟨w.heap.size, j, none⟩ = w1.frozen? ⟨w.heap.size, j, none⟩ := fun j => World.frozen?_of_block (a := ⟨w.heap.size, j, none⟩) hb
  have ht : w2.there w.heap.size 0 5 := fun j hj => by rw [hc, hf]; exact h.there j hj
  have hlt := ho.lt gk rfl
  have hs : w1.heap.size ≤ w2.heap.size := hg.size
  have t : Touch w2 (w2.setCell ⟨w.heap.size, 3, none⟩ (.slice (some ⟨gk, 0, none⟩) sz ck)) w.heap.size 0 5 := (Touch.refl w2 w.heap.size 0 5).setCell 3 _ (by omega) (by omega)
  have b2 : Below w.heap.size w w2 := ⟨hg.os.trans h.bel.os, hg.tape.trans h.bel.tape, hg.output.trans h.bel.output, Nat.le_trans h.bel.size hs, fun q hq => (hg.block q (by show q < w1.heap.size; omega) (fun e => by cases e)).trans (h.bel.block q hq)⟩
  exact ⟨by rw [set_cells 0 (by omega), hc]; exact h.c0, by rw [set_cells 1 (by omega), hc]; exact h.c1, by rw [set_cells 2 (by omega), hc]; exact h.c2, World.cell?_setCell_same' _ _ _ (by rw [hc, h.c3]; rfl), by rw [set_cells 4 (by omega), hc]; exact h.c4, World.there_setCells ht w.heap.size 3 [.slice (some ⟨gk, 0, none⟩) sz ck], b2.setCell (p := ⟨w.heap.size, 3, none⟩) (Nat.le_refl _) _, by simp; omega, t.view (viewOwns ho hl) (fun b off l c' e => .inl (by injection e with e1 _ _; injection e1 with e1; injection e1 with e2 _; omega)), by simp; omega⟩
theorem rc2_of {w w3 w4 : World} {dg L c : Int} {gk sz ck gv cv : Nat} {KL VL : List Int} (h : RC1 w w3 dg L c gk sz ck KL) (ho : w4.ownsRow (w.heap.size + 1) 5 1 (.slice (some ⟨gv, 0, none⟩) sz cv) sz (cellsU8 VL)) (hk : KL.length = sz) (hl : VL.length = sz) (hz : sz = szOf dg) (h0 : 0 < sz) (hg : w3.drew.grownBy w4 none) : RCopyP w (w4.setCell ⟨w.heap.size, 4, none⟩ (.slice (some ⟨gv, 0, none⟩) sz cv)) (.returned (.pointer (some ⟨w.heap.size, 0, none⟩))) dg L c KL VL := by
  have hn : w.heap.size < w3.heap.size := h.size
  have hb : w4.heap[w.heap.size]? = w3.heap[w.heap.size]? := hg.block w.heap.size hn (fun e => by cases e)
  have hc : ∀ j, w4.cell? ⟨w.heap.size, j, none⟩ = w3.cell? ⟨w.heap.size, j, none⟩ := fun j => World.cell?_of_block (a := ⟨w.heap.size, j, none⟩) hb
  have hf : ∀ j, w4.frozen? ⟨w.heap.size, j, none⟩ = w3.frozen? ⟨w.heap.size, j, none⟩ := fun j => World.frozen?_of_block (a := ⟨w.heap.size, j, none⟩) hb
  have ht : w4.there w.heap.size 0 5 := fun j hj => by rw [hc, hf]; exact h.there j hj
  have hlt := ho.lt gv rfl
  have hs : w3.heap.size ≤ w4.heap.size := hg.size
  have t : Touch w4 (w4.setCell ⟨w.heap.size, 4, none⟩ (.slice (some ⟨gv, 0, none⟩) sz cv)) w.heap.size 0 5 := (Touch.refl w4 w.heap.size 0 5).setCell 4 _ (by omega) (by omega)
  have b4 : Below w.heap.size w w4 := ⟨hg.os.trans h.bel.os, hg.tape.trans h.bel.tape, hg.output.trans h.bel.output, Nat.le_trans h.bel.size hs, fun q hq => (hg.block q (by show q < w3.heap.size; omega) (fun e => by cases e)).trans (h.bel.block q hq)⟩
  have vK4 : View w4 (.slice (some ⟨gk, 0, none⟩) sz ck) KL := h.vK.blk' (fun b off e => by injection e with e; injection e with e _; subst e; exact hg.block _ h.gK.2 (fun e => by cases e))
  have hgk := h.gK
  refine ⟨w.heap.size, some ⟨gk, 0, none⟩, ck, some ⟨gv, 0, none⟩, cv, rfl, Nat.le_refl _, ?_, ⟨fun b off e => by injection e with e; injection e with e _; omega, fun b off e => by injection e with e; injection e with e _; omega⟩, b4.setCell (p := ⟨w.heap.size, 4, none⟩) (Nat.le_refl _) _⟩
  subst hz
  exact ⟨by rw [set_cells 0 (by omega), hc]; exact h.c0, by rw [set_cells 1 (by omega), hc]; exact h.c1, by rw [set_cells 2 (by omega), hc]; exact h.c2, by rw [set_cells 3 (by omega), hc]; exact h.c3, World.cell?_setCell_same' _ _ _ (by rw [hc, h.c4]; rfl), World.there_setCells ht w.heap.size 4 [.slice (some ⟨gv, 0, none⟩) (szOf dg) cv], t.view vK4 (fun b off l c' e => .inl (by injection e with e1 _ _; injection e1 with e1; injection e1 with e2 _; omega)), hk, t.view (viewOwns ho hl) (fun b off l c' e => .inl (by injection e with e1 _ _; injection e1 with e1; injection e1 with e2 _; omega)), hl, fun b off e => by injection e with e; injection e with e _; omega, fun b off e => by injection e with e; injection e with e _; omega⟩
set_option maxHeartbeats 3200000 in
set_option maxRecDepth 100000 in
theorem rcopy_ok (g : Nat) (dg L c : Int) (ka va : Option Addr) (kc vc : Nat) (KL VL : List Int) (w : World) (k : Hid (Known dg)) (hs : Hid (RSp w g dg L c ka kc va vc KL VL)) :
    Calls Tryd.prog 38 #[.pointer (some ⟨g, 0, none⟩)] w fun e w' => Hid (RCopyP w w' e dg L c KL VL) := by
  obtain ⟨sz, HSZ⟩ : ∃ n : Nat, Hid (n = szOf dg) := ⟨_, (show _ = _ from rfl)⟩
  have hsz : 1 ≤ sz ∧ sz ≤ 64 := by rw [HSZ.out]; exact szOf_pos k.out
  obtain ⟨i0, hi0, hz0, hz1, hz2⟩ := info_parts Tryd.info5
  have hS0 : w.cell? ⟨g, 0, none⟩ = some (.int .i64 dg) ∧ w.cell? ⟨g, 1, none⟩ = some (.int .i64 L) ∧ w.cell? ⟨g, 2, none⟩ = some (.int .i64 c) := ⟨hs.out.c0, hs.out.c1, hs.out.c2⟩
  go_enter Tryd.func38, Tryd.ntmps38
  go_upto_region 3 with fail
  go_region_held3 (fun u => u.cell? ⟨g, 0, none⟩ = some (.int .i64 dg) ∧ u.cell? ⟨g, 1, none⟩ = some (.int .i64 L) ∧ u.cell? ⟨g, 2, none⟩ = some (.int .i64 c)) (first | exact hS0 | go_keep) (fail)
  obtain ⟨b1, o1, hka⟩ : ∃ b o, ka = some ⟨b, o, none⟩ := view_some hs.out.vK (by rw [hs.out.lK, ← HSZ.out]; omega)
  obtain ⟨b2, o2, hva⟩ : ∃ b o, va = some ⟨b, o, none⟩ := view_some hs.out.vV (by rw [hs.out.lV, ← HSZ.out]; omega)
  subst hka hva
  have c3 : w.cell? ⟨g, 3, none⟩ = some (.slice (some ⟨b1, o1, none⟩) sz kc) := by rw [HSZ.out]; exact hs.out.c3
  have c4 : w.cell? ⟨g, 4, none⟩ = some (.slice (some ⟨b2, o2, none⟩) sz vc) := by rw [HSZ.out]; exact hs.out.c4
  have HR1 := rangeAt_new w #[.int .i64 dg, .int .i64 L, .int .i64 c, .slice none 0 0, .slice none 0 0] 73
  have HT1 := there_new w #[.int .i64 dg, .int .i64 L, .int .i64 c, .slice none 0 0, .slice none 0 0] 73 5 (Nat.le_refl _)
  have HBA := below_alloc1 w (.cells #[.int .i64 dg, .int .i64 L, .int .i64 c, .slice none 0 0, .slice none 0 0] 73)
  have HSA := size_alloc1 w (.cells #[.int .i64 dg, .int .i64 L, .int .i64 c, .slice none 0 0, .slice none 0 0] 73)
  have HW1 : Hid (RC0 w (w.alloc (.cells #[.int .i64 dg, .int .i64 L, .int .i64 c, .slice none 0 0, .slice none 0 0] 73)).drew dg L c) := ⟨HR1 0 _ rfl, HR1 1 _ rfl, HR1 2 _ rfl, HR1 3 _ rfl, HR1 4 _ rfl, HT1, ⟨HBA.os, HBA.tape, HBA.output, HBA.size, HBA.block⟩, HSA⟩
  clear HR1 HT1 HBA HSA
  generalize (w.alloc (.cells #[.int .i64 dg, .int .i64 L, .int .i64 c, .slice none 0 0, .slice none 0 0] 73)).drew = w1 at HW1 ⊢
  have hgl := hs.out.lt
  have d3 : w1.cell? ⟨w.heap.size, 3, none⟩ = some (.slice none 0 0) := HW1.out.c3
  have e3 : w1.cell? ⟨g, 3, none⟩ = some (.slice (some ⟨b1, o1, none⟩) sz kc) := by rw [World.cell?_of_block (a := ⟨g, 3, none⟩) (HW1.out.bel.block g hgl)]; exact c3
  have HKL : Hid (KL.length = sz) := by rw [HSZ.out]; exact hs.out.lK
  have HN1 : Hid (∀ j u, (cellsU8 KL)[j]? = some u → w1.cell? ((⟨b1, o1, none⟩ : Addr).add j) = some u) := view_news (hs.out.vK.kept fun q hq => HW1.out.bel.block q hq)
  go_upto_region 4 with fail
  go_region_law (refine step_append_lies _ rfl (.tmp 24) (.tmp 28) 22 rfl (w.heap.size + 1) 5 i0 (.int .u8 0) 1 1 Tryd.underlying22 hi0 hz0 hz1 hz2 rfl (by decide) (.slice none 0 0) 0 [] (by simp [Act.eval, Act.put]) (World.ownsRow_nil _ _ _ _) ⟨b1, o1, none⟩ sz kc (cellsU8 KL) (by simp [Act.eval, Act.put]) (by rw [cellsU8_length, HKL.out, Nat.mul_one]) HN1.out (cellsU8_one _) (by omega) (by unfold maxLen; omega) (by omega) (by show _ ≤ w1.heap.size; rw [HW1.out.size]; exact Nat.le_refl _) w1.heap.size rfl ?_; intro gk ck w2 hown2 hgrow2 hat2 hlt2; have p3 : w2.cell? ⟨w.heap.size, 3, none⟩ = some (.slice none 0 0) := (World.cell?_of_block (a := ⟨w.heap.size, 3, none⟩) (hgrow2.block w.heap.size (by show _ < w1.heap.size; rw [HW1.out.size]; exact Nat.lt_succ_self _) (fun h => by cases h))).trans d3; have z3 : w2.frozen? ⟨w.heap.size, 3, none⟩ = false := (by rw [World.frozen?_of_block (a := ⟨w.heap.size, 3, none⟩) (hgrow2.block w.heap.size (by show _ < w1.heap.size; rw [HW1.out.size]; exact Nat.lt_succ_self _) (fun h => by cases h))]; have := (HW1.out.there 3 (by omega)).2; simpa using this))
  all_goals
    have HW3 : Hid (RC1 w (w2.setCell ⟨w.heap.size, 3, none⟩ (.slice (some ⟨gk, 0, none⟩) sz ck)) dg L c gk sz ck KL) := rc1_of HW1.out (by simpa using hown2) HKL.out hgrow2
    generalize w2.setCell ⟨w.heap.size, 3, none⟩ (.slice (some ⟨gk, 0, none⟩) sz ck) = w3 at HW3 ⊢
    clear hown2 hgrow2 hat2 hlt2 p3 z3 d3 e3 HN1
    have d4 : w3.cell? ⟨w.heap.size, 4, none⟩ = some (.slice none 0 0) := HW3.out.c4
    have e4 : w3.cell? ⟨g, 4, none⟩ = some (.slice (some ⟨b2, o2, none⟩) sz vc) := by rw [World.cell?_of_block (a := ⟨g, 4, none⟩) (HW3.out.bel.block g hgl)]; exact c4
    have HVL : Hid (VL.length = sz) := by rw [HSZ.out]; exact hs.out.lV
    have HN3 : Hid (∀ j u, (cellsU8 VL)[j]? = some u → w3.cell? ((⟨b2, o2, none⟩ : Addr).add j) = some u) := view_news (hs.out.vV.kept fun q hq => HW3.out.bel.block q hq)
    go_upto_region 5 with fail
    go_region_law (refine step_append_lies _ rfl (.tmp 36) (.tmp 40) 22 rfl (w.heap.size + 1) 5 i0 (.int .u8 0) 1 1 Tryd.underlying22 hi0 hz0 hz1 hz2 rfl (by decide) (.slice none 0 0) 0 [] (by simp [Act.eval, Act.put]) (World.ownsRow_nil _ _ _ _) ⟨b2, o2, none⟩ sz vc (cellsU8 VL) (by simp [Act.eval, Act.put]) (by rw [cellsU8_length, HVL.out, Nat.mul_one]) HN3.out (cellsU8_one _) (by omega) (by unfold maxLen; omega) (by omega) (by show _ ≤ w3.heap.size; exact HW3.out.size) w3.heap.size rfl ?_; intro gv cv w4 hown4 hgrow4 hat4 hlt4; have p4 : w4.cell? ⟨w.heap.size, 4, none⟩ = some (.slice none 0 0) := (World.cell?_of_block (a := ⟨w.heap.size, 4, none⟩) (hgrow4.block w.heap.size (by show _ < w3.heap.size; exact HW3.out.size) (fun h => by cases h))).trans d4; have z4 : w4.frozen? ⟨w.heap.size, 4, none⟩ = false := (by rw [World.frozen?_of_block (a := ⟨w.heap.size, 4, none⟩) (hgrow4.block w.heap.size (by show _ < w3.heap.size; exact HW3.out.size) (fun h => by cases h))]; have := (HW3.out.there 4 (by omega)).2; simpa using this))
    all_goals
      have HF : Hid (RCopyP w (w4.setCell ⟨w.heap.size, 4, none⟩ (.slice (some ⟨gv, 0, none⟩) sz cv)) (.returned (.pointer (some ⟨w.heap.size, 0, none⟩))) dg L c KL VL) := rc2_of HW3.out (by simpa using hown4) HKL.out HVL.out HSZ.out (by omega) hgrow4
      generalize w4.setCell ⟨w.heap.size, 4, none⟩ (.slice (some ⟨gv, 0, none⟩) sz cv) = w5 at HF ⊢
      clear hown4 hgrow4 hat4 hlt4 p4 z4 d4 e4 HN3 HW3
      go_wp2
      go_ret
      exact HF.out
theorem rcopy_nil (w : World) : Calls Tryd.prog 38 #[.pointer none] w fun e w' => e = .returned (.pointer none) ∧ w' = w := by
  go_enter Tryd.func38, Tryd.ntmps38
  go_wp2
  go_ret
  exact ⟨rfl, rfl⟩
end Go.Proofs.YtkeklmkaleomkaaDoor
