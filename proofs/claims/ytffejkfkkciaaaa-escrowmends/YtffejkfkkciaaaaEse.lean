import Derived.Test.YtffejkfkkciaaaaEsd
import Derived.Test.YtffejkfkkciaaaaGt
namespace Go.Proofs.Ytffejkfkkciaaaa
open Go.RowKit
set_option linter.unusedVariables false
set_option linter.unusedSimpArgs false
/-- The sums of two places, by the first two. -/
def s2 (x y f s : F) : Nat → F
  | 0 => f
  | 1 => s
  | j + 2 => fa (fm (fa x y) (s2 x y f s (j + 1))) (fm (fm x y) (s2 x y f s j))
theorem Cu.two (g : Nat → F) (f s : F) (hf : g 0 = f) (hs : g 1 = s) : Cu 4 2 g [.int .u8 (f.1 : Nat), .int .u8 (s.1 : Nat), .int .u8 0, .int .u8 0] := by
  subst hf hs
  refine ⟨rfl, fun i hi => ?_, fun i hi => ?_⟩
  · match i, hi with
    | 0, _ => rfl
    | 1, _ => rfl
  · match i, hi with
    | 0, _ => exact ⟨_, rfl⟩
    | 1, _ => exact ⟨_, rfl⟩
    | 2, _ => exact ⟨_, rfl⟩
    | 3, _ => exact ⟨_, rfl⟩
theorem map4 (g : Nat → F) : (List.range 4).map g = [g 0, g 1, g 2, g 3] := rfl
set_option maxHeartbeats 1600000 in
set_option maxRecDepth 100000 in
theorem s2_ok (x y f s : F) (w : World) : Calls Try.prog 43 #[.int .u8 (x.1 : Nat), .int .u8 (y.1 : Nat), .int .u8 (f.1 : Nat), .int .u8 (s.1 : Nat)] w fun e w' => Hid (e = .returned (.agg (fc ((List.range 4).map (s2 x y f s))).toArray) ∧ Below w.heap.size w w') := by
  obtain ⟨M, HMM⟩ : ∃ M, Hid (w.heap.size = M) := ⟨_, rfl⟩
  obtain ⟨w1, hw1⟩ : ∃ w1, w1 = (w.alloc (.cells #[.int .u8 0, .int .u8 0, .int .u8 0, .int .u8 0] 77)).alloc (.cells #[.int .u8 0, .int .u8 0, .int .u8 0, .int .u8 0] 77) := ⟨_, rfl⟩
  have HB1 : Hid (Bx w1 M 77 (List.replicate 4 (.int .u8 0)) ∧ Bx w1 (M + 1) 77 (List.replicate 4 (.int .u8 0)) ∧ Below M w w1) := by
    have hbl : Below w.heap.size w w1 := by rw [hw1]; exact ((Below.refl _ _).alloc (Nat.le_refl _) _).alloc (by simp) _
    rw [← HMM.out]
    refine ⟨?_, ?_, hbl⟩
    · rw [hw1]; exact (Bx.new w 77 _).below ((Below.refl _ _).alloc (Nat.le_refl _) _)
    · rw [hw1]; have q := Bx.new (w.alloc (.cells #[.int .u8 0, .int .u8 0, .int .u8 0, .int .u8 0] 77)) 77 (List.replicate 4 (.int .u8 0)); simpa using q
  obtain ⟨pr, HPR⟩ : ∃ a, Hid (fm x y = a) := ⟨_, rfl⟩
  have H53 : Hid (∀ u, Calls Try.prog 53 #[.int .u8 (x.1 : Nat), .int .u8 (y.1 : Nat)] u fun e w' => e = .returned (.int .u8 (pr.1 : Nat)) ∧ w' = u) := fun u => by rw [← HPR.out]; exact timesF x y u
  have HXY : Hid (bits .xor .u8 ((x.1 : Nat) : Int) ((y.1 : Nat) : Int) = (((fa x y).1 : Nat) : Int)) := xorF x y
  obtain ⟨xy, HXYN⟩ : ∃ a, Hid (fa x y = a) := ⟨_, rfl⟩
  rw [HXYN.out] at HXY
  obtain ⟨x1, HX1⟩ : ∃ a, Hid (x.1 = a) := ⟨_, rfl⟩
  obtain ⟨y1, HY1⟩ : ∃ a, Hid (y.1 = a) := ⟨_, rfl⟩
  obtain ⟨f1, HF1⟩ : ∃ a, Hid (f.1 = a) := ⟨_, rfl⟩
  obtain ⟨s1, HS1⟩ : ∃ a, Hid (s.1 = a) := ⟨_, rfl⟩
  rw [HX1.out, HY1.out] at HXY H53 ⊢
  rw [HF1.out, HS1.out]
  have hi0 : (Try.prog.info? 77).map (·.size) = some [Value.int .u8 (f1 : Nat), .int .u8 (s1 : Nat), .int .u8 0, .int .u8 0].length := by kernel_rfl
  have hone : ∀ v ∈ [Value.int .u8 (f1 : Nat), .int .u8 (s1 : Nat), .int .u8 0, .int .u8 0], v.oneCell' = true := by intro v hv; simp at hv; rcases hv with rfl | rfl | rfl | rfl <;> rfl
  go_enter Try.func43, Try.ntmps43
  go_upto_region 2 with (first
    | (rw [show (w.alloc (.cells _ 77)).alloc (.cells _ 77) = w1 from hw1.symm, HMM.out]; refine wpList_store_bx (by rfl) 77 (.tmp 9) (.tmp 14) (by rfl) (List.replicate 4 (.int .u8 0)) [.int .u8 (f1 : Nat), .int .u8 (s1 : Nat), .int .u8 0, .int .u8 0] (M + 1) (by rfl) (by rfl) HB1.out.2.1 rfl hi0 hone ?_; intro w2 hb2 hg2; have HB2 : Hid (Bx w2 (M + 1) 77 [.int .u8 (f1 : Nat), .int .u8 (s1 : Nat), .int .u8 0, .int .u8 0] ∧ w1.grownBy w2 (some (M + 1))) := ⟨hb2, hg2⟩; clear hb2 hg2))
  go_upto_region 3 with (first
    | (go_at_call 53; refine (H53.out _).mono ?_; rintro e3 w3 ⟨rfl, hw⟩; obtain rfl := hw.symm; clear hw H53))
  have HI0 : Hid ((∃ cu, Bx w2 (M + 1) 77 cu ∧ Cu 4 2 (s2 x y f s) cu) ∧ Bx w2 M 77 (List.replicate 4 (.int .u8 0)) ∧ Below M w w2) := by
    obtain ⟨h1, h2, h3⟩ := HB1.out
    obtain ⟨g1, g2⟩ := HB2.out
    refine ⟨⟨_, g1, by rw [← HF1.out, ← HS1.out]; exact Cu.two _ f s rfl rfl⟩, h1.keep (g2.block M h1.lt (fun e => by injection e with e; omega)), h3.trans (below_gb g2 (by have := h2.lt; omega) (by omega))⟩
  clear HB1 HB2
  go_wp2
  go_loopw [11] (fun vi wr => ∃ j : Nat, 2 ≤ j ∧ j ≤ 4 ∧ vi = .int .i64 (j : Nat) ∧ Hid ((∃ cu, Bx wr (M + 1) 77 cu ∧ Cu 4 j (s2 x y f s) cu) ∧ Bx wr M 77 (List.replicate 4 (.int .u8 0)) ∧ Below M w wr)) (fun vi _ => 4 - (intOf vi).toNat)
  case atStart => exact ⟨2, by omega, by omega, rfl, HI0.out⟩
  case round =>
    obtain ⟨j, hj2, hj, rfl, HI⟩ := hrel
    clear HI0
    by_cases hlt : j < 4
    · obtain ⟨q, HJQ⟩ : ∃ q, Hid (j = q + 2) := ⟨j - 2, (by show j = j - 2 + 2; omega)⟩
      have ejq := HJQ.out
      obtain ⟨k, HKQ⟩ : ∃ k, Hid (k = q + 1) := ⟨q + 1, rfl⟩
      have ekq := HKQ.out
      have HQ : Hid (q < 2) := by show q < 2; omega
      have g1 : (j : Int) < 4 := by omega
      have n1 : IntKind.i64.wrap ((j : Int) - 1) = (k : Int) := by rw [IntKind.wrap_i64]; omega
      have n2 : IntKind.i64.wrap ((j : Int) - 2) = (q : Int) := by rw [IntKind.wrap_i64]; omega
      have g2 : (k : Int) < 4 := by omega
      have g3 : (q : Int) < 4 := by omega
      have g4 : (0 : Int) ≤ (q : Int) := by omega
      have g5 : (0 : Int) ≤ (k : Int) := by omega
      have g6 : (0 : Int) ≤ (j : Int) := by omega
      obtain ⟨a1, HA1⟩ : ∃ a, Hid (s2 x y f s k = a) := ⟨_, rfl⟩
      obtain ⟨a0, HA0⟩ : ∃ a, Hid (s2 x y f s q = a) := ⟨_, rfl⟩
      obtain ⟨r1, HR1⟩ : ∃ a, Hid (fm xy a1 = a) := ⟨_, rfl⟩
      obtain ⟨r0, HR0⟩ : ∃ a, Hid (fm pr a0 = a) := ⟨_, rfl⟩
      obtain ⟨cu, hcu, hC⟩ := HI.out.1
      obtain ⟨v0, hv0⟩ := hC.2.2 j hlt
      have c2 : wr.cell? ⟨M + 1, j, none⟩ = some (.int .u8 v0) := hcu.cell _ _ hv0
      have c1 : wr.cell? ⟨M + 1, k, none⟩ = some (.int .u8 (a1.1 : Nat)) := by rw [← HA1.out]; exact hcu.cell _ _ (hC.2.1 _ (by omega))
      have c0 : wr.cell? ⟨M + 1, q, none⟩ = some (.int .u8 (a0.1 : Nat)) := by rw [← HA0.out]; exact hcu.cell _ _ (hC.2.1 _ (by omega))
      have f0 : wr.frozen? ⟨M + 1, j, none⟩ = false := hcu.frozen _
      have H1 : Hid (∀ u, Calls Try.prog 53 #[.int .u8 (xy.1 : Nat), .int .u8 (a1.1 : Nat)] u fun e w' => e = .returned (.int .u8 (r1.1 : Nat)) ∧ w' = u) := fun u => by rw [← HR1.out]; exact timesF xy a1 u
      have H2 : Hid (∀ u, Calls Try.prog 53 #[.int .u8 (pr.1 : Nat), .int .u8 (a0.1 : Nat)] u fun e w' => e = .returned (.int .u8 (r0.1 : Nat)) ∧ w' = u) := fun u => by rw [← HR0.out]; exact timesF pr a0 u
      obtain ⟨sn, HSN⟩ : ∃ a, Hid (s2 x y f s j = a) := ⟨_, rfl⟩
      have HXR : Hid (bits .xor .u8 ((r1.1 : Nat) : Int) ((r0.1 : Nat) : Int) = ((sn.1 : Nat) : Int)) := by
        show _ = _
        rw [xorF, ← HSN.out, HJQ.out, s2, ← HKQ.out, HA1.out, HA0.out, HXYN.out, HPR.out, HR1.out, HR0.out]
      have HNX : Hid ((∃ cu, Bx (wr.setCell ⟨M + 1, j, none⟩ (.int .u8 (sn.1 : Nat))).drew (M + 1) 77 cu ∧ Cu 4 (j + 1) (s2 x y f s) cu) ∧ Bx (wr.setCell ⟨M + 1, j, none⟩ (.int .u8 (sn.1 : Nat))).drew M 77 (List.replicate 4 (.int .u8 0)) ∧ Below M w (wr.setCell ⟨M + 1, j, none⟩ (.int .u8 (sn.1 : Nat))).drew) := by
        have hg := set_gb wr (M + 1) j (.int .u8 (sn.1 : Nat))
        obtain ⟨_, h1, h2⟩ := HI.out
        exact ⟨⟨_, hcu.set _ _, by rw [← HSN.out]; exact hC.next hlt⟩, h1.keep (hg.block M h1.lt (fun e => by injection e with e; omega)), (h2.setCell (by show M ≤ M + 1; omega) _).drew⟩
      have hxr := HXR.out
      have hxy := HXY.out
      generalize sn.1 = sn1 at hxr HNX
      generalize r1.1 = r11 at hxr H1
      generalize r0.1 = r01 at hxr H2
      generalize a1.1 = a11 at c1 H1
      generalize a0.1 = a01 at c0 H2
      generalize xy.1 = xy1 at hxy H1
      have hS0 : wr.drew.cell? ⟨M + 1, j, none⟩ = some (.int .u8 v0) ∧ wr.drew.cell? ⟨M + 1, k, none⟩ = some (.int .u8 (a11 : Nat)) ∧ wr.drew.cell? ⟨M + 1, q, none⟩ = some (.int .u8 (a01 : Nat)) := ⟨c2, c1, c0⟩
      clear hlt hj hj2 ejq ekq hcu hC hv0 c0 c1 c2 HXR HI
      go_upto_region 6 with fail
      refine wp_region_noPanic ?_
      refine wp_region_till (fun u => u.cell? ⟨M + 1, j, none⟩ = some (.int .u8 v0) ∧ u.cell? ⟨M + 1, k, none⟩ = some (.int .u8 (a11 : Nat)) ∧ u.cell? ⟨M + 1, q, none⟩ = some (.int .u8 (a01 : Nat))) 17 (by kernel_rfl) (by decide) (by decide +kernel) (by decide +kernel) (by decide +kernel) (fun inv => ?_)
      refine till_at 0 22 (.int .i64 (j : Nat)) inv rfl rfl (by decide) (by decide +kernel) (by decide +kernel) (fun _ _ _ h => h) hS0 (Or.inl ⟨by rfl, fun w' hS' => by obtain ⟨k1, k2, k3⟩ := hS'; go_simp⟩) (fun inv' => ?_)
      clear inv; have inv := inv'; clear inv'
      try simp only [List.setIfInBounds_toArray, List.set_cons_zero, List.set_cons_succ]
      refine till_at 1 23 (.int .u8 (x1 : Nat)) inv rfl rfl (by decide) (by decide +kernel) (by decide +kernel) (fun _ _ _ h => h) hS0 (Or.inl ⟨by rfl, fun w' hS' => by obtain ⟨k1, k2, k3⟩ := hS'; go_simp⟩) (fun inv' => ?_)
      clear inv; have inv := inv'; clear inv'
      try simp only [List.setIfInBounds_toArray, List.set_cons_zero, List.set_cons_succ]
      refine till_at 2 24 (.int .u8 (y1 : Nat)) inv rfl rfl (by decide) (by decide +kernel) (by decide +kernel) (fun _ _ _ h => h) hS0 (Or.inl ⟨by rfl, fun w' hS' => by obtain ⟨k1, k2, k3⟩ := hS'; go_simp⟩) (fun inv' => ?_)
      clear inv; have inv := inv'; clear inv'
      try simp only [List.setIfInBounds_toArray, List.set_cons_zero, List.set_cons_succ]
      refine till_at 3 25 (.int .u8 (xy1 : Nat)) inv rfl rfl (by decide) (by decide +kernel) (by decide +kernel) (fun _ _ _ h => h) hS0 (Or.inl ⟨by rfl, fun w' hS' => by obtain ⟨k1, k2, k3⟩ := hS'; go_simp⟩) (fun inv' => ?_)
      clear inv; have inv := inv'; clear inv'
      try simp only [List.setIfInBounds_toArray, List.set_cons_zero, List.set_cons_succ]
      refine till_at 4 26 (.int .i64 (j : Nat)) inv rfl rfl (by decide) (by decide +kernel) (by decide +kernel) (fun _ _ _ h => h) hS0 (Or.inl ⟨by rfl, fun w' hS' => by obtain ⟨k1, k2, k3⟩ := hS'; go_simp⟩) (fun inv' => ?_)
      clear inv; have inv := inv'; clear inv'
      try simp only [List.setIfInBounds_toArray, List.set_cons_zero, List.set_cons_succ]
      refine till_at 5 27 (.int .i64 (k : Nat)) inv rfl rfl (by decide) (by decide +kernel) (by decide +kernel) (fun _ _ _ h => h) hS0 (Or.inl ⟨by rfl, fun w' hS' => by obtain ⟨k1, k2, k3⟩ := hS'; go_simp⟩) (fun inv' => ?_)
      clear inv; have inv := inv'; clear inv'
      try simp only [List.setIfInBounds_toArray, List.set_cons_zero, List.set_cons_succ]
      refine till_at 6 28 (.pointer (some ⟨M + 1, k, none⟩)) inv rfl rfl (by decide) (by decide +kernel) (by decide +kernel) (fun _ _ _ h => h) hS0 (Or.inl ⟨by rfl, fun w' hS' => by obtain ⟨k1, k2, k3⟩ := hS'; go_simp⟩) (fun inv' => ?_)
      clear inv; have inv := inv'; clear inv'
      try simp only [List.setIfInBounds_toArray, List.set_cons_zero, List.set_cons_succ]
      refine till_at 7 29 (.int .u8 (a11 : Nat)) inv rfl rfl (by decide) (by decide +kernel) (by decide +kernel) (fun _ _ _ h => h) hS0 (Or.inl ⟨by rfl, fun w' hS' => by obtain ⟨k1, k2, k3⟩ := hS'; go_simp⟩) (fun inv' => ?_)
      clear inv; have inv := inv'; clear inv'
      try simp only [List.setIfInBounds_toArray, List.set_cons_zero, List.set_cons_succ]
      refine till_at 9 31 (.int .u8 (pr.1 : Nat)) inv rfl rfl (by decide) (by decide +kernel) (by decide +kernel) (fun _ _ _ h => h) hS0 (Or.inl ⟨by rfl, fun w' hS' => by obtain ⟨k1, k2, k3⟩ := hS'; go_simp⟩) (fun inv' => ?_)
      clear inv; have inv := inv'; clear inv'
      try simp only [List.setIfInBounds_toArray, List.set_cons_zero, List.set_cons_succ]
      refine till_at 10 32 (.int .i64 (j : Nat)) inv rfl rfl (by decide) (by decide +kernel) (by decide +kernel) (fun _ _ _ h => h) hS0 (Or.inl ⟨by rfl, fun w' hS' => by obtain ⟨k1, k2, k3⟩ := hS'; go_simp⟩) (fun inv' => ?_)
      clear inv; have inv := inv'; clear inv'
      try simp only [List.setIfInBounds_toArray, List.set_cons_zero, List.set_cons_succ]
      refine till_at 11 33 (.int .i64 (q : Nat)) inv rfl rfl (by decide) (by decide +kernel) (by decide +kernel) (fun _ _ _ h => h) hS0 (Or.inl ⟨by rfl, fun w' hS' => by obtain ⟨k1, k2, k3⟩ := hS'; go_simp⟩) (fun inv' => ?_)
      clear inv; have inv := inv'; clear inv'
      try simp only [List.setIfInBounds_toArray, List.set_cons_zero, List.set_cons_succ]
      refine till_at 12 34 (.pointer (some ⟨M + 1, q, none⟩)) inv rfl rfl (by decide) (by decide +kernel) (by decide +kernel) (fun _ _ _ h => h) hS0 (Or.inl ⟨by rfl, fun w' hS' => by obtain ⟨k1, k2, k3⟩ := hS'; go_simp⟩) (fun inv' => ?_)
      clear inv; have inv := inv'; clear inv'
      try simp only [List.setIfInBounds_toArray, List.set_cons_zero, List.set_cons_succ]
      refine till_at 13 35 (.int .u8 (a01 : Nat)) inv rfl rfl (by decide) (by decide +kernel) (by decide +kernel) (fun _ _ _ h => h) hS0 (Or.inl ⟨by rfl, fun w' hS' => by obtain ⟨k1, k2, k3⟩ := hS'; go_simp⟩) (fun inv' => ?_)
      clear inv; have inv := inv'; clear inv'
      try simp only [List.setIfInBounds_toArray, List.set_cons_zero, List.set_cons_succ]
      refine till_head (i := 8) inv (by decide +kernel) (by decide) rfl (fun KK hK => ?_)
      go_simp
      refine (H1.out _).mono ?_
      rintro e5 w5 ⟨rfl, hw⟩
      obtain rfl := hw.symm
      clear hw
      go_wp2_with fail
      refine hK.out _ _ (hS0) (fun inv' => ?_)
      clear hK KK inv; have inv := inv'; clear inv'
      try simp only [List.setIfInBounds_toArray, List.set_cons_zero, List.set_cons_succ]
      refine till_head (i := 14) inv (by decide +kernel) (by decide) rfl (fun KK hK => ?_)
      go_simp
      refine (H2.out _).mono ?_
      rintro e5 w5 ⟨rfl, hw⟩
      obtain rfl := hw.symm
      clear hw
      go_wp2_with fail
      refine hK.out _ _ (hS0) (fun inv' => ?_)
      clear hK KK inv; have inv := inv'; clear inv'
      try simp only [List.setIfInBounds_toArray, List.set_cons_zero, List.set_cons_succ]
      refine till_at 15 37 (.int .u8 (sn1 : Nat)) inv rfl rfl (by decide) (by decide +kernel) (by decide +kernel) (fun _ _ _ h => h) hS0 (Or.inl ⟨by rfl, fun w' hS' => by obtain ⟨k1, k2, k3⟩ := hS'; go_simp⟩) (fun inv' => ?_)
      clear inv; have inv := inv'; clear inv'
      try simp only [List.setIfInBounds_toArray, List.set_cons_zero, List.set_cons_succ]
      refine till_at 16 38 (.pointer (some ⟨M + 1, j, none⟩)) inv rfl rfl (by decide) (by decide +kernel) (by decide +kernel) (fun _ _ _ h => h) hS0 (Or.inl ⟨by rfl, fun w' hS' => by obtain ⟨k1, k2, k3⟩ := hS'; go_simp⟩) (fun inv' => ?_)
      clear inv; have inv := inv'; clear inv'
      try simp only [List.setIfInBounds_toArray, List.set_cons_zero, List.set_cons_succ]
      refine till_tail (i := 17) (by decide +kernel) (by decide) rfl (fun KK hK => ?_)
      rw [if_pos (by rfl)]
      go_simp
      refine hK.out _ _ ?_
      clear hK KK
      try simp only [List.setIfInBounds_toArray, List.set_cons_zero, List.set_cons_succ]
      refine till_done (by decide +kernel) ?_ _
      refine NoPanic.normal ?_
      go_wp2
      refine ⟨⟨j + 1, by have := HJQ.out; omega, by have := HJQ.out; have := HQ.out; omega, by first | rfl | (simp; done), HNX.out⟩, ?_⟩
      have := HQ.out
      have := HJQ.out
      simp [intOf]
      omega
    · obtain rfl : j = 4 := by omega
      obtain ⟨⟨cu, hcu, hC⟩, h1, h5⟩ := HI.out
      have HC : Hid (Bx wr (M + 1) 77 (fc ((List.range 4).map (s2 x y f s))) ∧ Bx wr M 77 (List.replicate 4 (.int .u8 0)) ∧ Below M w wr) := by rw [← hC.all]; exact ⟨hcu, h1, h5⟩
      have HLN : Hid ((fc ((List.range 4).map (s2 x y f s))).length = 4 ∧ ∀ v ∈ fc ((List.range 4).map (s2 x y f s)), v.oneCell' = true) := ⟨by rw [fc_len]; rfl, fc_one _⟩
      have hi7 : (Try.prog.info? 77).map (·.size) = some (fc ((List.range 4).map (s2 x y f s))).length := by rw [HLN.out.1]; kernel_rfl
      obtain ⟨R, HR⟩ : ∃ R, Hid (fc ((List.range 4).map (s2 x y f s)) = R) := ⟨_, rfl⟩
      rw [HR.out] at HC HLN hi7
      clear hcu hC h1 h5 HI
      have g2 : ¬ ((4 : Nat) : Int) < 4 := by decide
      go_wp2_with (first
        | (refine wpList_load_mid (by rfl) 77 (.tmp 9) (by rfl) (M + 1) 0 (by rfl) R _ HC.out.1.range Try.underlying77 rfl hi7 ?_)
        | (refine wpList_store_bx (by rfl) 77 (.tmp 8) (.tmp 39) (by rfl) (List.replicate 4 (.int .u8 0)) R M (by rfl) (by rfl) HC.out.2.1 (by rw [HLN.out.1]; rfl) hi7 HLN.out.2 ?_; intro u9 hb9 hg9))
      refine ret_array (b := M) R rfl rfl hb9.range Try.underlying77 rfl hi7 ⟨by rw [← HR.out, map4], ?_⟩
      have hf : Below M w u9 := HC.out.2.2.trans (below_gb hg9 (by have := HC.out.2.1.lt; omega) (Nat.le_refl _))
      first | exact hf | (rw [HMM.out]; exact hf)
/-- The two bytes. -/
def wA (x y f0 f1 : F) : F := fm (fa (fm f0 y) f1) (invF (fa x y))
set_option maxHeartbeats 1600000 in
set_option maxRecDepth 100000 in
theorem wrong_ok (x y : F) (l : List F) (hl : l.length = 4) (w : World) : Calls Try.prog 44 #[.int .u8 (x.1 : Nat), .int .u8 (y.1 : Nat), .agg (fc l).toArray] w fun e w' => Hid (e = .returned (.tuple #[.int .u8 ((wA x y (l.getD 0 0) (l.getD 1 0)).1 : Nat), .int .u8 ((fa (l.getD 0 0) (wA x y (l.getD 0 0) (l.getD 1 0))).1 : Nat)]) ∧ Below w.heap.size w w') := by
  obtain ⟨M, HMM⟩ : ∃ M, Hid (w.heap.size = M) := ⟨_, rfl⟩
  obtain ⟨f0, HF0⟩ : ∃ a, Hid (l.getD 0 0 = a) := ⟨_, rfl⟩
  obtain ⟨f1, HF1⟩ : ∃ a, Hid (l.getD 1 0 = a) := ⟨_, rfl⟩
  obtain ⟨L, HL⟩ : ∃ a, Hid ((fc l) = a) := ⟨_, rfl⟩
  obtain ⟨w1, hw1⟩ : ∃ w1, w1 = w.alloc (.cells L.toArray 77) := ⟨_, rfl⟩
  have HB1 : Hid (Bx w1 M 77 L ∧ Below M w w1) := by
    rw [hw1, ← HMM.out]
    exact ⟨Bx.new w 77 _, (Below.refl _ _).alloc (Nat.le_refl _) _⟩
  have c0 : w1.drew.cell? ⟨M, 0, none⟩ = some (.int .u8 (f0.1 : Nat)) := by rw [← HF0.out]; refine HB1.out.1.cell 0 _ ?_; rw [← HL.out]; exact fc_at l 0 (by omega)
  have c1 : w1.drew.cell? ⟨M, 1, none⟩ = some (.int .u8 (f1.1 : Nat)) := by rw [← HF1.out]; refine HB1.out.1.cell 1 _ ?_; rw [← HL.out]; exact fc_at l 1 (by omega)
  obtain ⟨r1, HR1⟩ : ∃ a, Hid (fm f0 y = a) := ⟨_, rfl⟩
  obtain ⟨r2, HR2⟩ : ∃ a, Hid (fa r1 f1 = a) := ⟨_, rfl⟩
  obtain ⟨xy, HXY⟩ : ∃ a, Hid (fa x y = a) := ⟨_, rfl⟩
  obtain ⟨iv, HIV⟩ : ∃ a, Hid (invF xy = a) := ⟨_, rfl⟩
  obtain ⟨a, HA⟩ : ∃ a, Hid (fm r2 iv = a) := ⟨_, rfl⟩
  obtain ⟨b, HB⟩ : ∃ b, Hid (fa f0 a = b) := ⟨_, rfl⟩
  have HW : Hid (wA x y f0 f1 = a) := by show _ = _; rw [wA, HR1.out, HR2.out, HXY.out, HIV.out, HA.out]
  have H1 : Hid (∀ u, Calls Try.prog 53 #[.int .u8 (f0.1 : Nat), .int .u8 (y.1 : Nat)] u fun e w' => e = .returned (.int .u8 (r1.1 : Nat)) ∧ w' = u) := fun u => by rw [← HR1.out]; exact timesF f0 y u
  have H2 : Hid (∀ u, Calls Try.prog 54 #[.int .u8 (xy.1 : Nat)] u fun e w' => e = .returned (.int .u8 (iv.1 : Nat)) ∧ w' = u) := fun u => by rw [← HIV.out]; exact inverse_ok xy u
  have H3 : Hid (∀ u, Calls Try.prog 53 #[.int .u8 (r2.1 : Nat), .int .u8 (iv.1 : Nat)] u fun e w' => e = .returned (.int .u8 (a.1 : Nat)) ∧ w' = u) := fun u => by rw [← HA.out]; exact timesF r2 iv u
  have hx1 : bits .xor .u8 ((r1.1 : Nat) : Int) ((f1.1 : Nat) : Int) = ((r2.1 : Nat) : Int) := by rw [xorF, HR2.out]
  have hx2 : bits .xor .u8 ((x.1 : Nat) : Int) ((y.1 : Nat) : Int) = ((xy.1 : Nat) : Int) := by rw [xorF, HXY.out]
  have hx3 : bits .xor .u8 ((f0.1 : Nat) : Int) ((a.1 : Nat) : Int) = ((b.1 : Nat) : Int) := by rw [xorF, HB.out]
  have hi0 : (Try.prog.info? 77).map (·.size) = some L.length := by rw [← HL.out, fc_len, hl]; kernel_rfl
  have hone : ∀ v ∈ L, v.oneCell' = true := by rw [← HL.out]; exact fc_one l
  rw [HF0.out, HF1.out, HW.out, HB.out, HL.out]
  generalize x.1 = x1 at hx2 ⊢
  generalize y.1 = y1 at hx2 H1 ⊢
  generalize xy.1 = xy1 at hx2 H2
  generalize r2.1 = r21 at hx1 H3
  generalize r1.1 = r11 at hx1 H1
  generalize f1.1 = f11 at hx1 c1
  generalize f0.1 = f01 at hx3 H1 c0
  generalize iv.1 = iv1 at H2 H3
  generalize a.1 = a1 at hx3 H3 ⊢
  generalize b.1 = b1 at hx3 ⊢
  have hS0 : w1.drew.cell? ⟨M, 0, none⟩ = some (.int .u8 (f01 : Nat)) ∧ w1.drew.cell? ⟨M, 1, none⟩ = some (.int .u8 (f11 : Nat)) := ⟨c0, c1⟩
  clear c0 c1 HF0 HF1 HR1 HR2 HXY HIV HA HB HW HL hl
  go_enter Try.func44, Try.ntmps44
  go_upto_region 1 with fail
  rw [← hw1, HMM.out]
  clear hw1 hi0 hone
  refine wp_region_noPanic ?_
  refine wp_region_till (fun u => u.cell? ⟨M, 0, none⟩ = some (.int .u8 (f01 : Nat)) ∧ u.cell? ⟨M, 1, none⟩ = some (.int .u8 (f11 : Nat))) 12 (by kernel_rfl) (by decide) (by decide +kernel) (by decide +kernel) (by decide +kernel) (fun inv => ?_)
  refine till_at 0 9 (.pointer (some ⟨M, 0, none⟩)) inv rfl rfl (by decide) (by decide +kernel) (by decide +kernel) (fun _ _ _ h => h) hS0 (Or.inl ⟨by rfl, fun w' hS' => by obtain ⟨k1, k2⟩ := hS'; go_simp⟩) (fun inv' => ?_)
  clear inv; have inv := inv'; clear inv'
  try simp only [List.setIfInBounds_toArray, List.set_cons_zero, List.set_cons_succ]
  refine till_at 1 10 (.int .u8 (f01 : Nat)) inv rfl rfl (by decide) (by decide +kernel) (by decide +kernel) (fun _ _ _ h => h) hS0 (Or.inl ⟨by rfl, fun w' hS' => by obtain ⟨k1, k2⟩ := hS'; go_simp⟩) (fun inv' => ?_)
  clear inv; have inv := inv'; clear inv'
  try simp only [List.setIfInBounds_toArray, List.set_cons_zero, List.set_cons_succ]
  refine till_at 2 11 (.int .u8 (y1 : Nat)) inv rfl rfl (by decide) (by decide +kernel) (by decide +kernel) (fun _ _ _ h => h) hS0 (Or.inl ⟨by rfl, fun w' hS' => by obtain ⟨k1, k2⟩ := hS'; go_simp⟩) (fun inv' => ?_)
  clear inv; have inv := inv'; clear inv'
  try simp only [List.setIfInBounds_toArray, List.set_cons_zero, List.set_cons_succ]
  refine till_at 4 13 (.pointer (some ⟨M, 1, none⟩)) inv rfl rfl (by decide) (by decide +kernel) (by decide +kernel) (fun _ _ _ h => h) hS0 (Or.inl ⟨by rfl, fun w' hS' => by obtain ⟨k1, k2⟩ := hS'; go_simp⟩) (fun inv' => ?_)
  clear inv; have inv := inv'; clear inv'
  try simp only [List.setIfInBounds_toArray, List.set_cons_zero, List.set_cons_succ]
  refine till_at 5 14 (.int .u8 (f11 : Nat)) inv rfl rfl (by decide) (by decide +kernel) (by decide +kernel) (fun _ _ _ h => h) hS0 (Or.inl ⟨by rfl, fun w' hS' => by obtain ⟨k1, k2⟩ := hS'; go_simp⟩) (fun inv' => ?_)
  clear inv; have inv := inv'; clear inv'
  try simp only [List.setIfInBounds_toArray, List.set_cons_zero, List.set_cons_succ]
  refine till_at 7 16 (.int .u8 (x1 : Nat)) inv rfl rfl (by decide) (by decide +kernel) (by decide +kernel) (fun _ _ _ h => h) hS0 (Or.inl ⟨by rfl, fun w' hS' => by obtain ⟨k1, k2⟩ := hS'; go_simp⟩) (fun inv' => ?_)
  clear inv; have inv := inv'; clear inv'
  try simp only [List.setIfInBounds_toArray, List.set_cons_zero, List.set_cons_succ]
  refine till_at 8 17 (.int .u8 (y1 : Nat)) inv rfl rfl (by decide) (by decide +kernel) (by decide +kernel) (fun _ _ _ h => h) hS0 (Or.inl ⟨by rfl, fun w' hS' => by obtain ⟨k1, k2⟩ := hS'; go_simp⟩) (fun inv' => ?_)
  clear inv; have inv := inv'; clear inv'
  try simp only [List.setIfInBounds_toArray, List.set_cons_zero, List.set_cons_succ]
  refine till_at 9 18 (.int .u8 (xy1 : Nat)) inv rfl rfl (by decide) (by decide +kernel) (by decide +kernel) (fun _ _ _ h => h) hS0 (Or.inl ⟨by rfl, fun w' hS' => by obtain ⟨k1, k2⟩ := hS'; go_simp⟩) (fun inv' => ?_)
  clear inv; have inv := inv'; clear inv'
  try simp only [List.setIfInBounds_toArray, List.set_cons_zero, List.set_cons_succ]
  refine till_head (i := 3) inv (by decide +kernel) (by decide) rfl (fun KK hK => ?_)
  go_simp
  refine (H1.out _).mono ?_
  rintro e5 w5 ⟨rfl, hw⟩
  obtain rfl := hw.symm
  clear hw
  go_wp2_with fail
  refine hK.out _ _ (hS0) (fun inv' => ?_)
  clear hK KK inv; have inv := inv'; clear inv'
  try simp only [List.setIfInBounds_toArray, List.set_cons_zero, List.set_cons_succ]
  refine till_at 6 15 (.int .u8 (r21 : Nat)) inv rfl rfl (by decide) (by decide +kernel) (by decide +kernel) (fun _ _ _ h => h) hS0 (Or.inl ⟨by rfl, fun w' hS' => by obtain ⟨k1, k2⟩ := hS'; go_simp⟩) (fun inv' => ?_)
  clear inv; have inv := inv'; clear inv'
  try simp only [List.setIfInBounds_toArray, List.set_cons_zero, List.set_cons_succ]
  refine till_head (i := 10) inv (by decide +kernel) (by decide) rfl (fun KK hK => ?_)
  go_simp
  refine (H2.out _).mono ?_
  rintro e5 w5 ⟨rfl, hw⟩
  obtain rfl := hw.symm
  clear hw
  go_wp2_with fail
  refine hK.out _ _ (hS0) (fun inv' => ?_)
  clear hK KK inv; have inv := inv'; clear inv'
  try simp only [List.setIfInBounds_toArray, List.set_cons_zero, List.set_cons_succ]
  refine till_head (i := 11) inv (by decide +kernel) (by decide) rfl (fun KK hK => ?_)
  go_simp
  refine (H3.out _).mono ?_
  rintro e5 w5 ⟨rfl, hw⟩
  obtain rfl := hw.symm
  clear hw
  go_wp2_with fail
  refine hK.out _ _ (hS0) (fun inv' => ?_)
  clear hK KK inv; have inv := inv'; clear inv'
  try simp only [List.setIfInBounds_toArray, List.set_cons_zero, List.set_cons_succ]
  refine till_tail (i := 12) (by decide +kernel) (by decide) rfl (fun KK hK => ?_)
  go_simp
  refine hK.out _ _ ?_
  clear hK KK
  try simp only [List.setIfInBounds_toArray, List.set_cons_zero, List.set_cons_succ]
  refine till_done (by decide +kernel) ?_ _
  refine NoPanic.normal ?_
  have c0 : w1.drew.cell? ⟨M, 0, none⟩ = some (.int .u8 (f01 : Nat)) := hS0.1
  go_wp2
  go_region
  go_wp2
  refine ⟨rfl, _, results_tmp2 rfl _ _ _, rfl, ?_⟩
  rw [HMM.out]
  exact HB1.out.2.drew.drew
end Go.Proofs.Ytffejkfkkciaaaa
