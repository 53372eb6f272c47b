import Derived.Test.YtgmfiljjogdccaaDoorPart13
import Derived.Test.YtgmfiljjogdccaaDoorPart17
import Derived.Test.YtgmfiljjogdccaaDoorPart05
import Derived.Test.YtgmfiljjogdccaaDoorXor
namespace Go.Proofs.YtgmfiljjogdccaaDoor
open Go.RowKit Go.RwLone
set_option linter.unusedVariables false
set_option linter.unusedSimpArgs false
/-- The words of a key's schedule, as cells. -/
def wordsL (K : Nat → Nat) (m : Nat) : List Value := (List.range m).map fun i => .int .u32 (K i : Nat)
theorem wordsL_one (K : Nat → Nat) (m : Nat) : ∀ u ∈ wordsL K m, u.oneCell' = true := by
  intro u hu
  simp only [wordsL, List.mem_map] at hu
  obtain ⟨i, _, rfl⟩ := hu
  rfl
theorem wordsL_at (K : Nat → Nat) (m i : Nat) (hi : i < m) : (wordsL K m)[i]? = some (.int .u32 (K i : Nat)) := by simp [wordsL, hi]
set_option maxHeartbeats 1600000 in
set_option maxRecDepth 100000 in
theorem words_ok (g nr : Nat) (K : Nat → Nat) (w : World) (h : KeyAt w g nr K) : Calls Tryd.prog 15 #[.pointer (some ⟨g, 0, none⟩)] w fun e w' => ∃ v, e = .returned v ∧ w'.ownsRow w.heap.size 50 1 v (4 * (nr + 1)) (wordsL K (4 * (nr + 1))) ∧ KeyAt w' g nr K ∧ Touch w w' g 4 1 := by
  have HK : Hid (KeyAt w g nr K) := h
  have HH : Hid (Calls Tryd.prog 39 #[.pointer (some ⟨g, 0, none⟩)] w fun e w' => e = .returned (.int .i64 0) ∧ w' = w.setCell ⟨g, 4, none⟩ (.int .i32 1)) := hold_ok g nr K w h
  have h14 := h.ciph.most
  have HG : Hid (g < w.heap.size) := h.ciph.here
  clear h
  obtain ⟨m, HM⟩ : ∃ m, Hid (m = 4 * (nr + 1)) := ⟨_, rfl⟩
  rw [← HM.out]
  have hm60 : m ≤ 60 := by have := HM.out; omega
  have hmi : ((m : Nat) : Int) ≤ 60 := by omega
  go_enter_defers Tryd.func15, Tryd.ntmps15
  go_wp2_with (first | (go_at_call 39; refine HH.out.mono ?_))
  rintro e1 w1 ⟨rfl, hw1⟩
  have H1 : Hid (Ciph w1 g 6 nr K ∧ Touch w w1 g 4 1 ∧ w1.cell? ⟨g, 4, none⟩ = some (.int .i32 1)) := held HK.out hw1
  have HSZ : Hid (w1.heap.size = w.heap.size) := by show _ = _; rw [hw1]; simp
  clear hw1 HH
  have KW : Hid (∀ u, Below w1.heap.size w1 u → Calls Tryd.prog 42 #[.pointer (some ⟨g, 6, none⟩)] u fun e w' => e = .returned (.int .i64 (m : Nat)) ∧ w' = u) := fun u hu => by
    rw [HM.out]
    exact wordCount_ok g 6 nr u ((hu.cell H1.out.1.here).trans H1.out.1.rounds) h14
  have KC : Hid (∀ u, Below w1.heap.size w1 u → Calls Tryd.prog 41 #[.slice (some ⟨g, 7, none⟩) m 60] u fun e w' => ∃ v, e = .returned v ∧ w'.ownsRow u.heap.size 50 1 v m (wordsL K m) ∧ Below u.heap.size u w') := fun u hu => by
    refine clone_ok ⟨g, 7, none⟩ m 60 (wordsL K m) u (by show _ = _; simp [wordsL]) (by omega) (fun j v hv => ?_) (wordsL_one K m)
    have hj : j < m := by have := (List.getElem?_eq_some_iff.1 hv).1; simpa [wordsL] using this
    rw [wordsL_at K m j hj] at hv
    cases hv
    rw [Addr.add_lit, hu.cell (p := ⟨g, 7 + j, none⟩) H1.out.1.here]
    exact H1.out.1.words j (by have := HM.out; omega)
  go_wp2_with fail
  have hS0 : Below w1.heap.size w1 w1.drew := (Below.refl _ _).drew
  refine wp_region_noPanic ?_
  refine wp_region_held_drew (S := fun u => Below w1.heap.size w1 u) (by kernel_rfl) (hS0) (fun _ => ?_)
  refine takeH_at 0 9 (.pointer (some ⟨g, 0, none⟩)) rfl rfl (by kernel_rfl) (by kernel_rfl) (by kernel_rfl) (fun _ _ _ h => h) (hS0) (Or.inl ⟨by rfl, fun w' hS' => by go_simp⟩) ?_
  simp only [List.setIfInBounds_toArray, List.set_cons_zero, List.set_cons_succ]
  refine takeH_at 1 10 (.pointer (some ⟨g, 0, none⟩)) rfl rfl (by kernel_rfl) (by kernel_rfl) (by kernel_rfl) (fun _ _ _ h => h) (hS0) (Or.inl ⟨by rfl, fun w' hS' => by go_simp⟩) ?_
  simp only [List.setIfInBounds_toArray, List.set_cons_zero, List.set_cons_succ]
  refine takeH_at 2 11 (.pointer (some ⟨g, 6, none⟩)) rfl rfl (by kernel_rfl) (by kernel_rfl) (by kernel_rfl) (fun _ _ _ h => h) (hS0) (Or.inl ⟨by rfl, fun w' hS' => by go_simp⟩) ?_
  simp only [List.setIfInBounds_toArray, List.set_cons_zero, List.set_cons_succ]
  refine takeH_at 3 12 (.pointer (some ⟨g, 7, none⟩)) rfl rfl (by kernel_rfl) (by kernel_rfl) (by kernel_rfl) (fun _ _ _ h => h) (hS0) (Or.inl ⟨by rfl, fun w' hS' => by go_simp⟩) ?_
  simp only [List.setIfInBounds_toArray, List.set_cons_zero, List.set_cons_succ]
  refine takeH_at 4 13 (.pointer (some ⟨g, 0, none⟩)) rfl rfl (by kernel_rfl) (by kernel_rfl) (by kernel_rfl) (fun _ _ _ h => h) (hS0) (Or.inl ⟨by rfl, fun w' hS' => by go_simp⟩) ?_
  simp only [List.setIfInBounds_toArray, List.set_cons_zero, List.set_cons_succ]
  refine takeH_at 5 14 (.pointer (some ⟨g, 0, none⟩)) rfl rfl (by kernel_rfl) (by kernel_rfl) (by kernel_rfl) (fun _ _ _ h => h) (hS0) (Or.inl ⟨by rfl, fun w' hS' => by go_simp⟩) ?_
  simp only [List.setIfInBounds_toArray, List.set_cons_zero, List.set_cons_succ]
  refine takeH_at 6 15 (.pointer (some ⟨g, 6, none⟩)) rfl rfl (by kernel_rfl) (by kernel_rfl) (by kernel_rfl) (fun _ _ _ h => h) (hS0) (Or.inl ⟨by rfl, fun w' hS' => by go_simp⟩) ?_
  simp only [List.setIfInBounds_toArray, List.set_cons_zero, List.set_cons_succ]
  refine wpAnyH_ready (rs := [7]) (by kernel_rfl) (by simp) ?_
  refine AllReadyH.cons rfl (fun K hK => ?_) AllReadyH.nil
  go_simp
  refine (KW.out _ hS0).mono ?_
  rintro e1 w1 ⟨rfl, hw1⟩
  obtain rfl := hw1.symm
  go_wp2_with fail
  refine hK.out _ _ (hS0) (fun _ => ?_)
  clear hK K
  try simp only [List.setIfInBounds_toArray, List.set_cons_zero, List.set_cons_succ]
  refine takeH_at 8 17 (.slice (some ⟨g, 7, none⟩) m 60) rfl rfl (by kernel_rfl) (by kernel_rfl) (by kernel_rfl) (fun _ _ _ h => h) (hS0) (Or.inl ⟨by rfl, fun w' hS' => by go_simp⟩) ?_
  simp only [List.setIfInBounds_toArray, List.set_cons_zero, List.set_cons_succ]
  refine wpAnyH_ready (rs := [9]) (by kernel_rfl) (by simp) ?_
  refine AllReadyH.cons rfl (fun K hK => ?_) AllReadyH.nil
  go_simp
  refine (KC.out _ hS0).mono ?_
  rintro e2 w2 ⟨v, rfl, hown2, hb2⟩
  go_wp2_with fail
  have hS2 : Below w1.heap.size w1 w2 := hS0.trans (hb2.mono (Nat.le_refl _))
  refine hK.out _ _ hS2 (fun _ => ?_)
  clear hK K
  try simp only [List.setIfInBounds_toArray, List.set_cons_zero, List.set_cons_succ]
  refine wpAnyH_ready (rs := [10]) (by kernel_rfl) (by simp) ?_
  refine AllReadyH.cons rfl (fun K hK => ?_) AllReadyH.nil
  go_simp
  refine hK.out _ _ hS2 (fun _ => ?_)
  clear hK K
  try simp only [List.setIfInBounds_toArray, List.set_cons_zero, List.set_cons_succ]
  refine wpAnyH_done (by kernel_rfl) ?_ _
  refine NoPanic.normal ?_
  have H2 : Hid (w2.ownsRow w.heap.size 50 1 v m (wordsL K m) ∧ Touch w w2 g 4 1 ∧ w2.cell? ⟨g, 4, none⟩ = some (.int .i32 1)) := by
    have hsz : w1.drew.heap.size = w.heap.size := by
      show w1.heap.size = _
      exact HSZ.out
    rw [hsz] at hown2
    exact ⟨hown2, H1.out.2.1.below hS2 HG.out, (hS2.cell H1.out.1.here).trans H1.out.2.2⟩
  clear hown2 hb2 hS2 KW KC hS0
  go_wp2_with fail
  refine leaves_cons (f := 40) (args := #[.pointer (some ⟨g, 0, none⟩)]) (by simp) (by simp [go_sem]) ?_
  refine (unlocked HK.out H2.out.2.1 H2.out.2.2).mono ?_
  rintro e5 u5 w5 ⟨rfl, rfl, hk5, ht5, hw5⟩
  refine ⟨_, results_tmp rfl _ _ _, _, rfl, ?_, hk5, ht5⟩
  refine ownsRow_same H2.out.1 (fun q' hq' => ?_)
  rw [hw5]
  exact ((Touch.refl w2 g 4 1).setCells 4 _ (by omega) (by simp)).block q' (H2.out.1.lt q' hq').2 (by have h1 := (H2.out.1.lt q' hq').1; have h2 := HG.out; omega)
end Go.Proofs.YtgmfiljjogdccaaDoor
