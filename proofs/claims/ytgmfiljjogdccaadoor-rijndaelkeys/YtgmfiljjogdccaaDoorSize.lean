import Derived.Test.YtgmfiljjogdccaaDoorHold
namespace Go.Proofs.YtgmfiljjogdccaaDoor
open Go.RowKit Go.RwLone
set_option linter.unusedVariables false
/-- The key is let go. -/
theorem unlocked {w w3 : World} {g nr : Nat} {K : Nat → Nat} (hk : KeyAt w g nr K) (ht : Touch w w3 g 4 1) (hc : w3.cell? ⟨g, 4, none⟩ = some (.int .i32 1)) :
    CallsD Tryd.prog 40 #[.pointer (some ⟨g, 0, none⟩)] .returning w3 fun e u' w' => u' = .returning ∧ e = .returned (.tuple #[]) ∧ KeyAt w' g nr K ∧ Touch w w' g 4 1 ∧ w' = w3.setCells g 4 [.int .i32 0] := by
  have hroom : w3.there g 0 1091 := ht.there _ _ hk.room
  obtain ⟨x0, c0⟩ := cell_of_there hroom 0 (by decide)
  obtain ⟨x2, c2⟩ := cell_of_there hroom 2 (by decide)
  have hz := (hroom 4 (by decide)).2
  refine (runlock_deferred rwRLib g 0 1 x0 x2 .returning w3 c0 c2 hc hz (by decide +kernel)).mono ?_
  rintro e u' w' ⟨rfl, rfl, hw⟩
  rw [show wrap32 (1 + -1) = 0 by decide +kernel] at hw
  have hw' : w' = w3.setCells g 4 [.int .i32 0] := hw
  have ht' : Touch w w' g 4 1 := by rw [hw']; exact ht.setCells 4 _ (by omega) (by simp)
  have hc' : w'.cell? ⟨g, 4, none⟩ = some (.int .i32 0) := by
    rw [hw]
    exact World.cell?_setCell_same' _ _ _ (by rw [show (0 + 4) = 4 from rfl, hc]; rfl)
  exact ⟨rfl, rfl, hk.touch ht' hc', ht', hw'⟩
theorem held {w w1 : World} {g nr : Nat} {K : Nat → Nat} (h : KeyAt w g nr K) (hw : w1 = w.setCell ⟨g, 4, none⟩ (.int .i32 1)) : Ciph w1 g 6 nr K ∧ Touch w w1 g 4 1 ∧ w1.cell? ⟨g, 4, none⟩ = some (.int .i32 1) := by
  rw [hw]
  refine ⟨held_ciph h 1, (Touch.refl _ g 4 1).setCell 4 _ (by omega) (by omega), ?_⟩
  have := (h.room 4 (by decide)).1
  exact World.cell?_setCell_same' _ _ _ (by simpa using this)
set_option maxHeartbeats 1600000 in
set_option maxRecDepth 100000 in
theorem size_ok (g nr : Nat) (K : Nat → Nat) (w : World) (h : KeyAt w g nr K) (h6 : 6 ≤ nr) : Calls Tryd.prog 13 #[.pointer (some ⟨g, 0, none⟩)] w fun e w' => e = .returned (.int .i64 (4 * (nr - 6) : Nat)) ∧ KeyAt w' g nr K ∧ Touch w w' g 4 1 := by
  have HK : Hid (KeyAt w g nr K) := h
  have HH : Hid (Calls Tryd.prog 39 #[.pointer (some ⟨g, 0, none⟩)] w fun e w' => e = .returned (.int .i64 0) ∧ w' = w.setCell ⟨g, 4, none⟩ (.int .i32 1)) := hold_ok g nr K w h
  have h14 := h.ciph.most
  clear h
  go_enter_defers Tryd.func13, Tryd.ntmps13
  go_wp2_with (first | (go_at_call 39; refine HH.out.mono ?_))
  rintro e1 w1 ⟨rfl, hw1⟩
  have H1 : Hid (Ciph w1 g 6 nr K ∧ Touch w w1 g 4 1 ∧ w1.cell? ⟨g, 4, none⟩ = some (.int .i32 1)) := held HK.out hw1
  clear hw1 HH
  have cr : w1.cell? ⟨g, 6, none⟩ = some (.int .i64 (nr : Nat)) := H1.out.1.rounds
  go_wp2_with fail
  refine leaves_cons (f := 40) (args := #[.pointer (some ⟨g, 0, none⟩)]) (by simp) (by simp [go_sem]) ?_
  refine (unlocked HK.out H1.out.2.1 H1.out.2.2).mono ?_
  rintro e5 u5 w5 ⟨rfl, rfl, hk5, ht5, _⟩
  refine ⟨_, results_tmp rfl _ _ _, ?_, hk5, ht5⟩
  show Ending.returned (.int .i64 (4 * ((nr : Int) - 6))) = _
  exact ret_int (by omega)
set_option maxHeartbeats 1600000 in
set_option maxRecDepth 100000 in
theorem rounds_ok (g nr : Nat) (K : Nat → Nat) (w : World) (h : KeyAt w g nr K) : Calls Tryd.prog 14 #[.pointer (some ⟨g, 0, none⟩)] w fun e w' => e = .returned (.int .i64 (nr : Nat)) ∧ KeyAt w' g nr K ∧ Touch w w' g 4 1 := by
  have HK : Hid (KeyAt w g nr K) := h
  have HH : Hid (Calls Tryd.prog 39 #[.pointer (some ⟨g, 0, none⟩)] w fun e w' => e = .returned (.int .i64 0) ∧ w' = w.setCell ⟨g, 4, none⟩ (.int .i32 1)) := hold_ok g nr K w h
  clear h
  go_enter_defers Tryd.func14, Tryd.ntmps14
  go_wp2_with (first | (go_at_call 39; refine HH.out.mono ?_))
  rintro e1 w1 ⟨rfl, hw1⟩
  have H1 : Hid (Ciph w1 g 6 nr K ∧ Touch w w1 g 4 1 ∧ w1.cell? ⟨g, 4, none⟩ = some (.int .i32 1)) := held HK.out hw1
  clear hw1 HH
  have cr : w1.cell? ⟨g, 6, none⟩ = some (.int .i64 (nr : Nat)) := H1.out.1.rounds
  go_wp2_with fail
  refine leaves_cons (f := 40) (args := #[.pointer (some ⟨g, 0, none⟩)]) (by simp) (by simp [go_sem]) ?_
  refine (unlocked HK.out H1.out.2.1 H1.out.2.2).mono ?_
  rintro e5 u5 w5 ⟨rfl, rfl, hk5, ht5, _⟩
  exact ⟨_, results_tmp rfl _ _ _, rfl, hk5, ht5⟩
end Go.Proofs.YtgmfiljjogdccaaDoor
