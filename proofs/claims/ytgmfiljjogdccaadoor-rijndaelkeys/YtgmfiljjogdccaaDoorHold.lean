import Derived.Test.YtgmfiljjogdccaaDoorNew
import Derived.Test.YtgmfiljjogdccaaDoorEnc
import Derived.Test.YtgmfiljjogdccaaDoorLocks
import Derived.Conc.RwLone
import Derived.Defers
namespace Go.Proofs.YtgmfiljjogdccaaDoor
open Go.RowKit Go.RwLone
set_option linter.unusedVariables false
theorem touch_new {w v : World} {g o n : Nat} (h : Touch w v g o n) {b : Nat} (hb : w.heap.size ≤ b) (vs : List Value) (o' : Nat) (hg : g < w.heap.size) : Touch w (v.setCells b o' vs) g o n :=
  ⟨by rw [setCells_os]; exact h.os, by rw [setCells_tape]; exact h.tape, by rw [setCells_output]; exact h.output, by rw [sizeB_setCells]; exact h.size,
    fun k hk hne => by rw [World.heap_setCells_other v b o' vs (by have := h.size; omega) (by omega)]; exact h.block k hk hne,
    fun j hj => by rw [World.cell?_setCells_out b vs o' v ⟨g, j, none⟩ (fun e _ => absurd e (by simp; omega))]; exact h.cell j hj,
    fun o2 n2 ht => World.there_setCells (h.there o2 n2 ht) b o' vs⟩
theorem KeyAt.touch {w w' : World} {g nr : Nat} {K : Nat → Nat} (h : KeyAt w g nr K) (ht : Touch w w' g 4 1) (hc : w'.cell? ⟨g, 4, none⟩ = some (.int .i32 0)) : KeyAt w' g nr K := by
  refine ⟨⟨(ht.cell 6 (by omega)).trans h.ciph.rounds, fun i hi => (ht.cell (6 + 1 + i) (by omega)).trans (h.ciph.words i hi), h.ciph.small, ⟨fun b hb => (ht.cell _ (by omega)).trans (h.ciph.tab.s b hb), fun b hb => (ht.cell _ (by omega)).trans (h.ciph.tab.u b hb), fun b hb => (ht.cell _ (by omega)).trans (h.ciph.tab.m b hb), fun b hb => (ht.cell _ (by omega)).trans (h.ciph.tab.n b hb)⟩, Nat.lt_of_lt_of_le h.ciph.here ht.size, h.ciph.some, h.ciph.most⟩, hc, ht.there _ _ h.room⟩
/-- While a call holds the key. -/
theorem held_ciph {w : World} {g nr : Nat} {K : Nat → Nat} (h : KeyAt w g nr K) (c : Int) : Ciph (w.setCell ⟨g, 4, none⟩ (.int .i32 c)) g 6 nr K := by
  have ht : Touch w (w.setCell ⟨g, 4, none⟩ (.int .i32 c)) g 4 1 := (Touch.refl w g 4 1).setCell 4 _ (by omega) (by omega)
  exact ⟨(ht.cell 6 (by omega)).trans h.ciph.rounds, fun i hi => (ht.cell (6 + 1 + i) (by omega)).trans (h.ciph.words i hi), h.ciph.small, ⟨fun b hb => (ht.cell _ (by omega)).trans (h.ciph.tab.s b hb), fun b hb => (ht.cell _ (by omega)).trans (h.ciph.tab.u b hb), fun b hb => (ht.cell _ (by omega)).trans (h.ciph.tab.m b hb), fun b hb => (ht.cell _ (by omega)).trans (h.ciph.tab.n b hb)⟩, Nat.lt_of_lt_of_le h.ciph.here ht.size, h.ciph.some, h.ciph.most⟩
theorem cell_of_there {w : World} {g o n : Nat} (h : w.there g o n) (j : Nat) (hj : j < n) : ∃ v, w.cell? ⟨g, o + j, none⟩ = some v := Option.isSome_iff_exists.1 (h j hj).1
set_option maxHeartbeats 1600000 in
set_option maxRecDepth 100000 in
theorem hold_ok (g nr : Nat) (K : Nat → Nat) (w : World) (h : KeyAt w g nr K) : Calls Tryd.prog 39 #[.pointer (some ⟨g, 0, none⟩)] w fun e w' => e = .returned (.int .i64 0) ∧ w' = w.setCell ⟨g, 4, none⟩ (.int .i32 1) := by
  obtain ⟨x0, c0⟩ := cell_of_there h.room 0 (by decide)
  obtain ⟨x3, c3⟩ := cell_of_there h.room 3 (by decide)
  have hz := (h.room 4 (by decide)).2
  have hc := h.count
  have KL : Hid (Calls Tryd.prog 56 #[.pointer (some ⟨g, 0, none⟩)] w fun e w' => e = .returned (.tuple #[]) ∧ w' = w.setCell ⟨g, 4, none⟩ (.int .i32 1))  := by
    have h := rlock_open rwRLib g 0 0 x0 x3 w c0 c3 hc hz (by decide +kernel)
    rw [show wrap32 (0 + 1) = 1 by decide +kernel] at h
    exact h
  have cr : (w.setCell ⟨g, 4, none⟩ (.int .i32 1)).cell? ⟨g, 6, none⟩ = some (.int .i64 (nr : Nat)) := (held_ciph h 1).rounds
  have hn : (((nr : Nat) : Int) == 0) = false := by have := h.ciph.some; simp; omega
  clear c0 c3 hz hc h
  go_enter Tryd.func39, Tryd.ntmps39
  go_wp2_with (first | (go_at_call 56; refine KL.out.mono ?_))
  rintro e1 w1 ⟨rfl, hw1⟩
  obtain rfl := hw1.symm
  go_wp2
  go_ret
  exact ⟨rfl, rfl⟩
theorem hold_nil (w : World) : Calls Tryd.prog 39 #[.pointer none] w fun e w' => e = .returned (.int .i64 1) ∧ w' = w := by
  go_enter Tryd.func39, Tryd.ntmps39
  go_wp2
  go_ret
  exact ⟨rfl, rfl⟩
end Go.Proofs.YtgmfiljjogdccaaDoor
