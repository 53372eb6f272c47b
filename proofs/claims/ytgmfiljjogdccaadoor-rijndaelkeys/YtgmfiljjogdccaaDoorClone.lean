import Derived.Test.YtgmfiljjogdccaaDoorCopy
import Derived.Lib.LazyBuf
namespace Go.Proofs.YtgmfiljjogdccaaDoor
open Go.RowKit
set_option linter.unusedVariables false
theorem Tryd.underlying34 : Tryd.prog.underlying 34 = some (.slice 50) := by kernel_rfl
theorem Tryd.info50 : (Tryd.prog.info? 50).map (fun i => (i.zero, i.size, i.bytes)) = some (some (.int .u32 0), 1, 4) := by kernel_rfl
set_option maxHeartbeats 800000 in
set_option maxRecDepth 100000 in
theorem clone_ok (x : Addr) (n cap : Nat) (vs : List Value) (w : World) (hl : Hid (vs.length = n)) (hn : n ≤ 64) (hc : Hid (∀ j u, vs[j]? = some u → w.cell? (x.add j) = some u)) (h1 : Hid (∀ u ∈ vs, u.oneCell' = true)) :
    Calls Tryd.prog 41 #[.slice (some x) n cap] w fun e w' => ∃ v, e = .returned v ∧ w'.ownsRow w.heap.size 50 1 v n vs ∧ Below w.heap.size w w' := by
  obtain ⟨i0, hi, hz0, hz1, hz2⟩ := info_parts Tryd.info50
  have hnl : ∀ w, (binOp .eql 34 (.slice (some x) n cap) (.slice none 0 0)).run Tryd.prog w = .ok (.bool false) w := fun w => run_eql_slice_nil w 34 50 (some x) n cap Tryd.underlying34
  go_enter Tryd.func41, Tryd.ntmps41
  go_wp2_with (first
    | (at_builtin; go_must (refine wpList_append_own _ rfl (.tmp 5) (.tmp 6) 34 rfl w.heap.size 50 i0 (.int .u32 0) 1 4 Tryd.underlying34 hi hz0 hz1 hz2 rfl (by decide) _ 0 [] rfl (World.ownsRow_made w #[] 0 (Nat.le_refl _) (by unfold maxLen; omega) rfl) x n cap vs rfl ?_ ?_ h1.out ?_ ?_ ?_ ?_)))
  · rw [hl.out, Nat.mul_one]
  · intro j u hu
    have := hc.out j u hu
    rw [World.cell?_alloc_lt w _ _ (World.block_lt_of_cell? w _ this)]
    exact this
  · unfold maxLen; omega
  · omega
  · simp
  intro v1 w1 hown hgrow hnil
  have HO : Hid (w1.ownsRow w.heap.size 50 1 v1 n vs) := hown
  have HB : Hid (Below w.heap.size w w1) := ((Below.refl _ _).alloc (Nat.le_refl _) _).grown hgrow (by simp) (by intro k hk; cases hk; exact Nat.le_refl _)
  clear hown hgrow hnil
  go_wp2
  go_ret
  exact ⟨_, rfl, HO.out, HB.out⟩
end Go.Proofs.YtgmfiljjogdccaaDoor
