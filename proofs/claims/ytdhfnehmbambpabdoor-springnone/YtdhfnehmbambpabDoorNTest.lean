import Derived.Test.YtdhfnehmbambpabDoorNone
import Derived.Test.YtdhfnehmbambpabDoorTill
namespace Go.Proofs.YtdhfnehmbambpabDoor
open Go.RowKit
set_option linter.unusedVariables false
set_option linter.unusedSimpArgs false
theorem yieldsIf_build {P : Program} {ops : Array Oper} {S : World → Prop} {op : Oper} {a : Act} (hw : Region.wanted op (yielded ops a.tmps) = true) (ty : TypeId) (parts : Array (Nat × Operand)) (ho : op.op = .build ty parts) (cells : Array Value) (hb : P.built ty (parts.map fun (i, x) => (i, a.eval x)).toList = some cells) : YieldsIf P ops S op (.agg cells) a :=
  .inl ⟨hw, fun w _ => by
    have hrun := run_build (P := P) w ty (parts.map fun (i, x) => (i, a.eval x)) cells hb
    unfold execOp
    simp only [ho, Sem.run_bind, hrun, Result.andThen_ok, Sem.run_pure]⟩
set_option maxHeartbeats 1600000 in
set_option maxRecDepth 100000 in
theorem test_long (a : Option Addr) (l c : Nat) (hl : 1048576 < l) (w : World) : Calls Tryd.prog 11 #[.slice a l c] w fun e w' => e = .returned (.tuple #[.agg #[.int .i64 0, .int .i64 0, .int .i64 0, .int .i64 0, .int .i64 0, .int .i64 0, .int .i64 0, .int .i64 0, .int .i64 0, .int .i64 0, .int .i64 0, .int .i64 0, .int .i64 0, .int .i64 0, .int .i64 0], .int .i64 4]) ∧ Below w.heap.size w w' := by
  have d1 : decide ((1048576 : Int) < (l : Nat)) = true := by simp; omega
  have hr := rangeAt_new w #[.int .i64 0, .int .i64 0, .int .i64 0, .int .i64 0, .int .i64 0, .int .i64 0, .int .i64 0, .int .i64 0, .int .i64 0, .int .i64 0, .int .i64 0, .int .i64 0, .int .i64 0, .int .i64 0, .int .i64 0] 35
  have hB : Below w.heap.size w (w.alloc (.cells #[.int .i64 0, .int .i64 0, .int .i64 0, .int .i64 0, .int .i64 0, .int .i64 0, .int .i64 0, .int .i64 0, .int .i64 0, .int .i64 0, .int .i64 0, .int .i64 0, .int .i64 0, .int .i64 0, .int .i64 0] 35)) := (Below.refl _ w).alloc (Nat.le_refl _) _
  go_enter Tryd.func11, Tryd.ntmps11
  go_wp2
  exact ret_array2 [.int .i64 0, .int .i64 0, .int .i64 0, .int .i64 0, .int .i64 0, .int .i64 0, .int .i64 0, .int .i64 0, .int .i64 0, .int .i64 0, .int .i64 0, .int .i64 0, .int .i64 0, .int .i64 0, .int .i64 0] (.int .i64 4) Tryd.results11 rfl rfl hr Tryd.underlying35 rfl size35 ⟨rfl, hB⟩
set_option maxHeartbeats 1600000 in
set_option maxRecDepth 100000 in
theorem test_nil (w : World) : Calls Tryd.prog 11 #[.slice none 0 0] w fun e w' => e = .returned (.tuple #[.agg #[.int .i64 0, .int .i64 0, .int .i64 0, .int .i64 0, .int .i64 0, .int .i64 0, .int .i64 0, .int .i64 0, .int .i64 0, .int .i64 0, .int .i64 0, .int .i64 0, .int .i64 0, .int .i64 0, .int .i64 0], .int .i64 0]) ∧ Below w.heap.size w w' := by
  have HB : Hid (Below w.heap.size w (w.alloc (.cells #[.int .i64 0, .int .i64 0, .int .i64 0, .int .i64 0, .int .i64 0, .int .i64 0, .int .i64 0, .int .i64 0, .int .i64 0, .int .i64 0, .int .i64 0, .int .i64 0, .int .i64 0, .int .i64 0, .int .i64 0] 35)) ∧ (w.alloc (.cells #[.int .i64 0, .int .i64 0, .int .i64 0, .int .i64 0, .int .i64 0, .int .i64 0, .int .i64 0, .int .i64 0, .int .i64 0, .int .i64 0, .int .i64 0, .int .i64 0, .int .i64 0, .int .i64 0, .int .i64 0] 35)).there w.heap.size 0 15 ∧ (w.alloc (.cells #[.int .i64 0, .int .i64 0, .int .i64 0, .int .i64 0, .int .i64 0, .int .i64 0, .int .i64 0, .int .i64 0, .int .i64 0, .int .i64 0, .int .i64 0, .int .i64 0, .int .i64 0, .int .i64 0, .int .i64 0] 35)).heap.size = w.heap.size + 1) := ⟨(Below.refl _ w).alloc (Nat.le_refl _) _, there_new w _ _ 15 (Nat.le_refl 15), by simp⟩
  go_enter Tryd.func11, Tryd.ntmps11
  go_upto_region 3 with fail
  generalize w.alloc (.cells #[.int .i64 0, .int .i64 0, .int .i64 0, .int .i64 0, .int .i64 0, .int .i64 0, .int .i64 0, .int .i64 0, .int .i64 0, .int .i64 0, .int .i64 0, .int .i64 0, .int .i64 0, .int .i64 0, .int .i64 0] 35) = wa at HB ⊢
  go_wp2_with (go_at_call 24; refine (walk_nil _).mono ?_)
  rintro e w1 ⟨rfl, hb⟩
  have HT : Hid (Below w.heap.size w (w1.alloc (.cells #[.int .i64 0, .int .i64 0, .int .i64 0, .int .i64 0, .int .i64 0, .int .i64 0, .int .i64 0, .int .i64 0] 33)) ∧ (w1.alloc (.cells #[.int .i64 0, .int .i64 0, .int .i64 0, .int .i64 0, .int .i64 0, .int .i64 0, .int .i64 0, .int .i64 0] 33)).rangeAt w1.heap.size 0 [.int .i64 0, .int .i64 0, .int .i64 0, .int .i64 0, .int .i64 0, .int .i64 0, .int .i64 0, .int .i64 0] ∧ (w1.alloc (.cells #[.int .i64 0, .int .i64 0, .int .i64 0, .int .i64 0, .int .i64 0, .int .i64 0, .int .i64 0, .int .i64 0] 33)).there w.heap.size 0 15 ∧ w1.heap.size < (w1.alloc (.cells #[.int .i64 0, .int .i64 0, .int .i64 0, .int .i64 0, .int .i64 0, .int .i64 0, .int .i64 0, .int .i64 0] 33)).heap.size ∧ w.heap.size < (w1.alloc (.cells #[.int .i64 0, .int .i64 0, .int .i64 0, .int .i64 0, .int .i64 0, .int .i64 0, .int .i64 0, .int .i64 0] 33)).heap.size) := by
    obtain ⟨p1, p2, p3⟩ := HB.out
    have hs := hb.size
    have h1 : Below w.heap.size w w1 := p1.trans (hb.mono (by omega))
    exact ⟨h1.alloc (by omega) _, rangeAt_new w1 _ _, there_below (there_below p2 hb (by omega)) ((Below.refl w1.heap.size w1).alloc (Nat.le_refl _) _) (by omega), by simp, by simp; omega⟩
  clear hb HB
  go_wp2
  generalize w1.alloc (.cells #[.int .i64 0, .int .i64 0, .int .i64 0, .int .i64 0, .int .i64 0, .int .i64 0, .int .i64 0, .int .i64 0] 33) = wt at HT ⊢
  have K25 : Hid (∀ u, Below wt.heap.size wt u → Calls Tryd.prog 25 #[.slice none 0 0] u fun e w' => e = .returned (.int .i64 0) ∧ Below wt.heap.size wt w') := fun u hu => (run_nil u).mono fun e w' h => ⟨h.1, hu.trans (h.2.mono hu.size)⟩
  have K26 : Hid (∀ u, Below wt.heap.size wt u → Calls Tryd.prog 26 #[.slice none 0 0] u fun e w' => e = .returned (.int .i64 0) ∧ Below wt.heap.size wt w') := fun u hu => (most_nil u).mono fun e w' h => ⟨h.1, hu.trans (h.2.mono hu.size)⟩
  have K27 : Hid (∀ u, Below wt.heap.size wt u → Calls Tryd.prog 27 #[.slice none 0 0] u fun e w' => e = .returned (.int .i64 0) ∧ Below wt.heap.size wt w') := fun u hu => (ones_nil u).mono fun e w' h => ⟨h.1, hu.trans (h.2.mono hu.size)⟩
  have K28 : Hid (∀ u, Below wt.heap.size wt u → Calls Tryd.prog 28 #[.slice none 0 0] u fun e w' => e = .returned (.int .i64 0) ∧ Below wt.heap.size wt w') := fun u hu => (poker_nil u).mono fun e w' h => ⟨h.1, hu.trans (h.2.mono hu.size)⟩
  have K29 : Hid (∀ u, Below wt.heap.size wt u → Calls Tryd.prog 29 #[.slice none 0 0] u fun e w' => e = .returned (.int .i64 0) ∧ Below wt.heap.size wt w') := fun u hu => (turned_nil u).mono fun e w' h => ⟨h.1, hu.trans (h.2.mono hu.size)⟩
  have hS0 : Below wt.heap.size wt wt.drew := (Below.refl _ _).drew
  refine wp_region_noPanic ?_
  refine wp_region_till (fun u => Below wt.heap.size wt u) 15 (by kernel_rfl) (by decide) (by decide +kernel) (by decide +kernel) (by decide +kernel) (fun inv => ?_)
  refine till_at 0 15 (.slice none 0 0) inv rfl rfl (by decide) (by decide +kernel) (by decide +kernel) (fun _ _ _ h => h) (hS0) (Or.inl ⟨by rfl, fun w' hS' => by go_simp⟩) (fun inv' => ?_)
  clear inv; have inv := inv'; clear inv'
  simp only [List.setIfInBounds_toArray, List.set_cons_zero, List.set_cons_succ]
  refine till_at 1 16 (.int .i64 0) inv rfl rfl (by decide) (by decide +kernel) (by decide +kernel) (fun _ _ _ h => h) (hS0) (Or.inl ⟨by rfl, fun w' hS' => by go_simp⟩) (fun inv' => ?_)
  clear inv; have inv := inv'; clear inv'
  simp only [List.setIfInBounds_toArray, List.set_cons_zero, List.set_cons_succ]
  refine till_at 2 17 (.slice none 0 0) inv rfl rfl (by decide) (by decide +kernel) (by decide +kernel) (fun _ _ _ h => h) (hS0) (Or.inl ⟨by rfl, fun w' hS' => by go_simp⟩) (fun inv' => ?_)
  clear inv; have inv := inv'; clear inv'
  simp only [List.setIfInBounds_toArray, List.set_cons_zero, List.set_cons_succ]
  refine till_at 4 19 (.slice none 0 0) inv rfl rfl (by decide) (by decide +kernel) (by decide +kernel) (fun _ _ _ h => h) (hS0) (Or.inl ⟨by rfl, fun w' hS' => by go_simp⟩) (fun inv' => ?_)
  clear inv; have inv := inv'; clear inv'
  simp only [List.setIfInBounds_toArray, List.set_cons_zero, List.set_cons_succ]
  refine till_at 6 21 (.slice none 0 0) inv rfl rfl (by decide) (by decide +kernel) (by decide +kernel) (fun _ _ _ h => h) (hS0) (Or.inl ⟨by rfl, fun w' hS' => by go_simp⟩) (fun inv' => ?_)
  clear inv; have inv := inv'; clear inv'
  simp only [List.setIfInBounds_toArray, List.set_cons_zero, List.set_cons_succ]
  refine till_at 8 23 (.agg #[.int .i64 0, .int .i64 0, .int .i64 0, .int .i64 0, .int .i64 0, .int .i64 0, .int .i64 0, .int .i64 0]) inv rfl rfl (by decide) (by decide +kernel) (by decide +kernel) (fun _ _ _ h => h) (hS0) (yieldsIf_load_mid (by kernel_rfl) 33 (.tmp 4) rfl w1.heap.size 0 rfl [.int .i64 0, .int .i64 0, .int .i64 0, .int .i64 0, .int .i64 0, .int .i64 0, .int .i64 0, .int .i64 0] _ (fun u hu => range_below HT.out.2.1 hu HT.out.2.2.2.1) Tryd.underlying33 rfl size33) (fun inv' => ?_)
  clear inv; have inv := inv'; clear inv'
  simp only [List.setIfInBounds_toArray, List.set_cons_zero, List.set_cons_succ]
  refine till_at 9 24 (.int .i64 0) inv rfl rfl (by decide) (by decide +kernel) (by decide +kernel) (fun _ _ _ h => h) (hS0) (Or.inl ⟨by rfl, fun w' hS' => by go_simp⟩) (fun inv' => ?_)
  clear inv; have inv := inv'; clear inv'
  simp only [List.setIfInBounds_toArray, List.set_cons_zero, List.set_cons_succ]
  refine till_at 10 25 (.slice none 0 0) inv rfl rfl (by decide) (by decide +kernel) (by decide +kernel) (fun _ _ _ h => h) (hS0) (Or.inl ⟨by rfl, fun w' hS' => by go_simp⟩) (fun inv' => ?_)
  clear inv; have inv := inv'; clear inv'
  simp only [List.setIfInBounds_toArray, List.set_cons_zero, List.set_cons_succ]
  refine till_at 12 27 (.slice none 0 0) inv rfl rfl (by decide) (by decide +kernel) (by decide +kernel) (fun _ _ _ h => h) (hS0) (Or.inl ⟨by rfl, fun w' hS' => by go_simp⟩) (fun inv' => ?_)
  clear inv; have inv := inv'; clear inv'
  simp only [List.setIfInBounds_toArray, List.set_cons_zero, List.set_cons_succ]
  refine till_head (i := 3) inv (by decide +kernel) (by decide) rfl (fun K hK => ?_)
  go_simp
  refine (K25.out _ hS0).mono ?_
  rintro e1 u1 ⟨rfl, hu1⟩
  go_wp2_with fail
  refine hK.out _ _ hu1 (fun inv' => ?_)
  clear hK K inv; have inv := inv'; clear inv'
  try simp only [List.setIfInBounds_toArray, List.set_cons_zero, List.set_cons_succ]
  refine till_head (i := 5) inv (by decide +kernel) (by decide) rfl (fun K hK => ?_)
  go_simp
  refine (K26.out _ hu1).mono ?_
  rintro e1 u2 ⟨rfl, hu2⟩
  go_wp2_with fail
  refine hK.out _ _ hu2 (fun inv' => ?_)
  clear hK K inv; have inv := inv'; clear inv'
  try simp only [List.setIfInBounds_toArray, List.set_cons_zero, List.set_cons_succ]
  refine till_head (i := 7) inv (by decide +kernel) (by decide) rfl (fun K hK => ?_)
  go_simp
  refine (K27.out _ hu2).mono ?_
  rintro e1 u3 ⟨rfl, hu3⟩
  go_wp2_with fail
  refine hK.out _ _ hu3 (fun inv' => ?_)
  clear hK K inv; have inv := inv'; clear inv'
  try simp only [List.setIfInBounds_toArray, List.set_cons_zero, List.set_cons_succ]
  refine till_head (i := 11) inv (by decide +kernel) (by decide) rfl (fun K hK => ?_)
  go_simp
  refine (K28.out _ hu3).mono ?_
  rintro e1 u4 ⟨rfl, hu4⟩
  go_wp2_with fail
  refine hK.out _ _ hu4 (fun inv' => ?_)
  clear hK K inv; have inv := inv'; clear inv'
  try simp only [List.setIfInBounds_toArray, List.set_cons_zero, List.set_cons_succ]
  refine till_head (i := 13) inv (by decide +kernel) (by decide) rfl (fun K hK => ?_)
  go_simp
  refine (K29.out _ hu4).mono ?_
  rintro e1 u5 ⟨rfl, hu5⟩
  go_wp2_with fail
  refine hK.out _ _ hu5 (fun inv' => ?_)
  clear hK K inv; have inv := inv'; clear inv'
  try simp only [List.setIfInBounds_toArray, List.set_cons_zero, List.set_cons_succ]
  refine till_at 14 29 (.agg #[.int .i64 0, .int .i64 0, .int .i64 0, .int .i64 0, .int .i64 0, .int .i64 0, .int .i64 0, .int .i64 0, .int .i64 0, .int .i64 0, .int .i64 0, .int .i64 0, .int .i64 0, .int .i64 0, .int .i64 0]) inv rfl rfl (by decide) (by decide +kernel) (by decide +kernel) (fun _ _ _ h => h) (hu5) (yieldsIf_build (by rfl) 35 #[(0, .tmp 16), (1, .tmp 18), (2, .tmp 20), (3, .tmp 22), (4, .tmp 23), (5, .tmp 24), (6, .tmp 26), (7, .tmp 28)] rfl _ (by simp only [List.map_toArray, List.map_cons, List.map_nil]; kernel_rfl)) (fun inv' => ?_)
  clear inv; have inv := inv'; clear inv'
  simp only [List.setIfInBounds_toArray, List.set_cons_zero, List.set_cons_succ]
  refine till_tail (i := 15) (by decide +kernel) (by decide) rfl (fun K hK => ?_)
  rw [if_pos (by rfl)]
  refine wp_store_mid 35 (.tmp 2) (.tmp 29) rfl w.heap.size 0 #[.int .i64 0, .int .i64 0, .int .i64 0, .int .i64 0, .int .i64 0, .int .i64 0, .int .i64 0, .int .i64 0, .int .i64 0, .int .i64 0, .int .i64 0, .int .i64 0, .int .i64 0, .int .i64 0, .int .i64 0] rfl rfl (there_below HT.out.2.2.1 hu5 HT.out.2.2.2.2) (size35) (one15) ?_
  refine hK.out _ _ ?_
  clear hK K
  try simp only [List.setIfInBounds_toArray, List.set_cons_zero, List.set_cons_succ]
  refine till_tail (i := 16) (by decide +kernel) (by decide) rfl (fun K hK => ?_)
  go_simp
  refine hK.out _ _ ?_
  clear hK K
  try simp only [List.setIfInBounds_toArray, List.set_cons_zero, List.set_cons_succ]
  refine till_done (by decide +kernel) ?_ _
  refine NoPanic.normal ?_
  go_wp2
  refine ret_array2 [.int .i64 0, .int .i64 0, .int .i64 0, .int .i64 0, .int .i64 0, .int .i64 0, .int .i64 0, .int .i64 0, .int .i64 0, .int .i64 0, .int .i64 0, .int .i64 0, .int .i64 0, .int .i64 0, .int .i64 0] (.int .i64 0) Tryd.results11 rfl rfl (World.rangeAt_setCells_same _ _ _ _ (there_below HT.out.2.2.1 hu5 HT.out.2.2.2.2)) Tryd.underlying35 rfl size35 ⟨rfl, below_setCells _ (Nat.le_refl _) _ _ _ (HT.out.1.trans (hu5.mono (by have := HT.out.2.2.2.2; omega)))⟩
end Go.Proofs.YtdhfnehmbambpabDoor
