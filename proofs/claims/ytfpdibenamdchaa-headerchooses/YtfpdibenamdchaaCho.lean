import Derived.Test.YtfpdibenamdchaaChecked
import Derived.WalkKit
import Derived.Below
import Derived.ProofKit
import Derived.Deep.MidRow
import Derived.Deep.Draws
import Derived.Deep.Upon
import Derived.Laws.ResultCell
import Derived.Deep.CutRange
import Derived.Deep.RegionHeld3
import Derived.BigRegion
import Derived.Deep.QuietTactic
import Derived.BigQuiet
namespace Go.Proofs.Ytfpdibenamdchaa
open Go.RowKit
set_option linter.unusedVariables false
set_option linter.unusedSimpArgs false
/-- What Choose answers. -/
def chV (p q : Bool) (x y : Int) : Int × Int := if q && (!p || decide (x < y)) then (2, 0) else if p then (1, 0) else (0, 80)
theorem takeH_at {P : Program} {ops : Array Oper} {md : Region.Mode} {S : World → Prop} {Q : Exit → Act → World → Prop} (i d : Nat) (v : Value) {oi : Oper} {fuel : Nat} {listed : Array Bool} {tmps : Array Value} {ds : List Deferred} {w : World} (hi : ops[i]? = some oi) (hd : oi.dst = some d)
    (hs : Region.noSelect ops = true) (hf : Region.free md ops listed i = true) (hr : (Region.ready md ops listed).contains i = true)
    (hQ : ∀ c a w, Q (.panic c) (a.put oi.dst v) w → Q (.panic c) a w) (hS : S w) (hy : YieldsIf P ops S oi v ⟨tmps, ds⟩)
    (h : wpAnyH P md ops Q S fuel (listed.setIfInBounds i true) ⟨tmps.setIfInBounds d v, ds⟩ w) : wpAnyH P md ops Q S (fuel + 1) listed ⟨tmps, ds⟩ w := by
  refine wpAnyH_take hi hs hf hr hQ hy hS ?_
  rw [hd]
  exact h
theorem num_ok (x : Int) (w : World) : Calls Try.prog 5 #[.int .i64 x] w fun e w' => e = .returned (.int .i64 x) ∧ w' = w := by
  go_enter Try.func5, Try.ntmps5
  go_wp2
  go_ret
  exact ⟨rfl, rfl⟩
set_option maxHeartbeats 4000000 in
set_option maxRecDepth 100000 in
theorem choose_ok (wa sa wb sb : Int) (a0 b0 : Bool) (a1 b1 : Int) (a3 a4 a5 a6 a7 b3 b4 b5 b6 b7 : ByteArray) (p q : Bool) (w : World) :
    Calls Try.prog 4 #[.agg #[.int .i64 wa, .bool a0, .int .i64 a1, .int .u64 sa, .string a3, .string a4, .string a5, .string a6, .string a7, .int .i64 wb, .bool b0, .int .i64 b1, .int .u64 sb, .string b3, .string b4, .string b5, .string b6, .string b7], .bool p, .bool q] w fun e w' => e = .returned (.tuple #[.int .i64 (chV (p && wa == 0) (q && wb == 0) sa sb).1, .int .i64 (chV (p && wa == 0) (q && wb == 0) sa sb).2]) ∧ Below w.heap.size w w' := by
  go_enter Try.func4, Try.ntmps4
  go_wp2
  all_goals go_ret2
  all_goals (refine ⟨?_, (Below.refl _ w).alloc (Nat.le_refl _) _⟩)
  all_goals (simp only [chV]; first | (simp [*]; done) | (simp [*]; split <;> first | (exfalso; omega) | simp))
set_option maxHeartbeats 4000000 in
set_option maxRecDepth 100000 in
theorem rchoose_ok (wa sa wb sb : Int) (a0 b0 : Bool) (a1 b1 : Int) (a3 a4 a5 a6 a7 b3 b4 b5 b6 b7 : ByteArray) (p q : Bool) (w : World) :
    Calls Try.prog 6 #[.agg #[.int .i64 wa, .bool a0, .int .i64 a1, .int .u64 sa, .string a3, .string a4, .string a5, .string a6, .string a7], .agg #[.int .i64 wb, .bool b0, .int .i64 b1, .int .u64 sb, .string b3, .string b4, .string b5, .string b6, .string b7], .bool p, .bool q] w fun e w' => e = .returned (.tuple #[.int .i64 (chV (p && wa == 0) (q && wb == 0) sa sb).1, .int .i64 (chV (p && wa == 0) (q && wb == 0) sa sb).2]) ∧ Below w.heap.size w w' := by
  go_enter Try.func6, Try.ntmps6
  go_wp2
  all_goals go_ret2
  all_goals (refine ⟨?_, ((Below.refl _ w).alloc (Nat.le_refl _) _).alloc (by simp) _⟩)
  all_goals (simp only [chV]; first | (simp [*]; done) | (simp [*]; split <;> first | (exfalso; omega) | simp))
set_option maxHeartbeats 4000000 in
set_option maxRecDepth 100000 in
theorem law_ok (wa sa wb sb : Int) (a0 b0 : Bool) (a1 b1 : Int) (a3 a4 a5 a6 a7 b3 b4 b5 b6 b7 : ByteArray) (p q : Bool) (w : World) :
    Calls Try.prog 3 #[.agg #[.int .i64 wa, .bool a0, .int .i64 a1, .int .u64 sa, .string a3, .string a4, .string a5, .string a6, .string a7], .agg #[.int .i64 wb, .bool b0, .int .i64 b1, .int .u64 sb, .string b3, .string b4, .string b5, .string b6, .string b7], .bool p, .bool q] w fun e w' => e = .returned (.bool true) ∧ Below w.heap.size w w' := by
  obtain ⟨r1, r2, HR⟩ : ∃ r1 r2, Hid ((chV (p && wa == 0) (q && wb == 0) sa sb) = (r1, r2)) := ⟨_, _, rfl⟩
  have K4 : Hid (∀ u, Calls Try.prog 4 #[.agg #[.int .i64 wa, .bool a0, .int .i64 a1, .int .u64 sa, .string a3, .string a4, .string a5, .string a6, .string a7, .int .i64 wb, .bool b0, .int .i64 b1, .int .u64 sb, .string b3, .string b4, .string b5, .string b6, .string b7], .bool p, .bool q] u fun e w' => e = .returned (.tuple #[.int .i64 r1, .int .i64 r2]) ∧ Below u.heap.size u w') := fun u => by have h := choose_ok wa sa wb sb a0 b0 a1 b1 a3 a4 a5 a6 a7 b3 b4 b5 b6 b7 p q u; rw [HR.out] at h; exact h
  have K6 : Hid (∀ u, Calls Try.prog 6 #[.agg #[.int .i64 wa, .bool a0, .int .i64 a1, .int .u64 sa, .string a3, .string a4, .string a5, .string a6, .string a7], .agg #[.int .i64 wb, .bool b0, .int .i64 b1, .int .u64 sb, .string b3, .string b4, .string b5, .string b6, .string b7], .bool p, .bool q] u fun e w' => e = .returned (.tuple #[.int .i64 r1, .int .i64 r2]) ∧ Below u.heap.size u w') := fun u => by have h := rchoose_ok wa sa wb sb a0 b0 a1 b1 a3 a4 a5 a6 a7 b3 b4 b5 b6 b7 p q u; rw [HR.out] at h; exact h
  clear HR
  go_enter Try.func3, Try.ntmps3
  go_wp2_with (go_at_call 4; refine (K4.out _).mono ?_)
  rintro e w1 ⟨rfl, hb1⟩
  have ka0 : w1.cell? ⟨w.heap.size, 0, none⟩ = some (.int .i64 wa) := by rw [hb1.cell (show w.heap.size < _ by simp; omega), World.cell?_alloc_lt _ _ _ (show w.heap.size < _ by simp)]; exact World.cell?_alloc_at _ 27 _ _ rfl
  have ka1 : w1.cell? ⟨w.heap.size, 1, none⟩ = some (.bool a0) := by rw [hb1.cell (show w.heap.size < _ by simp; omega), World.cell?_alloc_lt _ _ _ (show w.heap.size < _ by simp)]; exact World.cell?_alloc_at _ 27 _ _ rfl
  have ka2 : w1.cell? ⟨w.heap.size, 2, none⟩ = some (.int .i64 a1) := by rw [hb1.cell (show w.heap.size < _ by simp; omega), World.cell?_alloc_lt _ _ _ (show w.heap.size < _ by simp)]; exact World.cell?_alloc_at _ 27 _ _ rfl
  have ka3 : w1.cell? ⟨w.heap.size, 3, none⟩ = some (.int .u64 sa) := by rw [hb1.cell (show w.heap.size < _ by simp; omega), World.cell?_alloc_lt _ _ _ (show w.heap.size < _ by simp)]; exact World.cell?_alloc_at _ 27 _ _ rfl
  have ka4 : w1.cell? ⟨w.heap.size, 4, none⟩ = some (.string a3) := by rw [hb1.cell (show w.heap.size < _ by simp; omega), World.cell?_alloc_lt _ _ _ (show w.heap.size < _ by simp)]; exact World.cell?_alloc_at _ 27 _ _ rfl
  have ka5 : w1.cell? ⟨w.heap.size, 5, none⟩ = some (.string a4) := by rw [hb1.cell (show w.heap.size < _ by simp; omega), World.cell?_alloc_lt _ _ _ (show w.heap.size < _ by simp)]; exact World.cell?_alloc_at _ 27 _ _ rfl
  have ka6 : w1.cell? ⟨w.heap.size, 6, none⟩ = some (.string a5) := by rw [hb1.cell (show w.heap.size < _ by simp; omega), World.cell?_alloc_lt _ _ _ (show w.heap.size < _ by simp)]; exact World.cell?_alloc_at _ 27 _ _ rfl
  have ka7 : w1.cell? ⟨w.heap.size, 7, none⟩ = some (.string a6) := by rw [hb1.cell (show w.heap.size < _ by simp; omega), World.cell?_alloc_lt _ _ _ (show w.heap.size < _ by simp)]; exact World.cell?_alloc_at _ 27 _ _ rfl
  have ka8 : w1.cell? ⟨w.heap.size, 8, none⟩ = some (.string a7) := by rw [hb1.cell (show w.heap.size < _ by simp; omega), World.cell?_alloc_lt _ _ _ (show w.heap.size < _ by simp)]; exact World.cell?_alloc_at _ 27 _ _ rfl
  have kb0 : w1.cell? ⟨w.heap.size + 1, 0, none⟩ = some (.int .i64 wb) := by rw [hb1.cell (show w.heap.size + 1 < _ by simp)]; exact World.cell?_alloc_at _ 27 _ _ (by simp)
  have kb1 : w1.cell? ⟨w.heap.size + 1, 1, none⟩ = some (.bool b0) := by rw [hb1.cell (show w.heap.size + 1 < _ by simp)]; exact World.cell?_alloc_at _ 27 _ _ (by simp)
  have kb2 : w1.cell? ⟨w.heap.size + 1, 2, none⟩ = some (.int .i64 b1) := by rw [hb1.cell (show w.heap.size + 1 < _ by simp)]; exact World.cell?_alloc_at _ 27 _ _ (by simp)
  have kb3 : w1.cell? ⟨w.heap.size + 1, 3, none⟩ = some (.int .u64 sb) := by rw [hb1.cell (show w.heap.size + 1 < _ by simp)]; exact World.cell?_alloc_at _ 27 _ _ (by simp)
  have kb4 : w1.cell? ⟨w.heap.size + 1, 4, none⟩ = some (.string b3) := by rw [hb1.cell (show w.heap.size + 1 < _ by simp)]; exact World.cell?_alloc_at _ 27 _ _ (by simp)
  have kb5 : w1.cell? ⟨w.heap.size + 1, 5, none⟩ = some (.string b4) := by rw [hb1.cell (show w.heap.size + 1 < _ by simp)]; exact World.cell?_alloc_at _ 27 _ _ (by simp)
  have kb6 : w1.cell? ⟨w.heap.size + 1, 6, none⟩ = some (.string b5) := by rw [hb1.cell (show w.heap.size + 1 < _ by simp)]; exact World.cell?_alloc_at _ 27 _ _ (by simp)
  have kb7 : w1.cell? ⟨w.heap.size + 1, 7, none⟩ = some (.string b6) := by rw [hb1.cell (show w.heap.size + 1 < _ by simp)]; exact World.cell?_alloc_at _ 27 _ _ (by simp)
  have kb8 : w1.cell? ⟨w.heap.size + 1, 8, none⟩ = some (.string b7) := by rw [hb1.cell (show w.heap.size + 1 < _ by simp)]; exact World.cell?_alloc_at _ 27 _ _ (by simp)
  have HB1 : Hid (Below w.heap.size w w1 ∧ w.heap.size + 2 ≤ w1.heap.size) := by
    refine ⟨(((Below.refl _ w).alloc (Nat.le_refl _) _).alloc (by simp) _).trans (hb1.mono (by simp; omega)), ?_⟩
    have h := hb1.size
    simp at h
    omega
  clear hb1
  have hna : w.heap.size ≠ w1.heap.size := by have := HB1.out.2; omega
  have hnb : w.heap.size + 1 ≠ w1.heap.size := by have := HB1.out.2; omega
  go_upto_region 2 with fail
  go_cut [11] from 16 (fun v wx => v = .pointer (some ⟨w1.heap.size, 0, none⟩) ∧ wx = (w1.alloc (.cells #[.int .i64 wa, .bool a0, .int .i64 a1, .int .u64 sa, .string a3, .string a4, .string a5, .string a6, .string a7] 34)).drew)
  case first =>
    have hS0 : Below w1.heap.size w1 w1.drew := (Below.refl _ _).drew
    refine wp_region_noPanic ?_
    refine wp_region_held_drew (S := fun u => Below w1.heap.size w1 u) (by kernel_rfl) (hS0) (fun _ => ?_)
    refine takeH_at 0 24 (.pointer (some ⟨w.heap.size, 0, none⟩)) rfl rfl (by kernel_rfl) (by kernel_rfl) (by kernel_rfl) (fun _ _ _ h => h) (hS0) (Or.inl ⟨by kernel_rfl, fun w' hS' => by go_simp⟩) ?_
    simp only [List.setIfInBounds_toArray, List.set_cons_zero, List.set_cons_succ]
    refine takeH_at 1 25 (.int .i64 wa) rfl rfl (by kernel_rfl) (by kernel_rfl) (by kernel_rfl) (fun _ _ _ h => h) (hS0) (Or.inl ⟨by kernel_rfl, fun w' hS' => by have q0 : w'.cell? ⟨w.heap.size, 0, none⟩ = some (.int .i64 wa) := (hS'.cell (show w.heap.size < _ by have := HB1.out.2; omega)).trans ka0; go_simp⟩) ?_
    simp only [List.setIfInBounds_toArray, List.set_cons_zero, List.set_cons_succ]
    refine takeH_at 3 27 (.pointer (some ⟨w.heap.size, 1, none⟩)) rfl rfl (by kernel_rfl) (by kernel_rfl) (by kernel_rfl) (fun _ _ _ h => h) (hS0) (Or.inl ⟨by kernel_rfl, fun w' hS' => by go_simp⟩) ?_
    simp only [List.setIfInBounds_toArray, List.set_cons_zero, List.set_cons_succ]
    refine takeH_at 4 28 (.agg #[.bool a0, .int .i64 a1, .int .u64 sa, .string a3, .string a4, .string a5, .string a6, .string a7]) rfl rfl (by kernel_rfl) (by kernel_rfl) (by kernel_rfl) (fun _ _ _ h => h) (hS0) (Or.inl ⟨by kernel_rfl, fun w' hS' => by have q1 : w'.cell? ⟨w.heap.size, 1, none⟩ = some (.bool a0) := (hS'.cell (show w.heap.size < _ by have := HB1.out.2; omega)).trans ka1; have q2 : w'.cell? ⟨w.heap.size, 2, none⟩ = some (.int .i64 a1) := (hS'.cell (show w.heap.size < _ by have := HB1.out.2; omega)).trans ka2; have q3 : w'.cell? ⟨w.heap.size, 3, none⟩ = some (.int .u64 sa) := (hS'.cell (show w.heap.size < _ by have := HB1.out.2; omega)).trans ka3; have q4 : w'.cell? ⟨w.heap.size, 4, none⟩ = some (.string a3) := (hS'.cell (show w.heap.size < _ by have := HB1.out.2; omega)).trans ka4; have q5 : w'.cell? ⟨w.heap.size, 5, none⟩ = some (.string a4) := (hS'.cell (show w.heap.size < _ by have := HB1.out.2; omega)).trans ka5; have q6 : w'.cell? ⟨w.heap.size, 6, none⟩ = some (.string a5) := (hS'.cell (show w.heap.size < _ by have := HB1.out.2; omega)).trans ka6; have q7 : w'.cell? ⟨w.heap.size, 7, none⟩ = some (.string a6) := (hS'.cell (show w.heap.size < _ by have := HB1.out.2; omega)).trans ka7; have q8 : w'.cell? ⟨w.heap.size, 8, none⟩ = some (.string a7) := (hS'.cell (show w.heap.size < _ by have := HB1.out.2; omega)).trans ka8; go_simp⟩) ?_
    simp only [List.setIfInBounds_toArray, List.set_cons_zero, List.set_cons_succ]
    refine wpAnyH_ready (rs := [2, 6]) (by kernel_rfl) (by simp) ?_
    refine AllReadyH.cons rfl (fun K hK => ?_) (AllReadyH.cons rfl (fun K hK => ?_) AllReadyH.nil)
    · skip
      go_simp
      refine (num_ok _ _).mono ?_
      rintro e1 u' ⟨rfl, rfl⟩
      go_wp2_with fail
      refine hK.out _ _ hS0 (fun _ => ?_)
      clear hK K
      try simp only [List.setIfInBounds_toArray, List.set_cons_zero, List.set_cons_succ]
      refine takeH_at 5 29 (.agg #[.int .i64 wa, .bool a0, .int .i64 a1, .int .u64 sa, .string a3, .string a4, .string a5, .string a6, .string a7]) rfl rfl (by kernel_rfl) (by kernel_rfl) (by kernel_rfl) (fun _ _ _ h => h) (hS0) (Or.inl ⟨by kernel_rfl, fun w' hS' => by go_simp⟩) ?_
      simp only [List.setIfInBounds_toArray, List.set_cons_zero, List.set_cons_succ]
      refine wpAnyH_ready (rs := [6]) (by kernel_rfl) (by simp) ?_
      refine AllReadyH.cons rfl (fun K hK => ?_) AllReadyH.nil
      go_simp
      have hS1 : Below w1.heap.size w1 (World.alloc w1.drew (.cells #[.int .i64 0, .bool false, .int .i64 0, .int .u64 0, .string ⟨#[]⟩, .string ⟨#[]⟩, .string ⟨#[]⟩, .string ⟨#[]⟩, .string ⟨#[]⟩] 34)) := (hS0).alloc (hS0).size _
      refine hK.out _ _ hS1 (fun _ => ?_)
      clear hK K
      try simp only [List.setIfInBounds_toArray, List.set_cons_zero, List.set_cons_succ]
      refine wpAnyH_ready (rs := [7]) (by kernel_rfl) (by simp) ?_
      refine AllReadyH.cons rfl (fun K hK => ?_) AllReadyH.nil
      go_simp
      refine hK.out _ _ ((hS0).alloc (hS0).size _) (fun _ => ?_)
      clear hK K
      refine wpAnyH_done (by kernel_rfl) ?_ _
      refine NoPanic.normal ?_
      go_wp2_with fail
      go_meet
      exact ⟨rfl, rfl⟩
    · skip
      go_simp
      have hS1 : Below w1.heap.size w1 (World.alloc w1.drew (.cells #[.int .i64 0, .bool false, .int .i64 0, .int .u64 0, .string ⟨#[]⟩, .string ⟨#[]⟩, .string ⟨#[]⟩, .string ⟨#[]⟩, .string ⟨#[]⟩] 34)) := (hS0).alloc (hS0).size _
      refine hK.out _ _ hS1 (fun _ => ?_)
      clear hK K
      try simp only [List.setIfInBounds_toArray, List.set_cons_zero, List.set_cons_succ]
      refine wpAnyH_ready (rs := [2]) (by kernel_rfl) (by simp) ?_
      refine AllReadyH.cons rfl (fun K hK => ?_) AllReadyH.nil
      go_simp
      refine (num_ok _ _).mono ?_
      rintro e1 u' ⟨rfl, rfl⟩
      go_wp2_with fail
      refine hK.out _ _ hS1 (fun _ => ?_)
      clear hK K
      try simp only [List.setIfInBounds_toArray, List.set_cons_zero, List.set_cons_succ]
      refine takeH_at 5 29 (.agg #[.int .i64 wa, .bool a0, .int .i64 a1, .int .u64 sa, .string a3, .string a4, .string a5, .string a6, .string a7]) rfl rfl (by kernel_rfl) (by kernel_rfl) (by kernel_rfl) (fun _ _ _ h => h) (hS1) (Or.inl ⟨by kernel_rfl, fun w' hS' => by go_simp⟩) ?_
      simp only [List.setIfInBounds_toArray, List.set_cons_zero, List.set_cons_succ]
      refine wpAnyH_ready (rs := [7]) (by kernel_rfl) (by simp) ?_
      refine AllReadyH.cons rfl (fun K hK => ?_) AllReadyH.nil
      go_simp
      refine hK.out _ _ ((hS0).alloc (hS0).size _) (fun _ => ?_)
      clear hK K
      refine wpAnyH_done (by kernel_rfl) ?_ _
      refine NoPanic.normal ?_
      go_wp2_with fail
      go_meet
      exact ⟨rfl, rfl⟩
  case rest =>
    obtain ⟨rfl, rfl⟩ := hcut
    have HW2 : Hid (Below w1.heap.size w1 ((w1.alloc (.cells #[.int .i64 wa, .bool a0, .int .i64 a1, .int .u64 sa, .string a3, .string a4, .string a5, .string a6, .string a7] 34)).drew) ∧ (w1.alloc (.cells #[.int .i64 wa, .bool a0, .int .i64 a1, .int .u64 sa, .string a3, .string a4, .string a5, .string a6, .string a7] 34)).drew.heap.size = w1.heap.size + 1 ∧ ∀ j v, [.int .i64 wa, .bool a0, .int .i64 a1, .int .u64 sa, .string a3, .string a4, .string a5, .string a6, .string a7][j]? = some v → (w1.alloc (.cells #[.int .i64 wa, .bool a0, .int .i64 a1, .int .u64 sa, .string a3, .string a4, .string a5, .string a6, .string a7] 34)).drew.cell? ⟨w1.heap.size, j, none⟩ = some v) := by
      refine ⟨((Below.refl _ w1).alloc (Nat.le_refl _) _).drew, by simp, fun j v hv => ?_⟩
      show (w1.alloc _).cell? _ = _
      rw [World.cell?_alloc_at _ 34 _ _ rfl]
      simpa using hv
    generalize (w1.alloc (.cells #[.int .i64 wa, .bool a0, .int .i64 a1, .int .u64 sa, .string a3, .string a4, .string a5, .string a6, .string a7] 34)).drew = w2 at HW2 ⊢
    have kb0 : w2.cell? ⟨w.heap.size + 1, 0, none⟩ = some (.int .i64 wb) := by rw [HW2.out.1.cell (show w.heap.size + 1 < _ by have := HB1.out.2; omega)]; exact kb0
    have kb1 : w2.cell? ⟨w.heap.size + 1, 1, none⟩ = some (.bool b0) := by rw [HW2.out.1.cell (show w.heap.size + 1 < _ by have := HB1.out.2; omega)]; exact kb1
    have kb2 : w2.cell? ⟨w.heap.size + 1, 2, none⟩ = some (.int .i64 b1) := by rw [HW2.out.1.cell (show w.heap.size + 1 < _ by have := HB1.out.2; omega)]; exact kb2
    have kb3 : w2.cell? ⟨w.heap.size + 1, 3, none⟩ = some (.int .u64 sb) := by rw [HW2.out.1.cell (show w.heap.size + 1 < _ by have := HB1.out.2; omega)]; exact kb3
    have kb4 : w2.cell? ⟨w.heap.size + 1, 4, none⟩ = some (.string b3) := by rw [HW2.out.1.cell (show w.heap.size + 1 < _ by have := HB1.out.2; omega)]; exact kb4
    have kb5 : w2.cell? ⟨w.heap.size + 1, 5, none⟩ = some (.string b4) := by rw [HW2.out.1.cell (show w.heap.size + 1 < _ by have := HB1.out.2; omega)]; exact kb5
    have kb6 : w2.cell? ⟨w.heap.size + 1, 6, none⟩ = some (.string b5) := by rw [HW2.out.1.cell (show w.heap.size + 1 < _ by have := HB1.out.2; omega)]; exact kb6
    have kb7 : w2.cell? ⟨w.heap.size + 1, 7, none⟩ = some (.string b6) := by rw [HW2.out.1.cell (show w.heap.size + 1 < _ by have := HB1.out.2; omega)]; exact kb7
    have kb8 : w2.cell? ⟨w.heap.size + 1, 8, none⟩ = some (.string b7) := by rw [HW2.out.1.cell (show w.heap.size + 1 < _ by have := HB1.out.2; omega)]; exact kb8
    have hma : w.heap.size ≠ w2.heap.size := by have := HB1.out.2; have := HW2.out.2.1; omega
    have hmb : w.heap.size + 1 ≠ w2.heap.size := by have := HB1.out.2; have := HW2.out.2.1; omega
    have hmc : w1.heap.size ≠ w2.heap.size := by have := HB1.out.2; have := HW2.out.2.1; omega
    go_upto_region 3 with fail
    go_cut [12] from 30 (fun v wx => v = .pointer (some ⟨w2.heap.size, 0, none⟩) ∧ wx = (w2.alloc (.cells #[.int .i64 wb, .bool b0, .int .i64 b1, .int .u64 sb, .string b3, .string b4, .string b5, .string b6, .string b7] 34)).drew)
    case first =>
      have hS0 : Below w2.heap.size w2 w2.drew := (Below.refl _ _).drew
      refine wp_region_noPanic ?_
      refine wp_region_held_drew (S := fun u => Below w2.heap.size w2 u) (by kernel_rfl) (hS0) (fun _ => ?_)
      refine takeH_at 0 30 (.pointer (some ⟨w.heap.size + 1, 0, none⟩)) rfl rfl (by kernel_rfl) (by kernel_rfl) (by kernel_rfl) (fun _ _ _ h => h) (hS0) (Or.inl ⟨by kernel_rfl, fun w' hS' => by go_simp⟩) ?_
      simp only [List.setIfInBounds_toArray, List.set_cons_zero, List.set_cons_succ]
      refine takeH_at 1 31 (.int .i64 wb) rfl rfl (by kernel_rfl) (by kernel_rfl) (by kernel_rfl) (fun _ _ _ h => h) (hS0) (Or.inl ⟨by kernel_rfl, fun w' hS' => by have q0 : w'.cell? ⟨w.heap.size + 1, 0, none⟩ = some (.int .i64 wb) := (hS'.cell (show w.heap.size + 1 < _ by have := HB1.out.2; have := HW2.out.2.1; omega)).trans kb0; go_simp⟩) ?_
      simp only [List.setIfInBounds_toArray, List.set_cons_zero, List.set_cons_succ]
      refine takeH_at 3 33 (.pointer (some ⟨w.heap.size + 1, 1, none⟩)) rfl rfl (by kernel_rfl) (by kernel_rfl) (by kernel_rfl) (fun _ _ _ h => h) (hS0) (Or.inl ⟨by kernel_rfl, fun w' hS' => by go_simp⟩) ?_
      simp only [List.setIfInBounds_toArray, List.set_cons_zero, List.set_cons_succ]
      refine takeH_at 4 34 (.agg #[.bool b0, .int .i64 b1, .int .u64 sb, .string b3, .string b4, .string b5, .string b6, .string b7]) rfl rfl (by kernel_rfl) (by kernel_rfl) (by kernel_rfl) (fun _ _ _ h => h) (hS0) (Or.inl ⟨by kernel_rfl, fun w' hS' => by have q1 : w'.cell? ⟨w.heap.size + 1, 1, none⟩ = some (.bool b0) := (hS'.cell (show w.heap.size + 1 < _ by have := HB1.out.2; have := HW2.out.2.1; omega)).trans kb1; have q2 : w'.cell? ⟨w.heap.size + 1, 2, none⟩ = some (.int .i64 b1) := (hS'.cell (show w.heap.size + 1 < _ by have := HB1.out.2; have := HW2.out.2.1; omega)).trans kb2; have q3 : w'.cell? ⟨w.heap.size + 1, 3, none⟩ = some (.int .u64 sb) := (hS'.cell (show w.heap.size + 1 < _ by have := HB1.out.2; have := HW2.out.2.1; omega)).trans kb3; have q4 : w'.cell? ⟨w.heap.size + 1, 4, none⟩ = some (.string b3) := (hS'.cell (show w.heap.size + 1 < _ by have := HB1.out.2; have := HW2.out.2.1; omega)).trans kb4; have q5 : w'.cell? ⟨w.heap.size + 1, 5, none⟩ = some (.string b4) := (hS'.cell (show w.heap.size + 1 < _ by have := HB1.out.2; have := HW2.out.2.1; omega)).trans kb5; have q6 : w'.cell? ⟨w.heap.size + 1, 6, none⟩ = some (.string b5) := (hS'.cell (show w.heap.size + 1 < _ by have := HB1.out.2; have := HW2.out.2.1; omega)).trans kb6; have q7 : w'.cell? ⟨w.heap.size + 1, 7, none⟩ = some (.string b6) := (hS'.cell (show w.heap.size + 1 < _ by have := HB1.out.2; have := HW2.out.2.1; omega)).trans kb7; have q8 : w'.cell? ⟨w.heap.size + 1, 8, none⟩ = some (.string b7) := (hS'.cell (show w.heap.size + 1 < _ by have := HB1.out.2; have := HW2.out.2.1; omega)).trans kb8; go_simp⟩) ?_
      simp only [List.setIfInBounds_toArray, List.set_cons_zero, List.set_cons_succ]
      refine wpAnyH_ready (rs := [2, 6]) (by kernel_rfl) (by simp) ?_
      refine AllReadyH.cons rfl (fun K hK => ?_) (AllReadyH.cons rfl (fun K hK => ?_) AllReadyH.nil)
      · skip
        go_simp
        refine (num_ok _ _).mono ?_
        rintro e1 u' ⟨rfl, rfl⟩
        go_wp2_with fail
        refine hK.out _ _ hS0 (fun _ => ?_)
        clear hK K
        try simp only [List.setIfInBounds_toArray, List.set_cons_zero, List.set_cons_succ]
        refine takeH_at 5 35 (.agg #[.int .i64 wb, .bool b0, .int .i64 b1, .int .u64 sb, .string b3, .string b4, .string b5, .string b6, .string b7]) rfl rfl (by kernel_rfl) (by kernel_rfl) (by kernel_rfl) (fun _ _ _ h => h) (hS0) (Or.inl ⟨by kernel_rfl, fun w' hS' => by go_simp⟩) ?_
        simp only [List.setIfInBounds_toArray, List.set_cons_zero, List.set_cons_succ]
        refine wpAnyH_ready (rs := [6]) (by kernel_rfl) (by simp) ?_
        refine AllReadyH.cons rfl (fun K hK => ?_) AllReadyH.nil
        go_simp
        have hS1 : Below w2.heap.size w2 (World.alloc w2.drew (.cells #[.int .i64 0, .bool false, .int .i64 0, .int .u64 0, .string ⟨#[]⟩, .string ⟨#[]⟩, .string ⟨#[]⟩, .string ⟨#[]⟩, .string ⟨#[]⟩] 34)) := (hS0).alloc (hS0).size _
        refine hK.out _ _ hS1 (fun _ => ?_)
        clear hK K
        try simp only [List.setIfInBounds_toArray, List.set_cons_zero, List.set_cons_succ]
        refine wpAnyH_ready (rs := [7]) (by kernel_rfl) (by simp) ?_
        refine AllReadyH.cons rfl (fun K hK => ?_) AllReadyH.nil
        go_simp
        refine hK.out _ _ ((hS0).alloc (hS0).size _) (fun _ => ?_)
        clear hK K
        refine wpAnyH_done (by kernel_rfl) ?_ _
        refine NoPanic.normal ?_
        go_wp2_with fail
        go_meet
        exact ⟨rfl, rfl⟩
      · skip
        go_simp
        have hS1 : Below w2.heap.size w2 (World.alloc w2.drew (.cells #[.int .i64 0, .bool false, .int .i64 0, .int .u64 0, .string ⟨#[]⟩, .string ⟨#[]⟩, .string ⟨#[]⟩, .string ⟨#[]⟩, .string ⟨#[]⟩] 34)) := (hS0).alloc (hS0).size _
        refine hK.out _ _ hS1 (fun _ => ?_)
        clear hK K
        try simp only [List.setIfInBounds_toArray, List.set_cons_zero, List.set_cons_succ]
        refine wpAnyH_ready (rs := [2]) (by kernel_rfl) (by simp) ?_
        refine AllReadyH.cons rfl (fun K hK => ?_) AllReadyH.nil
        go_simp
        refine (num_ok _ _).mono ?_
        rintro e1 u' ⟨rfl, rfl⟩
        go_wp2_with fail
        refine hK.out _ _ hS1 (fun _ => ?_)
        clear hK K
        try simp only [List.setIfInBounds_toArray, List.set_cons_zero, List.set_cons_succ]
        refine takeH_at 5 35 (.agg #[.int .i64 wb, .bool b0, .int .i64 b1, .int .u64 sb, .string b3, .string b4, .string b5, .string b6, .string b7]) rfl rfl (by kernel_rfl) (by kernel_rfl) (by kernel_rfl) (fun _ _ _ h => h) (hS1) (Or.inl ⟨by kernel_rfl, fun w' hS' => by go_simp⟩) ?_
        simp only [List.setIfInBounds_toArray, List.set_cons_zero, List.set_cons_succ]
        refine wpAnyH_ready (rs := [7]) (by kernel_rfl) (by simp) ?_
        refine AllReadyH.cons rfl (fun K hK => ?_) AllReadyH.nil
        go_simp
        refine hK.out _ _ ((hS0).alloc (hS0).size _) (fun _ => ?_)
        clear hK K
        refine wpAnyH_done (by kernel_rfl) ?_ _
        refine NoPanic.normal ?_
        go_wp2_with fail
        go_meet
        exact ⟨rfl, rfl⟩
    case rest =>
      obtain ⟨rfl, rfl⟩ := hcut
      have qa0 : ((w2.alloc (.cells #[.int .i64 wb, .bool b0, .int .i64 b1, .int .u64 sb, .string b3, .string b4, .string b5, .string b6, .string b7] 34)).drew).cell? ⟨w1.heap.size, 0, none⟩ = some (.int .i64 wa) := by show (w2.alloc _).cell? _ = _; rw [World.cell?_alloc_lt _ _ _ (show w1.heap.size < _ by have := HW2.out.2.1; omega)]; exact HW2.out.2.2 0 _ rfl
      have qa1 : ((w2.alloc (.cells #[.int .i64 wb, .bool b0, .int .i64 b1, .int .u64 sb, .string b3, .string b4, .string b5, .string b6, .string b7] 34)).drew).cell? ⟨w1.heap.size, 1, none⟩ = some (.bool a0) := by show (w2.alloc _).cell? _ = _; rw [World.cell?_alloc_lt _ _ _ (show w1.heap.size < _ by have := HW2.out.2.1; omega)]; exact HW2.out.2.2 1 _ rfl
      have qa2 : ((w2.alloc (.cells #[.int .i64 wb, .bool b0, .int .i64 b1, .int .u64 sb, .string b3, .string b4, .string b5, .string b6, .string b7] 34)).drew).cell? ⟨w1.heap.size, 2, none⟩ = some (.int .i64 a1) := by show (w2.alloc _).cell? _ = _; rw [World.cell?_alloc_lt _ _ _ (show w1.heap.size < _ by have := HW2.out.2.1; omega)]; exact HW2.out.2.2 2 _ rfl
      have qa3 : ((w2.alloc (.cells #[.int .i64 wb, .bool b0, .int .i64 b1, .int .u64 sb, .string b3, .string b4, .string b5, .string b6, .string b7] 34)).drew).cell? ⟨w1.heap.size, 3, none⟩ = some (.int .u64 sa) := by show (w2.alloc _).cell? _ = _; rw [World.cell?_alloc_lt _ _ _ (show w1.heap.size < _ by have := HW2.out.2.1; omega)]; exact HW2.out.2.2 3 _ rfl
      have qa4 : ((w2.alloc (.cells #[.int .i64 wb, .bool b0, .int .i64 b1, .int .u64 sb, .string b3, .string b4, .string b5, .string b6, .string b7] 34)).drew).cell? ⟨w1.heap.size, 4, none⟩ = some (.string a3) := by show (w2.alloc _).cell? _ = _; rw [World.cell?_alloc_lt _ _ _ (show w1.heap.size < _ by have := HW2.out.2.1; omega)]; exact HW2.out.2.2 4 _ rfl
      have qa5 : ((w2.alloc (.cells #[.int .i64 wb, .bool b0, .int .i64 b1, .int .u64 sb, .string b3, .string b4, .string b5, .string b6, .string b7] 34)).drew).cell? ⟨w1.heap.size, 5, none⟩ = some (.string a4) := by show (w2.alloc _).cell? _ = _; rw [World.cell?_alloc_lt _ _ _ (show w1.heap.size < _ by have := HW2.out.2.1; omega)]; exact HW2.out.2.2 5 _ rfl
      have qa6 : ((w2.alloc (.cells #[.int .i64 wb, .bool b0, .int .i64 b1, .int .u64 sb, .string b3, .string b4, .string b5, .string b6, .string b7] 34)).drew).cell? ⟨w1.heap.size, 6, none⟩ = some (.string a5) := by show (w2.alloc _).cell? _ = _; rw [World.cell?_alloc_lt _ _ _ (show w1.heap.size < _ by have := HW2.out.2.1; omega)]; exact HW2.out.2.2 6 _ rfl
      have qa7 : ((w2.alloc (.cells #[.int .i64 wb, .bool b0, .int .i64 b1, .int .u64 sb, .string b3, .string b4, .string b5, .string b6, .string b7] 34)).drew).cell? ⟨w1.heap.size, 7, none⟩ = some (.string a6) := by show (w2.alloc _).cell? _ = _; rw [World.cell?_alloc_lt _ _ _ (show w1.heap.size < _ by have := HW2.out.2.1; omega)]; exact HW2.out.2.2 7 _ rfl
      have qa8 : ((w2.alloc (.cells #[.int .i64 wb, .bool b0, .int .i64 b1, .int .u64 sb, .string b3, .string b4, .string b5, .string b6, .string b7] 34)).drew).cell? ⟨w1.heap.size, 8, none⟩ = some (.string a7) := by show (w2.alloc _).cell? _ = _; rw [World.cell?_alloc_lt _ _ _ (show w1.heap.size < _ by have := HW2.out.2.1; omega)]; exact HW2.out.2.2 8 _ rfl
      go_wp2_with (go_at_call 6; refine (K6.out _).mono ?_)
      rintro e w3 ⟨rfl, hb3⟩
      go_wp2_with (go_at_call 5; refine (num_ok _ _).mono ?_; rintro e u ⟨rfl, rfl⟩)
      go_ret
      refine ⟨rfl, HB1.out.1.trans ((HW2.out.1.mono (by have := HB1.out.2; omega)).trans (((((Below.refl _ w2).alloc (Nat.le_refl _) _).drew).trans (hb3.mono (by simp))).mono (by have := HB1.out.2; have := HW2.out.2.1; omega)))⟩
end Go.Proofs.Ytfpdibenamdchaa
