import Derived.RangeFuncNested
import Derived.RangeFuncBound
import Derived.RangeFuncCalls
import Derived.RangeFuncLeaves
import Derived.Shelf.Abstract
import Derived.Shelf.RegionOpen
import Derived.WalkKit
import Derived.OwnWalkIn
import Derived.TacticsInMore
import Derived.LoopNIn
import Derived.LoopIn
import Derived.Maps.AppendAt
import Derived.Test.YtmfnhdflmnmooaaChecked
namespace Go.Proofs.Ytmfnhdflmnmooaa.Sx
open Go.RowKit Go.Shelf
set_option linter.unusedVariables false
attribute [local go_sem] Oper.semAt_some
/-- A segment: Start, Count, Epoch. -/
abbrev Sg := Nat × Nat × Nat
abbrev sgL (x : Sg) : List Value := [.int .u64 (x.1 : Nat), .int .u64 (x.2.1 : Nat), .int .u64 (x.2.2 : Nat)]
abbrev sgV (x : Sg) : Value := .agg #[.int .u64 (x.1 : Nat), .int .u64 (x.2.1 : Nat), .int .u64 (x.2.2 : Nat)]
def kept (xs : List Sg) : List Sg := xs.filter fun x => decide (0 < x.2.1)
theorem kept_hit (pre : List Sg) {x : Sg} (h : 0 < x.2.1) : kept (pre ++ [x]) = kept pre ++ [x] := by simp [kept, h]
theorem kept_miss (pre : List Sg) {x : Sg} (h : ¬ 0 < x.2.1) : kept (pre ++ [x]) = kept pre := by simp [kept, h]
def row2 (x y : Sg) (i : Nat) : List Sg := kept ([x, y].take i)
theorem row2_0 (x y : Sg) : row2 x y 0 = [] := by simp [row2, kept]
theorem row2_1 (x y : Sg) : row2 x y 1 = kept [x] := by simp [row2]
theorem row2_2 (x y : Sg) : row2 x y 2 = kept [x, y] := by simp [row2]
theorem hit1 {x : Sg} (h : 0 < x.2.1) : kept [x] = [x] := by simp [kept, h]
theorem miss1 {x : Sg} (h : ¬ 0 < x.2.1) : kept [x] = [] := by simp [kept, h]
theorem kept_len1 (x : Sg) : (kept [x]).length < 2 := Nat.lt_of_le_of_lt (List.length_filter_le _ _) (by simp)
theorem kept_two (x y : Sg) : kept [x, y] = kept [x] ++ kept [y] := by rw [show [x, y] = [x] ++ [y] from rfl, kept, kept, kept, List.filter_append]
set_option maxRecDepth 100000 in
set_option maxHeartbeats 2000000 in
theorem seg1_in (F : Fence) (n : Nat) (hf : F.fn 53) (hro : F.round = none) (hn : 1 ≤ n) (l g : Nat) (x y : Sg) (J Jx : List Sg → World → Prop) (Kp : World → World → Prop)
    (W : World) (hJ : AbidesFrom W.heap.size J)
    (hY : ∀ pre z W, J pre W → pre.length < 2 → YieldAt F (n - 1) Try.prog l #[sgV z] W fun e W' =>
      (e = .returned (.bool true) ∧ J (pre ++ [z]) W' ∧ Kp W W') ∨ (e = .returned (.bool false) ∧ Jx (pre ++ [z]) W'))
    (c0 : W.cell? ⟨g, 0, none⟩ = some (.int .u64 (x.1 : Nat))) (c1 : W.cell? ⟨g, 1, none⟩ = some (.int .u64 (x.2.1 : Nat))) (c2 : W.cell? ⟨g, 2, none⟩ = some (.int .u64 (x.2.2 : Nat)))
    (c3 : W.cell? ⟨g, 3, none⟩ = some (.int .u64 (y.1 : Nat))) (c4 : W.cell? ⟨g, 4, none⟩ = some (.int .u64 (y.2.1 : Nat))) (c5 : W.cell? ⟨g, 5, none⟩ = some (.int .u64 (y.2.2 : Nat)))
    (h0 : J [] W) :
    CallsIn F n Try.prog 53 #[.func (.yield l) #[] #[], .pointer (some ⟨g, 0, none⟩)] W fun e W' => (∃ v, e = .returned v) ∧
      ((∃ ys, ys = kept [x, y] ∧ J ys W') ∨ (∃ pre, pre <+: kept [x, y] ∧ Jx pre W')) := by
  refine callsIn_of_wp Try.func53 rfl hf ?_ hro
  simp only [Try.ntmps53, List.size_toArray, List.length_cons, List.length_nil, Nat.reduceAdd, Nat.reduceSub, Array.replicate_succ, Array.replicate_zero, List.push_toArray, List.append_toArray, List.nil_append, List.cons_append]
  gi_wp2
  gi_loopw [6] (fun vi wr => ∃ i : Nat, i ≤ 2 ∧ vi = .int .i64 (i : Nat) ∧ J (row2 x y i) wr) (fun vi _ => 2 - (intOf vi).toNat)
  case atStart => exact ⟨0, by omega, rfl, by rw [row2_0]; exact h0⟩
  case round =>
    obtain ⟨i, hi, rfl, hJs⟩ := hrel
    have hi3 : i = 0 ∨ i = 1 ∨ i = 2 := by omega
    rcases hi3 with rfl | rfl | rfl
    · have hix : (Instr.index 97 (.agg #[.int .u64 (x.1 : Nat), .int .u64 (x.2.1 : Nat), .int .u64 (x.2.2 : Nat), .int .u64 (y.1 : Nat), .int .u64 (y.2.1 : Nat), .int .u64 (y.2.2 : Nat)]) (.int .i64 0)).run Try.prog wr = .ok (.agg #[.int .u64 (x.1 : Nat), .int .u64 (x.2.1 : Nat), .int .u64 (x.2.2 : Nat)]) wr := by kernel_rfl
      have hJ1 := hJ _ _ (wr.alloc (.cells #[.int .u64 (x.1 : Nat), .int .u64 (x.2.1 : Nat), .int .u64 (x.2.2 : Nat)] 65)) none hJs (World.grownBy_alloc wr _ none) (fun r e => by cases e)
      by_cases hx : 0 < x.2.1
      · have q : decide ((0 : Int) < (x.2.1 : Nat)) = true := by simp; omega
        obtain ⟨fn, tmps, assign, body, hy, hR⟩ := hY _ x _ hJ1 (by rw [row2_0]; simp)
        gi_wp2
        refine hR.mono ?_
        rintro e W3 (⟨rfl, hJ3, hk3⟩ | ⟨rfl, hJx3⟩)
        · gi_wp2
          go_roundw
          case rel => exact ⟨1, by omega, by go_num, by rw [row2_1, hit1 hx]; rw [row2_0] at hJ3; exact hJ3⟩
          case measure => simp [intOf]
        · gi_wp2
          refine bodyPost_ret (results_none rfl _ _ _) rfl ?_
          exact ⟨⟨_, rfl⟩, .inr ⟨_, by rw [row2_0, kept_two, hit1 hx]; exact List.prefix_append _ _, hJx3⟩⟩
      · have q : decide ((0 : Int) < (x.2.1 : Nat)) = false := by simp; omega
        gi_wp2
        refine ⟨fun _ h => (by cases h), ?_⟩
        gi_wp2
        go_roundw
        case rel => exact ⟨1, by omega, by go_num, by rw [row2_1, miss1 hx]; rw [row2_0] at hJ1; exact hJ1⟩
        case measure => simp [intOf]
    · have hix : (Instr.index 97 (.agg #[.int .u64 (x.1 : Nat), .int .u64 (x.2.1 : Nat), .int .u64 (x.2.2 : Nat), .int .u64 (y.1 : Nat), .int .u64 (y.2.1 : Nat), .int .u64 (y.2.2 : Nat)]) (.int .i64 1)).run Try.prog wr = .ok (.agg #[.int .u64 (y.1 : Nat), .int .u64 (y.2.1 : Nat), .int .u64 (y.2.2 : Nat)]) wr := by kernel_rfl
      have hJ1 := hJ _ _ (wr.alloc (.cells #[.int .u64 (y.1 : Nat), .int .u64 (y.2.1 : Nat), .int .u64 (y.2.2 : Nat)] 65)) none hJs (World.grownBy_alloc wr _ none) (fun r e => by cases e)
      by_cases hx : 0 < y.2.1
      · have q : decide ((0 : Int) < (y.2.1 : Nat)) = true := by simp; omega
        obtain ⟨fn, tmps, assign, body, hy, hR⟩ := hY _ y _ hJ1 (by rw [row2_1]; exact kept_len1 x)
        gi_wp2
        refine hR.mono ?_
        rintro e W3 (⟨rfl, hJ3, hk3⟩ | ⟨rfl, hJx3⟩)
        · gi_wp2
          go_roundw
          case rel => exact ⟨2, by omega, by go_num, by rw [row2_2, kept_two, hit1 hx]; rw [row2_1] at hJ3; exact hJ3⟩
          case measure => simp [intOf]
        · gi_wp2
          refine bodyPost_ret (results_none rfl _ _ _) rfl ?_
          exact ⟨⟨_, rfl⟩, .inr ⟨_, by rw [row2_1, kept_two, hit1 hx]; exact List.prefix_refl _, hJx3⟩⟩
      · have q : decide ((0 : Int) < (y.2.1 : Nat)) = false := by simp; omega
        gi_wp2
        refine ⟨fun _ h => (by cases h), ?_⟩
        gi_wp2
        go_roundw
        case rel => exact ⟨2, by omega, by go_num, by rw [row2_2, kept_two, miss1 hx, List.append_nil]; rw [row2_1] at hJ1; exact hJ1⟩
        case measure => simp [intOf]
    · gi_wp2
      go_end0
      exact ⟨⟨_, rfl⟩, .inl ⟨_, row2_2 x y, hJs⟩⟩
theorem seg_stops (F : Fence) (n : Nat) (hf : F.fn 53) (hro : F.round = none) (hn : 1 ≤ n) (g : Nat) (x y : Sg) (Kp : World → World → Prop) (w : World) (hg : g < w.heap.size)
    (c0 : w.cell? ⟨g, 0, none⟩ = some (.int .u64 (x.1 : Nat))) (c1 : w.cell? ⟨g, 1, none⟩ = some (.int .u64 (x.2.1 : Nat))) (c2 : w.cell? ⟨g, 2, none⟩ = some (.int .u64 (x.2.2 : Nat)))
    (c3 : w.cell? ⟨g, 3, none⟩ = some (.int .u64 (y.1 : Nat))) (c4 : w.cell? ⟨g, 4, none⟩ = some (.int .u64 (y.2.1 : Nat))) (c5 : w.cell? ⟨g, 5, none⟩ = some (.int .u64 (y.2.2 : Nat))) :
    SeqStopsK F n Try.prog 53 #[.pointer (some ⟨g, 0, none⟩)] (fun z : Sg => #[sgV z]) Kp (fun ys => ys = kept [x, y]) (fun pre => pre <+: kept [x, y]) 2 w := fun l J Jx W hW hJ _ hY h0 =>
  seg1_in F n hf hro hn l g x y J Jx Kp W hJ hY ((hW.cell (p := ⟨g, 0, none⟩) hg).trans c0) ((hW.cell (p := ⟨g, 1, none⟩) hg).trans c1) ((hW.cell (p := ⟨g, 2, none⟩) hg).trans c2) ((hW.cell (p := ⟨g, 3, none⟩) hg).trans c3) ((hW.cell (p := ⟨g, 4, none⟩) hg).trans c4) ((hW.cell (p := ⟨g, 5, none⟩) hg).trans c5) h0
end Go.Proofs.Ytmfnhdflmnmooaa.Sx
