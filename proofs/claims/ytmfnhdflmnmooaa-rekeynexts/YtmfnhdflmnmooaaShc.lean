import Derived.Test.YtmfnhdflmnmooaaSha
import Derived.Deep.Upon
import Derived.Deep.Draws
import Derived.Deep.RegionWith
import Derived.Deep.MidRow
import Derived.Deep.Cut
namespace Go.Proofs.Ytmfnhdflmnmooaa
open Go.RowKit
set_option linter.unusedVariables false
set_option linter.unusedSimpArgs false
structure Sm (w w' : World) : Prop where
  os : w'.os = w.os
  tape : w'.tape = w.tape
  output : w'.output = w.output
  heap : w'.heap = w.heap
theorem Below.ofSm {w u v : World} (h : Below w.heap.size w u) (s : Sm u v) : Below w.heap.size w v := ⟨s.os.trans h.os, s.tape.trans h.tape, s.output.trans h.output, by rw [s.heap]; exact h.size, fun q hq => by rw [s.heap]; exact h.block q hq⟩
theorem below_alloc1 (u : World) (o : Obj) : Below u.heap.size u (u.alloc o) := (Below.refl _ _).alloc (Nat.le_refl _) o
theorem rangeAt_new (w : World) (cs : Array Value) (t : TypeId) (j : Nat) (v : Value) (h : cs[j]? = some v) : (w.alloc (.cells cs t)).cell? ⟨w.heap.size, j, none⟩ = some v := by
  have hb : (w.alloc (.cells cs t)).heap[w.heap.size]? = some (.cells cs t) := by
    show (w.heap.push _)[w.heap.size]? = _
    simp
  simp only [World.cell?, hb]
  simpa using h
theorem lt_of_cell {w : World} {a : Addr} {v : Value} (h : w.cell? a = some v) : a.block < w.heap.size := by
  by_cases hb : a.block < w.heap.size
  · exact hb
  · simp [World.cell?, Array.getElem?_eq_none (Nat.le_of_not_lt hb)] at h
/-- A shape in a block. -/
structure SAt (u : World) (s : Nat) (U C H K : Int) : Prop where
  c0 : u.cell? ⟨s, 0, none⟩ = some (.int .i64 U)
  c1 : u.cell? ⟨s, 1, none⟩ = some (.int .u64 C)
  c2 : u.cell? ⟨s, 2, none⟩ = some (.int .i64 H)
  c3 : u.cell? ⟨s, 3, none⟩ = some (.int .i64 K)
theorem SAt.blk {u v : World} {s : Nat} {U C H K : Int} (a : SAt u s U C H K) (hb : v.heap[s]? = u.heap[s]?) : SAt v s U C H K := by
  have hc : ∀ j, v.cell? ⟨s, j, none⟩ = u.cell? ⟨s, j, none⟩ := fun j => World.cell?_of_block (a := ⟨s, j, none⟩) hb
  exact ⟨by rw [hc]; exact a.c0, by rw [hc]; exact a.c1, by rw [hc]; exact a.c2, by rw [hc]; exact a.c3⟩
theorem SAt.below {u v : World} {s : Nat} {U C H K : Int} (a : SAt u s U C H K) (b : Below u.heap.size u v) : SAt v s U C H K := a.blk (b.block s (lt_of_cell a.c0))
theorem SAt.new (w : World) (U C H K : Int) (t : TypeId) : SAt (w.alloc (.cells #[.int .i64 U, .int .u64 C, .int .i64 H, .int .i64 K] t)) w.heap.size U C H K :=
  ⟨rangeAt_new w _ t 0 _ rfl, rangeAt_new w _ t 1 _ rfl, rangeAt_new w _ t 2 _ rfl, rangeAt_new w _ t 3 _ rfl⟩
theorem SAt.all {u : World} {s : Nat} {U C H K : Int} (a : SAt u s U C H K) : u.cell? ⟨s, 0, none⟩ = some (.int .i64 U) ∧ u.cell? ⟨s, 1, none⟩ = some (.int .u64 C) ∧ u.cell? ⟨s, 2, none⟩ = some (.int .i64 H) ∧ u.cell? ⟨s, 3, none⟩ = some (.int .i64 K) := ⟨a.c0, a.c1, a.c2, a.c3⟩
theorem keys_ok (U C H K : Int) (w : World) (h1 : 0 ≤ H) (h2 : H ≤ 4194304) : Calls Try.prog 44 #[.agg #[.int .i64 U, .int .u64 C, .int .i64 H, .int .i64 K]] w fun e w' => Hid (e = .returned (.int .i64 (2 * H)) ∧ Below w.heap.size w w') := by
  have HA : Hid (SAt (w.alloc (.cells #[.int .i64 U, .int .u64 C, .int .i64 H, .int .i64 K] 24)) w.heap.size U C H K ∧ Below w.heap.size w (w.alloc (.cells #[.int .i64 U, .int .u64 C, .int .i64 H, .int .i64 K] 24))) := ⟨SAt.new _ _ _ _ _ _, below_alloc1 _ _⟩
  go_enter Try.func44, Try.ntmps44
  go_upto_region 1 with fail
  generalize w.alloc (.cells #[.int .i64 U, .int .u64 C, .int .i64 H, .int .i64 K] 24) = w0 at HA ⊢
  have c2 := HA.out.1.c2
  go_wp2
  go_ret
  exact ⟨rfl, HA.out.2⟩
set_option maxHeartbeats 800000 in
theorem data_ok (U C H K : Int) (w : World) (h1 : 0 ≤ H) (h2 : H ≤ 4194304) (k1 : 0 ≤ K) (k2 : K ≤ 134217728) : Calls Try.prog 43 #[.agg #[.int .i64 U, .int .u64 C, .int .i64 H, .int .i64 K]] w fun e w' => Hid (e = .returned (.int .i64 (2 * H + K)) ∧ Below w.heap.size w w') := by
  have HA : Hid (SAt (w.alloc (.cells #[.int .i64 U, .int .u64 C, .int .i64 H, .int .i64 K] 24)) w.heap.size U C H K ∧ Below w.heap.size w (w.alloc (.cells #[.int .i64 U, .int .u64 C, .int .i64 H, .int .i64 K] 24))) := ⟨SAt.new _ _ _ _ _ _, below_alloc1 _ _⟩
  go_enter Try.func43, Try.ntmps43
  go_upto_region 1 with fail
  generalize w.alloc (.cells #[.int .i64 U, .int .u64 C, .int .i64 H, .int .i64 K] 24) = w0 at HA ⊢
  have HC : Hid (∀ u, Sm w0 u → Calls Try.prog 44 #[.agg #[.int .i64 U, .int .u64 C, .int .i64 H, .int .i64 K]] u fun e w' => Hid (e = .returned (.int .i64 (2 * H)) ∧ Below w0.heap.size w0 w')) := fun u hu => by
    refine (keys_ok U C H K u h1 h2).mono ?_
    intro e w' hh
    have hbu : Below w0.heap.size w0 u := Below.ofSm (Below.refl _ _) hu
    exact ⟨hh.out.1, hbu.trans (hh.out.2.mono hbu.size)⟩
  have c0 := HA.out.1.all
  go_region_held3 (fun u => u.cell? ⟨w.heap.size, 0, none⟩ = some (.int .i64 U) ∧ u.cell? ⟨w.heap.size, 1, none⟩ = some (.int .u64 C) ∧ u.cell? ⟨w.heap.size, 2, none⟩ = some (.int .i64 H) ∧ u.cell? ⟨w.heap.size, 3, none⟩ = some (.int .i64 K)) (first | exact c0 | exact hS6 | go_keep) ((go_at_call 44; refine (HC.out _ ?_).mono ?_; exact ⟨rfl, rfl, rfl, rfl⟩; intro e6 w6 hh; obtain ⟨rfl, hb6⟩ := hh.out; have hS6 := (HA.out.1.below hb6).all))
  all_goals
    have HB6 : Hid (Below w.heap.size w w6) := HA.out.2.trans (hb6.mono HA.out.2.size)
    clear hh hb6 hS6 HC
    go_wp2
    go_ret
    refine ⟨?_, HB6.out⟩
    show Ending.returned (.int .i64 (IntKind.i64.wrap (2 * H + K))) = _
    rw [IntKind.wrap_i64]
    congr 2
    omega
end Go.Proofs.Ytmfnhdflmnmooaa
