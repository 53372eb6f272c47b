import Derived.Test.YtcopkohklgbpgaaDoorProg
import Derived.Test.YtcopkohklgbpgaaDoorTakeH
import Derived.RangeFuncNested
import Derived.RangeFuncBound
import Derived.RangeFuncCalls
import Derived.RangeFuncLeaves
import Derived.Shelf.Abstract
import Derived.Shelf.RegionOpen
import Derived.WalkKit
import Derived.OwnWalkIn
import Derived.TacticsInMore
import Derived.LoopNIn
import Derived.LoopIn
import Derived.Laws.BitsLemmas
namespace Go.Proofs.YtcopkohklgbpgaaDoor
open Go.RowKit Go.Shelf
attribute [local go_sem] Oper.semAt_some
set_option linter.unusedVariables false
set_option linter.unusedSimpArgs false
/-- A piece's number, the first one's where there is no such piece. -/
def clp (sz len x : Nat) : Nat := if x * sz < len then x else 0
/-- How long it is. -/
def pcl (sz len x : Nat) : Nat := min ((clp sz len x + 1) * sz) len - clp sz len x * sz
/-- What a round keeps: the two boxes. -/
def Kbx (Bl Bs : Nat) (W W' : World) : Prop := W'.cell? ⟨Bl, 0, none⟩ = W.cell? ⟨Bl, 0, none⟩ ∧ W'.cell? ⟨Bs, 0, none⟩ = W.cell? ⟨Bs, 0, none⟩
theorem Kbx.t {Bl Bs : Nat} {A B C : World} (h : Kbx Bl Bs A B) (k : Kbx Bl Bs B C) : Kbx Bl Bs A C := ⟨k.1.trans h.1, k.2.trans h.2⟩
theorem Kbx.b {Bl Bs : Nat} {w : World} (h1 : Bl < w.heap.size) (h2 : Bs < w.heap.size) (W : World) (l : Nat) (o o' : Obj) (hl : w.heap.size ≤ l) (_ : W.heap[l]? = some o) (_ : o.isCells = false) (_ : o.isWalk = false) : Kbx Bl Bs W (W.putObj l o') :=
  ⟨World.cell?_of_block (World.putObj_heap_other (by show Bl ≠ l; omega)), World.cell?_of_block (World.putObj_heap_other (by show Bs ≠ l; omega))⟩
theorem wrap64_small {x : Int} (h0 : 0 ≤ x) (h1 : x ≤ 9223372036854775807) : IntKind.i64.wrap x = x := by
  rw [IntKind.wrap_i64]
  omega
theorem elem22p : Tryd.prog.elem 22 = 5 := by kernel_rfl
theorem und22p : Tryd.prog.underlying 22 = some (.slice (Tryd.prog.elem 22)) := by kernel_rfl
theorem sizeOf5p (w : World) : (Go.sizeOf 5).run Tryd.prog w = .ok 1 w := by kernel_rfl
set_option maxRecDepth 100000 in
set_option maxHeartbeats 2000000 in
theorem pieces1_in (n : Nat) (hn : 1 ≤ n) (l Bl Bs b off len cap sz cnt : Nat) (hsz : 1 ≤ sz) (hbig : len + sz ≤ 281474976710656) (hlc : len ≤ cap) (hcnt : Hid (∀ j, j < cnt ↔ j * sz < len)) (J Jx : List Nat → World → Prop) (hJd : Hid (∀ s W, J s W → J s W.drew))
    (hY : Hid (∀ pre x W, J pre W → pre.length < cnt → YieldAt Fence.wide (n - 1) Tryd.prog l #[.int .i64 (clp sz len x : Nat), .slice (some ⟨b, off + clp sz len x * sz, none⟩) (pcl sz len x) (pcl sz len x)] W fun e W' =>
      (e = .returned (.bool true) ∧ J (pre ++ [x]) W' ∧ Kbx Bl Bs W W') ∨ (e = .returned (.bool false) ∧ Jx (pre ++ [x]) W')))
    (W : World) (hBl : W.cell? ⟨Bl, 0, none⟩ = some (.slice (some ⟨b, off, none⟩) len cap)) (hBs : W.cell? ⟨Bs, 0, none⟩ = some (.int .i64 (sz : Nat))) (h0 : J [] W) :
    CallsIn Fence.wide n Tryd.prog 42 #[.func (.yield l) #[] #[], .pointer (some ⟨Bl, 0, none⟩), .pointer (some ⟨Bs, 0, none⟩)] W fun e W' => (∃ v, e = .returned v) ∧
      ((∃ ys, ys = List.range cnt ∧ J ys W') ∨ (∃ pre, (∃ k, k ≤ cnt ∧ pre = List.range k) ∧ Jx pre W')) := by
  refine callsIn_of_wp Tryd.func42 rfl trivial ?_ rfl
  simp only [Tryd.ntmps42, List.size_toArray, List.length_cons, List.length_nil, Nat.reduceAdd, Nat.reduceSub, Array.replicate_succ, Array.replicate_zero, List.push_toArray, List.append_toArray, List.nil_append, List.cons_append]
  gi_wp2
  gi_loopw [4] (fun i wr => ∃ k : Nat, k ≤ cnt ∧ i = .int .i64 (k : Nat) ∧ Hid (J (List.range k) wr) ∧ wr.cell? ⟨Bl, 0, none⟩ = some (.slice (some ⟨b, off, none⟩) len cap) ∧ wr.cell? ⟨Bs, 0, none⟩ = some (.int .i64 (sz : Nat)))
    (fun i _ => cnt - (intOf i).toNat)
  case atStart => exact ⟨0, Nat.zero_le _, rfl, h0, hBl, hBs⟩
  case round =>
    obtain ⟨k, hk, rfl, hJs, c1, c2⟩ := hrel
    clear hBl hBs h0
    obtain ⟨p, hp⟩ : ∃ p, p = k * sz := ⟨_, rfl⟩
    have hpl : p ≤ len + sz := by
      rcases Nat.eq_zero_or_pos k with h | h
      · subst h; simp at hp; omega
      · have h1 := (hcnt.out (k - 1)).1 (by omega)
        have h2 : k * sz = (k - 1) * sz + sz := by rw [← Nat.succ_mul]; congr 1; omega
        omega
    have hkp : k ≤ p := by rw [hp]; exact Nat.le_mul_of_pos_right k hsz
    have hm1 : ((k : Nat) : Int) * ((sz : Nat) : Int) = ((p : Nat) : Int) := by rw [hp]; simp
    have hm2 : (((k : Nat) : Int) + 1) * ((sz : Nat) : Int) = ((p + sz : Nat) : Int) := by rw [Int.add_mul, hm1]; simp
    by_cases hlt : k < cnt
    · have hlt' : p < len := by rw [hp]; exact (hcnt.out k).1 hlt
      obtain ⟨t, ht⟩ : ∃ t : Nat, t = min (p + sz) len := ⟨_, rfl⟩
      have hts : t ≤ len ∧ p < t := by omega
      have hw0 : IntKind.i64.wrap (p : Int) = (p : Int) := wrap64_small (by omega) (by omega)
      have hw1 : IntKind.i64.wrap ((k : Int) + 1) = (k : Int) + 1 := wrap64_small (by omega) (by omega)
      have hw2 : IntKind.i64.wrap ((p : Int) + (sz : Int)) = (p : Int) + (sz : Int) := wrap64_small (by omega) (by omega)
      have hmi : (if (len : Int) < (p : Int) + (sz : Int) then (len : Int) else (p : Int) + (sz : Int)) = (t : Int) := by split <;> omega
      have hmin : min ((p : Int) + (sz : Int)) (len : Int) = (t : Int) := by omega
      have hsl : ∀ u, (Instr.slice 22 (.slice (some ⟨b, off, none⟩) len cap) (some (.int .i64 (p : Nat))) (some (.int .i64 (t : Nat))) (some (.int .i64 (t : Nat)))).run Tryd.prog u = .ok (.slice (some ⟨b, off + p, none⟩) (t - p) (t - p)) u := fun u => by
        rw [run_slice_lhm u 22 (some ⟨b, off, none⟩) len cap und22p .i64 .i64 .i64 p t t (by omega) (by omega) (by omega) (by omega), elem22p, sizeOf5p]
        simp [Result.andThen, sliced, Addr.add, show ¬ t = p by omega]
      obtain ⟨fn, tmps, assign, body, hy, hR⟩ := hY.out _ k wr.drew (hJd.out _ _ hJs.out) (by simpa using hlt)
      have e1 : clp sz len k = k := by rw [clp, if_pos (by rw [← hp]; exact hlt')]
      have e2 : pcl sz len k = t - p := by rw [pcl, e1, ← hp, Nat.succ_mul, ← hp, ht]
      rw [e1, e2, ← hp] at hy
      have HRR : Hid (List.range k ++ [k] = List.range (k + 1)) := by show _ = _; rw [List.range_succ]
      clear e1 e2 hp ht hY hcnt hJs
      gi_wp2
      refine wpIn_wide.2 ?_
      have hS0 : wr.drew.cell? ⟨Bl, 0, none⟩ = some (.slice (some ⟨b, off, none⟩) len cap) ∧ wr.drew.cell? ⟨Bs, 0, none⟩ = some (.int .i64 (sz : Nat)) := ⟨c1, c2⟩
      refine wp_region_noPanic ?_
      refine wp_region_held_drew (S := fun u => u.cell? ⟨Bl, 0, none⟩ = some (.slice (some ⟨b, off, none⟩) len cap) ∧ u.cell? ⟨Bs, 0, none⟩ = some (.int .i64 (sz : Nat))) (by kernel_rfl) (hS0) (fun _ => ?_)
      refine takeH_at 0 15 (.int .i64 (k : Nat)) rfl rfl (by kernel_rfl) (by kernel_rfl) (by kernel_rfl) (fun _ _ _ h => h) hS0 (Or.inl ⟨by kernel_rfl, fun w' hS' => by go_simp⟩) ?_
      simp only [List.setIfInBounds_toArray, List.set_cons_zero, List.set_cons_succ]
      refine takeH_at 1 16 (.int .i64 (sz : Nat)) rfl rfl (by kernel_rfl) (by kernel_rfl) (by kernel_rfl) (fun _ _ _ h => h) hS0 (Or.inl ⟨by kernel_rfl, fun w' hS' => by have q := hS'.2; go_simp⟩) ?_
      simp only [List.setIfInBounds_toArray, List.set_cons_zero, List.set_cons_succ]
      refine takeH_at 2 17 (.int .i64 (p : Nat)) rfl rfl (by kernel_rfl) (by kernel_rfl) (by kernel_rfl) (fun _ _ _ h => h) hS0 (Or.inl ⟨by kernel_rfl, fun w' hS' => by go_simp⟩) ?_
      simp only [List.setIfInBounds_toArray, List.set_cons_zero, List.set_cons_succ]
      refine takeH_at 3 18 (.int .i64 (k : Nat)) rfl rfl (by kernel_rfl) (by kernel_rfl) (by kernel_rfl) (fun _ _ _ h => h) hS0 (Or.inl ⟨by kernel_rfl, fun w' hS' => by go_simp⟩) ?_
      simp only [List.setIfInBounds_toArray, List.set_cons_zero, List.set_cons_succ]
      refine takeH_at 4 19 (.int .i64 ((k : Int) + 1)) rfl rfl (by kernel_rfl) (by kernel_rfl) (by kernel_rfl) (fun _ _ _ h => h) hS0 (Or.inl ⟨by kernel_rfl, fun w' hS' => by go_simp⟩) ?_
      simp only [List.setIfInBounds_toArray, List.set_cons_zero, List.set_cons_succ]
      refine takeH_at 5 20 (.int .i64 (sz : Nat)) rfl rfl (by kernel_rfl) (by kernel_rfl) (by kernel_rfl) (fun _ _ _ h => h) hS0 (Or.inl ⟨by kernel_rfl, fun w' hS' => by have q := hS'.2; go_simp⟩) ?_
      simp only [List.setIfInBounds_toArray, List.set_cons_zero, List.set_cons_succ]
      refine takeH_at 6 21 (.int .i64 ((p : Int) + (sz : Int))) rfl rfl (by kernel_rfl) (by kernel_rfl) (by kernel_rfl) (fun _ _ _ h => h) hS0 (Or.inl ⟨by kernel_rfl, fun w' hS' => by go_simp⟩) ?_
      simp only [List.setIfInBounds_toArray, List.set_cons_zero, List.set_cons_succ]
      refine takeH_at 7 22 (.slice (some ⟨b, off, none⟩) len cap) rfl rfl (by kernel_rfl) (by kernel_rfl) (by kernel_rfl) (fun _ _ _ h => h) hS0 (Or.inl ⟨by kernel_rfl, fun w' hS' => by have q := hS'.1; go_simp⟩) ?_
      simp only [List.setIfInBounds_toArray, List.set_cons_zero, List.set_cons_succ]
      refine takeH_at 8 23 (.int .i64 (len : Nat)) rfl rfl (by kernel_rfl) (by kernel_rfl) (by kernel_rfl) (fun _ _ _ h => h) hS0 (Or.inl ⟨by kernel_rfl, fun w' hS' => by go_simp⟩) ?_
      simp only [List.setIfInBounds_toArray, List.set_cons_zero, List.set_cons_succ]
      refine takeH_at 9 24 (.int .i64 (t : Nat)) rfl rfl (by kernel_rfl) (by kernel_rfl) (by kernel_rfl) (fun _ _ _ h => h) hS0 (Or.inl ⟨by kernel_rfl, fun w' hS' => by go_simp⟩) ?_
      simp only [List.setIfInBounds_toArray, List.set_cons_zero, List.set_cons_succ]
      refine takeH_at 10 5 (.int .i64 (p : Nat)) rfl rfl (by kernel_rfl) (by kernel_rfl) (by kernel_rfl) (fun _ _ _ h => h) hS0 (Or.inl ⟨by kernel_rfl, fun w' hS' => by go_simp⟩) ?_
      simp only [List.setIfInBounds_toArray, List.set_cons_zero, List.set_cons_succ]
      refine takeH_at 11 6 (.int .i64 (t : Nat)) rfl rfl (by kernel_rfl) (by kernel_rfl) (by kernel_rfl) (fun _ _ _ h => h) hS0 (Or.inl ⟨by kernel_rfl, fun w' hS' => by go_simp⟩) ?_
      simp only [List.setIfInBounds_toArray, List.set_cons_zero, List.set_cons_succ]
      refine wpAnyH_done (by kernel_rfl) ?_ _
      refine NoPanic.normal ?_
      gi_wp2
      refine hR.mono ?_
      rintro e W3 (⟨rfl, hJ3, hk3⟩ | ⟨rfl, hJx3⟩)
      · have d1 := hk3.1.trans c1
        have d2 := hk3.2.trans c2
        rw [HRR.out] at hJ3
        have HJ3 : Hid (J (List.range (k + 1)) W3) := hJ3
        clear hJ3 hk3
        gi_wp2
        go_roundw
        case rel => exact ⟨k + 1, by omega, by go_num, HJ3, d1, d2⟩
        case measure => simp [intOf]; omega
      · gi_wp2
        refine bodyPost_ret (results_none rfl _ _ _) rfl ?_
        exact ⟨⟨_, rfl⟩, .inr ⟨_, ⟨k + 1, by omega, HRR.out⟩, hJx3⟩⟩
    · have hlt' : len ≤ p := by
        have := hcnt.out k
        rw [← hp] at this
        omega
      obtain rfl : k = cnt := by omega
      clear hp
      gi_wp2
      go_end0
      exact ⟨⟨_, rfl⟩, .inl ⟨_, rfl, hJs.out⟩⟩
set_option maxRecDepth 100000 in
set_option maxHeartbeats 1000000 in
theorem pieces1_nil (n : Nat) (l Bl Bs cap sz : Nat) (a : Option Addr) (J : List Nat → World → Prop) (W : World) (hBl : W.cell? ⟨Bl, 0, none⟩ = some (.slice a 0 cap)) (hBs : W.cell? ⟨Bs, 0, none⟩ = some (.int .i64 (sz : Nat))) (h0 : J [] W) :
    CallsIn Fence.wide n Tryd.prog 42 #[.func (.yield l) #[] #[], .pointer (some ⟨Bl, 0, none⟩), .pointer (some ⟨Bs, 0, none⟩)] W fun e W' => (∃ v, e = .returned v) ∧ J [] W' := by
  have hz : IntKind.i64.wrap (0 * (sz : Int)) = 0 := by rw [Int.zero_mul]; rfl
  refine callsIn_of_wp Tryd.func42 rfl trivial ?_ rfl
  simp only [Tryd.ntmps42, List.size_toArray, List.length_cons, List.length_nil, Nat.reduceAdd, Nat.reduceSub, Array.replicate_succ, Array.replicate_zero, List.push_toArray, List.append_toArray, List.nil_append, List.cons_append]
  gi_wp2
  gi_loopw [4] (fun i wr => i = .int .i64 0 ∧ wr = W) (fun _ _ => 0)
  case atStart => exact ⟨rfl, rfl⟩
  case round =>
    obtain ⟨rfl, rfl⟩ := hrel
    gi_wp2
    go_end0
    exact ⟨⟨_, rfl⟩, h0⟩
theorem drew_grown (W : World) : W.grownBy W.drew none := ⟨rfl, rfl, rfl, Nat.le_refl _, fun _ _ _ => rfl⟩
/-- The pieces of a list that is there. -/
theorem pieces_stops (n : Nat) (hn : 1 ≤ n) (Bl Bs b off len cap sz cnt : Nat) (hsz : 1 ≤ sz) (hbig : len + sz ≤ 281474976710656) (hlc : len ≤ cap) (hcnt : ∀ j, j < cnt ↔ j * sz < len) (w : World) (hBl : w.cell? ⟨Bl, 0, none⟩ = some (.slice (some ⟨b, off, none⟩) len cap)) (hBs : w.cell? ⟨Bs, 0, none⟩ = some (.int .i64 (sz : Nat))) :
    SeqStopsK Fence.wide n Tryd.prog 42 #[.pointer (some ⟨Bl, 0, none⟩), .pointer (some ⟨Bs, 0, none⟩)] (fun x : Nat => #[Value.int .i64 (clp sz len x : Nat), .slice (some ⟨b, off + clp sz len x * sz, none⟩) (pcl sz len x) (pcl sz len x)]) (Kbx Bl Bs) (fun ys => ys = List.range cnt) (fun _ => True) cnt w := fun l J Jx W hW hJ _ hY h0 => by
  have b1 : Bl < w.heap.size := by have := World.block_lt_of_cell? w _ hBl; simpa using this
  have b2 : Bs < w.heap.size := by have := World.block_lt_of_cell? w _ hBs; simpa using this
  have c1 := (World.cell?_of_block (w := w) (a := ⟨Bl, 0, none⟩) (hW.block Bl b1)).trans hBl
  have c2 := (World.cell?_of_block (w := w) (a := ⟨Bs, 0, none⟩) (hW.block Bs b2)).trans hBs
  refine (pieces1_in n hn l Bl Bs b off len cap sz cnt hsz hbig hlc hcnt J Jx (fun s V hs => hJ s V V.drew none hs (drew_grown V) (fun r e => by cases e)) hY W c1 c2 h0).mono ?_
  rintro e W' ⟨he, ⟨ys, rfl, hj⟩ | ⟨pre, _, hj⟩⟩
  · exact ⟨he, .inl ⟨_, rfl, hj⟩⟩
  · exact ⟨he, .inr ⟨_, trivial, hj⟩⟩
theorem pieces_stops_nil (n : Nat) (Bl Bs cap sz : Nat) (a : Option Addr) (encs : Nat → Array Value) (w : World) (hBl : w.cell? ⟨Bl, 0, none⟩ = some (.slice a 0 cap)) (hBs : w.cell? ⟨Bs, 0, none⟩ = some (.int .i64 (sz : Nat))) :
    SeqStopsK Fence.wide n Tryd.prog 42 #[.pointer (some ⟨Bl, 0, none⟩), .pointer (some ⟨Bs, 0, none⟩)] encs (Kbx Bl Bs) (fun ys => ys = []) (fun _ => True) 0 w := fun l J Jx W hW hJ _ hY h0 => by
  have b1 : Bl < w.heap.size := by have := World.block_lt_of_cell? w _ hBl; simpa using this
  have b2 : Bs < w.heap.size := by have := World.block_lt_of_cell? w _ hBs; simpa using this
  have c1 := (World.cell?_of_block (w := w) (a := ⟨Bl, 0, none⟩) (hW.block Bl b1)).trans hBl
  have c2 := (World.cell?_of_block (w := w) (a := ⟨Bs, 0, none⟩) (hW.block Bs b2)).trans hBs
  refine (pieces1_nil n l Bl Bs cap sz a J W c1 c2 h0).mono ?_
  rintro e W' ⟨he, hj⟩
  exact ⟨he, .inl ⟨_, rfl, hj⟩⟩
set_option maxHeartbeats 400000 in
/-- pieces: the list and the size are boxed. -/
theorem pieces_ok (v : Value) (a : Option Addr) (len cap sz : Nat) (hv : v = .slice a len cap) (w : World) :
    Calls Tryd.prog 34 #[v, .int .i64 (sz : Nat)] w fun e w' => e = .returned (.func (.func 42) #[] #[.pointer (some ⟨w.heap.size, 0, none⟩), .pointer (some ⟨w.heap.size + 1, 0, none⟩)]) ∧ w' = (w.alloc (.cells #[.slice a len cap] 22)).alloc (.cells #[.int .i64 (sz : Nat)] 3) := by
  subst hv
  go_enter Tryd.func34, Tryd.ntmps34
  go_wp2
  go_ret
  exact ⟨rfl, rfl⟩
end Go.Proofs.YtcopkohklgbpgaaDoor
