import Derived.Test.YtohhjohpdfbdoaaFa
import Derived.RecoverIn
namespace Go.Proofs.Ytohhjohpdfbdoaa
open Go.RowKit
set_option linter.unusedVariables false
set_option linter.unusedSimpArgs false
variable {w w' : World} {g : Nat} {s : ByteArray} {i j : Nat}
theorem assert_nil (W : World) : (Instr.typeAssert .nilIface 20 48 true).run Try.prog W = .ok (.tuple #[.agg #[.int .i64 0], .bool false]) W := by
  first | rfl | kernel_rfl | (simp [Instr.typeAssert, go_sem]; done)
theorem assert_fault (p : Int) (W : World) : (Instr.typeAssert (.iface 48 (.agg #[.int .i64 p])) 20 48 true).run Try.prog W = .ok (.tuple #[.agg #[.int .i64 p], .bool true]) W := by
  first | rfl | kernel_rfl | (simp [Instr.typeAssert, go_sem]; done)
set_option maxHeartbeats 4000000 in
set_option maxRecDepth 100000 in
theorem rec_idle (n S A : Nat) (W : World) : CallsDIn Fence.wide n Try.prog 19 #[.pointer (some ⟨S, 0, none⟩), .pointer (some ⟨A, 0, none⟩)] .returning W fun e u' w' => e = .returned (.tuple #[]) ∧ u' = .returning ∧ W.grownBy w' none := by
  have hfn : ∀ k, Fence.wide.fn k = True := fun _ => rfl
  have hdp : Fence.wide.depth = none := rfl
  have hta := assert_nil
  refine callsDIn_of_wpSIn Try.func19 rfl trivial fun c₀ cs hu => ?_
  apply wpSIn_seq
  apply wpSIn_region
  simp [wpOpsSIn, go_sem, recoverD, hu, Try.ntmps19, Exit.thenS, hta]
  simp only [Array.replicate_succ, Array.replicate_zero, List.push_toArray, List.setIfInBounds_toArray, List.set_cons_zero, List.set_cons_succ, List.append_toArray, List.cons_append, List.nil_append]
  refine wpSIn_of_wpIn rfl ?_
  gi_wp2
  refine ⟨rfl, .returning, by cases c₀; simp_all, _, results_none rfl _ _ _, rfl, rfl, World.grownBy_alloc W _ none⟩
/-- The closure has caught a fault: what was said is undone, the place is set. -/
structure Caught (W W' : World) (S A p : Nat) : Prop where
  said : W'.heap[S]? = some (.cells #[.string ⟨#[]⟩, .string ⟨#[]⟩, .slice none 0 0] 25 (0, 0))
  at_ : W'.heap[A]? = some (.cells #[.int .i64 (p : Nat)] 3 (0, 0))
  os : W'.os = W.os
  tape : W'.tape = W.tape
  output : W'.output = W.output
  size : W.heap.size ≤ W'.heap.size
  block : ∀ k, k < W.heap.size → k ≠ S → k ≠ A → W'.heap[k]? = W.heap[k]?
set_option maxHeartbeats 4000000 in
set_option maxRecDepth 100000 in
theorem rec_caught (n S A p : Nat) (x y z u : Value) (W : World) (hS : W.heap[S]? = some (.cells #[x, y, z] 25 (0, 0))) (hA : W.heap[A]? = some (.cells #[u] 3 (0, 0))) (hSA : S ≠ A) :
    CallsDIn Fence.wide n Try.prog 19 #[.pointer (some ⟨S, 0, none⟩), .pointer (some ⟨A, 0, none⟩)] (.panicking [{ v := .iface 48 (.agg #[.int .i64 (p : Nat)]), recovered := false }]) W fun e u' w' =>
      e = .returned (.tuple #[]) ∧ u' = .panicking [{ v := .iface 48 (.agg #[.int .i64 (p : Nat)]), recovered := true }] ∧ Caught W w' S A p := by
  have hfn : ∀ k, Fence.wide.fn k = True := fun _ => rfl
  have hdp : Fence.wide.depth = none := rfl
  have hta := assert_fault
  have hSl := (Array.getElem?_eq_some_iff.1 hS).1
  have hAl := (Array.getElem?_eq_some_iff.1 hA).1
  refine callsDIn_of_wpSIn Try.func19 rfl trivial fun c₀ cs hu => ?_
  apply wpSIn_seq
  apply wpSIn_region
  simp [wpOpsSIn, go_sem, recoverD, hu, Try.ntmps19, Exit.thenS, hta]
  simp only [Array.replicate_succ, Array.replicate_zero, List.push_toArray, List.setIfInBounds_toArray, List.set_cons_zero, List.set_cons_succ, List.append_toArray, List.cons_append, List.nil_append]
  refine wpSIn_of_wpIn rfl ?_
  refine wpIn_wide.2 ?_
  obtain ⟨W1, hW1⟩ : ∃ W1, W1 = W.alloc (.cells #[.int .i64 (p : Nat)] 48) := ⟨_, rfl⟩
  rw [← hW1]
  have hF : W1.heap[W.heap.size]? = some (.cells #[.int .i64 (p : Nat)] 48 (0, 0)) := by rw [hW1]; exact World.alloc_heap_new W _
  have hg1 : W.grownBy W1 none := by rw [hW1]; exact World.grownBy_alloc W _ none
  have hS1 : W1.heap[S]? = some (.cells #[x, y, z] 25 (0, 0)) := (hg1.block S hSl (by simp)).trans hS
  have hA1 : W1.heap[A]? = some (.cells #[u] 3 (0, 0)) := (hg1.block A hAl (by simp)).trans hA
  have p0 : W1.cell? ⟨W.heap.size, 0, none⟩ = some (.int .i64 (p : Nat)) := by simp [World.cell?, hF]
  have z0 : W1.frozen? ⟨S, 0, none⟩ = false := by simp [World.frozen?, hS1]
  have z1 : W1.frozen? ⟨S, 1, none⟩ = false := by simp [World.frozen?, hS1]
  have z2 : W1.frozen? ⟨S, 2, none⟩ = false := by simp [World.frozen?, hS1]
  have z3 : W1.frozen? ⟨A, 0, none⟩ = false := by simp [World.frozen?, hA1]
  have y0 : W1.cell? ⟨S, 0, none⟩ = some x := by simp [World.cell?, hS1]
  have y1 : W1.cell? ⟨S, 1, none⟩ = some y := by simp [World.cell?, hS1]
  have y2 : W1.cell? ⟨S, 2, none⟩ = some z := by simp [World.cell?, hS1]
  have y3 : W1.cell? ⟨A, 0, none⟩ = some u := by simp [World.cell?, hA1]
  have n1 : S ≠ W.heap.size := by omega
  have n2 : A ≠ W.heap.size := by omega
  clear hW1
  go_wp2
  go_region
  have h3 := set_block (set_block (set_block hS1 0 (.string ⟨#[]⟩)) 1 (.string ⟨#[]⟩)) 2 (.slice none 0 0)
  simp only [List.setIfInBounds_toArray, List.set_cons_zero, List.set_cons_succ] at h3
  have gS := grown_set3 W1 S (.string ⟨#[]⟩) (.string ⟨#[]⟩) (.slice none 0 0)
  have gA := grown_set (((W1.setCell ⟨S, 0, none⟩ (.string ⟨#[]⟩)).setCell ⟨S, 1, none⟩ (.string ⟨#[]⟩)).setCell ⟨S, 2, none⟩ (.slice none 0 0)) A 0 (.int .i64 (p : Nat))
  have hA2 := (gS.block A (by have := hg1.size; omega) (fun e => hSA (Option.some.inj e).symm)).trans hA1
  have h4 := set_block hA2 0 (.int .i64 (p : Nat))
  simp only [List.setIfInBounds_toArray, List.set_cons_zero, List.set_cons_succ] at h4
  have h5 := (gA.block S (Array.getElem?_eq_some_iff.1 h3).1 (fun e => hSA (Option.some.inj e))).trans h3
  refine ⟨rfl, .panicking [{ v := .iface 48 (.agg #[.int .i64 (p : Nat)]), recovered := true }], by first | rfl | (cases c₀; simp_all), _, results_none rfl _ _ _, rfl, rfl, ?_⟩
  exact ⟨h5, h4, hg1.os, hg1.tape, hg1.output, Nat.le_trans hg1.size (Nat.le_trans gS.size gA.size), fun k hk hkS hkA => ((gA.block k (Nat.lt_of_lt_of_le hk (Nat.le_trans hg1.size gS.size)) (fun e => hkA (Option.some.inj e))).trans (gS.block k (Nat.lt_of_lt_of_le hk hg1.size) (fun e => hkS (Option.some.inj e)))).trans (hg1.block k hk (by simp))⟩
end Go.Proofs.Ytohhjohpdfbdoaa
