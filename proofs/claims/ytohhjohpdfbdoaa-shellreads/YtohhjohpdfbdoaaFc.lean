import Derived.Test.YtohhjohpdfbdoaaRec
import Derived.Test.YtohhjohpdfbdoaaRng
namespace Go.Proofs.Ytohhjohpdfbdoaa
open Go.RowKit
set_option linter.unusedVariables false
set_option linter.unusedSimpArgs false
attribute [local go_sem] Oper.semAt_some
variable {w w' : World} {g : Nat} {s : ByteArray} {i j : Nat}
theorem info31 : (Try.prog.info? 31).map (fun i => (i.zero, i.size, i.bytes)) = some (some (.agg #[.string ⟨#[]⟩, .string ⟨#[]⟩]), 2, 32) := by kernel_rfl
def optL (l : List (List Int × List Int)) : List Value := l.flatMap fun x => [.string (strOfNums x.1), .string (strOfNums x.2)]
theorem optL_snoc (l : List (List Int × List Int)) (k v : List Int) : optL (l ++ [(k, v)]) = optL l ++ [.string (strOfNums k), .string (strOfNums v)] := by simp [optL]
theorem optL_len (l : List (List Int × List Int)) : (optL l).length = l.length * 2 := by
  induction l with
  | nil => rfl
  | cons x l ih => simp [optL] at ih ⊢; omega
/-- Between two rounds of read's loop. -/
structure Jr (w : World) (g : Nat) (rc : Loop) (a : Acc) (W : World) : Prop where
  gl : g < w.heap.size
  gr : w.grownBy W (some g)
  said : ∃ v, W.heap[w.heap.size]? = some (.cells #[.string (strOfNums a.cmd), .string (strOfNums a.name), v] 25 (0, 0)) ∧ W.ownsRow (w.heap.size + 5) 31 2 v a.opts.length (optL a.opts)
  at_ : W.heap[w.heap.size + 1]? = some (.cells #[.int .i64 0] 3 (0, 0))
  box : W.heap[w.heap.size + 2]? = some (.cells #[.pointer (some ⟨g, 0, none⟩)] 46 (0, 0))
  dfr : W.heap[w.heap.size + 3]? = some (.deferred (some []))
  lp : W.heap[w.heap.size + 4]? = some (.loop rc)
  few : a.opts.length ≤ a.f
theorem at_kept {W W' : World} {row : Option Nat} {b : Nat} {o : Obj} (h : W.heap[b]? = some o) (hg : W.grownBy W' row) (hne : some b ≠ row) : W'.heap[b]? = some o := (hg.block b (Array.getElem?_eq_some_iff.1 h).1 hne).trans h
theorem Jr.kept {rc : Loop} {a : Acc} {W W' : World} (h : Jr w g rc a W) (hg : W.grownBy W' (some g)) : Jr w g rc a W' := by
  have hgl := h.gl
  obtain ⟨v, hv, hrow⟩ := h.said
  exact ⟨h.gl, h.gr.trans hg, ⟨v, at_kept hv hg (fun e => by have := Option.some.inj e; omega), hrow.kept hg (own_far hrow (by omega))⟩, at_kept h.at_ hg (fun e => by have := Option.some.inj e; omega), at_kept h.box hg (fun e => by have := Option.some.inj e; omega),
    at_kept h.dfr hg (fun e => by have := Option.some.inj e; omega), at_kept h.lp hg (fun e => by have := Option.some.inj e; omega), h.few⟩
theorem fields_ok (w : World) : Calls Try.prog 20 #[.pointer (some ⟨g, 0, none⟩)] w fun e w' => e = .returned (.func (.func 21) #[] #[.pointer (some ⟨w.heap.size, 0, none⟩)]) ∧ w' = w.alloc (.cells #[.pointer (some ⟨g, 0, none⟩)] 46) := by
  have hmf : ∀ (fn : Fn) (first cap : Array Value) (w : World), (Instr.makeFunc fn first cap).run Try.prog w = .ok (.func fn first cap) w := fun _ _ _ _ => rfl
  go_enter Try.func20, Try.ntmps20
  go_wp2
  go_ret
  exact ⟨rfl, rfl⟩
theorem Jr.next {rc b : Loop} {a a' : Acc} {W Y : World} {v : Value} (hJ : Jr w g rc a W) (hk : Rd W g s i) (os : Y.os = W.os) (tape : Y.tape = W.tape) (output : Y.output = W.output) (size : W.heap.size ≤ Y.heap.size)
    (block : ∀ k, k < w.heap.size + 5 → k ≠ w.heap.size → k ≠ w.heap.size + 4 → Y.heap[k]? = W.heap[k]?) (hl : Y.heap[w.heap.size + 4]? = some (.loop b))
    (hS : Y.heap[w.heap.size]? = some (.cells #[.string (strOfNums a'.cmd), .string (strOfNums a'.name), v] 25 (0, 0))) (hrow : Y.ownsRow (w.heap.size + 5) 31 2 v a'.opts.length (optL a'.opts)) (few : a'.opts.length ≤ a'.f) :
    Jr w g rc a' (Y.putObj (w.heap.size + 4) (.loop rc)) ∧ Rd (Y.putObj (w.heap.size + 4) (.loop rc)) g s i := by
  have gP := grownBy_putObj' Y (w.heap.size + 4) (.loop rc)
  have hgl := hJ.gl
  have hlt := (Array.getElem?_eq_some_iff.1 hl).1
  have same : ∀ k o, k < w.heap.size + 5 → k ≠ w.heap.size → k ≠ w.heap.size + 4 → W.heap[k]? = some o → (Y.putObj (w.heap.size + 4) (.loop rc)).heap[k]? = some o := fun k o h1 h2 h3 h4 =>
    at_kept ((block k h1 h2 h3).trans h4) gP (fun e => h3 (Option.some.inj e))
  refine ⟨⟨hgl, ⟨gP.os.trans (os.trans hJ.gr.os), gP.tape.trans (tape.trans hJ.gr.tape), gP.output.trans (output.trans hJ.gr.output), Nat.le_trans hJ.gr.size (Nat.le_trans size gP.size), fun k hkk hne => ?_⟩, ⟨v, at_kept hS gP (by simp), ownsRow_putObj hrow _ hl rfl⟩,
    same _ _ (by omega) (by omega) (by omega) hJ.at_, same _ _ (by omega) (by omega) (by omega) hJ.box, same _ _ (by omega) (by omega) (by omega) hJ.dfr, World.putObj_heap_same hlt, few⟩, same _ _ (by omega) (by omega) (by omega) hk.at_, hk.le, hk.most⟩
  exact ((gP.block k (by have := hJ.gr.size; omega) (fun e => by have := Option.some.inj e; omega)).trans (block k (by omega) (by omega) (by omega))).trans (hJ.gr.block k hkk hne)
def acc0 : Acc := ⟨[], [], [], 0⟩
def ReadQ (w : World) (g : Nat) (s : ByteArray) (e : Ending) (w' : World) : Prop :=
  (∃ a v, e = .returned (.tuple #[.agg #[.string (strOfNums a.cmd), .string (strOfNums a.name), v], .int .i64 0]) ∧ w'.ownsRow w.heap.size 31 2 v a.opts.length (optL a.opts) ∧ a.opts.length ≤ 4097 ∧ R s 0 acc0 .ahead = .good a ∧ w.grownBy w' (some g)) ∨
  (∃ p, e = .returned (.tuple #[.agg #[.string ⟨#[]⟩, .string ⟨#[]⟩, .slice none 0 0], .int .i64 (p : Nat)]) ∧ R s 0 acc0 .ahead = .bad p ∧ w.grownBy w' (some g))
theorem ownsRow_below {W : World} {B B' e size L : Nat} {v : Value} {xs : List Value} (h : W.ownsRow B e size v L xs) (hB : B' ≤ B) : W.ownsRow B' e size v L xs := by
  obtain ⟨hl, h1 | ⟨g, cap, cur, hv, hb, r⟩⟩ := h
  · exact ⟨hl, .inl h1⟩
  · exact ⟨hl, .inr ⟨g, cap, cur, hv, Nat.le_trans hB hb, r⟩⟩
theorem two_new (w : World) (a b : Value) (t : TypeId) : ∀ j u, [a, b][j]? = some u → (w.alloc (.cells #[a, b] t)).cell? ((⟨w.heap.size, 0, none⟩ : Addr).add j) = some u := by
  intro j u hj
  have hh := World.alloc_heap_new w (.cells #[a, b] t)
  match j, hj with
  | 0, hj => simp at hj; subst hj; rw [Addr.add_lit]; simp only [World.cell?]; rw [hh]; rfl
  | 1, hj => simp at hj; subst hj; rw [Addr.add_lit]; simp only [World.cell?]; rw [hh]; rfl
theorem own_slice {W : World} {B e size L : Nat} {v : Value} {xs : List Value} (h : W.ownsRow B e size v L xs) : ∃ p c, v = .slice p L c := by
  obtain ⟨_, ⟨rfl, rfl⟩ | ⟨g, cap, cur, rfl, _⟩⟩ := h
  · exact ⟨_, _, rfl⟩
  · exact ⟨_, _, rfl⟩
theorem results_two {w : World} {S A : Nat} {x y z u : Value} {tmps : Array Value} (hS : w.heap[S]? = some (.cells #[x, y, z] 25 (0, 0))) (hA : w.heap[A]? = some (.cells #[u] 3 (0, 0))) (hu : u.oneCell' = true)
    (h2 : tmps.getD 2 undef = .pointer (some ⟨S, 0, none⟩)) (h3 : tmps.getD 3 undef = .pointer (some ⟨A, 0, none⟩)) : (results Try.f12 tmps).run Try.prog w = .ok (.tuple #[.agg #[x, y, z], u]) w := by
  have h2' : tmps[2]?.getD undef = .pointer (some ⟨S, 0, none⟩) := by simpa using h2
  have h3' : tmps[3]?.getD undef = .pointer (some ⟨A, 0, none⟩) := by simpa using h3
  have c : w.cell? ⟨A, 0, none⟩ = some u := by simp [World.cell?, hA]
  have c0 : w.cell? ⟨S, 0, none⟩ = some x := by simp [World.cell?, hS]
  have c1 : w.cell? ⟨S, 1, none⟩ = some y := by simp [World.cell?, hS]
  have c2 : w.cell? ⟨S, 2, none⟩ = some z := by simp [World.cell?, hS]
  simp [results, Try.results12, h2', h3', asAddr, go_sem, c, c0, c1, c2]
set_option maxHeartbeats 4000000 in
set_option maxRecDepth 100000 in
theorem read_in (n : Nat) (k0 : Rd w g s 0) : CallsIn Fence.wide n Try.prog 12 #[.pointer (some ⟨g, 0, none⟩)] w (ReadQ w g s) := by
  have hmo := k0.most
  have hgl := k0.lt
  have hfn : ∀ k, Fence.wide.fn k = True := fun _ => rfl
  have hdp : Fence.wide.depth = none := rfl
  have hmf : ∀ (fn : Fn) (first cap : Array Value) (w : World), (Instr.makeFunc fn first cap).run Try.prog w = .ok (.func fn first cap) w := fun _ _ _ _ => rfl
  obtain ⟨i0, hi, hz0, hz1, hz2⟩ := info_parts info31
  refine callsIn_of_wp_marks Try.func12 rfl trivial ?_ rfl
  simp only [Try.ntmps12, List.size_toArray, List.length_cons, List.length_nil, Nat.reduceAdd, Nat.reduceSub, Array.replicate_succ, Array.replicate_zero, List.push_toArray, List.append_toArray, List.nil_append, List.cons_append]
  gi_wp2_with (gi_at_call 20; refine ((callsIn_wide (n := _)).2 (fields_ok _)).mono ?_; rintro e w3 ⟨rfl, hw3⟩; have HW3 : Hid (w3 = ((w.alloc (.cells #[.string ⟨#[]⟩, .string ⟨#[]⟩, .slice none 0 0] 25)).alloc (.cells #[.int .i64 0] 3)).alloc (.cells #[.pointer (some ⟨g, 0, none⟩)] 46)) := hw3; clear hw3)
  have hw3 := HW3.out
  clear HW3
  have hsz : w3.heap.size = w.heap.size + 3 := by rw [hw3]; simp
  have hb3 : w.grownBy w3 none := by rw [hw3]; exact ((World.grownBy_alloc _ _ none).trans (World.grownBy_alloc _ _ none)).trans (World.grownBy_alloc _ _ none)
  have hs3 : w3.heap[w.heap.size]? = some (.cells #[.string ⟨#[]⟩, .string ⟨#[]⟩, .slice none 0 0] 25 (0, 0)) := by
    rw [hw3]
    exact at_kept (at_kept (World.alloc_heap_new w _) (World.grownBy_alloc _ _ none) (by simp)) (World.grownBy_alloc _ _ none) (by simp)
  have ha3 : w3.heap[w.heap.size + 1]? = some (.cells #[.int .i64 0] 3 (0, 0)) := by
    have h := World.alloc_heap_new (w.alloc (.cells #[.string ⟨#[]⟩, .string ⟨#[]⟩, .slice none 0 0] 25)) (.cells #[.int .i64 0] 3)
    rw [World.size_alloc] at h
    rw [hw3]
    exact at_kept h (World.grownBy_alloc _ _ none) (by simp)
  have hx3 : w3.heap[w.heap.size + 2]? = some (.cells #[.pointer (some ⟨g, 0, none⟩)] 46 (0, 0)) := by
    have h := World.alloc_heap_new ((w.alloc (.cells #[.string ⟨#[]⟩, .string ⟨#[]⟩, .slice none 0 0] 25)).alloc (.cells #[.int .i64 0] 3)) (.cells #[.pointer (some ⟨g, 0, none⟩)] 46)
    rw [World.size_alloc, World.size_alloc] at h
    rw [hw3]
    exact h
  clear hw3
  refine range_wide rfl (fun _ => trivial) rfl rfl (enters_of Try.func21 (by kernel_rfl) rfl) ?_
  intro rc hst hpe htm hpa has hbo
  rw [hsz]
  simp only [Nat.add_assoc, Nat.reduceAdd, List.cons_append, List.nil_append, List.append_toArray]
  have hd4 : ((w3.alloc (.deferred (some []))).alloc (.loop rc)).heap[w.heap.size + 3]? = some (.deferred (some [])) := by
    have h := World.alloc_heap_new w3 (.deferred (some []))
    rw [hsz] at h
    exact at_kept h (World.grownBy_alloc _ _ none) (by simp)
  have hl4 : ((w3.alloc (.deferred (some []))).alloc (.loop rc)).heap[w.heap.size + 4]? = some (.loop rc) := by
    have h := World.alloc_heap_new (w3.alloc (.deferred (some []))) (.loop rc)
    rw [World.size_alloc, hsz] at h
    exact h
  have hg4 : w3.grownBy ((w3.alloc (.deferred (some []))).alloc (.loop rc)) none := (World.grownBy_alloc _ _ none).trans (World.grownBy_alloc _ _ none)
  have hJ0 : Jr w g rc acc0 ((w3.alloc (.deferred (some []))).alloc (.loop rc)) := ⟨hgl, (hb3.trans hg4).but _, ⟨_, at_kept hs3 hg4 (by simp), World.ownsRow_nil _ _ _ _⟩, at_kept ha3 hg4 (by simp), at_kept hx3 hg4 (by simp), hd4, hl4, Nat.le_refl _⟩
  have hk0 : Rd ((w3.alloc (.deferred (some []))).alloc (.loop rc)) g s 0 := k0.still (hb3.trans hg4)
  generalize (w3.alloc (.deferred (some []))).alloc (.loop rc) = W1 at hJ0 hk0 ⊢
  clear hd4 hl4 hg4 hs3 ha3 hx3 hb3
  refine (fields1_in (n - 1) (w.heap.size + 4) g (w.heap.size + 2) s 0 acc0 (Jr w g rc) (fun a W W' h hg => h.kept hg) (fun a W h => by simp [World.cell?, h.box]) ?_ W1 hJ0 hk0 rfl).mono ?_
  · intro a W i f hJ hk haf
    clear hJ0 hk0
    obtain ⟨v, hS, hrow⟩ := hJ.said
    obtain ⟨vp, vc, rfl⟩ := own_slice hrow
    refine round_wide (fun _ => trivial) hJ.lp hst hpe (by rw [hpa]; rfl) (fun b2 => ?_)
    rw [has, htm, hpa, hbo]
    simp only [List.zip_toArray, List.zip_cons_cons, List.zip_nil_right, List.zip_nil_left, List.foldl_toArray, List.foldl_cons, List.foldl_nil, List.setIfInBounds_toArray, List.set_cons_zero, List.set_cons_succ]
    gi_wp2
    have gA1 := World.grownBy_alloc W (.cells #[.string (strOfNums f.w), .bool f.o, .string (strOfNums f.v)] 54) none
    have hF1 := Fb.new W f
    have hl1 := at_kept hJ.lp gA1 (by simp)
    have hS1 := at_kept hS gA1 (by simp)
    have hrow1 := hrow.kept gA1 (Classical.em _)
    have hWl : w.heap.size + 4 < W.heap.size := (Array.getElem?_eq_some_iff.1 hJ.lp).1
    refine ⟨hl1, ?_⟩
    generalize W.alloc (.cells #[.string (strOfNums f.w), .bool f.o, .string (strOfNums f.v)] 54) = W1' at gA1 hF1 hl1 hS1 hrow1 ⊢
    have gB := grownBy_putObj' W1' (w.heap.size + 4) (.loop b2)
    have hl2 : (W1'.putObj (w.heap.size + 4) (.loop b2)).heap[w.heap.size + 4]? = some (.loop b2) := World.putObj_heap_same (Array.getElem?_eq_some_iff.1 hl1).1
    have hF2 := hF1.kept gB (fun e => by have := Option.some.inj e; omega)
    have hS2 := at_kept hS1 gB (by simp)
    have hrow2 := ownsRow_putObj hrow1 (.loop b2) hl1 rfl
    have gX : ∀ k, k < w.heap.size + 5 → k ≠ w.heap.size + 4 → (W1'.putObj (w.heap.size + 4) (.loop b2)).heap[k]? = W.heap[k]? := fun k h1 h2 => (gB.block k (by have := gA1.size; omega) (fun e => h2 (Option.some.inj e))).trans (gA1.block k (by omega) (by simp))
    have oX : (W1'.putObj (w.heap.size + 4) (.loop b2)).os = W.os := gB.os.trans gA1.os
    have tX : (W1'.putObj (w.heap.size + 4) (.loop b2)).tape = W.tape := gB.tape.trans gA1.tape
    have uX : (W1'.putObj (w.heap.size + 4) (.loop b2)).output = W.output := gB.output.trans gA1.output
    have sX : W.heap.size ≤ (W1'.putObj (w.heap.size + 4) (.loop b2)).heap.size := Nat.le_trans gA1.size gB.size
    generalize W1'.putObj (w.heap.size + 4) (.loop b2) = X at gB hl2 hF2 hS2 hrow2 gX oX tX uX sX ⊢
    clear gB gA1 hl1 hF1 hS1 hrow1 hst hpe htm hpa has hbo hS hrow
    have x0 := hF2.c0
    have x1 := hF2.c1
    have x2 := hF2.c2
    have z0 : X.frozen? ⟨w.heap.size, 0, none⟩ = false := by simp [World.frozen?, hS2]
    have z1 : X.frozen? ⟨w.heap.size, 1, none⟩ = false := by simp [World.frozen?, hS2]
    have z2 : X.frozen? ⟨w.heap.size, 2, none⟩ = false := by simp [World.frozen?, hS2]
    have y0 : X.cell? ⟨w.heap.size, 0, none⟩ = some (.string (strOfNums a.cmd)) := by simp [World.cell?, hS2]
    have y1 : X.cell? ⟨w.heap.size, 1, none⟩ = some (.string (strOfNums a.name)) := by simp [World.cell?, hS2]
    have y2 : X.cell? ⟨w.heap.size, 2, none⟩ = some (.slice vp a.opts.length vc) := by simp [World.cell?, hS2]
    have hfew := hJ.few
    by_cases hf0 : a.f = 0
    · have q0 : ((a.f : Int) == 0) = true := by rw [hf0]; rfl
      have hput : a.put f = { a with cmd := f.w, f := a.f + 1 } := by unfold Acc.put; rw [if_pos hf0]
      clear hf0
      gi_wp2
      have h3 := set_block hS2 0 (.string (strOfNums f.w))
      simp only [List.setIfInBounds_toArray, List.set_cons_zero, List.set_cons_succ] at h3
      have gS := grown_set X w.heap.size 0 (.string (strOfNums f.w))
      refine ⟨at_kept hl2 gS (by simp), ?_⟩
      rw [hput]
      exact hJ.next (a' := { a with cmd := f.w, f := a.f + 1 }) hk (gS.os.trans oX) (gS.tape.trans tX) (gS.output.trans uX) (Nat.le_trans sX gS.size) (fun k h1 h2 h3 => (gS.block k (by omega) (fun e => h2 (Option.some.inj e))).trans (gX k h1 h3)) (at_kept hl2 gS (by simp)) h3 (hrow2.kept gS (own_far hrow2 (by omega))) (by simp; omega)
    · have q0 : ((a.f : Int) == 0) = false := by rw [beq_eq_false_iff_ne]; omega
      cases hfo : f.o with
      | true =>
        have hput : a.put f = { a with opts := a.opts ++ [(f.w, f.v)], f := a.f + 1 } := by unfold Acc.put; rw [if_neg hf0, if_pos hfo]
        rw [hfo] at x1
        clear hf0
        gi_wp2_with (gi_at_builtin; refine wpListIn_append_own _ rfl _ _ 23 rfl (w.heap.size + 5) 31 i0 (.agg #[.string ⟨#[]⟩, .string ⟨#[]⟩]) 2 32 Try.underlying23 hi hz0 hz1 hz2 rfl (by decide) _ _ _ rfl (hrow2.alloc _) ⟨X.heap.size, 0, none⟩ 1 1 [.string (strOfNums f.w), .string (strOfNums f.v)] rfl rfl (two_new _ _ _ _) (by simp [Value.oneCell']) (by unfold maxLen; omega) (by omega) (by simp; omega) ?_; intro v' w6 hown6 hgrow6 _; obtain ⟨g6, cap6, rfl⟩ := ownsRow_succ hown6; have hS6 := at_kept (at_kept hS2 (World.grownBy_alloc X _ none) (by simp)) hgrow6 (fun e => by have := (hrow2.lt _ e.symm).1; omega); have zz : w6.frozen? ⟨w.heap.size, 2, none⟩ = false := (by simp [World.frozen?, hS6]); have yy : w6.cell? ⟨w.heap.size, 2, none⟩ = some (.slice vp a.opts.length vc) := (by simp [World.cell?, hS6]))
        have gZ : ∀ k, k < w.heap.size + 5 → w6.heap[k]? = X.heap[k]? := fun k h1 => (hgrow6.block k (by simp; omega) (fun e => by have := (hrow2.lt _ e.symm).1; omega)).trans ((World.grownBy_alloc X _ none).block k (by omega) (by simp))
        have h3 := set_block hS6 2 (.slice (some ⟨g6, 0, none⟩) (a.opts.length + 1) cap6)
        simp only [List.setIfInBounds_toArray, List.set_cons_zero, List.set_cons_succ] at h3
        have gS := grown_set w6 w.heap.size 2 (.slice (some ⟨g6, 0, none⟩) (a.opts.length + 1) cap6)
        have hl6 : (w6.setCell ⟨w.heap.size, 2, none⟩ (.slice (some ⟨g6, 0, none⟩) (a.opts.length + 1) cap6)).heap[w.heap.size + 4]? = some (.loop b2) := at_kept ((gZ _ (by omega)).trans hl2) gS (by simp)
        refine ⟨hl6, ?_⟩
        rw [hput]
        have hsz6 := hgrow6.size
        simp only [World.size_alloc] at hsz6
        exact hJ.next (a' := { a with opts := a.opts ++ [(f.w, f.v)], f := a.f + 1 }) hk (gS.os.trans (hgrow6.os.trans oX)) (gS.tape.trans (hgrow6.tape.trans tX)) (gS.output.trans (hgrow6.output.trans uX)) (Nat.le_trans sX (Nat.le_trans (by omega) gS.size)) (fun k h1 h2 h3 => ((gS.block k (by omega) (fun e => h2 (Option.some.inj e))).trans (gZ k h1)).trans (gX k h1 h3)) hl6 h3
          (by simp only [optL_snoc, List.length_append, List.length_cons, List.length_nil]; exact hown6.kept gS (own_far hown6 (by omega))) (by simp; omega)
      | false =>
        have hput : a.put f = { a with name := f.w, f := a.f + 1 } := by unfold Acc.put; rw [if_neg hf0, hfo]; rfl
        rw [hfo] at x1
        clear hf0
        gi_wp2
        have h3 := set_block hS2 1 (.string (strOfNums f.w))
        simp only [List.setIfInBounds_toArray, List.set_cons_zero, List.set_cons_succ] at h3
        have gS := grown_set X w.heap.size 1 (.string (strOfNums f.w))
        refine ⟨at_kept hl2 gS (by simp), ?_⟩
        rw [hput]
        exact hJ.next (a' := { a with name := f.w, f := a.f + 1 }) hk (gS.os.trans oX) (gS.tape.trans tX) (gS.output.trans uX) (Nat.le_trans sX gS.size) (fun k h1 h2 h3 => (gS.block k (by omega) (fun e => h2 (Option.some.inj e))).trans (gX k h1 h3)) (at_kept hl2 gS (by simp)) h3 (hrow2.kept gS (own_far hrow2 (by omega))) (by simp; omega)
  · intro e W2 hq
    rcases hq with ⟨a, rfl, hR, hJ, haf⟩ | ⟨a, p, rfl, hR, hJ⟩
    · obtain ⟨v, hS, hrow⟩ := hJ.said
      obtain ⟨vp, vc, rfl⟩ := own_slice hrow
      obtain ⟨rc', hel⟩ : ∃ rc' : Loop, (Instr.endLoop (w.heap.size + 4)).run Try.prog W2 = .ok none (W2.putObj (w.heap.size + 4) (.loop rc')) := by
        have h := run_endLoop (P := Try.prog) hJ.lp (by rw [hst]; simp)
        rw [hpe] at h
        exact ⟨_, h⟩
      refine ⟨none, _, hel, ?_⟩
      have gE := grownBy_putObj' W2 (w.heap.size + 4) (.loop rc')
      have hS4 := at_kept hS gE (by simp)
      have hA4 := at_kept hJ.at_ gE (by simp)
      have hD4 := at_kept hJ.dfr gE (by simp)
      have hrow4 := ownsRow_putObj hrow (.loop rc') hJ.lp rfl
      clear hel hst hpe htm hpa has hbo
      generalize W2.putObj (w.heap.size + 4) (.loop rc') = W4 at gE hS4 hA4 hD4 hrow4 ⊢
      have z0 : W4.frozen? ⟨w.heap.size, 0, none⟩ = false := by simp [World.frozen?, hS4]
      have z1 : W4.frozen? ⟨w.heap.size, 1, none⟩ = false := by simp [World.frozen?, hS4]
      have z2 : W4.frozen? ⟨w.heap.size, 2, none⟩ = false := by simp [World.frozen?, hS4]
      have z3 : W4.frozen? ⟨w.heap.size + 1, 0, none⟩ = false := by simp [World.frozen?, hA4]
      have y0 : W4.cell? ⟨w.heap.size, 0, none⟩ = some (.string (strOfNums a.cmd)) := by simp [World.cell?, hS4]
      have y1 : W4.cell? ⟨w.heap.size, 1, none⟩ = some (.string (strOfNums a.name)) := by simp [World.cell?, hS4]
      have y2 : W4.cell? ⟨w.heap.size, 2, none⟩ = some (.slice vp a.opts.length vc) := by simp [World.cell?, hS4]
      have y3 : W4.cell? ⟨w.heap.size + 1, 0, none⟩ = some (.int .i64 0) := by simp [World.cell?, hA4]
      gi_wp2
      have h3 := set_block (set_block (set_block hS4 0 (.string (strOfNums a.cmd))) 1 (.string (strOfNums a.name))) 2 (.slice vp a.opts.length vc)
      simp only [List.setIfInBounds_toArray, List.set_cons_zero, List.set_cons_succ] at h3
      have gS := grown_set3 W4 w.heap.size (.string (strOfNums a.cmd)) (.string (strOfNums a.name)) (.slice vp a.opts.length vc)
      have hA5 := at_kept hA4 gS (by simp)
      have hD5 := at_kept hD4 gS (by simp)
      have hrow5 := hrow4.kept gS (own_far hrow4 (by omega))
      generalize ((W4.setCell ⟨w.heap.size, 0, none⟩ (.string (strOfNums a.cmd))).setCell ⟨w.heap.size, 1, none⟩ (.string (strOfNums a.name))).setCell ⟨w.heap.size, 2, none⟩ (.slice vp a.opts.length vc) = W5 at h3 gS hA5 hD5 hrow5 ⊢
      have h6 := set_block hA5 0 (.int .i64 0)
      simp only [List.setIfInBounds_toArray, List.set_cons_zero, List.set_cons_succ] at h6
      have gA := grown_set W5 (w.heap.size + 1) 0 (.int .i64 0)
      have hS6 := at_kept h3 gA (by simp)
      have hD6 := at_kept hD5 gA (by simp)
      have hrow6 := hrow5.kept gA (own_far hrow5 (by omega))
      generalize W5.setCell ⟨w.heap.size + 1, 0, none⟩ (.int .i64 0) = W6 at h6 gA hS6 hD6 hrow6 ⊢
      have hrow7 := ownsRow_putObj hrow6 (.deferred none) hD6 rfl
      have gP := grownBy_putObj' W6 (w.heap.size + 3) (.deferred none)
      have hS7 := at_kept hS6 gP (by simp)
      have hA7 := at_kept h6 gP (by simp)
      have hG : w.grownBy W6 (some g) := (((hJ.gr.andThen gE (fun q e => by cases e; exact .inl (by omega))).andThen gS (fun q e => by cases e; exact .inl (by omega))).andThen gA (fun q e => by cases e; exact .inl (by omega)))
      refine ⟨by simp, .inl ⟨_, _, rfl, run_takeDeferred hD6, ?_⟩⟩
      generalize W6.putObj (w.heap.size + 3) (.deferred none) = W7 at hrow7 gP hS7 hA7 ⊢
      refine ⟨by simp, .inr ⟨fun h => (by cases h), _, _, 19, #[.pointer (some ⟨w.heap.size, 0, none⟩), .pointer (some ⟨w.heap.size + 1, 0, none⟩)], rfl, by simp [go_sem], fun _ _ => trivial, ?_⟩⟩
      refine (rec_idle _ _ _ _).mono ?_
      rintro e u' w8 ⟨rfl, rfl, g8⟩
      refine ⟨_, results_two (at_kept hS7 g8 (by simp)) (at_kept hA7 g8 (by simp)) rfl rfl rfl, .inl ⟨a, _, rfl, ?_, ?_, hR, (hG.andThen gP (fun q e => by cases e; exact .inl (by omega))).trans (g8.but _)⟩⟩
      · exact ownsRow_below (hrow7.kept g8 (Classical.em _)) (by omega)
      · have := hJ.few
        omega
    · show LeavesInM _ _ _ _ _ _ _ _ _
      refine ⟨by simp, .inl ⟨_, _, rfl, run_takeDeferred hJ.dfr, ?_⟩⟩
      obtain ⟨v, hS, hrow⟩ := hJ.said
      have gP := grownBy_putObj' W2 (w.heap.size + 3) (.deferred none)
      have hS7 := at_kept hS gP (by simp)
      have hA7 := at_kept hJ.at_ gP (by simp)
      have hG : w.grownBy (W2.putObj (w.heap.size + 3) (.deferred none)) (some g) := hJ.gr.andThen gP (fun q e => by cases e; exact .inl (by omega))
      generalize W2.putObj (w.heap.size + 3) (.deferred none) = W7 at gP hS7 hA7 hG ⊢
      refine ⟨by simp, .inr ⟨fun h => (by cases h), _, _, 19, #[.pointer (some ⟨w.heap.size, 0, none⟩), .pointer (some ⟨w.heap.size + 1, 0, none⟩)], rfl, by simp [go_sem], fun _ _ => trivial, ?_⟩⟩
      refine (rec_caught _ _ _ p _ _ _ _ _ hS7 hA7 (by omega)).mono ?_
      rintro e u' w8 ⟨rfl, rfl, hC⟩
      refine ⟨_, results_two hC.said hC.at_ rfl rfl rfl, .inr ⟨p, rfl, hR, ?_⟩⟩
      exact ⟨hC.os.trans hG.os, hC.tape.trans hG.tape, hC.output.trans hG.output, Nat.le_trans hG.size hC.size, fun k hk hne => (hC.block k (Nat.lt_of_lt_of_le hk hG.size) (by omega) (by omega)).trans (hG.block k hk hne)⟩
end Go.Proofs.Ytohhjohpdfbdoaa
