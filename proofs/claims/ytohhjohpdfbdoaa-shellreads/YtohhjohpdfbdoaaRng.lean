import Derived.RangeFuncNested
import Derived.RangeFuncBound
import Derived.RangeFuncCalls
import Derived.RangeFuncLeaves
namespace Go.Proofs.Ytohhjohpdfbdoaa
open Go.RowKit
variable {P : Program} {n : Nat} {F : Fence}
/-- A range over a function whose iterator may panic: the record's parts as equations. -/
theorem range_wide (hro : F.round = none) (hfa : ∀ k, F.fn k) (hdp : F.depth = none) {g : Operand} {ps : Array Tmp} {assign body : Code} {Q : Exit → Act → World → Prop} {a : Act} {w : World} {gf : Nat} {lb : Array Value} (hg : a.eval g = .func (.func gf) #[] lb)
    (eg : ∀ args w, (callFunc gf args).run P w = .ok (.enter gf args) w)
    (h : ∀ rc : Loop, rc.state = .ready → rc.pending = none → rc.tmps = a.tmps → rc.params = ps → rc.assign = assign → rc.body = body →
      CallsIn F (n - 1) P gf (#[.func (.yield (w.heap.size + 1)) #[] #[]] ++ lb) ((w.alloc (.deferred (some []))).alloc (.loop rc)) (rangePost F n P (w.heap.size + 1) Q { a with defers := [{ target := .collected w.heap.size, args := #[] }] ++ a.defers })) :
    (Code.rangeFunc g ps assign body).wpIn F n P Q a w := by
  refine wpIn_rangeFunc ?_
  intro fn hfn
  rw [hro]
  have hc := h { state := .ready, pending := none, fn, tmps := a.tmps, params := ps, assign, body, defers := w.heap.size } rfl rfl rfl rfl rfl rfl
  have he := run_enterLoop_outer (P := P) (w := w) fn a.tmps ps assign body
  revert hc he
  generalize (w.alloc (.deferred (some []))).alloc (.loop { state := .ready, pending := none, fn, tmps := a.tmps, params := ps, assign, body, defers := w.heap.size }) = W1
  intro hc he
  have hres : (resolve a.eval (rangeCall g (w.heap.size + 1)) 0).run P W1 = .ok { target := .fn (.func gf) lb, args := #[.func (.yield (w.heap.size + 1)) #[] #[]] } W1 := by
    simp only [resolve, hg]
    simp [go_sem]
  have hinv : (invoke (.fn (.func gf) lb) #[.func (.yield (w.heap.size + 1)) #[] #[]]).run P W1 = .ok (.enter gf (#[.func (.yield (w.heap.size + 1)) #[] #[]] ++ lb)) W1 := by
    simp [invoke, go_sem, eg]
  have hdp' : F.depth.isSome = true → 1 ≤ n := by
    intro h
    simp [hdp] at h
  exact ⟨_, _, W1, _, W1, gf, _, W1, he, hres, fun f' _ => hfa f', hinv, hdp', hc⟩
/-- A round that goes through. -/
theorem round_wide (hfa : ∀ k, F.fn k) {rc : Loop} {l : Nat} {W : World} (hl : W.heap[l]? = some (.loop rc)) (hst : rc.state = .ready) (hpe : rc.pending = none) {args : Array Value} (hs : args.size = rc.params.size) {R : Ending → World → Prop}
    (h : ∀ b : Loop, rc.assign.wpIn (F.inRound l) n P (Exit.then (fun a₁ w₁ => w₁.heap[l]? = some (.loop rc) ∧
        rc.body.wpIn (F.inRound l) n P (Exit.then (fun _ w₃ => w₃.heap[l]? = some (.loop b) ∧ R (.returned (.bool true)) (w₃.putObj l (.loop rc))) (fun _ _ _ => False)) a₁ (w₁.putObj l (.loop b))) (fun _ _ _ => False))
      { tmps := (rc.params.zip args).foldl (fun t (p, v) => t.setIfInBounds p v) rc.tmps, defers := [] } W) : YieldAt F n P l args W R := by
  refine ⟨_, _, _, _, run_yield hl hs, roundIn_of_wpIn (hfa _) (wpIn_mono (h { rc with state := .busy }) ?_)⟩
  intro e a₁ w₁ hq
  cases e with
  | normal =>
    obtain ⟨hl1, hb⟩ := hq
    refine ⟨_, run_beginRound hl1 hst, wpIn_mono hb ?_⟩
    intro e a₃ w₃ hq3
    cases e with
    | normal =>
      obtain ⟨hl3, hR⟩ := hq3
      refine ⟨_, _, run_endRound none hl3, ?_⟩
      have e1 : ({ { rc with state := .busy } with state := .ready, pending := none } : Loop) = rc := by
        obtain ⟨st, pe, fn, tm, pa, as, bo, de⟩ := rc
        simp only at hst hpe
        subst hst
        subst hpe
        rfl
      simp only [Option.isNone_none, if_true]
      rw [e1]
      exact hR
    | exit id => exact hq3.elim
    | goto t => exact hq3.elim
    | ret => exact hq3.elim
    | panic c => exact hq3.elim
    | outgrown => exact hq3.elim
  | exit id => exact hq.elim
  | goto t => exact hq.elim
  | ret => exact hq.elim
  | panic c => exact hq.elim
  | outgrown => exact hq.elim
end Go.Proofs.Ytohhjohpdfbdoaa
