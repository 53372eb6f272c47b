import Derived.WalkKit
import Derived.Deep.RegionHeld3
import Derived.StillTail
import Derived.Test.YtcnikfikpnnblaaGreatDoorProg
import Derived.WalkMore
import Derived.Below
import Derived.Deep.Cut
import Derived.Laws.Tables
import Derived.Great.BuildSlice
import Derived.KernelRfl
namespace Go.Proofs.YtcnikfikpnnblaaGreatDoor
set_option linter.unusedVariables false
variable {P : Program} {ops : Array Oper} {Q : Exit → Act → World → Prop} {md : Region.Mode} {S : World → Prop} {n : Nat}

/-- Whatever order is picked; S holds behind every operation of the head (the first n); the tail may do as it likes. -/
def wpTill (P : Program) (md : Region.Mode) (ops : Array Oper) (Q : Exit → Act → World → Prop) (S : World → Prop) (n : Nat) : Nat → Array Bool → Act → World → Prop
 | 0, l, a, w => Region.ready md ops l = [] ∧ Q .normal a w
 | f + 1, l, a, w =>
  (Region.ready md ops l = [] → Q .normal a w) ∧
  ∀ i, i ∈ Region.ready md ops l → wpOp P ops Q i (fun b u => (i < n → S u) ∧ wpTill P md ops Q S n f (l.setIfInBounds i true) b u) a w

theorem any_of_till (f : Nat) : ∀ (l : Array Bool) (a : Act) (w : World), wpTill P md ops Q S n f l a w → wpAny P md ops Q f l a w := by
 induction f with
 | zero => exact fun _ _ _ h => h
 | succ f ih => exact fun l a w h => ⟨h.1, fun i hi => wpOp_mono (fun b u k => ih _ b u k.2) (h.2 i hi)⟩

theorem till_first {i : Nat} {oi : Oper} {v : Value} (hi : ops[i]? = some oi) (hin : i < n) (hn : n < ops.size) (hsk : Region.sinkB md ops n = true) (hch : Region.chainB md ops n = true)
  (hsel : ∀ (j : Nat) (o : Oper) cs b, ops[j]? = some o → o.op ≠ .select cs b) (hQ : ∀ c a w, Q (.panic c) (a.put oi.dst v) w → Q (.panic c) a w) (f : Nat) :
  ∀ (l : Array Bool) (a : Act) (w : World), HeadInv md ops n l →
   (∀ j oj, ops[j]? = some oj → j ≠ i → l.getD j true = false → (∀ e ∈ oj.after, Region.binds md e = true → e.on ≠ i) → oi.apart ops oj = true) →
   i ∈ Region.ready md ops l → YieldsIf P ops S oi v a → S w → wpTill P md ops Q S n f (l.setIfInBounds i true) (a.put oi.dst v) w → wpTill P md ops Q S n (f + 1) l a w := by
 induction f with
 | zero =>
  intro l a w inv _ hr hy hS H
  refine ⟨fun h => (by rw [h] at hr; cases hr), fun j hj => ?_⟩
  by_cases hji : j = i
  ·subst hji
   exact hy.wpOp hi hS ⟨fun _ => hS, H⟩
  ·have h := ready_mono hj hji
   rw [H.1] at h
   cases h
 | succ f ih =>
  intro l a w inv hfree hr hy hS H
  refine ⟨fun h => (by rw [h] at hr; cases hr), fun j hj => ?_⟩
  by_cases hji : j = i
  ·subst hji
   exact hy.wpOp hi hS ⟨fun _ => hS, H⟩
  have hun := (mem_ready.1 hr).1
  have hjn : j < n := by
   rcases Nat.lt_or_ge j n with h | h
   ·exact h
   ·exact absurd hj (tail_waits hsk hch hn inv _ i rfl hin hun j h)
  have h1 := H.2 j (ready_mono hj hji)
  obtain ⟨hjun, oj, hoj, hall⟩ := mem_ready.1 hj
  have hnot : ∀ e ∈ oj.after, Region.binds md e = true → e.on ≠ i := fun e he hb heq => by
   have h2 := hall e he hb
   rw [heq] at h2
   rw [getD_both hun] at h2
   cases h2
  have h2 := wpOp_putIf hoj (hfree j oj hoj hji hjun hnot) (fun cs b => hsel i oi cs b hi) (fun cs b => hsel j oj cs b hoj) hQ hy h1
  refine wpOp_mono (fun b u h3 => ?_) h2
  have hSu := h3.2.1 hjn
  refine ⟨fun _ => hSu, ih (l.setIfInBounds j true) b u (inv.set hj hjn) (fun k ok hk hki hku hno => ?_) (ready_mono hr (Ne.symm hji)) h3.1 hSu ?_⟩
  ·refine hfree k ok hk hki ?_ hno
   by_cases hjk : j = k
   ·subst hjk; exact hjun
   ·rw [getD_set_ne true hjk] at hku; exact hku
  ·rw [Array.setIfInBounds_comm _ _ hji]
   exact h3.2.2

/-- What is carried along: the head's invariant, and what the region's form gives once. -/
structure Inv (md : Region.Mode) (ops : Array Oper) (n : Nat) (l : Array Bool) : Prop where
 head : HeadInv md ops n l
 lt : n < ops.size
 sink : Region.sinkB md ops n = true
 chain : Region.chainB md ops n = true
 sel : Region.noSelect ops = true
theorem Inv.set {l : Array Bool} {i : Nat} (inv : Inv md ops n l) (hi : i ∈ Region.ready md ops l) (hin : i < n) : Inv md ops n (l.setIfInBounds i true) := ⟨inv.head.set hi hin, inv.lt, inv.sink, inv.chain, inv.sel⟩

/-- An operation of the head that yields under S is taken first. -/
theorem till_at (i d : Nat) (v : Value) {oi : Oper} {f : Nat} {l : Array Bool} {tmps : Array Value} {ds : List Deferred} {w : World} (inv : Inv md ops n l) (hi : ops[i]? = some oi) (hd : oi.dst = some d)
  (hin : i < n) (hf : Region.free md ops l i = true) (hr : (Region.ready md ops l).contains i = true)
  (hQ : ∀ c a w, Q (.panic c) (a.put oi.dst v) w → Q (.panic c) a w) (hS : S w) (hy : YieldsIf P ops S oi v ⟨tmps, ds⟩)
  (h : Inv md ops n (l.setIfInBounds i true) → wpTill P md ops Q S n f (l.setIfInBounds i true) ⟨tmps.setIfInBounds d v, ds⟩ w) : wpTill P md ops Q S n (f + 1) l ⟨tmps, ds⟩ w := by
 have hr' : i ∈ Region.ready md ops l := by simpa using hr
 refine till_first hi hin inv.lt inv.sink inv.chain (Region.noSelect_spec inv.sel) hQ f l _ w inv.head (Region.free_spec hi hf) hr' hy hS ?_
 rw [hd]
 exact h (inv.set hr' hin)
theorem tT (i d : Nat) (v : Value) {oi : Oper} {f : Nat} {l : Array Bool} {tmps : Array Value} {ds : List Deferred} {w : World} (inv : Inv md ops n l) (hi : ops[i]? = some oi) (hd : oi.dst = some d)
    (hb : (decide (i < n) && (Region.free md ops l i && (Region.ready md ops l).contains i)) = true) (hS : S w) (hy : YieldsIf P ops S oi v ⟨tmps, ds⟩)
    (h : Inv md ops n (l.setIfInBounds i true) → wpTill P md ops Q S n f (l.setIfInBounds i true) ⟨tmps.setIfInBounds d v, ds⟩ w) (hQ : ∀ c a w, Q (.panic c) (a.put oi.dst v) w → Q (.panic c) a w := by exact fun _ _ _ h => h) : wpTill P md ops Q S n (f + 1) l ⟨tmps, ds⟩ w := by
  rw [Bool.and_eq_true, Bool.and_eq_true] at hb
  exact till_at i d v inv hi hd (of_decide_eq_true hb.1) hb.2.1 hb.2.2 hQ hS hy h
theorem tU (i d : Nat) (v : Value) {oi : Oper} {f : Nat} {l : Array Bool} {tmps : Array Value} {ds : List Deferred} {w : World} (inv : Inv md ops n l) (hi : ops[i]? = some oi) (hd : oi.dst = some d) (hS : S w)
    (h : Inv md ops n (l.setIfInBounds i true) → wpTill P md ops Q S n f (l.setIfInBounds i true) ⟨tmps.setIfInBounds d v, ds⟩ w)
    (hb : (decide (i < n) && (Region.free md ops l i && (Region.ready md ops l).contains i)) = true := by decide +kernel) (hw : Region.wanted oi (yielded ops tmps) = true := by rfl)
    (hy : ∀ w, S w → (execOp (Act.eval ⟨tmps, ds⟩) oi).run P w = .ok (.value v) w := by intro w' hS'; go_simp) (hQ : ∀ c a w, Q (.panic c) (a.put oi.dst v) w → Q (.panic c) a w := by exact fun _ _ _ h => h) : wpTill P md ops Q S n (f + 1) l ⟨tmps, ds⟩ w :=
  tT i d v inv hi hd hb hS (Or.inl ⟨hw, hy⟩) h hQ
theorem tV (i d : Nat) (v : Value) {X : World → Prop} {oi : Oper} {f : Nat} {l : Array Bool} {tmps : Array Value} {ds : List Deferred} {w : World} (inv : Inv md ops n l) (hi : ops[i]? = some oi) (hd : oi.dst = some d) (hS : S w) (hq : ∀ w, S w → X w)
    (h : Inv md ops n (l.setIfInBounds i true) → wpTill P md ops Q S n f (l.setIfInBounds i true) ⟨tmps.setIfInBounds d v, ds⟩ w)
    (hb : (decide (i < n) && (Region.free md ops l i && (Region.ready md ops l).contains i)) = true := by decide +kernel) (hw : Region.wanted oi (yielded ops tmps) = true := by rfl)
    (hy : ∀ w, S w → X w → (execOp (Act.eval ⟨tmps, ds⟩) oi).run P w = .ok (.value v) w := by intro w' hS' q; go_simp) (hQ : ∀ c a w, Q (.panic c) (a.put oi.dst v) w → Q (.panic c) a w := by exact fun _ _ _ h => h) : wpTill P md ops Q S n (f + 1) l ⟨tmps, ds⟩ w :=
  tT i d v inv hi hd hb hS (Or.inl ⟨hw, fun w h => hy w h (hq w h)⟩) h hQ

/-- A lone operation of the head comes up. -/
theorem till_head {i : Nat} {o : Oper} {f : Nat} {l : Array Bool} {a : Act} {w : World} (inv : Inv md ops n l) (hr : Region.ready md ops l = [i]) (hin : i < n) (ho : ops[i]? = some o)
  (h : ∀ K' : Act → World → Prop, Shut (∀ a w, S w → (Inv md ops n (l.setIfInBounds i true) → wpTill P md ops Q S n f (l.setIfInBounds i true) a w) → K' a w) → if Region.wanted o (yielded ops a.tmps) = true then Oper.wp P o a w K' Q else K' (a.put o.dst undef) w) :
  wpTill P md ops Q S n (f + 1) l a w := by
 have hi : i ∈ Region.ready md ops l := by rw [hr]; simp
 refine ⟨fun h0 => (by rw [hr] at h0; cases h0), fun j hj => ?_⟩
 rw [hr] at hj
 obtain rfl : j = i := by simpa using hj
 exact wpOp_step ho (fun K' hK => h K' (fun a w hS hW => hK a w ⟨fun _ => hS, hW (inv.set hi hin)⟩))

/-- A lone operation of the tail comes up. -/
theorem till_tail {i : Nat} {o : Oper} {f : Nat} {l : Array Bool} {a : Act} {w : World} (hr : Region.ready md ops l = [i]) (hin : n ≤ i) (ho : ops[i]? = some o)
  (h : ∀ K' : Act → World → Prop, Shut (∀ a w, wpTill P md ops Q S n f (l.setIfInBounds i true) a w → K' a w) → if Region.wanted o (yielded ops a.tmps) = true then Oper.wp P o a w K' Q else K' (a.put o.dst undef) w) :
  wpTill P md ops Q S n (f + 1) l a w := by
 refine ⟨fun h0 => (by rw [hr] at h0; cases h0), fun j hj => ?_⟩
 rw [hr] at hj
 obtain rfl : j = i := by simpa using hj
 exact wpOp_step ho (fun K' hK => h K' (fun a w hW => hK a w ⟨fun h => by omega, hW⟩))

theorem till_done {l : Array Bool} {a : Act} {w : World} (hr : Region.ready md ops l = []) (h : Q .normal a w) : ∀ f, wpTill P md ops Q S n f l a w
 | 0 => ⟨hr, h⟩
 | _ + 1 => ⟨fun _ => h, fun i hi => by rw [hr] at hi; cases hi⟩

theorem wp_region_till {id : Nat} {a : Act} {w : World} (S : World → Prop) (n : Nat) (hm : P.follows .mixedOrders = true) (hn : n < ops.size) (hsk : Region.sinkB .any ops n = true) (hch : Region.chainB .any ops n = true) (hs : Region.noSelect ops = true)
  (h : Inv .any ops n (Array.replicate ops.size false) → wpTill P .any ops Q S n ops.size (Array.replicate ops.size false) a w.drew) : (Code.region id ops true).wp P Q a w := by
 refine wp_region_any hm (any_of_till _ _ _ _ (h ⟨⟨by simp, fun j oj _ hl => ?_, fun t _ ht => ?_⟩, hn, hsk, hch, hs⟩))
 ·rw [getD_replicate_false] at hl; cases hl
 ·simp [ht]
end Go.Proofs.YtcnikfikpnnblaaGreatDoor
namespace Go.Proofs.YtcnikfikpnnblaaGreatDoor
open Go.RowKit
set_option linter.unusedVariables false
/-- The ways to seal: a row each. -/
def modesL : List (List Value) := [[.string ⟨#[101, 99, 98]⟩, .int .i64 1, .int .i64 0, .int .i64 16, .nilFunc, .func (.func 86) #[] #[]],
 [.string ⟨#[99, 98, 99, 45, 110, 117, 108, 108]⟩, .int .i64 1, .int .i64 0, .int .i64 16, .func (.func 87) #[] #[], .func (.func 88) #[] #[]],
 [.string ⟨#[99, 98, 99, 45, 112, 108, 97, 105, 110]⟩, .int .i64 1, .int .i64 0, .int .i64 16, .func (.func 89) #[] #[], .func (.func 88) #[] #[]],
 [.string ⟨#[99, 98, 99, 45, 112, 108, 97, 105, 110, 54, 52]⟩, .int .i64 1, .int .i64 0, .int .i64 16, .func (.func 90) #[] #[], .func (.func 88) #[] #[]],
 [.string ⟨#[99, 98, 99, 45, 112, 108, 97, 105, 110, 54, 52, 98, 101]⟩, .int .i64 1, .int .i64 0, .int .i64 16, .func (.func 91) #[] #[], .func (.func 88) #[] #[]],
 [.string ⟨#[99, 98, 99, 45, 98, 101, 110, 98, 105]⟩, .int .i64 1, .int .i64 0, .int .i64 16, .func (.func 92) #[] #[], .func (.func 88) #[] #[]],
 [.string ⟨#[99, 98, 99, 45, 101, 115, 115, 105, 118, 58, 115, 104, 97, 50, 53, 54]⟩, .int .i64 1, .int .i64 0, .int .i64 16, .func (.func 93) #[] #[], .func (.func 88) #[] #[]],
 [.string ⟨#[99, 98, 99, 45, 101, 98, 111, 105, 118]⟩, .int .i64 1, .int .i64 0, .int .i64 16, .func (.func 94) #[] #[], .func (.func 88) #[] #[]],
 [.string ⟨#[99, 98, 99, 45, 101, 108, 101, 112, 104, 97, 110, 116]⟩, .int .i64 2, .int .i64 0, .int .i64 16, .func (.func 94) #[] #[], .func (.func 95) #[] #[]],
 [.string ⟨#[99, 98, 99, 45, 116, 99, 119]⟩, .int .i64 1, .int .i64 32, .int .i64 16, .func (.func 96) #[] #[], .func (.func 97) #[] #[]],
 [.string ⟨#[120, 116, 115, 45, 112, 108, 97, 105, 110]⟩, .int .i64 2, .int .i64 0, .int .i64 1, .func (.func 89) #[] #[], .func (.func 98) #[] #[]],
 [.string ⟨#[120, 116, 115, 45, 112, 108, 97, 105, 110, 54, 52]⟩, .int .i64 2, .int .i64 0, .int .i64 1, .func (.func 90) #[] #[], .func (.func 98) #[] #[]],
 [.string ⟨#[120, 116, 115, 45, 112, 108, 97, 105, 110, 54, 52, 98, 101]⟩, .int .i64 2, .int .i64 0, .int .i64 1, .func (.func 91) #[] #[], .func (.func 98) #[] #[]],
 [.string ⟨#[120, 116, 115, 45, 101, 115, 115, 105, 118, 58, 115, 104, 97, 50, 53, 54]⟩, .int .i64 2, .int .i64 0, .int .i64 1, .func (.func 93) #[] #[], .func (.func 98) #[] #[]],
 [.string ⟨#[108, 114, 119, 45, 98, 101, 110, 98, 105]⟩, .int .i64 1, .int .i64 16, .int .i64 16, .func (.func 92) #[] #[], .func (.func 99) #[] #[]],
 [.string ⟨#[104, 99, 116, 114, 50, 45, 112, 108, 97, 105, 110]⟩, .int .i64 1, .int .i64 0, .int .i64 1, .func (.func 89) #[] #[], .func (.func 100) #[] #[]],
 [.string ⟨#[104, 99, 116, 114, 50, 45, 112, 108, 97, 105, 110, 54, 52]⟩, .int .i64 1, .int .i64 0, .int .i64 1, .func (.func 90) #[] #[], .func (.func 100) #[] #[]]]
theorem modes_len : modesL.length = 17 := by decide

theorem built34 (s : ByteArray) (a b c : Int) (g : Nat) : Tryz.prog.built 83 [(0, .string s), (1, .int .i64 a), (2, .int .i64 b), (3, .int .i64 c), (4, .nilFunc), (5, .func (.func g) #[] #[])] = some #[.string s, .int .i64 a, .int .i64 b, .int .i64 c, .nilFunc, .func (.func g) #[] #[]] := by kernel_rfl
theorem built34f (s : ByteArray) (a b c : Int) (f g : Nat) : Tryz.prog.built 83 [(0, .string s), (1, .int .i64 a), (2, .int .i64 b), (3, .int .i64 c), (4, .func (.func f) #[] #[]), (5, .func (.func g) #[] #[])] = some #[.string s, .int .i64 a, .int .i64 b, .int .i64 c, .func (.func f) #[] #[], .func (.func g) #[] #[]] := by kernel_rfl
theorem info34 : ∃ i z, Tryz.prog.info? 83 = some i ∧ i.size = 6 ∧ i.bytes = 56 ∧ i.zero = some z ∧ z = .agg #[.string ⟨#[]⟩, .int .i64 0, .int .i64 0, .int .i64 0, .nilFunc, .nilFunc] := by
 have h1 : (Tryz.prog.info? 83).map (·.size) = some 6 := by kernel_rfl
 have h2 : (Tryz.prog.info? 83).map (·.bytes) = some 56 := by kernel_rfl
 have h3 : (Tryz.prog.info? 83).bind (·.zero) = some (.agg #[.string ⟨#[]⟩, .int .i64 0, .int .i64 0, .int .i64 0, .nilFunc, .nilFunc]) := by kernel_rfl
 cases hi : Tryz.prog.info? 83 with
 | none => rw [hi] at h1; cases h1
 | some i =>
  rw [hi] at h1 h2 h3
  exact ⟨i, _, rfl, by simpa using h1, by simpa using h2, by simpa using h3, rfl⟩
def modesP : List (Nat × Value) := (List.range 17).map fun k => (k, .agg (modesL.getD k []).toArray)
theorem fill_modes : Instr.fill (fun i => some (i * 6, 6)) ((Array.range (17 * 6)).map ((Value.agg #[.string ⟨#[]⟩, .int .i64 0, .int .i64 0, .int .i64 0, .nilFunc, .nilFunc]).cells[· % (Value.agg #[.string ⟨#[]⟩, .int .i64 0, .int .i64 0, .int .i64 0, .nilFunc, .nilFunc]).cells.size]!)) modesP = some modesL.flatten.toArray := by kernel_rfl
theorem run_modes (w : World) : (Instr.buildSlice 130 17 modesP.toArray).run Tryz.prog w = .ok (.slice (some ⟨w.heap.size, 0, none⟩) 17 17) (w.alloc (.cells modesL.flatten.toArray 83)) := by
 obtain ⟨i, z, hi, hs, _, hz, rfl⟩ := info34
 refine run_buildSlice w 130 83 17 _ _ i _ (by kernel_rfl) hi hz (by rw [hs]; decide) (by rw [hs]; decide) ?_
 rw [hs]
 exact fill_modes
set_option maxHeartbeats 1600000 in
set_option maxRecDepth 100000 in
theorem modes_ok (w : World) : Calls Tryz.prog 66 #[] w fun e w' => Hid (e = .returned (.slice (some ⟨w.heap.size, 0, none⟩) 17 17) ∧ w' = w.alloc (.cells modesL.flatten.toArray 83)) := by
 have r1 : ∀ (s : ByteArray) (a b c : Int) (g : Nat) (w : World), (Instr.build 83 #[(0, .string s), (1, .int .i64 a), (2, .int .i64 b), (3, .int .i64 c), (4, .nilFunc), (5, .func (.func g) #[] #[])]).run Tryz.prog w = .ok (.agg #[.string s, .int .i64 a, .int .i64 b, .int .i64 c, .nilFunc, .func (.func g) #[] #[]]) w := fun s a b c g w => run_build w _ _ _ (built34 s a b c g)
 have r2 : ∀ (s : ByteArray) (a b c : Int) (f g : Nat) (w : World), (Instr.build 83 #[(0, .string s), (1, .int .i64 a), (2, .int .i64 b), (3, .int .i64 c), (4, .func (.func f) #[] #[]), (5, .func (.func g) #[] #[])]).run Tryz.prog w = .ok (.agg #[.string s, .int .i64 a, .int .i64 b, .int .i64 c, .func (.func f) #[] #[], .func (.func g) #[] #[]]) w := fun s a b c f g w => run_build w _ _ _ (built34f s a b c f g)
 have r3 := run_modes w
 rw [show modesP.toArray = #[(0, .agg #[.string ⟨#[101, 99, 98]⟩, .int .i64 1, .int .i64 0, .int .i64 16, .nilFunc, .func (.func 86) #[] #[]]), (1, .agg #[.string ⟨#[99, 98, 99, 45, 110, 117, 108, 108]⟩, .int .i64 1, .int .i64 0, .int .i64 16, .func (.func 87) #[] #[], .func (.func 88) #[] #[]]), (2, .agg #[.string ⟨#[99, 98, 99, 45, 112, 108, 97, 105, 110]⟩, .int .i64 1, .int .i64 0, .int .i64 16, .func (.func 89) #[] #[], .func (.func 88) #[] #[]]), (3, .agg #[.string ⟨#[99, 98, 99, 45, 112, 108, 97, 105, 110, 54, 52]⟩, .int .i64 1, .int .i64 0, .int .i64 16, .func (.func 90) #[] #[], .func (.func 88) #[] #[]]), (4, .agg #[.string ⟨#[99, 98, 99, 45, 112, 108, 97, 105, 110, 54, 52, 98, 101]⟩, .int .i64 1, .int .i64 0, .int .i64 16, .func (.func 91) #[] #[], .func (.func 88) #[] #[]]), (5, .agg #[.string ⟨#[99, 98, 99, 45, 98, 101, 110, 98, 105]⟩, .int .i64 1, .int .i64 0, .int .i64 16, .func (.func 92) #[] #[], .func (.func 88) #[] #[]]), (6, .agg #[.string ⟨#[99, 98, 99, 45, 101, 115, 115, 105, 118, 58, 115, 104, 97, 50, 53, 54]⟩, .int .i64 1, .int .i64 0, .int .i64 16, .func (.func 93) #[] #[], .func (.func 88) #[] #[]]), (7, .agg #[.string ⟨#[99, 98, 99, 45, 101, 98, 111, 105, 118]⟩, .int .i64 1, .int .i64 0, .int .i64 16, .func (.func 94) #[] #[], .func (.func 88) #[] #[]]), (8, .agg #[.string ⟨#[99, 98, 99, 45, 101, 108, 101, 112, 104, 97, 110, 116]⟩, .int .i64 2, .int .i64 0, .int .i64 16, .func (.func 94) #[] #[], .func (.func 95) #[] #[]]), (9, .agg #[.string ⟨#[99, 98, 99, 45, 116, 99, 119]⟩, .int .i64 1, .int .i64 32, .int .i64 16, .func (.func 96) #[] #[], .func (.func 97) #[] #[]]), (10, .agg #[.string ⟨#[120, 116, 115, 45, 112, 108, 97, 105, 110]⟩, .int .i64 2, .int .i64 0, .int .i64 1, .func (.func 89) #[] #[], .func (.func 98) #[] #[]]), (11, .agg #[.string ⟨#[120, 116, 115, 45, 112, 108, 97, 105, 110, 54, 52]⟩, .int .i64 2, .int .i64 0, .int .i64 1, .func (.func 90) #[] #[], .func (.func 98) #[] #[]]), (12, .agg #[.string ⟨#[120, 116, 115, 45, 112, 108, 97, 105, 110, 54, 52, 98, 101]⟩, .int .i64 2, .int .i64 0, .int .i64 1, .func (.func 91) #[] #[], .func (.func 98) #[] #[]]), (13, .agg #[.string ⟨#[120, 116, 115, 45, 101, 115, 115, 105, 118, 58, 115, 104, 97, 50, 53, 54]⟩, .int .i64 2, .int .i64 0, .int .i64 1, .func (.func 93) #[] #[], .func (.func 98) #[] #[]]), (14, .agg #[.string ⟨#[108, 114, 119, 45, 98, 101, 110, 98, 105]⟩, .int .i64 1, .int .i64 16, .int .i64 16, .func (.func 92) #[] #[], .func (.func 99) #[] #[]]), (15, .agg #[.string ⟨#[104, 99, 116, 114, 50, 45, 112, 108, 97, 105, 110]⟩, .int .i64 1, .int .i64 0, .int .i64 1, .func (.func 89) #[] #[], .func (.func 100) #[] #[]]), (16, .agg #[.string ⟨#[104, 99, 116, 114, 50, 45, 112, 108, 97, 105, 110, 54, 52]⟩, .int .i64 1, .int .i64 0, .int .i64 1, .func (.func 90) #[] #[], .func (.func 100) #[] #[]])] from rfl] at r3
 obtain ⟨CS, HCS⟩ : ∃ x, Hid (modesL.flatten.toArray = x) := ⟨_, rfl⟩
 rw [HCS.out] at r3
 rw [HCS.out]
 go_enter Tryz.func66, Tryz.ntmps66
 go_wp2
 go_ret
 exact ⟨rfl, by rw [← HCS.out]; rfl⟩
end Go.Proofs.YtcnikfikpnnblaaGreatDoor
