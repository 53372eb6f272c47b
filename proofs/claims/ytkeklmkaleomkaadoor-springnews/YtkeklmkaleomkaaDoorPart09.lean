import Derived.WalkKit
import Derived.Deep.RegionHeld3
import Derived.StillTail
import Derived.Test.YtkeklmkaleomkaaDoorPart00
import Derived.Laws.BitsAllLaws
import Derived.Laws.Bits64
import Derived.Test.YtkeklmkaleomkaaDoorPart02
import Derived.Test.YtkeklmkaleomkaaDoorPart03
namespace Go.Proofs.YtkeklmkaleomkaaDoor
set_option linter.unusedVariables false
variable {P : Program} {ops : Array Oper} {Q : Exit → Act → World → Prop} {md : Region.Mode} {S : World → Prop} {n : Nat}

/-- Whatever order is picked; S holds behind every operation of the head (the first n); the tail may do as it likes. -/
def wpTill (P : Program) (md : Region.Mode) (ops : Array Oper) (Q : Exit → Act → World → Prop) (S : World → Prop) (n : Nat) : Nat → Array Bool → Act → World → Prop
  | 0, l, a, w => Region.ready md ops l = [] ∧ Q .normal a w
  | f + 1, l, a, w =>
    (Region.ready md ops l = [] → Q .normal a w) ∧
    ∀ i, i ∈ Region.ready md ops l → wpOp P ops Q i (fun b u => (i < n → S u) ∧ wpTill P md ops Q S n f (l.setIfInBounds i true) b u) a w

theorem any_of_till (f : Nat) : ∀ (l : Array Bool) (a : Act) (w : World), wpTill P md ops Q S n f l a w → wpAny P md ops Q f l a w := by
  induction f with
  | zero => exact fun _ _ _ h => h
  | succ f ih => exact fun l a w h => ⟨h.1, fun i hi => wpOp_mono (fun b u k => ih _ b u k.2) (h.2 i hi)⟩

theorem till_first {i : Nat} {oi : Oper} {v : Value} (hi : ops[i]? = some oi) (hin : i < n) (hn : n < ops.size) (hsk : Region.sinkB md ops n = true) (hch : Region.chainB md ops n = true)
    (hsel : ∀ (j : Nat) (o : Oper) cs b, ops[j]? = some o → o.op ≠ .select cs b) (hQ : ∀ c a w, Q (.panic c) (a.put oi.dst v) w → Q (.panic c) a w) (f : Nat) :
    ∀ (l : Array Bool) (a : Act) (w : World), HeadInv md ops n l →
      (∀ j oj, ops[j]? = some oj → j ≠ i → l.getD j true = false → (∀ e ∈ oj.after, Region.binds md e = true → e.on ≠ i) → oi.apart ops oj = true) →
      i ∈ Region.ready md ops l → YieldsIf P ops S oi v a → S w → wpTill P md ops Q S n f (l.setIfInBounds i true) (a.put oi.dst v) w → wpTill P md ops Q S n (f + 1) l a w := by
  induction f with
  | zero =>
    intro l a w inv _ hr hy hS H
    refine ⟨fun h => (by rw [h] at hr; cases hr), fun j hj => ?_⟩
    by_cases hji : j = i
    · subst hji
      exact hy.wpOp hi hS ⟨fun _ => hS, H⟩
    · have h := ready_mono hj hji
      rw [H.1] at h
      cases h
  | succ f ih =>
    intro l a w inv hfree hr hy hS H
    refine ⟨fun h => (by rw [h] at hr; cases hr), fun j hj => ?_⟩
    by_cases hji : j = i
    · subst hji
      exact hy.wpOp hi hS ⟨fun _ => hS, H⟩
    have hun := (mem_ready.1 hr).1
    have hjn : j < n := by
      rcases Nat.lt_or_ge j n with h | h
      · exact h
      · exact absurd hj (tail_waits hsk hch hn inv _ i rfl hin hun j h)
    have h1 := H.2 j (ready_mono hj hji)
    obtain ⟨hjun, oj, hoj, hall⟩ := mem_ready.1 hj
    have hnot : ∀ e ∈ oj.after, Region.binds md e = true → e.on ≠ i := fun e he hb heq => by
      have h2 := hall e he hb
      rw [heq] at h2
      rw [getD_both hun] at h2
      cases h2
    have h2 := wpOp_putIf hoj (hfree j oj hoj hji hjun hnot) (fun cs b => hsel i oi cs b hi) (fun cs b => hsel j oj cs b hoj) hQ hy h1
    refine wpOp_mono (fun b u h3 => ?_) h2
    have hSu := h3.2.1 hjn
    refine ⟨fun _ => hSu, ih (l.setIfInBounds j true) b u (inv.set hj hjn) (fun k ok hk hki hku hno => ?_) (ready_mono hr (Ne.symm hji)) h3.1 hSu ?_⟩
    · refine hfree k ok hk hki ?_ hno
      by_cases hjk : j = k
      · subst hjk; exact hjun
      · rw [getD_set_ne true hjk] at hku; exact hku
    · rw [Array.setIfInBounds_comm _ _ hji]
      exact h3.2.2

/-- What is carried along: the head's invariant, and what the region's form gives once. -/
structure Inv (md : Region.Mode) (ops : Array Oper) (n : Nat) (l : Array Bool) : Prop where
  head : HeadInv md ops n l
  lt : n < ops.size
  sink : Region.sinkB md ops n = true
  chain : Region.chainB md ops n = true
  sel : Region.noSelect ops = true
theorem Inv.set {l : Array Bool} {i : Nat} (inv : Inv md ops n l) (hi : i ∈ Region.ready md ops l) (hin : i < n) : Inv md ops n (l.setIfInBounds i true) := ⟨inv.head.set hi hin, inv.lt, inv.sink, inv.chain, inv.sel⟩

/-- An operation of the head that yields under S is taken first. -/
theorem till_at (i d : Nat) (v : Value) {oi : Oper} {f : Nat} {l : Array Bool} {tmps : Array Value} {ds : List Deferred} {w : World} (inv : Inv md ops n l) (hi : ops[i]? = some oi) (hd : oi.dst = some d)
    (hin : i < n) (hf : Region.free md ops l i = true) (hr : (Region.ready md ops l).contains i = true)
    (hQ : ∀ c a w, Q (.panic c) (a.put oi.dst v) w → Q (.panic c) a w) (hS : S w) (hy : YieldsIf P ops S oi v ⟨tmps, ds⟩)
    (h : Inv md ops n (l.setIfInBounds i true) → wpTill P md ops Q S n f (l.setIfInBounds i true) ⟨tmps.setIfInBounds d v, ds⟩ w) : wpTill P md ops Q S n (f + 1) l ⟨tmps, ds⟩ w := by
  have hr' : i ∈ Region.ready md ops l := by simpa using hr
  refine till_first hi hin inv.lt inv.sink inv.chain (Region.noSelect_spec inv.sel) hQ f l _ w inv.head (Region.free_spec hi hf) hr' hy hS ?_
  rw [hd]
  exact h (inv.set hr' hin)

/-- A lone operation of the head comes up. -/
theorem till_head {i : Nat} {o : Oper} {f : Nat} {l : Array Bool} {a : Act} {w : World} (inv : Inv md ops n l) (hr : Region.ready md ops l = [i]) (hin : i < n) (ho : ops[i]? = some o)
    (h : ∀ K' : Act → World → Prop, Shut (∀ a w, S w → (Inv md ops n (l.setIfInBounds i true) → wpTill P md ops Q S n f (l.setIfInBounds i true) a w) → K' a w) → if Region.wanted o (yielded ops a.tmps) = true then Oper.wp P o a w K' Q else K' (a.put o.dst undef) w) :
    wpTill P md ops Q S n (f + 1) l a w := by
  have hi : i ∈ Region.ready md ops l := by rw [hr]; simp
  refine ⟨fun h0 => (by rw [hr] at h0; cases h0), fun j hj => ?_⟩
  rw [hr] at hj
  obtain rfl : j = i := by simpa using hj
  exact wpOp_step ho (fun K' hK => h K' (fun a w hS hW => hK a w ⟨fun _ => hS, hW (inv.set hi hin)⟩))

/-- A lone operation of the tail comes up. -/
theorem till_tail {i : Nat} {o : Oper} {f : Nat} {l : Array Bool} {a : Act} {w : World} (hr : Region.ready md ops l = [i]) (hin : n ≤ i) (ho : ops[i]? = some o)
    (h : ∀ K' : Act → World → Prop, Shut (∀ a w, wpTill P md ops Q S n f (l.setIfInBounds i true) a w → K' a w) → if Region.wanted o (yielded ops a.tmps) = true then Oper.wp P o a w K' Q else K' (a.put o.dst undef) w) :
    wpTill P md ops Q S n (f + 1) l a w := by
  refine ⟨fun h0 => (by rw [hr] at h0; cases h0), fun j hj => ?_⟩
  rw [hr] at hj
  obtain rfl : j = i := by simpa using hj
  exact wpOp_step ho (fun K' hK => h K' (fun a w hW => hK a w ⟨fun h => by omega, hW⟩))

theorem till_done {l : Array Bool} {a : Act} {w : World} (hr : Region.ready md ops l = []) (h : Q .normal a w) : ∀ f, wpTill P md ops Q S n f l a w
  | 0 => ⟨hr, h⟩
  | _ + 1 => ⟨fun _ => h, fun i hi => by rw [hr] at hi; cases hi⟩

theorem wp_region_till {id : Nat} {a : Act} {w : World} (S : World → Prop) (n : Nat) (hm : P.follows .mixedOrders = true) (hn : n < ops.size) (hsk : Region.sinkB .any ops n = true) (hch : Region.chainB .any ops n = true) (hs : Region.noSelect ops = true)
    (h : Inv .any ops n (Array.replicate ops.size false) → wpTill P .any ops Q S n ops.size (Array.replicate ops.size false) a w.drew) : (Code.region id ops true).wp P Q a w := by
  refine wp_region_any hm (any_of_till _ _ _ _ (h ⟨⟨by simp, fun j oj _ hl => ?_, fun t _ ht => ?_⟩, hn, hsk, hch, hs⟩))
  · rw [getD_replicate_false] at hl; cases hl
  · simp [ht]
end Go.Proofs.YtkeklmkaleomkaaDoor
namespace Go.Proofs.YtkeklmkaleomkaaDoor
open Go.RowKit
set_option linter.unusedVariables false
/-- What a block function of the document's answer has in memory: the words that it was handed (block N), the constants (block N + 1, where there are some), room for what it answers (rb), the schedule (wb). -/
structure TX (w wr : World) (H : List Value) (K : Nat → Option Value) (rb wb M : Nat) (G : Nat → Value) : Prop where
  below : Below w.heap.size w wr
  nb : w.heap.size < rb ∧ w.heap.size < wb ∧ rb ≠ wb ∧ wb ≠ w.heap.size + 1 ∨ w.heap.size < rb ∧ w.heap.size < wb ∧ rb ≠ wb ∧ ∀ t, K t = none
  sz : rb < wr.heap.size ∧ wb < wr.heap.size ∧ w.heap.size < wr.heap.size
  h : wr.rangeAt w.heap.size 0 H
  k : ∀ t v, K t = some v → wr.cell? ⟨w.heap.size + 1, t, none⟩ = some v
  res : wr.there rb 0 8
  wth : wr.there wb 0 M
  fill : ∀ j, j < M → wr.cell? ⟨wb, j, none⟩ = some (G j)
theorem TX.drewN {w wr : World} {H : List Value} {K : Nat → Option Value} {rb wb M : Nat} {G : Nat → Value} (h : TX w wr H K rb wb M G) (n : Nat) : TX w (wr.drewN n) H K rb wb M G :=
  ⟨⟨h.below.os, h.below.tape, h.below.output, h.below.size, h.below.block⟩, h.nb, h.sz, h.h, h.k, h.res, h.wth, h.fill⟩
theorem TX.drew {w wr : World} {H : List Value} {K : Nat → Option Value} {rb wb M : Nat} {G : Nat → Value} (h : TX w wr H K rb wb M G) : TX w wr.drew H K rb wb M G :=
  ⟨⟨h.below.os, h.below.tape, h.below.output, h.below.size, h.below.block⟩, h.nb, h.sz, h.h, h.k, h.res, h.wth, h.fill⟩
theorem TX.congr {w wr : World} {H : List Value} {K : Nat → Option Value} {rb wb M : Nat} {G G' : Nat → Value} (h : TX w wr H K rb wb M G) (e : ∀ j, j < M → G j = G' j) : TX w wr H K rb wb M G' :=
  ⟨h.below, h.nb, h.sz, h.h, h.k, h.res, h.wth, fun j hj => by rw [← e j hj]; exact h.fill j hj⟩
theorem setCell_other (w : World) (b o b' o' : Nat) (u : Value) (hne : b' ≠ b) : (w.setCell ⟨b, o, none⟩ u).cell? ⟨b', o', none⟩ = w.cell? ⟨b', o', none⟩ :=
  World.cell?_of_block (w := w) (Below.heap_setCell w ⟨b, o, none⟩ u b' (by simpa using hne))
theorem TX.put {w wr : World} {H : List Value} {K : Nat → Option Value} {rb wb M : Nat} {G : Nat → Value} (h : TX w wr H K rb wb M G) (t : Nat) (ht : t < M) (u : Value) : TX w (wr.setCell ⟨wb, t, none⟩ u) H K rb wb M (fun j => if j = t then u else G j) := by
  have n1 : w.heap.size < rb ∧ w.heap.size < wb ∧ rb ≠ wb := by rcases h.nb with q | q <;> exact ⟨q.1, q.2.1, q.2.2.1⟩
  refine ⟨h.below.setCell (by show _ ≤ wb; omega) u, h.nb, by simpa [World.setCell] using h.sz, fun j v hv => ?_, fun j v hv => ?_, World.there_setCells h.res wb t [u], World.there_setCells h.wth wb t [u], fun j hj => ?_⟩
  · rw [setCell_other wr wb t _ _ u (by omega)]
    exact h.h j v hv
  · rcases h.nb with q | q
    · rw [setCell_other wr wb t _ _ u (by omega)]
      exact h.k j v hv
    · rw [q.2.2.2 j] at hv
      cases hv
  · by_cases e : j = t
    · subst e
      rw [if_pos rfl]
      have := (h.wth j hj).1
      rw [Nat.zero_add] at this
      exact World.cell?_setCell_same' _ _ _ this
    · rw [if_neg e]
      have := World.cell?_setCells_out wb [u] t wr ⟨wb, j, none⟩ (fun _ _ => by show j < t ∨ t + 1 ≤ j; omega)
      exact this.trans (h.fill j hj)
/-- Cells of what was made before lie as they did. -/
theorem cell_alloc_old (w : World) (o : Obj) (b j : Nat) (hb : b < w.heap.size) : (w.alloc o).cell? ⟨b, j, none⟩ = w.cell? ⟨b, j, none⟩ := World.cell?_of_block (w := w) (Below.heap_alloc w o b hb)
theorem there_alloc_old {w : World} {b o n : Nat} (h : w.there b o n) (hb : b < w.heap.size) (ob : Obj) : (w.alloc ob).there b o n := fun j hj => by
  rw [cell_alloc_old w ob b (o + j) hb, World.frozen?_of_block (w := w) (a := ⟨b, o + j, none⟩) (Below.heap_alloc w ob b hb)]
  exact h j hj
theorem range_alloc_old {w : World} {b o : Nat} {cs : List Value} (h : w.rangeAt b o cs) (hb : b < w.heap.size) (ob : Obj) : (w.alloc ob).rangeAt b o cs := fun j v hv => by
  rw [cell_alloc_old w ob b (o + j) hb]
  exact h j v hv
theorem size_alloc (w : World) (o : Obj) : (w.alloc o).heap.size = w.heap.size + 1 := by simp
theorem tx_new4 (w : World) (H Kc Z8 Zw : Array Value) (t1 t2 t3 t4 : TypeId) (K : Nat → Option Value) (M : Nat) (G : Nat → Value) (h8 : Z8.size = 8) (hM : Zw.size = M) (hK : ∀ t v, K t = some v → Kc[t]? = some v) (hG : ∀ j, j < M → Zw[j]? = some (G j)) :
    TX w ((((w.alloc (.cells H t1)).alloc (.cells Kc t2)).alloc (.cells Z8 t3)).alloc (.cells Zw t4)) H.toList K (w.heap.size + 2) (w.heap.size + 3) M G := by
  obtain ⟨w1, e1⟩ : ∃ w1, w1 = w.alloc (.cells H t1) := ⟨_, rfl⟩
  obtain ⟨w2, e2⟩ : ∃ w2, w2 = w1.alloc (.cells Kc t2) := ⟨_, rfl⟩
  obtain ⟨w3, e3⟩ : ∃ w3, w3 = w2.alloc (.cells Z8 t3) := ⟨_, rfl⟩
  have s1 : w1.heap.size = w.heap.size + 1 := by rw [e1, size_alloc]
  have s2 : w2.heap.size = w.heap.size + 2 := by rw [e2, size_alloc, s1]
  have s3 : w3.heap.size = w.heap.size + 3 := by rw [e3, size_alloc, s2]
  rw [← e1, ← e2, ← e3]
  have b1 : Below w.heap.size w w1 := by rw [e1]; exact (Below.refl _ _).alloc (Nat.le_refl _) _
  have b2 : Below w.heap.size w w2 := by rw [e2]; exact b1.alloc (by omega) _
  have b3 : Below w.heap.size w w3 := by rw [e3]; exact b2.alloc (by omega) _
  refine ⟨b3.alloc (by omega) _, .inl (by omega), by rw [size_alloc]; omega, ?_, fun t v hv => ?_, ?_, ?_, fun j hj => ?_⟩
  · have r1 : w1.rangeAt w.heap.size 0 H.toList := by rw [e1]; exact rangeAt_new w H t1
    have r2 : w2.rangeAt w.heap.size 0 H.toList := by rw [e2]; exact range_alloc_old r1 (by omega) _
    have r3 : w3.rangeAt w.heap.size 0 H.toList := by rw [e3]; exact range_alloc_old r2 (by omega) _
    exact range_alloc_old r3 (by omega) _
  · rw [cell_alloc_old w3 _ _ _ (by omega), e3, cell_alloc_old w2 _ _ _ (by omega), e2]
    have := rangeAt_new w1 Kc t2 t v (by simpa using hK t v hv)
    rw [s1, Nat.zero_add] at this
    exact this
  · have := there_new w2 Z8 t3 8 (by omega)
    rw [s2, ← e3] at this
    exact there_alloc_old this (by omega) _
  · have := there_new w3 Zw t4 M (by omega)
    rw [s3] at this
    exact this
  · have := rangeAt_new w3 Zw t4 j (G j) (by simpa using hG j hj)
    rw [s3, Nat.zero_add] at this
    exact this
theorem tx_new3 (w : World) (H Z8 Zw : Array Value) (t1 t3 t4 : TypeId) (M : Nat) (G : Nat → Value) (h8 : Z8.size = 8) (hM : Zw.size = M) (hG : ∀ j, j < M → Zw[j]? = some (G j)) :
    TX w (((w.alloc (.cells H t1)).alloc (.cells Z8 t3)).alloc (.cells Zw t4)) H.toList (fun _ => none) (w.heap.size + 1) (w.heap.size + 2) M G := by
  obtain ⟨w1, e1⟩ : ∃ w1, w1 = w.alloc (.cells H t1) := ⟨_, rfl⟩
  obtain ⟨w2, e2⟩ : ∃ w2, w2 = w1.alloc (.cells Z8 t3) := ⟨_, rfl⟩
  have s1 : w1.heap.size = w.heap.size + 1 := by rw [e1, size_alloc]
  have s2 : w2.heap.size = w.heap.size + 2 := by rw [e2, size_alloc, s1]
  rw [← e1, ← e2]
  have b1 : Below w.heap.size w w1 := by rw [e1]; exact (Below.refl _ _).alloc (Nat.le_refl _) _
  have b2 : Below w.heap.size w w2 := by rw [e2]; exact b1.alloc (by omega) _
  refine ⟨b2.alloc (by omega) _, .inr ⟨by omega, by omega, by omega, fun _ => rfl⟩, by rw [size_alloc]; omega, ?_, fun t v hv => (by cases hv), ?_, ?_, fun j hj => ?_⟩
  · have r1 : w1.rangeAt w.heap.size 0 H.toList := by rw [e1]; exact rangeAt_new w H t1
    have r2 : w2.rangeAt w.heap.size 0 H.toList := by rw [e2]; exact range_alloc_old r1 (by omega) _
    exact range_alloc_old r2 (by omega) _
  · have := there_new w1 Z8 t3 8 (by omega)
    rw [s1, ← e2] at this
    exact there_alloc_old this (by omega) _
  · have := there_new w2 Zw t4 M (by omega)
    rw [s2] at this
    exact this
  · have := rangeAt_new w2 Zw t4 j (G j) (by simpa using hG j hj)
    rw [s2, Nat.zero_add] at this
    exact this
end Go.Proofs.YtkeklmkaleomkaaDoor
namespace Go.Proofs.YtkeklmkaleomkaaDoor
open Go.RowKit
theorem bx32 (a b : Int) : bits .xor .u32 a b = (((BitVec.ofInt 32 a ^^^ BitVec.ofInt 32 b).toNat : Nat) : Int) := by
  show IntKind.u32.wrap ((BitVec.ofInt 32 a ^^^ BitVec.ofInt 32 b).toNat : Int) = _
  have := (BitVec.ofInt 32 a ^^^ BitVec.ofInt 32 b).isLt
  rw [IntKind.wrap_u32']
  omega
theorem bo32 (a b : Int) : bits .or .u32 a b = (((BitVec.ofInt 32 a ||| BitVec.ofInt 32 b).toNat : Nat) : Int) := by
  show IntKind.u32.wrap ((BitVec.ofInt 32 a ||| BitVec.ofInt 32 b).toNat : Int) = _
  have := (BitVec.ofInt 32 a ||| BitVec.ofInt 32 b).isLt
  rw [IntKind.wrap_u32']
  omega
theorem ba32 (a b : Int) : bits .and .u32 a b = (((BitVec.ofInt 32 a &&& BitVec.ofInt 32 b).toNat : Nat) : Int) := by
  show IntKind.u32.wrap ((BitVec.ofInt 32 a &&& BitVec.ofInt 32 b).toNat : Int) = _
  have := (BitVec.ofInt 32 a &&& BitVec.ofInt 32 b).isLt
  rw [IntKind.wrap_u32']
  omega
theorem bx64 (a b : Int) : bits .xor .u64 a b = (((BitVec.ofInt 64 a ^^^ BitVec.ofInt 64 b).toNat : Nat) : Int) := by
  show IntKind.u64.wrap ((BitVec.ofInt 64 a ^^^ BitVec.ofInt 64 b).toNat : Int) = _
  have := (BitVec.ofInt 64 a ^^^ BitVec.ofInt 64 b).isLt
  rw [IntKind.wrap_u64]
  omega
theorem bo64 (a b : Int) : bits .or .u64 a b = (((BitVec.ofInt 64 a ||| BitVec.ofInt 64 b).toNat : Nat) : Int) := by
  show IntKind.u64.wrap ((BitVec.ofInt 64 a ||| BitVec.ofInt 64 b).toNat : Int) = _
  have := (BitVec.ofInt 64 a ||| BitVec.ofInt 64 b).isLt
  rw [IntKind.wrap_u64]
  omega
theorem ba64 (a b : Int) : bits .and .u64 a b = (((BitVec.ofInt 64 a &&& BitVec.ofInt 64 b).toNat : Nat) : Int) := by
  show IntKind.u64.wrap ((BitVec.ofInt 64 a &&& BitVec.ofInt 64 b).toNat : Int) = _
  have := (BitVec.ofInt 64 a &&& BitVec.ofInt 64 b).isLt
  rw [IntKind.wrap_u64]
  omega
theorem of32 (v : BitVec 32) : BitVec.ofInt 32 ((v.toNat : Nat) : Int) = v := by
  apply BitVec.eq_of_toNat_eq
  simp
theorem of64 (v : BitVec 64) : BitVec.ofInt 64 ((v.toNat : Nat) : Int) = v := by
  apply BitVec.eq_of_toNat_eq
  simp
theorem or_comm32 (a b : Int) : bits .or .u32 a b = bits .or .u32 b a := by rw [bo32, bo32, BitVec.or_comm]
theorem or_comm64 (a b : Int) : bits .or .u64 a b = bits .or .u64 b a := by rw [bo64, bo64, BitVec.or_comm]
/-- The complement, as the walk prints it. -/
theorem not32 (e : Int) : BitVec.ofInt 32 (bits .xor .u32 (if IntKind.u32.signed = true then -1 else IntKind.u32.max) e) = ~~~ (BitVec.ofInt 32 e) := by
  rw [bx32, of32, show (if IntKind.u32.signed = true then (-1 : Int) else IntKind.u32.max) = 4294967295 by decide, show BitVec.ofInt 32 4294967295 = BitVec.allOnes 32 by decide, BitVec.allOnes_xor]
theorem not64 (e : Int) : BitVec.ofInt 64 (bits .xor .u64 (if IntKind.u64.signed = true then -1 else IntKind.u64.max) e) = ~~~ (BitVec.ofInt 64 e) := by
  rw [bx64, of64, show (if IntKind.u64.signed = true then (-1 : Int) else IntKind.u64.max) = 18446744073709551615 by decide, show BitVec.ofInt 64 18446744073709551615 = BitVec.allOnes 64 by decide, BitVec.allOnes_xor]
theorem ch_bv {n : Nat} (e f g : BitVec n) : (e &&& f) ||| (~~~ e &&& g) = (e &&& f) ^^^ (~~~ e &&& g) := by
  apply BitVec.eq_of_getLsbD_eq
  intro i hi
  simp only [BitVec.getLsbD_or, BitVec.getLsbD_and, BitVec.getLsbD_xor, BitVec.getLsbD_not, hi, decide_true, Bool.true_and]
  cases e.getLsbD i <;> cases f.getLsbD i <;> cases g.getLsbD i <;> rfl
theorem maj_bv {n : Nat} (a b c : BitVec n) : ((a &&& b) ||| (a &&& c)) ||| (b &&& c) = ((a &&& b) ^^^ (a &&& c)) ^^^ (b &&& c) := by
  apply BitVec.eq_of_getLsbD_eq
  intro i hi
  simp only [BitVec.getLsbD_or, BitVec.getLsbD_and, BitVec.getLsbD_xor]
  cases a.getLsbD i <;> cases b.getLsbD i <;> cases c.getLsbD i <;> rfl
theorem ch32 (e f g : Int) : bits .or .u32 (bits .and .u32 e f) (bits .and .u32 (bits .xor .u32 (if IntKind.u32.signed = true then -1 else IntKind.u32.max) e) g) = bits .xor .u32 (bits .and .u32 e f) (bits .and .u32 (bits .xor .u32 (if IntKind.u32.signed = true then -1 else IntKind.u32.max) e) g) := by
  rw [bo32, bx32 (bits .and .u32 e f), ba32, ba32, of32, of32, not32, ch_bv]
theorem ch64 (e f g : Int) : bits .or .u64 (bits .and .u64 e f) (bits .and .u64 (bits .xor .u64 (if IntKind.u64.signed = true then -1 else IntKind.u64.max) e) g) = bits .xor .u64 (bits .and .u64 e f) (bits .and .u64 (bits .xor .u64 (if IntKind.u64.signed = true then -1 else IntKind.u64.max) e) g) := by
  rw [bo64, bx64 (bits .and .u64 e f), ba64, ba64, of64, of64, not64, ch_bv]
theorem maj32 (a b c : Int) : bits .or .u32 (bits .or .u32 (bits .and .u32 a b) (bits .and .u32 a c)) (bits .and .u32 b c) = bits .xor .u32 (bits .xor .u32 (bits .and .u32 a b) (bits .and .u32 a c)) (bits .and .u32 b c) := by
  rw [bo32, bo32, bx32, bx32, ba32, ba32, ba32, of32, of32, of32, of32, of32, maj_bv]
theorem maj64 (a b c : Int) : bits .or .u64 (bits .or .u64 (bits .and .u64 a b) (bits .and .u64 a c)) (bits .and .u64 b c) = bits .xor .u64 (bits .xor .u64 (bits .and .u64 a b) (bits .and .u64 a c)) (bits .and .u64 b c) := by
  rw [bo64, bo64, bx64, bx64, ba64, ba64, ba64, of64, of64, of64, of64, of64, maj_bv]
end Go.Proofs.YtkeklmkaleomkaaDoor
namespace Go.Proofs.YtkeklmkaleomkaaDoor
open Go.RowKit
set_option linter.unusedVariables false
set_option linter.unusedSimpArgs false
theorem zero_arr {n : Nat} {Z : Array Value} {v : Value} (h : Z = Array.replicate n v) (j : Nat) (hj : j < n) : Z[j]? = some v := by
  rw [h]
  simp [hj]
def Kof (C : Nat → Int) (t : Nat) : Option Value := if t < 64 then some (.int .u32 (C t / 4294967296)) else none
theorem rot_or32 (x : Int) (a b s : Nat) (hb : b = 32 - s) (ha : a = s) : bits .or .u32 (x / 2 ^ b) (x * 2 ^ a % 4294967296) = rotl32 x s := by
  subst hb ha
  rw [rotl32, or_comm32]
/-- The step of the schedule, and of the rounds, as the document's answer writes them. -/
theorem lo0_or32 (x : Int) : bits .xor .u32 (bits .xor .u32 (bits .or .u32 (x / 128) (x * 33554432 % 4294967296)) (bits .or .u32 (x / 262144) (x * 16384 % 4294967296))) (x / 8) = lo0_32 x := by
  have h1 := rot_or32 x 25 7 25 rfl rfl
  have h2 := rot_or32 x 14 18 14 rfl rfl
  simp only [Int.reducePow] at h1 h2
  rw [h1, h2, lo0_32]
theorem lo1_or32 (x : Int) : bits .xor .u32 (bits .xor .u32 (bits .or .u32 (x / 131072) (x * 32768 % 4294967296)) (bits .or .u32 (x / 524288) (x * 8192 % 4294967296))) (x / 1024) = lo1_32 x := by
  have h1 := rot_or32 x 15 17 15 rfl rfl
  have h2 := rot_or32 x 13 19 13 rfl rfl
  simp only [Int.reducePow] at h1 h2
  rw [h1, h2, lo1_32]
theorem S1_or32 (x : Int) : bits .xor .u32 (bits .xor .u32 (bits .or .u32 (x / 64) (x * 67108864 % 4294967296)) (bits .or .u32 (x / 2048) (x * 2097152 % 4294967296))) (bits .or .u32 (x / 33554432) (x * 128 % 4294967296)) = bits .xor .u32 (bits .xor .u32 (rotl32 x 26) (rotl32 x 21)) (rotl32 x 7) := by
  have h1 := rot_or32 x 26 6 26 rfl rfl
  have h2 := rot_or32 x 21 11 21 rfl rfl
  have h3 := rot_or32 x 7 25 7 rfl rfl
  simp only [Int.reducePow] at h1 h2 h3
  rw [h1, h2, h3]
theorem S0_or32 (x : Int) : bits .xor .u32 (bits .xor .u32 (bits .or .u32 (x / 4) (x * 1073741824 % 4294967296)) (bits .or .u32 (x / 8192) (x * 524288 % 4294967296))) (bits .or .u32 (x / 4194304) (x * 1024 % 4294967296)) = bits .xor .u32 (bits .xor .u32 (rotl32 x 30) (rotl32 x 19)) (rotl32 x 10) := by
  have h1 := rot_or32 x 30 2 30 rfl rfl
  have h2 := rot_or32 x 19 13 19 rfl rfl
  have h3 := rot_or32 x 10 22 10 rfl rfl
  simp only [Int.reducePow] at h1 h2 h3
  rw [h1, h2, h3]
def Eight.cells32 (s : Eight) : List Value := s.list.map (Value.int .u32)
theorem cells32_one (s : Eight) : s.cells32.toArray.all (·.oneCell') = true := all_oneCell_toArray (by
  intro v hv
  simp only [Eight.cells32, List.mem_map] at hv
  obtain ⟨x, _, rfl⟩ := hv
  rfl)
theorem size94 : (Tryd.prog.info? 96).map (·.size) = some 8 := by kernel_rfl
set_option maxHeartbeats 3200000 in
set_option maxRecDepth 100000 in
theorem taken32_walk (h0 h1 h2 h3 h4 h5 h6 h7 : Int) (Kc : Array Value) (C B : Nat → Int) (b p cap : Nat) (w : World) (hK : ∀ t, t < 64 → Kc[t]? = some (.int .u32 (C t / 4294967296)))
    (hcap : 64 ≤ cap) (hcm : cap ≤ 9223372036854775807) (hB : ∀ i, i < 64 → w.cell? ⟨b, p + i, none⟩ = some (.int .u8 (B i))) :
    Calls Tryd.prog 52 #[.agg #[.int .u32 h0, .int .u32 h1, .int .u32 h2, .int .u32 h3, .int .u32 h4, .int .u32 h5, .int .u32 h6, .int .u32 h7], .slice (some ⟨b, p, none⟩) 64 cap, .agg Kc] w fun e w' =>
      e = .returned (.agg (Eight.cells32 (Eight.zip (fun h x => (h + x) % 4294967296) ⟨h0, h1, h2, h3, h4, h5, h6, h7⟩ (rounds32 C (sched32 B) 64 ⟨h0, h1, h2, h3, h4, h5, h6, h7⟩))).toArray) ∧ Below w.heap.size w w' := by
  have hbw : b < w.heap.size := lt_of_cell (hB 0 (by omega))
  have HB : Hid (∀ i, i < 64 → w.cell? ⟨b, p + i, none⟩ = some (.int .u8 (B i))) := hB
  have HK : Hid (∀ t v, Kof C t = some v → Kc[t]? = some v) := fun t v hv => by
    unfold Kof at hv
    split at hv
    · rename_i ht
      rw [hK t ht]
      exact hv
    · cases hv
  clear hB hK
  go_enter Tryd.func52, Tryd.ntmps52
  go_wp2
  go_loopw [8] (fun v wr => ∃ t : Nat, t ≤ 16 ∧ v = .int .i64 t ∧ Hid (TX w wr [.int .u32 h0, .int .u32 h1, .int .u32 h2, .int .u32 h3, .int .u32 h4, .int .u32 h5, .int .u32 h6, .int .u32 h7] (Kof C) (w.heap.size + 2) (w.heap.size + 3) 64 (fun j => .int .u32 (if j < t then sched32 B j else 0)))) (fun v _ => 16 - (intOf v).toNat)
  case atStart => exact ⟨0, by omega, rfl, tx_new4 w _ _ _ _ _ _ _ _ _ _ _ (by rfl) (by rfl) HK.out (fun j hj => by rw [if_neg (by omega)]; exact zero_arr (by rfl) j hj)⟩
  case round =>
    obtain ⟨t, ht, rfl, HX⟩ := hrel
    by_cases h16 : t < 16
    · have f0 : wr.cell? ⟨b, p + 4 * t, none⟩ = some (.int .u8 (B (4 * t))) := by rw [HX.out.below.cell hbw]; exact HB.out (4 * t) (by omega)
      have f1 : wr.cell? ⟨b, p + (4 * t + 1), none⟩ = some (.int .u8 (B (4 * t + 1))) := by rw [HX.out.below.cell hbw]; exact HB.out (4 * t + 1) (by omega)
      have f2 : wr.cell? ⟨b, p + (4 * t + 2), none⟩ = some (.int .u8 (B (4 * t + 2))) := by rw [HX.out.below.cell hbw]; exact HB.out (4 * t + 2) (by omega)
      have f3 : wr.cell? ⟨b, p + (4 * t + 3), none⟩ = some (.int .u8 (B (4 * t + 3))) := by rw [HX.out.below.cell hbw]; exact HB.out (4 * t + 3) (by omega)
      have fw : wr.frozen? ⟨w.heap.size + 3, t, none⟩ = false := by simpa using (HX.out.wth t (by omega)).2
      obtain ⟨u, fu⟩ : ∃ u, wr.cell? ⟨w.heap.size + 3, t, none⟩ = some u := ⟨_, HX.out.fill t (by omega)⟩
      go_wp2
      go_region
      go_wp2
      go_roundw
      case rel =>
        refine ⟨t + 1, by omega, by go_num, ((HX.out.put t (by omega) (.int .u32 (word32 B t))).drew).congr fun j hj => ?_⟩
        by_cases e : j = t
        · subst e
          rw [if_pos rfl, if_pos (by omega), sched32, if_pos h16]
        · rw [if_neg e]
          by_cases e2 : j < t
          · rw [if_pos e2, if_pos (by omega)]
          · rw [if_neg e2, if_neg (by omega)]
      case measure => simp [intOf]; omega
    · obtain rfl : t = 16 := by omega
      clear h16 ht HB
      go_wp2
      go_loopw [9] (fun v wr => ∃ t : Nat, t ≤ 48 ∧ v = .int .i64 (16 + (t : Int)) ∧ Hid (TX w wr [.int .u32 h0, .int .u32 h1, .int .u32 h2, .int .u32 h3, .int .u32 h4, .int .u32 h5, .int .u32 h6, .int .u32 h7] (Kof C) (w.heap.size + 2) (w.heap.size + 3) 64 (fun j => .int .u32 (if j < 16 + t then sched32 B j else 0)))) (fun v _ => 64 - (intOf v).toNat)
      case atStart => exact ⟨0, by omega, rfl, HX⟩
      case round =>
        obtain ⟨t, ht, rfl, HX2⟩ := hrel
        clear HX
        by_cases h48 : t < 48
        · have f2 : wr.cell? ⟨w.heap.size + 3, t + 14, none⟩ = some (.int .u32 (sched32 B (t + 14))) := by rw [HX2.out.fill _ (by omega), if_pos (by omega)]
          have f15 : wr.cell? ⟨w.heap.size + 3, t + 1, none⟩ = some (.int .u32 (sched32 B (t + 1))) := by rw [HX2.out.fill _ (by omega), if_pos (by omega)]
          have f7 : wr.cell? ⟨w.heap.size + 3, t + 9, none⟩ = some (.int .u32 (sched32 B (t + 9))) := by rw [HX2.out.fill _ (by omega), if_pos (by omega)]
          have f16 : wr.cell? ⟨w.heap.size + 3, t, none⟩ = some (.int .u32 (sched32 B t)) := by rw [HX2.out.fill _ (by omega), if_pos (by omega)]
          have fw : wr.frozen? ⟨w.heap.size + 3, t + 16, none⟩ = false := by simpa using (HX2.out.wth (t + 16) (by omega)).2
          obtain ⟨u, fu⟩ : ∃ u, wr.cell? ⟨w.heap.size + 3, t + 16, none⟩ = some u := ⟨_, HX2.out.fill (t + 16) (by omega)⟩
          have e2 : (16 + (t : Int) - 2).toNat = t + 14 := by omega
          have e15 : (16 + (t : Int) - 15).toNat = t + 1 := by omega
          have e7 : (16 + (t : Int) - 7).toNat = t + 9 := by omega
          have e16 : (16 + (t : Int) - 16).toNat = t := by omega
          have e0 : (16 + (t : Int)).toNat = t + 16 := by omega
          go_wp2
          go_region
          go_wp2
          go_roundw
          case rel =>
            have hv : sched32 B (t + 16) = (lo1_32 (sched32 B (t + 14)) + sched32 B (t + 9) + lo0_32 (sched32 B (t + 1)) + sched32 B t) % 4294967296 := by
              rw [sched32, if_neg (by omega)]
              rw [show t + 16 - 2 = t + 14 by omega, show t + 16 - 7 = t + 9 by omega, show t + 16 - 15 = t + 1 by omega, show t + 16 - 16 = t by omega]
            rw [lo0_or32, lo1_or32]
            refine ⟨t + 1, by omega, by go_num, ((HX2.out.put (t + 16) (by omega) _).drew).congr fun j hj => ?_⟩
            by_cases e : j = t + 16
            · subst e
              rw [if_pos rfl, if_pos (by omega), hv]
            · rw [if_neg e]
              by_cases e2 : j < 16 + t
              · rw [if_pos e2, if_pos (by omega)]
              · rw [if_neg e2, if_neg (by omega)]
          case measure => simp [intOf]; omega
        · obtain rfl : t = 48 := by omega
          clear h48 ht
          have HX3 : Hid (TX w wr [.int .u32 h0, .int .u32 h1, .int .u32 h2, .int .u32 h3, .int .u32 h4, .int .u32 h5, .int .u32 h6, .int .u32 h7] (Kof C) (w.heap.size + 2) (w.heap.size + 3) 64 (fun j => .int .u32 (sched32 B j))) := HX2.out.congr fun j hj => by rw [if_pos (by omega)]
          clear HX2
          have c0 : wr.cell? ⟨w.heap.size, 0, none⟩ = some (.int .u32 h0) := by simpa using HX3.out.h 0 _ rfl
          have c1 : wr.cell? ⟨w.heap.size, 1, none⟩ = some (.int .u32 h1) := by simpa using HX3.out.h 1 _ rfl
          have c2 : wr.cell? ⟨w.heap.size, 2, none⟩ = some (.int .u32 h2) := by simpa using HX3.out.h 2 _ rfl
          have c3 : wr.cell? ⟨w.heap.size, 3, none⟩ = some (.int .u32 h3) := by simpa using HX3.out.h 3 _ rfl
          have c4 : wr.cell? ⟨w.heap.size, 4, none⟩ = some (.int .u32 h4) := by simpa using HX3.out.h 4 _ rfl
          have c5 : wr.cell? ⟨w.heap.size, 5, none⟩ = some (.int .u32 h5) := by simpa using HX3.out.h 5 _ rfl
          have c6 : wr.cell? ⟨w.heap.size, 6, none⟩ = some (.int .u32 h6) := by simpa using HX3.out.h 6 _ rfl
          have c7 : wr.cell? ⟨w.heap.size, 7, none⟩ = some (.int .u32 h7) := by simpa using HX3.out.h 7 _ rfl
          go_wp2
          go_quiet (fail)
          go_wp2
          go_quiet (fail)
          go_wp2
          clear c0 c1 c2 c3 c4 c5 c6 c7
          go_loopw [14, 15, 16, 17, 18, 19, 20, 21, 22] (fun va vb vc vd ve vf vg vk i wr => ∃ t : Nat, ∃ s : Eight, t ≤ 64 ∧ i = .int .i64 t ∧ va = .int .u32 s.a ∧ vb = .int .u32 s.b ∧ vc = .int .u32 s.c ∧ vd = .int .u32 s.d ∧ ve = .int .u32 s.e ∧ vf = .int .u32 s.f ∧ vg = .int .u32 s.g ∧ vk = .int .u32 s.k ∧ Hid (s = rounds32 C (sched32 B) t ⟨h0, h1, h2, h3, h4, h5, h6, h7⟩) ∧ Hid (TX w wr [.int .u32 h0, .int .u32 h1, .int .u32 h2, .int .u32 h3, .int .u32 h4, .int .u32 h5, .int .u32 h6, .int .u32 h7] (Kof C) (w.heap.size + 2) (w.heap.size + 3) 64 (fun j => .int .u32 (sched32 B j)))) (fun _ _ _ _ _ _ _ _ i _ => 64 - (intOf i).toNat)
          case atStart => exact ⟨0, ⟨h0, h1, h2, h3, h4, h5, h6, h7⟩, by omega, rfl, rfl, rfl, rfl, rfl, rfl, rfl, rfl, rfl, rfl, (HX3.out.drewN _).drewN _⟩
          case round =>
            obtain ⟨t, ⟨a, b, c, d, e, f, g1, k⟩, ht, rfl, rfl, rfl, rfl, rfl, rfl, rfl, rfl, rfl, HS, HX4⟩ := hrel
            clear HX3
            by_cases hlt : t < 64
            · have hw : wr.cell? ⟨w.heap.size + 3, t, none⟩ = some (.int .u32 (sched32 B t)) := HX4.out.fill t hlt
              have hc : wr.cell? ⟨w.heap.size + 1, t, none⟩ = some (.int .u32 (C t / 4294967296)) := HX4.out.k t _ (by rw [Kof, if_pos hlt])
              go_wp2
              go_quiet (fail)
              go_wp2
              go_roundw
              case rel =>
                rw [S1_or32, S0_or32, ch32, maj32]
                refine ⟨t + 1, round32 ⟨a, b, c, d, e, f, g1, k⟩ (C t) (sched32 B t), by omega, by go_num, rfl, rfl, rfl, rfl, rfl, rfl, rfl, rfl, ?_, HX4.out.drewN _⟩
                have := HS.out
                rw [this]
                exact rfl
              case measure => simp [intOf]; omega
            · obtain rfl : t = 64 := by omega
              clear hlt ht
              obtain ⟨E, HE⟩ : ∃ E : Eight, E = ⟨((h0 + a) % 4294967296), ((h1 + b) % 4294967296), ((h2 + c) % 4294967296), ((h3 + d) % 4294967296), ((h4 + e) % 4294967296), ((h5 + f) % 4294967296), ((h6 + g1) % 4294967296), ((h7 + k) % 4294967296)⟩ := ⟨_, rfl⟩
              have HEE : Hid (Eight.zip (fun h x => (h + x) % 4294967296) ⟨h0, h1, h2, h3, h4, h5, h6, h7⟩ (rounds32 C (sched32 B) 64 ⟨h0, h1, h2, h3, h4, h5, h6, h7⟩) = ⟨((h0 + a) % 4294967296), ((h1 + b) % 4294967296), ((h2 + c) % 4294967296), ((h3 + d) % 4294967296), ((h4 + e) % 4294967296), ((h5 + f) % 4294967296), ((h6 + g1) % 4294967296), ((h7 + k) % 4294967296)⟩) := by
                rw [← HS.out]
                exact rfl
              clear HS HE E
              have c0 : wr.cell? ⟨w.heap.size, 0, none⟩ = some (.int .u32 h0) := by simpa using HX4.out.h 0 _ rfl
              have c1 : wr.cell? ⟨w.heap.size, 1, none⟩ = some (.int .u32 h1) := by simpa using HX4.out.h 1 _ rfl
              have c2 : wr.cell? ⟨w.heap.size, 2, none⟩ = some (.int .u32 h2) := by simpa using HX4.out.h 2 _ rfl
              have c3 : wr.cell? ⟨w.heap.size, 3, none⟩ = some (.int .u32 h3) := by simpa using HX4.out.h 3 _ rfl
              have c4 : wr.cell? ⟨w.heap.size, 4, none⟩ = some (.int .u32 h4) := by simpa using HX4.out.h 4 _ rfl
              have c5 : wr.cell? ⟨w.heap.size, 5, none⟩ = some (.int .u32 h5) := by simpa using HX4.out.h 5 _ rfl
              have c6 : wr.cell? ⟨w.heap.size, 6, none⟩ = some (.int .u32 h6) := by simpa using HX4.out.h 6 _ rfl
              have c7 : wr.cell? ⟨w.heap.size, 7, none⟩ = some (.int .u32 h7) := by simpa using HX4.out.h 7 _ rfl
              go_wp2_with (first
                | (refine wpList_store_mid (by rfl) 96 (.tmp 6) (.tmp 252) (by rfl) (w.heap.size + 2) 0 (Eight.cells32 ⟨((h0 + a) % 4294967296), ((h1 + b) % 4294967296), ((h2 + c) % 4294967296), ((h3 + d) % 4294967296), ((h4 + e) % 4294967296), ((h5 + f) % 4294967296), ((h6 + g1) % 4294967296), ((h7 + k) % 4294967296)⟩).toArray (by rfl) (by rfl) HX4.out.res size94 (cells32_one _) ?_)
                | fail)
              have hl := run_loadVar_mid (P := Tryd.prog) (wr.setCells (w.heap.size + 2) 0 (Eight.cells32 ⟨((h0 + a) % 4294967296), ((h1 + b) % 4294967296), ((h2 + c) % 4294967296), ((h3 + d) % 4294967296), ((h4 + e) % 4294967296), ((h5 + f) % 4294967296), ((h6 + g1) % 4294967296), ((h7 + k) % 4294967296)⟩)) (w.heap.size + 2) 0 96 (Eight.cells32 ⟨((h0 + a) % 4294967296), ((h1 + b) % 4294967296), ((h2 + c) % 4294967296), ((h3 + d) % 4294967296), ((h4 + e) % 4294967296), ((h5 + f) % 4294967296), ((h6 + g1) % 4294967296), ((h7 + k) % 4294967296)⟩) _ (World.rangeAt_setCells_same wr (w.heap.size + 2) 0 _ HX4.out.res) Tryd.underlying96 rfl size94
              refine bodyPost_ret (v := .agg (Eight.cells32 ⟨((h0 + a) % 4294967296), ((h1 + b) % 4294967296), ((h2 + c) % 4294967296), ((h3 + d) % 4294967296), ((h4 + e) % 4294967296), ((h5 + f) % 4294967296), ((h6 + g1) % 4294967296), ((h7 + k) % 4294967296)⟩).toArray) ?_ rfl ⟨by rw [HEE.out], below_setCells _ (by omega) _ _ _ HX4.out.below⟩
              rw [results_cell1 Tryd.results52]
              simp [Act.put, asAddr, hl]
end Go.Proofs.YtkeklmkaleomkaaDoor
namespace Go.Proofs.YtkeklmkaleomkaaDoor
open Go.RowKit
set_option linter.unusedVariables false
set_option linter.unusedSimpArgs false
theorem zero_arr64 {n : Nat} {Z : Array Value} {v : Value} (h : Z = Array.replicate n v) (j : Nat) (hj : j < n) : Z[j]? = some v := by
  rw [h]
  simp [hj]
theorem rot_or64 (x : Int) (a b s : Nat) (hb : b = 64 - s) (ha : a = s) : bits .or .u64 (x / 2 ^ b) (x * 2 ^ a % 18446744073709551616) = rotl64 x s := by
  subst hb ha
  rw [rotl64, or_comm64]
theorem lo0_or64 (x : Int) : bits .xor .u64 (bits .xor .u64 (bits .or .u64 (x / 2) (x * 9223372036854775808 % 18446744073709551616)) (bits .or .u64 (x / 256) (x * 72057594037927936 % 18446744073709551616))) (x / 128) = lo0_64 x := by
  have h1 := rot_or64 x 63 1 63 rfl rfl
  have h2 := rot_or64 x 56 8 56 rfl rfl
  simp only [Int.reducePow] at h1 h2
  rw [h1, h2, lo0_64]
theorem lo1_or64 (x : Int) : bits .xor .u64 (bits .xor .u64 (bits .or .u64 (x / 524288) (x * 35184372088832 % 18446744073709551616)) (bits .or .u64 (x / 2305843009213693952) (x * 8 % 18446744073709551616))) (x / 64) = lo1_64 x := by
  have h1 := rot_or64 x 45 19 45 rfl rfl
  have h2 := rot_or64 x 3 61 3 rfl rfl
  simp only [Int.reducePow] at h1 h2
  rw [h1, h2, lo1_64]
theorem S1_or64 (x : Int) : bits .xor .u64 (bits .xor .u64 (bits .or .u64 (x / 16384) (x * 1125899906842624 % 18446744073709551616)) (bits .or .u64 (x / 262144) (x * 70368744177664 % 18446744073709551616))) (bits .or .u64 (x / 2199023255552) (x * 8388608 % 18446744073709551616)) = bits .xor .u64 (bits .xor .u64 (rotl64 x 50) (rotl64 x 46)) (rotl64 x 23) := by
  have h1 := rot_or64 x 50 14 50 rfl rfl
  have h2 := rot_or64 x 46 18 46 rfl rfl
  have h3 := rot_or64 x 23 41 23 rfl rfl
  simp only [Int.reducePow] at h1 h2 h3
  rw [h1, h2, h3]
theorem S0_or64 (x : Int) : bits .xor .u64 (bits .xor .u64 (bits .or .u64 (x / 268435456) (x * 68719476736 % 18446744073709551616)) (bits .or .u64 (x / 17179869184) (x * 1073741824 % 18446744073709551616))) (bits .or .u64 (x / 549755813888) (x * 33554432 % 18446744073709551616)) = bits .xor .u64 (bits .xor .u64 (rotl64 x 36) (rotl64 x 30)) (rotl64 x 25) := by
  have h1 := rot_or64 x 36 28 36 rfl rfl
  have h2 := rot_or64 x 30 34 30 rfl rfl
  have h3 := rot_or64 x 25 39 25 rfl rfl
  simp only [Int.reducePow] at h1 h2 h3
  rw [h1, h2, h3]
theorem size70 : (Tryd.prog.info? 86).map (·.size) = some 8 := by kernel_rfl
set_option maxHeartbeats 3200000 in
set_option maxRecDepth 100000 in
theorem taken64_walk (h0 h1 h2 h3 h4 h5 h6 h7 : Int) (C B : Nat → Int) (b p cap : Nat) (w : World) (hC : ∀ t, t < 80 → w.cell? ⟨1, t, none⟩ = some (.int .u64 (C t)))
    (hcap : 128 ≤ cap) (hcm : cap ≤ 9223372036854775807) (hB : ∀ i, i < 128 → w.cell? ⟨b, p + i, none⟩ = some (.int .u8 (B i))) :
    Calls Tryd.prog 50 #[.agg #[.int .u64 h0, .int .u64 h1, .int .u64 h2, .int .u64 h3, .int .u64 h4, .int .u64 h5, .int .u64 h6, .int .u64 h7], .slice (some ⟨b, p, none⟩) 128 cap] w fun e w' =>
      e = .returned (.agg (Eight.cells (block64 C B ⟨h0, h1, h2, h3, h4, h5, h6, h7⟩)).toArray) ∧ Below w.heap.size w w' := by
  have hbw : b < w.heap.size := lt_of_cell (hB 0 (by omega))
  have hw1 : 1 < w.heap.size := lt_of_cell (hC 0 (by omega))
  have HB : Hid (∀ i, i < 128 → w.cell? ⟨b, p + i, none⟩ = some (.int .u8 (B i))) := hB
  have HC : Hid (∀ t, t < 80 → w.cell? ⟨1, t, none⟩ = some (.int .u64 (C t))) := hC
  clear hB hC
  go_enter Tryd.func50, Tryd.ntmps50
  go_wp2
  go_loopw [6] (fun v wr => ∃ t : Nat, t ≤ 16 ∧ v = .int .i64 t ∧ Hid (TX w wr [.int .u64 h0, .int .u64 h1, .int .u64 h2, .int .u64 h3, .int .u64 h4, .int .u64 h5, .int .u64 h6, .int .u64 h7] (fun _ => none) (w.heap.size + 1) (w.heap.size + 2) 80 (fun j => .int .u64 (if j < t then sched64 B j else 0)))) (fun v _ => 16 - (intOf v).toNat)
  case atStart => exact ⟨0, by omega, rfl, tx_new3 w _ _ _ _ _ _ _ _ (by rfl) (by rfl) (fun j hj => by rw [if_neg (by omega)]; exact zero_arr64 (by rfl) j hj)⟩
  case round =>
    obtain ⟨t, ht, rfl, HX⟩ := hrel
    by_cases h16 : t < 16
    · go_wp2
      go_loopw [7] (fun v wr => ∃ k : Nat, k ≤ 8 ∧ v = .int .i64 k ∧ Hid (TX w wr [.int .u64 h0, .int .u64 h1, .int .u64 h2, .int .u64 h3, .int .u64 h4, .int .u64 h5, .int .u64 h6, .int .u64 h7] (fun _ => none) (w.heap.size + 1) (w.heap.size + 2) 80 (fun j => .int .u64 (if j < t then sched64 B j else if j = t then part64 B t k else 0)))) (fun v _ => 8 - (intOf v).toNat)
      case atStart =>
        refine ⟨0, by omega, rfl, HX.out.congr fun j hj => ?_⟩
        by_cases e : j < t
        · rw [if_pos e, if_pos e]
        · rw [if_neg e, if_neg e]
          by_cases e2 : j = t
          · rw [if_pos e2]
            exact rfl
          · rw [if_neg e2]
      case round =>
        obtain ⟨k, hk, rfl, HX1⟩ := hrel
        by_cases h8 : k < 8
        · have f0 : wr.cell? ⟨b, p + (8 * t + k), none⟩ = some (.int .u8 (B (8 * t + k))) := by rw [HX1.out.below.cell hbw]; exact HB.out (8 * t + k) (by omega)
          have fw : wr.frozen? ⟨w.heap.size + 2, t, none⟩ = false := by simpa using (HX1.out.wth t (by omega)).2
          have fu : wr.cell? ⟨w.heap.size + 2, t, none⟩ = some (.int .u64 (part64 B t k)) := by rw [HX1.out.fill t (by omega), if_neg (by omega), if_pos rfl]
          go_wp2
          go_region
          go_wp2
          go_roundw
          case rel =>
            refine ⟨k + 1, by omega, by go_num, ((HX1.out.put t (by omega) (.int .u64 (part64 B t (k + 1)))).drew).congr fun j hj => ?_⟩
            by_cases e : j = t
            · subst e
              rw [if_pos rfl, if_neg (by omega), if_pos rfl]
            · rw [if_neg e, if_neg e]
              by_cases e2 : j < t
              · rw [if_pos e2, if_pos e2]
              · rw [if_neg e2, if_neg e2, if_neg e]
          case measure => simp [intOf]; omega
        · obtain rfl : k = 8 := by omega
          go_wp2
          go_roundw
          case rel =>
            refine ⟨t + 1, by omega, by go_num, HX1.out.congr fun j hj => ?_⟩
            by_cases e2 : j < t
            · rw [if_pos e2, if_pos (by omega)]
            · rw [if_neg e2]
              by_cases e : j = t
              · subst e
                rw [if_pos rfl, if_pos (by omega), sched64, if_pos h16]
              · rw [if_neg e, if_neg (by omega)]
          case measure => simp [intOf]; omega
    · obtain rfl : t = 16 := by omega
      clear h16 ht HB
      go_wp2
      go_loopw [8] (fun v wr => ∃ t : Nat, t ≤ 64 ∧ v = .int .i64 (16 + (t : Int)) ∧ Hid (TX w wr [.int .u64 h0, .int .u64 h1, .int .u64 h2, .int .u64 h3, .int .u64 h4, .int .u64 h5, .int .u64 h6, .int .u64 h7] (fun _ => none) (w.heap.size + 1) (w.heap.size + 2) 80 (fun j => .int .u64 (if j < 16 + t then sched64 B j else 0)))) (fun v _ => 80 - (intOf v).toNat)
      case atStart => exact ⟨0, by omega, rfl, HX⟩
      case round =>
        obtain ⟨t, ht, rfl, HX2⟩ := hrel
        clear HX
        by_cases h48 : t < 64
        · have f2 : wr.cell? ⟨w.heap.size + 2, t + 14, none⟩ = some (.int .u64 (sched64 B (t + 14))) := by rw [HX2.out.fill _ (by omega), if_pos (by omega)]
          have f15 : wr.cell? ⟨w.heap.size + 2, t + 1, none⟩ = some (.int .u64 (sched64 B (t + 1))) := by rw [HX2.out.fill _ (by omega), if_pos (by omega)]
          have f7 : wr.cell? ⟨w.heap.size + 2, t + 9, none⟩ = some (.int .u64 (sched64 B (t + 9))) := by rw [HX2.out.fill _ (by omega), if_pos (by omega)]
          have f16 : wr.cell? ⟨w.heap.size + 2, t, none⟩ = some (.int .u64 (sched64 B t)) := by rw [HX2.out.fill _ (by omega), if_pos (by omega)]
          have fw : wr.frozen? ⟨w.heap.size + 2, t + 16, none⟩ = false := by simpa using (HX2.out.wth (t + 16) (by omega)).2
          obtain ⟨u, fu⟩ : ∃ u, wr.cell? ⟨w.heap.size + 2, t + 16, none⟩ = some u := ⟨_, HX2.out.fill (t + 16) (by omega)⟩
          have e2 : (16 + (t : Int) - 2).toNat = t + 14 := by omega
          have e15 : (16 + (t : Int) - 15).toNat = t + 1 := by omega
          have e7 : (16 + (t : Int) - 7).toNat = t + 9 := by omega
          have e16 : (16 + (t : Int) - 16).toNat = t := by omega
          have e0 : (16 + (t : Int)).toNat = t + 16 := by omega
          go_wp2
          go_region
          go_wp2
          go_roundw
          case rel =>
            have hv : sched64 B (t + 16) = (lo1_64 (sched64 B (t + 14)) + sched64 B (t + 9) + lo0_64 (sched64 B (t + 1)) + sched64 B t) % 18446744073709551616 := by
              rw [sched64, if_neg (by omega)]
              rw [show t + 16 - 2 = t + 14 by omega, show t + 16 - 7 = t + 9 by omega, show t + 16 - 15 = t + 1 by omega, show t + 16 - 16 = t by omega]
            simp only [IntKind.wrap_u64]
            rw [lo0_or64, lo1_or64]
            refine ⟨t + 1, by omega, by go_num, ((HX2.out.put (t + 16) (by omega) _).drew).congr fun j hj => ?_⟩
            by_cases e : j = t + 16
            · subst e
              rw [if_pos rfl, if_pos (by omega), hv]
              exact val_eq (by omega)
            · rw [if_neg e]
              by_cases e2 : j < 16 + t
              · rw [if_pos e2, if_pos (by omega)]
              · rw [if_neg e2, if_neg (by omega)]
          case measure => simp [intOf]; omega
        · obtain rfl : t = 64 := by omega
          clear h48 ht
          have HX3 : Hid (TX w wr [.int .u64 h0, .int .u64 h1, .int .u64 h2, .int .u64 h3, .int .u64 h4, .int .u64 h5, .int .u64 h6, .int .u64 h7] (fun _ => none) (w.heap.size + 1) (w.heap.size + 2) 80 (fun j => .int .u64 (sched64 B j))) := HX2.out.congr fun j hj => by rw [if_pos (by omega)]
          clear HX2
          have c0 : wr.cell? ⟨w.heap.size, 0, none⟩ = some (.int .u64 h0) := by simpa using HX3.out.h 0 _ rfl
          have c1 : wr.cell? ⟨w.heap.size, 1, none⟩ = some (.int .u64 h1) := by simpa using HX3.out.h 1 _ rfl
          have c2 : wr.cell? ⟨w.heap.size, 2, none⟩ = some (.int .u64 h2) := by simpa using HX3.out.h 2 _ rfl
          have c3 : wr.cell? ⟨w.heap.size, 3, none⟩ = some (.int .u64 h3) := by simpa using HX3.out.h 3 _ rfl
          have c4 : wr.cell? ⟨w.heap.size, 4, none⟩ = some (.int .u64 h4) := by simpa using HX3.out.h 4 _ rfl
          have c5 : wr.cell? ⟨w.heap.size, 5, none⟩ = some (.int .u64 h5) := by simpa using HX3.out.h 5 _ rfl
          have c6 : wr.cell? ⟨w.heap.size, 6, none⟩ = some (.int .u64 h6) := by simpa using HX3.out.h 6 _ rfl
          have c7 : wr.cell? ⟨w.heap.size, 7, none⟩ = some (.int .u64 h7) := by simpa using HX3.out.h 7 _ rfl
          go_wp2
          go_quiet (fail)
          go_wp2
          go_quiet (fail)
          go_wp2
          clear c0 c1 c2 c3 c4 c5 c6 c7
          go_loopw [13, 14, 15, 16, 17, 18, 19, 20, 21] (fun va vb vc vd ve vf vg vk i wr => ∃ t : Nat, ∃ s : Eight, t ≤ 80 ∧ i = .int .i64 t ∧ va = .int .u64 s.a ∧ vb = .int .u64 s.b ∧ vc = .int .u64 s.c ∧ vd = .int .u64 s.d ∧ ve = .int .u64 s.e ∧ vf = .int .u64 s.f ∧ vg = .int .u64 s.g ∧ vk = .int .u64 s.k ∧ Hid (s = rounds64 C (sched64 B) t ⟨h0, h1, h2, h3, h4, h5, h6, h7⟩) ∧ Hid (TX w wr [.int .u64 h0, .int .u64 h1, .int .u64 h2, .int .u64 h3, .int .u64 h4, .int .u64 h5, .int .u64 h6, .int .u64 h7] (fun _ => none) (w.heap.size + 1) (w.heap.size + 2) 80 (fun j => .int .u64 (sched64 B j)))) (fun _ _ _ _ _ _ _ _ i _ => 80 - (intOf i).toNat)
          case atStart => exact ⟨0, ⟨h0, h1, h2, h3, h4, h5, h6, h7⟩, by omega, rfl, rfl, rfl, rfl, rfl, rfl, rfl, rfl, rfl, rfl, (HX3.out.drewN _).drewN _⟩
          case round =>
            obtain ⟨t, ⟨a, b, c, d, e, f, g1, k⟩, ht, rfl, rfl, rfl, rfl, rfl, rfl, rfl, rfl, rfl, HS, HX4⟩ := hrel
            clear HX3
            by_cases hlt : t < 80
            · have hw : wr.cell? ⟨w.heap.size + 2, t, none⟩ = some (.int .u64 (sched64 B t)) := HX4.out.fill t hlt
              have hc : wr.cell? ⟨1, t, none⟩ = some (.int .u64 (C t)) := by rw [HX4.out.below.cell hw1]; exact HC.out t hlt
              go_wp2
              go_quiet (fail)
              go_wp2
              go_roundw
              case rel =>
                simp only [IntKind.wrap_u64]
                rw [S1_or64, S0_or64, ch64, maj64]
                refine ⟨t + 1, round64 ⟨a, b, c, d, e, f, g1, k⟩ (C t) (sched64 B t), by omega, by go_num, val_eq (by simp only [round64, t1_64, t2_64]; omega), rfl, rfl, rfl, val_eq (by simp only [round64, t1_64, t2_64]; omega), rfl, rfl, rfl, ?_, HX4.out.drewN _⟩
                have := HS.out
                rw [this]
                exact rfl
              case measure => simp [intOf]; omega
            · obtain rfl : t = 80 := by omega
              clear hlt ht
              have HEE : Hid (block64 C B ⟨h0, h1, h2, h3, h4, h5, h6, h7⟩ = ⟨((h0 + a) % 18446744073709551616), ((h1 + b) % 18446744073709551616), ((h2 + c) % 18446744073709551616), ((h3 + d) % 18446744073709551616), ((h4 + e) % 18446744073709551616), ((h5 + f) % 18446744073709551616), ((h6 + g1) % 18446744073709551616), ((h7 + k) % 18446744073709551616)⟩) := by
                rw [block64, ← HS.out]
                exact rfl
              clear HS
              have c0 : wr.cell? ⟨w.heap.size, 0, none⟩ = some (.int .u64 h0) := by simpa using HX4.out.h 0 _ rfl
              have c1 : wr.cell? ⟨w.heap.size, 1, none⟩ = some (.int .u64 h1) := by simpa using HX4.out.h 1 _ rfl
              have c2 : wr.cell? ⟨w.heap.size, 2, none⟩ = some (.int .u64 h2) := by simpa using HX4.out.h 2 _ rfl
              have c3 : wr.cell? ⟨w.heap.size, 3, none⟩ = some (.int .u64 h3) := by simpa using HX4.out.h 3 _ rfl
              have c4 : wr.cell? ⟨w.heap.size, 4, none⟩ = some (.int .u64 h4) := by simpa using HX4.out.h 4 _ rfl
              have c5 : wr.cell? ⟨w.heap.size, 5, none⟩ = some (.int .u64 h5) := by simpa using HX4.out.h 5 _ rfl
              have c6 : wr.cell? ⟨w.heap.size, 6, none⟩ = some (.int .u64 h6) := by simpa using HX4.out.h 6 _ rfl
              have c7 : wr.cell? ⟨w.heap.size, 7, none⟩ = some (.int .u64 h7) := by simpa using HX4.out.h 7 _ rfl
              go_wp2_with (first
                | (refine wpList_store_mid (by rfl) 86 (.tmp 4) (.tmp 235) (by rfl) (w.heap.size + 1) 0 (Eight.cells ⟨((h0 + a) % 18446744073709551616), ((h1 + b) % 18446744073709551616), ((h2 + c) % 18446744073709551616), ((h3 + d) % 18446744073709551616), ((h4 + e) % 18446744073709551616), ((h5 + f) % 18446744073709551616), ((h6 + g1) % 18446744073709551616), ((h7 + k) % 18446744073709551616)⟩).toArray (by rfl) (by rfl) HX4.out.res size70 (cellsE_one _) ?_)
                | fail)
              have hl := run_loadVar_mid (P := Tryd.prog) (wr.setCells (w.heap.size + 1) 0 (Eight.cells ⟨((h0 + a) % 18446744073709551616), ((h1 + b) % 18446744073709551616), ((h2 + c) % 18446744073709551616), ((h3 + d) % 18446744073709551616), ((h4 + e) % 18446744073709551616), ((h5 + f) % 18446744073709551616), ((h6 + g1) % 18446744073709551616), ((h7 + k) % 18446744073709551616)⟩)) (w.heap.size + 1) 0 86 (Eight.cells ⟨((h0 + a) % 18446744073709551616), ((h1 + b) % 18446744073709551616), ((h2 + c) % 18446744073709551616), ((h3 + d) % 18446744073709551616), ((h4 + e) % 18446744073709551616), ((h5 + f) % 18446744073709551616), ((h6 + g1) % 18446744073709551616), ((h7 + k) % 18446744073709551616)⟩) _ (World.rangeAt_setCells_same wr (w.heap.size + 1) 0 _ HX4.out.res) Tryd.underlying86 rfl size70
              refine bodyPost_ret (v := .agg (Eight.cells ⟨((h0 + a) % 18446744073709551616), ((h1 + b) % 18446744073709551616), ((h2 + c) % 18446744073709551616), ((h3 + d) % 18446744073709551616), ((h4 + e) % 18446744073709551616), ((h5 + f) % 18446744073709551616), ((h6 + g1) % 18446744073709551616), ((h7 + k) % 18446744073709551616)⟩).toArray) ?_ rfl ⟨by rw [HEE.out], below_setCells _ (by omega) _ _ _ HX4.out.below⟩
              rw [results_cell1 Tryd.results50]
              simp [Act.put, asAddr, hl]
end Go.Proofs.YtkeklmkaleomkaaDoor
namespace Go.Proofs.YtkeklmkaleomkaaDoor
open Go.RowKit
set_option linter.unusedVariables false
set_option linter.unusedSimpArgs false
/-- The two tables of the document's answer. -/
structure RTab (w : World) : Prop where
  cubes : ∀ t, t < 80 → w.cell? ⟨1, t, none⟩ = some (.int .u64 (cubeAt t))
  roots : ∀ t, t < 16 → w.cell? ⟨0, t, none⟩ = some (.int .u64 (rootAt t))
theorem RTab.kept {w w' : World} (h : RTab w) (hb : ∀ k, k < 2 → w'.heap[k]? = w.heap[k]?) : RTab w' :=
  ⟨fun t ht => by rw [World.cell?_of_block (w := w) (hb 1 (by omega))]; exact h.cubes t ht, fun t ht => by rw [World.cell?_of_block (w := w) (hb 0 (by omega))]; exact h.roots t ht⟩
theorem RTab.size {w : World} (h : RTab w) : 2 ≤ w.heap.size := lt_of_cell (h.cubes 0 (by omega))
theorem RTab.below {w w' : World} {B : Nat} (h : RTab w) (b : Below B w w') (hB : 2 ≤ B) : RTab w' := h.kept fun k hk => b.block k (by omega)
theorem first224_mod : ∀ q, q < 8 → (rootAt (8 + q)).tmod 4294967296 = firstAt 224 q := by decide +kernel
set_option maxHeartbeats 1600000 in
set_option maxRecDepth 100000 in
theorem rfirst224 (w : World) (hT : Hid (RTab w)) :
    Calls Tryd.prog 47 #[.int .i64 224] w fun e w' => e = .returned (.agg (firstE 224).cells.toArray) ∧ Below w.heap.size w w' := by
  have HB0 : Hid (Below w.heap.size w ((w.alloc (.cells #[.int .u64 0, .int .u64 0, .int .u64 0, .int .u64 0, .int .u64 0, .int .u64 0, .int .u64 0, .int .u64 0] 86)).alloc (.cells #[.int .u64 0, .int .u64 0, .int .u64 0, .int .u64 0, .int .u64 0, .int .u64 0, .int .u64 0, .int .u64 0] 86)) ∧ ((w.alloc (.cells #[.int .u64 0, .int .u64 0, .int .u64 0, .int .u64 0, .int .u64 0, .int .u64 0, .int .u64 0, .int .u64 0] 86)).alloc (.cells #[.int .u64 0, .int .u64 0, .int .u64 0, .int .u64 0, .int .u64 0, .int .u64 0, .int .u64 0, .int .u64 0] 86)).there (w.heap.size + 1) 0 8 ∧ ((w.alloc (.cells #[.int .u64 0, .int .u64 0, .int .u64 0, .int .u64 0, .int .u64 0, .int .u64 0, .int .u64 0, .int .u64 0] 86)).alloc (.cells #[.int .u64 0, .int .u64 0, .int .u64 0, .int .u64 0, .int .u64 0, .int .u64 0, .int .u64 0, .int .u64 0] 86)).there w.heap.size 0 8) := ⟨((Below.refl _ _).alloc (Nat.le_refl _) _).alloc (by simp) _, two_there w _ _ 86 86 8 (by decide), World.there_alloc (there_new w _ 86 8 (by decide)) _⟩
  go_enter Tryd.func47, Tryd.ntmps47
  go_wp2
  go_loopw [4] (fun v wr => ∃ q : Nat, q ≤ 8 ∧ v = .int .i64 q ∧ Hid (Below w.heap.size w wr) ∧ Hid (wr.there (w.heap.size + 1) 0 8 ∧ wr.there w.heap.size 0 8) ∧ Hid (∀ j, j < q → wr.cell? ⟨w.heap.size + 1, j, none⟩ = some (.int .u64 (firstAt 224 j)))) (fun v _ => 8 - (intOf v).toNat)
  case atStart => exact ⟨0, by omega, rfl, HB0.out.1, HB0.out.2, fun j hj => by omega⟩
  case round =>
    obtain ⟨q, hq, rfl, HB, HT, HF⟩ := hrel
    clear HB0
    by_cases hlt : q < 8
    · obtain ⟨jj, hjj⟩ : ∃ jj, jj = 8 + q := ⟨_, rfl⟩
      have hTr := hT.out.below HB.out hT.out.size
      have c1 := hTr.roots (jj) (by omega)
      have hql : (q : Int) < 8 := by omega
      have hq0 : (0 : Int) ≤ (q : Int) := by omega
      have e8 : (8 : Int) + (q : Int) = (jj : Int) := by omega
      have e9 : (jj : Int) < 16 := by omega
      have HJ : Hid (jj = 8 + q) := hjj
      clear hjj
      have ff : wr.frozen? ⟨w.heap.size + 1, q, none⟩ = false := by have := (HT.out.1 q hlt).2; rw [Nat.zero_add] at this; exact this
      have fs : (wr.cell? ⟨w.heap.size + 1, q, none⟩).isSome = true := by have := (HT.out.1 q hlt).1; rw [Nat.zero_add] at this; exact this
      obtain ⟨z, hz⟩ := Option.isSome_iff_exists.1 fs
      clear fs hTr
      go_wp2
      go_roundw
      case rel =>
        have hf := fill_step (F := fun j => .int .u64 (firstAt 224 j)) HF.out HT.out.1 hlt (.int .u64 (firstAt 224 q)) rfl
        obtain rfl := HJ.out
        rw [first224_mod q hlt]
        refine ⟨q + 1, by omega, by go_num, HB.out.setCell (by simp) _, ⟨World.there_setCells HT.out.1 _ q [_], World.there_setCells HT.out.2 _ q [_]⟩, hf.1⟩
      case measure => simp [intOf]; omega
    · obtain rfl : q = 8 := by omega
      have HR : Hid (wr.rangeAt (w.heap.size + 1) 0 (firstE 224).cells) := fun j v hv => by
        obtain ⟨hj, rfl⟩ := eightOf_at _ j v hv
        rw [Nat.zero_add]
        exact HF.out j hj
      have HY : Hid (wr.there w.heap.size 0 (firstE 224).cells.toArray.size) := HT.out.2
      have HZ : Hid ((Tryd.prog.info? 86).map (·.size) = some (firstE 224).cells.toArray.size) := size70
      obtain ⟨E, HE⟩ : ∃ E : Eight, Hid (E = firstE 224) := ⟨_, rfl⟩
      rw [← HE.out] at HR HY HZ
      clear HF
      go_wp2_with (first
        | (refine wpList_load_mid (by rfl) 86 (.tmp 3) (by rfl) (w.heap.size + 1) 0 (by rfl) E.cells _ HR.out Tryd.underlying86 rfl size70 ?_)
        | (refine wpList_store_mid (by rfl) 86 (.tmp 2) (.tmp 42) (by rfl) w.heap.size 0 E.cells.toArray (by rfl) (by rfl) HY.out HZ.out (cellsE_one E) ?_)
        | fail)
      have hl := run_loadVar_mid (P := Tryd.prog) (wr.setCells w.heap.size 0 E.cells) w.heap.size 0 86 E.cells _ (World.rangeAt_setCells_same wr w.heap.size 0 E.cells HT.out.2) Tryd.underlying86 rfl size70
      refine bodyPost_ret (v := .agg E.cells.toArray) ?_ rfl ⟨by rw [HE.out], below_setCells _ (Nat.le_refl _) _ _ _ HB.out⟩
      rw [results_cell1 Tryd.results47]
      simp [Act.put, asAddr, hl]

set_option maxHeartbeats 1600000 in
set_option maxRecDepth 100000 in
theorem rfirst256 (w : World) (hT : Hid (RTab w)) :
    Calls Tryd.prog 47 #[.int .i64 256] w fun e w' => e = .returned (.agg (firstE 256).cells.toArray) ∧ Below w.heap.size w w' := by
  have HB0 : Hid (Below w.heap.size w ((w.alloc (.cells #[.int .u64 0, .int .u64 0, .int .u64 0, .int .u64 0, .int .u64 0, .int .u64 0, .int .u64 0, .int .u64 0] 86)).alloc (.cells #[.int .u64 0, .int .u64 0, .int .u64 0, .int .u64 0, .int .u64 0, .int .u64 0, .int .u64 0, .int .u64 0] 86)) ∧ ((w.alloc (.cells #[.int .u64 0, .int .u64 0, .int .u64 0, .int .u64 0, .int .u64 0, .int .u64 0, .int .u64 0, .int .u64 0] 86)).alloc (.cells #[.int .u64 0, .int .u64 0, .int .u64 0, .int .u64 0, .int .u64 0, .int .u64 0, .int .u64 0, .int .u64 0] 86)).there (w.heap.size + 1) 0 8 ∧ ((w.alloc (.cells #[.int .u64 0, .int .u64 0, .int .u64 0, .int .u64 0, .int .u64 0, .int .u64 0, .int .u64 0, .int .u64 0] 86)).alloc (.cells #[.int .u64 0, .int .u64 0, .int .u64 0, .int .u64 0, .int .u64 0, .int .u64 0, .int .u64 0, .int .u64 0] 86)).there w.heap.size 0 8) := ⟨((Below.refl _ _).alloc (Nat.le_refl _) _).alloc (by simp) _, two_there w _ _ 86 86 8 (by decide), World.there_alloc (there_new w _ 86 8 (by decide)) _⟩
  go_enter Tryd.func47, Tryd.ntmps47
  go_wp2
  go_loopw [4] (fun v wr => ∃ q : Nat, q ≤ 8 ∧ v = .int .i64 q ∧ Hid (Below w.heap.size w wr) ∧ Hid (wr.there (w.heap.size + 1) 0 8 ∧ wr.there w.heap.size 0 8) ∧ Hid (∀ j, j < q → wr.cell? ⟨w.heap.size + 1, j, none⟩ = some (.int .u64 (firstAt 256 j)))) (fun v _ => 8 - (intOf v).toNat)
  case atStart => exact ⟨0, by omega, rfl, HB0.out.1, HB0.out.2, fun j hj => by omega⟩
  case round =>
    obtain ⟨q, hq, rfl, HB, HT, HF⟩ := hrel
    clear HB0
    by_cases hlt : q < 8
    · obtain ⟨jj, hjj⟩ : ∃ jj, jj = 8 + q := ⟨_, rfl⟩
      have hTr := hT.out.below HB.out hT.out.size
      have c1 := hTr.roots (q) (by omega)
      have hql : (q : Int) < 8 := by omega
      have hq0 : (0 : Int) ≤ (q : Int) := by omega
      skip
      have ff : wr.frozen? ⟨w.heap.size + 1, q, none⟩ = false := by have := (HT.out.1 q hlt).2; rw [Nat.zero_add] at this; exact this
      have fs : (wr.cell? ⟨w.heap.size + 1, q, none⟩).isSome = true := by have := (HT.out.1 q hlt).1; rw [Nat.zero_add] at this; exact this
      obtain ⟨z, hz⟩ := Option.isSome_iff_exists.1 fs
      clear fs hTr
      go_wp2
      go_roundw
      case rel =>
        have hf := fill_step (F := fun j => .int .u64 (firstAt 256 j)) HF.out HT.out.1 hlt (.int .u64 (firstAt 256 q)) rfl
        skip
        refine ⟨q + 1, by omega, by go_num, HB.out.setCell (by simp) _, ⟨World.there_setCells HT.out.1 _ q [_], World.there_setCells HT.out.2 _ q [_]⟩, hf.1⟩
      case measure => simp [intOf]; omega
    · obtain rfl : q = 8 := by omega
      have HR : Hid (wr.rangeAt (w.heap.size + 1) 0 (firstE 256).cells) := fun j v hv => by
        obtain ⟨hj, rfl⟩ := eightOf_at _ j v hv
        rw [Nat.zero_add]
        exact HF.out j hj
      have HY : Hid (wr.there w.heap.size 0 (firstE 256).cells.toArray.size) := HT.out.2
      have HZ : Hid ((Tryd.prog.info? 86).map (·.size) = some (firstE 256).cells.toArray.size) := size70
      obtain ⟨E, HE⟩ : ∃ E : Eight, Hid (E = firstE 256) := ⟨_, rfl⟩
      rw [← HE.out] at HR HY HZ
      clear HF
      go_wp2_with (first
        | (refine wpList_load_mid (by rfl) 86 (.tmp 3) (by rfl) (w.heap.size + 1) 0 (by rfl) E.cells _ HR.out Tryd.underlying86 rfl size70 ?_)
        | (refine wpList_store_mid (by rfl) 86 (.tmp 2) (.tmp 42) (by rfl) w.heap.size 0 E.cells.toArray (by rfl) (by rfl) HY.out HZ.out (cellsE_one E) ?_)
        | fail)
      have hl := run_loadVar_mid (P := Tryd.prog) (wr.setCells w.heap.size 0 E.cells) w.heap.size 0 86 E.cells _ (World.rangeAt_setCells_same wr w.heap.size 0 E.cells HT.out.2) Tryd.underlying86 rfl size70
      refine bodyPost_ret (v := .agg E.cells.toArray) ?_ rfl ⟨by rw [HE.out], below_setCells _ (Nat.le_refl _) _ _ _ HB.out⟩
      rw [results_cell1 Tryd.results47]
      simp [Act.put, asAddr, hl]

set_option maxHeartbeats 1600000 in
set_option maxRecDepth 100000 in
theorem rfirst384 (w : World) (hT : Hid (RTab w)) :
    Calls Tryd.prog 47 #[.int .i64 384] w fun e w' => e = .returned (.agg (firstE 384).cells.toArray) ∧ Below w.heap.size w w' := by
  have HB0 : Hid (Below w.heap.size w ((w.alloc (.cells #[.int .u64 0, .int .u64 0, .int .u64 0, .int .u64 0, .int .u64 0, .int .u64 0, .int .u64 0, .int .u64 0] 86)).alloc (.cells #[.int .u64 0, .int .u64 0, .int .u64 0, .int .u64 0, .int .u64 0, .int .u64 0, .int .u64 0, .int .u64 0] 86)) ∧ ((w.alloc (.cells #[.int .u64 0, .int .u64 0, .int .u64 0, .int .u64 0, .int .u64 0, .int .u64 0, .int .u64 0, .int .u64 0] 86)).alloc (.cells #[.int .u64 0, .int .u64 0, .int .u64 0, .int .u64 0, .int .u64 0, .int .u64 0, .int .u64 0, .int .u64 0] 86)).there (w.heap.size + 1) 0 8 ∧ ((w.alloc (.cells #[.int .u64 0, .int .u64 0, .int .u64 0, .int .u64 0, .int .u64 0, .int .u64 0, .int .u64 0, .int .u64 0] 86)).alloc (.cells #[.int .u64 0, .int .u64 0, .int .u64 0, .int .u64 0, .int .u64 0, .int .u64 0, .int .u64 0, .int .u64 0] 86)).there w.heap.size 0 8) := ⟨((Below.refl _ _).alloc (Nat.le_refl _) _).alloc (by simp) _, two_there w _ _ 86 86 8 (by decide), World.there_alloc (there_new w _ 86 8 (by decide)) _⟩
  go_enter Tryd.func47, Tryd.ntmps47
  go_wp2
  go_loopw [4] (fun v wr => ∃ q : Nat, q ≤ 8 ∧ v = .int .i64 q ∧ Hid (Below w.heap.size w wr) ∧ Hid (wr.there (w.heap.size + 1) 0 8 ∧ wr.there w.heap.size 0 8) ∧ Hid (∀ j, j < q → wr.cell? ⟨w.heap.size + 1, j, none⟩ = some (.int .u64 (firstAt 384 j)))) (fun v _ => 8 - (intOf v).toNat)
  case atStart => exact ⟨0, by omega, rfl, HB0.out.1, HB0.out.2, fun j hj => by omega⟩
  case round =>
    obtain ⟨q, hq, rfl, HB, HT, HF⟩ := hrel
    clear HB0
    by_cases hlt : q < 8
    · obtain ⟨jj, hjj⟩ : ∃ jj, jj = 8 + q := ⟨_, rfl⟩
      have hTr := hT.out.below HB.out hT.out.size
      have c1 := hTr.roots (jj) (by omega)
      have hql : (q : Int) < 8 := by omega
      have hq0 : (0 : Int) ≤ (q : Int) := by omega
      have e8 : (8 : Int) + (q : Int) = (jj : Int) := by omega
      have e9 : (jj : Int) < 16 := by omega
      have HJ : Hid (jj = 8 + q) := hjj
      clear hjj
      have ff : wr.frozen? ⟨w.heap.size + 1, q, none⟩ = false := by have := (HT.out.1 q hlt).2; rw [Nat.zero_add] at this; exact this
      have fs : (wr.cell? ⟨w.heap.size + 1, q, none⟩).isSome = true := by have := (HT.out.1 q hlt).1; rw [Nat.zero_add] at this; exact this
      obtain ⟨z, hz⟩ := Option.isSome_iff_exists.1 fs
      clear fs hTr
      go_wp2
      go_roundw
      case rel =>
        have hf := fill_step (F := fun j => .int .u64 (firstAt 384 j)) HF.out HT.out.1 hlt (.int .u64 (firstAt 384 q)) rfl
        obtain rfl := HJ.out
        refine ⟨q + 1, by omega, by go_num, HB.out.setCell (by simp) _, ⟨World.there_setCells HT.out.1 _ q [_], World.there_setCells HT.out.2 _ q [_]⟩, hf.1⟩
      case measure => simp [intOf]; omega
    · obtain rfl : q = 8 := by omega
      have HR : Hid (wr.rangeAt (w.heap.size + 1) 0 (firstE 384).cells) := fun j v hv => by
        obtain ⟨hj, rfl⟩ := eightOf_at _ j v hv
        rw [Nat.zero_add]
        exact HF.out j hj
      have HY : Hid (wr.there w.heap.size 0 (firstE 384).cells.toArray.size) := HT.out.2
      have HZ : Hid ((Tryd.prog.info? 86).map (·.size) = some (firstE 384).cells.toArray.size) := size70
      obtain ⟨E, HE⟩ : ∃ E : Eight, Hid (E = firstE 384) := ⟨_, rfl⟩
      rw [← HE.out] at HR HY HZ
      clear HF
      go_wp2_with (first
        | (refine wpList_load_mid (by rfl) 86 (.tmp 3) (by rfl) (w.heap.size + 1) 0 (by rfl) E.cells _ HR.out Tryd.underlying86 rfl size70 ?_)
        | (refine wpList_store_mid (by rfl) 86 (.tmp 2) (.tmp 42) (by rfl) w.heap.size 0 E.cells.toArray (by rfl) (by rfl) HY.out HZ.out (cellsE_one E) ?_)
        | fail)
      have hl := run_loadVar_mid (P := Tryd.prog) (wr.setCells w.heap.size 0 E.cells) w.heap.size 0 86 E.cells _ (World.rangeAt_setCells_same wr w.heap.size 0 E.cells HT.out.2) Tryd.underlying86 rfl size70
      refine bodyPost_ret (v := .agg E.cells.toArray) ?_ rfl ⟨by rw [HE.out], below_setCells _ (Nat.le_refl _) _ _ _ HB.out⟩
      rw [results_cell1 Tryd.results47]
      simp [Act.put, asAddr, hl]

set_option maxHeartbeats 1600000 in
set_option maxRecDepth 100000 in
theorem rfirst512 (w : World) (hT : Hid (RTab w)) :
    Calls Tryd.prog 47 #[.int .i64 512] w fun e w' => e = .returned (.agg (firstE 512).cells.toArray) ∧ Below w.heap.size w w' := by
  have HB0 : Hid (Below w.heap.size w ((w.alloc (.cells #[.int .u64 0, .int .u64 0, .int .u64 0, .int .u64 0, .int .u64 0, .int .u64 0, .int .u64 0, .int .u64 0] 86)).alloc (.cells #[.int .u64 0, .int .u64 0, .int .u64 0, .int .u64 0, .int .u64 0, .int .u64 0, .int .u64 0, .int .u64 0] 86)) ∧ ((w.alloc (.cells #[.int .u64 0, .int .u64 0, .int .u64 0, .int .u64 0, .int .u64 0, .int .u64 0, .int .u64 0, .int .u64 0] 86)).alloc (.cells #[.int .u64 0, .int .u64 0, .int .u64 0, .int .u64 0, .int .u64 0, .int .u64 0, .int .u64 0, .int .u64 0] 86)).there (w.heap.size + 1) 0 8 ∧ ((w.alloc (.cells #[.int .u64 0, .int .u64 0, .int .u64 0, .int .u64 0, .int .u64 0, .int .u64 0, .int .u64 0, .int .u64 0] 86)).alloc (.cells #[.int .u64 0, .int .u64 0, .int .u64 0, .int .u64 0, .int .u64 0, .int .u64 0, .int .u64 0, .int .u64 0] 86)).there w.heap.size 0 8) := ⟨((Below.refl _ _).alloc (Nat.le_refl _) _).alloc (by simp) _, two_there w _ _ 86 86 8 (by decide), World.there_alloc (there_new w _ 86 8 (by decide)) _⟩
  go_enter Tryd.func47, Tryd.ntmps47
  go_wp2
  go_loopw [4] (fun v wr => ∃ q : Nat, q ≤ 8 ∧ v = .int .i64 q ∧ Hid (Below w.heap.size w wr) ∧ Hid (wr.there (w.heap.size + 1) 0 8 ∧ wr.there w.heap.size 0 8) ∧ Hid (∀ j, j < q → wr.cell? ⟨w.heap.size + 1, j, none⟩ = some (.int .u64 (firstAt 512 j)))) (fun v _ => 8 - (intOf v).toNat)
  case atStart => exact ⟨0, by omega, rfl, HB0.out.1, HB0.out.2, fun j hj => by omega⟩
  case round =>
    obtain ⟨q, hq, rfl, HB, HT, HF⟩ := hrel
    clear HB0
    by_cases hlt : q < 8
    · obtain ⟨jj, hjj⟩ : ∃ jj, jj = 8 + q := ⟨_, rfl⟩
      have hTr := hT.out.below HB.out hT.out.size
      have c1 := hTr.roots (q) (by omega)
      have hql : (q : Int) < 8 := by omega
      have hq0 : (0 : Int) ≤ (q : Int) := by omega
      skip
      have ff : wr.frozen? ⟨w.heap.size + 1, q, none⟩ = false := by have := (HT.out.1 q hlt).2; rw [Nat.zero_add] at this; exact this
      have fs : (wr.cell? ⟨w.heap.size + 1, q, none⟩).isSome = true := by have := (HT.out.1 q hlt).1; rw [Nat.zero_add] at this; exact this
      obtain ⟨z, hz⟩ := Option.isSome_iff_exists.1 fs
      clear fs hTr
      go_wp2
      go_roundw
      case rel =>
        have hf := fill_step (F := fun j => .int .u64 (firstAt 512 j)) HF.out HT.out.1 hlt (.int .u64 (firstAt 512 q)) rfl
        skip
        refine ⟨q + 1, by omega, by go_num, HB.out.setCell (by simp) _, ⟨World.there_setCells HT.out.1 _ q [_], World.there_setCells HT.out.2 _ q [_]⟩, hf.1⟩
      case measure => simp [intOf]; omega
    · obtain rfl : q = 8 := by omega
      have HR : Hid (wr.rangeAt (w.heap.size + 1) 0 (firstE 512).cells) := fun j v hv => by
        obtain ⟨hj, rfl⟩ := eightOf_at _ j v hv
        rw [Nat.zero_add]
        exact HF.out j hj
      have HY : Hid (wr.there w.heap.size 0 (firstE 512).cells.toArray.size) := HT.out.2
      have HZ : Hid ((Tryd.prog.info? 86).map (·.size) = some (firstE 512).cells.toArray.size) := size70
      obtain ⟨E, HE⟩ : ∃ E : Eight, Hid (E = firstE 512) := ⟨_, rfl⟩
      rw [← HE.out] at HR HY HZ
      clear HF
      go_wp2_with (first
        | (refine wpList_load_mid (by rfl) 86 (.tmp 3) (by rfl) (w.heap.size + 1) 0 (by rfl) E.cells _ HR.out Tryd.underlying86 rfl size70 ?_)
        | (refine wpList_store_mid (by rfl) 86 (.tmp 2) (.tmp 42) (by rfl) w.heap.size 0 E.cells.toArray (by rfl) (by rfl) HY.out HZ.out (cellsE_one E) ?_)
        | fail)
      have hl := run_loadVar_mid (P := Tryd.prog) (wr.setCells w.heap.size 0 E.cells) w.heap.size 0 86 E.cells _ (World.rangeAt_setCells_same wr w.heap.size 0 E.cells HT.out.2) Tryd.underlying86 rfl size70
      refine bodyPost_ret (v := .agg E.cells.toArray) ?_ rfl ⟨by rw [HE.out], below_setCells _ (Nat.le_refl _) _ _ _ HB.out⟩
      rw [results_cell1 Tryd.results47]
      simp [Act.put, asAddr, hl]


/-- first. -/
theorem rfirst_any {h : Int} (k : Known h) (w : World) (hT : Hid (RTab w)) : Calls Tryd.prog 47 #[.int .i64 h] w fun e w' => e = .returned (.agg (firstE h).cells.toArray) ∧ Below w.heap.size w w' := by
  rcases k with rfl | rfl | rfl | rfl
  · exact rfirst224 w hT
  · exact rfirst256 w hT
  · exact rfirst384 w hT
  · exact rfirst512 w hT
theorem rblock_ok (h : Int) (k : Known h) (w : World) : Calls Tryd.prog 43 #[.int .i64 h] w fun e w' => e = .returned (.int .i64 (bsz (wdOf h))) ∧ w' = w := by
  rcases k with rfl | rfl | rfl | rfl
  all_goals
    go_enter Tryd.func43, Tryd.ntmps43
    go_wp2
    go_ret
    exact ⟨rfl, rfl⟩
theorem rsize_ok (h : Int) (k : Known h) (w : World) : Calls Tryd.prog 42 #[.int .i64 h] w fun e w' => e = .returned (.int .i64 (szOf h)) ∧ w' = w := by
  rcases k with rfl | rfl | rfl | rfl
  all_goals
    go_enter Tryd.func42, Tryd.ntmps42
    go_wp2
    go_ret
    exact ⟨rfl, rfl⟩
theorem rsize_bad (h : Int) (k : ¬ Known h) (w : World) : Calls Tryd.prog 42 #[.int .i64 h] w fun e w' => e = .returned (.int .i64 0) ∧ w' = w := by
  have d1 : ¬ h = 224 := fun e => k (.inl e)
  have d2 : ¬ h = 256 := fun e => k (.inr (.inl e))
  have d3 : ¬ h = 384 := fun e => k (.inr (.inr (.inl e)))
  have d4 : ¬ h = 512 := fun e => k (.inr (.inr (.inr e)))
  clear k
  go_enter Tryd.func42, Tryd.ntmps42
  go_wp2
  go_ret
  exact ⟨rfl, rfl⟩
end Go.Proofs.YtkeklmkaleomkaaDoor
