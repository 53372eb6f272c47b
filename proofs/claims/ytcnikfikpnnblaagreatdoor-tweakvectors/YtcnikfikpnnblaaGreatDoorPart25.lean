import Derived.Test.YtcnikfikpnnblaaGreatDoorProg
import Derived.WalkKit
import Derived.Deep.RegionHeld3
import Derived.StillTail
namespace Go.Proofs.YtcnikfikpnnblaaGreatDoor.Fld
set_option linter.unusedVariables false
/-- Power k of a map. -/
def itr (T : BitVec 128 → BitVec 128) : Nat → BitVec 128 → BitVec 128
  | 0, a => a
  | k + 1, a => T (itr T k a)
/-- The sum of f k over the bits of a below n. -/
def S (f : Nat → BitVec 128) (a : BitVec 128) : Nat → BitVec 128
  | 0 => 0#128
  | k + 1 => S f a k ^^^ (if a.getLsbD k then f k else 0#128)
def e (k : Nat) : BitVec 128 := BitVec.twoPow 128 k
def Lin (f : BitVec 128 → BitVec 128) : Prop := ∀ a b, f (a ^^^ b) = f a ^^^ f b
theorem Lin.zero {f : BitVec 128 → BitVec 128} (h : Lin f) : f 0#128 = 0#128 := by
  have := h 0#128 0#128
  simp only [BitVec.xor_self] at this
  exact this
theorem x4 (a b c d : BitVec 128) : (a ^^^ b) ^^^ (c ^^^ d) = (a ^^^ c) ^^^ (b ^^^ d) := by
  rw [BitVec.xor_assoc, BitVec.xor_assoc, ← BitVec.xor_assoc b, ← BitVec.xor_assoc c, BitVec.xor_comm b c]
theorem S_e (a : BitVec 128) (n i : Nat) : (S e a n).getLsbD i = (decide (i < n) && a.getLsbD i) := by
  induction n with
  | zero => simp [S]
  | succ n ih =>
    rw [S, BitVec.getLsbD_xor, ih]
    by_cases h : i = n
    · subst h
      by_cases hb : a.getLsbD i = true
      · have : i < 128 := by
          rcases Nat.lt_or_ge i 128 with h | h
          · exact h
          · rw [BitVec.getLsbD_of_ge _ _ h] at hb; exact absurd hb (by decide)
        simp [hb, e, this]
      · simp [hb]
    · have h2 : (if a.getLsbD n then e n else 0#128).getLsbD i = false := by
        split
        · simp [e, BitVec.getLsbD_twoPow]; omega
        · simp
      rw [h2, Bool.xor_false]
      congr 1
      simp; omega
theorem S_all (a : BitVec 128) : S e a 128 = a := by
  apply BitVec.eq_of_getLsbD_eq
  intro i hi
  rw [S_e]; simp [hi]
theorem Lin.S {f : BitVec 128 → BitVec 128} (h : Lin f) (a : BitVec 128) (n : Nat) : f (S e a n) = S (fun k => f (e k)) a n := by
  induction n with
  | zero => exact h.zero
  | succ n ih =>
    rw [Fld.S, h, ih, Fld.S]
    congr 1
    split
    · rfl
    · exact h.zero
theorem Lin.sum {f : BitVec 128 → BitVec 128} (h : Lin f) (a : BitVec 128) : f a = Fld.S (fun k => f (e k)) a 128 := by
  have := h.S a 128
  rwa [S_all] at this
theorem S_congr {f g : Nat → BitVec 128} (a : BitVec 128) (n : Nat) (h : ∀ k, k < n → f k = g k) : S f a n = S g a n := by
  induction n with
  | zero => rfl
  | succ n ih => rw [S, S, ih (fun k hk => h k (by omega)), h n (by omega)]
theorem S_xor (f g : Nat → BitVec 128) (a : BitVec 128) (n : Nat) : S (fun k => f k ^^^ g k) a n = S f a n ^^^ S g a n := by
  induction n with
  | zero => simp [S]
  | succ n ih =>
    rw [S, S, S, ih, x4]
    congr 1
    split <;> simp
theorem S_lin (f : Nat → BitVec 128) (n : Nat) : Lin (fun a => S f a n) := by
  intro a b
  induction n with
  | zero => simp [S]
  | succ n ih =>
    show S f (a ^^^ b) (n + 1) = S f a (n + 1) ^^^ S f b (n + 1)
    have ih' : S f (a ^^^ b) n = S f a n ^^^ S f b n := ih
    rw [S, S, S, ih', x4, BitVec.getLsbD_xor]
    congr 1
    cases a.getLsbD n <;> cases b.getLsbD n <;> simp
theorem S_map {F : BitVec 128 → BitVec 128} (h : Lin F) (f : Nat → BitVec 128) (a : BitVec 128) (n : Nat) : F (S f a n) = S (fun k => F (f k)) a n := by
  induction n with
  | zero => exact h.zero
  | succ n ih =>
    rw [S, h, ih, S]
    congr 1
    split
    · rfl
    · exact h.zero
theorem itr_lin {T : BitVec 128 → BitVec 128} (h : Lin T) (k : Nat) : Lin (itr T k) := by
  intro a b
  induction k with
  | zero => rfl
  | succ k ih => rw [itr, itr, itr, ih, h]
theorem itr_comm (T : BitVec 128 → BitVec 128) (k : Nat) (a : BitVec 128) : itr T k (T a) = T (itr T k a) := by
  induction k with
  | zero => rfl
  | succ k ih => rw [itr, ih, itr]
/-- A map whose powers at 1 are the basis. -/
structure Cyc (T : BitVec 128 → BitVec 128) : Prop where
  lin : Lin T
  step : ∀ k, k < 127 → T (e k) = e (k + 1)
theorem Cyc.basis {T : BitVec 128 → BitVec 128} (h : Cyc T) : ∀ k, k < 128 → itr T k (e 0) = e k := by
  intro k hk
  induction k with
  | zero => rfl
  | succ k ih => rw [itr, ih (by omega), h.step k (by omega)]
theorem comm_itr {T : BitVec 128 → BitVec 128} {f : BitVec 128 → BitVec 128} (hc : ∀ a, f (T a) = T (f a)) (k : Nat) (a : BitVec 128) : f (itr T k a) = itr T k (f a) := by
  induction k with
  | zero => rfl
  | succ k ih => rw [itr, hc, ih, itr]
/-- The product of a and b. -/
def M (T : BitVec 128 → BitVec 128) (b a : BitVec 128) : BitVec 128 := S (fun k => itr T k a) b 128
theorem M_lin {T : BitVec 128 → BitVec 128} (h : Lin T) (b : BitVec 128) : Lin (M T b) := by
  intro x y
  unfold M
  rw [← S_xor]
  exact S_congr b 128 fun k _ => itr_lin h k x y
theorem M_lin2 (T : BitVec 128 → BitVec 128) (a : BitVec 128) : Lin (fun b => M T b a) := S_lin _ 128
theorem M_T {T : BitVec 128 → BitVec 128} (h : Lin T) (b a : BitVec 128) : M T b (T a) = T (M T b a) := by
  unfold M
  rw [S_map h]
  exact S_congr b 128 fun k _ => itr_comm T k a
theorem Cyc.M_one {T : BitVec 128 → BitVec 128} (h : Cyc T) (b : BitVec 128) : M T b (e 0) = b := by
  unfold M
  rw [S_congr b 128 (g := e) fun k hk => h.basis k hk, S_all]
theorem M_comm' {T : BitVec 128 → BitVec 128} {f : BitVec 128 → BitVec 128} (hf : Lin f) (cf : ∀ a, f (T a) = T (f a)) (b a : BitVec 128) : f (M T b a) = M T b (f a) := by
  unfold M
  rw [S_map hf]
  exact S_congr b 128 fun k _ => comm_itr cf k a
theorem Cyc.comm {T : BitVec 128 → BitVec 128} (h : Cyc T) (a b : BitVec 128) : M T b a = M T a b := by
  have h1 : M T b (M T a (e 0)) = M T a (M T b (e 0)) := M_comm' (M_lin h.lin b) (M_T h.lin b) a (e 0)
  rwa [h.M_one, h.M_one] at h1
theorem Cyc.one {T : BitVec 128 → BitVec 128} (h : Cyc T) (a : BitVec 128) : M T (e 0) a = a := by rw [h.comm, h.M_one]
/-- Horner's way: from the highest bit down. -/
def horner (T : BitVec 128 → BitVec 128) (q p : BitVec 128) : Nat → BitVec 128 → BitVec 128
  | 0, s => s
  | k + 1, s => horner T q p k (T s ^^^ (if q.getLsbD k then p else 0#128))
theorem horner_inv {T : BitVec 128 → BitVec 128} (h : Lin T) (q p : BitVec 128) (k : Nat) (s : BitVec 128) : horner T q p k s = itr T k s ^^^ S (fun i => itr T i p) q k := by
  induction k generalizing s with
  | zero => simp [horner, itr, S]
  | succ k ih =>
    rw [horner, ih, itr_lin h, itr_comm, itr, S, BitVec.xor_assoc, BitVec.xor_comm (itr T k _)]
    congr 2
    split
    · rfl
    · exact (itr_lin h k).zero
theorem horner_M {T : BitVec 128 → BitVec 128} (h : Lin T) (q p : BitVec 128) : horner T q p 128 0#128 = M T q p := by
  rw [horner_inv h, (itr_lin h 128).zero, BitVec.zero_xor]
  rfl
/-- The other way: from the lowest bit up, with the quotient by x. -/
def up (U : BitVec 128 → BitVec 128) (q p : BitVec 128) : Nat → BitVec 128
  | 0 => 0#128
  | k + 1 => U (up U q p k ^^^ (if q.getLsbD k then p else 0#128))
/-- The product of POLYVAL. -/
def D (U : BitVec 128 → BitVec 128) (a b : BitVec 128) : BitVec 128 := up U b a 128
/-- Powers: x goes through a, a^3, .., y through the squares. -/
def pw (T : BitVec 128 → BitVec 128) (a : BitVec 128) : Nat → BitVec 128 × BitVec 128
  | 0 => (e 0, a)
  | k + 1 => (M T (pw T a k).2 (pw T a k).1, M T (pw T a k).2 (pw T a k).2)
/-- The product with x of XTS and LRW. -/
def TX (v : BitVec 128) : BitVec 128 := (v <<< 1) ^^^ (if v.getLsbD 127 then 0x87#128 else 0#128)
def UP (v : BitVec 128) : BitVec 128 := (v >>> 1) ^^^ (if v.getLsbD 0 then 0xe1000000000000000000000000000000#128 else 0#128)
theorem sh_lin (a b : BitVec 128) : (a ^^^ b) <<< 1 = a <<< 1 ^^^ b <<< 1 := BitVec.shiftLeft_xor_distrib a b 1
theorem if_xor (a b : BitVec 128) (i : Nat) (c : BitVec 128) : (if (a ^^^ b).getLsbD i then c else 0#128) = (if a.getLsbD i then c else 0#128) ^^^ (if b.getLsbD i then c else 0#128) := by
  rw [BitVec.getLsbD_xor]
  cases a.getLsbD i <;> cases b.getLsbD i <;> simp
theorem TX_lin : Lin TX := fun a b => by rw [TX, sh_lin, if_xor, x4]; rfl
theorem UP_lin : Lin UP := fun a b => by rw [UP, BitVec.ushiftRight_xor_distrib, if_xor, x4]; rfl
end Go.Proofs.YtcnikfikpnnblaaGreatDoor.Fld
namespace Go.Proofs.YtcnikfikpnnblaaGreatDoor.Fd
set_option linter.unusedVariables false
variable {P : Program} {ops : Array Oper} {Q : Exit → Act → World → Prop} {md : Region.Mode} {S : World → Prop} {n : Nat}

/-- Whatever order is picked; S holds behind every operation of the head (the first n); the tail may do as it likes. -/
def wpTill (P : Program) (md : Region.Mode) (ops : Array Oper) (Q : Exit → Act → World → Prop) (S : World → Prop) (n : Nat) : Nat → Array Bool → Act → World → Prop
  | 0, l, a, w => Region.ready md ops l = [] ∧ Q .normal a w
  | f + 1, l, a, w =>
    (Region.ready md ops l = [] → Q .normal a w) ∧
    ∀ i, i ∈ Region.ready md ops l → wpOp P ops Q i (fun b u => (i < n → S u) ∧ wpTill P md ops Q S n f (l.setIfInBounds i true) b u) a w

theorem any_of_till (f : Nat) : ∀ (l : Array Bool) (a : Act) (w : World), wpTill P md ops Q S n f l a w → wpAny P md ops Q f l a w := by
  induction f with
  | zero => exact fun _ _ _ h => h
  | succ f ih => exact fun l a w h => ⟨h.1, fun i hi => wpOp_mono (fun b u k => ih _ b u k.2) (h.2 i hi)⟩

theorem till_first {i : Nat} {oi : Oper} {v : Value} (hi : ops[i]? = some oi) (hin : i < n) (hn : n < ops.size) (hsk : Region.sinkB md ops n = true) (hch : Region.chainB md ops n = true)
    (hsel : ∀ (j : Nat) (o : Oper) cs b, ops[j]? = some o → o.op ≠ .select cs b) (hQ : ∀ c a w, Q (.panic c) (a.put oi.dst v) w → Q (.panic c) a w) (f : Nat) :
    ∀ (l : Array Bool) (a : Act) (w : World), HeadInv md ops n l →
      (∀ j oj, ops[j]? = some oj → j ≠ i → l.getD j true = false → (∀ e ∈ oj.after, Region.binds md e = true → e.on ≠ i) → oi.apart ops oj = true) →
      i ∈ Region.ready md ops l → YieldsIf P ops S oi v a → S w → wpTill P md ops Q S n f (l.setIfInBounds i true) (a.put oi.dst v) w → wpTill P md ops Q S n (f + 1) l a w := by
  induction f with
  | zero =>
    intro l a w inv _ hr hy hS H
    refine ⟨fun h => (by rw [h] at hr; cases hr), fun j hj => ?_⟩
    by_cases hji : j = i
    · subst hji
      exact hy.wpOp hi hS ⟨fun _ => hS, H⟩
    · have h := ready_mono hj hji
      rw [H.1] at h
      cases h
  | succ f ih =>
    intro l a w inv hfree hr hy hS H
    refine ⟨fun h => (by rw [h] at hr; cases hr), fun j hj => ?_⟩
    by_cases hji : j = i
    · subst hji
      exact hy.wpOp hi hS ⟨fun _ => hS, H⟩
    have hun := (mem_ready.1 hr).1
    have hjn : j < n := by
      rcases Nat.lt_or_ge j n with h | h
      · exact h
      · exact absurd hj (tail_waits hsk hch hn inv _ i rfl hin hun j h)
    have h1 := H.2 j (ready_mono hj hji)
    obtain ⟨hjun, oj, hoj, hall⟩ := mem_ready.1 hj
    have hnot : ∀ e ∈ oj.after, Region.binds md e = true → e.on ≠ i := fun e he hb heq => by
      have h2 := hall e he hb
      rw [heq] at h2
      rw [getD_both hun] at h2
      cases h2
    have h2 := wpOp_putIf hoj (hfree j oj hoj hji hjun hnot) (fun cs b => hsel i oi cs b hi) (fun cs b => hsel j oj cs b hoj) hQ hy h1
    refine wpOp_mono (fun b u h3 => ?_) h2
    have hSu := h3.2.1 hjn
    refine ⟨fun _ => hSu, ih (l.setIfInBounds j true) b u (inv.set hj hjn) (fun k ok hk hki hku hno => ?_) (ready_mono hr (Ne.symm hji)) h3.1 hSu ?_⟩
    · refine hfree k ok hk hki ?_ hno
      by_cases hjk : j = k
      · subst hjk; exact hjun
      · rw [getD_set_ne true hjk] at hku; exact hku
    · rw [Array.setIfInBounds_comm _ _ hji]
      exact h3.2.2

/-- What is carried along: the head's invariant, and what the region's form gives once. -/
structure Inv (md : Region.Mode) (ops : Array Oper) (n : Nat) (l : Array Bool) : Prop where
  head : HeadInv md ops n l
  lt : n < ops.size
  sink : Region.sinkB md ops n = true
  chain : Region.chainB md ops n = true
  sel : Region.noSelect ops = true
theorem Inv.set {l : Array Bool} {i : Nat} (inv : Inv md ops n l) (hi : i ∈ Region.ready md ops l) (hin : i < n) : Inv md ops n (l.setIfInBounds i true) := ⟨inv.head.set hi hin, inv.lt, inv.sink, inv.chain, inv.sel⟩

/-- An operation of the head that yields under S is taken first. -/
theorem till_at (i d : Nat) (v : Value) {oi : Oper} {f : Nat} {l : Array Bool} {tmps : Array Value} {ds : List Deferred} {w : World} (inv : Inv md ops n l) (hi : ops[i]? = some oi) (hd : oi.dst = some d)
    (hin : i < n) (hf : Region.free md ops l i = true) (hr : (Region.ready md ops l).contains i = true)
    (hQ : ∀ c a w, Q (.panic c) (a.put oi.dst v) w → Q (.panic c) a w) (hS : S w) (hy : YieldsIf P ops S oi v ⟨tmps, ds⟩)
    (h : Inv md ops n (l.setIfInBounds i true) → wpTill P md ops Q S n f (l.setIfInBounds i true) ⟨tmps.setIfInBounds d v, ds⟩ w) : wpTill P md ops Q S n (f + 1) l ⟨tmps, ds⟩ w := by
  have hr' : i ∈ Region.ready md ops l := by simpa using hr
  refine till_first hi hin inv.lt inv.sink inv.chain (Region.noSelect_spec inv.sel) hQ f l _ w inv.head (Region.free_spec hi hf) hr' hy hS ?_
  rw [hd]
  exact h (inv.set hr' hin)

/-- A lone operation of the head comes up. -/
theorem till_head {i : Nat} {o : Oper} {f : Nat} {l : Array Bool} {a : Act} {w : World} (inv : Inv md ops n l) (hr : Region.ready md ops l = [i]) (hin : i < n) (ho : ops[i]? = some o)
    (h : ∀ K' : Act → World → Prop, Shut (∀ a w, S w → (Inv md ops n (l.setIfInBounds i true) → wpTill P md ops Q S n f (l.setIfInBounds i true) a w) → K' a w) → if Region.wanted o (yielded ops a.tmps) = true then Oper.wp P o a w K' Q else K' (a.put o.dst undef) w) :
    wpTill P md ops Q S n (f + 1) l a w := by
  have hi : i ∈ Region.ready md ops l := by rw [hr]; simp
  refine ⟨fun h0 => (by rw [hr] at h0; cases h0), fun j hj => ?_⟩
  rw [hr] at hj
  obtain rfl : j = i := by simpa using hj
  exact wpOp_step ho (fun K' hK => h K' (fun a w hS hW => hK a w ⟨fun _ => hS, hW (inv.set hi hin)⟩))

/-- A lone operation of the tail comes up. -/
theorem till_tail {i : Nat} {o : Oper} {f : Nat} {l : Array Bool} {a : Act} {w : World} (hr : Region.ready md ops l = [i]) (hin : n ≤ i) (ho : ops[i]? = some o)
    (h : ∀ K' : Act → World → Prop, Shut (∀ a w, wpTill P md ops Q S n f (l.setIfInBounds i true) a w → K' a w) → if Region.wanted o (yielded ops a.tmps) = true then Oper.wp P o a w K' Q else K' (a.put o.dst undef) w) :
    wpTill P md ops Q S n (f + 1) l a w := by
  refine ⟨fun h0 => (by rw [hr] at h0; cases h0), fun j hj => ?_⟩
  rw [hr] at hj
  obtain rfl : j = i := by simpa using hj
  exact wpOp_step ho (fun K' hK => h K' (fun a w hW => hK a w ⟨fun h => by omega, hW⟩))

theorem till_done {l : Array Bool} {a : Act} {w : World} (hr : Region.ready md ops l = []) (h : Q .normal a w) : ∀ f, wpTill P md ops Q S n f l a w
  | 0 => ⟨hr, h⟩
  | _ + 1 => ⟨fun _ => h, fun i hi => by rw [hr] at hi; cases hi⟩

theorem wp_region_till {id : Nat} {a : Act} {w : World} (S : World → Prop) (n : Nat) (hm : P.follows .mixedOrders = true) (hn : n < ops.size) (hsk : Region.sinkB .any ops n = true) (hch : Region.chainB .any ops n = true) (hs : Region.noSelect ops = true)
    (h : Inv .any ops n (Array.replicate ops.size false) → wpTill P .any ops Q S n ops.size (Array.replicate ops.size false) a w.drew) : (Code.region id ops true).wp P Q a w := by
  refine wp_region_any hm (any_of_till _ _ _ _ (h ⟨⟨by simp, fun j oj _ hl => ?_, fun t _ ht => ?_⟩, hn, hsk, hch, hs⟩))
  · rw [getD_replicate_false] at hl; cases hl
  · simp [ht]
end Go.Proofs.YtcnikfikpnnblaaGreatDoor.Fd
