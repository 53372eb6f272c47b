import Derived.Test.YtmfnhdflmnmooaaPart00
import Derived.Deep.RegionHeld3
import Derived.Great.BuildSlice
import Derived.Maps.AppendAt
import Derived.WalkKit
import Derived.Below
import Derived.ProofKit
import Derived.BigRegion
import Derived.BigQuiet
import Derived.Deep.QuietTactic
import Derived.Laws.Bits64
import Derived.Deep.Cut
namespace Go.Proofs.Ytmfnhdflmnmooaa
open Go.RowKit
set_option linter.unusedVariables false
set_option linter.unusedSimpArgs false
theorem flat_len {α : Type} (L : α → List Value) (sz : Nat) (hL : ∀ x, (L x).length = sz) (l : List α) : (l.flatMap L).length = l.length * sz := by
  induction l with
  | nil => simp
  | cons y l ih => rw [List.flatMap_cons, List.length_append, ih, hL, List.length_cons, Nat.succ_mul]; omega
theorem flat_at {α : Type} (L : α → List Value) (sz : Nat) (hL : ∀ x, (L x).length = sz) (rest : List Value) : ∀ (l : List α) (i : Nat) (x : α), l[i]? = some x → ∀ (j : Nat) (u : Value), (L x)[j]? = some u → (l.flatMap L ++ rest)[i * sz + j]? = some u := by
  intro l
  induction l with
  | nil => intro i x hx; simp at hx
  | cons y l ih =>
    intro i x hx j u hu
    rw [List.flatMap_cons, List.append_assoc]
    cases i with
    | zero =>
      simp at hx
      subst hx
      have hj := (List.getElem?_eq_some_iff.1 hu).1
      rw [Nat.zero_mul, Nat.zero_add, List.getElem?_append_left hj]
      exact hu
    | succ k =>
      have h1 := ih k x (by simpa using hx) j u hu
      rw [List.getElem?_append_right (by rw [hL, Nat.succ_mul]; omega), hL, show (k + 1) * sz + j - sz = k * sz + j by rw [Nat.succ_mul]; omega]
      exact h1
/-- Rows that the call owns, with something behind them, are such a list. -/
theorem rv_own {α : Type} {L : α → List Value} {sz : Nat} (hL : ∀ x, (L x).length = sz) {w : World} {B e g N c : Nat} {l : List α} {rest : List Value} (h : w.ownsRow B e sz (.slice (some ⟨g, 0, none⟩) N c) N (l.flatMap L ++ rest)) : RV L sz w (some ⟨g, 0, none⟩) l := by
  refine .inr ⟨g, 0, rfl, (h.lt g rfl).2, fun i x hx j u hu => ?_⟩
  have := h.cells (g := g) rfl (i * sz + j) u (flat_at L sz hL rest l i x hx j u hu)
  rw [Addr.add_mid] at this
  rw [Nat.zero_add] at this ⊢
  exact this
/-- The mark behind them. -/
theorem mk_own {α : Type} {L : α → List Value} {sz : Nat} (hL : ∀ x, (L x).length = sz) {w : World} {B e g n c : Nat} {l : List α} {v : Value} {rest : List Value} (hl : l.length = n) (h : w.ownsRow B e sz (.slice (some ⟨g, 0, none⟩) (n + 1) c) (n + 1) (l.flatMap L ++ v :: rest)) : Mk w (some ⟨g, 0, none⟩) n c sz v := by
  have hc : n + 1 ≤ c ∧ c ≤ maxLen := by
    rcases h.2 with ⟨h, _⟩ | ⟨g', c', cur, he, _, _, h1, h2, _⟩
    · cases h
    · cases he; exact ⟨h1, h2⟩
  refine ⟨g, rfl, hc.1, by have := hc.2; unfold maxLen at this; omega, ?_⟩
  have := h.cells (g := g) rfl (n * sz) v (by
    rw [List.getElem?_append_right (by rw [flat_len L sz hL, hl]; exact Nat.le_refl _), flat_len L sz hL, hl, Nat.sub_self]
    rfl)
  rw [Addr.add_mid, Nat.zero_add] at this
  exact this
theorem sloL_len (x : Slo) : (sloL x).length = 9 := rfl
theorem epoL_len (x : Epo) : (epoL x).length = 5 := rfl
theorem tkL_len (x : Tk) : (tkL x).length = 4 := rfl
end Go.Proofs.Ytmfnhdflmnmooaa
namespace Go.Proofs.Ytmfnhdflmnmooaa
open Go.RowKit
set_option linter.unusedVariables false
set_option linter.unusedSimpArgs false
variable {P : Program} {md : Region.Mode} {ops : Array Oper} {Q : Exit → Act → World → Prop} {S : World → Prop}
theorem takeH_at (i d : Nat) (v : Value) {oi : Oper} {fuel : Nat} {listed : Array Bool} {tmps : Array Value} {ds : List Deferred} {w : World} (hi : ops[i]? = some oi) (hd : oi.dst = some d)
    (hs : Region.noSelect ops = true) (hf : Region.free md ops listed i = true) (hr : (Region.ready md ops listed).contains i = true)
    (hQ : ∀ c a w, Q (.panic c) (a.put oi.dst v) w → Q (.panic c) a w) (hS : S w) (hy : YieldsIf P ops S oi v ⟨tmps, ds⟩)
    (h : wpAnyH P md ops Q S fuel (listed.setIfInBounds i true) ⟨tmps.setIfInBounds d v, ds⟩ w) : wpAnyH P md ops Q S (fuel + 1) listed ⟨tmps, ds⟩ w := by
  refine wpAnyH_take hi hs hf hr hQ hy hS ?_
  rw [hd]
  exact h
/-- Every old block but n is as it was. -/
structure Stay (n : Nat) (W u : World) : Prop where
  os : u.os = W.os
  tape : u.tape = W.tape
  output : u.output = W.output
  size : W.heap.size ≤ u.heap.size
  block : ∀ k, k < W.heap.size → k ≠ n → u.heap[k]? = W.heap[k]?
theorem Stay.refl (n : Nat) (W : World) : Stay n W W := ⟨rfl, rfl, rfl, Nat.le_refl _, fun _ _ _ => rfl⟩
theorem Stay.of {n : Nat} {W u : World} (h : Below W.heap.size W u) : Stay n W u := ⟨h.os, h.tape, h.output, h.size, fun k hk _ => h.block k hk⟩
theorem Stay.trans {n : Nat} {a b c : World} (h : Stay n a b) (k : Stay n b c) : Stay n a c :=
  ⟨k.os.trans h.os, k.tape.trans h.tape, k.output.trans h.output, Nat.le_trans h.size k.size, fun i hi hn => (k.block i (Nat.lt_of_lt_of_le hi h.size) hn).trans (h.block i hi hn)⟩
theorem Stay.set {n : Nat} {W u : World} (h : Stay n W u) (o : Nat) (v : Value) : Stay n W (u.setCell ⟨n, o, none⟩ v) :=
  h.trans ⟨rfl, rfl, rfl, by simp [World.setCell], fun k hk hn => Below.heap_setCell _ _ _ _ hn⟩
theorem Stay.cell {n : Nat} {W u : World} (h : Stay n W u) {b o : Nat} (hb : b < W.heap.size) (hn : b ≠ n) : u.cell? ⟨b, o, none⟩ = W.cell? ⟨b, o, none⟩ := World.cell?_of_block (w := W) (h.block b hb hn)
theorem Stay.below {n B : Nat} {W u : World} (h : Stay n W u) (hB : B ≤ n) (hs : B ≤ W.heap.size) : Below B W u := ⟨h.os, h.tape, h.output, h.size, fun k hk => h.block k (by omega) (by omega)⟩
theorem RV.stay {α : Type} {L : α → List Value} {sz : Nat} {w w' : World} {p : Option Addr} {l : List α} (h : RV L sz w p l) {n : Nat} (hB : Stay n w w') (hp : ∀ b o, p = some ⟨b, o, none⟩ → b ≠ n) : RV L sz w' p l := by
  rcases h with h | ⟨b, off, hp', hb, hc⟩
  · exact .inl h
  · exact .inr ⟨b, off, hp', Nat.lt_of_lt_of_le hb hB.size, fun i x hx j u hu => (hB.cell hb (hp b off hp')).trans (hc i x hx j u hu)⟩
theorem Mk.stay {w w' : World} {p : Option Addr} {n c sz : Nat} {v : Value} (h : Mk w p n c sz v) {k : Nat} (hB : Stay k w w') (hp : ∀ b o, p = some ⟨b, o, none⟩ → b < w.heap.size ∧ b ≠ k) : Mk w' p n c sz v := by
  obtain ⟨g, hp', h1, h2, h3⟩ := h
  have q := hp g 0 hp'
  exact ⟨g, hp', h1, h2, (hB.cell q.1 q.2).trans h3⟩
theorem flat_split {α : Type} (L : α → List Value) (sz : Nat) (hL : ∀ x, (L x).length = sz) : ∀ (l : List α) (j : Nat) (u : Value), (l.flatMap L)[j]? = some u → ∃ i x r, l[i]? = some x ∧ (L x)[r]? = some u ∧ j = i * sz + r := by
  intro l
  induction l with
  | nil => intro j u h; simp at h
  | cons y l ih =>
    intro j u h
    rw [List.flatMap_cons] at h
    by_cases hj : j < sz
    · rw [List.getElem?_append_left (by rw [hL]; exact hj)] at h
      exact ⟨0, y, j, rfl, h, by simp⟩
    · rw [List.getElem?_append_right (by rw [hL]; omega), hL] at h
      obtain ⟨i, x, r, h1, h2, h3⟩ := ih _ u h
      refine ⟨i + 1, x, r, by simpa using h1, h2, ?_⟩
      rw [Nat.succ_mul]
      omega
theorem flat_one {α : Type} (L : α → List Value) (h1 : ∀ x, ∀ u ∈ L x, u.oneCell' = true) (l : List α) : ∀ u ∈ l.flatMap L, u.oneCell' = true := by
  intro u hu
  obtain ⟨x, _, hx⟩ := List.mem_flatMap.1 hu
  exact h1 x u hx
section
variable {α : Type} {L : α → List Value}
/-- append of a list of structs that lies anywhere to a row that the call owns. -/
theorem run_append_rv (w : World) (t ty e : TypeId) (i : TypeInfo) (z : Value) (size bytes : Nat) (ht : P.underlying t = some (.slice e)) (hi : P.info? e = some i) (hz : i.zero = some z)
    (hsize : i.size = size) (hby : i.bytes = bytes) (hzs : z.cells.size = size) (hsz : 0 < size) (hL : ∀ x, (L x).length = size) (h1 : ∀ x, ∀ u ∈ L x, u.oneCell' = true)
    (base g0 n c0 : Nat) (xs : List Value) (hown : w.ownsRow base e size (.slice (some ⟨g0, 0, none⟩) n c0) n xs) (p : Option Addr) (m c : Nat) (l : List α) (hl : l.length = m) (hrv : RV L size w p l) (hn : p = none → c = 0)
    (h63 : n + m ≤ maxLen) (hbytes : (n + m) * bytes ≤ 140737488355328) (hbase : base ≤ w.heap.size) :
    ∃ g cap w', (Builtin.append_ #[t, t] ty #[.slice (some ⟨g0, 0, none⟩) n c0, .slice p m c]).run P w = .ok (.slice (some ⟨g, 0, none⟩) (n + m) cap) w' ∧
      w'.ownsRow base e size (.slice (some ⟨g, 0, none⟩) (n + m) cap) (n + m) (xs ++ l.flatMap L) ∧ w.grownBy w' (some g0) ∧ (g = g0 ∨ g = w.heap.size) := by
  cases p with
  | none =>
    have h0 : l = [] := by
      rcases hrv with h | ⟨b, off, h, _⟩
      · exact h
      · cases h
    subst h0
    have hm : m = 0 := by simpa using hl.symm
    subst hm
    have hc := hn rfl
    subst hc
    refine ⟨g0, c0, w, run_append_owned_none (P := P) (w := w) base t ty e i size ht hi _ n xs hown, by simpa using hown, ⟨rfl, rfl, rfl, Nat.le_refl _, fun _ _ _ => rfl⟩, .inl rfl⟩
  | some ad =>
    obtain ⟨v', w', hr, h2, h3, h4, h5⟩ := run_append_own_at (P := P) w base t ty e i z size bytes ht hi hz hsize hby hzs hsz (.slice (some ⟨g0, 0, none⟩) n c0) n xs hown ad m c (l.flatMap L) (by rw [flat_len L size hL, hl]) (by
      intro j u hj
      obtain ⟨i, x, r, q1, q2, q3⟩ := flat_split L size hL l j u hj
      rcases hrv with h | ⟨b, off, h, _, hc⟩
      · subst h; simp at q1
      · simp only [Option.some.injEq] at h
        subst h
        have := hc i x q1 r u q2
        rw [Addr.add_mid, q3]
        rw [← Nat.add_assoc]
        exact this) (flat_one L h1 l) h63 hbytes hbase
    rcases h2.2 with ⟨h, _⟩ | ⟨g, cap, cur, rfl, _⟩
    · have := h4.1 h
      simp at this
    · refine ⟨g, cap, w', hr, h2, h3, ?_⟩
      rcases h5 with h5 | h5
      · left; simpa [Value.ownBlock] using h5
      · right; simpa [Value.ownBlock] using h5
theorem wp_append_rv {w : World} {o : Oper} {a : Act} {K : Act → World → Prop} {Q : Exit → Act → World → Prop} (s x : Operand) (t : TypeId)
    (ho : o.op = .call { callee := .builtin .append, args := #[s, x], argTypes := #[t, t] }) (e : TypeId) (i : TypeInfo) (z : Value) (size bytes : Nat) (ht : P.underlying t = some (.slice e)) (hi : P.info? e = some i) (hz : i.zero = some z)
    (hsize : i.size = size) (hby : i.bytes = bytes) (hzs : z.cells.size = size) (hsz : 0 < size) (hL : ∀ x, (L x).length = size) (h1 : ∀ x, ∀ u ∈ L x, u.oneCell' = true)
    (base g0 n c0 : Nat) (xs : List Value) (hs : a.eval s = .slice (some ⟨g0, 0, none⟩) n c0) (hown : w.ownsRow base e size (.slice (some ⟨g0, 0, none⟩) n c0) n xs) (p : Option Addr) (m c : Nat) (l : List α) (hx : a.eval x = .slice p m c) (hl : l.length = m) (hrv : RV L size w p l) (hn : p = none → c = 0)
    (h63 : n + m ≤ maxLen) (hbytes : (n + m) * bytes ≤ 140737488355328) (hbase : base ≤ w.heap.size)
    (h : ∀ g cap w', w'.ownsRow base e size (.slice (some ⟨g, 0, none⟩) (n + m) cap) (n + m) (xs ++ l.flatMap L) → w.grownBy w' (some g0) → (g = g0 ∨ g = w.heap.size) → K (a.put o.dst (.slice (some ⟨g, 0, none⟩) (n + m) cap)) w') : o.wp P a w K Q := by
  obtain ⟨g, cap, w', hr, h2, h3, h4⟩ := run_append_rv (P := P) w t o.type e i z size bytes ht hi hz hsize hby hzs hsz hL h1 base g0 n c0 xs hown p m c l hl hrv hn h63 hbytes hbase
  unfold Oper.wp execOp
  simp only [ho, resolve, invoke, builtin, Sem.run_bind, Sem.run_pure, Result.andThen_ok, List.map_toArray, List.map_cons, List.map_nil, hs, hx, hr]
  exact h g cap w' h2 h3 h4
theorem step_append_rv {w : World} {o : Oper} {a : Act} {K : Act → World → Prop} {Q : Exit → Act → World → Prop} {E : Prop} (hgd : o.guard = none) (d : Nat) (hd : o.dst = some d) (s x : Operand) (t : TypeId)
    (ho : o.op = .call { callee := .builtin .append, args := #[s, x], argTypes := #[t, t] }) (e : TypeId) (i : TypeInfo) (z : Value) (size bytes : Nat) (ht : P.underlying t = some (.slice e)) (hi : P.info? e = some i) (hz : i.zero = some z)
    (hsize : i.size = size) (hby : i.bytes = bytes) (hzs : z.cells.size = size) (hsz : 0 < size) (hL : ∀ x, (L x).length = size) (h1 : ∀ x, ∀ u ∈ L x, u.oneCell' = true)
    (base g0 n c0 : Nat) (xs : List Value) (hs : a.eval s = .slice (some ⟨g0, 0, none⟩) n c0) (hown : w.ownsRow base e size (.slice (some ⟨g0, 0, none⟩) n c0) n xs) (p : Option Addr) (m c : Nat) (l : List α) (hx : a.eval x = .slice p m c) (hl : l.length = m) (hrv : RV L size w p l) (hn : p = none → c = 0)
    (h63 : n + m ≤ maxLen) (hbytes : (n + m) * bytes ≤ 140737488355328) (hbase : base ≤ w.heap.size)
    (h : ∀ g cap w', w'.ownsRow base e size (.slice (some ⟨g, 0, none⟩) (n + m) cap) (n + m) (xs ++ l.flatMap L) → w.grownBy w' (some g0) → (g = g0 ∨ g = w.heap.size) → K (a.put (some d) (.slice (some ⟨g, 0, none⟩) (n + m) cap)) w') :
    if Region.wanted o (yielded ops a.tmps) = true then Oper.wp P o a w K Q else E := by
  have hw : Region.wanted o (yielded ops a.tmps) = true := by simp [Region.wanted, hgd]
  rw [if_pos hw]
  rw [← hd] at h
  exact wp_append_rv s x t ho e i z size bytes ht hi hz hsize hby hzs hsz hL h1 base g0 n c0 xs hs hown p m c l hx hl hrv hn h63 hbytes hbase h
theorem wpList_append_rv {w : World} {rest : List Oper} {o : Oper} {a : Act} {Q : Exit → Act → World → Prop} (hgd : o.guard = none) (s x : Operand) (t : TypeId)
    (ho : o.op = .call { callee := .builtin .append, args := #[s, x], argTypes := #[t, t] }) (e : TypeId) (i : TypeInfo) (z : Value) (size bytes : Nat) (ht : P.underlying t = some (.slice e)) (hi : P.info? e = some i) (hz : i.zero = some z)
    (hsize : i.size = size) (hby : i.bytes = bytes) (hzs : z.cells.size = size) (hsz : 0 < size) (hL : ∀ x, (L x).length = size) (h1 : ∀ x, ∀ u ∈ L x, u.oneCell' = true)
    (base g0 n c0 : Nat) (xs : List Value) (hs : a.eval s = .slice (some ⟨g0, 0, none⟩) n c0) (hown : w.ownsRow base e size (.slice (some ⟨g0, 0, none⟩) n c0) n xs) (p : Option Addr) (m c : Nat) (l : List α) (hx : a.eval x = .slice p m c) (hl : l.length = m) (hrv : RV L size w p l) (hn : p = none → c = 0)
    (h63 : n + m ≤ maxLen) (hbytes : (n + m) * bytes ≤ 140737488355328) (hbase : base ≤ w.heap.size)
    (h : ∀ g cap w', w'.ownsRow base e size (.slice (some ⟨g, 0, none⟩) (n + m) cap) (n + m) (xs ++ l.flatMap L) → w.grownBy w' (some g0) → (g = g0 ∨ g = w.heap.size) → wpList P ops Q rest (a.put o.dst (.slice (some ⟨g, 0, none⟩) (n + m) cap)) w') : wpList P ops Q (o :: rest) a w :=
  wpList_plain hgd fun _ hK => wp_append_rv s x t ho e i z size bytes ht hi hz hsize hby hzs hsz hL h1 base g0 n c0 xs hs hown p m c l hx hl hrv hn h63 hbytes hbase fun g cap w' h2 h3 h4 => hK _ _ (h g cap w' h2 h3 h4)
end
/-- A block that a literal made. -/
theorem rv_block {α : Type} {L : α → List Value} {sz : Nat} {w : World} {b e : Nat} {x : α} (h : w.heap[b]? = some (.cells (L x).toArray e (0, 0))) : RV L sz w (some ⟨b, 0, none⟩) [x] := by
  refine .inr ⟨b, 0, rfl, (Array.getElem?_eq_some_iff.1 h).1, fun i y hy j u hu => ?_⟩
  cases i with
  | zero =>
    simp at hy
    subst hy
    simp only [World.cell?]
    rw [h]
    simpa using hu
  | succ k => simp at hy
theorem step_bs {o : Oper} {a : Act} {w : World} {K : Act → World → Prop} {Q : Exit → Act → World → Prop} {E : Prop} (hgd : o.guard = none) (d : Nat) (hd : o.dst = some d) (t e : TypeId) (len : Nat) (parts : Array (Nat × Operand)) (ho : o.op = .buildSlice t len parts) (pv : Array (Nat × Value)) (hpv : (parts.map fun (i, x) => (i, a.eval x)) = pv) (cells : Array Value)
    (hr : ∀ u : World, (Instr.buildSlice t len pv).run P u = .ok (.slice (some ⟨u.heap.size, 0, none⟩) len len) (u.alloc (.cells cells e)))
    (h : ∀ u b, u.heap[b]? = some (.cells cells e (0, 0)) → Below w.heap.size w u → b = w.heap.size → u.heap.size = b + 1 → K (a.put (some d) (.slice (some ⟨b, 0, none⟩) len len)) u) :
    if Region.wanted o (yielded ops a.tmps) = true then Oper.wp P o a w K Q else E := by
  have hw : Region.wanted o (yielded ops a.tmps) = true := by simp [Region.wanted, hgd]
  rw [if_pos hw]
  rw [← hd] at h
  unfold Oper.wp execOp
  simp only [ho, Sem.run_bind, hpv, hr w, Result.andThen_ok]
  exact h _ _ (heap_alloc_new w _) ((Below.refl _ w).alloc (Nat.le_refl _) _) rfl (by simp)
theorem step_load1 {o : Oper} {a : Act} {w : World} {K : Act → World → Prop} {Q : Exit → Act → World → Prop} {E : Prop} (hgd : o.guard = none) (d : Nat) (hd : o.dst = some d) (t : TypeId) (x : Operand) (ho : o.op = .load t x) (p v : Value) (hx : a.eval x = p)
    (hr : (Instr.loadAt t p).run P w = .ok v w) (h : K (a.put (some d) v) w) : if Region.wanted o (yielded ops a.tmps) = true then Oper.wp P o a w K Q else E := by
  have hw : Region.wanted o (yielded ops a.tmps) = true := by simp [Region.wanted, hgd]
  rw [if_pos hw]
  rw [← hd] at h
  unfold Oper.wp execOp
  simp only [ho, hx, Sem.run_bind, hr, Result.andThen_ok]
  exact h
theorem own_empty {w : World} {base b e size : Nat} (h : w.heap[b]? = some (.cells #[] e (0, 0))) (hb : base ≤ b) : w.ownsRow base e size (.slice (some ⟨b, 0, none⟩) 0 0) 0 [] :=
  ⟨by simp, .inr ⟨b, 0, #[], rfl, hb, h, Nat.le_refl _, by unfold maxLen; omega, by simp, by simp⟩⟩
theorem own_keep {w w' : World} {base e size n : Nat} {v : Value} {xs : List Value} (h : w.ownsRow base e size v n xs) (hb : Below w.heap.size w w') : w'.ownsRow base e size v n xs :=
  h.kept (row := none) ⟨hb.os, hb.tape, hb.output, hb.size, fun k hk _ => hb.block k hk⟩ (by cases hv : v.ownBlock <;> simp)
end Go.Proofs.Ytmfnhdflmnmooaa
namespace Go.Proofs.Ytmfnhdflmnmooaa
open Go.RowKit
set_option linter.unusedVariables false
set_option linter.unusedSimpArgs false
abbrev shA (U C H K : Int) : Value := .agg #[.int .i64 U, .int .u64 C, .int .i64 H, .int .i64 K]
set_option maxHeartbeats 1600000 in
set_option maxRecDepth 100000 in
theorem first_ok (U C H K : Int) (w : World) (hU : unitB U = true) (h1 : 0 ≤ H) (h2 : H ≤ 4194304) (k1 : 0 ≤ K) (k2 : K ≤ 134217728) : Calls Try.prog 54 #[.agg #[.int .i64 U, .int .u64 C, .int .i64 H, .int .i64 K]] w fun e w' => Hid (e = .returned (.int .u64 ((2 * H + K) / U)) ∧ Below w.heap.size w w') := by
  have HA : Hid (SAt (w.alloc (.cells #[.int .i64 U, .int .u64 C, .int .i64 H, .int .i64 K] 24)) w.heap.size U C H K ∧ Below w.heap.size w (w.alloc (.cells #[.int .i64 U, .int .u64 C, .int .i64 H, .int .i64 K] 24)) ∧ (w.alloc (.cells #[.int .i64 U, .int .u64 C, .int .i64 H, .int .i64 K] 24)).rangeAt w.heap.size 0 [.int .i64 U, .int .u64 C, .int .i64 H, .int .i64 K]) := ⟨SAt.new _ _ _ _ _ _, below_alloc1 _ _, fun j v hv => by rw [Nat.zero_add]; exact rangeAt_new w _ 24 j v (by simpa using hv)⟩
  go_enter Try.func54, Try.ntmps54
  go_upto_region 1 with fail
  generalize w.alloc (.cells #[.int .i64 U, .int .u64 C, .int .i64 H, .int .i64 K] 24) = w0 at HA ⊢
  have hUr : 512 ≤ U ∧ U ≤ 4096 := by rcases unitB_cases hU with h | h | h | h <;> omega
  have eU : IntKind.u64.wrap U = U := by rw [IntKind.wrap_u64]; omega
  have eD : IntKind.u64.wrap (2 * H + K) = 2 * H + K := by rw [IntKind.wrap_u64]; omega
  have eq0 : (2 * H + K).tdiv U = (2 * H + K) / U := Int.tdiv_eq_ediv_of_nonneg (by omega)
  have hU0 : (U == 0) = false := by simp; omega
  have hU1 : U ≠ 0 := by omega
  have hle : 0 ≤ (2 * H + K) / U ∧ (2 * H + K) / U ≤ 2 * H + K := ⟨Int.ediv_nonneg (by omega) (by omega), Int.ediv_le_self _ (by omega)⟩
  have eQ : IntKind.u64.wrap ((2 * H + K) / U) = (2 * H + K) / U := by rw [IntKind.wrap_u64]; omega
  have hS0 : Below w0.heap.size w0 w0.drew := (Below.refl _ _).drew
  have hlt : w.heap.size < w0.heap.size := lt_of_cell HA.out.1.c0
  have hrg : ∀ u, Below w0.heap.size w0 u → u.rangeAt w.heap.size 0 [.int .i64 U, .int .u64 C, .int .i64 H, .int .i64 K] := fun u hu j v hj => (hu.cell (p := ⟨w.heap.size, 0 + j, none⟩) hlt).trans (HA.out.2.2 j v hj)
  have hld : ∀ u, Below w0.heap.size w0 u → u.cell? ⟨w.heap.size, 0, none⟩ = some (.int .i64 U) := fun u hu => hrg u hu 0 _ rfl
  refine wp_region_noPanic ?_
  refine wp_region_held_drew (S := fun u => Below w0.heap.size w0 u) (by kernel_rfl) (hS0) (fun _ => ?_)
  refine takeH_at 0 3 (.agg #[.int .i64 U, .int .u64 C, .int .i64 H, .int .i64 K]) rfl rfl (by kernel_rfl) (by kernel_rfl) (by kernel_rfl) (fun _ _ _ h => h) hS0 (yieldsIf_load_mid (by rfl) 24 (.tmp 1) rfl w.heap.size 0 rfl [.int .i64 U, .int .u64 C, .int .i64 H, .int .i64 K] _ hrg Try.underlying24 rfl (by kernel_rfl)) ?_
  simp only [List.setIfInBounds_toArray, List.set_cons_zero, List.set_cons_succ]
  refine takeH_at 3 6 (.pointer (some ⟨w.heap.size, 0, none⟩)) rfl rfl (by kernel_rfl) (by kernel_rfl) (by kernel_rfl) (fun _ _ _ h => h) (hS0) (Or.inl ⟨by rfl, fun w' hS' => by go_simp⟩) ?_
  simp only [List.setIfInBounds_toArray, List.set_cons_zero, List.set_cons_succ]
  refine takeH_at 4 7 (.int .i64 U) rfl rfl (by kernel_rfl) (by kernel_rfl) (by kernel_rfl) (fun _ _ _ h => h) (hS0) (Or.inl ⟨by rfl, fun w' hS' => by have q := hld w' hS'; go_simp⟩) ?_
  simp only [List.setIfInBounds_toArray, List.set_cons_zero, List.set_cons_succ]
  refine takeH_at 5 8 (.int .u64 U) rfl rfl (by kernel_rfl) (by kernel_rfl) (by kernel_rfl) (fun _ _ _ h => h) (hS0) (Or.inl ⟨by rfl, fun w' hS' => by go_simp⟩) ?_
  simp only [List.setIfInBounds_toArray, List.set_cons_zero, List.set_cons_succ]
  refine wpAnyH_ready (rs := [1]) (by kernel_rfl) (by simp) ?_
  refine AllReadyH.cons rfl (fun Kx hK => ?_) AllReadyH.nil
  go_simp
  refine (data_ok U C H K _ h1 h2 k1 k2).mono ?_
  intro e1 q1 hh
  obtain ⟨he, hq1⟩ := hh.out
  subst he
  have hS1 : Below w0.heap.size w0 q1 := hS0.trans (hq1.mono hS0.size)
  clear hh
  go_wp2_with fail
  refine hK.out _ _ hS1 (fun _ => ?_)
  clear hK Kx
  try simp only [Act.put, List.setIfInBounds_toArray, List.set_cons_zero, List.set_cons_succ]
  refine takeH_at 2 5 (.int .u64 (2 * H + K)) rfl rfl (by kernel_rfl) (by kernel_rfl) (by kernel_rfl) (fun _ _ _ h => h) (hS1) (Or.inl ⟨by rfl, fun w' hS' => by go_simp⟩) ?_
  simp only [List.setIfInBounds_toArray, List.set_cons_zero, List.set_cons_succ]
  refine takeH_at 6 9 (.int .u64 ((2 * H + K) / U)) rfl rfl (by kernel_rfl) (by kernel_rfl) (by kernel_rfl) (fun _ _ _ h => h) (hS1) (Or.inl ⟨by rfl, fun w' hS' => by go_simp⟩) ?_
  simp only [List.setIfInBounds_toArray, List.set_cons_zero, List.set_cons_succ]
  refine takeH_at 7 2 (.int .u64 ((2 * H + K) / U)) rfl rfl (by kernel_rfl) (by kernel_rfl) (by kernel_rfl) (fun _ _ _ h => h) (hS1) (Or.inl ⟨by rfl, fun w' hS' => by go_simp⟩) ?_
  simp only [List.setIfInBounds_toArray, List.set_cons_zero, List.set_cons_succ]
  refine wpAnyH_done (by kernel_rfl) ?_ _
  refine NoPanic.normal ?_
  go_wp2_with fail
  go_ret
  exact ⟨rfl, HA.out.2.1.trans (hS1.mono HA.out.2.1.size)⟩
end Go.Proofs.Ytmfnhdflmnmooaa
namespace Go.Proofs.Ytmfnhdflmnmooaa
open Go.RowKit
set_option linter.unusedVariables false
set_option linter.unusedSimpArgs false
/-- A rotation, as a value. -/
abbrev roA (on : Bool) (fr to : Int) (back : Bool) (mode : Int) (hot done : Nat) (ao az : Int) (act : Bool) (cnt : Int) (sum : ByteArray) : Array Value := #[.bool on, .int .u64 fr, .int .u64 to, .bool back, .int .i64 mode, .int .u64 (hot : Nat), .int .u64 (done : Nat), .int .i64 ao, .int .i64 az, .bool act, .int .u64 cnt, .string sum]
set_option maxHeartbeats 1600000 in
set_option maxRecDepth 100000 in
theorem hotz_ok (on : Bool) (fr to : Int) (back : Bool) (mode : Int) (hot done : Nat) (ao az : Int) (act : Bool) (cnt : Int) (sum : ByteArray) (n : Nat) (hn : n ≤ 4294967296) (hd : done ≤ n) (w : World) : Calls Try.prog 38 #[.int .u64 (n : Nat), .agg (roA on fr to back mode hot done ao az act cnt sum)] w fun e w' => e = .returned (.tuple #[.int .u64 ((if back then n - done - min hot (n - done) else done : Nat) : Int), .int .u64 ((min hot (n - done) : Nat) : Int)]) ∧ Below w.heap.size w w' := by
  go_enter Try.func38, Try.ntmps38
  go_upto_region 1 with fail
  have HA : Hid (Below w.heap.size w (w.alloc (.cells (roA on fr to back mode hot done ao az act cnt sum) 33)) ∧ (w.alloc (.cells (roA on fr to back mode hot done ao az act cnt sum) 33)).cell? ⟨w.heap.size, 3, none⟩ = some (.bool back) ∧ (w.alloc (.cells (roA on fr to back mode hot done ao az act cnt sum) 33)).cell? ⟨w.heap.size, 5, none⟩ = some (.int .u64 (hot : Nat)) ∧ (w.alloc (.cells (roA on fr to back mode hot done ao az act cnt sum) 33)).cell? ⟨w.heap.size, 6, none⟩ = some (.int .u64 (done : Nat))) :=
    ⟨below_alloc1 _ _, rangeAt_new w _ 33 3 _ rfl, rangeAt_new w _ 33 5 _ rfl, rangeAt_new w _ 33 6 _ rfl⟩
  generalize w.alloc (.cells (roA on fr to back mode hot done ao az act cnt sum) 33) = w0 at HA ⊢
  generalize roA on fr to back mode hot done ao az act cnt sum = RA at ⊢
  obtain ⟨_, c3, c5, c6⟩ := HA.out
  obtain ⟨l, hl⟩ : ∃ l, n = done + l := ⟨n - done, by omega⟩
  subst hl
  have e1 : (((done + l : Nat) : Int) - (done : Int)) = (l : Int) := by omega
  have e1' : ((done : Int) + (l : Int) - (done : Int)) = (l : Int) := by omega
  have e2 : done + l - done = l := by omega
  by_cases hh : hot < l
  · have m1 : min hot l = hot := by omega
    have d1 : decide ((hot : Int) < (l : Int)) = true := by simp; omega
    have d2 : ¬ (l : Int) < (hot : Int) := by omega
    have d3 : ¬ l < hot := by omega
    cases back
    · go_wp2
      go_ret2
      refine ⟨?_, HA.out.1⟩
      simp [e2, m1]
    · go_wp2
      go_ret2
      refine ⟨?_, HA.out.1⟩
      simp [e2, m1]
      try omega
  · rcases (show l < hot ∨ l = hot by omega) with h2 | h2
    · have m1 : min hot l = l := by omega
      have d1 : decide ((hot : Int) < (l : Int)) = false := by simp; omega
      have d2 : (l : Int) < (hot : Int) := by omega
      have d3 : decide ((l : Int) < (hot : Int)) = true := by simp; omega
      cases back
      · go_wp2
        go_ret2
        refine ⟨?_, HA.out.1⟩
        simp [e2, m1]
        try omega
      · go_wp2
        go_ret2
        refine ⟨?_, HA.out.1⟩
        simp [e2, m1]
        try omega
    · subst h2
      have m1 : min l l = l := by omega
      clear hh
      cases back
      · go_wp2
        go_ret2
        refine ⟨?_, HA.out.1⟩
        simp [e2, m1]
        try omega
      · go_wp2
        go_ret2
        refine ⟨?_, HA.out.1⟩
        simp [e2, m1]
        try omega
set_option maxHeartbeats 1600000 in
set_option maxRecDepth 100000 in
theorem rhotz_ok (on : Bool) (fr to : Int) (back : Bool) (mode : Int) (hot done : Nat) (ao az : Int) (act : Bool) (cnt : Int) (sum : ByteArray) (n : Nat) (hn : n ≤ 4294967296) (hd : done ≤ n) (w : World) : Calls Try.prog 40 #[.int .u64 (n : Nat), .agg (roA on fr to back mode hot done ao az act cnt sum)] w fun e w' => e = .returned (.tuple #[.int .u64 ((if back then n - done - min hot (n - done) else done : Nat) : Int), .int .u64 ((min hot (n - done) : Nat) : Int)]) ∧ Below w.heap.size w w' := by
  go_enter Try.func40, Try.ntmps40
  go_upto_region 1 with fail
  have HA : Hid (Below w.heap.size w (w.alloc (.cells (roA on fr to back mode hot done ao az act cnt sum) 33)) ∧ (w.alloc (.cells (roA on fr to back mode hot done ao az act cnt sum) 33)).cell? ⟨w.heap.size, 3, none⟩ = some (.bool back) ∧ (w.alloc (.cells (roA on fr to back mode hot done ao az act cnt sum) 33)).cell? ⟨w.heap.size, 5, none⟩ = some (.int .u64 (hot : Nat)) ∧ (w.alloc (.cells (roA on fr to back mode hot done ao az act cnt sum) 33)).cell? ⟨w.heap.size, 6, none⟩ = some (.int .u64 (done : Nat))) :=
    ⟨below_alloc1 _ _, rangeAt_new w _ 33 3 _ rfl, rangeAt_new w _ 33 5 _ rfl, rangeAt_new w _ 33 6 _ rfl⟩
  generalize w.alloc (.cells (roA on fr to back mode hot done ao az act cnt sum) 33) = w0 at HA ⊢
  generalize roA on fr to back mode hot done ao az act cnt sum = RA at ⊢
  obtain ⟨_, c3, c5, c6⟩ := HA.out
  obtain ⟨l, hl⟩ : ∃ l, n = done + l := ⟨n - done, by omega⟩
  subst hl
  have e1 : (((done + l : Nat) : Int) - (done : Int)) = (l : Int) := by omega
  have e1' : ((done : Int) + (l : Int) - (done : Int)) = (l : Int) := by omega
  have e2 : done + l - done = l := by omega
  by_cases hh : hot < l
  · have m1 : min hot l = hot := by omega
    have d1 : decide ((hot : Int) < (l : Int)) = true := by simp; omega
    have d2 : ¬ (l : Int) < (hot : Int) := by omega
    have d3 : ¬ l < hot := by omega
    cases back
    · go_wp2
      go_ret2
      refine ⟨?_, HA.out.1⟩
      simp [e2, m1]
    · go_wp2
      go_ret2
      refine ⟨?_, HA.out.1⟩
      simp [e2, m1]
      try omega
  · rcases (show l < hot ∨ l = hot by omega) with h2 | h2
    · have m1 : min hot l = l := by omega
      have d1 : decide ((hot : Int) < (l : Int)) = false := by simp; omega
      have d2 : (l : Int) < (hot : Int) := by omega
      have d3 : decide ((l : Int) < (hot : Int)) = true := by simp; omega
      cases back
      · go_wp2
        go_ret2
        refine ⟨?_, HA.out.1⟩
        simp [e2, m1]
        try omega
      · go_wp2
        go_ret2
        refine ⟨?_, HA.out.1⟩
        simp [e2, m1]
        try omega
    · subst h2
      have m1 : min l l = l := by omega
      clear hh
      cases back
      · go_wp2
        go_ret2
        refine ⟨?_, HA.out.1⟩
        simp [e2, m1]
        try omega
      · go_wp2
        go_ret2
        refine ⟨?_, HA.out.1⟩
        simp [e2, m1]
        try omega
end Go.Proofs.Ytmfnhdflmnmooaa
namespace Go.Proofs.Ytmfnhdflmnmooaa
open Go.RowKit
set_option linter.unusedVariables false
set_option linter.unusedSimpArgs false
set_option maxHeartbeats 1600000 in
set_option maxRecDepth 100000 in
theorem sectors_ok (U C H K : Int) (w : World) (hU : unitB U = true) (h1 : 0 ≤ H) (h2 : H ≤ 4194304) (k1 : 0 ≤ K) (k2 : K ≤ 134217728) (c1 : (2 * H + K) / U ≤ C) (c2 : C ≤ 4294967296) : Calls Try.prog 25 #[.agg #[.int .i64 U, .int .u64 C, .int .i64 H, .int .i64 K]] w fun e w' => Hid (e = .returned (.int .u64 (C - (2 * H + K) / U)) ∧ Below w.heap.size w w') := by
  have HA : Hid (SAt (w.alloc (.cells #[.int .i64 U, .int .u64 C, .int .i64 H, .int .i64 K] 24)) w.heap.size U C H K ∧ Below w.heap.size w (w.alloc (.cells #[.int .i64 U, .int .u64 C, .int .i64 H, .int .i64 K] 24)) ∧ (w.alloc (.cells #[.int .i64 U, .int .u64 C, .int .i64 H, .int .i64 K] 24)).rangeAt w.heap.size 0 [.int .i64 U, .int .u64 C, .int .i64 H, .int .i64 K]) := ⟨SAt.new _ _ _ _ _ _, below_alloc1 _ _, fun j v hv => by rw [Nat.zero_add]; exact rangeAt_new w _ 24 j v (by simpa using hv)⟩
  have hUr : 512 ≤ U ∧ U ≤ 4096 := by rcases unitB_cases hU with h | h | h | h <;> omega
  have HC : Hid (∀ u, Calls Try.prog 54 #[.agg #[.int .i64 U, .int .u64 C, .int .i64 H, .int .i64 K]] u fun e w' => Hid (e = .returned (.int .u64 ((2 * H + K) / U)) ∧ Below u.heap.size u w')) := fun u => first_ok U C H K u hU h1 h2 k1 k2
  have hq0 : 0 ≤ (2 * H + K) / U := Int.ediv_nonneg (by omega) (by omega)
  obtain ⟨Q, hQ⟩ : ∃ Q, Hid (Q = (2 * H + K) / U) := ⟨_, rfl⟩
  rw [← hQ.out] at HC c1 hq0 ⊢
  go_enter Try.func25, Try.ntmps25
  go_upto_region 1 with fail
  generalize (w.alloc (.cells #[.int .i64 U, .int .u64 C, .int .i64 H, .int .i64 K] 24)) = w0 at HA ⊢
  have eQ : IntKind.u64.wrap (C - Q) = C - Q := by rw [IntKind.wrap_u64]; omega
  have hS0 : Below w0.heap.size w0 w0.drew := (Below.refl _ _).drew
  have hlt : w.heap.size < w0.heap.size := lt_of_cell HA.out.1.c0
  have hrg : ∀ u, Below w0.heap.size w0 u → u.rangeAt w.heap.size 0 [.int .i64 U, .int .u64 C, .int .i64 H, .int .i64 K] := fun u hu j v hj => (hu.cell (p := ⟨w.heap.size, 0 + j, none⟩) hlt).trans (HA.out.2.2 j v hj)
  have hld : ∀ u, Below w0.heap.size w0 u → u.cell? ⟨w.heap.size, 1, none⟩ = some (.int .u64 C) := fun u hu => hrg u hu 1 _ rfl
  refine wp_region_noPanic ?_
  refine wp_region_held_drew (S := fun u => Below w0.heap.size w0 u) (by kernel_rfl) (hS0) (fun _ => ?_)
  refine takeH_at 0 3 (.pointer (some ⟨w.heap.size, 1, none⟩)) rfl rfl (by kernel_rfl) (by kernel_rfl) (by kernel_rfl) (fun _ _ _ h => h) (hS0) (Or.inl ⟨by rfl, fun w' hS' => by go_simp⟩) ?_
  simp only [List.setIfInBounds_toArray, List.set_cons_zero, List.set_cons_succ]
  refine takeH_at 1 4 (.int .u64 C) rfl rfl (by kernel_rfl) (by kernel_rfl) (by kernel_rfl) (fun _ _ _ h => h) (hS0) (Or.inl ⟨by rfl, fun w' hS' => by have q := hld w' hS'; go_simp⟩) ?_
  simp only [List.setIfInBounds_toArray, List.set_cons_zero, List.set_cons_succ]
  refine takeH_at 2 5 (.agg #[.int .i64 U, .int .u64 C, .int .i64 H, .int .i64 K]) rfl rfl (by kernel_rfl) (by kernel_rfl) (by kernel_rfl) (fun _ _ _ h => h) hS0 (yieldsIf_load_mid (by rfl) 24 (.tmp 1) rfl w.heap.size 0 rfl [.int .i64 U, .int .u64 C, .int .i64 H, .int .i64 K] _ hrg Try.underlying24 rfl (by kernel_rfl)) ?_
  simp only [List.setIfInBounds_toArray, List.set_cons_zero, List.set_cons_succ]
  refine wpAnyH_ready (rs := [3]) (by kernel_rfl) (by simp) ?_
  refine AllReadyH.cons rfl (fun Kx hK => ?_) AllReadyH.nil
  go_simp
  refine (HC.out _).mono ?_
  intro e1 q1 hh
  obtain ⟨he, hq1⟩ := hh.out
  subst he
  have hS1 : Below w0.heap.size w0 q1 := hS0.trans (hq1.mono hS0.size)
  clear hh
  go_wp2_with fail
  refine hK.out _ _ hS1 (fun _ => ?_)
  clear hK Kx
  try simp only [Act.put, List.setIfInBounds_toArray, List.set_cons_zero, List.set_cons_succ]
  refine takeH_at 4 7 (.int .u64 (C - Q)) rfl rfl (by kernel_rfl) (by kernel_rfl) (by kernel_rfl) (fun _ _ _ h => h) (hS1) (Or.inl ⟨by rfl, fun w' hS' => by go_simp⟩) ?_
  simp only [List.setIfInBounds_toArray, List.set_cons_zero, List.set_cons_succ]
  refine takeH_at 5 2 (.int .u64 (C - Q)) rfl rfl (by kernel_rfl) (by kernel_rfl) (by kernel_rfl) (fun _ _ _ h => h) (hS1) (Or.inl ⟨by rfl, fun w' hS' => by go_simp⟩) ?_
  simp only [List.setIfInBounds_toArray, List.set_cons_zero, List.set_cons_succ]
  refine wpAnyH_done (by kernel_rfl) ?_ _
  refine NoPanic.normal ?_
  go_wp2_with fail
  go_ret
  exact ⟨rfl, HA.out.2.1.trans (hS1.mono HA.out.2.1.size)⟩
set_option maxHeartbeats 1600000 in
set_option maxRecDepth 100000 in
theorem rstart_ok (U C H K : Int) (w : World) (hU : unitB U = true) (h1 : 0 ≤ H) (h2 : H ≤ 4194304) (k1 : 0 ≤ K) (k2 : K ≤ 134217728) : Calls Try.prog 56 #[.agg #[.int .i64 U, .int .u64 C, .int .i64 H, .int .i64 K]] w fun e w' => Hid (e = .returned (.int .u64 ((2 * H + K) / U)) ∧ Below w.heap.size w w') := by
  have HA : Hid (SAt (w.alloc (.cells #[.int .i64 U, .int .u64 C, .int .i64 H, .int .i64 K] 24)) w.heap.size U C H K ∧ Below w.heap.size w (w.alloc (.cells #[.int .i64 U, .int .u64 C, .int .i64 H, .int .i64 K] 24)) ∧ (w.alloc (.cells #[.int .i64 U, .int .u64 C, .int .i64 H, .int .i64 K] 24)).rangeAt w.heap.size 0 [.int .i64 U, .int .u64 C, .int .i64 H, .int .i64 K]) := ⟨SAt.new _ _ _ _ _ _, below_alloc1 _ _, fun j v hv => by rw [Nat.zero_add]; exact rangeAt_new w _ 24 j v (by simpa using hv)⟩
  go_enter Try.func56, Try.ntmps56
  go_upto_region 1 with fail
  generalize (w.alloc (.cells #[.int .i64 U, .int .u64 C, .int .i64 H, .int .i64 K] 24)) = w0 at HA ⊢
  have hUr : 512 ≤ U ∧ U ≤ 4096 := by rcases unitB_cases hU with h | h | h | h <;> omega
  have c0 := HA.out.1.c0
  have c2 := HA.out.1.c2
  have c3 := HA.out.1.c3
  have eq0 : (2 * H + K).tdiv U = (2 * H + K) / U := Int.tdiv_eq_ediv_of_nonneg (by omega)
  have hU1 : U ≠ 0 := by omega
  have hU2 : (U == 0) = false := by simp; omega
  have hle : 0 ≤ (2 * H + K) / U ∧ (2 * H + K) / U ≤ 2 * H + K := ⟨Int.ediv_nonneg (by omega) (by omega), Int.ediv_le_self _ (by omega)⟩
  have e1 : IntKind.i64.wrap (2 * H) = 2 * H := by rw [IntKind.wrap_i64]; omega
  have e2 : IntKind.i64.wrap (2 * H + K) = 2 * H + K := by rw [IntKind.wrap_i64]; omega
  have e3 : IntKind.i64.wrap ((2 * H + K) / U) = (2 * H + K) / U := by rw [IntKind.wrap_i64]; omega
  have e4 : IntKind.u64.wrap ((2 * H + K) / U) = (2 * H + K) / U := by rw [IntKind.wrap_u64]; omega
  go_wp2
  go_ret
  refine ⟨?_, HA.out.2.1⟩
  first | rfl | (congr 2; done) | (simp only [e1, e2, e3, e4, eq0]; done)
set_option maxHeartbeats 1600000 in
set_option maxRecDepth 100000 in
theorem rsize_ok (U C H K : Int) (w : World) (hU : unitB U = true) (h1 : 0 ≤ H) (h2 : H ≤ 4194304) (k1 : 0 ≤ K) (k2 : K ≤ 134217728) (c1 : (2 * H + K) / U ≤ C) (c2 : C ≤ 4294967296) : Calls Try.prog 28 #[.agg #[.int .i64 U, .int .u64 C, .int .i64 H, .int .i64 K]] w fun e w' => Hid (e = .returned (.int .u64 (C - (2 * H + K) / U)) ∧ Below w.heap.size w w') := by
  have HA : Hid (SAt (w.alloc (.cells #[.int .i64 U, .int .u64 C, .int .i64 H, .int .i64 K] 24)) w.heap.size U C H K ∧ Below w.heap.size w (w.alloc (.cells #[.int .i64 U, .int .u64 C, .int .i64 H, .int .i64 K] 24)) ∧ (w.alloc (.cells #[.int .i64 U, .int .u64 C, .int .i64 H, .int .i64 K] 24)).rangeAt w.heap.size 0 [.int .i64 U, .int .u64 C, .int .i64 H, .int .i64 K]) := ⟨SAt.new _ _ _ _ _ _, below_alloc1 _ _, fun j v hv => by rw [Nat.zero_add]; exact rangeAt_new w _ 24 j v (by simpa using hv)⟩
  have hUr : 512 ≤ U ∧ U ≤ 4096 := by rcases unitB_cases hU with h | h | h | h <;> omega
  have HC : Hid (∀ u, Calls Try.prog 56 #[.agg #[.int .i64 U, .int .u64 C, .int .i64 H, .int .i64 K]] u fun e w' => Hid (e = .returned (.int .u64 ((2 * H + K) / U)) ∧ Below u.heap.size u w')) := fun u => rstart_ok U C H K u hU h1 h2 k1 k2
  have hq0 : 0 ≤ (2 * H + K) / U := Int.ediv_nonneg (by omega) (by omega)
  obtain ⟨Q, hQ⟩ : ∃ Q, Hid (Q = (2 * H + K) / U) := ⟨_, rfl⟩
  rw [← hQ.out] at HC c1 hq0 ⊢
  go_enter Try.func28, Try.ntmps28
  go_upto_region 1 with fail
  generalize (w.alloc (.cells #[.int .i64 U, .int .u64 C, .int .i64 H, .int .i64 K] 24)) = w0 at HA ⊢
  have eQ : IntKind.u64.wrap (C - Q) = C - Q := by rw [IntKind.wrap_u64]; omega
  have hS0 : Below w0.heap.size w0 w0.drew := (Below.refl _ _).drew
  have hlt : w.heap.size < w0.heap.size := lt_of_cell HA.out.1.c0
  have hrg : ∀ u, Below w0.heap.size w0 u → u.rangeAt w.heap.size 0 [.int .i64 U, .int .u64 C, .int .i64 H, .int .i64 K] := fun u hu j v hj => (hu.cell (p := ⟨w.heap.size, 0 + j, none⟩) hlt).trans (HA.out.2.2 j v hj)
  have hld : ∀ u, Below w0.heap.size w0 u → u.cell? ⟨w.heap.size, 1, none⟩ = some (.int .u64 C) := fun u hu => hrg u hu 1 _ rfl
  refine wp_region_noPanic ?_
  refine wp_region_held_drew (S := fun u => Below w0.heap.size w0 u) (by kernel_rfl) (hS0) (fun _ => ?_)
  refine takeH_at 0 3 (.pointer (some ⟨w.heap.size, 1, none⟩)) rfl rfl (by kernel_rfl) (by kernel_rfl) (by kernel_rfl) (fun _ _ _ h => h) (hS0) (Or.inl ⟨by rfl, fun w' hS' => by go_simp⟩) ?_
  simp only [List.setIfInBounds_toArray, List.set_cons_zero, List.set_cons_succ]
  refine takeH_at 1 4 (.int .u64 C) rfl rfl (by kernel_rfl) (by kernel_rfl) (by kernel_rfl) (fun _ _ _ h => h) (hS0) (Or.inl ⟨by rfl, fun w' hS' => by have q := hld w' hS'; go_simp⟩) ?_
  simp only [List.setIfInBounds_toArray, List.set_cons_zero, List.set_cons_succ]
  refine takeH_at 2 5 (.agg #[.int .i64 U, .int .u64 C, .int .i64 H, .int .i64 K]) rfl rfl (by kernel_rfl) (by kernel_rfl) (by kernel_rfl) (fun _ _ _ h => h) hS0 (yieldsIf_load_mid (by rfl) 24 (.tmp 1) rfl w.heap.size 0 rfl [.int .i64 U, .int .u64 C, .int .i64 H, .int .i64 K] _ hrg Try.underlying24 rfl (by kernel_rfl)) ?_
  simp only [List.setIfInBounds_toArray, List.set_cons_zero, List.set_cons_succ]
  refine wpAnyH_ready (rs := [3]) (by kernel_rfl) (by simp) ?_
  refine AllReadyH.cons rfl (fun Kx hK => ?_) AllReadyH.nil
  go_simp
  refine (HC.out _).mono ?_
  intro e1 q1 hh
  obtain ⟨he, hq1⟩ := hh.out
  subst he
  have hS1 : Below w0.heap.size w0 q1 := hS0.trans (hq1.mono hS0.size)
  clear hh
  go_wp2_with fail
  refine hK.out _ _ hS1 (fun _ => ?_)
  clear hK Kx
  try simp only [Act.put, List.setIfInBounds_toArray, List.set_cons_zero, List.set_cons_succ]
  refine takeH_at 4 7 (.int .u64 (C - Q)) rfl rfl (by kernel_rfl) (by kernel_rfl) (by kernel_rfl) (fun _ _ _ h => h) (hS1) (Or.inl ⟨by rfl, fun w' hS' => by go_simp⟩) ?_
  simp only [List.setIfInBounds_toArray, List.set_cons_zero, List.set_cons_succ]
  refine takeH_at 5 2 (.int .u64 (C - Q)) rfl rfl (by kernel_rfl) (by kernel_rfl) (by kernel_rfl) (fun _ _ _ h => h) (hS1) (Or.inl ⟨by rfl, fun w' hS' => by go_simp⟩) ?_
  simp only [List.setIfInBounds_toArray, List.set_cons_zero, List.set_cons_succ]
  refine wpAnyH_done (by kernel_rfl) ?_ _
  refine NoPanic.normal ?_
  go_wp2_with fail
  go_ret
  exact ⟨rfl, HA.out.2.1.trans (hS1.mono HA.out.2.1.size)⟩
end Go.Proofs.Ytmfnhdflmnmooaa
namespace Go.Proofs.Ytmfnhdflmnmooaa
open Go.RowKit
set_option linter.unusedVariables false
set_option linter.unusedSimpArgs false
/-- Is it one of the first k sizes of a header? -/
def hdB (H : Int) : Nat → Bool
  | 0 => false
  | k + 1 => hdB H k || H == 16384 * 2 ^ k
theorem hdB_all (H : Int) : hdB H 9 = headB H := by
  simp [hdB, headB]
set_option maxHeartbeats 1600000 in
set_option maxRecDepth 100000 in
theorem shaped_ok (U C H K : Int) (c00 : 0 ≤ C) (c99 : C ≤ 18446744073709551615) (w : World) : Calls Try.prog 26 #[.agg #[.int .i64 U, .int .u64 C, .int .i64 H, .int .i64 K]] w fun e w' => e = .returned (.bool (mayB U C H K)) ∧ Below w.heap.size w w' := by
  have HA : Hid (SAt (w.alloc (.cells #[.int .i64 U, .int .u64 C, .int .i64 H, .int .i64 K] 24)) w.heap.size U C H K ∧ Below w.heap.size w (w.alloc (.cells #[.int .i64 U, .int .u64 C, .int .i64 H, .int .i64 K] 24))) := ⟨SAt.new _ _ _ _ _ _, below_alloc1 _ _⟩
  go_enter Try.func26, Try.ntmps26
  go_upto_region 1 with fail
  generalize w.alloc (.cells #[.int .i64 U, .int .u64 C, .int .i64 H, .int .i64 K] 24) = w0 at HA ⊢
  go_wp2
  have c2 := HA.out.1.c2
  go_loopw [3, 4] (fun hd h wr => ∃ k : Nat, k ≤ 9 ∧ h = .int .i64 ((16384 * 2 ^ k : Nat) : Int) ∧ hd = .bool (hdB H k) ∧ wr = w0) (fun _ h _ => 8388609 - (intOf h).toNat)
  case atStart => exact ⟨0, by omega, rfl, rfl, rfl⟩
  case round =>
    obtain ⟨k, hk, rfl, rfl, hw⟩ := hrel
    obtain rfl := hw.symm
    by_cases h9 : k < 9
    · have HN : Hid (∀ b : Bool, b = (hdB H k || H == 16384 * 2 ^ k) → b = hdB H (k + 1)) := fun b hb => by rw [hb]; rfl
      obtain ⟨b, hb⟩ : ∃ b, Hid (b = hdB H k) := ⟨_, rfl⟩
      rw [← hb.out] at HN ⊢
      obtain rfl | rfl | rfl | rfl | rfl | rfl | rfl | rfl | rfl : k = 0 ∨ k = 1 ∨ k = 2 ∨ k = 3 ∨ k = 4 ∨ k = 5 ∨ k = 6 ∨ k = 7 ∨ k = 8 := by omega
      · cases b
        · go_wp2
          exact ⟨⟨1, by omega, by go_num, congrArg Value.bool (HN.out _ (by simp)), trivial⟩, by simp [intOf]⟩
        · go_wp2
          exact ⟨⟨1, by omega, by go_num, congrArg Value.bool (HN.out true (by simp)), trivial⟩, by simp [intOf]⟩
      · cases b
        · go_wp2
          exact ⟨⟨2, by omega, by go_num, congrArg Value.bool (HN.out _ (by simp)), trivial⟩, by simp [intOf]⟩
        · go_wp2
          exact ⟨⟨2, by omega, by go_num, congrArg Value.bool (HN.out true (by simp)), trivial⟩, by simp [intOf]⟩
      · cases b
        · go_wp2
          exact ⟨⟨3, by omega, by go_num, congrArg Value.bool (HN.out _ (by simp)), trivial⟩, by simp [intOf]⟩
        · go_wp2
          exact ⟨⟨3, by omega, by go_num, congrArg Value.bool (HN.out true (by simp)), trivial⟩, by simp [intOf]⟩
      · cases b
        · go_wp2
          exact ⟨⟨4, by omega, by go_num, congrArg Value.bool (HN.out _ (by simp)), trivial⟩, by simp [intOf]⟩
        · go_wp2
          exact ⟨⟨4, by omega, by go_num, congrArg Value.bool (HN.out true (by simp)), trivial⟩, by simp [intOf]⟩
      · cases b
        · go_wp2
          exact ⟨⟨5, by omega, by go_num, congrArg Value.bool (HN.out _ (by simp)), trivial⟩, by simp [intOf]⟩
        · go_wp2
          exact ⟨⟨5, by omega, by go_num, congrArg Value.bool (HN.out true (by simp)), trivial⟩, by simp [intOf]⟩
      · cases b
        · go_wp2
          exact ⟨⟨6, by omega, by go_num, congrArg Value.bool (HN.out _ (by simp)), trivial⟩, by simp [intOf]⟩
        · go_wp2
          exact ⟨⟨6, by omega, by go_num, congrArg Value.bool (HN.out true (by simp)), trivial⟩, by simp [intOf]⟩
      · cases b
        · go_wp2
          exact ⟨⟨7, by omega, by go_num, congrArg Value.bool (HN.out _ (by simp)), trivial⟩, by simp [intOf]⟩
        · go_wp2
          exact ⟨⟨7, by omega, by go_num, congrArg Value.bool (HN.out true (by simp)), trivial⟩, by simp [intOf]⟩
      · cases b
        · go_wp2
          exact ⟨⟨8, by omega, by go_num, congrArg Value.bool (HN.out _ (by simp)), trivial⟩, by simp [intOf]⟩
        · go_wp2
          exact ⟨⟨8, by omega, by go_num, congrArg Value.bool (HN.out true (by simp)), trivial⟩, by simp [intOf]⟩
      · cases b
        · go_wp2
          exact ⟨⟨9, by omega, by go_num, congrArg Value.bool (HN.out _ (by simp)), trivial⟩, by simp [intOf]⟩
        · go_wp2
          exact ⟨⟨9, by omega, by go_num, congrArg Value.bool (HN.out true (by simp)), trivial⟩, by simp [intOf]⟩
    · obtain rfl : k = 9 := by omega
      rw [hdB_all]
      have HU : Hid (∀ v, Calls Try.prog 55 #[.int .i64 U] v fun e w' => e = .returned (.bool (unitB U)) ∧ w' = v) := fun v => runit_ok U v
      have c0 := HA.out.1.c0
      have c1 := HA.out.1.c1
      have c3 := HA.out.1.c3
      have HM : Hid (mayB U C H K = (unitB U && headB H && decide (4096 ≤ K) && decide (K ≤ 134217728) && decide (K % 4096 = 0) && decide (C ≤ 4294967296) && decide (2 * H + K < C * U))) := rfl
      obtain ⟨M, hM⟩ : ∃ M, Hid (M = mayB U C H K) := ⟨_, rfl⟩
      rw [← hM.out] at HM
      have HV : Hid (∀ b, b = M → (Ending.returned (.bool b) = .returned (.bool (mayB U C H K)))) := fun b h => by rw [h, hM.out]
      cases hu : unitB U with
      | false =>
        rw [hu] at HU HM
        have HF : Hid (false = M) := by show false = M; rw [HM.out]; simp
        clear HM
        go_wp2_with (go_at_call 55; refine (HU.out _).mono ?_; rintro e5 w5 ⟨rfl, hw5⟩; obtain rfl := hw5.symm)
        go_ret
        exact ⟨HV.out _ HF.out, HA.out.2⟩
      | true =>
      cases hh : headB H with
      | false =>
        rw [hu] at HU
        rw [hh] at HM
        have HF : Hid (false = M) := by show false = M; rw [HM.out]; simp
        clear HM
        go_wp2_with (go_at_call 55; refine (HU.out _).mono ?_; rintro e5 w5 ⟨rfl, hw5⟩; obtain rfl := hw5.symm)
        go_ret
        exact ⟨HV.out _ HF.out, HA.out.2⟩
      | true =>
      rw [hu] at HU
      have hr := headB_range hh
      have hur : 512 ≤ U ∧ U ≤ 4096 := by rcases unitB_cases hu with h | h | h | h <;> omega
      rw [hu, hh] at HM
      by_cases k1 : K < 4096
      · have HF : Hid (false = M) := by show false = M; rw [HM.out]; simp; omega
        clear HM
        have d1 : decide (K < 4096) = true := by simp; omega
        go_wp2_with (go_at_call 55; refine (HU.out _).mono ?_; rintro e5 w5 ⟨rfl, hw5⟩; obtain rfl := hw5.symm)
        go_ret
        exact ⟨HV.out _ HF.out, HA.out.2⟩
      have d1 : decide (K < 4096) = false := by simp; omega
      by_cases k2 : 134217728 < K
      · have HF : Hid (false = M) := by show false = M; rw [HM.out]; simp; omega
        clear HM
        have d2 : decide (134217728 < K) = true := by simp; omega
        go_wp2_with (go_at_call 55; refine (HU.out _).mono ?_; rintro e5 w5 ⟨rfl, hw5⟩; obtain rfl := hw5.symm)
        go_ret
        exact ⟨HV.out _ HF.out, HA.out.2⟩
      have d2 : decide (134217728 < K) = false := by simp; omega
      have eT : K.tmod 4096 = K % 4096 := Int.tmod_eq_emod_of_nonneg (by omega)
      by_cases k3 : K % 4096 = 0
      · have d3 : ((K % 4096 : Int) != 0) = false := by simp [k3]
        by_cases k4 : 4294967296 < C
        · have HF : Hid (false = M) := by show false = M; rw [HM.out]; simp; omega
          clear HM k3
          have d4 : decide (4294967296 < C) = true := by simp; omega
          go_wp2_with (go_at_call 55; refine (HU.out _).mono ?_; rintro e5 w5 ⟨rfl, hw5⟩; obtain rfl := hw5.symm)
          go_ret
          exact ⟨HV.out _ HF.out, HA.out.2⟩
        have d4 : decide (4294967296 < C) = false := by simp; omega
        have HF : Hid (decide (2 * H + K < C * U) = M) := by show _ = M; rw [HM.out]; simp [k3]; omega
        have hcu : 0 ≤ C * U ∧ C * U ≤ 17592186044416 := by
          rcases unitB_cases hu with h | h | h | h <;> (rw [h]; omega)
        have x1 : IntKind.i64.wrap C = C := by rw [IntKind.wrap_i64]; omega
        have x1' : wrap64 C = C := by unfold wrap64; omega
        have x2 : IntKind.i64.wrap (C * U) = C * U := by rw [IntKind.wrap_i64]; omega
        have x2' : wrap64 (C * U) = C * U := by unfold wrap64; omega
        have x3 : IntKind.i64.wrap (2 * H) = 2 * H := by rw [IntKind.wrap_i64]; omega
        have x4 : IntKind.i64.wrap (2 * H + K) = 2 * H + K := by rw [IntKind.wrap_i64]; omega
        clear HM k3
        go_wp2_with (go_at_call 55; refine (HU.out _).mono ?_; rintro e5 w5 ⟨rfl, hw5⟩; obtain rfl := hw5.symm)
        go_ret
        exact ⟨HV.out _ HF.out, HA.out.2⟩
      · have d3 : ((K % 4096 : Int) != 0) = true := by simp [k3]
        have HF : Hid (false = M) := by show false = M; rw [HM.out]; simp [k3]
        clear HM
        go_wp2_with (go_at_call 55; refine (HU.out _).mono ?_; rintro e5 w5 ⟨rfl, hw5⟩; obtain rfl := hw5.symm)
        go_ret
        exact ⟨HV.out _ HF.out, HA.out.2⟩
end Go.Proofs.Ytmfnhdflmnmooaa
namespace Go.Proofs.Ytmfnhdflmnmooaa
open Go.RowKit
set_option linter.unusedVariables false
set_option linter.unusedSimpArgs false
def modeB (m : Int) : Bool := m == 1 || m == 2
theorem isMode_ok (m : Int) (w : World) : Calls Try.prog 58 #[.int .i64 m] w fun e w' => e = .returned (.bool (modeB m)) ∧ w' = w := by
  unfold modeB
  by_cases h : m = 1
  · subst h
    go_enter Try.func58, Try.ntmps58
    go_wp2
    go_ret
    exact ⟨rfl, rfl⟩
  · have q1 : (m == 1) = false := by simpa using h
    go_enter Try.func58, Try.ntmps58
    go_wp2
    go_ret
    exact ⟨by simp [q1], rfl⟩
def hotB (h : Nat) : Bool := decide (1 ≤ h) && decide (h ≤ 4096)
theorem isHot_ok (h : Nat) (w : World) : Calls Try.prog 59 #[.int .u64 (h : Nat)] w fun e w' => e = .returned (.bool (hotB h)) ∧ w' = w := by
  unfold hotB
  by_cases h1 : 1 ≤ h
  · have q1 : decide ((1 : Int) ≤ (h : Nat)) = true := by simp; omega
    rw [decide_eq_true h1]
    go_enter Try.func59, Try.ntmps59
    go_wp2
    go_ret
    exact ⟨by simp; omega, rfl⟩
  · have q1 : decide ((1 : Int) ≤ (h : Nat)) = false := by simp; omega
    rw [decide_eq_false h1]
    go_enter Try.func59, Try.ntmps59
    go_wp2
    go_ret
    exact ⟨rfl, rfl⟩
/-- Rounded up to a multiple. -/
def ru (n s : Nat) : Nat := (n + (s - 1)) / s * s
theorem roundedUp_512 (n : Nat) (h : n ≤ 1099511627776) (w : World) : Calls Try.prog 60 #[.int .i64 (n : Nat), .int .i64 512] w fun e w' => e = .returned (.int .i64 (ru n 512 : Nat)) ∧ w' = w := by
  have q1 : (((n : Nat) : Int) + 512 - 1).tdiv 512 = (((n + 511) / 512 : Nat) : Int) := by
    rw [Int.tdiv_eq_ediv_of_nonneg (by omega)]
    omega
  obtain ⟨x, hx⟩ : ∃ x : Nat, x = (n + 511) / 512 := ⟨_, rfl⟩
  rw [← hx] at q1
  have hxb : x ≤ 1099511627776 := by omega
  have hr : ru n 512 = x * 512 := by rw [ru, hx]
  rw [hr]
  clear hr hx
  go_enter Try.func60, Try.ntmps60
  go_wp2
  go_ret
  exact ⟨by simp, rfl⟩
theorem whole_512 (n : Nat) (h : n ≤ 1099511627776) (w : World) : Calls Try.prog 62 #[.int .i64 (n : Nat), .int .i64 512] w fun e w' => e = .returned (.int .i64 (ru n 512 : Nat)) ∧ w' = w := by
  obtain ⟨R, hR⟩ : ∃ R : Nat, R = ru n 512 := ⟨_, rfl⟩
  have r1 : n ≤ R := by rw [hR, ru]; omega
  have r2 : R < n + 512 := by rw [hR, ru]; omega
  have r3 : R % 512 = 0 := by rw [hR, ru]; omega
  rw [← hR]
  clear hR
  go_enter Try.func62, Try.ntmps62
  go_wp2
  go_loopw [0] (fun vi wr => ∃ i : Nat, n ≤ i ∧ i ≤ R ∧ vi = .int .i64 (i : Nat) ∧ wr = w) (fun vi _ => R - (intOf vi).toNat)
  case atStart => exact ⟨n, Nat.le_refl _, r1, rfl, rfl⟩
  case round =>
    obtain ⟨i, hi1, hi2, rfl, hw⟩ := hrel
    obtain rfl := hw.symm
    have ei : ((i : Nat) : Int).tmod 512 = ((i % 512 : Nat) : Int) := by
      rw [Int.tmod_eq_emod_of_nonneg (by omega)]
      omega
    obtain ⟨y, hy⟩ : ∃ y : Nat, y = i % 512 := ⟨_, rfl⟩
    rw [← hy] at ei
    by_cases h0 : y = 0
    · have q : (((y : Nat) : Int) == 0) = true := by simpa using h0
      obtain rfl : i = R := by omega
      go_wp2
      go_ret
      exact ⟨rfl, rfl⟩
    · have q : (((y : Nat) : Int) == 0) = false := by simpa using h0
      have hne : i < R := by omega
      go_wp2
      go_roundw
      case rel => exact ⟨i + 1, by omega, by omega, by go_num, trivial⟩
      case measure => simp [intOf]; omega
theorem roundedUp_1024 (n : Nat) (h : n ≤ 1099511627776) (w : World) : Calls Try.prog 60 #[.int .i64 (n : Nat), .int .i64 1024] w fun e w' => e = .returned (.int .i64 (ru n 1024 : Nat)) ∧ w' = w := by
  have q1 : (((n : Nat) : Int) + 1024 - 1).tdiv 1024 = (((n + 1023) / 1024 : Nat) : Int) := by
    rw [Int.tdiv_eq_ediv_of_nonneg (by omega)]
    omega
  obtain ⟨x, hx⟩ : ∃ x : Nat, x = (n + 1023) / 1024 := ⟨_, rfl⟩
  rw [← hx] at q1
  have hxb : x ≤ 1099511627776 := by omega
  have hr : ru n 1024 = x * 1024 := by rw [ru, hx]
  rw [hr]
  clear hr hx
  go_enter Try.func60, Try.ntmps60
  go_wp2
  go_ret
  exact ⟨by simp, rfl⟩
theorem whole_1024 (n : Nat) (h : n ≤ 1099511627776) (w : World) : Calls Try.prog 62 #[.int .i64 (n : Nat), .int .i64 1024] w fun e w' => e = .returned (.int .i64 (ru n 1024 : Nat)) ∧ w' = w := by
  obtain ⟨R, hR⟩ : ∃ R : Nat, R = ru n 1024 := ⟨_, rfl⟩
  have r1 : n ≤ R := by rw [hR, ru]; omega
  have r2 : R < n + 1024 := by rw [hR, ru]; omega
  have r3 : R % 1024 = 0 := by rw [hR, ru]; omega
  rw [← hR]
  clear hR
  go_enter Try.func62, Try.ntmps62
  go_wp2
  go_loopw [0] (fun vi wr => ∃ i : Nat, n ≤ i ∧ i ≤ R ∧ vi = .int .i64 (i : Nat) ∧ wr = w) (fun vi _ => R - (intOf vi).toNat)
  case atStart => exact ⟨n, Nat.le_refl _, r1, rfl, rfl⟩
  case round =>
    obtain ⟨i, hi1, hi2, rfl, hw⟩ := hrel
    obtain rfl := hw.symm
    have ei : ((i : Nat) : Int).tmod 1024 = ((i % 1024 : Nat) : Int) := by
      rw [Int.tmod_eq_emod_of_nonneg (by omega)]
      omega
    obtain ⟨y, hy⟩ : ∃ y : Nat, y = i % 1024 := ⟨_, rfl⟩
    rw [← hy] at ei
    by_cases h0 : y = 0
    · have q : (((y : Nat) : Int) == 0) = true := by simpa using h0
      obtain rfl : i = R := by omega
      go_wp2
      go_ret
      exact ⟨rfl, rfl⟩
    · have q : (((y : Nat) : Int) == 0) = false := by simpa using h0
      have hne : i < R := by omega
      go_wp2
      go_roundw
      case rel => exact ⟨i + 1, by omega, by omega, by go_num, trivial⟩
      case measure => simp [intOf]; omega
theorem roundedUp_2048 (n : Nat) (h : n ≤ 1099511627776) (w : World) : Calls Try.prog 60 #[.int .i64 (n : Nat), .int .i64 2048] w fun e w' => e = .returned (.int .i64 (ru n 2048 : Nat)) ∧ w' = w := by
  have q1 : (((n : Nat) : Int) + 2048 - 1).tdiv 2048 = (((n + 2047) / 2048 : Nat) : Int) := by
    rw [Int.tdiv_eq_ediv_of_nonneg (by omega)]
    omega
  obtain ⟨x, hx⟩ : ∃ x : Nat, x = (n + 2047) / 2048 := ⟨_, rfl⟩
  rw [← hx] at q1
  have hxb : x ≤ 1099511627776 := by omega
  have hr : ru n 2048 = x * 2048 := by rw [ru, hx]
  rw [hr]
  clear hr hx
  go_enter Try.func60, Try.ntmps60
  go_wp2
  go_ret
  exact ⟨by simp, rfl⟩
theorem whole_2048 (n : Nat) (h : n ≤ 1099511627776) (w : World) : Calls Try.prog 62 #[.int .i64 (n : Nat), .int .i64 2048] w fun e w' => e = .returned (.int .i64 (ru n 2048 : Nat)) ∧ w' = w := by
  obtain ⟨R, hR⟩ : ∃ R : Nat, R = ru n 2048 := ⟨_, rfl⟩
  have r1 : n ≤ R := by rw [hR, ru]; omega
  have r2 : R < n + 2048 := by rw [hR, ru]; omega
  have r3 : R % 2048 = 0 := by rw [hR, ru]; omega
  rw [← hR]
  clear hR
  go_enter Try.func62, Try.ntmps62
  go_wp2
  go_loopw [0] (fun vi wr => ∃ i : Nat, n ≤ i ∧ i ≤ R ∧ vi = .int .i64 (i : Nat) ∧ wr = w) (fun vi _ => R - (intOf vi).toNat)
  case atStart => exact ⟨n, Nat.le_refl _, r1, rfl, rfl⟩
  case round =>
    obtain ⟨i, hi1, hi2, rfl, hw⟩ := hrel
    obtain rfl := hw.symm
    have ei : ((i : Nat) : Int).tmod 2048 = ((i % 2048 : Nat) : Int) := by
      rw [Int.tmod_eq_emod_of_nonneg (by omega)]
      omega
    obtain ⟨y, hy⟩ : ∃ y : Nat, y = i % 2048 := ⟨_, rfl⟩
    rw [← hy] at ei
    by_cases h0 : y = 0
    · have q : (((y : Nat) : Int) == 0) = true := by simpa using h0
      obtain rfl : i = R := by omega
      go_wp2
      go_ret
      exact ⟨rfl, rfl⟩
    · have q : (((y : Nat) : Int) == 0) = false := by simpa using h0
      have hne : i < R := by omega
      go_wp2
      go_roundw
      case rel => exact ⟨i + 1, by omega, by omega, by go_num, trivial⟩
      case measure => simp [intOf]; omega
theorem roundedUp_4096 (n : Nat) (h : n ≤ 1099511627776) (w : World) : Calls Try.prog 60 #[.int .i64 (n : Nat), .int .i64 4096] w fun e w' => e = .returned (.int .i64 (ru n 4096 : Nat)) ∧ w' = w := by
  have q1 : (((n : Nat) : Int) + 4096 - 1).tdiv 4096 = (((n + 4095) / 4096 : Nat) : Int) := by
    rw [Int.tdiv_eq_ediv_of_nonneg (by omega)]
    omega
  obtain ⟨x, hx⟩ : ∃ x : Nat, x = (n + 4095) / 4096 := ⟨_, rfl⟩
  rw [← hx] at q1
  have hxb : x ≤ 1099511627776 := by omega
  have hr : ru n 4096 = x * 4096 := by rw [ru, hx]
  rw [hr]
  clear hr hx
  go_enter Try.func60, Try.ntmps60
  go_wp2
  go_ret
  exact ⟨by simp, rfl⟩
theorem whole_4096 (n : Nat) (h : n ≤ 1099511627776) (w : World) : Calls Try.prog 62 #[.int .i64 (n : Nat), .int .i64 4096] w fun e w' => e = .returned (.int .i64 (ru n 4096 : Nat)) ∧ w' = w := by
  obtain ⟨R, hR⟩ : ∃ R : Nat, R = ru n 4096 := ⟨_, rfl⟩
  have r1 : n ≤ R := by rw [hR, ru]; omega
  have r2 : R < n + 4096 := by rw [hR, ru]; omega
  have r3 : R % 4096 = 0 := by rw [hR, ru]; omega
  rw [← hR]
  clear hR
  go_enter Try.func62, Try.ntmps62
  go_wp2
  go_loopw [0] (fun vi wr => ∃ i : Nat, n ≤ i ∧ i ≤ R ∧ vi = .int .i64 (i : Nat) ∧ wr = w) (fun vi _ => R - (intOf vi).toNat)
  case atStart => exact ⟨n, Nat.le_refl _, r1, rfl, rfl⟩
  case round =>
    obtain ⟨i, hi1, hi2, rfl, hw⟩ := hrel
    obtain rfl := hw.symm
    have ei : ((i : Nat) : Int).tmod 4096 = ((i % 4096 : Nat) : Int) := by
      rw [Int.tmod_eq_emod_of_nonneg (by omega)]
      omega
    obtain ⟨y, hy⟩ : ∃ y : Nat, y = i % 4096 := ⟨_, rfl⟩
    rw [← hy] at ei
    by_cases h0 : y = 0
    · have q : (((y : Nat) : Int) == 0) = true := by simpa using h0
      obtain rfl : i = R := by omega
      go_wp2
      go_ret
      exact ⟨rfl, rfl⟩
    · have q : (((y : Nat) : Int) == 0) = false := by simpa using h0
      have hne : i < R := by omega
      go_wp2
      go_roundw
      case rel => exact ⟨i + 1, by omega, by omega, by go_num, trivial⟩
      case measure => simp [intOf]; omega
def isU (s : Nat) : Prop := s = 512 ∨ s = 1024 ∨ s = 2048 ∨ s = 4096
theorem roundedUp_ok (n s : Nat) (hs : isU s) (h : n ≤ 1099511627776) (w : World) : Calls Try.prog 60 #[.int .i64 (n : Nat), .int .i64 (s : Nat)] w fun e w' => e = .returned (.int .i64 (ru n s : Nat)) ∧ w' = w := by
  rcases hs with rfl | rfl | rfl | rfl
  · exact roundedUp_512 n h w
  · exact roundedUp_1024 n h w
  · exact roundedUp_2048 n h w
  · exact roundedUp_4096 n h w
theorem whole_ok (n s : Nat) (hs : isU s) (h : n ≤ 1099511627776) (w : World) : Calls Try.prog 62 #[.int .i64 (n : Nat), .int .i64 (s : Nat)] w fun e w' => e = .returned (.int .i64 (ru n s : Nat)) ∧ w' = w := by
  rcases hs with rfl | rfl | rfl | rfl
  · exact whole_512 n h w
  · exact whole_1024 n h w
  · exact whole_2048 n h w
  · exact whole_4096 n h w
theorem ru_le (n s : Nat) (hs : isU s) : ru n s ≤ n + 4095 := by
  rcases hs with rfl | rfl | rfl | rfl <;> (unfold ru; omega)
def nd (u : Nat) (m : Int) (h : Nat) : Nat := if m = 2 then h * 32 else h * u
theorem nd_le {u : Nat} (hu : isU u) (m : Int) {h : Nat} (hh : h ≤ 4096) : nd u m h ≤ 16777216 := by
  unfold nd
  rcases hu with rfl | rfl | rfl | rfl <;> (split <;> omega)
theorem sumSize_ok (u : Nat) (hu : isU u) (m : Int) (h : Nat) (hh : h ≤ 4096) (w : World) : Calls Try.prog 68 #[.int .i64 (u : Nat), .int .i64 m, .int .u64 (h : Nat)] w fun e w' => e = .returned (.int .i64 (nd u m h : Nat)) ∧ w' = w := by
  unfold nd
  by_cases c : m = 2
  · subst c
    rw [if_pos rfl]
    go_enter Try.func68, Try.ntmps68
    go_wp2
    go_ret
    exact ⟨by simp, rfl⟩
  · rw [if_neg c]
    have q : (m == 2) = false := by simpa using c
    rcases hu with rfl | rfl | rfl | rfl
    all_goals
      go_enter Try.func68, Try.ntmps68
      go_wp2
      go_ret
      exact ⟨by simp, rfl⟩
theorem needs_ok (u : Nat) (hu : isU u) (m : Int) (hm : modeB m = true) (h : Nat) (hh : h ≤ 4096) (w : World) : Calls Try.prog 63 #[.int .i64 (u : Nat), .int .i64 m, .int .u64 (h : Nat)] w fun e w' => e = .returned (.int .i64 (nd u m h : Nat)) ∧ w' = w := by
  have hm' : m = 1 ∨ m = 2 := by simpa [modeB] using hm
  unfold nd
  rcases hm' with rfl | rfl
  · rw [if_neg (by omega)]
    rcases hu with rfl | rfl | rfl | rfl
    all_goals
      go_enter Try.func63, Try.ntmps63
      go_wp2
      go_ret
      exact ⟨by simp, rfl⟩
  · rw [if_pos rfl]
    go_enter Try.func63, Try.ntmps63
    go_wp2
    go_ret
    exact ⟨by simp, rfl⟩
theorem jSize_ok (u : Nat) (hu : isU u) (m : Int) (h : Nat) (hh : h ≤ 4096) (w : World) : Calls Try.prog 61 #[.int .i64 (u : Nat), .int .i64 m, .int .u64 (h : Nat)] w fun e w' => e = .returned (.int .i64 (ru (nd u m h) u : Nat)) ∧ w' = w := by
  have HA : Hid (∀ v, Calls Try.prog 68 #[.int .i64 (u : Nat), .int .i64 m, .int .u64 (h : Nat)] v fun e w' => e = .returned (.int .i64 (nd u m h : Nat)) ∧ w' = v) := fun v => sumSize_ok u hu m h hh v
  have HB : Hid (∀ v, Calls Try.prog 60 #[.int .i64 (nd u m h : Nat), .int .i64 (u : Nat)] v fun e w' => e = .returned (.int .i64 (ru (nd u m h) u : Nat)) ∧ w' = v) := fun v => roundedUp_ok _ u hu (by have := nd_le hu m hh; omega) v
  generalize ru (nd u m h) u = y at *
  generalize nd u m h = x at *
  clear hu hh
  go_enter Try.func61, Try.ntmps61
  go_wp2_with first | (go_at_call 68; refine (HA.out _).mono ?_; rintro e5 w5 ⟨rfl, hw5⟩; obtain rfl := hw5.symm) | (go_at_call 60; refine (HB.out _).mono ?_; rintro e6 w6 ⟨rfl, hw6⟩; obtain rfl := hw6.symm)
  go_ret
  exact ⟨rfl, rfl⟩
def roomG (u m : Int) (h : Nat) : Bool := unitB u && modeB m && hotB h
def roomF (u m : Int) (h : Nat) : Nat := if roomG u m h then ru (ru (nd u.toNat m h) u.toNat) 4096 else 0
def roomE (u m : Int) (h : Nat) : Int := if roomG u m h then 0 else 2
theorem unitB_isU {u : Int} (h : unitB u = true) : ∃ n : Nat, u = n ∧ isU n := by
  rcases unitB_cases h with rfl | rfl | rfl | rfl
  · exact ⟨512, rfl, .inl rfl⟩
  · exact ⟨1024, rfl, .inr (.inl rfl)⟩
  · exact ⟨2048, rfl, .inr (.inr (.inl rfl))⟩
  · exact ⟨4096, rfl, .inr (.inr (.inr rfl))⟩
theorem room_ok (u m : Int) (h : Nat) (w : World) : Calls Try.prog 35 #[.int .i64 u, .int .i64 m, .int .u64 (h : Nat)] w fun e w' => e = .returned (.tuple #[.int .i64 (roomF u m h : Nat), .int .i64 (roomE u m h)]) ∧ w' = w := by
  have H1 : Hid (∀ v, Calls Try.prog 41 #[.int .i64 u] v fun e w' => e = .returned (.bool (unitB u)) ∧ w' = v) := fun v => isUnit_ok u v
  have H2 : Hid (∀ v, Calls Try.prog 58 #[.int .i64 m] v fun e w' => e = .returned (.bool (modeB m)) ∧ w' = v) := fun v => isMode_ok m v
  have H3 : Hid (∀ v, Calls Try.prog 59 #[.int .u64 (h : Nat)] v fun e w' => e = .returned (.bool (hotB h)) ∧ w' = v) := fun v => isHot_ok h v
  cases h1 : unitB u with
  | false =>
    rw [h1] at H1
    have e1 : roomF u m h = 0 := by simp [roomF, roomG, h1]
    have e2 : roomE u m h = 2 := by simp [roomE, roomG, h1]
    rw [e1, e2]
    go_enter Try.func35, Try.ntmps35
    go_wp2_with (go_at_call 41; refine (H1.out _).mono ?_; rintro e5 w5 ⟨rfl, hw5⟩; obtain rfl := hw5.symm)
    go_ret2
    exact ⟨rfl, rfl⟩
  | true =>
  cases h2 : modeB m with
  | false =>
    rw [h1] at H1
    rw [h2] at H2
    have e1 : roomF u m h = 0 := by simp [roomF, roomG, h2]
    have e2 : roomE u m h = 2 := by simp [roomE, roomG, h2]
    rw [e1, e2]
    go_enter Try.func35, Try.ntmps35
    go_wp2_with first | (go_at_call 41; refine (H1.out _).mono ?_; rintro e5 w5 ⟨rfl, hw5⟩; obtain rfl := hw5.symm) | (go_at_call 58; refine (H2.out _).mono ?_; rintro e6 w6 ⟨rfl, hw6⟩; obtain rfl := hw6.symm)
    go_ret2
    exact ⟨rfl, rfl⟩
  | true =>
  cases h3 : hotB h with
  | false =>
    rw [h1] at H1
    rw [h2] at H2
    rw [h3] at H3
    have e1 : roomF u m h = 0 := by simp [roomF, roomG, h3]
    have e2 : roomE u m h = 2 := by simp [roomE, roomG, h3]
    rw [e1, e2]
    go_enter Try.func35, Try.ntmps35
    go_wp2_with first | (go_at_call 41; refine (H1.out _).mono ?_; rintro e5 w5 ⟨rfl, hw5⟩; obtain rfl := hw5.symm) | (go_at_call 58; refine (H2.out _).mono ?_; rintro e6 w6 ⟨rfl, hw6⟩; obtain rfl := hw6.symm) | (go_at_call 59; refine (H3.out _).mono ?_; rintro e7 w7 ⟨rfl, hw7⟩; obtain rfl := hw7.symm)
    go_ret2
    exact ⟨rfl, rfl⟩
  | true =>
    rw [h1] at H1
    rw [h2] at H2
    rw [h3] at H3
    have hh : h ≤ 4096 := by simp [hotB] at h3; omega
    obtain ⟨n, rfl, hn⟩ := unitB_isU h1
    have e1 : roomF n m h = ru (ru (nd n m h) n) 4096 := by simp [roomF, roomG, h1, h2, h3]
    have e2 : roomE n m h = 0 := by simp [roomE, roomG, h1, h2, h3]
    rw [e1, e2]
    have l1 := nd_le hn m hh
    have l2 := ru_le (nd n m h) n hn
    have H4 : Hid (∀ v, Calls Try.prog 61 #[.int .i64 (n : Nat), .int .i64 m, .int .u64 (h : Nat)] v fun e w' => e = .returned (.int .i64 (ru (nd n m h) n : Nat)) ∧ w' = v) := fun v => jSize_ok n hn m h hh v
    have H5 : Hid (∀ v, Calls Try.prog 60 #[.int .i64 (ru (nd n m h) n : Nat), .int .i64 4096] v fun e w' => e = .returned (.int .i64 (ru (ru (nd n m h) n) 4096 : Nat)) ∧ w' = v) := fun v => roundedUp_4096 _ (by omega) v
    generalize ru (ru (nd n m h) n) 4096 = z at *
    generalize ru (nd n m h) n = y at *
    clear e1 e2 l1 l2 hh hn h1 h2 h3
    go_enter Try.func35, Try.ntmps35
    go_wp2_with first | (go_at_call 41; refine (H1.out _).mono ?_; rintro e5 w5 ⟨rfl, hw5⟩; obtain rfl := hw5.symm) | (go_at_call 58; refine (H2.out _).mono ?_; rintro e6 w6 ⟨rfl, hw6⟩; obtain rfl := hw6.symm) | (go_at_call 59; refine (H3.out _).mono ?_; rintro e7 w7 ⟨rfl, hw7⟩; obtain rfl := hw7.symm) | (go_at_call 61; refine (H4.out _).mono ?_; rintro e8 w8 ⟨rfl, hw8⟩; obtain rfl := hw8.symm) | (go_at_call 60; refine (H5.out _).mono ?_; rintro e9 w9 ⟨rfl, hw9⟩; obtain rfl := hw9.symm)
    go_ret2
    exact ⟨rfl, rfl⟩
theorem rroom_ok (u m : Int) (h : Nat) (w : World) : Calls Try.prog 36 #[.int .i64 u, .int .i64 m, .int .u64 (h : Nat)] w fun e w' => e = .returned (.tuple #[.int .i64 (roomF u m h : Nat), .int .i64 (roomE u m h)]) ∧ w' = w := by
  have H1 : Hid (∀ v, Calls Try.prog 55 #[.int .i64 u] v fun e w' => e = .returned (.bool (unitB u)) ∧ w' = v) := fun v => runit_ok u v
  cases h1 : unitB u with
  | false =>
    rw [h1] at H1
    have e1 : roomF u m h = 0 := by simp [roomF, roomG, h1]
    have e2 : roomE u m h = 2 := by simp [roomE, roomG, h1]
    rw [e1, e2]
    go_enter Try.func36, Try.ntmps36
    go_wp2_with (go_at_call 55; refine (H1.out _).mono ?_; rintro e5 w5 ⟨rfl, hw5⟩; obtain rfl := hw5.symm)
    go_ret2
    exact ⟨rfl, rfl⟩
  | true =>
  rw [h1] at H1
  cases h2 : modeB m with
  | false =>
    have e1 : roomF u m h = 0 := by simp [roomF, roomG, h2]
    have e2 : roomE u m h = 2 := by simp [roomE, roomG, h2]
    rw [e1, e2]
    simp [modeB] at h2
    have q1 : (m == 1) = false := by simpa using h2.1
    have q2 : (m == 2) = false := by simpa using h2.2
    go_enter Try.func36, Try.ntmps36
    go_wp2_with (go_at_call 55; refine (H1.out _).mono ?_; rintro e5 w5 ⟨rfl, hw5⟩; obtain rfl := hw5.symm)
    go_ret2
    exact ⟨rfl, rfl⟩
  | true =>
  have hm' : m = 1 ∨ m = 2 := by simpa [modeB] using h2
  cases h3 : hotB h with
  | false =>
    have e1 : roomF u m h = 0 := by simp [roomF, roomG, h3]
    have e2 : roomE u m h = 2 := by simp [roomE, roomG, h3]
    rw [e1, e2]
    have h3' : h < 1 ∨ 4096 < h := by simp [hotB] at h3; omega
    by_cases c : h < 1
    · have q1 : decide (((h : Nat) : Int) < 1) = true := by simp; omega
      clear h3' h3
      rcases hm' with rfl | rfl
      all_goals
        go_enter Try.func36, Try.ntmps36
        go_wp2_with (go_at_call 55; refine (H1.out _).mono ?_; rintro e5 w5 ⟨rfl, hw5⟩; obtain rfl := hw5.symm)
        go_ret2
        exact ⟨rfl, rfl⟩
    · have q1 : decide (((h : Nat) : Int) < 1) = false := by simp; omega
      have q2 : decide ((4096 : Int) < (h : Nat)) = true := by simp; omega
      clear h3' h3
      rcases hm' with rfl | rfl
      all_goals
        go_enter Try.func36, Try.ntmps36
        go_wp2_with (go_at_call 55; refine (H1.out _).mono ?_; rintro e5 w5 ⟨rfl, hw5⟩; obtain rfl := hw5.symm)
        go_ret2
        exact ⟨rfl, rfl⟩
  | true =>
    have hh : 1 ≤ h ∧ h ≤ 4096 := by simp [hotB] at h3; omega
    have q1 : decide (((h : Nat) : Int) < 1) = false := by simp; omega
    have q2 : decide ((4096 : Int) < (h : Nat)) = false := by simp; omega
    obtain ⟨n, rfl, hn⟩ := unitB_isU h1
    have e1 : roomF n m h = ru (ru (nd n m h) n) 4096 := by simp [roomF, roomG, h1, h2, h3]
    have e2 : roomE n m h = 0 := by simp [roomE, roomG, h1, h2, h3]
    rw [e1, e2]
    have l1 := nd_le hn m hh.2
    have l2 := ru_le (nd n m h) n hn
    have H4 : Hid (∀ v, Calls Try.prog 63 #[.int .i64 (n : Nat), .int .i64 m, .int .u64 (h : Nat)] v fun e w' => e = .returned (.int .i64 (nd n m h : Nat)) ∧ w' = v) := fun v => needs_ok n hn m h2 h hh.2 v
    have H5 : Hid (∀ v, Calls Try.prog 62 #[.int .i64 (nd n m h : Nat), .int .i64 (n : Nat)] v fun e w' => e = .returned (.int .i64 (ru (nd n m h) n : Nat)) ∧ w' = v) := fun v => whole_ok _ n hn (by omega) v
    have H6 : Hid (∀ v, Calls Try.prog 62 #[.int .i64 (ru (nd n m h) n : Nat), .int .i64 4096] v fun e w' => e = .returned (.int .i64 (ru (ru (nd n m h) n) 4096 : Nat)) ∧ w' = v) := fun v => whole_4096 _ (by omega) v
    generalize ru (ru (nd n m h) n) 4096 = z at *
    generalize ru (nd n m h) n = y at *
    generalize nd n m h = x at *
    clear e1 e2 l1 l2 hh hn h1 h2 h3
    rcases hm' with rfl | rfl
    all_goals
      go_enter Try.func36, Try.ntmps36
      go_upto_region 4 with first | (go_at_call 55; refine (H1.out _).mono ?_; rintro e5 w5 ⟨rfl, hw5⟩; obtain rfl := hw5.symm) | (go_at_call 63; refine (H4.out _).mono ?_; rintro e6 w6 ⟨rfl, hw6⟩; obtain rfl := hw6.symm) | (go_at_call 62; refine (H5.out _).mono ?_; rintro e8 w8 ⟨rfl, hw8⟩; obtain rfl := hw8.symm)
      go_wp2_with (go_at_call 62; refine (H6.out _).mono ?_; rintro e7 w7 ⟨rfl, hw7⟩; obtain rfl := hw7.symm)
      go_ret2
      exact ⟨rfl, rfl⟩
theorem num_ok (x : Int) (w : World) : Calls Try.prog 9 #[.int .i64 x] w fun e w' => e = .returned (.int .i64 x) ∧ w' = w := by
  go_enter Try.func9, Try.ntmps9
  go_wp2
  go_ret
  exact ⟨rfl, rfl⟩
theorem room_512 (w : World) : Calls Try.prog 35 #[.int .i64 512, .int .i64 1, .int .u64 2] w fun e w' => e = .returned (.tuple #[.int .i64 4096, .int .i64 0]) ∧ w' = w := by
  have q := room_ok 512 1 2 w
  have e1 : roomF 512 1 2 = 4096 := by decide
  have e2 : roomE 512 1 2 = 0 := by decide
  rw [e1, e2] at q
  exact q
theorem rooms_ok (u m : Int) (h : Nat) (w : World) : Calls Try.prog 13 #[.int .i64 u, .int .i64 m, .int .u64 (h : Nat)] w fun e w' => e = .returned (.bool true) ∧ w' = w := by
  have H1 : Hid (∀ v, Calls Try.prog 35 #[.int .i64 u, .int .i64 m, .int .u64 (h : Nat)] v fun e w' => e = .returned (.tuple #[.int .i64 (roomF u m h : Nat), .int .i64 (roomE u m h)]) ∧ w' = v) := fun v => room_ok u m h v
  have H2 : Hid (∀ v, Calls Try.prog 36 #[.int .i64 u, .int .i64 m, .int .u64 (h : Nat)] v fun e w' => e = .returned (.tuple #[.int .i64 (roomF u m h : Nat), .int .i64 (roomE u m h)]) ∧ w' = v) := fun v => rroom_ok u m h v
  generalize roomF u m h = x at *
  generalize roomE u m h = y at *
  go_enter Try.func13, Try.ntmps13
  go_upto_region 3 with first | (go_at_call 36; refine (H2.out _).mono ?_; rintro e5 w5 ⟨rfl, hw5⟩; obtain rfl := hw5.symm) | (go_at_call 35; refine (H1.out _).mono ?_; rintro e7 w7 ⟨rfl, hw7⟩; obtain rfl := hw7.symm)
  go_wp2_with first | (go_at_call 35; refine (room_512 _).mono ?_; rintro e6 w6 ⟨rfl, hw6⟩; obtain rfl := hw6.symm) | (go_at_call 9; refine (num_ok _ _).mono ?_; rintro e8 w8 ⟨rfl, hw8⟩; obtain rfl := hw8.symm)
  go_ret
  exact ⟨rfl, rfl⟩
end Go.Proofs.Ytmfnhdflmnmooaa
