import Derived.Test.YtmfnhdflmnmooaaRvo
import Derived.Deep.RegionHeld3
import Derived.Great.BuildSlice
import Derived.Maps.AppendAt
namespace Go.Proofs.Ytmfnhdflmnmooaa
open Go.RowKit
set_option linter.unusedVariables false
set_option linter.unusedSimpArgs false
variable {P : Program} {md : Region.Mode} {ops : Array Oper} {Q : Exit → Act → World → Prop} {S : World → Prop}
theorem takeH_at (i d : Nat) (v : Value) {oi : Oper} {fuel : Nat} {listed : Array Bool} {tmps : Array Value} {ds : List Deferred} {w : World} (hi : ops[i]? = some oi) (hd : oi.dst = some d)
    (hs : Region.noSelect ops = true) (hf : Region.free md ops listed i = true) (hr : (Region.ready md ops listed).contains i = true)
    (hQ : ∀ c a w, Q (.panic c) (a.put oi.dst v) w → Q (.panic c) a w) (hS : S w) (hy : YieldsIf P ops S oi v ⟨tmps, ds⟩)
    (h : wpAnyH P md ops Q S fuel (listed.setIfInBounds i true) ⟨tmps.setIfInBounds d v, ds⟩ w) : wpAnyH P md ops Q S (fuel + 1) listed ⟨tmps, ds⟩ w := by
  refine wpAnyH_take hi hs hf hr hQ hy hS ?_
  rw [hd]
  exact h
/-- Every old block but n is as it was. -/
structure Stay (n : Nat) (W u : World) : Prop where
  os : u.os = W.os
  tape : u.tape = W.tape
  output : u.output = W.output
  size : W.heap.size ≤ u.heap.size
  block : ∀ k, k < W.heap.size → k ≠ n → u.heap[k]? = W.heap[k]?
theorem Stay.refl (n : Nat) (W : World) : Stay n W W := ⟨rfl, rfl, rfl, Nat.le_refl _, fun _ _ _ => rfl⟩
theorem Stay.of {n : Nat} {W u : World} (h : Below W.heap.size W u) : Stay n W u := ⟨h.os, h.tape, h.output, h.size, fun k hk _ => h.block k hk⟩
theorem Stay.trans {n : Nat} {a b c : World} (h : Stay n a b) (k : Stay n b c) : Stay n a c :=
  ⟨k.os.trans h.os, k.tape.trans h.tape, k.output.trans h.output, Nat.le_trans h.size k.size, fun i hi hn => (k.block i (Nat.lt_of_lt_of_le hi h.size) hn).trans (h.block i hi hn)⟩
theorem Stay.set {n : Nat} {W u : World} (h : Stay n W u) (o : Nat) (v : Value) : Stay n W (u.setCell ⟨n, o, none⟩ v) :=
  h.trans ⟨rfl, rfl, rfl, by simp [World.setCell], fun k hk hn => Below.heap_setCell _ _ _ _ hn⟩
theorem Stay.cell {n : Nat} {W u : World} (h : Stay n W u) {b o : Nat} (hb : b < W.heap.size) (hn : b ≠ n) : u.cell? ⟨b, o, none⟩ = W.cell? ⟨b, o, none⟩ := World.cell?_of_block (w := W) (h.block b hb hn)
theorem Stay.below {n B : Nat} {W u : World} (h : Stay n W u) (hB : B ≤ n) (hs : B ≤ W.heap.size) : Below B W u := ⟨h.os, h.tape, h.output, h.size, fun k hk => h.block k (by omega) (by omega)⟩
theorem RV.stay {α : Type} {L : α → List Value} {sz : Nat} {w w' : World} {p : Option Addr} {l : List α} (h : RV L sz w p l) {n : Nat} (hB : Stay n w w') (hp : ∀ b o, p = some ⟨b, o, none⟩ → b ≠ n) : RV L sz w' p l := by
  rcases h with h | ⟨b, off, hp', hb, hc⟩
  · exact .inl h
  · exact .inr ⟨b, off, hp', Nat.lt_of_lt_of_le hb hB.size, fun i x hx j u hu => (hB.cell hb (hp b off hp')).trans (hc i x hx j u hu)⟩
theorem Mk.stay {w w' : World} {p : Option Addr} {n c sz : Nat} {v : Value} (h : Mk w p n c sz v) {k : Nat} (hB : Stay k w w') (hp : ∀ b o, p = some ⟨b, o, none⟩ → b < w.heap.size ∧ b ≠ k) : Mk w' p n c sz v := by
  obtain ⟨g, hp', h1, h2, h3⟩ := h
  have q := hp g 0 hp'
  exact ⟨g, hp', h1, h2, (hB.cell q.1 q.2).trans h3⟩
theorem flat_split {α : Type} (L : α → List Value) (sz : Nat) (hL : ∀ x, (L x).length = sz) : ∀ (l : List α) (j : Nat) (u : Value), (l.flatMap L)[j]? = some u → ∃ i x r, l[i]? = some x ∧ (L x)[r]? = some u ∧ j = i * sz + r := by
  intro l
  induction l with
  | nil => intro j u h; simp at h
  | cons y l ih =>
    intro j u h
    rw [List.flatMap_cons] at h
    by_cases hj : j < sz
    · rw [List.getElem?_append_left (by rw [hL]; exact hj)] at h
      exact ⟨0, y, j, rfl, h, by simp⟩
    · rw [List.getElem?_append_right (by rw [hL]; omega), hL] at h
      obtain ⟨i, x, r, h1, h2, h3⟩ := ih _ u h
      refine ⟨i + 1, x, r, by simpa using h1, h2, ?_⟩
      rw [Nat.succ_mul]
      omega
theorem flat_one {α : Type} (L : α → List Value) (h1 : ∀ x, ∀ u ∈ L x, u.oneCell' = true) (l : List α) : ∀ u ∈ l.flatMap L, u.oneCell' = true := by
  intro u hu
  obtain ⟨x, _, hx⟩ := List.mem_flatMap.1 hu
  exact h1 x u hx
section
variable {α : Type} {L : α → List Value}
/-- append of a list of structs that lies anywhere to a row that the call owns. -/
theorem run_append_rv (w : World) (t ty e : TypeId) (i : TypeInfo) (z : Value) (size bytes : Nat) (ht : P.underlying t = some (.slice e)) (hi : P.info? e = some i) (hz : i.zero = some z)
    (hsize : i.size = size) (hby : i.bytes = bytes) (hzs : z.cells.size = size) (hsz : 0 < size) (hL : ∀ x, (L x).length = size) (h1 : ∀ x, ∀ u ∈ L x, u.oneCell' = true)
    (base g0 n c0 : Nat) (xs : List Value) (hown : w.ownsRow base e size (.slice (some ⟨g0, 0, none⟩) n c0) n xs) (p : Option Addr) (m c : Nat) (l : List α) (hl : l.length = m) (hrv : RV L size w p l) (hn : p = none → c = 0)
    (h63 : n + m ≤ maxLen) (hbytes : (n + m) * bytes ≤ 140737488355328) (hbase : base ≤ w.heap.size) :
    ∃ g cap w', (Builtin.append_ #[t, t] ty #[.slice (some ⟨g0, 0, none⟩) n c0, .slice p m c]).run P w = .ok (.slice (some ⟨g, 0, none⟩) (n + m) cap) w' ∧
      w'.ownsRow base e size (.slice (some ⟨g, 0, none⟩) (n + m) cap) (n + m) (xs ++ l.flatMap L) ∧ w.grownBy w' (some g0) ∧ (g = g0 ∨ g = w.heap.size) := by
  cases p with
  | none =>
    have h0 : l = [] := by
      rcases hrv with h | ⟨b, off, h, _⟩
      · exact h
      · cases h
    subst h0
    have hm : m = 0 := by simpa using hl.symm
    subst hm
    have hc := hn rfl
    subst hc
    refine ⟨g0, c0, w, run_append_owned_none (P := P) (w := w) base t ty e i size ht hi _ n xs hown, by simpa using hown, ⟨rfl, rfl, rfl, Nat.le_refl _, fun _ _ _ => rfl⟩, .inl rfl⟩
  | some ad =>
    obtain ⟨v', w', hr, h2, h3, h4, h5⟩ := run_append_own_at (P := P) w base t ty e i z size bytes ht hi hz hsize hby hzs hsz (.slice (some ⟨g0, 0, none⟩) n c0) n xs hown ad m c (l.flatMap L) (by rw [flat_len L size hL, hl]) (by
      intro j u hj
      obtain ⟨i, x, r, q1, q2, q3⟩ := flat_split L size hL l j u hj
      rcases hrv with h | ⟨b, off, h, _, hc⟩
      · subst h; simp at q1
      · simp only [Option.some.injEq] at h
        subst h
        have := hc i x q1 r u q2
        rw [Addr.add_mid, q3]
        rw [← Nat.add_assoc]
        exact this) (flat_one L h1 l) h63 hbytes hbase
    rcases h2.2 with ⟨h, _⟩ | ⟨g, cap, cur, rfl, _⟩
    · have := h4.1 h
      simp at this
    · refine ⟨g, cap, w', hr, h2, h3, ?_⟩
      rcases h5 with h5 | h5
      · left; simpa [Value.ownBlock] using h5
      · right; simpa [Value.ownBlock] using h5
theorem wp_append_rv {w : World} {o : Oper} {a : Act} {K : Act → World → Prop} {Q : Exit → Act → World → Prop} (s x : Operand) (t : TypeId)
    (ho : o.op = .call { callee := .builtin .append, args := #[s, x], argTypes := #[t, t] }) (e : TypeId) (i : TypeInfo) (z : Value) (size bytes : Nat) (ht : P.underlying t = some (.slice e)) (hi : P.info? e = some i) (hz : i.zero = some z)
    (hsize : i.size = size) (hby : i.bytes = bytes) (hzs : z.cells.size = size) (hsz : 0 < size) (hL : ∀ x, (L x).length = size) (h1 : ∀ x, ∀ u ∈ L x, u.oneCell' = true)
    (base g0 n c0 : Nat) (xs : List Value) (hs : a.eval s = .slice (some ⟨g0, 0, none⟩) n c0) (hown : w.ownsRow base e size (.slice (some ⟨g0, 0, none⟩) n c0) n xs) (p : Option Addr) (m c : Nat) (l : List α) (hx : a.eval x = .slice p m c) (hl : l.length = m) (hrv : RV L size w p l) (hn : p = none → c = 0)
    (h63 : n + m ≤ maxLen) (hbytes : (n + m) * bytes ≤ 140737488355328) (hbase : base ≤ w.heap.size)
    (h : ∀ g cap w', w'.ownsRow base e size (.slice (some ⟨g, 0, none⟩) (n + m) cap) (n + m) (xs ++ l.flatMap L) → w.grownBy w' (some g0) → (g = g0 ∨ g = w.heap.size) → K (a.put o.dst (.slice (some ⟨g, 0, none⟩) (n + m) cap)) w') : o.wp P a w K Q := by
  obtain ⟨g, cap, w', hr, h2, h3, h4⟩ := run_append_rv (P := P) w t o.type e i z size bytes ht hi hz hsize hby hzs hsz hL h1 base g0 n c0 xs hown p m c l hl hrv hn h63 hbytes hbase
  unfold Oper.wp execOp
  simp only [ho, resolve, invoke, builtin, Sem.run_bind, Sem.run_pure, Result.andThen_ok, List.map_toArray, List.map_cons, List.map_nil, hs, hx, hr]
  exact h g cap w' h2 h3 h4
theorem step_append_rv {w : World} {o : Oper} {a : Act} {K : Act → World → Prop} {Q : Exit → Act → World → Prop} {E : Prop} (hgd : o.guard = none) (d : Nat) (hd : o.dst = some d) (s x : Operand) (t : TypeId)
    (ho : o.op = .call { callee := .builtin .append, args := #[s, x], argTypes := #[t, t] }) (e : TypeId) (i : TypeInfo) (z : Value) (size bytes : Nat) (ht : P.underlying t = some (.slice e)) (hi : P.info? e = some i) (hz : i.zero = some z)
    (hsize : i.size = size) (hby : i.bytes = bytes) (hzs : z.cells.size = size) (hsz : 0 < size) (hL : ∀ x, (L x).length = size) (h1 : ∀ x, ∀ u ∈ L x, u.oneCell' = true)
    (base g0 n c0 : Nat) (xs : List Value) (hs : a.eval s = .slice (some ⟨g0, 0, none⟩) n c0) (hown : w.ownsRow base e size (.slice (some ⟨g0, 0, none⟩) n c0) n xs) (p : Option Addr) (m c : Nat) (l : List α) (hx : a.eval x = .slice p m c) (hl : l.length = m) (hrv : RV L size w p l) (hn : p = none → c = 0)
    (h63 : n + m ≤ maxLen) (hbytes : (n + m) * bytes ≤ 140737488355328) (hbase : base ≤ w.heap.size)
    (h : ∀ g cap w', w'.ownsRow base e size (.slice (some ⟨g, 0, none⟩) (n + m) cap) (n + m) (xs ++ l.flatMap L) → w.grownBy w' (some g0) → (g = g0 ∨ g = w.heap.size) → K (a.put (some d) (.slice (some ⟨g, 0, none⟩) (n + m) cap)) w') :
    if Region.wanted o (yielded ops a.tmps) = true then Oper.wp P o a w K Q else E := by
  have hw : Region.wanted o (yielded ops a.tmps) = true := by simp [Region.wanted, hgd]
  rw [if_pos hw]
  rw [← hd] at h
  exact wp_append_rv s x t ho e i z size bytes ht hi hz hsize hby hzs hsz hL h1 base g0 n c0 xs hs hown p m c l hx hl hrv hn h63 hbytes hbase h
theorem wpList_append_rv {w : World} {rest : List Oper} {o : Oper} {a : Act} {Q : Exit → Act → World → Prop} (hgd : o.guard = none) (s x : Operand) (t : TypeId)
    (ho : o.op = .call { callee := .builtin .append, args := #[s, x], argTypes := #[t, t] }) (e : TypeId) (i : TypeInfo) (z : Value) (size bytes : Nat) (ht : P.underlying t = some (.slice e)) (hi : P.info? e = some i) (hz : i.zero = some z)
    (hsize : i.size = size) (hby : i.bytes = bytes) (hzs : z.cells.size = size) (hsz : 0 < size) (hL : ∀ x, (L x).length = size) (h1 : ∀ x, ∀ u ∈ L x, u.oneCell' = true)
    (base g0 n c0 : Nat) (xs : List Value) (hs : a.eval s = .slice (some ⟨g0, 0, none⟩) n c0) (hown : w.ownsRow base e size (.slice (some ⟨g0, 0, none⟩) n c0) n xs) (p : Option Addr) (m c : Nat) (l : List α) (hx : a.eval x = .slice p m c) (hl : l.length = m) (hrv : RV L size w p l) (hn : p = none → c = 0)
    (h63 : n + m ≤ maxLen) (hbytes : (n + m) * bytes ≤ 140737488355328) (hbase : base ≤ w.heap.size)
    (h : ∀ g cap w', w'.ownsRow base e size (.slice (some ⟨g, 0, none⟩) (n + m) cap) (n + m) (xs ++ l.flatMap L) → w.grownBy w' (some g0) → (g = g0 ∨ g = w.heap.size) → wpList P ops Q rest (a.put o.dst (.slice (some ⟨g, 0, none⟩) (n + m) cap)) w') : wpList P ops Q (o :: rest) a w :=
  wpList_plain hgd fun _ hK => wp_append_rv s x t ho e i z size bytes ht hi hz hsize hby hzs hsz hL h1 base g0 n c0 xs hs hown p m c l hx hl hrv hn h63 hbytes hbase fun g cap w' h2 h3 h4 => hK _ _ (h g cap w' h2 h3 h4)
end
/-- A block that a literal made. -/
theorem rv_block {α : Type} {L : α → List Value} {sz : Nat} {w : World} {b e : Nat} {x : α} (h : w.heap[b]? = some (.cells (L x).toArray e (0, 0))) : RV L sz w (some ⟨b, 0, none⟩) [x] := by
  refine .inr ⟨b, 0, rfl, (Array.getElem?_eq_some_iff.1 h).1, fun i y hy j u hu => ?_⟩
  cases i with
  | zero =>
    simp at hy
    subst hy
    simp only [World.cell?]
    rw [h]
    simpa using hu
  | succ k => simp at hy
theorem step_bs {o : Oper} {a : Act} {w : World} {K : Act → World → Prop} {Q : Exit → Act → World → Prop} {E : Prop} (hgd : o.guard = none) (d : Nat) (hd : o.dst = some d) (t e : TypeId) (len : Nat) (parts : Array (Nat × Operand)) (ho : o.op = .buildSlice t len parts) (pv : Array (Nat × Value)) (hpv : (parts.map fun (i, x) => (i, a.eval x)) = pv) (cells : Array Value)
    (hr : ∀ u : World, (Instr.buildSlice t len pv).run P u = .ok (.slice (some ⟨u.heap.size, 0, none⟩) len len) (u.alloc (.cells cells e)))
    (h : ∀ u b, u.heap[b]? = some (.cells cells e (0, 0)) → Below w.heap.size w u → b = w.heap.size → u.heap.size = b + 1 → K (a.put (some d) (.slice (some ⟨b, 0, none⟩) len len)) u) :
    if Region.wanted o (yielded ops a.tmps) = true then Oper.wp P o a w K Q else E := by
  have hw : Region.wanted o (yielded ops a.tmps) = true := by simp [Region.wanted, hgd]
  rw [if_pos hw]
  rw [← hd] at h
  unfold Oper.wp execOp
  simp only [ho, Sem.run_bind, hpv, hr w, Result.andThen_ok]
  exact h _ _ (heap_alloc_new w _) ((Below.refl _ w).alloc (Nat.le_refl _) _) rfl (by simp)
theorem step_load1 {o : Oper} {a : Act} {w : World} {K : Act → World → Prop} {Q : Exit → Act → World → Prop} {E : Prop} (hgd : o.guard = none) (d : Nat) (hd : o.dst = some d) (t : TypeId) (x : Operand) (ho : o.op = .load t x) (p v : Value) (hx : a.eval x = p)
    (hr : (Instr.loadAt t p).run P w = .ok v w) (h : K (a.put (some d) v) w) : if Region.wanted o (yielded ops a.tmps) = true then Oper.wp P o a w K Q else E := by
  have hw : Region.wanted o (yielded ops a.tmps) = true := by simp [Region.wanted, hgd]
  rw [if_pos hw]
  rw [← hd] at h
  unfold Oper.wp execOp
  simp only [ho, hx, Sem.run_bind, hr, Result.andThen_ok]
  exact h
theorem own_empty {w : World} {base b e size : Nat} (h : w.heap[b]? = some (.cells #[] e (0, 0))) (hb : base ≤ b) : w.ownsRow base e size (.slice (some ⟨b, 0, none⟩) 0 0) 0 [] :=
  ⟨by simp, .inr ⟨b, 0, #[], rfl, hb, h, Nat.le_refl _, by unfold maxLen; omega, by simp, by simp⟩⟩
theorem own_keep {w w' : World} {base e size n : Nat} {v : Value} {xs : List Value} (h : w.ownsRow base e size v n xs) (hb : Below w.heap.size w w') : w'.ownsRow base e size v n xs :=
  h.kept (row := none) ⟨hb.os, hb.tape, hb.output, hb.size, fun k hk _ => hb.block k hk⟩ (by cases hv : v.ownBlock <;> simp)
end Go.Proofs.Ytmfnhdflmnmooaa
