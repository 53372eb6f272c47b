import Derived.Test.YtaejoohbmdckhaaWp
import Derived.Maps.AppendAt
import Derived.Laws.AppendOwnNone
import Derived.Deep.DeepMust
namespace Go.Proofs.Ytaejoohbmdckhaa
open Go.RowKit
set_option linter.unusedVariables false
set_option linter.unusedSimpArgs false
/-- Structs, where they lie. -/
def RV {α : Type} (L : α → List Value) (sz : Nat) (w : World) (p : Option Addr) (l : List α) : Prop :=
  l = [] ∨ ∃ b off, p = some ⟨b, off, none⟩ ∧ b < w.heap.size ∧ ∀ (i : Nat) (x : α), l[i]? = some x → ∀ (j : Nat) (u : Value), (L x)[j]? = some u → w.cell? ⟨b, off + i * sz + j, none⟩ = some u
theorem flat_len {α : Type} (L : α → List Value) (sz : Nat) (hL : ∀ x, (L x).length = sz) (l : List α) : (l.flatMap L).length = l.length * sz := by
  induction l with
  | nil => simp
  | cons y l ih => rw [List.flatMap_cons, List.length_append, ih, hL, List.length_cons, Nat.succ_mul]; omega
theorem flat_split {α : Type} (L : α → List Value) (sz : Nat) (hL : ∀ x, (L x).length = sz) : ∀ (l : List α) (j : Nat) (u : Value), (l.flatMap L)[j]? = some u → ∃ i x r, l[i]? = some x ∧ (L x)[r]? = some u ∧ j = i * sz + r := by
  intro l
  induction l with
  | nil => intro j u h; simp at h
  | cons y l ih =>
    intro j u h
    rw [List.flatMap_cons] at h
    by_cases hj : j < sz
    · rw [List.getElem?_append_left (by rw [hL]; exact hj)] at h
      exact ⟨0, y, j, rfl, h, by simp⟩
    · rw [List.getElem?_append_right (by rw [hL]; omega), hL] at h
      obtain ⟨i, x, r, h1, h2, h3⟩ := ih _ u h
      refine ⟨i + 1, x, r, by simpa using h1, h2, ?_⟩
      rw [Nat.succ_mul]
      omega
theorem flat_one {α : Type} (L : α → List Value) (h1 : ∀ x, ∀ u ∈ L x, u.oneCell' = true) (l : List α) : ∀ u ∈ l.flatMap L, u.oneCell' = true := by
  intro u hu
  obtain ⟨x, _, hx⟩ := List.mem_flatMap.1 hu
  exact h1 x u hx
section
variable {P : Program} {ops : Array Oper}
variable {α : Type} {L : α → List Value}
/-- append of a list of structs that lies anywhere to a row that the call owns. -/
theorem run_append_rv (w : World) (t ty e : TypeId) (i : TypeInfo) (z : Value) (size bytes : Nat) (ht : P.underlying t = some (.slice e)) (hi : P.info? e = some i) (hz : i.zero = some z)
    (hsize : i.size = size) (hby : i.bytes = bytes) (hzs : z.cells.size = size) (hsz : 0 < size) (hL : ∀ x, (L x).length = size) (h1 : ∀ x, ∀ u ∈ L x, u.oneCell' = true)
    (base g0 n c0 : Nat) (xs : List Value) (hown : w.ownsRow base e size (.slice (some ⟨g0, 0, none⟩) n c0) n xs) (p : Option Addr) (m c : Nat) (l : List α) (hl : l.length = m) (hrv : RV L size w p l) (hn : p = none → c = 0)
    (h63 : n + m ≤ maxLen) (hbytes : (n + m) * bytes ≤ 140737488355328) (hbase : base ≤ w.heap.size) :
    ∃ g cap w', (Builtin.append_ #[t, t] ty #[.slice (some ⟨g0, 0, none⟩) n c0, .slice p m c]).run P w = .ok (.slice (some ⟨g, 0, none⟩) (n + m) cap) w' ∧
      w'.ownsRow base e size (.slice (some ⟨g, 0, none⟩) (n + m) cap) (n + m) (xs ++ l.flatMap L) ∧ w.grownBy w' (some g0) ∧ (g = g0 ∨ g = w.heap.size) := by
  cases p with
  | none =>
    have h0 : l = [] := by
      rcases hrv with h | ⟨b, off, h, _⟩
      · exact h
      · cases h
    subst h0
    have hm : m = 0 := by simpa using hl.symm
    subst hm
    have hc := hn rfl
    subst hc
    refine ⟨g0, c0, w, run_append_owned_none (P := P) (w := w) base t ty e i size ht hi _ n xs hown, by simpa using hown, ⟨rfl, rfl, rfl, Nat.le_refl _, fun _ _ _ => rfl⟩, .inl rfl⟩
  | some ad =>
    obtain ⟨v', w', hr, h2, h3, h4, h5⟩ := run_append_own_at (P := P) w base t ty e i z size bytes ht hi hz hsize hby hzs hsz (.slice (some ⟨g0, 0, none⟩) n c0) n xs hown ad m c (l.flatMap L) (by rw [flat_len L size hL, hl]) (by
      intro j u hj
      obtain ⟨i, x, r, q1, q2, q3⟩ := flat_split L size hL l j u hj
      rcases hrv with h | ⟨b, off, h, _, hc⟩
      · subst h; simp at q1
      · simp only [Option.some.injEq] at h
        subst h
        have := hc i x q1 r u q2
        rw [Addr.add_mid, q3]
        rw [← Nat.add_assoc]
        exact this) (flat_one L h1 l) h63 hbytes hbase
    rcases h2.2 with ⟨h, _⟩ | ⟨g, cap, cur, rfl, _⟩
    · have := h4.1 h
      simp at this
    · refine ⟨g, cap, w', hr, h2, h3, ?_⟩
      rcases h5 with h5 | h5
      · left; simpa [Value.ownBlock] using h5
      · right; simpa [Value.ownBlock] using h5
theorem wp_append_rv {w : World} {o : Oper} {a : Act} {K : Act → World → Prop} {Q : Exit → Act → World → Prop} (s x : Operand) (t : TypeId)
    (ho : o.op = .call { callee := .builtin .append, args := #[s, x], argTypes := #[t, t] }) (e : TypeId) (i : TypeInfo) (z : Value) (size bytes : Nat) (ht : P.underlying t = some (.slice e)) (hi : P.info? e = some i) (hz : i.zero = some z)
    (hsize : i.size = size) (hby : i.bytes = bytes) (hzs : z.cells.size = size) (hsz : 0 < size) (hL : ∀ x, (L x).length = size) (h1 : ∀ x, ∀ u ∈ L x, u.oneCell' = true)
    (base g0 n c0 : Nat) (xs : List Value) (hs : a.eval s = .slice (some ⟨g0, 0, none⟩) n c0) (hown : w.ownsRow base e size (.slice (some ⟨g0, 0, none⟩) n c0) n xs) (p : Option Addr) (m c : Nat) (l : List α) (hx : a.eval x = .slice p m c) (hl : l.length = m) (hrv : RV L size w p l) (hn : p = none → c = 0)
    (h63 : n + m ≤ maxLen) (hbytes : (n + m) * bytes ≤ 140737488355328) (hbase : base ≤ w.heap.size)
    (h : ∀ g cap w', w'.ownsRow base e size (.slice (some ⟨g, 0, none⟩) (n + m) cap) (n + m) (xs ++ l.flatMap L) → w.grownBy w' (some g0) → (g = g0 ∨ g = w.heap.size) → K (a.put o.dst (.slice (some ⟨g, 0, none⟩) (n + m) cap)) w') : o.wp P a w K Q := by
  obtain ⟨g, cap, w', hr, h2, h3, h4⟩ := run_append_rv (P := P) w t o.type e i z size bytes ht hi hz hsize hby hzs hsz hL h1 base g0 n c0 xs hown p m c l hl hrv hn h63 hbytes hbase
  unfold Oper.wp execOp
  simp only [ho, resolve, invoke, builtin, Sem.run_bind, Sem.run_pure, Result.andThen_ok, List.map_toArray, List.map_cons, List.map_nil, hs, hx, hr]
  exact h g cap w' h2 h3 h4
theorem wpList_append_rv {w : World} {rest : List Oper} {o : Oper} {a : Act} {Q : Exit → Act → World → Prop} (hgd : o.guard = none) (s x : Operand) (t : TypeId)
    (ho : o.op = .call { callee := .builtin .append, args := #[s, x], argTypes := #[t, t] }) (e : TypeId) (i : TypeInfo) (z : Value) (size bytes : Nat) (ht : P.underlying t = some (.slice e)) (hi : P.info? e = some i) (hz : i.zero = some z)
    (hsize : i.size = size) (hby : i.bytes = bytes) (hzs : z.cells.size = size) (hsz : 0 < size) (hL : ∀ x, (L x).length = size) (h1 : ∀ x, ∀ u ∈ L x, u.oneCell' = true)
    (base g0 n c0 : Nat) (xs : List Value) (hs : a.eval s = .slice (some ⟨g0, 0, none⟩) n c0) (hown : w.ownsRow base e size (.slice (some ⟨g0, 0, none⟩) n c0) n xs) (p : Option Addr) (m c : Nat) (l : List α) (hx : a.eval x = .slice p m c) (hl : l.length = m) (hrv : RV L size w p l) (hn : p = none → c = 0)
    (h63 : n + m ≤ maxLen) (hbytes : (n + m) * bytes ≤ 140737488355328) (hbase : base ≤ w.heap.size)
    (h : ∀ g cap w', w'.ownsRow base e size (.slice (some ⟨g, 0, none⟩) (n + m) cap) (n + m) (xs ++ l.flatMap L) → w.grownBy w' (some g0) → (g = g0 ∨ g = w.heap.size) → wpList P ops Q rest (a.put o.dst (.slice (some ⟨g, 0, none⟩) (n + m) cap)) w') : wpList P ops Q (o :: rest) a w :=
  wpList_plain hgd fun _ hK => wp_append_rv s x t ho e i z size bytes ht hi hz hsize hby hzs hsz hL h1 base g0 n c0 xs hs hown p m c l hx hl hrv hn h63 hbytes hbase fun g cap w' h2 h3 h4 => hK _ _ (h g cap w' h2 h3 h4)
end
theorem own_empty {w : World} {base b e size : Nat} (h : w.heap[b]? = some (.cells #[] e (0, 0))) (hb : base ≤ b) : w.ownsRow base e size (.slice (some ⟨b, 0, none⟩) 0 0) 0 [] :=
  ⟨by simp, .inr ⟨b, 0, #[], rfl, hb, h, Nat.le_refl _, by unfold maxLen; omega, by simp, by simp⟩⟩
theorem own_keep {w w' : World} {base e size n : Nat} {v : Value} {xs : List Value} (h : w.ownsRow base e size v n xs) (hb : Below w.heap.size w w') : w'.ownsRow base e size v n xs :=
  h.kept (row := none) ⟨hb.os, hb.tape, hb.output, hb.size, fun k hk _ => hb.block k hk⟩ (by cases hv : v.ownBlock <;> simp)

def byL (x : Nat) : List Value := [.int .u8 (x : Nat)]
theorem byL_len (x : Nat) : (byL x).length = 1 := rfl
theorem byL_one (x : Nat) : ∀ u ∈ byL x, u.oneCell' = true := by
  intro u hu
  simp only [byL, List.mem_cons, List.not_mem_nil, or_false] at hu
  subst hu
  rfl
theorem By.rv {w : World} {p : Option Addr} {n : Nat} {f : Nat → Nat} (h : By w p n f) : RV byL 1 w p ((List.range n).map f) := by
  by_cases hn : n = 0
  · left; simp [hn]
  · obtain ⟨b, off, hp, hb, hc⟩ := h (by omega)
    refine .inr ⟨b, off, hp, hb, fun i x hx j u hu => ?_⟩
    simp only [List.getElem?_map, Option.map_eq_some_iff] at hx
    obtain ⟨i', hi', rfl⟩ := hx
    obtain ⟨hj1, rfl⟩ := List.getElem?_eq_some_iff.1 hi'
    simp only [List.length_range] at hj1
    simp only [List.getElem_range] at hu
    cases j with
    | zero =>
      simp [byL] at hu
      rw [← hu, Nat.mul_one, Nat.add_zero]
      exact (hc i hj1).1
    | succ j => simp [byL] at hu
theorem by_own {w : World} {B g c n m : Nat} {f1 f2 : Nat → Nat} (h1 : ∀ i, f1 i < 256) (h2 : ∀ i, f2 i < 256) (h : w.ownsRow B 5 1 (.slice (some ⟨g, 0, none⟩) (n + m) c) (n + m) (((List.range n).map f1).flatMap byL ++ ((List.range m).map f2).flatMap byL)) : By w (some ⟨g, 0, none⟩) (n + m) (cat f1 f2 n) := fun hn => by
  refine ⟨g, 0, rfl, (h.lt g rfl).2, fun i hi => ?_⟩
  have hl : ∀ (k : Nat) (f : Nat → Nat), ((List.range k).map f).flatMap byL = (List.range k).map fun q => .int .u8 (f q : Nat) := fun k f => by
    rw [List.flatMap_map]
    simp [byL, List.flatMap_singleton']
    induction List.range k with
    | nil => rfl
    | cons a l ih => simp [ih]
  rw [hl, hl] at h
  have hx : (((List.range n).map fun q => Value.int .u8 (f1 q : Nat)) ++ (List.range m).map fun q => Value.int .u8 (f2 q : Nat))[i]? = some (.int .u8 (cat f1 f2 n i : Nat)) := by
    by_cases hin : i < n
    · rw [List.getElem?_append_left (by simpa using hin), cat_l hin]
      simp [hin]
    · rw [List.getElem?_append_right (by simpa using Nat.le_of_not_lt hin)]
      obtain ⟨q, rfl⟩ : ∃ q, i = n + q := ⟨i - n, by omega⟩
      rw [cat_r]
      have hq : q < m := by omega
      simp [hq]
  have := h.cells (g := g) rfl i _ hx
  rw [Addr.add_mid] at this
  refine ⟨this, ?_⟩
  unfold cat
  split
  · exact h1 _
  · exact h2 _
theorem info5 : (Try.prog.info? 5).map (fun i => (i.zero, i.size, i.bytes)) = some (some (.int .u8 0), 1, 1) := by kernel_rfl
/-- A health in its box. -/
def Hb (W : World) (b : Nat) (C : Array Value) : Prop := W.heap[b]? = some (.cells C 27 (0, 0))
theorem Hb.below {W W' : World} {b : Nat} {C : Array Value} (h : Hb W b C) (hb : Below W.heap.size W W') : Hb W' b C := (hb.block b (Array.getElem?_eq_some_iff.1 h).1).trans h
theorem Hb.lt {W : World} {b : Nat} {C : Array Value} (h : Hb W b C) : b < W.heap.size := (Array.getElem?_eq_some_iff.1 h).1
theorem Hb.c {W : World} {b : Nat} {C : Array Value} (h : Hb W b C) (k : Nat) (v : Value) (hk : C[k]? = some v) : W.cell? ⟨b, k, none⟩ = some v := by
  simp only [World.cell?]
  rw [show W.heap[b]? = _ from h]
  exact hk
theorem wpList_store_he {w : World} {ops : Array Oper} {rest : List Oper} {o : Oper} {a : Act} {Q : Exit → Act → World → Prop} (hgd : o.guard = none) (x y : Operand) (ho : o.op = .store 27 x y) (C : Array Value) (hC : C.size = 15 ∧ C.all (·.oneCell') = true) (b : Nat) (hx : a.eval x = .pointer (some ⟨b, 0, none⟩)) (hy : a.eval y = .agg C)
    (hb : Tm w b 27 (fun _ => 0) 15) (h : ∀ u, Hb u b C → Below b w u → w.heap.size ≤ u.heap.size → wpList Try.prog ops Q rest (a.put o.dst undef) u) : wpList Try.prog ops Q (o :: rest) a w := by
  refine wpList_store_mid hgd 27 x y ho b 0 C hx hy (by rw [hC.1]; exact hb.there) (by rw [size27, hC.1]) hC.2 (h _ ?_ (setCells_below b _ 0 w b (Nat.le_refl _)) (setCells_stay b C.toList 0 w).size)
  unfold Hb
  obtain ⟨cs, q1, q2, _⟩ := hb
  rw [setCells_heap b 27 C.toList 0 w cs q1, setL_at _ _ _ (by simp [q2, hC.1])]
  have hd : List.drop 15 cs.toList = [] := List.drop_eq_nil_of_le (by rw [Array.length_toList, q2]; exact Nat.le_refl _)
  simp [hC.1, hd]
theorem teC_ok (f : Nat → Nat) (n : Nat) : (teC f n).size = 15 ∧ (teC f n).all (·.oneCell') = true := ⟨rfl, by simp [teC, heC, Value.oneCell']⟩
set_option maxRecDepth 100000 in
theorem num_ok (x : Int) (w : World) : Calls Try.prog 7 #[.int .i64 x] w fun e w' => e = .returned (.int .i64 x) ∧ w' = w := by
  go_enter Try.func7, Try.ntmps7
  go_wp2
  go_ret
  exact ⟨rfl, rfl⟩
end Go.Proofs.Ytaejoohbmdckhaa
