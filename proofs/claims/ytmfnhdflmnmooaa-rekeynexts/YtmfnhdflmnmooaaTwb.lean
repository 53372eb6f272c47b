import Derived.Test.YtmfnhdflmnmooaaTwa
import Derived.Deep.MidRow
import Derived.Deep.Cut
namespace Go.Proofs.Ytmfnhdflmnmooaa
open Go.RowKit
set_option linter.unusedVariables false
set_option linter.unusedSimpArgs false
def sgZ (x : Int × Int × Int) : List Value := [.int .u64 x.1, .int .u64 x.2.1, .int .u64 x.2.2]
theorem sgZ_len (x : Int × Int × Int) : (sgZ x).length = 3 := rfl
theorem sloL_one (x : Slo) : ∀ u ∈ sloL x, u.oneCell' = true := by
  intro u hu
  simp only [sloL, List.mem_cons, List.not_mem_nil, or_false] at hu
  rcases hu with rfl | rfl | rfl | rfl | rfl | rfl | rfl | rfl | rfl <;> rfl
theorem epoL_one (x : Epo) : ∀ u ∈ epoL x, u.oneCell' = true := by
  intro u hu
  simp only [epoL, List.mem_cons, List.not_mem_nil, or_false] at hu
  rcases hu with rfl | rfl | rfl | rfl | rfl <;> rfl
theorem sgZ_one (x : Int × Int × Int) : ∀ u ∈ sgZ x, u.oneCell' = true := by
  intro u hu
  simp only [sgZ, List.mem_cons, List.not_mem_nil, or_false] at hu
  rcases hu with rfl | rfl | rfl <;> rfl
theorem tkL_one (x : Tk) : ∀ u ∈ tkL x, u.oneCell' = true := by
  intro u hu
  simp only [tkL, List.mem_cons, List.not_mem_nil, or_false] at hu
  rcases hu with rfl | rfl | rfl | rfl <;> rfl
/-- A list of twin's: the structs, the mark, in a block above n. -/
def Ls {α : Type} (n : Nat) (L : α → List Value) (sz : Nat) (v : Value) (W : World) (p : Option Addr) (k c : Nat) (l : List α) : Prop :=
  RV L sz W p l ∧ Mk W p k c sz v ∧ ∀ b o, p = some ⟨b, o, none⟩ → n < b ∧ b < W.heap.size
theorem Ls.stay {α : Type} {n sz k c : Nat} {L : α → List Value} {v : Value} {W W' : World} {p : Option Addr} {l : List α} (h : Ls n L sz v W p k c l) (s : Stay n W W') : Ls n L sz v W' p k c l :=
  ⟨h.1.stay s fun b o e => by have := (h.2.2 b o e).1; omega, h.2.1.stay s fun b o e => ⟨(h.2.2 b o e).2, by have := (h.2.2 b o e).1; omega⟩, fun b o e => ⟨(h.2.2 b o e).1, Nat.lt_of_lt_of_le (h.2.2 b o e).2 s.size⟩⟩
theorem Ls.own {α : Type} {n sz k c e B g : Nat} {L : α → List Value} (hL : ∀ x, (L x).length = sz) {v : Value} {W : World} {l : List α} {rest : List Value} (hl : l.length = k) (h : W.ownsRow B e sz (.slice (some ⟨g, 0, none⟩) (k + 1) c) (k + 1) (l.flatMap L ++ v :: rest)) (hB : n < B) : Ls n L sz v W (some ⟨g, 0, none⟩) k c l := by
  refine ⟨rv_own hL h, mk_own hL hl h, fun b o e => ?_⟩
  cases e
  exact ⟨Nat.lt_of_lt_of_le hB (h.lt g rfl).1, (h.lt g rfl).2⟩
abbrev mt0 : Array Value := #[.string ⟨#[]⟩, .string ⟨#[]⟩, .string ⟨#[]⟩, .string ⟨#[]⟩, .int .i64 0, .int .u64 0, .int .i64 0, .int .i64 0, .int .i64 0, .string ⟨#[]⟩, .string ⟨#[]⟩, .slice none 0 0, .slice none 0 0, .slice none 0 0, .bool false, .int .u64 0, .int .u64 0, .bool false, .int .i64 0, .int .u64 0, .int .u64 0, .int .i64 0, .int .i64 0, .bool false, .int .u64 0, .string ⟨#[]⟩, .slice none 0 0]
/-- The three variables of twin. -/
structure Twn (w W : World) (m n2 : Mt) : Prop where
  bx : Bx W w.heap.size m
  rs : W.heap[w.heap.size + 1]? = some (.cells mt0 36 (0, 0))
  bn : Bx W (w.heap.size + 2) n2
  bel : Below w.heap.size w W
  sz : w.heap.size + 3 ≤ W.heap.size
theorem Twn.stay {w W W' : World} {m n2 n3 : Mt} (h : Twn w W m n2) (s : Stay (w.heap.size + 2) W W') (hn : Bx W' (w.heap.size + 2) n3) : Twn w W' m n3 := by
  have := h.sz
  exact ⟨(s.block _ (by omega) (by omega)).trans h.bx, (s.block _ (by omega) (by omega)).trans h.rs, hn, h.bel.trans (s.below (by omega) (by omega)), Nat.le_trans h.sz s.size⟩
theorem bx_set {W : World} {b : Nat} {m n3 : Mt} {o : Nat} {v : Value} (h : Bx W b m) (he : (mtC m).setIfInBounds o v = mtC n3) : Bx (W.setCell ⟨b, o, none⟩ v) b n3 := by
  unfold Bx
  rw [heap_setCell_same W b o _ 36 v h, he]
theorem frozen_bx {W : World} {b o : Nat} {m : Mt} (h : Bx W b m) : W.frozen? ⟨b, o, none⟩ = false := frozen_of_row W b o _ 36 h
def setL : List Value → Nat → List Value → List Value
  | cur, _, [] => cur
  | cur, o, v :: r => setL (cur.set o v) (o + 1) r
theorem setL_at : ∀ (vs cur : List Value) (o : Nat), o + vs.length ≤ cur.length → setL cur o vs = cur.take o ++ vs ++ cur.drop (o + vs.length)
  | [], cur, o, h => by simp [setL]
  | v :: r, cur, o, h => by
    simp only [List.length_cons] at h
    rw [setL, setL_at r (cur.set o v) (o + 1) (by simp; omega)]
    rw [List.take_set, List.drop_set_of_lt (by omega), List.take_add_one, List.set_append_right _ _ (by simp; omega), List.length_take, Nat.min_eq_left (by omega), Nat.sub_self]
    rw [List.getElem?_eq_getElem (by omega)]
    simp
    congr 1
    omega
theorem setCells_heap (b t : Nat) : ∀ (vs : List Value) (o : Nat) (w : World) (cur : Array Value), w.heap[b]? = some (.cells cur t (0, 0)) → (w.setCells b o vs).heap[b]? = some (.cells (setL cur.toList o vs).toArray t (0, 0))
  | [], o, w, cur, h => by simpa [World.setCells, setL] using h
  | v :: r, o, w, cur, h => by
    have := setCells_heap b t r (o + 1) (w.setCell ⟨b, o, none⟩ v) _ (heap_setCell_same w b o cur t v h)
    simpa [World.setCells, setL] using this
theorem setCells_stay (b : Nat) : ∀ (vs : List Value) (o : Nat) (w : World), Stay b w (w.setCells b o vs)
  | [], o, w => Stay.refl b w
  | v :: r, o, w => ((Stay.refl b w).set o v).trans (setCells_stay b r (o + 1) _)
theorem mtC_one (m : Mt) : (mtC m).all (·.oneCell') = true := by simp [Value.oneCell']
theorem wpList_store_box {w : World} {ops : Array Oper} {rest : List Oper} {o : Oper} {a : Act} {Q : Exit → Act → World → Prop} (hgd : o.guard = none) (x y : Operand) (ho : o.op = .store 36 x y) (m : Mt) (b : Nat) (cur : Array Value) (hx : a.eval x = .pointer (some ⟨b, 0, none⟩)) (hy : a.eval y = .agg (mtC m))
    (hb : w.heap[b]? = some (.cells cur 36 (0, 0))) (hc : cur.size = 27) (h : ∀ u, Bx u b m → Stay b w u → wpList Try.prog ops Q rest (a.put o.dst undef) u) : wpList Try.prog ops Q (o :: rest) a w := by
  refine wpList_store_mid hgd 36 x y ho b 0 (mtC m) hx hy (fun j hj => ?_) (size36 m) (mtC_one m) (h _ ?_ (setCells_stay b _ 0 w))
  · rw [Nat.zero_add]
    refine ⟨?_, frozen_of_row w b j cur 36 hb⟩
    rw [cell_of_row w b j cur 36 (0, 0) hb]
    have hj' : j < 27 := hj
    simp [hc, hj']
  · unfold Bx
    rw [setCells_heap b 36 _ 0 w cur hb, setL_at _ _ _ (by simp [hc])]
    simp [hc]
theorem alloc36 (u : World) : (Instr.alloc 36 true (.tuple #[])).run Try.prog u = .ok (.pointer (some ⟨u.heap.size, 0, none⟩)) (u.alloc (.cells mt0 36)) := by go_simp
theorem wpList_alloc_box {w : World} {ops : Array Oper} {rest : List Oper} {o : Oper} {a : Act} {Q : Exit → Act → World → Prop} (hgd : o.guard = none) (ho : o.op = .alloc 36)
    (h : ∀ u b, u.heap[b]? = some (.cells mt0 36 (0, 0)) → Below w.heap.size w u → b = w.heap.size → u.heap.size = b + 1 → wpList Try.prog ops Q rest (a.put o.dst (.pointer (some ⟨b, 0, none⟩))) u) : wpList Try.prog ops Q (o :: rest) a w := by
  refine wpList_plain hgd fun K hK => ?_
  unfold Oper.wp execOp
  simp only [ho, Sem.run_bind, alloc36 w, Result.andThen_ok]
  exact hK _ _ (h _ _ (heap_alloc_new w _) ((Below.refl _ w).alloc (Nat.le_refl _) _) rfl (by simp))
abbrev mkA27 := (⟨501, 0, 0, 0, ⟨#[]⟩, ⟨#[]⟩, 0, 0, 0⟩ : Slo)
abbrev mkB27 := (⟨502, 0, 0, 0, ⟨#[]⟩, ⟨#[]⟩, 0, 0, 0⟩ : Slo)
theorem bs27_0 (u : World) : (Instr.buildSlice 27 0 #[]).run Try.prog u = .ok (.slice (some ⟨u.heap.size, 0, none⟩) 0 0) (u.alloc (.cells #[] 63)) := by
  go_simp
theorem fill27 : Instr.fill (fun i => some (i * 9, 9)) ((Array.range (2 * 9)).map ((Value.agg #[.int .i64 0, .int .i64 0, .int .i64 0, .int .i64 0, .string ⟨#[]⟩, .string ⟨#[]⟩, .int .i64 0, .int .i64 0, .int .i64 0]).cells[· % (Value.agg #[.int .i64 0, .int .i64 0, .int .i64 0, .int .i64 0, .string ⟨#[]⟩, .string ⟨#[]⟩, .int .i64 0, .int .i64 0, .int .i64 0]).cells.size]!)) [(0, .agg #[.int .i64 501, .int .i64 0, .int .i64 0, .int .i64 0, .string ⟨#[]⟩, .string ⟨#[]⟩, .int .i64 0, .int .i64 0, .int .i64 0]), (1, .agg #[.int .i64 502, .int .i64 0, .int .i64 0, .int .i64 0, .string ⟨#[]⟩, .string ⟨#[]⟩, .int .i64 0, .int .i64 0, .int .i64 0])] = some #[.int .i64 501, .int .i64 0, .int .i64 0, .int .i64 0, .string ⟨#[]⟩, .string ⟨#[]⟩, .int .i64 0, .int .i64 0, .int .i64 0, .int .i64 502, .int .i64 0, .int .i64 0, .int .i64 0, .string ⟨#[]⟩, .string ⟨#[]⟩, .int .i64 0, .int .i64 0, .int .i64 0] := by kernel_rfl
theorem bs27_2 (u : World) : (Instr.buildSlice 27 2 #[(0, .agg #[.int .i64 501, .int .i64 0, .int .i64 0, .int .i64 0, .string ⟨#[]⟩, .string ⟨#[]⟩, .int .i64 0, .int .i64 0, .int .i64 0]), (1, .agg #[.int .i64 502, .int .i64 0, .int .i64 0, .int .i64 0, .string ⟨#[]⟩, .string ⟨#[]⟩, .int .i64 0, .int .i64 0, .int .i64 0])]).run Try.prog u = .ok (.slice (some ⟨u.heap.size, 0, none⟩) 2 2) (u.alloc (.cells ([mkA27, mkB27].flatMap sloL).toArray 63)) := by
  obtain ⟨i, hi, hz0, hz1, hz2⟩ := info_parts info47
  refine run_buildSlice u 27 63 2 _ _ i _ Try.underlying27 hi hz0 (by rw [hz1]; decide) (by rw [hz1]; decide) ?_
  rw [hz1]
  exact fill27
theorem built27a : Try.prog.built 63 [(0, .int .i64 501)] = some #[.int .i64 501, .int .i64 0, .int .i64 0, .int .i64 0, .string ⟨#[]⟩, .string ⟨#[]⟩, .int .i64 0, .int .i64 0, .int .i64 0] := by kernel_rfl
theorem built27b : Try.prog.built 63 [(0, .int .i64 502)] = some #[.int .i64 502, .int .i64 0, .int .i64 0, .int .i64 0, .string ⟨#[]⟩, .string ⟨#[]⟩, .int .i64 0, .int .i64 0, .int .i64 0] := by kernel_rfl
abbrev mkA28 := (⟨501, ⟨#[]⟩, ⟨#[]⟩, ⟨#[]⟩, ⟨#[]⟩⟩ : Epo)
abbrev mkB28 := (⟨502, ⟨#[]⟩, ⟨#[]⟩, ⟨#[]⟩, ⟨#[]⟩⟩ : Epo)
theorem bs28_0 (u : World) : (Instr.buildSlice 28 0 #[]).run Try.prog u = .ok (.slice (some ⟨u.heap.size, 0, none⟩) 0 0) (u.alloc (.cells #[] 38)) := by
  go_simp
theorem fill28 : Instr.fill (fun i => some (i * 5, 5)) ((Array.range (2 * 5)).map ((Value.agg #[.int .u64 0, .string ⟨#[]⟩, .string ⟨#[]⟩, .string ⟨#[]⟩, .string ⟨#[]⟩]).cells[· % (Value.agg #[.int .u64 0, .string ⟨#[]⟩, .string ⟨#[]⟩, .string ⟨#[]⟩, .string ⟨#[]⟩]).cells.size]!)) [(0, .agg #[.int .u64 501, .string ⟨#[]⟩, .string ⟨#[]⟩, .string ⟨#[]⟩, .string ⟨#[]⟩]), (1, .agg #[.int .u64 502, .string ⟨#[]⟩, .string ⟨#[]⟩, .string ⟨#[]⟩, .string ⟨#[]⟩])] = some #[.int .u64 501, .string ⟨#[]⟩, .string ⟨#[]⟩, .string ⟨#[]⟩, .string ⟨#[]⟩, .int .u64 502, .string ⟨#[]⟩, .string ⟨#[]⟩, .string ⟨#[]⟩, .string ⟨#[]⟩] := by kernel_rfl
theorem bs28_2 (u : World) : (Instr.buildSlice 28 2 #[(0, .agg #[.int .u64 501, .string ⟨#[]⟩, .string ⟨#[]⟩, .string ⟨#[]⟩, .string ⟨#[]⟩]), (1, .agg #[.int .u64 502, .string ⟨#[]⟩, .string ⟨#[]⟩, .string ⟨#[]⟩, .string ⟨#[]⟩])]).run Try.prog u = .ok (.slice (some ⟨u.heap.size, 0, none⟩) 2 2) (u.alloc (.cells ([mkA28, mkB28].flatMap epoL).toArray 38)) := by
  obtain ⟨i, hi, hz0, hz1, hz2⟩ := info_parts info49
  refine run_buildSlice u 28 38 2 _ _ i _ Try.underlying28 hi hz0 (by rw [hz1]; decide) (by rw [hz1]; decide) ?_
  rw [hz1]
  exact fill28
theorem built28a : Try.prog.built 38 [(0, .int .u64 501)] = some #[.int .u64 501, .string ⟨#[]⟩, .string ⟨#[]⟩, .string ⟨#[]⟩, .string ⟨#[]⟩] := by kernel_rfl
theorem built28b : Try.prog.built 38 [(0, .int .u64 502)] = some #[.int .u64 502, .string ⟨#[]⟩, .string ⟨#[]⟩, .string ⟨#[]⟩, .string ⟨#[]⟩] := by kernel_rfl
abbrev mkA29 := ((0, 0, 501) : Int × Int × Int)
abbrev mkB29 := ((0, 0, 502) : Int × Int × Int)
theorem bs29_0 (u : World) : (Instr.buildSlice 29 0 #[]).run Try.prog u = .ok (.slice (some ⟨u.heap.size, 0, none⟩) 0 0) (u.alloc (.cells #[] 65)) := by
  go_simp
theorem fill29 : Instr.fill (fun i => some (i * 3, 3)) ((Array.range (2 * 3)).map ((Value.agg #[.int .u64 0, .int .u64 0, .int .u64 0]).cells[· % (Value.agg #[.int .u64 0, .int .u64 0, .int .u64 0]).cells.size]!)) [(0, .agg #[.int .u64 0, .int .u64 0, .int .u64 501]), (1, .agg #[.int .u64 0, .int .u64 0, .int .u64 502])] = some #[.int .u64 0, .int .u64 0, .int .u64 501, .int .u64 0, .int .u64 0, .int .u64 502] := by kernel_rfl
theorem bs29_2 (u : World) : (Instr.buildSlice 29 2 #[(0, .agg #[.int .u64 0, .int .u64 0, .int .u64 501]), (1, .agg #[.int .u64 0, .int .u64 0, .int .u64 502])]).run Try.prog u = .ok (.slice (some ⟨u.heap.size, 0, none⟩) 2 2) (u.alloc (.cells ([mkA29, mkB29].flatMap sgZ).toArray 65)) := by
  obtain ⟨i, hi, hz0, hz1, hz2⟩ := info_parts info51
  refine run_buildSlice u 29 65 2 _ _ i _ Try.underlying29 hi hz0 (by rw [hz1]; decide) (by rw [hz1]; decide) ?_
  rw [hz1]
  exact fill29
theorem built29a : Try.prog.built 65 [(2, .int .u64 501)] = some #[.int .u64 0, .int .u64 0, .int .u64 501] := by kernel_rfl
theorem built29b : Try.prog.built 65 [(2, .int .u64 502)] = some #[.int .u64 0, .int .u64 0, .int .u64 502] := by kernel_rfl
abbrev mkA34 := (⟨501, ⟨#[]⟩, none, 0, 0, ⟨#[]⟩⟩ : Tk)
abbrev mkB34 := (⟨502, ⟨#[]⟩, none, 0, 0, ⟨#[]⟩⟩ : Tk)
theorem bs34_0 (u : World) : (Instr.buildSlice 34 0 #[]).run Try.prog u = .ok (.slice (some ⟨u.heap.size, 0, none⟩) 0 0) (u.alloc (.cells #[] 61)) := by
  go_simp
theorem fill34 : Instr.fill (fun i => some (i * 4, 4)) ((Array.range (2 * 4)).map ((Value.agg #[.int .i64 0, .string ⟨#[]⟩, .slice none 0 0, .string ⟨#[]⟩]).cells[· % (Value.agg #[.int .i64 0, .string ⟨#[]⟩, .slice none 0 0, .string ⟨#[]⟩]).cells.size]!)) [(0, .agg #[.int .i64 501, .string ⟨#[]⟩, .slice none 0 0, .string ⟨#[]⟩]), (1, .agg #[.int .i64 502, .string ⟨#[]⟩, .slice none 0 0, .string ⟨#[]⟩])] = some #[.int .i64 501, .string ⟨#[]⟩, .slice none 0 0, .string ⟨#[]⟩, .int .i64 502, .string ⟨#[]⟩, .slice none 0 0, .string ⟨#[]⟩] := by kernel_rfl
theorem bs34_2 (u : World) : (Instr.buildSlice 34 2 #[(0, .agg #[.int .i64 501, .string ⟨#[]⟩, .slice none 0 0, .string ⟨#[]⟩]), (1, .agg #[.int .i64 502, .string ⟨#[]⟩, .slice none 0 0, .string ⟨#[]⟩])]).run Try.prog u = .ok (.slice (some ⟨u.heap.size, 0, none⟩) 2 2) (u.alloc (.cells ([mkA34, mkB34].flatMap tkL).toArray 61)) := by
  obtain ⟨i, hi, hz0, hz1, hz2⟩ := info_parts info45
  refine run_buildSlice u 34 61 2 _ _ i _ Try.underlying34 hi hz0 (by rw [hz1]; decide) (by rw [hz1]; decide) ?_
  rw [hz1]
  exact fill34
theorem built34a : Try.prog.built 61 [(0, .int .i64 501)] = some #[.int .i64 501, .string ⟨#[]⟩, .slice none 0 0, .string ⟨#[]⟩] := by kernel_rfl
theorem built34b : Try.prog.built 61 [(0, .int .i64 502)] = some #[.int .i64 502, .string ⟨#[]⟩, .slice none 0 0, .string ⟨#[]⟩] := by kernel_rfl
theorem bs59_0 (u : World) : (Instr.buildSlice 59 0 #[]).run Try.prog u = .ok (.slice (some ⟨u.heap.size, 0, none⟩) 0 0) (u.alloc (.cells #[] 3)) := by
  go_simp
/-- A literal's block of structs. -/
theorem rv_lit {α : Type} {L : α → List Value} {sz : Nat} (hL : ∀ x, (L x).length = sz) {w : World} {b e : Nat} {l : List α} (h : w.heap[b]? = some (.cells (l.flatMap L).toArray e (0, 0))) : RV L sz w (some ⟨b, 0, none⟩) l := by
  refine .inr ⟨b, 0, rfl, (Array.getElem?_eq_some_iff.1 h).1, fun i y hy j u hu => ?_⟩
  simp only [World.cell?]
  rw [h]
  have hj : j < sz := by
    rcases Nat.lt_or_ge j sz with q | q
    · exact q
    · rw [List.getElem?_eq_none (by rw [hL]; exact q)] at hu; cases hu
  have key : ∀ (l : List α) (i : Nat), l[i]? = some y → (l.flatMap L)[i * sz + j]? = some u := by
    intro l
    induction l with
    | nil => intro i q; simp at q
    | cons x l ih =>
      intro i q
      rw [List.flatMap_cons]
      cases i with
      | zero =>
        simp at q
        subst q
        rw [List.getElem?_append_left (by rw [hL]; omega)]
        simpa using hu
      | succ k =>
        have := ih k (by simpa using q)
        rw [List.getElem?_append_right (by rw [hL, Nat.succ_mul]; omega), hL, show (k + 1) * sz + j - sz = k * sz + j by rw [Nat.succ_mul]; omega]
        exact this
  simpa using key l i hy
/-- A row that is not written stays. -/
theorem own_stay {w w' : World} {base e size n k : Nat} {v : Value} {xs : List Value} (h : w.ownsRow base e size v n xs) (s : Stay k w w') (hk : v.ownBlock ≠ some k) : w'.ownsRow base e size v n xs :=
  h.kept (row := some k) ⟨s.os, s.tape, s.output, s.size, fun j hj hn => s.block j hj (fun e => hn (by rw [e]))⟩ (by cases hv : v.ownBlock with | none => simp | some b => right; rw [hv] at hk; exact hk)
theorem own_grown {w w' : World} {base e size n : Nat} {row : Option Nat} {v : Value} {xs : List Value} (h : w.ownsRow base e size v n xs) (s : w.grownBy w' row) (hk : v.ownBlock = none ∨ v.ownBlock ≠ row) : w'.ownsRow base e size v n xs := h.kept s hk
theorem own_ne {w : World} {base e size n k : Nat} {v : Value} {xs : List Value} (h : w.ownsRow base e size v n xs) (hk : k < base) : v.ownBlock ≠ some k := by
  intro q
  have := (h.lt k q).1
  omega
/-- Ints, one by one. -/
def inL (z : Int) : List Value := [.int .i64 z]
theorem inL_len (z : Int) : (inL z).length = 1 := rfl
theorem inL_one (z : Int) : ∀ u ∈ inL z, u.oneCell' = true := by
  intro u hu
  simp only [inL, List.mem_cons, List.not_mem_nil, or_false] at hu
  rw [hu]; rfl
theorem inL_cells (zs : List Int) : zs.flatMap inL = cellsI zs := by
  induction zs with
  | nil => rfl
  | cons z zs ih => simp [inL, cellsI] at ih ⊢; exact ih
theorem rv_view {w : World} {p : Option Addr} {n c : Nat} {zs : List Int} (h : View w (.slice p n c) zs) : zs.length = n ∧ RV inL 1 w p zs ∧ (p = none → c = 0) ∧ n ≤ c ∧ c ≤ maxLen := by
  obtain ⟨a, cap, hv, h1, h2, h3, h4⟩ := h
  simp only [Value.slice.injEq] at hv
  obtain ⟨rfl, rfl, rfl⟩ := hv
  refine ⟨rfl, ?_, h3, h1, h2⟩
  rcases h4 with h4 | ⟨b, off, rfl, hc⟩
  · exact .inl h4
  · by_cases h0 : zs = []
    · exact .inl h0
    · have hpos : 0 < zs.length := List.length_pos_iff.2 h0
      refine .inr ⟨b, off, rfl, World.block_lt_of_cell? w _ (hc 0 hpos), fun i x hx j u hu => ?_⟩
      have hi : i < zs.length := (List.getElem?_eq_some_iff.1 hx).1
      cases j with
      | zero =>
        simp only [inL, List.getElem?_cons_zero, Option.some.injEq] at hu
        subst hu
        have := hc i hi
        rw [List.getD_eq_getElem?_getD, hx] at this
        simpa using this
      | succ j => simp [inL] at hu
end Go.Proofs.Ytmfnhdflmnmooaa
