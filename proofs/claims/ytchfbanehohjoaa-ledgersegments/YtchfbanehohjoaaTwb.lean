import Derived.Test.YtchfbanehohjoaaTwa
import Derived.Deep.MidRow
import Derived.Deep.Cut
namespace Go.Proofs.Ytchfbanehohjoaa
open Go.RowKit
set_option linter.unusedVariables false
set_option linter.unusedSimpArgs false
def sgZ (x : Int × Int × Int) : List Value := [.int .u64 x.1, .int .u64 x.2.1, .int .u64 x.2.2]
theorem sgZ_len (x : Int × Int × Int) : (sgZ x).length = 3 := rfl
theorem sloL_one (x : Slo) : ∀ u ∈ sloL x, u.oneCell' = true := by
  intro u hu
  simp only [sloL, List.mem_cons, List.not_mem_nil, or_false] at hu
  rcases hu with rfl | rfl | rfl | rfl | rfl | rfl | rfl | rfl | rfl <;> rfl
theorem epoL_one (x : Epo) : ∀ u ∈ epoL x, u.oneCell' = true := by
  intro u hu
  simp only [epoL, List.mem_cons, List.not_mem_nil, or_false] at hu
  rcases hu with rfl | rfl | rfl | rfl | rfl <;> rfl
theorem sgZ_one (x : Int × Int × Int) : ∀ u ∈ sgZ x, u.oneCell' = true := by
  intro u hu
  simp only [sgZ, List.mem_cons, List.not_mem_nil, or_false] at hu
  rcases hu with rfl | rfl | rfl <;> rfl
theorem tkL_one (x : Tk) : ∀ u ∈ tkL x, u.oneCell' = true := by
  intro u hu
  simp only [tkL, List.mem_cons, List.not_mem_nil, or_false] at hu
  rcases hu with rfl | rfl | rfl | rfl <;> rfl
/-- A list of twin's: the structs, the mark, in a block above n. -/
def Ls {α : Type} (n : Nat) (L : α → List Value) (sz : Nat) (v : Value) (W : World) (p : Option Addr) (k c : Nat) (l : List α) : Prop :=
  RV L sz W p l ∧ Mk W p k c sz v ∧ ∀ b o, p = some ⟨b, o, none⟩ → n < b ∧ b < W.heap.size
theorem Ls.stay {α : Type} {n sz k c : Nat} {L : α → List Value} {v : Value} {W W' : World} {p : Option Addr} {l : List α} (h : Ls n L sz v W p k c l) (s : Stay n W W') : Ls n L sz v W' p k c l :=
  ⟨h.1.stay s fun b o e => by have := (h.2.2 b o e).1; omega, h.2.1.stay s fun b o e => ⟨(h.2.2 b o e).2, by have := (h.2.2 b o e).1; omega⟩, fun b o e => ⟨(h.2.2 b o e).1, Nat.lt_of_lt_of_le (h.2.2 b o e).2 s.size⟩⟩
theorem Ls.own {α : Type} {n sz k c e B g : Nat} {L : α → List Value} (hL : ∀ x, (L x).length = sz) {v : Value} {W : World} {l : List α} {rest : List Value} (hl : l.length = k) (h : W.ownsRow B e sz (.slice (some ⟨g, 0, none⟩) (k + 1) c) (k + 1) (l.flatMap L ++ v :: rest)) (hB : n < B) : Ls n L sz v W (some ⟨g, 0, none⟩) k c l := by
  refine ⟨rv_own hL h, mk_own hL hl h, fun b o e => ?_⟩
  cases e
  exact ⟨Nat.lt_of_lt_of_le hB (h.lt g rfl).1, (h.lt g rfl).2⟩
abbrev mt0 : Array Value := #[.string ⟨#[]⟩, .string ⟨#[]⟩, .string ⟨#[]⟩, .string ⟨#[]⟩, .int .i64 0, .int .u64 0, .int .i64 0, .int .i64 0, .int .i64 0, .string ⟨#[]⟩, .string ⟨#[]⟩, .slice none 0 0, .slice none 0 0, .slice none 0 0, .bool false, .int .u64 0, .int .u64 0, .bool false, .int .i64 0, .int .u64 0, .int .u64 0, .int .i64 0, .int .i64 0, .bool false, .int .u64 0, .string ⟨#[]⟩, .slice none 0 0]
/-- The three variables of twin. -/
structure Twn (w W : World) (m n2 : Mt) : Prop where
  bx : Bx W w.heap.size m
  rs : W.heap[w.heap.size + 1]? = some (.cells mt0 36 (0, 0))
  bn : Bx W (w.heap.size + 2) n2
  bel : Below w.heap.size w W
  sz : w.heap.size + 3 ≤ W.heap.size
theorem Twn.stay {w W W' : World} {m n2 n3 : Mt} (h : Twn w W m n2) (s : Stay (w.heap.size + 2) W W') (hn : Bx W' (w.heap.size + 2) n3) : Twn w W' m n3 := by
  have := h.sz
  exact ⟨(s.block _ (by omega) (by omega)).trans h.bx, (s.block _ (by omega) (by omega)).trans h.rs, hn, h.bel.trans (s.below (by omega) (by omega)), Nat.le_trans h.sz s.size⟩
theorem bx_set {W : World} {b : Nat} {m n3 : Mt} {o : Nat} {v : Value} (h : Bx W b m) (he : (mtC m).setIfInBounds o v = mtC n3) : Bx (W.setCell ⟨b, o, none⟩ v) b n3 := by
  unfold Bx
  rw [heap_setCell_same W b o _ 36 v h, he]
theorem frozen_bx {W : World} {b o : Nat} {m : Mt} (h : Bx W b m) : W.frozen? ⟨b, o, none⟩ = false := frozen_of_row W b o _ 36 h
def setL : List Value → Nat → List Value → List Value
  | cur, _, [] => cur
  | cur, o, v :: r => setL (cur.set o v) (o + 1) r
theorem setL_at : ∀ (vs cur : List Value) (o : Nat), o + vs.length ≤ cur.length → setL cur o vs = cur.take o ++ vs ++ cur.drop (o + vs.length)
  | [], cur, o, h => by simp [setL]
  | v :: r, cur, o, h => by
    simp only [List.length_cons] at h
    rw [setL, setL_at r (cur.set o v) (o + 1) (by simp; omega)]
    rw [List.take_set, List.drop_set_of_lt (by omega), List.take_add_one, List.set_append_right _ _ (by simp; omega), List.length_take, Nat.min_eq_left (by omega), Nat.sub_self]
    rw [List.getElem?_eq_getElem (by omega)]
    simp
    congr 1
    omega
theorem setCells_heap (b t : Nat) : ∀ (vs : List Value) (o : Nat) (w : World) (cur : Array Value), w.heap[b]? = some (.cells cur t (0, 0)) → (w.setCells b o vs).heap[b]? = some (.cells (setL cur.toList o vs).toArray t (0, 0))
  | [], o, w, cur, h => by simpa [World.setCells, setL] using h
  | v :: r, o, w, cur, h => by
    have := setCells_heap b t r (o + 1) (w.setCell ⟨b, o, none⟩ v) _ (heap_setCell_same w b o cur t v h)
    simpa [World.setCells, setL] using this
theorem setCells_stay (b : Nat) : ∀ (vs : List Value) (o : Nat) (w : World), Stay b w (w.setCells b o vs)
  | [], o, w => Stay.refl b w
  | v :: r, o, w => ((Stay.refl b w).set o v).trans (setCells_stay b r (o + 1) _)
theorem mtC_one (m : Mt) : (mtC m).all (·.oneCell') = true := by simp [Value.oneCell']
theorem wpList_store_box {w : World} {ops : Array Oper} {rest : List Oper} {o : Oper} {a : Act} {Q : Exit → Act → World → Prop} (hgd : o.guard = none) (x y : Operand) (ho : o.op = .store 36 x y) (m : Mt) (b : Nat) (cur : Array Value) (hx : a.eval x = .pointer (some ⟨b, 0, none⟩)) (hy : a.eval y = .agg (mtC m))
    (hb : w.heap[b]? = some (.cells cur 36 (0, 0))) (hc : cur.size = 27) (h : ∀ u, Bx u b m → Stay b w u → wpList Try.prog ops Q rest (a.put o.dst undef) u) : wpList Try.prog ops Q (o :: rest) a w := by
  refine wpList_store_mid hgd 36 x y ho b 0 (mtC m) hx hy (fun j hj => ?_) (size36 m) (mtC_one m) (h _ ?_ (setCells_stay b _ 0 w))
  · rw [Nat.zero_add]
    refine ⟨?_, frozen_of_row w b j cur 36 hb⟩
    rw [cell_of_row w b j cur 36 (0, 0) hb]
    have hj' : j < 27 := hj
    simp [hc, hj']
  · unfold Bx
    rw [setCells_heap b 36 _ 0 w cur hb, setL_at _ _ _ (by simp [hc])]
    simp [hc]
theorem alloc36 (u : World) : (Instr.alloc 36 true (.tuple #[])).run Try.prog u = .ok (.pointer (some ⟨u.heap.size, 0, none⟩)) (u.alloc (.cells mt0 36)) := by go_simp
theorem wpList_alloc_box {w : World} {ops : Array Oper} {rest : List Oper} {o : Oper} {a : Act} {Q : Exit → Act → World → Prop} (hgd : o.guard = none) (ho : o.op = .alloc 36)
    (h : ∀ u b, u.heap[b]? = some (.cells mt0 36 (0, 0)) → Below w.heap.size w u → b = w.heap.size → u.heap.size = b + 1 → wpList Try.prog ops Q rest (a.put o.dst (.pointer (some ⟨b, 0, none⟩))) u) : wpList Try.prog ops Q (o :: rest) a w := by
  refine wpList_plain hgd fun K hK => ?_
  unfold Oper.wp execOp
  simp only [ho, Sem.run_bind, alloc36 w, Result.andThen_ok]
  exact hK _ _ (h _ _ (heap_alloc_new w _) ((Below.refl _ w).alloc (Nat.le_refl _) _) rfl (by simp))
abbrev mk47 := (⟨-77, 0, 0, 0, ⟨#[]⟩, ⟨#[]⟩, 0, 0, 0⟩ : Slo)
theorem bs27_0 (u : World) : (Instr.buildSlice 27 0 #[]).run Try.prog u = .ok (.slice (some ⟨u.heap.size, 0, none⟩) 0 0) (u.alloc (.cells #[] 47)) := by
  go_simp
theorem fill47m : Instr.fill (fun i => some (i * 9, 9)) ((Array.range (1 * 9)).map ((Value.agg #[.int .i64 0, .int .i64 0, .int .i64 0, .int .i64 0, .string ⟨#[]⟩, .string ⟨#[]⟩, .int .i64 0, .int .i64 0, .int .i64 0]).cells[· % (Value.agg #[.int .i64 0, .int .i64 0, .int .i64 0, .int .i64 0, .string ⟨#[]⟩, .string ⟨#[]⟩, .int .i64 0, .int .i64 0, .int .i64 0]).cells.size]!)) [(0, .agg #[.int .i64 (-77), .int .i64 0, .int .i64 0, .int .i64 0, .string ⟨#[]⟩, .string ⟨#[]⟩, .int .i64 0, .int .i64 0, .int .i64 0])] = some #[.int .i64 (-77), .int .i64 0, .int .i64 0, .int .i64 0, .string ⟨#[]⟩, .string ⟨#[]⟩, .int .i64 0, .int .i64 0, .int .i64 0] := by kernel_rfl
theorem bs27_1 (u : World) : (Instr.buildSlice 27 1 #[(0, .agg #[.int .i64 (-77), .int .i64 0, .int .i64 0, .int .i64 0, .string ⟨#[]⟩, .string ⟨#[]⟩, .int .i64 0, .int .i64 0, .int .i64 0])]).run Try.prog u = .ok (.slice (some ⟨u.heap.size, 0, none⟩) 1 1) (u.alloc (.cells (sloL mk47).toArray 47)) := by
  obtain ⟨i, hi, hz0, hz1, hz2⟩ := info_parts info47
  refine run_buildSlice u 27 47 1 _ _ i _ Try.underlying27 hi hz0 (by rw [hz1]; decide) (by rw [hz1]; decide) ?_
  rw [hz1]
  exact fill47m
theorem built47m : Try.prog.built 47 [(0, .int .i64 (-77))] = some #[.int .i64 (-77), .int .i64 0, .int .i64 0, .int .i64 0, .string ⟨#[]⟩, .string ⟨#[]⟩, .int .i64 0, .int .i64 0, .int .i64 0] := by kernel_rfl
abbrev mk49 := (⟨77, ⟨#[]⟩, ⟨#[]⟩, ⟨#[]⟩, ⟨#[]⟩⟩ : Epo)
theorem bs28_0 (u : World) : (Instr.buildSlice 28 0 #[]).run Try.prog u = .ok (.slice (some ⟨u.heap.size, 0, none⟩) 0 0) (u.alloc (.cells #[] 49)) := by
  go_simp
theorem fill49m : Instr.fill (fun i => some (i * 5, 5)) ((Array.range (1 * 5)).map ((Value.agg #[.int .u64 0, .string ⟨#[]⟩, .string ⟨#[]⟩, .string ⟨#[]⟩, .string ⟨#[]⟩]).cells[· % (Value.agg #[.int .u64 0, .string ⟨#[]⟩, .string ⟨#[]⟩, .string ⟨#[]⟩, .string ⟨#[]⟩]).cells.size]!)) [(0, .agg #[.int .u64 77, .string ⟨#[]⟩, .string ⟨#[]⟩, .string ⟨#[]⟩, .string ⟨#[]⟩])] = some #[.int .u64 77, .string ⟨#[]⟩, .string ⟨#[]⟩, .string ⟨#[]⟩, .string ⟨#[]⟩] := by kernel_rfl
theorem bs28_1 (u : World) : (Instr.buildSlice 28 1 #[(0, .agg #[.int .u64 77, .string ⟨#[]⟩, .string ⟨#[]⟩, .string ⟨#[]⟩, .string ⟨#[]⟩])]).run Try.prog u = .ok (.slice (some ⟨u.heap.size, 0, none⟩) 1 1) (u.alloc (.cells (epoL mk49).toArray 49)) := by
  obtain ⟨i, hi, hz0, hz1, hz2⟩ := info_parts info49
  refine run_buildSlice u 28 49 1 _ _ i _ Try.underlying28 hi hz0 (by rw [hz1]; decide) (by rw [hz1]; decide) ?_
  rw [hz1]
  exact fill49m
theorem built49m : Try.prog.built 49 [(0, .int .u64 77)] = some #[.int .u64 77, .string ⟨#[]⟩, .string ⟨#[]⟩, .string ⟨#[]⟩, .string ⟨#[]⟩] := by kernel_rfl
abbrev mk51 := ((77, 0, 0) : Int × Int × Int)
theorem bs29_0 (u : World) : (Instr.buildSlice 29 0 #[]).run Try.prog u = .ok (.slice (some ⟨u.heap.size, 0, none⟩) 0 0) (u.alloc (.cells #[] 51)) := by
  go_simp
theorem fill51m : Instr.fill (fun i => some (i * 3, 3)) ((Array.range (1 * 3)).map ((Value.agg #[.int .u64 0, .int .u64 0, .int .u64 0]).cells[· % (Value.agg #[.int .u64 0, .int .u64 0, .int .u64 0]).cells.size]!)) [(0, .agg #[.int .u64 77, .int .u64 0, .int .u64 0])] = some #[.int .u64 77, .int .u64 0, .int .u64 0] := by kernel_rfl
theorem bs29_1 (u : World) : (Instr.buildSlice 29 1 #[(0, .agg #[.int .u64 77, .int .u64 0, .int .u64 0])]).run Try.prog u = .ok (.slice (some ⟨u.heap.size, 0, none⟩) 1 1) (u.alloc (.cells (sgZ mk51).toArray 51)) := by
  obtain ⟨i, hi, hz0, hz1, hz2⟩ := info_parts info51
  refine run_buildSlice u 29 51 1 _ _ i _ Try.underlying29 hi hz0 (by rw [hz1]; decide) (by rw [hz1]; decide) ?_
  rw [hz1]
  exact fill51m
theorem built51m : Try.prog.built 51 [(0, .int .u64 77)] = some #[.int .u64 77, .int .u64 0, .int .u64 0] := by kernel_rfl
abbrev mk45 := (⟨-77, ⟨#[]⟩, none, 0, 0, ⟨#[]⟩⟩ : Tk)
theorem bs34_0 (u : World) : (Instr.buildSlice 34 0 #[]).run Try.prog u = .ok (.slice (some ⟨u.heap.size, 0, none⟩) 0 0) (u.alloc (.cells #[] 45)) := by
  go_simp
theorem fill45m : Instr.fill (fun i => some (i * 4, 4)) ((Array.range (1 * 4)).map ((Value.agg #[.int .i64 0, .string ⟨#[]⟩, .slice none 0 0, .string ⟨#[]⟩]).cells[· % (Value.agg #[.int .i64 0, .string ⟨#[]⟩, .slice none 0 0, .string ⟨#[]⟩]).cells.size]!)) [(0, .agg #[.int .i64 (-77), .string ⟨#[]⟩, .slice none 0 0, .string ⟨#[]⟩])] = some #[.int .i64 (-77), .string ⟨#[]⟩, .slice none 0 0, .string ⟨#[]⟩] := by kernel_rfl
theorem bs34_1 (u : World) : (Instr.buildSlice 34 1 #[(0, .agg #[.int .i64 (-77), .string ⟨#[]⟩, .slice none 0 0, .string ⟨#[]⟩])]).run Try.prog u = .ok (.slice (some ⟨u.heap.size, 0, none⟩) 1 1) (u.alloc (.cells (tkL mk45).toArray 45)) := by
  obtain ⟨i, hi, hz0, hz1, hz2⟩ := info_parts info45
  refine run_buildSlice u 34 45 1 _ _ i _ Try.underlying34 hi hz0 (by rw [hz1]; decide) (by rw [hz1]; decide) ?_
  rw [hz1]
  exact fill45m
theorem built45m : Try.prog.built 45 [(0, .int .i64 (-77))] = some #[.int .i64 (-77), .string ⟨#[]⟩, .slice none 0 0, .string ⟨#[]⟩] := by kernel_rfl
end Go.Proofs.Ytchfbanehohjoaa
