import Derived.Test.YtmfnhdflmnmooaaEqs
import Derived.Deep.RegionHeld3
namespace Go.Proofs.Ytmfnhdflmnmooaa
open Go.RowKit
set_option linter.unusedVariables false
set_option linter.unusedSimpArgs false
/-- A keyslot. -/
structure Slo where
  n : Int
  p : Int
  h : Int
  t : Int
  s : ByteArray
  c : ByteArray
  st : Int
  o : Int
  z : Int
def sloL (x : Slo) : List Value := [.int .i64 x.n, .int .i64 x.p, .int .i64 x.h, .int .i64 x.t, .string x.s, .string x.c, .int .i64 x.st, .int .i64 x.o, .int .i64 x.z]
/-- An epoch. -/
structure Epo where
  n : Int
  a : ByteArray
  b : ByteArray
  c : ByteArray
  d : ByteArray
def epoL (x : Epo) : List Value := [.int .u64 x.n, .string x.a, .string x.b, .string x.c, .string x.d]
/-- Structs, where they lie. -/
def RV {α : Type} (L : α → List Value) (sz : Nat) (w : World) (p : Option Addr) (l : List α) : Prop :=
  l = [] ∨ ∃ b off, p = some ⟨b, off, none⟩ ∧ b < w.heap.size ∧ ∀ (i : Nat) (x : α), l[i]? = some x → ∀ (j : Nat) (u : Value), (L x)[j]? = some u → w.cell? ⟨b, off + i * sz + j, none⟩ = some u
theorem RV.below {α : Type} {L : α → List Value} {sz : Nat} {w w' : World} {p : Option Addr} {l : List α} (h : RV L sz w p l) (hB : Below w.heap.size w w') : RV L sz w' p l := by
  rcases h with h | ⟨b, off, hp, hb, hc⟩
  · exact .inl h
  · exact .inr ⟨b, off, hp, Nat.lt_of_lt_of_le hb hB.size, fun i x hx j u hu => (hB.cell (p := ⟨b, off + i * sz + j, none⟩) hb).trans (hc i x hx j u hu)⟩
theorem RV.get {α : Type} {L : α → List Value} {sz : Nat} {w : World} {p : Option Addr} {l : List α} (h : RV L sz w p l) {k : Nat} {x : α} (hx : l[k]? = some x) : ∃ b off, p = some ⟨b, off, none⟩ ∧ b < w.heap.size ∧ ∀ (j : Nat) (u : Value), (L x)[j]? = some u → w.cell? ⟨b, off + k * sz + j, none⟩ = some u := by
  rcases h with rfl | ⟨b, off, hp, hb, hc⟩
  · simp at hx
  · exact ⟨b, off, hp, hb, hc k x hx⟩
/-- Other lists. -/
structure Ptr where
  sp : Option Addr
  sc : Nat
  ep : Option Addr
  ec : Nat
  gp : Option Addr
  gc : Nat
  tp : Option Addr
  tc : Nat
/-- Metadata with other lists of the same lengths. -/
abbrev Mt.at (m : Mt) (q : Ptr) : Mt := { m with sp := q.sp, sc := q.sc, ep := q.ep, ec := q.ec, gp := q.gp, gc := q.gc, tp := q.tp, tc := q.tc }
def SmR (w wr : World) (m m2 : Mt) : Prop := Bx wr w.heap.size m ∧ Bx wr (w.heap.size + 1) m2 ∧ Below w.heap.size w wr ∧ w.heap.size + 2 ≤ wr.heap.size
theorem SmR.step {w wr wr' : World} {m m2 : Mt} (h : SmR w wr m m2) (hb : Below wr.heap.size wr wr') : SmR w wr' m m2 :=
  ⟨h.1.below hb, h.2.1.below hb, h.2.2.1.trans (hb.mono (by have := h.2.2.2; omega)), by have := h.2.2.2; have := hb.size; omega⟩
theorem below_drewN (w : World) (n : Nat) : Below w.heap.size w (w.drewN n) := ⟨rfl, rfl, rfl, Nat.le_refl _, fun _ _ => rfl⟩
theorem SmR.start (w : World) (m m2 : Mt) : SmR w ((w.alloc (.cells (mtC m) 36)).alloc (.cells (mtC m2) 36)) m m2 := by
  refine ⟨?_, ?_, ?_, ?_⟩
  · exact (show Bx (w.alloc (.cells (mtC m) 36)) w.heap.size m from World.alloc_heap_new w _).below (below_alloc1 _ _)
  · have h : Bx ((w.alloc (.cells (mtC m) 36)).alloc (.cells (mtC m2) 36)) (w.alloc (.cells (mtC m) 36)).heap.size m2 := World.alloc_heap_new _ _
    simpa using h
  · exact (below_alloc1 w _).trans ((below_alloc1 _ _).mono (by simp))
  · simp
theorem cell_below {w w' : World} (h : Below w.heap.size w w') {a : Addr} {v : Value} (hc : w.cell? a = some v) : w'.cell? a = some v := (h.cell (p := a) (World.block_lt_of_cell? w a hc)).trans hc
theorem SegV.below {w w' : World} {v : Value} {n : Nat} {f : Nat → Int × Int × Int} (h : SegV w v n f) (hB : Below w.heap.size w w') : SegV w' v n f := by
  obtain ⟨p, c, hv, h⟩ := h
  exact ⟨p, c, hv, fun hn => by obtain ⟨g, o, hp, hl⟩ := h hn; exact ⟨g, o, hp, fun i hi => ⟨cell_below hB (hl i hi).1, cell_below hB (hl i hi).2.1, cell_below hB (hl i hi).2.2⟩⟩⟩
/-- Both tokens' numbers are the same lists. -/
def TkE (w : World) (T T2 : List Tk) : Prop := ∀ (i : Nat) (x y : Tk), T[i]? = some x → T2[i]? = some y → x.n = y.n ∧ x.s = y.s ∧ x.z = y.z ∧ ∃ zs, View w (.slice x.p x.l x.c) zs ∧ View w (.slice y.p y.l y.c) zs
end Go.Proofs.Ytmfnhdflmnmooaa
