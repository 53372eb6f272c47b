import Derived.Test.YtffejkfkkciaaaaEsa
import Derived.OwnWalk
import Derived.Deep.Cut
import Derived.Laws.ResultCell
import Derived.Deep.MidRow
namespace Go.Proofs.Ytffejkfkkciaaaa
open Go.RowKit
set_option linter.unusedVariables false
theorem ret_agg_tmp {P : Program} {fn : Func} {p t : Tmp} {ty : TypeId} {d : TypeDesc} {Q : Ending → World → Prop} {tmps : Array Value} {w : World} {b : Nat} (cs : List Value) (v : Value) (h : fn.results = #[.cell p ty, .tmp t])
    (hp : tmps.getD p undef = .pointer (some ⟨b, 0, none⟩)) (ht : tmps.getD t undef = v) (hr : w.rangeAt b 0 cs) (hu : P.underlying ty = some d) (hd : d.isRow = true) (hi : (P.info? ty).map (·.size) = some cs.length)
    (hq : Q (.returned (.tuple #[.agg cs.toArray, v])) w) : bodyPost P fn Q .ret ⟨tmps, []⟩ w := by
  refine bodyPost_ret (v := .tuple #[.agg cs.toArray, v]) ?_ rfl hq
  rw [results_cell_tmp h]
  have hl := run_loadVar_mid (P := P) w b 0 ty cs d hr hu hd hi
  simp [hp, asAddr, hl, ht]
/-- A box: cells of a type in a block of their own. -/
def Bx (w : World) (b : Nat) (t : TypeId) (cs : List Value) : Prop := w.heap[b]? = some (.cells cs.toArray t (0, 0))
theorem Bx.lt {w : World} {b : Nat} {t : TypeId} {cs : List Value} (h : Bx w b t cs) : b < w.heap.size := (Array.getElem?_eq_some_iff.1 h).1
theorem Bx.keep {w w' : World} {b : Nat} {t : TypeId} {cs : List Value} (h : Bx w b t cs) (e : w'.heap[b]? = w.heap[b]?) : Bx w' b t cs := by
  unfold Bx at *; rw [e]; exact h
theorem Bx.below {w w' : World} {b : Nat} {t : TypeId} {cs : List Value} (h : Bx w b t cs) (hb : Below w.heap.size w w') : Bx w' b t cs := h.keep (hb.block b h.lt)
theorem Bx.cell {w : World} {b : Nat} {t : TypeId} {cs : List Value} (h : Bx w b t cs) (i : Nat) (v : Value) (hv : cs[i]? = some v) : w.cell? ⟨b, i, none⟩ = some v := by
  unfold Bx at h
  simp [World.cell?, h, hv]
theorem Bx.frozen {w : World} {b : Nat} {t : TypeId} {cs : List Value} (h : Bx w b t cs) (i : Nat) : w.frozen? ⟨b, i, none⟩ = false := by
  unfold Bx at h
  simp [World.frozen?, h]
theorem Bx.range {w : World} {b : Nat} {t : TypeId} {cs : List Value} (h : Bx w b t cs) : w.rangeAt b 0 cs := fun j u hj => by rw [Nat.zero_add]; exact h.cell j u hj
theorem Bx.new (w : World) (t : TypeId) (cs : List Value) : Bx (w.alloc (.cells cs.toArray t)) w.heap.size t cs := heap_alloc_new w _
theorem Bx.set {w : World} {b : Nat} {t : TypeId} {cs : List Value} (h : Bx w b t cs) (i : Nat) (v : Value) : Bx (w.setCell ⟨b, i, none⟩ v) b t (cs.set i v) := by
  unfold Bx at *
  rw [setCell_eq_setRow w b i cs.toArray t (0, 0) v h]
  rw [setRow_heap w b cs.toArray _ t (0, 0) h]
  simp
theorem gb_refl (w : World) (g : Option Nat) : w.grownBy w g := ⟨rfl, rfl, rfl, Nat.le_refl _, fun _ _ _ => rfl⟩
theorem gb_trans {w u v : World} {g : Nat} (h : w.grownBy u (some g)) (k : u.grownBy v (some g)) : w.grownBy v (some g) :=
  ⟨k.os.trans h.os, k.tape.trans h.tape, k.output.trans h.output, Nat.le_trans h.size k.size, fun i hi hn => (k.block i (Nat.lt_of_lt_of_le hi h.size) hn).trans (h.block i hi hn)⟩
theorem below_gb {w u : World} {B g : Nat} (h : w.grownBy u (some g)) (hB : B ≤ w.heap.size) (hg : B ≤ g) : Below B w u := ⟨h.os, h.tape, h.output, h.size, fun k hk => h.block k (by omega) (by intro e; injection e with e; omega)⟩
theorem bo_same (w : World) (b o : Nat) (cur : Array Value) (t : TypeId) (v : Value) (h : w.heap[b]? = some (.cells cur t (0, 0))) : (w.setCell ⟨b, o, none⟩ v).heap[b]? = some (.cells (cur.setIfInBounds o v) t (0, 0)) := by
  obtain ⟨hlt, hk⟩ := Array.getElem?_eq_some_iff.1 h
  show (w.heap.modify b _)[b]? = _
  rw [Array.getElem?_eq_getElem (by rw [Array.size_modify]; exact hlt), Array.getElem_modify_self, hk]
  rfl
theorem set_gb (w : World) (b o : Nat) (v : Value) : w.grownBy (w.setCell ⟨b, o, none⟩ v) (some b) := ⟨rfl, rfl, rfl, by simp [World.setCell], fun k _ hk => Below.heap_setCell w ⟨b, o, none⟩ v k (fun e => hk (by rw [e]))⟩
theorem setCells_bo (b t : Nat) : ∀ (vs : List Value) (o : Nat) (w : World) (cur : Array Value), w.heap[b]? = some (.cells cur t (0, 0)) → ∃ r, (w.setCells b o vs).heap[b]? = some (.cells r t (0, 0)) ∧ r.size = cur.size ∧ ∀ j, r[j]? = if o ≤ j ∧ j < o + vs.length ∧ j < cur.size then vs[j - o]? else cur[j]?
  | [], o, w, cur, h => ⟨cur, by simpa [World.setCells] using h, rfl, fun j => by rw [if_neg (by simp; omega)]⟩
  | v :: r, o, w, cur, h => by
    obtain ⟨q, h1, h2, h3⟩ := setCells_bo b t r (o + 1) (w.setCell ⟨b, o, none⟩ v) _ (bo_same w b o cur t v h)
    refine ⟨q, h1, by rw [h2]; simp, fun j => ?_⟩
    rw [h3]
    simp only [Array.size_setIfInBounds, List.length_cons]
    by_cases c1 : o + 1 ≤ j ∧ j < o + 1 + r.length ∧ j < cur.size
    · rw [if_pos c1, if_pos (by omega), show j - o = (j - (o + 1)) + 1 by omega]
      simp
    · rw [if_neg c1]
      by_cases c2 : o = j ∧ j < cur.size
      · obtain ⟨rfl, c3⟩ := c2
        rw [if_pos (by omega)]
        simp [c3]
      · rw [if_neg (by omega)]
        rw [Array.getElem?_setIfInBounds]
        split
        · rename_i e
          subst e
          rw [if_neg (by omega)]
          rw [Array.getElem?_eq_none (by omega)]
        · rfl
theorem setCells_gb (b : Nat) : ∀ (vs : List Value) (o : Nat) (w : World), w.grownBy (w.setCells b o vs) (some b)
  | [], _, w => gb_refl _ _
  | v :: r, o, w => by rw [World.setCells]; exact gb_trans (set_gb w b o v) (setCells_gb b r (o + 1) _)
theorem Bx.store {w : World} {b : Nat} {t : TypeId} {cs : List Value} (cs' : List Value) (h : Bx w b t cs) (hl : cs'.length = cs.length) : Bx (w.setCells b 0 cs') b t cs' := by
  obtain ⟨r, h1, h2, h3⟩ := setCells_bo b t cs' 0 w _ h
  have e : r = cs'.toArray := by
    apply Array.ext_getElem?
    intro j
    rw [h3]
    by_cases hj : j < cs.length
    · rw [if_pos ⟨Nat.zero_le _, by omega, by simpa using hj⟩, Nat.sub_zero]
      simp
    · rw [if_neg (by simp; omega), Array.getElem?_eq_none (by simp; omega), Array.getElem?_eq_none (by simp; omega)]
  unfold Bx
  rw [h1, e]
/-- A whole box is written. -/
theorem wpList_store_bx {P : Program} {w : World} {ops : Array Oper} {rest : List Oper} {o : Oper} {a : Act} {Q : Exit → Act → World → Prop} (hgd : o.guard = none) (t : TypeId) (x y : Operand) (ho : o.op = .store t x y) {bt : TypeId} (c c' : List Value) (g : Nat) (hx : a.eval x = .pointer (some ⟨g, 0, none⟩)) (hy : a.eval y = .agg c'.toArray)
    (hb : Bx w g bt c) (hl : c'.length = c.length) (hi : (P.info? t).map (·.size) = some c'.length) (h1 : ∀ v ∈ c', v.oneCell' = true) (h : ∀ u, Bx u g bt c' → w.grownBy u (some g) → wpList P ops Q rest (a.put o.dst undef) u) : wpList P ops Q (o :: rest) a w := by
  refine wpList_store_mid hgd t x y ho g 0 c'.toArray hx hy (fun j hj => ?_) (by simpa using hi) (all_oneCell_toArray h1) (h _ (hb.store c' hl) (setCells_gb g _ 0 w))
  rw [Nat.zero_add]
  have hj' : j < c.length := by rw [← hl]; simpa using hj
  refine ⟨?_, hb.frozen j⟩
  rw [hb.cell j _ (List.getElem?_eq_getElem hj')]
  rfl
theorem results_cell1 {fn : Func} {p : Tmp} {ty : TypeId} (h : fn.results = #[.cell p ty]) (tmps : Array Value) (P : Program) (w : World) :
    (results fn tmps).run P w = ((asAddr (tmps.getD p undef)).run P w).andThen fun a w₁ => (loadVar ty a).run P w₁ := by
  simp only [results, h]
  simp [Sem.run_bind, Result.andThen]
/-- A function that ends with an array, which lies in a cell of its own. -/
theorem ret_array {P : Program} {fn : Func} {p : Tmp} {ty : TypeId} {d : TypeDesc} {Q : Ending → World → Prop} {tmps : Array Value} {w : World} {b : Nat} (cs : List Value) (h : fn.results = #[.cell p ty])
    (hp : tmps.getD p undef = .pointer (some ⟨b, 0, none⟩)) (hr : w.rangeAt b 0 cs) (hu : P.underlying ty = some d) (hd : d.isRow = true) (hi : (P.info? ty).map (·.size) = some cs.length)
    (hq : Q (.returned (.agg cs.toArray)) w) : bodyPost P fn Q .ret ⟨tmps, []⟩ w := by
  refine bodyPost_ret (v := .agg cs.toArray) ?_ rfl hq
  rw [results_cell1 h]
  have hl := run_loadVar_mid (P := P) w b 0 ty cs d hr hu hd hi
  simp [hp, asAddr, hl]
theorem own_full1 {w : World} {base n g : Nat} {e : TypeId} {xs : List Value} (h : w.ownsRow base e 1 (.slice (some ⟨g, 0, none⟩) n n) n xs) : Bx w g e xs ∧ xs.length = n := by
  obtain ⟨h1, h2⟩ := h
  rcases h2 with ⟨q, _⟩ | ⟨g', cap, cur, q, _, hh, _, _, hs, ht⟩
  · cases q
  · injection q with q1 q2 q3
    injection q1 with q1
    injection q1 with q1
    subst q1 q3
    have : xs.toArray = cur := by
      rw [← ht, List.take_of_length_le (by simp; omega)]
    refine ⟨?_, by omega⟩
    unfold Bx; rw [hh, this]
theorem made_few (i n k b : Nat) (hb : b ≤ 64) (h : i = b) (hn : n ≤ 1024) : i * n ≤ 281474976710656 ∧ n ≤ maxLen := by
  subst h
  have : i * n ≤ 64 * 1024 := Nat.mul_le_mul hb hn
  exact ⟨by omega, by unfold maxLen; omega⟩
/-- Bytes as cells. -/
def fc (l : List F) : List Value := l.map fun c => .int .u8 (c.1 : Nat)
theorem fc_len (l : List F) : (fc l).length = l.length := by simp [fc]
theorem fc_at (l : List F) (i : Nat) (h : i < l.length) : (fc l)[i]? = some (.int .u8 ((l.getD i 0).1 : Nat)) := by
  simp [fc, List.getElem?_map, List.getElem?_eq_getElem h, List.getD_eq_getElem?_getD]
theorem fc_one (l : List F) : ∀ v ∈ fc l, v.oneCell' = true := by
  intro v hv
  simp only [fc, List.mem_map] at hv
  obtain ⟨c, _, rfl⟩ := hv
  rfl
theorem Bx.rw {w : World} {b : Nat} {l : List F} {t : TypeId} (h : Bx w b t (fc l)) : Rw w b 0 l := fun i hi => by
  rw [Nat.zero_add]; exact h.cell i _ (fc_at l i hi)
theorem Try.infoB : (Try.prog.info? 5).map (fun i => (i.zero, i.size, i.bytes)) = some (some (.int .u8 0), 1, 1) := by kernel_rfl
end Go.Proofs.Ytffejkfkkciaaaa
