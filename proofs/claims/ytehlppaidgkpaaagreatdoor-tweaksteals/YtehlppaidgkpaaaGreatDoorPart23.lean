import Derived.Test.YtehlppaidgkpaaaGreatDoorNme
import Derived.Laws.ResultCell
import Derived.Deep.MidRow
import Derived.Deep.Cut
import Derived.Test.YtehlppaidgkpaaaGreatDoorPart21
import Derived.Lib.LazyBuf
import Derived.Laws.Concat
namespace Go.Proofs.YtehlppaidgkpaaaGreatDoor
open Go.RowKit
set_option linter.unusedVariables false
theorem ret_agg_tmp {P : Program} {fn : Func} {p t : Tmp} {ty : TypeId} {d : TypeDesc} {Q : Ending → World → Prop} {tmps : Array Value} {w : World} {b : Nat} (cs : List Value) (v : Value) (h : fn.results = #[.cell p ty, .tmp t])
    (hp : tmps.getD p undef = .pointer (some ⟨b, 0, none⟩)) (ht : tmps.getD t undef = v) (hr : w.rangeAt b 0 cs) (hu : P.underlying ty = some d) (hd : d.isRow = true) (hi : (P.info? ty).map (·.size) = some cs.length)
    (hq : Q (.returned (.tuple #[.agg cs.toArray, v])) w) : bodyPost P fn Q .ret ⟨tmps, []⟩ w := by
  refine bodyPost_ret (v := .tuple #[.agg cs.toArray, v]) ?_ rfl hq
  rw [results_cell_tmp h]
  have hl := run_loadVar_mid (P := P) w b 0 ty cs d hr hu hd hi
  simp [hp, asAddr, hl, ht]
theorem bytes_inj {a b : ByteArray} (h : a.toList = b.toList) : a = b := by
  rw [Lib.toList_data, Lib.toList_data] at h
  cases a; cases b
  simp at h
  rw [h]
/-- A box: cells of a type in a block of their own. -/
def Bx (w : World) (b : Nat) (t : TypeId) (cs : List Value) : Prop := w.heap[b]? = some (.cells cs.toArray t (0, 0))
theorem Bx.lt {w : World} {b : Nat} {t : TypeId} {cs : List Value} (h : Bx w b t cs) : b < w.heap.size := (Array.getElem?_eq_some_iff.1 h).1
theorem Bx.keep {w w' : World} {b : Nat} {t : TypeId} {cs : List Value} (h : Bx w b t cs) (e : w'.heap[b]? = w.heap[b]?) : Bx w' b t cs := by
  unfold Bx at *; rw [e]; exact h
theorem Bx.below {w w' : World} {b : Nat} {t : TypeId} {cs : List Value} (h : Bx w b t cs) (hb : Below w.heap.size w w') : Bx w' b t cs := h.keep (hb.block b h.lt)
theorem Bx.cell {w : World} {b : Nat} {t : TypeId} {cs : List Value} (h : Bx w b t cs) (i : Nat) (v : Value) (hv : cs[i]? = some v) : w.cell? ⟨b, i, none⟩ = some v := by
  unfold Bx at h
  simp [World.cell?, h, hv]
theorem Bx.frozen {w : World} {b : Nat} {t : TypeId} {cs : List Value} (h : Bx w b t cs) (i : Nat) : w.frozen? ⟨b, i, none⟩ = false := by
  unfold Bx at h
  simp [World.frozen?, h]
theorem Bx.range {w : World} {b : Nat} {t : TypeId} {cs : List Value} (h : Bx w b t cs) : w.rangeAt b 0 cs := fun j u hj => by rw [Nat.zero_add]; exact h.cell j u hj
theorem Bx.new (w : World) (t : TypeId) (cs : List Value) : Bx (w.alloc (.cells cs.toArray t)) w.heap.size t cs := heap_alloc_new w _
theorem Bx.set {w : World} {b : Nat} {t : TypeId} {cs : List Value} (h : Bx w b t cs) (i : Nat) (v : Value) : Bx (w.setCell ⟨b, i, none⟩ v) b t (cs.set i v) := by
  unfold Bx at *
  rw [setCell_eq_setRow w b i cs.toArray t (0, 0) v h]
  rw [setRow_heap w b cs.toArray _ t (0, 0) h]
  simp
theorem gb_refl (w : World) (g : Option Nat) : w.grownBy w g := ⟨rfl, rfl, rfl, Nat.le_refl _, fun _ _ _ => rfl⟩
theorem gb_trans {w u v : World} {g : Nat} (h : w.grownBy u (some g)) (k : u.grownBy v (some g)) : w.grownBy v (some g) :=
  ⟨k.os.trans h.os, k.tape.trans h.tape, k.output.trans h.output, Nat.le_trans h.size k.size, fun i hi hn => (k.block i (Nat.lt_of_lt_of_le hi h.size) hn).trans (h.block i hi hn)⟩
theorem below_gb {w u : World} {B g : Nat} (h : w.grownBy u (some g)) (hB : B ≤ w.heap.size) (hg : B ≤ g) : Below B w u := ⟨h.os, h.tape, h.output, h.size, fun k hk => h.block k (by omega) (by intro e; injection e with e; omega)⟩
theorem bo_same (w : World) (b o : Nat) (cur : Array Value) (t : TypeId) (v : Value) (h : w.heap[b]? = some (.cells cur t (0, 0))) : (w.setCell ⟨b, o, none⟩ v).heap[b]? = some (.cells (cur.setIfInBounds o v) t (0, 0)) := by
  obtain ⟨hlt, hk⟩ := Array.getElem?_eq_some_iff.1 h
  show (w.heap.modify b _)[b]? = _
  rw [Array.getElem?_eq_getElem (by rw [Array.size_modify]; exact hlt), Array.getElem_modify_self, hk]
  rfl
theorem set_gb (w : World) (b o : Nat) (v : Value) : w.grownBy (w.setCell ⟨b, o, none⟩ v) (some b) := ⟨rfl, rfl, rfl, by simp [World.setCell], fun k _ hk => Below.heap_setCell w ⟨b, o, none⟩ v k (fun e => hk (by rw [e]))⟩
theorem setCells_bo (b t : Nat) : ∀ (vs : List Value) (o : Nat) (w : World) (cur : Array Value), w.heap[b]? = some (.cells cur t (0, 0)) → ∃ r, (w.setCells b o vs).heap[b]? = some (.cells r t (0, 0)) ∧ r.size = cur.size ∧ ∀ j, r[j]? = if o ≤ j ∧ j < o + vs.length ∧ j < cur.size then vs[j - o]? else cur[j]?
  | [], o, w, cur, h => ⟨cur, by simpa [World.setCells] using h, rfl, fun j => by rw [if_neg (by simp; omega)]⟩
  | v :: r, o, w, cur, h => by
    obtain ⟨q, h1, h2, h3⟩ := setCells_bo b t r (o + 1) (w.setCell ⟨b, o, none⟩ v) _ (bo_same w b o cur t v h)
    refine ⟨q, h1, by rw [h2]; simp, fun j => ?_⟩
    rw [h3]
    simp only [Array.size_setIfInBounds, List.length_cons]
    by_cases c1 : o + 1 ≤ j ∧ j < o + 1 + r.length ∧ j < cur.size
    · rw [if_pos c1, if_pos (by omega), show j - o = (j - (o + 1)) + 1 by omega]
      simp
    · rw [if_neg c1]
      by_cases c2 : o = j ∧ j < cur.size
      · obtain ⟨rfl, c3⟩ := c2
        rw [if_pos (by omega)]
        simp [c3]
      · rw [if_neg (by omega)]
        rw [Array.getElem?_setIfInBounds]
        split
        · rename_i e
          subst e
          rw [if_neg (by omega)]
          rw [Array.getElem?_eq_none (by omega)]
        · rfl
theorem setCells_gb (b : Nat) : ∀ (vs : List Value) (o : Nat) (w : World), w.grownBy (w.setCells b o vs) (some b)
  | [], _, w => gb_refl _ _
  | v :: r, o, w => by rw [World.setCells]; exact gb_trans (set_gb w b o v) (setCells_gb b r (o + 1) _)
theorem Bx.store {w : World} {b : Nat} {t : TypeId} {cs : List Value} (cs' : List Value) (h : Bx w b t cs) (hl : cs'.length = cs.length) : Bx (w.setCells b 0 cs') b t cs' := by
  obtain ⟨r, h1, h2, h3⟩ := setCells_bo b t cs' 0 w _ h
  have e : r = cs'.toArray := by
    apply Array.ext_getElem?
    intro j
    rw [h3]
    by_cases hj : j < cs.length
    · rw [if_pos ⟨Nat.zero_le _, by omega, by simpa using hj⟩, Nat.sub_zero]
      simp
    · rw [if_neg (by simp; omega), Array.getElem?_eq_none (by simp; omega), Array.getElem?_eq_none (by simp; omega)]
  unfold Bx
  rw [h1, e]
/-- A whole box is written. -/
theorem wpList_store_bx {P : Program} {w : World} {ops : Array Oper} {rest : List Oper} {o : Oper} {a : Act} {Q : Exit → Act → World → Prop} (hgd : o.guard = none) (t : TypeId) (x y : Operand) (ho : o.op = .store t x y) {bt : TypeId} (c c' : List Value) (g : Nat) (hx : a.eval x = .pointer (some ⟨g, 0, none⟩)) (hy : a.eval y = .agg c'.toArray)
    (hb : Bx w g bt c) (hl : c'.length = c.length) (hi : (P.info? t).map (·.size) = some c'.length) (h1 : ∀ v ∈ c', v.oneCell' = true) (h : ∀ u, Bx u g bt c' → w.grownBy u (some g) → wpList P ops Q rest (a.put o.dst undef) u) : wpList P ops Q (o :: rest) a w := by
  refine wpList_store_mid hgd t x y ho g 0 c'.toArray hx hy (fun j hj => ?_) (by simpa using hi) (all_oneCell_toArray h1) (h _ (hb.store c' hl) (setCells_gb g _ 0 w))
  rw [Nat.zero_add]
  have hj' : j < c.length := by rw [← hl]; simpa using hj
  refine ⟨?_, hb.frozen j⟩
  rw [hb.cell j _ (List.getElem?_eq_getElem hj')]
  rfl
end Go.Proofs.YtehlppaidgkpaaaGreatDoor
namespace Go.Proofs.YtehlppaidgkpaaaGreatDoor
open Go.RowKit
set_option linter.unusedVariables false
set_option linter.unusedSimpArgs false
theorem view_lt {w : World} {v : Value} {zs : List Int} (hv : View w v zs) (h0 : zs ≠ []) : ∀ b off l c, v = .slice (some ⟨b, off, none⟩) l c → b < w.heap.size := fun b off l c e => by
  obtain ⟨a, cap, e1, h1, h2, h3, h4⟩ := hv
  rcases h4 with h4 | ⟨b', p', e2, hc⟩
  · exact absurd h4 h0
  · rw [e] at e1
    injection e1 with e3 _ _
    rw [e2] at e3
    injection e3 with e3
    injection e3 with e4 _
    have := World.block_lt_of_cell? w _ (hc 0 (by cases zs with | nil => exact absurd rfl h0 | cons _ _ => simp))
    simp at this
    omega
theorem view_sliced {w : World} {a : Option Addr} {n cap : Nat} {zs : List Int} (hv : View w (.slice a n cap) zs) (i j : Nat) (hij : i ≤ j) (hj : j ≤ n) : View w (sliced a i j cap 1) ((zs.drop i).take (j - i)) := by
  obtain ⟨a', c, he, h1, h2, h3, h4⟩ := hv
  injection he with e1 e2 e3
  subst e1 e2 e3
  have hl : ((zs.drop i).take (j - i)).length = j - i := by simp; omega
  refine ⟨if cap = i then a else a.map (·.add (i * 1)), cap - i, by rw [sliced, hl], by omega, by omega, ?_, ?_⟩
  · intro e
    split at e
    · omega
    · have : a = none := by cases a with | none => rfl | some x => cases e
      have := h3 this
      omega
  · by_cases hz : (zs.drop i).take (j - i) = []
    · exact .inl hz
    · right
      have hlt : i < j := by
        by_cases hlt : i < j
        · exact hlt
        · exact absurd (by rw [show j - i = 0 by omega, List.take_zero]) hz
      rcases h4 with rfl | ⟨b, off, rfl, hc⟩
      · simp at hj; omega
      · refine ⟨b, off + i, ?_, fun k hk => ?_⟩
        · rw [if_neg (by omega), Option.map_some, Nat.mul_one, Addr.add_mid]
        · rw [hl] at hk
          rw [Nat.add_assoc, hc (i + k) (by omega)]
          simp [List.getD, List.getElem?_take, hk]
theorem elem22 : Tryz.prog.elem 22 = 5 := by kernel_rfl
theorem und22 : Tryz.prog.underlying 22 = some (.slice (Tryz.prog.elem 22)) := by kernel_rfl
theorem sizeOf5 (w : World) : (Go.sizeOf 5).run Tryz.prog w = .ok 1 w := by kernel_rfl
theorem slice_lh (w : World) (a : Option Addr) (n cap i j : Nat) (hij : i ≤ j) (hj : j ≤ cap) : (Instr.slice 22 (.slice a n cap) (some (.int .i64 i)) (some (.int .i64 j)) none).run Tryz.prog w = .ok (sliced a i j cap 1) w := by
  rw [run_slice_lh w 22 a n cap und22 .i64 .i64 i j (by omega) (by omega) (by omega), elem22, sizeOf5]
  simp [Result.andThen]
theorem slice_h (w : World) (a : Option Addr) (n cap j : Nat) (hj : j ≤ cap) : (Instr.slice 22 (.slice a n cap) none (some (.int .i64 j)) none).run Tryz.prog w = .ok (sliced a 0 j cap 1) w := by
  rw [run_slice_h w 22 a n cap und22 .i64 j (by omega) (by omega), elem22, sizeOf5]
  simp [Result.andThen]
theorem slice_l (w : World) (a : Option Addr) (n cap i : Nat) (hi : i ≤ n) (hn : n ≤ cap) : (Instr.slice 22 (.slice a n cap) (some (.int .i64 i)) none none).run Tryz.prog w = .ok (sliced a i n cap 1) w := by
  rw [run_slice_l w 22 a n cap und22 .i64 i (by omega) (by omega), elem22, sizeOf5]
  simp [Result.andThen]

/-- A list of bytes as numbers. -/
def nat8 (zs : List Int) (i : Nat) : Nat := (zs.getD i 0).toNat
theorem nat8_lt {zs : List Int} (h : AllBytes zs) (i : Nat) : nat8 zs i < 256 := by have := h i; unfold nat8; omega
theorem nat8_eq {zs : List Int} (h : AllBytes zs) (i : Nat) : ((nat8 zs i : Nat) : Int) = zs.getD i 0 := by have := h i; unfold nat8; omega
theorem View.below {w u : World} {v : Value} {zs : List Int} (h : View w v zs) (hb : Below w.heap.size w u) : View u v zs := h.kept hb.block
/-- What is owned can be read. -/
theorem view_owns {w : World} {B n : Nat} {v : Value} {zs : List Int} (h : w.ownsRow B 5 1 v n (cellsU8 zs)) (hn : zs.length = n) : View w v zs := by
  have h0 := h
  rcases h.2 with ⟨rfl, e0⟩ | ⟨g, c, cur, rfl, q1, q2, q3, q4, q5, q6⟩
  · refine ⟨none, 0, by rw [hn, e0], by omega, by simp [maxLen], fun _ => rfl, Or.inl (List.eq_nil_of_length_eq_zero (by omega))⟩
  · refine ⟨some ⟨g, 0, none⟩, c, by rw [hn], by omega, q4, (fun e => by cases e), Or.inr ⟨g, 0, rfl, fun i hi => ?_⟩⟩
    have hc := h0.cells (g := g) rfl i (.int .u8 (zs.getD i 0)) (by simp [cellsU8, List.getD, List.getElem?_eq_getElem hi])
    rw [Addr.add_lit] at hc
    exact hc

theorem vcells {w : World} {x : Addr} {n c : Nat} {zs : List Int} (h : View w (.slice (some x) n c) zs) : ∀ j u, (cellsU8 zs)[j]? = some u → w.cell? (x.add j) = some u := by
  obtain ⟨a, c', he, h1, h2, h3, h4⟩ := h
  injection he with e1 e2 e3
  rcases h4 with rfl | ⟨b, off, he, hcell⟩
  · intro j u hu
    simp [cellsU8] at hu
  · rw [← e1] at he
    cases he
    exact cellsU8_at zs w b off hcell
set_option maxHeartbeats 800000 in
set_option maxRecDepth 100000 in
theorem clone_some (x : Addr) (n cap : Nat) (zs : List Int) (w : World) (hl : Hid (zs.length = n)) (hn : n ≤ 100000) (hc : Hid (∀ j u, (cellsU8 zs)[j]? = some u → w.cell? (x.add j) = some u)) :
    Calls Tryz.prog 66 #[.slice (some x) n cap] w fun e w' => ∃ v, e = .returned v ∧ w'.ownsRow w.heap.size 5 1 v n (cellsU8 zs) ∧ Below w.heap.size w w' := by
  obtain ⟨i0, hi, hz0, hz1, hz2⟩ := info_parts Tryz.info5
  have hnl : ∀ w, (binOp .eql 22 (.slice (some x) n cap) (.slice none 0 0)).run Tryz.prog w = .ok (.bool false) w := fun w => run_eql_slice_nil w 22 5 (some x) n cap Tryz.underlying22
  go_enter Tryz.func66, Tryz.ntmps66
  go_wp2_with (first
    | (at_builtin; go_must (refine wpList_append_own _ rfl (.tmp 5) (.tmp 6) 22 rfl w.heap.size 5 i0 (.int .u8 0) 1 1 Tryz.underlying22 hi hz0 hz1 hz2 rfl (by decide) _ 0 [] rfl (World.ownsRow_made w #[] 0 (Nat.le_refl _) (by unfold maxLen; omega) rfl) x n cap (cellsU8 zs) rfl ?_ ?_ (cellsU8_one zs) ?_ ?_ ?_ ?_)))
  · rw [cellsU8_length, hl.out, Nat.mul_one]
  · intro j u hu
    have := hc.out j u hu
    rw [World.cell?_alloc_lt w _ _ (World.block_lt_of_cell? w _ this)]
    exact this
  · unfold maxLen; omega
  · omega
  · simp
  intro v1 w1 hown hgrow hnil
  have HO : Hid (w1.ownsRow w.heap.size 5 1 v1 n (cellsU8 zs)) := by
    show w1.ownsRow w.heap.size 5 1 v1 n (cellsU8 zs)
    simpa using hown
  have HB : Hid (Below w.heap.size w w1) := ((Below.refl _ _).alloc (Nat.le_refl _) _).grown hgrow (by simp) (by intro k hk; cases hk; exact Nat.le_refl _)
  clear hown hgrow hnil
  go_wp2
  go_ret
  exact ⟨_, rfl, HO.out, HB.out⟩
set_option maxHeartbeats 800000 in
theorem clone_nil (w : World) : Calls Tryz.prog 66 #[.slice none 0 0] w fun e w' => e = .returned (.slice none 0 0) ∧ w' = w := by
  have hnl : ∀ w, (binOp .eql 22 (.slice none 0 0) (.slice none 0 0)).run Tryz.prog w = .ok (.bool true) w := fun w => run_eql_slice_nil w 22 5 none 0 0 Tryz.underlying22
  go_enter Tryz.func66, Tryz.ntmps66
  go_wp2
  go_ret
  exact ⟨rfl, rfl⟩
/-- slices.Clone of bytes. -/
theorem clone_any (v : Value) (zs : List Int) (w : World) (hn : zs.length ≤ 100000) (h : View w v zs) :
    Calls Tryz.prog 66 #[v] w fun e w' => ∃ v', e = .returned v' ∧ w'.ownsRow w.heap.size 5 1 v' zs.length (cellsU8 zs) ∧ Below w.heap.size w w' := by
  have h0 := h
  obtain ⟨a, c, rfl, h1, h2, h3, h4⟩ := h
  cases a with
  | none =>
    obtain rfl := h3 rfl
    have hz : zs = [] := List.eq_nil_of_length_eq_zero (by omega)
    subst hz
    refine (clone_nil w).mono ?_
    rintro e w' ⟨rfl, hw⟩
    subst hw
    exact ⟨_, rfl, World.ownsRow_nil _ _ _ _, Below.refl _ _⟩
  | some x => exact clone_some x zs.length c zs w rfl hn (vcells h0)
set_option maxHeartbeats 800000 in
set_option maxRecDepth 100000 in
/-- cofferref03.copied. -/
theorem copied_any (v : Value) (zs : List Int) (w : World) (hn : zs.length ≤ 100000) (h : View w v zs) :
    Calls Tryz.prog 50 #[v] w fun e w' => ∃ v', e = .returned v' ∧ w'.ownsRow w.heap.size 5 1 v' zs.length (cellsU8 zs) ∧ Below w.heap.size w w' := by
  obtain ⟨i0, hi, hz0, hz1, hz2⟩ := info_parts Tryz.info5
  have HI0 : Hid (Tryz.prog.info? 5 = some i0 ∧ i0.zero = some (.int .u8 0) ∧ i0.size = 1 ∧ i0.bytes = 1) := ⟨hi, hz0, hz1, hz2⟩
  clear hi hz0 hz1 hz2
  obtain ⟨a, c, rfl, h1, h2, h3, h4⟩ := h
  have HC : Hid (zs = [] ∨ ∃ b off, a = some ⟨b, off, none⟩ ∧ ∀ i, i < zs.length → w.cell? ⟨b, off + i, none⟩ = some (.int .u8 (zs.getD i 0))) := h4
  obtain ⟨n, HN⟩ : ∃ n, Hid (zs.length = n) := ⟨_, rfl⟩
  rw [HN.out] at hn ⊢
  clear h1 h2 h3 h4
  go_enter Tryz.func50, Tryz.ntmps50
  go_wp2
  go_loopw [3, 4] (fun v i wr => ∃ k : Nat, k ≤ n ∧ i = .int .i64 k ∧ wr.ownsRow w.heap.size 5 1 v k (cellsU8 (zs.take k)) ∧ Hid (Below w.heap.size w wr)) (fun _ i _ => n - (intOf i).toNat)
  case atStart => exact ⟨0, by omega, rfl, World.ownsRow_nil _ _ _ _, Below.refl _ _⟩
  case round =>
    obtain ⟨k, hk, rfl, hown2, HB2⟩ := hrel
    by_cases hlt : k < n
    · obtain ⟨b, off, rfl, hcell⟩ : ∃ b off, a = some ⟨b, off, none⟩ ∧ ∀ i, i < zs.length → w.cell? ⟨b, off + i, none⟩ = some (.int .u8 (zs.getD i 0)) := by
        rcases HC.out with q | q
        · have := HN.out; rw [q] at this; simp at this; omega
        · exact q
      obtain ⟨z, HZ⟩ : ∃ z, Hid (zs.getD k 0 = z) := ⟨_, rfl⟩
      have hc : wr.cell? ⟨b, off + k, none⟩ = some (.int .u8 z) := by
        have q := hcell k (by rw [HN.out]; exact hlt)
        rw [HB2.out.cell (World.block_lt_of_cell? w _ q), q, HZ.out]
      clear hcell
      have g0 : (0 : Int) ≤ (k : Int) := by omega
      have g1 : (k : Int) < n := by omega
      have HO2 : Hid (wr.ownsRow w.heap.size 5 1 u3 k (cellsU8 (zs.take k))) := hown2
      clear hown2
      obtain ⟨hi, hz0, hz1, hz2⟩ := HI0.out
      go_wp2_with (first
        | (at_builtin; go_must (refine wpList_append_own _ rfl (.tmp 11) (.tmp 16) 22 rfl w.heap.size 5 i0 (.int .u8 0) 1 1 Tryz.underlying22 hi hz0 hz1 hz2 rfl (by decide) _ _ _ rfl (HO2.out.alloc _) ⟨wr.heap.size, 0, none⟩ 1 1 [.int .u8 z] rfl rfl ?_ ?_ ?_ ?_ ?_ ?_)))
      · intro j u hj
        match j, hj with
        | 0, hj => simp at hj; subst hj; simp [Addr.add]
      · intro u hu; simp at hu; subst hu; rfl
      · unfold maxLen; omega
      · omega
      · have := HB2.out.size; simp; omega
      intro v1 w1 hown hgrow hnil
      have HO3 : Hid (w1.ownsRow w.heap.size 5 1 v1 (k + 1) (cellsU8 (zs.take (k + 1)))) := by
        have e : cellsU8 (zs.take (k + 1)) = cellsU8 (zs.take k) ++ [.int .u8 z] := by
          rw [List.take_add_one, cellsU8_append]
          have hk' : k < zs.length := by rw [HN.out]; exact hlt
          rw [List.getElem?_eq_getElem hk']
          have : zs[k] = z := by rw [← HZ.out, List.getD_eq_getElem?_getD, List.getElem?_eq_getElem hk']; rfl
          rw [this]; rfl
        show w1.ownsRow _ _ _ _ _ _
        rw [e]; exact hown
      have HB3 : Hid (Below w.heap.size w w1) := (HB2.out.alloc HB2.out.size _).grown hgrow (by have := HB2.out.size; simp; omega) (by
        intro q hq
        exact (ownsRow_lt HO2.out hq).1)
      clear hown hgrow hnil HO2 hc
      go_wp2
      exact ⟨⟨k + 1, by omega, by simp, HO3.out, HB3⟩, by simp [intOf]; omega⟩
    · have HO2 : Hid (wr.ownsRow w.heap.size 5 1 u3 n (cellsU8 zs)) := by
        have e : k = n := by omega
        have q := hown2
        rw [e, List.take_of_length_le (by rw [HN.out]; exact Nat.le_refl _)] at q
        exact q
      clear hown2
      go_wp2
      go_ret
      exact ⟨_, rfl, HO2.out, HB2.out⟩
end Go.Proofs.YtehlppaidgkpaaaGreatDoor
namespace Go.Proofs.YtehlppaidgkpaaaGreatDoor
open Go.RowKit
set_option linter.unusedVariables false
def zSx : List Value := [.string ⟨#[]⟩, .int .i64 0, .string ⟨#[]⟩, .int .i64 0, .int .i64 0, .int .i64 0, .nilFunc, .nilFunc]
def FindP (S : ByteArray) (w0 : World) (e : Ending) (w' : World) : Prop :=
  ((∃ j, j < 52 ∧ spN j = S ∧ (∀ i, i < j → spN i ≠ S) ∧ e = .returned (.tuple #[.agg (sxF j).toArray, .bool true])) ∨ ((∀ i, i < 52 → spN i ≠ S) ∧ e = .returned (.tuple #[.agg zSx.toArray, .bool false]))) ∧ Below w0.heap.size w0 w'
structure FnI (w0 w1 w2 wr : World) (g cap : Nat) : Prop where
  own : w2.ownsRow w1.heap.size 96 8 (.slice (some ⟨g, 0, none⟩) 52 cap) 52 (fl sxF 52)
  b2 : Below w1.heap.size w1 w2
  br : Below w2.heap.size w2 wr
  w1 : w1 = w0.alloc (.cells zSx.toArray 96)
theorem FnI.box {w0 w1 w2 wr : World} {g cap : Nat} (h : FnI w0 w1 w2 wr g cap) : Bx wr w0.heap.size 96 zSx := by
  have e1 : w1.heap[w0.heap.size]? = some (.cells zSx.toArray 96 (0, 0)) := by rw [h.w1]; exact heap_alloc_new w0 _
  have l1 : w0.heap.size < w1.heap.size := by rw [h.w1]; simp
  unfold Bx
  rw [h.br.block _ (Nat.lt_of_lt_of_le l1 h.b2.size), h.b2.block _ l1, e1]
theorem FnI.bel {w0 w1 w2 wr : World} {g cap : Nat} (h : FnI w0 w1 w2 wr g cap) : Below w0.heap.size w0 wr := by
  have b0 : Below w0.heap.size w0 w1 := by rw [h.w1]; exact (Below.refl _ _).alloc (Nat.le_refl _) _
  have b1 := b0.trans (h.b2.mono b0.size)
  exact b1.trans (h.br.mono b1.size)
theorem FnI.more {w0 w1 w2 wr wx : World} {g cap : Nat} (h : FnI w0 w1 w2 wr g cap) (b : Below wr.heap.size wr wx) : FnI w0 w1 w2 wx g cap := ⟨h.own, h.b2, h.br.trans (b.mono h.br.size), h.w1⟩
set_option maxHeartbeats 3200000 in
set_option maxRecDepth 100000 in
/-- tweak.find. -/
theorem find_ok (S : ByteArray) (w0 : World) (hT : Pow w0) : Calls Tryz.prog 42 #[.string S] w0 fun e w' => FindP S w0 e w' := by
  have HT : Hid (Pow w0) := hT
  clear hT
  obtain ⟨w1, hw1⟩ : ∃ w1, w1 = w0.alloc (.cells zSx.toArray 96) := ⟨_, rfl⟩
  have HT1 : Hid (Pow w1) := by rw [hw1]; exact HT.out.below ((Below.refl _ _).alloc (Nat.le_refl _) _)
  have HW1 : Hid (w1 = w0.alloc (.cells zSx.toArray 96)) := hw1
  have H45 : Hid (Calls Tryz.prog 65 #[] (w0.alloc (.cells #[.string ⟨#[]⟩, .int .i64 0, .string ⟨#[]⟩, .int .i64 0, .int .i64 0, .int .i64 0, .nilFunc, .nilFunc] 96)) fun e w' => Hid (∃ g cap, e = .returned (.slice (some ⟨g, 0, none⟩) 52 cap) ∧ FnI w0 w1 w' w' g cap)) := by
    have q := suites_ok w1 HT1.out
    rw [hw1] at q
    refine q.mono ?_
    rintro e w2 hh
    obtain ⟨g, cap, rfl, ho, hb⟩ := hh.out
    exact ⟨g, cap, rfl, by rw [hw1]; exact ho, by rw [hw1]; exact hb, Below.refl _ _, hw1⟩
  clear hw1 HT1
  go_enter Tryz.func42, Tryz.ntmps42
  go_wp2_with (go_at_call 65; refine H45.out.mono ?_; intro e1 w2 hh; obtain ⟨g, cap, rfl, hI⟩ := hh.out; have HI : Hid (FnI w0 w1 w2 w2 g cap) := hI; clear hh hI H45)
  obtain ⟨b0, hb0⟩ : ∃ b0, b0 = w0.heap.size := ⟨_, rfl⟩
  have HB0 : Hid (b0 = w0.heap.size) := hb0
  rw [← hb0]
  clear hb0
  go_loopw [8] (fun vi wr => ∃ i : Nat, vi = .int .i64 (i : Nat) ∧ i ≤ 52 ∧ Hid (FnI w0 w1 w2 wr g cap) ∧ Hid (∀ k, k < i → spN k ≠ S)) (fun vi _ => 52 - (intOf vi).toNat)
  case atStart => exact ⟨0, rfl, by omega, HI, fun k hk => by omega⟩
  case round =>
    obtain ⟨i, rfl, hi, HR, HN⟩ := hrel
    clear HI
    by_cases hlt : i < 52
    · obtain ⟨a, x, y, z, s, f, h, hrow, hf1, hg1⟩ := sx_row i
      have HROW : Hid (sxF i = [.string (spN i), .int .i64 a, .string s, .int .i64 x, .int .i64 y, .int .i64 z, f, h]) := hrow
      have g0 : (0 : Int) ≤ (i : Int) := by omega
      have g1 : (i : Int) < 52 := by omega
      have hsF : ∀ u ad md, (store ad f md).run Tryz.prog u = stored Tryz.prog u ad f md := fun u ad md => run_store Tryz.prog u ad f md hf1
      have hsG : ∀ u ad md, (store ad h md).run Tryz.prog u = stored Tryz.prog u ad h md := fun u ad md => run_store Tryz.prog u ad h md hg1
      have HO1 : Hid (f.oneCell' = true ∧ h.oneCell' = true) := ⟨hf1, hg1⟩
      clear hf1 hg1
      obtain ⟨NM, HNM⟩ : ∃ q, Hid (spN i = q) := ⟨_, rfl⟩
      rw [HNM.out] at hrow
      have cs : ∀ j, j < 8 → wr.cell? ⟨g, i * 8 + j, none⟩ = (sxF i)[j]? := fun j hj => sp_cell HR.out.own HR.out.br hlt hj
      rw [hrow] at cs
      have c0 := cs 0 (by decide)
      have c1 := cs 1 (by decide)
      have c2 := cs 2 (by decide)
      have c3 := cs 3 (by decide)
      have c4 := cs 4 (by decide)
      have c5 := cs 5 (by decide)
      have c6 := cs 6 (by decide)
      have c7 := cs 7 (by decide)
      clear cs hrow
      simp only [List.getElem?_cons_zero, List.getElem?_cons_succ, Nat.add_zero] at c0 c1 c2 c3 c4 c5 c6 c7
      go_upto_region 4 with fail
      obtain ⟨w3, hw3⟩ : ∃ w3, w3 = wr.alloc (.cells #[.string NM, .int .i64 a, .string s, .int .i64 x, .int .i64 y, .int .i64 z, f, h] 96) := ⟨_, rfl⟩
      have HR2 : Hid (FnI w0 w1 w2 w3 g cap) := by rw [hw3]; exact HR.out.more ((Below.refl _ _).alloc (Nat.le_refl _) _)
      have hb2 := heap_alloc_new wr (.cells #[.string NM, .int .i64 a, .string s, .int .i64 x, .int .i64 y, .int .i64 z, f, h] 96)
      rw [← hw3] at hb2 ⊢
      have d0 : w3.cell? ⟨wr.heap.size, 0, none⟩ = some (.string NM) := by simp [World.cell?, hb2]
      have HBX : Hid (Bx w3 wr.heap.size 96 [.string NM, .int .i64 a, .string s, .int .i64 x, .int .i64 y, .int .i64 z, f, h]) := hb2
      clear hw3 hb2 c0 c1 c2 c3 c4 c5 c6 c7 hsF hsG
      generalize wr.heap.size = m at d0 HBX ⊢
      clear HR
      by_cases hE : NM = S
      · subst hE
        have HF : Hid (∀ v ∈ sxF i, v.oneCell' = true) := by
          rw [HROW.out]; intro v hv; simp at hv; rcases hv with rfl | rfl | rfl | rfl | rfl | rfl | rfl | rfl <;> first | rfl | exact HO1.out.1 | exact HO1.out.2
        have hrow2 : sxF i = [.string NM, .int .i64 a, .string s, .int .i64 x, .int .i64 y, .int .i64 z, f, h] := by rw [HROW.out, HNM.out]
        rw [hrow2] at HF
        have HB2 : Hid (Bx w3 b0 96 zSx) := by rw [HB0.out]; exact HR2.out.box
        go_wp2_with (first
          | (refine wpList_load_mid (by rfl) 96 (.tmp 5) (by rfl) m 0 (by rfl) [.string NM, .int .i64 a, .string s, .int .i64 x, .int .i64 y, .int .i64 z, f, h] _ HBX.out.range Tryz.underlying96 rfl (by kernel_rfl) ?_)
          | (refine wpList_store_bx (by rfl) 96 (.tmp 2) (.tmp 16) (by rfl) zSx [.string NM, .int .i64 a, .string s, .int .i64 x, .int .i64 y, .int .i64 z, f, h] b0 (by rfl) (by rfl) HB2.out rfl (by kernel_rfl) HF.out ?_; intro u9 hb9 hg9))
        refine ret_agg_tmp (b := b0) [.string NM, .int .i64 a, .string s, .int .i64 x, .int .i64 y, .int .i64 z, f, h] (.bool true) rfl rfl rfl hb9.range Tryz.underlying96 rfl (by kernel_rfl) ⟨Or.inl ⟨i, hlt, HNM.out, HN.out, by rw [hrow2]⟩, ?_⟩
        exact HR2.out.bel.trans (below_gb hg9 HR2.out.bel.size (by rw [HB0.out]; exact Nat.le_refl _))
      · have hne : (NM.toList == S.toList) = false := by
          rw [beq_eq_false_iff_ne]; intro q; exact hE (bytes_inj q)
        have HNE : Hid (spN i ≠ S) := by rw [HNM.out]; exact hE
        clear hE
        go_wp2
        refine ⟨⟨i + 1, by simp, by omega, HR2, fun k hk => ?_⟩, by simp [intOf]; omega⟩
        by_cases q : k < i
        · exact HN.out k q
        · obtain rfl : k = i := by omega
          exact HNE.out
    · have g1 : ¬ (i : Int) < 52 := by omega
      have HB2 : Hid (Bx wr b0 96 zSx) := by rw [HB0.out]; exact HR.out.box
      have hbd : ∀ w, (Instr.build 96 #[]).run Tryz.prog w = .ok (.agg #[.string ⟨#[]⟩, .int .i64 0, .string ⟨#[]⟩, .int .i64 0, .int .i64 0, .int .i64 0, .nilFunc, .nilFunc]) w := fun w => run_build w _ _ _ (by kernel_rfl)
      go_wp2_with (refine wpList_store_bx (by rfl) 96 (.tmp 2) (.tmp 18) (by rfl) zSx zSx b0 (by rfl) (by rfl) HB2.out rfl (by kernel_rfl) (by simp [zSx, Value.oneCell']) ?_; intro u9 hb9 hg9)
      refine ret_agg_tmp (b := b0) zSx (.bool false) rfl rfl rfl hb9.range Tryz.underlying96 rfl (by kernel_rfl) ⟨Or.inr ⟨fun k hk => HN.out k (by omega), rfl⟩, ?_⟩
      exact HR.out.bel.trans (below_gb hg9 HR.out.bel.size (by rw [HB0.out]; exact Nat.le_refl _))
end Go.Proofs.YtehlppaidgkpaaaGreatDoor
namespace Go.Proofs.YtehlppaidgkpaaaGreatDoor
open Go.RowKit
set_option linter.unusedVariables false
/-- Of mode k: how many keys of AES, how many bytes more, the step; begin and build. -/
def mK (k : Nat) : Nat := [1, 1, 1, 1, 1, 1, 1, 1, 2, 1, 2, 2, 2, 2, 1, 1, 1].getD k 0
def mM (k : Nat) : Nat := [0, 0, 0, 0, 0, 0, 0, 0, 0, 32, 0, 0, 0, 0, 16, 0, 0].getD k 0
def mS (k : Nat) : Nat := [16, 16, 16, 16, 16, 16, 16, 16, 16, 16, 1, 1, 1, 1, 16, 1, 1].getD k 0
def fV (n : Nat) : Value := .func (.func n) #[] #[]
def mB (k : Nat) : Value := [.nilFunc, fV 147, fV 149, fV 150, fV 151, fV 152, fV 153, fV 154, fV 154, fV 156, fV 149, fV 150, fV 151, fV 153, fV 152, fV 149, fV 150].getD k .nilFunc
def mU (k : Nat) : Nat := [146, 148, 148, 148, 148, 148, 148, 148, 155, 157, 158, 158, 158, 158, 159, 160, 160].getD k 0
theorem mode_lit (k : Nat) (hk : k < 17) : modesL.getD k [] = [.string (nmB k), .int .i64 (mK k : Nat), .int .i64 (mM k : Nat), .int .i64 (mS k : Nat), mB k, fV (mU k)] := by
  match k, hk with
  | 0, _ => rfl
  | 1, _ => rfl
  | 2, _ => rfl
  | 3, _ => rfl
  | 4, _ => rfl
  | 5, _ => rfl
  | 6, _ => rfl
  | 7, _ => rfl
  | 8, _ => rfl
  | 9, _ => rfl
  | 10, _ => rfl
  | 11, _ => rfl
  | 12, _ => rfl
  | 13, _ => rfl
  | 14, _ => rfl
  | 15, _ => rfl
  | 16, _ => rfl
  | n + 17, h => exact absurd h (by omega)
/-- The suite of width 16 + 8 i and mode k. -/
def sxL (i k : Nat) : List Value := [.string (sxN i k), .int .i64 ((16 + 8 * i : Nat) : Int), .string (nmB k), .int .i64 (mK k : Nat), .int .i64 (mM k : Nat), .int .i64 (mS k : Nat), mB k, fV (mU k)]
theorem sxF_lit (i k : Nat) (hk : k < 17) : sxF (1 + 17 * i + k) = sxL i k := by rw [sxF_at i k hk, mode_lit k hk]; rfl
theorem spN_lit (i k : Nat) (hk : k < 17) : spN (1 + 17 * i + k) = sxN i k := by rw [spN, sxF_lit i k hk]; rfl
theorem mB_one (k : Nat) : (mB k).oneCell' = true := by
  have : ∀ v ∈ [Value.nilFunc, fV 147, fV 149, fV 150, fV 151, fV 152, fV 153, fV 154, fV 154, fV 156, fV 149, fV 150, fV 151, fV 153, fV 152, fV 149, fV 150], v.oneCell' = true := by
    intro v hv; simp [fV] at hv; rcases hv with rfl | rfl | rfl | rfl | rfl | rfl | rfl | rfl | rfl | rfl | rfl | rfl | rfl | rfl | rfl | rfl | rfl <;> rfl
  unfold mB
  rw [List.getD_eq_getElem?_getD]
  cases h : ([Value.nilFunc, fV 147, fV 149, fV 150, fV 151, fV 152, fV 153, fV 154, fV 154, fV 156, fV 149, fV 150, fV 151, fV 153, fV 152, fV 149, fV 150])[k]? with
  | none => rfl
  | some v => exact this v (List.mem_of_getElem? h)
/-- The bytes of a key. -/
def kyN : Nat → Nat
  | 0 => 0
  | j + 1 => mK (j % 17) * (16 + 8 * (j / 17)) + mM (j % 17)
theorem kyN_lit (i k : Nat) (hk : k < 17) : kyN (1 + 17 * i + k) = mK k * (16 + 8 * i) + mM k := by
  rw [show 1 + 17 * i + k = (17 * i + k) + 1 by omega, kyN, show (17 * i + k) / 17 = i by omega, show (17 * i + k) % 17 = k by omega]
theorem mK_le (k : Nat) : mK k ≤ 2 := by
  have : ∀ k, k < 17 → mK k ≤ 2 := by decide
  by_cases h : k < 17
  · exact this k h
  · unfold mK; rw [List.getD_eq_getElem?_getD, List.getElem?_eq_none (by simp; omega)]; decide
theorem mM_le (k : Nat) : mM k ≤ 32 := by
  have : ∀ k, k < 17 → mM k ≤ 32 := by decide
  by_cases h : k < 17
  · exact this k h
  · unfold mM; rw [List.getD_eq_getElem?_getD, List.getElem?_eq_none (by simp; omega)]; decide
theorem sx_cases (j : Nat) (hj : j < 52) : j = 0 ∨ ∃ i k, i < 3 ∧ k < 17 ∧ j = 1 + 17 * i + k := by
  rcases Nat.eq_zero_or_pos j with h | h
  · exact .inl h
  · exact .inr ⟨(j - 1) / 17, (j - 1) % 17, by omega, by omega, by omega⟩
set_option maxHeartbeats 800000 in
set_option maxRecDepth 100000 in
/-- suite.keySize, of any eight cells. -/
theorem keySize_ok (S T : ByteArray) (wd a b c : Nat) (f g : Value) (w : World) (ha : a ≤ 2) (hw : wd ≤ 32) (hb : b ≤ 32) (hf : f.oneCell' = true) (hg : g.oneCell' = true) :
    Calls Tryz.prog 43 #[.agg #[.string S, .int .i64 (wd : Nat), .string T, .int .i64 (a : Nat), .int .i64 (b : Nat), .int .i64 (c : Nat), f, g]] w fun e w' => e = .returned (.int .i64 ((a * wd + b : Nat) : Int)) ∧ Below w.heap.size w w' := by
  have h1 : a * wd ≤ 64 := Nat.le_trans (Nat.mul_le_mul ha hw) (by decide)
  have e1 : IntKind.i64.wrap ((a : Int) * (wd : Int)) = ((a * wd : Nat) : Int) := by rw [IntKind.wrap_i64]; push_cast; have := h1; omega
  have E2 : Hid (wrap64 ((a : Int) * (wd : Int) + (b : Int)) = ((a * wd + b : Nat) : Int)) := by
    show wrap64 ((a : Int) * (wd : Int) + (b : Int)) = ((a * wd + b : Nat) : Int)
    rw [← Int.natCast_mul]; unfold wrap64; omega
  have hsF : ∀ u ad md, (store ad f md).run Tryz.prog u = stored Tryz.prog u ad f md := fun u ad md => run_store Tryz.prog u ad f md hf
  have hsG : ∀ u ad md, (store ad g md).run Tryz.prog u = stored Tryz.prog u ad g md := fun u ad md => run_store Tryz.prog u ad g md hg
  clear ha hw hb hf hg h1
  go_enter Tryz.func43, Tryz.ntmps43
  go_wp2
  go_ret
  refine ⟨?_, (Below.refl _ _).alloc (Nat.le_refl _) _⟩
  show Ending.returned (.int .i64 (wrap64 ((a : Int) * (wd : Int) + (b : Int)))) = _
  rw [E2.out]
end Go.Proofs.YtehlppaidgkpaaaGreatDoor
namespace Go.Proofs.YtehlppaidgkpaaaGreatDoor
open Go.RowKit
set_option linter.unusedVariables false
theorem ns_eq (i : Nat) (hi : i < 3) : nsB i = (⟨#[97, 101, 115]⟩ : ByteArray) ++ itB i ++ (⟨#[45]⟩ : ByteArray) := by
  rcases (show i = 0 ∨ i = 1 ∨ i = 2 by omega) with rfl | rfl | rfl <;> simp [nsB, itB, Lib.itoa, Lib.decDigits, ByteArray.mk_append_mk]
end Go.Proofs.YtehlppaidgkpaaaGreatDoor
namespace Go.Proofs.YtehlppaidgkpaaaGreatDoor
open Go.RowKit
set_option linter.unusedVariables false
/-- Of mode k: the reference's mode and start. -/
def rM (k : Nat) : ByteArray := ([⟨#[101, 99, 98]⟩, ⟨#[99, 98, 99]⟩, ⟨#[99, 98, 99]⟩, ⟨#[99, 98, 99]⟩, ⟨#[99, 98, 99]⟩, ⟨#[99, 98, 99]⟩, ⟨#[99, 98, 99]⟩, ⟨#[99, 98, 99]⟩, ⟨#[101, 108, 101, 112, 104, 97, 110, 116]⟩, ⟨#[116, 99, 119]⟩, ⟨#[120, 116, 115]⟩, ⟨#[120, 116, 115]⟩, ⟨#[120, 116, 115]⟩, ⟨#[120, 116, 115]⟩, ⟨#[108, 114, 119]⟩, ⟨#[104, 99, 116, 114, 50]⟩, ⟨#[104, 99, 116, 114, 50]⟩] : List ByteArray).getD k ⟨#[]⟩
def rS (k : Nat) : ByteArray := ([⟨#[]⟩, ⟨#[110, 117, 108, 108]⟩, ⟨#[112, 108, 97, 105, 110]⟩, ⟨#[112, 108, 97, 105, 110, 54, 52]⟩, ⟨#[112, 108, 97, 105, 110, 54, 52, 98, 101]⟩, ⟨#[98, 101, 110, 98, 105]⟩, ⟨#[101, 115, 115, 105, 118]⟩, ⟨#[101, 98, 111, 105, 118]⟩, ⟨#[101, 98, 111, 105, 118]⟩, ⟨#[116, 99, 119]⟩, ⟨#[112, 108, 97, 105, 110]⟩, ⟨#[112, 108, 97, 105, 110, 54, 52]⟩, ⟨#[112, 108, 97, 105, 110, 54, 52, 98, 101]⟩, ⟨#[101, 115, 115, 105, 118]⟩, ⟨#[98, 101, 110, 98, 105]⟩, ⟨#[112, 108, 97, 105, 110]⟩, ⟨#[112, 108, 97, 105, 110, 54, 52]⟩] : List ByteArray).getD k ⟨#[]⟩
def rwL (i k : Nat) : List Value := [.string (sxN i k), .string (rM k), .string (rS k), .int .i64 ((16 + 8 * i : Nat) : Int), .int .i64 ((mK k * (16 + 8 * i) + mM k : Nat) : Int)]
theorem rwS_lit (i k : Nat) (hk : k < 17) : rwS i k = [.string (rM k), .string (rS k), .int .i64 ((16 + 8 * i : Nat) : Int), .int .i64 ((mK k * (16 + 8 * i) + mM k : Nat) : Int)] := by
  match k, hk with
  | 0, _ =>
    refine (rwS_eq (i := i) (k := 0) (mo := 0) (AES := ((16 + 8 * i : Nat) : Int)) rfl rfl rfl).trans ?_
    congr 4 <;> (have e1 : mK 0 = 1 := rfl; have e2 : mM 0 = 0 := rfl; rw [e1, e2]; simp; try omega)
  | 1, _ =>
    refine (rwS_eq (i := i) (k := 1) (mo := 0) (AES := ((16 + 8 * i : Nat) : Int)) rfl rfl rfl).trans ?_
    congr 4 <;> (have e1 : mK 1 = 1 := rfl; have e2 : mM 1 = 0 := rfl; rw [e1, e2]; simp; try omega)
  | 2, _ =>
    refine (rwS_eq (i := i) (k := 2) (mo := 0) (AES := ((16 + 8 * i : Nat) : Int)) rfl rfl rfl).trans ?_
    congr 4 <;> (have e1 : mK 2 = 1 := rfl; have e2 : mM 2 = 0 := rfl; rw [e1, e2]; simp; try omega)
  | 3, _ =>
    refine (rwS_eq (i := i) (k := 3) (mo := 0) (AES := ((16 + 8 * i : Nat) : Int)) rfl rfl rfl).trans ?_
    congr 4 <;> (have e1 : mK 3 = 1 := rfl; have e2 : mM 3 = 0 := rfl; rw [e1, e2]; simp; try omega)
  | 4, _ =>
    refine (rwS_eq (i := i) (k := 4) (mo := 0) (AES := ((16 + 8 * i : Nat) : Int)) rfl rfl rfl).trans ?_
    congr 4 <;> (have e1 : mK 4 = 1 := rfl; have e2 : mM 4 = 0 := rfl; rw [e1, e2]; simp; try omega)
  | 5, _ =>
    refine (rwS_eq (i := i) (k := 5) (mo := 0) (AES := ((16 + 8 * i : Nat) : Int)) rfl rfl rfl).trans ?_
    congr 4 <;> (have e1 : mK 5 = 1 := rfl; have e2 : mM 5 = 0 := rfl; rw [e1, e2]; simp; try omega)
  | 6, _ =>
    refine (rwS_eq (i := i) (k := 6) (mo := 0) (AES := ((16 + 8 * i : Nat) : Int)) rfl rfl rfl).trans ?_
    congr 4 <;> (have e1 : mK 6 = 1 := rfl; have e2 : mM 6 = 0 := rfl; rw [e1, e2]; simp; try omega)
  | 7, _ =>
    refine (rwS_eq (i := i) (k := 7) (mo := 0) (AES := ((16 + 8 * i : Nat) : Int)) rfl rfl rfl).trans ?_
    congr 4 <;> (have e1 : mK 7 = 1 := rfl; have e2 : mM 7 = 0 := rfl; rw [e1, e2]; simp; try omega)
  | 8, _ =>
    refine (rwS_eq (i := i) (k := 8) (mo := -1) (AES := ((16 + 8 * i : Nat) : Int)) rfl rfl rfl).trans ?_
    congr 4 <;> (have e1 : mK 8 = 2 := rfl; have e2 : mM 8 = 0 := rfl; rw [e1, e2]; simp; try omega)
  | 9, _ =>
    refine (rwS_eq (i := i) (k := 9) (mo := 32) (AES := ((16 + 8 * i : Nat) : Int)) rfl rfl rfl).trans ?_
    congr 4 <;> (have e1 : mK 9 = 1 := rfl; have e2 : mM 9 = 32 := rfl; rw [e1, e2]; simp; try omega)
  | 10, _ =>
    refine (rwS_eq (i := i) (k := 10) (mo := -1) (AES := ((16 + 8 * i : Nat) : Int)) rfl rfl rfl).trans ?_
    congr 4 <;> (have e1 : mK 10 = 2 := rfl; have e2 : mM 10 = 0 := rfl; rw [e1, e2]; simp; try omega)
  | 11, _ =>
    refine (rwS_eq (i := i) (k := 11) (mo := -1) (AES := ((16 + 8 * i : Nat) : Int)) rfl rfl rfl).trans ?_
    congr 4 <;> (have e1 : mK 11 = 2 := rfl; have e2 : mM 11 = 0 := rfl; rw [e1, e2]; simp; try omega)
  | 12, _ =>
    refine (rwS_eq (i := i) (k := 12) (mo := -1) (AES := ((16 + 8 * i : Nat) : Int)) rfl rfl rfl).trans ?_
    congr 4 <;> (have e1 : mK 12 = 2 := rfl; have e2 : mM 12 = 0 := rfl; rw [e1, e2]; simp; try omega)
  | 13, _ =>
    refine (rwS_eq (i := i) (k := 13) (mo := -1) (AES := ((16 + 8 * i : Nat) : Int)) rfl rfl rfl).trans ?_
    congr 4 <;> (have e1 : mK 13 = 2 := rfl; have e2 : mM 13 = 0 := rfl; rw [e1, e2]; simp; try omega)
  | 14, _ =>
    refine (rwS_eq (i := i) (k := 14) (mo := 16) (AES := ((16 + 8 * i : Nat) : Int)) rfl rfl rfl).trans ?_
    congr 4 <;> (have e1 : mK 14 = 1 := rfl; have e2 : mM 14 = 16 := rfl; rw [e1, e2]; simp; try omega)
  | 15, _ =>
    refine (rwS_eq (i := i) (k := 15) (mo := 0) (AES := ((16 + 8 * i : Nat) : Int)) rfl rfl rfl).trans ?_
    congr 4 <;> (have e1 : mK 15 = 1 := rfl; have e2 : mM 15 = 0 := rfl; rw [e1, e2]; simp; try omega)
  | 16, _ =>
    refine (rwS_eq (i := i) (k := 16) (mo := 0) (AES := ((16 + 8 * i : Nat) : Int)) rfl rfl rfl).trans ?_
    congr 4 <;> (have e1 : mK 16 = 1 := rfl; have e2 : mM 16 = 0 := rfl; rw [e1, e2]; simp; try omega)
  | n + 17, h => exact absurd h (by omega)
theorem rwF_lit (i k : Nat) (hi : i < 3) (hk : k < 17) : rwF (1 + 17 * i + k) = rwL i k := by
  rw [rwF_at i k hk, rwS_lit i k hk, ns_eq i hi]; rfl
def zRw : List Value := [.string ⟨#[]⟩, .string ⟨#[]⟩, .string ⟨#[]⟩, .int .i64 0, .int .i64 0]
theorem rw_row (j : Nat) (hj : j < 52) : ∃ (M S : ByteArray) (a s : Int), rwF j = [.string (spN j), .string M, .string S, .int .i64 a, .int .i64 s] := by
  rcases sx_cases j hj with rfl | ⟨i, k, hi, hk, rfl⟩
  · exact ⟨_, _, _, _, rfl⟩
  · rw [rwF_lit i k hi hk, spN_lit i k hk]; exact ⟨_, _, _, _, rfl⟩
def FindR (S : ByteArray) (w0 : World) (e : Ending) (w' : World) : Prop :=
  ((∃ j, j < 52 ∧ spN j = S ∧ (∀ i, i < j → spN i ≠ S) ∧ e = .returned (.tuple #[.agg (rwF j).toArray, .bool true])) ∨ ((∀ i, i < 52 → spN i ≠ S) ∧ e = .returned (.tuple #[.agg zRw.toArray, .bool false]))) ∧ Below w0.heap.size w0 w'
structure FrI (w0 w1 w2 wr : World) (g cap : Nat) : Prop where
  own : w2.ownsRow w1.heap.size 59 5 (.slice (some ⟨g, 0, none⟩) 52 cap) 52 (fl rwF 52)
  b2 : Below w1.heap.size w1 w2
  br : Below w2.heap.size w2 wr
  w1 : w1 = w0.alloc (.cells zRw.toArray 59)
theorem FrI.box {w0 w1 w2 wr : World} {g cap : Nat} (h : FrI w0 w1 w2 wr g cap) : Bx wr w0.heap.size 59 zRw := by
  have e1 : w1.heap[w0.heap.size]? = some (.cells zRw.toArray 59 (0, 0)) := by rw [h.w1]; exact heap_alloc_new w0 _
  have l1 : w0.heap.size < w1.heap.size := by rw [h.w1]; simp
  unfold Bx
  rw [h.br.block _ (Nat.lt_of_lt_of_le l1 h.b2.size), h.b2.block _ l1, e1]
theorem FrI.bel {w0 w1 w2 wr : World} {g cap : Nat} (h : FrI w0 w1 w2 wr g cap) : Below w0.heap.size w0 wr := by
  have b0 : Below w0.heap.size w0 w1 := by rw [h.w1]; exact (Below.refl _ _).alloc (Nat.le_refl _) _
  have b1 := b0.trans (h.b2.mono b0.size)
  exact b1.trans (h.br.mono b1.size)
theorem rwc {w1 w2 wr : World} {g cap i j : Nat} (h : w2.ownsRow w1.heap.size 59 5 (.slice (some ⟨g, 0, none⟩) 52 cap) 52 (fl rwF 52)) (b : Below w2.heap.size w2 wr) (hi : i < 52) (hj : j < 5) : wr.cell? ⟨g, i * 5 + j, none⟩ = (rwF i)[j]? := by
  have hlt := (ownsRow_lt h (g := g) rfl).2
  rw [b.cell (p := ⟨g, i * 5 + j, none⟩) hlt]
  have e := fl_at rwF 5 rwF_len 52 i j hi hj
  have hx : j < (rwF i).length := by rw [rwF_len]; exact hj
  rw [List.getElem?_eq_getElem hx] at e ⊢
  have q := World.ownsRow.cells h (g := g) rfl (i * 5 + j) _ e
  rw [Addr.add_lit, Nat.zero_add] at q
  exact q
set_option maxHeartbeats 3200000 in
set_option maxRecDepth 100000 in
/-- cofferref03.Find. -/
theorem rfind_ok (S : ByteArray) (w0 : World) (G o cp : Nat) (hD : MdAt w0 G o cp) : Calls Tryz.prog 46 #[.string S] w0 fun e w' => FindR S w0 e w' := by
  obtain ⟨w1, hw1⟩ : ∃ w1, w1 = w0.alloc (.cells zRw.toArray 59) := ⟨_, rfl⟩
  have HT1 : Hid (MdAt w1 G o cp) := by rw [hw1]; exact hD.below ((Below.refl _ _).alloc (Nat.le_refl _) _)
  have HW1 : Hid (w1 = w0.alloc (.cells zRw.toArray 59)) := hw1
  clear hD
  have H45 : Hid (Calls Tryz.prog 45 #[] (w0.alloc (.cells #[.string ⟨#[]⟩, .string ⟨#[]⟩, .string ⟨#[]⟩, .int .i64 0, .int .i64 0] 59)) fun e w' => Hid (∃ g cap, e = .returned (.slice (some ⟨g, 0, none⟩) 52 cap) ∧ FrI w0 w1 w' w' g cap)) := by
    have q := rows_ok w1 G o cp HT1.out
    rw [hw1] at q
    refine q.mono ?_
    rintro e w2 hh
    obtain ⟨g, cap, rfl, ho, hb⟩ := hh.out
    exact ⟨g, cap, rfl, by rw [hw1]; exact ho, by rw [hw1]; exact hb, Below.refl _ _, hw1⟩
  clear hw1 HT1
  go_enter Tryz.func46, Tryz.ntmps46
  go_wp2_with (go_at_call 45; refine H45.out.mono ?_; intro e1 w2 hh; obtain ⟨g, cap, rfl, hI⟩ := hh.out; have HI : Hid (FrI w0 w1 w2 w2 g cap) := hI; clear hh hI H45)
  obtain ⟨b0, hb0⟩ : ∃ b0, b0 = w0.heap.size := ⟨_, rfl⟩
  have HB0 : Hid (b0 = w0.heap.size) := hb0
  rw [← hb0]
  clear hb0
  go_loopw [5] (fun vi wr => ∃ i : Nat, vi = .int .i64 (i : Nat) ∧ i ≤ 52 ∧ Hid (FrI w0 w1 w2 wr g cap) ∧ Hid (∀ k, k < i → spN k ≠ S)) (fun vi _ => 52 - (intOf vi).toNat)
  case atStart => exact ⟨0, rfl, by omega, HI, fun k hk => by omega⟩
  case round =>
    obtain ⟨i, rfl, hi, HR, HN⟩ := hrel
    clear HI
    by_cases hlt : i < 52
    · obtain ⟨M, T, a, s, hrow⟩ := rw_row i hlt
      have HROW : Hid (rwF i = [.string (spN i), .string M, .string T, .int .i64 a, .int .i64 s]) := hrow
      have g0 : (0 : Int) ≤ (i : Int) := by omega
      have g1 : (i : Int) < 52 := by omega
      obtain ⟨NM, HNM⟩ : ∃ q, Hid (spN i = q) := ⟨_, rfl⟩
      rw [HNM.out] at hrow
      have cs : ∀ j, j < 5 → wr.cell? ⟨g, i * 5 + j, none⟩ = (rwF i)[j]? := fun j hj => rwc HR.out.own HR.out.br hlt hj
      rw [hrow] at cs
      have c0 := cs 0 (by decide)
      have c1 := cs 1 (by decide)
      have c2 := cs 2 (by decide)
      have c3 := cs 3 (by decide)
      have c4 := cs 4 (by decide)
      clear cs hrow
      simp only [List.getElem?_cons_zero, List.getElem?_cons_succ, Nat.add_zero] at c0 c1 c2 c3 c4
      by_cases hE : NM = S
      · subst hE
        have hrow2 : rwF i = [.string NM, .string M, .string T, .int .i64 a, .int .i64 s] := by rw [HROW.out, HNM.out]
        have HRW : Hid (rwF i = [.string NM, .string M, .string T, .int .i64 a, .int .i64 s]) := hrow2
        clear hrow2
        have HB2 : Hid (Bx wr b0 59 zRw) := by rw [HB0.out]; exact HR.out.box
        go_wp2_with (refine wpList_store_bx (by rfl) 59 (.tmp 2) (.tmp 23) (by rfl) zRw [.string NM, .string M, .string T, .int .i64 a, .int .i64 s] b0 (by rfl) (by rfl) HB2.out rfl (by kernel_rfl) (by simp [Value.oneCell']) ?_; intro u9 hb9 hg9)
        refine ret_agg_tmp (b := b0) [.string NM, .string M, .string T, .int .i64 a, .int .i64 s] (.bool true) rfl rfl rfl hb9.range Tryz.underlying59 rfl (by kernel_rfl) ⟨Or.inl ⟨i, hlt, HNM.out, HN.out, by rw [HRW.out]⟩, ?_⟩
        exact HR.out.bel.trans (below_gb hg9 HR.out.bel.size (by rw [HB0.out]; exact Nat.le_refl _))
      · have hne : (NM.toList == S.toList) = false := by
          rw [beq_eq_false_iff_ne]; intro q; exact hE (bytes_inj q)
        have HNE : Hid (spN i ≠ S) := by rw [HNM.out]; exact hE
        clear hE
        go_wp2
        refine ⟨⟨i + 1, by simp, by omega, HR, fun k hk => ?_⟩, by simp [intOf]; omega⟩
        by_cases q : k < i
        · exact HN.out k q
        · obtain rfl : k = i := by omega
          exact HNE.out
    · have g1 : ¬ (i : Int) < 52 := by omega
      have HB2 : Hid (Bx wr b0 59 zRw) := by rw [HB0.out]; exact HR.out.box
      have hbd : ∀ w, (Instr.build 59 #[]).run Tryz.prog w = .ok (.agg #[.string ⟨#[]⟩, .string ⟨#[]⟩, .string ⟨#[]⟩, .int .i64 0, .int .i64 0]) w := fun w => run_build w _ _ _ (by kernel_rfl)
      go_wp2_with (refine wpList_store_bx (by rfl) 59 (.tmp 2) (.tmp 24) (by rfl) zRw zRw b0 (by rfl) (by rfl) HB2.out rfl (by kernel_rfl) (by simp [zRw, Value.oneCell']) ?_; intro u9 hb9 hg9)
      refine ret_agg_tmp (b := b0) zRw (.bool false) rfl rfl rfl hb9.range Tryz.underlying59 rfl (by kernel_rfl) ⟨Or.inr ⟨fun k hk => HN.out k (by omega), rfl⟩, ?_⟩
      exact HR.out.bel.trans (below_gb hg9 HR.out.bel.size (by rw [HB0.out]; exact Nat.le_refl _))
end Go.Proofs.YtehlppaidgkpaaaGreatDoor
namespace Go.Proofs.YtehlppaidgkpaaaGreatDoor.Fd
open Go.RowKit Go.Proofs.YtehlppaidgkpaaaGreatDoor.Fld
set_option linter.unusedVariables false
set_option linter.unusedSimpArgs false
theorem zero_bytes (v : BitVec 128) : v = 0#128 ↔ ∀ j, j < 16 → byV v j = 0 := by
  constructor
  · rintro rfl j hj
    simp [byV]
  · intro h
    apply BitVec.eq_of_toNat_eq
    have key : ∀ k, k ≤ 16 → v.toNat % 256 ^ k = 0 := by
      intro k
      induction k with
      | zero => intro _; simp [Nat.mod_one]
      | succ k ih =>
        intro hk
        have hb : v.toNat / 256 ^ k % 256 = 0 := h k (by omega)
        rw [mod_pow_succ, ih (by omega), hb, Nat.zero_mul]
    have hk := key 16 (Nat.le_refl _)
    have hl : v.toNat < 256 ^ 16 := by have := v.isLt; rw [show (256 : Nat) ^ 16 = 2 ^ 128 from by decide]; exact this
    rw [Nat.mod_eq_of_lt hl] at hk
    rw [hk]
    rfl
end Go.Proofs.YtehlppaidgkpaaaGreatDoor.Fd
