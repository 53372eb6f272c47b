import Derived.Test.YtcnikfikpnnblaaGreatDoorPart19
import Derived.Laws.ResultCell
import Derived.Deep.MidRow
import Derived.Deep.Cut
namespace Go.Proofs.YtcnikfikpnnblaaGreatDoor
open Go.RowKit
set_option linter.unusedVariables false
theorem ret_agg_tmp {P : Program} {fn : Func} {p t : Tmp} {ty : TypeId} {d : TypeDesc} {Q : Ending → World → Prop} {tmps : Array Value} {w : World} {b : Nat} (cs : List Value) (v : Value) (h : fn.results = #[.cell p ty, .tmp t])
    (hp : tmps.getD p undef = .pointer (some ⟨b, 0, none⟩)) (ht : tmps.getD t undef = v) (hr : w.rangeAt b 0 cs) (hu : P.underlying ty = some d) (hd : d.isRow = true) (hi : (P.info? ty).map (·.size) = some cs.length)
    (hq : Q (.returned (.tuple #[.agg cs.toArray, v])) w) : bodyPost P fn Q .ret ⟨tmps, []⟩ w := by
  refine bodyPost_ret (v := .tuple #[.agg cs.toArray, v]) ?_ rfl hq
  rw [results_cell_tmp h]
  have hl := run_loadVar_mid (P := P) w b 0 ty cs d hr hu hd hi
  simp [hp, asAddr, hl, ht]
theorem bytes_inj {a b : ByteArray} (h : a.toList = b.toList) : a = b := by
  rw [Lib.toList_data, Lib.toList_data] at h
  cases a; cases b
  simp at h
  rw [h]
/-- A box: cells of a type in a block of their own. -/
def Bx (w : World) (b : Nat) (t : TypeId) (cs : List Value) : Prop := w.heap[b]? = some (.cells cs.toArray t (0, 0))
theorem Bx.lt {w : World} {b : Nat} {t : TypeId} {cs : List Value} (h : Bx w b t cs) : b < w.heap.size := (Array.getElem?_eq_some_iff.1 h).1
theorem Bx.keep {w w' : World} {b : Nat} {t : TypeId} {cs : List Value} (h : Bx w b t cs) (e : w'.heap[b]? = w.heap[b]?) : Bx w' b t cs := by
  unfold Bx at *; rw [e]; exact h
theorem Bx.below {w w' : World} {b : Nat} {t : TypeId} {cs : List Value} (h : Bx w b t cs) (hb : Below w.heap.size w w') : Bx w' b t cs := h.keep (hb.block b h.lt)
theorem Bx.cell {w : World} {b : Nat} {t : TypeId} {cs : List Value} (h : Bx w b t cs) (i : Nat) (v : Value) (hv : cs[i]? = some v) : w.cell? ⟨b, i, none⟩ = some v := by
  unfold Bx at h
  simp [World.cell?, h, hv]
theorem Bx.frozen {w : World} {b : Nat} {t : TypeId} {cs : List Value} (h : Bx w b t cs) (i : Nat) : w.frozen? ⟨b, i, none⟩ = false := by
  unfold Bx at h
  simp [World.frozen?, h]
theorem Bx.range {w : World} {b : Nat} {t : TypeId} {cs : List Value} (h : Bx w b t cs) : w.rangeAt b 0 cs := fun j u hj => by rw [Nat.zero_add]; exact h.cell j u hj
theorem Bx.new (w : World) (t : TypeId) (cs : List Value) : Bx (w.alloc (.cells cs.toArray t)) w.heap.size t cs := heap_alloc_new w _
theorem Bx.set {w : World} {b : Nat} {t : TypeId} {cs : List Value} (h : Bx w b t cs) (i : Nat) (v : Value) : Bx (w.setCell ⟨b, i, none⟩ v) b t (cs.set i v) := by
  unfold Bx at *
  rw [setCell_eq_setRow w b i cs.toArray t (0, 0) v h]
  rw [setRow_heap w b cs.toArray _ t (0, 0) h]
  simp
theorem gb_refl (w : World) (g : Option Nat) : w.grownBy w g := ⟨rfl, rfl, rfl, Nat.le_refl _, fun _ _ _ => rfl⟩
theorem gb_trans {w u v : World} {g : Nat} (h : w.grownBy u (some g)) (k : u.grownBy v (some g)) : w.grownBy v (some g) :=
  ⟨k.os.trans h.os, k.tape.trans h.tape, k.output.trans h.output, Nat.le_trans h.size k.size, fun i hi hn => (k.block i (Nat.lt_of_lt_of_le hi h.size) hn).trans (h.block i hi hn)⟩
theorem below_gb {w u : World} {B g : Nat} (h : w.grownBy u (some g)) (hB : B ≤ w.heap.size) (hg : B ≤ g) : Below B w u := ⟨h.os, h.tape, h.output, h.size, fun k hk => h.block k (by omega) (by intro e; injection e with e; omega)⟩
theorem bo_same (w : World) (b o : Nat) (cur : Array Value) (t : TypeId) (v : Value) (h : w.heap[b]? = some (.cells cur t (0, 0))) : (w.setCell ⟨b, o, none⟩ v).heap[b]? = some (.cells (cur.setIfInBounds o v) t (0, 0)) := by
  obtain ⟨hlt, hk⟩ := Array.getElem?_eq_some_iff.1 h
  show (w.heap.modify b _)[b]? = _
  rw [Array.getElem?_eq_getElem (by rw [Array.size_modify]; exact hlt), Array.getElem_modify_self, hk]
  rfl
theorem set_gb (w : World) (b o : Nat) (v : Value) : w.grownBy (w.setCell ⟨b, o, none⟩ v) (some b) := ⟨rfl, rfl, rfl, by simp [World.setCell], fun k _ hk => Below.heap_setCell w ⟨b, o, none⟩ v k (fun e => hk (by rw [e]))⟩
theorem setCells_bo (b t : Nat) : ∀ (vs : List Value) (o : Nat) (w : World) (cur : Array Value), w.heap[b]? = some (.cells cur t (0, 0)) → ∃ r, (w.setCells b o vs).heap[b]? = some (.cells r t (0, 0)) ∧ r.size = cur.size ∧ ∀ j, r[j]? = if o ≤ j ∧ j < o + vs.length ∧ j < cur.size then vs[j - o]? else cur[j]?
  | [], o, w, cur, h => ⟨cur, by simpa [World.setCells] using h, rfl, fun j => by rw [if_neg (by simp; omega)]⟩
  | v :: r, o, w, cur, h => by
    obtain ⟨q, h1, h2, h3⟩ := setCells_bo b t r (o + 1) (w.setCell ⟨b, o, none⟩ v) _ (bo_same w b o cur t v h)
    refine ⟨q, h1, by rw [h2]; simp, fun j => ?_⟩
    rw [h3]
    simp only [Array.size_setIfInBounds, List.length_cons]
    by_cases c1 : o + 1 ≤ j ∧ j < o + 1 + r.length ∧ j < cur.size
    · rw [if_pos c1, if_pos (by omega), show j - o = (j - (o + 1)) + 1 by omega]
      simp
    · rw [if_neg c1]
      by_cases c2 : o = j ∧ j < cur.size
      · obtain ⟨rfl, c3⟩ := c2
        rw [if_pos (by omega)]
        simp [c3]
      · rw [if_neg (by omega)]
        rw [Array.getElem?_setIfInBounds]
        split
        · rename_i e
          subst e
          rw [if_neg (by omega)]
          rw [Array.getElem?_eq_none (by omega)]
        · rfl
theorem setCells_gb (b : Nat) : ∀ (vs : List Value) (o : Nat) (w : World), w.grownBy (w.setCells b o vs) (some b)
  | [], _, w => gb_refl _ _
  | v :: r, o, w => by rw [World.setCells]; exact gb_trans (set_gb w b o v) (setCells_gb b r (o + 1) _)
theorem Bx.store {w : World} {b : Nat} {t : TypeId} {cs : List Value} (cs' : List Value) (h : Bx w b t cs) (hl : cs'.length = cs.length) : Bx (w.setCells b 0 cs') b t cs' := by
  obtain ⟨r, h1, h2, h3⟩ := setCells_bo b t cs' 0 w _ h
  have e : r = cs'.toArray := by
    apply Array.ext_getElem?
    intro j
    rw [h3]
    by_cases hj : j < cs.length
    · rw [if_pos ⟨Nat.zero_le _, by omega, by simpa using hj⟩, Nat.sub_zero]
      simp
    · rw [if_neg (by simp; omega), Array.getElem?_eq_none (by simp; omega), Array.getElem?_eq_none (by simp; omega)]
  unfold Bx
  rw [h1, e]
/-- A whole box is written. -/
theorem wpList_store_bx {P : Program} {w : World} {ops : Array Oper} {rest : List Oper} {o : Oper} {a : Act} {Q : Exit → Act → World → Prop} (hgd : o.guard = none) (t : TypeId) (x y : Operand) (ho : o.op = .store t x y) {bt : TypeId} (c c' : List Value) (g : Nat) (hx : a.eval x = .pointer (some ⟨g, 0, none⟩)) (hy : a.eval y = .agg c'.toArray)
    (hb : Bx w g bt c) (hl : c'.length = c.length) (hi : (P.info? t).map (·.size) = some c'.length) (h1 : ∀ v ∈ c', v.oneCell' = true) (h : ∀ u, Bx u g bt c' → w.grownBy u (some g) → wpList P ops Q rest (a.put o.dst undef) u) : wpList P ops Q (o :: rest) a w := by
  refine wpList_store_mid hgd t x y ho g 0 c'.toArray hx hy (fun j hj => ?_) (by simpa using hi) (all_oneCell_toArray h1) (h _ (hb.store c' hl) (setCells_gb g _ 0 w))
  rw [Nat.zero_add]
  have hj' : j < c.length := by rw [← hl]; simpa using hj
  refine ⟨?_, hb.frozen j⟩
  rw [hb.cell j _ (List.getElem?_eq_getElem hj')]
  rfl
end Go.Proofs.YtcnikfikpnnblaaGreatDoor
namespace Go.Proofs.YtcnikfikpnnblaaGreatDoor
open Go.RowKit
set_option linter.unusedVariables false
def zSx : List Value := [.string ⟨#[]⟩, .int .i64 0, .string ⟨#[]⟩, .int .i64 0, .int .i64 0, .int .i64 0, .nilFunc, .nilFunc]
def FindP (S : ByteArray) (w0 : World) (e : Ending) (w' : World) : Prop :=
  ((∃ j, j < 52 ∧ spN j = S ∧ (∀ i, i < j → spN i ≠ S) ∧ e = .returned (.tuple #[.agg (sxF j).toArray, .bool true])) ∨ ((∀ i, i < 52 → spN i ≠ S) ∧ e = .returned (.tuple #[.agg zSx.toArray, .bool false]))) ∧ Below w0.heap.size w0 w'
structure FnI (w0 w1 w2 wr : World) (g cap : Nat) : Prop where
  own : w2.ownsRow w1.heap.size 85 8 (.slice (some ⟨g, 0, none⟩) 52 cap) 52 (fl sxF 52)
  b2 : Below w1.heap.size w1 w2
  br : Below w2.heap.size w2 wr
  w1 : w1 = w0.alloc (.cells zSx.toArray 85)
theorem FnI.box {w0 w1 w2 wr : World} {g cap : Nat} (h : FnI w0 w1 w2 wr g cap) : Bx wr w0.heap.size 85 zSx := by
  have e1 : w1.heap[w0.heap.size]? = some (.cells zSx.toArray 85 (0, 0)) := by rw [h.w1]; exact heap_alloc_new w0 _
  have l1 : w0.heap.size < w1.heap.size := by rw [h.w1]; simp
  unfold Bx
  rw [h.br.block _ (Nat.lt_of_lt_of_le l1 h.b2.size), h.b2.block _ l1, e1]
theorem FnI.bel {w0 w1 w2 wr : World} {g cap : Nat} (h : FnI w0 w1 w2 wr g cap) : Below w0.heap.size w0 wr := by
  have b0 : Below w0.heap.size w0 w1 := by rw [h.w1]; exact (Below.refl _ _).alloc (Nat.le_refl _) _
  have b1 := b0.trans (h.b2.mono b0.size)
  exact b1.trans (h.br.mono b1.size)
theorem FnI.more {w0 w1 w2 wr wx : World} {g cap : Nat} (h : FnI w0 w1 w2 wr g cap) (b : Below wr.heap.size wr wx) : FnI w0 w1 w2 wx g cap := ⟨h.own, h.b2, h.br.trans (b.mono h.br.size), h.w1⟩
set_option maxHeartbeats 3200000 in
set_option maxRecDepth 100000 in
/-- tweak.find. -/
theorem find_ok (S : ByteArray) (w0 : World) (hT : Pow w0) : Calls Tryz.prog 43 #[.string S] w0 fun e w' => FindP S w0 e w' := by
  have HT : Hid (Pow w0) := hT
  clear hT
  obtain ⟨w1, hw1⟩ : ∃ w1, w1 = w0.alloc (.cells zSx.toArray 85) := ⟨_, rfl⟩
  have HT1 : Hid (Pow w1) := by rw [hw1]; exact HT.out.below ((Below.refl _ _).alloc (Nat.le_refl _) _)
  have HW1 : Hid (w1 = w0.alloc (.cells zSx.toArray 85)) := hw1
  have H45 : Hid (Calls Tryz.prog 45 #[] (w0.alloc (.cells #[.string ⟨#[]⟩, .int .i64 0, .string ⟨#[]⟩, .int .i64 0, .int .i64 0, .int .i64 0, .nilFunc, .nilFunc] 85)) fun e w' => Hid (∃ g cap, e = .returned (.slice (some ⟨g, 0, none⟩) 52 cap) ∧ FnI w0 w1 w' w' g cap)) := by
    have q := suites_ok w1 HT1.out
    rw [hw1] at q
    refine q.mono ?_
    rintro e w2 hh
    obtain ⟨g, cap, rfl, ho, hb⟩ := hh.out
    exact ⟨g, cap, rfl, by rw [hw1]; exact ho, by rw [hw1]; exact hb, Below.refl _ _, hw1⟩
  clear hw1 HT1
  go_enter Tryz.func43, Tryz.ntmps43
  go_wp2_with (go_at_call 45; refine H45.out.mono ?_; intro e1 w2 hh; obtain ⟨g, cap, rfl, hI⟩ := hh.out; have HI : Hid (FnI w0 w1 w2 w2 g cap) := hI; clear hh hI H45)
  obtain ⟨b0, hb0⟩ : ∃ b0, b0 = w0.heap.size := ⟨_, rfl⟩
  have HB0 : Hid (b0 = w0.heap.size) := hb0
  rw [← hb0]
  clear hb0
  go_loopw [8] (fun vi wr => ∃ i : Nat, vi = .int .i64 (i : Nat) ∧ i ≤ 52 ∧ Hid (FnI w0 w1 w2 wr g cap) ∧ Hid (∀ k, k < i → spN k ≠ S)) (fun vi _ => 52 - (intOf vi).toNat)
  case atStart => exact ⟨0, rfl, by omega, HI, fun k hk => by omega⟩
  case round =>
    obtain ⟨i, rfl, hi, HR, HN⟩ := hrel
    clear HI
    by_cases hlt : i < 52
    · obtain ⟨a, x, y, z, s, f, h, hrow, hf1, hg1⟩ := sx_row i
      have HROW : Hid (sxF i = [.string (spN i), .int .i64 a, .string s, .int .i64 x, .int .i64 y, .int .i64 z, f, h]) := hrow
      have g0 : (0 : Int) ≤ (i : Int) := by omega
      have g1 : (i : Int) < 52 := by omega
      have hsF : ∀ u ad md, (store ad f md).run Tryz.prog u = stored Tryz.prog u ad f md := fun u ad md => run_store Tryz.prog u ad f md hf1
      have hsG : ∀ u ad md, (store ad h md).run Tryz.prog u = stored Tryz.prog u ad h md := fun u ad md => run_store Tryz.prog u ad h md hg1
      have HO1 : Hid (f.oneCell' = true ∧ h.oneCell' = true) := ⟨hf1, hg1⟩
      clear hf1 hg1
      obtain ⟨NM, HNM⟩ : ∃ q, Hid (spN i = q) := ⟨_, rfl⟩
      rw [HNM.out] at hrow
      have cs : ∀ j, j < 8 → wr.cell? ⟨g, i * 8 + j, none⟩ = (sxF i)[j]? := fun j hj => sp_cell HR.out.own HR.out.br hlt hj
      rw [hrow] at cs
      have c0 := cs 0 (by decide)
      have c1 := cs 1 (by decide)
      have c2 := cs 2 (by decide)
      have c3 := cs 3 (by decide)
      have c4 := cs 4 (by decide)
      have c5 := cs 5 (by decide)
      have c6 := cs 6 (by decide)
      have c7 := cs 7 (by decide)
      clear cs hrow
      simp only [List.getElem?_cons_zero, List.getElem?_cons_succ, Nat.add_zero] at c0 c1 c2 c3 c4 c5 c6 c7
      go_upto_region 4 with fail
      obtain ⟨w3, hw3⟩ : ∃ w3, w3 = wr.alloc (.cells #[.string NM, .int .i64 a, .string s, .int .i64 x, .int .i64 y, .int .i64 z, f, h] 85) := ⟨_, rfl⟩
      have HR2 : Hid (FnI w0 w1 w2 w3 g cap) := by rw [hw3]; exact HR.out.more ((Below.refl _ _).alloc (Nat.le_refl _) _)
      have hb2 := heap_alloc_new wr (.cells #[.string NM, .int .i64 a, .string s, .int .i64 x, .int .i64 y, .int .i64 z, f, h] 85)
      rw [← hw3] at hb2 ⊢
      have d0 : w3.cell? ⟨wr.heap.size, 0, none⟩ = some (.string NM) := by simp [World.cell?, hb2]
      have HBX : Hid (Bx w3 wr.heap.size 85 [.string NM, .int .i64 a, .string s, .int .i64 x, .int .i64 y, .int .i64 z, f, h]) := hb2
      clear hw3 hb2 c0 c1 c2 c3 c4 c5 c6 c7 hsF hsG
      generalize wr.heap.size = m at d0 HBX ⊢
      clear HR
      by_cases hE : NM = S
      · subst hE
        have HF : Hid (∀ v ∈ sxF i, v.oneCell' = true) := by
          rw [HROW.out]; intro v hv; simp at hv; rcases hv with rfl | rfl | rfl | rfl | rfl | rfl | rfl | rfl <;> first | rfl | exact HO1.out.1 | exact HO1.out.2
        have hrow2 : sxF i = [.string NM, .int .i64 a, .string s, .int .i64 x, .int .i64 y, .int .i64 z, f, h] := by rw [HROW.out, HNM.out]
        rw [hrow2] at HF
        have HB2 : Hid (Bx w3 b0 85 zSx) := by rw [HB0.out]; exact HR2.out.box
        go_wp2_with (first
          | (refine wpList_load_mid (by rfl) 85 (.tmp 5) (by rfl) m 0 (by rfl) [.string NM, .int .i64 a, .string s, .int .i64 x, .int .i64 y, .int .i64 z, f, h] _ HBX.out.range Tryz.underlying85 rfl (by kernel_rfl) ?_)
          | (refine wpList_store_bx (by rfl) 85 (.tmp 2) (.tmp 16) (by rfl) zSx [.string NM, .int .i64 a, .string s, .int .i64 x, .int .i64 y, .int .i64 z, f, h] b0 (by rfl) (by rfl) HB2.out rfl (by kernel_rfl) HF.out ?_; intro u9 hb9 hg9))
        refine ret_agg_tmp (b := b0) [.string NM, .int .i64 a, .string s, .int .i64 x, .int .i64 y, .int .i64 z, f, h] (.bool true) rfl rfl rfl hb9.range Tryz.underlying85 rfl (by kernel_rfl) ⟨Or.inl ⟨i, hlt, HNM.out, HN.out, by rw [hrow2]⟩, ?_⟩
        exact HR2.out.bel.trans (below_gb hg9 HR2.out.bel.size (by rw [HB0.out]; exact Nat.le_refl _))
      · have hne : (NM.toList == S.toList) = false := by
          rw [beq_eq_false_iff_ne]; intro q; exact hE (bytes_inj q)
        have HNE : Hid (spN i ≠ S) := by rw [HNM.out]; exact hE
        clear hE
        go_wp2
        refine ⟨⟨i + 1, by simp, by omega, HR2, fun k hk => ?_⟩, by simp [intOf]; omega⟩
        by_cases q : k < i
        · exact HN.out k q
        · obtain rfl : k = i := by omega
          exact HNE.out
    · have g1 : ¬ (i : Int) < 52 := by omega
      have HB2 : Hid (Bx wr b0 85 zSx) := by rw [HB0.out]; exact HR.out.box
      have hbd : ∀ w, (Instr.build 85 #[]).run Tryz.prog w = .ok (.agg #[.string ⟨#[]⟩, .int .i64 0, .string ⟨#[]⟩, .int .i64 0, .int .i64 0, .int .i64 0, .nilFunc, .nilFunc]) w := fun w => run_build w _ _ _ (by kernel_rfl)
      go_wp2_with (refine wpList_store_bx (by rfl) 85 (.tmp 2) (.tmp 18) (by rfl) zSx zSx b0 (by rfl) (by rfl) HB2.out rfl (by kernel_rfl) (by simp [zSx, Value.oneCell']) ?_; intro u9 hb9 hg9)
      refine ret_agg_tmp (b := b0) zSx (.bool false) rfl rfl rfl hb9.range Tryz.underlying85 rfl (by kernel_rfl) ⟨Or.inr ⟨fun k hk => HN.out k (by omega), rfl⟩, ?_⟩
      exact HR.out.bel.trans (below_gb hg9 HR.out.bel.size (by rw [HB0.out]; exact Nat.le_refl _))
end Go.Proofs.YtcnikfikpnnblaaGreatDoor
