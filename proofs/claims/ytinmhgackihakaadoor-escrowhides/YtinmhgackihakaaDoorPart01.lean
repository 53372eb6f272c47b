import Derived.Test.YtinmhgackihakaaDoorPart00
import Derived.Lib.LazyBuf
import Derived.Lib.SliceRun
import Derived.Shelf.RegionOpenPlain
import Derived.Laws.StructEq
import Derived.Laws.Tables
import Derived.KernelRfl
import Derived.WalkMore
import Derived.Deep.AppendLies
import Derived.Shelf.Strings.Builder1
import Derived.Test.YtinmhgackihakaaDoorProg
namespace Go.Proofs.YtinmhgackihakaaDoor
open Go.RowKit
set_option linter.unusedVariables false
set_option linter.unusedSimpArgs false
theorem Tryd.underlying23' : Tryd.prog.underlying 23 = some (.slice 5) := by kernel_rfl
set_option maxHeartbeats 800000 in
set_option maxRecDepth 100000 in
theorem clone_ok (b off c : Nat) (l : List F) (w : World) (hn : l.length ≤ 4000) (h : Rw w b off l) :
    Calls Tryd.prog 79 #[.slice (some ⟨b, off, none⟩) l.length c] w fun e w' => Hid (∃ v, e = .returned v ∧ w'.ownsRow w.heap.size 5 1 v l.length (fc l) ∧ Below w.heap.size w w') := by
  obtain ⟨i0, hi, hz0, hz1, hz2⟩ := info_parts Tryd.infoB
  have hnl : ∀ w, (binOp .eql 23 (.slice (some ⟨b, off, none⟩) l.length c) (.slice none 0 0)).run Tryd.prog w = .ok (.bool false) w := fun w => Lib.run_eql_slice_nil w 23 5 (some ⟨b, off, none⟩) l.length c 0 0 Tryd.underlying23'
  have HL : Hid ((fc l).length = l.length) := fc_len l
  have HC : Hid (∀ j u, (fc l)[j]? = some u → w.cell? ((⟨b, off, none⟩ : Addr).add j) = some u) := fun j u hu => by
    have hj : j < l.length := by rw [← HL.out]; exact (List.getElem?_eq_some_iff.1 hu).1
    rw [fc_at l j hj] at hu
    rw [Addr.add_lit, h j hj]
    exact hu
  clear h
  obtain ⟨n, HN⟩ : ∃ n, Hid (l.length = n) := ⟨_, rfl⟩
  rw [HN.out] at hnl HL hn ⊢
  obtain ⟨vs, HV⟩ : ∃ vs, Hid (fc l = vs) := ⟨_, rfl⟩
  have h1 : Hid (∀ u ∈ vs, u.oneCell' = true) := by rw [← HV.out]; exact fc_one l
  rw [HV.out] at HC HL ⊢
  go_enter Tryd.func79, Tryd.ntmps79
  go_wp2_with (first
    | (at_builtin; go_must (refine wpList_append_own _ rfl _ _ 23 rfl w.heap.size 5 i0 (.int .u8 0) 1 1 Tryd.underlying23' hi hz0 hz1 hz2 rfl (by decide) _ 0 [] rfl (World.ownsRow_made w #[] 0 (Nat.le_refl _) (by unfold maxLen; omega) rfl) ⟨b, off, none⟩ n c vs rfl ?_ ?_ h1.out ?_ ?_ ?_ ?_)))
  · rw [HL.out, Nat.mul_one]
  · intro j u hu
    have := HC.out j u hu
    rw [World.cell?_alloc_lt w _ _ (World.block_lt_of_cell? w _ this)]
    exact this
  · unfold maxLen; omega
  · omega
  · simp
  intro v1 w1 hown hgrow hnil
  have HO : Hid (w1.ownsRow w.heap.size 5 1 v1 n vs) := by show w1.ownsRow w.heap.size 5 1 v1 n vs; simpa using hown
  have HB : Hid (Below w.heap.size w w1) := ((Below.refl _ _).alloc (Nat.le_refl _) _).grown hgrow (by simp) (by intro k hk; cases hk; exact Nat.le_refl _)
  clear hown hgrow hnil
  go_wp2
  go_ret
  exact ⟨_, rfl, HO.out, HB.out⟩
/-- A row, its first k and last k places taken from the other end. -/
def rvl (l : List F) (k : Nat) : List F := (List.range l.length).map fun q => if q < k ∨ l.length ≤ q + k then l.getD (l.length - 1 - q) 0 else l.getD q 0
theorem rvl_len (l : List F) (k : Nat) : (rvl l k).length = l.length := by simp [rvl]
theorem rvl_at (l : List F) (k q : Nat) (h : q < l.length) : (rvl l k).getD q 0 = if q < k ∨ l.length ≤ q + k then l.getD (l.length - 1 - q) 0 else l.getD q 0 := by
  simp [rvl, List.getD_eq_getElem?_getD, List.getElem?_map, List.getElem?_range h]
theorem rvl_zero (l : List F) : rvl l 0 = l := by
  apply List.ext_getElem
  · simp [rvl]
  · intro q h1 h2
    simp [rvl, List.getD_eq_getElem?_getD, List.getElem?_eq_getElem h2, show ¬ l.length ≤ q by omega]
theorem rvl_all (l : List F) (k : Nat) (h : l.length ≤ 2 * k + 1) : rvl l k = l.reverse := by
  apply List.ext_getElem
  · simp [rvl]
  · intro q h1 h2
    have hq : q < l.length := by simpa [rvl] using h1
    have e : (rvl l k)[q] = (rvl l k).getD q 0 := by rw [List.getD_eq_getElem?_getD, List.getElem?_eq_getElem h1]; rfl
    rw [e, rvl_at l k q hq, List.getElem_reverse]
    by_cases c : q < k ∨ l.length ≤ q + k
    · rw [if_pos c, List.getD_eq_getElem?_getD, List.getElem?_eq_getElem (by omega)]; rfl
    · rw [if_neg c, List.getD_eq_getElem?_getD, List.getElem?_eq_getElem hq]
      show l[q] = _
      congr 1
      omega
theorem rvl_next (l : List F) (k j : Nat) (h : k + 1 + j = l.length) (hj : k < j) : ((fc (rvl l k)).set k (.int .u8 ((l.getD j 0).1 : Nat))).set j (.int .u8 ((l.getD k 0).1 : Nat)) = fc (rvl l (k + 1)) := by
  apply List.ext_getElem?
  intro q
  by_cases hq : q < l.length
  · rw [fc_at (rvl l (k + 1)) q (by rw [rvl_len]; exact hq), rvl_at l (k + 1) q hq]
    by_cases e1 : q = j
    · subst e1
      rw [List.getElem?_set_self (by rw [List.length_set, fc_len, rvl_len]; exact hq), if_pos (by omega), show l.length - 1 - q = k by omega]
    · rw [List.getElem?_set_ne (by omega)]
      by_cases e2 : q = k
      · subst e2
        rw [List.getElem?_set_self (by rw [fc_len, rvl_len]; exact hq), if_pos (by omega), show l.length - 1 - q = j by omega]
      · rw [List.getElem?_set_ne (by omega), fc_at (rvl l k) q (by rw [rvl_len]; exact hq), rvl_at l k q hq]
        by_cases c : q < k ∨ l.length ≤ q + k
        · rw [if_pos c, if_pos (by omega)]
        · rw [if_neg c, if_neg (by omega)]
  · rw [List.getElem?_eq_none (by simp [fc_len, rvl_len]; omega), List.getElem?_eq_none (by simp [fc_len, rvl_len]; omega)]
set_option maxHeartbeats 1600000 in
set_option maxRecDepth 100000 in
theorem reverse_ok (b c : Nat) (l : List F) (w : World) (hn : l.length ≤ 4000) (h : Bx w b 5 (fc l)) :
    Calls Tryd.prog 80 #[.slice (some ⟨b, 0, none⟩) l.length c] w fun e w' => Hid (e = .returned (.tuple #[]) ∧ Bx w' b 5 (fc l.reverse) ∧ Below b w w') := by
  obtain ⟨n, HN⟩ : ∃ n, Hid (l.length = n) := ⟨_, rfl⟩
  rw [HN.out] at hn ⊢
  have HI0 : Hid (Bx w b 5 (fc (rvl l 0)) ∧ Below b w w) := ⟨by rw [rvl_zero]; exact h, Below.refl _ _⟩
  clear h
  have mixed : Tryd.prog.follows .mixedOrders = true := by kernel_rfl
  go_enter Tryd.func80, Tryd.ntmps80
  go_wp2
  go_loopw [2, 3] (fun vi vj wr => ∃ k : Nat, ∃ jz : Int, 2 * k ≤ n ∧ vi = .int .i64 (k : Nat) ∧ vj = .int .i64 jz ∧ jz = (n : Int) - 1 - k ∧ Hid (Bx wr b 5 (fc (rvl l k)) ∧ Below b w wr)) (fun vi _ _ => n - (intOf vi).toNat)
  case atStart => exact ⟨0, (n : Int) - 1, by omega, rfl, by first | rfl | simp, by omega, HI0.out⟩
  case round =>
    obtain ⟨k, jz, hk, rfl, rfl, hjz, HI⟩ := hrel
    clear HI0
    by_cases hlt : (k : Int) < jz
    · obtain ⟨j, HJ⟩ : ∃ j : Nat, Hid (k + 1 + j = n) := ⟨n - 1 - k, by show k + 1 + (n - 1 - k) = n; omega⟩
      have hj := HJ.out
      obtain rfl : jz = (j : Int) := by omega
      have hkj : Hid (k < j) := by show k < j; omega
      have hkn : k < n := by omega
      have hjn : j < n := by omega
      have g1 : (k : Int) < (n : Int) := by omega
      have g2 : (j : Int) < (n : Int) := by omega
      have g3 : (0 : Int) ≤ (k : Int) := by omega
      have g4 : (0 : Int) ≤ (j : Int) := by omega
      have n1 : IntKind.i64.wrap ((j : Int) - 1) = (j : Int) - 1 := by rw [IntKind.wrap_i64]; omega
      obtain ⟨h1, h2⟩ := HI.out
      have ck : wr.cell? ⟨b, k, none⟩ = some (.int .u8 ((l.getD k 0).1 : Nat)) := h1.cell k _ (by rw [fc_at _ k (by rw [rvl_len, HN.out]; exact hkn), rvl_at l k k (by rw [HN.out]; exact hkn), if_neg (by rw [HN.out]; omega)])
      have cj : wr.cell? ⟨b, j, none⟩ = some (.int .u8 ((l.getD j 0).1 : Nat)) := h1.cell j _ (by rw [fc_at _ j (by rw [rvl_len, HN.out]; exact hjn), rvl_at l k j (by rw [HN.out]; exact hjn), if_neg (by rw [HN.out]; omega)])
      have fk : wr.frozen? ⟨b, k, none⟩ = false := h1.frozen _
      have fj : wr.frozen? ⟨b, j, none⟩ = false := h1.frozen _
      have HNX : Hid (Bx ((wr.setCell ⟨b, k, none⟩ (.int .u8 ((l.getD j 0).1 : Nat))).setCell ⟨b, j, none⟩ (.int .u8 ((l.getD k 0).1 : Nat))).drew b 5 (fc (rvl l (k + 1))) ∧ Below b w ((wr.setCell ⟨b, k, none⟩ (.int .u8 ((l.getD j 0).1 : Nat))).setCell ⟨b, j, none⟩ (.int .u8 ((l.getD k 0).1 : Nat))).drew) := by
        refine ⟨?_, ((h2.setCell (Nat.le_refl _) _).setCell (Nat.le_refl _) _).drew⟩
        rw [← rvl_next l k j (by rw [HN.out]; exact HJ.out) hkj.out]
        exact (h1.set _ _).set _ _
      generalize (l.getD k 0).1 = a at ck HNX
      generalize (l.getD j 0).1 = d at cj HNX
      clear h1 h2 HI hjz hj hk
      go_wp2_with fail
      go_region_o
      go_wp2
      have e1 := HJ.out
      have e2 := hkj.out
      refine ⟨⟨k + 1, (j : Int) - 1, by omega, by first | rfl | (simp; done), rfl, by omega, HNX.out⟩, ?_⟩
      simp [intOf]
      omega
    · have hx : Hid (Bx wr b 5 (fc l.reverse) ∧ Below b w wr) := ⟨by rw [← rvl_all l k (by rw [HN.out]; omega)]; exact HI.out.1, HI.out.2⟩
      clear HI
      go_wp2
      go_end0
      exact ⟨rfl, hx.out⟩
end Go.Proofs.YtinmhgackihakaaDoor
namespace Go.Proofs.YtinmhgackihakaaDoor
open Go.RowKit
set_option linter.unusedVariables false
set_option linter.unusedSimpArgs false
theorem Tryd.isAgg5' (w : World) : (isAgg 5).run Tryd.prog w = .ok false w := by kernel_rfl
theorem Tryd.sizeOf5' (w : World) : (Go.sizeOf 5).run Tryd.prog w = .ok 1 w := by kernel_rfl
theorem Tryd.underlying5' : Tryd.prog.underlying 5 = some (.int .u8) := by kernel_rfl
set_option maxHeartbeats 3200000 in
set_option maxRecDepth 100000 in
theorem eq4 (t : TypeId) (ht : Tryd.prog.underlying t = some (.array 4 5)) (x0 x1 x2 x3 y0 y1 y2 y3 : Int) (w : World) : (Op.equalIn 10000 t (.agg #[.int .u8 x0, .int .u8 x1, .int .u8 x2, .int .u8 x3]) (.agg #[.int .u8 y0, .int .u8 y1, .int .u8 y2, .int .u8 y3])).run Tryd.prog w = .ok (x0 == y0 && (x1 == y1 && (x2 == y2 && x3 == y3))) w := by
  have u5 := Tryd.underlying5'
  have a5 := Tryd.isAgg5'
  have z5 := Tryd.sizeOf5'
  have ut := fun w => run_underlying ht w
  have e : ∀ x y : Int, (Op.equalIn 9999 5 (.int .u8 x) (.int .u8 y)).run Tryd.prog w = .ok (x == y) w := fun x y => by
    rw [show (9999 : Nat) = 9998 + 1 from rfl, run_equalIn_int w 9998 5 .u8 .u8 x y u5]
  rw [show (10000 : Nat) = 9999 + 1 from rfl, Op.equalIn]
  simp only [Sem.run_bind, run_underlying ht, Result.andThen_ok]
  simp only [Std.Legacy.Range.forIn_eq_forIn_range', Std.Legacy.Range.size, Nat.sub_zero, Nat.add_sub_cancel, Nat.div_one, List.range'_succ, List.range'_zero, List.forIn_cons, List.forIn_nil]
  go_simp
  by_cases h0 : x0 = y0 <;> by_cases h1 : x1 = y1 <;> by_cases h2 : x2 = y2 <;> by_cases h3 : x3 = y3 <;> simp [h0, h1, h2, h3]
theorem four (l : List F) (hl : l.length = 4) : ∃ a b c d, l = [a, b, c, d] := by
  match l, hl with
  | [a, b, c, d], _ => exact ⟨a, b, c, d, rfl⟩
set_option maxRecDepth 100000 in
theorem eql4 (t : TypeId) (ht : Tryd.prog.underlying t = some (.array 4 5)) (l m : List F) (hl : l.length = 4) (hm : m.length = 4) (w : World) : (binOp .eql t (.agg (fc l).toArray) (.agg (fc m).toArray)).run Tryd.prog w = .ok (.bool (decide (l = m))) w := by
  obtain ⟨a, b, c, d, rfl⟩ := four l hl
  obtain ⟨a', b', c', d', rfl⟩ := four m hm
  have h := eq4 t ht (a.1 : Nat) (b.1 : Nat) (c.1 : Nat) (d.1 : Nat) (a'.1 : Nat) (b'.1 : Nat) (c'.1 : Nat) (d'.1 : Nat) w
  rw [run_eql_struct]
  have h2 : (Op.equalIn 10000 t (.agg (fc [a, b, c, d]).toArray) (.agg (fc [a', b', c', d']).toArray)).run Tryd.prog w = _ := h
  rw [h2, Result.andThen_ok]
  congr 2
  have q : ∀ x y : F, ((x.1 : Nat) : Int) = ((y.1 : Nat) : Int) ↔ x = y := fun x y => ⟨fun e => Fin.ext (by omega), fun e => by rw [e]⟩
  simp only [List.cons.injEq, and_true]
  by_cases h0 : a = a' <;> by_cases h1 : b = b' <;> by_cases h2 : c = c' <;> by_cases h3 : d = d' <;> simp [q, h0, h1, h2, h3]
theorem Tryd.und77 : Tryd.prog.underlying 104 = some (.array 4 5) := by kernel_rfl
theorem Tryd.und51 : Tryd.prog.underlying 103 = some (.array 4 5) := by kernel_rfl
end Go.Proofs.YtinmhgackihakaaDoor
namespace Go.Proofs.YtinmhgackihakaaDoor
open Go.RowKit
set_option linter.unusedVariables false
set_option linter.unusedSimpArgs false
/-- Do two places' sums come out as the row's? -/
def two (l : List F) (i k : Nat) : Prop := (List.range 4).map (s2 (X l.length i) (X l.length k) (sumG l 0) (sumG l 1)) = sumL l
def wrA (l : List F) (i k : Nat) : F := wA (X l.length i) (X l.length k) (sumG l 0) (sumG l 1)
def wrB (l : List F) (i k : Nat) : F := fa (sumG l 0) (wrA l i k)
/-- What a row is mended to. -/
def MR (l m : List F) : Prop := (∃ i k, k < i ∧ i < l.length ∧ two l i k ∧ m = (l.set i (fa (l.getD i 0) (wrA l i k))).set k (fa (l.getD k 0) (wrB l i k))) ∨ ((∀ i k, k < i → i < l.length → ¬ two l i k) ∧ m = l)
/-- Its weights. -/
def Wl (n : Nat) : List F := (List.range n).map (X n)
theorem Wl_len (n : Nat) : (Wl n).length = n := by simp [Wl]
theorem Wl_at (n i : Nat) (h : i < n) : (Wl n).getD i 0 = X n i := by simp [Wl, List.getD_eq_getElem?_getD, List.getElem?_map, List.getElem?_range h]
theorem Wl_rev (n : Nat) : ((List.range n).map Em).reverse = Wl n := by
  apply List.ext_getElem
  · simp [Wl]
  · intro i h1 h2
    simp only [Wl, List.getElem_reverse, List.getElem_map, List.getElem_range, List.length_map, List.length_range, X]
/-- A row with room behind it. -/
def Rx (w : World) (g : Nat) (l : List F) : Prop := ∃ sp, Bx w g 5 (fc l ++ sp)
theorem Rx.lt {w : World} {g : Nat} {l : List F} (h : Rx w g l) : g < w.heap.size := h.choose_spec.lt
theorem Rx.keep {w w' : World} {g : Nat} {l : List F} (h : Rx w g l) (e : w'.heap[g]? = w.heap[g]?) : Rx w' g l := ⟨_, h.choose_spec.keep e⟩
theorem Rx.below {w w' : World} {g : Nat} {l : List F} (h : Rx w g l) (hb : Below w.heap.size w w') : Rx w' g l := ⟨_, h.choose_spec.below hb⟩
theorem Rx.cell {w : World} {g : Nat} {l : List F} (h : Rx w g l) (i : Nat) (hi : i < l.length) : w.cell? ⟨g, i, none⟩ = some (.int .u8 ((l.getD i 0).1 : Nat)) := by
  obtain ⟨sp, hs⟩ := h
  refine hs.cell i _ ?_
  rw [List.getElem?_append_left (by rw [fc_len]; exact hi), fc_at l i hi]
theorem Rx.frozen {w : World} {g : Nat} {l : List F} (h : Rx w g l) (i : Nat) : w.frozen? ⟨g, i, none⟩ = false := h.choose_spec.frozen i
theorem fc_set (l : List F) (i : Nat) (a : F) : fc (l.set i a) = (fc l).set i (.int .u8 (a.1 : Nat)) := by simp [fc, List.map_set]
theorem Rx.set {w : World} {g : Nat} {l : List F} (h : Rx w g l) (i : Nat) (hi : i < l.length) (a : F) : Rx (w.setCell ⟨g, i, none⟩ (.int .u8 (a.1 : Nat))) g (l.set i a) := by
  obtain ⟨sp, hs⟩ := h
  refine ⟨sp, ?_⟩
  rw [fc_set, ← List.set_append_left _ _ (by rw [fc_len]; exact hi)]
  exact hs.set i _
theorem Rx.rw {w : World} {g : Nat} {l : List F} (h : Rx w g l) : Rw w g 0 l := fun i hi => by rw [Nat.zero_add]; exact h.cell i hi
theorem own_rx {w : World} {B : Nat} {v : Value} {l : List F} (h : w.ownsRow B 5 1 v l.length (fc l)) (h1 : 1 ≤ l.length) : ∃ g c, v = .slice (some ⟨g, 0, none⟩) l.length c ∧ Hid (Rx w g l ∧ B ≤ g) := by
  rcases h.2 with ⟨e, _⟩ | ⟨g, cap, cur, q, hB, hh, h3, h4, h5, h6⟩
  · omega
  · refine ⟨g, cap, q, ⟨cur.toList.drop l.length, ?_⟩, hB⟩
    unfold Bx
    rw [hh, ← h6, Nat.mul_one, List.take_append_drop]
set_option maxHeartbeats 1600000 in
set_option maxRecDepth 100000 in
theorem mended_ok (b off c : Nat) (l : List F) (w : World) (hl : l.length ≤ 255) (h1 : 1 ≤ l.length) (h : Rw w b off l) (hb : b < w.heap.size) : Calls Tryd.prog 64 #[.slice (some ⟨b, off, none⟩) l.length c] w fun e w' => Hid (∃ g c' m, e = .returned (.slice (some ⟨g, 0, none⟩) l.length c') ∧ w.heap.size ≤ g ∧ Rx w' g m ∧ MR l m ∧ m.length = l.length ∧ Below w.heap.size w w') := by
  obtain ⟨M, HMM⟩ : ∃ M, Hid (w.heap.size = M) := ⟨_, rfl⟩
  obtain ⟨n, HN⟩ : ∃ n, Hid (l.length = n) := ⟨_, rfl⟩
  have hlr : Hid (l.length ≤ 255 ∧ 1 ≤ l.length) := ⟨hl, h1⟩
  have HR : Hid (Rw w b off l ∧ b < w.heap.size) := ⟨h, hb⟩
  have H39 : Hid (Calls Tryd.prog 79 #[.slice (some ⟨b, off, none⟩) n c] w fun e w' => Hid (∃ v, e = .returned v ∧ w'.ownsRow w.heap.size 5 1 v l.length (fc l) ∧ Below w.heap.size w w')) := by
    have p := clone_ok b off c l w (by omega) h
    rw [HN.out] at p ⊢
    exact p
  have H40 : Hid (∀ u, Below w.heap.size w u → Calls Tryd.prog 61 #[.slice (some ⟨b, off, none⟩) n c] u fun e w' => Hid (e = .returned (.agg (fc (sumL l)).toArray) ∧ Below u.heap.size u w')) := fun u hu => by
    have p := sumsOf_ok b off c l u (by omega) (h.below hu) (Nat.lt_of_lt_of_le hb hu.size)
    rw [HN.out] at p
    exact p
  have H41 : Hid (∀ u, Calls Tryd.prog 62 #[.int .i64 (n : Nat)] u fun e w' => Hid (∃ p, e = .returned (.slice (some ⟨p, 0, none⟩) n n) ∧ u.heap.size ≤ p ∧ Bx w' p 5 (fc ((List.range n).map Em)) ∧ Below u.heap.size u w')) := fun u => powers_ok n (by rw [← HN.out]; omega) u
  have H42 : Hid (∀ u p, Bx u p 5 (fc ((List.range n).map Em)) → Calls Tryd.prog 80 #[.slice (some ⟨p, 0, none⟩) n n] u fun e w' => Hid (e = .returned (.tuple #[]) ∧ Bx w' p 5 (fc (Wl n)) ∧ Below p u w')) := fun u p hu => by
    have q := reverse_ok p n ((List.range n).map Em) u (by rw [List.length_map, List.length_range, ← HN.out]; omega) hu
    rw [List.length_map, List.length_range, Wl_rev] at q
    exact q
  obtain ⟨L, HLL⟩ : ∃ L, Hid (fc (sumL l) = L) := ⟨_, rfl⟩
  rw [HLL.out] at H40
  have HLN : Hid (L.length = 4 ∧ ∀ v ∈ L, v.oneCell' = true) := by rw [← HLL.out]; exact ⟨by rw [fc_len]; rfl, fc_one _⟩
  have hi7 : (Tryd.prog.info? 104).map (·.size) = some L.length := by rw [HLN.out.1]; kernel_rfl
  rw [HN.out]
  clear h hb hl h1
  go_enter Tryd.func64, Tryd.ntmps64
  go_wp2
  go_step3
  go_wp2_with (first
    | (go_at_call 79; refine H39.out.mono ?_; intro e1 w1 hh; obtain ⟨v, rfl, q1, q2⟩ := hh.out; obtain ⟨g, c', rfl, HG⟩ := own_rx q1 hlr.out.2; have HB1 : Hid (Below w.heap.size w w1) := q2; clear hh q1 q2 H39; rw [HN.out])
    | (go_at_call 61; refine (H40.out w1 HB1.out).mono ?_; intro e2 w2 hh; obtain ⟨rfl, q2⟩ := hh.out; have HB2 : Hid (Below w1.heap.size w1 w2) := q2; clear hh q2 H40)
    | (refine wpList_store_bx (by rfl) 104 (.tmp 4) (.tmp 15) (by rfl) (List.replicate 4 (.int .u8 0)) L w2.heap.size (by rfl) (by rfl) (Bx.new w2 104 _) (by rw [HLN.out.1]; rfl) hi7 HLN.out.2 ?_; intro w3 hb3 hg3; have HB3 : Hid (Bx w3 w2.heap.size 104 L ∧ (w2.alloc (.cells (List.replicate 4 (Value.int .u8 0)).toArray 104)).grownBy w3 (some w2.heap.size)) := ⟨hb3, hg3⟩; clear hb3 hg3)
    | (go_at_call 62; refine (H41.out _).mono ?_; intro e4 w4 hh; obtain ⟨p, rfl, q0, q1, q2⟩ := hh.out; have HB4 : Hid (w3.heap.size ≤ p ∧ Bx w4 p 5 (fc ((List.range n).map Em)) ∧ Below w3.heap.size w3 w4) := ⟨q0, q1, q2⟩; clear hh q0 q1 q2 H41)
    | (go_at_call 80; refine (H42.out w4 p HB4.out.2.1).mono ?_; intro e5 w5 hh; obtain ⟨rfl, q1, q2⟩ := hh.out; have HB5 : Hid (Bx w5 p 5 (fc (Wl n)) ∧ Below p w4 w5) := ⟨q1, q2⟩; clear hh q1 q2 H42))
  go_step3
  obtain ⟨S, HS⟩ : ∃ S, Hid (w2.heap.size = S) := ⟨_, rfl⟩
  have HI0 : Hid (Rx w5 g l ∧ Bx w5 S 104 L ∧ Bx w5 p 5 (fc (Wl n)) ∧ Below M w w5) := by
    obtain ⟨q1, q2⟩ := HG.out
    obtain ⟨a1, a2⟩ := HB3.out
    obtain ⟨b0, b1, b2⟩ := HB4.out
    obtain ⟨d1, d2⟩ := HB5.out
    have hg2 : g < w2.heap.size := Nat.lt_of_lt_of_le q1.lt HB2.out.size
    have hS3 := a1.lt
    have r2 := q1.below HB2.out
    have r3 : Rx (w2.alloc (.cells (List.replicate 4 (Value.int .u8 0)).toArray 104)) g l := r2.below ((Below.refl _ _).alloc (Nat.le_refl _) _)
    have r4 : Rx w3 g l := r3.keep (a2.block g r3.lt (fun e => by injection e with e; omega))
    have r5 : Rx w4 g l := r4.below b2
    have r6 : Rx w5 g l := r5.keep (d2.block g (by omega))
    have s4 : Bx w4 w2.heap.size 104 L := a1.below b2
    have s5 : Bx w5 w2.heap.size 104 L := s4.keep (d2.block _ (by omega))
    rw [← HS.out, ← HMM.out]
    have hM1 : w.heap.size ≤ w1.heap.size := HB1.out.size
    have hM2 : w1.heap.size ≤ w2.heap.size := HB2.out.size
    refine ⟨r6, s5, d1, ?_⟩
    have e1 : Below w.heap.size w w2 := HB1.out.trans (HB2.out.mono hM1)
    have e2 : Below w.heap.size w (w2.alloc (.cells (List.replicate 4 (Value.int .u8 0)).toArray 104)) := e1.alloc (by omega) _
    have e3 : Below w.heap.size w w3 := e2.trans (below_gb a2 (by simp; omega) (by omega))
    exact (e3.trans (b2.mono (by omega))).trans (d2.mono (by omega))
  have HNE : Hid (M ≤ g ∧ g < S ∧ S < p) := by
    have q := HG.out.2
    have hg2 : g < w2.heap.size := Nat.lt_of_lt_of_le HG.out.1.lt HB2.out.size
    have hS3 := HB3.out.1.lt
    have hp := HB4.out.1
    have hs := HS.out
    have hm := HMM.out
    exact ⟨by omega, by omega, by omega⟩
  rw [HS.out]
  clear HB1 HB2 HB3 HB4 HB5 HS HG
  have hnn : n ≤ 255 := by rw [← HN.out]; exact hlr.out.1
  have H43 : Hid (∀ u x y, Calls Tryd.prog 81 #[.int .u8 ((x : F).1 : Nat), .int .u8 ((y : F).1 : Nat), .int .u8 ((sumG l 0).1 : Nat), .int .u8 ((sumG l 1).1 : Nat)] u fun e w' => Hid (e = .returned (.agg (fc ((List.range 4).map (s2 x y (sumG l 0) (sumG l 1)))).toArray) ∧ Below u.heap.size u w')) := fun u x y => s2_ok x y _ _ u
  have H44 : Hid (∀ u x y, Calls Tryd.prog 82 #[.int .u8 ((x : F).1 : Nat), .int .u8 ((y : F).1 : Nat), .agg L.toArray] u fun e w' => Hid (e = .returned (.tuple #[.int .u8 ((wA x y (sumG l 0) (sumG l 1)).1 : Nat), .int .u8 ((fa (sumG l 0) (wA x y (sumG l 0) (sumG l 1))).1 : Nat)]) ∧ Below u.heap.size u w')) := fun u x y => by rw [← HLL.out]; exact wrong_ok x y (sumL l) rfl u
  go_wp2
  go_loopw [23] (fun vi wr => ∃ i : Nat, i ≤ n ∧ vi = .int .i64 (i : Nat) ∧ Hid ((∀ i' k', k' < i' → i' < i → ¬ two l i' k') ∧ Rx wr g l ∧ Bx wr S 104 L ∧ Bx wr p 5 (fc (Wl n)) ∧ Below M w wr)) (fun vi _ => n - (intOf vi).toNat)
  case atStart => exact ⟨0, by omega, rfl, fun _ _ _ h => absurd h (by omega), HI0.out⟩
  case round =>
    obtain ⟨i, hi, rfl, HI⟩ := hrel
    clear HI0
    by_cases hlt : i < n
    · have g1 : (i : Int) < (n : Int) := by omega
      have g0 : (0 : Int) ≤ (i : Int) := by omega
      have ci : wr.cell? ⟨p, i, none⟩ = some (.int .u8 ((X n i).1 : Nat)) := by
        rw [← Wl_at n i hlt]; exact HI.out.2.2.2.1.cell i _ (fc_at _ i (by rw [Wl_len]; exact hlt))
      have w1' : wrap64 ((i : Int) + 1) = ((i + 1 : Nat) : Int) ∧ IntKind.i64.wrap ((i : Int) + 1) = ((i + 1 : Nat) : Int) := by
        refine ⟨?_, ?_⟩
        · unfold wrap64; omega
        · rw [IntKind.wrap_i64]; omega
      have HW1 : Hid (wrap64 ((i : Int) + 1) = ((i + 1 : Nat) : Int) ∧ IntKind.i64.wrap ((i : Int) + 1) = ((i + 1 : Nat) : Int)) := w1'
      clear w1'
      obtain ⟨x1, HX1⟩ : ∃ a, Hid ((X n i).1 = a) := ⟨_, rfl⟩
      rw [HX1.out] at ci
      have HLT : Hid (i < n) := hlt
      clear hi hlt
      go_wp2
      go_loopw [32] (fun vk wq => ∃ k : Nat, k ≤ i ∧ vk = .int .i64 (k : Nat) ∧ Hid ((∀ k', k' < k → ¬ two l i k') ∧ (∀ i' k', k' < i' → i' < i → ¬ two l i' k') ∧ Rx wq g l ∧ Bx wq S 104 L ∧ Bx wq p 5 (fc (Wl n)) ∧ Below M w wq)) (fun vk _ => i - (intOf vk).toNat)
      case atStart => exact ⟨0, by omega, rfl, fun _ h => absurd h (by omega), HI.out⟩
      case round =>
        obtain ⟨k, hk, rfl, HJ⟩ := hrel
        clear HI
        by_cases hlt : k < i
        · have HKI : Hid (k < i) := hlt
          have g2 : (k : Int) < (i : Int) := by omega
          have g3 : (0 : Int) ≤ (k : Int) := by omega
          have hkn : k < n := by have := HLT.out; omega
          have hin : i < n := HLT.out
          have wk1 : wrap64 ((k : Int) + 1) = ((k + 1 : Nat) : Int) ∧ IntKind.i64.wrap ((k : Int) + 1) = ((k + 1 : Nat) : Int) := by
            refine ⟨?_, ?_⟩
            · unfold wrap64; omega
            · rw [IntKind.wrap_i64]; omega
          have HWK : Hid (wrap64 ((k : Int) + 1) = ((k + 1 : Nat) : Int) ∧ IntKind.i64.wrap ((k : Int) + 1) = ((k + 1 : Nat) : Int)) := wk1
          clear wk1
          have ck : wr.cell? ⟨p, k, none⟩ = some (.int .u8 ((X n k).1 : Nat)) := by
            rw [← Wl_at n k hkn]; exact HJ.out.2.2.2.2.1.cell k _ (fc_at _ k (by rw [Wl_len]; exact hkn))
          have hr0 : wr.drew.rangeAt S 0 L := HJ.out.2.2.2.1.range
          have c0 : wr.drew.cell? ⟨S, 0, none⟩ = some (.int .u8 ((sumG l 0).1 : Nat)) := HJ.out.2.2.2.1.cell 0 _ (by rw [← HLL.out]; rfl)
          have c1 : wr.drew.cell? ⟨S, 1, none⟩ = some (.int .u8 ((sumG l 1).1 : Nat)) := HJ.out.2.2.2.1.cell 1 _ (by rw [← HLL.out]; rfl)
          obtain ⟨A, HAA⟩ : ∃ A, Hid (fc ((List.range 4).map (s2 (X n i) (X n k) (sumG l 0) (sumG l 1))) = A) := ⟨_, rfl⟩
          obtain ⟨d, HD⟩ : ∃ d : Bool, Hid ((d = true ↔ two l i k) ∧ ∀ u, (binOp .eql 104 (.agg A.toArray) (.agg L.toArray)).run Tryd.prog u = .ok (.bool d) u) := by
            refine ⟨decide ((List.range 4).map (s2 (X n i) (X n k) (sumG l 0) (sumG l 1)) = sumL l), ?_, fun u => ?_⟩
            · rw [decide_eq_true_iff, ← HN.out]; exact Iff.rfl
            · rw [← HAA.out, ← HLL.out]; exact eql4 104 Tryd.und77 _ _ (by simp) rfl u
          have hq := HD.out.2
          have H1 : Hid (∀ u, Below M w u → Calls Tryd.prog 81 #[.int .u8 ((X n i).1 : Nat), .int .u8 ((X n k).1 : Nat), .int .u8 ((sumG l 0).1 : Nat), .int .u8 ((sumG l 1).1 : Nat)] u fun e w' => Hid (e = .returned (.agg A.toArray) ∧ Below u.heap.size u w')) := fun u _ => by rw [← HAA.out]; exact H43.out u _ _
          have H2 : Hid (∀ u, Calls Tryd.prog 82 #[.int .u8 ((X n i).1 : Nat), .int .u8 ((X n k).1 : Nat), .agg L.toArray] u fun e w' => Hid (e = .returned (.tuple #[.int .u8 ((wrA l i k).1 : Nat), .int .u8 ((wrB l i k).1 : Nat)]) ∧ Below u.heap.size u w')) := fun u => by
            have q := H44.out u (X n i) (X n k)
            rw [← HN.out]
            rw [← HN.out] at q
            exact q
          rw [HX1.out] at H1 H2
          obtain ⟨y1, HY1⟩ : ∃ a, Hid ((X n k).1 = a) := ⟨_, rfl⟩
          rw [HY1.out] at ck H1 H2
          obtain ⟨f01, HF0⟩ : ∃ a, Hid ((sumG l 0).1 = a) := ⟨_, rfl⟩
          obtain ⟨f11, HF1⟩ : ∃ a, Hid ((sumG l 1).1 = a) := ⟨_, rfl⟩
          rw [HF0.out] at c0 H1
          rw [HF1.out] at c1 H1
          have hS0 : wr.drew.rangeAt S 0 L ∧ wr.drew.cell? ⟨S, 0, none⟩ = some (.int .u8 (f01 : Nat)) ∧ wr.drew.cell? ⟨S, 1, none⟩ = some (.int .u8 (f11 : Nat)) := ⟨hr0, c0, c1⟩
          clear hk hlt hr0 c0 c1 hkn hin
          go_upto_region 11 with fail
          refine wp_region_noPanic ?_
          refine wp_region_till (fun u => u.rangeAt S 0 L ∧ u.cell? ⟨S, 0, none⟩ = some (.int .u8 (f01 : Nat)) ∧ u.cell? ⟨S, 1, none⟩ = some (.int .u8 (f11 : Nat))) 8 (by kernel_rfl) (by decide) (by decide +kernel) (by decide +kernel) (by decide +kernel) (fun inv => ?_)
          refine till_at 0 37 (.int .u8 (x1 : Nat)) inv rfl rfl (by decide) (by decide +kernel) (by decide +kernel) (fun _ _ _ h => h) hS0 (Or.inl ⟨by rfl, fun w' hS' => by obtain ⟨k1, k2, k3⟩ := hS'; go_simp⟩) (fun inv' => ?_)
          clear inv; have inv := inv'; clear inv'
          try simp only [List.setIfInBounds_toArray, List.set_cons_zero, List.set_cons_succ]
          refine till_at 1 38 (.int .u8 (y1 : Nat)) inv rfl rfl (by decide) (by decide +kernel) (by decide +kernel) (fun _ _ _ h => h) hS0 (Or.inl ⟨by rfl, fun w' hS' => by obtain ⟨k1, k2, k3⟩ := hS'; go_simp⟩) (fun inv' => ?_)
          clear inv; have inv := inv'; clear inv'
          try simp only [List.setIfInBounds_toArray, List.set_cons_zero, List.set_cons_succ]
          refine till_at 2 39 (.pointer (some ⟨S, 0, none⟩)) inv rfl rfl (by decide) (by decide +kernel) (by decide +kernel) (fun _ _ _ h => h) hS0 (Or.inl ⟨by rfl, fun w' hS' => by obtain ⟨k1, k2, k3⟩ := hS'; go_simp⟩) (fun inv' => ?_)
          clear inv; have inv := inv'; clear inv'
          try simp only [List.setIfInBounds_toArray, List.set_cons_zero, List.set_cons_succ]
          refine till_at 3 40 (.int .u8 (f01 : Nat)) inv rfl rfl (by decide) (by decide +kernel) (by decide +kernel) (fun _ _ _ h => h) hS0 (Or.inl ⟨by rfl, fun w' hS' => by obtain ⟨k1, k2, k3⟩ := hS'; go_simp⟩) (fun inv' => ?_)
          clear inv; have inv := inv'; clear inv'
          try simp only [List.setIfInBounds_toArray, List.set_cons_zero, List.set_cons_succ]
          refine till_at 4 41 (.pointer (some ⟨S, 1, none⟩)) inv rfl rfl (by decide) (by decide +kernel) (by decide +kernel) (fun _ _ _ h => h) hS0 (Or.inl ⟨by rfl, fun w' hS' => by obtain ⟨k1, k2, k3⟩ := hS'; go_simp⟩) (fun inv' => ?_)
          clear inv; have inv := inv'; clear inv'
          try simp only [List.setIfInBounds_toArray, List.set_cons_zero, List.set_cons_succ]
          refine till_at 5 42 (.int .u8 (f11 : Nat)) inv rfl rfl (by decide) (by decide +kernel) (by decide +kernel) (fun _ _ _ h => h) hS0 (Or.inl ⟨by rfl, fun w' hS' => by obtain ⟨k1, k2, k3⟩ := hS'; go_simp⟩) (fun inv' => ?_)
          clear inv; have inv := inv'; clear inv'
          try simp only [List.setIfInBounds_toArray, List.set_cons_zero, List.set_cons_succ]
          refine till_at 7 44 (.agg L.toArray) inv rfl rfl (by decide) (by decide +kernel) (by decide +kernel) (fun _ _ _ h => h) hS0 (yieldsIf_load_mid (by rfl) 104 (.tmp 4) rfl S 0 rfl L _ (fun u hu => hu.1) Tryd.underlying104 rfl hi7) (fun inv' => ?_)
          clear inv; have inv := inv'; clear inv'
          try simp only [List.setIfInBounds_toArray, List.set_cons_zero, List.set_cons_succ]
          refine till_head (i := 6) inv (by decide +kernel) (by decide) rfl (fun KK hK => ?_)
          go_simp
          refine (H1.out _ HJ.out.2.2.2.2.2.drew).mono ?_
          intro e7 w7 hh
          obtain ⟨rfl, q7⟩ := hh.out
          have HB7 : Hid (Below wr.heap.size wr w7) := Below.trans (Below.refl _ _).drew q7
          have hS7 : w7.rangeAt S 0 L ∧ w7.cell? ⟨S, 0, none⟩ = some (.int .u8 (f01 : Nat)) ∧ w7.cell? ⟨S, 1, none⟩ = some (.int .u8 (f11 : Nat)) := ⟨(HJ.out.2.2.2.1.below HB7.out).range, (q7.cell (World.block_lt_of_cell? _ _ hS0.2.1)).trans hS0.2.1, (q7.cell (World.block_lt_of_cell? _ _ hS0.2.2)).trans hS0.2.2⟩
          clear hh q7
          go_wp2_with fail
          refine hK.out _ _ (hS7) (fun inv' => ?_)
          clear hK KK inv; have inv := inv'; clear inv'
          try simp only [List.setIfInBounds_toArray, List.set_cons_zero, List.set_cons_succ]
          refine till_tail (i := 8) (by decide +kernel) (by decide) rfl (fun KK hK => ?_)
          go_simp
          refine hK.out _ _ ?_
          clear hK KK
          try simp only [List.setIfInBounds_toArray, List.set_cons_zero, List.set_cons_succ]
          refine till_done (by decide +kernel) ?_ _
          refine NoPanic.normal ?_
          have hcs : w7.rangeAt S 0 L := hS7.1
          cases d with
          | false =>
            have hno : ¬ two l i k := fun e => by have := HD.out.1.2 e; cases this
            have HNX : Hid ((∀ k', k' < k + 1 → ¬ two l i k') ∧ (∀ i' k', k' < i' → i' < i → ¬ two l i' k') ∧ Rx w7 g l ∧ Bx w7 S 104 L ∧ Bx w7 p 5 (fc (Wl n)) ∧ Below M w w7) := by
              obtain ⟨q1, q2, q3, q4, q5, q6⟩ := HJ.out
              have hb := HB7.out
              refine ⟨fun k' hk' => ?_, q2, q3.below hb, q4.below hb, q5.below hb, q6.trans (hb.mono (Nat.le_trans (Nat.le_of_lt_succ (by have := q3.lt; have := HNE.out; omega)) (Nat.le_refl _)))⟩
              by_cases e : k' = k
              · rw [e]; exact hno
              · exact q1 k' (by omega)
            clear hS7 hS0
            go_wp2
            have e1 := HKI.out
            refine ⟨⟨k + 1, by omega, by first | rfl | (simp; done), HNX.out⟩, ?_⟩
            simp [intOf]
            omega
          | true =>
            have hyes : two l i k := HD.out.1.1 rfl
            obtain ⟨a, HA⟩ : ∃ a, Hid (wrA l i k = a) := ⟨_, rfl⟩
            obtain ⟨b', HB'⟩ : ∃ b', Hid (wrB l i k = b') := ⟨_, rfl⟩
            obtain ⟨li, HLI⟩ : ∃ a, Hid (l.getD i 0 = a) := ⟨_, rfl⟩
            obtain ⟨lk, HLK⟩ : ∃ a, Hid (l.getD k 0 = a) := ⟨_, rfl⟩
            obtain ⟨si, HSI⟩ : ∃ q, Hid (fa li a = q) := ⟨_, rfl⟩
            obtain ⟨sk, HSK⟩ : ∃ q, Hid (fa lk b' = q) := ⟨_, rfl⟩
            have hxa : bits .xor .u8 ((li.1 : Nat) : Int) ((a.1 : Nat) : Int) = ((si.1 : Nat) : Int) := by rw [xorF, HSI.out]
            have hxb : bits .xor .u8 ((lk.1 : Nat) : Int) ((b'.1 : Nat) : Int) = ((sk.1 : Nat) : Int) := by rw [xorF, HSK.out]
            rw [HA.out, HB'.out] at H2
            have HMRR : Hid (MR l ((l.set i si).set k sk)) := by
              refine Or.inl ⟨i, k, HKI.out, by rw [HN.out]; exact HLT.out, hyes, ?_⟩
              rw [HA.out, HB'.out, HLI.out, HLK.out, HSI.out, HSK.out]
            have HR7 : Hid (Rx w7 g l ∧ Below M w w7) := ⟨HJ.out.2.2.1.below HB7.out, HJ.out.2.2.2.2.2.trans (HB7.out.mono (by have := HJ.out.2.2.1.lt; have := HNE.out; omega))⟩
            have e0 := HLT.out
            have e1 := HKI.out
            have g4 : (i : Int) < (n : Int) := by omega
            have g5 : (k : Int) < (n : Int) := by omega
            have g6 : (0 : Int) ≤ (i : Int) := by omega
            clear hS7 hS0 hq
            go_wp2_with (first
              | (refine wpList_load_mid (by rfl) 104 (.tmp 4) (by rfl) S 0 (by rfl) L _ hcs Tryd.underlying104 rfl hi7 ?_)
              | (go_at_call 82; refine (H2.out _).mono ?_; intro e8 w8 hh; obtain ⟨rfl, q8⟩ := hh.out; have HB8 : Hid (Below w7.heap.size w7 w8) := q8; have c8 : w8.cell? ⟨g, i, none⟩ = some (.int .u8 (li.1 : Nat)) := by { rw [← HLI.out]; exact (HR7.out.1.below q8).cell i (by rw [HN.out]; exact e0) }; have f8 : w8.frozen? ⟨g, i, none⟩ = false := (HR7.out.1.below q8).frozen i; have c9 : (w8.setCell ⟨g, i, none⟩ (.int .u8 (si.1 : Nat))).cell? ⟨g, k, none⟩ = some (.int .u8 (lk.1 : Nat)) := by { have q := ((HR7.out.1.below q8).set i (by rw [HN.out]; exact e0) si).cell k (by rw [List.length_set, HN.out]; omega); rw [q, ← HLK.out, List.getD_eq_getElem?_getD, List.getElem?_set_ne (by omega), ← List.getD_eq_getElem?_getD] }; have f9 : (w8.setCell ⟨g, i, none⟩ (.int .u8 (si.1 : Nat))).frozen? ⟨g, k, none⟩ = false := ((HR7.out.1.below q8).set i (by rw [HN.out]; exact e0) si).frozen k; clear hh q8))
            try rw [Exit.noGoto_ret]
            go_ret
            rw [HMM.out]
            have hr8 := HR7.out.1.below HB8.out
            have hb8 : Below M w w8 := HR7.out.2.trans (HB8.out.mono (by have := HR7.out.1.lt; have := HNE.out; omega))
            refine ⟨g, c', (l.set i si).set k sk, rfl, HNE.out.1, ?_, HMRR.out, by rw [List.length_set, List.length_set]; exact HN.out, ?_⟩
            · exact (hr8.set i (by rw [HN.out]; exact e0) si).set k (by rw [List.length_set, HN.out]; omega) sk
            · exact (hb8.setCell (by show M ≤ g; exact HNE.out.1) _).setCell (by show M ≤ g; exact HNE.out.1) _
        · obtain rfl : k = i := by omega
          have g2 : ¬ (k : Int) < (k : Int) := Int.lt_irrefl _
          have HNX : Hid ((∀ i' k', k' < i' → i' < k + 1 → ¬ two l i' k') ∧ Rx wr g l ∧ Bx wr S 104 L ∧ Bx wr p 5 (fc (Wl n)) ∧ Below M w wr) := by
            obtain ⟨q1, q2, q3, q4, q5, q6⟩ := HJ.out
            refine ⟨fun i' k' h1 h2 => ?_, q3, q4, q5, q6⟩
            by_cases e : i' = k
            · rw [e] at h1 ⊢; exact q1 k' h1
            · exact q2 i' k' h1 (by omega)
          go_wp2
          have e1 := HLT.out
          refine ⟨⟨k + 1, by omega, by first | rfl | (simp; done), HNX.out⟩, ?_⟩
          simp [intOf]
          omega
    · obtain rfl : i = n := by omega
      have g2 : ¬ (i : Int) < (i : Int) := Int.lt_irrefl _
      have HE : Hid (∃ g' c'' m, Ending.returned (.slice (some ⟨g, 0, none⟩) i c') = .returned (.slice (some ⟨g', 0, none⟩) i c'') ∧ M ≤ g' ∧ Rx wr g' m ∧ MR l m ∧ m.length = i ∧ Below M w wr) := by
        obtain ⟨q1, q2, q3, q4, q5⟩ := HI.out
        exact ⟨g, c', l, rfl, HNE.out.1, q2, Or.inr ⟨fun i' k' h1 h2 => q1 i' k' h1 (by rw [← HN.out]; exact h2), rfl⟩, HN.out, q5⟩
      go_wp2
      try rw [Exit.noGoto_ret]
      go_ret
      rw [HMM.out]
      exact HE.out
end Go.Proofs.YtinmhgackihakaaDoor
namespace Go.Proofs.YtinmhgackihakaaDoor
open Go.RowKit
theorem own_cap {w : World} {B n : Nat} {a : Option Addr} {m c : Nat} {l : List Value} (h : w.ownsRow B 5 1 (.slice a m c) n l) (h1 : 1 ≤ n) : n ≤ c ∧ c ≤ 9223372036854775807 := by
  rcases h.2 with ⟨_, q⟩ | ⟨g', cap', cur, q, _, _, h3, h4, _⟩
  · omega
  · injection q with _ _ q2; rw [q2]; exact ⟨h3, h4⟩
end Go.Proofs.YtinmhgackihakaaDoor
namespace Go.Proofs.YtinmhgackihakaaDoor
open Go.RowKit
set_option maxRecDepth 100000
set_option linter.unusedVariables false
set_option linter.unusedSimpArgs false
set_option maxHeartbeats 1600000 in
set_option maxRecDepth 100000 in
theorem mended_cap (b off c : Nat) (l : List F) (w : World) (hl : l.length ≤ 255) (h1 : 1 ≤ l.length) (h : Rw w b off l) (hb : b < w.heap.size) : Calls Tryd.prog 64 #[.slice (some ⟨b, off, none⟩) l.length c] w fun e w' => Hid (∃ g c' m, e = .returned (.slice (some ⟨g, 0, none⟩) l.length c') ∧ (l.length ≤ c' ∧ c' ≤ 9223372036854775807) ∧ w.heap.size ≤ g ∧ Rx w' g m ∧ MR l m ∧ m.length = l.length ∧ Below w.heap.size w w') := by
  obtain ⟨M, HMM⟩ : ∃ M, Hid (w.heap.size = M) := ⟨_, rfl⟩
  obtain ⟨n, HN⟩ : ∃ n, Hid (l.length = n) := ⟨_, rfl⟩
  have hlr : Hid (l.length ≤ 255 ∧ 1 ≤ l.length) := ⟨hl, h1⟩
  have HR : Hid (Rw w b off l ∧ b < w.heap.size) := ⟨h, hb⟩
  have H39 : Hid (Calls Tryd.prog 79 #[.slice (some ⟨b, off, none⟩) n c] w fun e w' => Hid (∃ v, e = .returned v ∧ w'.ownsRow w.heap.size 5 1 v l.length (fc l) ∧ Below w.heap.size w w')) := by
    have p := clone_ok b off c l w (by omega) h
    rw [HN.out] at p ⊢
    exact p
  have H40 : Hid (∀ u, Below w.heap.size w u → Calls Tryd.prog 61 #[.slice (some ⟨b, off, none⟩) n c] u fun e w' => Hid (e = .returned (.agg (fc (sumL l)).toArray) ∧ Below u.heap.size u w')) := fun u hu => by
    have p := sumsOf_ok b off c l u (by omega) (h.below hu) (Nat.lt_of_lt_of_le hb hu.size)
    rw [HN.out] at p
    exact p
  have H41 : Hid (∀ u, Calls Tryd.prog 62 #[.int .i64 (n : Nat)] u fun e w' => Hid (∃ p, e = .returned (.slice (some ⟨p, 0, none⟩) n n) ∧ u.heap.size ≤ p ∧ Bx w' p 5 (fc ((List.range n).map Em)) ∧ Below u.heap.size u w')) := fun u => powers_ok n (by rw [← HN.out]; omega) u
  have H42 : Hid (∀ u p, Bx u p 5 (fc ((List.range n).map Em)) → Calls Tryd.prog 80 #[.slice (some ⟨p, 0, none⟩) n n] u fun e w' => Hid (e = .returned (.tuple #[]) ∧ Bx w' p 5 (fc (Wl n)) ∧ Below p u w')) := fun u p hu => by
    have q := reverse_ok p n ((List.range n).map Em) u (by rw [List.length_map, List.length_range, ← HN.out]; omega) hu
    rw [List.length_map, List.length_range, Wl_rev] at q
    exact q
  obtain ⟨L, HLL⟩ : ∃ L, Hid (fc (sumL l) = L) := ⟨_, rfl⟩
  rw [HLL.out] at H40
  have HLN : Hid (L.length = 4 ∧ ∀ v ∈ L, v.oneCell' = true) := by rw [← HLL.out]; exact ⟨by rw [fc_len]; rfl, fc_one _⟩
  have hi7 : (Tryd.prog.info? 104).map (·.size) = some L.length := by rw [HLN.out.1]; kernel_rfl
  rw [HN.out]
  clear h hb hl h1
  go_enter Tryd.func64, Tryd.ntmps64
  go_wp2
  go_step3
  go_wp2_with (first
    | (go_at_call 79; refine H39.out.mono ?_; intro e1 w1 hh; obtain ⟨v, rfl, q1, q2⟩ := hh.out; obtain ⟨g, c', rfl, HG⟩ := own_rx q1 hlr.out.2; have HCC : Hid (l.length ≤ c' ∧ c' ≤ 9223372036854775807) := own_cap q1 hlr.out.2; have HB1 : Hid (Below w.heap.size w w1) := q2; clear hh q1 q2 H39; rw [HN.out])
    | (go_at_call 61; refine (H40.out w1 HB1.out).mono ?_; intro e2 w2 hh; obtain ⟨rfl, q2⟩ := hh.out; have HB2 : Hid (Below w1.heap.size w1 w2) := q2; clear hh q2 H40)
    | (refine wpList_store_bx (by rfl) 104 (.tmp 4) (.tmp 15) (by rfl) (List.replicate 4 (.int .u8 0)) L w2.heap.size (by rfl) (by rfl) (Bx.new w2 104 _) (by rw [HLN.out.1]; rfl) hi7 HLN.out.2 ?_; intro w3 hb3 hg3; have HB3 : Hid (Bx w3 w2.heap.size 104 L ∧ (w2.alloc (.cells (List.replicate 4 (Value.int .u8 0)).toArray 104)).grownBy w3 (some w2.heap.size)) := ⟨hb3, hg3⟩; clear hb3 hg3)
    | (go_at_call 62; refine (H41.out _).mono ?_; intro e4 w4 hh; obtain ⟨p, rfl, q0, q1, q2⟩ := hh.out; have HB4 : Hid (w3.heap.size ≤ p ∧ Bx w4 p 5 (fc ((List.range n).map Em)) ∧ Below w3.heap.size w3 w4) := ⟨q0, q1, q2⟩; clear hh q0 q1 q2 H41)
    | (go_at_call 80; refine (H42.out w4 p HB4.out.2.1).mono ?_; intro e5 w5 hh; obtain ⟨rfl, q1, q2⟩ := hh.out; have HB5 : Hid (Bx w5 p 5 (fc (Wl n)) ∧ Below p w4 w5) := ⟨q1, q2⟩; clear hh q1 q2 H42))
  go_step3
  obtain ⟨S, HS⟩ : ∃ S, Hid (w2.heap.size = S) := ⟨_, rfl⟩
  have HI0 : Hid (Rx w5 g l ∧ Bx w5 S 104 L ∧ Bx w5 p 5 (fc (Wl n)) ∧ Below M w w5) := by
    obtain ⟨q1, q2⟩ := HG.out
    obtain ⟨a1, a2⟩ := HB3.out
    obtain ⟨b0, b1, b2⟩ := HB4.out
    obtain ⟨d1, d2⟩ := HB5.out
    have hg2 : g < w2.heap.size := Nat.lt_of_lt_of_le q1.lt HB2.out.size
    have hS3 := a1.lt
    have r2 := q1.below HB2.out
    have r3 : Rx (w2.alloc (.cells (List.replicate 4 (Value.int .u8 0)).toArray 104)) g l := r2.below ((Below.refl _ _).alloc (Nat.le_refl _) _)
    have r4 : Rx w3 g l := r3.keep (a2.block g r3.lt (fun e => by injection e with e; omega))
    have r5 : Rx w4 g l := r4.below b2
    have r6 : Rx w5 g l := r5.keep (d2.block g (by omega))
    have s4 : Bx w4 w2.heap.size 104 L := a1.below b2
    have s5 : Bx w5 w2.heap.size 104 L := s4.keep (d2.block _ (by omega))
    rw [← HS.out, ← HMM.out]
    have hM1 : w.heap.size ≤ w1.heap.size := HB1.out.size
    have hM2 : w1.heap.size ≤ w2.heap.size := HB2.out.size
    refine ⟨r6, s5, d1, ?_⟩
    have e1 : Below w.heap.size w w2 := HB1.out.trans (HB2.out.mono hM1)
    have e2 : Below w.heap.size w (w2.alloc (.cells (List.replicate 4 (Value.int .u8 0)).toArray 104)) := e1.alloc (by omega) _
    have e3 : Below w.heap.size w w3 := e2.trans (below_gb a2 (by simp; omega) (by omega))
    exact (e3.trans (b2.mono (by omega))).trans (d2.mono (by omega))
  have HNE : Hid (M ≤ g ∧ g < S ∧ S < p) := by
    have q := HG.out.2
    have hg2 : g < w2.heap.size := Nat.lt_of_lt_of_le HG.out.1.lt HB2.out.size
    have hS3 := HB3.out.1.lt
    have hp := HB4.out.1
    have hs := HS.out
    have hm := HMM.out
    exact ⟨by omega, by omega, by omega⟩
  rw [HS.out]
  clear HB1 HB2 HB3 HB4 HB5 HS HG
  have hnn : n ≤ 255 := by rw [← HN.out]; exact hlr.out.1
  have H43 : Hid (∀ u x y, Calls Tryd.prog 81 #[.int .u8 ((x : F).1 : Nat), .int .u8 ((y : F).1 : Nat), .int .u8 ((sumG l 0).1 : Nat), .int .u8 ((sumG l 1).1 : Nat)] u fun e w' => Hid (e = .returned (.agg (fc ((List.range 4).map (s2 x y (sumG l 0) (sumG l 1)))).toArray) ∧ Below u.heap.size u w')) := fun u x y => s2_ok x y _ _ u
  have H44 : Hid (∀ u x y, Calls Tryd.prog 82 #[.int .u8 ((x : F).1 : Nat), .int .u8 ((y : F).1 : Nat), .agg L.toArray] u fun e w' => Hid (e = .returned (.tuple #[.int .u8 ((wA x y (sumG l 0) (sumG l 1)).1 : Nat), .int .u8 ((fa (sumG l 0) (wA x y (sumG l 0) (sumG l 1))).1 : Nat)]) ∧ Below u.heap.size u w')) := fun u x y => by rw [← HLL.out]; exact wrong_ok x y (sumL l) rfl u
  go_wp2
  go_loopw [23] (fun vi wr => ∃ i : Nat, i ≤ n ∧ vi = .int .i64 (i : Nat) ∧ Hid ((∀ i' k', k' < i' → i' < i → ¬ two l i' k') ∧ Rx wr g l ∧ Bx wr S 104 L ∧ Bx wr p 5 (fc (Wl n)) ∧ Below M w wr)) (fun vi _ => n - (intOf vi).toNat)
  case atStart => exact ⟨0, by omega, rfl, fun _ _ _ h => absurd h (by omega), HI0.out⟩
  case round =>
    obtain ⟨i, hi, rfl, HI⟩ := hrel
    clear HI0
    by_cases hlt : i < n
    · have g1 : (i : Int) < (n : Int) := by omega
      have g0 : (0 : Int) ≤ (i : Int) := by omega
      have ci : wr.cell? ⟨p, i, none⟩ = some (.int .u8 ((X n i).1 : Nat)) := by
        rw [← Wl_at n i hlt]; exact HI.out.2.2.2.1.cell i _ (fc_at _ i (by rw [Wl_len]; exact hlt))
      have w1' : wrap64 ((i : Int) + 1) = ((i + 1 : Nat) : Int) ∧ IntKind.i64.wrap ((i : Int) + 1) = ((i + 1 : Nat) : Int) := by
        refine ⟨?_, ?_⟩
        · unfold wrap64; omega
        · rw [IntKind.wrap_i64]; omega
      have HW1 : Hid (wrap64 ((i : Int) + 1) = ((i + 1 : Nat) : Int) ∧ IntKind.i64.wrap ((i : Int) + 1) = ((i + 1 : Nat) : Int)) := w1'
      clear w1'
      obtain ⟨x1, HX1⟩ : ∃ a, Hid ((X n i).1 = a) := ⟨_, rfl⟩
      rw [HX1.out] at ci
      have HLT : Hid (i < n) := hlt
      clear hi hlt
      go_wp2
      go_loopw [32] (fun vk wq => ∃ k : Nat, k ≤ i ∧ vk = .int .i64 (k : Nat) ∧ Hid ((∀ k', k' < k → ¬ two l i k') ∧ (∀ i' k', k' < i' → i' < i → ¬ two l i' k') ∧ Rx wq g l ∧ Bx wq S 104 L ∧ Bx wq p 5 (fc (Wl n)) ∧ Below M w wq)) (fun vk _ => i - (intOf vk).toNat)
      case atStart => exact ⟨0, by omega, rfl, fun _ h => absurd h (by omega), HI.out⟩
      case round =>
        obtain ⟨k, hk, rfl, HJ⟩ := hrel
        clear HI
        by_cases hlt : k < i
        · have HKI : Hid (k < i) := hlt
          have g2 : (k : Int) < (i : Int) := by omega
          have g3 : (0 : Int) ≤ (k : Int) := by omega
          have hkn : k < n := by have := HLT.out; omega
          have hin : i < n := HLT.out
          have wk1 : wrap64 ((k : Int) + 1) = ((k + 1 : Nat) : Int) ∧ IntKind.i64.wrap ((k : Int) + 1) = ((k + 1 : Nat) : Int) := by
            refine ⟨?_, ?_⟩
            · unfold wrap64; omega
            · rw [IntKind.wrap_i64]; omega
          have HWK : Hid (wrap64 ((k : Int) + 1) = ((k + 1 : Nat) : Int) ∧ IntKind.i64.wrap ((k : Int) + 1) = ((k + 1 : Nat) : Int)) := wk1
          clear wk1
          have ck : wr.cell? ⟨p, k, none⟩ = some (.int .u8 ((X n k).1 : Nat)) := by
            rw [← Wl_at n k hkn]; exact HJ.out.2.2.2.2.1.cell k _ (fc_at _ k (by rw [Wl_len]; exact hkn))
          have hr0 : wr.drew.rangeAt S 0 L := HJ.out.2.2.2.1.range
          have c0 : wr.drew.cell? ⟨S, 0, none⟩ = some (.int .u8 ((sumG l 0).1 : Nat)) := HJ.out.2.2.2.1.cell 0 _ (by rw [← HLL.out]; rfl)
          have c1 : wr.drew.cell? ⟨S, 1, none⟩ = some (.int .u8 ((sumG l 1).1 : Nat)) := HJ.out.2.2.2.1.cell 1 _ (by rw [← HLL.out]; rfl)
          obtain ⟨A, HAA⟩ : ∃ A, Hid (fc ((List.range 4).map (s2 (X n i) (X n k) (sumG l 0) (sumG l 1))) = A) := ⟨_, rfl⟩
          obtain ⟨d, HD⟩ : ∃ d : Bool, Hid ((d = true ↔ two l i k) ∧ ∀ u, (binOp .eql 104 (.agg A.toArray) (.agg L.toArray)).run Tryd.prog u = .ok (.bool d) u) := by
            refine ⟨decide ((List.range 4).map (s2 (X n i) (X n k) (sumG l 0) (sumG l 1)) = sumL l), ?_, fun u => ?_⟩
            · rw [decide_eq_true_iff, ← HN.out]; exact Iff.rfl
            · rw [← HAA.out, ← HLL.out]; exact eql4 104 Tryd.und77 _ _ (by simp) rfl u
          have hq := HD.out.2
          have H1 : Hid (∀ u, Below M w u → Calls Tryd.prog 81 #[.int .u8 ((X n i).1 : Nat), .int .u8 ((X n k).1 : Nat), .int .u8 ((sumG l 0).1 : Nat), .int .u8 ((sumG l 1).1 : Nat)] u fun e w' => Hid (e = .returned (.agg A.toArray) ∧ Below u.heap.size u w')) := fun u _ => by rw [← HAA.out]; exact H43.out u _ _
          have H2 : Hid (∀ u, Calls Tryd.prog 82 #[.int .u8 ((X n i).1 : Nat), .int .u8 ((X n k).1 : Nat), .agg L.toArray] u fun e w' => Hid (e = .returned (.tuple #[.int .u8 ((wrA l i k).1 : Nat), .int .u8 ((wrB l i k).1 : Nat)]) ∧ Below u.heap.size u w')) := fun u => by
            have q := H44.out u (X n i) (X n k)
            rw [← HN.out]
            rw [← HN.out] at q
            exact q
          rw [HX1.out] at H1 H2
          obtain ⟨y1, HY1⟩ : ∃ a, Hid ((X n k).1 = a) := ⟨_, rfl⟩
          rw [HY1.out] at ck H1 H2
          obtain ⟨f01, HF0⟩ : ∃ a, Hid ((sumG l 0).1 = a) := ⟨_, rfl⟩
          obtain ⟨f11, HF1⟩ : ∃ a, Hid ((sumG l 1).1 = a) := ⟨_, rfl⟩
          rw [HF0.out] at c0 H1
          rw [HF1.out] at c1 H1
          have hS0 : wr.drew.rangeAt S 0 L ∧ wr.drew.cell? ⟨S, 0, none⟩ = some (.int .u8 (f01 : Nat)) ∧ wr.drew.cell? ⟨S, 1, none⟩ = some (.int .u8 (f11 : Nat)) := ⟨hr0, c0, c1⟩
          clear hk hlt hr0 c0 c1 hkn hin
          go_upto_region 11 with fail
          refine wp_region_noPanic ?_
          refine wp_region_till (fun u => u.rangeAt S 0 L ∧ u.cell? ⟨S, 0, none⟩ = some (.int .u8 (f01 : Nat)) ∧ u.cell? ⟨S, 1, none⟩ = some (.int .u8 (f11 : Nat))) 8 (by kernel_rfl) (by decide) (by decide +kernel) (by decide +kernel) (by decide +kernel) (fun inv => ?_)
          refine till_at 0 37 (.int .u8 (x1 : Nat)) inv rfl rfl (by decide) (by decide +kernel) (by decide +kernel) (fun _ _ _ h => h) hS0 (Or.inl ⟨by rfl, fun w' hS' => by obtain ⟨k1, k2, k3⟩ := hS'; go_simp⟩) (fun inv' => ?_)
          clear inv; have inv := inv'; clear inv'
          try simp only [List.setIfInBounds_toArray, List.set_cons_zero, List.set_cons_succ]
          refine till_at 1 38 (.int .u8 (y1 : Nat)) inv rfl rfl (by decide) (by decide +kernel) (by decide +kernel) (fun _ _ _ h => h) hS0 (Or.inl ⟨by rfl, fun w' hS' => by obtain ⟨k1, k2, k3⟩ := hS'; go_simp⟩) (fun inv' => ?_)
          clear inv; have inv := inv'; clear inv'
          try simp only [List.setIfInBounds_toArray, List.set_cons_zero, List.set_cons_succ]
          refine till_at 2 39 (.pointer (some ⟨S, 0, none⟩)) inv rfl rfl (by decide) (by decide +kernel) (by decide +kernel) (fun _ _ _ h => h) hS0 (Or.inl ⟨by rfl, fun w' hS' => by obtain ⟨k1, k2, k3⟩ := hS'; go_simp⟩) (fun inv' => ?_)
          clear inv; have inv := inv'; clear inv'
          try simp only [List.setIfInBounds_toArray, List.set_cons_zero, List.set_cons_succ]
          refine till_at 3 40 (.int .u8 (f01 : Nat)) inv rfl rfl (by decide) (by decide +kernel) (by decide +kernel) (fun _ _ _ h => h) hS0 (Or.inl ⟨by rfl, fun w' hS' => by obtain ⟨k1, k2, k3⟩ := hS'; go_simp⟩) (fun inv' => ?_)
          clear inv; have inv := inv'; clear inv'
          try simp only [List.setIfInBounds_toArray, List.set_cons_zero, List.set_cons_succ]
          refine till_at 4 41 (.pointer (some ⟨S, 1, none⟩)) inv rfl rfl (by decide) (by decide +kernel) (by decide +kernel) (fun _ _ _ h => h) hS0 (Or.inl ⟨by rfl, fun w' hS' => by obtain ⟨k1, k2, k3⟩ := hS'; go_simp⟩) (fun inv' => ?_)
          clear inv; have inv := inv'; clear inv'
          try simp only [List.setIfInBounds_toArray, List.set_cons_zero, List.set_cons_succ]
          refine till_at 5 42 (.int .u8 (f11 : Nat)) inv rfl rfl (by decide) (by decide +kernel) (by decide +kernel) (fun _ _ _ h => h) hS0 (Or.inl ⟨by rfl, fun w' hS' => by obtain ⟨k1, k2, k3⟩ := hS'; go_simp⟩) (fun inv' => ?_)
          clear inv; have inv := inv'; clear inv'
          try simp only [List.setIfInBounds_toArray, List.set_cons_zero, List.set_cons_succ]
          refine till_at 7 44 (.agg L.toArray) inv rfl rfl (by decide) (by decide +kernel) (by decide +kernel) (fun _ _ _ h => h) hS0 (yieldsIf_load_mid (by rfl) 104 (.tmp 4) rfl S 0 rfl L _ (fun u hu => hu.1) Tryd.underlying104 rfl hi7) (fun inv' => ?_)
          clear inv; have inv := inv'; clear inv'
          try simp only [List.setIfInBounds_toArray, List.set_cons_zero, List.set_cons_succ]
          refine till_head (i := 6) inv (by decide +kernel) (by decide) rfl (fun KK hK => ?_)
          go_simp
          refine (H1.out _ HJ.out.2.2.2.2.2.drew).mono ?_
          intro e7 w7 hh
          obtain ⟨rfl, q7⟩ := hh.out
          have HB7 : Hid (Below wr.heap.size wr w7) := Below.trans (Below.refl _ _).drew q7
          have hS7 : w7.rangeAt S 0 L ∧ w7.cell? ⟨S, 0, none⟩ = some (.int .u8 (f01 : Nat)) ∧ w7.cell? ⟨S, 1, none⟩ = some (.int .u8 (f11 : Nat)) := ⟨(HJ.out.2.2.2.1.below HB7.out).range, (q7.cell (World.block_lt_of_cell? _ _ hS0.2.1)).trans hS0.2.1, (q7.cell (World.block_lt_of_cell? _ _ hS0.2.2)).trans hS0.2.2⟩
          clear hh q7
          go_wp2_with fail
          refine hK.out _ _ (hS7) (fun inv' => ?_)
          clear hK KK inv; have inv := inv'; clear inv'
          try simp only [List.setIfInBounds_toArray, List.set_cons_zero, List.set_cons_succ]
          refine till_tail (i := 8) (by decide +kernel) (by decide) rfl (fun KK hK => ?_)
          go_simp
          refine hK.out _ _ ?_
          clear hK KK
          try simp only [List.setIfInBounds_toArray, List.set_cons_zero, List.set_cons_succ]
          refine till_done (by decide +kernel) ?_ _
          refine NoPanic.normal ?_
          have hcs : w7.rangeAt S 0 L := hS7.1
          cases d with
          | false =>
            have hno : ¬ two l i k := fun e => by have := HD.out.1.2 e; cases this
            have HNX : Hid ((∀ k', k' < k + 1 → ¬ two l i k') ∧ (∀ i' k', k' < i' → i' < i → ¬ two l i' k') ∧ Rx w7 g l ∧ Bx w7 S 104 L ∧ Bx w7 p 5 (fc (Wl n)) ∧ Below M w w7) := by
              obtain ⟨q1, q2, q3, q4, q5, q6⟩ := HJ.out
              have hb := HB7.out
              refine ⟨fun k' hk' => ?_, q2, q3.below hb, q4.below hb, q5.below hb, q6.trans (hb.mono (Nat.le_trans (Nat.le_of_lt_succ (by have := q3.lt; have := HNE.out; omega)) (Nat.le_refl _)))⟩
              by_cases e : k' = k
              · rw [e]; exact hno
              · exact q1 k' (by omega)
            clear hS7 hS0
            go_wp2
            have e1 := HKI.out
            refine ⟨⟨k + 1, by omega, by first | rfl | (simp; done), HNX.out⟩, ?_⟩
            simp [intOf]
            omega
          | true =>
            have hyes : two l i k := HD.out.1.1 rfl
            obtain ⟨a, HA⟩ : ∃ a, Hid (wrA l i k = a) := ⟨_, rfl⟩
            obtain ⟨b', HB'⟩ : ∃ b', Hid (wrB l i k = b') := ⟨_, rfl⟩
            obtain ⟨li, HLI⟩ : ∃ a, Hid (l.getD i 0 = a) := ⟨_, rfl⟩
            obtain ⟨lk, HLK⟩ : ∃ a, Hid (l.getD k 0 = a) := ⟨_, rfl⟩
            obtain ⟨si, HSI⟩ : ∃ q, Hid (fa li a = q) := ⟨_, rfl⟩
            obtain ⟨sk, HSK⟩ : ∃ q, Hid (fa lk b' = q) := ⟨_, rfl⟩
            have hxa : bits .xor .u8 ((li.1 : Nat) : Int) ((a.1 : Nat) : Int) = ((si.1 : Nat) : Int) := by rw [xorF, HSI.out]
            have hxb : bits .xor .u8 ((lk.1 : Nat) : Int) ((b'.1 : Nat) : Int) = ((sk.1 : Nat) : Int) := by rw [xorF, HSK.out]
            rw [HA.out, HB'.out] at H2
            have HMRR : Hid (MR l ((l.set i si).set k sk)) := by
              refine Or.inl ⟨i, k, HKI.out, by rw [HN.out]; exact HLT.out, hyes, ?_⟩
              rw [HA.out, HB'.out, HLI.out, HLK.out, HSI.out, HSK.out]
            have HR7 : Hid (Rx w7 g l ∧ Below M w w7) := ⟨HJ.out.2.2.1.below HB7.out, HJ.out.2.2.2.2.2.trans (HB7.out.mono (by have := HJ.out.2.2.1.lt; have := HNE.out; omega))⟩
            have e0 := HLT.out
            have e1 := HKI.out
            have g4 : (i : Int) < (n : Int) := by omega
            have g5 : (k : Int) < (n : Int) := by omega
            have g6 : (0 : Int) ≤ (i : Int) := by omega
            clear hS7 hS0 hq
            go_wp2_with (first
              | (refine wpList_load_mid (by rfl) 104 (.tmp 4) (by rfl) S 0 (by rfl) L _ hcs Tryd.underlying104 rfl hi7 ?_)
              | (go_at_call 82; refine (H2.out _).mono ?_; intro e8 w8 hh; obtain ⟨rfl, q8⟩ := hh.out; have HB8 : Hid (Below w7.heap.size w7 w8) := q8; have c8 : w8.cell? ⟨g, i, none⟩ = some (.int .u8 (li.1 : Nat)) := by { rw [← HLI.out]; exact (HR7.out.1.below q8).cell i (by rw [HN.out]; exact e0) }; have f8 : w8.frozen? ⟨g, i, none⟩ = false := (HR7.out.1.below q8).frozen i; have c9 : (w8.setCell ⟨g, i, none⟩ (.int .u8 (si.1 : Nat))).cell? ⟨g, k, none⟩ = some (.int .u8 (lk.1 : Nat)) := by { have q := ((HR7.out.1.below q8).set i (by rw [HN.out]; exact e0) si).cell k (by rw [List.length_set, HN.out]; omega); rw [q, ← HLK.out, List.getD_eq_getElem?_getD, List.getElem?_set_ne (by omega), ← List.getD_eq_getElem?_getD] }; have f9 : (w8.setCell ⟨g, i, none⟩ (.int .u8 (si.1 : Nat))).frozen? ⟨g, k, none⟩ = false := ((HR7.out.1.below q8).set i (by rw [HN.out]; exact e0) si).frozen k; clear hh q8))
            try rw [Exit.noGoto_ret]
            go_ret
            rw [HMM.out]
            have hr8 := HR7.out.1.below HB8.out
            have hb8 : Below M w w8 := HR7.out.2.trans (HB8.out.mono (by have := HR7.out.1.lt; have := HNE.out; omega))
            refine ⟨g, c', (l.set i si).set k sk, rfl, by rw [← HN.out]; exact HCC.out, HNE.out.1, ?_, HMRR.out, by rw [List.length_set, List.length_set]; exact HN.out, ?_⟩
            · exact (hr8.set i (by rw [HN.out]; exact e0) si).set k (by rw [List.length_set, HN.out]; omega) sk
            · exact (hb8.setCell (by show M ≤ g; exact HNE.out.1) _).setCell (by show M ≤ g; exact HNE.out.1) _
        · obtain rfl : k = i := by omega
          have g2 : ¬ (k : Int) < (k : Int) := Int.lt_irrefl _
          have HNX : Hid ((∀ i' k', k' < i' → i' < k + 1 → ¬ two l i' k') ∧ Rx wr g l ∧ Bx wr S 104 L ∧ Bx wr p 5 (fc (Wl n)) ∧ Below M w wr) := by
            obtain ⟨q1, q2, q3, q4, q5, q6⟩ := HJ.out
            refine ⟨fun i' k' h1 h2 => ?_, q3, q4, q5, q6⟩
            by_cases e : i' = k
            · rw [e] at h1 ⊢; exact q1 k' h1
            · exact q2 i' k' h1 (by omega)
          go_wp2
          have e1 := HLT.out
          refine ⟨⟨k + 1, by omega, by first | rfl | (simp; done), HNX.out⟩, ?_⟩
          simp [intOf]
          omega
    · obtain rfl : i = n := by omega
      have g2 : ¬ (i : Int) < (i : Int) := Int.lt_irrefl _
      have HE : Hid (∃ g' c'' m, Ending.returned (.slice (some ⟨g, 0, none⟩) i c') = .returned (.slice (some ⟨g', 0, none⟩) i c'') ∧ (i ≤ c'' ∧ c'' ≤ 9223372036854775807) ∧ M ≤ g' ∧ Rx wr g' m ∧ MR l m ∧ m.length = i ∧ Below M w wr) := by
        obtain ⟨q1, q2, q3, q4, q5⟩ := HI.out
        exact ⟨g, c', l, rfl, by rw [← HN.out]; exact HCC.out, HNE.out.1, q2, Or.inr ⟨fun i' k' h1 h2 => q1 i' k' h1 (by rw [← HN.out]; exact h2), rfl⟩, HN.out, q5⟩
      go_wp2
      try rw [Exit.noGoto_ret]
      go_ret
      rw [HMM.out]
      exact HE.out
end Go.Proofs.YtinmhgackihakaaDoor
namespace Go.Proofs.YtinmhgackihakaaDoor
open Go.RowKit
set_option linter.unusedVariables false
set_option linter.unusedSimpArgs false
/-- In how many of the first places two rows differ. -/
def dif (l m : List F) : Nat → Nat
  | 0 => 0
  | i + 1 => if l.getD i 0 = m.getD i 0 then dif l m i else dif l m i + 1
theorem dif_le (l m : List F) : ∀ i, dif l m i ≤ i
  | 0 => Nat.le_refl _
  | i + 1 => by have := dif_le l m i; unfold dif; split <;> omega
theorem differing_ok (b off c b2 off2 c2 n : Nat) (l m : List F) (w : World) (hl : l.length = n) (hm : m.length = n) (hn : n ≤ 4000) (h : Rw w b off l) (h2 : Rw w b2 off2 m) : Calls Tryd.prog 66 #[.slice (some ⟨b, off, none⟩) n c, .slice (some ⟨b2, off2, none⟩) n c2] w fun e w' => Hid (e = .returned (.int .i64 (dif l m n : Nat)) ∧ Below w.heap.size w w') := by
  have HL : Hid (l.length = n ∧ m.length = n) := ⟨hl, hm⟩
  have HI0 : Hid (Rw w b off l ∧ Rw w b2 off2 m ∧ Below w.heap.size w w) := ⟨h, h2, Below.refl _ _⟩
  clear h h2 hl hm
  go_enter Tryd.func66, Tryd.ntmps66
  go_wp2
  go_loopw [5, 9] (fun vd vi wr => ∃ i : Nat, i ≤ n ∧ vd = .int .i64 (dif l m i : Nat) ∧ vi = .int .i64 (i : Nat) ∧ Hid (Rw wr b off l ∧ Rw wr b2 off2 m ∧ Below w.heap.size w wr)) (fun _ vi _ => n - (intOf vi).toNat)
  case atStart => exact ⟨0, by omega, rfl, rfl, HI0.out⟩
  case round =>
    obtain ⟨i, hi, rfl, rfl, HI⟩ := hrel
    clear HI0
    by_cases hlt : i < n
    · have g1 : (i : Int) < (n : Int) := by omega
      have g0 : (0 : Int) ≤ (i : Int) := by omega
      have c1 : wr.cell? ⟨b, off + i, none⟩ = some (.int .u8 ((l.getD i 0).1 : Nat)) := HI.out.1 i (by rw [HL.out.1]; exact hlt)
      have c3 : wr.cell? ⟨b2, off2 + i, none⟩ = some (.int .u8 ((m.getD i 0).1 : Nat)) := HI.out.2.1 i (by rw [HL.out.2]; exact hlt)
      obtain ⟨d, HD⟩ : ∃ d, Hid (dif l m i = d) := ⟨_, rfl⟩
      have hd : d ≤ i := by rw [← HD.out]; exact dif_le l m i
      have HW : Hid (i < n) := hlt
      have n1 : IntKind.i64.wrap ((d : Int) + 1) = (d : Int) + 1 := by rw [IntKind.wrap_i64]; omega
      have HNX : Hid (Rw wr.drew b off l ∧ Rw wr.drew b2 off2 m ∧ Below w.heap.size w wr.drew) := ⟨HI.out.1, HI.out.2.1, HI.out.2.2.drew⟩
      rw [HD.out]
      by_cases e : l.getD i 0 = m.getD i 0
      · have HN : Hid (dif l m (i + 1) = d) := by show (if _ then _ else _) = _; rw [if_pos e, HD.out]
        rw [e] at c1
        generalize (m.getD i 0).1 = y at c1 c3
        clear hi e HI
        go_wp2
        go_region
        go_wp2
        have q := HW.out
        refine ⟨⟨i + 1, by omega, by rw [HN.out], by first | rfl | (simp; done), HNX.out⟩, ?_⟩
        simp [intOf]
        omega
      · have HN : Hid (dif l m (i + 1) = d + 1) := by show (if _ then _ else _) = _; rw [if_neg e, HD.out]
        have ne : ¬ (((l.getD i 0).1 : Nat) : Int) = (((m.getD i 0).1 : Nat) : Int) := fun q => e (Fin.ext (by omega))
        generalize (m.getD i 0).1 = y at c3 ne
        generalize (l.getD i 0).1 = x at c1 ne
        clear hi e HI
        go_wp2
        go_region
        go_wp2
        have q := HW.out
        refine ⟨⟨i + 1, by omega, by rw [HN.out]; first | rfl | (simp; done), by first | rfl | (simp; done), HNX.out⟩, ?_⟩
        simp [intOf]
        omega
    · obtain rfl : i = n := by omega
      have g2 : ¬ (i : Int) < (i : Int) := Int.lt_irrefl _
      go_wp2
      go_ret
      exact ⟨rfl, HI.out.2.2⟩
end Go.Proofs.YtinmhgackihakaaDoor
namespace Go.Proofs.YtinmhgackihakaaDoor
set_option linter.unusedVariables false
set_option linter.unusedSimpArgs false
theorem sums_apart (l m : List F) (h : m.length = l.length) (j : Nat) : fa (sumG l j) (sumG m j) = sm l.length (fun q => fm (fa (l.getD q 0) (m.getD q 0)) (P (X l.length q) j)) := by
  rw [← sI_all l j, ← sI_all m j]
  unfold sI
  rw [h, ← sm_fa]
  exact sm_congr _ _ _ fun q _ => (fa_fm _ _ _).symm
theorem sm_two (g : Nat → F) (i k n : Nat) (hi : i < n) (hk : k < n) (hne : i ≠ k) (h : ∀ q, q < n → q ≠ i → q ≠ k → g q = 0) : sm n g = fa (g i) (g k) := by
  have e1 : sm n (fun q => if q = i then g i else 0) = g i := by
    rw [sm_one _ i n hi (fun q _ hq => if_neg hq), if_pos rfl]
  have e2 : sm n (fun q => if q = i then 0 else g q) = g k := by
    rw [sm_one _ k n hk (fun q hq hqk => ?_), if_neg (Ne.symm hne)]
    by_cases e : q = i
    · exact if_pos e
    · rw [if_neg e]; exact h q hq e hqk
  rw [sm_congr g (fun q => fa (if q = i then g i else 0) (if q = i then 0 else g q)) n (fun q _ => ?_), sm_fa, e1, e2]
  by_cases e : q = i
  · rw [if_pos e, if_pos e, fa_zero, e]
  · rw [if_neg e, if_neg e, zero_fa]
theorem P_0 (x : F) : P x 0 = 1 := rfl
theorem fm_1 (a : F) : fm 1 a = a := by rw [fm_comm, fm_one]
theorem P_1 (x : F) : P x 1 = x := fm_1 x
theorem P_2 (x : F) : P x 2 = fm x x := by show fm (P x 1) x = _; rw [P_1]
theorem P_3 (x : F) : P x 3 = fm x (fm x x) := by show fm (P x 2) x = _; rw [P_2, fm_comm]
def TL (x y a b : F) : List F := [T0 a b, T1 x y a b, T2 x y a b, T3 x y a b]
theorem four_at {a b c d a' b' c' d' : F} (h : [a, b, c, d] = [a', b', c', d']) : a = a' ∧ b = b' ∧ c = c' ∧ d = d' := by
  simp only [List.cons.injEq, and_true] at h
  exact h
theorem sumL_4 (l : List F) : sumL l = [sumG l 0, sumG l 1, sumG l 2, sumG l 3] := rfl
/-- A row that has right sums, but for two places. -/
def At2 (l m : List F) (i k : Nat) : Prop := m.length = l.length ∧ i < l.length ∧ k < l.length ∧ i ≠ k ∧ ∀ q, q < l.length → q ≠ i → q ≠ k → m.getD q 0 = l.getD q 0
theorem at2_sum {l m : List F} {i k : Nat} (h : At2 l m i k) (j : Nat) : fa (sumG l j) (sumG m j) = fa (fm (fa (l.getD i 0) (m.getD i 0)) (P (X l.length i) j)) (fm (fa (l.getD k 0) (m.getD k 0)) (P (X l.length k) j)) := by
  obtain ⟨h1, h2, h3, h4, h5⟩ := h
  rw [sums_apart l m h1, sm_two _ i k _ h2 h3 h4 fun q hq a b => ?_]
  rw [h5 q hq a b, fa_self, zero_fm]
theorem at2_tl {l m : List F} {i k : Nat} (h : At2 l m i k) : [fa (sumG l 0) (sumG m 0), fa (sumG l 1) (sumG m 1), fa (sumG l 2) (sumG m 2), fa (sumG l 3) (sumG m 3)] = TL (X l.length i) (X l.length k) (fa (l.getD i 0) (m.getD i 0)) (fa (l.getD k 0) (m.getD k 0)) := by
  rw [at2_sum h 0, at2_sum h 1, at2_sum h 2, at2_sum h 3, P_0, P_0, P_1, P_1, P_2, P_2, P_3, P_3, fm_one, fm_one]
  rfl
theorem at2_of {l m : List F} {i k : Nat} (h : At2 l m i k) (hz : sumL m = [0, 0, 0, 0]) : sumL l = TL (X l.length i) (X l.length k) (fa (l.getD i 0) (m.getD i 0)) (fa (l.getD k 0) (m.getD k 0)) := by
  obtain ⟨a, b, c, d⟩ := four_at ((sumL_4 m).symm.trans hz)
  have e := at2_tl h
  rw [a, b, c, d, fa_zero, fa_zero, fa_zero, fa_zero] at e
  exact e
theorem at2_zero {l m : List F} {i k : Nat} (h : At2 l m i k) (hz : sumL l = TL (X l.length i) (X l.length k) (fa (l.getD i 0) (m.getD i 0)) (fa (l.getD k 0) (m.getD k 0))) : sumL m = [0, 0, 0, 0] := by
  have e := at2_tl h
  rw [← hz, sumL_4 l] at e
  obtain ⟨a, b, c, d⟩ := four_at e
  have z : ∀ {x y : F}, fa x y = x → y = 0 := fun {x y} e => by
    rw [← fa_canc x y, e, fa_self]
  rw [sumL_4 m, z a, z b, z c, z d]
/-- A row with a right code that differs in at most two places. -/
def Nr (l m : List F) : Prop := sumL m = [0, 0, 0, 0] ∧ ∃ i k, At2 l m i k
theorem Nr.len {l m : List F} (h : Nr l m) : m.length = l.length := h.2.choose_spec.choose_spec.1
theorem list_same {l m : List F} (h : m.length = l.length) (e : ∀ q, q < l.length → m.getD q 0 = l.getD q 0) : m = l := by
  rw [← range_getD m, ← range_getD l, h]
  exact List.map_congr_left fun q hq => e q (List.mem_range.1 hq)
theorem Nr.only {l m m' : List F} (hn : l.length ≤ 255) (h : Nr l m) (h' : Nr l m') : m = m' := by
  obtain ⟨z, i, k, a⟩ := h
  obtain ⟨z', i', k', a'⟩ := h'
  have hl : m.length = m'.length := a.1.trans a'.1.symm
  have hml : m'.length = l.length := a'.1
  obtain ⟨s0, s1, s2', s3⟩ := four_at ((sumL_4 m).symm.trans z)
  obtain ⟨t0, t1, t2, t3⟩ := four_at ((sumL_4 m').symm.trans z')
  refine list_same hl fun q hq => ?_
  have u := uniq m'.length (by omega) (fun q => fa (m'.getD q 0) (m.getD q 0)) [i, k, i', k'] (by simp) (fun q hq hd => ?_) (fun j hj => ?_) q hq
  · exact (fa_eq_zero u).symm
  · by_cases e1 : q = i
    · simp [e1]
    · by_cases e2 : q = k
      · simp [e2]
      · by_cases e3 : q = i'
        · simp [e3]
        · by_cases e4 : q = k'
          · simp [e4]
          · exfalso
            apply hd
            show fa (m'.getD q 0) (m.getD q 0) = 0
            rw [a.2.2.2.2 q (by omega) e1 e2, a'.2.2.2.2 q (by omega) e3 e4, fa_self]
  · have e := sums_apart m' m hl j
    rw [← e]
    match j, hj with
    | 0, _ => rw [s0, t0, fa_self]
    | 1, _ => rw [s1, t1, fa_self]
    | 2, _ => rw [s2', t2, fa_self]
    | 3, _ => rw [s3, t3, fa_self]
theorem set_getD (l : List F) (i q : Nat) (x : F) (hi : i < l.length) : (l.set i x).getD q 0 = if q = i then x else l.getD q 0 := by
  simp only [List.getD_eq_getElem?_getD, List.getElem?_set]
  by_cases e : i = q
  · subst e; simp [hi]
  · rw [if_neg e, if_neg (Ne.symm e)]
/-- Two places changed. -/
def put2 (l : List F) (i k : Nat) (a b : F) : List F := (l.set i (fa (l.getD i 0) a)).set k (fa (l.getD k 0) b)
theorem put2_at2 (l : List F) (i k : Nat) (a b : F) (hi : i < l.length) (hk : k < l.length) (hne : i ≠ k) : At2 l (put2 l i k a b) i k ∧ fa (l.getD i 0) ((put2 l i k a b).getD i 0) = a ∧ fa (l.getD k 0) ((put2 l i k a b).getD k 0) = b := by
  have g : ∀ q, (put2 l i k a b).getD q 0 = if q = k then fa (l.getD k 0) b else if q = i then fa (l.getD i 0) a else l.getD q 0 := fun q => by
    unfold put2
    rw [set_getD _ k q _ (by rw [List.length_set]; exact hk), set_getD _ i q _ hi]
  refine ⟨⟨by simp [put2], hi, hk, hne, fun q hq h1 h2 => ?_⟩, ?_, ?_⟩
  · rw [g, if_neg h2, if_neg h1]
  · rw [g, if_neg hne, if_pos rfl, fa_canc]
  · rw [g, if_pos rfl, fa_canc]
theorem put2_nr (l : List F) (i k : Nat) (a b : F) (hi : i < l.length) (hk : k < l.length) (hne : i ≠ k) (hz : sumL l = TL (X l.length i) (X l.length k) a b) : Nr l (put2 l i k a b) := by
  obtain ⟨h, e1, e2⟩ := put2_at2 l i k a b hi hk hne
  exact ⟨at2_zero h (by rw [e1, e2]; exact hz), i, k, h⟩
theorem X_ne (n i k : Nat) (hn : n ≤ 255) (hi : i < n) (hk : k < n) (h : i ≠ k) : fa (X n i) (X n k) ≠ 0 := fa_ne fun e => h (X_inj n i k hn hi hk e)
theorem two_iff (l : List F) (i k : Nat) : two l i k ↔ sumL l = [sumG l 0, sumG l 1, s2 (X l.length i) (X l.length k) (sumG l 0) (sumG l 1) 2, s2 (X l.length i) (X l.length k) (sumG l 0) (sumG l 1) 3] := ⟨fun h => h.symm, fun h => h.symm⟩
theorem two_of (l : List F) (i k : Nat) (a b : F) (h : sumL l = TL (X l.length i) (X l.length k) a b) : two l i k := by
  obtain ⟨h0, h1, h2, h3⟩ := four_at ((sumL_4 l).symm.trans h)
  rw [two_iff, sumL_4]
  have e2 : s2 (X l.length i) (X l.length k) (sumG l 0) (sumG l 1) 2 = sumG l 2 := by
    show fa (fm (fa _ _) (sumG l 1)) (fm (fm _ _) (sumG l 0)) = _
    rw [h0, h1, T2_eq, h2]
  have e3 : s2 (X l.length i) (X l.length k) (sumG l 0) (sumG l 1) 3 = sumG l 3 := by
    show fa (fm (fa _ _) (s2 (X l.length i) (X l.length k) (sumG l 0) (sumG l 1) 2)) (fm (fm _ _) (sumG l 1)) = _
    rw [e2, h2, h1, T3_eq, h3]
  rw [e2, e3]
theorem two_tl (l : List F) (hn : l.length ≤ 255) (i k : Nat) (hi : i < l.length) (hk : k < l.length) (hne : i ≠ k) (h : two l i k) : sumL l = TL (X l.length i) (X l.length k) (wrA l i k) (wrB l i k) := by
  rw [two_iff] at h
  obtain ⟨_, _, h2, h3⟩ := four_at ((sumL_4 l).symm.trans h)
  obtain ⟨t0, t1⟩ := T_back (X l.length i) (X l.length k) (sumG l 0) (sumG l 1) _ (wrA l i k) (invF_mul _ (X_ne _ i k hn hi hk hne)) rfl
  have e2 : sumG l 2 = T2 (X l.length i) (X l.length k) (wrA l i k) (wrB l i k) := by
    rw [h2, ← T2_eq]
    show fa (fm (fa _ _) (sumG l 1)) (fm (fm _ _) (sumG l 0)) = fa (fm _ (T1 _ _ (wrA l i k) (fa (sumG l 0) (wrA l i k)))) (fm _ (T0 (wrA l i k) (fa (sumG l 0) (wrA l i k))))
    rw [t0, t1]
  have e3 : sumG l 3 = T3 (X l.length i) (X l.length k) (wrA l i k) (wrB l i k) := by
    rw [h3, ← T3_eq]
    show fa (fm (fa _ _) (s2 (X l.length i) (X l.length k) (sumG l 0) (sumG l 1) 2)) (fm (fm _ _) (sumG l 1)) = fa (fm _ (T2 _ _ (wrA l i k) (wrB l i k))) (fm _ (T1 _ _ (wrA l i k) (fa (sumG l 0) (wrA l i k))))
    rw [t1, ← e2, h2]
  rw [sumL_4, e2, e3]
  show [sumG l 0, sumG l 1, _, _] = [T0 (wrA l i k) (fa (sumG l 0) (wrA l i k)), T1 _ _ (wrA l i k) (fa (sumG l 0) (wrA l i k)), _, _]
  rw [t0, t1]
theorem At2.swap {l m : List F} {i k : Nat} (h : At2 l m i k) : At2 l m k i := ⟨h.1, h.2.2.1, h.2.1, Ne.symm h.2.2.2.1, fun q hq a b => h.2.2.2.2 q hq b a⟩
theorem Nr.down {l m : List F} (h : Nr l m) : ∃ i k, k < i ∧ At2 l m i k := by
  obtain ⟨_, i, k, a⟩ := h
  by_cases e : k < i
  · exact ⟨i, k, e, a⟩
  · exact ⟨k, i, by have := a.2.2.2.1; omega, a.swap⟩
/-- What a row is mended to has right sums only if it is near. -/
theorem MR.near {l m : List F} (hn : l.length ≤ 255) (h2 : 2 ≤ l.length) (h : MR l m) (hz : sumL m = [0, 0, 0, 0]) : Nr l m := by
  rcases h with ⟨i, k, hk, hi, ht, rfl⟩ | ⟨_, rfl⟩
  · exact put2_nr l i k _ _ hi (by omega) (by omega) (two_tl l hn i k hi (by omega) (by omega) ht)
  · exact ⟨hz, 1, 0, rfl, by omega, by omega, by decide, fun _ _ _ _ => rfl⟩
theorem MR.only {l m m0 : List F} (hn : l.length ≤ 255) (h : MR l m) (h0 : Nr l m0) : m = m0 := by
  rcases h with ⟨i, k, hk, hi, ht, rfl⟩ | ⟨hno, rfl⟩
  · exact Nr.only hn (put2_nr l i k _ _ hi (by omega) (by omega) (two_tl l hn i k hi (by omega) (by omega) ht)) h0
  · obtain ⟨i, k, hk, a⟩ := h0.down
    exact absurd (two_of _ i k _ _ (at2_of a h0.1)) (hno i k hk a.2.1)
/-- The program's row is a share's if there is one near. -/
theorem mend_yes {l m : List F} (hn : l.length ≤ 255) (h2 : 2 ≤ l.length) (h : MR l m) (hs : sumL m = [0, 0, 0, 0]) : Nr l m ∧ ∀ m0, Nr l m0 → m0 = m := ⟨h.near hn h2 hs, fun _ q => (h.only hn q).symm⟩
theorem dif_self (l : List F) : ∀ i, dif l l i = 0
  | 0 => rfl
  | i + 1 => by unfold dif; rw [if_pos rfl, dif_self l i]
theorem dif_comm (l m : List F) : ∀ i, dif l m i = dif m l i
  | 0 => rfl
  | i + 1 => by
    unfold dif
    rw [dif_comm l m i]
    by_cases e : l.getD i 0 = m.getD i 0
    · rw [if_pos e, if_pos e.symm]
    · rw [if_neg e, if_neg (Ne.symm e)]
theorem dif_none (l m : List F) : ∀ i, (∀ q, q < i → l.getD q 0 = m.getD q 0) → dif l m i = 0
  | 0, _ => rfl
  | i + 1, h => by unfold dif; rw [if_pos (h i (by omega)), dif_none l m i (fun q hq => h q (by omega))]
theorem dif_one (l m : List F) (p : Nat) (hp : l.getD p 0 ≠ m.getD p 0) : ∀ i, (∀ q, q < i → q ≠ p → l.getD q 0 = m.getD q 0) → p < i → dif l m i = 1
  | 0, _, h => by omega
  | i + 1, h, hi => by
    unfold dif
    by_cases e : p = i
    · subst e
      rw [if_neg hp, dif_none l m p (fun q hq => h q (by omega) (by omega))]
    · rw [if_pos (h i (by omega) (Ne.symm e)), dif_one l m p hp i (fun q hq => h q (by omega)) (by omega)]
theorem dif_two (l m : List F) (p r : Nat) (hpr : p < r) (hp : l.getD p 0 ≠ m.getD p 0) (hr : l.getD r 0 ≠ m.getD r 0) : ∀ i, (∀ q, q < i → q ≠ p → q ≠ r → l.getD q 0 = m.getD q 0) → r < i → dif l m i = 2
  | 0, _, h => by omega
  | i + 1, h, hi => by
    unfold dif
    by_cases e : r = i
    · subst e
      rw [if_neg hr, dif_one l m p hp r (fun q hq h1 => h q (by omega) h1 (by omega)) hpr]
    · rw [if_pos (h i (by omega) (by omega) (Ne.symm e)), dif_two l m p r hpr hp hr i (fun q hq => h q (by omega)) (by omega)]
/-- The reference's tests. -/
def one1 (l : List F) (i : Nat) : Prop := sumG l 1 = fm (sumG l 0) (X l.length i) ∧ sumG l 2 = fm (sumG l 0) (fm (X l.length i) (X l.length i)) ∧ sumG l 3 = fm (sumG l 0) (fm (X l.length i) (fm (X l.length i) (X l.length i)))
def rW (l : List F) (i k : Nat) : F := fm (fa (sumG l 1) (fm (sumG l 0) (X l.length i))) (invF (fa (X l.length i) (X l.length k)))
def rV (l : List F) (i k : Nat) : F := fa (sumG l 0) (rW l i k)
def two1 (l : List F) (i k : Nat) : Prop := sumG l 2 = T2 (X l.length i) (X l.length k) (rV l i k) (rW l i k) ∧ sumG l 3 = T3 (X l.length i) (X l.length k) (rV l i k) (rW l i k) ∧ rV l i k ≠ 0 ∧ rW l i k ≠ 0
theorem one1_tl (l : List F) (i k : Nat) (h : one1 l i) : sumL l = TL (X l.length i) (X l.length k) (sumG l 0) 0 := by
  obtain ⟨h1, h2, h3⟩ := h
  rw [sumL_4, h1, h2, h3]
  unfold TL T0 T1 T2 T3
  simp only [zero_fm, fa_zero]
theorem one1_of (l : List F) (i k : Nat) (a : F) (h : sumL l = TL (X l.length i) (X l.length k) a 0) : one1 l i ∧ sumG l 0 = a := by
  obtain ⟨h0, h1, h2, h3⟩ := four_at ((sumL_4 l).symm.trans h)
  unfold T0 T1 T2 T3 at *
  simp only [zero_fm, fa_zero] at h0 h1 h2 h3
  refine ⟨⟨?_, ?_, ?_⟩, h0⟩
  · rw [h0, h1]
  · rw [h0, h2]
  · rw [h0, h3]
theorem two1_tl (l : List F) (hn : l.length ≤ 255) (i k : Nat) (hi : i < l.length) (hk : k < l.length) (hne : i ≠ k) (h : two1 l i k) : sumL l = TL (X l.length i) (X l.length k) (rV l i k) (rW l i k) := by
  obtain ⟨t0, t1⟩ := T_back (X l.length k) (X l.length i) (sumG l 0) (sumG l 1) _ (rW l i k) (invF_mul _ (X_ne _ k i hn hk hi (Ne.symm hne))) (by unfold rW; rw [fa_comm (sumG l 1), fa_comm (X l.length i)])
  obtain ⟨h2, h3, _, _⟩ := h
  rw [sumL_4, h2, h3]
  have e0 : sumG l 0 = T0 (rV l i k) (rW l i k) := by rw [show T0 (rV l i k) (rW l i k) = T0 (rW l i k) (rV l i k) from fa_comm _ _]; exact t0.symm
  have e1 : sumG l 1 = T1 (X l.length i) (X l.length k) (rV l i k) (rW l i k) := by rw [show T1 (X l.length i) (X l.length k) (rV l i k) (rW l i k) = T1 (X l.length k) (X l.length i) (rW l i k) (rV l i k) from fa_comm _ _]; exact t1.symm
  show [sumG l 0, sumG l 1, _, _] = [_, _, _, _]
  rw [← e0, ← e1]
theorem two1_of (l : List F) (hn : l.length ≤ 255) (i k : Nat) (hi : i < l.length) (hk : k < l.length) (hne : i ≠ k) (a b : F) (ha : a ≠ 0) (hb : b ≠ 0) (h : sumL l = TL (X l.length i) (X l.length k) a b) : two1 l i k ∧ rV l i k = a ∧ rW l i k = b := by
  obtain ⟨h0, h1, h2, h3⟩ := four_at ((sumL_4 l).symm.trans h)
  have eW : rW l i k = b := by
    have q := T_only (X l.length k) (X l.length i) b a _ (invF_mul _ (X_ne _ k i hn hk hi (Ne.symm hne)))
    rw [show T0 b a = T0 a b from fa_comm _ _, show T1 (X l.length k) (X l.length i) b a = T1 (X l.length i) (X l.length k) a b from fa_comm _ _, ← h0, ← h1] at q
    unfold rW
    rw [fa_comm (sumG l 1), fa_comm (X l.length i)]
    exact q
  have eV : rV l i k = a := by
    unfold rV
    rw [eW, h0]
    unfold T0
    rw [fa_comm a b, fa_comm (fa b a), fa_canc]
  unfold two1
  rw [eV, eW]
  exact ⟨⟨h2, h3, ha, hb⟩, rfl, rfl⟩
/-- If no test is passed, no row is near. -/
theorem none_near (l : List F) (hn : l.length ≤ 255) (h0 : sumL l ≠ [0, 0, 0, 0]) (h1 : ∀ i, i < l.length → ¬ one1 l i) (h2 : ∀ i k, i < k → k < l.length → ¬ two1 l i k) (m : List F) : ¬ Nr l m := fun h => by
  obtain ⟨i, k, hk, a⟩ := h.down
  have t := at2_of a h.1
  have ts := at2_of a.swap h.1
  by_cases ea : fa (l.getD i 0) (m.getD i 0) = 0
  · rw [ea] at ts
    exact h1 k a.2.2.1 (one1_of l k i _ ts).1
  · by_cases eb : fa (l.getD k 0) (m.getD k 0) = 0
    · rw [eb] at t
      exact h1 i a.2.1 (one1_of l i k _ t).1
    · exact h2 k i hk a.2.1 (two1_of l hn k i a.2.2.1 a.2.1 (by omega) _ _ eb ea ts).1
theorem one_near (l : List F) (hn : l.length ≤ 255) (hn2 : 2 ≤ l.length) (h0 : sumL l ≠ [0, 0, 0, 0]) (i : Nat) (hi : i < l.length) (h : one1 l i) : Nr l (l.set i (fa (l.getD i 0) (sumG l 0))) ∧ dif (l.set i (fa (l.getD i 0) (sumG l 0))) l l.length = 1 ∧ sumG l 0 ≠ 0 := by
  obtain ⟨k, hk, hne⟩ : ∃ k, k < l.length ∧ i ≠ k := by
    by_cases e : i = 0
    · exact ⟨1, by omega, by omega⟩
    · exact ⟨0, by omega, e⟩
  have h00 : sumG l 0 ≠ 0 := fun e => by
    obtain ⟨h1, h2, h3⟩ := h
    rw [e, zero_fm] at h1 h2 h3
    exact h0 (by rw [sumL_4, e, h1, h2, h3])
  have e : put2 l i k (sumG l 0) 0 = l.set i (fa (l.getD i 0) (sumG l 0)) := by
    refine list_same (by simp [put2]) fun q hq => ?_
    unfold put2
    rw [fa_zero, set_getD _ k q _ (by rw [List.length_set]; exact hk), set_getD _ i q _ hi]
    by_cases e : q = k
    · rw [if_pos e, if_neg (by omega), e]
    · rw [if_neg e]
  refine ⟨by rw [← e]; exact put2_nr l i k _ _ hi hk hne (one1_tl l i k h), ?_, h00⟩
  refine dif_one _ _ i ?_ _ (fun q _ hq => by rw [set_getD _ _ _ _ hi, if_neg hq]) hi
  rw [set_getD _ _ _ _ hi, if_pos rfl]
  intro c
  apply h00
  rw [← fa_canc (l.getD i 0) (sumG l 0), c, fa_self]
theorem two_near (l : List F) (hn : l.length ≤ 255) (i k : Nat) (hi : i < k) (hk : k < l.length) (h : two1 l i k) : Nr l (put2 l i k (rV l i k) (rW l i k)) ∧ dif (put2 l i k (rV l i k) (rW l i k)) l l.length = 2 := by
  obtain ⟨a, e1, e2⟩ := put2_at2 l i k (rV l i k) (rW l i k) (by omega) hk (by omega)
  refine ⟨put2_nr l i k _ _ (by omega) hk (by omega) (two1_tl l hn i k (by omega) hk (by omega) h), ?_⟩
  refine dif_two _ _ i k hi (fun c => h.2.2.1 ?_) (fun c => h.2.2.2 ?_) _ (fun q hq h1 h2 => a.2.2.2.2 q hq h1 h2) hk
  · rw [← e1, c, fa_self]
  · rw [← e2, c, fa_self]
end Go.Proofs.YtinmhgackihakaaDoor
namespace Go.Proofs.YtinmhgackihakaaDoor
set_option linter.unusedVariables false
set_option linter.unusedSimpArgs false
/-- What a matrix, its last column what comes out, turns to nothing. -/
def Nz (A : Nat → Nat → F) (R n : Nat) (z : Nat → F) : Prop := ∀ i, i < R → sm (n + 1) (fun k => fm (A i k) (z k)) = 0
def rowU (A : Nat → Nat → F) (i : Nat) (g : Nat → F) : Nat → Nat → F := fun i' k => if i' = i then g k else A i' k
theorem rowU_at (A : Nat → Nat → F) (i : Nat) (g : Nat → F) (k : Nat) : rowU A i g i k = g k := if_pos rfl
theorem rowU_ne (A : Nat → Nat → F) (i i' : Nat) (g : Nat → F) (k : Nat) (h : i' ≠ i) : rowU A i g i' k = A i' k := if_neg h
def swapR (A : Nat → Nat → F) (c a : Nat) : Nat → Nat → F := fun i k => A (if i = c then a else if i = a then c else i) k
def scaleR (A : Nat → Nat → F) (c : Nat) (b : F) : Nat → Nat → F := rowU A c (fun k => fm (A c k) b)
def elimR (A : Nat → Nat → F) (i c : Nat) : Nat → Nat → F := rowU A i (fun k => fa (A i k) (fm (A i c) (A c k)))
def Good (A0 A : Nat → Nat → F) (R n c : Nat) : Prop := (∀ z, Nz A R n z ↔ Nz A0 R n z) ∧ ∀ q i, q < c → i < R → A i q = if i = q then 1 else 0
theorem good_first (A : Nat → Nat → F) (R n : Nat) : Good A A R n 0 := ⟨fun _ => Iff.rfl, fun q i h => absurd h (by omega)⟩
theorem nz_swap (A : Nat → Nat → F) (R n c a : Nat) (hc : c < R) (ha : a < R) (z : Nat → F) : Nz (swapR A c a) R n z ↔ Nz A R n z := by
  have key : ∀ A : Nat → Nat → F, Nz A R n z → Nz (swapR A c a) R n z := fun A h i hi => by
    show sm (n + 1) (fun k => fm (A (if i = c then a else if i = a then c else i) k) (z k)) = 0
    by_cases e : i = c
    · rw [if_pos e]; exact h a ha
    · rw [if_neg e]
      by_cases e2 : i = a
      · rw [if_pos e2]; exact h c hc
      · rw [if_neg e2]; exact h i hi
  refine ⟨fun h => ?_, key A⟩
  have q := key _ h
  have e : swapR (swapR A c a) c a = A := by
    funext i k
    unfold swapR
    by_cases e : i = c
    · subst e
      by_cases e2 : a = i
      · subst e2; simp
      · simp [e2]
    · by_cases e2 : i = a
      · subst e2; simp [e]
      · simp [e, e2]
  rwa [e] at q
theorem good_swap {A0 A : Nat → Nat → F} {R n c a : Nat} (h : Good A0 A R n c) (hc : c < R) (ha : a < R) (hca : c ≤ a) : Good A0 (swapR A c a) R n c := by
  refine ⟨fun z => (nz_swap A R n c a hc ha z).trans (h.1 z), fun q i hq hi => ?_⟩
  unfold swapR
  by_cases e : i = c
  · rw [if_pos e, h.2 q a hq ha, if_neg (by omega), if_neg (by omega)]
  · rw [if_neg e]
    by_cases e2 : i = a
    · rw [if_pos e2, h.2 q c hq hc, if_neg (by omega), if_neg (by omega)]
    · rw [if_neg e2]; exact h.2 q i hq hi
theorem sm_scale (g z : Nat → F) (b : F) (m : Nat) : sm m (fun k => fm (fm (g k) b) (z k)) = fm b (sm m (fun k => fm (g k) (z k))) := by
  rw [← sm_fm]
  exact sm_congr _ _ _ fun k _ => by rw [fm_comm (g k) b, fm_assoc]
theorem good_scale {A0 A : Nat → Nat → F} {R n c : Nat} {b : F} (h : Good A0 A R n c) (hc : c < R) (hb : b ≠ 0) : Good A0 (scaleR A c b) R n c := by
  refine ⟨fun z => ?_, fun q i hq hi => ?_⟩
  · rw [← h.1 z]
    constructor
    · intro g i hi
      have q := g i hi
      by_cases e : i = c
      · subst e
        simp only [scaleR, rowU_at] at q
        rw [sm_scale, fm_comm] at q
        exact fm_eq_zero q hb
      · simp only [scaleR, rowU_ne _ _ _ _ _ e] at q
        exact q
    · intro g i hi
      have q := g i hi
      by_cases e : i = c
      · subst e
        simp only [scaleR, rowU_at]
        rw [sm_scale, q, fm_zero]
      · simp only [scaleR, rowU_ne _ _ _ _ _ e]
        exact q
  · by_cases e : i = c
    · subst e
      simp only [scaleR, rowU_at]
      rw [h.2 q i hq hi, if_neg (by omega), zero_fm]
    · simp only [scaleR, rowU_ne _ _ _ _ _ e]
      exact h.2 q i hq hi
theorem sm_elim (g h z : Nat → F) (b : F) (m : Nat) : sm m (fun k => fm (fa (g k) (fm b (h k))) (z k)) = fa (sm m (fun k => fm (g k) (z k))) (fm b (sm m (fun k => fm (h k) (z k)))) := by
  rw [← sm_fm, ← sm_fa]
  exact sm_congr _ _ _ fun k _ => by rw [fa_fm, fm_assoc]
theorem good_elim {A0 A : Nat → Nat → F} {R n c i : Nat} (h : Good A0 A R n c) (hc : c < R) (hi : i < R) (hne : i ≠ c) : Good A0 (elimR A i c) R n c := by
  refine ⟨fun z => ?_, fun q j hq hj => ?_⟩
  · rw [← h.1 z]
    constructor
    · intro g
      have qc : sm (n + 1) (fun k => fm (A c k) (z k)) = 0 := by
        have q := g c hc
        simp only [elimR, rowU_ne _ _ _ _ _ (Ne.symm hne)] at q
        exact q
      intro j hj
      have q := g j hj
      by_cases e : j = i
      · subst e
        simp only [elimR, rowU_at] at q
        rw [sm_elim, qc, fm_zero, fa_zero] at q
        exact q
      · simp only [elimR, rowU_ne _ _ _ _ _ e] at q
        exact q
    · intro g j hj
      by_cases e : j = i
      · subst e
        simp only [elimR, rowU_at]
        rw [sm_elim, g c hc, fm_zero, fa_zero]
        exact g j hj
      · simp only [elimR, rowU_ne _ _ _ _ _ e]
        exact g j hj
  · by_cases e : j = i
    · subst e
      simp only [elimR, rowU_at]
      rw [h.2 q c hq hc, if_neg (show ¬ c = q by omega), fm_zero, fa_zero]
      exact h.2 q j hq hj
    · simp only [elimR, rowU_ne _ _ _ _ _ e]
      exact h.2 q j hq hj
theorem good_next {A0 A : Nat → Nat → F} {R n c : Nat} (h : Good A0 A R n c) (hu : ∀ i, i < R → A i c = if i = c then 1 else 0) : Good A0 A R n (c + 1) :=
  ⟨h.1, fun q i hq hi => by
    by_cases e : q = c
    · rw [e]; exact hu i hi
    · exact h.2 q i (by omega) hi⟩
/-- No row that is left has anything in a column: then the columns hang together. -/
theorem good_stop {A0 A : Nat → Nat → F} {R n c : Nat} (h : Good A0 A R n c) (hcn : c < n) (hcR : c < R) (hz : ∀ i, c ≤ i → i < R → A i c = 0) : ∃ z, Nz A0 R n z ∧ z c = 1 ∧ z n = 0 := by
  refine ⟨fun q => if q = c then 1 else if q < c then A q c else 0, (h.1 _).1 fun i hi => ?_, if_pos rfl, by show (if n = c then _ else if n < c then _ else _) = (0 : F); rw [if_neg (by omega), if_neg (by omega)]⟩
  by_cases hic : i < c
  · rw [sm_two _ i c (n + 1) (by omega) (by omega) (by omega) fun q hq h1 h2 => ?_]
    · show fa (fm (A i i) (if i = c then 1 else if i < c then A i c else 0)) (fm (A i c) (if c = c then 1 else _)) = 0
      rw [if_neg (by omega), if_pos hic, if_pos rfl, h.2 i i hic hi, if_pos rfl, fm_1, fm_one, fa_self]
    · show fm (A i q) (if q = c then 1 else if q < c then A q c else 0) = 0
      rw [if_neg h2]
      by_cases hq2 : q < c
      · rw [h.2 q i hq2 hi, if_neg (Ne.symm h1), zero_fm]
      · rw [if_neg hq2, fm_zero]
  · refine sm_none _ _ fun q hq => ?_
    show fm (A i q) (if q = c then 1 else if q < c then A q c else 0) = 0
    by_cases h2 : q = c
    · rw [h2, hz i (by omega) hi, zero_fm]
    · rw [if_neg h2]
      by_cases hq2 : q < c
      · rw [h.2 q i hq2 hi, if_neg (by omega), zero_fm]
      · rw [if_neg hq2, fm_zero]
/-- All columns are done. -/
theorem good_sol {A0 A : Nat → Nat → F} {R n : Nat} (h : Good A0 A R n n) (hn : n ≤ R) (z : Nat → F) (hz : z n = 1) : Nz A0 R n z ↔ (∀ i, n ≤ i → i < R → A i n = 0) ∧ ∀ q, q < n → z q = A q n := by
  rw [← h.1 z]
  have row : ∀ i, i < R → sm (n + 1) (fun k => fm (A i k) (z k)) = if i < n then fa (z i) (A i n) else A i n := fun i hi => by
    by_cases hin : i < n
    · rw [if_pos hin, sm_two _ i n (n + 1) (by omega) (by omega) (by omega) fun q hq h1 h2 => ?_]
      · show fa (fm (A i i) (z i)) (fm (A i n) (z n)) = _
        rw [h.2 i i hin hi, if_pos rfl, fm_1, hz, fm_one]
      · show fm (A i q) (z q) = 0
        rw [h.2 q i (by omega) hi, if_neg (Ne.symm h1), zero_fm]
    · rw [if_neg hin, sm_one _ n (n + 1) (by omega) fun q hq h1 => ?_]
      · show fm (A i n) (z n) = _
        rw [hz, fm_one]
      · show fm (A i q) (z q) = 0
        rw [h.2 q i (by omega) hi, if_neg (by omega), zero_fm]
  constructor
  · intro g
    refine ⟨fun i h1 h2 => ?_, fun q hq => ?_⟩
    · have := g i h2
      rw [row i h2, if_neg (by omega)] at this
      exact this
    · have := g q (by omega)
      rw [row q (by omega), if_pos hq] at this
      exact fa_eq_zero this
  · intro g i hi
    rw [row i hi]
    by_cases hin : i < n
    · rw [if_pos hin, g.2 i hin, fa_self]
    · rw [if_neg hin]; exact g.1 i (by omega) hi
/-- The columns but the last do not hang together. -/
def Ind (A : Nat → Nat → F) (R n : Nat) : Prop := ∀ z, Nz A R n z → z n = 0 → ∀ k, k < n → z k = 0
theorem one_ne : (1 : F) ≠ 0 := by decide
theorem good_pivot {A0 A : Nat → Nat → F} {R n c : Nat} (hI : Ind A0 R n) (h : Good A0 A R n c) (hcn : c < n) (hcR : c < R) : ¬ ∀ i, c ≤ i → i < R → A i c = 0 := fun hz => by
  obtain ⟨z, h1, h2, h3⟩ := good_stop h hcn hcR hz
  have := hI z h1 h3 c hcn
  rw [h2] at this
  exact one_ne this
/-- Numbers, and a 1 behind them. -/
def zOf (xs : List F) : Nat → F := fun k => (xs ++ [1]).getD k 0
theorem zOf_n (xs : List F) (n : Nat) (h : xs.length = n) : zOf xs n = 1 := by
  unfold zOf
  rw [List.getD_eq_getElem?_getD, List.getElem?_append_right (by omega), h, Nat.sub_self]
  rfl
theorem zOf_lt (xs : List F) (k : Nat) (h : k < xs.length) : zOf xs k = xs.getD k 0 := by
  unfold zOf
  rw [List.getD_eq_getElem?_getD, List.getElem?_append_left h, ← List.getD_eq_getElem?_getD]
/-- A row of a matrix. -/
def rowL (A : Nat → Nat → F) (n i : Nat) : List F := (List.range (n + 1)).map (A i)
theorem rowL_len (A : Nat → Nat → F) (n i : Nat) : (rowL A n i).length = n + 1 := by simp [rowL]
theorem rowL_at (A : Nat → Nat → F) (n i k : Nat) (h : k ≤ n) : (rowL A n i).getD k 0 = A i k := by
  unfold rowL
  simp [List.getD_eq_getElem?_getD, List.getElem?_map, List.getElem?_range (show k < n + 1 by omega)]
theorem rowL_set (A : Nat → Nat → F) (n i k : Nat) (a : F) (h : k ≤ n) : (rowL A n i).set k a = rowL (rowU A i (fun k' => if k' = k then a else A i k')) n i := by
  refine list_same (by simp [rowL_len]) fun q hq => ?_
  rw [rowL_len] at hq
  rw [set_getD _ k q a (by rw [rowL_len]; omega), rowL_at _ _ _ _ (by omega), rowL_at _ _ _ _ (by omega), rowU_at]
theorem rowL_congr (A A' : Nat → Nat → F) (n i : Nat) (h : ∀ k, k ≤ n → A i k = A' i k) : rowL A n i = rowL A' n i := List.map_congr_left fun k hk => h k (by have := List.mem_range.1 hk; omega)
end Go.Proofs.YtinmhgackihakaaDoor
namespace Go.Proofs.YtinmhgackihakaaDoor
open Go.RowKit
set_option linter.unusedVariables false
set_option linter.unusedSimpArgs false
set_option maxRecDepth 100000
theorem bs0 (u : World) : (Instr.buildSlice 23 0 #[]).run Tryd.prog u = .ok (.slice (some ⟨u.heap.size, 0, none⟩) 0 0) (u.alloc (.cells #[] 5)) := by
  obtain ⟨i0, hi, hz0, hz1, hz2⟩ := info_parts Tryd.infoB
  simp [Instr.buildSlice, run_underlying Tryd.underlying23', Go.sizeOf, typeInfo, hi, hz1, newRow, Instr.fill]
  rw [show (Array.range 0) = #[] from by first | rfl | simp | exact Array.size_eq_zero_iff.1 (by simp)]
  first | rfl | simp
theorem own_none {w : World} {k : Nat} (h : w.heap[k]? = some (.cells #[] 5 (0, 0))) : w.ownsRow k 5 1 (.slice (some ⟨k, 0, none⟩) 0 0) 0 [] :=
  ⟨rfl, .inr ⟨k, 0, #[], rfl, Nat.le_refl _, h, Nat.le_refl _, by decide, rfl, rfl⟩⟩
theorem new_none (u : World) : (u.alloc (.cells #[] 5)).heap[u.heap.size]? = some (.cells #[] 5 (0, 0)) := heap_alloc_new u _
/-- append([]byte{}, l...) -/
theorem run_clone (ty : TypeId) (k : Nat) (w : World) (hk : w.heap[k]? = some (.cells #[] 5 (0, 0))) (b off n c : Nat) (l : List F) (hl : l.length = n) (h1 : 1 ≤ n) (hn : n ≤ 4000) (hr : Rw w b off l) :
    ∃ g cap w', (Builtin.append_ #[23, 23] ty #[.slice (some ⟨k, 0, none⟩) 0 0, .slice (some ⟨b, off, none⟩) n c]).run Tryd.prog w = .ok (.slice (some ⟨g, 0, none⟩) n cap) w' ∧ n ≤ cap ∧ k ≤ g ∧ Rx w' g l ∧ Below k w w' := by
  obtain ⟨i0, hi, hz0, hz1, hz2⟩ := info_parts Tryd.infoB
  have hlt : k < w.heap.size := (Array.getElem?_eq_some_iff.1 hk).1
  obtain ⟨g, cap, w', e, h2, h3, h4, h5⟩ := run_append_lies (P := Tryd.prog) w 23 ty k 5 i0 (.int .u8 0) 1 1 Tryd.underlying23' hi hz0 hz1 hz2 rfl (by decide) _ 0 [] (own_none hk) ⟨b, off, none⟩ n c (fc l) (by rw [fc_len, hl, Nat.mul_one]) (fun j u hu => by
    have hj : j < l.length := by have := (List.getElem?_eq_some_iff.1 hu).1; rw [fc_len] at this; exact this
    rw [fc_at l j hj] at hu
    injection hu with hu
    rw [← hu, show (⟨b, off, none⟩ : Addr).add j = ⟨b, off + j, none⟩ by unfold Addr.add; split <;> simp_all]
    exact hr j hj) (fc_one l) h1 (Nat.le_trans (Nat.add_le_add_left hn 0) (by decide)) (by omega) (Nat.le_of_lt hlt) _ rfl
  rw [Nat.zero_add, List.nil_append] at h2
  rw [Nat.zero_add] at e
  have hb : Below k w w' := below_gb h3 (Nat.le_of_lt hlt) (Nat.le_refl _)
  have hc : n ≤ cap := by
    rcases h2.2 with ⟨q, _⟩ | ⟨g', cap', cur, q, _, _, h3, _⟩
    · cases q
    · injection q with _ _ q2; rw [q2]; exact h3
  obtain ⟨g', c', q, HQ⟩ := own_rx (by rw [hl]; exact h2) (by rw [hl]; exact h1)
  obtain ⟨q1, q2⟩ := HQ.out
  injection q with qa _ _
  injection qa with qa
  injection qa with qa
  rw [← qa] at q1 q2
  exact ⟨g, cap, w', e, hc, q2, q1, hb⟩
/-- In a plain region. -/
theorem wpList_clone {ops : Array Oper} {rest : List Oper} {o : Oper} {a : Act} {Q : Exit → Act → World → Prop} {w : World} (hgd : o.guard = none) (s x : Operand)
    (ho : o.op = .call { callee := .builtin .append, args := #[s, x], argTypes := #[23, 23] }) (k : Nat) (hs : a.eval s = .slice (some ⟨k, 0, none⟩) 0 0) (hk : w.heap[k]? = some (.cells #[] 5 (0, 0)))
    (b off n c : Nat) (l : List F) (hx : a.eval x = .slice (some ⟨b, off, none⟩) n c) (hl : l.length = n) (h1 : 1 ≤ n) (hn : n ≤ 4000) (hr : Rw w b off l)
    (h : ∀ g cap w', n ≤ cap → k ≤ g → Rx w' g l → Below k w w' → wpList Tryd.prog ops Q rest (a.put o.dst (.slice (some ⟨g, 0, none⟩) n cap)) w') : wpList Tryd.prog ops Q (o :: rest) a w :=
  wpList_plain hgd fun _ hK => by
    obtain ⟨g, cap, w', e, h2, h3, h4, h5⟩ := run_clone o.type k w hk b off n c l hl h1 hn hr
    unfold Oper.wp execOp
    simp only [ho, resolve, invoke, builtin, Sem.run_bind, Sem.run_pure, Result.andThen_ok, List.map_toArray, List.map_cons, List.map_nil, hs, hx, e]
    exact hK _ _ (h g cap w' h2 h3 h4 h5)
/-- At a step of a region that draws its order. -/
theorem step_clone {ops : Array Oper} {o : Oper} {a : Act} {K : Act → World → Prop} {Q : Exit → Act → World → Prop} {E : Prop} {w : World} (hgd : o.guard = none) (s x : Operand)
    (ho : o.op = .call { callee := .builtin .append, args := #[s, x], argTypes := #[23, 23] }) (k : Nat) (hs : a.eval s = .slice (some ⟨k, 0, none⟩) 0 0) (hk : w.heap[k]? = some (.cells #[] 5 (0, 0)))
    (b off n c : Nat) (l : List F) (hx : a.eval x = .slice (some ⟨b, off, none⟩) n c) (hl : l.length = n) (h1 : 1 ≤ n) (hn : n ≤ 4000) (hr : Rw w b off l)
    (h : ∀ g cap w', n ≤ cap → k ≤ g → Rx w' g l → Below k w w' → K (a.put o.dst (.slice (some ⟨g, 0, none⟩) n cap)) w') :
    if Region.wanted o (yielded ops a.tmps) = true then Oper.wp Tryd.prog o a w K Q else E := by
  have hw : Region.wanted o (yielded ops a.tmps) = true := by simp [Region.wanted, hgd]
  rw [if_pos hw]
  obtain ⟨g, cap, w', e, h2, h3, h4, h5⟩ := run_clone o.type k w hk b off n c l hl h1 hn hr
  unfold Oper.wp execOp
  simp only [ho, resolve, invoke, builtin, Sem.run_bind, Sem.run_pure, Result.andThen_ok, List.map_toArray, List.map_cons, List.map_nil, hs, hx, e]
  exact h g cap w' h2 h3 h4 h5
end Go.Proofs.YtinmhgackihakaaDoor
namespace Go.Proofs.YtinmhgackihakaaDoor
open Go.Shelf
def Tryd.lays169_ren : Go.Shelf.Ren := ⟨fun | 169 => 44 | n => n, fun | 70 => 78 | 9 => 9 | 0 => 0 | 72 => 80 | 37 => 23 | 127 => 102 | 3 => 3 | 5 => 5 | n => n, fun | n => n⟩
theorem Tryd.lays169 : Go.Proofs.Lays.n169 Tryd.prog Tryd.lays169_ren := {
  mixed := by kernel_rfl
  f169 := Tryd.func44.trans (congrArg some (by kernel_rfl))
  t0 := Tryd.underlying0
  a0 := Tryd.isAgg0
  z0 := Tryd.sizeOf0
  v0 := Tryd.zeroValue0
  t3 := Tryd.underlying3
  a3 := Tryd.isAgg3
  z3 := Tryd.sizeOf3
  v3 := Tryd.zeroValue3
  t9 := Tryd.underlying9
  a9 := Tryd.isAgg9
  z9 := Tryd.sizeOf9
  v9 := Tryd.zeroValue9
  t37 := Tryd.underlying23
  a37 := Tryd.isAgg23
  z37 := Tryd.sizeOf23
  v37 := Tryd.zeroValue23
  t70 := Tryd.underlying78
  a70 := Tryd.isAgg78
  z70 := Tryd.sizeOf78
  v70 := Tryd.zeroValue78
  t72 := Tryd.underlying80
  a72 := Tryd.isAgg80
  z72 := Tryd.sizeOf80
  v72 := Tryd.zeroValue80
  t127 := Tryd.underlying102
  a127 := Tryd.isAgg102
  z127 := Tryd.sizeOf102
  v127 := Tryd.zeroValue102 }
theorem Tryd.Builder_Extra_169 : Builder.Extra Tryd.prog Tryd.lays169_ren := {
  sizeBuilder := by kernel_rfl
  liesBuilder := by kernel_rfl
  t5 := Tryd.underlying5
  a5 := Tryd.isAgg5
  z5 := Tryd.sizeOf5
  v5 := Tryd.zeroValue5
  infoByte := by kernel_rfl
  cellsByte := by kernel_rfl
  sizeByte := by kernel_rfl
  neB5 := by decide }
open Go.RowKit in
theorem Tryd.Builder_String (B b : Nat) (l : List UInt8) (w : World) (h : Lib.IsBuilder 80 5 B b (Lib.byteCells l) w) (h0 : l ≠ []) :
    Calls Tryd.prog 44 #[.pointer (some ⟨b, 0, none⟩)] w fun e w' => e = .returned (.string ⟨l.toArray⟩) ∧ Below B w w' := Any.Builder_String Tryd.lays169 Tryd.Builder_Extra_169 B b l w h h0
open Go.RowKit in
theorem Tryd.Builder_String_empty (B b : Nat) (w : World) (h : Lib.IsBuilder 80 5 B b [] w) (hBw : B ≤ w.heap.size) :
    Calls Tryd.prog 44 #[.pointer (some ⟨b, 0, none⟩)] w fun e w' => e = .returned (.string ⟨#[]⟩) ∧ Below B w w' := Any.Builder_String_empty Tryd.lays169 Tryd.Builder_Extra_169 B b w h hBw
open Go.RowKit in
theorem Tryd.Builder_String_any (B b : Nat) (l : List UInt8) (w : World) (h : Lib.IsBuilder 80 5 B b (Lib.byteCells l) w) (hBw : B ≤ w.heap.size) :
    Calls Tryd.prog 44 #[.pointer (some ⟨b, 0, none⟩)] w fun e w' => e = .returned (.string ⟨l.toArray⟩) ∧ Below B w w' := Any.Builder_String_any Tryd.lays169 Tryd.Builder_Extra_169 B b l w h hBw
end Go.Proofs.YtinmhgackihakaaDoor
