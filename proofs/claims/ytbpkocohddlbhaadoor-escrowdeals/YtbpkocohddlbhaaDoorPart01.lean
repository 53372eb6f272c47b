import Derived.Test.YtbpkocohddlbhaaDoorPart00
import Derived.Lib.LazyBuf
import Derived.Lib.SliceRun
import Derived.Shelf.RegionOpenPlain
import Derived.Laws.StructEq
import Derived.Laws.Tables
import Derived.KernelRfl
import Derived.WalkMore
import Derived.Deep.AppendLies
import Derived.Shelf.Strings.Builder1
import Derived.Test.YtbpkocohddlbhaaDoorProg
import Derived.Lib.Strings
import Derived.Lib.Slices
import Derived.Lib.Walk
import Derived.Lib.Builder
import Derived.Lib.AppendStr
import Derived.Lib.UnsafeStr
import Derived.WalkKit
import Derived.Laws.Externs
import Derived.Deep.QuietTactic
import Derived.BigQuiet
import Derived.Deep.Draws
import Derived.Laws.BitsAllLaws
import Derived.Deep.RegionHeld3
import Derived.Deep.Cut
import Derived.Laws.BytesString
namespace Go.Proofs.YtbpkocohddlbhaaDoor
open Go.RowKit
set_option linter.unusedVariables false
set_option linter.unusedSimpArgs false
theorem Tryd.underlying23' : Tryd.prog.underlying 23 = some (.slice 5) := by kernel_rfl
/-- A row, its first k and last k places taken from the other end. -/
def rvl (l : List F) (k : Nat) : List F := (List.range l.length).map fun q => if q < k ∨ l.length ≤ q + k then l.getD (l.length - 1 - q) 0 else l.getD q 0
theorem rvl_len (l : List F) (k : Nat) : (rvl l k).length = l.length := by simp [rvl]
theorem rvl_at (l : List F) (k q : Nat) (h : q < l.length) : (rvl l k).getD q 0 = if q < k ∨ l.length ≤ q + k then l.getD (l.length - 1 - q) 0 else l.getD q 0 := by
  simp [rvl, List.getD_eq_getElem?_getD, List.getElem?_map, List.getElem?_range h]
theorem rvl_zero (l : List F) : rvl l 0 = l := by
  apply List.ext_getElem
  · simp [rvl]
  · intro q h1 h2
    simp [rvl, List.getD_eq_getElem?_getD, List.getElem?_eq_getElem h2, show ¬ l.length ≤ q by omega]
theorem rvl_all (l : List F) (k : Nat) (h : l.length ≤ 2 * k + 1) : rvl l k = l.reverse := by
  apply List.ext_getElem
  · simp [rvl]
  · intro q h1 h2
    have hq : q < l.length := by simpa [rvl] using h1
    have e : (rvl l k)[q] = (rvl l k).getD q 0 := by rw [List.getD_eq_getElem?_getD, List.getElem?_eq_getElem h1]; rfl
    rw [e, rvl_at l k q hq, List.getElem_reverse]
    by_cases c : q < k ∨ l.length ≤ q + k
    · rw [if_pos c, List.getD_eq_getElem?_getD, List.getElem?_eq_getElem (by omega)]; rfl
    · rw [if_neg c, List.getD_eq_getElem?_getD, List.getElem?_eq_getElem hq]
      show l[q] = _
      congr 1
      omega
theorem rvl_next (l : List F) (k j : Nat) (h : k + 1 + j = l.length) (hj : k < j) : ((fc (rvl l k)).set k (.int .u8 ((l.getD j 0).1 : Nat))).set j (.int .u8 ((l.getD k 0).1 : Nat)) = fc (rvl l (k + 1)) := by
  apply List.ext_getElem?
  intro q
  by_cases hq : q < l.length
  · rw [fc_at (rvl l (k + 1)) q (by rw [rvl_len]; exact hq), rvl_at l (k + 1) q hq]
    by_cases e1 : q = j
    · subst e1
      rw [List.getElem?_set_self (by rw [List.length_set, fc_len, rvl_len]; exact hq), if_pos (by omega), show l.length - 1 - q = k by omega]
    · rw [List.getElem?_set_ne (by omega)]
      by_cases e2 : q = k
      · subst e2
        rw [List.getElem?_set_self (by rw [fc_len, rvl_len]; exact hq), if_pos (by omega), show l.length - 1 - q = j by omega]
      · rw [List.getElem?_set_ne (by omega), fc_at (rvl l k) q (by rw [rvl_len]; exact hq), rvl_at l k q hq]
        by_cases c : q < k ∨ l.length ≤ q + k
        · rw [if_pos c, if_pos (by omega)]
        · rw [if_neg c, if_neg (by omega)]
  · rw [List.getElem?_eq_none (by simp [fc_len, rvl_len]; omega), List.getElem?_eq_none (by simp [fc_len, rvl_len]; omega)]
end Go.Proofs.YtbpkocohddlbhaaDoor
namespace Go.Proofs.YtbpkocohddlbhaaDoor
open Go.RowKit
set_option linter.unusedVariables false
set_option linter.unusedSimpArgs false
theorem Tryd.isAgg5' (w : World) : (isAgg 5).run Tryd.prog w = .ok false w := by kernel_rfl
theorem Tryd.sizeOf5' (w : World) : (Go.sizeOf 5).run Tryd.prog w = .ok 1 w := by kernel_rfl
theorem Tryd.underlying5' : Tryd.prog.underlying 5 = some (.int .u8) := by kernel_rfl
set_option maxHeartbeats 3200000 in
set_option maxRecDepth 100000 in
theorem eq4 (t : TypeId) (ht : Tryd.prog.underlying t = some (.array 4 5)) (x0 x1 x2 x3 y0 y1 y2 y3 : Int) (w : World) : (Op.equalIn 10000 t (.agg #[.int .u8 x0, .int .u8 x1, .int .u8 x2, .int .u8 x3]) (.agg #[.int .u8 y0, .int .u8 y1, .int .u8 y2, .int .u8 y3])).run Tryd.prog w = .ok (x0 == y0 && (x1 == y1 && (x2 == y2 && x3 == y3))) w := by
  have u5 := Tryd.underlying5'
  have a5 := Tryd.isAgg5'
  have z5 := Tryd.sizeOf5'
  have ut := fun w => run_underlying ht w
  have e : ∀ x y : Int, (Op.equalIn 9999 5 (.int .u8 x) (.int .u8 y)).run Tryd.prog w = .ok (x == y) w := fun x y => by
    rw [show (9999 : Nat) = 9998 + 1 from rfl, run_equalIn_int w 9998 5 .u8 .u8 x y u5]
  rw [show (10000 : Nat) = 9999 + 1 from rfl, Op.equalIn]
  simp only [Sem.run_bind, run_underlying ht, Result.andThen_ok]
  simp only [Std.Legacy.Range.forIn_eq_forIn_range', Std.Legacy.Range.size, Nat.sub_zero, Nat.add_sub_cancel, Nat.div_one, List.range'_succ, List.range'_zero, List.forIn_cons, List.forIn_nil]
  go_simp
  by_cases h0 : x0 = y0 <;> by_cases h1 : x1 = y1 <;> by_cases h2 : x2 = y2 <;> by_cases h3 : x3 = y3 <;> simp [h0, h1, h2, h3]
theorem four (l : List F) (hl : l.length = 4) : ∃ a b c d, l = [a, b, c, d] := by
  match l, hl with
  | [a, b, c, d], _ => exact ⟨a, b, c, d, rfl⟩
set_option maxRecDepth 100000 in
theorem eql4 (t : TypeId) (ht : Tryd.prog.underlying t = some (.array 4 5)) (l m : List F) (hl : l.length = 4) (hm : m.length = 4) (w : World) : (binOp .eql t (.agg (fc l).toArray) (.agg (fc m).toArray)).run Tryd.prog w = .ok (.bool (decide (l = m))) w := by
  obtain ⟨a, b, c, d, rfl⟩ := four l hl
  obtain ⟨a', b', c', d', rfl⟩ := four m hm
  have h := eq4 t ht (a.1 : Nat) (b.1 : Nat) (c.1 : Nat) (d.1 : Nat) (a'.1 : Nat) (b'.1 : Nat) (c'.1 : Nat) (d'.1 : Nat) w
  rw [run_eql_struct]
  have h2 : (Op.equalIn 10000 t (.agg (fc [a, b, c, d]).toArray) (.agg (fc [a', b', c', d']).toArray)).run Tryd.prog w = _ := h
  rw [h2, Result.andThen_ok]
  congr 2
  have q : ∀ x y : F, ((x.1 : Nat) : Int) = ((y.1 : Nat) : Int) ↔ x = y := fun x y => ⟨fun e => Fin.ext (by omega), fun e => by rw [e]⟩
  simp only [List.cons.injEq, and_true]
  by_cases h0 : a = a' <;> by_cases h1 : b = b' <;> by_cases h2 : c = c' <;> by_cases h3 : d = d' <;> simp [q, h0, h1, h2, h3]
theorem Tryd.und77 : Tryd.prog.underlying 99 = some (.array 4 5) := by kernel_rfl
theorem Tryd.und51 : Tryd.prog.underlying 70 = some (.array 4 5) := by kernel_rfl
end Go.Proofs.YtbpkocohddlbhaaDoor
namespace Go.Proofs.YtbpkocohddlbhaaDoor
open Go.RowKit
set_option linter.unusedVariables false
set_option linter.unusedSimpArgs false
/-- Do two places' sums come out as the row's? -/
def two (l : List F) (i k : Nat) : Prop := (List.range 4).map (s2 (X l.length i) (X l.length k) (sumG l 0) (sumG l 1)) = sumL l
def wrA (l : List F) (i k : Nat) : F := wA (X l.length i) (X l.length k) (sumG l 0) (sumG l 1)
def wrB (l : List F) (i k : Nat) : F := fa (sumG l 0) (wrA l i k)
/-- What a row is mended to. -/
def MR (l m : List F) : Prop := (∃ i k, k < i ∧ i < l.length ∧ two l i k ∧ m = (l.set i (fa (l.getD i 0) (wrA l i k))).set k (fa (l.getD k 0) (wrB l i k))) ∨ ((∀ i k, k < i → i < l.length → ¬ two l i k) ∧ m = l)
/-- Its weights. -/
def Wl (n : Nat) : List F := (List.range n).map (X n)
theorem Wl_len (n : Nat) : (Wl n).length = n := by simp [Wl]
theorem Wl_at (n i : Nat) (h : i < n) : (Wl n).getD i 0 = X n i := by simp [Wl, List.getD_eq_getElem?_getD, List.getElem?_map, List.getElem?_range h]
theorem Wl_rev (n : Nat) : ((List.range n).map Em).reverse = Wl n := by
  apply List.ext_getElem
  · simp [Wl]
  · intro i h1 h2
    simp only [Wl, List.getElem_reverse, List.getElem_map, List.getElem_range, List.length_map, List.length_range, X]
/-- A row with room behind it. -/
def Rx (w : World) (g : Nat) (l : List F) : Prop := ∃ sp, Bx w g 5 (fc l ++ sp)
theorem Rx.lt {w : World} {g : Nat} {l : List F} (h : Rx w g l) : g < w.heap.size := h.choose_spec.lt
theorem Rx.keep {w w' : World} {g : Nat} {l : List F} (h : Rx w g l) (e : w'.heap[g]? = w.heap[g]?) : Rx w' g l := ⟨_, h.choose_spec.keep e⟩
theorem Rx.below {w w' : World} {g : Nat} {l : List F} (h : Rx w g l) (hb : Below w.heap.size w w') : Rx w' g l := ⟨_, h.choose_spec.below hb⟩
theorem Rx.cell {w : World} {g : Nat} {l : List F} (h : Rx w g l) (i : Nat) (hi : i < l.length) : w.cell? ⟨g, i, none⟩ = some (.int .u8 ((l.getD i 0).1 : Nat)) := by
  obtain ⟨sp, hs⟩ := h
  refine hs.cell i _ ?_
  rw [List.getElem?_append_left (by rw [fc_len]; exact hi), fc_at l i hi]
theorem Rx.frozen {w : World} {g : Nat} {l : List F} (h : Rx w g l) (i : Nat) : w.frozen? ⟨g, i, none⟩ = false := h.choose_spec.frozen i
theorem fc_set (l : List F) (i : Nat) (a : F) : fc (l.set i a) = (fc l).set i (.int .u8 (a.1 : Nat)) := by simp [fc, List.map_set]
theorem Rx.set {w : World} {g : Nat} {l : List F} (h : Rx w g l) (i : Nat) (hi : i < l.length) (a : F) : Rx (w.setCell ⟨g, i, none⟩ (.int .u8 (a.1 : Nat))) g (l.set i a) := by
  obtain ⟨sp, hs⟩ := h
  refine ⟨sp, ?_⟩
  rw [fc_set, ← List.set_append_left _ _ (by rw [fc_len]; exact hi)]
  exact hs.set i _
theorem Rx.rw {w : World} {g : Nat} {l : List F} (h : Rx w g l) : Rw w g 0 l := fun i hi => by rw [Nat.zero_add]; exact h.cell i hi
theorem own_rx {w : World} {B : Nat} {v : Value} {l : List F} (h : w.ownsRow B 5 1 v l.length (fc l)) (h1 : 1 ≤ l.length) : ∃ g c, v = .slice (some ⟨g, 0, none⟩) l.length c ∧ Hid (Rx w g l ∧ B ≤ g) := by
  rcases h.2 with ⟨e, _⟩ | ⟨g, cap, cur, q, hB, hh, h3, h4, h5, h6⟩
  · omega
  · refine ⟨g, cap, q, ⟨cur.toList.drop l.length, ?_⟩, hB⟩
    unfold Bx
    rw [hh, ← h6, Nat.mul_one, List.take_append_drop]
end Go.Proofs.YtbpkocohddlbhaaDoor
namespace Go.Proofs.YtbpkocohddlbhaaDoor
open Go.RowKit
set_option linter.unusedVariables false
set_option linter.unusedSimpArgs false
/-- In how many of the first places two rows differ. -/
def dif (l m : List F) : Nat → Nat
  | 0 => 0
  | i + 1 => if l.getD i 0 = m.getD i 0 then dif l m i else dif l m i + 1
theorem dif_le (l m : List F) : ∀ i, dif l m i ≤ i
  | 0 => Nat.le_refl _
  | i + 1 => by have := dif_le l m i; unfold dif; split <;> omega
end Go.Proofs.YtbpkocohddlbhaaDoor
namespace Go.Proofs.YtbpkocohddlbhaaDoor
set_option linter.unusedVariables false
set_option linter.unusedSimpArgs false
theorem sums_apart (l m : List F) (h : m.length = l.length) (j : Nat) : fa (sumG l j) (sumG m j) = sm l.length (fun q => fm (fa (l.getD q 0) (m.getD q 0)) (P (X l.length q) j)) := by
  rw [← sI_all l j, ← sI_all m j]
  unfold sI
  rw [h, ← sm_fa]
  exact sm_congr _ _ _ fun q _ => (fa_fm _ _ _).symm
theorem sm_two (g : Nat → F) (i k n : Nat) (hi : i < n) (hk : k < n) (hne : i ≠ k) (h : ∀ q, q < n → q ≠ i → q ≠ k → g q = 0) : sm n g = fa (g i) (g k) := by
  have e1 : sm n (fun q => if q = i then g i else 0) = g i := by
    rw [sm_one _ i n hi (fun q _ hq => if_neg hq), if_pos rfl]
  have e2 : sm n (fun q => if q = i then 0 else g q) = g k := by
    rw [sm_one _ k n hk (fun q hq hqk => ?_), if_neg (Ne.symm hne)]
    by_cases e : q = i
    · exact if_pos e
    · rw [if_neg e]; exact h q hq e hqk
  rw [sm_congr g (fun q => fa (if q = i then g i else 0) (if q = i then 0 else g q)) n (fun q _ => ?_), sm_fa, e1, e2]
  by_cases e : q = i
  · rw [if_pos e, if_pos e, fa_zero, e]
  · rw [if_neg e, if_neg e, zero_fa]
theorem P_0 (x : F) : P x 0 = 1 := rfl
theorem fm_1 (a : F) : fm 1 a = a := by rw [fm_comm, fm_one]
theorem P_1 (x : F) : P x 1 = x := fm_1 x
theorem P_2 (x : F) : P x 2 = fm x x := by show fm (P x 1) x = _; rw [P_1]
theorem P_3 (x : F) : P x 3 = fm x (fm x x) := by show fm (P x 2) x = _; rw [P_2, fm_comm]
def TL (x y a b : F) : List F := [T0 a b, T1 x y a b, T2 x y a b, T3 x y a b]
theorem four_at {a b c d a' b' c' d' : F} (h : [a, b, c, d] = [a', b', c', d']) : a = a' ∧ b = b' ∧ c = c' ∧ d = d' := by
  simp only [List.cons.injEq, and_true] at h
  exact h
theorem sumL_4 (l : List F) : sumL l = [sumG l 0, sumG l 1, sumG l 2, sumG l 3] := rfl
/-- A row that has right sums, but for two places. -/
def At2 (l m : List F) (i k : Nat) : Prop := m.length = l.length ∧ i < l.length ∧ k < l.length ∧ i ≠ k ∧ ∀ q, q < l.length → q ≠ i → q ≠ k → m.getD q 0 = l.getD q 0
theorem at2_sum {l m : List F} {i k : Nat} (h : At2 l m i k) (j : Nat) : fa (sumG l j) (sumG m j) = fa (fm (fa (l.getD i 0) (m.getD i 0)) (P (X l.length i) j)) (fm (fa (l.getD k 0) (m.getD k 0)) (P (X l.length k) j)) := by
  obtain ⟨h1, h2, h3, h4, h5⟩ := h
  rw [sums_apart l m h1, sm_two _ i k _ h2 h3 h4 fun q hq a b => ?_]
  rw [h5 q hq a b, fa_self, zero_fm]
theorem at2_tl {l m : List F} {i k : Nat} (h : At2 l m i k) : [fa (sumG l 0) (sumG m 0), fa (sumG l 1) (sumG m 1), fa (sumG l 2) (sumG m 2), fa (sumG l 3) (sumG m 3)] = TL (X l.length i) (X l.length k) (fa (l.getD i 0) (m.getD i 0)) (fa (l.getD k 0) (m.getD k 0)) := by
  rw [at2_sum h 0, at2_sum h 1, at2_sum h 2, at2_sum h 3, P_0, P_0, P_1, P_1, P_2, P_2, P_3, P_3, fm_one, fm_one]
  rfl
theorem at2_of {l m : List F} {i k : Nat} (h : At2 l m i k) (hz : sumL m = [0, 0, 0, 0]) : sumL l = TL (X l.length i) (X l.length k) (fa (l.getD i 0) (m.getD i 0)) (fa (l.getD k 0) (m.getD k 0)) := by
  obtain ⟨a, b, c, d⟩ := four_at ((sumL_4 m).symm.trans hz)
  have e := at2_tl h
  rw [a, b, c, d, fa_zero, fa_zero, fa_zero, fa_zero] at e
  exact e
theorem at2_zero {l m : List F} {i k : Nat} (h : At2 l m i k) (hz : sumL l = TL (X l.length i) (X l.length k) (fa (l.getD i 0) (m.getD i 0)) (fa (l.getD k 0) (m.getD k 0))) : sumL m = [0, 0, 0, 0] := by
  have e := at2_tl h
  rw [← hz, sumL_4 l] at e
  obtain ⟨a, b, c, d⟩ := four_at e
  have z : ∀ {x y : F}, fa x y = x → y = 0 := fun {x y} e => by
    rw [← fa_canc x y, e, fa_self]
  rw [sumL_4 m, z a, z b, z c, z d]
/-- A row with a right code that differs in at most two places. -/
def Nr (l m : List F) : Prop := sumL m = [0, 0, 0, 0] ∧ ∃ i k, At2 l m i k
theorem Nr.len {l m : List F} (h : Nr l m) : m.length = l.length := h.2.choose_spec.choose_spec.1
theorem list_same {l m : List F} (h : m.length = l.length) (e : ∀ q, q < l.length → m.getD q 0 = l.getD q 0) : m = l := by
  rw [← range_getD m, ← range_getD l, h]
  exact List.map_congr_left fun q hq => e q (List.mem_range.1 hq)
theorem Nr.only {l m m' : List F} (hn : l.length ≤ 255) (h : Nr l m) (h' : Nr l m') : m = m' := by
  obtain ⟨z, i, k, a⟩ := h
  obtain ⟨z', i', k', a'⟩ := h'
  have hl : m.length = m'.length := a.1.trans a'.1.symm
  have hml : m'.length = l.length := a'.1
  obtain ⟨s0, s1, s2', s3⟩ := four_at ((sumL_4 m).symm.trans z)
  obtain ⟨t0, t1, t2, t3⟩ := four_at ((sumL_4 m').symm.trans z')
  refine list_same hl fun q hq => ?_
  have u := uniq m'.length (by omega) (fun q => fa (m'.getD q 0) (m.getD q 0)) [i, k, i', k'] (by simp) (fun q hq hd => ?_) (fun j hj => ?_) q hq
  · exact (fa_eq_zero u).symm
  · by_cases e1 : q = i
    · simp [e1]
    · by_cases e2 : q = k
      · simp [e2]
      · by_cases e3 : q = i'
        · simp [e3]
        · by_cases e4 : q = k'
          · simp [e4]
          · exfalso
            apply hd
            show fa (m'.getD q 0) (m.getD q 0) = 0
            rw [a.2.2.2.2 q (by omega) e1 e2, a'.2.2.2.2 q (by omega) e3 e4, fa_self]
  · have e := sums_apart m' m hl j
    rw [← e]
    match j, hj with
    | 0, _ => rw [s0, t0, fa_self]
    | 1, _ => rw [s1, t1, fa_self]
    | 2, _ => rw [s2', t2, fa_self]
    | 3, _ => rw [s3, t3, fa_self]
theorem set_getD (l : List F) (i q : Nat) (x : F) (hi : i < l.length) : (l.set i x).getD q 0 = if q = i then x else l.getD q 0 := by
  simp only [List.getD_eq_getElem?_getD, List.getElem?_set]
  by_cases e : i = q
  · subst e; simp [hi]
  · rw [if_neg e, if_neg (Ne.symm e)]
/-- Two places changed. -/
def put2 (l : List F) (i k : Nat) (a b : F) : List F := (l.set i (fa (l.getD i 0) a)).set k (fa (l.getD k 0) b)
theorem put2_at2 (l : List F) (i k : Nat) (a b : F) (hi : i < l.length) (hk : k < l.length) (hne : i ≠ k) : At2 l (put2 l i k a b) i k ∧ fa (l.getD i 0) ((put2 l i k a b).getD i 0) = a ∧ fa (l.getD k 0) ((put2 l i k a b).getD k 0) = b := by
  have g : ∀ q, (put2 l i k a b).getD q 0 = if q = k then fa (l.getD k 0) b else if q = i then fa (l.getD i 0) a else l.getD q 0 := fun q => by
    unfold put2
    rw [set_getD _ k q _ (by rw [List.length_set]; exact hk), set_getD _ i q _ hi]
  refine ⟨⟨by simp [put2], hi, hk, hne, fun q hq h1 h2 => ?_⟩, ?_, ?_⟩
  · rw [g, if_neg h2, if_neg h1]
  · rw [g, if_neg hne, if_pos rfl, fa_canc]
  · rw [g, if_pos rfl, fa_canc]
theorem put2_nr (l : List F) (i k : Nat) (a b : F) (hi : i < l.length) (hk : k < l.length) (hne : i ≠ k) (hz : sumL l = TL (X l.length i) (X l.length k) a b) : Nr l (put2 l i k a b) := by
  obtain ⟨h, e1, e2⟩ := put2_at2 l i k a b hi hk hne
  exact ⟨at2_zero h (by rw [e1, e2]; exact hz), i, k, h⟩
theorem X_ne (n i k : Nat) (hn : n ≤ 255) (hi : i < n) (hk : k < n) (h : i ≠ k) : fa (X n i) (X n k) ≠ 0 := fa_ne fun e => h (X_inj n i k hn hi hk e)
theorem two_iff (l : List F) (i k : Nat) : two l i k ↔ sumL l = [sumG l 0, sumG l 1, s2 (X l.length i) (X l.length k) (sumG l 0) (sumG l 1) 2, s2 (X l.length i) (X l.length k) (sumG l 0) (sumG l 1) 3] := ⟨fun h => h.symm, fun h => h.symm⟩
theorem two_of (l : List F) (i k : Nat) (a b : F) (h : sumL l = TL (X l.length i) (X l.length k) a b) : two l i k := by
  obtain ⟨h0, h1, h2, h3⟩ := four_at ((sumL_4 l).symm.trans h)
  rw [two_iff, sumL_4]
  have e2 : s2 (X l.length i) (X l.length k) (sumG l 0) (sumG l 1) 2 = sumG l 2 := by
    show fa (fm (fa _ _) (sumG l 1)) (fm (fm _ _) (sumG l 0)) = _
    rw [h0, h1, T2_eq, h2]
  have e3 : s2 (X l.length i) (X l.length k) (sumG l 0) (sumG l 1) 3 = sumG l 3 := by
    show fa (fm (fa _ _) (s2 (X l.length i) (X l.length k) (sumG l 0) (sumG l 1) 2)) (fm (fm _ _) (sumG l 1)) = _
    rw [e2, h2, h1, T3_eq, h3]
  rw [e2, e3]
theorem two_tl (l : List F) (hn : l.length ≤ 255) (i k : Nat) (hi : i < l.length) (hk : k < l.length) (hne : i ≠ k) (h : two l i k) : sumL l = TL (X l.length i) (X l.length k) (wrA l i k) (wrB l i k) := by
  rw [two_iff] at h
  obtain ⟨_, _, h2, h3⟩ := four_at ((sumL_4 l).symm.trans h)
  obtain ⟨t0, t1⟩ := T_back (X l.length i) (X l.length k) (sumG l 0) (sumG l 1) _ (wrA l i k) (invF_mul _ (X_ne _ i k hn hi hk hne)) rfl
  have e2 : sumG l 2 = T2 (X l.length i) (X l.length k) (wrA l i k) (wrB l i k) := by
    rw [h2, ← T2_eq]
    show fa (fm (fa _ _) (sumG l 1)) (fm (fm _ _) (sumG l 0)) = fa (fm _ (T1 _ _ (wrA l i k) (fa (sumG l 0) (wrA l i k)))) (fm _ (T0 (wrA l i k) (fa (sumG l 0) (wrA l i k))))
    rw [t0, t1]
  have e3 : sumG l 3 = T3 (X l.length i) (X l.length k) (wrA l i k) (wrB l i k) := by
    rw [h3, ← T3_eq]
    show fa (fm (fa _ _) (s2 (X l.length i) (X l.length k) (sumG l 0) (sumG l 1) 2)) (fm (fm _ _) (sumG l 1)) = fa (fm _ (T2 _ _ (wrA l i k) (wrB l i k))) (fm _ (T1 _ _ (wrA l i k) (fa (sumG l 0) (wrA l i k))))
    rw [t1, ← e2, h2]
  rw [sumL_4, e2, e3]
  show [sumG l 0, sumG l 1, _, _] = [T0 (wrA l i k) (fa (sumG l 0) (wrA l i k)), T1 _ _ (wrA l i k) (fa (sumG l 0) (wrA l i k)), _, _]
  rw [t0, t1]
theorem At2.swap {l m : List F} {i k : Nat} (h : At2 l m i k) : At2 l m k i := ⟨h.1, h.2.2.1, h.2.1, Ne.symm h.2.2.2.1, fun q hq a b => h.2.2.2.2 q hq b a⟩
theorem Nr.down {l m : List F} (h : Nr l m) : ∃ i k, k < i ∧ At2 l m i k := by
  obtain ⟨_, i, k, a⟩ := h
  by_cases e : k < i
  · exact ⟨i, k, e, a⟩
  · exact ⟨k, i, by have := a.2.2.2.1; omega, a.swap⟩
/-- What a row is mended to has right sums only if it is near. -/
theorem MR.near {l m : List F} (hn : l.length ≤ 255) (h2 : 2 ≤ l.length) (h : MR l m) (hz : sumL m = [0, 0, 0, 0]) : Nr l m := by
  rcases h with ⟨i, k, hk, hi, ht, rfl⟩ | ⟨_, rfl⟩
  · exact put2_nr l i k _ _ hi (by omega) (by omega) (two_tl l hn i k hi (by omega) (by omega) ht)
  · exact ⟨hz, 1, 0, rfl, by omega, by omega, by decide, fun _ _ _ _ => rfl⟩
theorem MR.only {l m m0 : List F} (hn : l.length ≤ 255) (h : MR l m) (h0 : Nr l m0) : m = m0 := by
  rcases h with ⟨i, k, hk, hi, ht, rfl⟩ | ⟨hno, rfl⟩
  · exact Nr.only hn (put2_nr l i k _ _ hi (by omega) (by omega) (two_tl l hn i k hi (by omega) (by omega) ht)) h0
  · obtain ⟨i, k, hk, a⟩ := h0.down
    exact absurd (two_of _ i k _ _ (at2_of a h0.1)) (hno i k hk a.2.1)
/-- The program's row is a share's if there is one near. -/
theorem mend_yes {l m : List F} (hn : l.length ≤ 255) (h2 : 2 ≤ l.length) (h : MR l m) (hs : sumL m = [0, 0, 0, 0]) : Nr l m ∧ ∀ m0, Nr l m0 → m0 = m := ⟨h.near hn h2 hs, fun _ q => (h.only hn q).symm⟩
theorem dif_self (l : List F) : ∀ i, dif l l i = 0
  | 0 => rfl
  | i + 1 => by unfold dif; rw [if_pos rfl, dif_self l i]
theorem dif_comm (l m : List F) : ∀ i, dif l m i = dif m l i
  | 0 => rfl
  | i + 1 => by
    unfold dif
    rw [dif_comm l m i]
    by_cases e : l.getD i 0 = m.getD i 0
    · rw [if_pos e, if_pos e.symm]
    · rw [if_neg e, if_neg (Ne.symm e)]
theorem dif_none (l m : List F) : ∀ i, (∀ q, q < i → l.getD q 0 = m.getD q 0) → dif l m i = 0
  | 0, _ => rfl
  | i + 1, h => by unfold dif; rw [if_pos (h i (by omega)), dif_none l m i (fun q hq => h q (by omega))]
theorem dif_one (l m : List F) (p : Nat) (hp : l.getD p 0 ≠ m.getD p 0) : ∀ i, (∀ q, q < i → q ≠ p → l.getD q 0 = m.getD q 0) → p < i → dif l m i = 1
  | 0, _, h => by omega
  | i + 1, h, hi => by
    unfold dif
    by_cases e : p = i
    · subst e
      rw [if_neg hp, dif_none l m p (fun q hq => h q (by omega) (by omega))]
    · rw [if_pos (h i (by omega) (Ne.symm e)), dif_one l m p hp i (fun q hq => h q (by omega)) (by omega)]
theorem dif_two (l m : List F) (p r : Nat) (hpr : p < r) (hp : l.getD p 0 ≠ m.getD p 0) (hr : l.getD r 0 ≠ m.getD r 0) : ∀ i, (∀ q, q < i → q ≠ p → q ≠ r → l.getD q 0 = m.getD q 0) → r < i → dif l m i = 2
  | 0, _, h => by omega
  | i + 1, h, hi => by
    unfold dif
    by_cases e : r = i
    · subst e
      rw [if_neg hr, dif_one l m p hp r (fun q hq h1 => h q (by omega) h1 (by omega)) hpr]
    · rw [if_pos (h i (by omega) (by omega) (Ne.symm e)), dif_two l m p r hpr hp hr i (fun q hq => h q (by omega)) (by omega)]
/-- The reference's tests. -/
def one1 (l : List F) (i : Nat) : Prop := sumG l 1 = fm (sumG l 0) (X l.length i) ∧ sumG l 2 = fm (sumG l 0) (fm (X l.length i) (X l.length i)) ∧ sumG l 3 = fm (sumG l 0) (fm (X l.length i) (fm (X l.length i) (X l.length i)))
def rW (l : List F) (i k : Nat) : F := fm (fa (sumG l 1) (fm (sumG l 0) (X l.length i))) (invF (fa (X l.length i) (X l.length k)))
def rV (l : List F) (i k : Nat) : F := fa (sumG l 0) (rW l i k)
def two1 (l : List F) (i k : Nat) : Prop := sumG l 2 = T2 (X l.length i) (X l.length k) (rV l i k) (rW l i k) ∧ sumG l 3 = T3 (X l.length i) (X l.length k) (rV l i k) (rW l i k) ∧ rV l i k ≠ 0 ∧ rW l i k ≠ 0
theorem one1_tl (l : List F) (i k : Nat) (h : one1 l i) : sumL l = TL (X l.length i) (X l.length k) (sumG l 0) 0 := by
  obtain ⟨h1, h2, h3⟩ := h
  rw [sumL_4, h1, h2, h3]
  unfold TL T0 T1 T2 T3
  simp only [zero_fm, fa_zero]
theorem one1_of (l : List F) (i k : Nat) (a : F) (h : sumL l = TL (X l.length i) (X l.length k) a 0) : one1 l i ∧ sumG l 0 = a := by
  obtain ⟨h0, h1, h2, h3⟩ := four_at ((sumL_4 l).symm.trans h)
  unfold T0 T1 T2 T3 at *
  simp only [zero_fm, fa_zero] at h0 h1 h2 h3
  refine ⟨⟨?_, ?_, ?_⟩, h0⟩
  · rw [h0, h1]
  · rw [h0, h2]
  · rw [h0, h3]
theorem two1_tl (l : List F) (hn : l.length ≤ 255) (i k : Nat) (hi : i < l.length) (hk : k < l.length) (hne : i ≠ k) (h : two1 l i k) : sumL l = TL (X l.length i) (X l.length k) (rV l i k) (rW l i k) := by
  obtain ⟨t0, t1⟩ := T_back (X l.length k) (X l.length i) (sumG l 0) (sumG l 1) _ (rW l i k) (invF_mul _ (X_ne _ k i hn hk hi (Ne.symm hne))) (by unfold rW; rw [fa_comm (sumG l 1), fa_comm (X l.length i)])
  obtain ⟨h2, h3, _, _⟩ := h
  rw [sumL_4, h2, h3]
  have e0 : sumG l 0 = T0 (rV l i k) (rW l i k) := by rw [show T0 (rV l i k) (rW l i k) = T0 (rW l i k) (rV l i k) from fa_comm _ _]; exact t0.symm
  have e1 : sumG l 1 = T1 (X l.length i) (X l.length k) (rV l i k) (rW l i k) := by rw [show T1 (X l.length i) (X l.length k) (rV l i k) (rW l i k) = T1 (X l.length k) (X l.length i) (rW l i k) (rV l i k) from fa_comm _ _]; exact t1.symm
  show [sumG l 0, sumG l 1, _, _] = [_, _, _, _]
  rw [← e0, ← e1]
theorem two1_of (l : List F) (hn : l.length ≤ 255) (i k : Nat) (hi : i < l.length) (hk : k < l.length) (hne : i ≠ k) (a b : F) (ha : a ≠ 0) (hb : b ≠ 0) (h : sumL l = TL (X l.length i) (X l.length k) a b) : two1 l i k ∧ rV l i k = a ∧ rW l i k = b := by
  obtain ⟨h0, h1, h2, h3⟩ := four_at ((sumL_4 l).symm.trans h)
  have eW : rW l i k = b := by
    have q := T_only (X l.length k) (X l.length i) b a _ (invF_mul _ (X_ne _ k i hn hk hi (Ne.symm hne)))
    rw [show T0 b a = T0 a b from fa_comm _ _, show T1 (X l.length k) (X l.length i) b a = T1 (X l.length i) (X l.length k) a b from fa_comm _ _, ← h0, ← h1] at q
    unfold rW
    rw [fa_comm (sumG l 1), fa_comm (X l.length i)]
    exact q
  have eV : rV l i k = a := by
    unfold rV
    rw [eW, h0]
    unfold T0
    rw [fa_comm a b, fa_comm (fa b a), fa_canc]
  unfold two1
  rw [eV, eW]
  exact ⟨⟨h2, h3, ha, hb⟩, rfl, rfl⟩
/-- If no test is passed, no row is near. -/
theorem none_near (l : List F) (hn : l.length ≤ 255) (h0 : sumL l ≠ [0, 0, 0, 0]) (h1 : ∀ i, i < l.length → ¬ one1 l i) (h2 : ∀ i k, i < k → k < l.length → ¬ two1 l i k) (m : List F) : ¬ Nr l m := fun h => by
  obtain ⟨i, k, hk, a⟩ := h.down
  have t := at2_of a h.1
  have ts := at2_of a.swap h.1
  by_cases ea : fa (l.getD i 0) (m.getD i 0) = 0
  · rw [ea] at ts
    exact h1 k a.2.2.1 (one1_of l k i _ ts).1
  · by_cases eb : fa (l.getD k 0) (m.getD k 0) = 0
    · rw [eb] at t
      exact h1 i a.2.1 (one1_of l i k _ t).1
    · exact h2 k i hk a.2.1 (two1_of l hn k i a.2.2.1 a.2.1 (by omega) _ _ eb ea ts).1
theorem one_near (l : List F) (hn : l.length ≤ 255) (hn2 : 2 ≤ l.length) (h0 : sumL l ≠ [0, 0, 0, 0]) (i : Nat) (hi : i < l.length) (h : one1 l i) : Nr l (l.set i (fa (l.getD i 0) (sumG l 0))) ∧ dif (l.set i (fa (l.getD i 0) (sumG l 0))) l l.length = 1 ∧ sumG l 0 ≠ 0 := by
  obtain ⟨k, hk, hne⟩ : ∃ k, k < l.length ∧ i ≠ k := by
    by_cases e : i = 0
    · exact ⟨1, by omega, by omega⟩
    · exact ⟨0, by omega, e⟩
  have h00 : sumG l 0 ≠ 0 := fun e => by
    obtain ⟨h1, h2, h3⟩ := h
    rw [e, zero_fm] at h1 h2 h3
    exact h0 (by rw [sumL_4, e, h1, h2, h3])
  have e : put2 l i k (sumG l 0) 0 = l.set i (fa (l.getD i 0) (sumG l 0)) := by
    refine list_same (by simp [put2]) fun q hq => ?_
    unfold put2
    rw [fa_zero, set_getD _ k q _ (by rw [List.length_set]; exact hk), set_getD _ i q _ hi]
    by_cases e : q = k
    · rw [if_pos e, if_neg (by omega), e]
    · rw [if_neg e]
  refine ⟨by rw [← e]; exact put2_nr l i k _ _ hi hk hne (one1_tl l i k h), ?_, h00⟩
  refine dif_one _ _ i ?_ _ (fun q _ hq => by rw [set_getD _ _ _ _ hi, if_neg hq]) hi
  rw [set_getD _ _ _ _ hi, if_pos rfl]
  intro c
  apply h00
  rw [← fa_canc (l.getD i 0) (sumG l 0), c, fa_self]
theorem two_near (l : List F) (hn : l.length ≤ 255) (i k : Nat) (hi : i < k) (hk : k < l.length) (h : two1 l i k) : Nr l (put2 l i k (rV l i k) (rW l i k)) ∧ dif (put2 l i k (rV l i k) (rW l i k)) l l.length = 2 := by
  obtain ⟨a, e1, e2⟩ := put2_at2 l i k (rV l i k) (rW l i k) (by omega) hk (by omega)
  refine ⟨put2_nr l i k _ _ (by omega) hk (by omega) (two1_tl l hn i k (by omega) hk (by omega) h), ?_⟩
  refine dif_two _ _ i k hi (fun c => h.2.2.1 ?_) (fun c => h.2.2.2 ?_) _ (fun q hq h1 h2 => a.2.2.2.2 q hq h1 h2) hk
  · rw [← e1, c, fa_self]
  · rw [← e2, c, fa_self]
end Go.Proofs.YtbpkocohddlbhaaDoor
namespace Go.Proofs.YtbpkocohddlbhaaDoor
set_option linter.unusedVariables false
set_option linter.unusedSimpArgs false
/-- What a matrix, its last column what comes out, turns to nothing. -/
def Nz (A : Nat → Nat → F) (R n : Nat) (z : Nat → F) : Prop := ∀ i, i < R → sm (n + 1) (fun k => fm (A i k) (z k)) = 0
def rowU (A : Nat → Nat → F) (i : Nat) (g : Nat → F) : Nat → Nat → F := fun i' k => if i' = i then g k else A i' k
theorem rowU_at (A : Nat → Nat → F) (i : Nat) (g : Nat → F) (k : Nat) : rowU A i g i k = g k := if_pos rfl
theorem rowU_ne (A : Nat → Nat → F) (i i' : Nat) (g : Nat → F) (k : Nat) (h : i' ≠ i) : rowU A i g i' k = A i' k := if_neg h
def swapR (A : Nat → Nat → F) (c a : Nat) : Nat → Nat → F := fun i k => A (if i = c then a else if i = a then c else i) k
def scaleR (A : Nat → Nat → F) (c : Nat) (b : F) : Nat → Nat → F := rowU A c (fun k => fm (A c k) b)
def elimR (A : Nat → Nat → F) (i c : Nat) : Nat → Nat → F := rowU A i (fun k => fa (A i k) (fm (A i c) (A c k)))
def Good (A0 A : Nat → Nat → F) (R n c : Nat) : Prop := (∀ z, Nz A R n z ↔ Nz A0 R n z) ∧ ∀ q i, q < c → i < R → A i q = if i = q then 1 else 0
theorem good_first (A : Nat → Nat → F) (R n : Nat) : Good A A R n 0 := ⟨fun _ => Iff.rfl, fun q i h => absurd h (by omega)⟩
theorem nz_swap (A : Nat → Nat → F) (R n c a : Nat) (hc : c < R) (ha : a < R) (z : Nat → F) : Nz (swapR A c a) R n z ↔ Nz A R n z := by
  have key : ∀ A : Nat → Nat → F, Nz A R n z → Nz (swapR A c a) R n z := fun A h i hi => by
    show sm (n + 1) (fun k => fm (A (if i = c then a else if i = a then c else i) k) (z k)) = 0
    by_cases e : i = c
    · rw [if_pos e]; exact h a ha
    · rw [if_neg e]
      by_cases e2 : i = a
      · rw [if_pos e2]; exact h c hc
      · rw [if_neg e2]; exact h i hi
  refine ⟨fun h => ?_, key A⟩
  have q := key _ h
  have e : swapR (swapR A c a) c a = A := by
    funext i k
    unfold swapR
    by_cases e : i = c
    · subst e
      by_cases e2 : a = i
      · subst e2; simp
      · simp [e2]
    · by_cases e2 : i = a
      · subst e2; simp [e]
      · simp [e, e2]
  rwa [e] at q
theorem good_swap {A0 A : Nat → Nat → F} {R n c a : Nat} (h : Good A0 A R n c) (hc : c < R) (ha : a < R) (hca : c ≤ a) : Good A0 (swapR A c a) R n c := by
  refine ⟨fun z => (nz_swap A R n c a hc ha z).trans (h.1 z), fun q i hq hi => ?_⟩
  unfold swapR
  by_cases e : i = c
  · rw [if_pos e, h.2 q a hq ha, if_neg (by omega), if_neg (by omega)]
  · rw [if_neg e]
    by_cases e2 : i = a
    · rw [if_pos e2, h.2 q c hq hc, if_neg (by omega), if_neg (by omega)]
    · rw [if_neg e2]; exact h.2 q i hq hi
theorem sm_scale (g z : Nat → F) (b : F) (m : Nat) : sm m (fun k => fm (fm (g k) b) (z k)) = fm b (sm m (fun k => fm (g k) (z k))) := by
  rw [← sm_fm]
  exact sm_congr _ _ _ fun k _ => by rw [fm_comm (g k) b, fm_assoc]
theorem good_scale {A0 A : Nat → Nat → F} {R n c : Nat} {b : F} (h : Good A0 A R n c) (hc : c < R) (hb : b ≠ 0) : Good A0 (scaleR A c b) R n c := by
  refine ⟨fun z => ?_, fun q i hq hi => ?_⟩
  · rw [← h.1 z]
    constructor
    · intro g i hi
      have q := g i hi
      by_cases e : i = c
      · subst e
        simp only [scaleR, rowU_at] at q
        rw [sm_scale, fm_comm] at q
        exact fm_eq_zero q hb
      · simp only [scaleR, rowU_ne _ _ _ _ _ e] at q
        exact q
    · intro g i hi
      have q := g i hi
      by_cases e : i = c
      · subst e
        simp only [scaleR, rowU_at]
        rw [sm_scale, q, fm_zero]
      · simp only [scaleR, rowU_ne _ _ _ _ _ e]
        exact q
  · by_cases e : i = c
    · subst e
      simp only [scaleR, rowU_at]
      rw [h.2 q i hq hi, if_neg (by omega), zero_fm]
    · simp only [scaleR, rowU_ne _ _ _ _ _ e]
      exact h.2 q i hq hi
theorem sm_elim (g h z : Nat → F) (b : F) (m : Nat) : sm m (fun k => fm (fa (g k) (fm b (h k))) (z k)) = fa (sm m (fun k => fm (g k) (z k))) (fm b (sm m (fun k => fm (h k) (z k)))) := by
  rw [← sm_fm, ← sm_fa]
  exact sm_congr _ _ _ fun k _ => by rw [fa_fm, fm_assoc]
theorem good_elim {A0 A : Nat → Nat → F} {R n c i : Nat} (h : Good A0 A R n c) (hc : c < R) (hi : i < R) (hne : i ≠ c) : Good A0 (elimR A i c) R n c := by
  refine ⟨fun z => ?_, fun q j hq hj => ?_⟩
  · rw [← h.1 z]
    constructor
    · intro g
      have qc : sm (n + 1) (fun k => fm (A c k) (z k)) = 0 := by
        have q := g c hc
        simp only [elimR, rowU_ne _ _ _ _ _ (Ne.symm hne)] at q
        exact q
      intro j hj
      have q := g j hj
      by_cases e : j = i
      · subst e
        simp only [elimR, rowU_at] at q
        rw [sm_elim, qc, fm_zero, fa_zero] at q
        exact q
      · simp only [elimR, rowU_ne _ _ _ _ _ e] at q
        exact q
    · intro g j hj
      by_cases e : j = i
      · subst e
        simp only [elimR, rowU_at]
        rw [sm_elim, g c hc, fm_zero, fa_zero]
        exact g j hj
      · simp only [elimR, rowU_ne _ _ _ _ _ e]
        exact g j hj
  · by_cases e : j = i
    · subst e
      simp only [elimR, rowU_at]
      rw [h.2 q c hq hc, if_neg (show ¬ c = q by omega), fm_zero, fa_zero]
      exact h.2 q j hq hj
    · simp only [elimR, rowU_ne _ _ _ _ _ e]
      exact h.2 q j hq hj
theorem good_next {A0 A : Nat → Nat → F} {R n c : Nat} (h : Good A0 A R n c) (hu : ∀ i, i < R → A i c = if i = c then 1 else 0) : Good A0 A R n (c + 1) :=
  ⟨h.1, fun q i hq hi => by
    by_cases e : q = c
    · rw [e]; exact hu i hi
    · exact h.2 q i (by omega) hi⟩
/-- No row that is left has anything in a column: then the columns hang together. -/
theorem good_stop {A0 A : Nat → Nat → F} {R n c : Nat} (h : Good A0 A R n c) (hcn : c < n) (hcR : c < R) (hz : ∀ i, c ≤ i → i < R → A i c = 0) : ∃ z, Nz A0 R n z ∧ z c = 1 ∧ z n = 0 := by
  refine ⟨fun q => if q = c then 1 else if q < c then A q c else 0, (h.1 _).1 fun i hi => ?_, if_pos rfl, by show (if n = c then _ else if n < c then _ else _) = (0 : F); rw [if_neg (by omega), if_neg (by omega)]⟩
  by_cases hic : i < c
  · rw [sm_two _ i c (n + 1) (by omega) (by omega) (by omega) fun q hq h1 h2 => ?_]
    · show fa (fm (A i i) (if i = c then 1 else if i < c then A i c else 0)) (fm (A i c) (if c = c then 1 else _)) = 0
      rw [if_neg (by omega), if_pos hic, if_pos rfl, h.2 i i hic hi, if_pos rfl, fm_1, fm_one, fa_self]
    · show fm (A i q) (if q = c then 1 else if q < c then A q c else 0) = 0
      rw [if_neg h2]
      by_cases hq2 : q < c
      · rw [h.2 q i hq2 hi, if_neg (Ne.symm h1), zero_fm]
      · rw [if_neg hq2, fm_zero]
  · refine sm_none _ _ fun q hq => ?_
    show fm (A i q) (if q = c then 1 else if q < c then A q c else 0) = 0
    by_cases h2 : q = c
    · rw [h2, hz i (by omega) hi, zero_fm]
    · rw [if_neg h2]
      by_cases hq2 : q < c
      · rw [h.2 q i hq2 hi, if_neg (by omega), zero_fm]
      · rw [if_neg hq2, fm_zero]
/-- All columns are done. -/
theorem good_sol {A0 A : Nat → Nat → F} {R n : Nat} (h : Good A0 A R n n) (hn : n ≤ R) (z : Nat → F) (hz : z n = 1) : Nz A0 R n z ↔ (∀ i, n ≤ i → i < R → A i n = 0) ∧ ∀ q, q < n → z q = A q n := by
  rw [← h.1 z]
  have row : ∀ i, i < R → sm (n + 1) (fun k => fm (A i k) (z k)) = if i < n then fa (z i) (A i n) else A i n := fun i hi => by
    by_cases hin : i < n
    · rw [if_pos hin, sm_two _ i n (n + 1) (by omega) (by omega) (by omega) fun q hq h1 h2 => ?_]
      · show fa (fm (A i i) (z i)) (fm (A i n) (z n)) = _
        rw [h.2 i i hin hi, if_pos rfl, fm_1, hz, fm_one]
      · show fm (A i q) (z q) = 0
        rw [h.2 q i (by omega) hi, if_neg (Ne.symm h1), zero_fm]
    · rw [if_neg hin, sm_one _ n (n + 1) (by omega) fun q hq h1 => ?_]
      · show fm (A i n) (z n) = _
        rw [hz, fm_one]
      · show fm (A i q) (z q) = 0
        rw [h.2 q i (by omega) hi, if_neg (by omega), zero_fm]
  constructor
  · intro g
    refine ⟨fun i h1 h2 => ?_, fun q hq => ?_⟩
    · have := g i h2
      rw [row i h2, if_neg (by omega)] at this
      exact this
    · have := g q (by omega)
      rw [row q (by omega), if_pos hq] at this
      exact fa_eq_zero this
  · intro g i hi
    rw [row i hi]
    by_cases hin : i < n
    · rw [if_pos hin, g.2 i hin, fa_self]
    · rw [if_neg hin]; exact g.1 i (by omega) hi
/-- The columns but the last do not hang together. -/
def Ind (A : Nat → Nat → F) (R n : Nat) : Prop := ∀ z, Nz A R n z → z n = 0 → ∀ k, k < n → z k = 0
theorem one_ne : (1 : F) ≠ 0 := by decide
theorem good_pivot {A0 A : Nat → Nat → F} {R n c : Nat} (hI : Ind A0 R n) (h : Good A0 A R n c) (hcn : c < n) (hcR : c < R) : ¬ ∀ i, c ≤ i → i < R → A i c = 0 := fun hz => by
  obtain ⟨z, h1, h2, h3⟩ := good_stop h hcn hcR hz
  have := hI z h1 h3 c hcn
  rw [h2] at this
  exact one_ne this
/-- Numbers, and a 1 behind them. -/
def zOf (xs : List F) : Nat → F := fun k => (xs ++ [1]).getD k 0
theorem zOf_n (xs : List F) (n : Nat) (h : xs.length = n) : zOf xs n = 1 := by
  unfold zOf
  rw [List.getD_eq_getElem?_getD, List.getElem?_append_right (by omega), h, Nat.sub_self]
  rfl
theorem zOf_lt (xs : List F) (k : Nat) (h : k < xs.length) : zOf xs k = xs.getD k 0 := by
  unfold zOf
  rw [List.getD_eq_getElem?_getD, List.getElem?_append_left h, ← List.getD_eq_getElem?_getD]
/-- A row of a matrix. -/
def rowL (A : Nat → Nat → F) (n i : Nat) : List F := (List.range (n + 1)).map (A i)
theorem rowL_len (A : Nat → Nat → F) (n i : Nat) : (rowL A n i).length = n + 1 := by simp [rowL]
theorem rowL_at (A : Nat → Nat → F) (n i k : Nat) (h : k ≤ n) : (rowL A n i).getD k 0 = A i k := by
  unfold rowL
  simp [List.getD_eq_getElem?_getD, List.getElem?_map, List.getElem?_range (show k < n + 1 by omega)]
theorem rowL_set (A : Nat → Nat → F) (n i k : Nat) (a : F) (h : k ≤ n) : (rowL A n i).set k a = rowL (rowU A i (fun k' => if k' = k then a else A i k')) n i := by
  refine list_same (by simp [rowL_len]) fun q hq => ?_
  rw [rowL_len] at hq
  rw [set_getD _ k q a (by rw [rowL_len]; omega), rowL_at _ _ _ _ (by omega), rowL_at _ _ _ _ (by omega), rowU_at]
theorem rowL_congr (A A' : Nat → Nat → F) (n i : Nat) (h : ∀ k, k ≤ n → A i k = A' i k) : rowL A n i = rowL A' n i := List.map_congr_left fun k hk => h k (by have := List.mem_range.1 hk; omega)
end Go.Proofs.YtbpkocohddlbhaaDoor
namespace Go.Proofs.YtbpkocohddlbhaaDoor
open Go.RowKit
set_option linter.unusedVariables false
set_option linter.unusedSimpArgs false
set_option maxRecDepth 100000
theorem bs0 (u : World) : (Instr.buildSlice 23 0 #[]).run Tryd.prog u = .ok (.slice (some ⟨u.heap.size, 0, none⟩) 0 0) (u.alloc (.cells #[] 5)) := by
  obtain ⟨i0, hi, hz0, hz1, hz2⟩ := info_parts Tryd.infoB
  simp [Instr.buildSlice, run_underlying Tryd.underlying23', Go.sizeOf, typeInfo, hi, hz1, newRow, Instr.fill]
  rw [show (Array.range 0) = #[] from by first | rfl | simp | exact Array.size_eq_zero_iff.1 (by simp)]
  first | rfl | simp
theorem own_none {w : World} {k : Nat} (h : w.heap[k]? = some (.cells #[] 5 (0, 0))) : w.ownsRow k 5 1 (.slice (some ⟨k, 0, none⟩) 0 0) 0 [] :=
  ⟨rfl, .inr ⟨k, 0, #[], rfl, Nat.le_refl _, h, Nat.le_refl _, by decide, rfl, rfl⟩⟩
theorem new_none (u : World) : (u.alloc (.cells #[] 5)).heap[u.heap.size]? = some (.cells #[] 5 (0, 0)) := heap_alloc_new u _
/-- append([]byte{}, l...) -/
theorem run_clone (ty : TypeId) (k : Nat) (w : World) (hk : w.heap[k]? = some (.cells #[] 5 (0, 0))) (b off n c : Nat) (l : List F) (hl : l.length = n) (h1 : 1 ≤ n) (hn : n ≤ 4000) (hr : Rw w b off l) :
    ∃ g cap w', (Builtin.append_ #[23, 23] ty #[.slice (some ⟨k, 0, none⟩) 0 0, .slice (some ⟨b, off, none⟩) n c]).run Tryd.prog w = .ok (.slice (some ⟨g, 0, none⟩) n cap) w' ∧ n ≤ cap ∧ k ≤ g ∧ Rx w' g l ∧ Below k w w' := by
  obtain ⟨i0, hi, hz0, hz1, hz2⟩ := info_parts Tryd.infoB
  have hlt : k < w.heap.size := (Array.getElem?_eq_some_iff.1 hk).1
  obtain ⟨g, cap, w', e, h2, h3, h4, h5⟩ := run_append_lies (P := Tryd.prog) w 23 ty k 5 i0 (.int .u8 0) 1 1 Tryd.underlying23' hi hz0 hz1 hz2 rfl (by decide) _ 0 [] (own_none hk) ⟨b, off, none⟩ n c (fc l) (by rw [fc_len, hl, Nat.mul_one]) (fun j u hu => by
    have hj : j < l.length := by have := (List.getElem?_eq_some_iff.1 hu).1; rw [fc_len] at this; exact this
    rw [fc_at l j hj] at hu
    injection hu with hu
    rw [← hu, show (⟨b, off, none⟩ : Addr).add j = ⟨b, off + j, none⟩ by unfold Addr.add; split <;> simp_all]
    exact hr j hj) (fc_one l) h1 (Nat.le_trans (Nat.add_le_add_left hn 0) (by decide)) (by omega) (Nat.le_of_lt hlt) _ rfl
  rw [Nat.zero_add, List.nil_append] at h2
  rw [Nat.zero_add] at e
  have hb : Below k w w' := below_gb h3 (Nat.le_of_lt hlt) (Nat.le_refl _)
  have hc : n ≤ cap := by
    rcases h2.2 with ⟨q, _⟩ | ⟨g', cap', cur, q, _, _, h3, _⟩
    · cases q
    · injection q with _ _ q2; rw [q2]; exact h3
  obtain ⟨g', c', q, HQ⟩ := own_rx (by rw [hl]; exact h2) (by rw [hl]; exact h1)
  obtain ⟨q1, q2⟩ := HQ.out
  injection q with qa _ _
  injection qa with qa
  injection qa with qa
  rw [← qa] at q1 q2
  exact ⟨g, cap, w', e, hc, q2, q1, hb⟩
/-- In a plain region. -/
theorem wpList_clone {ops : Array Oper} {rest : List Oper} {o : Oper} {a : Act} {Q : Exit → Act → World → Prop} {w : World} (hgd : o.guard = none) (s x : Operand)
    (ho : o.op = .call { callee := .builtin .append, args := #[s, x], argTypes := #[23, 23] }) (k : Nat) (hs : a.eval s = .slice (some ⟨k, 0, none⟩) 0 0) (hk : w.heap[k]? = some (.cells #[] 5 (0, 0)))
    (b off n c : Nat) (l : List F) (hx : a.eval x = .slice (some ⟨b, off, none⟩) n c) (hl : l.length = n) (h1 : 1 ≤ n) (hn : n ≤ 4000) (hr : Rw w b off l)
    (h : ∀ g cap w', n ≤ cap → k ≤ g → Rx w' g l → Below k w w' → wpList Tryd.prog ops Q rest (a.put o.dst (.slice (some ⟨g, 0, none⟩) n cap)) w') : wpList Tryd.prog ops Q (o :: rest) a w :=
  wpList_plain hgd fun _ hK => by
    obtain ⟨g, cap, w', e, h2, h3, h4, h5⟩ := run_clone o.type k w hk b off n c l hl h1 hn hr
    unfold Oper.wp execOp
    simp only [ho, resolve, invoke, builtin, Sem.run_bind, Sem.run_pure, Result.andThen_ok, List.map_toArray, List.map_cons, List.map_nil, hs, hx, e]
    exact hK _ _ (h g cap w' h2 h3 h4 h5)
/-- At a step of a region that draws its order. -/
theorem step_clone {ops : Array Oper} {o : Oper} {a : Act} {K : Act → World → Prop} {Q : Exit → Act → World → Prop} {E : Prop} {w : World} (hgd : o.guard = none) (s x : Operand)
    (ho : o.op = .call { callee := .builtin .append, args := #[s, x], argTypes := #[23, 23] }) (k : Nat) (hs : a.eval s = .slice (some ⟨k, 0, none⟩) 0 0) (hk : w.heap[k]? = some (.cells #[] 5 (0, 0)))
    (b off n c : Nat) (l : List F) (hx : a.eval x = .slice (some ⟨b, off, none⟩) n c) (hl : l.length = n) (h1 : 1 ≤ n) (hn : n ≤ 4000) (hr : Rw w b off l)
    (h : ∀ g cap w', n ≤ cap → k ≤ g → Rx w' g l → Below k w w' → K (a.put o.dst (.slice (some ⟨g, 0, none⟩) n cap)) w') :
    if Region.wanted o (yielded ops a.tmps) = true then Oper.wp Tryd.prog o a w K Q else E := by
  have hw : Region.wanted o (yielded ops a.tmps) = true := by simp [Region.wanted, hgd]
  rw [if_pos hw]
  obtain ⟨g, cap, w', e, h2, h3, h4, h5⟩ := run_clone o.type k w hk b off n c l hl h1 hn hr
  unfold Oper.wp execOp
  simp only [ho, resolve, invoke, builtin, Sem.run_bind, Sem.run_pure, Result.andThen_ok, List.map_toArray, List.map_cons, List.map_nil, hs, hx, e]
  exact h g cap w' h2 h3 h4 h5
end Go.Proofs.YtbpkocohddlbhaaDoor
namespace Go.Proofs.YtbpkocohddlbhaaDoor
open Go.Shelf
def Tryd.lays169_ren : Go.Shelf.Ren := ⟨fun | 169 => 55 | n => n, fun | 70 => 79 | 9 => 9 | 0 => 0 | 72 => 81 | 37 => 23 | 127 => 98 | 3 => 3 | 5 => 5 | n => n, fun | n => n⟩
theorem Tryd.lays169 : Go.Proofs.Lays.n169 Tryd.prog Tryd.lays169_ren := {
  mixed := by kernel_rfl
  f169 := Tryd.func55.trans (congrArg some (by kernel_rfl))
  t0 := Tryd.underlying0
  a0 := Tryd.isAgg0
  z0 := Tryd.sizeOf0
  v0 := Tryd.zeroValue0
  t3 := Tryd.underlying3
  a3 := Tryd.isAgg3
  z3 := Tryd.sizeOf3
  v3 := Tryd.zeroValue3
  t9 := Tryd.underlying9
  a9 := Tryd.isAgg9
  z9 := Tryd.sizeOf9
  v9 := Tryd.zeroValue9
  t37 := Tryd.underlying23
  a37 := Tryd.isAgg23
  z37 := Tryd.sizeOf23
  v37 := Tryd.zeroValue23
  t70 := Tryd.underlying79
  a70 := Tryd.isAgg79
  z70 := Tryd.sizeOf79
  v70 := Tryd.zeroValue79
  t72 := Tryd.underlying81
  a72 := Tryd.isAgg81
  z72 := Tryd.sizeOf81
  v72 := Tryd.zeroValue81
  t127 := Tryd.underlying98
  a127 := Tryd.isAgg98
  z127 := Tryd.sizeOf98
  v127 := Tryd.zeroValue98 }
theorem Tryd.Builder_Extra_169 : Builder.Extra Tryd.prog Tryd.lays169_ren := {
  sizeBuilder := by kernel_rfl
  liesBuilder := by kernel_rfl
  t5 := Tryd.underlying5
  a5 := Tryd.isAgg5
  z5 := Tryd.sizeOf5
  v5 := Tryd.zeroValue5
  infoByte := by kernel_rfl
  cellsByte := by kernel_rfl
  sizeByte := by kernel_rfl
  neB5 := by decide }
open Go.RowKit in
theorem Tryd.Builder_String (B b : Nat) (l : List UInt8) (w : World) (h : Lib.IsBuilder 81 5 B b (Lib.byteCells l) w) (h0 : l ≠ []) :
    Calls Tryd.prog 55 #[.pointer (some ⟨b, 0, none⟩)] w fun e w' => e = .returned (.string ⟨l.toArray⟩) ∧ Below B w w' := Any.Builder_String Tryd.lays169 Tryd.Builder_Extra_169 B b l w h h0
open Go.RowKit in
theorem Tryd.Builder_String_empty (B b : Nat) (w : World) (h : Lib.IsBuilder 81 5 B b [] w) (hBw : B ≤ w.heap.size) :
    Calls Tryd.prog 55 #[.pointer (some ⟨b, 0, none⟩)] w fun e w' => e = .returned (.string ⟨#[]⟩) ∧ Below B w w' := Any.Builder_String_empty Tryd.lays169 Tryd.Builder_Extra_169 B b w h hBw
open Go.RowKit in
theorem Tryd.Builder_String_any (B b : Nat) (l : List UInt8) (w : World) (h : Lib.IsBuilder 81 5 B b (Lib.byteCells l) w) (hBw : B ≤ w.heap.size) :
    Calls Tryd.prog 55 #[.pointer (some ⟨b, 0, none⟩)] w fun e w' => e = .returned (.string ⟨l.toArray⟩) ∧ Below B w w' := Any.Builder_String_any Tryd.lays169 Tryd.Builder_Extra_169 B b l w h hBw
end Go.Proofs.YtbpkocohddlbhaaDoor
namespace Go.Proofs.YtbpkocohddlbhaaDoor
open Go.RowKit

set_option maxHeartbeats 1000000 in
set_option maxRecDepth 100000 in
theorem check_used (b : Nat) (w : World) (h0 : w.cell? ⟨b, 0, none⟩ = some (.pointer (some ⟨b, 0, none⟩))) :
    Calls Tryd.prog 64 #[.pointer (some ⟨b, 0, none⟩)] w fun e w' => e = .returned (.tuple #[]) ∧ w' = w := by
  obtain ⟨j, hj, _⟩ := Option.map_eq_some_iff.1 Tryd.Builder_Extra_169.sizeBuilder
  change Tryd.prog.info? 81 = some j at hj
  go_enter Tryd.func64, Tryd.ntmps64
  go_wp2
  rw [Lib.run_neq_ptr_same w _ Tryd.underlying79 hj]
  go_wp2
  go_end0
  exact ⟨rfl, rfl⟩

set_option maxHeartbeats 1000000 in
set_option maxRecDepth 100000 in
theorem check_fresh (b : Nat) (w : World) (h0 : w.cell? ⟨b, 0, none⟩ = some (.pointer none)) (hsh : w.shape? b = some (81, 2)) (hfz : w.frozen? ⟨b, 0, none⟩ = false) :
    Calls Tryd.prog 64 #[.pointer (some ⟨b, 0, none⟩)] w fun e w' => e = .returned (.tuple #[]) ∧ w' = w.setCell ⟨b, 0, none⟩ (.pointer (some ⟨b, 0, none⟩)) := by
  obtain ⟨j, hj, hjs⟩ := Option.map_eq_some_iff.1 Tryd.Builder_Extra_169.sizeBuilder
  change Tryd.prog.info? 81 = some j at hj
  go_enter Tryd.func64, Tryd.ntmps64
  go_wp2
  rw [Lib.run_to_unsafe w ⟨b, 0, none⟩ Tryd.underlying79 Tryd.underlying116 hj (by rw [hjs]; decide) hsh (Nat.zero_lt_succ 1)]
  simp only [Result.andThen]
  rw [Oper.upon_value]
  go_wp2
  rw [run_callFunc_extern Tryd.func75 (by kernel_rfl) (by kernel_rfl) (by kernel_rfl) (e := Extern.AbiNoEscape.same) (by kernel_rfl)]
  rw [Lib.run_noEscape]
  simp only [Result.andThen]
  rw [Oper.upon_value]
  go_wp2
  rw [Lib.run_from_unsafe w ⟨b, 0, none⟩ Tryd.underlying116 Tryd.underlying79 hj hsh Tryd.Builder_Extra_169.liesBuilder]
  simp only [Result.andThen]
  rw [Oper.upon_value]
  go_wp2
  go_end0
  exact ⟨rfl, rfl⟩

theorem check_any (B b : Nat) (bs : List Value) (w : World) (h : Lib.IsBuilder 81 5 B b bs w) :
    Calls Tryd.prog 64 #[.pointer (some ⟨b, 0, none⟩)] w fun e w' => e = .returned (.tuple #[]) ∧ (Lib.BuilderAt 81 5 B b (.pointer (some ⟨b, 0, none⟩)) bs w' ∧ Below B w w') := by
  rcases h with h | h
  · refine (check_fresh b w h.cell0 h.shape h.frozen0).mono ?_
    rintro e w' ⟨rfl, rfl⟩
    exact ⟨rfl, h.used _, (Below.refl B w).setCell (p := ⟨b, 0, none⟩) h.1 _⟩
  · refine (check_used b w h.cell0).mono ?_
    rintro e w' ⟨rfl, rfl⟩
    exact ⟨rfl, h, Below.refl B _⟩

theorem Tryd.infoByte : (Tryd.prog.info? 5).map (fun i => (i.zero, i.size, i.bytes)) = some (some (.int .u8 0), 1, 1) := by kernel_rfl

set_option maxHeartbeats 2000000 in
set_option maxRecDepth 100000 in
/-- (*strings.Builder).WriteByte. -/
theorem writeByte_ok (B b : Nat) (bs : List Value) (c : Int) (w : World) (h : Lib.IsBuilder 81 5 B b bs w) (hlen : bs.length + 1 ≤ 140737488355328) (hBw : B ≤ w.heap.size) :
    Calls Tryd.prog 52 #[.pointer (some ⟨b, 0, none⟩), .int .u8 c] w fun e w' => e = .returned .nilIface ∧ (Lib.BuilderAt 81 5 B b (.pointer (some ⟨b, 0, none⟩)) (bs ++ [.int .u8 c]) w' ∧ Below B w w') := by
  obtain ⟨i0, hi, hz0, hz1, hz2⟩ := info_parts Tryd.infoByte
  go_enter Tryd.func52, Tryd.ntmps52
  go_wp2_with (go_at_call 64; refine (check_any B b bs _ h).mono ?_)
  rintro e w1 ⟨rfl, h1, hb1⟩
  obtain ⟨hB, v, hbk, hown, hne⟩ := h1
  have c0 : w1.cell? ⟨b, 0, none⟩ = some (.pointer (some ⟨b, 0, none⟩)) := by rw [Lib.cell_of_heap hbk]; rfl
  have c1 : w1.cell? ⟨b, 1, none⟩ = some v := by rw [Lib.cell_of_heap hbk]; rfl
  go_wp2_with (at_builtin; refine wpList_append_own _ rfl _ _ 23 rfl B 5 i0 (.int .u8 0) 1 1 Tryd.underlying23 hi hz0 hz1 hz2 rfl (by decide) _ _ _ rfl (hown.alloc _) ⟨w1.heap.size, 0, none⟩ 1 1 [.int .u8 c] rfl rfl ?c1 ?c2 ?c3 ?c4 ?c5 ?_)
  case c1 =>
    intro j u hj
    match j, hj with
    | 0, hj => simp at hj; subst hj; simp [Addr.add]
  case c2 => intro u hu; simp at hu; subst hu; rfl
  case c3 => unfold maxLen; omega
  case c4 => omega
  case c5 => have := hb1.size; simp; omega
  intro v' w2 hown' hgrow _
  have hlt : b < w1.heap.size := by
    rcases Nat.lt_or_ge b w1.heap.size with h' | h'
    · exact h'
    · simp [Array.getElem?_eq_none h'] at hbk
  have hb2 : w2.heap[b]? = some (.cells #[.pointer (some ⟨b, 0, none⟩), v] 81 (0, 0)) := by
    rw [hgrow.block b (by simp; omega) (fun e => hne e.symm), Lib.alloc_old w1 _ b hlt]
    exact hbk
  have d0 : w2.cell? ⟨b, 0, none⟩ = some (.pointer (some ⟨b, 0, none⟩)) := by rw [Lib.cell_of_heap hb2]; rfl
  have d1 : w2.cell? ⟨b, 1, none⟩ = some v := by rw [Lib.cell_of_heap hb2]; rfl
  have f1 : w2.frozen? ⟨b, 1, none⟩ = false := Lib.frozen_of_heap hb2 1
  obtain ⟨g, cap, rfl⟩ : ∃ g cap, v' = .slice (some ⟨g, 0, none⟩) (bs.length + 1) cap := by
    rcases hown'.2 with ⟨_, h0⟩ | ⟨g, cap, cur, hv, _⟩
    · omega
    · exact ⟨g, cap, hv⟩
  go_wp2
  go_ret
  refine ⟨rfl, ?_, ?_⟩
  · exact Lib.BuilderAt.put (T := 81) (e := 5) hB hb2 (bs' := bs ++ [.int .u8 c]) (by simpa using hown') (by decide)
  · exact ((hb1.alloc (by have := hb1.size; omega) _).grown hgrow (by have := hb1.size; simp; omega) (fun k hk => (hown.lt k hk).1)).setCell (p := ⟨b, 1, none⟩) hB _
end Go.Proofs.YtbpkocohddlbhaaDoor
namespace Go.Proofs.YtbpkocohddlbhaaDoor
open Go.RowKit

/-- The consonants, the vowels. -/
def conU (i : Nat) : UInt8 := ([98, 100, 102, 103, 104, 106, 107, 108, 109, 110, 112, 114, 115, 116, 118, 122] : List UInt8).getD i 0
def vowU (i : Nat) : UInt8 := ([97, 105, 111, 117] : List UInt8).getD i 0
theorem con_all : ∀ i : Fin 16, (((ByteArray.mk #[98, 100, 102, 103, 104, 106, 107, 108, 109, 110, 112, 114, 115, 116, 118, 122])[i.1]'i.2).toNat : Int) = ((conU i.1).toNat : Int) := by decide +kernel
theorem vow_all : ∀ i : Fin 4, (((ByteArray.mk #[97, 105, 111, 117])[i.1]'i.2).toNat : Int) = ((vowU i.1).toNat : Int) := by decide +kernel
theorem con_at (i : Nat) (h : i < (ByteArray.mk #[98, 100, 102, 103, 104, 106, 107, 108, 109, 110, 112, 114, 115, 116, 118, 122]).size) :
    ((((ByteArray.mk #[98, 100, 102, 103, 104, 106, 107, 108, 109, 110, 112, 114, 115, 116, 118, 122])[i]'h).toNat : Nat) : Int) = ((conU i).toNat : Int) := con_all ⟨i, h⟩
theorem vow_at (i : Nat) (h : i < (ByteArray.mk #[97, 105, 111, 117]).size) :
    ((((ByteArray.mk #[97, 105, 111, 117])[i]'h).toNat : Nat) : Int) = ((vowU i).toNat : Int) := vow_all ⟨i, h⟩
/-- The word of a number. -/
def word (v : Int) : List UInt8 := [conU (v / 4096).toNat, vowU (v / 1024 % 4).toNat, conU (v / 64 % 16).toNat, vowU (v / 16 % 4).toNat, conU (v % 16).toNat]
/-- The words of the first k pairs of bytes. -/
def wl (xs : List Int) : Nat → List UInt8
  | 0 => []
  | k + 1 => wl xs k ++ ((if k = 0 then [] else [32]) ++ word (xs.getD (2 * k) 0 * 256 + xs.getD (2 * k + 1) 0))
theorem wl_length (xs : List Int) (k : Nat) : (wl xs k).length ≤ 6 * k := by
  induction k with
  | zero => simp [wl]
  | succ k ih =>
    simp only [wl, List.length_append, word]
    split <;> simp <;> omega

theorem wraps_u16' (n : Int) (h₀ : 0 ≤ n) (h₁ : n < 2 ^ 16) : IntKind.u16.wrap n = n := by simp [IntKind.wrap, IntKind.bits, IntKind.signed]; omega
theorem or16 (x y : Int) (x0 : 0 ≤ x) (x1 : x < 256) (y0 : 0 ≤ y) (y1 : y < 256) : bits .or .u16 (x * 256) y = x * 256 + y :=
  bits_join .u16 16 (by decide) wraps_u16' 8 (x * 256) y (by omega) (by omega) (by omega) (by omega) (by omega) (by omega)
theorem and16_3 (a : Int) (h0 : 0 ≤ a) (h1 : a < 65536) : bits .and .u16 a 3 = a % 4 := bits_mask .u16 16 (by decide) wraps_u16' 2 (by decide) a h0 h1
theorem and16_15 (a : Int) (h0 : 0 ≤ a) (h1 : a < 65536) : bits .and .u16 a 15 = a % 16 := bits_mask .u16 16 (by decide) wraps_u16' 4 (by decide) a h0 h1

set_option maxHeartbeats 400000 in
theorem number_ok (g o m c : Nat) (x y : Int) (w : World) (hm : 2 ≤ m) (x0 : 0 ≤ x) (x1 : x < 256) (y0 : 0 ≤ y) (y1 : y < 256)
    (h1 : w.cell? ⟨g, o, none⟩ = some (.int .u8 x)) (h2 : w.cell? ⟨g, o + 1, none⟩ = some (.int .u8 y)) :
    Calls Tryd.prog 54 #[.slice (some ⟨g, o, none⟩) m c] w fun e w' => e = .returned (.int .u16 (x * 256 + y)) ∧ ∃ k, w' = w.drewN k := by
  have q0 : (0 : Int) < (m : Int) := by omega
  have q1 : (1 : Int) < (m : Int) := by omega
  have ho := or16 x y x0 x1 y0 y1
  go_enter Tryd.func54, Tryd.ntmps54
  go_wp2
  go_quiet (fail)
  go_wp2
  go_ret
  exact ⟨rfl, _, rfl⟩

set_option maxHeartbeats 1000000 in
set_option maxRecDepth 100000 in
/-- escrow.writeWord. -/
theorem writeWord_ok (B b : Nat) (bs : List Value) (v : Int) (w : World) (v0 : 0 ≤ v) (v1 : v < 65536) (h : Lib.IsBuilder 81 5 B b bs w) (hlen : bs.length + 5 ≤ 140737488355328) (hBw : B ≤ w.heap.size) :
    Calls Tryd.prog 53 #[.pointer (some ⟨b, 0, none⟩), .int .u16 v] w fun e w' => e = .returned (.tuple #[]) ∧ (Lib.BuilderAt 81 5 B b (.pointer (some ⟨b, 0, none⟩)) (bs ++ Lib.byteCells (word v)) w' ∧ Below B w w') := by
  have hC := con_at
  have hV := vow_at
  have a1 := and16_3 (v / 1024) (by omega) (by omega)
  have a2 := and16_15 (v / 64) (by omega) (by omega)
  have a3 := and16_3 (v / 16) (by omega) (by omega)
  have a4 := and16_15 v (by omega) (by omega)
  have b0 : 0 ≤ v / 4096 := by omega
  have b1 : v / 4096 < 16 := by omega
  have b2 : 0 ≤ v / 1024 % 4 := by omega
  have b3 : v / 1024 % 4 < 4 := by omega
  have b4 : 0 ≤ v / 64 % 16 := by omega
  have b5 : v / 64 % 16 < 16 := by omega
  have b6 : 0 ≤ v / 16 % 4 := by omega
  have b7 : v / 16 % 4 < 4 := by omega
  have b8 : 0 ≤ v % 16 := by omega
  have b9 : v % 16 < 16 := by omega
  go_enter Tryd.func53, Tryd.ntmps53
  go_wp2_with (go_at_call 52; refine (writeByte_ok B b _ ((conU (v / 4096).toNat).toNat : Int) _ h (by simp; omega) hBw).mono ?_)
  rintro e w1 ⟨rfl, h1, g1⟩
  have k1 := g1
  clear g1
  go_wp2_with (go_at_call 52; refine (writeByte_ok B b _ ((vowU (v / 1024 % 4).toNat).toNat : Int) _ (.inr h1) (by simp; omega) (by have := k1.size; omega)).mono ?_)
  rintro e w2 ⟨rfl, h2, g2⟩
  have k2 := k1.trans g2
  clear g2 k1 h1
  go_wp2_with (go_at_call 52; refine (writeByte_ok B b _ ((conU (v / 64 % 16).toNat).toNat : Int) _ (.inr h2) (by simp; omega) (by have := k2.size; omega)).mono ?_)
  rintro e w3 ⟨rfl, h3, g3⟩
  have k3 := k2.trans g3
  clear g3 k2 h2
  go_wp2_with (go_at_call 52; refine (writeByte_ok B b _ ((vowU (v / 16 % 4).toNat).toNat : Int) _ (.inr h3) (by simp; omega) (by have := k3.size; omega)).mono ?_)
  rintro e w4 ⟨rfl, h4, g4⟩
  have k4 := k3.trans g4
  clear g4 k3 h3
  go_wp2_with (go_at_call 52; refine (writeByte_ok B b _ ((conU (v % 16).toNat).toNat : Int) _ (.inr h4) (by simp; omega) (by have := k4.size; omega)).mono ?_)
  rintro e w5 ⟨rfl, h5, g5⟩
  have k5 := k4.trans g5
  clear g5 k4 h4
  go_wp2
  go_end0
  refine ⟨rfl, ?_, k5⟩
  simpa [Lib.byteCells, word, List.append_assoc] using h5
end Go.Proofs.YtbpkocohddlbhaaDoor
namespace Go.Proofs.YtbpkocohddlbhaaDoor
open Go.RowKit
set_option linter.unusedVariables false
set_option linter.unusedSimpArgs false
theorem eqF (a b : F) : ((((a.1 : Nat) : Int)) == (((b.1 : Nat) : Int))) = decide (a = b) := by
  rw [Bool.eq_iff_iff]
  simp only [beq_iff_eq, decide_eq_true_eq]
  exact ⟨fun h => Fin.ext (by omega), fun h => by rw [h]⟩
theorem neF (a b : F) : ((((a.1 : Nat) : Int)) != (((b.1 : Nat) : Int))) = !decide (a = b) := by rw [bne, eqF]
theorem zF (a : F) : ((((a.1 : Nat) : Int)) == 0) = decide (a = 0) := eqF a 0
theorem own_below {w w' : World} {B n : Nat} {e : TypeId} {sz : Nat} {v : Value} {cs : List Value} (h : w.ownsRow B e sz v n cs) (b : Below w.heap.size w w') : w'.ownsRow B e sz v n cs := by
  refine ⟨h.1, ?_⟩
  rcases h.2 with q | ⟨g, cap, cur, q, h1, h2, h3⟩
  · exact .inl q
  · exact .inr ⟨g, cap, cur, q, h1, (b.block g (Array.getElem?_eq_some_iff.1 h2).1).trans h2, h3⟩
end Go.Proofs.YtbpkocohddlbhaaDoor

namespace Go.Proofs.YtbpkocohddlbhaaDoor
open Go.RowKit
set_option linter.unusedVariables false
set_option linter.unusedSimpArgs false
/-- A row of a matrix where it lies. -/
def rowV (n : Nat) (gs cs : Nat → Nat) (i : Nat) : Value := .slice (some ⟨gs i, 0, none⟩) (n + 1) (cs i)
structure MatI (B B1 G R n : Nat) (A : Nat → Nat → F) (gs cs : Nat → Nat) (u : World) : Prop where
  top : ∃ sp, Bx u G 23 ((List.range R).map (rowV n gs cs) ++ sp)
  row : ∀ i, i < R → Rx u (gs i) (rowL A n i)
  inj : ∀ i j, i < R → j < R → gs i = gs j → i = j
  lo : ∀ i, i < R → B ≤ gs i ∧ gs i < B1
  glo : B ≤ G ∧ G < B1
  cap : ∀ i, i < R → n + 1 ≤ cs i
variable {B B1 G R n : Nat} {A : Nat → Nat → F} {gs cs : Nat → Nat} {u v : World}
theorem MatI.ptr (h : MatI B B1 G R n A gs cs u) (i : Nat) (hi : i < R) : u.cell? ⟨G, i, none⟩ = some (.slice (some ⟨gs i, 0, none⟩) (n + 1) (cs i)) := by
  obtain ⟨sp, hs⟩ := h.top
  refine hs.cell i _ ?_
  rw [List.getElem?_append_left (by simpa using hi), List.getElem?_map, List.getElem?_range hi]
  rfl
theorem MatI.cell (h : MatI B B1 G R n A gs cs u) (i k : Nat) (hi : i < R) (hk : k ≤ n) : u.cell? ⟨gs i, k, none⟩ = some (.int .u8 ((A i k).1 : Nat)) := by
  have q := (h.row i hi).cell k (by rw [rowL_len]; omega)
  rw [rowL_at _ _ _ _ hk] at q
  exact q
theorem MatI.fr (h : MatI B B1 G R n A gs cs u) (i k : Nat) (hi : i < R) : u.frozen? ⟨gs i, k, none⟩ = false := (h.row i hi).frozen k
theorem MatI.frG (h : MatI B B1 G R n A gs cs u) (i : Nat) : u.frozen? ⟨G, i, none⟩ = false := h.top.choose_spec.frozen i
theorem MatI.ne (h : MatI B B1 G R n A gs cs u) (i : Nat) (hi : i < R) : gs i ≠ G := fun e => by
  obtain ⟨sp, hs⟩ := h.top
  obtain ⟨sp2, hr⟩ := h.row i hi
  rw [e] at hr
  have q := hs.symm.trans hr
  simp at q
theorem MatI.congr {A' : Nat → Nat → F} (h : MatI B B1 G R n A gs cs u) (e : ∀ i k, i < R → k ≤ n → A i k = A' i k) : MatI B B1 G R n A' gs cs u :=
  ⟨h.top, fun i hi => by rw [← rowL_congr A A' n i (fun k hk => e i k hi hk)]; exact h.row i hi, h.inj, h.lo, h.glo, h.cap⟩
theorem MatI.store (h : MatI B B1 G R n A gs cs u) (i k : Nat) (hi : i < R) (hk : k ≤ n) (a : F) : MatI B B1 G R n (rowU A i (fun k' => if k' = k then a else A i k')) gs cs (u.setCell ⟨gs i, k, none⟩ (.int .u8 (a.1 : Nat))) := by
  have hg := set_gb u (gs i) k (.int .u8 (a.1 : Nat))
  obtain ⟨sp, hs⟩ := h.top
  refine ⟨⟨sp, hs.keep (hg.block G hs.lt (fun e => h.ne i hi (by injection e with e; exact e.symm)))⟩, fun j hj => ?_, h.inj, h.lo, h.glo, h.cap⟩
  by_cases e : j = i
  · subst e
    have q := (h.row j hj).set k (by rw [rowL_len]; omega) a
    rw [rowL_set A n j k a hk] at q
    exact q
  · rw [show rowL (rowU A i (fun k' => if k' = k then a else A i k')) n j = rowL A n j from rowL_congr _ _ n j fun q _ => rowU_ne _ _ _ _ _ e]
    exact (h.row j hj).keep (hg.block _ (h.row j hj).lt (fun q => e (h.inj j i hj hi (by injection q with q))))
theorem MatI.far (h : MatI B B1 G R n A gs cs u) (hv : Below B1 u v) : MatI B B1 G R n A gs cs v := by
  obtain ⟨sp, hs⟩ := h.top
  exact ⟨⟨sp, hs.keep (hv.block G h.glo.2)⟩, fun i hi => (h.row i hi).keep (hv.block _ (h.lo i hi).2), h.inj, h.lo, h.glo, h.cap⟩
theorem MatI.drew (h : MatI B B1 G R n A gs cs u) : MatI B B1 G R n A gs cs u.drew := h.far (Below.refl _ _).drew
def swN (c a i : Nat) : Nat := if i = c then a else if i = a then c else i
theorem swN_lt {c a i R : Nat} (hc : c < R) (ha : a < R) (hi : i < R) : swN c a i < R := by unfold swN; split <;> (try split) <;> omega
theorem swN_inj {c a i j : Nat} (h : swN c a i = swN c a j) : i = j := by
  unfold swN at h
  split at h <;> split at h <;> (try split at h) <;> (try split at h) <;> omega
theorem MatI.swap (h : MatI B B1 G R n A gs cs u) (c a : Nat) (hc : c < R) (ha : a < R) : MatI B B1 G R n (swapR A c a) (fun i => gs (swN c a i)) (fun i => cs (swN c a i)) ((u.setCell ⟨G, c, none⟩ (.slice (some ⟨gs a, 0, none⟩) (n + 1) (cs a))).setCell ⟨G, a, none⟩ (.slice (some ⟨gs c, 0, none⟩) (n + 1) (cs c))) := by
  obtain ⟨sp, hs⟩ := h.top
  have hg1 := set_gb u G c (.slice (some ⟨gs a, 0, none⟩) (n + 1) (cs a))
  have hg2 := set_gb (u.setCell ⟨G, c, none⟩ (.slice (some ⟨gs a, 0, none⟩) (n + 1) (cs a))) G a (.slice (some ⟨gs c, 0, none⟩) (n + 1) (cs c))
  refine ⟨⟨sp, ?_⟩, fun i hi => ?_, fun i j hi hj e => swN_inj (h.inj _ _ (swN_lt hc ha hi) (swN_lt hc ha hj) e), fun i hi => h.lo _ (swN_lt hc ha hi), h.glo, fun i hi => h.cap _ (swN_lt hc ha hi)⟩
  · have q := (hs.set c (.slice (some ⟨gs a, 0, none⟩) (n + 1) (cs a))).set a (.slice (some ⟨gs c, 0, none⟩) (n + 1) (cs c))
    rw [List.set_append_left _ _ (by simpa using hc), List.set_append_left _ _ (by simpa using ha)] at q
    have e : (((List.range R).map (rowV n gs cs)).set c (.slice (some ⟨gs a, 0, none⟩) (n + 1) (cs a))).set a (.slice (some ⟨gs c, 0, none⟩) (n + 1) (cs c)) = (List.range R).map (rowV n (fun i => gs (swN c a i)) (fun i => cs (swN c a i))) := by
      apply List.ext_getElem?
      intro j
      by_cases hj : j < R
      · rw [List.getElem?_map, List.getElem?_range hj]
        by_cases e2 : a = j
        · subst e2
          rw [List.getElem?_set_self (by simpa using hj)]
          show _ = some (rowV n _ _ a)
          unfold rowV swN
          by_cases e3 : a = c
          · simp [e3]
          · simp [e3]
        · rw [List.getElem?_set_ne e2]
          by_cases e3 : c = j
          · subst e3
            rw [List.getElem?_set_self (by simpa using hj)]
            show _ = some (rowV n _ _ c)
            unfold rowV swN
            simp
          · rw [List.getElem?_set_ne e3, List.getElem?_map, List.getElem?_range hj]
            show some (rowV n gs cs j) = some (rowV n _ _ j)
            unfold rowV swN
            simp [Ne.symm e2, Ne.symm e3]
      · rw [List.getElem?_eq_none (by simp; omega), List.getElem?_eq_none (by simp; omega)]
    rw [e] at q
    exact q
  · have hr := h.row (swN c a i) (swN_lt hc ha hi)
    have hne := h.ne (swN c a i) (swN_lt hc ha hi)
    have e : rowL (swapR A c a) n i = rowL A n (swN c a i) := rfl
    rw [e]
    have hr1 := hr.keep (hg1.block _ hr.lt (fun q => hne (by injection q with q)))
    exact hr1.keep (hg2.block _ hr1.lt (fun q => hne (by injection q with q)))
/-- The matrix that comes in. -/
def InM (u : World) (G O R n : Nat) (A : Nat → Nat → F) : Prop := ∀ i, i < R → ∃ b o c, u.cell? ⟨G, O + i, none⟩ = some (.slice (some ⟨b, o, none⟩) (n + 1) c) ∧ n + 1 ≤ c ∧ Rw u b o (rowL A n i)
theorem InM.below {O : Nat} (h : InM u G O R n A) (hv : Below u.heap.size u v) : InM v G O R n A := fun i hi => by
  obtain ⟨b, o, c, h1, h2, h3⟩ := h i hi
  exact ⟨b, o, c, (hv.cell (World.block_lt_of_cell? _ _ h1)).trans h1, h2, h3.below hv⟩
/-- Rows that are copied already. -/
structure GlI (M n k : Nat) (A : Nat → Nat → F) (gs cs : Nat → Nat) (rv : Value) (u : World) : Prop where
  own : u.ownsRow M 23 1 rv k ((List.range k).map (rowV n gs cs))
  row : ∀ i, i < k → Rx u (gs i) (rowL A n i) ∧ n + 1 ≤ cs i ∧ M ≤ gs i
  inj : ∀ i j, i < k → j < k → gs i = gs j → i = j
theorem Rx.type_ne {b : Nat} {l : List F} {cu : Array Value} {fr : Nat × Nat} (h : Rx u b l) : u.heap[b]? ≠ some (.cells cu 23 fr) := fun e => by
  obtain ⟨sp, hs⟩ := h
  have q := hs.symm.trans e
  simp at q
theorem GlI.below {M k : Nat} {rv : Value} (h : GlI M n k A gs cs rv u) (hv : Below u.heap.size u v) : GlI M n k A gs cs rv v :=
  ⟨own_below h.own hv, fun i hi => ⟨(h.row i hi).1.below hv, (h.row i hi).2⟩, h.inj⟩
/-- One more. -/
theorem GlI.more {M k g c : Nat} {rv rv2 : Value} {w1 w2 : World} (h : GlI M n k A gs cs rv u) (hb : Below u.heap.size u w1) (hr : Rx w1 g (rowL A n k)) (hc : n + 1 ≤ c) (hg : u.heap.size ≤ g) (hM : M ≤ u.heap.size)
    (hown : w2.ownsRow M 23 1 rv2 (k + 1) ((List.range k).map (rowV n gs cs) ++ [.slice (some ⟨g, 0, none⟩) (n + 1) c])) (hgr : w1.grownBy w2 rv.ownBlock) :
    GlI M n (k + 1) A (fun i => if i = k then g else gs i) (fun i => if i = k then c else cs i) rv2 w2 := by
  have h1 := h.below hb
  have keep : ∀ b l, Rx w1 b l → Rx w2 b l := fun b l hx => by
    refine hx.keep (hgr.block b hx.lt fun e => ?_)
    rcases h1.own.2 with ⟨q, _⟩ | ⟨g', cap, cur, q, _, q3, _⟩
    · rw [q] at e; cases e
    · rw [q] at e
      injection e with e
      subst e
      exact hx.type_ne q3
  have e : (List.range (k + 1)).map (rowV n (fun i => if i = k then g else gs i) (fun i => if i = k then c else cs i)) = (List.range k).map (rowV n gs cs) ++ [.slice (some ⟨g, 0, none⟩) (n + 1) c] := by
    rw [List.range_succ, List.map_append]
    congr 1
    · apply List.map_congr_left
      intro i hi
      have := List.mem_range.1 hi
      unfold rowV
      simp only []
      rw [if_neg (by omega), if_neg (by omega)]
    · show [rowV n _ _ k] = _
      unfold rowV
      simp only [if_true]
  refine ⟨by rw [e]; exact hown, fun i hi => ?_, fun i j hi hj q => ?_⟩
  · by_cases e2 : i = k
    · subst e2
      rw [if_pos rfl, if_pos rfl]
      exact ⟨keep _ _ hr, hc, by omega⟩
    · rw [if_neg e2, if_neg e2]
      have := h1.row i (by omega)
      exact ⟨keep _ _ this.1, this.2⟩
  · by_cases e2 : i = k
    · by_cases e3 : j = k
      · omega
      · rw [if_pos e2, if_neg e3] at q
        have := (h.row j (by omega)).1.lt
        omega
    · by_cases e3 : j = k
      · rw [if_neg e2, if_pos e3] at q
        have := (h.row i (by omega)).1.lt
        omega
      · rw [if_neg e2, if_neg e3] at q
        exact h.inj i j (by omega) (by omega) q
theorem GlI.mat {M : Nat} {rv : Value} (h : GlI M n R A gs cs rv u) (hR : 1 ≤ R) : ∃ G cap, rv = .slice (some ⟨G, 0, none⟩) R cap ∧ Hid (R ≤ cap ∧ MatI M u.heap.size G R n A gs cs u) := by
  rcases h.own.2 with ⟨_, q⟩ | ⟨g, cap, cur, q, hB, hh, h3, h4, h5, h6⟩
  · omega
  · refine ⟨g, cap, q, h3, ⟨cur.toList.drop R, ?_⟩, fun i hi => (h.row i hi).1, h.inj, fun i hi => ⟨(h.row i hi).2.2, (h.row i hi).1.lt⟩, ⟨hB, (Array.getElem?_eq_some_iff.1 hh).1⟩, fun i hi => (h.row i hi).2.1⟩
    unfold Bx
    rw [hh, ← h6, Nat.mul_one, List.take_append_drop]
theorem Tryd.info25q : (Tryd.prog.info? 23).map (fun i => (i.zero, i.size, i.bytes)) = some (some (.slice none 0 0), 1, 24) := by kernel_rfl
theorem Tryd.und70 : Tryd.prog.underlying 73 = some (.slice 23) := by kernel_rfl
set_option maxHeartbeats 800000 in
theorem over_ok (b : F) (hb : b ≠ 0) (w : World) : Calls Tryd.prog 59 #[.int .u8 1, .int .u8 (b.1 : Nat)] w fun e w' => e = .returned (.int .u8 ((invF b).1 : Nat)) ∧ w' = w := by
  obtain ⟨r, HR⟩ : ∃ r, Hid (invF b = r) := ⟨_, rfl⟩
  have HRM : Hid (fm r b = 1 ∧ ∀ v : F, fm v b = 1 → v = r) := by
    have e : fm b r = 1 := by rw [← HR.out]; exact invF_mul b hb
    exact ⟨by rw [fm_comm]; exact e, fun v hv => by rw [fm_comm] at hv; exact inv_only hv e⟩
  have H21 : Hid (∀ (x y : F) u, Calls Tryd.prog 28 #[.int .u8 (x.1 : Nat), .int .u8 (y.1 : Nat)] u fun e w' => e = .returned (.int .u8 ((fm x y).1 : Nat)) ∧ w' = u) := fun x y u => rtimesF x y u
  rw [HR.out]
  clear hb
  go_enter Tryd.func59, Tryd.ntmps59
  go_wp2
  go_loopw [5] (fun vi wr => ∃ i : Nat, i ≤ r.1 ∧ vi = .int .i64 (i : Nat) ∧ Hid (wr = w)) (fun vi _ => 256 - (intOf vi).toNat)
  case atStart => exact ⟨0, by omega, rfl, rfl⟩
  case round =>
    obtain ⟨i, hi, rfl, HI⟩ := hrel
    obtain rfl := HI.out.symm
    have hr256 := r.2
    have g1 : (i : Int) < 256 := by omega
    obtain ⟨z, hz⟩ : ∃ z : F, z.1 = i := ⟨⟨i, by omega⟩, rfl⟩
    subst hz
    have hu : IntKind.u8.wrap ((z.1 : Nat) : Int) = ((z.1 : Nat) : Int) := wraps_u8 _ (by omega) (by have := z.2; omega)
    have wn : IntKind.i64.wrap (((z.1 : Nat) : Int) + 1) = ((z.1 + 1 : Nat) : Int) := by rw [IntKind.wrap_i64]; omega
    have HH : Hid (z.1 ≤ r.1 ∧ r.1 < 256) := ⟨hi, hr256⟩
    obtain ⟨t, HT⟩ : ∃ t, Hid (fm z b = t) := ⟨_, rfl⟩
    clear hi hr256
    by_cases e : t = 1
    · have HZ : Hid (z = r) := HRM.out.2 z (by rw [HT.out]; exact e)
      have e1 : ((((t.1 : Nat) : Int)) == 1) = true := by rw [e]; rfl
      clear e
      go_wp2_with (go_at_call 28; refine (H21.out z b _).mono ?_; rintro e1 w1 ⟨rfl, hw⟩; obtain rfl := hw.symm; clear hw; rw [HT.out])
      go_ret
      exact ⟨by rw [← HZ.out]; rfl, rfl⟩
    · have HZ : Hid (z.1 + 1 ≤ r.1) := by
        show z.1 + 1 ≤ r.1
        have : z.1 ≠ r.1 := fun q => e (by rw [← HT.out, Fin.ext q]; exact HRM.out.1)
        have := HH.out
        omega
      have e1 : ((((t.1 : Nat) : Int)) == 1) = false := by
        rw [beq_eq_false_iff_ne]
        exact fun q => e (Fin.ext (by show t.1 = 1; omega))
      clear e
      go_wp2_with (go_at_call 28; refine (H21.out z b _).mono ?_; rintro e1 w1 ⟨rfl, hw⟩; obtain rfl := hw.symm; clear hw; rw [HT.out])
      have e0 := HZ.out
      have e2 := HH.out
      refine ⟨⟨z.1 + 1, e0, by first | rfl | (simp; done), by trivial⟩, ?_⟩
      simp [intOf]
      omega
end Go.Proofs.YtbpkocohddlbhaaDoor
namespace Go.Proofs.YtbpkocohddlbhaaDoor
open Go.RowKit
set_option linter.unusedVariables false
set_option linter.unusedSimpArgs false
theorem mayNeed_ok (x : Nat) (w : World) : Calls Tryd.prog 24 #[.int .i64 (x : Nat)] w fun e w' => e = .returned (.bool (decide (1 ≤ x ∧ x ≤ 16))) ∧ w' = w := by
  by_cases h1 : 1 ≤ x
  · have g1 : (1 : Int) ≤ (x : Int) := by omega
    by_cases h2 : x ≤ 16
    · have g2 : (x : Int) ≤ 16 := by omega
      go_enter Tryd.func24, Tryd.ntmps24
      go_wp2
      go_ret
      simp [h1, h2]
    · have g2 : ¬ (x : Int) ≤ 16 := by omega
      go_enter Tryd.func24, Tryd.ntmps24
      go_wp2
      go_ret
      simp [h1, h2]
  · have g1 : ¬ (1 : Int) ≤ (x : Int) := by omega
    go_enter Tryd.func24, Tryd.ntmps24
    go_wp2
    go_ret
    simp [h1]
theorem mayShare_ok (x : Nat) (w : World) : Calls Tryd.prog 25 #[.int .i64 (x : Nat)] w fun e w' => e = .returned (.bool (decide (1 ≤ x ∧ x ≤ 64))) ∧ w' = w := by
  by_cases h1 : 1 ≤ x
  · have g1 : (1 : Int) ≤ (x : Int) := by omega
    by_cases h2 : x ≤ 64
    · have g2 : (x : Int) ≤ 64 := by omega
      go_enter Tryd.func25, Tryd.ntmps25
      go_wp2
      go_ret
      simp [h1, h2]
    · have g2 : ¬ (x : Int) ≤ 64 := by omega
      go_enter Tryd.func25, Tryd.ntmps25
      go_wp2
      go_ret
      simp [h1, h2]
  · have g1 : ¬ (1 : Int) ≤ (x : Int) := by omega
    go_enter Tryd.func25, Tryd.ntmps25
    go_wp2
    go_ret
    simp [h1]
/-- The bytes ahead of the code. -/
def unc (s : Nat) : Nat := 9 + s + (9 + s) % 2
theorem uncoded_ok (s : Nat) (hs : s ≤ 1000) (w : World) : Calls Tryd.prog 65 #[.int .i64 (s : Nat)] w fun e w' => e = .returned (.int .i64 (unc s : Nat)) ∧ w' = w := by
  have e1 : IntKind.i64.wrap (5 + (s : Int)) = ((5 + s : Nat) : Int) := by rw [IntKind.wrap_i64]; omega
  obtain ⟨a, HA⟩ : ∃ a, Hid (5 + s = a) := ⟨_, rfl⟩
  have ha := HA.out
  rw [ha] at e1
  have e2 : IntKind.i64.wrap ((a : Int) + 4) = ((a + 4 : Nat) : Int) := by rw [IntKind.wrap_i64]; omega
  obtain ⟨b, HB⟩ : ∃ b, Hid (a + 4 = b) := ⟨_, rfl⟩
  have hb := HB.out
  rw [hb] at e2
  obtain ⟨m, HM⟩ : ∃ m, Hid (b % 2 = m) := ⟨_, rfl⟩
  have hm := HM.out
  have e3 : (b : Int).tmod 2 = (m : Int) := by rw [Int.tmod_eq_emod_of_nonneg (by omega)]; omega
  have e4 : IntKind.i64.wrap (m : Int) = (m : Int) := by rw [IntKind.wrap_i64]; omega
  have e5 : IntKind.i64.wrap ((b : Int) + (m : Int)) = ((b + m : Nat) : Int) := by rw [IntKind.wrap_i64]; omega
  have HU : Hid (unc s = b + m) := by show 9 + s + (9 + s) % 2 = b + m; rw [show 9 + s = b by omega, hm]
  rw [HU.out]
  obtain ⟨r, HR⟩ : ∃ r, Hid (b + m = r) := ⟨_, rfl⟩
  rw [HR.out] at e5 ⊢
  clear ha hb hm
  go_enter Tryd.func65, Tryd.ntmps65
  go_wp2
  go_ret
  exact ⟨rfl, rfl⟩
theorem rowSize_ok (s : Nat) (hs : s ≤ 1000) (w : World) : Calls Tryd.prog 56 #[.int .i64 (s : Nat)] w fun e w' => e = .returned (.int .i64 (unc s + 4 : Nat)) ∧ w' = w := by
  have H1 : Hid (∀ u, Calls Tryd.prog 65 #[.int .i64 (s : Nat)] u fun e w' => e = .returned (.int .i64 (unc s : Nat)) ∧ w' = u) := fun u => uncoded_ok s hs u
  obtain ⟨r, HR⟩ : ∃ r, Hid (unc s = r) := ⟨_, rfl⟩
  have hr : r ≤ 2000 := by rw [← HR.out]; unfold unc; omega
  have e5 : IntKind.i64.wrap ((r : Int) + 4) = ((r + 4 : Nat) : Int) := by rw [IntKind.wrap_i64]; omega
  rw [HR.out] at H1 ⊢
  go_enter Tryd.func56, Tryd.ntmps56
  go_wp2_with (first
    | (go_at_call 65; refine (H1.out _).mono ?_; rintro e1 w5 ⟨rfl, hw⟩; obtain rfl := hw.symm; clear hw H1))
  go_ret
  exact ⟨rfl, rfl⟩
end Go.Proofs.YtbpkocohddlbhaaDoor
namespace Go.Proofs.YtbpkocohddlbhaaDoor
open Go.RowKit
set_option linter.unusedVariables false
set_option linter.unusedSimpArgs false
/-- What a row says beside its values. -/
def setN (l : List F) : Nat := (l.getD 0 0).1 * 256 + (l.getD 1 0).1
def tds (l : List F) : List Value := [.int .u16 (setN l : Nat), .int .i64 ((l.getD 2 0).1 : Nat), .int .i64 ((l.getD 3 0).1 : Nat), .int .i64 ((l.getD 4 0).1 : Nat)]
theorem bx_there {w : World} {b : Nat} {t : TypeId} {cs : List Value} {n : Nat} (h : Bx w b t cs) (hn : cs.length = n) : w.there b 0 n := by
  intro j hj
  rw [Nat.zero_add]
  refine ⟨?_, h.frozen j⟩
  rw [h.cell j _ (List.getElem?_eq_getElem (by rw [hn]; exact hj))]
  rfl
theorem num_ok (b off c n : Nat) (l : List F) (w : World) (hn : l.length = n) (h2 : 2 ≤ n) (h : Rw w b off l) : Calls Tryd.prog 54 #[.slice (some ⟨b, off, none⟩) n c] w fun e w' => e = .returned (.int .u16 (setN l : Nat)) ∧ ∃ k, w' = w.drewN k := by
  have c0 : w.cell? ⟨b, off + 0, none⟩ = some (.int .u8 ((l.getD 0 0).1 : Nat)) := h 0 (by omega)
  have c1 : w.cell? ⟨b, off + 1, none⟩ = some (.int .u8 ((l.getD 1 0).1 : Nat)) := h 1 (by omega)
  exact number_ok b off n c ((l.getD 0 0).1 : Nat) ((l.getD 1 0).1 : Nat) w h2 (by omega) (by have := (l.getD 0 0).2; omega) (by omega) (by have := (l.getD 1 0).2; omega) c0 c1
end Go.Proofs.YtbpkocohddlbhaaDoor
namespace Go.Proofs.YtbpkocohddlbhaaDoor
open Go.RowKit

theorem isBuilder_drewN {T e : TypeId} {B b : Nat} {bs : List Value} {w : World} (h : Lib.IsBuilder T e B b bs w) (m : Nat) : Lib.IsBuilder T e B b bs (w.drewN m) := h
theorem below_drewN0 {B : Nat} {w w' : World} (h : Below B w w') (m : Nat) : Below B w (w'.drewN m) := h.trans ⟨rfl, rfl, rfl, Nat.le_refl _, fun _ _ => rfl⟩

set_option maxHeartbeats 1000000 in
set_option maxRecDepth 100000 in
theorem words_core (g o n c : Nat) (xs : List Int) (w : World) (hn : n ≤ 3000) (ax : Hid (∀ i, 0 ≤ xs.getD i 0 ∧ xs.getD i 0 < 256)) (hnc : n ≤ c) (hcm : c ≤ 9223372036854775807)
    (h1 : Hid (∀ i, i < n → w.cell? ⟨g, o + i, none⟩ = some (.int .u8 (xs.getD i 0)))) :
    Calls Tryd.prog 35 #[.slice (some ⟨g, o, none⟩) n c] w fun e w' => e = .returned (.string ⟨(wl xs (n / 2)).toArray⟩) ∧ Below w.heap.size w w' := by
  go_enter Tryd.func35, Tryd.ntmps35
  go_wp2
  go_loopw [4] (fun i wr => ∃ k : Nat, 2 * k ≤ n ∧ i = .int .i64 ((2 * k : Nat) : Int) ∧ Hid (Lib.IsBuilder 81 5 w.heap.size w.heap.size (Lib.byteCells (wl xs k)) wr) ∧ Hid (Below w.heap.size w wr)) (fun i _ => n - (intOf i).toNat)
  case atStart => exact ⟨0, by omega, rfl, Lib.fresh_isBuilder 81 5 w, (Below.refl _ _).alloc (Nat.le_refl _) _⟩
  case round =>
    obtain ⟨k, hk, rfl, HI, HB⟩ := hrel
    have HL := wl_length xs k
    by_cases hlt : 2 * k + 1 < n
    · have g1 := h1.out (2 * k) (by omega)
      have g2 := h1.out (2 * k + 1) (by omega)
      have hgb : g < w.heap.size := World.block_lt_of_cell? w _ g1
      obtain ⟨x0, x1⟩ := ax.out (2 * k)
      obtain ⟨y0, y1⟩ := ax.out (2 * k + 1)
      have HW : Hid (wl xs (k + 1) = wl xs k ++ ((if k = 0 then [] else [32]) ++ word (xs.getD (2 * k) 0 * 256 + xs.getD (2 * k + 1) 0))) := rfl
      generalize xs.getD (2 * k) 0 = x at g1 x0 x1 HW
      generalize xs.getD (2 * k + 1) 0 = y at g2 y0 y1 HW
      by_cases h0 : k = 0
      · subst h0
        have c1 : wr.cell? ⟨g, o, none⟩ = some (.int .u8 x) := (HB.out.cell hgb).trans g1
        have c2 : wr.cell? ⟨g, o + 1, none⟩ = some (.int .u8 y) := (HB.out.cell hgb).trans g2
        go_wp2_with (go_at_call 54; refine (number_ok g o n c x y _ (by omega) x0 x1 y0 y1 c1 c2).mono ?_; rintro e w1 ⟨rfl, m, rfl⟩)
        go_wp2_with (go_at_call 53; refine (writeWord_ok w.heap.size w.heap.size _ (x * 256 + y) _ (by omega) (by omega) (isBuilder_drewN HI.out m) (by rw [Lib.byteCells_length]; omega) (by simpa using HB.out.size)).mono ?_; rintro e w2 ⟨rfl, h2, b2⟩)
        have HI2 : Hid (Lib.IsBuilder 81 5 w.heap.size w.heap.size (Lib.byteCells (wl xs (0 + 1))) w2) := by
          refine .inr ?_
          rw [HW.out, Lib.byteCells_append, if_pos trivial, List.nil_append]
          exact h2
        have HB2 : Hid (Below w.heap.size w w2) := (below_drewN0 HB.out m).trans b2
        clear h2 b2 HI HB
        go_wp2
        go_roundw
        case rel => exact ⟨1, by omega, by go_num, HI2, HB2⟩
        case measure => simp [intOf]; omega
      · have c1 : wr.cell? ⟨g, o + 2 * k, none⟩ = some (.int .u8 x) := (HB.out.cell hgb).trans g1
        have c2 : wr.cell? ⟨g, o + 2 * k + 1, none⟩ = some (.int .u8 y) := (HB.out.cell hgb).trans g2
        go_wp2_with (go_at_call 52; refine (writeByte_ok w.heap.size w.heap.size _ 32 _ HI.out (by rw [Lib.byteCells_length]; omega) HB.out.size).mono ?_)
        rintro e w1 ⟨rfl, i1, b1⟩
        have c3 : w1.cell? ⟨g, o + 2 * k, none⟩ = some (.int .u8 x) := (b1.cell hgb).trans c1
        have c4 : w1.cell? ⟨g, o + 2 * k + 1, none⟩ = some (.int .u8 y) := (b1.cell hgb).trans c2
        go_wp2_with (go_at_call 54; refine (number_ok g (o + 2 * k) (n - 2 * k) (c - 2 * k) x y _ (by omega) x0 x1 y0 y1 c3 c4).mono ?_; rintro e w5 ⟨rfl, m, rfl⟩)
        go_wp2_with (go_at_call 53; refine (writeWord_ok w.heap.size w.heap.size _ (x * 256 + y) _ (by omega) (by omega) (isBuilder_drewN (.inr i1) m) (by rw [List.length_append, Lib.byteCells_length]; simp; omega) (by have := HB.out.size; have := b1.size; simp; omega)).mono ?_; rintro e w2 ⟨rfl, h2, b2⟩)
        have HI2 : Hid (Lib.IsBuilder 81 5 w.heap.size w.heap.size (Lib.byteCells (wl xs (k + 1))) w2) := by
          refine .inr ?_
          rw [HW.out, Lib.byteCells_append, if_neg h0, Lib.byteCells_append, ← List.append_assoc]
          exact h2
        have HB2 : Hid (Below w.heap.size w w2) := (below_drewN0 (HB.out.trans b1) m).trans b2
        clear h2 b2 HI HB i1 b1
        go_wp2
        go_roundw
        case rel => exact ⟨k + 1, by omega, by go_num, HI2, HB2⟩
        case measure => simp [intOf]; omega
    · obtain rfl : k = n / 2 := by omega
      go_wp2_with (go_at_call 55; refine (Tryd.Builder_String_any w.heap.size w.heap.size _ _ HI.out HB.out.size).mono ?_)
      rintro e w2 ⟨rfl, hb2⟩
      go_wp2
      go_ret
      exact ⟨rfl, HB.out.trans hb2⟩
end Go.Proofs.YtbpkocohddlbhaaDoor
namespace Go.Proofs.YtbpkocohddlbhaaDoor
variable {P : Program} {ops : Array Oper} {Q : Exit → Act → World → Prop} {md : Region.Mode}

/-- An operation that yields in whatever world is taken first; its slot is written out. -/
theorem take_at (i d : Nat) (v : Value) {oi : Oper} {fuel : Nat} {listed : Array Bool} {tmps : Array Value} {ds : List Deferred} {w : World} (hi : ops[i]? = some oi) (hd : oi.dst = some d)
    (hs : Region.noSelect ops = true) (hf : Region.free md ops listed i = true) (hr : (Region.ready md ops listed).contains i = true)
    (hQ : ∀ c a w, Q (.panic c) (a.put oi.dst v) w → Q (.panic c) a w) (hy : Yields P ops oi v ⟨tmps, ds⟩)
    (h : wpAny P md ops Q fuel (listed.setIfInBounds i true) ⟨tmps.setIfInBounds d v, ds⟩ w) : wpAny P md ops Q (fuel + 1) listed ⟨tmps, ds⟩ w := by
  refine wpAny_take hi hs hf hr hQ hy ?_
  rw [hd]
  exact h
variable {S : World → Prop}
/-- The same under what every world of the region meets. -/
theorem takeH_at (i d : Nat) (v : Value) {oi : Oper} {fuel : Nat} {listed : Array Bool} {tmps : Array Value} {ds : List Deferred} {w : World} (hi : ops[i]? = some oi) (hd : oi.dst = some d)
    (hs : Region.noSelect ops = true) (hf : Region.free md ops listed i = true) (hr : (Region.ready md ops listed).contains i = true)
    (hQ : ∀ c a w, Q (.panic c) (a.put oi.dst v) w → Q (.panic c) a w) (hS : S w) (hy : YieldsIf P ops S oi v ⟨tmps, ds⟩)
    (h : wpAnyH P md ops Q S fuel (listed.setIfInBounds i true) ⟨tmps.setIfInBounds d v, ds⟩ w) : wpAnyH P md ops Q S (fuel + 1) listed ⟨tmps, ds⟩ w := by
  refine wpAnyH_take hi hs hf hr hQ hy hS ?_
  rw [hd]
  exact h
end Go.Proofs.YtbpkocohddlbhaaDoor
namespace Go.Proofs.YtbpkocohddlbhaaDoor
open Go.RowKit

theorem strOf_word (l : List UInt8) : strOfNums (l.map fun b => (b.toNat : Int)) = ⟨l.toArray⟩ := by
  unfold strOfNums
  rw [List.map_map]
  congr 2
  induction l with
  | nil => rfl
  | cons a r ih => rw [List.map_cons, ih]; simp
theorem bytes_append (a b : List UInt8) : (⟨(a ++ b).toArray⟩ : ByteArray) = ⟨a.toArray⟩ ++ ⟨b.toArray⟩ := by
  apply ByteArray.ext
  simp

set_option maxHeartbeats 1000000 in
set_option maxRecDepth 100000 in
theorem rwords_core (g o n c : Nat) (xs : List Int) (w : World) (hn : n ≤ 3000) (ax : Hid (∀ i, 0 ≤ xs.getD i 0 ∧ xs.getD i 0 < 256)) (hnc : n ≤ c) (hcm : c ≤ 9223372036854775807)
    (h1 : Hid (∀ i, i < n → w.cell? ⟨g, o + i, none⟩ = some (.int .u8 (xs.getD i 0)))) :
    Calls Tryd.prog 19 #[.slice (some ⟨g, o, none⟩) n c] w fun e w' => e = .returned (.string ⟨(wl xs (n / 2)).toArray⟩) ∧ Below w.heap.size w w' := by
  go_enter Tryd.func19, Tryd.ntmps19
  go_wp2
  go_loopw [3, 4] (fun s i wr => ∃ k : Nat, 2 * k ≤ n ∧ i = .int .i64 ((2 * k : Nat) : Int) ∧ s = .string ⟨(wl xs k).toArray⟩ ∧ Hid (Below w.heap.size w wr)) (fun _ i _ => n - (intOf i).toNat)
  case atStart => exact ⟨0, by omega, rfl, rfl, Below.refl _ _⟩
  case round =>
    obtain ⟨k, hk, rfl, rfl, HB⟩ := hrel
    have HL := wl_length xs k
    by_cases hlt : 2 * k + 1 < n
    · have g1 := h1.out (2 * k) (by omega)
      have g2 := h1.out (2 * k + 1) (by omega)
      have hgb : g < w.heap.size := World.block_lt_of_cell? w _ g1
      obtain ⟨x0, x1⟩ := ax.out (2 * k)
      obtain ⟨y0, y1⟩ := ax.out (2 * k + 1)
      have HW : Hid (wl xs (k + 1) = wl xs k ++ ((if k = 0 then [] else [32]) ++ word (xs.getD (2 * k) 0 * 256 + xs.getD (2 * k + 1) 0))) := rfl
      generalize xs.getD (2 * k) 0 = x at g1 x0 x1 HW
      generalize xs.getD (2 * k + 1) 0 = y at g2 y0 y1 HW
      have c1 : wr.cell? ⟨g, o + 2 * k, none⟩ = some (.int .u8 x) := (HB.out.cell hgb).trans g1
      have c2 : wr.cell? ⟨g, o + (2 * k + 1), none⟩ = some (.int .u8 y) := (HB.out.cell hgb).trans g2
      have q1 : (2 * (k : Int)) < (n : Int) := by omega
      have q2 : (2 * (k : Int) + 1) < (n : Int) := by omega
      generalize HS : wl xs k = S at HL HW
      go_wp2
      go_quiet (fail)
      have v0 : 0 ≤ x * 256 + y := by omega
      have v1 : x * 256 + y < 65536 := by omega
      generalize x * 256 + y = v at v0 v1 HW ⊢
      clear x0 x1 y0 y1 g1 g2 c1 c2
      go_wp2
      have hC := con_at
      have hV := vow_at
      have b0 : 0 ≤ v / 4096 := by omega
      have b1 : v / 4096 < 16 := by omega
      have b2 : 0 ≤ v / 1024 % 4 := by omega
      have b3 : v / 1024 % 4 < 4 := by omega
      have b4 : 0 ≤ v / 64 % 16 := by omega
      have b5 : v / 64 % 16 < 16 := by omega
      have b6 : 0 ≤ v / 16 % 4 := by omega
      have b7 : v / 16 % 4 < 4 := by omega
      have b8 : 0 ≤ v % 16 := by omega
      have b9 : v % 16 < 16 := by omega
      have t4096 : v.tdiv 4096 = v / 4096 := Int.tdiv_eq_ediv_of_nonneg v0
      have r4096 : 0 ≤ v / 4096 := by omega
      have s4096 : IntKind.i64.wrap (v / 4096) = v / 4096 := by rw [IntKind.wrap_i64]; omega
      have t1024 : v.tdiv 1024 = v / 1024 := Int.tdiv_eq_ediv_of_nonneg v0
      have r1024 : 0 ≤ v / 1024 := by omega
      have s1024 : IntKind.i64.wrap (v / 1024) = v / 1024 := by rw [IntKind.wrap_i64]; omega
      have t64 : v.tdiv 64 = v / 64 := Int.tdiv_eq_ediv_of_nonneg v0
      have r64 : 0 ≤ v / 64 := by omega
      have s64 : IntKind.i64.wrap (v / 64) = v / 64 := by rw [IntKind.wrap_i64]; omega
      have t16 : v.tdiv 16 = v / 16 := Int.tdiv_eq_ediv_of_nonneg v0
      have r16 : 0 ≤ v / 16 := by omega
      have s16 : IntKind.i64.wrap (v / 16) = v / 16 := by rw [IntKind.wrap_i64]; omega
      have m1 : (v / 1024).tmod 4 = v / 1024 % 4 := Int.tmod_eq_emod_of_nonneg r1024
      have m2 : (v / 64).tmod 16 = v / 64 % 16 := Int.tmod_eq_emod_of_nonneg r64
      have m3 : (v / 16).tmod 4 = v / 16 % 4 := Int.tmod_eq_emod_of_nonneg r16
      have m4 : v.tmod 16 = v % 16 := Int.tmod_eq_emod_of_nonneg v0
      refine wp_region_noPanic ?_
      refine wp_region_held_drew (S := fun w' => Below w.heap.size w w') (by kernel_rfl) (below_drewN0 HB.out (nq + 1)) (fun _ => ?_)
      refine takeH_at 0 27 (.int .i64 (v)) rfl rfl (by kernel_rfl) (by kernel_rfl) (by kernel_rfl) (fun _ _ _ h => h) (below_drewN0 HB.out (nq + 1)) (Or.inl ⟨by rfl, fun w' hS' => by go_simp⟩) ?_
      simp only [List.setIfInBounds_toArray, List.set_cons_zero, List.set_cons_succ]
      refine takeH_at 1 28 (.int .i64 (v / 4096)) rfl rfl (by kernel_rfl) (by kernel_rfl) (by kernel_rfl) (fun _ _ _ h => h) (below_drewN0 HB.out (nq + 1)) (Or.inl ⟨by rfl, fun w' hS' => by go_simp⟩) ?_
      simp only [List.setIfInBounds_toArray, List.set_cons_zero, List.set_cons_succ]
      refine takeH_at 2 29 (.int .u8 (((conU (v / 4096).toNat).toNat : Nat) : Int)) rfl rfl (by kernel_rfl) (by kernel_rfl) (by kernel_rfl) (fun _ _ _ h => h) (below_drewN0 HB.out (nq + 1)) (Or.inl ⟨by rfl, fun w' hS' => by go_simp⟩) ?_
      simp only [List.setIfInBounds_toArray, List.set_cons_zero, List.set_cons_succ]
      refine takeH_at 3 30 (.int .i64 (v)) rfl rfl (by kernel_rfl) (by kernel_rfl) (by kernel_rfl) (fun _ _ _ h => h) (below_drewN0 HB.out (nq + 1)) (Or.inl ⟨by rfl, fun w' hS' => by go_simp⟩) ?_
      simp only [List.setIfInBounds_toArray, List.set_cons_zero, List.set_cons_succ]
      refine takeH_at 4 31 (.int .i64 (v / 1024)) rfl rfl (by kernel_rfl) (by kernel_rfl) (by kernel_rfl) (fun _ _ _ h => h) (below_drewN0 HB.out (nq + 1)) (Or.inl ⟨by rfl, fun w' hS' => by go_simp⟩) ?_
      simp only [List.setIfInBounds_toArray, List.set_cons_zero, List.set_cons_succ]
      refine takeH_at 5 32 (.int .i64 (v / 1024 % 4)) rfl rfl (by kernel_rfl) (by kernel_rfl) (by kernel_rfl) (fun _ _ _ h => h) (below_drewN0 HB.out (nq + 1)) (Or.inl ⟨by rfl, fun w' hS' => by go_simp⟩) ?_
      simp only [List.setIfInBounds_toArray, List.set_cons_zero, List.set_cons_succ]
      refine takeH_at 6 33 (.int .u8 (((vowU (v / 1024 % 4).toNat).toNat : Nat) : Int)) rfl rfl (by kernel_rfl) (by kernel_rfl) (by kernel_rfl) (fun _ _ _ h => h) (below_drewN0 HB.out (nq + 1)) (Or.inl ⟨by rfl, fun w' hS' => by go_simp⟩) ?_
      simp only [List.setIfInBounds_toArray, List.set_cons_zero, List.set_cons_succ]
      refine takeH_at 7 34 (.int .i64 (v)) rfl rfl (by kernel_rfl) (by kernel_rfl) (by kernel_rfl) (fun _ _ _ h => h) (below_drewN0 HB.out (nq + 1)) (Or.inl ⟨by rfl, fun w' hS' => by go_simp⟩) ?_
      simp only [List.setIfInBounds_toArray, List.set_cons_zero, List.set_cons_succ]
      refine takeH_at 8 35 (.int .i64 (v / 64)) rfl rfl (by kernel_rfl) (by kernel_rfl) (by kernel_rfl) (fun _ _ _ h => h) (below_drewN0 HB.out (nq + 1)) (Or.inl ⟨by rfl, fun w' hS' => by go_simp⟩) ?_
      simp only [List.setIfInBounds_toArray, List.set_cons_zero, List.set_cons_succ]
      refine takeH_at 9 36 (.int .i64 (v / 64 % 16)) rfl rfl (by kernel_rfl) (by kernel_rfl) (by kernel_rfl) (fun _ _ _ h => h) (below_drewN0 HB.out (nq + 1)) (Or.inl ⟨by rfl, fun w' hS' => by go_simp⟩) ?_
      simp only [List.setIfInBounds_toArray, List.set_cons_zero, List.set_cons_succ]
      refine takeH_at 10 37 (.int .u8 (((conU (v / 64 % 16).toNat).toNat : Nat) : Int)) rfl rfl (by kernel_rfl) (by kernel_rfl) (by kernel_rfl) (fun _ _ _ h => h) (below_drewN0 HB.out (nq + 1)) (Or.inl ⟨by rfl, fun w' hS' => by go_simp⟩) ?_
      simp only [List.setIfInBounds_toArray, List.set_cons_zero, List.set_cons_succ]
      refine takeH_at 11 38 (.int .i64 (v)) rfl rfl (by kernel_rfl) (by kernel_rfl) (by kernel_rfl) (fun _ _ _ h => h) (below_drewN0 HB.out (nq + 1)) (Or.inl ⟨by rfl, fun w' hS' => by go_simp⟩) ?_
      simp only [List.setIfInBounds_toArray, List.set_cons_zero, List.set_cons_succ]
      refine takeH_at 12 39 (.int .i64 (v / 16)) rfl rfl (by kernel_rfl) (by kernel_rfl) (by kernel_rfl) (fun _ _ _ h => h) (below_drewN0 HB.out (nq + 1)) (Or.inl ⟨by rfl, fun w' hS' => by go_simp⟩) ?_
      simp only [List.setIfInBounds_toArray, List.set_cons_zero, List.set_cons_succ]
      refine takeH_at 13 40 (.int .i64 (v / 16 % 4)) rfl rfl (by kernel_rfl) (by kernel_rfl) (by kernel_rfl) (fun _ _ _ h => h) (below_drewN0 HB.out (nq + 1)) (Or.inl ⟨by rfl, fun w' hS' => by go_simp⟩) ?_
      simp only [List.setIfInBounds_toArray, List.set_cons_zero, List.set_cons_succ]
      refine takeH_at 14 41 (.int .u8 (((vowU (v / 16 % 4).toNat).toNat : Nat) : Int)) rfl rfl (by kernel_rfl) (by kernel_rfl) (by kernel_rfl) (fun _ _ _ h => h) (below_drewN0 HB.out (nq + 1)) (Or.inl ⟨by rfl, fun w' hS' => by go_simp⟩) ?_
      simp only [List.setIfInBounds_toArray, List.set_cons_zero, List.set_cons_succ]
      refine takeH_at 15 42 (.int .i64 (v)) rfl rfl (by kernel_rfl) (by kernel_rfl) (by kernel_rfl) (fun _ _ _ h => h) (below_drewN0 HB.out (nq + 1)) (Or.inl ⟨by rfl, fun w' hS' => by go_simp⟩) ?_
      simp only [List.setIfInBounds_toArray, List.set_cons_zero, List.set_cons_succ]
      refine takeH_at 16 43 (.int .i64 (v % 16)) rfl rfl (by kernel_rfl) (by kernel_rfl) (by kernel_rfl) (fun _ _ _ h => h) (below_drewN0 HB.out (nq + 1)) (Or.inl ⟨by rfl, fun w' hS' => by go_simp⟩) ?_
      simp only [List.setIfInBounds_toArray, List.set_cons_zero, List.set_cons_succ]
      refine takeH_at 17 44 (.int .u8 (((conU (v % 16).toNat).toNat : Nat) : Int)) rfl rfl (by kernel_rfl) (by kernel_rfl) (by kernel_rfl) (fun _ _ _ h => h) (below_drewN0 HB.out (nq + 1)) (Or.inl ⟨by rfl, fun w' hS' => by go_simp⟩) ?_
      simp only [List.setIfInBounds_toArray, List.set_cons_zero, List.set_cons_succ]
      refine wpAnyH_ready (rs := [18]) (by kernel_rfl) (by simp) ?_
      refine AllReadyH.cons rfl (fun K hK => ?_) AllReadyH.nil
      go_simp
      refine hK.out _ _ ((below_drewN0 HB.out (nq + 1)).alloc (by have := HB.out.size; simpa using this) _) (fun _ => ?_)
      clear hK K
      try simp only [List.setIfInBounds_toArray, List.set_cons_zero, List.set_cons_succ]
      refine takeH_at 19 6 (.slice (some ⟨wr.heap.size, 0, none⟩) 5 5) rfl rfl (by kernel_rfl) (by kernel_rfl) (by kernel_rfl) (fun _ _ _ h => h) ((below_drewN0 HB.out (nq + 1)).alloc (by have := HB.out.size; simpa using this) _) (Or.inl ⟨by rfl, fun w' hS' => by go_simp⟩) ?_
      simp only [List.setIfInBounds_toArray, List.set_cons_zero, List.set_cons_succ]
      refine wpAnyH_done (by kernel_rfl) ?_ _
      refine NoPanic.normal ?_
      have HB2 : Hid (Below w.heap.size w ((wr.drewN (nq + 1)).alloc (.cells #[.int .u8 ((conU (v / 4096).toNat).toNat : Int), .int .u8 ((vowU (v / 1024 % 4).toNat).toNat : Int), .int .u8 ((conU (v / 64 % 16).toNat).toNat : Int), .int .u8 ((vowU (v / 16 % 4).toNat).toNat : Int), .int .u8 ((conU (v % 16).toNat).toNat : Int)] 5))) := (below_drewN0 HB.out (nq + 1)).alloc (by have := HB.out.size; simpa using this) _
      have hbk : (convert 23 9 (.slice (some ⟨wr.heap.size, 0, none⟩) 5 5)).run Tryd.prog ((wr.drewN (nq + 1)).alloc (.cells #[.int .u8 ((conU (v / 4096).toNat).toNat : Int), .int .u8 ((vowU (v / 1024 % 4).toNat).toNat : Int), .int .u8 ((conU (v / 64 % 16).toNat).toNat : Int), .int .u8 ((vowU (v / 16 % 4).toNat).toNat : Int), .int .u8 ((conU (v % 16).toNat).toNat : Int)] 5)) = .ok (.string ⟨(word v).toArray⟩) ((wr.drewN (nq + 1)).alloc (.cells #[.int .u8 ((conU (v / 4096).toNat).toNat : Int), .int .u8 ((vowU (v / 1024 % 4).toNat).toNat : Int), .int .u8 ((conU (v / 64 % 16).toNat).toNat : Int), .int .u8 ((vowU (v / 16 % 4).toNat).toNat : Int), .int .u8 ((conU (v % 16).toNat).toNat : Int)] 5)) := by
        refine (run_convert_bytes_arg _ 23 5 Tryd.underlying23 Tryd.underlying5 wr.heap.size 0 5 5 ((word v).map fun b => (b.toNat : Int)) rfl (fun i hi => ?_) 9 Tryd.underlying9).trans ?_
        · match i, hi with
          | 0, _ => exact (Lib.cell_of_heap (heap_alloc_new (wr.drewN (nq + 1)) _) 0).trans rfl
          | 1, _ => exact (Lib.cell_of_heap (heap_alloc_new (wr.drewN (nq + 1)) _) 1).trans rfl
          | 2, _ => exact (Lib.cell_of_heap (heap_alloc_new (wr.drewN (nq + 1)) _) 2).trans rfl
          | 3, _ => exact (Lib.cell_of_heap (heap_alloc_new (wr.drewN (nq + 1)) _) 3).trans rfl
          | 4, _ => exact (Lib.cell_of_heap (heap_alloc_new (wr.drewN (nq + 1)) _) 4).trans rfl
        · rw [strOf_word]
      generalize (wr.drewN (nq + 1)).alloc (.cells #[.int .u8 ((conU (v / 4096).toNat).toNat : Int), .int .u8 ((vowU (v / 1024 % 4).toNat).toNat : Int), .int .u8 ((conU (v / 64 % 16).toNat).toNat : Int), .int .u8 ((vowU (v / 16 % 4).toNat).toNat : Int), .int .u8 ((conU (v % 16).toNat).toNat : Int)] 5) = w2 at HB2 hbk ⊢
      clear hC hV HB b0 b1 b2 b3 b4 b5 b6 b7 b8 b9 t4096 r4096 s4096 t1024 r1024 s1024 t64 r64 s64 t16 r16 s16 m1 m2 m3 m4
      by_cases h0 : k = 0
      · subst h0
        go_wp2
        · exfalso; have h9 : 9223372036854775807 < S.length + (word v).length := by assumption
          have hw : (word v).length = 5 := rfl
          omega
        refine ⟨⟨1, by omega, by go_num, by rw [HW.out, if_pos rfl, List.nil_append, bytes_append], HB2⟩, by simp [intOf]; omega⟩
      · go_wp2
        · exfalso; have h9 : 9223372036854775807 < S.length + 1 + (word v).length := by assumption
          have hw : (word v).length = 5 := rfl
          omega
        refine ⟨⟨k + 1, by omega, by go_num, by rw [HW.out, if_neg h0, ← List.append_assoc]; exact congrArg Value.string (by rw [bytes_append, ← bytes_append S [32]]), HB2⟩, by simp [intOf]; omega⟩
    · obtain rfl : k = n / 2 := by omega
      go_wp2
      go_ret
      exact ⟨rfl, HB⟩
end Go.Proofs.YtbpkocohddlbhaaDoor
