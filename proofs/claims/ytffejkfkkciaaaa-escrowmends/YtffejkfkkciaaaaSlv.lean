import Derived.Test.YtffejkfkkciaaaaEnr
namespace Go.Proofs.Ytffejkfkkciaaaa
set_option linter.unusedVariables false
set_option linter.unusedSimpArgs false
/-- What a matrix, its last column what comes out, turns to nothing. -/
def Nz (A : Nat → Nat → F) (R n : Nat) (z : Nat → F) : Prop := ∀ i, i < R → sm (n + 1) (fun k => fm (A i k) (z k)) = 0
def rowU (A : Nat → Nat → F) (i : Nat) (g : Nat → F) : Nat → Nat → F := fun i' k => if i' = i then g k else A i' k
theorem rowU_at (A : Nat → Nat → F) (i : Nat) (g : Nat → F) (k : Nat) : rowU A i g i k = g k := if_pos rfl
theorem rowU_ne (A : Nat → Nat → F) (i i' : Nat) (g : Nat → F) (k : Nat) (h : i' ≠ i) : rowU A i g i' k = A i' k := if_neg h
def swapR (A : Nat → Nat → F) (c a : Nat) : Nat → Nat → F := fun i k => A (if i = c then a else if i = a then c else i) k
def scaleR (A : Nat → Nat → F) (c : Nat) (b : F) : Nat → Nat → F := rowU A c (fun k => fm (A c k) b)
def elimR (A : Nat → Nat → F) (i c : Nat) : Nat → Nat → F := rowU A i (fun k => fa (A i k) (fm (A i c) (A c k)))
def Good (A0 A : Nat → Nat → F) (R n c : Nat) : Prop := (∀ z, Nz A R n z ↔ Nz A0 R n z) ∧ ∀ q i, q < c → i < R → A i q = if i = q then 1 else 0
theorem good_first (A : Nat → Nat → F) (R n : Nat) : Good A A R n 0 := ⟨fun _ => Iff.rfl, fun q i h => absurd h (by omega)⟩
theorem nz_swap (A : Nat → Nat → F) (R n c a : Nat) (hc : c < R) (ha : a < R) (z : Nat → F) : Nz (swapR A c a) R n z ↔ Nz A R n z := by
  have key : ∀ A : Nat → Nat → F, Nz A R n z → Nz (swapR A c a) R n z := fun A h i hi => by
    show sm (n + 1) (fun k => fm (A (if i = c then a else if i = a then c else i) k) (z k)) = 0
    by_cases e : i = c
    · rw [if_pos e]; exact h a ha
    · rw [if_neg e]
      by_cases e2 : i = a
      · rw [if_pos e2]; exact h c hc
      · rw [if_neg e2]; exact h i hi
  refine ⟨fun h => ?_, key A⟩
  have q := key _ h
  have e : swapR (swapR A c a) c a = A := by
    funext i k
    unfold swapR
    by_cases e : i = c
    · subst e
      by_cases e2 : a = i
      · subst e2; simp
      · simp [e2]
    · by_cases e2 : i = a
      · subst e2; simp [e]
      · simp [e, e2]
  rwa [e] at q
theorem good_swap {A0 A : Nat → Nat → F} {R n c a : Nat} (h : Good A0 A R n c) (hc : c < R) (ha : a < R) (hca : c ≤ a) : Good A0 (swapR A c a) R n c := by
  refine ⟨fun z => (nz_swap A R n c a hc ha z).trans (h.1 z), fun q i hq hi => ?_⟩
  unfold swapR
  by_cases e : i = c
  · rw [if_pos e, h.2 q a hq ha, if_neg (by omega), if_neg (by omega)]
  · rw [if_neg e]
    by_cases e2 : i = a
    · rw [if_pos e2, h.2 q c hq hc, if_neg (by omega), if_neg (by omega)]
    · rw [if_neg e2]; exact h.2 q i hq hi
theorem sm_scale (g z : Nat → F) (b : F) (m : Nat) : sm m (fun k => fm (fm (g k) b) (z k)) = fm b (sm m (fun k => fm (g k) (z k))) := by
  rw [← sm_fm]
  exact sm_congr _ _ _ fun k _ => by rw [fm_comm (g k) b, fm_assoc]
theorem good_scale {A0 A : Nat → Nat → F} {R n c : Nat} {b : F} (h : Good A0 A R n c) (hc : c < R) (hb : b ≠ 0) : Good A0 (scaleR A c b) R n c := by
  refine ⟨fun z => ?_, fun q i hq hi => ?_⟩
  · rw [← h.1 z]
    constructor
    · intro g i hi
      have q := g i hi
      by_cases e : i = c
      · subst e
        simp only [scaleR, rowU_at] at q
        rw [sm_scale, fm_comm] at q
        exact fm_eq_zero q hb
      · simp only [scaleR, rowU_ne _ _ _ _ _ e] at q
        exact q
    · intro g i hi
      have q := g i hi
      by_cases e : i = c
      · subst e
        simp only [scaleR, rowU_at]
        rw [sm_scale, q, fm_zero]
      · simp only [scaleR, rowU_ne _ _ _ _ _ e]
        exact q
  · by_cases e : i = c
    · subst e
      simp only [scaleR, rowU_at]
      rw [h.2 q i hq hi, if_neg (by omega), zero_fm]
    · simp only [scaleR, rowU_ne _ _ _ _ _ e]
      exact h.2 q i hq hi
theorem sm_elim (g h z : Nat → F) (b : F) (m : Nat) : sm m (fun k => fm (fa (g k) (fm b (h k))) (z k)) = fa (sm m (fun k => fm (g k) (z k))) (fm b (sm m (fun k => fm (h k) (z k)))) := by
  rw [← sm_fm, ← sm_fa]
  exact sm_congr _ _ _ fun k _ => by rw [fa_fm, fm_assoc]
theorem good_elim {A0 A : Nat → Nat → F} {R n c i : Nat} (h : Good A0 A R n c) (hc : c < R) (hi : i < R) (hne : i ≠ c) : Good A0 (elimR A i c) R n c := by
  refine ⟨fun z => ?_, fun q j hq hj => ?_⟩
  · rw [← h.1 z]
    constructor
    · intro g
      have qc : sm (n + 1) (fun k => fm (A c k) (z k)) = 0 := by
        have q := g c hc
        simp only [elimR, rowU_ne _ _ _ _ _ (Ne.symm hne)] at q
        exact q
      intro j hj
      have q := g j hj
      by_cases e : j = i
      · subst e
        simp only [elimR, rowU_at] at q
        rw [sm_elim, qc, fm_zero, fa_zero] at q
        exact q
      · simp only [elimR, rowU_ne _ _ _ _ _ e] at q
        exact q
    · intro g j hj
      by_cases e : j = i
      · subst e
        simp only [elimR, rowU_at]
        rw [sm_elim, g c hc, fm_zero, fa_zero]
        exact g j hj
      · simp only [elimR, rowU_ne _ _ _ _ _ e]
        exact g j hj
  · by_cases e : j = i
    · subst e
      simp only [elimR, rowU_at]
      rw [h.2 q c hq hc, if_neg (show ¬ c = q by omega), fm_zero, fa_zero]
      exact h.2 q j hq hj
    · simp only [elimR, rowU_ne _ _ _ _ _ e]
      exact h.2 q j hq hj
theorem good_next {A0 A : Nat → Nat → F} {R n c : Nat} (h : Good A0 A R n c) (hu : ∀ i, i < R → A i c = if i = c then 1 else 0) : Good A0 A R n (c + 1) :=
  ⟨h.1, fun q i hq hi => by
    by_cases e : q = c
    · rw [e]; exact hu i hi
    · exact h.2 q i (by omega) hi⟩
/-- No row that is left has anything in a column: then the columns hang together. -/
theorem good_stop {A0 A : Nat → Nat → F} {R n c : Nat} (h : Good A0 A R n c) (hcn : c < n) (hcR : c < R) (hz : ∀ i, c ≤ i → i < R → A i c = 0) : ∃ z, Nz A0 R n z ∧ z c = 1 ∧ z n = 0 := by
  refine ⟨fun q => if q = c then 1 else if q < c then A q c else 0, (h.1 _).1 fun i hi => ?_, if_pos rfl, by show (if n = c then _ else if n < c then _ else _) = (0 : F); rw [if_neg (by omega), if_neg (by omega)]⟩
  by_cases hic : i < c
  · rw [sm_two _ i c (n + 1) (by omega) (by omega) (by omega) fun q hq h1 h2 => ?_]
    · show fa (fm (A i i) (if i = c then 1 else if i < c then A i c else 0)) (fm (A i c) (if c = c then 1 else _)) = 0
      rw [if_neg (by omega), if_pos hic, if_pos rfl, h.2 i i hic hi, if_pos rfl, fm_1, fm_one, fa_self]
    · show fm (A i q) (if q = c then 1 else if q < c then A q c else 0) = 0
      rw [if_neg h2]
      by_cases hq2 : q < c
      · rw [h.2 q i hq2 hi, if_neg (Ne.symm h1), zero_fm]
      · rw [if_neg hq2, fm_zero]
  · refine sm_none _ _ fun q hq => ?_
    show fm (A i q) (if q = c then 1 else if q < c then A q c else 0) = 0
    by_cases h2 : q = c
    · rw [h2, hz i (by omega) hi, zero_fm]
    · rw [if_neg h2]
      by_cases hq2 : q < c
      · rw [h.2 q i hq2 hi, if_neg (by omega), zero_fm]
      · rw [if_neg hq2, fm_zero]
/-- All columns are done. -/
theorem good_sol {A0 A : Nat → Nat → F} {R n : Nat} (h : Good A0 A R n n) (hn : n ≤ R) (z : Nat → F) (hz : z n = 1) : Nz A0 R n z ↔ (∀ i, n ≤ i → i < R → A i n = 0) ∧ ∀ q, q < n → z q = A q n := by
  rw [← h.1 z]
  have row : ∀ i, i < R → sm (n + 1) (fun k => fm (A i k) (z k)) = if i < n then fa (z i) (A i n) else A i n := fun i hi => by
    by_cases hin : i < n
    · rw [if_pos hin, sm_two _ i n (n + 1) (by omega) (by omega) (by omega) fun q hq h1 h2 => ?_]
      · show fa (fm (A i i) (z i)) (fm (A i n) (z n)) = _
        rw [h.2 i i hin hi, if_pos rfl, fm_1, hz, fm_one]
      · show fm (A i q) (z q) = 0
        rw [h.2 q i (by omega) hi, if_neg (Ne.symm h1), zero_fm]
    · rw [if_neg hin, sm_one _ n (n + 1) (by omega) fun q hq h1 => ?_]
      · show fm (A i n) (z n) = _
        rw [hz, fm_one]
      · show fm (A i q) (z q) = 0
        rw [h.2 q i (by omega) hi, if_neg (by omega), zero_fm]
  constructor
  · intro g
    refine ⟨fun i h1 h2 => ?_, fun q hq => ?_⟩
    · have := g i h2
      rw [row i h2, if_neg (by omega)] at this
      exact this
    · have := g q (by omega)
      rw [row q (by omega), if_pos hq] at this
      exact fa_eq_zero this
  · intro g i hi
    rw [row i hi]
    by_cases hin : i < n
    · rw [if_pos hin, g.2 i hin, fa_self]
    · rw [if_neg hin]; exact g.1 i (by omega) hi
/-- The columns but the last do not hang together. -/
def Ind (A : Nat → Nat → F) (R n : Nat) : Prop := ∀ z, Nz A R n z → z n = 0 → ∀ k, k < n → z k = 0
theorem one_ne : (1 : F) ≠ 0 := by decide
theorem good_pivot {A0 A : Nat → Nat → F} {R n c : Nat} (hI : Ind A0 R n) (h : Good A0 A R n c) (hcn : c < n) (hcR : c < R) : ¬ ∀ i, c ≤ i → i < R → A i c = 0 := fun hz => by
  obtain ⟨z, h1, h2, h3⟩ := good_stop h hcn hcR hz
  have := hI z h1 h3 c hcn
  rw [h2] at this
  exact one_ne this
/-- Numbers, and a 1 behind them. -/
def zOf (xs : List F) : Nat → F := fun k => (xs ++ [1]).getD k 0
theorem zOf_n (xs : List F) (n : Nat) (h : xs.length = n) : zOf xs n = 1 := by
  unfold zOf
  rw [List.getD_eq_getElem?_getD, List.getElem?_append_right (by omega), h, Nat.sub_self]
  rfl
theorem zOf_lt (xs : List F) (k : Nat) (h : k < xs.length) : zOf xs k = xs.getD k 0 := by
  unfold zOf
  rw [List.getD_eq_getElem?_getD, List.getElem?_append_left h, ← List.getD_eq_getElem?_getD]
/-- A row of a matrix. -/
def rowL (A : Nat → Nat → F) (n i : Nat) : List F := (List.range (n + 1)).map (A i)
theorem rowL_len (A : Nat → Nat → F) (n i : Nat) : (rowL A n i).length = n + 1 := by simp [rowL]
theorem rowL_at (A : Nat → Nat → F) (n i k : Nat) (h : k ≤ n) : (rowL A n i).getD k 0 = A i k := by
  unfold rowL
  simp [List.getD_eq_getElem?_getD, List.getElem?_map, List.getElem?_range (show k < n + 1 by omega)]
theorem rowL_set (A : Nat → Nat → F) (n i k : Nat) (a : F) (h : k ≤ n) : (rowL A n i).set k a = rowL (rowU A i (fun k' => if k' = k then a else A i k')) n i := by
  refine list_same (by simp [rowL_len]) fun q hq => ?_
  rw [rowL_len] at hq
  rw [set_getD _ k q a (by rw [rowL_len]; omega), rowL_at _ _ _ _ (by omega), rowL_at _ _ _ _ (by omega), rowU_at]
theorem rowL_congr (A A' : Nat → Nat → F) (n i : Nat) (h : ∀ k, k ≤ n → A i k = A' i k) : rowL A n i = rowL A' n i := List.map_congr_left fun k hk => h k (by have := List.mem_range.1 hk; omega)
end Go.Proofs.Ytffejkfkkciaaaa
