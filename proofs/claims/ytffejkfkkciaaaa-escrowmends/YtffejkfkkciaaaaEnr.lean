import Derived.Test.YtffejkfkkciaaaaEsj
namespace Go.Proofs.Ytffejkfkkciaaaa
set_option linter.unusedVariables false
set_option linter.unusedSimpArgs false
theorem sums_apart (l m : List F) (h : m.length = l.length) (j : Nat) : fa (sumG l j) (sumG m j) = sm l.length (fun q => fm (fa (l.getD q 0) (m.getD q 0)) (P (X l.length q) j)) := by
  rw [← sI_all l j, ← sI_all m j]
  unfold sI
  rw [h, ← sm_fa]
  exact sm_congr _ _ _ fun q _ => (fa_fm _ _ _).symm
theorem sm_two (g : Nat → F) (i k n : Nat) (hi : i < n) (hk : k < n) (hne : i ≠ k) (h : ∀ q, q < n → q ≠ i → q ≠ k → g q = 0) : sm n g = fa (g i) (g k) := by
  have e1 : sm n (fun q => if q = i then g i else 0) = g i := by
    rw [sm_one _ i n hi (fun q _ hq => if_neg hq), if_pos rfl]
  have e2 : sm n (fun q => if q = i then 0 else g q) = g k := by
    rw [sm_one _ k n hk (fun q hq hqk => ?_), if_neg (Ne.symm hne)]
    by_cases e : q = i
    · exact if_pos e
    · rw [if_neg e]; exact h q hq e hqk
  rw [sm_congr g (fun q => fa (if q = i then g i else 0) (if q = i then 0 else g q)) n (fun q _ => ?_), sm_fa, e1, e2]
  by_cases e : q = i
  · rw [if_pos e, if_pos e, fa_zero, e]
  · rw [if_neg e, if_neg e, zero_fa]
theorem P_0 (x : F) : P x 0 = 1 := rfl
theorem fm_1 (a : F) : fm 1 a = a := by rw [fm_comm, fm_one]
theorem P_1 (x : F) : P x 1 = x := fm_1 x
theorem P_2 (x : F) : P x 2 = fm x x := by show fm (P x 1) x = _; rw [P_1]
theorem P_3 (x : F) : P x 3 = fm x (fm x x) := by show fm (P x 2) x = _; rw [P_2, fm_comm]
def TL (x y a b : F) : List F := [T0 a b, T1 x y a b, T2 x y a b, T3 x y a b]
theorem four_at {a b c d a' b' c' d' : F} (h : [a, b, c, d] = [a', b', c', d']) : a = a' ∧ b = b' ∧ c = c' ∧ d = d' := by
  simp only [List.cons.injEq, and_true] at h
  exact h
theorem sumL_4 (l : List F) : sumL l = [sumG l 0, sumG l 1, sumG l 2, sumG l 3] := rfl
/-- A row that has right sums, but for two places. -/
def At2 (l m : List F) (i k : Nat) : Prop := m.length = l.length ∧ i < l.length ∧ k < l.length ∧ i ≠ k ∧ ∀ q, q < l.length → q ≠ i → q ≠ k → m.getD q 0 = l.getD q 0
theorem at2_sum {l m : List F} {i k : Nat} (h : At2 l m i k) (j : Nat) : fa (sumG l j) (sumG m j) = fa (fm (fa (l.getD i 0) (m.getD i 0)) (P (X l.length i) j)) (fm (fa (l.getD k 0) (m.getD k 0)) (P (X l.length k) j)) := by
  obtain ⟨h1, h2, h3, h4, h5⟩ := h
  rw [sums_apart l m h1, sm_two _ i k _ h2 h3 h4 fun q hq a b => ?_]
  rw [h5 q hq a b, fa_self, zero_fm]
theorem at2_tl {l m : List F} {i k : Nat} (h : At2 l m i k) : [fa (sumG l 0) (sumG m 0), fa (sumG l 1) (sumG m 1), fa (sumG l 2) (sumG m 2), fa (sumG l 3) (sumG m 3)] = TL (X l.length i) (X l.length k) (fa (l.getD i 0) (m.getD i 0)) (fa (l.getD k 0) (m.getD k 0)) := by
  rw [at2_sum h 0, at2_sum h 1, at2_sum h 2, at2_sum h 3, P_0, P_0, P_1, P_1, P_2, P_2, P_3, P_3, fm_one, fm_one]
  rfl
theorem at2_of {l m : List F} {i k : Nat} (h : At2 l m i k) (hz : sumL m = [0, 0, 0, 0]) : sumL l = TL (X l.length i) (X l.length k) (fa (l.getD i 0) (m.getD i 0)) (fa (l.getD k 0) (m.getD k 0)) := by
  obtain ⟨a, b, c, d⟩ := four_at ((sumL_4 m).symm.trans hz)
  have e := at2_tl h
  rw [a, b, c, d, fa_zero, fa_zero, fa_zero, fa_zero] at e
  exact e
theorem at2_zero {l m : List F} {i k : Nat} (h : At2 l m i k) (hz : sumL l = TL (X l.length i) (X l.length k) (fa (l.getD i 0) (m.getD i 0)) (fa (l.getD k 0) (m.getD k 0))) : sumL m = [0, 0, 0, 0] := by
  have e := at2_tl h
  rw [← hz, sumL_4 l] at e
  obtain ⟨a, b, c, d⟩ := four_at e
  have z : ∀ {x y : F}, fa x y = x → y = 0 := fun {x y} e => by
    rw [← fa_canc x y, e, fa_self]
  rw [sumL_4 m, z a, z b, z c, z d]
/-- A row with a right code that differs in at most two places. -/
def Nr (l m : List F) : Prop := sumL m = [0, 0, 0, 0] ∧ ∃ i k, At2 l m i k
theorem Nr.len {l m : List F} (h : Nr l m) : m.length = l.length := h.2.choose_spec.choose_spec.1
theorem list_same {l m : List F} (h : m.length = l.length) (e : ∀ q, q < l.length → m.getD q 0 = l.getD q 0) : m = l := by
  rw [← range_getD m, ← range_getD l, h]
  exact List.map_congr_left fun q hq => e q (List.mem_range.1 hq)
theorem Nr.only {l m m' : List F} (hn : l.length ≤ 255) (h : Nr l m) (h' : Nr l m') : m = m' := by
  obtain ⟨z, i, k, a⟩ := h
  obtain ⟨z', i', k', a'⟩ := h'
  have hl : m.length = m'.length := a.1.trans a'.1.symm
  have hml : m'.length = l.length := a'.1
  obtain ⟨s0, s1, s2', s3⟩ := four_at ((sumL_4 m).symm.trans z)
  obtain ⟨t0, t1, t2, t3⟩ := four_at ((sumL_4 m').symm.trans z')
  refine list_same hl fun q hq => ?_
  have u := uniq m'.length (by omega) (fun q => fa (m'.getD q 0) (m.getD q 0)) [i, k, i', k'] (by simp) (fun q hq hd => ?_) (fun j hj => ?_) q hq
  · exact (fa_eq_zero u).symm
  · by_cases e1 : q = i
    · simp [e1]
    · by_cases e2 : q = k
      · simp [e2]
      · by_cases e3 : q = i'
        · simp [e3]
        · by_cases e4 : q = k'
          · simp [e4]
          · exfalso
            apply hd
            show fa (m'.getD q 0) (m.getD q 0) = 0
            rw [a.2.2.2.2 q (by omega) e1 e2, a'.2.2.2.2 q (by omega) e3 e4, fa_self]
  · have e := sums_apart m' m hl j
    rw [← e]
    match j, hj with
    | 0, _ => rw [s0, t0, fa_self]
    | 1, _ => rw [s1, t1, fa_self]
    | 2, _ => rw [s2', t2, fa_self]
    | 3, _ => rw [s3, t3, fa_self]
theorem set_getD (l : List F) (i q : Nat) (x : F) (hi : i < l.length) : (l.set i x).getD q 0 = if q = i then x else l.getD q 0 := by
  simp only [List.getD_eq_getElem?_getD, List.getElem?_set]
  by_cases e : i = q
  · subst e; simp [hi]
  · rw [if_neg e, if_neg (Ne.symm e)]
/-- Two places changed. -/
def put2 (l : List F) (i k : Nat) (a b : F) : List F := (l.set i (fa (l.getD i 0) a)).set k (fa (l.getD k 0) b)
theorem put2_at2 (l : List F) (i k : Nat) (a b : F) (hi : i < l.length) (hk : k < l.length) (hne : i ≠ k) : At2 l (put2 l i k a b) i k ∧ fa (l.getD i 0) ((put2 l i k a b).getD i 0) = a ∧ fa (l.getD k 0) ((put2 l i k a b).getD k 0) = b := by
  have g : ∀ q, (put2 l i k a b).getD q 0 = if q = k then fa (l.getD k 0) b else if q = i then fa (l.getD i 0) a else l.getD q 0 := fun q => by
    unfold put2
    rw [set_getD _ k q _ (by rw [List.length_set]; exact hk), set_getD _ i q _ hi]
  refine ⟨⟨by simp [put2], hi, hk, hne, fun q hq h1 h2 => ?_⟩, ?_, ?_⟩
  · rw [g, if_neg h2, if_neg h1]
  · rw [g, if_neg hne, if_pos rfl, fa_canc]
  · rw [g, if_pos rfl, fa_canc]
theorem put2_nr (l : List F) (i k : Nat) (a b : F) (hi : i < l.length) (hk : k < l.length) (hne : i ≠ k) (hz : sumL l = TL (X l.length i) (X l.length k) a b) : Nr l (put2 l i k a b) := by
  obtain ⟨h, e1, e2⟩ := put2_at2 l i k a b hi hk hne
  exact ⟨at2_zero h (by rw [e1, e2]; exact hz), i, k, h⟩
theorem X_ne (n i k : Nat) (hn : n ≤ 255) (hi : i < n) (hk : k < n) (h : i ≠ k) : fa (X n i) (X n k) ≠ 0 := fa_ne fun e => h (X_inj n i k hn hi hk e)
theorem two_iff (l : List F) (i k : Nat) : two l i k ↔ sumL l = [sumG l 0, sumG l 1, s2 (X l.length i) (X l.length k) (sumG l 0) (sumG l 1) 2, s2 (X l.length i) (X l.length k) (sumG l 0) (sumG l 1) 3] := ⟨fun h => h.symm, fun h => h.symm⟩
theorem two_of (l : List F) (i k : Nat) (a b : F) (h : sumL l = TL (X l.length i) (X l.length k) a b) : two l i k := by
  obtain ⟨h0, h1, h2, h3⟩ := four_at ((sumL_4 l).symm.trans h)
  rw [two_iff, sumL_4]
  have e2 : s2 (X l.length i) (X l.length k) (sumG l 0) (sumG l 1) 2 = sumG l 2 := by
    show fa (fm (fa _ _) (sumG l 1)) (fm (fm _ _) (sumG l 0)) = _
    rw [h0, h1, T2_eq, h2]
  have e3 : s2 (X l.length i) (X l.length k) (sumG l 0) (sumG l 1) 3 = sumG l 3 := by
    show fa (fm (fa _ _) (s2 (X l.length i) (X l.length k) (sumG l 0) (sumG l 1) 2)) (fm (fm _ _) (sumG l 1)) = _
    rw [e2, h2, h1, T3_eq, h3]
  rw [e2, e3]
theorem two_tl (l : List F) (hn : l.length ≤ 255) (i k : Nat) (hi : i < l.length) (hk : k < l.length) (hne : i ≠ k) (h : two l i k) : sumL l = TL (X l.length i) (X l.length k) (wrA l i k) (wrB l i k) := by
  rw [two_iff] at h
  obtain ⟨_, _, h2, h3⟩ := four_at ((sumL_4 l).symm.trans h)
  obtain ⟨t0, t1⟩ := T_back (X l.length i) (X l.length k) (sumG l 0) (sumG l 1) _ (wrA l i k) (invF_mul _ (X_ne _ i k hn hi hk hne)) rfl
  have e2 : sumG l 2 = T2 (X l.length i) (X l.length k) (wrA l i k) (wrB l i k) := by
    rw [h2, ← T2_eq]
    show fa (fm (fa _ _) (sumG l 1)) (fm (fm _ _) (sumG l 0)) = fa (fm _ (T1 _ _ (wrA l i k) (fa (sumG l 0) (wrA l i k)))) (fm _ (T0 (wrA l i k) (fa (sumG l 0) (wrA l i k))))
    rw [t0, t1]
  have e3 : sumG l 3 = T3 (X l.length i) (X l.length k) (wrA l i k) (wrB l i k) := by
    rw [h3, ← T3_eq]
    show fa (fm (fa _ _) (s2 (X l.length i) (X l.length k) (sumG l 0) (sumG l 1) 2)) (fm (fm _ _) (sumG l 1)) = fa (fm _ (T2 _ _ (wrA l i k) (wrB l i k))) (fm _ (T1 _ _ (wrA l i k) (fa (sumG l 0) (wrA l i k))))
    rw [t1, ← e2, h2]
  rw [sumL_4, e2, e3]
  show [sumG l 0, sumG l 1, _, _] = [T0 (wrA l i k) (fa (sumG l 0) (wrA l i k)), T1 _ _ (wrA l i k) (fa (sumG l 0) (wrA l i k)), _, _]
  rw [t0, t1]
theorem At2.swap {l m : List F} {i k : Nat} (h : At2 l m i k) : At2 l m k i := ⟨h.1, h.2.2.1, h.2.1, Ne.symm h.2.2.2.1, fun q hq a b => h.2.2.2.2 q hq b a⟩
theorem Nr.down {l m : List F} (h : Nr l m) : ∃ i k, k < i ∧ At2 l m i k := by
  obtain ⟨_, i, k, a⟩ := h
  by_cases e : k < i
  · exact ⟨i, k, e, a⟩
  · exact ⟨k, i, by have := a.2.2.2.1; omega, a.swap⟩
/-- What a row is mended to has right sums only if it is near. -/
theorem MR.near {l m : List F} (hn : l.length ≤ 255) (h2 : 2 ≤ l.length) (h : MR l m) (hz : sumL m = [0, 0, 0, 0]) : Nr l m := by
  rcases h with ⟨i, k, hk, hi, ht, rfl⟩ | ⟨_, rfl⟩
  · exact put2_nr l i k _ _ hi (by omega) (by omega) (two_tl l hn i k hi (by omega) (by omega) ht)
  · exact ⟨hz, 1, 0, rfl, by omega, by omega, by decide, fun _ _ _ _ => rfl⟩
theorem MR.only {l m m0 : List F} (hn : l.length ≤ 255) (h : MR l m) (h0 : Nr l m0) : m = m0 := by
  rcases h with ⟨i, k, hk, hi, ht, rfl⟩ | ⟨hno, rfl⟩
  · exact Nr.only hn (put2_nr l i k _ _ hi (by omega) (by omega) (two_tl l hn i k hi (by omega) (by omega) ht)) h0
  · obtain ⟨i, k, hk, a⟩ := h0.down
    exact absurd (two_of _ i k _ _ (at2_of a h0.1)) (hno i k hk a.2.1)
/-- The program's row is a share's if there is one near. -/
theorem mend_yes {l m : List F} (hn : l.length ≤ 255) (h2 : 2 ≤ l.length) (h : MR l m) (hs : sumL m = [0, 0, 0, 0]) : Nr l m ∧ ∀ m0, Nr l m0 → m0 = m := ⟨h.near hn h2 hs, fun _ q => (h.only hn q).symm⟩
theorem dif_self (l : List F) : ∀ i, dif l l i = 0
  | 0 => rfl
  | i + 1 => by unfold dif; rw [if_pos rfl, dif_self l i]
theorem dif_comm (l m : List F) : ∀ i, dif l m i = dif m l i
  | 0 => rfl
  | i + 1 => by
    unfold dif
    rw [dif_comm l m i]
    by_cases e : l.getD i 0 = m.getD i 0
    · rw [if_pos e, if_pos e.symm]
    · rw [if_neg e, if_neg (Ne.symm e)]
theorem dif_none (l m : List F) : ∀ i, (∀ q, q < i → l.getD q 0 = m.getD q 0) → dif l m i = 0
  | 0, _ => rfl
  | i + 1, h => by unfold dif; rw [if_pos (h i (by omega)), dif_none l m i (fun q hq => h q (by omega))]
theorem dif_one (l m : List F) (p : Nat) (hp : l.getD p 0 ≠ m.getD p 0) : ∀ i, (∀ q, q < i → q ≠ p → l.getD q 0 = m.getD q 0) → p < i → dif l m i = 1
  | 0, _, h => by omega
  | i + 1, h, hi => by
    unfold dif
    by_cases e : p = i
    · subst e
      rw [if_neg hp, dif_none l m p (fun q hq => h q (by omega) (by omega))]
    · rw [if_pos (h i (by omega) (Ne.symm e)), dif_one l m p hp i (fun q hq => h q (by omega)) (by omega)]
theorem dif_two (l m : List F) (p r : Nat) (hpr : p < r) (hp : l.getD p 0 ≠ m.getD p 0) (hr : l.getD r 0 ≠ m.getD r 0) : ∀ i, (∀ q, q < i → q ≠ p → q ≠ r → l.getD q 0 = m.getD q 0) → r < i → dif l m i = 2
  | 0, _, h => by omega
  | i + 1, h, hi => by
    unfold dif
    by_cases e : r = i
    · subst e
      rw [if_neg hr, dif_one l m p hp r (fun q hq h1 => h q (by omega) h1 (by omega)) hpr]
    · rw [if_pos (h i (by omega) (by omega) (Ne.symm e)), dif_two l m p r hpr hp hr i (fun q hq => h q (by omega)) (by omega)]
/-- The reference's tests. -/
def one1 (l : List F) (i : Nat) : Prop := sumG l 1 = fm (sumG l 0) (X l.length i) ∧ sumG l 2 = fm (sumG l 0) (fm (X l.length i) (X l.length i)) ∧ sumG l 3 = fm (sumG l 0) (fm (X l.length i) (fm (X l.length i) (X l.length i)))
def rW (l : List F) (i k : Nat) : F := fm (fa (sumG l 1) (fm (sumG l 0) (X l.length i))) (invF (fa (X l.length i) (X l.length k)))
def rV (l : List F) (i k : Nat) : F := fa (sumG l 0) (rW l i k)
def two1 (l : List F) (i k : Nat) : Prop := sumG l 2 = T2 (X l.length i) (X l.length k) (rV l i k) (rW l i k) ∧ sumG l 3 = T3 (X l.length i) (X l.length k) (rV l i k) (rW l i k) ∧ rV l i k ≠ 0 ∧ rW l i k ≠ 0
theorem one1_tl (l : List F) (i k : Nat) (h : one1 l i) : sumL l = TL (X l.length i) (X l.length k) (sumG l 0) 0 := by
  obtain ⟨h1, h2, h3⟩ := h
  rw [sumL_4, h1, h2, h3]
  unfold TL T0 T1 T2 T3
  simp only [zero_fm, fa_zero]
theorem one1_of (l : List F) (i k : Nat) (a : F) (h : sumL l = TL (X l.length i) (X l.length k) a 0) : one1 l i ∧ sumG l 0 = a := by
  obtain ⟨h0, h1, h2, h3⟩ := four_at ((sumL_4 l).symm.trans h)
  unfold T0 T1 T2 T3 at *
  simp only [zero_fm, fa_zero] at h0 h1 h2 h3
  refine ⟨⟨?_, ?_, ?_⟩, h0⟩
  · rw [h0, h1]
  · rw [h0, h2]
  · rw [h0, h3]
theorem two1_tl (l : List F) (hn : l.length ≤ 255) (i k : Nat) (hi : i < l.length) (hk : k < l.length) (hne : i ≠ k) (h : two1 l i k) : sumL l = TL (X l.length i) (X l.length k) (rV l i k) (rW l i k) := by
  obtain ⟨t0, t1⟩ := T_back (X l.length k) (X l.length i) (sumG l 0) (sumG l 1) _ (rW l i k) (invF_mul _ (X_ne _ k i hn hk hi (Ne.symm hne))) (by unfold rW; rw [fa_comm (sumG l 1), fa_comm (X l.length i)])
  obtain ⟨h2, h3, _, _⟩ := h
  rw [sumL_4, h2, h3]
  have e0 : sumG l 0 = T0 (rV l i k) (rW l i k) := by rw [show T0 (rV l i k) (rW l i k) = T0 (rW l i k) (rV l i k) from fa_comm _ _]; exact t0.symm
  have e1 : sumG l 1 = T1 (X l.length i) (X l.length k) (rV l i k) (rW l i k) := by rw [show T1 (X l.length i) (X l.length k) (rV l i k) (rW l i k) = T1 (X l.length k) (X l.length i) (rW l i k) (rV l i k) from fa_comm _ _]; exact t1.symm
  show [sumG l 0, sumG l 1, _, _] = [_, _, _, _]
  rw [← e0, ← e1]
theorem two1_of (l : List F) (hn : l.length ≤ 255) (i k : Nat) (hi : i < l.length) (hk : k < l.length) (hne : i ≠ k) (a b : F) (ha : a ≠ 0) (hb : b ≠ 0) (h : sumL l = TL (X l.length i) (X l.length k) a b) : two1 l i k ∧ rV l i k = a ∧ rW l i k = b := by
  obtain ⟨h0, h1, h2, h3⟩ := four_at ((sumL_4 l).symm.trans h)
  have eW : rW l i k = b := by
    have q := T_only (X l.length k) (X l.length i) b a _ (invF_mul _ (X_ne _ k i hn hk hi (Ne.symm hne)))
    rw [show T0 b a = T0 a b from fa_comm _ _, show T1 (X l.length k) (X l.length i) b a = T1 (X l.length i) (X l.length k) a b from fa_comm _ _, ← h0, ← h1] at q
    unfold rW
    rw [fa_comm (sumG l 1), fa_comm (X l.length i)]
    exact q
  have eV : rV l i k = a := by
    unfold rV
    rw [eW, h0]
    unfold T0
    rw [fa_comm a b, fa_comm (fa b a), fa_canc]
  unfold two1
  rw [eV, eW]
  exact ⟨⟨h2, h3, ha, hb⟩, rfl, rfl⟩
/-- If no test is passed, no row is near. -/
theorem none_near (l : List F) (hn : l.length ≤ 255) (h0 : sumL l ≠ [0, 0, 0, 0]) (h1 : ∀ i, i < l.length → ¬ one1 l i) (h2 : ∀ i k, i < k → k < l.length → ¬ two1 l i k) (m : List F) : ¬ Nr l m := fun h => by
  obtain ⟨i, k, hk, a⟩ := h.down
  have t := at2_of a h.1
  have ts := at2_of a.swap h.1
  by_cases ea : fa (l.getD i 0) (m.getD i 0) = 0
  · rw [ea] at ts
    exact h1 k a.2.2.1 (one1_of l k i _ ts).1
  · by_cases eb : fa (l.getD k 0) (m.getD k 0) = 0
    · rw [eb] at t
      exact h1 i a.2.1 (one1_of l i k _ t).1
    · exact h2 k i hk a.2.1 (two1_of l hn k i a.2.2.1 a.2.1 (by omega) _ _ eb ea ts).1
theorem one_near (l : List F) (hn : l.length ≤ 255) (hn2 : 2 ≤ l.length) (h0 : sumL l ≠ [0, 0, 0, 0]) (i : Nat) (hi : i < l.length) (h : one1 l i) : Nr l (l.set i (fa (l.getD i 0) (sumG l 0))) ∧ dif (l.set i (fa (l.getD i 0) (sumG l 0))) l l.length = 1 ∧ sumG l 0 ≠ 0 := by
  obtain ⟨k, hk, hne⟩ : ∃ k, k < l.length ∧ i ≠ k := by
    by_cases e : i = 0
    · exact ⟨1, by omega, by omega⟩
    · exact ⟨0, by omega, e⟩
  have h00 : sumG l 0 ≠ 0 := fun e => by
    obtain ⟨h1, h2, h3⟩ := h
    rw [e, zero_fm] at h1 h2 h3
    exact h0 (by rw [sumL_4, e, h1, h2, h3])
  have e : put2 l i k (sumG l 0) 0 = l.set i (fa (l.getD i 0) (sumG l 0)) := by
    refine list_same (by simp [put2]) fun q hq => ?_
    unfold put2
    rw [fa_zero, set_getD _ k q _ (by rw [List.length_set]; exact hk), set_getD _ i q _ hi]
    by_cases e : q = k
    · rw [if_pos e, if_neg (by omega), e]
    · rw [if_neg e]
  refine ⟨by rw [← e]; exact put2_nr l i k _ _ hi hk hne (one1_tl l i k h), ?_, h00⟩
  refine dif_one _ _ i ?_ _ (fun q _ hq => by rw [set_getD _ _ _ _ hi, if_neg hq]) hi
  rw [set_getD _ _ _ _ hi, if_pos rfl]
  intro c
  apply h00
  rw [← fa_canc (l.getD i 0) (sumG l 0), c, fa_self]
theorem two_near (l : List F) (hn : l.length ≤ 255) (i k : Nat) (hi : i < k) (hk : k < l.length) (h : two1 l i k) : Nr l (put2 l i k (rV l i k) (rW l i k)) ∧ dif (put2 l i k (rV l i k) (rW l i k)) l l.length = 2 := by
  obtain ⟨a, e1, e2⟩ := put2_at2 l i k (rV l i k) (rW l i k) (by omega) hk (by omega)
  refine ⟨put2_nr l i k _ _ (by omega) hk (by omega) (two1_tl l hn i k (by omega) hk (by omega) h), ?_⟩
  refine dif_two _ _ i k hi (fun c => h.2.2.1 ?_) (fun c => h.2.2.2 ?_) _ (fun q hq h1 h2 => a.2.2.2.2 q hq h1 h2) hk
  · rw [← e1, c, fa_self]
  · rw [← e2, c, fa_self]
end Go.Proofs.Ytffejkfkkciaaaa
