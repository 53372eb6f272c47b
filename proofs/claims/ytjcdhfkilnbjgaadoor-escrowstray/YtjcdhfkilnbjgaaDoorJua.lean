import Derived.Test.YtjcdhfkilnbjgaaDoorPart12
namespace Go.Proofs.YtjcdhfkilnbjgaaDoor
open Go.RowKit
set_option linter.unusedVariables false
set_option linter.unusedSimpArgs false
set_option maxRecDepth 100000
theorem lastIx_seq {R : Nat → List F} {n : Nat} (h : ∀ i, i < n → ((R i).getD 3 0).1 = i + 1) (j : Nat) : lastIx R (j + 1) n = if j < n then some j else none := by
  cases e : lastIx R (j + 1) n with
  | none =>
    rw [if_neg]
    intro hj
    exact lastIx_none R (j + 1) n e j hj (h j hj)
  | some k =>
    obtain ⟨h1, h2⟩ := lastIx_some R (j + 1) n k e
    rw [h k h1] at h2
    have hk : k = j := by omega
    subst hk
    rw [if_pos h1]
theorem ordL_seq {R : Nat → List F} {n : Nat} (h : ∀ i, i < n → ((R i).getD 3 0).1 = i + 1) : ∀ t, ordL R n t = List.range (min t n)
  | 0 => by simp [ordL]
  | t + 1 => by
    rw [ordL_succ, ordL_seq h t, lastIx_seq h t]
    by_cases ht : t < n
    · rw [if_pos ht, show min t n = t by omega, show min (t + 1) n = t + 1 by omega, List.range_succ]
      rfl
    · rw [if_neg ht, show min t n = n by omega, show min (t + 1) n = n by omega]
      simp
theorem onN_seq {R : Nat → List F} {n : Nat} (h : ∀ i, i < n → ((R i).getD 3 0).1 = i + 1) (hn : n ≤ 255) : onN R n = n := by
  unfold onN
  rw [ordL_seq h, List.length_range]
  omega
theorem onR_seq {R : Nat → List F} {n : Nat} (h : ∀ i, i < n → ((R i).getD 3 0).1 = i + 1) (hn : n ≤ 255) (i : Nat) (hi : i < n) : onR R n i = R i := by
  unfold onR
  rw [ordL_seq h, show min 255 n = n by omega]
  congr 1
  simp [List.getD_eq_getElem?_getD, List.getElem?_range hi]
/-- The same letters, another secret. -/
def Shg.sec (z : Shg) (l' : List F) : Shg := { z with l := l' }
theorem Shg.sec_ok {z : Shg} (h : z.ok) (l' : List F) (hl : l'.length = z.l.length) : (z.sec l').ok := ⟨by show z.bs.1 = l'.length; rw [hl]; exact h.size, by show 1 ≤ l'.length; rw [hl]; exact h.lo, by show l'.length ≤ 64; rw [hl]; exact h.hi, h.need, h.most⟩
theorem row_0 (z : Shg) (h : z.ok) : z.row.getD 0 0 = z.l.getD 0 0 := by
  unfold Shg.row rowS
  rw [List.getD_eq_getElem?_getD, List.getElem?_append_left (by have := h.lo; omega), List.getD_eq_getElem?_getD]
theorem cf_differ {z : Shg} (h : z.ok) (l' : List F) (hl : l'.length = z.l.length) (hne : l'.getD 0 0 ≠ z.l.getD 0 0) (x : F) : pv x ((z.sec l').cf 0) ≠ pv x (z.cf 0) := by
  obtain ⟨k, hk⟩ : ∃ k, z.bn.1 = k + 1 := ⟨z.bn.1 - 1, by have := h.need; omega⟩
  have e : ∀ y : Shg, y.R = z.R → y.l.length = z.l.length → y.bn = z.bn → y.cf 0 = ((List.range k).map fun t => z.R.getD ((z.bn.1 - 2 - t) * (z.l.length + 4) + 0) 0) ++ [y.row.getD 0 0] := fun y h1 h2 h3 => by
    unfold Shg.cf cfL
    rw [h3, hk, List.range_succ, List.map_append, List.map_cons, List.map_nil, if_neg (by omega), h1, h2]
    congr 1
    refine List.map_congr_left fun t ht => ?_
    rw [if_pos (by have := List.mem_range.1 ht; omega)]
  intro q
  rw [e (z.sec l') rfl hl rfl, e z rfl rfl rfl, pv_snoc, pv_snoc, row_0 z h, row_0 _ (Shg.sec_ok h l' hl)] at q
  exact hne (fa_inj (c := fm (pv x ((List.range k).map fun t => z.R.getD ((z.bn.1 - 2 - t) * (z.l.length + 4) + 0) 0)) x) (by rw [fa_comm (l'.getD 0 0), fa_comm (z.l.getD 0 0)]; exact q))
theorem vl_0 {z : Shg} (h : z.ok) (x : F) : (vlF (z.at' x)).getD 0 0 = pv x (z.cf 0) := by
  rw [Shg.vl h]
  unfold valsL
  rw [List.getD_eq_getElem?_getD, List.getElem?_map, List.getElem?_range (by omega)]
  rfl
/-- Shares of two sharings that differ in the first byte alone. -/
structure Mx (z : Shg) (l' : List F) (R : Nat → List F) (n : Nat) (X : Nat → F) (b : Nat → Bool) : Prop where
  ok : z.ok
  len : l'.length = z.l.length
  ne : l'.getD 0 0 ≠ z.l.getD 0 0
  at' : ∀ i, i < n → R i = if b i then (z.sec l').at' (X i) else z.at' (X i)
theorem Mx.get {z : Shg} {l' : List F} {R : Nat → List F} {n : Nat} {X : Nat → F} {b : Nat → Bool} (h : Mx z l' R n X b) (i : Nat) (hi : i < n) : (R i).getD 0 0 = z.b0 ∧ (R i).getD 1 0 = z.b1 ∧ (R i).getD 2 0 = z.bn ∧ (R i).getD 3 0 = X i ∧ (R i).getD 4 0 = z.bs := by
  rw [h.at' i hi]
  cases b i with
  | false => exact ⟨z.at_0 _, z.at_1 _, z.at_2 _, z.at_3 _, z.at_4 _⟩
  | true => exact ⟨(z.sec l').at_0 _, (z.sec l').at_1 _, (z.sec l').at_2 _, (z.sec l').at_3 _, (z.sec l').at_4 _⟩
theorem Mx.alk {z : Shg} {l' : List F} {R : Nat → List F} {n : Nat} {X : Nat → F} {b : Nat → Bool} (h : Mx z l' R n X b) : AlkP R n := by
  intro i hi
  obtain ⟨a0, a1, a2, a3, a4⟩ := h.get i hi
  obtain ⟨b0, b1, b2, b3, b4⟩ := h.get 0 (by omega)
  unfold setN
  rw [a0, a1, a2, a4, b0, b1, b2, b4]
  exact ⟨rfl, rfl, rfl⟩
theorem Mx.val {z : Shg} {l' : List F} {R : Nat → List F} {n : Nat} {X : Nat → F} {b : Nat → Bool} (h : Mx z l' R n X b) (i : Nat) (hi : i < n) : (vlF (R i)).getD 0 0 = if b i then pv (X i) ((z.sec l').cf 0) else pv (X i) (z.cf 0) := by
  rw [h.at' i hi]
  cases b i with
  | false => exact vl_0 h.ok _
  | true => exact vl_0 (Shg.sec_ok h.ok l' h.len) _
theorem Mx.col {z : Shg} {l' : List F} {R : Nat → List F} {n : Nat} {X : Nat → F} {b : Nat → Bool} (h : Mx z l' R n X b) (i : Nat) (hi : i < n) : (R i).getD 5 0 = if b i then pv (X i) ((z.sec l').cf 0) else pv (X i) (z.cf 0) := by
  rw [h.at' i hi]
  cases b i with
  | false => exact z.at_v _ 0 (by omega)
  | true => exact (z.sec l').at_v _ 0 (by omega)
/-- Two of one index. -/
theorem Mx.twice {z : Shg} {l' : List F} {R : Nat → List F} {n : Nat} {X : Nat → F} {b : Nat → Bool} (h : Mx z l' R n X b) (k m : Nat) (hk : k < m) (hm : m < n) (hx : X k = X m) (h1 : b k = false) (h2 : b m = true) : TwiceP R n := by
  refine ⟨k, m, hk, hm, ?_, fun e => ?_⟩
  · rw [(h.get k (by omega)).2.2.2.1, (h.get m hm).2.2.2.1, hx]
  · have q : (vlF (R k)).getD 0 0 = (vlF (R m)).getD 0 0 := congrArg (fun l : List F => l.getD 0 0) e
    rw [h.val k (by omega), h.val m hm, h1, h2, hx] at q
    exact cf_differ h.ok l' h.len h.ne (X m) q.symm
/-- One share in its place is another sharing's: it does not lie where the others do. -/
theorem Mx.unfit {z : Shg} {l' : List F} {R : Nat → List F} {n : Nat} {b : Nat → Bool} (h : Mx z l' R n (fun i => fN (i + 1)) b) (k : Nat) (hk : k < n) (hb : ∀ i, b i = decide (i = k)) (hn : z.bn.1 < n) (h255 : n ≤ 255) : ¬ FitA (onR R n) z.bn.1 z.l.length n := by
  intro hf
  have hix : ∀ i, i < n → ((R i).getD 3 0).1 = i + 1 := fun i hi => by rw [(h.get i hi).2.2.2.1, fN_val _ (by omega)]
  have hon := fun i hi => onR_seq hix h255 i hi
  have hgd : ∀ q, q < z.bn.1 → (ixsL (onR R n) z.bn.1).getD q 0 = fN (q + 1) := fun q hq => by
    simp only [ixsL, List.getD_eq_getElem?_getD, List.getElem?_map, List.getElem?_range hq, Option.map_some, Option.getD_some]
    rw [← List.getD_eq_getElem?_getD, hon q (by omega), (h.get q (by omega)).2.2.2.1]
  have hl : (ixsL (onR R n) z.bn.1).length = z.bn.1 := by simp [ixsL]
  have hap : ApartP (ixsL (onR R n) z.bn.1) := on_apart R n z.bn.1 (by rw [onN_seq hix h255]; omega)
  have hC : (ftC (onR R n) z.bn.1 0).length = z.bn.1 := by unfold ftC; rw [thruL_len, hl]
  -- every share lies on the polynomial that was found
  have hall : ∀ i, i < n → pv (fN (i + 1)) (ftC (onR R n) z.bn.1 0) = (R i).getD 5 0 := fun i hi => by
    by_cases hi2 : i < z.bn.1
    · have e := thru_at (ixsL (onR R n) z.bn.1) (colL (onR R n) z.bn.1 0) hap i (by rw [hl]; exact hi2)
      rw [hl, hgd i hi2] at e
      unfold ftC
      rw [e]
      simp only [colL, List.getD_eq_getElem?_getD, List.getElem?_map, List.getElem?_range hi2, Option.map_some, Option.getD_some]
      rw [hon i hi]
    · have q := hf i (by omega) hi
      unfold fitV at q
      rw [hon i hi, (h.get i hi).2.2.2.1] at q
      have q2 : ((List.range (z.l.length + 4)).map fun v => pv (fN (i + 1)) (ftC (onR R n) z.bn.1 v)).getD 0 0 = (vlF (R i)).getD 0 0 := congrArg (fun l : List F => l.getD 0 0) q
      have q3 : ((List.range (z.l.length + 4)).map fun v => pv (fN (i + 1)) (ftC (onR R n) z.bn.1 v)).getD 0 0 = pv (fN (i + 1)) (ftC (onR R n) z.bn.1 0) := by
        rw [List.getD_eq_getElem?_getD, List.getElem?_map, List.getElem?_range (show 0 < z.l.length + 4 by omega)]
        rfl
      rw [← q3, q2, h.val i hi, h.col i hi]
  have he : ftC (onR R n) z.bn.1 0 = z.cf 0 := by
    let f : Nat → Nat := fun i => if i < k then i else i + 1
    have hf1 : ∀ i, i < z.bn.1 → f i < n ∧ f i ≠ k := fun i hi => by
      show (if i < k then i else i + 1) < n ∧ (if i < k then i else i + 1) ≠ k
      split <;> omega
    have hpg : ∀ i, i < z.bn.1 → ((List.range z.bn.1).map fun i => fN (f i + 1)).getD i 0 = fN (f i + 1) := fun i hi => by
      simp only [List.getD_eq_getElem?_getD, List.getElem?_map, List.getElem?_range hi, Option.map_some, Option.getD_some]
    refine poly_only z.bn.1 _ _ ((List.range z.bn.1).map fun i => fN (f i + 1)) hC (z.cf_len 0) (by simp) ?_ fun i hi => ?_
    · intro i j hi hj e
      simp only [List.length_map, List.length_range] at hi hj
      rw [hpg i hi, hpg j hj] at e
      have e1 := congrArg (fun a : F => a.1) e
      rw [fN_val _ (by have := (hf1 i hi).1; omega), fN_val _ (by have := (hf1 j hj).1; omega)] at e1
      have e2 : (if i < k then i else i + 1) = if j < k then j else j + 1 := by
        show f i = f j
        omega
      split at e2 <;> split at e2 <;> omega
    · rw [hpg i hi, hall _ (hf1 i hi).1, h.col _ (hf1 i hi).1, hb, decide_eq_false (hf1 i hi).2]
      rfl
  have q := hall k hk
  rw [he, h.col k hk, hb, decide_eq_true rfl] at q
  exact cf_differ h.ok l' h.len h.ne _ q.symm
/-- Why lines that are all shares give nothing. -/
theorem join_code {T : Nat → ByteArray} {n M k : Nat} {e : Ending} {w w' : World} (hg : ∀ i, i < n → ∃ d, MGood (T i) (gR (T i)) d) (hn : ¬ JgP (fun i => gR (T i)) n) (hk : ∀ q, JnP (fun i => gR (T i)) n q → q = k) (hj : JoQ T n M e w w') :
    e = .returned (.tuple #[.slice none 0 0, .int .i64 (k : Nat)]) ∧ Below M w w' := by
  obtain ⟨⟨q, hq, he⟩ | ⟨_, hg2, _⟩, hbl⟩ := hj
  · have := hk q (jr_all hg hq)
    subst this
    exact ⟨he, hbl⟩
  · exact (hn hg2).elim
theorem code_115 {R : Nat → List F} {n q : Nat} (h0 : n ≠ 0) (h : ¬ AlkP R n) (hq : JnP R n q) : q = 115 := by
  rcases hq with hk | hk | hk | hk | hk
  · exact absurd hk.1 h0
  · exact hk.2
  · exact absurd hk.1 h
  · exact absurd hk.2.1 h
  · exact absurd hk.2.1 h
theorem code_116 {R : Nat → List F} {n q : Nat} (h0 : n ≠ 0) (h : AlkP R n) (h2 : TwiceP R n) (hq : JnP R n q) : q = 116 := by
  rcases hq with hk | hk | hk | hk | hk
  · exact absurd hk.1 h0
  · exact absurd h hk.1
  · exact hk.2.2
  · exact absurd h2 hk.2.2.1
  · exact absurd h2 hk.2.2.1
theorem code_117 {R : Nat → List F} {n q : Nat} (h0 : n ≠ 0) (h : AlkP R n) (h2 : ¬ TwiceP R n) (h3 : ((R 0).getD 2 0).1 ≤ onN R n) (hq : JnP R n q) : q = 117 := by
  rcases hq with hk | hk | hk | hk | hk
  · exact absurd hk.1 h0
  · exact absurd h hk.1
  · exact absurd hk.2.1 h2
  · exact absurd hk.2.2.2.1 (by omega)
  · exact hk.2.2.2.2.2
end Go.Proofs.YtjcdhfkilnbjgaaDoor
