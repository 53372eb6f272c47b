import Derived.Test.YtbpkocohddlbhaaDoorPart01
import Derived.Deep.QuietTactic
import Derived.BigQuiet
import Derived.Test.YtbpkocohddlbhaaDoorPart00
namespace Go.Proofs.YtbpkocohddlbhaaDoor
open Go.RowKit
set_option linter.unusedVariables false
set_option linter.unusedSimpArgs false
set_option maxRecDepth 100000
/-- append([]byte{}, l...), as a row of one's own. -/
theorem wpList_clone_own {ops : Array Oper} {rest : List Oper} {o : Oper} {a : Act} {Q : Exit → Act → World → Prop} {w : World} (hgd : o.guard = none) (s x : Operand)
    (ho : o.op = .call { callee := .builtin .append, args := #[s, x], argTypes := #[23, 23] }) (k : Nat) (hs : a.eval s = .slice (some ⟨k, 0, none⟩) 0 0) (hk : w.heap[k]? = some (.cells #[] 5 (0, 0)))
    (b off n c : Nat) (l : List F) (hx : a.eval x = .slice (some ⟨b, off, none⟩) n c) (hl : l.length = n) (h1 : 1 ≤ n) (hn : n ≤ 4000) (hr : Rw w b off l)
    (h : ∀ v w', w'.ownsRow k 5 1 v n (fc l) → Below k w w' → wpList Tryd.prog ops Q rest (a.put o.dst v) w') : wpList Tryd.prog ops Q (o :: rest) a w :=
  wpList_plain hgd fun _ hK => by
    obtain ⟨i0, hi, hz0, hz1, hz2⟩ := info_parts Tryd.infoB
    have hlt : k < w.heap.size := (Array.getElem?_eq_some_iff.1 hk).1
    obtain ⟨g, cap, w', e, h2, h3, h4, h5⟩ := run_append_lies (P := Tryd.prog) w 23 o.type k 5 i0 (.int .u8 0) 1 1 Tryd.underlying23' hi hz0 hz1 hz2 rfl (by decide) _ 0 [] (own_none hk) ⟨b, off, none⟩ n c (fc l) (by rw [fc_len, hl, Nat.mul_one]) (fun j u hu => by
      have hj : j < l.length := by have := (List.getElem?_eq_some_iff.1 hu).1; rw [fc_len] at this; exact this
      rw [fc_at l j hj] at hu
      injection hu with hu
      rw [← hu, show (⟨b, off, none⟩ : Addr).add j = ⟨b, off + j, none⟩ by unfold Addr.add; split <;> simp_all]
      exact hr j hj) (fc_one l) h1 (Nat.le_trans (Nat.add_le_add_left hn 0) (by decide)) (by omega) (Nat.le_of_lt hlt) _ rfl
    rw [Nat.zero_add, List.nil_append] at h2
    rw [Nat.zero_add] at e
    have hb : Below k w w' := below_gb h3 (Nat.le_of_lt hlt) (Nat.le_refl _)
    unfold Oper.wp execOp
    simp only [ho, resolve, invoke, builtin, Sem.run_bind, Sem.run_pure, Result.andThen_ok, List.map_toArray, List.map_cons, List.map_nil, hs, hx, e]
    exact hK _ _ (h _ w' h2 hb)
/-- Words of a row. -/
def WLs (l : List F) : ByteArray := ⟨(wl (l.map fun a => (a.1 : Int)) (l.length / 2)).toArray⟩
theorem mapI_at (l : List F) (i : Nat) : (l.map fun a => (a.1 : Int)).getD i 0 = ((l.getD i 0).1 : Nat) := by
  by_cases h : i < l.length
  · simp [List.getD_eq_getElem?_getD, List.getElem?_map, List.getElem?_eq_getElem h]
  · simp [List.getD_eq_getElem?_getD, List.getElem?_map, List.getElem?_eq_none (Nat.le_of_not_lt h)]
theorem wordsF_ok (g o n c : Nat) (l : List F) (w : World) (hl : l.length = n) (hn : n ≤ 3000) (hnc : n ≤ c) (hcm : c ≤ 9223372036854775807) (h : Rw w g o l) : Calls Tryd.prog 35 #[.slice (some ⟨g, o, none⟩) n c] w fun e w' => e = .returned (.string (WLs l)) ∧ Below w.heap.size w w' := by
  have q := words_core g o n c (l.map fun a => (a.1 : Int)) w hn (fun i => by rw [mapI_at]; have := (l.getD i 0).2; omega) hnc hcm (fun i hi => by rw [mapI_at]; exact h i (by omega))
  unfold WLs
  rw [hl]
  exact q
/-- The code's bytes. -/
theorem four_more (l : List F) (a b c d : F) (j : Nat) : sumG (l ++ [a, b, c, d]) j = fa (sumG (l ++ [0, 0, 0, 0]) j) (fa (fm (Em (3 * j)) a) (fa (fm (Em (2 * j)) b) (fa (fm (Em j) c) d))) := by
  have e : ∀ a b c d : F, sumG (l ++ [a, b, c, d]) j = fa (fm (fa (fm (fa (fm (fa (fm (pv (Em j) l) (Em j)) a) (Em j)) b) (Em j)) c) (Em j)) d := fun a b c d => by
    unfold sumG
    rw [show l ++ [a, b, c, d] = (((l ++ [a]) ++ [b]) ++ [c]) ++ [d] by simp, pv_snoc, pv_snoc, pv_snoc, pv_snoc]
  rw [e, e]
  have e3 : Em (3 * j) = fm (fm (Em j) (Em j)) (Em j) := by rw [Em_mul, Em_mul]; congr 1; omega
  have e2 : Em (2 * j) = fm (Em j) (Em j) := by rw [Em_mul]; congr 1; omega
  rw [e3, e2]
  generalize Em j = E
  generalize pv E l = p
  simp only [fm_fa, fa_fm, fm_assoc, fa_assoc, fm_comm, fm_left, fa_comm, fa_left, fa_self, fa_canc, fa_zero, zero_fa, fm_zero, zero_fm]
/-- The equations for the code. -/
def codM (s : Nat → F) : Nat → Nat → F := fun j k => if k = 4 then s j else Em ((3 - k) * j)
theorem codM_sm (s z : Nat → F) (j : Nat) : sm 5 (fun k => fm (codM s j k) (z k)) = fa (fa (fa (fa (fm (Em (3 * j)) (z 0)) (fm (Em (2 * j)) (z 1))) (fm (Em j) (z 2))) (z 3)) (fm (s j) (z 4)) := by
  show fa (fa (fa (fa (fa 0 (fm (codM s j 0) (z 0))) (fm (codM s j 1) (z 1))) (fm (codM s j 2) (z 2))) (fm (codM s j 3) (z 3))) (fm (codM s j 4) (z 4)) = _
  unfold codM
  simp only [zero_fa, if_true, show ¬ (0 : Nat) = 4 by decide, show ¬ (1 : Nat) = 4 by decide, show ¬ (2 : Nat) = 4 by decide, show ¬ (3 : Nat) = 4 by decide, if_false]
  rw [show 3 - 0 = 3 from rfl, show 3 - 1 = 2 from rfl, show 3 - 2 = 1 from rfl, show 3 - 3 = 0 from rfl, Nat.zero_mul, Nat.one_mul, Em_zero, fm_1]
theorem cod_ind (s : Nat → F) : Ind (codM s) 4 4 := fun z hz h4 k hk => by
  refine uniq 4 (by decide) z [0, 1, 2, 3] (by decide) (fun i hi _ => ?_) (fun j hj => ?_) k hk
  · match i, hi with
    | 0, _ => simp
    | 1, _ => simp
    | 2, _ => simp
    | 3, _ => simp
  · have q := hz j hj
    rw [codM_sm, h4, fm_zero, fa_zero] at q
    show fa (fa (fa (fa 0 (fm (z 0) (P (X 4 0) j))) (fm (z 1) (P (X 4 1) j))) (fm (z 2) (P (X 4 2) j))) (fm (z 3) (P (X 4 3) j)) = 0
    unfold X
    rw [P_Em, P_Em, P_Em, P_Em, show 4 - 1 - 0 = 3 from rfl, show 4 - 1 - 1 = 2 from rfl, show 4 - 1 - 2 = 1 from rfl, show 4 - 1 - 3 = 0 from rfl, Nat.zero_mul, Nat.one_mul, Em_zero, fm_one, zero_fa, fm_comm (z 0), fm_comm (z 1), fm_comm (z 2)]
    exact q
theorem cod_null (l : List F) (a b c d : F) (hz : sumL (l ++ [a, b, c, d]) = [0, 0, 0, 0]) : Nz (codM (sumG (l ++ [0, 0, 0, 0]))) 4 4 (zOf [a, b, c, d]) := fun j hj => by
  rw [codM_sm]
  have e : sumG (l ++ [a, b, c, d]) j = 0 := by
    obtain ⟨s0, s1, s2', s3⟩ := four_at ((sumL_4 _).symm.trans hz)
    match j, hj with
    | 0, _ => exact s0
    | 1, _ => exact s1
    | 2, _ => exact s2'
    | 3, _ => exact s3
  rw [four_more] at e
  show fa (fa (fa (fa (fm (Em (3 * j)) a) (fm (Em (2 * j)) b)) (fm (Em j) c)) d) (fm (sumG (l ++ [0, 0, 0, 0]) j) 1) = 0
  rw [fm_one, fa_comm, fa_assoc, fa_assoc]
  exact e
theorem cod_only (l xs x0 : List F) (h : xs.length = 4) (h0 : x0.length = 4) (hn : Nz (codM (sumG (l ++ [0, 0, 0, 0]))) 4 4 (zOf xs)) (hz : sumL (l ++ x0) = [0, 0, 0, 0]) : xs = x0 := by
  obtain ⟨a, b, c, d, rfl⟩ := four x0 h0
  have hn0 := cod_null l a b c d hz
  refine list_same (by rw [h, h0]) fun q hq => ?_
  rw [h0] at hq
  have e := cod_ind (sumG (l ++ [0, 0, 0, 0])) (fun k => fa (zOf xs k) (zOf [a, b, c, d] k)) (fun i hi => by
    rw [sm_congr _ (fun k => fa (fm (codM (sumG (l ++ [0, 0, 0, 0])) i k) (zOf xs k)) (fm (codM (sumG (l ++ [0, 0, 0, 0])) i k) (zOf [a, b, c, d] k))) _ (fun k _ => fm_fa _ _ _), sm_fa, hn i hi, hn0 i hi, fa_zero]) (by
    show fa (zOf xs 4) (zOf [a, b, c, d] 4) = 0
    rw [zOf_n xs 4 h, zOf_n [a, b, c, d] 4 rfl, fa_self]) q hq
  rw [zOf_lt xs q (by omega), zOf_lt _ q (by rw [h0]; exact hq)] at e
  exact fa_eq_zero e
end Go.Proofs.YtbpkocohddlbhaaDoor
namespace Go.Proofs.YtbpkocohddlbhaaDoor
set_option linter.unusedVariables false
set_option linter.unusedSimpArgs false
/-- Induction on a list from its end. -/
theorem snocI {p : List F → Prop} (h0 : p []) (h1 : ∀ l a, p l → p (l ++ [a])) : ∀ (n : Nat) (l : List F), l.length = n → p l
  | 0, l, h => by rw [List.eq_nil_of_length_eq_zero h]; exact h0
  | n + 1, l, h => by
    have hne : l ≠ [] := by intro e; rw [e] at h; cases h
    rw [← List.dropLast_concat_getLast hne]
    exact h1 _ _ (snocI h0 h1 n _ (by rw [List.length_dropLast]; omega))
theorem P_add (x : F) (a : Nat) : ∀ b, P x (a + b) = fm (P x a) (P x b)
  | 0 => by rw [Nat.add_zero, P_0, fm_one]
  | b + 1 => by
    show fm (P x (a + b)) x = fm (P x a) (fm (P x b) x)
    rw [P_add x a b, fm_assoc]
theorem pv_app (x : F) (a : List F) (b : List F) : pv x (a ++ b) = fa (fm (pv x a) (P x b.length)) (pv x b) := by
  refine snocI (p := fun b => pv x (a ++ b) = fa (fm (pv x a) (P x b.length)) (pv x b)) ?_ ?_ b.length b rfl
  · rw [List.append_nil]
    show pv x a = fa (fm (pv x a) 1) 0
    rw [fm_one, fa_zero]
  · intro l c ih
    rw [← List.append_assoc, pv_snoc, ih, pv_snoc, List.length_append]
    show fa (fm (fa (fm (pv x a) (P x l.length)) (pv x l)) x) c = fa (fm (pv x a) (fm (P x l.length) x)) (fa (fm (pv x l) x) c)
    rw [fa_fm, fm_assoc, fa_assoc]
theorem pv_zeros (x : F) : ∀ n, pv x (List.replicate n 0) = 0
  | 0 => rfl
  | n + 1 => by rw [List.replicate_succ', pv_snoc, pv_zeros x n, zero_fm, fa_zero]
/-- Two rows of one length, added; a row scaled. -/
def addL (a b : List F) : List F := (List.range a.length).map fun i => fa (a.getD i 0) (b.getD i 0)
def sclL (a : List F) (f : F) : List F := a.map fun c => fm c f
theorem pv_form (x : F) (l : List F) : pv x l = sm l.length (fun i => fm (l.getD i 0) (P x (l.length - 1 - i))) := by
  have h := pv_sm x l.length (fun i => l.getD i 0)
  rw [range_getD] at h
  exact h
theorem pv_addL (x : F) (a b : List F) (h : b.length = a.length) : pv x (addL a b) = fa (pv x a) (pv x b) := by
  unfold addL
  rw [pv_sm, pv_form x a, pv_form x b, h, ← sm_fa]
  exact sm_congr _ _ _ fun i _ => fa_fm _ _ _
theorem sclL_len (a : List F) (f : F) : (sclL a f).length = a.length := by simp [sclL]
theorem getD_map0 (l : List F) (g : F → F) (h0 : g 0 = 0) (i : Nat) : (l.map g).getD i 0 = g (l.getD i 0) := by
  by_cases h : i < l.length
  · simp [List.getD_eq_getElem?_getD, List.getElem?_map, List.getElem?_eq_getElem h]
  · simp [List.getD_eq_getElem?_getD, List.getElem?_map, List.getElem?_eq_none (Nat.le_of_not_lt h), h0]
theorem pv_sclL (x : F) (a : List F) (f : F) : pv x (sclL a f) = fm (pv x a) f := by
  rw [pv_form, pv_form x a, sclL_len, fm_comm, ← sm_fm]
  refine sm_congr _ _ _ fun i _ => ?_
  unfold sclL
  rw [getD_map0 a _ (zero_fm f), fm_comm (a.getD i 0) f, fm_assoc]
/-- A product with what is 0 at a root. -/
def wrL (l : List F) (r : F) : List F := addL (l ++ [0]) (0 :: sclL l r)
theorem wrL_len (l : List F) (r : F) : (wrL l r).length = l.length + 1 := by simp [wrL, addL]
theorem pv_cons0 (x : F) (l : List F) : pv x (0 :: l) = pv x l := by
  show List.foldl _ (fa (fm 0 x) 0) l = List.foldl _ 0 l
  rw [zero_fm, fa_zero]
theorem pv_wrL (x : F) (l : List F) (r : F) : pv x (wrL l r) = fm (pv x l) (fa x r) := by
  unfold wrL
  rw [pv_addL _ _ _ (by simp [sclL]), pv_snoc, pv_cons0, pv_sclL, fa_zero, fm_fa]
/-- The product over the other places, as far as number k, and what it is at the place itself. -/
def prdL (pl : List F) (i : Nat) : Nat → List F
  | 0 => [1]
  | k + 1 => if k = i then prdL pl i k else wrL (prdL pl i k) (pl.getD k 0)
def thrF (pl : List F) (i : Nat) : Nat → F
  | 0 => 1
  | k + 1 => if k = i then thrF pl i k else fm (thrF pl i k) (fa (pl.getD i 0) (pl.getD k 0))
theorem prdL_len (pl : List F) (i : Nat) : ∀ k, (prdL pl i k).length = if i < k then k else k + 1
  | 0 => by simp [prdL]
  | k + 1 => by
    unfold prdL
    by_cases e : k = i
    · rw [if_pos e, prdL_len pl i k, if_neg (by omega), if_pos (by omega)]
    · rw [if_neg e, wrL_len, prdL_len pl i k]
      by_cases h : i < k
      · rw [if_pos h, if_pos (by omega)]
      · rw [if_neg h, if_neg (by omega)]
theorem prdL_at (pl : List F) (i : Nat) : ∀ k, pv (pl.getD i 0) (prdL pl i k) = thrF pl i k
  | 0 => by
    show fa (fm 0 _) 1 = 1
    rw [zero_fm, zero_fa]
  | k + 1 => by
    unfold prdL thrF
    by_cases e : k = i
    · rw [if_pos e, if_pos e, prdL_at pl i k]
    · rw [if_neg e, if_neg e, pv_wrL, prdL_at pl i k]
theorem prdL_zero (pl : List F) (i q : Nat) (hq : q ≠ i) : ∀ k, q < k → pv (pl.getD q 0) (prdL pl i k) = 0
  | 0, h => by omega
  | k + 1, h => by
    unfold prdL
    by_cases e : k = i
    · rw [if_pos e, prdL_zero pl i q hq k (by omega)]
    · rw [if_neg e, pv_wrL]
      by_cases e2 : q = k
      · rw [e2, fa_self, fm_zero]
      · rw [prdL_zero pl i q hq k (by omega), zero_fm]
/-- Places without equal ones. -/
def ApartP (pl : List F) : Prop := ∀ i k, i < pl.length → k < pl.length → pl.getD i 0 = pl.getD k 0 → i = k
theorem thrF_ne (pl : List F) (hp : ApartP pl) (i : Nat) (hi : i < pl.length) : ∀ k, k ≤ pl.length → thrF pl i k ≠ 0
  | 0, _ => one_ne
  | k + 1, h => by
    unfold thrF
    by_cases e : k = i
    · rw [if_pos e]; exact thrF_ne pl hp i hi k (by omega)
    · rw [if_neg e]
      exact fm_ne (thrF_ne pl hp i hi k (by omega)) (fa_ne fun q => e (hp i k hi (by omega) q).symm)
/-- 1 at one place, 0 at the others. -/
def peakL (pl : List F) (i : Nat) : List F := sclL (prdL pl i pl.length) (invF (thrF pl i pl.length))
theorem peakL_len (pl : List F) (i : Nat) (hi : i < pl.length) : (peakL pl i).length = pl.length := by
  unfold peakL
  rw [sclL_len, prdL_len, if_pos hi]
theorem peakL_at (pl : List F) (hp : ApartP pl) (i q : Nat) (hi : i < pl.length) (hq : q < pl.length) : pv (pl.getD q 0) (peakL pl i) = if q = i then 1 else 0 := by
  unfold peakL
  rw [pv_sclL]
  by_cases e : q = i
  · rw [if_pos e, e, prdL_at]
    exact invF_mul _ (thrF_ne pl hp i hi _ (Nat.le_refl _))
  · rw [if_neg e, prdL_zero pl i q e _ hq, zero_fm]
/-- The polynomial through values at places, as far as number k. -/
def thruL (pl vs : List F) : Nat → List F
  | 0 => List.replicate pl.length 0
  | k + 1 => addL (thruL pl vs k) (sclL (peakL pl k) (vs.getD k 0))
theorem addL_len (a b : List F) : (addL a b).length = a.length := by simp [addL]
theorem thruL_len (pl vs : List F) : ∀ k, (thruL pl vs k).length = pl.length
  | 0 => by simp [thruL]
  | k + 1 => by unfold thruL; rw [addL_len, thruL_len pl vs k]
theorem thruL_pv (pl vs : List F) (x : F) : ∀ k, k ≤ pl.length → pv x (thruL pl vs k) = sm k (fun i => fm (pv x (peakL pl i)) (vs.getD i 0))
  | 0, _ => by unfold thruL; rw [pv_zeros]; rfl
  | k + 1, h => by
    unfold thruL
    rw [pv_addL _ _ _ (by rw [sclL_len, thruL_len, peakL_len _ _ (by omega)]), pv_sclL, thruL_pv pl vs x k (by omega)]
    rfl
theorem thru_at (pl vs : List F) (hp : ApartP pl) (q : Nat) (hq : q < pl.length) : pv (pl.getD q 0) (thruL pl vs pl.length) = vs.getD q 0 := by
  rw [thruL_pv _ _ _ _ (Nat.le_refl _), sm_one _ q _ hq fun i hi hne => ?_]
  · show fm (pv (pl.getD q 0) (peakL pl q)) _ = _
    rw [peakL_at pl hp q q hq hq, if_pos rfl, fm_1]
  · show fm (pv (pl.getD q 0) (peakL pl i)) _ = 0
    rw [peakL_at pl hp i q hi hq, if_neg (Ne.symm hne), zero_fm]
/-- The code that a row gets: with it the sums are zero. -/
def pw4 : List F := (List.range 4).map Em
theorem pw4_apart : ApartP pw4 := fun i k hi hk h => by
  have e : ∀ i, i < 4 → pw4.getD i 0 = Em i := fun i hi => by
    unfold pw4
    simp [List.getD_eq_getElem?_getD, List.getElem?_map, List.getElem?_range hi]
  rw [e i hi, e k hk] at h
  exact Em_inj i k (by have : pw4.length = 4 := rfl; omega) (by have : pw4.length = 4 := rfl; omega) h
def codeL (l : List F) : List F := thruL pw4 (sumL (l ++ [0, 0, 0, 0])) 4
theorem codeL_len (l : List F) : (codeL l).length = 4 := thruL_len _ _ _
theorem code_zero (l : List F) : sumL (l ++ codeL l) = [0, 0, 0, 0] := by
  have e : ∀ j, j < 4 → sumG (l ++ codeL l) j = 0 := fun j hj => by
    have h1 := thru_at pw4 (sumL (l ++ [0, 0, 0, 0])) pw4_apart j hj
    have h2 : pw4.getD j 0 = Em j := by
      unfold pw4
      simp [List.getD_eq_getElem?_getD, List.getElem?_map, List.getElem?_range hj]
    have h3 : (sumL (l ++ [0, 0, 0, 0])).getD j 0 = sumG (l ++ [0, 0, 0, 0]) j := by
      match j, hj with
      | 0, _ => rfl
      | 1, _ => rfl
      | 2, _ => rfl
      | 3, _ => rfl
    rw [h2, h3] at h1
    have h4 : sumG (l ++ [0, 0, 0, 0]) j = fm (pv (Em j) l) (P (Em j) 4) := by
      show pv (Em j) (l ++ List.replicate 4 0) = _
      rw [pv_app, pv_zeros, fa_zero]
      rfl
    show pv (Em j) (l ++ codeL l) = 0
    rw [pv_app, codeL_len, ← h4]
    show fa _ (pv (Em j) (thruL pw4 (sumL (l ++ [0, 0, 0, 0])) 4)) = 0
    rw [show (4 : Nat) = pw4.length from rfl, h1, fa_self]
  rw [sumL_4, e 0 (by decide), e 1 (by decide), e 2 (by decide), e 3 (by decide)]
end Go.Proofs.YtbpkocohddlbhaaDoor
namespace Go.Proofs.YtbpkocohddlbhaaDoor
set_option linter.unusedVariables false
set_option linter.unusedSimpArgs false
theorem sm_front (g : Nat → F) : ∀ n, sm (n + 1) g = fa (g 0) (sm n (fun i => g (i + 1)))
  | 0 => by show fa 0 (g 0) = fa (g 0) 0; rw [zero_fa, fa_zero]
  | n + 1 => by
    show fa (sm (n + 1) g) (g (n + 1)) = fa (g 0) (fa (sm n (fun i => g (i + 1))) (g (n + 1)))
    rw [sm_front g n, fa_assoc]
/-- The document's way of a polynomial's value, the constant first. -/
def valF (l : List F) (x : F) : F := sm l.length (fun j => fm (l.getD j 0) (P x j))
theorem valF_rev (x : F) : ∀ l : List F, pv x l.reverse = valF l x
  | [] => rfl
  | a :: l => by
    rw [List.reverse_cons, pv_snoc, valF_rev x l]
    unfold valF
    rw [List.length_cons, sm_front]
    show fa (fm (sm l.length (fun j => fm (l.getD j 0) (P x j))) x) a = fa (fm a 1) (sm l.length (fun i => fm (l.getD i 0) (fm (P x i) x)))
    rw [fm_one, fa_comm, fm_comm, ← sm_fm]
    congr 1
    exact sm_congr _ _ _ fun i _ => by rw [fm_comm x, fm_assoc]
theorem addL_at (a b : List F) (i : Nat) (h : i < a.length) : (addL a b).getD i 0 = fa (a.getD i 0) (b.getD i 0) := by
  unfold addL
  simp [List.getD_eq_getElem?_getD, List.getElem?_map, List.getElem?_range h]
/-- Division by a root. -/
def divL (r : F) (c : List F) (n : Nat) : List F := (List.range n).map fun i => pv r (c.take (i + 1))
theorem pv_take (r : F) (c : List F) (i : Nat) (h : i < c.length) : pv r (c.take (i + 1)) = fa (fm (pv r (c.take i)) r) (c.getD i 0) := by
  rw [List.take_add_one, List.getElem?_eq_getElem h]
  show pv r (c.take i ++ [c[i]]) = _
  rw [pv_snoc, List.getD_eq_getElem?_getD, List.getElem?_eq_getElem h]
  rfl
theorem divL_back (r : F) (c : List F) (n : Nat) (hn : c.length = n + 1) (h : pv r c = 0) : c = wrL (divL r c n) r := by
  have hd : ∀ i, i < n → (divL r c n).getD i 0 = pv r (c.take (i + 1)) := fun i hi => by
    unfold divL
    simp [List.getD_eq_getElem?_getD, List.getElem?_map, List.getElem?_range hi]
  have hlen : (divL r c n).length = n := by simp [divL]
  symm
  refine list_same (by rw [wrL_len, hlen, hn]) fun q hq => ?_
  rw [hn] at hq
  unfold wrL
  rw [addL_at _ _ q (by simp [hlen]; omega)]
  have e2 : (0 :: sclL (divL r c n) r).getD q 0 = fm (pv r (c.take q)) r := by
    match q with
    | 0 => show (0 : F) = fm (pv r []) r; show (0 : F) = fm 0 r; rw [zero_fm]
    | q + 1 =>
      show (sclL (divL r c n) r).getD q 0 = _
      unfold sclL
      rw [getD_map0 _ _ (zero_fm r), hd q (by omega)]
  rw [e2]
  by_cases e : q < n
  · have a1 : (divL r c n ++ [(0 : F)]).getD q 0 = (divL r c n).getD q 0 := by
      rw [List.getD_eq_getElem?_getD, List.getElem?_append_left (by rw [hlen]; exact e), ← List.getD_eq_getElem?_getD]
    rw [a1, hd q e, pv_take r c q (by omega)]
    rw [fa_comm, fa_canc]
  · obtain rfl : q = n := by omega
    have a1 : (divL r c q ++ [(0 : F)]).getD q 0 = 0 := by
      rw [List.getD_eq_getElem?_getD, List.getElem?_append_right (by rw [hlen]; exact Nat.le_refl _), hlen, Nat.sub_self]; rfl
    rw [a1]
    have e3 := pv_take r c q (by omega)
    rw [List.take_of_length_le (by omega), h] at e3
    rw [zero_fa]
    exact (fa_eq_zero e3.symm)
/-- A polynomial with as many roots as numbers is nothing. -/
theorem roots_zero : ∀ (n : Nat) (c pl : List F), c.length = n → pl.length = n → ApartP pl → (∀ i, i < n → pv (pl.getD i 0) c = 0) → c = List.replicate n 0
  | 0, c, pl, hc, _, _, _ => List.eq_nil_of_length_eq_zero hc
  | n + 1, c, pl, hc, hp, ha, hr => by
    have h0 := hr n (by omega)
    have hb := divL_back (pl.getD n 0) c n hc h0
    have hdl : (divL (pl.getD n 0) c n).length = n := by simp [divL]
    have gt : ∀ i, i < n → (pl.take n).getD i 0 = pl.getD i 0 := fun i hi => by
      simp [List.getD_eq_getElem?_getD, List.getElem?_take, hi]
    have ih := roots_zero n (divL (pl.getD n 0) c n) (pl.take n) hdl (by rw [List.length_take]; omega) (fun i k hi hk h => by
      rw [List.length_take] at hi hk
      rw [gt i (by omega), gt k (by omega)] at h
      exact ha i k (by omega) (by omega) h) (fun i hi => by
      rw [gt i hi]
      have h1 := hr i (by omega)
      rw [hb, pv_wrL] at h1
      exact fm_eq_zero h1 (fa_ne fun e => by have := ha i n (by omega) (by omega) e; omega))
    rw [hb, ih]
    refine list_same (by rw [wrL_len]; simp) fun q hq => ?_
    rw [List.length_replicate] at hq
    unfold wrL
    rw [addL_at _ _ q (by simp; omega)]
    have z1 : ∀ m k, (List.replicate m (0 : F)).getD k 0 = 0 := fun m k => by
      by_cases h : k < m
      · simp [List.getD_eq_getElem?_getD, List.getElem?_replicate, h]
      · simp [List.getD_eq_getElem?_getD, List.getElem?_replicate, h]
    rw [show List.replicate n (0 : F) ++ [0] = List.replicate (n + 1) 0 from List.replicate_succ'.symm, z1, zero_fa]
    match q with
    | 0 => rfl
    | q + 1 =>
      show (sclL (List.replicate n 0) (pl.getD n 0)).getD q 0 = 0
      unfold sclL
      rw [getD_map0 _ (fun c => fm c (pl.getD n 0)) (zero_fm _), z1, zero_fm]
/-- Two polynomials of one length that are the same at as many places are the same. -/
theorem poly_only (n : Nat) (a b pl : List F) (ha : a.length = n) (hb : b.length = n) (hp : pl.length = n) (hd : ApartP pl) (h : ∀ i, i < n → pv (pl.getD i 0) a = pv (pl.getD i 0) b) : a = b := by
  have z := roots_zero n (addL a b) pl (by rw [addL_len, ha]) hp hd (fun i hi => by rw [pv_addL _ _ _ (by rw [ha, hb]), h i hi, fa_self])
  refine list_same (by rw [ha, hb]) fun q hq => ?_
  rw [hb] at hq
  have e : (addL a b).getD q 0 = 0 := by
    rw [z]
    simp [List.getD_eq_getElem?_getD, List.getElem?_replicate, hq]
  rw [addL_at a b q (by omega)] at e
  exact fa_eq_zero e
/-- The equations of some shares: powers of the places, then the values. -/
def vanM (pl vs : List F) (n : Nat) : Nat → Nat → F := fun i k => if k = n then vs.getD i 0 else P (pl.getD i 0) k
theorem sm_last (g : Nat → F) (n : Nat) : sm (n + 1) g = fa (sm n g) (g n) := rfl
theorem van_ind (pl vs : List F) (R n : Nat) (hn : n ≤ R) (hR : pl.length = R) (hd : ApartP pl) : Ind (vanM pl vs n) R n := fun z hz h0 k hk => by
  have zl : ((List.range n).map z).length = n := by simp
  have gz : ∀ q, q < n → ((List.range n).map z).getD q 0 = z q := fun q hq => by simp [List.getD_eq_getElem?_getD, List.getElem?_map, List.getElem?_range hq]
  have e := roots_zero n ((List.range n).map z).reverse (pl.take n) (by rw [List.length_reverse, zl]) (by rw [List.length_take]; omega) (fun i j hi hj h => by
    rw [List.length_take] at hi hj
    have gt : ∀ i, i < n → (pl.take n).getD i 0 = pl.getD i 0 := fun i hi => by simp [List.getD_eq_getElem?_getD, List.getElem?_take, hi]
    rw [gt i (by omega), gt j (by omega)] at h
    exact hd i j (by omega) (by omega) h) (fun i hi => by
    have gt : (pl.take n).getD i 0 = pl.getD i 0 := by simp [List.getD_eq_getElem?_getD, List.getElem?_take, hi]
    rw [gt, valF_rev]
    unfold valF
    have q := hz i (by omega)
    rw [sm_last, h0, fm_zero, fa_zero] at q
    rw [zl]
    refine Eq.trans (sm_congr _ _ _ fun j hj => ?_) q
    rw [gz j hj]
    unfold vanM
    rw [if_neg (by omega), fm_comm])
  have e2 : (List.range n).map z = List.replicate n 0 := by
    have := congrArg List.reverse e
    rw [List.reverse_reverse, List.reverse_replicate] at this
    exact this
  rw [← gz k hk, e2]
  simp [List.getD_eq_getElem?_getD, List.getElem?_replicate, hk]
/-- What solves them. -/
theorem van_sol (pl vs xs : List F) (R n : Nat) (hx : xs.length = n) : Nz (vanM pl vs n) R n (zOf xs) ↔ ∀ i, i < R → valF xs (pl.getD i 0) = vs.getD i 0 := by
  have e : ∀ i, sm (n + 1) (fun k => fm (vanM pl vs n i k) (zOf xs k)) = fa (valF xs (pl.getD i 0)) (vs.getD i 0) := fun i => by
    rw [sm_last, zOf_n xs n hx, fm_one]
    show fa _ (vanM pl vs n i n) = _
    rw [show vanM pl vs n i n = vs.getD i 0 from if_pos rfl]
    congr 1
    unfold valF
    rw [hx]
    refine sm_congr _ _ _ fun j hj => ?_
    rw [zOf_lt xs j (by omega)]
    unfold vanM
    rw [if_neg (by omega), fm_comm]
  constructor
  · intro h i hi
    have := h i hi
    rw [e] at this
    exact fa_eq_zero this
  · intro h i hi
    rw [e, h i hi, fa_self]
end Go.Proofs.YtbpkocohddlbhaaDoor
namespace Go.Proofs.YtbpkocohddlbhaaDoor
open Go.RowKit
set_option linter.unusedVariables false
set_option linter.unusedSimpArgs false
set_option maxRecDepth 100000
/-- How many random bytes a sharing takes. -/
def rnd (a b : Int) : Int := if 1 ≤ a ∧ a ≤ 16 ∧ 1 ≤ b ∧ b ≤ 64 then (a - 1) * (b + 4) else 0
theorem mayNeedI (x : Int) (w : World) : Calls Tryd.prog 24 #[.int .i64 x] w fun e w' => e = .returned (.bool (decide (1 ≤ x ∧ x ≤ 16))) ∧ w' = w := by
  by_cases h1 : 1 ≤ x
  · by_cases h2 : x ≤ 16
    · go_enter Tryd.func24, Tryd.ntmps24
      go_wp2
      go_ret
      simp [h1, h2]
    · go_enter Tryd.func24, Tryd.ntmps24
      go_wp2
      go_ret
      simp [h1, h2]
  · go_enter Tryd.func24, Tryd.ntmps24
    go_wp2
    go_ret
    simp [h1]
    try omega
theorem mayShareI (x : Int) (w : World) : Calls Tryd.prog 25 #[.int .i64 x] w fun e w' => e = .returned (.bool (decide (1 ≤ x ∧ x ≤ 64))) ∧ w' = w := by
  by_cases h1 : 1 ≤ x
  · by_cases h2 : x ≤ 64
    · go_enter Tryd.func25, Tryd.ntmps25
      go_wp2
      go_ret
      simp [h1, h2]
    · go_enter Tryd.func25, Tryd.ntmps25
      go_wp2
      go_ret
      simp [h1, h2]
  · go_enter Tryd.func25, Tryd.ntmps25
    go_wp2
    go_ret
    simp [h1]
    try omega
theorem rnd_fit (a b : Int) (h : 1 ≤ a ∧ a ≤ 16 ∧ 1 ≤ b ∧ b ≤ 64) : IntKind.i64.wrap ((a - 1) * (b + 4)) = (a - 1) * (b + 4) ∧ IntKind.i64.wrap (a - 1) = a - 1 ∧ IntKind.i64.wrap (b + 4) = b + 4 := by
  have h1 : 0 ≤ (a - 1) * (b + 4) := Int.mul_nonneg (by omega) (by omega)
  have h2 : (a - 1) * (b + 4) ≤ 15 * 68 := Int.mul_le_mul (by omega) (by omega) (by omega) (by omega)
  refine ⟨?_, ?_, ?_⟩ <;> (rw [IntKind.wrap_i64]; omega)
set_option maxHeartbeats 800000 in
theorem random_ok (a b : Int) (w : World) : Calls Tryd.prog 9 #[.int .i64 a, .int .i64 b] w fun e w' => e = .returned (.int .i64 (rnd a b)) ∧ w' = w := by
  have HA : Hid (∀ u, Calls Tryd.prog 24 #[.int .i64 a] u fun e w' => e = .returned (.bool (decide (1 ≤ a ∧ a ≤ 16))) ∧ w' = u) := fun u => mayNeedI a u
  have HB : Hid (∀ u, Calls Tryd.prog 25 #[.int .i64 b] u fun e w' => e = .returned (.bool (decide (1 ≤ b ∧ b ≤ 64))) ∧ w' = u) := fun u => mayShareI b u
  by_cases h1 : 1 ≤ a ∧ a ≤ 16
  · rw [decide_eq_true h1] at HA
    by_cases h2 : 1 ≤ b ∧ b ≤ 64
    · rw [decide_eq_true h2] at HB
      have HF : Hid (rnd a b = (a - 1) * (b + 4) ∧ IntKind.i64.wrap ((a - 1) * (b + 4)) = (a - 1) * (b + 4) ∧ IntKind.i64.wrap (a - 1) = a - 1 ∧ IntKind.i64.wrap (b + 4) = b + 4) := ⟨if_pos ⟨h1.1, h1.2, h2⟩, rnd_fit a b ⟨h1.1, h1.2, h2⟩⟩
      go_enter Tryd.func9, Tryd.ntmps9
      go_wp2_with (first
        | (go_at_call 24; refine (HA.out _).mono ?_; rintro e1 w1 ⟨rfl, hw⟩; obtain rfl := hw.symm; clear hw)
        | (go_at_call 25; refine (HB.out _).mono ?_; rintro e1 w1 ⟨rfl, hw⟩; obtain rfl := hw.symm; clear hw))
      go_ret
      obtain ⟨e0, e1, e2, e3⟩ := HF.out
      first
        | exact ⟨ret_int (by rw [e0, e2, e3, e1]), rfl⟩
        | exact ⟨ret_int (by rw [e0]; simpa [IntKind.wrap_i64, wrap64] using e1), rfl⟩
    · rw [decide_eq_false h2] at HB
      have HF : Hid (rnd a b = 0) := if_neg (fun h => h2 h.2.2)
      go_enter Tryd.func9, Tryd.ntmps9
      go_wp2_with (first
        | (go_at_call 24; refine (HA.out _).mono ?_; rintro e1 w1 ⟨rfl, hw⟩; obtain rfl := hw.symm; clear hw)
        | (go_at_call 25; refine (HB.out _).mono ?_; rintro e1 w1 ⟨rfl, hw⟩; obtain rfl := hw.symm; clear hw))
      go_ret
      rw [HF.out]
      exact ⟨rfl, rfl⟩
  · rw [decide_eq_false h1] at HA
    have HF : Hid (rnd a b = 0) := if_neg (fun h => h1 ⟨h.1, h.2.1⟩)
    go_enter Tryd.func9, Tryd.ntmps9
    go_wp2_with (first
      | (go_at_call 24; refine (HA.out _).mono ?_; rintro e1 w1 ⟨rfl, hw⟩; obtain rfl := hw.symm; clear hw))
    go_ret
    rw [HF.out]
    exact ⟨rfl, rfl⟩
set_option maxHeartbeats 800000 in
theorem rrandom_ok (a b : Int) (w : World) : Calls Tryd.prog 10 #[.int .i64 a, .int .i64 b] w fun e w' => e = .returned (.int .i64 (rnd a b)) ∧ w' = w := by
  by_cases h : 1 ≤ a ∧ a ≤ 16 ∧ 1 ≤ b ∧ b ≤ 64
  · have HF : Hid (rnd a b = (a - 1) * (b + 4) ∧ IntKind.i64.wrap ((a - 1) * (b + 4)) = (a - 1) * (b + 4) ∧ IntKind.i64.wrap (a - 1) = a - 1 ∧ IntKind.i64.wrap (b + 4) = b + 4) := ⟨if_pos h, rnd_fit a b h⟩
    obtain ⟨h1, h2, h3, h4⟩ := h
    have k1 : ¬ a < 1 := by omega
    have k2 : ¬ 16 < a := by omega
    have k3 : ¬ b < 1 := by omega
    have k4 : ¬ 64 < b := by omega
    go_enter Tryd.func10, Tryd.ntmps10
    go_wp2
    go_ret
    obtain ⟨e0, e1, e2, e3⟩ := HF.out
    first
      | exact ⟨ret_int (by rw [e0, e2, e3, e1]), rfl⟩
      | exact ⟨ret_int (by rw [e0]; simpa [IntKind.wrap_i64, wrap64] using e1), rfl⟩
  · have HF : Hid (rnd a b = 0) := if_neg h
    by_cases h1 : a < 1
    · go_enter Tryd.func10, Tryd.ntmps10
      go_wp2
      go_ret
      rw [HF.out]; exact ⟨rfl, rfl⟩
    by_cases h2 : 16 < a
    · go_enter Tryd.func10, Tryd.ntmps10
      go_wp2
      go_ret
      rw [HF.out]; exact ⟨rfl, rfl⟩
    by_cases h3 : b < 1
    · go_enter Tryd.func10, Tryd.ntmps10
      go_wp2
      go_ret
      rw [HF.out]; exact ⟨rfl, rfl⟩
    have h4 : 64 < b := by omega
    go_enter Tryd.func10, Tryd.ntmps10
    go_wp2
    go_ret
    rw [HF.out]; exact ⟨rfl, rfl⟩
set_option maxHeartbeats 800000 in
theorem power_ok (b : F) (n : Nat) (hn : n ≤ 100) (w : World) : Calls Tryd.prog 29 #[.int .u8 (b.1 : Nat), .int .i64 (n : Nat)] w fun e w' => e = .returned (.int .u8 ((P b n).1 : Nat)) ∧ w' = w := by
  go_enter Tryd.func29, Tryd.ntmps29
  go_wp2
  go_loopw [5, 6] (fun vy vi wr => ∃ (k : Nat) (y : F), k ≤ n ∧ vi = .int .i64 (k : Nat) ∧ vy = .int .u8 (y.1 : Nat) ∧ Hid (y = P b k) ∧ wr = w) (fun _ vi _ => n - (intOf vi).toNat)
  case atStart => exact ⟨0, 1, by omega, rfl, rfl, rfl, rfl⟩
  case round =>
    obtain ⟨k, y, hk, rfl, rfl, HY, hw⟩ := hrel
    obtain rfl := hw.symm
    by_cases hlt : k < n
    · have HK : Hid (P b (k + 1) = fm y b) := by show _ = _; rw [HY.out]; rfl
      have H1 : Hid (Calls Tryd.prog 28 #[.int .u8 (y.1 : Nat), .int .u8 (b.1 : Nat)] w fun e w' => e = .returned (.int .u8 ((fm y b).1 : Nat)) ∧ w' = w) := rtimesF y b w
      generalize fm y b = yx at H1 HK
      have g1 : (k : Int) < (n : Int) := by omega
      go_wp2_with (first
        | (go_at_call 28; refine H1.out.mono ?_; rintro e1 w1 ⟨rfl, hw⟩; obtain rfl := hw.symm; clear H1 hw))
      go_roundw
      case rel => exact ⟨k + 1, yx, by omega, by go_num, rfl, HK.out.symm, trivial⟩
      case measure => simp [intOf]; omega
    · obtain rfl : k = n := by omega
      have h1 : ¬ (k : Int) < (k : Int) := Int.lt_irrefl _
      go_wp2
      go_ret
      exact ⟨ret_int (by rw [HY.out]), rfl⟩
set_option maxHeartbeats 1600000 in
theorem value_ok (b off n c x : Nat) (l : List F) (X0 : F) (w : World) (hl : l.length = n) (hn : n ≤ 100) (hx : Hid (X0.1 = x)) (h : Hid (Rw w b off l)) :
    Calls Tryd.prog 18 #[.slice (some ⟨b, off, none⟩) n c, .int .i64 (x : Nat)] w fun e w' => e = .returned (.int .u8 ((valF l X0).1 : Nat)) ∧ ∃ m, w' = w.drewN m := by
  have HXW : Hid (IntKind.u8.wrap (x : Int) = (x : Int)) := by have := X0.2; exact wraps_u8 _ (by omega) (by have := hx.out; omega)
  go_enter Tryd.func18, Tryd.ntmps18
  go_wp2
  go_loopw [5, 6] (fun vy vi wr => ∃ (k : Nat) (y : F), k ≤ n ∧ vi = .int .i64 (k : Nat) ∧ vy = .int .u8 (y.1 : Nat) ∧ Hid (y = sm k (fun j => fm (l.getD j 0) (P X0 j))) ∧ Hid (∃ m, wr = w.drewN m)) (fun _ vi _ => n - (intOf vi).toNat)
  case atStart => exact ⟨0, 0, by omega, rfl, rfl, rfl, 0, rfl⟩
  case round =>
    obtain ⟨k, y, hk, rfl, rfl, HY, HM⟩ := hrel
    by_cases hlt : k < n
    · obtain ⟨z, HZ⟩ : ∃ z, Hid (l.getD k 0 = z) := ⟨_, rfl⟩
      have c1 : w.cell? ⟨b, off + k, none⟩ = some (.int .u8 (z.1 : Nat)) := by rw [← HZ.out]; exact h.out k (by rw [hl]; exact hlt)
      have H0 : Hid (∀ u, Calls Tryd.prog 29 #[.int .u8 (x : Nat), .int .i64 (k : Nat)] u fun e w' => e = .returned (.int .u8 ((P X0 k).1 : Nat)) ∧ w' = u) := fun u => by rw [← hx.out]; exact power_ok X0 k (by omega) u
      obtain ⟨pk, HPK⟩ : ∃ q : F, Hid (P X0 k = q) := ⟨_, rfl⟩
      rw [HPK.out] at H0
      have H1 : Hid (∀ u, Calls Tryd.prog 28 #[.int .u8 (z.1 : Nat), .int .u8 (pk.1 : Nat)] u fun e w' => e = .returned (.int .u8 ((fm z pk).1 : Nat)) ∧ w' = u) := fun u => rtimesF z pk u
      have HK : Hid (sm (k + 1) (fun j => fm (l.getD j 0) (P X0 j)) = fa y (fm z pk)) := by show fa (sm k _) (fm (l.getD k 0) (P X0 k)) = _; rw [← HY.out, HZ.out, HPK.out]
      obtain ⟨yx, HYX⟩ : ∃ q : F, Hid (fm z pk = q) := ⟨_, rfl⟩
      rw [HYX.out] at H1 HK
      have g0 : (0 : Int) ≤ (k : Int) := by omega
      have g1 : (k : Int) < (n : Int) := by omega
      have HXW2 : IntKind.u8.wrap (x : Int) = (x : Int) := HXW.out
      have c2 : wr.cell? ⟨b, off + k, none⟩ = some (.int .u8 (z.1 : Nat)) := by obtain ⟨m, hm⟩ := HM.out; rw [hm]; exact c1
      go_upto_region 5 with fail
      go_quiet (first
        | (go_at_call 29; exact Calls.quiet_of_same (H0.out _))
        | (go_at_call 28; exact Calls.quiet_of_same (H1.out _)))
      have HM2 : Hid (∃ m, wr.drewN nq = w.drewN m) := by obtain ⟨m, hm⟩ := HM.out; exact ⟨_, by rw [hm]; exact World.drewN_drewN _ _ _⟩
      clear HM c2
      generalize wr.drewN nq = wq at HM2 ⊢
      go_wp2
      exact ⟨⟨k + 1, fa y yx, by omega, by go_num, val_eq (xorF y yx), HK.out.symm, HM2⟩, by simp [intOf]; omega⟩
    · obtain rfl : k = n := by omega
      have h1 : ¬ (k : Int) < (k : Int) := Int.lt_irrefl _
      go_wp2
      go_ret
      exact ⟨ret_int (by rw [HY.out]; unfold valF; rw [hl]), HM.out⟩
end Go.Proofs.YtbpkocohddlbhaaDoor
namespace Go.Proofs.YtbpkocohddlbhaaDoor
open Go.RowKit
set_option linter.unusedVariables false
set_option linter.unusedSimpArgs false
set_option maxRecDepth 100000
theorem scl_range (l : List F) (q : F) (n : Nat) (hl : l.length = n) : fc ((List.range n).map fun i => fm (l.getD i 0) q) = fc (sclL l q) := by
  congr 1
  apply List.ext_getElem?
  intro i
  unfold sclL
  by_cases hi : i < n
  · simp [List.getElem?_map, List.getElem?_range hi, List.getD_eq_getElem?_getD, List.getElem?_eq_getElem (show i < l.length by omega)]
  · rw [List.getElem?_eq_none (by simpa using hi), List.getElem?_eq_none (by simpa [hl] using hi)]
set_option maxHeartbeats 800000 in
/-- scaled. -/
theorem scaled_ok (b off n c : Nat) (q : F) (l : List F) (w : World) (hl : l.length = n) (hn : n ≤ 1000) (h : Rw w b off l) (hb : b < w.heap.size) :
    Calls Tryd.prog 77 #[.slice (some ⟨b, off, none⟩) n c, .int .u8 (q.1 : Nat)] w fun e w' => Hid (∃ g, e = .returned (.slice (some ⟨g, 0, none⟩) n n) ∧ w.heap.size ≤ g ∧ Bx w' g 5 (fc (sclL l q)) ∧ Below w.heap.size w w') := by
  obtain ⟨G, HG⟩ : ∃ G : Nat → F, Hid ((fun i => fm (l.getD i 0) q) = G) := ⟨_, rfl⟩
  have HSC : Hid (fc ((List.range n).map G) = fc (sclL l q)) := by rw [← HG.out]; exact scl_range l q n hl
  rw [← HSC.out]
  obtain ⟨i0, hi0, hz0, hz1, hz2⟩ := info_parts Tryd.infoB
  have HI0 : Hid (Tryd.prog.info? 5 = some i0 ∧ i0.zero = some (.int .u8 0) ∧ i0.size = 1 ∧ i0.bytes = 1) := ⟨hi0, hz0, hz1, hz2⟩
  have HMF : Hid (i0.bytes * n ≤ 281474976710656 ∧ n ≤ maxLen) := made_few i0.bytes n n 1 (by decide) HI0.out.2.2.2 (by omega)
  have q1 : wrap64 (n : Int) = (n : Int) := by unfold wrap64; omega
  have HRW : Hid (Rw w b off l ∧ b < w.heap.size ∧ l.length = n ∧ n ≤ 1000) := ⟨h, hb, hl, hn⟩
  clear hi0 hz0 hz1 hz2 h hb hl HSC
  go_enter Tryd.func77, Tryd.ntmps77
  go_wp2_with (first
    | (at_make; go_must (refine wpList_make_full _ rfl _ _ 23 rfl w.heap.size 5 i0 (.int .u8 0) 1 Tryd.underlying23 HI0.out.1 HI0.out.2.1 HI0.out.2.2.1 .i64 .i64 (n : Nat) (n : Nat) n rfl rfl rfl rfl HMF.out.1 HMF.out.2 (Nat.le_refl _) ?_; intro w2 hown hgrow; have hlo : Below w.heap.size w w2 := ⟨hgrow.os, hgrow.tape, hgrow.output, hgrow.size, fun c hc => hgrow.block c hc (by simp)⟩; have HX2 : Hid ((∃ cu, Bx w2 w.heap.size 5 cu ∧ Cu n 0 G cu) ∧ Below w.heap.size w w2) := ⟨⟨_, (own_full1 hown).1, by rw [show (Value.int .u8 0).cells = #[.int .u8 0] from rfl, Nat.mul_one, toList_madeCells_one]; exact Cu.zero n G⟩, hlo⟩; clear hown hgrow hlo)))
  obtain ⟨g, HBB⟩ : ∃ g, Hid (w.heap.size = g) := ⟨_, rfl⟩
  rw [HBB.out] at HX2 ⊢
  go_loopw [13] (fun vi wr => ∃ k : Nat, k ≤ n ∧ vi = .int .i64 (k : Nat) ∧ Hid ((∃ cu, Bx wr g 5 cu ∧ Cu n k G cu) ∧ Below g w wr)) (fun vi _ => n - (intOf vi).toNat)
  case atStart => exact ⟨0, by omega, rfl, HX2.out⟩
  case round =>
    obtain ⟨k, hk, rfl, HI⟩ := hrel
    clear HX2
    by_cases hlt : k < n
    · obtain ⟨⟨cu, hcu, hC⟩, hbl⟩ := HI.out
      obtain ⟨x, hx⟩ := hC.2.2 k hlt
      have c0 : wr.cell? ⟨g, k, none⟩ = some (.int .u8 x) := hcu.cell k _ hx
      have f0 : wr.frozen? ⟨g, k, none⟩ = false := hcu.frozen k
      obtain ⟨z, HZ⟩ : ∃ z : F, Hid (l.getD k 0 = z) := ⟨_, rfl⟩
      have c1 : wr.cell? ⟨b, off + k, none⟩ = some (.int .u8 (z.1 : Nat)) := by
        rw [← HZ.out, hbl.cell (by show b < g; have := HBB.out; have := HRW.out.2.1; omega)]
        exact HRW.out.1 k (by have := HRW.out.2.2.1; omega)
      have g0 : (0 : Int) ≤ (k : Int) := by omega
      have g1 : (k : Int) < (n : Int) := by omega
      have H1 : Hid (∀ u, Calls Tryd.prog 51 #[.int .u8 (z.1 : Nat), .int .u8 (q.1 : Nat)] u fun e w' => e = .returned (.int .u8 ((G k).1 : Nat)) ∧ w' = u) := fun u => by
        have e := timesF z q u
        rw [← HG.out]
        show Calls _ _ _ _ fun e w' => e = .returned (.int .u8 ((fm (l.getD k 0) q).1 : Nat)) ∧ w' = u
        rw [HZ.out]
        exact e
      have HN2 : Hid ((∃ cu, Bx (wr.setCell ⟨g, k, none⟩ (.int .u8 ((G k).1 : Nat))) g 5 cu ∧ Cu n (k + 1) G cu) ∧ Below g w (wr.setCell ⟨g, k, none⟩ (.int .u8 ((G k).1 : Nat)))) := ⟨⟨_, hcu.set k _, hC.next hlt⟩, hbl.setCell (Nat.le_refl _) _⟩
      generalize (G k).1 = ek at H1 HN2
      clear hcu hC hbl HI
      go_wp2_with (first
        | (go_at_call 51; refine (H1.out _).mono ?_; rintro e1 w1 ⟨rfl, hw⟩; obtain rfl := hw.symm; clear hw))
      go_roundw
      case rel => exact ⟨k + 1, by omega, by go_num, HN2.out⟩
      case measure => simp [intOf]; omega
    · obtain rfl : k = n := by omega
      obtain ⟨⟨cu, hcu, hC⟩, hbl⟩ := HI.out
      have h1 : ¬ (k : Int) < (k : Int) := Int.lt_irrefl _
      have HC : Hid (Bx wr g 5 (fc ((List.range k).map G)) ∧ Below g w wr) := by rw [← hC.all]; exact ⟨hcu, hbl⟩
      clear hcu hC hbl HI
      go_wp2
      go_ret
      exact ⟨g, rfl, by first | exact Nat.le_refl _ | (rw [HBB.out]; exact Nat.le_refl _), HC.out.1, by first | exact HC.out.2 | (rw [HBB.out]; exact HC.out.2)⟩
end Go.Proofs.YtbpkocohddlbhaaDoor
namespace Go.Proofs.YtbpkocohddlbhaaDoor
open Go.RowKit
set_option linter.unusedVariables false
set_option linter.unusedSimpArgs false
set_option maxRecDepth 100000
/-- withRoot's list as far as it is written. -/
def rtL (l : List F) (q : F) : Nat → List F
  | 0 => List.replicate (l.length + 1) 0
  | k + 1 => ((rtL l q k).set k (fa ((rtL l q k).getD k 0) (l.getD k 0))).set (k + 1) (fm (l.getD k 0) q)
theorem rtL_len (l : List F) (q : F) : ∀ k, (rtL l q k).length = l.length + 1
  | 0 => by simp [rtL]
  | k + 1 => by simp [rtL, rtL_len l q k]
theorem rtL_at (l : List F) (q : F) : ∀ k, k ≤ l.length → ∀ i, (rtL l q k).getD i 0 = if i < k then fa (l.getD i 0) (if i = 0 then 0 else fm (l.getD (i - 1) 0) q) else if i = k then (if i = 0 then 0 else fm (l.getD (i - 1) 0) q) else 0
  | 0, _, i => by
    simp only [rtL, Nat.not_lt_zero, if_false]
    have e : (List.replicate (l.length + 1) (0 : F)).getD i 0 = 0 := by
      rw [List.getD_eq_getElem?_getD, List.getElem?_replicate]
      split <;> rfl
    rw [e]
    by_cases h : i = 0
    · subst h; rfl
    · rw [if_neg h]
  | k + 1, hk, i => by
    have ih := rtL_at l q k (by omega)
    have hL := rtL_len l q k
    show (((rtL l q k).set k _).set (k + 1) _).getD i 0 = _
    rw [List.getD_eq_getElem?_getD, List.getElem?_set]
    by_cases h1 : k + 1 = i
    · subst h1
      rw [if_pos rfl, if_pos (by rw [List.length_set, hL]; omega), if_neg (by omega), if_pos rfl, if_neg (by omega)]
      rfl
    · rw [if_neg h1, List.getElem?_set]
      by_cases h2 : k = i
      · subst h2
        rw [if_pos rfl, if_pos (by rw [hL]; omega), if_pos (by omega)]
        show fa _ _ = _
        rw [ih k, if_neg (by omega), if_pos rfl, fa_comm]
      · rw [if_neg h2, ← List.getD_eq_getElem?_getD, ih i]
        by_cases h3 : i < k
        · rw [if_pos h3]; exact (if_pos (by omega)).symm
        · rw [if_neg h3, if_neg (show ¬ i = k by omega), if_neg (show ¬ i < k + 1 by omega), if_neg (show ¬ i = k + 1 by omega)]
theorem rtL_all (l : List F) (q : F) : rtL l q l.length = wrL l q := by
  apply List.ext_getElem?
  intro i
  by_cases hi : i < l.length + 1
  · have a : (rtL l q l.length)[i]? = some ((rtL l q l.length).getD i 0) := by
      rw [List.getD_eq_getElem?_getD, List.getElem?_eq_getElem (by rw [rtL_len]; exact hi)]; rfl
    have b : (wrL l q)[i]? = some ((wrL l q).getD i 0) := by
      rw [List.getD_eq_getElem?_getD, List.getElem?_eq_getElem (by rw [wrL_len]; exact hi)]; rfl
    rw [a, b]
    congr 1
    rw [rtL_at l q _ (Nat.le_refl _)]
    have e : (wrL l q).getD i 0 = fa ((l ++ [0]).getD i 0) ((0 :: sclL l q).getD i 0) := by
      unfold wrL addL
      rw [List.getD_eq_getElem?_getD, List.getElem?_map, List.getElem?_range (by simpa using hi)]
      rfl
    rw [e]
    have e2 : (0 :: sclL l q).getD i 0 = if i = 0 then 0 else fm (l.getD (i - 1) 0) q := by
      cases i with
      | zero => rfl
      | succ i =>
        rw [if_neg (by omega)]
        show (sclL l q).getD i 0 = _
        exact getD_map0 l (fun c => fm c q) (by first | exact zero_fm q | simp) i
    rw [e2]
    by_cases h1 : i < l.length
    · rw [if_pos h1]
      congr 1
      rw [List.getD_eq_getElem?_getD, List.getD_eq_getElem?_getD, List.getElem?_append_left h1]
    · obtain rfl : i = l.length := by omega
      rw [if_neg h1, if_pos rfl]
      have e3 : (l ++ [0]).getD l.length 0 = (0 : F) := by
        rw [List.getD_eq_getElem?_getD, List.getElem?_append_right (Nat.le_refl _), Nat.sub_self]; rfl
      rw [e3, zero_fa]
  · rw [List.getElem?_eq_none (by rw [rtL_len]; omega), List.getElem?_eq_none (by rw [wrL_len]; omega)]
theorem fc_repD (n : Nat) : fc (List.replicate n 0) = List.replicate n (.int .u8 0) := by unfold fc; rw [List.map_replicate]; rfl
set_option maxHeartbeats 1600000 in
/-- withRoot. -/
theorem root_ok (b off n c N : Nat) (q : F) (l : List F) (w : World) (hl : l.length = n) (hNN : N = n + 1) (hn : n ≤ 1000) (h : Rw w b off l) (hb : b < w.heap.size) :
    Calls Tryd.prog 76 #[.slice (some ⟨b, off, none⟩) n c, .int .u8 (q.1 : Nat)] w fun e w' => Hid (∃ g, e = .returned (.slice (some ⟨g, 0, none⟩) N N) ∧ w.heap.size ≤ g ∧ Bx w' g 5 (fc (wrL l q)) ∧ Below w.heap.size w w') := by
  obtain ⟨S, HS⟩ : ∃ S : Nat → List F, Hid (rtL l q = S) := ⟨_, rfl⟩
  have HSA : Hid (S n = wrL l q ∧ S 0 = List.replicate N 0 ∧ (∀ k, (S k).length = N) ∧ ∀ k, S (k + 1) = ((S k).set k (fa ((S k).getD k 0) (l.getD k 0))).set (k + 1) (fm (l.getD k 0) q)) := by
    rw [← HS.out, ← hl]
    exact ⟨rtL_all l q, by rw [hNN, ← hl]; rfl, fun k => by rw [rtL_len, hNN, hl], fun k => rfl⟩
  rw [← HSA.out.1]
  obtain ⟨i0, hi0, hz0, hz1, hz2⟩ := info_parts Tryd.infoB
  have HI0 : Hid (Tryd.prog.info? 5 = some i0 ∧ i0.zero = some (.int .u8 0) ∧ i0.size = 1 ∧ i0.bytes = 1) := ⟨hi0, hz0, hz1, hz2⟩
  have HMF : Hid (i0.bytes * N ≤ 281474976710656 ∧ N ≤ maxLen) := made_few i0.bytes N N 1 (by decide) HI0.out.2.2.2 (by omega)
  have HRW : Hid (Rw w b off l ∧ b < w.heap.size ∧ l.length = n ∧ n ≤ 1000 ∧ N = n + 1) := ⟨h, hb, hl, hn, hNN⟩
  have HN1 : Hid ((n : Int) + 1 = (N : Int)) := by show (n : Int) + 1 = (N : Int); omega
  clear hi0 hz0 hz1 hz2 h hb hl hNN
  go_enter Tryd.func76, Tryd.ntmps76
  go_wp2_with (first
    | (at_make; try rw [HN1.out]; go_must (refine wpList_make_full _ rfl _ _ 23 rfl w.heap.size 5 i0 (.int .u8 0) 1 Tryd.underlying23 HI0.out.1 HI0.out.2.1 HI0.out.2.2.1 .i64 .i64 (N : Nat) (N : Nat) N rfl rfl rfl rfl HMF.out.1 HMF.out.2 (Nat.le_refl _) ?_; intro w2 hown hgrow; have hlo : Below w.heap.size w w2 := ⟨hgrow.os, hgrow.tape, hgrow.output, hgrow.size, fun c hc => hgrow.block c hc (by simp)⟩; have HX2 : Hid (Bx w2 w.heap.size 5 (fc (S 0)) ∧ Below w.heap.size w w2) := ⟨by rw [HSA.out.2.1, fc_repD]; have q := (own_full1 hown).1; rw [show (Value.int .u8 0).cells = #[.int .u8 0] from rfl, Nat.mul_one, toList_madeCells_one] at q; exact q, hlo⟩; clear hown hgrow hlo)))
  obtain ⟨g, HBB⟩ : ∃ g, Hid (w.heap.size = g) := ⟨_, rfl⟩
  rw [HBB.out] at HX2 ⊢
  go_loopw [14] (fun vi wr => ∃ k : Nat, k ≤ n ∧ vi = .int .i64 (k : Nat) ∧ Hid (Bx wr g 5 (fc (S k)) ∧ Below g w wr)) (fun vi _ => n - (intOf vi).toNat)
  case atStart => exact ⟨0, by omega, rfl, HX2.out⟩
  case round =>
    obtain ⟨k, hk, rfl, HI⟩ := hrel
    clear HX2 HN1
    by_cases hlt : k < n
    · obtain ⟨hcu, hbl⟩ := HI.out
      obtain ⟨z, HZ⟩ : ∃ z : F, Hid (l.getD k 0 = z) := ⟨_, rfl⟩
      obtain ⟨x, HX⟩ : ∃ z : F, Hid ((S k).getD k 0 = z) := ⟨_, rfl⟩
      have hkN : k < N := by have := HRW.out.2.2.2.2; omega
      have hkN2 : k + 1 < N := by have := HRW.out.2.2.2.2; omega
      have hat : ∀ (m : List F) (j : Nat) (t : F), m.length = N → j < N → m.getD j 0 = t → (fc m)[j]? = some (.int .u8 (t.1 : Nat)) := fun m j t hm hj e => by rw [fc_at m j (by omega), e]
      have c0 : wr.cell? ⟨g, k, none⟩ = some (.int .u8 (x.1 : Nat)) := hcu.cell k _ (hat _ k x (HSA.out.2.2.1 k) hkN HX.out)
      have f0 : wr.frozen? ⟨g, k, none⟩ = false := hcu.frozen k
      have c1 : wr.cell? ⟨b, off + k, none⟩ = some (.int .u8 (z.1 : Nat)) := by
        rw [← HZ.out, hbl.cell (by show b < g; have := HBB.out; have := HRW.out.2.1; omega)]
        exact HRW.out.1 k (by have := HRW.out.2.2.1; omega)
      have HXZ : Hid (bits .xor .u8 ((x.1 : Nat) : Int) ((z.1 : Nat) : Int) = (((fa x z).1 : Nat) : Int)) := xorF x z
      obtain ⟨xz, HXZ2⟩ : ∃ q : F, Hid (fa x z = q) := ⟨_, rfl⟩
      rw [HXZ2.out] at HXZ
      obtain ⟨M1, HM1⟩ : ∃ q : List F, Hid ((S k).set k xz = q) := ⟨_, rfl⟩
      have HM1L : Hid (M1.length = N ∧ S (k + 1) = M1.set (k + 1) (fm z q)) := by
        rw [← HM1.out]
        refine ⟨by rw [List.length_set]; exact HSA.out.2.2.1 k, ?_⟩
        rw [HSA.out.2.2.2 k, HX.out, HZ.out, HXZ2.out]
      have HB1 : Hid (Bx (wr.setCell ⟨g, k, none⟩ (.int .u8 (xz.1 : Nat))) g 5 (fc M1) ∧ Below g w (wr.setCell ⟨g, k, none⟩ (.int .u8 (xz.1 : Nat)))) := ⟨by rw [← HM1.out, fc_set]; exact hcu.set k _, hbl.setCell (Nat.le_refl _) _⟩
      have g0 : (0 : Int) ≤ (k : Int) := by omega
      have g1 : (k : Int) < (n : Int) := by omega
      have g2 : (k : Int) < (N : Int) := by omega
      clear hcu hbl HI
      go_upto_region 6 with fail
      rw [HXZ.out]
      generalize wr.setCell ⟨g, k, none⟩ (.int .u8 (xz.1 : Nat)) = wq at HB1 ⊢
      clear c0 f0 c1
      obtain ⟨y, HY⟩ : ∃ z : F, Hid (M1.getD (k + 1) 0 = z) := ⟨_, rfl⟩
      have c3 : wq.cell? ⟨g, k + 1, none⟩ = some (.int .u8 (y.1 : Nat)) := HB1.out.1.cell (k + 1) _ (hat _ _ y HM1L.out.1 hkN2 HY.out)
      have f3 : wq.frozen? ⟨g, k + 1, none⟩ = false := HB1.out.1.frozen (k + 1)
      have H1 : Hid (∀ u, Calls Tryd.prog 51 #[.int .u8 (z.1 : Nat), .int .u8 (q.1 : Nat)] u fun e w' => e = .returned (.int .u8 ((fm z q).1 : Nat)) ∧ w' = u) := fun u => timesF z q u
      have HN2 : Hid (Bx (wq.setCell ⟨g, k + 1, none⟩ (.int .u8 ((fm z q).1 : Nat))) g 5 (fc (S (k + 1))) ∧ Below g w (wq.setCell ⟨g, k + 1, none⟩ (.int .u8 ((fm z q).1 : Nat)))) := ⟨by rw [HM1L.out.2, fc_set]; exact HB1.out.1.set (k + 1) _, HB1.out.2.setCell (Nat.le_refl _) _⟩
      generalize (fm z q).1 = zq at H1 HN2
      have g3 : (0 : Int) ≤ (k : Int) + 1 := by omega
      have g4 : (k : Int) + 1 < (N : Int) := by omega
      clear hat HM1L HXZ HB1
      go_upto_region 7 with (first
        | (go_at_call 51; refine (H1.out _).mono ?_; rintro e1 w1 ⟨rfl, hw⟩; obtain rfl := hw.symm; clear hw)
        | fail)
      go_wp2
      exact ⟨⟨k + 1, by omega, by go_num, HN2⟩, by simp [intOf]; omega⟩
    · obtain rfl : k = n := by omega
      have h1 : ¬ (k : Int) < (k : Int) := Int.lt_irrefl _
      go_wp2
      go_ret
      exact ⟨g, rfl, by first | exact Nat.le_refl _ | (rw [HBB.out]; exact Nat.le_refl _), HI.out.1, by first | exact HI.out.2 | (rw [HBB.out]; exact HI.out.2)⟩
end Go.Proofs.YtbpkocohddlbhaaDoor
namespace Go.Proofs.YtbpkocohddlbhaaDoor
open Go.RowKit
set_option linter.unusedVariables false
set_option linter.unusedSimpArgs false
set_option maxRecDepth 100000
/-- The first k rows of peaks. -/
structure PkI (M G n k : Nat) (pl : List F) (w u : World) : Prop where
  top : ∃ (cu : List Value) (gs : Nat → Nat), Bx u G 23 cu ∧ cu.length = n ∧ (∀ i, i < n → ∃ x, cu[i]? = some x) ∧ ∀ i, i < k → cu[i]? = some (.slice (some ⟨gs i, 0, none⟩) n n) ∧ G < gs i ∧ Bx u (gs i) 5 (fc (peakL pl i))
  bel : Below M w u
theorem PkI.zero {M G n : Nat} {pl : List F} {xs : List Value} {w u : World} {B : Nat} (h : u.ownsRow B 23 1 (.slice (some ⟨G, 0, none⟩) n n) n xs) (hb : Below M w u) : PkI M G n 0 pl w u := by
  have q := own_full1 h
  exact ⟨⟨xs, fun _ => 0, q.1, q.2, fun i hi => ⟨_, List.getElem?_eq_getElem (by rw [q.2]; exact hi)⟩, fun i hi => by omega⟩, hb⟩
theorem PkI.lt {M G n k : Nat} {pl : List F} {w u : World} (h : PkI M G n k pl w u) : G < u.heap.size := by
  obtain ⟨cu, gs, h1, _⟩ := h.top
  exact h1.lt
theorem PkI.below {M G n k : Nat} {pl : List F} {w u v : World} (h : PkI M G n k pl w u) (hM : M ≤ u.heap.size) (hv : Below u.heap.size u v) : PkI M G n k pl w v := by
  obtain ⟨cu, gs, h1, h2, h3, h4⟩ := h.top
  exact ⟨⟨cu, gs, h1.below hv, h2, h3, fun i hi => ⟨(h4 i hi).1, (h4 i hi).2.1, (h4 i hi).2.2.below hv⟩⟩, h.bel.trans (hv.mono hM)⟩
theorem PkI.next {M G n k g2 : Nat} {pl : List F} {w u : World} (h : PkI M G n k pl w u) (hk : k < n) (hM : M ≤ G) (hg : G < g2) (hb : Bx u g2 5 (fc (peakL pl k))) : PkI M G n (k + 1) pl w (u.setCell ⟨G, k, none⟩ (.slice (some ⟨g2, 0, none⟩) n n)) := by
  obtain ⟨cu, gs, h1, h2, h3, h4⟩ := h.top
  have hs := set_gb u G k (.slice (some ⟨g2, 0, none⟩) n n)
  refine ⟨⟨_, fun i => if i = k then g2 else gs i, h1.set k _, by rw [List.length_set]; exact h2, fun i hi => ⟨_, List.getElem?_eq_getElem (by rw [List.length_set, h2]; exact hi)⟩, fun i hi => ?_⟩, h.bel.setCell hM _⟩
  by_cases e : i = k
  · subst e
    refine ⟨?_, ?_, ?_⟩
    · rw [List.getElem?_set_self (by rw [h2]; exact hk)]; simp
    · show G < if i = i then g2 else gs i
      rw [if_pos rfl]; exact hg
    · show Bx _ (if i = i then g2 else gs i) 5 _
      rw [if_pos rfl]
      exact hb.keep (hs.block g2 hb.lt (fun q => by injection q with q; omega))
  · have q := h4 i (by omega)
    refine ⟨?_, ?_, ?_⟩
    · rw [List.getElem?_set_ne (fun q => e q.symm)]; simp only [if_neg e]; exact q.1
    · show G < if i = k then g2 else gs i
      rw [if_neg e]; exact q.2.1
    · show Bx _ (if i = k then g2 else gs i) 5 _
      rw [if_neg e]
      exact q.2.2.keep (hs.block (gs i) q.2.2.lt (fun e2 => by injection e2 with e2; have := q.2.1; omega))
theorem PkI.cell {M G n k : Nat} {pl : List F} {w u : World} (h : PkI M G n k pl w u) (hk : k < n) : ∃ x, u.cell? ⟨G, k, none⟩ = some x ∧ u.frozen? ⟨G, k, none⟩ = false := by
  obtain ⟨cu, gs, h1, h2, h3, h4⟩ := h.top
  obtain ⟨x, hx⟩ := h3 k hk
  exact ⟨x, h1.cell k x hx, h1.frozen k⟩
theorem bx_rw {w : World} {b : Nat} {l : List F} (h : Bx w b 5 (fc l)) : Rw w b 0 l := fun i hi => by
  rw [Nat.zero_add]
  exact h.cell i _ (fc_at l i hi)
set_option maxHeartbeats 3200000 in
/-- peaksAt. -/
theorem peaks_ok (b off n c : Nat) (pl : List F) (w : World) (hl : pl.length = n) (hn : n ≤ 900) (h : Rw w b off pl) (hb : b < w.heap.size) :
    Calls Tryd.prog 68 #[.slice (some ⟨b, off, none⟩) n c] w fun e w' => Hid (∃ g, e = .returned (.slice (some ⟨g, 0, none⟩) n n) ∧ w.heap.size ≤ g ∧ PkI w.heap.size g n n pl w w') := by
  obtain ⟨i0, hi0, hz0, hz1, hz2⟩ := info_parts Tryd.info25q
  have HI0 : Hid (Tryd.prog.info? 23 = some i0 ∧ i0.zero = some (.slice none 0 0) ∧ i0.size = 1 ∧ i0.bytes = 24) := ⟨hi0, hz0, hz1, hz2⟩
  have HMF : Hid (i0.bytes * n ≤ 281474976710656 ∧ n ≤ maxLen) := made_few i0.bytes n n 24 (by decide) HI0.out.2.2.2 (by omega)
  have HRW : Hid (Rw w b off pl ∧ b < w.heap.size ∧ pl.length = n ∧ n ≤ 900) := ⟨h, hb, hl, hn⟩
  clear hi0 hz0 hz1 hz2 h hb hl
  obtain ⟨g, HBB⟩ : ∃ g, Hid (w.heap.size = g) := ⟨_, rfl⟩
  go_enter Tryd.func68, Tryd.ntmps68
  go_wp2_with (first
    | (at_make; go_must (refine wpList_make_full _ rfl _ _ 73 rfl w.heap.size 23 i0 (.slice none 0 0) 1 Tryd.und70 HI0.out.1 HI0.out.2.1 HI0.out.2.2.1 .i64 .i64 (n : Nat) (n : Nat) n rfl rfl rfl rfl HMF.out.1 HMF.out.2 (Nat.le_refl _) ?_; intro w2 hown hgrow; have hlo : Below w.heap.size w w2 := ⟨hgrow.os, hgrow.tape, hgrow.output, hgrow.size, fun c hc => hgrow.block c hc (by simp)⟩; have HX2 : Hid (PkI g g n 0 pl w w2) := (by rw [← HBB.out]; exact PkI.zero hown hlo); clear hown hgrow hlo)))
  rw [HBB.out]
  go_loopw [15] (fun vi wr => ∃ k : Nat, k ≤ n ∧ vi = .int .i64 (k : Nat) ∧ Hid (PkI g g n k pl w wr)) (fun vi _ => n - (intOf vi).toNat)
  case atStart => exact ⟨0, by omega, rfl, HX2⟩
  case round =>
    obtain ⟨k, hk, rfl, HI⟩ := hrel
    clear HX2
    by_cases hlt : k < n
    · obtain ⟨z, HZ⟩ : ∃ z : F, Hid (pl.getD k 0 = z) := ⟨_, rfl⟩
      have c1 : wr.cell? ⟨b, off + k, none⟩ = some (.int .u8 (z.1 : Nat)) := by
        rw [← HZ.out, HI.out.bel.cell (by show b < g; have := HBB.out; have := HRW.out.2.1; omega)]
        exact HRW.out.1 k (by have := HRW.out.2.2.1; omega)
      have g0 : (0 : Int) ≤ (k : Int) := by omega
      have g1 : (k : Int) < (n : Int) := by omega
      have HW1 : Hid (PkI g g n k pl w (wr.alloc (.cells #[.int .u8 1] 5)) ∧ Bx (wr.alloc (.cells #[.int .u8 1] 5)) wr.heap.size 5 (fc [1]) ∧ g < wr.heap.size) := by
        have hgl := HI.out.lt
        exact ⟨HI.out.below (by omega) ((Below.refl _ _).alloc (Nat.le_refl _) _), Bx.new wr 5 _, hgl⟩
      go_upto_region 6 with fail
      clear c1
      generalize wr.alloc (.cells #[.int .u8 1] 5) = w1 at HW1 ⊢
      obtain ⟨h0, HH0⟩ : ∃ h0, Hid (wr.heap.size = h0) := ⟨_, rfl⟩
      rw [HH0.out] at HW1 ⊢
      clear HI
      go_wp2
      go_loopw [6, 7, 23] (fun vp vt vi wx => ∃ (j h m : Nat) (t : F), j ≤ n ∧ vi = .int .i64 (j : Nat) ∧ vp = .slice (some ⟨h, 0, none⟩) m m ∧ vt = .int .u8 (t.1 : Nat) ∧ Hid (t = thrF pl k j ∧ (prdL pl k j).length = m ∧ Bx wx h 5 (fc (prdL pl k j)) ∧ g < h ∧ PkI g g n k pl w wx)) (fun _ _ vi _ => n - (intOf vi).toNat)
      case atStart => exact ⟨0, h0, 1, 1, by omega, rfl, rfl, rfl, rfl, rfl, HW1.out.2.1, HW1.out.2.2, HW1.out.1⟩
      case round =>
        obtain ⟨j, hh, m, t, hj, rfl, rfl, rfl, HJ⟩ := hrel
        clear HW1
        by_cases hjl : j < n
        · obtain ⟨y, HY⟩ : ∃ z : F, Hid (pl.getD j 0 = z) := ⟨_, rfl⟩
          have c2 : wr.cell? ⟨b, off + j, none⟩ = some (.int .u8 (y.1 : Nat)) := by
            rw [← HY.out, HJ.out.2.2.2.2.bel.cell (by show b < g; have := HBB.out; have := HRW.out.2.1; omega)]
            exact HRW.out.1 j (by have := HRW.out.2.2.1; omega)
          have g2 : (0 : Int) ≤ (j : Int) := by omega
          have g3 : (j : Int) < (n : Int) := by omega
          by_cases e : j = k
          · subst e
            have HJ2 : Hid (t = thrF pl j (j + 1) ∧ (prdL pl j (j + 1)).length = m ∧ Bx wr hh 5 (fc (prdL pl j (j + 1))) ∧ g < hh ∧ PkI g g n j pl w wr) := by
              have e1 : thrF pl j (j + 1) = thrF pl j j := if_pos rfl
              have e2 : prdL pl j (j + 1) = prdL pl j j := if_pos rfl
              rw [e1, e2]
              exact HJ.out
            clear HJ
            go_wp2
            go_roundw
            case rel => exact ⟨j + 1, hh, m, t, by omega, by go_num, rfl, rfl, HJ2⟩
            case measure => simp [intOf]; omega
          · have g5 : ¬ (j : Int) = (k : Int) := by omega
            obtain ⟨PL, HPL⟩ : ∃ q : List F, Hid (prdL pl k j = q) := ⟨_, rfl⟩
            have HJ2 : Hid (PL.length = m ∧ Bx wr hh 5 (fc PL) ∧ g < hh ∧ PkI g g n k pl w wr ∧ m ≤ 1000) := by
              obtain ⟨a1, a2, a3, a4, a5⟩ := HJ.out
              rw [HPL.out] at a2 a3
              refine ⟨a2, a3, a4, a5, ?_⟩
              have h1 := prdL_len pl k j
              rw [HPL.out, a2] at h1
              have h2 := HRW.out.2.2.2
              split at h1 <;> omega
            have HT : Hid (thrF pl k (j + 1) = fm t (fa z y) ∧ prdL pl k (j + 1) = wrL PL y) := by
              have e1 : thrF pl k (j + 1) = fm (thrF pl k j) (fa (pl.getD k 0) (pl.getD j 0)) := if_neg e
              have e2 : prdL pl k (j + 1) = wrL (prdL pl k j) (pl.getD j 0) := if_neg e
              rw [e1, e2, HZ.out, HY.out, HPL.out, HJ.out.1]
              exact ⟨rfl, rfl⟩
            clear HJ
            obtain ⟨m2, HM2⟩ : ∃ q, Hid (m + 1 = q) := ⟨_, rfl⟩
            have H76 : Hid (Calls Tryd.prog 76 #[.slice (some ⟨hh, 0, none⟩) m m, .int .u8 (y.1 : Nat)] wr fun e w' => Hid (∃ g, e = .returned (.slice (some ⟨g, 0, none⟩) m2 m2) ∧ wr.heap.size ≤ g ∧ Bx w' g 5 (fc (wrL PL y)) ∧ Below wr.heap.size wr w')) := root_ok hh 0 m m m2 y PL wr HJ2.out.1 HM2.out.symm HJ2.out.2.2.2.2 (bx_rw HJ2.out.2.1) HJ2.out.2.1.lt
            have HXZ : Hid (bits .xor .u8 ((z.1 : Nat) : Int) ((y.1 : Nat) : Int) = (((fa z y).1 : Nat) : Int)) := xorF z y
            obtain ⟨zy, HZY⟩ : ∃ q : F, Hid (fa z y = q) := ⟨_, rfl⟩
            rw [HZY.out] at HXZ HT
            have H51 : Hid (∀ u, Calls Tryd.prog 51 #[.int .u8 (t.1 : Nat), .int .u8 (zy.1 : Nat)] u fun e w' => e = .returned (.int .u8 ((fm t zy).1 : Nat)) ∧ w' = u) := fun u => timesF t zy u
            obtain ⟨tz, HTZ⟩ : ∃ q : F, Hid (fm t zy = q) := ⟨_, rfl⟩
            rw [HTZ.out] at H51 HT
            go_wp2_with (first
              | (go_at_call 76; refine H76.out.mono ?_; intro e4 w4 h4; obtain ⟨h5, rfl, h6, h7, h8⟩ := h4.out; have HR4 : Hid (wr.heap.size ≤ h5 ∧ Bx w4 h5 5 (fc (wrL PL y)) ∧ Below wr.heap.size wr w4) := ⟨h6, h7, h8⟩; clear h4 h6 h7 h8 H76)
              | (go_at_call 51; rw [HXZ.out]; refine (H51.out _).mono ?_; rintro e1 w1 ⟨rfl, hw⟩; obtain rfl := hw.symm; clear hw H51))
            go_roundw
            case rel =>
              refine ⟨j + 1, h5, m2, tz, by omega, by go_num, rfl, rfl, HT.out.1.symm, ?_, ?_, ?_, ?_⟩
              · rw [HT.out.2, wrL_len, HJ2.out.1]; exact HM2.out
              · rw [HT.out.2]; exact HR4.out.2.1
              · have := HJ2.out.2.2.2.1.lt; have := HR4.out.1; omega
              · exact HJ2.out.2.2.2.1.below (Nat.le_of_lt HJ2.out.2.2.2.1.lt) HR4.out.2.2
            case measure => simp [intOf]; omega
        · obtain rfl : j = n := by omega
          have h1 : ¬ (j : Int) < (j : Int) := Int.lt_irrefl _
          obtain ⟨PL, HPL⟩ : ∃ q : List F, Hid (prdL pl k j = q) := ⟨_, rfl⟩
          have HJ2 : Hid (PL.length = m ∧ Bx wr hh 5 (fc PL) ∧ g < hh ∧ PkI g g j k pl w wr ∧ m = j ∧ peakL pl k = sclL PL (invF t)) := by
            obtain ⟨a1, a2, a3, a4, a5⟩ := HJ.out
            have hm : m = j := by
              have := prdL_len pl k j
              rw [if_pos hlt, a2] at this
              exact this
            refine ⟨by rw [← HPL.out]; exact a2, by rw [← HPL.out]; exact a3, a4, a5, hm, ?_⟩
            unfold peakL
            rw [HRW.out.2.2.1, HPL.out, a1]
          clear HJ
          obtain rfl : m = j := HJ2.out.2.2.2.2.1
          have H78 : Hid (∀ u, Calls Tryd.prog 78 #[.int .u8 (t.1 : Nat)] u fun e w' => e = .returned (.int .u8 ((invF t).1 : Nat)) ∧ w' = u) := fun u => inverse_ok t u
          obtain ⟨ti, HTI⟩ : ∃ q : F, Hid (invF t = q) := ⟨_, rfl⟩
          rw [HTI.out] at H78 HJ2
          have H77 : Hid (Calls Tryd.prog 77 #[.slice (some ⟨hh, 0, none⟩) m m, .int .u8 (ti.1 : Nat)] wr fun e w' => Hid (∃ g, e = .returned (.slice (some ⟨g, 0, none⟩) m m) ∧ wr.heap.size ≤ g ∧ Bx w' g 5 (fc (sclL PL ti)) ∧ Below wr.heap.size wr w')) := scaled_ok hh 0 m m ti PL wr HJ2.out.1 (by have := HRW.out.2.2.2; omega) (bx_rw HJ2.out.2.1) HJ2.out.2.1.lt
          go_upto_region 13 with fail
          go_upto_region 14 with (first
            | (go_at_call 78; refine (H78.out _).mono ?_; rintro e1 w1 ⟨rfl, hw⟩; obtain rfl := hw.symm; clear hw H78)
            | (go_at_call 77; refine H77.out.mono ?_; intro e4 w4 h4; obtain ⟨h5, rfl, h6, h7, h8⟩ := h4.out; have HP4 : Hid (PkI g g m k pl w w4 ∧ Bx w4 h5 5 (fc (peakL pl k)) ∧ g < h5) := (by rw [HJ2.out.2.2.2.2.2]; exact ⟨HJ2.out.2.2.2.1.below (Nat.le_of_lt HJ2.out.2.2.2.1.lt) h8, h7, by have := HJ2.out.2.2.2.1.lt; omega⟩); obtain ⟨x4, c4, f4⟩ := HP4.out.1.cell hlt; clear h4 h6 h7 h8 H77)
            | fail)
          have HN : Hid (PkI g g m (k + 1) pl w (w4.setCell ⟨g, k, none⟩ (.slice (some ⟨h5, 0, none⟩) m m))) := HP4.out.1.next hlt (Nat.le_refl _) HP4.out.2.2 HP4.out.2.1
          clear HP4 c4 f4
          go_wp2
          exact ⟨⟨k + 1, by omega, by go_num, HN⟩, by simp [intOf]; omega⟩
    · obtain rfl : k = n := by omega
      have h1 : ¬ (k : Int) < (k : Int) := Int.lt_irrefl _
      go_wp2
      go_ret
      exact ⟨g, rfl, by rw [HBB.out]; exact Nat.le_refl _, by rw [HBB.out]; exact HI.out⟩
end Go.Proofs.YtbpkocohddlbhaaDoor
namespace Go.Proofs.YtbpkocohddlbhaaDoor
open Go.RowKit
set_option linter.unusedVariables false
set_option linter.unusedSimpArgs false
set_option maxRecDepth 100000
theorem thruL_step (pl vs : List F) (n k i : Nat) (hp : pl.length = n) (hi : i < n) : (thruL pl vs (k + 1)).getD i 0 = fa ((thruL pl vs k).getD i 0) (fm ((peakL pl k).getD i 0) (vs.getD k 0)) := by
  show (addL (thruL pl vs k) (sclL (peakL pl k) (vs.getD k 0))).getD i 0 = _
  unfold addL
  rw [List.getD_eq_getElem?_getD, List.getElem?_map, List.getElem?_range (by rw [thruL_len, hp]; exact hi)]
  show fa _ ((sclL (peakL pl k) (vs.getD k 0)).getD i 0) = _
  congr 1
  exact getD_map0 _ (fun c => fm c (vs.getD k 0)) (by first | exact zero_fm _ | simp) i
set_option maxHeartbeats 3200000 in
/-- through. -/
theorem through_ok (PG n vb vo vc M : Nat) (pl vs : List F) (w0 w : World) (hn : n ≤ 900) (hp : PkI M PG n n pl w0 w) (hv : Rw w vb vo vs) (hvl : vs.length = n) (hpl : pl.length = n) (hb : vb < w.heap.size) :
    Calls Tryd.prog 67 #[.slice (some ⟨PG, 0, none⟩) n n, .slice (some ⟨vb, vo, none⟩) n vc] w fun e w' => Hid (∃ g, e = .returned (.slice (some ⟨g, 0, none⟩) n n) ∧ w.heap.size ≤ g ∧ Bx w' g 5 (fc (thruL pl vs n)) ∧ Below w.heap.size w w') := by
  obtain ⟨i0, hi0, hz0, hz1, hz2⟩ := info_parts Tryd.infoB
  have HI0 : Hid (Tryd.prog.info? 5 = some i0 ∧ i0.zero = some (.int .u8 0) ∧ i0.size = 1 ∧ i0.bytes = 1) := ⟨hi0, hz0, hz1, hz2⟩
  have HMF : Hid (i0.bytes * n ≤ 281474976710656 ∧ n ≤ maxLen) := made_few i0.bytes n n 1 (by decide) HI0.out.2.2.2 (by omega)
  obtain ⟨S, HS⟩ : ∃ S : Nat → List F, Hid (thruL pl vs = S) := ⟨_, rfl⟩
  have HSA : Hid (S 0 = List.replicate n 0 ∧ (∀ k, (S k).length = n) ∧ ∀ k i, i < n → (S (k + 1)).getD i 0 = fa ((S k).getD i 0) (fm ((peakL pl k).getD i 0) (vs.getD k 0))) := by
    rw [← HS.out]
    exact ⟨by rw [← hpl]; rfl, fun k => by rw [thruL_len, hpl], fun k i hi => thruL_step pl vs n k i hpl hi⟩
  rw [HS.out]
  obtain ⟨gs, HGS⟩ : ∃ gs : Nat → Nat, Hid ((∀ i, i < n → w.cell? ⟨PG, i, none⟩ = some (.slice (some ⟨gs i, 0, none⟩) n n) ∧ ∀ j, j < n → w.cell? ⟨gs i, j, none⟩ = some (.int .u8 (((peakL pl i).getD j 0).1 : Nat))) ∧ Rw w vb vo vs ∧ vs.length = n ∧ ∀ a v, w.cell? a = some v → a.block < w.heap.size) := by
    obtain ⟨cu, gs, h1, h2, h3, h4⟩ := hp.top
    refine ⟨gs, fun i hi => ⟨h1.cell i _ (h4 i hi).1, fun j hj => (h4 i hi).2.2.cell j _ (fc_at _ j (by rw [peakL_len pl i (by omega), hpl]; exact hj))⟩, hv, hvl, fun a v h => World.block_lt_of_cell? _ _ h⟩
  clear hi0 hz0 hz1 hz2 hp hv hvl hpl hb
  obtain ⟨g, HBB⟩ : ∃ g, Hid (w.heap.size = g) := ⟨_, rfl⟩
  have HCB : Hid (∀ u a v, Below g w u → w.cell? a = some v → u.cell? a = some v) := fun u a v hb hc => by
    rw [hb.cell (by have := HGS.out.2.2.2 a v hc; have := HBB.out; omega)]
    exact hc
  go_enter Tryd.func67, Tryd.ntmps67
  go_wp2_with (first
    | (at_make; go_must (refine wpList_make_full _ rfl _ _ 23 rfl w.heap.size 5 i0 (.int .u8 0) 1 Tryd.underlying23 HI0.out.1 HI0.out.2.1 HI0.out.2.2.1 .i64 .i64 (n : Nat) (n : Nat) n rfl rfl rfl rfl HMF.out.1 HMF.out.2 (Nat.le_refl _) ?_; intro w2 hown hgrow; have hlo : Below w.heap.size w w2 := ⟨hgrow.os, hgrow.tape, hgrow.output, hgrow.size, fun c hc => hgrow.block c hc (by simp)⟩; have HX2 : Hid (Bx w2 g 5 (fc (S 0)) ∧ Below g w w2) := (by rw [← HBB.out]; exact ⟨by rw [HSA.out.1, fc_repD]; have q := (own_full1 hown).1; rw [show (Value.int .u8 0).cells = #[.int .u8 0] from rfl, Nat.mul_one, toList_madeCells_one] at q; exact q, hlo⟩); clear hown hgrow hlo)))
  rw [HBB.out]
  go_loopw [15] (fun vi wr => ∃ k : Nat, k ≤ n ∧ vi = .int .i64 (k : Nat) ∧ Hid (Bx wr g 5 (fc (S k)) ∧ Below g w wr)) (fun vi _ => n - (intOf vi).toNat)
  case atStart => exact ⟨0, by omega, rfl, HX2.out⟩
  case round =>
    obtain ⟨k, hk, rfl, HI⟩ := hrel
    clear HX2
    by_cases hlt : k < n
    · obtain ⟨gk, HGK⟩ : ∃ q, Hid (gs k = q) := ⟨_, rfl⟩
      obtain ⟨z, HZ⟩ : ∃ z : F, Hid (vs.getD k 0 = z) := ⟨_, rfl⟩
      obtain ⟨PL, HPL⟩ : ∃ q : List F, Hid (peakL pl k = q) := ⟨_, rfl⟩
      have c1 : wr.cell? ⟨PG, k, none⟩ = some (.slice (some ⟨gk, 0, none⟩) n n) := by rw [← HGK.out]; exact HCB.out _ _ _ HI.out.2 (HGS.out.1 k hlt).1
      have g0 : (0 : Int) ≤ (k : Int) := by omega
      have g1 : (k : Int) < (n : Int) := by omega
      have HST : Hid (∀ i, i < n → (S (k + 1)).getD i 0 = fa ((S k).getD i 0) (fm (PL.getD i 0) z)) := fun i hi => by rw [HSA.out.2.2 k i hi, HPL.out, HZ.out]
      have HPC : Hid (∀ i u, i < n → Below g w u → u.cell? ⟨gk, i, none⟩ = some (.int .u8 ((PL.getD i 0).1 : Nat)) ∧ u.cell? ⟨vb, vo + k, none⟩ = some (.int .u8 (z.1 : Nat))) := fun i u hi hu => by
        rw [← HGK.out, ← HPL.out, ← HZ.out]
        exact ⟨HCB.out _ _ _ hu ((HGS.out.1 k hlt).2 i hi), HCB.out _ _ _ hu (HGS.out.2.1 k (by rw [HGS.out.2.2.1]; exact hlt))⟩
      go_upto_region 6 with fail
      clear c1
      go_loopw [22] (fun vi wx => ∃ (i : Nat) (T : List F), i ≤ n ∧ vi = .int .i64 (i : Nat) ∧ Hid (Bx wx g 5 (fc T) ∧ Below g w wx ∧ T.length = n ∧ ∀ j, j < n → T.getD j 0 = if j < i then (S (k + 1)).getD j 0 else (S k).getD j 0)) (fun vi _ => n - (intOf vi).toNat)
      case atStart => exact ⟨0, S k, by omega, rfl, HI.out.1, HI.out.2, HSA.out.2.1 k, fun j hj => by rw [if_neg (by omega)]⟩
      case round =>
        obtain ⟨i, T, hi, rfl, HT⟩ := hrel
        clear HI
        by_cases hil : i < n
        · obtain ⟨x, HX⟩ : ∃ z : F, Hid (T.getD i 0 = z) := ⟨_, rfl⟩
          obtain ⟨y, HY⟩ : ∃ z : F, Hid (PL.getD i 0 = z) := ⟨_, rfl⟩
          have c2 : wr.cell? ⟨gk, i, none⟩ = some (.int .u8 (y.1 : Nat)) := by rw [← HY.out]; exact (HPC.out i _ hil HT.out.2.1).1
          have c3 : wr.cell? ⟨vb, vo + k, none⟩ = some (.int .u8 (z.1 : Nat)) := (HPC.out i _ hil HT.out.2.1).2
          have c4 : wr.cell? ⟨g, i, none⟩ = some (.int .u8 (x.1 : Nat)) := HT.out.1.cell i _ (by rw [fc_at _ i (by rw [HT.out.2.2.1]; exact hil), HX.out])
          have f4 : wr.frozen? ⟨g, i, none⟩ = false := HT.out.1.frozen i
          have g2 : (0 : Int) ≤ (i : Int) := by omega
          have g3 : (i : Int) < (n : Int) := by omega
          obtain ⟨yz, HYZ⟩ : ∃ q : F, Hid (fm y z = q) := ⟨_, rfl⟩
          have H51 : Hid (∀ u, Calls Tryd.prog 51 #[.int .u8 (y.1 : Nat), .int .u8 (z.1 : Nat)] u fun e w' => e = .returned (.int .u8 (yz.1 : Nat)) ∧ w' = u) := fun u => by rw [← HYZ.out]; exact timesF y z u
          obtain ⟨r, HR⟩ : ∃ q : F, Hid (fa x yz = q) := ⟨_, rfl⟩
          have hxr : bits .xor .u8 ((x.1 : Nat) : Int) ((yz.1 : Nat) : Int) = ((r.1 : Nat) : Int) := by rw [← HR.out]; exact xorF x yz
          have HN : Hid (Bx (wr.setCell ⟨g, i, none⟩ (.int .u8 (r.1 : Nat))).drew g 5 (fc (T.set i r)) ∧ Below g w (wr.setCell ⟨g, i, none⟩ (.int .u8 (r.1 : Nat))).drew ∧ (T.set i r).length = n ∧ ∀ j, j < n → (T.set i r).getD j 0 = if j < i + 1 then (S (k + 1)).getD j 0 else (S k).getD j 0) := by
            obtain ⟨a1, a2, a3, a4⟩ := HT.out
            refine ⟨by rw [fc_set]; exact a1.set _ _, (a2.setCell (Nat.le_refl _) _).drew, by rw [List.length_set]; exact a3, fun j hj => ?_⟩
            rw [List.getD_eq_getElem?_getD, List.getElem?_set]
            by_cases e : i = j
            · subst e
              rw [if_pos rfl, if_pos (by rw [a3]; exact hil), if_pos (by omega)]
              show r = _
              rw [HST.out i hil, HY.out, ← HR.out, ← HYZ.out, ← HX.out, a4 i hil, if_neg (by omega)]
            · rw [if_neg e, ← List.getD_eq_getElem?_getD, a4 j hj]
              by_cases h3 : j < i
              · rw [if_pos h3, if_pos (by omega)]
              · rw [if_neg h3, if_neg (by omega)]
          clear HT
          generalize r.1 = r1 at hxr HN
          generalize x.1 = x1 at hxr c4
          generalize y.1 = y1 at c2 H51
          generalize z.1 = z1 at c3 H51 HPC
          generalize yz.1 = yz1 at hxr H51
          go_upto_region 8 with fail
          have hS0 : wr.drew.cell? ⟨g, i, none⟩ = some (.int .u8 (x1 : Nat)) ∧ wr.drew.cell? ⟨vb, vo + k, none⟩ = some (.int .u8 (z1 : Nat)) := ⟨c4, c3⟩
          clear c2 c3 c4
          refine wp_region_noPanic ?_
          refine wp_region_till (fun u => u.cell? ⟨g, i, none⟩ = some (.int .u8 (x1 : Nat)) ∧ u.cell? ⟨vb, vo + k, none⟩ = some (.int .u8 (z1 : Nat))) 12 (by kernel_rfl) (by decide) (by decide +kernel) (by decide +kernel) (by decide +kernel) (fun inv => ?_)
          refine till_at 0 27 (.slice (some ⟨g, 0, none⟩) n n) inv rfl rfl (by decide) (by decide +kernel) (by decide +kernel) (fun _ _ _ h => h) hS0 (Or.inl ⟨by rfl, fun w' hS' => by obtain ⟨k1, k2⟩ := hS'; go_simp⟩) (fun inv' => ?_)
          clear inv; have inv := inv'; clear inv'
          try simp only [List.setIfInBounds_toArray, List.set_cons_zero, List.set_cons_succ]
          refine till_at 1 28 (.int .i64 (i : Nat)) inv rfl rfl (by decide) (by decide +kernel) (by decide +kernel) (fun _ _ _ h => h) hS0 (Or.inl ⟨by rfl, fun w' hS' => by obtain ⟨k1, k2⟩ := hS'; go_simp⟩) (fun inv' => ?_)
          clear inv; have inv := inv'; clear inv'
          try simp only [List.setIfInBounds_toArray, List.set_cons_zero, List.set_cons_succ]
          refine till_at 2 29 (.pointer (some ⟨g, i, none⟩)) inv rfl rfl (by decide) (by decide +kernel) (by decide +kernel) (fun _ _ _ h => h) hS0 (Or.inl ⟨by rfl, fun w' hS' => by obtain ⟨k1, k2⟩ := hS'; go_simp⟩) (fun inv' => ?_)
          clear inv; have inv := inv'; clear inv'
          try simp only [List.setIfInBounds_toArray, List.set_cons_zero, List.set_cons_succ]
          refine till_at 3 30 (.int .u8 (x1 : Nat)) inv rfl rfl (by decide) (by decide +kernel) (by decide +kernel) (fun _ _ _ h => h) hS0 (Or.inl ⟨by rfl, fun w' hS' => by obtain ⟨k1, k2⟩ := hS'; go_simp⟩) (fun inv' => ?_)
          clear inv; have inv := inv'; clear inv'
          try simp only [List.setIfInBounds_toArray, List.set_cons_zero, List.set_cons_succ]
          refine till_at 4 31 (.int .u8 (y1 : Nat)) inv rfl rfl (by decide) (by decide +kernel) (by decide +kernel) (fun _ _ _ h => h) hS0 (Or.inl ⟨by rfl, fun w' hS' => by obtain ⟨k1, k2⟩ := hS'; go_simp⟩) (fun inv' => ?_)
          clear inv; have inv := inv'; clear inv'
          try simp only [List.setIfInBounds_toArray, List.set_cons_zero, List.set_cons_succ]
          refine till_at 5 32 (.slice (some ⟨vb, vo, none⟩) n vc) inv rfl rfl (by decide) (by decide +kernel) (by decide +kernel) (fun _ _ _ h => h) hS0 (Or.inl ⟨by rfl, fun w' hS' => by obtain ⟨k1, k2⟩ := hS'; go_simp⟩) (fun inv' => ?_)
          clear inv; have inv := inv'; clear inv'
          try simp only [List.setIfInBounds_toArray, List.set_cons_zero, List.set_cons_succ]
          refine till_at 6 33 (.int .i64 (k : Nat)) inv rfl rfl (by decide) (by decide +kernel) (by decide +kernel) (fun _ _ _ h => h) hS0 (Or.inl ⟨by rfl, fun w' hS' => by obtain ⟨k1, k2⟩ := hS'; go_simp⟩) (fun inv' => ?_)
          clear inv; have inv := inv'; clear inv'
          try simp only [List.setIfInBounds_toArray, List.set_cons_zero, List.set_cons_succ]
          refine till_at 7 34 (.pointer (some ⟨vb, vo + k, none⟩)) inv rfl rfl (by decide) (by decide +kernel) (by decide +kernel) (fun _ _ _ h => h) hS0 (Or.inl ⟨by rfl, fun w' hS' => by obtain ⟨k1, k2⟩ := hS'; go_simp⟩) (fun inv' => ?_)
          clear inv; have inv := inv'; clear inv'
          try simp only [List.setIfInBounds_toArray, List.set_cons_zero, List.set_cons_succ]
          refine till_at 8 35 (.int .u8 (z1 : Nat)) inv rfl rfl (by decide) (by decide +kernel) (by decide +kernel) (fun _ _ _ h => h) hS0 (Or.inl ⟨by rfl, fun w' hS' => by obtain ⟨k1, k2⟩ := hS'; go_simp⟩) (fun inv' => ?_)
          clear inv; have inv := inv'; clear inv'
          try simp only [List.setIfInBounds_toArray, List.set_cons_zero, List.set_cons_succ]
          refine till_head (i := 9) inv (by decide +kernel) (by decide) rfl (fun KK hK => ?_)
          go_simp
          refine (H51.out _).mono ?_
          rintro e5 w5 ⟨rfl, hw⟩
          obtain rfl := hw.symm
          clear hw
          go_wp2_with fail
          refine hK.out _ _ (hS0) (fun inv' => ?_)
          clear hK KK inv; have inv := inv'; clear inv'
          try simp only [List.setIfInBounds_toArray, List.set_cons_zero, List.set_cons_succ]
          refine till_at 10 37 (.int .u8 (r1 : Nat)) inv rfl rfl (by decide) (by decide +kernel) (by decide +kernel) (fun _ _ _ h => h) hS0 (Or.inl ⟨by rfl, fun w' hS' => by obtain ⟨k1, k2⟩ := hS'; go_simp⟩) (fun inv' => ?_)
          clear inv; have inv := inv'; clear inv'
          try simp only [List.setIfInBounds_toArray, List.set_cons_zero, List.set_cons_succ]
          refine till_at 11 38 (.pointer (some ⟨g, i, none⟩)) inv rfl rfl (by decide) (by decide +kernel) (by decide +kernel) (fun _ _ _ h => h) hS0 (Or.inl ⟨by rfl, fun w' hS' => by obtain ⟨k1, k2⟩ := hS'; go_simp⟩) (fun inv' => ?_)
          clear inv; have inv := inv'; clear inv'
          try simp only [List.setIfInBounds_toArray, List.set_cons_zero, List.set_cons_succ]
          refine till_tail (i := 12) (by decide +kernel) (by decide) rfl (fun KK hK => ?_)
          rw [if_pos (by rfl)]
          go_simp
          refine hK.out _ _ ?_
          clear hK KK
          try simp only [List.setIfInBounds_toArray, List.set_cons_zero, List.set_cons_succ]
          refine till_done (by decide +kernel) ?_ _
          refine NoPanic.normal ?_
          go_wp2
          refine ⟨⟨i + 1, _, by omega, by first | rfl | (simp; done), HN⟩, ?_⟩
          simp [intOf]
          omega
        · obtain rfl : i = n := by omega
          have h1 : ¬ (i : Int) < (i : Int) := Int.lt_irrefl _
          have HI2 : Hid (Bx wr g 5 (fc (S (k + 1))) ∧ Below g w wr) := by
            obtain ⟨a1, a2, a3, a4⟩ := HT.out
            have e : T = S (k + 1) := by
              apply List.ext_getElem (by rw [a3, HSA.out.2.1])
              intro j h1 h2
              have q := a4 j (by omega)
              rw [if_pos (by omega)] at q
              rw [List.getD_eq_getElem?_getD, List.getD_eq_getElem?_getD, List.getElem?_eq_getElem h1, List.getElem?_eq_getElem h2] at q
              exact q
            rw [← e]
            exact ⟨a1, a2⟩
          clear HT
          go_wp2
          exact ⟨⟨k + 1, by omega, by go_num, HI2⟩, by simp [intOf]; omega⟩
    · obtain rfl : k = n := by omega
      have h1 : ¬ (k : Int) < (k : Int) := Int.lt_irrefl _
      go_wp2
      go_ret
      exact ⟨g, rfl, by rw [HBB.out]; exact Nat.le_refl _, HI.out.1, by rw [HBB.out]; exact HI.out.2⟩
end Go.Proofs.YtbpkocohddlbhaaDoor
namespace Go.Proofs.YtbpkocohddlbhaaDoor
open Go.RowKit
set_option linter.unusedVariables false
set_option linter.unusedSimpArgs false
set_option maxRecDepth 100000
/-- The polynomials where they lie: their coefficients, the highest power first. -/
structure PolI (LB n m : Nat) (C : Nat → List F) (p q : Nat → Nat) (u : World) : Prop where
  at' : ∀ i, i < n → u.cell? ⟨LB, i, none⟩ = some (.func (.func 50) #[] #[.pointer (some ⟨p i, 0, none⟩)])
  box : ∀ i, i < n → ∃ c, u.cell? ⟨p i, 0, none⟩ = some (.slice (some ⟨q i, 0, none⟩) m c)
  row : ∀ i, i < n → Rw u (q i) 0 (C i) ∧ (C i).length = m
theorem PolI.below {LB n m B : Nat} {C : Nat → List F} {p q : Nat → Nat} {u v : World} (h : PolI LB n m C p q u) (hB : u.heap.size ≤ B) (hv : Below B u v) : PolI LB n m C p q v :=
  have hc : ∀ a x, u.cell? a = some x → v.cell? a = some x := fun a x e => by rw [hv.cell (by have := World.block_lt_of_cell? _ _ e; omega)]; exact e
  ⟨fun i hi => hc _ _ (h.at' i hi), fun i hi => by obtain ⟨c, e⟩ := h.box i hi; exact ⟨c, hc _ _ e⟩, fun i hi => ⟨fun j hj => hc _ _ ((h.row i hi).1 j hj), (h.row i hi).2⟩⟩
set_option maxHeartbeats 1600000 in
/-- valuesAt. -/
theorem values_ok (LB n m c : Nat) (x : F) (C : Nat → List F) (p q : Nat → Nat) (w : World) (hn : n ≤ 1000) (hm : m ≤ 4000) (h : PolI LB n m C p q w) :
    Calls Tryd.prog 37 #[.int .u8 (x.1 : Nat), .slice (some ⟨LB, 0, none⟩) n c] w fun e w' => Hid (∃ g, e = .returned (.slice (some ⟨g, 0, none⟩) n n) ∧ w.heap.size ≤ g ∧ Bx w' g 5 (fc ((List.range n).map fun i => pv x (C i))) ∧ Below w.heap.size w w') := by
  obtain ⟨G, HG⟩ : ∃ G : Nat → F, Hid ((fun i => pv x (C i)) = G) := ⟨_, rfl⟩
  rw [HG.out]
  obtain ⟨i0, hi0, hz0, hz1, hz2⟩ := info_parts Tryd.infoB
  have HI0 : Hid (Tryd.prog.info? 5 = some i0 ∧ i0.zero = some (.int .u8 0) ∧ i0.size = 1 ∧ i0.bytes = 1) := ⟨hi0, hz0, hz1, hz2⟩
  have HMF : Hid (i0.bytes * n ≤ 281474976710656 ∧ n ≤ maxLen) := made_few i0.bytes n n 1 (by decide) HI0.out.2.2.2 (by omega)
  have HP : Hid (PolI LB n m C p q w) := h
  obtain ⟨g, HBB⟩ : ∃ g, Hid (w.heap.size = g) := ⟨_, rfl⟩
  clear hi0 hz0 hz1 hz2 h
  go_enter Tryd.func37, Tryd.ntmps37
  go_wp2_with (first
    | (at_make; go_must (refine wpList_make_full _ rfl _ _ 23 rfl w.heap.size 5 i0 (.int .u8 0) 1 Tryd.underlying23 HI0.out.1 HI0.out.2.1 HI0.out.2.2.1 .i64 .i64 (n : Nat) (n : Nat) n rfl rfl rfl rfl HMF.out.1 HMF.out.2 (Nat.le_refl _) ?_; intro w2 hown hgrow; have hlo : Below w.heap.size w w2 := ⟨hgrow.os, hgrow.tape, hgrow.output, hgrow.size, fun c hc => hgrow.block c hc (by simp)⟩; have HX2 : Hid ((∃ cu, Bx w2 g 5 cu ∧ Cu n 0 G cu) ∧ Below g w w2) := (by rw [← HBB.out]; exact ⟨⟨_, (own_full1 hown).1, by rw [show (Value.int .u8 0).cells = #[.int .u8 0] from rfl, Nat.mul_one, toList_madeCells_one]; exact Cu.zero n G⟩, hlo⟩); clear hown hgrow hlo)))
  rw [HBB.out]
  go_loopw [13] (fun vi wr => ∃ k : Nat, k ≤ n ∧ vi = .int .i64 (k : Nat) ∧ Hid ((∃ cu, Bx wr g 5 cu ∧ Cu n k G cu) ∧ Below g w wr)) (fun vi _ => n - (intOf vi).toNat)
  case atStart => exact ⟨0, by omega, rfl, HX2.out⟩
  case round =>
    obtain ⟨k, hk, rfl, HI⟩ := hrel
    clear HX2
    by_cases hlt : k < n
    · obtain ⟨⟨cu, hcu, hC⟩, hbl⟩ := HI.out
      obtain ⟨y, hy⟩ := hC.2.2 k hlt
      have c0 : wr.cell? ⟨g, k, none⟩ = some (.int .u8 y) := hcu.cell k _ hy
      have f0 : wr.frozen? ⟨g, k, none⟩ = false := hcu.frozen k
      have HP2 : PolI LB n m C p q wr := HP.out.below (Nat.le_of_eq HBB.out) hbl
      obtain ⟨pk, HPK⟩ : ∃ z, Hid (p k = z) := ⟨_, rfl⟩
      have c1 : wr.cell? ⟨LB, k, none⟩ = some (.func (.func 50) #[] #[.pointer (some ⟨pk, 0, none⟩)]) := by rw [← HPK.out]; exact HP2.at' k hlt
      have g0 : (0 : Int) ≤ (k : Int) := by omega
      have g1 : (k : Int) < (n : Int) := by omega
      have H1 : Hid (Calls Tryd.prog 50 #[.int .u8 (x.1 : Nat), .pointer (some ⟨pk, 0, none⟩)] wr fun e w' => e = .returned (.int .u8 ((G k).1 : Nat)) ∧ w' = wr) := by
        obtain ⟨c', hc'⟩ := HP2.box k hlt
        rw [HPK.out] at hc'
        rw [← HG.out]
        exact poly_ok x pk (q k) 0 c' (C k) wr (by rw [(HP2.row k hlt).2]; exact hc') (by rw [(HP2.row k hlt).2]; exact hm) (HP2.row k hlt).1
      have HN2 : Hid ((∃ cu, Bx (wr.setCell ⟨g, k, none⟩ (.int .u8 ((G k).1 : Nat))) g 5 cu ∧ Cu n (k + 1) G cu) ∧ Below g w (wr.setCell ⟨g, k, none⟩ (.int .u8 ((G k).1 : Nat)))) := ⟨⟨_, hcu.set k _, hC.next hlt⟩, hbl.setCell (Nat.le_refl _) _⟩
      generalize (G k).1 = ek at H1 HN2
      clear hcu hC hbl HI HP2
      go_wp2_with (first
        | (go_at_call 50; refine H1.out.mono ?_; rintro e1 w1 ⟨rfl, hw⟩; obtain rfl := hw.symm; clear hw H1))
      go_roundw
      case rel => exact ⟨k + 1, by omega, by go_num, HN2.out⟩
      case measure => simp [intOf]; omega
    · obtain rfl : k = n := by omega
      obtain ⟨⟨cu, hcu, hC⟩, hbl⟩ := HI.out
      have h1 : ¬ (k : Int) < (k : Int) := Int.lt_irrefl _
      have HC : Hid (Bx wr g 5 (fc ((List.range k).map G)) ∧ Below g w wr) := by rw [← hC.all]; exact ⟨hcu, hbl⟩
      clear hcu hC hbl HI
      go_wp2
      go_ret
      exact ⟨g, rfl, by rw [HBB.out]; exact Nat.le_refl _, HC.out.1, by rw [HBB.out]; exact HC.out.2⟩
end Go.Proofs.YtbpkocohddlbhaaDoor
namespace Go.Proofs.YtbpkocohddlbhaaDoor
open Go.RowKit
set_option linter.unusedVariables false
set_option linter.unusedSimpArgs false
set_option maxRecDepth 100000
/-- Some cells of a box are written. -/
theorem Bx.over {w : World} {b : Nat} {t : TypeId} {A B D : List Value} (cs : List Value) (h : Bx w b t (A ++ B ++ D)) (hl : cs.length = B.length) : Bx (w.setCells b A.length cs) b t (A ++ cs ++ D) := by
  obtain ⟨r, h1, h2, h3⟩ := setCells_bo b t cs A.length w _ h
  have e : r = (A ++ cs ++ D).toArray := by
    apply Array.ext_getElem?
    intro j
    rw [h3]
    simp only [List.size_toArray, List.getElem?_toArray]
    by_cases ha : j < A.length
    · rw [if_neg (by omega), List.append_assoc, List.append_assoc, List.getElem?_append_left ha, List.getElem?_append_left ha]
    · by_cases hb : j < A.length + B.length
      · rw [if_pos ⟨by omega, by omega, by simp; omega⟩, List.getElem?_append_left (by simp; omega), List.getElem?_append_right (by omega)]
      · rw [if_neg (by omega), List.getElem?_append_right (by simp; omega), List.getElem?_append_right (by simp; omega)]
        congr 1
        simp [hl]
  unfold Bx
  rw [h1, e]
theorem infoB1 : (Tryd.prog.info? 5).map (·.size) = some 1 := by kernel_rfl
/-- copy of a row into a box. -/
theorem wpList_copy_bx {ops : Array Oper} {rest : List Oper} {o : Oper} {a : Act} {Q : Exit → Act → World → Prop} {w : World} (hgd : o.guard = none) (d s : Operand)
    (ho : o.op = .call { callee := .builtin .copy, args := #[d, s], argTypes := #[23, 23] }) (g off dl dc : Nat) (hd : a.eval d = .slice (some ⟨g, off, none⟩) dl dc)
    (sb so n sc : Nat) (l : List F) (hs : a.eval s = .slice (some ⟨sb, so, none⟩) n sc) (hl : l.length = n) (hr : Rw w sb so l) (hnd : n ≤ dl)
    (A B D : List Value) (hA : A.length = off) (hB : B.length = n) (hb : Bx w g 5 (A ++ B ++ D))
    (h : ∀ u, Bx u g 5 (A ++ fc l ++ D) → w.grownBy u (some g) → wpList Tryd.prog ops Q rest (a.put o.dst (.int .i64 (n : Nat))) u) : wpList Tryd.prog ops Q (o :: rest) a w :=
  wpList_plain hgd fun _ hK => by
    have e := run_copy_cells (P := Tryd.prog) w 23 23 o.type 5 g off dl dc ⟨sb, so, none⟩ n sc (fc l) Tryd.underlying23 infoB1 (by rw [fc_len, hl]; exact (Nat.min_eq_left hnd).symm) (fun j u hu => by
      have hj : j < l.length := by have := (List.getElem?_eq_some_iff.1 hu).1; rw [fc_len] at this; exact this
      rw [fc_at l j hj] at hu
      injection hu with hu
      rw [← hu, show (⟨sb, so, none⟩ : Addr).add j = ⟨sb, so + j, none⟩ by unfold Addr.add; split <;> simp_all]
      exact hr j hj) (fun j hj => by
        rw [fc_len] at hj
        have q : (A ++ B ++ D)[off + j]? = some ((A ++ B ++ D)[off + j]'(by simp; omega)) := List.getElem?_eq_getElem _
        rw [hb.cell _ _ q]; rfl) (fun j hj => hb.frozen _) (fc_one l)
    rw [fc_len, hl] at e
    have q1 : Bx (w.setCells g off (fc l)) g 5 (A ++ fc l ++ D) := by rw [← hA]; exact hb.over (fc l) (by rw [fc_len, hl, hB])
    unfold Oper.wp execOp
    simp only [ho, resolve, invoke, builtin, Sem.run_bind, Sem.run_pure, Result.andThen_ok, List.map_toArray, List.map_cons, List.map_nil, hs, hd, e]
    exact hK _ _ (h _ q1 (setCells_gb g _ off w))
theorem upd_box {w w2 u : World} {b : Nat} {o : Obj} {L R : List Value} (h1 : Bx w2 b 5 L) (h2 : Below w.heap.size w w2) (hb : Bx u w2.heap.size 99 R) (hg : (w2.alloc o).grownBy u (some w2.heap.size)) : Bx u w2.heap.size 99 R ∧ Bx u b 5 L ∧ Below w.heap.size w u ∧ b < w2.heap.size ∧ w.heap.size ≤ w2.heap.size := by
  have ha : Below w2.heap.size w2 (w2.alloc o) := (Below.refl _ _).alloc (Nat.le_refl _) _
  have hs : Below w2.heap.size (w2.alloc o) u := below_gb hg (by have := ha.size; omega) (Nat.le_refl _)
  have hz := ha.trans hs
  exact ⟨hb, h1.below hz, h2.trans (hz.mono h2.size), h1.lt, h2.size⟩
theorem fc_appD (a b : List F) : fc (a ++ b) = fc a ++ fc b := by simp [fc]
theorem gb_below {w u : World} {b : Nat} (h : Below w.heap.size w u) : w.grownBy u (some b) := ⟨h.os, h.tape, h.output, h.size, fun k hk _ => h.block k hk⟩
theorem bx_rw9 {w : World} {b t : Nat} {l : List F} (h : Bx w b t (fc l)) : Rw w b 0 l := fun i hi => by
  rw [Nat.zero_add]
  exact h.cell i _ (fc_at l i hi)
theorem pw4_fc : fc pw4 = fc ((List.range 4).map Em) := rfl
set_option maxHeartbeats 3200000 in
/-- writeCode. -/
theorem code_ok (b n c N : Nat) (l : List F) (w : World) (hl : l.length = n) (hN : N = n + 4) (hn : n ≤ 900) (hc : N ≤ c) (hc2 : c ≤ 9223372036854775807) (h : Bx w b 5 (fc (l ++ [0, 0, 0, 0]))) :
    Calls Tryd.prog 57 #[.slice (some ⟨b, 0, none⟩) N c] w fun e w' => Hid (e = .returned (.tuple #[]) ∧ Bx w' b 5 (fc (l ++ codeL l)) ∧ w.grownBy w' (some b)) := by
  obtain ⟨L, HL⟩ : ∃ q : List F, Hid (l ++ [0, 0, 0, 0] = q) := ⟨l ++ [0, 0, 0, 0], show l ++ [0, 0, 0, 0] = _ from rfl⟩
  have HLL : Hid (L.length = N) := by show L.length = N; rw [← HL.out]; simp; omega
  obtain ⟨VS, HVS⟩ : ∃ q : List F, Hid (sumL L = q) := ⟨_, rfl⟩
  have HV4 : Hid (VS.length = 4 ∧ thruL pw4 VS 4 = codeL l) := by
    rw [← HVS.out, ← HL.out]
    exact ⟨by simp [sumL], rfl⟩
  have HBL : Hid (Bx w b 5 (fc L)) := by rw [← HL.out]; exact h
  have H66 : Hid (Calls Tryd.prog 66 #[.slice (some ⟨b, 0, none⟩) N c] w fun e w' => Hid (e = .returned (.agg (fc VS).toArray) ∧ Below w.heap.size w w')) := by
    have q := sumsOf_ok b 0 c L w (by rw [HLL.out]; omega) (bx_rw HBL.out) HBL.out.lt
    rw [HLL.out, HVS.out] at q
    exact q
  have HLN : Hid ((fc VS).length = 4 ∧ ∀ v ∈ fc VS, v.oneCell' = true) := ⟨by rw [fc_len]; exact HV4.out.1, fc_one _⟩
  have hi7 : (Tryd.prog.info? 99).map (·.size) = some (fc VS).length := by rw [HLN.out.1]; kernel_rfl
  obtain ⟨R, HR⟩ : ∃ R, Hid (fc VS = R) := ⟨_, rfl⟩
  rw [HR.out] at H66 HLN hi7
  have HlN : Hid (l.length = n) := hl
  clear h hl hN
  go_enter Tryd.func57, Tryd.ntmps57
  go_upto_region 1 with (first
    | (go_at_call 66; refine H66.out.mono ?_; intro e2 w2 hh; obtain ⟨rfl, h1⟩ := hh.out; have HB2 : Hid (Bx w2 b 5 (fc L) ∧ Below w.heap.size w w2) := ⟨HBL.out.below h1, h1⟩; clear hh h1 H66)
    | (refine wpList_store_bx (by rfl) 99 (.tmp 2) (.tmp 5) (by rfl) [.int .u8 0, .int .u8 0, .int .u8 0, .int .u8 0] R w2.heap.size (by rfl) (by rfl) (Bx.new w2 99 _) (by rw [HLN.out.1]; rfl) hi7 HLN.out.2 ?_; intro u3 hb3 hg3; have HB3 : Hid (Bx u3 w2.heap.size 99 R ∧ Bx u3 b 5 (fc L) ∧ Below w.heap.size w u3 ∧ b < w2.heap.size ∧ w.heap.size ≤ w2.heap.size) := upd_box HB2.out.1 HB2.out.2 hb3 hg3; clear hb3 hg3)
    | fail)
  obtain ⟨M, HMM⟩ : ∃ M, Hid (w2.heap.size = M) := ⟨_, rfl⟩
  rw [HMM.out] at HB3 ⊢
  clear HLN hi7
  obtain ⟨W, HWW⟩ : ∃ W, Hid (w.heap.size = W) := ⟨_, rfl⟩
  have HBM : Hid (b < M ∧ N ≤ c ∧ c ≤ 9223372036854775807 ∧ n ≤ 900 ∧ L.length = N ∧ W ≤ M) := ⟨HB3.out.2.2.2.1, hc, hc2, hn, HLL.out, by have := HB3.out.2.2.2.2; have := HWW.out; omega⟩
  rw [HWW.out] at HB3
  clear HB2
  have H69 : Hid (∀ u, Calls Tryd.prog 69 #[.int .i64 4] u fun e w' => Hid (∃ p, e = .returned (.slice (some ⟨p, 0, none⟩) 4 4) ∧ u.heap.size ≤ p ∧ Bx w' p 5 (fc pw4) ∧ Below u.heap.size u w')) := fun u => powers_ok 4 (by decide) u
  have hS0 : Bx u3.drew M 99 R ∧ Bx u3.drew b 5 (fc L) ∧ Below W w u3.drew ∧ M < u3.drew.heap.size := ⟨HB3.out.1, HB3.out.2.1, HB3.out.2.2.1.drew, HB3.out.1.lt⟩
  clear HB3
  refine wp_region_noPanic ?_
  refine wp_region_till (fun u => Bx u M 99 R ∧ Bx u b 5 (fc L) ∧ Below W w u ∧ M < u.heap.size) 4 (by kernel_rfl) (by decide) (by decide +kernel) (by decide +kernel) (by decide +kernel) (fun inv => ?_)
  refine till_at 2 8 (.slice (some ⟨M, 0, none⟩) 4 4) inv rfl rfl (by decide) (by decide +kernel) (by decide +kernel) (fun _ _ _ h => h) hS0 (Or.inl ⟨by rfl, fun w' hS' => by go_simp⟩) (fun inv' => ?_)
  clear inv; have inv := inv'; clear inv'
  try simp only [List.setIfInBounds_toArray, List.set_cons_zero, List.set_cons_succ]
  refine till_head (i := 0) inv (by decide +kernel) (by decide) rfl (fun KK hK => ?_)
  go_simp
  refine (H69.out _).mono ?_
  intro e4 w4 hh
  obtain ⟨p4, rfl, h1, h2, h3⟩ := hh.out
  have hS1 : Bx w4 M 99 R ∧ Bx w4 b 5 (fc L) ∧ Below W w w4 ∧ M < w4.heap.size := ⟨hS0.1.below h3, hS0.2.1.below h3, hS0.2.2.1.trans (h3.mono (by have := hS0.2.2.2; have := HBM.out.2.2.2.2.2; omega)), by have := h3.size; have := hS0.2.2.2; omega⟩
  have HP4 : Hid (Bx w4 p4 5 (fc pw4)) := h2
  clear hh h1 h2 h3
  go_wp2_with fail
  refine hK.out _ _ (hS1) (fun inv' => ?_)
  clear hK KK inv; have inv := inv'; clear inv'
  try simp only [List.setIfInBounds_toArray, List.set_cons_zero, List.set_cons_succ]
  refine till_head (i := 1) inv (by decide +kernel) (by decide) rfl (fun KK hK => ?_)
  go_simp
  refine (peaks_ok p4 0 4 4 pw4 w4 rfl (by decide) (bx_rw HP4.out) HP4.out.lt).mono ?_
  intro e5 w5 hh
  obtain ⟨p5, rfl, h1, h2⟩ := hh.out
  have HP5 : Hid (PkI w4.heap.size p5 4 4 pw4 w4 w5) := h2
  have h3 := h2.bel
  have hS2 : Bx w5 M 99 R ∧ Bx w5 b 5 (fc L) ∧ Below W w w5 ∧ M < w5.heap.size := ⟨hS1.1.below h3, hS1.2.1.below h3, hS1.2.2.1.trans (h3.mono (by have := hS1.2.2.2; have := HBM.out.2.2.2.2.2; omega)), by have := h3.size; have := hS1.2.2.2; omega⟩
  clear hh h1 h2 h3 HP4
  go_wp2_with fail
  refine hK.out _ _ (hS2) (fun inv' => ?_)
  clear hK KK inv; have inv := inv'; clear inv'
  try simp only [List.setIfInBounds_toArray, List.set_cons_zero, List.set_cons_succ]
  refine till_head (i := 3) inv (by decide +kernel) (by decide) rfl (fun KK hK => ?_)
  go_simp
  refine (through_ok p5 4 M 0 4 _ pw4 VS w4 w5 (by decide) HP5.out (bx_rw9 (by rw [HR.out]; exact hS2.1)) HV4.out.1 rfl hS2.2.2.2).mono ?_
  intro e6 w6 hh
  obtain ⟨p6, rfl, h1, h2, h3⟩ := hh.out
  have HP6 : Hid (Bx w6 p6 5 (fc (codeL l)) ∧ M < p6) := ⟨by rw [← HV4.out.2]; exact h2, by have := hS2.2.2.2; omega⟩
  have hS3 : Bx w6 M 99 R ∧ Bx w6 b 5 (fc L) ∧ Below W w w6 ∧ M < w6.heap.size := ⟨hS2.1.below h3, hS2.2.1.below h3, hS2.2.2.1.trans (h3.mono (by have := hS2.2.2.2; have := HBM.out.2.2.2.2.2; omega)), by have := h3.size; have := hS2.2.2.2; omega⟩
  clear hh h1 h2 h3 HP5
  go_wp2_with fail
  refine hK.out _ _ (hS3) (fun inv' => ?_)
  clear hK KK inv; have inv := inv'; clear inv'
  try simp only [List.setIfInBounds_toArray, List.set_cons_zero, List.set_cons_succ]
  refine till_tail (i := 4) (by decide +kernel) (by decide) rfl (fun KK hK => ?_)
  go_simp
  refine hK.out _ _ ?_
  clear hK KK
  try simp only [List.setIfInBounds_toArray, List.set_cons_zero, List.set_cons_succ]
  refine till_done (by decide +kernel) ?_ _
  refine NoPanic.normal ?_
  have HF : Hid (Bx w6 b 5 (fc l ++ fc [0, 0, 0, 0] ++ []) ∧ Below W w w6) := ⟨by rw [List.append_nil, ← fc_appD, HL.out]; exact hS3.2.1, hS3.2.2.1⟩
  have HNn : Hid (N = n + 4 ∧ l.length = n) := ⟨by have h1 := HLL.out; rw [← HL.out] at h1; simp at h1; have := HlN.out; omega, HlN.out⟩
  clear hS0 hS1 hS2 hS3
  have g1 : (0 : Int) ≤ (N : Int) - 4 := by have := HNn.out; omega
  have g2 : (N : Int) - 4 ≤ (N : Int) := by omega
  have g3 : (N : Int) ≤ (c : Int) := by have := HBM.out; omega
  go_wp2_with (first
    | (refine wpList_copy_bx (by rfl) (.tmp 16) (.tmp 17) (by rfl) b (N - 4) (N - (N - 4)) (c - (N - 4)) (by rfl) p6 0 4 4 (codeL l) (by rfl) (codeL_len l) (bx_rw HP6.out.1) (by have := HNn.out; omega) (fc l) (fc [0, 0, 0, 0]) [] (by rw [fc_len]; have := HNn.out; omega) rfl HF.out.1 ?_; intro u7 h7 g7; have HE : Hid (Bx u7 b 5 (fc (l ++ codeL l)) ∧ w.grownBy u7 (some b)) := ⟨by rw [fc_appD]; rw [List.append_nil] at h7; exact h7, gb_trans (gb_below (by rw [HWW.out]; exact HF.out.2)) g7⟩; clear h7 g7))
  exact bodyPost_end (results_none rfl _ _ _) rfl ⟨rfl, HE.out.1, HE.out.2⟩
end Go.Proofs.YtbpkocohddlbhaaDoor
