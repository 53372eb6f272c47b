import Derived.Test.YtffejkfkkciaaaaSmt
import Derived.Test.YtffejkfkkciaaaaEsi
import Derived.Test.YtffejkfkkciaaaaRWd
import Derived.Test.YtffejkfkkciaaaaWds
namespace Go.Proofs.Ytffejkfkkciaaaa
open Go.RowKit
set_option linter.unusedVariables false
set_option linter.unusedSimpArgs false
/-- append([]byte{}, l...), as a row of one's own. -/
theorem wpList_clone_own {ops : Array Oper} {rest : List Oper} {o : Oper} {a : Act} {Q : Exit → Act → World → Prop} {w : World} (hgd : o.guard = none) (s x : Operand)
    (ho : o.op = .call { callee := .builtin .append, args := #[s, x], argTypes := #[25, 25] }) (k : Nat) (hs : a.eval s = .slice (some ⟨k, 0, none⟩) 0 0) (hk : w.heap[k]? = some (.cells #[] 5 (0, 0)))
    (b off n c : Nat) (l : List F) (hx : a.eval x = .slice (some ⟨b, off, none⟩) n c) (hl : l.length = n) (h1 : 1 ≤ n) (hn : n ≤ 4000) (hr : Rw w b off l)
    (h : ∀ v w', w'.ownsRow k 5 1 v n (fc l) → Below k w w' → wpList Try.prog ops Q rest (a.put o.dst v) w') : wpList Try.prog ops Q (o :: rest) a w :=
  wpList_plain hgd fun _ hK => by
    obtain ⟨i0, hi, hz0, hz1, hz2⟩ := info_parts Try.infoB
    have hlt : k < w.heap.size := (Array.getElem?_eq_some_iff.1 hk).1
    obtain ⟨g, cap, w', e, h2, h3, h4, h5⟩ := run_append_lies (P := Try.prog) w 25 o.type k 5 i0 (.int .u8 0) 1 1 Try.underlying25' hi hz0 hz1 hz2 rfl (by decide) _ 0 [] (own_none hk) ⟨b, off, none⟩ n c (fc l) (by rw [fc_len, hl, Nat.mul_one]) (fun j u hu => by
      have hj : j < l.length := by have := (List.getElem?_eq_some_iff.1 hu).1; rw [fc_len] at this; exact this
      rw [fc_at l j hj] at hu
      injection hu with hu
      rw [← hu, show (⟨b, off, none⟩ : Addr).add j = ⟨b, off + j, none⟩ by unfold Addr.add; split <;> simp_all]
      exact hr j hj) (fc_one l) h1 (Nat.le_trans (Nat.add_le_add_left hn 0) (by decide)) (by omega) (Nat.le_of_lt hlt) _ rfl
    rw [Nat.zero_add, List.nil_append] at h2
    rw [Nat.zero_add] at e
    have hb : Below k w w' := below_gb h3 (Nat.le_of_lt hlt) (Nat.le_refl _)
    unfold Oper.wp execOp
    simp only [ho, resolve, invoke, builtin, Sem.run_bind, Sem.run_pure, Result.andThen_ok, List.map_toArray, List.map_cons, List.map_nil, hs, hx, e]
    exact hK _ _ (h _ w' h2 hb)
/-- Words of a row. -/
def WLs (l : List F) : ByteArray := ⟨(wl (l.map fun a => (a.1 : Int)) (l.length / 2)).toArray⟩
theorem mapI_at (l : List F) (i : Nat) : (l.map fun a => (a.1 : Int)).getD i 0 = ((l.getD i 0).1 : Nat) := by
  by_cases h : i < l.length
  · simp [List.getD_eq_getElem?_getD, List.getElem?_map, List.getElem?_eq_getElem h]
  · simp [List.getD_eq_getElem?_getD, List.getElem?_map, List.getElem?_eq_none (Nat.le_of_not_lt h)]
theorem wordsF_ok (g o n c : Nat) (l : List F) (w : World) (hl : l.length = n) (hn : n ≤ 3000) (hnc : n ≤ c) (hcm : c ≤ 9223372036854775807) (h : Rw w g o l) : Calls Try.prog 15 #[.slice (some ⟨g, o, none⟩) n c] w fun e w' => e = .returned (.string (WLs l)) ∧ Below w.heap.size w w' := by
  have q := words_core g o n c (l.map fun a => (a.1 : Int)) w hn (fun i => by rw [mapI_at]; have := (l.getD i 0).2; omega) hnc hcm (fun i hi => by rw [mapI_at]; exact h i (by omega))
  unfold WLs
  rw [hl]
  exact q
/-- The code's bytes. -/
theorem four_more (l : List F) (a b c d : F) (j : Nat) : sumG (l ++ [a, b, c, d]) j = fa (sumG (l ++ [0, 0, 0, 0]) j) (fa (fm (Em (3 * j)) a) (fa (fm (Em (2 * j)) b) (fa (fm (Em j) c) d))) := by
  have e : ∀ a b c d : F, sumG (l ++ [a, b, c, d]) j = fa (fm (fa (fm (fa (fm (fa (fm (pv (Em j) l) (Em j)) a) (Em j)) b) (Em j)) c) (Em j)) d := fun a b c d => by
    unfold sumG
    rw [show l ++ [a, b, c, d] = (((l ++ [a]) ++ [b]) ++ [c]) ++ [d] by simp, pv_snoc, pv_snoc, pv_snoc, pv_snoc]
  rw [e, e]
  have e3 : Em (3 * j) = fm (fm (Em j) (Em j)) (Em j) := by rw [Em_mul, Em_mul]; congr 1; omega
  have e2 : Em (2 * j) = fm (Em j) (Em j) := by rw [Em_mul]; congr 1; omega
  rw [e3, e2]
  generalize Em j = E
  generalize pv E l = p
  simp only [fm_fa, fa_fm, fm_assoc, fa_assoc, fm_comm, fm_left, fa_comm, fa_left, fa_self, fa_canc, fa_zero, zero_fa, fm_zero, zero_fm]
/-- The equations for the code. -/
def codM (s : Nat → F) : Nat → Nat → F := fun j k => if k = 4 then s j else Em ((3 - k) * j)
theorem codM_sm (s z : Nat → F) (j : Nat) : sm 5 (fun k => fm (codM s j k) (z k)) = fa (fa (fa (fa (fm (Em (3 * j)) (z 0)) (fm (Em (2 * j)) (z 1))) (fm (Em j) (z 2))) (z 3)) (fm (s j) (z 4)) := by
  show fa (fa (fa (fa (fa 0 (fm (codM s j 0) (z 0))) (fm (codM s j 1) (z 1))) (fm (codM s j 2) (z 2))) (fm (codM s j 3) (z 3))) (fm (codM s j 4) (z 4)) = _
  unfold codM
  simp only [zero_fa, if_true, show ¬ (0 : Nat) = 4 by decide, show ¬ (1 : Nat) = 4 by decide, show ¬ (2 : Nat) = 4 by decide, show ¬ (3 : Nat) = 4 by decide, if_false]
  rw [show 3 - 0 = 3 from rfl, show 3 - 1 = 2 from rfl, show 3 - 2 = 1 from rfl, show 3 - 3 = 0 from rfl, Nat.zero_mul, Nat.one_mul, Em_zero, fm_1]
theorem cod_ind (s : Nat → F) : Ind (codM s) 4 4 := fun z hz h4 k hk => by
  refine uniq 4 (by decide) z [0, 1, 2, 3] (by decide) (fun i hi _ => ?_) (fun j hj => ?_) k hk
  · match i, hi with
    | 0, _ => simp
    | 1, _ => simp
    | 2, _ => simp
    | 3, _ => simp
  · have q := hz j hj
    rw [codM_sm, h4, fm_zero, fa_zero] at q
    show fa (fa (fa (fa 0 (fm (z 0) (P (X 4 0) j))) (fm (z 1) (P (X 4 1) j))) (fm (z 2) (P (X 4 2) j))) (fm (z 3) (P (X 4 3) j)) = 0
    unfold X
    rw [P_Em, P_Em, P_Em, P_Em, show 4 - 1 - 0 = 3 from rfl, show 4 - 1 - 1 = 2 from rfl, show 4 - 1 - 2 = 1 from rfl, show 4 - 1 - 3 = 0 from rfl, Nat.zero_mul, Nat.one_mul, Em_zero, fm_one, zero_fa, fm_comm (z 0), fm_comm (z 1), fm_comm (z 2)]
    exact q
theorem cod_null (l : List F) (a b c d : F) (hz : sumL (l ++ [a, b, c, d]) = [0, 0, 0, 0]) : Nz (codM (sumG (l ++ [0, 0, 0, 0]))) 4 4 (zOf [a, b, c, d]) := fun j hj => by
  rw [codM_sm]
  have e : sumG (l ++ [a, b, c, d]) j = 0 := by
    obtain ⟨s0, s1, s2', s3⟩ := four_at ((sumL_4 _).symm.trans hz)
    match j, hj with
    | 0, _ => exact s0
    | 1, _ => exact s1
    | 2, _ => exact s2'
    | 3, _ => exact s3
  rw [four_more] at e
  show fa (fa (fa (fa (fm (Em (3 * j)) a) (fm (Em (2 * j)) b)) (fm (Em j) c)) d) (fm (sumG (l ++ [0, 0, 0, 0]) j) 1) = 0
  rw [fm_one, fa_comm, fa_assoc, fa_assoc]
  exact e
theorem cod_only (l xs x0 : List F) (h : xs.length = 4) (h0 : x0.length = 4) (hn : Nz (codM (sumG (l ++ [0, 0, 0, 0]))) 4 4 (zOf xs)) (hz : sumL (l ++ x0) = [0, 0, 0, 0]) : xs = x0 := by
  obtain ⟨a, b, c, d, rfl⟩ := four x0 h0
  have hn0 := cod_null l a b c d hz
  refine list_same (by rw [h, h0]) fun q hq => ?_
  rw [h0] at hq
  have e := cod_ind (sumG (l ++ [0, 0, 0, 0])) (fun k => fa (zOf xs k) (zOf [a, b, c, d] k)) (fun i hi => by
    rw [sm_congr _ (fun k => fa (fm (codM (sumG (l ++ [0, 0, 0, 0])) i k) (zOf xs k)) (fm (codM (sumG (l ++ [0, 0, 0, 0])) i k) (zOf [a, b, c, d] k))) _ (fun k _ => fm_fa _ _ _), sm_fa, hn i hi, hn0 i hi, fa_zero]) (by
    show fa (zOf xs 4) (zOf [a, b, c, d] 4) = 0
    rw [zOf_n xs 4 h, zOf_n [a, b, c, d] 4 rfl, fa_self]) q hq
  rw [zOf_lt xs q (by omega), zOf_lt _ q (by rw [h0]; exact hq)] at e
  exact fa_eq_zero e
end Go.Proofs.Ytffejkfkkciaaaa
