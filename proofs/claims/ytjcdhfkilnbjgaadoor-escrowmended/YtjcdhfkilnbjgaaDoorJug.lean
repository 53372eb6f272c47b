import Derived.Test.YtjcdhfkilnbjgaaDoorJue
namespace Go.Proofs.YtjcdhfkilnbjgaaDoor
open Go.RowKit
set_option linter.unusedVariables false
set_option linter.unusedSimpArgs false
set_option maxRecDepth 100000
/-- append of bytes that are seen onto a row of one's own. -/
theorem run_app_vf (ty : TypeId) (k : Nat) (w : World) (v : Value) (m : Nat) (l1 : List F) (h : w.ownsRow k 5 1 v m (fc l1)) (hm : l1.length = m) (hk : k ≤ w.heap.size) (vx : Value) (l2 : List F) (hx : Vf w vx l2) (hn : m + l2.length ≤ 100000) :
    ∃ v' w', (Builtin.append_ #[23, 23] ty #[v, vx]).run Tryd.prog w = .ok v' w' ∧ w'.ownsRow k 5 1 v' (m + l2.length) (fc (l1 ++ l2)) ∧ Below k w w' := by
  obtain ⟨i0, hi, hz0, hz1, hz2⟩ := info_parts Tryd.infoB
  obtain ⟨a, c, rfl, h1, h2, h3, h4⟩ := hx.parts
  by_cases h0 : l2 = []
  · subst h0
    have hsrc : Src Tryd.prog i0.size 23 (.slice a 0 c) 0 [] w := by
      cases a with
      | none => exact Src.ofNil w Tryd.underlying23' c
      | some a2 => exact Src.ofSlice w Tryd.underlying23' a2 0 c [] (by simp) (fun j u hu => by simp at hu) (fun u hu => by cases hu)
    obtain ⟨base, cp, rfl, hcp⟩ : ∃ base cp, v = .slice base m cp ∧ m ≤ cp := by
      rcases h.2 with ⟨e, e0⟩ | ⟨g, cap, cur, e, _, _, h5, _⟩
      · exact ⟨none, 0, by rw [e, e0], by omega⟩
      · exact ⟨_, cap, e, h5⟩
    have hrun := run_append_nothing (P := Tryd.prog) w 23 23 ty 5 i0 Tryd.underlying23' hi base m cp hcp _ hsrc
    exact ⟨_, w, hrun, by simpa using h, Below.refl _ _⟩
  · rcases h4 with h4 | ⟨b, off, rfl, h5⟩
    · exact absurd h4 h0
    · have hpos : 0 < l2.length := List.length_pos_iff.2 h0
      obtain ⟨g, cap, w', e, q2, q3, q4, q5⟩ := run_append_lies (P := Tryd.prog) w 23 ty k 5 i0 (.int .u8 0) 1 1 Tryd.underlying23' hi hz0 hz1 hz2 rfl (by decide) v m (fc l1) h ⟨b, off, none⟩ l2.length c (fc l2) (by rw [fc_len, Nat.mul_one]) (fun j u hu => by
        have hj : j < l2.length := by have := (List.getElem?_eq_some_iff.1 hu).1; rw [fc_len] at this; exact this
        rw [fc_at l2 j hj] at hu
        injection hu with hu
        rw [← hu, Addr.add_lit]
        exact h5 j hj) (fc_one l2) hpos (by unfold maxLen; omega) (by omega) hk _ rfl
      exact ⟨_, w', e, by rw [fc_appD]; exact q2, (Below.refl _ _).grown q3 hk (fun q hq => (h.lt q hq).1)⟩
theorem step_app_vf {ops : Array Oper} {o : Oper} {a : Act} {K : Act → World → Prop} {Q : Exit → Act → World → Prop} {E : Prop} {w : World} (hgd : o.guard = none) (s x : Operand)
    (ho : o.op = .call { callee := .builtin .append, args := #[s, x], argTypes := #[23, 23] }) (k : Nat) (v : Value) (hs : a.eval s = v) (m : Nat) (l1 : List F) (hv : w.ownsRow k 5 1 v m (fc l1)) (hm : l1.length = m) (hk : k ≤ w.heap.size) (vx : Value) (hx : a.eval x = vx) (l2 : List F) (hvx : Vf w vx l2) (hn : m + l2.length ≤ 100000)
    (h : ∀ v' w', w'.ownsRow k 5 1 v' (m + l2.length) (fc (l1 ++ l2)) → Below k w w' → K (a.put o.dst v') w') :
    if Region.wanted o (yielded ops a.tmps) = true then Oper.wp Tryd.prog o a w K Q else E := by
  have hw : Region.wanted o (yielded ops a.tmps) = true := by simp [Region.wanted, hgd]
  rw [if_pos hw]
  obtain ⟨v', w', e, h2, h3⟩ := run_app_vf o.type k w v m l1 hv hm hk vx l2 hvx hn
  unfold Oper.wp execOp
  simp only [ho, resolve, invoke, builtin, Sem.run_bind, Sem.run_pure, Result.andThen_ok, List.map_toArray, List.map_cons, List.map_nil, hs, hx, e]
  exact h v' w' h2 h3
theorem own_vf {w : World} {k m : Nat} {v : Value} {l : List F} (h : w.ownsRow k 5 1 v m (fc l)) (hl : l.length = m) : Vf w v l := own_zi h hl
theorem dif_len (l m : List F) : ∀ n, dif l m n = ((List.range n).filter fun q => !decide (l.getD q 0 = m.getD q 0)).length
  | 0 => rfl
  | n + 1 => by
    have e0 : dif l m (n + 1) = if l.getD n 0 = m.getD n 0 then dif l m n else dif l m n + 1 := rfl
    have e1 : ([n].filter fun q => !decide (l.getD q 0 = m.getD q 0)).length = if l.getD n 0 = m.getD n 0 then 0 else 1 := by
      by_cases e : l.getD n 0 = m.getD n 0
      · rw [if_pos e, List.filter_cons, if_neg (by rw [decide_eq_true e]; decide)]
        rfl
      · rw [if_neg e, List.filter_cons, if_pos (by rw [decide_eq_false e]; decide)]
        rfl
    rw [List.range_succ, List.filter_append, List.length_append, ← dif_len l m n, e0, e1]
    by_cases e : l.getD n 0 = m.getD n 0
    · rw [if_pos e, if_pos e]
      rfl
    · rw [if_neg e, if_neg e]
/-- Two rows with right codes are equal or differ in five places. -/
theorem dif_far (l m : List F) (hl : m.length = l.length) (h255 : l.length ≤ 255) (zl : sumL l = [0, 0, 0, 0]) (zm : sumL m = [0, 0, 0, 0]) : dif l m l.length = 0 ∨ 5 ≤ dif l m l.length := by
  by_cases h5 : 5 ≤ dif l m l.length
  · exact .inr h5
  left
  rw [dif_len] at h5
  obtain ⟨s0, s1, s2', s3⟩ := four_at ((sumL_4 m).symm.trans zm)
  obtain ⟨t0, t1, t2, t3⟩ := four_at ((sumL_4 l).symm.trans zl)
  refine dif_none l m l.length fun q hq => ?_
  have u := uniq l.length h255 (fun q => fa (l.getD q 0) (m.getD q 0)) ((List.range l.length).filter fun q => !decide (l.getD q 0 = m.getD q 0)) (by omega) (fun q hq hd => ?_) (fun j hj => ?_) q hq
  · exact fa_eq_zero u
  · rw [List.mem_filter]
    refine ⟨List.mem_range.2 hq, ?_⟩
    simp
    intro e
    apply hd
    show fa (l.getD q 0) (m.getD q 0) = 0
    rw [List.getD_eq_getElem?_getD, List.getD_eq_getElem?_getD, e, fa_self]
  · have e := sums_apart l m hl j
    rw [← e]
    match j, hj with
    | 0, _ => rw [s0, t0, fa_self]
    | 1, _ => rw [s1, t1, fa_self]
    | 2, _ => rw [s2', t2, fa_self]
    | 3, _ => rw [s3, t3, fa_self]
end Go.Proofs.YtjcdhfkilnbjgaaDoor
