import Derived.Test.YtffejkfkkciaaaaEsg
import Derived.Deep.AppendLies
namespace Go.Proofs.Ytffejkfkkciaaaa
open Go.RowKit
set_option linter.unusedVariables false
set_option linter.unusedSimpArgs false
theorem bs0 (u : World) : (Instr.buildSlice 25 0 #[]).run Try.prog u = .ok (.slice (some ⟨u.heap.size, 0, none⟩) 0 0) (u.alloc (.cells #[] 5)) := by
  obtain ⟨i0, hi, hz0, hz1, hz2⟩ := info_parts Try.infoB
  simp [Instr.buildSlice, run_underlying Try.underlying25', Go.sizeOf, typeInfo, hi, hz1, newRow, Instr.fill]
  rw [show (Array.range 0) = #[] from by first | rfl | simp | exact Array.size_eq_zero_iff.1 (by simp)]
  first | rfl | simp
theorem own_none {w : World} {k : Nat} (h : w.heap[k]? = some (.cells #[] 5 (0, 0))) : w.ownsRow k 5 1 (.slice (some ⟨k, 0, none⟩) 0 0) 0 [] :=
  ⟨rfl, .inr ⟨k, 0, #[], rfl, Nat.le_refl _, h, Nat.le_refl _, by decide, rfl, rfl⟩⟩
theorem new_none (u : World) : (u.alloc (.cells #[] 5)).heap[u.heap.size]? = some (.cells #[] 5 (0, 0)) := heap_alloc_new u _
/-- append([]byte{}, l...) -/
theorem run_clone (ty : TypeId) (k : Nat) (w : World) (hk : w.heap[k]? = some (.cells #[] 5 (0, 0))) (b off n c : Nat) (l : List F) (hl : l.length = n) (h1 : 1 ≤ n) (hn : n ≤ 4000) (hr : Rw w b off l) :
    ∃ g cap w', (Builtin.append_ #[25, 25] ty #[.slice (some ⟨k, 0, none⟩) 0 0, .slice (some ⟨b, off, none⟩) n c]).run Try.prog w = .ok (.slice (some ⟨g, 0, none⟩) n cap) w' ∧ n ≤ cap ∧ k ≤ g ∧ Rx w' g l ∧ Below k w w' := by
  obtain ⟨i0, hi, hz0, hz1, hz2⟩ := info_parts Try.infoB
  have hlt : k < w.heap.size := (Array.getElem?_eq_some_iff.1 hk).1
  obtain ⟨g, cap, w', e, h2, h3, h4, h5⟩ := run_append_lies (P := Try.prog) w 25 ty k 5 i0 (.int .u8 0) 1 1 Try.underlying25' hi hz0 hz1 hz2 rfl (by decide) _ 0 [] (own_none hk) ⟨b, off, none⟩ n c (fc l) (by rw [fc_len, hl, Nat.mul_one]) (fun j u hu => by
    have hj : j < l.length := by have := (List.getElem?_eq_some_iff.1 hu).1; rw [fc_len] at this; exact this
    rw [fc_at l j hj] at hu
    injection hu with hu
    rw [← hu, show (⟨b, off, none⟩ : Addr).add j = ⟨b, off + j, none⟩ by unfold Addr.add; split <;> simp_all]
    exact hr j hj) (fc_one l) h1 (Nat.le_trans (Nat.add_le_add_left hn 0) (by decide)) (by omega) (Nat.le_of_lt hlt) _ rfl
  rw [Nat.zero_add, List.nil_append] at h2
  rw [Nat.zero_add] at e
  have hb : Below k w w' := below_gb h3 (Nat.le_of_lt hlt) (Nat.le_refl _)
  have hc : n ≤ cap := by
    rcases h2.2 with ⟨q, _⟩ | ⟨g', cap', cur, q, _, _, h3, _⟩
    · cases q
    · injection q with _ _ q2; rw [q2]; exact h3
  obtain ⟨g', c', q, HQ⟩ := own_rx (by rw [hl]; exact h2) (by rw [hl]; exact h1)
  obtain ⟨q1, q2⟩ := HQ.out
  injection q with qa _ _
  injection qa with qa
  injection qa with qa
  rw [← qa] at q1 q2
  exact ⟨g, cap, w', e, hc, q2, q1, hb⟩
/-- In a plain region. -/
theorem wpList_clone {ops : Array Oper} {rest : List Oper} {o : Oper} {a : Act} {Q : Exit → Act → World → Prop} {w : World} (hgd : o.guard = none) (s x : Operand)
    (ho : o.op = .call { callee := .builtin .append, args := #[s, x], argTypes := #[25, 25] }) (k : Nat) (hs : a.eval s = .slice (some ⟨k, 0, none⟩) 0 0) (hk : w.heap[k]? = some (.cells #[] 5 (0, 0)))
    (b off n c : Nat) (l : List F) (hx : a.eval x = .slice (some ⟨b, off, none⟩) n c) (hl : l.length = n) (h1 : 1 ≤ n) (hn : n ≤ 4000) (hr : Rw w b off l)
    (h : ∀ g cap w', n ≤ cap → k ≤ g → Rx w' g l → Below k w w' → wpList Try.prog ops Q rest (a.put o.dst (.slice (some ⟨g, 0, none⟩) n cap)) w') : wpList Try.prog ops Q (o :: rest) a w :=
  wpList_plain hgd fun _ hK => by
    obtain ⟨g, cap, w', e, h2, h3, h4, h5⟩ := run_clone o.type k w hk b off n c l hl h1 hn hr
    unfold Oper.wp execOp
    simp only [ho, resolve, invoke, builtin, Sem.run_bind, Sem.run_pure, Result.andThen_ok, List.map_toArray, List.map_cons, List.map_nil, hs, hx, e]
    exact hK _ _ (h g cap w' h2 h3 h4 h5)
/-- At a step of a region that draws its order. -/
theorem step_clone {ops : Array Oper} {o : Oper} {a : Act} {K : Act → World → Prop} {Q : Exit → Act → World → Prop} {E : Prop} {w : World} (hgd : o.guard = none) (s x : Operand)
    (ho : o.op = .call { callee := .builtin .append, args := #[s, x], argTypes := #[25, 25] }) (k : Nat) (hs : a.eval s = .slice (some ⟨k, 0, none⟩) 0 0) (hk : w.heap[k]? = some (.cells #[] 5 (0, 0)))
    (b off n c : Nat) (l : List F) (hx : a.eval x = .slice (some ⟨b, off, none⟩) n c) (hl : l.length = n) (h1 : 1 ≤ n) (hn : n ≤ 4000) (hr : Rw w b off l)
    (h : ∀ g cap w', n ≤ cap → k ≤ g → Rx w' g l → Below k w w' → K (a.put o.dst (.slice (some ⟨g, 0, none⟩) n cap)) w') :
    if Region.wanted o (yielded ops a.tmps) = true then Oper.wp Try.prog o a w K Q else E := by
  have hw : Region.wanted o (yielded ops a.tmps) = true := by simp [Region.wanted, hgd]
  rw [if_pos hw]
  obtain ⟨g, cap, w', e, h2, h3, h4, h5⟩ := run_clone o.type k w hk b off n c l hl h1 hn hr
  unfold Oper.wp execOp
  simp only [ho, resolve, invoke, builtin, Sem.run_bind, Sem.run_pure, Result.andThen_ok, List.map_toArray, List.map_cons, List.map_nil, hs, hx, e]
  exact h g cap w' h2 h3 h4 h5
end Go.Proofs.Ytffejkfkkciaaaa
