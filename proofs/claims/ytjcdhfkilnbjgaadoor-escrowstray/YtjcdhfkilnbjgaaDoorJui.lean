import Derived.Test.YtjcdhfkilnbjgaaDoorJua
import Derived.Test.YtjcdhfkilnbjgaaDoorJug
import Derived.Test.YtjcdhfkilnbjgaaDoorTlr
namespace Go.Proofs.YtjcdhfkilnbjgaaDoor
open Go.RowKit
set_option linter.unusedVariables false
set_option linter.unusedSimpArgs false
set_option maxRecDepth 100000
/-- A row of texts of one's own behind block k. -/
def OwC (w : World) (B : Nat) (v : Value) (n : Nat) (cs : List Value) : Prop := ∃ k, B ≤ k ∧ k ≤ w.heap.size ∧ w.ownsRow k 9 1 v n cs
theorem OwC.below {w u : World} {B n : Nat} {v : Value} {cs : List Value} (h : OwC w B v n cs) (hb : Below w.heap.size w u) : OwC u B v n cs := by
  obtain ⟨k, h1, h2, h3⟩ := h
  exact ⟨k, h1, Nat.le_trans h2 hb.size, h3.kept (row := none) ⟨hb.os, hb.tape, hb.output, hb.size, fun k hk _ => hb.block k hk⟩ (by cases hv : v.ownBlock <;> simp)⟩
theorem OwC.new0 (w : World) (B : Nat) (hB : B ≤ w.heap.size) : OwC (w.alloc (.cells #[] 9)) B (.slice (some ⟨w.heap.size, 0, none⟩) 0 0) 0 [] :=
  ⟨w.heap.size, hB, by simp, rfl, .inr ⟨w.heap.size, 0, #[], rfl, Nat.le_refl _, heap_alloc_new w _, Nat.le_refl _, by decide, rfl, rfl⟩⟩
theorem run_app_oc (ty : TypeId) (B : Nat) (w : World) (v : Value) (n : Nat) (cs : List Value) (h : OwC w B v n cs) (b off m c : Nat) (ds : List Value) (hm : ds.length = m) (h0 : 0 < m) (hds : ∀ j u, ds[j]? = some u → w.cell? ⟨b, off + j, none⟩ = some u) (hone : ∀ u ∈ ds, u.oneCell' = true) (hn : n + m ≤ 100000) :
    ∃ g cap w', (Builtin.append_ #[26, 26] ty #[v, .slice (some ⟨b, off, none⟩) m c]).run Tryd.prog w = .ok (.slice (some ⟨g, 0, none⟩) (n + m) cap) w' ∧ OwC w' B (.slice (some ⟨g, 0, none⟩) (n + m) cap) (n + m) (cs ++ ds) ∧ Below B w w' := by
  obtain ⟨i9, hi9, hz9, hs9, hb9⟩ := info_parts Tryd.infoT9
  have hu26 : Tryd.prog.underlying 26 = some (.slice 9) := by kernel_rfl
  obtain ⟨k, h1, h2, h3⟩ := h
  obtain ⟨g, cap, w', e, q2, q3, q4, q5⟩ := run_append_lies (P := Tryd.prog) w 26 ty k 9 i9 (.string ⟨#[]⟩) 1 16 hu26 hi9 hz9 hs9 hb9 rfl (by decide) v n cs h3 ⟨b, off, none⟩ m c ds (by rw [hm, Nat.mul_one]) (fun j u hu => by rw [Addr.add_lit]; exact hds j u hu) hone h0 (by unfold maxLen; omega) (by omega) h2 _ rfl
  have hb := (Below.refl k w).grown q3 h2 (fun q hq => (h3.lt q hq).1)
  exact ⟨g, cap, w', e, ⟨k, h1, Nat.le_trans h2 hb.size, q2⟩, hb.mono h1⟩
theorem step_app_oc {ops : Array Oper} {o : Oper} {a : Act} {K : Act → World → Prop} {Q : Exit → Act → World → Prop} {E : Prop} {w : World} (hgd : o.guard = none) (s x : Operand)
    (ho : o.op = .call { callee := .builtin .append, args := #[s, x], argTypes := #[26, 26] }) (B : Nat) (v : Value) (hs : a.eval s = v) (n : Nat) (cs : List Value) (hv : OwC w B v n cs) (b off m c : Nat) (ds : List Value) (hx : a.eval x = .slice (some ⟨b, off, none⟩) m c) (hm : ds.length = m) (h0 : 0 < m) (hds : ∀ j u, ds[j]? = some u → w.cell? ⟨b, off + j, none⟩ = some u) (hone : ∀ u ∈ ds, u.oneCell' = true) (hn : n + m ≤ 100000)
    (h : ∀ g cap w', OwC w' B (.slice (some ⟨g, 0, none⟩) (n + m) cap) (n + m) (cs ++ ds) → Below B w w' → K (a.put o.dst (.slice (some ⟨g, 0, none⟩) (n + m) cap)) w') :
    if Region.wanted o (yielded ops a.tmps) = true then Oper.wp Tryd.prog o a w K Q else E := by
  have hw : Region.wanted o (yielded ops a.tmps) = true := by simp [Region.wanted, hgd]
  rw [if_pos hw]
  obtain ⟨g, cap, w', e, h2, h3⟩ := run_app_oc o.type B w v n cs hv b off m c ds hm h0 hds hone hn
  unfold Oper.wp execOp
  simp only [ho, resolve, invoke, builtin, Sem.run_bind, Sem.run_pure, Result.andThen_ok, List.map_toArray, List.map_cons, List.map_nil, hs, hx, e]
  exact h g cap w' h2 h3
theorem OwC.ofBx {w : World} {B k : Nat} (h : Bx w k 9 []) (hB : B ≤ k) : OwC w B (.slice (some ⟨k, 0, none⟩) 0 0) 0 [] :=
  ⟨k, hB, Nat.le_of_lt h.lt, rfl, .inr ⟨k, 0, #[], rfl, Nat.le_refl _, h, Nat.le_refl _, by decide, rfl, rfl⟩⟩
/-- append onto an empty row. -/
theorem step_app_e {ops : Array Oper} {o : Oper} {a : Act} {K : Act → World → Prop} {Q : Exit → Act → World → Prop} {E : Prop} {w : World} (hgd : o.guard = none) (s x : Operand)
    (ho : o.op = .call { callee := .builtin .append, args := #[s, x], argTypes := #[26, 26] }) (B k : Nat) (hs : a.eval s = .slice (some ⟨k, 0, none⟩) 0 0) (hk : Bx w k 9 []) (hB : B ≤ k) (b off m c : Nat) (ds : List Value) (hx : a.eval x = .slice (some ⟨b, off, none⟩) m c) (hm : ds.length = m) (h0 : 0 < m) (hds : ∀ j u, ds[j]? = some u → w.cell? ⟨b, off + j, none⟩ = some u) (hone : ∀ u ∈ ds, u.oneCell' = true) (hn : m ≤ 100000)
    (h : ∀ g cap w', OwC w' B (.slice (some ⟨g, 0, none⟩) m cap) m ds → Below B w w' → w.grownBy w' (some k) → K (a.put o.dst (.slice (some ⟨g, 0, none⟩) m cap)) w') :
    if Region.wanted o (yielded ops a.tmps) = true then Oper.wp Tryd.prog o a w K Q else E := by
  have hw : Region.wanted o (yielded ops a.tmps) = true := by simp [Region.wanted, hgd]
  rw [if_pos hw]
  obtain ⟨i9, hi9, hz9, hs9, hb9⟩ := info_parts Tryd.infoT9
  have hu26 : Tryd.prog.underlying 26 = some (.slice 9) := by kernel_rfl
  obtain ⟨k', h1, h2, h3⟩ := OwC.ofBx hk (Nat.le_refl k)
  obtain ⟨g, cap, w', e, q2, q3, q4, q5⟩ := run_append_lies (P := Tryd.prog) w 26 o.type k' 9 i9 (.string ⟨#[]⟩) 1 16 hu26 hi9 hz9 hs9 hb9 rfl (by decide) _ 0 [] h3 ⟨b, off, none⟩ m c ds (by rw [hm, Nat.mul_one]) (fun j u hu => by rw [Addr.add_lit]; exact hds j u hu) hone h0 (by unfold maxLen; omega) (by omega) h2 _ rfl
  have hb := (Below.refl k' w).grown q3 h2 (fun q hq => (h3.lt q hq).1)
  rw [Nat.zero_add] at e q2
  rw [List.nil_append] at q2
  unfold Oper.wp execOp
  simp only [ho, resolve, invoke, builtin, Sem.run_bind, Sem.run_pure, Result.andThen_ok, List.map_toArray, List.map_cons, List.map_nil, hs, hx, e]
  exact h g cap w' ⟨k', Nat.le_trans hB h1, Nat.le_trans h2 hb.size, q2⟩ (hb.mono (Nat.le_trans hB h1)) q3
theorem Bx.ne_list {w : World} {a b t : Nat} {cs ds : List Value} (h : Bx w a t cs) (k : Bx w b t ds) (hne : cs ≠ ds) : a ≠ b := fun e => by
  subst e
  unfold Bx at h k
  rw [h] at k
  injection k with z
  injection z with z _ _
  exact hne (congrArg Array.toList z)
theorem wpList_app_oc {ops : Array Oper} {rest : List Oper} {o : Oper} {a : Act} {Q : Exit → Act → World → Prop} {w : World} (hgd : o.guard = none) (s x : Operand)
    (ho : o.op = .call { callee := .builtin .append, args := #[s, x], argTypes := #[26, 26] }) (B : Nat) (v : Value) (hs : a.eval s = v) (n : Nat) (cs : List Value) (hv : OwC w B v n cs) (b off m c : Nat) (ds : List Value) (hx : a.eval x = .slice (some ⟨b, off, none⟩) m c) (hm : ds.length = m) (h0 : 0 < m) (hds : ∀ j u, ds[j]? = some u → w.cell? ⟨b, off + j, none⟩ = some u) (hone : ∀ u ∈ ds, u.oneCell' = true) (hn : n + m ≤ 100000)
    (h : ∀ g cap w', OwC w' B (.slice (some ⟨g, 0, none⟩) (n + m) cap) (n + m) (cs ++ ds) → Below B w w' → wpList Tryd.prog ops Q rest (a.put o.dst (.slice (some ⟨g, 0, none⟩) (n + m) cap)) w') : wpList Tryd.prog ops Q (o :: rest) a w :=
  wpList_plain hgd fun _ hK => by
    obtain ⟨g, cap, w', e, h2, h3⟩ := run_app_oc o.type B w v n cs hv b off m c ds hm h0 hds hone hn
    unfold Oper.wp execOp
    simp only [ho, resolve, invoke, builtin, Sem.run_bind, Sem.run_pure, Result.andThen_ok, List.map_toArray, List.map_cons, List.map_nil, hs, hx, e]
    exact hK _ _ (h g cap w' h2 h3)
theorem OwC.cell {w : World} {B n g c : Nat} {cs : List Value} (h : OwC w B (.slice (some ⟨g, 0, none⟩) n c) n cs) (i : Nat) (u : Value) (hu : cs[i]? = some u) : w.cell? ⟨g, i, none⟩ = some u := by
  obtain ⟨k, _, _, h3⟩ := h
  have z := h3.cells (g := g) rfl i u hu
  rw [Addr.add_lit, Nat.zero_add] at z
  exact z
/-- A row of texts, and one more. -/
def plusT (T : Nat → ByteArray) (n : Nat) (t : ByteArray) : Nat → ByteArray := fun i => if i < n then T i else t
theorem plus_tcs (T : Nat → ByteArray) (n : Nat) (t : ByteArray) : tcs T n ++ [.string t] = tcs (plusT T n t) (n + 1) := by
  rw [tcs_succ]
  have e : plusT T n t n = t := if_neg (Nat.lt_irrefl n)
  rw [e]
  congr 1
  unfold tcs
  refine List.map_congr_left fun i hi => ?_
  have e2 : plusT T n t i = T i := if_pos (List.mem_range.1 hi)
  rw [e2]
/-- Shares, and one of another need. -/
theorem join_115 {z z2 : Shg} {T T2 : Nat → ByteArray} {K q M : Nat} {e : Ending} {w w' : World} (hT : ∀ i, i < 255 → MGood (T i) (z.at' (fN (i + 1))) 0) (hT2 : ∀ i, i < 255 → MGood (T2 i) (z2.at' (fN (i + 1))) 0) (hK : 1 ≤ K ∧ K < 255) (hq : q < 255) (hne : z2.bn.1 ≠ z.bn.1)
    (hj : JoQ (plusT T K (T2 q)) (K + 1) M e w w') : e = .returned (.tuple #[.slice none 0 0, .int .i64 115]) ∧ Below M w w' := by
  have h1 : ∀ i, i < K → plusT T K (T2 q) i = T i := fun i hi => if_pos hi
  have h2 : plusT T K (T2 q) K = T2 q := if_neg (Nat.lt_irrefl K)
  have hno : ¬ AlkP (fun i => gR (plusT T K (T2 q) i)) (K + 1) := fun h => by
    have z1 := (h K (by omega)).2.1
    simp only [h2, h1 0 (by omega)] at z1
    rw [gR_eq (hT2 q hq), gR_eq (hT 0 (by omega)), z.at_2, z2.at_2] at z1
    exact hne z1
  refine join_code (k := 115) (fun i hi => ?_) (fun h => hno h.2.1) (fun k hk => code_115 (by omega) hno hk) hj
  by_cases h : i < K
  · rw [h1 i h, gR_eq (hT i (by omega))]; exact ⟨0, hT i (by omega)⟩
  · obtain rfl : i = K := by omega
    rw [h2, gR_eq (hT2 q hq)]; exact ⟨0, hT2 q hq⟩
/-- Shares, and one of them changed besides. -/
theorem join_116 {z : Shg} (hz : z.ok) {l' : List F} (hl : l'.length = z.l.length) (hne : l'.getD 0 0 ≠ z.l.getD 0 0) {T T2 : Nat → ByteArray} {K k M : Nat} {e : Ending} {w w' : World} (hT : ∀ i, i < 255 → MGood (T i) (z.at' (fN (i + 1))) 0) (hT2 : ∀ i, i < 255 → MGood (T2 i) ((z.sec l').at' (fN (i + 1))) 0) (hK : K < 255) (hk : k < K)
    (hj : JoQ (plusT T K (T2 k)) (K + 1) M e w w') : e = .returned (.tuple #[.slice none 0 0, .int .i64 116]) ∧ Below M w w' := by
  have h1 : ∀ i, i < K → plusT T K (T2 k) i = T i := fun i hi => if_pos hi
  have h2 : plusT T K (T2 k) K = T2 k := if_neg (Nat.lt_irrefl K)
  have hmx : Mx z l' (fun i => gR (plusT T K (T2 k) i)) (K + 1) (fun i => if i < K then fN (i + 1) else fN (k + 1)) (fun i => decide (i = K)) := ⟨hz, hl, hne, fun i hi => by
    by_cases h : i < K
    · simp only [h1 i h, if_pos h, decide_eq_false (show ¬ i = K by omega)]
      exact gR_eq (hT i (by omega))
    · obtain rfl : i = K := by omega
      simp only [h2, if_neg h, decide_true, if_true]
      exact gR_eq (hT2 k (by omega))⟩
  have htw := hmx.twice k K hk (by omega) (by simp [hk]) (by simp; omega) (by simp)
  refine join_code (k := 116) (fun i hi => ?_) (fun h => h.2.2.1 htw) (fun q hq => code_116 (by omega) hmx.alk htw hq) hj
  by_cases h : i < K
  · rw [h1 i h, gR_eq (hT i (by omega))]; exact ⟨0, hT i (by omega)⟩
  · obtain rfl : i = K := by omega
    rw [h2, gR_eq (hT2 k (by omega))]; exact ⟨0, hT2 k (by omega)⟩
/-- Shares, one of them changed. -/
def mixT (T T2 : Nat → ByteArray) (k : Nat) : Nat → ByteArray := fun i => if i = k then T2 i else T i
theorem join_117 {z : Shg} (hz : z.ok) {l' : List F} (hl : l'.length = z.l.length) (hne : l'.getD 0 0 ≠ z.l.getD 0 0) {T T2 : Nat → ByteArray} {K k M : Nat} {e : Ending} {w w' : World} (hT : ∀ i, i < 255 → MGood (T i) (z.at' (fN (i + 1))) 0) (hT2 : ∀ i, i < 255 → MGood (T2 i) ((z.sec l').at' (fN (i + 1))) 0) (hK : z.bn.1 < K ∧ K < 255) (hk : k < K)
    (hj : JoQ (mixT T T2 k) K M e w w') : e = .returned (.tuple #[.slice none 0 0, .int .i64 117]) ∧ Below M w w' := by
  have hat : ∀ i, i < K → gR (mixT T T2 k i) = if decide (i = k) then (z.sec l').at' (fN (i + 1)) else z.at' (fN (i + 1)) := fun i hi => by
    unfold mixT
    by_cases h : i = k
    · rw [if_pos h, decide_eq_true h, if_pos rfl]
      exact gR_eq (hT2 i (by omega))
    · rw [if_neg h, decide_eq_false h, if_neg (by decide)]
      exact gR_eq (hT i (by omega))
  have hmx : Mx z l' (fun i => gR (mixT T T2 k i)) K (fun i => fN (i + 1)) (fun i => decide (i = k)) := ⟨hz, hl, hne, hat⟩
  have h3 : ∀ i, i < K → ((gR (mixT T T2 k i)).getD 3 0) = fN (i + 1) := fun i hi => (hmx.get i hi).2.2.2.1
  have hix : ∀ i, i < K → (((fun i => gR (mixT T T2 k i)) i).getD 3 0).1 = i + 1 := fun i hi => by
    show ((gR (mixT T T2 k i)).getD 3 0).1 = _
    rw [h3 i hi, fN_val _ (by omega)]
  have htw : ¬ TwiceP (fun i => gR (mixT T T2 k i)) K := by
    rintro ⟨a, b, hab, hb, e1, _⟩
    have q1 := hix a (by omega)
    have q2 := hix b hb
    rw [e1, q2] at q1
    omega
  have hon : onN (fun i => gR (mixT T T2 k i)) K = K := onN_seq hix (by omega)
  have hb0 := (hmx.get 0 (by omega)).2.2.1
  have hs0 := (hmx.get 0 (by omega)).2.2.2.2
  have hnf : ¬ FitA (onR (fun i => gR (mixT T T2 k i)) K) z.bn.1 z.l.length K := hmx.unfit k hk (fun _ => rfl) hK.1 (by omega)
  refine join_code (k := 117) (fun i hi => ?_) (fun h => ?_) (fun q hq => code_117 (by omega) hmx.alk htw ?_ hq) hj
  · by_cases h : i = k
    · have e0 := hat i hi
      rw [decide_eq_true h, if_pos rfl] at e0
      rw [e0]
      exact ⟨0, by unfold mixT; rw [if_pos h]; exact hT2 i (by omega)⟩
    · have e0 := hat i hi
      rw [decide_eq_false h, if_neg (by decide)] at e0
      rw [e0]
      exact ⟨0, by unfold mixT; rw [if_neg h]; exact hT i (by omega)⟩
  · have q := h.2.2.2.2.1
    rw [hon] at q
    simp only [hb0, hs0, hz.size] at q
    exact hnf q
  · rw [hon]
    show ((gR (mixT T T2 k 0)).getD 2 0).1 ≤ K
    rw [hb0]
    omega
theorem shD_sec (sn : Nat) (l l' R : List F) (nd : Nat) (h : l'.length = l.length) : (shD sn l R nd).sec l' = shD sn l' R nd := by
  unfold shD Shg.sec
  rw [h]
end Go.Proofs.YtjcdhfkilnbjgaaDoor
