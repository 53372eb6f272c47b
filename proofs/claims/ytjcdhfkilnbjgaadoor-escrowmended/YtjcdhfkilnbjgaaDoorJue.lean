import Derived.Test.YtjcdhfkilnbjgaaDoorJud
import Derived.Test.YtjcdhfkilnbjgaaDoorPart13
namespace Go.Proofs.YtjcdhfkilnbjgaaDoor
open Go.RowKit Go.Maps
set_option linter.unusedVariables false
set_option linter.unusedSimpArgs false
set_option maxRecDepth 100000
/-- The numbers that came, each once. -/
def uqL (a : Nat → Nat) : Nat → List Nat
  | 0 => []
  | i + 1 => if a i ∈ uqL a i then uqL a i else uqL a i ++ [a i]
theorem uq_mem (a : Nat → Nat) (x : Nat) : ∀ n, x ∈ uqL a n ↔ ∃ i, i < n ∧ a i = x
  | 0 => by simp [uqL]
  | n + 1 => by
    have ih := uq_mem a x n
    have e : uqL a (n + 1) = if a n ∈ uqL a n then uqL a n else uqL a n ++ [a n] := rfl
    rw [e]
    constructor
    · intro h
      split at h
      · obtain ⟨i, hi, he⟩ := ih.1 h
        exact ⟨i, by omega, he⟩
      · rcases List.mem_append.1 h with h | h
        · obtain ⟨i, hi, he⟩ := ih.1 h
          exact ⟨i, by omega, he⟩
        · exact ⟨n, by omega, (by simpa using h : x = a n).symm⟩
    · rintro ⟨i, hi, he⟩
      by_cases h : i = n
      · subst h
        subst he
        split
        · assumption
        · simp
      · have := ih.2 ⟨i, by omega, he⟩
        split
        · exact this
        · exact List.mem_append_left _ this
theorem uq_nodup (a : Nat → Nat) : ∀ n, (uqL a n).Nodup
  | 0 => by simp [uqL]
  | n + 1 => by
    have ih := uq_nodup a n
    have e : uqL a (n + 1) = if a n ∈ uqL a n then uqL a n else uqL a n ++ [a n] := rfl
    rw [e]
    split
    · exact ih
    · rename_i h
      rw [List.nodup_append]
      refine ⟨ih, by simp, fun x hx y hy => ?_⟩
      simp at hy
      subst hy
      exact fun q => h (by rw [← q]; exact hx)
theorem uq_len (a : Nat → Nat) : ∀ n, (uqL a n).length ≤ n
  | 0 => Nat.le_refl _
  | n + 1 => by
    have := uq_len a n
    have e : uqL a (n + 1) = if a n ∈ uqL a n then uqL a n else uqL a n ++ [a n] := rfl
    rw [e]
    split
    · omega
    · simp; omega
/-- A map's block: which numbers it has. -/
def MpU (u : World) (b k : Nat) (L : List Nat) : Prop := ∃ D : DataW Value, u.ownsMap Tryd.prog 3 Rg b k D ∧ Maps.size D = L.length ∧ ∀ j, j < 1000 → Maps.has D (.int .i64 (j : Nat)) = decide (j ∈ L)
theorem MpU.new (w : World) : MpU (w.alloc (.map #[] 0)) w.heap.size 0 [] := ⟨.map [], World.ownsMap_made _ _ _ _, rfl, fun j _ => by simp [Maps.has]⟩
theorem MpU.kept {u v : World} {b k : Nat} {L : List Nat} {r : Option Nat} (h : MpU u b k L) (hg : u.grownBy v r) (hne : some b ≠ r) : MpU v b k L := by
  obtain ⟨D, h1, h2, h3⟩ := h
  exact ⟨D, h1.kept hg hne, h2, h3⟩
theorem MpU.lt {u : World} {b k : Nat} {L : List Nat} (h : MpU u b k L) : b < u.heap.size := by
  obtain ⟨D, h1, _⟩ := h
  exact h1.lt
theorem MpU.below {u v : World} {b k : Nat} {L : List Nat} (h : MpU u b k L) (hb : Below u.heap.size u v) : MpU v b k L :=
  h.kept (r := none) ⟨hb.os, hb.tape, hb.output, hb.size, fun g hg _ => hb.block g hg⟩ (by simp)
theorem wpList_putU {u : World} {ops : Array Oper} {rest : List Oper} {o : Oper} {a : Act} {Q : Exit → Act → World → Prop} (hg : o.guard = none) (m x v : Operand) (hop : o.op = Op.mapUpdate 48 m x v) {b k : Nat} {L : List Nat} (h : MpU u b k L) (hk : k < 1000000)
    (hm : a.eval m = .map (some b)) (j : Nat) (hj : j < 1000) (hx : a.eval x = .int .i64 (j : Nat)) (hv : a.eval v = .int .i64 1)
    (hK : ∀ w', MpU w' b (k + 1) (if j ∈ L then L else L ++ [j]) → u.grownBy w' (some b) → wpList Tryd.prog ops Q rest (a.put o.dst undef) w') : wpList Tryd.prog ops Q (o :: rest) a u := by
  obtain ⟨D, h1, h2, h3⟩ := h
  refine wpList_mapUpdate_own _ hg m x v 48 hop 3 3 key3 Tryd.underlying48 Rg b k D hm h1 (by unfold maxLen; omega) _ _ _ hx hv (key3_of j hj) (.held (.int .i64 1)) [] rfl fun w' ho hgr => ?_
  refine hK w' ⟨_, ho, ?_, fun i hi => ?_⟩ hgr
  · rw [size_put (h1.tidy key3), h3 j hj, h2]
    by_cases e : j ∈ L
    · rw [if_pos e, decide_eq_true e, if_pos rfl]
    · rw [if_neg e, decide_eq_false e, if_neg (by decide)]
      simp
  · by_cases e : i = j
    · subst e
      rw [has_put_same h1.isMap (key3.key (key3_of i hi))]
      symm
      rw [decide_eq_true_eq]
      split
      · assumption
      · simp
    · have hne : (Lit.int .i64 (i : Nat)) ≠ (Lit.int .i64 (j : Nat)) := fun q => e (by injection q with _ q; omega)
      rw [has_put_other hne, h3 i hi]
      by_cases e2 : j ∈ L
      · rw [if_pos e2]
      · rw [if_neg e2]
        simp [e]
theorem wpList_lenU {u : World} {ops : Array Oper} {rest : List Oper} {o : Oper} {a : Act} {Q : Exit → Act → World → Prop} (hg : o.guard = none) (m : Operand) (hop : o.op = Op.call { callee := Callee.builtin Builtin.len, args := #[m], argTypes := #[48] }) {b k : Nat} {L : List Nat} (h : MpU u b k L)
    (hm : a.eval m = .map (some b)) (hK : wpList Tryd.prog ops Q rest (a.put o.dst (.int .i64 (L.length : Nat))) u) : wpList Tryd.prog ops Q (o :: rest) a u := by
  obtain ⟨D, h1, h2, h3⟩ := h
  refine wpList_len_own _ hg m 48 hop 3 3 Tryd.underlying48 Rg b k D hm h1 ?_
  rw [h2]
  exact hK
theorem chg_at (l : List F) (a q : Nat) (x : F) (h : a < l.length) (hq : q ≠ a) : (chg l a x).getD q 0 = l.getD q 0 := by
  unfold chg
  rw [set_getD _ _ _ _ h, if_neg hq]
/-- A changed row is near the row. -/
theorem hurt_nr (m : List F) (hz : sumL m = [0, 0, 0, 0]) (h2 : 2 ≤ m.length) (i : Int) (x : F) (k : Int) (y : F) : Nr (hurtL m i x k y) m := by
  have ha := (idxW_tmod i m.length (by omega)).2
  have hc := (idxW_tmod k m.length (by omega)).2
  refine ⟨hz, ?_⟩
  have hl := hurtL_len m i x k y
  have hat : ∀ q, q ≠ idxW i m.length → q ≠ idxW k m.length → m.getD q 0 = (hurtL m i x k y).getD q 0 := fun q h1 h3 => by
    unfold hurtL
    rw [chg_at _ _ _ _ (by rw [chg_len]; exact hc) h3, chg_at _ _ _ _ ha h1]
  by_cases e : idxW i m.length = idxW k m.length
  · obtain ⟨p, hp, hne⟩ : ∃ p, p < m.length ∧ p ≠ idxW i m.length := by
      by_cases h0 : idxW i m.length = 0
      · exact ⟨1, by omega, by omega⟩
      · exact ⟨0, by omega, fun q => h0 q.symm⟩
    exact ⟨idxW i m.length, p, hl.symm, by rw [hl]; exact ha, by rw [hl]; exact hp, fun q => hne q.symm, fun q hq h1 h3 => hat q h1 (by rw [← e]; exact h1)⟩
  · exact ⟨idxW i m.length, idxW k m.length, hl.symm, by rw [hl]; exact ha, by rw [hl]; exact hc, e, fun q hq h1 h3 => hat q h1 h3⟩
theorem hurt_good (m : List F) (hm : okF m) (hz : sumL m = [0, 0, 0, 0]) (i : Int) (x : F) (k : Int) (y : F) : ∃ d, MGood (WLs (hurtL m i x k y)) m d := ⟨_, near_good _ m hm (hurt_nr m hz (by have := okF_size hm; omega) i x k y)⟩
/-- Lines of a sharing, each changed. -/
def hurtT (z : Shg) (a : Nat → Nat) (pI pK : Nat → Int) (pB pT : Nat → F) (i : Nat) : ByteArray := WLs (hurtL (z.at' (fN (a i + 1))) (pI i) (pB i) (pK i) (pT i))
theorem hurt_lns {z : Shg} (hz : z.ok) (a : Nat → Nat) (pI pK : Nat → Int) (pB pT : Nat → F) (n : Nat) (ha : ∀ i, i < n → a i < 255) : Lns z (hurtT z a pI pK pB pT) n (fun i => fN (a i + 1)) :=
  ⟨hz, fun i hi => hurt_good _ (Shg.okR hz _ (by rw [fN_val _ (by have := ha i hi; omega)]; omega)) (z.zero _) _ _ _ _, fun i hi => by rw [fN_val _ (by have := ha i hi; omega)]; omega⟩
theorem hurt_on {z : Shg} (hz : z.ok) (a : Nat → Nat) (pI pK : Nat → Int) (pB pT : Nat → F) (n : Nat) (ha : ∀ i, i < n → a i < 255) : onN (fun i => gR (hurtT z a pI pK pB pT i)) n = (uqL a n).length := by
  have hl := hurt_lns hz a pI pK pB pT n ha
  have h3 : ∀ k, k < n → ((gR (hurtT z a pI pK pB pT k)).getD 3 0).1 = a k + 1 := fun k hk => by
    rw [hl.eq k hk, z.at_3, fN_val _ (by have := ha k hk; omega)]
  have hlen : ((uqL a n).map fun x => x + 1).length = (uqL a n).length := by simp
  refine Nat.le_antisymm ?_ ?_
  · rw [← hlen]
    refine onN_le _ fun k hk => ?_
    rw [h3 k hk]
    exact List.mem_map.2 ⟨a k, (uq_mem a _ n).2 ⟨k, hk, rfl⟩, rfl⟩
  · rw [← hlen]
    refine onN_ge _ ?_ fun j hj => ?_
    · unfold List.Nodup
      rw [List.pairwise_map]
      exact List.Pairwise.imp (fun h => by omega) (uq_nodup a n)
    · obtain ⟨x, hx, rfl⟩ := List.mem_map.1 hj
      obtain ⟨k, hk, rfl⟩ := (uq_mem a x n).1 hx
      have := ha k hk
      exact ⟨by omega, by omega, k, hk, h3 k hk⟩
end Go.Proofs.YtjcdhfkilnbjgaaDoor
