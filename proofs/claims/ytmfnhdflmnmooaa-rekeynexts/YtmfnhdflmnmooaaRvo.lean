import Derived.Test.YtmfnhdflmnmooaaSpl
namespace Go.Proofs.Ytmfnhdflmnmooaa
open Go.RowKit
set_option linter.unusedVariables false
set_option linter.unusedSimpArgs false
theorem flat_len {α : Type} (L : α → List Value) (sz : Nat) (hL : ∀ x, (L x).length = sz) (l : List α) : (l.flatMap L).length = l.length * sz := by
  induction l with
  | nil => simp
  | cons y l ih => rw [List.flatMap_cons, List.length_append, ih, hL, List.length_cons, Nat.succ_mul]; omega
theorem flat_at {α : Type} (L : α → List Value) (sz : Nat) (hL : ∀ x, (L x).length = sz) (rest : List Value) : ∀ (l : List α) (i : Nat) (x : α), l[i]? = some x → ∀ (j : Nat) (u : Value), (L x)[j]? = some u → (l.flatMap L ++ rest)[i * sz + j]? = some u := by
  intro l
  induction l with
  | nil => intro i x hx; simp at hx
  | cons y l ih =>
    intro i x hx j u hu
    rw [List.flatMap_cons, List.append_assoc]
    cases i with
    | zero =>
      simp at hx
      subst hx
      have hj := (List.getElem?_eq_some_iff.1 hu).1
      rw [Nat.zero_mul, Nat.zero_add, List.getElem?_append_left hj]
      exact hu
    | succ k =>
      have h1 := ih k x (by simpa using hx) j u hu
      rw [List.getElem?_append_right (by rw [hL, Nat.succ_mul]; omega), hL, show (k + 1) * sz + j - sz = k * sz + j by rw [Nat.succ_mul]; omega]
      exact h1
/-- Rows that the call owns, with something behind them, are such a list. -/
theorem rv_own {α : Type} {L : α → List Value} {sz : Nat} (hL : ∀ x, (L x).length = sz) {w : World} {B e g N c : Nat} {l : List α} {rest : List Value} (h : w.ownsRow B e sz (.slice (some ⟨g, 0, none⟩) N c) N (l.flatMap L ++ rest)) : RV L sz w (some ⟨g, 0, none⟩) l := by
  refine .inr ⟨g, 0, rfl, (h.lt g rfl).2, fun i x hx j u hu => ?_⟩
  have := h.cells (g := g) rfl (i * sz + j) u (flat_at L sz hL rest l i x hx j u hu)
  rw [Addr.add_mid] at this
  rw [Nat.zero_add] at this ⊢
  exact this
/-- The mark behind them. -/
theorem mk_own {α : Type} {L : α → List Value} {sz : Nat} (hL : ∀ x, (L x).length = sz) {w : World} {B e g n c : Nat} {l : List α} {v : Value} {rest : List Value} (hl : l.length = n) (h : w.ownsRow B e sz (.slice (some ⟨g, 0, none⟩) (n + 1) c) (n + 1) (l.flatMap L ++ v :: rest)) : Mk w (some ⟨g, 0, none⟩) n c sz v := by
  have hc : n + 1 ≤ c ∧ c ≤ maxLen := by
    rcases h.2 with ⟨h, _⟩ | ⟨g', c', cur, he, _, _, h1, h2, _⟩
    · cases h
    · cases he; exact ⟨h1, h2⟩
  refine ⟨g, rfl, hc.1, by have := hc.2; unfold maxLen at this; omega, ?_⟩
  have := h.cells (g := g) rfl (n * sz) v (by
    rw [List.getElem?_append_right (by rw [flat_len L sz hL, hl]; exact Nat.le_refl _), flat_len L sz hL, hl, Nat.sub_self]
    rfl)
  rw [Addr.add_mid, Nat.zero_add] at this
  exact this
theorem sloL_len (x : Slo) : (sloL x).length = 9 := rfl
theorem epoL_len (x : Epo) : (epoL x).length = 5 := rfl
theorem tkL_len (x : Tk) : (tkL x).length = 4 := rfl
end Go.Proofs.Ytmfnhdflmnmooaa
