import Derived.Test.YtffejkfkkciaaaaGf
import Derived.Lib.FieldsP
import Derived.Lib.SpaceUEq
import Derived.Laws.RangeAny
namespace Go.Proofs.Ytffejkfkkciaaaa
open Go.Lib
set_option linter.unusedVariables false
set_option linter.unusedSimpArgs false
/-- Does it part words? -/
def gapN (r : Nat) : Bool := r == 32 || r == 9 || r == 10 || r == 13 || r == 45
def gapU (c : UInt8) : Bool := gapN c.toNat
theorem gap_high (r : Nat) (h : 128 ≤ r) : gapN r = false := by
  unfold gapN
  rw [show (r == 32) = false by simp; omega, show (r == 9) = false by simp; omega, show (r == 10) = false by simp; omega, show (r == 13) = false by simp; omega, show (r == 45) = false by simp; omega]
  rfl
/-- The words, byte by byte. -/
def wordsL : List UInt8 → List UInt8 → List (List UInt8)
  | cur, [] => if cur = [] then [] else [cur]
  | cur, c :: t => if gapU c then (if cur = [] then wordsL [] t else cur :: wordsL [] t) else wordsL (cur ++ [c]) t
theorem words_skip : ∀ (k : Nat) (cur l : List UInt8), k ≤ l.length → (∀ j, j < k → gapU (l.getD j 0) = false) → wordsL cur l = wordsL (cur ++ l.take k) (l.drop k)
  | 0, cur, l, _, _ => by simp
  | k + 1, cur, [], h, _ => by simp at h
  | k + 1, cur, b :: t, h, hz => by
    have h0 := hz 0 (by omega)
    simp only [List.getD_cons_zero] at h0
    simp only [wordsL, h0, Bool.false_eq_true, if_false, List.take_succ_cons, List.drop_succ_cons]
    rw [words_skip k (cur ++ [b]) t (by simp at h; omega) (fun j hj => by have := hz (j + 1) (by omega); simpa using this)]
    simp
/-- A rune that is no gap has no gap in its bytes. -/
theorem rune_bytes (s : ByteArray) (pos : Nat) (hp : pos < s.size) :
    (gapN (Utf8.decode s pos).1 = true → gapU (s.data.toList.getD pos 0) = true ∧ (Utf8.decode s pos).2 = 1) ∧ (gapN (Utf8.decode s pos).1 = false → ∀ j, j < (Utf8.decode s pos).2 → gapU (s.data.toList.getD (pos + j) 0) = false) := by
  have hg : s.data.toList.getD pos 0 = s[pos]'hp := by
    rw [List.getD_eq_getElem?_getD, List.getElem?_eq_getElem (by rw [← size_eq]; exact hp)]
    rfl
  by_cases h : (s[pos]'hp).toNat < 128
  · have e := decode_ascii s pos hp h
    rw [e]
    unfold gapU
    rw [hg]
    refine ⟨fun q => ⟨q, rfl⟩, fun q j hj => ?_⟩
    obtain rfl : j = 0 := by simp only at hj; omega
    rw [Nat.add_zero, hg]
    exact q
  · have hh := decode_high s pos hp (by omega)
    have hf := gap_high _ hh.1
    refine ⟨fun q => (by rw [hf] at q; cases q), fun _ j hj => ?_⟩
    have hc := decodeN_conts (s.data.toList.length - pos) (s.data.toList.getD pos 0).toNat (s.data.toList.getD (pos + 1) 0).toNat (s.data.toList.getD (pos + 2) 0).toNat (s.data.toList.getD (pos + 3) 0).toNat
    rw [← decode_N] at hc
    obtain ⟨c2, c3, c4, c5⟩ := hc
    unfold gapU
    apply gap_high
    match j, hj with
    | 0, _ => rw [Nat.add_zero, hg]; omega
    | 1, hj => have := (c2 (by omega)).1; omega
    | 2, hj => have := (c3 (by omega)).1; omega
    | 3, hj => have := (c4 (by omega)).1; omega
    | j + 4, hj => omega
theorem spans_words (s : ByteArray) : ∀ (f pos : Nat) (st : Option Nat) (acc : List (Nat × Nat)), s.size ≤ pos + f → pos ≤ s.size → (∀ a, st = some a → a < pos) →
    acc.map (fun p => pieceU s.data.toList p.1 p.2) ++ wordsL (openPiece s.data.toList st pos) (s.data.toList.drop pos) = (closeSpans s (spansFromP gapN s f pos st acc)).map (fun p => pieceU s.data.toList p.1 p.2) := by
  intro f
  induction f with
  | zero =>
    intro pos st acc h hp hst
    obtain rfl : pos = s.size := by omega
    have hd : s.data.toList.drop s.size = [] := List.drop_eq_nil_of_le (by rw [← size_eq]; exact Nat.le_refl _)
    rw [hd]
    cases st with
    | none => simp [spansFromP, closeSpans, openPiece, wordsL]
    | some a =>
      have := pieceU_ne s.data.toList a s.size (hst a rfl) (by rw [← size_eq]; exact Nat.le_refl _)
      simp [spansFromP, closeSpans, openPiece, wordsL, this]
  | succ f ih =>
    intro pos st acc h hp hst
    by_cases hlt : pos < s.size
    · have hw := width_pos s pos
      have hwn : pos + (Utf8.decode s pos).2 ≤ s.size := by
        have := decodeN_le_n' (s.size - pos) (s.get! pos).toNat (s.get! (pos + 1)).toNat (s.get! (pos + 2)).toNat (s.get! (pos + 3)).toNat (by omega)
        rw [← decode_at] at this
        omega
      have hll : pos < s.data.toList.length := by rw [← size_eq]; exact hlt
      obtain ⟨rb1, rb2⟩ := rune_bytes s pos hlt
      have hcons : s.data.toList.drop pos = s.data.toList.getD pos 0 :: s.data.toList.drop (pos + 1) := by
        rw [List.drop_eq_getElem_cons hll, List.getD_eq_getElem?_getD, List.getElem?_eq_getElem hll]
        rfl
      simp only [spansFromP, if_pos hlt]
      cases hsp : gapN (Utf8.decode s pos).1 with
      | true =>
        obtain ⟨g1, g2⟩ := rb1 hsp
        simp only [if_true, g2]
        rw [hcons]
        simp only [wordsL, g1, if_true]
        cases st with
        | none =>
          have i := ih (pos + 1) none acc (by omega) (by omega) (fun a h => by cases h)
          simpa [openPiece] using i
        | some a =>
          have hpn := pieceU_ne s.data.toList a pos (hst a rfl) (by rw [← size_eq]; omega)
          have i := ih (pos + 1) none (acc ++ [(a, pos)]) (by omega) (by omega) (fun a h => by cases h)
          simpa [openPiece, hpn] using i
      | false =>
        simp only [Bool.false_eq_true, if_false]
        have hsk := fun cur => words_skip (Utf8.decode s pos).2 cur (s.data.toList.drop pos) (by rw [List.length_drop, ← size_eq]; omega) (fun j hj => by
          rw [getD_dropU]; exact rb2 hsp j hj)
        cases st with
        | none =>
          have i := ih (pos + (Utf8.decode s pos).2) (some pos) acc (by omega) hwn (fun a h => by cases h; omega)
          have e : ([] : List UInt8) ++ (s.data.toList.drop pos).take (Utf8.decode s pos).2 = pieceU s.data.toList pos (pos + (Utf8.decode s pos).2) := by
            unfold pieceU
            rw [List.nil_append, Nat.add_sub_cancel_left]
          simp only [openPiece] at i ⊢
          rw [hsk, e, List.drop_drop]
          exact i
        | some a =>
          have i := ih (pos + (Utf8.decode s pos).2) (some a) acc (by omega) hwn (fun b h => by cases h; have := hst a rfl; omega)
          simp only [openPiece] at i ⊢
          rw [hsk, pieceU_grow _ _ _ _ (Nat.le_of_lt (hst a rfl)), List.drop_drop]
          exact i
    · obtain rfl : pos = s.size := by omega
      have hd : s.data.toList.drop s.size = [] := List.drop_eq_nil_of_le (by rw [← size_eq]; exact Nat.le_refl _)
      rw [hd, spansFromP_end gapN s _ _ _ _ hlt]
      cases st with
      | none => simp [closeSpans, openPiece, wordsL]
      | some a =>
        have := pieceU_ne s.data.toList a s.size (hst a rfl) (by rw [← size_eq]; exact Nat.le_refl _)
        simp [closeSpans, openPiece, wordsL, this]
/-- strings.FieldsFunc(s, isGap) gives the words. -/
theorem fields_words (s : ByteArray) : (goFieldsP gapN s).map (·.data.toList) = wordsL [] s.data.toList := by
  have h := spans_words s s.size 0 none [] (by omega) (Nat.zero_le _) (fun a h => by cases h)
  simp only [List.map_nil, List.nil_append, openPiece, List.drop_zero] at h
  rw [h]
  unfold goFieldsP spansOfP
  rw [List.map_map]
  apply List.map_congr_left
  intro p _
  simp only [Function.comp, pieceU]
  first | (rw [ByteArray.data_extract, Array.toList_extract]; done) | simp
/-- At a gap, and at a word. -/
theorem words_gap (l : List UInt8) (i : Nat) (hi : i < l.length) (h : gapU (l.getD i 0) = true) : wordsL [] (l.drop i) = wordsL [] (l.drop (i + 1)) := by
  rw [show l.drop i = l.getD i 0 :: l.drop (i + 1) by
    rw [List.drop_eq_getElem_cons hi, List.getD_eq_getElem?_getD, List.getElem?_eq_getElem hi]; rfl]
  simp only [wordsL, h, if_true]
theorem words_word (l : List UInt8) (i e : Nat) (hi : i < e) (he : e ≤ l.length) (h : ∀ j, i ≤ j → j < e → gapU (l.getD j 0) = false) (hg : e < l.length → gapU (l.getD e 0) = true) : wordsL [] (l.drop i) = pieceU l i e :: wordsL [] (l.drop e) := by
  rw [words_skip (e - i) [] (l.drop i) (by rw [List.length_drop]; omega) (fun j hj => by rw [getD_dropU]; exact h _ (by omega) (by omega))]
  rw [List.nil_append, List.drop_drop, show i + (e - i) = e by omega]
  have hne := pieceU_ne l i e hi he
  show wordsL (pieceU l i e) (l.drop e) = _
  by_cases hlt : e < l.length
  · have hc : l.drop e = l.getD e 0 :: l.drop (e + 1) := by
      rw [List.drop_eq_getElem_cons hlt, List.getD_eq_getElem?_getD, List.getElem?_eq_getElem hlt]; rfl
    rw [hc]
    simp only [wordsL, hg hlt, if_true, if_neg hne]
  · rw [show l.drop e = [] from List.drop_eq_nil_of_le (by omega)]
    simp only [wordsL, if_true, if_neg hne]
/-- The letters' places. -/
def conL : List Nat := [98, 100, 102, 103, 104, 106, 107, 108, 109, 110, 112, 114, 115, 116, 118, 122]
def vowL : List Nat := [97, 105, 111, 117]
def smallN (c : Nat) : Nat := if 65 ≤ c ∧ c ≤ 90 then c + 32 else c
/-- The place of a letter in a list; its length: none. -/
def idxN (L : List Nat) (c : Nat) : Nat := L.idxOf c
def letL (k : Nat) : List Nat := if k % 2 = 1 then vowL else conL
/-- A word's number, as far as k letters of it; none where a letter is none. -/
def wnum (w : List UInt8) : Nat → Option Nat
  | 0 => some 0
  | k + 1 => match wnum w k with
    | none => none
    | some v => if idxN (letL k) (smallN (w.getD k 0).toNat) < (letL k).length then some (v * (letL k).length + idxN (letL k) (smallN (w.getD k 0).toNat)) else none
def wordN (w : List UInt8) : Nat := (wnum w 5).getD 0
theorem letL_len (k : Nat) : (letL k).length = if k % 2 = 1 then 4 else 16 := by unfold letL; split <;> rfl
theorem wnum_lt (w : List UInt8) : (∀ v, wnum w 1 = some v → v < 16) ∧ (∀ v, wnum w 2 = some v → v < 64) ∧ (∀ v, wnum w 3 = some v → v < 1024) ∧ (∀ v, wnum w 4 = some v → v < 4096) ∧ (∀ v, wnum w 5 = some v → v < 65536) := by
  have step : ∀ (k B m : Nat), (letL k).length = m → (∀ v, wnum w k = some v → v < B) → ∀ v, wnum w (k + 1) = some v → v < B * m := by
    intro k B m hm hk v hv
    unfold wnum at hv
    rw [hm] at hv
    cases hw : wnum w k with
    | none => rw [hw] at hv; cases hv
    | some u =>
      rw [hw] at hv
      simp only at hv
      split at hv
      · injection hv with hv
        have := hk u hw
        have h1 : (u + 1) * m ≤ B * m := Nat.mul_le_mul_right m this
        rw [Nat.add_mul, Nat.one_mul] at h1
        omega
      · cases hv
  have h0 : ∀ v, wnum w 0 = some v → v < 1 := fun v hv => by unfold wnum at hv; injection hv with hv; omega
  have h1 := step 0 1 16 rfl h0
  have h2 := step 1 16 4 rfl h1
  have h3 := step 2 64 16 rfl h2
  have h4 := step 3 1024 4 rfl h3
  have h5 := step 4 4096 16 rfl h4
  exact ⟨h1, h2, h3, h4, h5⟩
theorem wnum_lt5 (w : List UInt8) (k v : Nat) (hk : k ≤ 5) (h : wnum w k = some v) : v < 65536 := by
  obtain ⟨a1, a2, a3, a4, a5⟩ := wnum_lt w
  match k, hk with
  | 0, _ => unfold wnum at h; injection h with h; omega
  | 1, _ => have := a1 v h; omega
  | 2, _ => have := a2 v h; omega
  | 3, _ => have := a3 v h; omega
  | 4, _ => have := a4 v h; omega
  | 5, _ => exact a5 v h
theorem wordN_lt (w : List UInt8) : wordN w < 65536 := by
  unfold wordN
  cases h : wnum w 5 with
  | none => simp
  | some v => exact wnum_lt5 w 5 v (Nat.le_refl _) h
/-- Two bytes. -/
def twoF (v : Nat) : List F := [⟨v / 256 % 256, Nat.mod_lt _ (by decide)⟩, ⟨v % 256, Nat.mod_lt _ (by decide)⟩]
/-- What some words say. -/
def saidW : List (List UInt8) → List F
  | [] => []
  | w :: t => twoF (wordN w) ++ saidW t
theorem saidW_append : ∀ a b, saidW (a ++ b) = saidW a ++ saidW b
  | [], b => rfl
  | w :: a, b => by show twoF _ ++ saidW (a ++ b) = (twoF _ ++ saidW a) ++ saidW b; rw [saidW_append a b, List.append_assoc]
theorem saidW_length : ∀ a, (saidW a).length = 2 * a.length
  | [] => rfl
  | w :: a => by show (twoF _ ++ saidW a).length = _; rw [List.length_append, saidW_length a]; simp [twoF]; omega
theorem words_few : ∀ (l cur : List UInt8), (wordsL cur l).length ≤ l.length + (if cur = [] then 0 else 1)
  | [], cur => by unfold wordsL; split <;> simp_all
  | c :: t, cur => by
    unfold wordsL
    have h0 := words_few t []
    have h1 := words_few t (cur ++ [c])
    have hne : ¬ cur ++ [c] = [] := by simp
    rw [if_pos rfl] at h0
    rw [if_neg hne] at h1
    simp only [List.length_cons]
    split
    · split
      · omega
      · simp only [List.length_cons]; omega
    · split <;> omega
end Go.Proofs.Ytffejkfkkciaaaa
