import Derived.Test.YtjcdhfkilnbjgaaDoorJue
import Derived.Test.YtjcdhfkilnbjgaaDoorJug
namespace Go.Proofs.YtjcdhfkilnbjgaaDoor
open Go.RowKit
set_option linter.unusedVariables false
set_option linter.unusedSimpArgs false
set_option maxRecDepth 100000
/-- The word of pair p. -/
def wdP (xs : List Int) (p : Nat) : List UInt8 := word (xs.getD (2 * p) 0 * 256 + xs.getD (2 * p + 1) 0)
/-- The words ahead of number p, each with its blank. -/
def preL (xs : List Int) : Nat → List UInt8
  | 0 => []
  | p + 1 => preL xs p ++ (wdP xs p ++ [32])
/-- The words from number p on, each behind a blank. -/
def sufL (xs : List Int) (p : Nat) : Nat → List UInt8
  | 0 => []
  | n + 1 => sufL xs p n ++ (32 :: wdP xs (p + n))
theorem preL_len (xs : List Int) : ∀ p, (preL xs p).length = 6 * p
  | 0 => rfl
  | p + 1 => by
    show (preL xs p ++ (wdP xs p ++ [32])).length = _
    rw [List.length_append, preL_len xs p, List.length_append]
    show 6 * p + (5 + 1) = _
    omega
theorem wl_pre (xs : List Int) : ∀ p, wl xs (p + 1) = preL xs p ++ wdP xs p
  | 0 => by simp [wl, preL, wdP]
  | p + 1 => by
    have e : wl xs (p + 1 + 1) = wl xs (p + 1) ++ ((if p + 1 = 0 then [] else [32]) ++ wdP xs (p + 1)) := rfl
    rw [e, wl_pre xs p, if_neg (by omega)]
    show _ = preL xs p ++ (wdP xs p ++ [32]) ++ wdP xs (p + 1)
    simp
theorem wl_split (xs : List Int) (p : Nat) : ∀ n, wl xs (p + 1 + n) = preL xs p ++ (wdP xs p ++ sufL xs (p + 1) n)
  | 0 => by
    rw [Nat.add_zero, wl_pre]
    simp [sufL]
  | n + 1 => by
    have e : wl xs (p + 1 + n + 1) = wl xs (p + 1 + n) ++ ((if p + 1 + n = 0 then [] else [32]) ++ wdP xs (p + 1 + n)) := rfl
    rw [← Nat.add_assoc, e, wl_split xs p n, if_neg (by omega)]
    show _ = preL xs p ++ (wdP xs p ++ (sufL xs (p + 1) n ++ (32 :: wdP xs (p + 1 + n))))
    simp
theorem wdP_nogap (xs : List Int) (p : Nat) : ∀ c ∈ wdP xs p, gapU c = false := word_nogap _
theorem words1 (w : List UInt8) (hw : w ≠ []) (hg : ∀ c ∈ w, gapU c = false) : wordsL [] w = [w] := by
  rw [wordsL_one _ _ hg, List.nil_append, if_neg hw]
theorem words_pre (xs : List Int) (w : List UInt8) : ∀ p, wordsL [] (preL xs p ++ w) = (List.range p).map (wdP xs) ++ wordsL [] w
  | 0 => by simp [preL]
  | p + 1 => by
    have e : preL xs (p + 1) ++ w = (preL xs p ++ wdP xs p) ++ 32 :: w := by
      show preL xs p ++ (wdP xs p ++ [32]) ++ w = _
      simp
    rw [e, wordsL_gap, words_pre xs (wdP xs p) p, words1 (wdP xs p) (by unfold wdP word; simp) (wdP_nogap xs p), List.range_succ, List.map_append, List.map_cons, List.map_nil]
theorem words_suf (xs : List Int) (p : Nat) (w : List UInt8) : ∀ n, wordsL [] (w ++ sufL xs p n) = wordsL [] w ++ (List.range n).map fun j => wdP xs (p + j)
  | 0 => by simp [sufL]
  | n + 1 => by
    have e : w ++ sufL xs p (n + 1) = (w ++ sufL xs p n) ++ 32 :: wdP xs (p + n) := by
      show w ++ (sufL xs p n ++ (32 :: wdP xs (p + n))) = _
      simp
    rw [e, wordsL_gap, words_suf xs p w n, words1 (wdP xs (p + n)) (by unfold wdP word; simp) (wdP_nogap xs _), List.range_succ, List.map_append, List.map_cons, List.map_nil, List.append_assoc]
/-- A line, another word in the place of word p. -/
def putW (s : ByteArray) (p : Nat) (w : List UInt8) : List UInt8 := s.data.toList.take (6 * p) ++ w ++ s.data.toList.drop (6 * p + 5)
theorem putW_words (l : List F) (p : Nat) (hp : p < l.length / 2) (w : List UInt8) (hw : w.length = 5) (hg : ∀ c ∈ w, gapU c = false) :
    ∃ A B : List (List UInt8), wordsL [] (putW (WLs l) p w) = A ++ [w] ++ B ∧ txL (WLs l) = A ++ [wdP (l.map fun a => (a.1 : Int)) p] ++ B ∧ A.length = p ∧ (∀ x ∈ A ++ B, x.length = 5) ∧ A.length + 1 + B.length = l.length / 2 := by
  obtain ⟨n, hn⟩ : ∃ n, l.length / 2 = p + 1 + n := ⟨l.length / 2 - (p + 1), by omega⟩
  obtain ⟨xs, hxs⟩ : ∃ z : List Int, (l.map fun a => (a.1 : Int)) = z := ⟨_, rfl⟩
  have hL : (WLs l).data.toList = preL xs p ++ (wdP xs p ++ sufL xs (p + 1) n) := by
    unfold WLs
    rw [hn, hxs, wl_split]
  have h5 : (wdP xs p).length = 5 := rfl
  have e1 : (WLs l).data.toList.take (6 * p) = preL xs p := by
    rw [hL, List.take_append_of_le_length (by rw [preL_len]; omega), List.take_of_length_le (by rw [preL_len]; omega)]
  have e2 : (WLs l).data.toList.drop (6 * p + 5) = sufL xs (p + 1) n := by
    have h6 : (preL xs p ++ wdP xs p).length = 6 * p + 5 := by rw [List.length_append, preL_len, h5]
    rw [hL, ← List.append_assoc, ← h6, List.drop_left]
  refine ⟨(List.range p).map (wdP xs), (List.range n).map (fun j => wdP xs (p + 1 + j)), ?_, ?_, by simp, ?_, by simp; omega⟩
  · unfold putW
    rw [e1, e2, List.append_assoc, words_pre, words_suf, words1 w (fun e => by rw [e] at hw; simp at hw) hg, List.append_assoc]
  · unfold txL
    rw [hL, hxs, words_pre, words_suf, words1 (wdP xs p) (by unfold wdP word; simp) (wdP_nogap xs p), List.append_assoc]
  · intro x hx
    rcases List.mem_append.1 hx with hx | hx
    · obtain ⟨j, _, rfl⟩ := List.mem_map.1 hx
      rfl
    · obtain ⟨j, _, rfl⟩ := List.mem_map.1 hx
      rfl
theorem said_len : ∀ L : List (List UInt8), (saidW L).length = 2 * L.length
  | [] => rfl
  | w :: L => by
    show (twoF (wordN w) ++ saidW L).length = _
    rw [List.length_append, said_len L, List.length_cons]
    show 2 + _ = _
    omega
/-- A line with another word in one place is near the line. -/
theorem putW_good (m : List F) (hm : okF m) (hz : sumL m = [0, 0, 0, 0]) (p : Nat) (hp : p < m.length / 2) (w : List UInt8) (hw : w.length = 5) (hg : ∀ c ∈ w, gapU c = false) (s : ByteArray) (hs : s.data.toList = putW (WLs m) p w) :
    ∃ d, MGood s m d ∧ d ≤ 2 := by
  obtain ⟨A, B, h1, h2, h3, h4, h5⟩ := putW_words m p hp w hw hg
  have hsz := okF_size hm
  have htx : txL s = A ++ [w] ++ B := by unfold txL; rw [hs, h1]
  have hm2 : m = saidW A ++ twoF (wordN (wdP (m.map fun a => (a.1 : Int)) p)) ++ saidW B := by
    have z := words_tx m hsz.2.2
    unfold tx at z
    rw [h2, saidW_append, saidW_append] at z
    rw [show saidW [wdP (m.map fun a => (a.1 : Int)) p] = twoF (wordN (wdP (m.map fun a => (a.1 : Int)) p)) ++ [] from rfl, List.append_nil] at z
    exact z.symm
  have hl : tx s = saidW A ++ twoF (wordN w) ++ saidW B := by
    unfold tx
    rw [htx, saidW_append, saidW_append]
    rw [show saidW [w] = twoF (wordN w) ++ [] from rfl, List.append_nil]
  obtain ⟨l', hl'⟩ : ∃ z, tx s = z := ⟨_, rfl⟩
  rw [hl'] at hl
  have hA : (saidW A).length = 2 * p := by rw [said_len, h3]
  have hlen : l'.length = m.length := by
    have e := congrArg List.length hm2
    rw [hl]
    simp only [List.length_append] at e ⊢
    have t1 : ∀ v, (twoF v).length = 2 := fun _ => rfl
    rw [t1] at e ⊢
    omega
  have hat : ∀ q, q ≠ 2 * p → q ≠ 2 * p + 1 → m.getD q 0 = l'.getD q 0 := fun q q1 q2 => by
    obtain ⟨va, vb, hv⟩ : ∃ a b, twoF (wordN (wdP (m.map fun a => (a.1 : Int)) p)) = [a, b] := ⟨_, _, rfl⟩
    obtain ⟨ua, ub, hu⟩ : ∃ a b, twoF (wordN w) = [a, b] := ⟨_, _, rfl⟩
    rw [hv] at hm2
    rw [hu] at hl
    rw [hl]
    conv => lhs; rw [hm2]
    by_cases h : q < 2 * p
    · rw [List.append_assoc, List.append_assoc, List.getD_eq_getElem?_getD, List.getD_eq_getElem?_getD, List.getElem?_append_left (by omega), List.getElem?_append_left (by omega)]
    · rw [List.getD_eq_getElem?_getD, List.getD_eq_getElem?_getD, List.getElem?_append_right (by simp; omega), List.getElem?_append_right (by simp; omega)]
      simp
  have hnr : Nr l' m := ⟨hz, 2 * p, 2 * p + 1, hlen.symm, by omega, by omega, by omega, fun q _ a b => hat q a b⟩
  have hss : s.size ≤ 1024 := by
    have e : s.size = s.data.toList.length := by rw [Array.length_toList]; rfl
    have e2 : (WLs m).size ≤ 1024 := words_size m hsz.2.1
    have e3 : (WLs m).data.toList.length = (WLs m).size := by rw [Array.length_toList]; rfl
    have e4 := words_sz m (by omega)
    rw [e, hs]
    unfold putW
    simp only [List.length_append, List.length_take, List.length_drop, hw]
    omega
  refine ⟨dif m l' l'.length, ⟨hss, ?_, ?_, ?_, ?_, hm, ?_⟩, ?_⟩
  · rw [htx]
    intro x hx
    rcases List.mem_append.1 hx with hx | hx
    · rcases List.mem_append.1 hx with hx | hx
      · exact h4 x (List.mem_append_left _ hx)
      · simp at hx; rw [hx]; exact hw
    · exact h4 x (List.mem_append_right _ hx)
  · rw [hl', hlen]; exact hsz.1
  · rw [hl', hlen]; exact hsz.2.1
  · rw [hl']; exact hnr
  · rw [hl']
  · rw [dif_len]
    have hsub : ((List.range l'.length).filter fun q => !decide (m.getD q 0 = l'.getD q 0)).length ≤ [2 * p, 2 * p + 1].length := sub_len _ _ (List.Pairwise.filter _ (show List.Pairwise (fun a b => a ≠ b) (List.range l'.length) from List.nodup_range)) fun q hq => by
      obtain ⟨_, h⟩ := List.mem_filter.1 hq
      by_cases a : q = 2 * p
      · rw [a]; simp
      · by_cases b : q = 2 * p + 1
        · rw [b]; simp
        · exfalso
          rw [hat q a b, decide_eq_true rfl] at h
          cases h
    exact hsub
end Go.Proofs.YtjcdhfkilnbjgaaDoor
