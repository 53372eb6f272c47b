import Derived.Test.YtjcdhfkilnbjgaaDoorPart12
namespace Go.Proofs.YtjcdhfkilnbjgaaDoor
open Go.RowKit
set_option linter.unusedVariables false
set_option linter.unusedSimpArgs false
set_option maxRecDepth 100000
theorem wl_len (xs : List Int) : ∀ k, (wl xs (k + 1)).length = 6 * k + 5
  | 0 => by simp [wl, word]
  | k + 1 => by
    have e : wl xs (k + 1 + 1) = wl xs (k + 1) ++ ((if k + 1 = 0 then [] else [32]) ++ word (xs.getD (2 * (k + 1)) 0 * 256 + xs.getD (2 * (k + 1) + 1) 0)) := rfl
    rw [e, List.length_append, wl_len xs k, if_neg (by omega)]
    simp [word]
    omega
theorem word_len (v : Int) : (word v).length = 5 := rfl
theorem wl_at (xs : List Int) : ∀ k p j, p < k → j < 5 → (wl xs k)[6 * p + j]? = (word (xs.getD (2 * p) 0 * 256 + xs.getD (2 * p + 1) 0))[j]?
  | 0, p, j, hp, _ => absurd hp (Nat.not_lt_zero p)
  | k + 1, p, j, hp, hj => by
    have e : wl xs (k + 1) = wl xs k ++ ((if k = 0 then [] else [32]) ++ word (xs.getD (2 * k) 0 * 256 + xs.getD (2 * k + 1) 0)) := rfl
    rw [e]
    by_cases h : p < k
    · obtain ⟨q, rfl⟩ : ∃ q, k = q + 1 := ⟨k - 1, by omega⟩
      rw [List.getElem?_append_left (by rw [wl_len]; omega)]
      exact wl_at xs (q + 1) p j h hj
    · have hpk : p = k := by omega
      subst hpk
      by_cases h0 : p = 0
      · subst h0
        have e3 : wl xs 0 ++ ((if (0 : Nat) = 0 then [] else [32]) ++ word (xs.getD (2 * 0) 0 * 256 + xs.getD (2 * 0 + 1) 0)) = word (xs.getD (2 * 0) 0 * 256 + xs.getD (2 * 0 + 1) 0) := rfl
        rw [e3, show 6 * 0 + j = j by omega]
      · obtain ⟨q, rfl⟩ : ∃ q, p = q + 1 := ⟨p - 1, by omega⟩
        rw [if_neg h0, List.getElem?_append_right (by rw [wl_len]; omega), wl_len, show 6 * (q + 1) + j - (6 * q + 5) = j + 1 by omega]
        rfl
theorem wl_gap (xs : List Int) : ∀ k p, p + 1 < k → (wl xs k)[6 * p + 5]? = some 32
  | 0, p, hp => absurd hp (Nat.not_lt_zero _)
  | k + 1, p, hp => by
    have e : wl xs (k + 1) = wl xs k ++ ((if k = 0 then [] else [32]) ++ word (xs.getD (2 * k) 0 * 256 + xs.getD (2 * k + 1) 0)) := rfl
    rw [e]
    by_cases h : p + 1 < k
    · obtain ⟨q, rfl⟩ : ∃ q, k = q + 1 := ⟨k - 1, by omega⟩
      rw [List.getElem?_append_left (by rw [wl_len]; omega)]
      exact wl_gap xs (q + 1) p h
    · obtain rfl : k = p + 1 := by omega
      rw [if_neg (by omega), List.getElem?_append_right (by rw [wl_len]; omega), wl_len, Nat.sub_self]
      rfl
/-- The number of a pair of bytes. -/
def vP (l : List F) (p : Nat) : Nat := (l.getD (2 * p) 0).1 * 256 + (l.getD (2 * p + 1) 0).1
theorem vP_lt (l : List F) (p : Nat) : vP l p < 65536 := by
  have := (l.getD (2 * p) 0).2
  have := (l.getD (2 * p + 1) 0).2
  unfold vP
  omega
def dgW (v : Nat) : Nat → Nat
  | 0 => v / 4096
  | 1 => v / 1024 % 4
  | 2 => v / 64 % 16
  | 3 => v / 16 % 4
  | _ => v % 16
def preW (v : Nat) : Nat → Nat
  | 0 => 0
  | 1 => v / 4096
  | 2 => v / 1024
  | 3 => v / 64
  | 4 => v / 16
  | _ => v
theorem dgW_lt (v k : Nat) (hv : v < 65536) (hk : k < 5) : dgW v k < if k % 2 = 1 then 4 else 16 := by
  match k, hk with
  | 0, _ => show v / 4096 < 16; omega
  | 1, _ => show v / 1024 % 4 < 4; omega
  | 2, _ => show v / 64 % 16 < 16; omega
  | 3, _ => show v / 16 % 4 < 4; omega
  | 4, _ => show v % 16 < 16; omega
theorem preW_step (v k : Nat) (hk : k < 5) : preW v (k + 1) = preW v k * (if k % 2 = 1 then 4 else 16) + dgW v k := by
  match k, hk with
  | 0, _ => show v / 4096 = 0 * 16 + v / 4096; omega
  | 1, _ => show v / 1024 = v / 4096 * 4 + v / 1024 % 4; omega
  | 2, _ => show v / 64 = v / 1024 * 16 + v / 64 % 16; omega
  | 3, _ => show v / 16 = v / 64 * 4 + v / 16 % 4; omega
  | 4, _ => show v = v / 16 * 16 + v % 16; omega
theorem preW_le (v k : Nat) : preW v k ≤ v := by
  unfold preW
  split <;> omega
/-- The letter number k of a number's word. -/
def ltW (v k : Nat) : UInt8 := if k % 2 = 1 then vowU (dgW v k) else conU (dgW v k)
theorem word_lt (v k : Nat) (hk : k < 5) : (word (v : Int))[k]? = some (ltW v k) := by
  match k, hk with
  | 0, _ => rfl
  | 1, _ =>
    show some (vowU ((v : Int) / 1024 % 4).toNat) = some (vowU (v / 1024 % 4))
    rw [show ((v : Int) / 1024 % 4).toNat = v / 1024 % 4 by omega]
  | 2, _ =>
    show some (conU ((v : Int) / 64 % 16).toNat) = some (conU (v / 64 % 16))
    rw [show ((v : Int) / 64 % 16).toNat = v / 64 % 16 by omega]
  | 3, _ =>
    show some (vowU ((v : Int) / 16 % 4).toNat) = some (vowU (v / 16 % 4))
    rw [show ((v : Int) / 16 % 4).toNat = v / 16 % 4 by omega]
  | 4, _ =>
    show some (conU ((v : Int) % 16).toNat) = some (conU (v % 16))
    rw [show ((v : Int) % 16).toNat = v % 16 by omega]
theorem words_sz (l : List F) (h : 2 ≤ l.length) : (WLs l).size + 1 = 6 * (l.length / 2) := by
  obtain ⟨k, hk⟩ : ∃ k, l.length / 2 = k + 1 := ⟨l.length / 2 - 1, by omega⟩
  unfold WLs
  rw [hk]
  show (wl _ (k + 1)).toArray.size + 1 = _
  rw [List.size_toArray, wl_len]
  omega
theorem words_get (l : List F) (i : Nat) (h : i < (WLs l).size) : (wl (l.map fun a => (a.1 : Int)) (l.length / 2))[i]? = some ((WLs l)[i]'h) := by
  unfold WLs at h ⊢
  have h2 : i < (wl (l.map fun a => (a.1 : Int)) (l.length / 2)).length := by simpa [ByteArray.size] using h
  rw [List.getElem?_eq_getElem h2]
  rfl
theorem words_lt (l : List F) (p k : Nat) (hp : p < l.length / 2) (hk : k < 5) (h : 6 * p + k < (WLs l).size) : (WLs l)[6 * p + k]'h = ltW (vP l p) k := by
  have e := words_get l _ h
  rw [wl_at _ _ p k hp hk, mapI_at, mapI_at] at e
  have e2 : ((l.getD (2 * p) 0).1 : Int) * 256 + ((l.getD (2 * p + 1) 0).1 : Int) = ((vP l p : Nat) : Int) := by unfold vP; omega
  rw [e2, word_lt _ k hk] at e
  exact (Option.some.inj e).symm
theorem wordsG_at (l : List F) (p : Nat) (hp : p + 1 < l.length / 2) (h : 6 * p + 5 < (WLs l).size) : (WLs l)[6 * p + 5]'h = 32 := by
  have e := words_get l _ h
  rw [wl_gap _ _ p hp] at e
  exact (Option.some.inj e).symm
theorem con_only : ∀ i j : Fin 16, ((conU i.1).toNat : Int) = ((conU j.1).toNat : Int) → i = j := by decide +kernel
theorem vow_only : ∀ i j : Fin 4, ((vowU i.1).toNat : Int) = ((vowU j.1).toNat : Int) → i = j := by decide +kernel
theorem pair_back (l : List F) (p : Nat) : fN (vP l p / 256) = l.getD (2 * p) 0 ∧ fN (vP l p) = l.getD (2 * p + 1) 0 := by
  have h1 := (l.getD (2 * p) 0).2
  have h2 := (l.getD (2 * p + 1) 0).2
  constructor
  · refine Fin.ext ?_
    show vP l p / 256 % 256 = _
    unfold vP
    omega
  · refine Fin.ext ?_
    show vP l p % 256 = _
    unfold vP
    omega
end Go.Proofs.YtjcdhfkilnbjgaaDoor
