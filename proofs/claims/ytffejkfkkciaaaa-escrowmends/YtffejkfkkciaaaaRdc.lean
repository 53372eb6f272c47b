import Derived.Test.YtffejkfkkciaaaaRdb
import Derived.WalkMore
namespace Go.Proofs.Ytffejkfkkciaaaa
open Go.RowKit
set_option linter.unusedVariables false
set_option linter.unusedSimpArgs false
theorem idx_at (c : Nat) : ∀ (L : List Nat) (i : Nat), i < L.length → L.getD i 0 = c → (∀ j, j < i → L.getD j 0 ≠ c) → idxN L c = i
  | [], i, h, _, _ => by simp at h
  | a :: L, 0, _, h, _ => by
    simp only [List.getD_cons_zero] at h
    simp [idxN, List.idxOf_cons, h]
  | a :: L, i + 1, hi, h, hn => by
    have h0 : a ≠ c := hn 0 (by omega)
    have ih := idx_at c L i (by simpa using hi) (by simpa using h) (fun j hj => by have := hn (j + 1) (by omega); simpa using this)
    unfold idxN at *
    rw [List.idxOf_cons, ih, show (a == c) = false from beq_eq_false_iff_ne.2 h0]
    rfl
theorem idx_none (c : Nat) : ∀ (L : List Nat), (∀ j, j < L.length → L.getD j 0 ≠ c) → idxN L c = L.length
  | [], _ => rfl
  | a :: L, hn => by
    have h0 : a ≠ c := hn 0 (by simp)
    have ih := idx_none c L (fun j hj => by have := hn (j + 1) (by simpa using hj); simpa using this)
    unfold idxN at *
    rw [List.idxOf_cons, ih, show (a == c) = false from beq_eq_false_iff_ne.2 h0]
    rfl
def numsB (s : ByteArray) : List Nat := s.data.toList.map UInt8.toNat
theorem numsB_at (s : ByteArray) (k : Nat) (h : k < s.size) : (numsB s).getD k 0 = (s.data.toList.getD k 0).toNat := by
  unfold numsB
  have h' : k < s.data.toList.length := by rw [← Lib.size_eq]; exact h
  simp [List.getD_eq_getElem?_getD, List.getElem?_map, List.getElem?_eq_getElem h']
theorem numsB_len (s : ByteArray) : (numsB s).length = s.size := by unfold numsB; rw [List.length_map, ← Lib.size_eq]
theorem numsB_con : numsB conB = conL := by decide
theorem numsB_vow : numsB vowB = vowL := by decide
set_option maxHeartbeats 800000 in
theorem place_any (s : ByteArray) (hs : s.size ≤ 16) (c : Nat) (w : World) : Calls Try.prog 18 #[.string s, .int .u8 (c : Nat)] w fun e w' => e = .returned (.int .i64 (plc (numsB s) c)) ∧ w' = w := by
  obtain ⟨n, HN⟩ : ∃ n, Hid (s.size = n) := ⟨_, rfl⟩
  have HIX : Hid (∀ (k : Nat) u, k < n → (Instr.index 9 (.string s) (.int .i64 (k : Nat))).run Try.prog u = .ok (.int .u8 ((numsB s).getD k 0 : Nat)) u) := fun k u hk => by rw [numsB_at s k (by rw [HN.out]; exact hk)]; exact index_str s k (by rw [HN.out]; exact hk) u
  have hl : (s.size : Int) = (n : Int) := by have := HN.out; omega
  have HNN : Hid ((numsB s).length = n ∧ n ≤ 16) := ⟨by rw [numsB_len]; exact HN.out, by rw [← HN.out]; exact hs⟩
  clear hs HN
  go_enter Try.func18, Try.ntmps18
  go_wp2
  go_loopw [5] (fun vi wr => ∃ i : Nat, i ≤ n ∧ vi = .int .i64 (i : Nat) ∧ Hid ((∀ j, j < i → (numsB s).getD j 0 ≠ c) ∧ wr = w)) (fun vi _ => n - (intOf vi).toNat)
  case atStart => exact ⟨0, by omega, rfl, fun j h => absurd h (by omega), rfl⟩
  case round =>
    obtain ⟨i, hi, rfl, HI⟩ := hrel
    obtain rfl := HI.out.2.symm
    by_cases hlt : i < n
    · have HK : Hid (i < n) := hlt
      have g1 : (i : Int) < (n : Int) := by omega
      have hix := fun u => HIX.out i u hlt
      obtain ⟨z, HZ⟩ : ∃ z, Hid ((numsB s).getD i 0 = z) := ⟨_, rfl⟩
      rw [HZ.out] at hix
      have wn : IntKind.i64.wrap ((i : Int) + 1) = ((i + 1 : Nat) : Int) := by have := HNN.out; rw [IntKind.wrap_i64]; omega
      by_cases e : z = c
      · have HP : Hid (plc (numsB s) c = (i : Int)) := by
          show _ = _
          unfold plc
          rw [idx_at c (numsB s) i (by rw [HNN.out.1]; exact hlt) (by rw [HZ.out]; exact e) HI.out.1, if_pos (by rw [HNN.out.1]; exact hlt)]
        have e1 : ((z : Int) == (c : Int)) = true := by simp [e]
        clear e hlt hi
        go_wp2
        go_ret
        exact ⟨by rw [HP.out]; rfl, rfl⟩
      · have HNX : Hid (∀ j, j < i + 1 → (numsB s).getD j 0 ≠ c) := fun j hj => by
          by_cases q : j = i
          · rw [q, HZ.out]; exact e
          · exact HI.out.1 j (by omega)
        have e1 : ((z : Int) == (c : Int)) = false := by simp; omega
        clear e hlt hi
        go_wp2
        have e0 := HK.out
        refine ⟨⟨i + 1, by omega, by first | rfl | (simp; done), HNX.out, by trivial⟩, ?_⟩
        simp [intOf]
        omega
    · obtain rfl : n = i := by omega
      have g2 : ¬ (n : Int) < (n : Int) := Int.lt_irrefl _
      have HP : Hid (plc (numsB s) c = -1) := by
        show _ = _
        unfold plc
        rw [idx_none c (numsB s) (by rw [HNN.out.1]; exact HI.out.1), if_neg (Nat.lt_irrefl _)]
      clear hlt hi
      go_wp2
      go_ret
      exact ⟨by rw [HP.out]; rfl, rfl⟩
theorem rplace_con (c : Nat) (w : World) : Calls Try.prog 18 #[.string conB, .int .u8 (c : Nat)] w fun e w' => e = .returned (.int .i64 (plc conL c)) ∧ w' = w := by
  have q := place_any conB (by decide) c w
  rw [numsB_con] at q
  exact q
theorem rplace_vow (c : Nat) (w : World) : Calls Try.prog 18 #[.string vowB, .int .u8 (c : Nat)] w fun e w' => e = .returned (.int .i64 (plc vowL c)) ∧ w' = w := by
  have q := place_any vowB (by decide) c w
  rw [numsB_vow] at q
  exact q
theorem rgap_ok (x : Nat) (w : World) : Calls Try.prog 17 #[.int .u8 (x : Nat)] w fun e w' => e = .returned (.bool (gapN x)) ∧ w' = w := by
  by_cases h32 : x = 32
  · subst h32
    go_enter Try.func17, Try.ntmps17
    go_wp2
    go_ret
    exact ⟨rfl, rfl⟩
  by_cases h9 : x = 9
  · subst h9
    go_enter Try.func17, Try.ntmps17
    go_wp2
    go_ret
    exact ⟨rfl, rfl⟩
  by_cases h10 : x = 10
  · subst h10
    go_enter Try.func17, Try.ntmps17
    go_wp2
    go_ret
    exact ⟨rfl, rfl⟩
  by_cases h13 : x = 13
  · subst h13
    go_enter Try.func17, Try.ntmps17
    go_wp2
    go_ret
    exact ⟨rfl, rfl⟩
  by_cases h45 : x = 45
  · subst h45
    go_enter Try.func17, Try.ntmps17
    go_wp2
    go_ret
    exact ⟨rfl, rfl⟩
  have q : ∀ k : Nat, ((x : Int) == (k : Int)) = (x == k) := fun k => by rw [Bool.eq_iff_iff]; simp only [beq_iff_eq]; omega
  have HE : Hid (((x : Int) == 32 || (x : Int) == 9 || (x : Int) == 10 || (x : Int) == 13 || (x : Int) == 45) = gapN x) := by
    show _ = _
    unfold gapN
    rw [← q 32, ← q 9, ← q 10, ← q 13, ← q 45]
    rfl
  have g1 : ¬ (x : Int) = 32 := by omega
  have g2 : ¬ (x : Int) = 9 := by omega
  have g3 : ¬ (x : Int) = 10 := by omega
  have g4 : ¬ (x : Int) = 13 := by omega
  have g5 : ¬ (x : Int) = 45 := by omega
  clear q h32 h9 h10 h13 h45
  go_enter Try.func17, Try.ntmps17
  go_wp2
  go_ret
  refine ⟨?_, rfl⟩
  rw [← HE.out]
  rfl
def ReadR (s : ByteArray) (e : Ending) (w w' : World) : Prop :=
  (¬ all5 (txL s) ∧ e = .returned (.tuple #[.slice none 0 0, .bool false]) ∨ all5 (txL s) ∧ ∃ v, e = .returned (.tuple #[v, .bool true]) ∧ w'.ownsRow w.heap.size 5 1 v (saidW (txL s)).length (fc (saidW (txL s)))) ∧ Below w.heap.size w w'
/-- How far the document has come with a word. -/
def WV (w : List UInt8) (k : Nat) (v : Int) (b : Bool) : Prop := (b = true ∧ (∃ u : Nat, wnum w k = some u ∧ v = (u : Nat)) ∨ b = false ∧ wnum w k = none) ∧ -((20 : Nat) ^ k : Nat) < v ∧ v < ((20 : Nat) ^ k : Nat)
theorem pow_le4 (k : Nat) (h : k ≤ 4) : 20 ^ k ≤ 160000 := by
  have := Nat.pow_le_pow_right (show 0 < 20 by decide) h
  simpa using this
theorem piece_at (l : List UInt8) (i e k : Nat) (h : i + k < e) : (Lib.pieceU l i e).getD k 0 = l.getD (i + k) 0 := by
  unfold Lib.pieceU
  simp only [List.getD_eq_getElem?_getD, List.getElem?_take, List.getElem?_drop, if_pos (show k < e - i by omega)]
theorem piece_len (l : List UInt8) (i e : Nat) (h : e ≤ l.length) : (Lib.pieceU l i e).length = e - i := by
  unfold Lib.pieceU
  rw [List.length_take, List.length_drop]
  omega
theorem plc_lt (L : List Nat) (c : Nat) : -1 ≤ plc L c ∧ plc L c < max 1 L.length := by
  unfold plc
  split <;> omega
theorem WV.next {w : List UInt8} {k : Nat} {v : Int} {b : Bool} (h : WV w k v b) (hk : k < 5) (m : Nat) (hm : (letL k).length = m) (p : Int) (hp : plc (letL k) (smallN (w.getD k 0).toNat) = p) : WV w (k + 1) (v * m + p) (b && decide (0 ≤ p)) := by
  obtain ⟨h1, h2, h3⟩ := h
  have hmm : m ≤ 16 ∧ 1 ≤ m := by rw [← hm, letL_len]; split <;> omega
  have hpl := plc_lt (letL k) (smallN (w.getD k 0).toNat)
  rw [hp, hm] at hpl
  have hpow : 20 ^ (k + 1) = 20 * 20 ^ k := by rw [Nat.pow_succ, Nat.mul_comm]
  obtain ⟨B, hB⟩ : ∃ B, 20 ^ k = B := ⟨_, rfl⟩
  have hB1 : 1 ≤ B := by rw [← hB]; exact Nat.pow_pos (by decide)
  refine ⟨?_, ?_, ?_⟩
  · by_cases hq : idxN (letL k) (smallN (w.getD k 0).toNat) < (letL k).length
    · have hpe : p = (idxN (letL k) (smallN (w.getD k 0).toNat) : Nat) := by rw [← hp]; unfold plc; rw [if_pos hq]
      rcases h1 with ⟨rfl, u, hu, rfl⟩ | ⟨rfl, hu⟩
      · refine Or.inl ⟨by rw [hpe]; simp, u * m + idxN (letL k) (smallN (w.getD k 0).toNat), ?_, by rw [hpe]; push_cast; rfl⟩
        rw [wnum_step w k u hu, if_pos hq, hm]
      · exact Or.inr ⟨by simp, wnum_none w 1 k hu⟩
    · have hpe : p = -1 := by rw [← hp]; unfold plc; rw [if_neg hq]
      refine Or.inr ⟨by rw [hpe]; simp, ?_⟩
      rcases h1 with ⟨rfl, u, hu, rfl⟩ | ⟨rfl, hu⟩
      · rw [wnum_step w k u hu, if_neg hq]
      · exact wnum_none w 1 k hu
  · rw [hpow, hB]
    rw [hB] at h2 h3
    have : -((B : Int) - 1) * m ≤ v * m := Int.mul_le_mul_of_nonneg_right (by omega) (by omega)
    have h16 : ((B : Int) - 1) * m ≤ ((B : Int) - 1) * 16 := Int.mul_le_mul_of_nonneg_left (by omega) (by omega)
    rw [Int.neg_mul] at this
    omega
  · rw [hpow, hB]
    rw [hB] at h2 h3
    have : v * m ≤ ((B : Int) - 1) * m := Int.mul_le_mul_of_nonneg_right (by omega) (by omega)
    have h16 : ((B : Int) - 1) * m ≤ ((B : Int) - 1) * 16 := Int.mul_le_mul_of_nonneg_left (by omega) (by omega)
    omega
end Go.Proofs.Ytffejkfkkciaaaa
