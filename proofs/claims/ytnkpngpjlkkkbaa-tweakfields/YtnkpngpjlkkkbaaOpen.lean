import Derived.Test.YtnkpngpjlkkkbaaPval
import Derived.ProofKit
import Derived.OpenShut
import Derived.ChangeOld
import Derived.Deep.Slices
namespace Go.Proofs.Ytnkpngpjlkkkbaa
open Go.ChangeShapes Go.WideShapes Go.ChangeAt Go.RowKit
set_option linter.unusedVariables false
def pk (F : Nat → Nat) : Nat → Nat
  | 0 => 0
  | n + 1 => pk F n + F n * 256 ^ n
theorem pk_lt (F : Nat → Nat) (hF : ∀ i, F i < 256) (n : Nat) : pk F n < 256 ^ n := by
  induction n with
  | zero => simp [pk]
  | succ n ih =>
    have h := hF n
    rw [pk, Nat.pow_succ]
    have : F n * 256 ^ n ≤ 255 * 256 ^ n := Nat.mul_le_mul_right _ (by omega)
    omega
theorem pk_at (F : Nat → Nat) (hF : ∀ i, F i < 256) (n i : Nat) (hi : i < n) : pk F n / 256 ^ i % 256 = F i := by
  induction n with
  | zero => omega
  | succ n ih =>
    rw [pk]
    by_cases h : i < n
    · have e : F n * 256 ^ n = (F n * 256 ^ (n - i - 1) * 256) * 256 ^ i := by
        rw [Nat.mul_assoc, Nat.mul_assoc, ← Nat.pow_succ', ← Nat.pow_add]
        congr 2
        omega
      rw [e, Nat.add_mul_div_right _ _ (Nat.pow_pos (by decide)), Nat.add_mul_mod_self_right]
      exact ih h
    · have e : i = n := by omega
      subst e
      rw [Nat.add_mul_div_right _ _ (Nat.pow_pos (by decide)), Nat.div_eq_of_lt (pk_lt F hF i), Nat.zero_add]
      exact Nat.mod_eq_of_lt (hF i)
theorem byV_pk (F : Nat → Nat) (hF : ∀ i, F i < 256) (i : Nat) (hi : i < 16) : byV (BitVec.ofNat 128 (pk F 16)) i = F i := by
  have h := pk_lt F hF 16
  unfold byV
  rw [BitVec.toNat_ofNat]
  have e : pk F 16 % 2 ^ 128 = pk F 16 := Nat.mod_eq_of_lt (Nat.lt_of_lt_of_eq h (by decide))
  rw [e]
  exact pk_at F hF 16 i hi
theorem list16 {cs : List Value} {v : BitVec 128} (h : cs.length = 16) (hf : ∀ i, i < 16 → cs[i]? = some (.int .u8 (byV v i : Nat))) : cs = BL v := by
  apply List.ext_getElem?
  intro i
  by_cases hi : i < 16
  · rw [hf i hi, BL_at v i hi]
  · rw [List.getElem?_eq_none (by omega), List.getElem?_eq_none (by rw [BL_length]; omega)]
theorem cells5 : Try.prog.cellsOf 5 = 1 := by kernel_rfl
theorem cells23 : Try.prog.cellsOf 23 = 16 := by kernel_rfl
/-- Sixteen cells that read as a block. -/
theorem open_cells {H : Type} {enc : TypeId × Value → H} {W : World} {spare : Nat → Bool} {fuel : Nat} {cs : List Value} {x : DataW H × List MemPlace} (hl : cs.length = 16) (h : DataW.trod enc Try.prog W 0 spare true fuel 23 cs = some x) : ∃ v : BitVec 128, cs = BL v := by
  obtain ⟨xs, m, _, _, _, hlen, hi⟩ := DataW.trod_array Try.underlying23 h
  have hc : ∀ i, i < 16 → ∃ z : Nat, z < 256 ∧ cs[i]? = some (.int .u8 (z : Nat)) := fun i h16 => by
    have hx : xs[i]? = some xs[i] := List.getElem?_eq_getElem (by omega)
    have h1 := hi i h16
    rw [hx, cells5, Nat.mul_one] at h1
    obtain ⟨n, hn, _, hw⟩ := DataW.trod_int Try.underlying5 h1
    have h2 : IntKind.u8.min = 0 := rfl
    have h3 : IntKind.u8.max = 255 := rfl
    simp only [Lit.wf, Bool.and_eq_true, decide_eq_true_eq] at hw
    refine ⟨n.toNat, by omega, ?_⟩
    have h6 : cs[i]? = some (.int .u8 n) := by
      have := congrArg (fun l => l[0]?) hn
      simpa using this
    rw [h6]
    congr 2
    omega
  obtain ⟨F, hF1, hF2⟩ : ∃ F : Nat → Nat, (∀ i, F i < 256) ∧ ∀ i, i < 16 → cs[i]? = some (.int .u8 (F i : Nat)) := by
    refine ⟨fun i => if h : i < 16 then (hc i h).choose else 0, fun i => ?_, fun i h => ?_⟩
    · by_cases h : i < 16
      · simp only [dif_pos h]; exact (hc i h).choose_spec.1
      · simp only [dif_neg h]; decide
    · simp only [dif_pos h]
      exact (hc i h).choose_spec.2
  exact ⟨BitVec.ofNat 128 (pk F 16), list16 hl fun i hi => by rw [byV_pk F hF1 i hi]; exact hF2 i hi⟩
/-- A block that came in. -/
theorem open_block {H : Type} {enc : TypeId × Value → H} {W : World} {r : Reach} {b0 : Nat} {v : Value} {d : DataW H} {p : List MemPlace} (hv : Value.okWide Try.prog W r b0 23 v) (h : DataW.Trod enc Try.prog W 0 (fun _ => true) true 23 v d p) :
    ∃ x : BitVec 128, v = BV x := by
  simp only [Value.okWide, Try.underlying23] at hv
  obtain ⟨cs, rfl, hsz, _⟩ := hv
  rw [cells23] at hsz
  obtain ⟨fuel, hf⟩ := h
  have h4 : (Value.agg cs).cells.toList = cs.toList := by simp [Value.cells]
  rw [h4] at hf
  obtain ⟨x, hx⟩ := open_cells (by simpa using hsz) hf
  refine ⟨x, ?_⟩
  show Value.agg cs = Value.agg (BL x).toArray
  rw [← hx]
/-- Blocks that came in. -/
theorem open_blocks {H : Type} {enc : TypeId × Value → H} {W : World} {r : Reach} {b0 : Nat} {v : Value} {d : DataW H} {p : List MemPlace} (hv : Value.okWide Try.prog W r b0 24 v) (h : DataW.Trod enc Try.prog W 0 (fun _ => true) true 24 v d p) :
    ∃ ao n cap f, v = .slice ao n cap ∧ n ≤ cap ∧ cap ≤ 9223372036854775807 ∧ Blks W ao n f := by
  obtain ⟨ao0, n0, c0, rfl⟩ := okWide_slice size24 hv
  obtain ⟨fuel, hf⟩ := h
  rcases Deep.open_slice size24 hf with ⟨hcs, _⟩ | ⟨a, len, cap, m, n, D, Pl, hcs, hb, hl, hm, hmm, _, hx⟩
  · simp [Value.cells] at hcs
    obtain ⟨rfl, rfl, rfl⟩ := hcs
    exact ⟨none, 0, 0, fun _ => 0#128, rfl, Nat.le_refl _, by decide, Or.inl rfl⟩
  · simp [Value.cells] at hcs
    obtain ⟨rfl, rfl, rfl⟩ := hcs
    rw [if_pos rfl] at hmm
    subst hmm
    rw [cells23] at hx
    by_cases h0 : n0 = 0
    · exact ⟨some a, n0, m, fun _ => 0#128, rfl, hl, by simpa [maxLen] using hm, Or.inl h0⟩
    · have hc : ∀ i, i < m → ∃ y : BitVec 128, W.cells? 0 (a.add (i * 16)) 16 = some (BL y) := fun i hi => by
        obtain ⟨cs', h1, h2⟩ := hx i hi
        obtain ⟨_, hlen, _⟩ := World.cells?_some h1
        obtain ⟨y, hy⟩ := open_cells hlen h2
        exact ⟨y, by rw [h1, hy]⟩
      obtain ⟨f, hf'⟩ := Deep.choose_lt (α := BitVec 128) hc
      obtain ⟨b, off, spot⟩ := a
      have hlt := World.cells?_block (hf' 0 (by omega)) (by decide)
      have hs : spot = none := by
        obtain ⟨_, _, hcell⟩ := World.cells?_some (hf' 0 (by omega))
        have := hcell 0 (by decide)
        rw [BL_at _ 0 (by decide)] at this
        simpa [Addr.add] using World.cell?_spot this
      subst hs
      refine ⟨_, n0, m, f, rfl, hl, by simpa [maxLen] using hm, Or.inr ⟨b, off, rfl, ?_, fun i hi j u hu => ?_⟩⟩
      · simpa [Addr.add_lit] using hlt
      · have hj : j < 16 := by
          rcases Nat.lt_or_ge j 16 with hj | hj
          · exact hj
          · rw [List.getElem?_eq_none (by rw [BL_length]; exact hj)] at hu; cases hu
        obtain ⟨_, _, hcell⟩ := World.cells?_some (hf' i (by omega))
        have := hcell j hj
        rw [Addr.add_lit, Addr.add_lit, hu] at this
        exact this
end Go.Proofs.Ytnkpngpjlkkkbaa
