import Derived.Test.YtgmfiljjogdccaaDoorOpen
import Derived.Test.YtgmfiljjogdccaaDoorPart06
namespace Go.Proofs.YtgmfiljjogdccaaDoor
open Go.ChangeShapes Go.WideShapes Go.ChangeAt Go.RowKit
set_option linter.unusedVariables false
theorem cells42 : Tryd.prog.cellsOf 42 = 16 := by kernel_rfl
theorem array16 {cs : Array Value} (h : cs.size = 16) (f : Nat → Nat) (hf : ∀ i, i < 16 → cs[i]? = some (.int .u8 (f i : Nat))) : cs = #[.int .u8 (f 0 : Nat), .int .u8 (f 1 : Nat), .int .u8 (f 2 : Nat), .int .u8 (f 3 : Nat), .int .u8 (f 4 : Nat), .int .u8 (f 5 : Nat), .int .u8 (f 6 : Nat), .int .u8 (f 7 : Nat), .int .u8 (f 8 : Nat), .int .u8 (f 9 : Nat), .int .u8 (f 10 : Nat), .int .u8 (f 11 : Nat), .int .u8 (f 12 : Nat), .int .u8 (f 13 : Nat), .int .u8 (f 14 : Nat), .int .u8 (f 15 : Nat)] := by
  apply Array.ext_getElem?
  intro i
  by_cases hi : i < 16
  · rw [hf i hi]
    have h16 : i = 0 ∨ i = 1 ∨ i = 2 ∨ i = 3 ∨ i = 4 ∨ i = 5 ∨ i = 6 ∨ i = 7 ∨ i = 8 ∨ i = 9 ∨ i = 10 ∨ i = 11 ∨ i = 12 ∨ i = 13 ∨ i = 14 ∨ i = 15 := by omega
    rcases h16 with rfl | rfl | rfl | rfl | rfl | rfl | rfl | rfl | rfl | rfl | rfl | rfl | rfl | rfl | rfl | rfl <;> rfl
  · rw [Array.getElem?_eq_none (by omega), Array.getElem?_eq_none (by simp; omega)]
set_option maxRecDepth 100000 in
/-- A block that came in. -/
theorem open_block {H : Type} {enc : TypeId × Value → H} {W : World} {r : Reach} {b0 : Nat} {v : Value} {d : DataW H} {p : List MemPlace} (hv : Value.okWide Tryd.prog W r b0 42 v) (h : DataW.Trod enc Tryd.prog W 0 (fun _ => true) true 42 v d p) :
    ∃ f : Nat → Nat, (∀ i, f i < 256) ∧ v = (ofF f).blk := by
  simp only [Value.okWide, Tryd.underlying42] at hv
  obtain ⟨cs, rfl, hsz, _⟩ := hv
  rw [cells42] at hsz
  obtain ⟨fuel, hf⟩ := h
  obtain ⟨xs, m, _, _, _, hlen, hi⟩ := DataW.trod_array Tryd.underlying42 hf
  have hc : ∀ i, i < 16 → ∃ z : Nat, z < 256 ∧ cs[i]? = some (.int .u8 (z : Nat)) := fun i h16 => by
    have hx : xs[i]? = some xs[i] := List.getElem?_eq_getElem (by omega)
    have h1 := hi i h16
    rw [hx, cells5, Nat.mul_one] at h1
    obtain ⟨n, hn, _, hw⟩ := DataW.trod_int Tryd.underlying5 h1
    have h2 : IntKind.u8.min = 0 := rfl
    have h3 : IntKind.u8.max = 255 := rfl
    simp only [Lit.wf, Bool.and_eq_true, decide_eq_true_eq] at hw
    refine ⟨n.toNat, by omega, ?_⟩
    have h4 : (Value.agg cs).cells.toList = cs.toList := by simp [Value.cells]
    have h5 : ((Value.agg cs).cells.toList.drop i).take 1 = [.int .u8 n] := hn
    rw [h4] at h5
    have h6 : cs.toList[i]? = some (.int .u8 n) := by
      have := congrArg (fun l => l[0]?) h5
      simpa using this
    rw [← Array.getElem?_toList, h6]
    congr 2
    omega
  obtain ⟨F, hF1, hF2⟩ : ∃ F : Nat → Nat, (∀ i, F i < 256) ∧ ∀ i, i < 16 → cs[i]? = some (.int .u8 (F i : Nat)) := by
    refine ⟨fun i => if h : i < 16 then (hc i h).choose else 0, fun i => ?_, fun i h => ?_⟩
    · by_cases h : i < 16
      · simp only [dif_pos h]; exact (hc i h).choose_spec.1
      · simp only [dif_neg h]; decide
    · simp only [dif_pos h]
      exact (hc i h).choose_spec.2
  exact ⟨F, hF1, by rw [ofF_blk hF1, array16 hsz F hF2]⟩
end Go.Proofs.YtgmfiljjogdccaaDoor
