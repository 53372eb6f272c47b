import Derived.Test.YtcopkohklgbpgaaDoorOpen
import Derived.Test.YtcopkohklgbpgaaDoorTake
import Derived.Lib.LaidTab
import Derived.Deep.DeepHandedRow
namespace Go.Proofs.YtcopkohklgbpgaaDoor
open Go.ChangeShapes Go.WideShapes Go.ChangeAt Go.RowKit
set_option linter.unusedVariables false

theorem cells3 : Tryd.prog.cellsOf 3 = 1 := by kernel_rfl
theorem cells22 : Tryd.prog.cellsOf 22 = 1 := by kernel_rfl
set_option maxRecDepth 100000 in
/-- An int's cell. -/
theorem cell_int {H : Type} {enc : TypeId × Value → H} {W : World} {n : Nat} {c : Value} {y : DataW H × List MemPlace} (h : DataW.trod enc Tryd.prog W 0 (fun _ => true) true n 3 [c] = some y) : ∃ z, c = .int .i64 z := by
  obtain ⟨z, hz, _⟩ := DataW.trod_int Tryd.underlying3 h
  exact ⟨z, by simpa using hz⟩
theorem cell_bytes {H : Type} {enc : TypeId × Value → H} {W : World} {n : Nat} {c : Value} {y : DataW H × List MemPlace} (h : DataW.trod enc Tryd.prog W 0 (fun _ => true) true n 22 [c] = some y) : ∃ a l cap xs, c = .slice a l cap ∧ View W (.slice a l cap) xs ∧ AllBytes xs ∧ xs.length = l := by
  have hc : ∃ a l cap, c = .slice a l cap := by
    rcases open_ints Tryd.underlying22 Tryd.underlying5 cells5 h with ⟨hcs, _⟩ | ⟨a, l, cap, zs, hcs, _⟩
    · exact ⟨none, 0, 0, by simpa using hcs⟩
    · exact ⟨some a, l, cap, by simpa using hcs⟩
  obtain ⟨a, l, cap, rfl⟩ := hc
  obtain ⟨xs, hl, hb, hv, _⟩ := open_bytes (enc := enc) (W := W) (a := a) (len := l) (cap := cap) (d := y.1) (p := y.2) ⟨n, by simpa [Value.cells] using h⟩
  exact ⟨a, l, cap, xs, rfl, hv, hb, hl⟩
/-- The tables, as the row lays them. -/
theorem tables_of {W : World} (h : laidMet Tryd.prog [("coffer/digest.roots", Lib.tabData .u64 rootsL), ("coffer/digest.cubes", Lib.tabData .u64 cubesL)] W) : Tables W := by
  have hr : Lib.TabIs Tryd.prog W "coffer/digest.roots" .u64 rootsL := Lib.tabIs_of_head (g := 2) (t := 90) (e := 69) (n := 16) (by kernel_rfl) (by kernel_rfl) (by kernel_rfl) (by kernel_rfl) (by kernel_rfl) (by kernel_rfl) h
  have hc : Lib.TabIs Tryd.prog W "coffer/digest.cubes" .u64 cubesL := by
    obtain ⟨ps, ⟨g1, t1, cs1, fuel1, p1, q1, _, _, _, _, hrest, _⟩, _⟩ := h
    obtain ⟨g', t', cs, fuel, p, q, hg', ht', hvar, hd, _, _⟩ := hrest
    have hg : Tryd.prog.globalNamed "coffer/digest.cubes" = some 3 := by kernel_rfl
    obtain rfl := Option.some.inj (hg.symm.trans hg')
    have hty : (Tryd.prog.globals[3]?).map (·.type) = some 93 := by kernel_rfl
    obtain rfl := Option.some.inj (hty.symm.trans ht')
    unfold Lib.TabIs
    rw [hvar, ← Lib.cells_of_tab (n := 80) (e := 69) (by kernel_rfl) (by kernel_rfl) (by kernel_rfl) (by kernel_rfl) hd]
  exact ⟨fun t ht => hc.cell (by kernel_rfl) t (by simpa [cubesL] using ht), fun t ht => hr.cell (by kernel_rfl) t (by simpa [rootsL] using ht)⟩
end Go.Proofs.YtcopkohklgbpgaaDoor
