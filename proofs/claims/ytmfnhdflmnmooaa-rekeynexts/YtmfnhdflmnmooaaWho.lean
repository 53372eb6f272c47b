import Derived.Test.YtmfnhdflmnmooaaSmd
import Derived.Deep.MidRow
namespace Go.Proofs.Ytmfnhdflmnmooaa
open Go.RowKit
set_option linter.unusedVariables false
set_option linter.unusedSimpArgs false
/-- A mark behind a list's end. -/
def Mk (w : World) (p : Option Addr) (n c sz : Nat) (v : Value) : Prop := ∃ g, p = some ⟨g, 0, none⟩ ∧ n + 1 ≤ c ∧ c ≤ 9223372036854775807 ∧ w.cell? ⟨g, n * sz, none⟩ = some v
theorem Mk.below {w w' : World} {p : Option Addr} {n c sz : Nat} {v : Value} (h : Mk w p n c sz v) (hB : Below w.heap.size w w') : Mk w' p n c sz v := by
  obtain ⟨g, hp, h1, h2, h3⟩ := h
  exact ⟨g, hp, h1, h2, cell_below hB h3⟩
/-- The first one's tokens bear marked copies of the second one's numbers. -/
def TkM (B : Nat) (w : World) (T T2 : List Tk) : Prop := ∀ (i : Nat) (x y : Tk), T[i]? = some x → T2[i]? = some y → x.n = y.n ∧ x.s = y.s ∧ x.z = y.z ∧ ∃ zs, Marked B w (.slice x.p x.l x.c) zs ∧ View w (.slice y.p y.l y.c) zs
theorem TkM.e {B : Nat} {w : World} {T T2 : List Tk} (h : TkM B w T T2) : TkE w T T2 := fun i x y hx hy => by
  obtain ⟨a, b, c, zs, h1, h2⟩ := h i x y hx hy
  exact ⟨a, b, c, zs, h1.view, h2⟩
theorem info36s : (Try.prog.info? 36).map (·.size) = some 27 := by kernel_rfl
theorem size36 (m : Mt) : (Try.prog.info? 36).map (·.size) = some (mtC m).toList.length := by rw [info36s]; rfl
end Go.Proofs.Ytmfnhdflmnmooaa
