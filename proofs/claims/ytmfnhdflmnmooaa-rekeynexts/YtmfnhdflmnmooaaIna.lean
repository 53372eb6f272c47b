import Derived.Test.YtmfnhdflmnmooaaSha
import Derived.OwnWalk
import Derived.Deep.AppendLies
import Derived.Deep.DeepMust
import Derived.Laws.OwnMore
import Derived.RangeFuncBox
namespace Go.Proofs.Ytmfnhdflmnmooaa
open Go.RowKit
set_option linter.unusedVariables false
set_option linter.unusedSimpArgs false
theorem info51 : (Try.prog.info? 65).map (fun i => (i.zero, i.size, i.bytes)) = some (some (.agg #[.int .u64 0, .int .u64 0, .int .u64 0]), 3, 24) := by kernel_rfl
/-- A segment: Start, Count, Epoch. -/
abbrev Sg := Nat × Nat × Nat
abbrev sgL (x : Sg) : List Value := [.int .u64 (x.1 : Nat), .int .u64 (x.2.1 : Nat), .int .u64 (x.2.2 : Nat)]
def sgs (xs : List Sg) : List Value := xs.flatMap sgL
theorem sgs_append (a b : List Sg) : sgs (a ++ b) = sgs a ++ sgs b := by simp [sgs]
theorem sgs_len (xs : List Sg) : (sgs xs).length = xs.length * 3 := by
  induction xs with
  | nil => rfl
  | cons x xs ih => simp [sgs] at ih ⊢; omega
/-- Segments in a row: those of no sector are left out. -/
def inRowF : List (Nat × Nat) → Nat → List Sg
  | [], _ => []
  | (c, e) :: r, s => (if 0 < c then [(s, c, e)] else []) ++ inRowF r (s + c)
def total (l : List (Nat × Nat)) : Nat := (l.map Prod.fst).sum
theorem inRowF_append (a b : List (Nat × Nat)) (s : Nat) : inRowF (a ++ b) s = inRowF a s ++ inRowF b (s + total a) := by
  induction a generalizing s with
  | nil => simp [inRowF, total]
  | cons x a ih =>
    obtain ⟨c, e⟩ := x
    simp only [List.cons_append, inRowF, ih, List.append_assoc, total, List.map_cons, List.sum_cons]
    congr 3
    omega
theorem inRowF_len (a : List (Nat × Nat)) (s : Nat) : (inRowF a s).length ≤ a.length := by
  induction a generalizing s with
  | nil => simp [inRowF]
  | cons x a ih =>
    obtain ⟨c, e⟩ := x
    have := ih (s + c)
    simp only [inRowF, List.length_append, List.length_cons]
    split <;> simp <;> omega
/-- Parts that lie in a block: their Start is 0. -/
def PAt (w : World) (g : Nat) (L : List (Nat × Nat)) : Prop := ∀ i (h : i < L.length), w.cell? ⟨g, i * 3, none⟩ = some (.int .u64 0) ∧ w.cell? ⟨g, i * 3 + 1, none⟩ = some (.int .u64 ((L[i]).1 : Nat)) ∧ w.cell? ⟨g, i * 3 + 2, none⟩ = some (.int .u64 ((L[i]).2 : Nat))
theorem PAt.below {w w' : World} {g : Nat} {L : List (Nat × Nat)} (h : PAt w g L) (hg : g < w.heap.size) (hb : Below w.heap.size w w') : PAt w' g L := fun i hi => by
  obtain ⟨a, b, c⟩ := h i hi
  exact ⟨(hb.cell (p := ⟨g, i * 3, none⟩) hg).trans a, (hb.cell (p := ⟨g, i * 3 + 1, none⟩) hg).trans b, (hb.cell (p := ⟨g, i * 3 + 2, none⟩) hg).trans c⟩
theorem three_new (w : World) (a b c : Value) (t : TypeId) : ∀ j u, [a, b, c][j]? = some u → (w.alloc (.cells #[a, b, c] t)).cell? ((⟨w.heap.size, 0, none⟩ : Addr).add j) = some u := by
  intro j u hj
  have hh := World.alloc_heap_new w (.cells #[a, b, c] t)
  match j, hj with
  | 0, hj => simp at hj; subst hj; rw [Addr.add_lit]; simp only [World.cell?]; rw [hh]; rfl
  | 1, hj => simp at hj; subst hj; rw [Addr.add_lit]; simp only [World.cell?]; rw [hh]; rfl
  | 2, hj => simp at hj; subst hj; rw [Addr.add_lit]; simp only [World.cell?]; rw [hh]; rfl
end Go.Proofs.Ytmfnhdflmnmooaa
