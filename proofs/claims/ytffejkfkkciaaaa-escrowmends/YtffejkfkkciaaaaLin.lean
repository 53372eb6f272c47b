import Derived.Test.YtffejkfkkciaaaaByt
namespace Go.Proofs.Ytffejkfkkciaaaa
open Go.RowKit
set_option linter.unusedVariables false
set_option linter.unusedSimpArgs false
theorem rwordsF_ok (g o n c : Nat) (l : List F) (w : World) (hl : l.length = n) (hn : n ≤ 3000) (hnc : n ≤ c) (hcm : c ≤ 9223372036854775807) (h : Rw w g o l) : Calls Try.prog 12 #[.slice (some ⟨g, o, none⟩) n c] w fun e w' => e = .returned (.string (WLs l)) ∧ Below w.heap.size w w' := by
  have q := rwords_core g o n c (l.map fun a => (a.1 : Int)) w hn (fun i => by rw [mapI_at]; have := (l.getD i 0).2; omega) hnc hcm (fun i hi => by rw [mapI_at]; exact h i (by omega))
  unfold WLs
  rw [hl]
  exact q
end Go.Proofs.Ytffejkfkkciaaaa
