import Derived.Test.YtgmfiljjogdccaaDoorSame
import Derived.Laws.BitsAllLaws
namespace Go.Proofs.YtgmfiljjogdccaaDoor
/-- Numbers that are bytes. -/
def AllBytes (zs : List Int) : Prop := ∀ i, 0 ≤ zs.getD i 0 ∧ zs.getD i 0 < 256
end Go.Proofs.YtgmfiljjogdccaaDoor
