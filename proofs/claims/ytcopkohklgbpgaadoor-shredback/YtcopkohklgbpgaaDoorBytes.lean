import Derived.Test.YtcopkohklgbpgaaDoorSame
import Derived.Laws.BitsAllLaws
namespace Go.Proofs.YtcopkohklgbpgaaDoor
/-- Numbers that are bytes. -/
def AllBytes (zs : List Int) : Prop := ∀ i, 0 ≤ zs.getD i 0 ∧ zs.getD i 0 < 256
end Go.Proofs.YtcopkohklgbpgaaDoor
