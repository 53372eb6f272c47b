import Derived.Test.YtgmfiljjogdccaaDoorCiph
namespace Go.Proofs.YtgmfiljjogdccaaDoor
/-- Steps r down to 1, of whatever kind. -/
def iterF (f : Nat → W4 → W4) : Nat → W4 → W4
  | 0, s => s
  | r + 1, s => iterF f r (f (r + 1) s)
theorem iterF_succ (f : Nat → W4 → W4) (r : Nat) (s : W4) : iterF f (r + 1) s = iterF f r (f (r + 1) s) := rfl
theorem iterF_zero (f : Nat → W4 → W4) (s : W4) : iterF f 0 s = s := rfl
def stepD (K : Nat → Nat) (r : Nat) (s : W4) : W4 := unmS (addK K r (undoS s))
def itD (K : Nat → Nat) : Nat → W4 → W4 := iterF (stepD K)
theorem itD_succ (K : Nat → Nat) (r : Nat) (s : W4) : itD K (r + 1) s = itD K r (stepD K (r + 1) s) := iterF_succ (stepD K) r s
theorem itD_zero (K : Nat → Nat) (s : W4) : itD K 0 s = s := iterF_zero (stepD K) s
/-- Decryption, as it is walked. -/
def dcW (nr : Nat) (K : Nat → Nat) (s : W4) : W4 := addK K 0 (undoS (itD K (nr - 1) (addK K nr s)))
theorem dcW_ok {K : Nat → Nat} (hK : ∀ i, K i < 4294967296) (nr : Nat) (s : W4) : (dcW nr K s).ok := addK_ok hK _ (undoS_ok _)
theorem iterE_succ (K : Nat → Nat) (r : Nat) (s : W4) : iterE K (r + 1) s = addK K (r + 1) (mixS (iterE K r s)) := rfl
theorem iterE_zero (K : Nat → Nat) (s : W4) : iterE K 0 s = s := rfl
end Go.Proofs.YtgmfiljjogdccaaDoor
