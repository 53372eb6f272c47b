import Derived.Test.YtcopkohklgbpgaaDoorFinA64
import Derived.Test.YtcopkohklgbpgaaDoorFinA128
import Derived.Test.YtcopkohklgbpgaaDoorFinB64
import Derived.Test.YtcopkohklgbpgaaDoorFinB128
import Derived.Test.YtcopkohklgbpgaaDoorFinC128
import Derived.Test.YtcopkohklgbpgaaDoorTk
namespace Go.Proofs.YtcopkohklgbpgaaDoor
open Go.RowKit
set_option linter.unusedVariables false
set_option linter.unusedSimpArgs false

theorem padF_congr (bs fed : Nat) {half half' : Nat → Int} (h : ∀ i, i < fed % bs → half i = half' i) : padF bs half fed = padF bs half' fed := by
  funext i
  unfold padF
  by_cases hi : i < fed % bs
  · rw [if_pos hi, if_pos hi, h i hi]
  · rw [if_neg hi, if_neg hi]
def wsz (wd : Bool) : Nat := if wd then 8 else 4
/-- The words behind all that was fed, and the padding. -/
def endW (wd : Bool) (s0 : Eight) (f0 : Nat) (zs : List Int) : Eight :=
  TT wd (padF (bsz wd) (fun i => fnz zs (bsz wd * (zs.length / bsz wd) + i)) (f0 + zs.length)) (TT wd (fnz zs) s0 (zs.length / bsz wd)) (padN (bsz wd) (f0 + zs.length))
/-- taken.finish. -/
theorem finish_any (wd : Bool) (g o : Nat) (h : Int) (s : Eight) (half : Nat → Int) (fed : Nat) (w : World) (hblk : blockOf h = bsz wd) (HK : TK w g o h wd s half fed) (hfed : fed ≤ 1152921504606846976) (hT : Tables w) (hg : 4 ≤ g) :
    Calls Tryd.prog 46 #[.pointer (some ⟨g, o, none⟩)] w fun e w' => e = .returned (.agg (spellCells (wsz wd) (TT wd (padF (bsz wd) half fed) s (padN (bsz wd) fed))).toArray) ∧ Touch w w' g o 139 ∧ ∃ half', TK w' g o h wd (TT wd (padF (bsz wd) half fed) s (padN (bsz wd) fed)) half' fed := by
  cases wd
  · have hm : fed % 64 < 64 := Nat.mod_lt _ (by omega)
    by_cases hu : fed % 64 + 1 ≤ 56
    · exact finish64_A g o h s half fed (fed % 64) (fed % 64 + 1) w hblk HK hfed hT hg rfl rfl hu
    · exact finish64_B g o h s half fed (fed % 64) (fed % 64 + 1) w hblk HK hfed hT hg rfl rfl (by omega) (by omega)
  · have hm : fed % 128 < 128 := Nat.mod_lt _ (by omega)
    by_cases hu : fed % 128 + 1 ≤ 112
    · exact finish128_A g o h s half fed (fed % 128) (fed % 128 + 1) w hblk HK hfed hT hg rfl rfl hu
    · by_cases hu2 : fed % 128 = 127
      · exact finish128_C g o h s half fed w hblk HK hfed hT hg hu2
      · exact finish128_B g o h s half fed (fed % 128) (fed % 128 + 1) w hblk HK hfed hT hg rfl rfl (by omega) (by omega)
theorem finish_rep (wd : Bool) (g o : Nat) (h : Int) (s0 : Eight) (f0 : Nat) (zs : List Int) (w : World) (hblk : blockOf h = bsz wd) (hr : Rep w g o h wd s0 f0 zs) (hfed : f0 + zs.length ≤ 1152921504606846976) (hT : Tables w) (hg : 4 ≤ g) :
    Calls Tryd.prog 46 #[.pointer (some ⟨g, o, none⟩)] w fun e w' => e = .returned (.agg (spellCells (wsz wd) (endW wd s0 f0 zs)).toArray) ∧ Touch w w' g o 139 ∧ ∃ half', TK w' g o h wd (endW wd s0 f0 zs) half' (f0 + zs.length) := by
  obtain ⟨half, hk, hh, hf⟩ := hr
  have hp : padF (bsz wd) half (f0 + zs.length) = padF (bsz wd) (fun i => fnz zs (bsz wd * (zs.length / bsz wd) + i)) (f0 + zs.length) := padF_congr _ _ (fun i hi => by
    obtain ⟨c, hc⟩ : ∃ c, f0 = bsz wd * c := ⟨f0 / bsz wd, by have := Nat.div_add_mod f0 (bsz wd); omega⟩
    rw [hc, Nat.mul_add_mod] at hi
    exact hh i hi)
  have := finish_any wd g o h _ half _ w hblk hk hfed hT hg
  rw [hp] at this
  exact this
end Go.Proofs.YtcopkohklgbpgaaDoor
