import Derived.Test.YtohhjohpdfbdoaaRc
import Derived.Shelf.Lay
import Derived.Shelf.Pu.Clone
namespace Go.Proofs.Ytohhjohpdfbdoaa
open Go.RowKit
set_option linter.unusedVariables false
shelf_lay LaysPu.n25 Mp 25 at Try as Try.lays25
theorem grown_of_below {w w' : World} (h : Below w.heap.size w w') : w.grownBy w' none := ⟨h.os, h.tape, h.output, h.size, fun k hk _ => h.block k hk⟩
set_option maxRecDepth 100000 in
theorem clone_ok (s : ByteArray) (w : World) (hlim : s.size ≤ 281474976710656) : Calls Try.prog 35 #[.string s] w fun e w' => e = .returned (.string s) ∧ w.grownBy w' none := by
  go_enter Try.func35, Try.ntmps35
  go_wp2_with (go_at_call 37; refine (AnyPu.stringslite_Clone Try.lays25 s _ hlim).mono ?_; rintro e w1 ⟨rfl, b1⟩)
  go_ret
  exact ⟨rfl, grown_of_below b1⟩
end Go.Proofs.Ytohhjohpdfbdoaa
