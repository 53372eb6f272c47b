import Derived.Test.YtioggmjocelolabDoorCuts
namespace Go.Proofs.YtioggmjocelolabDoor
open Go.RowKit
set_option linter.unusedVariables false
set_option linter.unusedSimpArgs false

set_option maxHeartbeats 800000 in
set_option maxRecDepth 100000 in
theorem cuts_unknown (h z : Int) (ka ba ca : Option Addr) (kn kc bn bc cn cc : Nat) (w : World) (k : Hid (¬ Known h)) :
    Calls Tryd.prog 5 #[.agg #[.int .i64 h, .slice ka kn kc, .slice ba bn bc, .slice ca cn cc, .int .i64 z]] w fun e w' => e = .returned (.bool true) ∧ Below w.heap.size w w' := by
  have HB0 : Hid (∀ o, Below w.heap.size w (w.alloc o)) := fun o => below_alloc1 w o
  go_enter Tryd.func5, Tryd.ntmps5
  go_wp2_with (first | (go_at_call 9; refine (known_not h _ k.out).mono ?_; rintro e1 w1 ⟨rfl, hw1⟩; obtain rfl := hw1.symm) | fail)
  go_ret
  exact ⟨rfl, HB0.out _⟩
set_option maxHeartbeats 800000 in
set_option maxRecDepth 100000 in
theorem cuts_long (h z : Int) (ka ba ca : Option Addr) (kn kc bn bc cn cc : Nat) (w : World) (k : Hid (Known h)) (hb : (65536 : Int) < bn) :
    Calls Tryd.prog 5 #[.agg #[.int .i64 h, .slice ka kn kc, .slice ba bn bc, .slice ca cn cc, .int .i64 z]] w fun e w' => e = .returned (.bool true) ∧ Below w.heap.size w w' := by
  have HB0 : Hid (∀ o, Below w.heap.size w (w.alloc o)) := fun o => below_alloc1 w o
  go_enter Tryd.func5, Tryd.ntmps5
  go_wp2_with (first | (go_at_call 9; refine (known_any h _ k.out).mono ?_; rintro e1 w1 ⟨rfl, hw1⟩; obtain rfl := hw1.symm) | fail)
  go_ret
  exact ⟨rfl, HB0.out _⟩
set_option maxHeartbeats 800000 in
set_option maxRecDepth 100000 in
theorem cuts_longkey (h z : Int) (ka ba ca : Option Addr) (kn kc bn bc cn cc : Nat) (w : World) (k : Hid (Known h)) (hb : (bn : Int) ≤ 65536) (hk : (65536 : Int) < kn) :
    Calls Tryd.prog 5 #[.agg #[.int .i64 h, .slice ka kn kc, .slice ba bn bc, .slice ca cn cc, .int .i64 z]] w fun e w' => e = .returned (.bool true) ∧ Below w.heap.size w w' := by
  have HB0 : Hid (∀ o, Below w.heap.size w (w.alloc o)) := fun o => below_alloc1 w o
  go_enter Tryd.func5, Tryd.ntmps5
  go_wp2_with (first | (go_at_call 9; refine (known_any h _ k.out).mono ?_; rintro e1 w1 ⟨rfl, hw1⟩; obtain rfl := hw1.symm) | fail)
  go_ret
  exact ⟨rfl, HB0.out _⟩
/-- cofferlaw01.DigestCuts. -/
theorem cuts_walk (h z : Int) (ka ba ca : Option Addr) (kn kc bn bc cn cc : Nat) (key bs : List Int) (cz : Nat → Int) (w : World) (hkv : View w (.slice ka kn kc) key) (hbv : View w (.slice ba bn bc) bs)
    (hcv : ∀ i, i < cn → ∃ b p, ca = some ⟨b, p, none⟩ ∧ w.cell? ⟨b, p + i, none⟩ = some (.int .i64 (cz i))) (hcn : cn ≤ cc ∧ cc ≤ maxLen) (hT : Tables w) :
    Calls Tryd.prog 5 #[.agg #[.int .i64 h, .slice ka kn kc, .slice ba bn bc, .slice ca cn cc, .int .i64 z]] w fun e w' => e = .returned (.bool true) ∧ Below w.heap.size w w' := by
  by_cases k : Known h
  · by_cases hb : (bn : Int) ≤ 65536
    · by_cases hk : (kn : Int) ≤ 65536
      · exact cuts_core h z ka ba kn kc bn bc cn cc ca key bs cz w k hkv hbv hcv hcn hT hb hk
      · exact cuts_longkey h z ka ba ca kn kc bn bc cn cc w k hb (by omega)
    · exact cuts_long h z ka ba ca kn kc bn bc cn cc w k (by omega)
  · exact cuts_unknown h z ka ba ca kn kc bn bc cn cc w k
end Go.Proofs.YtioggmjocelolabDoor
