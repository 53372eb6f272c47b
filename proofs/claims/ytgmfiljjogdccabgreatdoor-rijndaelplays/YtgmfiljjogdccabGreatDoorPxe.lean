import Derived.Test.YtgmfiljjogdccabGreatDoorPxd
import Derived.Test.YtgmfiljjogdccabGreatDoorPart16
namespace Go.Proofs.YtgmfiljjogdccabGreatDoor
open Go.RowKit
set_option linter.unusedVariables false
set_option maxRecDepth 100000 in
theorem rwrap_nil (a : Option Addr) (m cap : Nat) (w : World) : Calls Tryz.prog 27 #[.pointer none, .slice a m cap] w fun e w' => e = .returned (.tuple #[.slice none 0 0, .int .i64 1]) ∧ w' = w := by
 go_enter Tryz.func27, Tryz.ntmps27
 go_wp2
 go_ret2
 exact ⟨rfl, rfl⟩
set_option maxRecDepth 100000 in
theorem rwrap_gone (g m cap : Nat) (a : Option Addr) (w : World) (hw : w.cell? ⟨g, 4610, none⟩ = some (.bool true)) : Calls Tryz.prog 27 #[.pointer (some ⟨g, 0, none⟩), .slice a m cap] w fun e w' => e = .returned (.tuple #[.slice none 0 0, .int .i64 21]) ∧ w' = w := by
 go_enter Tryz.func27, Tryz.ntmps27
 go_wp2
 go_ret2
 exact ⟨rfl, rfl⟩
set_option maxRecDepth 100000 in
theorem rwrap_bad (g m cap : Nat) (a : Option Addr) (w : World) (hw : w.cell? ⟨g, 4610, none⟩ = some (.bool false)) (hm : m ≤ 9223372036854775807) (hb : ¬ (16 ≤ m ∧ m % 8 = 0 ∧ m ≤ 4096)) : Calls Tryz.prog 27 #[.pointer (some ⟨g, 0, none⟩), .slice a m cap] w fun e w' => e = .returned (.tuple #[.slice none 0 0, .int .i64 (ckE m 16 4096)]) ∧ w' = w := by
 unfold ckE
 by_cases h1 : m < 16
 ·rw [if_pos (.inl h1)]
  have hlt : ((m : Nat) : Int) < 16 := by omega
  clear hb h1
  go_enter Tryz.func27, Tryz.ntmps27
  go_wp2
  go_ret2
  exact ⟨rfl, rfl⟩
 ·have hlt : ¬ ((m : Nat) : Int) < 16 := by omega
  by_cases h2 : m % 8 = 0
  ·have hmm : ((m : Nat) : Int) % 8 = 0 := by omega
   rw [if_neg (by omega), if_pos (by omega)]
   have hgt : (4096 : Int) < (m : Nat) := by omega
   clear hb h1 h2
   go_enter Tryz.func27, Tryz.ntmps27
   go_wp2
   go_ret2
   exact ⟨rfl, rfl⟩
  ·rw [if_pos (.inr h2)]
   have hmm : (((m : Nat) : Int) % 8 != 0) = true := by simp; omega
   clear hb h1 h2
   go_enter Tryz.func27, Tryz.ntmps27
   go_wp2
   go_ret2
   exact ⟨rfl, rfl⟩
theorem mark_byte (x : Nat) (hx : x < 8) : byteK 12008468691120727718 x = 166 := by
 have h : x = 0 ∨ x = 1 ∨ x = 2 ∨ x = 3 ∨ x = 4 ∨ x = 5 ∨ x = 6 ∨ x = 7 := by omega
 rcases h with rfl | rfl | rfl | rfl | rfl | rfl | rfl | rfl <;> decide +kernel
theorem mark_bytes : (#[.int .u8 166, .int .u8 166, .int .u8 166, .int .u8 166, .int .u8 166, .int .u8 166, .int .u8 166, .int .u8 166] : Array Value) = (abL 8 (byteK 12008468691120727718)).toArray := by
 rw [abL_congr (g := fun _ => 166) (fun j hj => mark_byte j hj)]
 rfl
set_option maxHeartbeats 1600000 in
set_option maxRecDepth 100000 in
theorem rwrap_ok (g gr nk n b po cap q8 : Nat) (K : Nat → Nat) (f : Nat → Nat) (w : World) (hr : RefAt w g gr nk K) (hnk : nk ≤ 8) (hK : ∀ i, K i < 4294967296) (h1 : 2 ≤ n) (h2 : n ≤ 512) (h8 : q8 = 8 * n) (hb : b < w.heap.size) (hp : ∀ i, i < q8 → w.cell? ⟨b, po + i, none⟩ = some (.int .u8 (f i : Nat))) (hf : ∀ i, f i < 256) :
  Calls Tryz.prog 27 #[.pointer (some ⟨g, 0, none⟩), .slice (some ⟨b, po, none⟩) q8 cap] w fun e w' => ∃ v, e = .returned (.tuple #[v, .int .i64 0]) ∧ w'.ownsRow w.heap.size 5 1 v (8 + q8) (abL (8 + q8) (wrB (wrapF (nk + 6) K n f (6 * n)))) ∧ Below w.heap.size w w' := by
 have HC : Hid (Calls Tryz.prog 57 #[.pointer (some ⟨g, 0, none⟩), .agg #[.int .u8 166, .int .u8 166, .int .u8 166, .int .u8 166, .int .u8 166, .int .u8 166, .int .u8 166, .int .u8 166], .slice (some ⟨b, po, none⟩) q8 cap] w fun e w' => ∃ v, e = .returned v ∧ w'.ownsRow w.heap.size 5 1 v (8 + q8) (abL (8 + q8) (wrB (wrapF (nk + 6) K n f (6 * n)))) ∧ Below w.heap.size w w') := by
  show Calls _ _ _ _ _
  rw [mark_bytes]
  exact rwrapF_ok g gr nk n b po cap 12008468691120727718 q8 K f w hr hnk hK (by omega) h2 h8 (by omega) hb hp hf
 have hw := hr.wiped
 have hlt : ¬ ((q8 : Nat) : Int) < 16 := by omega
 have hmm : ((q8 : Nat) : Int) % 8 = 0 := by omega
 have hgt : ¬ (4096 : Int) < (q8 : Nat) := by omega
 clear hr hnk hK h1 h2 h8 hb hp hf
 go_enter Tryz.func27, Tryz.ntmps27
 go_wp2_with (first | (go_at_call 57; refine HC.out.mono ?_; rintro e1 w1 ⟨v1, rfl, ho1, hb1⟩))
 have HO : Hid (w1.ownsRow w.heap.size 5 1 v1 (8 + q8) (abL (8 + q8) (wrB (wrapF (nk + 6) K n f (6 * n)))) ∧ Below w.heap.size w w1) := ⟨ho1, hb1⟩
 go_ret2
 exact ⟨_, rfl, HO.out⟩
set_option maxRecDepth 100000 in
theorem runwrap_nil (a : Option Addr) (m cap : Nat) (w : World) : Calls Tryz.prog 29 #[.pointer none, .slice a m cap] w fun e w' => e = .returned (.tuple #[.slice none 0 0, .int .i64 1]) ∧ w' = w := by
 go_enter Tryz.func29, Tryz.ntmps29
 go_wp2
 go_ret2
 exact ⟨rfl, rfl⟩
set_option maxRecDepth 100000 in
theorem runwrap_gone (g m cap : Nat) (a : Option Addr) (w : World) (hw : w.cell? ⟨g, 4610, none⟩ = some (.bool true)) : Calls Tryz.prog 29 #[.pointer (some ⟨g, 0, none⟩), .slice a m cap] w fun e w' => e = .returned (.tuple #[.slice none 0 0, .int .i64 21]) ∧ w' = w := by
 go_enter Tryz.func29, Tryz.ntmps29
 go_wp2
 go_ret2
 exact ⟨rfl, rfl⟩
set_option maxRecDepth 100000 in
theorem runwrap_bad (g m cap : Nat) (a : Option Addr) (w : World) (hw : w.cell? ⟨g, 4610, none⟩ = some (.bool false)) (hm : m ≤ 9223372036854775807) (hb : ¬ (24 ≤ m ∧ m % 8 = 0 ∧ m ≤ 4104)) : Calls Tryz.prog 29 #[.pointer (some ⟨g, 0, none⟩), .slice a m cap] w fun e w' => e = .returned (.tuple #[.slice none 0 0, .int .i64 (ckE m 24 4104)]) ∧ w' = w := by
 unfold ckE
 by_cases h1 : m < 24
 ·rw [if_pos (.inl h1)]
  have hlt : ((m : Nat) : Int) < 24 := by omega
  clear hb h1
  go_enter Tryz.func29, Tryz.ntmps29
  go_wp2
  go_ret2
  exact ⟨rfl, rfl⟩
 ·have hlt : ¬ ((m : Nat) : Int) < 24 := by omega
  by_cases h2 : m % 8 = 0
  ·have hmm : ((m : Nat) : Int) % 8 = 0 := by omega
   rw [if_neg (by omega), if_pos (by omega)]
   have hgt : (4104 : Int) < (m : Nat) := by omega
   clear hb h1 h2
   go_enter Tryz.func29, Tryz.ntmps29
   go_wp2
   go_ret2
   exact ⟨rfl, rfl⟩
  ·rw [if_pos (.inr h2)]
   have hmm : (((m : Nat) : Int) % 8 != 0) = true := by simp; omega
   clear hb h1 h2
   go_enter Tryz.func29, Tryz.ntmps29
   go_wp2
   go_ret2
   exact ⟨rfl, rfl⟩
end Go.Proofs.YtgmfiljjogdccabGreatDoor
