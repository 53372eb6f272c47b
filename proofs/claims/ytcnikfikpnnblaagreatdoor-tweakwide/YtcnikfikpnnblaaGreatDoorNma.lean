import Derived.Test.YtcnikfikpnnblaaGreatDoorProg
import Derived.WalkMore
import Derived.Below
import Derived.Deep.Cut
import Derived.Laws.Tables
import Derived.Great.BuildSlice
import Derived.KernelRfl
namespace Go.Proofs.YtcnikfikpnnblaaGreatDoor
open Go.RowKit
set_option linter.unusedVariables false
/-- The ways to seal: a row each. -/
def modesL : List (List Value) := [[.string ⟨#[101, 99, 98]⟩, .int .i64 1, .int .i64 0, .int .i64 16, .nilFunc, .func (.func 86) #[] #[]],
 [.string ⟨#[99, 98, 99, 45, 110, 117, 108, 108]⟩, .int .i64 1, .int .i64 0, .int .i64 16, .func (.func 87) #[] #[], .func (.func 88) #[] #[]],
 [.string ⟨#[99, 98, 99, 45, 112, 108, 97, 105, 110]⟩, .int .i64 1, .int .i64 0, .int .i64 16, .func (.func 89) #[] #[], .func (.func 88) #[] #[]],
 [.string ⟨#[99, 98, 99, 45, 112, 108, 97, 105, 110, 54, 52]⟩, .int .i64 1, .int .i64 0, .int .i64 16, .func (.func 90) #[] #[], .func (.func 88) #[] #[]],
 [.string ⟨#[99, 98, 99, 45, 112, 108, 97, 105, 110, 54, 52, 98, 101]⟩, .int .i64 1, .int .i64 0, .int .i64 16, .func (.func 91) #[] #[], .func (.func 88) #[] #[]],
 [.string ⟨#[99, 98, 99, 45, 98, 101, 110, 98, 105]⟩, .int .i64 1, .int .i64 0, .int .i64 16, .func (.func 92) #[] #[], .func (.func 88) #[] #[]],
 [.string ⟨#[99, 98, 99, 45, 101, 115, 115, 105, 118, 58, 115, 104, 97, 50, 53, 54]⟩, .int .i64 1, .int .i64 0, .int .i64 16, .func (.func 93) #[] #[], .func (.func 88) #[] #[]],
 [.string ⟨#[99, 98, 99, 45, 101, 98, 111, 105, 118]⟩, .int .i64 1, .int .i64 0, .int .i64 16, .func (.func 94) #[] #[], .func (.func 88) #[] #[]],
 [.string ⟨#[99, 98, 99, 45, 101, 108, 101, 112, 104, 97, 110, 116]⟩, .int .i64 2, .int .i64 0, .int .i64 16, .func (.func 94) #[] #[], .func (.func 95) #[] #[]],
 [.string ⟨#[99, 98, 99, 45, 116, 99, 119]⟩, .int .i64 1, .int .i64 32, .int .i64 16, .func (.func 96) #[] #[], .func (.func 97) #[] #[]],
 [.string ⟨#[120, 116, 115, 45, 112, 108, 97, 105, 110]⟩, .int .i64 2, .int .i64 0, .int .i64 1, .func (.func 89) #[] #[], .func (.func 98) #[] #[]],
 [.string ⟨#[120, 116, 115, 45, 112, 108, 97, 105, 110, 54, 52]⟩, .int .i64 2, .int .i64 0, .int .i64 1, .func (.func 90) #[] #[], .func (.func 98) #[] #[]],
 [.string ⟨#[120, 116, 115, 45, 112, 108, 97, 105, 110, 54, 52, 98, 101]⟩, .int .i64 2, .int .i64 0, .int .i64 1, .func (.func 91) #[] #[], .func (.func 98) #[] #[]],
 [.string ⟨#[120, 116, 115, 45, 101, 115, 115, 105, 118, 58, 115, 104, 97, 50, 53, 54]⟩, .int .i64 2, .int .i64 0, .int .i64 1, .func (.func 93) #[] #[], .func (.func 98) #[] #[]],
 [.string ⟨#[108, 114, 119, 45, 98, 101, 110, 98, 105]⟩, .int .i64 1, .int .i64 16, .int .i64 16, .func (.func 92) #[] #[], .func (.func 99) #[] #[]],
 [.string ⟨#[104, 99, 116, 114, 50, 45, 112, 108, 97, 105, 110]⟩, .int .i64 1, .int .i64 0, .int .i64 1, .func (.func 89) #[] #[], .func (.func 100) #[] #[]],
 [.string ⟨#[104, 99, 116, 114, 50, 45, 112, 108, 97, 105, 110, 54, 52]⟩, .int .i64 1, .int .i64 0, .int .i64 1, .func (.func 90) #[] #[], .func (.func 100) #[] #[]]]
theorem modes_len : modesL.length = 17 := by decide

theorem built34 (s : ByteArray) (a b c : Int) (g : Nat) : Tryz.prog.built 83 [(0, .string s), (1, .int .i64 a), (2, .int .i64 b), (3, .int .i64 c), (4, .nilFunc), (5, .func (.func g) #[] #[])] = some #[.string s, .int .i64 a, .int .i64 b, .int .i64 c, .nilFunc, .func (.func g) #[] #[]] := by kernel_rfl
theorem built34f (s : ByteArray) (a b c : Int) (f g : Nat) : Tryz.prog.built 83 [(0, .string s), (1, .int .i64 a), (2, .int .i64 b), (3, .int .i64 c), (4, .func (.func f) #[] #[]), (5, .func (.func g) #[] #[])] = some #[.string s, .int .i64 a, .int .i64 b, .int .i64 c, .func (.func f) #[] #[], .func (.func g) #[] #[]] := by kernel_rfl
theorem info34 : ∃ i z, Tryz.prog.info? 83 = some i ∧ i.size = 6 ∧ i.bytes = 56 ∧ i.zero = some z ∧ z = .agg #[.string ⟨#[]⟩, .int .i64 0, .int .i64 0, .int .i64 0, .nilFunc, .nilFunc] := by
 have h1 : (Tryz.prog.info? 83).map (·.size) = some 6 := by kernel_rfl
 have h2 : (Tryz.prog.info? 83).map (·.bytes) = some 56 := by kernel_rfl
 have h3 : (Tryz.prog.info? 83).bind (·.zero) = some (.agg #[.string ⟨#[]⟩, .int .i64 0, .int .i64 0, .int .i64 0, .nilFunc, .nilFunc]) := by kernel_rfl
 cases hi : Tryz.prog.info? 83 with
 | none => rw [hi] at h1; cases h1
 | some i =>
  rw [hi] at h1 h2 h3
  exact ⟨i, _, rfl, by simpa using h1, by simpa using h2, by simpa using h3, rfl⟩
def modesP : List (Nat × Value) := (List.range 17).map fun k => (k, .agg (modesL.getD k []).toArray)
theorem fill_modes : Instr.fill (fun i => some (i * 6, 6)) ((Array.range (17 * 6)).map ((Value.agg #[.string ⟨#[]⟩, .int .i64 0, .int .i64 0, .int .i64 0, .nilFunc, .nilFunc]).cells[· % (Value.agg #[.string ⟨#[]⟩, .int .i64 0, .int .i64 0, .int .i64 0, .nilFunc, .nilFunc]).cells.size]!)) modesP = some modesL.flatten.toArray := by kernel_rfl
theorem run_modes (w : World) : (Instr.buildSlice 130 17 modesP.toArray).run Tryz.prog w = .ok (.slice (some ⟨w.heap.size, 0, none⟩) 17 17) (w.alloc (.cells modesL.flatten.toArray 83)) := by
 obtain ⟨i, z, hi, hs, _, hz, rfl⟩ := info34
 refine run_buildSlice w 130 83 17 _ _ i _ (by kernel_rfl) hi hz (by rw [hs]; decide) (by rw [hs]; decide) ?_
 rw [hs]
 exact fill_modes
set_option maxHeartbeats 1600000 in
set_option maxRecDepth 100000 in
theorem modes_ok (w : World) : Calls Tryz.prog 66 #[] w fun e w' => Hid (e = .returned (.slice (some ⟨w.heap.size, 0, none⟩) 17 17) ∧ w' = w.alloc (.cells modesL.flatten.toArray 83)) := by
 have r1 : ∀ (s : ByteArray) (a b c : Int) (g : Nat) (w : World), (Instr.build 83 #[(0, .string s), (1, .int .i64 a), (2, .int .i64 b), (3, .int .i64 c), (4, .nilFunc), (5, .func (.func g) #[] #[])]).run Tryz.prog w = .ok (.agg #[.string s, .int .i64 a, .int .i64 b, .int .i64 c, .nilFunc, .func (.func g) #[] #[]]) w := fun s a b c g w => run_build w _ _ _ (built34 s a b c g)
 have r2 : ∀ (s : ByteArray) (a b c : Int) (f g : Nat) (w : World), (Instr.build 83 #[(0, .string s), (1, .int .i64 a), (2, .int .i64 b), (3, .int .i64 c), (4, .func (.func f) #[] #[]), (5, .func (.func g) #[] #[])]).run Tryz.prog w = .ok (.agg #[.string s, .int .i64 a, .int .i64 b, .int .i64 c, .func (.func f) #[] #[], .func (.func g) #[] #[]]) w := fun s a b c f g w => run_build w _ _ _ (built34f s a b c f g)
 have r3 := run_modes w
 rw [show modesP.toArray = #[(0, .agg #[.string ⟨#[101, 99, 98]⟩, .int .i64 1, .int .i64 0, .int .i64 16, .nilFunc, .func (.func 86) #[] #[]]), (1, .agg #[.string ⟨#[99, 98, 99, 45, 110, 117, 108, 108]⟩, .int .i64 1, .int .i64 0, .int .i64 16, .func (.func 87) #[] #[], .func (.func 88) #[] #[]]), (2, .agg #[.string ⟨#[99, 98, 99, 45, 112, 108, 97, 105, 110]⟩, .int .i64 1, .int .i64 0, .int .i64 16, .func (.func 89) #[] #[], .func (.func 88) #[] #[]]), (3, .agg #[.string ⟨#[99, 98, 99, 45, 112, 108, 97, 105, 110, 54, 52]⟩, .int .i64 1, .int .i64 0, .int .i64 16, .func (.func 90) #[] #[], .func (.func 88) #[] #[]]), (4, .agg #[.string ⟨#[99, 98, 99, 45, 112, 108, 97, 105, 110, 54, 52, 98, 101]⟩, .int .i64 1, .int .i64 0, .int .i64 16, .func (.func 91) #[] #[], .func (.func 88) #[] #[]]), (5, .agg #[.string ⟨#[99, 98, 99, 45, 98, 101, 110, 98, 105]⟩, .int .i64 1, .int .i64 0, .int .i64 16, .func (.func 92) #[] #[], .func (.func 88) #[] #[]]), (6, .agg #[.string ⟨#[99, 98, 99, 45, 101, 115, 115, 105, 118, 58, 115, 104, 97, 50, 53, 54]⟩, .int .i64 1, .int .i64 0, .int .i64 16, .func (.func 93) #[] #[], .func (.func 88) #[] #[]]), (7, .agg #[.string ⟨#[99, 98, 99, 45, 101, 98, 111, 105, 118]⟩, .int .i64 1, .int .i64 0, .int .i64 16, .func (.func 94) #[] #[], .func (.func 88) #[] #[]]), (8, .agg #[.string ⟨#[99, 98, 99, 45, 101, 108, 101, 112, 104, 97, 110, 116]⟩, .int .i64 2, .int .i64 0, .int .i64 16, .func (.func 94) #[] #[], .func (.func 95) #[] #[]]), (9, .agg #[.string ⟨#[99, 98, 99, 45, 116, 99, 119]⟩, .int .i64 1, .int .i64 32, .int .i64 16, .func (.func 96) #[] #[], .func (.func 97) #[] #[]]), (10, .agg #[.string ⟨#[120, 116, 115, 45, 112, 108, 97, 105, 110]⟩, .int .i64 2, .int .i64 0, .int .i64 1, .func (.func 89) #[] #[], .func (.func 98) #[] #[]]), (11, .agg #[.string ⟨#[120, 116, 115, 45, 112, 108, 97, 105, 110, 54, 52]⟩, .int .i64 2, .int .i64 0, .int .i64 1, .func (.func 90) #[] #[], .func (.func 98) #[] #[]]), (12, .agg #[.string ⟨#[120, 116, 115, 45, 112, 108, 97, 105, 110, 54, 52, 98, 101]⟩, .int .i64 2, .int .i64 0, .int .i64 1, .func (.func 91) #[] #[], .func (.func 98) #[] #[]]), (13, .agg #[.string ⟨#[120, 116, 115, 45, 101, 115, 115, 105, 118, 58, 115, 104, 97, 50, 53, 54]⟩, .int .i64 2, .int .i64 0, .int .i64 1, .func (.func 93) #[] #[], .func (.func 98) #[] #[]]), (14, .agg #[.string ⟨#[108, 114, 119, 45, 98, 101, 110, 98, 105]⟩, .int .i64 1, .int .i64 16, .int .i64 16, .func (.func 92) #[] #[], .func (.func 99) #[] #[]]), (15, .agg #[.string ⟨#[104, 99, 116, 114, 50, 45, 112, 108, 97, 105, 110]⟩, .int .i64 1, .int .i64 0, .int .i64 1, .func (.func 89) #[] #[], .func (.func 100) #[] #[]]), (16, .agg #[.string ⟨#[104, 99, 116, 114, 50, 45, 112, 108, 97, 105, 110, 54, 52]⟩, .int .i64 1, .int .i64 0, .int .i64 1, .func (.func 90) #[] #[], .func (.func 100) #[] #[]])] from rfl] at r3
 obtain ⟨CS, HCS⟩ : ∃ x, Hid (modesL.flatten.toArray = x) := ⟨_, rfl⟩
 rw [HCS.out] at r3
 rw [HCS.out]
 go_enter Tryz.func66, Tryz.ntmps66
 go_wp2
 go_ret
 exact ⟨rfl, by rw [← HCS.out]; rfl⟩
end Go.Proofs.YtcnikfikpnnblaaGreatDoor
