import Derived.Test.YtehlppaidgkpaaaGreatDoorProg
import Derived.WalkMore
import Derived.Below
import Derived.Deep.Cut
import Derived.Laws.Tables
import Derived.Great.BuildSlice
import Derived.KernelRfl
namespace Go.Proofs.YtehlppaidgkpaaaGreatDoor
open Go.RowKit
set_option linter.unusedVariables false
/-- The ways to seal: a row each. -/
def modesL : List (List Value) := [[.string ⟨#[101, 99, 98]⟩, .int .i64 1, .int .i64 0, .int .i64 16, .nilFunc, .func (.func 146) #[] #[]],
  [.string ⟨#[99, 98, 99, 45, 110, 117, 108, 108]⟩, .int .i64 1, .int .i64 0, .int .i64 16, .func (.func 147) #[] #[], .func (.func 148) #[] #[]],
  [.string ⟨#[99, 98, 99, 45, 112, 108, 97, 105, 110]⟩, .int .i64 1, .int .i64 0, .int .i64 16, .func (.func 149) #[] #[], .func (.func 148) #[] #[]],
  [.string ⟨#[99, 98, 99, 45, 112, 108, 97, 105, 110, 54, 52]⟩, .int .i64 1, .int .i64 0, .int .i64 16, .func (.func 150) #[] #[], .func (.func 148) #[] #[]],
  [.string ⟨#[99, 98, 99, 45, 112, 108, 97, 105, 110, 54, 52, 98, 101]⟩, .int .i64 1, .int .i64 0, .int .i64 16, .func (.func 151) #[] #[], .func (.func 148) #[] #[]],
  [.string ⟨#[99, 98, 99, 45, 98, 101, 110, 98, 105]⟩, .int .i64 1, .int .i64 0, .int .i64 16, .func (.func 152) #[] #[], .func (.func 148) #[] #[]],
  [.string ⟨#[99, 98, 99, 45, 101, 115, 115, 105, 118, 58, 115, 104, 97, 50, 53, 54]⟩, .int .i64 1, .int .i64 0, .int .i64 16, .func (.func 153) #[] #[], .func (.func 148) #[] #[]],
  [.string ⟨#[99, 98, 99, 45, 101, 98, 111, 105, 118]⟩, .int .i64 1, .int .i64 0, .int .i64 16, .func (.func 154) #[] #[], .func (.func 148) #[] #[]],
  [.string ⟨#[99, 98, 99, 45, 101, 108, 101, 112, 104, 97, 110, 116]⟩, .int .i64 2, .int .i64 0, .int .i64 16, .func (.func 154) #[] #[], .func (.func 155) #[] #[]],
  [.string ⟨#[99, 98, 99, 45, 116, 99, 119]⟩, .int .i64 1, .int .i64 32, .int .i64 16, .func (.func 156) #[] #[], .func (.func 157) #[] #[]],
  [.string ⟨#[120, 116, 115, 45, 112, 108, 97, 105, 110]⟩, .int .i64 2, .int .i64 0, .int .i64 1, .func (.func 149) #[] #[], .func (.func 158) #[] #[]],
  [.string ⟨#[120, 116, 115, 45, 112, 108, 97, 105, 110, 54, 52]⟩, .int .i64 2, .int .i64 0, .int .i64 1, .func (.func 150) #[] #[], .func (.func 158) #[] #[]],
  [.string ⟨#[120, 116, 115, 45, 112, 108, 97, 105, 110, 54, 52, 98, 101]⟩, .int .i64 2, .int .i64 0, .int .i64 1, .func (.func 151) #[] #[], .func (.func 158) #[] #[]],
  [.string ⟨#[120, 116, 115, 45, 101, 115, 115, 105, 118, 58, 115, 104, 97, 50, 53, 54]⟩, .int .i64 2, .int .i64 0, .int .i64 1, .func (.func 153) #[] #[], .func (.func 158) #[] #[]],
  [.string ⟨#[108, 114, 119, 45, 98, 101, 110, 98, 105]⟩, .int .i64 1, .int .i64 16, .int .i64 16, .func (.func 152) #[] #[], .func (.func 159) #[] #[]],
  [.string ⟨#[104, 99, 116, 114, 50, 45, 112, 108, 97, 105, 110]⟩, .int .i64 1, .int .i64 0, .int .i64 1, .func (.func 149) #[] #[], .func (.func 160) #[] #[]],
  [.string ⟨#[104, 99, 116, 114, 50, 45, 112, 108, 97, 105, 110, 54, 52]⟩, .int .i64 1, .int .i64 0, .int .i64 1, .func (.func 150) #[] #[], .func (.func 160) #[] #[]]]
theorem built34 (s : ByteArray) (a b c : Int) (g : Nat) : Tryz.prog.built 94 [(0, .string s), (1, .int .i64 a), (2, .int .i64 b), (3, .int .i64 c), (4, .nilFunc), (5, .func (.func g) #[] #[])] = some #[.string s, .int .i64 a, .int .i64 b, .int .i64 c, .nilFunc, .func (.func g) #[] #[]] := by kernel_rfl
theorem built34f (s : ByteArray) (a b c : Int) (f g : Nat) : Tryz.prog.built 94 [(0, .string s), (1, .int .i64 a), (2, .int .i64 b), (3, .int .i64 c), (4, .func (.func f) #[] #[]), (5, .func (.func g) #[] #[])] = some #[.string s, .int .i64 a, .int .i64 b, .int .i64 c, .func (.func f) #[] #[], .func (.func g) #[] #[]] := by kernel_rfl
theorem info34 : ∃ i z, Tryz.prog.info? 94 = some i ∧ i.size = 6 ∧ i.bytes = 56 ∧ i.zero = some z ∧ z = .agg #[.string ⟨#[]⟩, .int .i64 0, .int .i64 0, .int .i64 0, .nilFunc, .nilFunc] := by
  have h1 : (Tryz.prog.info? 94).map (·.size) = some 6 := by kernel_rfl
  have h2 : (Tryz.prog.info? 94).map (·.bytes) = some 56 := by kernel_rfl
  have h3 : (Tryz.prog.info? 94).bind (·.zero) = some (.agg #[.string ⟨#[]⟩, .int .i64 0, .int .i64 0, .int .i64 0, .nilFunc, .nilFunc]) := by kernel_rfl
  cases hi : Tryz.prog.info? 94 with
  | none => rw [hi] at h1; cases h1
  | some i =>
    rw [hi] at h1 h2 h3
    exact ⟨i, _, rfl, by simpa using h1, by simpa using h2, by simpa using h3, rfl⟩
def modesP : List (Nat × Value) := (List.range 17).map fun k => (k, .agg (modesL.getD k []).toArray)
theorem fill_modes : Instr.fill (fun i => some (i * 6, 6)) ((Array.range (17 * 6)).map ((Value.agg #[.string ⟨#[]⟩, .int .i64 0, .int .i64 0, .int .i64 0, .nilFunc, .nilFunc]).cells[· % (Value.agg #[.string ⟨#[]⟩, .int .i64 0, .int .i64 0, .int .i64 0, .nilFunc, .nilFunc]).cells.size]!)) modesP = some modesL.flatten.toArray := by kernel_rfl
theorem run_modes (w : World) : (Instr.buildSlice 186 17 modesP.toArray).run Tryz.prog w = .ok (.slice (some ⟨w.heap.size, 0, none⟩) 17 17) (w.alloc (.cells modesL.flatten.toArray 94)) := by
  obtain ⟨i, z, hi, hs, _, hz, rfl⟩ := info34
  refine run_buildSlice w 186 94 17 _ _ i _ (by kernel_rfl) hi hz (by rw [hs]; decide) (by rw [hs]; decide) ?_
  rw [hs]
  exact fill_modes
set_option maxHeartbeats 1600000 in
set_option maxRecDepth 100000 in
theorem modes_ok (w : World) : Calls Tryz.prog 110 #[] w fun e w' => Hid (e = .returned (.slice (some ⟨w.heap.size, 0, none⟩) 17 17) ∧ w' = w.alloc (.cells modesL.flatten.toArray 94)) := by
  have r1 : ∀ (s : ByteArray) (a b c : Int) (g : Nat) (w : World), (Instr.build 94 #[(0, .string s), (1, .int .i64 a), (2, .int .i64 b), (3, .int .i64 c), (4, .nilFunc), (5, .func (.func g) #[] #[])]).run Tryz.prog w = .ok (.agg #[.string s, .int .i64 a, .int .i64 b, .int .i64 c, .nilFunc, .func (.func g) #[] #[]]) w := fun s a b c g w => run_build w _ _ _ (built34 s a b c g)
  have r2 : ∀ (s : ByteArray) (a b c : Int) (f g : Nat) (w : World), (Instr.build 94 #[(0, .string s), (1, .int .i64 a), (2, .int .i64 b), (3, .int .i64 c), (4, .func (.func f) #[] #[]), (5, .func (.func g) #[] #[])]).run Tryz.prog w = .ok (.agg #[.string s, .int .i64 a, .int .i64 b, .int .i64 c, .func (.func f) #[] #[], .func (.func g) #[] #[]]) w := fun s a b c f g w => run_build w _ _ _ (built34f s a b c f g)
  have r3 := run_modes w
  rw [show modesP.toArray = #[(0, .agg #[.string ⟨#[101, 99, 98]⟩, .int .i64 1, .int .i64 0, .int .i64 16, .nilFunc, .func (.func 146) #[] #[]]), (1, .agg #[.string ⟨#[99, 98, 99, 45, 110, 117, 108, 108]⟩, .int .i64 1, .int .i64 0, .int .i64 16, .func (.func 147) #[] #[], .func (.func 148) #[] #[]]), (2, .agg #[.string ⟨#[99, 98, 99, 45, 112, 108, 97, 105, 110]⟩, .int .i64 1, .int .i64 0, .int .i64 16, .func (.func 149) #[] #[], .func (.func 148) #[] #[]]), (3, .agg #[.string ⟨#[99, 98, 99, 45, 112, 108, 97, 105, 110, 54, 52]⟩, .int .i64 1, .int .i64 0, .int .i64 16, .func (.func 150) #[] #[], .func (.func 148) #[] #[]]), (4, .agg #[.string ⟨#[99, 98, 99, 45, 112, 108, 97, 105, 110, 54, 52, 98, 101]⟩, .int .i64 1, .int .i64 0, .int .i64 16, .func (.func 151) #[] #[], .func (.func 148) #[] #[]]), (5, .agg #[.string ⟨#[99, 98, 99, 45, 98, 101, 110, 98, 105]⟩, .int .i64 1, .int .i64 0, .int .i64 16, .func (.func 152) #[] #[], .func (.func 148) #[] #[]]), (6, .agg #[.string ⟨#[99, 98, 99, 45, 101, 115, 115, 105, 118, 58, 115, 104, 97, 50, 53, 54]⟩, .int .i64 1, .int .i64 0, .int .i64 16, .func (.func 153) #[] #[], .func (.func 148) #[] #[]]), (7, .agg #[.string ⟨#[99, 98, 99, 45, 101, 98, 111, 105, 118]⟩, .int .i64 1, .int .i64 0, .int .i64 16, .func (.func 154) #[] #[], .func (.func 148) #[] #[]]), (8, .agg #[.string ⟨#[99, 98, 99, 45, 101, 108, 101, 112, 104, 97, 110, 116]⟩, .int .i64 2, .int .i64 0, .int .i64 16, .func (.func 154) #[] #[], .func (.func 155) #[] #[]]), (9, .agg #[.string ⟨#[99, 98, 99, 45, 116, 99, 119]⟩, .int .i64 1, .int .i64 32, .int .i64 16, .func (.func 156) #[] #[], .func (.func 157) #[] #[]]), (10, .agg #[.string ⟨#[120, 116, 115, 45, 112, 108, 97, 105, 110]⟩, .int .i64 2, .int .i64 0, .int .i64 1, .func (.func 149) #[] #[], .func (.func 158) #[] #[]]), (11, .agg #[.string ⟨#[120, 116, 115, 45, 112, 108, 97, 105, 110, 54, 52]⟩, .int .i64 2, .int .i64 0, .int .i64 1, .func (.func 150) #[] #[], .func (.func 158) #[] #[]]), (12, .agg #[.string ⟨#[120, 116, 115, 45, 112, 108, 97, 105, 110, 54, 52, 98, 101]⟩, .int .i64 2, .int .i64 0, .int .i64 1, .func (.func 151) #[] #[], .func (.func 158) #[] #[]]), (13, .agg #[.string ⟨#[120, 116, 115, 45, 101, 115, 115, 105, 118, 58, 115, 104, 97, 50, 53, 54]⟩, .int .i64 2, .int .i64 0, .int .i64 1, .func (.func 153) #[] #[], .func (.func 158) #[] #[]]), (14, .agg #[.string ⟨#[108, 114, 119, 45, 98, 101, 110, 98, 105]⟩, .int .i64 1, .int .i64 16, .int .i64 16, .func (.func 152) #[] #[], .func (.func 159) #[] #[]]), (15, .agg #[.string ⟨#[104, 99, 116, 114, 50, 45, 112, 108, 97, 105, 110]⟩, .int .i64 1, .int .i64 0, .int .i64 1, .func (.func 149) #[] #[], .func (.func 160) #[] #[]]), (16, .agg #[.string ⟨#[104, 99, 116, 114, 50, 45, 112, 108, 97, 105, 110, 54, 52]⟩, .int .i64 1, .int .i64 0, .int .i64 1, .func (.func 150) #[] #[], .func (.func 160) #[] #[]])] from rfl] at r3
  obtain ⟨CS, HCS⟩ : ∃ x, Hid (modesL.flatten.toArray = x) := ⟨_, rfl⟩
  rw [HCS.out] at r3
  rw [HCS.out]
  go_enter Tryz.func110, Tryz.ntmps110
  go_wp2
  go_ret
  exact ⟨rfl, by rw [← HCS.out]; rfl⟩
end Go.Proofs.YtehlppaidgkpaaaGreatDoor
