import Derived.Test.YtcnikfikpnnblaaGreatDoorProg
import Derived.WalkMore
import Derived.Below
import Derived.Deep.Cut
import Derived.Laws.Tables
import Derived.Great.BuildSlice
import Derived.KernelRfl
import Derived.Test.YtcnikfikpnnblaaGreatDoorPart00
import Derived.Test.YtcnikfikpnnblaaGreatDoorPart01
import Derived.Deep.RegionHeld3
import Derived.Deep.QuietTactic
import Derived.BigQuiet
import Derived.BigRegion
namespace Go.Proofs.YtcnikfikpnnblaaGreatDoor
open Go.RowKit
set_option linter.unusedVariables false
/-- The ways to seal: a row each. -/
def modesL : List (List Value) := [[.string ⟨#[101, 99, 98]⟩, .int .i64 1, .int .i64 0, .int .i64 16, .nilFunc, .func (.func 86) #[] #[]],
  [.string ⟨#[99, 98, 99, 45, 110, 117, 108, 108]⟩, .int .i64 1, .int .i64 0, .int .i64 16, .func (.func 87) #[] #[], .func (.func 88) #[] #[]],
  [.string ⟨#[99, 98, 99, 45, 112, 108, 97, 105, 110]⟩, .int .i64 1, .int .i64 0, .int .i64 16, .func (.func 89) #[] #[], .func (.func 88) #[] #[]],
  [.string ⟨#[99, 98, 99, 45, 112, 108, 97, 105, 110, 54, 52]⟩, .int .i64 1, .int .i64 0, .int .i64 16, .func (.func 90) #[] #[], .func (.func 88) #[] #[]],
  [.string ⟨#[99, 98, 99, 45, 112, 108, 97, 105, 110, 54, 52, 98, 101]⟩, .int .i64 1, .int .i64 0, .int .i64 16, .func (.func 91) #[] #[], .func (.func 88) #[] #[]],
  [.string ⟨#[99, 98, 99, 45, 98, 101, 110, 98, 105]⟩, .int .i64 1, .int .i64 0, .int .i64 16, .func (.func 92) #[] #[], .func (.func 88) #[] #[]],
  [.string ⟨#[99, 98, 99, 45, 101, 115, 115, 105, 118, 58, 115, 104, 97, 50, 53, 54]⟩, .int .i64 1, .int .i64 0, .int .i64 16, .func (.func 93) #[] #[], .func (.func 88) #[] #[]],
  [.string ⟨#[99, 98, 99, 45, 101, 98, 111, 105, 118]⟩, .int .i64 1, .int .i64 0, .int .i64 16, .func (.func 94) #[] #[], .func (.func 88) #[] #[]],
  [.string ⟨#[99, 98, 99, 45, 101, 108, 101, 112, 104, 97, 110, 116]⟩, .int .i64 2, .int .i64 0, .int .i64 16, .func (.func 94) #[] #[], .func (.func 95) #[] #[]],
  [.string ⟨#[99, 98, 99, 45, 116, 99, 119]⟩, .int .i64 1, .int .i64 32, .int .i64 16, .func (.func 96) #[] #[], .func (.func 97) #[] #[]],
  [.string ⟨#[120, 116, 115, 45, 112, 108, 97, 105, 110]⟩, .int .i64 2, .int .i64 0, .int .i64 1, .func (.func 89) #[] #[], .func (.func 98) #[] #[]],
  [.string ⟨#[120, 116, 115, 45, 112, 108, 97, 105, 110, 54, 52]⟩, .int .i64 2, .int .i64 0, .int .i64 1, .func (.func 90) #[] #[], .func (.func 98) #[] #[]],
  [.string ⟨#[120, 116, 115, 45, 112, 108, 97, 105, 110, 54, 52, 98, 101]⟩, .int .i64 2, .int .i64 0, .int .i64 1, .func (.func 91) #[] #[], .func (.func 98) #[] #[]],
  [.string ⟨#[120, 116, 115, 45, 101, 115, 115, 105, 118, 58, 115, 104, 97, 50, 53, 54]⟩, .int .i64 2, .int .i64 0, .int .i64 1, .func (.func 93) #[] #[], .func (.func 98) #[] #[]],
  [.string ⟨#[108, 114, 119, 45, 98, 101, 110, 98, 105]⟩, .int .i64 1, .int .i64 16, .int .i64 16, .func (.func 92) #[] #[], .func (.func 99) #[] #[]],
  [.string ⟨#[104, 99, 116, 114, 50, 45, 112, 108, 97, 105, 110]⟩, .int .i64 1, .int .i64 0, .int .i64 1, .func (.func 89) #[] #[], .func (.func 100) #[] #[]],
  [.string ⟨#[104, 99, 116, 114, 50, 45, 112, 108, 97, 105, 110, 54, 52]⟩, .int .i64 1, .int .i64 0, .int .i64 1, .func (.func 90) #[] #[], .func (.func 100) #[] #[]]]
theorem built34 (s : ByteArray) (a b c : Int) (g : Nat) : Tryz.prog.built 83 [(0, .string s), (1, .int .i64 a), (2, .int .i64 b), (3, .int .i64 c), (4, .nilFunc), (5, .func (.func g) #[] #[])] = some #[.string s, .int .i64 a, .int .i64 b, .int .i64 c, .nilFunc, .func (.func g) #[] #[]] := by kernel_rfl
theorem built34f (s : ByteArray) (a b c : Int) (f g : Nat) : Tryz.prog.built 83 [(0, .string s), (1, .int .i64 a), (2, .int .i64 b), (3, .int .i64 c), (4, .func (.func f) #[] #[]), (5, .func (.func g) #[] #[])] = some #[.string s, .int .i64 a, .int .i64 b, .int .i64 c, .func (.func f) #[] #[], .func (.func g) #[] #[]] := by kernel_rfl
theorem info34 : ∃ i z, Tryz.prog.info? 83 = some i ∧ i.size = 6 ∧ i.bytes = 56 ∧ i.zero = some z ∧ z = .agg #[.string ⟨#[]⟩, .int .i64 0, .int .i64 0, .int .i64 0, .nilFunc, .nilFunc] := by
  have h1 : (Tryz.prog.info? 83).map (·.size) = some 6 := by kernel_rfl
  have h2 : (Tryz.prog.info? 83).map (·.bytes) = some 56 := by kernel_rfl
  have h3 : (Tryz.prog.info? 83).bind (·.zero) = some (.agg #[.string ⟨#[]⟩, .int .i64 0, .int .i64 0, .int .i64 0, .nilFunc, .nilFunc]) := by kernel_rfl
  cases hi : Tryz.prog.info? 83 with
  | none => rw [hi] at h1; cases h1
  | some i =>
    rw [hi] at h1 h2 h3
    exact ⟨i, _, rfl, by simpa using h1, by simpa using h2, by simpa using h3, rfl⟩
def modesP : List (Nat × Value) := (List.range 17).map fun k => (k, .agg (modesL.getD k []).toArray)
theorem fill_modes : Instr.fill (fun i => some (i * 6, 6)) ((Array.range (17 * 6)).map ((Value.agg #[.string ⟨#[]⟩, .int .i64 0, .int .i64 0, .int .i64 0, .nilFunc, .nilFunc]).cells[· % (Value.agg #[.string ⟨#[]⟩, .int .i64 0, .int .i64 0, .int .i64 0, .nilFunc, .nilFunc]).cells.size]!)) modesP = some modesL.flatten.toArray := by kernel_rfl
theorem run_modes (w : World) : (Instr.buildSlice 130 17 modesP.toArray).run Tryz.prog w = .ok (.slice (some ⟨w.heap.size, 0, none⟩) 17 17) (w.alloc (.cells modesL.flatten.toArray 83)) := by
  obtain ⟨i, z, hi, hs, _, hz, rfl⟩ := info34
  refine run_buildSlice w 130 83 17 _ _ i _ (by kernel_rfl) hi hz (by rw [hs]; decide) (by rw [hs]; decide) ?_
  rw [hs]
  exact fill_modes
set_option maxHeartbeats 1600000 in
set_option maxRecDepth 100000 in
theorem modes_ok (w : World) : Calls Tryz.prog 66 #[] w fun e w' => Hid (e = .returned (.slice (some ⟨w.heap.size, 0, none⟩) 17 17) ∧ w' = w.alloc (.cells modesL.flatten.toArray 83)) := by
  have r1 : ∀ (s : ByteArray) (a b c : Int) (g : Nat) (w : World), (Instr.build 83 #[(0, .string s), (1, .int .i64 a), (2, .int .i64 b), (3, .int .i64 c), (4, .nilFunc), (5, .func (.func g) #[] #[])]).run Tryz.prog w = .ok (.agg #[.string s, .int .i64 a, .int .i64 b, .int .i64 c, .nilFunc, .func (.func g) #[] #[]]) w := fun s a b c g w => run_build w _ _ _ (built34 s a b c g)
  have r2 : ∀ (s : ByteArray) (a b c : Int) (f g : Nat) (w : World), (Instr.build 83 #[(0, .string s), (1, .int .i64 a), (2, .int .i64 b), (3, .int .i64 c), (4, .func (.func f) #[] #[]), (5, .func (.func g) #[] #[])]).run Tryz.prog w = .ok (.agg #[.string s, .int .i64 a, .int .i64 b, .int .i64 c, .func (.func f) #[] #[], .func (.func g) #[] #[]]) w := fun s a b c f g w => run_build w _ _ _ (built34f s a b c f g)
  have r3 := run_modes w
  rw [show modesP.toArray = #[(0, .agg #[.string ⟨#[101, 99, 98]⟩, .int .i64 1, .int .i64 0, .int .i64 16, .nilFunc, .func (.func 86) #[] #[]]), (1, .agg #[.string ⟨#[99, 98, 99, 45, 110, 117, 108, 108]⟩, .int .i64 1, .int .i64 0, .int .i64 16, .func (.func 87) #[] #[], .func (.func 88) #[] #[]]), (2, .agg #[.string ⟨#[99, 98, 99, 45, 112, 108, 97, 105, 110]⟩, .int .i64 1, .int .i64 0, .int .i64 16, .func (.func 89) #[] #[], .func (.func 88) #[] #[]]), (3, .agg #[.string ⟨#[99, 98, 99, 45, 112, 108, 97, 105, 110, 54, 52]⟩, .int .i64 1, .int .i64 0, .int .i64 16, .func (.func 90) #[] #[], .func (.func 88) #[] #[]]), (4, .agg #[.string ⟨#[99, 98, 99, 45, 112, 108, 97, 105, 110, 54, 52, 98, 101]⟩, .int .i64 1, .int .i64 0, .int .i64 16, .func (.func 91) #[] #[], .func (.func 88) #[] #[]]), (5, .agg #[.string ⟨#[99, 98, 99, 45, 98, 101, 110, 98, 105]⟩, .int .i64 1, .int .i64 0, .int .i64 16, .func (.func 92) #[] #[], .func (.func 88) #[] #[]]), (6, .agg #[.string ⟨#[99, 98, 99, 45, 101, 115, 115, 105, 118, 58, 115, 104, 97, 50, 53, 54]⟩, .int .i64 1, .int .i64 0, .int .i64 16, .func (.func 93) #[] #[], .func (.func 88) #[] #[]]), (7, .agg #[.string ⟨#[99, 98, 99, 45, 101, 98, 111, 105, 118]⟩, .int .i64 1, .int .i64 0, .int .i64 16, .func (.func 94) #[] #[], .func (.func 88) #[] #[]]), (8, .agg #[.string ⟨#[99, 98, 99, 45, 101, 108, 101, 112, 104, 97, 110, 116]⟩, .int .i64 2, .int .i64 0, .int .i64 16, .func (.func 94) #[] #[], .func (.func 95) #[] #[]]), (9, .agg #[.string ⟨#[99, 98, 99, 45, 116, 99, 119]⟩, .int .i64 1, .int .i64 32, .int .i64 16, .func (.func 96) #[] #[], .func (.func 97) #[] #[]]), (10, .agg #[.string ⟨#[120, 116, 115, 45, 112, 108, 97, 105, 110]⟩, .int .i64 2, .int .i64 0, .int .i64 1, .func (.func 89) #[] #[], .func (.func 98) #[] #[]]), (11, .agg #[.string ⟨#[120, 116, 115, 45, 112, 108, 97, 105, 110, 54, 52]⟩, .int .i64 2, .int .i64 0, .int .i64 1, .func (.func 90) #[] #[], .func (.func 98) #[] #[]]), (12, .agg #[.string ⟨#[120, 116, 115, 45, 112, 108, 97, 105, 110, 54, 52, 98, 101]⟩, .int .i64 2, .int .i64 0, .int .i64 1, .func (.func 91) #[] #[], .func (.func 98) #[] #[]]), (13, .agg #[.string ⟨#[120, 116, 115, 45, 101, 115, 115, 105, 118, 58, 115, 104, 97, 50, 53, 54]⟩, .int .i64 2, .int .i64 0, .int .i64 1, .func (.func 93) #[] #[], .func (.func 98) #[] #[]]), (14, .agg #[.string ⟨#[108, 114, 119, 45, 98, 101, 110, 98, 105]⟩, .int .i64 1, .int .i64 16, .int .i64 16, .func (.func 92) #[] #[], .func (.func 99) #[] #[]]), (15, .agg #[.string ⟨#[104, 99, 116, 114, 50, 45, 112, 108, 97, 105, 110]⟩, .int .i64 1, .int .i64 0, .int .i64 1, .func (.func 89) #[] #[], .func (.func 100) #[] #[]]), (16, .agg #[.string ⟨#[104, 99, 116, 114, 50, 45, 112, 108, 97, 105, 110, 54, 52]⟩, .int .i64 1, .int .i64 0, .int .i64 1, .func (.func 90) #[] #[], .func (.func 100) #[] #[]])] from rfl] at r3
  obtain ⟨CS, HCS⟩ : ∃ x, Hid (modesL.flatten.toArray = x) := ⟨_, rfl⟩
  rw [HCS.out] at r3
  rw [HCS.out]
  go_enter Tryz.func66, Tryz.ntmps66
  go_wp2
  go_ret
  exact ⟨rfl, by rw [← HCS.out]; rfl⟩
end Go.Proofs.YtcnikfikpnnblaaGreatDoor
namespace Go.Proofs.YtcnikfikpnnblaaGreatDoor.Dg
open Go.RowKit
set_option linter.unusedVariables false

/-- The eight words of a round. -/
structure Eight where
  (a b c d e f g k : Int)
def Eight.list (s : Eight) : List Int := [s.a, s.b, s.c, s.d, s.e, s.f, s.g, s.k]
def Eight.cells (s : Eight) : List Value := s.list.map (Value.int .u64)
def Eight.map (f : Int → Int) (s : Eight) : Eight := ⟨f s.a, f s.b, f s.c, f s.d, f s.e, f s.f, f s.g, f s.k⟩
def Eight.zip (f : Int → Int → Int) (s t : Eight) : Eight := ⟨f s.a t.a, f s.b t.b, f s.c t.c, f s.d t.d, f s.e t.e, f s.f t.f, f s.g t.g, f s.k t.k⟩

theorem val_eq {k : IntKind} {x y : Int} (h : x = y) : Value.int k x = Value.int k y := by rw [h]
def t1_32 (s : Eight) (kc wv : Int) : Int := (s.k + (bits .xor .u32 (bits .xor .u32 (rotl32 s.e 26) (rotl32 s.e 21)) (rotl32 s.e 7)) + (bits .xor .u32 (bits .and .u32 s.e s.f) (bits .and .u32 (bits .xor .u32 (if IntKind.u32.signed = true then -1 else IntKind.u32.max) s.e) s.g)) + kc / 4294967296 + wv) % 4294967296
def t2_32 (s : Eight) : Int := ((bits .xor .u32 (bits .xor .u32 (rotl32 s.a 30) (rotl32 s.a 19)) (rotl32 s.a 10)) + (bits .xor .u32 (bits .xor .u32 (bits .and .u32 s.a s.b) (bits .and .u32 s.a s.c)) (bits .and .u32 s.b s.c))) % 4294967296
def round32 (s : Eight) (kc wv : Int) : Eight := ⟨(t1_32 s kc wv + t2_32 s) % 4294967296, s.a, s.b, s.c, (s.d + t1_32 s kc wv) % 4294967296, s.e, s.f, s.g⟩
def rounds32 (C W : Nat → Int) : Nat → Eight → Eight
  | 0, s => s
  | t + 1, s => round32 (rounds32 C W t s) (C t) (W t)

end Go.Proofs.YtcnikfikpnnblaaGreatDoor.Dg
namespace Go.Proofs.YtcnikfikpnnblaaGreatDoor.Dg
open Go.RowKit
set_option linter.unusedVariables false

theorem lt_of_cell {w : World} {a : Addr} {v : Value} (h : w.cell? a = some v) : a.block < w.heap.size := by
  by_cases hb : a.block < w.heap.size
  · exact hb
  · simp [World.cell?, Array.getElem?_eq_none (Nat.le_of_not_lt hb)] at h
/-- Cells outside what is touched read as they did. -/
theorem Touch.outside {w v : World} {g o n : Nat} (h : Touch w v g o n) {b p : Nat} {x : Value} (hx : w.cell? ⟨b, p, none⟩ = some x) (hs : b ≠ g ∨ p < o ∨ o + n ≤ p) : v.cell? ⟨b, p, none⟩ = some x := by
  by_cases hb : b = g
  · subst hb
    rw [h.cell p (by omega)]
    exact hx
  · rw [h.far (p := ⟨b, p, none⟩) (lt_of_cell hx) hb]
    exact hx
theorem Touch.thereFar {w v : World} {g o n : Nat} (h : Touch w v g o n) {b o' n' : Nat} (ht : w.there b o' n') (hb : b < w.heap.size) (hne : b ≠ g) : v.there b o' n' := fun j hj => by
  rw [h.far (p := ⟨b, o' + j, none⟩) hb hne, h.farFrozen (p := ⟨b, o' + j, none⟩) hb hne]
  exact ht j hj
/-- A word of a block of 64 bytes; the words that follow. -/
def word32 (B : Nat → Int) (t : Nat) : Int := bits .or .u32 (bits .or .u32 (bits .or .u32 (B (4 * t) % 4294967296 * 16777216 % 4294967296) (B (4 * t + 1) % 4294967296 * 65536 % 4294967296)) (B (4 * t + 2) % 4294967296 * 256 % 4294967296)) (B (4 * t + 3) % 4294967296)
def lo1_32 (x : Int) : Int := bits .xor .u32 (bits .xor .u32 (rotl32 x 15) (rotl32 x 13)) (x / 1024)
def lo0_32 (x : Int) : Int := bits .xor .u32 (bits .xor .u32 (rotl32 x 25) (rotl32 x 14)) (x / 8)
def sched32 (B : Nat → Int) (t : Nat) : Int :=
  if t < 16 then word32 B t else (lo1_32 (sched32 B (t - 2)) + sched32 B (t - 7) + lo0_32 (sched32 B (t - 15)) + sched32 B (t - 16)) % 4294967296
termination_by t
decreasing_by all_goals omega
def block32 (C B : Nat → Int) (s : Eight) : Eight := Eight.zip (fun h x => (h + x) % 4294967296) s (rounds32 C (sched32 B) 64 ⟨s.a % 4294967296, s.b % 4294967296, s.c % 4294967296, s.d % 4294967296, s.e % 4294967296, s.f % 4294967296, s.g % 4294967296, s.k % 4294967296⟩)
def takes32 (C B : Nat → Int) (s : Eight) : Nat → Eight
  | 0 => s
  | i + 1 => block32 C (fun j => B (64 * i + j)) (takes32 C B s i)

end Go.Proofs.YtcnikfikpnnblaaGreatDoor.Dg
namespace Go.Proofs.YtcnikfikpnnblaaGreatDoor.Dg
open Go.RowKit
set_option linter.unusedVariables false

def t1_64 (s : Eight) (kc wv : Int) : Int := (s.k + (bits .xor .u64 (bits .xor .u64 (rotl64 s.e 50) (rotl64 s.e 46)) (rotl64 s.e 23)) + (bits .xor .u64 (bits .and .u64 s.e s.f) (bits .and .u64 (bits .xor .u64 (if IntKind.u64.signed = true then -1 else IntKind.u64.max) s.e) s.g)) + kc + wv) % 18446744073709551616
def t2_64 (s : Eight) : Int := ((bits .xor .u64 (bits .xor .u64 (rotl64 s.a 36) (rotl64 s.a 30)) (rotl64 s.a 25)) + (bits .xor .u64 (bits .xor .u64 (bits .and .u64 s.a s.b) (bits .and .u64 s.a s.c)) (bits .and .u64 s.b s.c))) % 18446744073709551616
def round64 (s : Eight) (kc wv : Int) : Eight := ⟨(t1_64 s kc wv + t2_64 s) % 18446744073709551616, s.a, s.b, s.c, (s.d + t1_64 s kc wv) % 18446744073709551616, s.e, s.f, s.g⟩
def rounds64 (C W : Nat → Int) : Nat → Eight → Eight
  | 0, s => s
  | t + 1, s => round64 (rounds64 C W t s) (C t) (W t)

end Go.Proofs.YtcnikfikpnnblaaGreatDoor.Dg
namespace Go.Proofs.YtcnikfikpnnblaaGreatDoor.Dg
open Go.RowKit
set_option linter.unusedVariables false
/-- A word of a block of 128 bytes, as far as its first k bytes; the words that follow. -/
def part64 (B : Nat → Int) (t : Nat) : Nat → Int
  | 0 => 0
  | k + 1 => bits .or .u64 (part64 B t k * 256 % 18446744073709551616) (B (8 * t + k) % 18446744073709551616)
def lo1_64 (x : Int) : Int := bits .xor .u64 (bits .xor .u64 (rotl64 x 45) (rotl64 x 3)) (x / 64)
def lo0_64 (x : Int) : Int := bits .xor .u64 (bits .xor .u64 (rotl64 x 63) (rotl64 x 56)) (x / 128)
def sched64 (B : Nat → Int) (t : Nat) : Int :=
  if t < 16 then part64 B t 8 else (lo1_64 (sched64 B (t - 2)) + sched64 B (t - 7) + lo0_64 (sched64 B (t - 15)) + sched64 B (t - 16)) % 18446744073709551616
termination_by t
decreasing_by all_goals omega
def block64 (C B : Nat → Int) (s : Eight) : Eight := Eight.zip (fun h x => (h + x) % 18446744073709551616) s (rounds64 C (sched64 B) 80 s)
def takes64 (C B : Nat → Int) (s : Eight) : Nat → Eight
  | 0 => s
  | i + 1 => block64 C (fun j => B (128 * i + j)) (takes64 C B s i)

end Go.Proofs.YtcnikfikpnnblaaGreatDoor.Dg
namespace Go.Proofs.YtcnikfikpnnblaaGreatDoor.Dg
open Go.RowKit
set_option linter.unusedVariables false
/-- What a block function of the document's answer has in memory: the words that it was handed (block N), the constants (block N + 1, where there are some), room for what it answers (rb), the schedule (wb). -/
structure TX (w wr : World) (H : List Value) (K : Nat → Option Value) (rb wb M : Nat) (G : Nat → Value) : Prop where
  below : Below w.heap.size w wr
  nb : w.heap.size < rb ∧ w.heap.size < wb ∧ rb ≠ wb ∧ wb ≠ w.heap.size + 1 ∨ w.heap.size < rb ∧ w.heap.size < wb ∧ rb ≠ wb ∧ ∀ t, K t = none
  sz : rb < wr.heap.size ∧ wb < wr.heap.size ∧ w.heap.size < wr.heap.size
  h : wr.rangeAt w.heap.size 0 H
  k : ∀ t v, K t = some v → wr.cell? ⟨w.heap.size + 1, t, none⟩ = some v
  res : wr.there rb 0 8
  wth : wr.there wb 0 M
  fill : ∀ j, j < M → wr.cell? ⟨wb, j, none⟩ = some (G j)
theorem TX.drewN {w wr : World} {H : List Value} {K : Nat → Option Value} {rb wb M : Nat} {G : Nat → Value} (h : TX w wr H K rb wb M G) (n : Nat) : TX w (wr.drewN n) H K rb wb M G :=
  ⟨⟨h.below.os, h.below.tape, h.below.output, h.below.size, h.below.block⟩, h.nb, h.sz, h.h, h.k, h.res, h.wth, h.fill⟩
theorem TX.drew {w wr : World} {H : List Value} {K : Nat → Option Value} {rb wb M : Nat} {G : Nat → Value} (h : TX w wr H K rb wb M G) : TX w wr.drew H K rb wb M G :=
  ⟨⟨h.below.os, h.below.tape, h.below.output, h.below.size, h.below.block⟩, h.nb, h.sz, h.h, h.k, h.res, h.wth, h.fill⟩
theorem TX.congr {w wr : World} {H : List Value} {K : Nat → Option Value} {rb wb M : Nat} {G G' : Nat → Value} (h : TX w wr H K rb wb M G) (e : ∀ j, j < M → G j = G' j) : TX w wr H K rb wb M G' :=
  ⟨h.below, h.nb, h.sz, h.h, h.k, h.res, h.wth, fun j hj => by rw [← e j hj]; exact h.fill j hj⟩
theorem setCell_other (w : World) (b o b' o' : Nat) (u : Value) (hne : b' ≠ b) : (w.setCell ⟨b, o, none⟩ u).cell? ⟨b', o', none⟩ = w.cell? ⟨b', o', none⟩ :=
  World.cell?_of_block (w := w) (Below.heap_setCell w ⟨b, o, none⟩ u b' (by simpa using hne))
theorem TX.put {w wr : World} {H : List Value} {K : Nat → Option Value} {rb wb M : Nat} {G : Nat → Value} (h : TX w wr H K rb wb M G) (t : Nat) (ht : t < M) (u : Value) : TX w (wr.setCell ⟨wb, t, none⟩ u) H K rb wb M (fun j => if j = t then u else G j) := by
  have n1 : w.heap.size < rb ∧ w.heap.size < wb ∧ rb ≠ wb := by rcases h.nb with q | q <;> exact ⟨q.1, q.2.1, q.2.2.1⟩
  refine ⟨h.below.setCell (by show _ ≤ wb; omega) u, h.nb, by simpa [World.setCell] using h.sz, fun j v hv => ?_, fun j v hv => ?_, World.there_setCells h.res wb t [u], World.there_setCells h.wth wb t [u], fun j hj => ?_⟩
  · rw [setCell_other wr wb t _ _ u (by omega)]
    exact h.h j v hv
  · rcases h.nb with q | q
    · rw [setCell_other wr wb t _ _ u (by omega)]
      exact h.k j v hv
    · rw [q.2.2.2 j] at hv
      cases hv
  · by_cases e : j = t
    · subst e
      rw [if_pos rfl]
      have := (h.wth j hj).1
      rw [Nat.zero_add] at this
      exact World.cell?_setCell_same' _ _ _ this
    · rw [if_neg e]
      have := World.cell?_setCells_out wb [u] t wr ⟨wb, j, none⟩ (fun _ _ => by show j < t ∨ t + 1 ≤ j; omega)
      exact this.trans (h.fill j hj)
end Go.Proofs.YtcnikfikpnnblaaGreatDoor.Dg
