import Derived.Test.YtcopkohklgbpgaaDoorBegin
namespace Go.Proofs.YtcopkohklgbpgaaDoor
open Go.RowKit
/-- A rotation to the left by s. -/
def rotl32 (x : Int) (s : Nat) : Int := bits .or .u32 (x * 2 ^ s % 4294967296) (x / 2 ^ (32 - s))
def rotl64 (x : Int) (s : Nat) : Int := bits .or .u64 (x * 2 ^ s % 18446744073709551616) (x / 2 ^ (64 - s))
theorem wrap64 (x : Int) (h0 : 0 ≤ x) (h1 : x ≤ 64) : IntKind.u64.wrap x = x := by
  simp [IntKind.wrap, IntKind.bits, IntKind.signed]
  omega
set_option maxHeartbeats 400000 in
theorem rot32_core (x k s : Int) (w : World) (hb : bits .and .u64 (IntKind.u64.wrap k) 31 = s) (h0 : 0 ≤ s) (h1 : s ≤ 32) : Calls Tryd.prog 60 #[.int .u32 x, .int .i64 k] w fun e w' => e = .returned (.int .u32 (rotl32 x s.toNat)) ∧ w' = w := by
  have hs : IntKind.u64.wrap (32 - s) = 32 - s := wrap64 _ (by omega) (by omega)
  have h2 : 0 ≤ 32 - s := by omega
  go_enter Tryd.func60, Tryd.ntmps60
  go_wp2
  go_ret
  refine ⟨?_, rfl⟩
  have e2 : (32 - s).toNat = 32 - s.toNat := by omega
  rw [e2]
  exact rfl
set_option maxHeartbeats 400000 in
theorem rot64_core (x k s : Int) (w : World) (hb : bits .and .u64 (IntKind.u64.wrap k) 63 = s) (h0 : 0 ≤ s) (h1 : s ≤ 64) : Calls Tryd.prog 62 #[.int .u64 x, .int .i64 k] w fun e w' => e = .returned (.int .u64 (rotl64 x s.toNat)) ∧ w' = w := by
  have hs : IntKind.u64.wrap (64 - s) = 64 - s := wrap64 _ (by omega) (by omega)
  have h2 : 0 ≤ 64 - s := by omega
  go_enter Tryd.func62, Tryd.ntmps62
  go_wp2
  go_ret
  refine ⟨?_, rfl⟩
  have e2 : (64 - s).toNat = 64 - s.toNat := by omega
  rw [e2]
  exact rfl
theorem rot32_of {x k : Int} {w : World} (n : Nat) (hb : bits .and .u64 (IntKind.u64.wrap k) 31 = ((32 - n : Nat) : Int)) : Calls Tryd.prog 60 #[.int .u32 x, .int .i64 k] w fun e w' => e = .returned (.int .u32 (rotl32 x (32 - n))) ∧ w' = w := by
  have h := rot32_core x k ((32 - n : Nat) : Int) w hb (by omega) (by omega)
  simpa using h
theorem rot64_of {x k : Int} {w : World} (n : Nat) (hb : bits .and .u64 (IntKind.u64.wrap k) 63 = ((64 - n : Nat) : Int)) : Calls Tryd.prog 62 #[.int .u64 x, .int .i64 k] w fun e w' => e = .returned (.int .u64 (rotl64 x (64 - n))) ∧ w' = w := by
  have h := rot64_core x k ((64 - n : Nat) : Int) w hb (by omega) (by omega)
  simpa using h
end Go.Proofs.YtcopkohklgbpgaaDoor
