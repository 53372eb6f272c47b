import Derived.Test.YtmfnhdflmnmooaaWid
namespace Go.Proofs.Ytmfnhdflmnmooaa
open Go.RowKit
set_option linter.unusedVariables false
set_option linter.unusedSimpArgs false
set_option maxRecDepth 100000
set_option maxHeartbeats 3200000
theorem eq31n (x0 : Int) (x1 : Int) (w : World) : (Op.equalIn 9999 31 (.agg #[.int .i64 x0, .int .i64 x1]) (.agg #[.int .i64 x0, .int .i64 x1])).run Try.prog w = .ok true w := by
  have e2 : ∀ x : Int, (Op.equalIn 9998 2 (.int .i64 x) (.int .i64 x)).run Try.prog w = .ok true w := fun x => by
    rw [show (9998 : Nat) = 9997 + 1 from rfl, run_equalIn_int w 9997 2 .i64 .i64 x x Try.underlying2]
    simp
  have e3 : ∀ x : Int, (Op.equalIn 9998 3 (.int .i64 x) (.int .i64 x)).run Try.prog w = .ok true w := fun x => by
    rw [show (9998 : Nat) = 9997 + 1 from rfl, run_equalIn_int w 9997 3 .i64 .i64 x x Try.underlying3]
    simp
  have e22 : ∀ x : Int, (Op.equalIn 9998 22 (.int .u64 x) (.int .u64 x)).run Try.prog w = .ok true w := fun x => by
    rw [show (9998 : Nat) = 9997 + 1 from rfl, run_equalIn_int w 9997 22 .u64 .u64 x x Try.underlying22]
    simp
  have e4 : ∀ x : Bool, (Op.equalIn 9998 4 (.bool x) (.bool x)).run Try.prog w = .ok true w := fun x => by
    rw [show (9998 : Nat) = 9997 + 1 from rfl, run_equalIn_bool w 9997 4 x x Try.underlying4]
    simp
  have e9 : ∀ x : ByteArray, (Op.equalIn 9998 9 (.string x) (.string x)).run Try.prog w = .ok true w := fun x => by
    rw [show (9998 : Nat) = 9997 + 1 from rfl, run_equalIn_string w 9997 9 x x Try.underlying9]
    simp
  rw [show (9999 : Nat) = 9998 + 1 from rfl, Op.equalIn]
  simp only [Sem.run_bind, run_underlying Try.underlying31, Result.andThen_ok]
  go_simp
theorem eq24 (x0 : Int) (x1 : Int) (x2 : Int) (x3 : Int) (w : World) : (Op.equalIn 10000 24 (.agg #[.int .i64 x0, .int .u64 x1, .int .i64 x2, .int .i64 x3]) (.agg #[.int .i64 x0, .int .u64 x1, .int .i64 x2, .int .i64 x3])).run Try.prog w = .ok true w := by
  have e2 : ∀ x : Int, (Op.equalIn 9999 2 (.int .i64 x) (.int .i64 x)).run Try.prog w = .ok true w := fun x => by
    rw [show (9999 : Nat) = 9998 + 1 from rfl, run_equalIn_int w 9998 2 .i64 .i64 x x Try.underlying2]
    simp
  have e3 : ∀ x : Int, (Op.equalIn 9999 3 (.int .i64 x) (.int .i64 x)).run Try.prog w = .ok true w := fun x => by
    rw [show (9999 : Nat) = 9998 + 1 from rfl, run_equalIn_int w 9998 3 .i64 .i64 x x Try.underlying3]
    simp
  have e22 : ∀ x : Int, (Op.equalIn 9999 22 (.int .u64 x) (.int .u64 x)).run Try.prog w = .ok true w := fun x => by
    rw [show (9999 : Nat) = 9998 + 1 from rfl, run_equalIn_int w 9998 22 .u64 .u64 x x Try.underlying22]
    simp
  have e4 : ∀ x : Bool, (Op.equalIn 9999 4 (.bool x) (.bool x)).run Try.prog w = .ok true w := fun x => by
    rw [show (9999 : Nat) = 9998 + 1 from rfl, run_equalIn_bool w 9998 4 x x Try.underlying4]
    simp
  have e9 : ∀ x : ByteArray, (Op.equalIn 9999 9 (.string x) (.string x)).run Try.prog w = .ok true w := fun x => by
    rw [show (9999 : Nat) = 9998 + 1 from rfl, run_equalIn_string w 9998 9 x x Try.underlying9]
    simp
  rw [show (10000 : Nat) = 9999 + 1 from rfl, Op.equalIn]
  simp only [Sem.run_bind, run_underlying Try.underlying24, Result.andThen_ok]
  go_simp
theorem eq26 (x0 : Int) (x1 : ByteArray) (x2 : ByteArray) (w : World) : (Op.equalIn 10000 26 (.agg #[.int .i64 x0, .string x1, .string x2]) (.agg #[.int .i64 x0, .string x1, .string x2])).run Try.prog w = .ok true w := by
  have e2 : ∀ x : Int, (Op.equalIn 9999 2 (.int .i64 x) (.int .i64 x)).run Try.prog w = .ok true w := fun x => by
    rw [show (9999 : Nat) = 9998 + 1 from rfl, run_equalIn_int w 9998 2 .i64 .i64 x x Try.underlying2]
    simp
  have e3 : ∀ x : Int, (Op.equalIn 9999 3 (.int .i64 x) (.int .i64 x)).run Try.prog w = .ok true w := fun x => by
    rw [show (9999 : Nat) = 9998 + 1 from rfl, run_equalIn_int w 9998 3 .i64 .i64 x x Try.underlying3]
    simp
  have e22 : ∀ x : Int, (Op.equalIn 9999 22 (.int .u64 x) (.int .u64 x)).run Try.prog w = .ok true w := fun x => by
    rw [show (9999 : Nat) = 9998 + 1 from rfl, run_equalIn_int w 9998 22 .u64 .u64 x x Try.underlying22]
    simp
  have e4 : ∀ x : Bool, (Op.equalIn 9999 4 (.bool x) (.bool x)).run Try.prog w = .ok true w := fun x => by
    rw [show (9999 : Nat) = 9998 + 1 from rfl, run_equalIn_bool w 9998 4 x x Try.underlying4]
    simp
  have e9 : ∀ x : ByteArray, (Op.equalIn 9999 9 (.string x) (.string x)).run Try.prog w = .ok true w := fun x => by
    rw [show (9999 : Nat) = 9998 + 1 from rfl, run_equalIn_string w 9998 9 x x Try.underlying9]
    simp
  rw [show (10000 : Nat) = 9999 + 1 from rfl, Op.equalIn]
  simp only [Sem.run_bind, run_underlying Try.underlying26, Result.andThen_ok]
  go_simp
theorem eq49 (x0 : Int) (x1 : ByteArray) (x2 : ByteArray) (x3 : ByteArray) (x4 : ByteArray) (w : World) : (Op.equalIn 10000 38 (.agg #[.int .u64 x0, .string x1, .string x2, .string x3, .string x4]) (.agg #[.int .u64 x0, .string x1, .string x2, .string x3, .string x4])).run Try.prog w = .ok true w := by
  have e2 : ∀ x : Int, (Op.equalIn 9999 2 (.int .i64 x) (.int .i64 x)).run Try.prog w = .ok true w := fun x => by
    rw [show (9999 : Nat) = 9998 + 1 from rfl, run_equalIn_int w 9998 2 .i64 .i64 x x Try.underlying2]
    simp
  have e3 : ∀ x : Int, (Op.equalIn 9999 3 (.int .i64 x) (.int .i64 x)).run Try.prog w = .ok true w := fun x => by
    rw [show (9999 : Nat) = 9998 + 1 from rfl, run_equalIn_int w 9998 3 .i64 .i64 x x Try.underlying3]
    simp
  have e22 : ∀ x : Int, (Op.equalIn 9999 22 (.int .u64 x) (.int .u64 x)).run Try.prog w = .ok true w := fun x => by
    rw [show (9999 : Nat) = 9998 + 1 from rfl, run_equalIn_int w 9998 22 .u64 .u64 x x Try.underlying22]
    simp
  have e4 : ∀ x : Bool, (Op.equalIn 9999 4 (.bool x) (.bool x)).run Try.prog w = .ok true w := fun x => by
    rw [show (9999 : Nat) = 9998 + 1 from rfl, run_equalIn_bool w 9998 4 x x Try.underlying4]
    simp
  have e9 : ∀ x : ByteArray, (Op.equalIn 9999 9 (.string x) (.string x)).run Try.prog w = .ok true w := fun x => by
    rw [show (9999 : Nat) = 9998 + 1 from rfl, run_equalIn_string w 9998 9 x x Try.underlying9]
    simp
  rw [show (10000 : Nat) = 9999 + 1 from rfl, Op.equalIn]
  simp only [Sem.run_bind, run_underlying Try.underlying38, Result.andThen_ok]
  go_simp
theorem eq47 (x0 : Int) (x1 : Int) (x2 : Int) (x3 : Int) (x4 : ByteArray) (x5 : ByteArray) (x6 : Int) (x7 : Int) (x8 : Int) (w : World) : (Op.equalIn 10000 63 (.agg #[.int .i64 x0, .int .i64 x1, .int .i64 x2, .int .i64 x3, .string x4, .string x5, .int .i64 x6, .int .i64 x7, .int .i64 x8]) (.agg #[.int .i64 x0, .int .i64 x1, .int .i64 x2, .int .i64 x3, .string x4, .string x5, .int .i64 x6, .int .i64 x7, .int .i64 x8])).run Try.prog w = .ok true w := by
  have e2 : ∀ x : Int, (Op.equalIn 9999 2 (.int .i64 x) (.int .i64 x)).run Try.prog w = .ok true w := fun x => by
    rw [show (9999 : Nat) = 9998 + 1 from rfl, run_equalIn_int w 9998 2 .i64 .i64 x x Try.underlying2]
    simp
  have e3 : ∀ x : Int, (Op.equalIn 9999 3 (.int .i64 x) (.int .i64 x)).run Try.prog w = .ok true w := fun x => by
    rw [show (9999 : Nat) = 9998 + 1 from rfl, run_equalIn_int w 9998 3 .i64 .i64 x x Try.underlying3]
    simp
  have e22 : ∀ x : Int, (Op.equalIn 9999 22 (.int .u64 x) (.int .u64 x)).run Try.prog w = .ok true w := fun x => by
    rw [show (9999 : Nat) = 9998 + 1 from rfl, run_equalIn_int w 9998 22 .u64 .u64 x x Try.underlying22]
    simp
  have e4 : ∀ x : Bool, (Op.equalIn 9999 4 (.bool x) (.bool x)).run Try.prog w = .ok true w := fun x => by
    rw [show (9999 : Nat) = 9998 + 1 from rfl, run_equalIn_bool w 9998 4 x x Try.underlying4]
    simp
  have e9 : ∀ x : ByteArray, (Op.equalIn 9999 9 (.string x) (.string x)).run Try.prog w = .ok true w := fun x => by
    rw [show (9999 : Nat) = 9998 + 1 from rfl, run_equalIn_string w 9998 9 x x Try.underlying9]
    simp
  have e31 : ∀ x y : Int, (Op.equalIn 9999 31 (.agg #[.int .i64 x, .int .i64 y]) (.agg #[.int .i64 x, .int .i64 y])).run Try.prog w = .ok true w := fun x y => eq31n x y w
  rw [show (10000 : Nat) = 9999 + 1 from rfl, Op.equalIn]
  simp only [Sem.run_bind, run_underlying Try.underlying63, Result.andThen_ok]
  go_simp
theorem eq33 (x0 : Bool) (x1 : Int) (x2 : Int) (x3 : Bool) (x4 : Int) (x5 : Int) (x6 : Int) (x7 : Int) (x8 : Int) (x9 : Bool) (x10 : Int) (x11 : ByteArray) (w : World) : (Op.equalIn 10000 33 (.agg #[.bool x0, .int .u64 x1, .int .u64 x2, .bool x3, .int .i64 x4, .int .u64 x5, .int .u64 x6, .int .i64 x7, .int .i64 x8, .bool x9, .int .u64 x10, .string x11]) (.agg #[.bool x0, .int .u64 x1, .int .u64 x2, .bool x3, .int .i64 x4, .int .u64 x5, .int .u64 x6, .int .i64 x7, .int .i64 x8, .bool x9, .int .u64 x10, .string x11])).run Try.prog w = .ok true w := by
  have e2 : ∀ x : Int, (Op.equalIn 9999 2 (.int .i64 x) (.int .i64 x)).run Try.prog w = .ok true w := fun x => by
    rw [show (9999 : Nat) = 9998 + 1 from rfl, run_equalIn_int w 9998 2 .i64 .i64 x x Try.underlying2]
    simp
  have e3 : ∀ x : Int, (Op.equalIn 9999 3 (.int .i64 x) (.int .i64 x)).run Try.prog w = .ok true w := fun x => by
    rw [show (9999 : Nat) = 9998 + 1 from rfl, run_equalIn_int w 9998 3 .i64 .i64 x x Try.underlying3]
    simp
  have e22 : ∀ x : Int, (Op.equalIn 9999 22 (.int .u64 x) (.int .u64 x)).run Try.prog w = .ok true w := fun x => by
    rw [show (9999 : Nat) = 9998 + 1 from rfl, run_equalIn_int w 9998 22 .u64 .u64 x x Try.underlying22]
    simp
  have e4 : ∀ x : Bool, (Op.equalIn 9999 4 (.bool x) (.bool x)).run Try.prog w = .ok true w := fun x => by
    rw [show (9999 : Nat) = 9998 + 1 from rfl, run_equalIn_bool w 9998 4 x x Try.underlying4]
    simp
  have e9 : ∀ x : ByteArray, (Op.equalIn 9999 9 (.string x) (.string x)).run Try.prog w = .ok true w := fun x => by
    rw [show (9999 : Nat) = 9998 + 1 from rfl, run_equalIn_string w 9998 9 x x Try.underlying9]
    simp
  have e31 : ∀ x y : Int, (Op.equalIn 9999 31 (.agg #[.int .i64 x, .int .i64 y]) (.agg #[.int .i64 x, .int .i64 y])).run Try.prog w = .ok true w := fun x y => eq31n x y w
  rw [show (10000 : Nat) = 9999 + 1 from rfl, Op.equalIn]
  simp only [Sem.run_bind, run_underlying Try.underlying33, Result.andThen_ok]
  go_simp
end Go.Proofs.Ytmfnhdflmnmooaa
