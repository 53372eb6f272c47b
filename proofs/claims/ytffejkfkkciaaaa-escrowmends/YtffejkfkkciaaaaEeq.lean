import Derived.Test.YtffejkfkkciaaaaBxe
import Derived.Laws.StructEq
import Derived.Laws.Tables
import Derived.KernelRfl
namespace Go.Proofs.Ytffejkfkkciaaaa
open Go.RowKit
set_option linter.unusedVariables false
set_option linter.unusedSimpArgs false
theorem Try.isAgg5' (w : World) : (isAgg 5).run Try.prog w = .ok false w := by kernel_rfl
theorem Try.sizeOf5' (w : World) : (Go.sizeOf 5).run Try.prog w = .ok 1 w := by kernel_rfl
theorem Try.underlying5' : Try.prog.underlying 5 = some (.int .u8) := by kernel_rfl
set_option maxHeartbeats 3200000 in
set_option maxRecDepth 100000 in
theorem eq4 (t : TypeId) (ht : Try.prog.underlying t = some (.array 4 5)) (x0 x1 x2 x3 y0 y1 y2 y3 : Int) (w : World) : (Op.equalIn 10000 t (.agg #[.int .u8 x0, .int .u8 x1, .int .u8 x2, .int .u8 x3]) (.agg #[.int .u8 y0, .int .u8 y1, .int .u8 y2, .int .u8 y3])).run Try.prog w = .ok (x0 == y0 && (x1 == y1 && (x2 == y2 && x3 == y3))) w := by
  have u5 := Try.underlying5'
  have a5 := Try.isAgg5'
  have z5 := Try.sizeOf5'
  have ut := fun w => run_underlying ht w
  have e : ∀ x y : Int, (Op.equalIn 9999 5 (.int .u8 x) (.int .u8 y)).run Try.prog w = .ok (x == y) w := fun x y => by
    rw [show (9999 : Nat) = 9998 + 1 from rfl, run_equalIn_int w 9998 5 .u8 .u8 x y u5]
  rw [show (10000 : Nat) = 9999 + 1 from rfl, Op.equalIn]
  simp only [Sem.run_bind, run_underlying ht, Result.andThen_ok]
  simp only [Std.Legacy.Range.forIn_eq_forIn_range', Std.Legacy.Range.size, Nat.sub_zero, Nat.add_sub_cancel, Nat.div_one, List.range'_succ, List.range'_zero, List.forIn_cons, List.forIn_nil]
  go_simp
  by_cases h0 : x0 = y0 <;> by_cases h1 : x1 = y1 <;> by_cases h2 : x2 = y2 <;> by_cases h3 : x3 = y3 <;> simp [h0, h1, h2, h3]
theorem four (l : List F) (hl : l.length = 4) : ∃ a b c d, l = [a, b, c, d] := by
  match l, hl with
  | [a, b, c, d], _ => exact ⟨a, b, c, d, rfl⟩
theorem eql4 (t : TypeId) (ht : Try.prog.underlying t = some (.array 4 5)) (l m : List F) (hl : l.length = 4) (hm : m.length = 4) (w : World) : (binOp .eql t (.agg (fc l).toArray) (.agg (fc m).toArray)).run Try.prog w = .ok (.bool (decide (l = m))) w := by
  obtain ⟨a, b, c, d, rfl⟩ := four l hl
  obtain ⟨a', b', c', d', rfl⟩ := four m hm
  have h := eq4 t ht (a.1 : Nat) (b.1 : Nat) (c.1 : Nat) (d.1 : Nat) (a'.1 : Nat) (b'.1 : Nat) (c'.1 : Nat) (d'.1 : Nat) w
  rw [run_eql_struct]
  have h2 : (Op.equalIn 10000 t (.agg (fc [a, b, c, d]).toArray) (.agg (fc [a', b', c', d']).toArray)).run Try.prog w = _ := h
  rw [h2, Result.andThen_ok]
  congr 2
  have q : ∀ x y : F, ((x.1 : Nat) : Int) = ((y.1 : Nat) : Int) ↔ x = y := fun x y => ⟨fun e => Fin.ext (by omega), fun e => by rw [e]⟩
  simp only [List.cons.injEq, and_true]
  by_cases h0 : a = a' <;> by_cases h1 : b = b' <;> by_cases h2 : c = c' <;> by_cases h3 : d = d' <;> simp [q, h0, h1, h2, h3]
theorem Try.und77 : Try.prog.underlying 77 = some (.array 4 5) := by kernel_rfl
theorem Try.und51 : Try.prog.underlying 51 = some (.array 4 5) := by kernel_rfl
end Go.Proofs.Ytffejkfkkciaaaa
