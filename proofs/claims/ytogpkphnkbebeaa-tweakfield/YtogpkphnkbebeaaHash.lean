import Derived.Test.YtogpkphnkbebeaaRow
namespace Go.Proofs.Ytogpkphnkbebeaa
open Go.RowKit Go.Proofs.Ytogpkphnkbebeaa.Fld
set_option linter.unusedVariables false
set_option linter.unusedSimpArgs false
theorem yieldsIf_build {P : Program} {ops : Array Oper} {S : World → Prop} {op : Oper} {a : Act} (hw : Region.wanted op (yielded ops a.tmps) = true) (ty : TypeId) (parts : Array (Nat × Operand)) (ho : op.op = .build ty parts) (cells : Array Value) (hb : P.built ty (parts.map fun (i, x) => (i, a.eval x)).toList = some cells) : YieldsIf P ops S op (.agg cells) a :=
  .inl ⟨hw, fun w _ => by
    have hrun := run_build (P := P) w ty (parts.map fun (i, x) => (i, a.eval x)) cells hb
    unfold execOp
    simp only [ho, Sem.run_bind, hrun, Result.andThen_ok, Sem.run_pure]⟩
theorem neq_same (v : BitVec 128) (u : World) : (binOp .neq 23 (.agg (BL v).toArray) (.agg (BL v).toArray)).run Try.prog u = .ok (.bool false) u := by
  have h := eqB_same v u
  unfold BV at h
  show (binOp .neq 23 (.agg #[.int .u8 (byV v 0 : Nat), .int .u8 (byV v 1 : Nat), .int .u8 (byV v 2 : Nat), .int .u8 (byV v 3 : Nat), .int .u8 (byV v 4 : Nat), .int .u8 (byV v 5 : Nat), .int .u8 (byV v 6 : Nat), .int .u8 (byV v 7 : Nat), .int .u8 (byV v 8 : Nat), .int .u8 (byV v 9 : Nat), .int .u8 (byV v 10 : Nat), .int .u8 (byV v 11 : Nat), .int .u8 (byV v 12 : Nat), .int .u8 (byV v 13 : Nat), .int .u8 (byV v 14 : Nat), .int .u8 (byV v 15 : Nat)]) (.agg #[.int .u8 (byV v 0 : Nat), .int .u8 (byV v 1 : Nat), .int .u8 (byV v 2 : Nat), .int .u8 (byV v 3 : Nat), .int .u8 (byV v 4 : Nat), .int .u8 (byV v 5 : Nat), .int .u8 (byV v 6 : Nat), .int .u8 (byV v 7 : Nat), .int .u8 (byV v 8 : Nat), .int .u8 (byV v 9 : Nat), .int .u8 (byV v 10 : Nat), .int .u8 (byV v 11 : Nat), .int .u8 (byV v 12 : Nat), .int .u8 (byV v 13 : Nat), .int .u8 (byV v 14 : Nat), .int .u8 (byV v 15 : Nat)])).run Try.prog u = _
  go_simp
theorem eql_same (v : BitVec 128) (u : World) : (binOp .eql 23 (.agg (BL v).toArray) (.agg (BL v).toArray)).run Try.prog u = .ok (.bool true) u := by
  have h := eqB_same v u
  unfold BV at h
  show (binOp .eql 23 (.agg #[.int .u8 (byV v 0 : Nat), .int .u8 (byV v 1 : Nat), .int .u8 (byV v 2 : Nat), .int .u8 (byV v 3 : Nat), .int .u8 (byV v 4 : Nat), .int .u8 (byV v 5 : Nat), .int .u8 (byV v 6 : Nat), .int .u8 (byV v 7 : Nat), .int .u8 (byV v 8 : Nat), .int .u8 (byV v 9 : Nat), .int .u8 (byV v 10 : Nat), .int .u8 (byV v 11 : Nat), .int .u8 (byV v 12 : Nat), .int .u8 (byV v 13 : Nat), .int .u8 (byV v 14 : Nat), .int .u8 (byV v 15 : Nat)]) (.agg #[.int .u8 (byV v 0 : Nat), .int .u8 (byV v 1 : Nat), .int .u8 (byV v 2 : Nat), .int .u8 (byV v 3 : Nat), .int .u8 (byV v 4 : Nat), .int .u8 (byV v 5 : Nat), .int .u8 (byV v 6 : Nat), .int .u8 (byV v 7 : Nat), .int .u8 (byV v 8 : Nat), .int .u8 (byV v 9 : Nat), .int .u8 (byV v 10 : Nat), .int .u8 (byV v 11 : Nat), .int .u8 (byV v 12 : Nat), .int .u8 (byV v 13 : Nat), .int .u8 (byV v 14 : Nat), .int .u8 (byV v 15 : Nat)])).run Try.prog u = _
  go_simp
theorem pvF_congr (h : BitVec 128) (f g : Nat → BitVec 128) (n : Nat) (e : ∀ i, i < n → f i = g i) : pvF h f n = pvF h g n := by
  induction n with
  | zero => rfl
  | succ n ih =>
    show D UP (pvF h f n ^^^ f n) h = D UP (pvF h g n ^^^ g n) h
    rw [ih fun i hi => e i (by omega), e n (by omega)]
theorem pvF_add (h : BitVec 128) (f g : Nat → BitVec 128) (n : Nat) : pvF h (fun i => f i ^^^ g i) n = pvF h f n ^^^ pvF h g n := by
  induction n with
  | zero => show 0#128 = 0#128 ^^^ 0#128; decide
  | succ n ih =>
    show D UP (pvF h (fun i => f i ^^^ g i) n ^^^ (f n ^^^ g n)) h = D UP (pvF h f n ^^^ f n) h ^^^ D UP (pvF h g n ^^^ g n) h
    rw [ih, x4, D_comm TP_cyc TU UT, D_add TP_cyc TU UT, D_comm TP_cyc TU UT h, D_comm TP_cyc TU UT h]
theorem Blks.less {w : World} {ao : Option Addr} {n m : Nat} {f : Nat → BitVec 128} (h : Blks w ao n f) (hm : m ≤ n) : Blks w ao m f := by
  rcases h with h | ⟨b, off, e, hlt, hc⟩
  · exact Or.inl (by omega)
  · exact Or.inr ⟨b, off, e, hlt, fun i hi => hc i (by omega)⟩
set_option maxHeartbeats 12800000 in
set_option maxRecDepth 100000 in
theorem hashes_ok (h a b : BitVec 128) (ao : Option Addr) (n0 cap : Nat) (f : Nat → BitVec 128) (w : World) (hB : Blks w ao n0 f) (hn : n0 ≤ cap) (hc : cap ≤ 9223372036854775807) : Calls Try.prog 3 #[BV h, BV a, BV b, .slice ao n0 cap] w fun e w' => e = .returned (.bool true) ∧ Below w.heap.size w w' := by
  have HB : Hid (Blks w ao n0 f) := hB
  have HA : Hid (Below w.heap.size w (((w.alloc (.cells #[.int .u8 (byV h 0 : Nat), .int .u8 (byV h 1 : Nat), .int .u8 (byV h 2 : Nat), .int .u8 (byV h 3 : Nat), .int .u8 (byV h 4 : Nat), .int .u8 (byV h 5 : Nat), .int .u8 (byV h 6 : Nat), .int .u8 (byV h 7 : Nat), .int .u8 (byV h 8 : Nat), .int .u8 (byV h 9 : Nat), .int .u8 (byV h 10 : Nat), .int .u8 (byV h 11 : Nat), .int .u8 (byV h 12 : Nat), .int .u8 (byV h 13 : Nat), .int .u8 (byV h 14 : Nat), .int .u8 (byV h 15 : Nat)] 23)).alloc (.cells #[.int .u8 (byV a 0 : Nat), .int .u8 (byV a 1 : Nat), .int .u8 (byV a 2 : Nat), .int .u8 (byV a 3 : Nat), .int .u8 (byV a 4 : Nat), .int .u8 (byV a 5 : Nat), .int .u8 (byV a 6 : Nat), .int .u8 (byV a 7 : Nat), .int .u8 (byV a 8 : Nat), .int .u8 (byV a 9 : Nat), .int .u8 (byV a 10 : Nat), .int .u8 (byV a 11 : Nat), .int .u8 (byV a 12 : Nat), .int .u8 (byV a 13 : Nat), .int .u8 (byV a 14 : Nat), .int .u8 (byV a 15 : Nat)] 23)).alloc (.cells #[.int .u8 (byV b 0 : Nat), .int .u8 (byV b 1 : Nat), .int .u8 (byV b 2 : Nat), .int .u8 (byV b 3 : Nat), .int .u8 (byV b 4 : Nat), .int .u8 (byV b 5 : Nat), .int .u8 (byV b 6 : Nat), .int .u8 (byV b 7 : Nat), .int .u8 (byV b 8 : Nat), .int .u8 (byV b 9 : Nat), .int .u8 (byV b 10 : Nat), .int .u8 (byV b 11 : Nat), .int .u8 (byV b 12 : Nat), .int .u8 (byV b 13 : Nat), .int .u8 (byV b 14 : Nat), .int .u8 (byV b 15 : Nat)] 23)) ∧ (((w.alloc (.cells #[.int .u8 (byV h 0 : Nat), .int .u8 (byV h 1 : Nat), .int .u8 (byV h 2 : Nat), .int .u8 (byV h 3 : Nat), .int .u8 (byV h 4 : Nat), .int .u8 (byV h 5 : Nat), .int .u8 (byV h 6 : Nat), .int .u8 (byV h 7 : Nat), .int .u8 (byV h 8 : Nat), .int .u8 (byV h 9 : Nat), .int .u8 (byV h 10 : Nat), .int .u8 (byV h 11 : Nat), .int .u8 (byV h 12 : Nat), .int .u8 (byV h 13 : Nat), .int .u8 (byV h 14 : Nat), .int .u8 (byV h 15 : Nat)] 23)).alloc (.cells #[.int .u8 (byV a 0 : Nat), .int .u8 (byV a 1 : Nat), .int .u8 (byV a 2 : Nat), .int .u8 (byV a 3 : Nat), .int .u8 (byV a 4 : Nat), .int .u8 (byV a 5 : Nat), .int .u8 (byV a 6 : Nat), .int .u8 (byV a 7 : Nat), .int .u8 (byV a 8 : Nat), .int .u8 (byV a 9 : Nat), .int .u8 (byV a 10 : Nat), .int .u8 (byV a 11 : Nat), .int .u8 (byV a 12 : Nat), .int .u8 (byV a 13 : Nat), .int .u8 (byV a 14 : Nat), .int .u8 (byV a 15 : Nat)] 23)).alloc (.cells #[.int .u8 (byV b 0 : Nat), .int .u8 (byV b 1 : Nat), .int .u8 (byV b 2 : Nat), .int .u8 (byV b 3 : Nat), .int .u8 (byV b 4 : Nat), .int .u8 (byV b 5 : Nat), .int .u8 (byV b 6 : Nat), .int .u8 (byV b 7 : Nat), .int .u8 (byV b 8 : Nat), .int .u8 (byV b 9 : Nat), .int .u8 (byV b 10 : Nat), .int .u8 (byV b 11 : Nat), .int .u8 (byV b 12 : Nat), .int .u8 (byV b 13 : Nat), .int .u8 (byV b 14 : Nat), .int .u8 (byV b 15 : Nat)] 23)).rangeAt w.heap.size 0 (BL h) ∧ (((w.alloc (.cells #[.int .u8 (byV h 0 : Nat), .int .u8 (byV h 1 : Nat), .int .u8 (byV h 2 : Nat), .int .u8 (byV h 3 : Nat), .int .u8 (byV h 4 : Nat), .int .u8 (byV h 5 : Nat), .int .u8 (byV h 6 : Nat), .int .u8 (byV h 7 : Nat), .int .u8 (byV h 8 : Nat), .int .u8 (byV h 9 : Nat), .int .u8 (byV h 10 : Nat), .int .u8 (byV h 11 : Nat), .int .u8 (byV h 12 : Nat), .int .u8 (byV h 13 : Nat), .int .u8 (byV h 14 : Nat), .int .u8 (byV h 15 : Nat)] 23)).alloc (.cells #[.int .u8 (byV a 0 : Nat), .int .u8 (byV a 1 : Nat), .int .u8 (byV a 2 : Nat), .int .u8 (byV a 3 : Nat), .int .u8 (byV a 4 : Nat), .int .u8 (byV a 5 : Nat), .int .u8 (byV a 6 : Nat), .int .u8 (byV a 7 : Nat), .int .u8 (byV a 8 : Nat), .int .u8 (byV a 9 : Nat), .int .u8 (byV a 10 : Nat), .int .u8 (byV a 11 : Nat), .int .u8 (byV a 12 : Nat), .int .u8 (byV a 13 : Nat), .int .u8 (byV a 14 : Nat), .int .u8 (byV a 15 : Nat)] 23)).alloc (.cells #[.int .u8 (byV b 0 : Nat), .int .u8 (byV b 1 : Nat), .int .u8 (byV b 2 : Nat), .int .u8 (byV b 3 : Nat), .int .u8 (byV b 4 : Nat), .int .u8 (byV b 5 : Nat), .int .u8 (byV b 6 : Nat), .int .u8 (byV b 7 : Nat), .int .u8 (byV b 8 : Nat), .int .u8 (byV b 9 : Nat), .int .u8 (byV b 10 : Nat), .int .u8 (byV b 11 : Nat), .int .u8 (byV b 12 : Nat), .int .u8 (byV b 13 : Nat), .int .u8 (byV b 14 : Nat), .int .u8 (byV b 15 : Nat)] 23)).rangeAt (w.heap.size + 1) 0 (BL a) ∧ (((w.alloc (.cells #[.int .u8 (byV h 0 : Nat), .int .u8 (byV h 1 : Nat), .int .u8 (byV h 2 : Nat), .int .u8 (byV h 3 : Nat), .int .u8 (byV h 4 : Nat), .int .u8 (byV h 5 : Nat), .int .u8 (byV h 6 : Nat), .int .u8 (byV h 7 : Nat), .int .u8 (byV h 8 : Nat), .int .u8 (byV h 9 : Nat), .int .u8 (byV h 10 : Nat), .int .u8 (byV h 11 : Nat), .int .u8 (byV h 12 : Nat), .int .u8 (byV h 13 : Nat), .int .u8 (byV h 14 : Nat), .int .u8 (byV h 15 : Nat)] 23)).alloc (.cells #[.int .u8 (byV a 0 : Nat), .int .u8 (byV a 1 : Nat), .int .u8 (byV a 2 : Nat), .int .u8 (byV a 3 : Nat), .int .u8 (byV a 4 : Nat), .int .u8 (byV a 5 : Nat), .int .u8 (byV a 6 : Nat), .int .u8 (byV a 7 : Nat), .int .u8 (byV a 8 : Nat), .int .u8 (byV a 9 : Nat), .int .u8 (byV a 10 : Nat), .int .u8 (byV a 11 : Nat), .int .u8 (byV a 12 : Nat), .int .u8 (byV a 13 : Nat), .int .u8 (byV a 14 : Nat), .int .u8 (byV a 15 : Nat)] 23)).alloc (.cells #[.int .u8 (byV b 0 : Nat), .int .u8 (byV b 1 : Nat), .int .u8 (byV b 2 : Nat), .int .u8 (byV b 3 : Nat), .int .u8 (byV b 4 : Nat), .int .u8 (byV b 5 : Nat), .int .u8 (byV b 6 : Nat), .int .u8 (byV b 7 : Nat), .int .u8 (byV b 8 : Nat), .int .u8 (byV b 9 : Nat), .int .u8 (byV b 10 : Nat), .int .u8 (byV b 11 : Nat), .int .u8 (byV b 12 : Nat), .int .u8 (byV b 13 : Nat), .int .u8 (byV b 14 : Nat), .int .u8 (byV b 15 : Nat)] 23)).rangeAt (w.heap.size + 2) 0 (BL b) ∧ (((w.alloc (.cells #[.int .u8 (byV h 0 : Nat), .int .u8 (byV h 1 : Nat), .int .u8 (byV h 2 : Nat), .int .u8 (byV h 3 : Nat), .int .u8 (byV h 4 : Nat), .int .u8 (byV h 5 : Nat), .int .u8 (byV h 6 : Nat), .int .u8 (byV h 7 : Nat), .int .u8 (byV h 8 : Nat), .int .u8 (byV h 9 : Nat), .int .u8 (byV h 10 : Nat), .int .u8 (byV h 11 : Nat), .int .u8 (byV h 12 : Nat), .int .u8 (byV h 13 : Nat), .int .u8 (byV h 14 : Nat), .int .u8 (byV h 15 : Nat)] 23)).alloc (.cells #[.int .u8 (byV a 0 : Nat), .int .u8 (byV a 1 : Nat), .int .u8 (byV a 2 : Nat), .int .u8 (byV a 3 : Nat), .int .u8 (byV a 4 : Nat), .int .u8 (byV a 5 : Nat), .int .u8 (byV a 6 : Nat), .int .u8 (byV a 7 : Nat), .int .u8 (byV a 8 : Nat), .int .u8 (byV a 9 : Nat), .int .u8 (byV a 10 : Nat), .int .u8 (byV a 11 : Nat), .int .u8 (byV a 12 : Nat), .int .u8 (byV a 13 : Nat), .int .u8 (byV a 14 : Nat), .int .u8 (byV a 15 : Nat)] 23)).alloc (.cells #[.int .u8 (byV b 0 : Nat), .int .u8 (byV b 1 : Nat), .int .u8 (byV b 2 : Nat), .int .u8 (byV b 3 : Nat), .int .u8 (byV b 4 : Nat), .int .u8 (byV b 5 : Nat), .int .u8 (byV b 6 : Nat), .int .u8 (byV b 7 : Nat), .int .u8 (byV b 8 : Nat), .int .u8 (byV b 9 : Nat), .int .u8 (byV b 10 : Nat), .int .u8 (byV b 11 : Nat), .int .u8 (byV b 12 : Nat), .int .u8 (byV b 13 : Nat), .int .u8 (byV b 14 : Nat), .int .u8 (byV b 15 : Nat)] 23)).heap.size = w.heap.size + 3) := by
    have e1 : Below (w.heap.size + 1) (w.alloc (.cells #[.int .u8 (byV h 0 : Nat), .int .u8 (byV h 1 : Nat), .int .u8 (byV h 2 : Nat), .int .u8 (byV h 3 : Nat), .int .u8 (byV h 4 : Nat), .int .u8 (byV h 5 : Nat), .int .u8 (byV h 6 : Nat), .int .u8 (byV h 7 : Nat), .int .u8 (byV h 8 : Nat), .int .u8 (byV h 9 : Nat), .int .u8 (byV h 10 : Nat), .int .u8 (byV h 11 : Nat), .int .u8 (byV h 12 : Nat), .int .u8 (byV h 13 : Nat), .int .u8 (byV h 14 : Nat), .int .u8 (byV h 15 : Nat)] 23)) (((w.alloc (.cells #[.int .u8 (byV h 0 : Nat), .int .u8 (byV h 1 : Nat), .int .u8 (byV h 2 : Nat), .int .u8 (byV h 3 : Nat), .int .u8 (byV h 4 : Nat), .int .u8 (byV h 5 : Nat), .int .u8 (byV h 6 : Nat), .int .u8 (byV h 7 : Nat), .int .u8 (byV h 8 : Nat), .int .u8 (byV h 9 : Nat), .int .u8 (byV h 10 : Nat), .int .u8 (byV h 11 : Nat), .int .u8 (byV h 12 : Nat), .int .u8 (byV h 13 : Nat), .int .u8 (byV h 14 : Nat), .int .u8 (byV h 15 : Nat)] 23)).alloc (.cells #[.int .u8 (byV a 0 : Nat), .int .u8 (byV a 1 : Nat), .int .u8 (byV a 2 : Nat), .int .u8 (byV a 3 : Nat), .int .u8 (byV a 4 : Nat), .int .u8 (byV a 5 : Nat), .int .u8 (byV a 6 : Nat), .int .u8 (byV a 7 : Nat), .int .u8 (byV a 8 : Nat), .int .u8 (byV a 9 : Nat), .int .u8 (byV a 10 : Nat), .int .u8 (byV a 11 : Nat), .int .u8 (byV a 12 : Nat), .int .u8 (byV a 13 : Nat), .int .u8 (byV a 14 : Nat), .int .u8 (byV a 15 : Nat)] 23)).alloc (.cells #[.int .u8 (byV b 0 : Nat), .int .u8 (byV b 1 : Nat), .int .u8 (byV b 2 : Nat), .int .u8 (byV b 3 : Nat), .int .u8 (byV b 4 : Nat), .int .u8 (byV b 5 : Nat), .int .u8 (byV b 6 : Nat), .int .u8 (byV b 7 : Nat), .int .u8 (byV b 8 : Nat), .int .u8 (byV b 9 : Nat), .int .u8 (byV b 10 : Nat), .int .u8 (byV b 11 : Nat), .int .u8 (byV b 12 : Nat), .int .u8 (byV b 13 : Nat), .int .u8 (byV b 14 : Nat), .int .u8 (byV b 15 : Nat)] 23)) := ((Below.refl _ _).alloc (by simp) _).alloc (by simp) _
    have e2 : Below (w.heap.size + 2) ((w.alloc (.cells #[.int .u8 (byV h 0 : Nat), .int .u8 (byV h 1 : Nat), .int .u8 (byV h 2 : Nat), .int .u8 (byV h 3 : Nat), .int .u8 (byV h 4 : Nat), .int .u8 (byV h 5 : Nat), .int .u8 (byV h 6 : Nat), .int .u8 (byV h 7 : Nat), .int .u8 (byV h 8 : Nat), .int .u8 (byV h 9 : Nat), .int .u8 (byV h 10 : Nat), .int .u8 (byV h 11 : Nat), .int .u8 (byV h 12 : Nat), .int .u8 (byV h 13 : Nat), .int .u8 (byV h 14 : Nat), .int .u8 (byV h 15 : Nat)] 23)).alloc (.cells #[.int .u8 (byV a 0 : Nat), .int .u8 (byV a 1 : Nat), .int .u8 (byV a 2 : Nat), .int .u8 (byV a 3 : Nat), .int .u8 (byV a 4 : Nat), .int .u8 (byV a 5 : Nat), .int .u8 (byV a 6 : Nat), .int .u8 (byV a 7 : Nat), .int .u8 (byV a 8 : Nat), .int .u8 (byV a 9 : Nat), .int .u8 (byV a 10 : Nat), .int .u8 (byV a 11 : Nat), .int .u8 (byV a 12 : Nat), .int .u8 (byV a 13 : Nat), .int .u8 (byV a 14 : Nat), .int .u8 (byV a 15 : Nat)] 23)) (((w.alloc (.cells #[.int .u8 (byV h 0 : Nat), .int .u8 (byV h 1 : Nat), .int .u8 (byV h 2 : Nat), .int .u8 (byV h 3 : Nat), .int .u8 (byV h 4 : Nat), .int .u8 (byV h 5 : Nat), .int .u8 (byV h 6 : Nat), .int .u8 (byV h 7 : Nat), .int .u8 (byV h 8 : Nat), .int .u8 (byV h 9 : Nat), .int .u8 (byV h 10 : Nat), .int .u8 (byV h 11 : Nat), .int .u8 (byV h 12 : Nat), .int .u8 (byV h 13 : Nat), .int .u8 (byV h 14 : Nat), .int .u8 (byV h 15 : Nat)] 23)).alloc (.cells #[.int .u8 (byV a 0 : Nat), .int .u8 (byV a 1 : Nat), .int .u8 (byV a 2 : Nat), .int .u8 (byV a 3 : Nat), .int .u8 (byV a 4 : Nat), .int .u8 (byV a 5 : Nat), .int .u8 (byV a 6 : Nat), .int .u8 (byV a 7 : Nat), .int .u8 (byV a 8 : Nat), .int .u8 (byV a 9 : Nat), .int .u8 (byV a 10 : Nat), .int .u8 (byV a 11 : Nat), .int .u8 (byV a 12 : Nat), .int .u8 (byV a 13 : Nat), .int .u8 (byV a 14 : Nat), .int .u8 (byV a 15 : Nat)] 23)).alloc (.cells #[.int .u8 (byV b 0 : Nat), .int .u8 (byV b 1 : Nat), .int .u8 (byV b 2 : Nat), .int .u8 (byV b 3 : Nat), .int .u8 (byV b 4 : Nat), .int .u8 (byV b 5 : Nat), .int .u8 (byV b 6 : Nat), .int .u8 (byV b 7 : Nat), .int .u8 (byV b 8 : Nat), .int .u8 (byV b 9 : Nat), .int .u8 (byV b 10 : Nat), .int .u8 (byV b 11 : Nat), .int .u8 (byV b 12 : Nat), .int .u8 (byV b 13 : Nat), .int .u8 (byV b 14 : Nat), .int .u8 (byV b 15 : Nat)] 23)) := (Below.refl _ _).alloc (by simp) _
    exact ⟨below3 w _ _ _, range_below (rangeAt_new w #[.int .u8 (byV h 0 : Nat), .int .u8 (byV h 1 : Nat), .int .u8 (byV h 2 : Nat), .int .u8 (byV h 3 : Nat), .int .u8 (byV h 4 : Nat), .int .u8 (byV h 5 : Nat), .int .u8 (byV h 6 : Nat), .int .u8 (byV h 7 : Nat), .int .u8 (byV h 8 : Nat), .int .u8 (byV h 9 : Nat), .int .u8 (byV h 10 : Nat), .int .u8 (byV h 11 : Nat), .int .u8 (byV h 12 : Nat), .int .u8 (byV h 13 : Nat), .int .u8 (byV h 14 : Nat), .int .u8 (byV h 15 : Nat)] 23) e1 (by omega), range_below (range2 w _ #[.int .u8 (byV a 0 : Nat), .int .u8 (byV a 1 : Nat), .int .u8 (byV a 2 : Nat), .int .u8 (byV a 3 : Nat), .int .u8 (byV a 4 : Nat), .int .u8 (byV a 5 : Nat), .int .u8 (byV a 6 : Nat), .int .u8 (byV a 7 : Nat), .int .u8 (byV a 8 : Nat), .int .u8 (byV a 9 : Nat), .int .u8 (byV a 10 : Nat), .int .u8 (byV a 11 : Nat), .int .u8 (byV a 12 : Nat), .int .u8 (byV a 13 : Nat), .int .u8 (byV a 14 : Nat), .int .u8 (byV a 15 : Nat)] 23) e2 (by omega), range3 w _ _ #[.int .u8 (byV b 0 : Nat), .int .u8 (byV b 1 : Nat), .int .u8 (byV b 2 : Nat), .int .u8 (byV b 3 : Nat), .int .u8 (byV b 4 : Nat), .int .u8 (byV b 5 : Nat), .int .u8 (byV b 6 : Nat), .int .u8 (byV b 7 : Nat), .int .u8 (byV b 8 : Nat), .int .u8 (byV b 9 : Nat), .int .u8 (byV b 10 : Nat), .int .u8 (byV b 11 : Nat), .int .u8 (byV b 12 : Nat), .int .u8 (byV b 13 : Nat), .int .u8 (byV b 14 : Nat), .int .u8 (byV b 15 : Nat)] 23, by simp⟩
  clear hB
  have hni : ((n0 : Nat) : Int) ≤ (cap : Nat) := by omega
  have hci : ((cap : Nat) : Int) ≤ 9223372036854775807 := by omega
  obtain ⟨Lh, HLh⟩ : ∃ L, Hid (L = BL (h)) := ⟨_, rfl⟩
  obtain ⟨La, HLa⟩ : ∃ L, Hid (L = BL (a)) := ⟨_, rfl⟩
  obtain ⟨Lb, HLb⟩ : ∃ L, Hid (L = BL (b)) := ⟨_, rfl⟩
  obtain ⟨D1, HD1⟩ : ∃ L, Hid (L = BL (D UP a b)) := ⟨_, rfl⟩
  obtain ⟨P1, HP1⟩ : ∃ L, Hid (L = BL (b ^^^ h)) := ⟨_, rfl⟩
  obtain ⟨E1, HE1⟩ : ∃ L, Hid (L = BL (D UP a (b ^^^ h))) := ⟨_, rfl⟩
  obtain ⟨D2, HD2⟩ : ∃ L, Hid (L = BL (D UP a h)) := ⟨_, rfl⟩
  obtain ⟨F1, HF1⟩ : ∃ L, Hid (L = BL (D UP (D UP a b) h)) := ⟨_, rfl⟩
  obtain ⟨D3, HD3⟩ : ∃ L, Hid (L = BL (D UP b h)) := ⟨_, rfl⟩
  have Kab : Hid (∀ u, Calls Try.prog 6 #[.agg (BL a).toArray, .agg (BL b).toArray] u fun e w' => e = .returned (.agg (BL (D UP a b)).toArray) ∧ Below u.heap.size u w') := fun u => dot_ok a b u
  have Kba : Hid (∀ u, Calls Try.prog 6 #[.agg (BL b).toArray, .agg (BL a).toArray] u fun e w' => e = .returned (.agg (BL (D UP a b)).toArray) ∧ Below u.heap.size u w') := fun u => by rw [D_comm TP_cyc TU UT a b]; exact dot_ok b a u
  have Kpbh : Hid (∀ u, Calls Try.prog 7 #[.agg (BL b).toArray, .agg (BL h).toArray] u fun e w' => e = .returned (.agg (BL (b ^^^ h)).toArray) ∧ Below u.heap.size u w') := fun u => plusB_ok b h u
  have KaP : Hid (∀ u, Calls Try.prog 6 #[.agg (BL a).toArray, .agg (BL (b ^^^ h)).toArray] u fun e w' => e = .returned (.agg (BL (D UP a (b ^^^ h))).toArray) ∧ Below u.heap.size u w') := fun u => dot_ok a _ u
  have Kah : Hid (∀ u, Calls Try.prog 6 #[.agg (BL a).toArray, .agg (BL h).toArray] u fun e w' => e = .returned (.agg (BL (D UP a h)).toArray) ∧ Below u.heap.size u w') := fun u => dot_ok a h u
  have KpDD : Hid (∀ u, Calls Try.prog 7 #[.agg (BL (D UP a b)).toArray, .agg (BL (D UP a h)).toArray] u fun e w' => e = .returned (.agg (BL (D UP a (b ^^^ h))).toArray) ∧ Below u.heap.size u w') := fun u => by rw [D_add TP_cyc TU UT a b h]; exact plusB_ok _ _ u
  have KDh : Hid (∀ u, Calls Try.prog 6 #[.agg (BL (D UP a b)).toArray, .agg (BL h).toArray] u fun e w' => e = .returned (.agg (BL (D UP (D UP a b) h)).toArray) ∧ Below u.heap.size u w') := fun u => dot_ok _ h u
  have Kbh : Hid (∀ u, Calls Try.prog 6 #[.agg (BL b).toArray, .agg (BL h).toArray] u fun e w' => e = .returned (.agg (BL (D UP b h)).toArray) ∧ Below u.heap.size u w') := fun u => dot_ok b h u
  have KaD : Hid (∀ u, Calls Try.prog 6 #[.agg (BL a).toArray, .agg (BL (D UP b h)).toArray] u fun e w' => e = .returned (.agg (BL (D UP (D UP a b) h)).toArray) ∧ Below u.heap.size u w') := fun u => by rw [D_assoc TP_cyc TU UT a b h]; exact dot_ok a _ u
  have Ka1 : Hid (∀ u, Calls Try.prog 6 #[.agg (BL a).toArray, .agg #[.int .u8 1, .int .u8 0, .int .u8 0, .int .u8 0, .int .u8 0, .int .u8 0, .int .u8 0, .int .u8 0, .int .u8 0, .int .u8 0, .int .u8 0, .int .u8 0, .int .u8 0, .int .u8 0, .int .u8 0, .int .u8 194]] u fun e w' => e = .returned (.agg (BL a).toArray) ∧ Below u.heap.size u w') := fun u => by have q := dot_ok a 0xc2000000000000000000000000000001#128 u; rw [← one_P, D_one TP_cyc TU UT a, one_P] at q; exact q
  have Kp0 : Hid (∀ u, Calls Try.prog 8 #[.agg (BL h).toArray, .slice none 0 0] u fun e w' => e = .returned (.agg #[.int .u8 0, .int .u8 0, .int .u8 0, .int .u8 0, .int .u8 0, .int .u8 0, .int .u8 0, .int .u8 0, .int .u8 0, .int .u8 0, .int .u8 0, .int .u8 0, .int .u8 0, .int .u8 0, .int .u8 0, .int .u8 0]) ∧ Below u.heap.size u w') := fun u => by have q := polyval_ok h none 0 0 (fun _ => 0#128) u (Or.inl rfl) (Nat.le_refl _) (by decide); have z : BV (pvF h (fun _ => 0#128) 0) = .agg #[.int .u8 0, .int .u8 0, .int .u8 0, .int .u8 0, .int .u8 0, .int .u8 0, .int .u8 0, .int .u8 0, .int .u8 0, .int .u8 0, .int .u8 0, .int .u8 0, .int .u8 0, .int .u8 0, .int .u8 0, .int .u8 0] := (by show Value.agg (BL 0#128).toArray = _; rw [BL_zero]); rw [z] at q; exact q
  have hA1 : ∀ u, (binOp .neq 23 (.agg (BL a).toArray) (.agg (BL a).toArray)).run Try.prog u = .ok (.bool false) u := neq_same _
  have hZ1 : ∀ u, (binOp .neq 23 (.agg #[.int .u8 0, .int .u8 0, .int .u8 0, .int .u8 0, .int .u8 0, .int .u8 0, .int .u8 0, .int .u8 0, .int .u8 0, .int .u8 0, .int .u8 0, .int .u8 0, .int .u8 0, .int .u8 0, .int .u8 0, .int .u8 0]) (.agg #[.int .u8 0, .int .u8 0, .int .u8 0, .int .u8 0, .int .u8 0, .int .u8 0, .int .u8 0, .int .u8 0, .int .u8 0, .int .u8 0, .int .u8 0, .int .u8 0, .int .u8 0, .int .u8 0, .int .u8 0, .int .u8 0])).run Try.prog u = .ok (.bool false) u := fun u => by have q := neq_same 0#128 u; rw [BL_zero] at q; exact q
  have hD1 : ∀ u, (binOp .neq 23 (.agg (BL (D UP a b)).toArray) (.agg (BL (D UP a b)).toArray)).run Try.prog u = .ok (.bool false) u := neq_same _
  have hE1 : ∀ u, (binOp .neq 23 (.agg (BL (D UP a (b ^^^ h))).toArray) (.agg (BL (D UP a (b ^^^ h))).toArray)).run Try.prog u = .ok (.bool false) u := neq_same _
  have hF1 : ∀ u, (binOp .neq 23 (.agg (BL (D UP (D UP a b) h)).toArray) (.agg (BL (D UP (D UP a b) h)).toArray)).run Try.prog u = .ok (.bool false) u := neq_same _
  rw [← HLa.out, ← HLb.out, ← HD1.out] at Kab
  rw [← HLa.out, ← HLb.out, ← HD1.out] at Kba
  rw [← HLb.out, ← HLh.out, ← HP1.out] at Kpbh
  rw [← HLa.out, ← HP1.out, ← HE1.out] at KaP
  rw [← HLa.out, ← HLh.out, ← HD2.out] at Kah
  rw [← HD1.out, ← HD2.out, ← HE1.out] at KpDD
  rw [← HF1.out, ← HD1.out, ← HLh.out] at KDh
  rw [← HLb.out, ← HLh.out, ← HD3.out] at Kbh
  rw [← HF1.out, ← HLa.out, ← HD3.out] at KaD
  rw [← HLa.out] at Ka1
  rw [← HLh.out] at Kp0
  rw [← HLa.out] at hA1
  rw [← HD1.out] at hD1
  rw [← HE1.out] at hE1
  rw [← HF1.out] at hF1
  have hlh : Hid (Lh.length = 16) := by show _ = _; rw [HLh.out]; rfl
  have hla : Hid (La.length = 16) := by show _ = _; rw [HLa.out]; rfl
  have hlb : Hid (Lb.length = 16) := by show _ = _; rw [HLb.out]; rfl
  show Calls Try.prog 3 #[.agg #[.int .u8 (byV h 0 : Nat), .int .u8 (byV h 1 : Nat), .int .u8 (byV h 2 : Nat), .int .u8 (byV h 3 : Nat), .int .u8 (byV h 4 : Nat), .int .u8 (byV h 5 : Nat), .int .u8 (byV h 6 : Nat), .int .u8 (byV h 7 : Nat), .int .u8 (byV h 8 : Nat), .int .u8 (byV h 9 : Nat), .int .u8 (byV h 10 : Nat), .int .u8 (byV h 11 : Nat), .int .u8 (byV h 12 : Nat), .int .u8 (byV h 13 : Nat), .int .u8 (byV h 14 : Nat), .int .u8 (byV h 15 : Nat)], .agg #[.int .u8 (byV a 0 : Nat), .int .u8 (byV a 1 : Nat), .int .u8 (byV a 2 : Nat), .int .u8 (byV a 3 : Nat), .int .u8 (byV a 4 : Nat), .int .u8 (byV a 5 : Nat), .int .u8 (byV a 6 : Nat), .int .u8 (byV a 7 : Nat), .int .u8 (byV a 8 : Nat), .int .u8 (byV a 9 : Nat), .int .u8 (byV a 10 : Nat), .int .u8 (byV a 11 : Nat), .int .u8 (byV a 12 : Nat), .int .u8 (byV a 13 : Nat), .int .u8 (byV a 14 : Nat), .int .u8 (byV a 15 : Nat)], .agg #[.int .u8 (byV b 0 : Nat), .int .u8 (byV b 1 : Nat), .int .u8 (byV b 2 : Nat), .int .u8 (byV b 3 : Nat), .int .u8 (byV b 4 : Nat), .int .u8 (byV b 5 : Nat), .int .u8 (byV b 6 : Nat), .int .u8 (byV b 7 : Nat), .int .u8 (byV b 8 : Nat), .int .u8 (byV b 9 : Nat), .int .u8 (byV b 10 : Nat), .int .u8 (byV b 11 : Nat), .int .u8 (byV b 12 : Nat), .int .u8 (byV b 13 : Nat), .int .u8 (byV b 14 : Nat), .int .u8 (byV b 15 : Nat)], .slice ao n0 cap] w _
  go_enter Try.func3, Try.ntmps3
  go_upto_region 1 with fail
  generalize ((w.alloc (.cells #[.int .u8 (byV h 0 : Nat), .int .u8 (byV h 1 : Nat), .int .u8 (byV h 2 : Nat), .int .u8 (byV h 3 : Nat), .int .u8 (byV h 4 : Nat), .int .u8 (byV h 5 : Nat), .int .u8 (byV h 6 : Nat), .int .u8 (byV h 7 : Nat), .int .u8 (byV h 8 : Nat), .int .u8 (byV h 9 : Nat), .int .u8 (byV h 10 : Nat), .int .u8 (byV h 11 : Nat), .int .u8 (byV h 12 : Nat), .int .u8 (byV h 13 : Nat), .int .u8 (byV h 14 : Nat), .int .u8 (byV h 15 : Nat)] 23)).alloc (.cells #[.int .u8 (byV a 0 : Nat), .int .u8 (byV a 1 : Nat), .int .u8 (byV a 2 : Nat), .int .u8 (byV a 3 : Nat), .int .u8 (byV a 4 : Nat), .int .u8 (byV a 5 : Nat), .int .u8 (byV a 6 : Nat), .int .u8 (byV a 7 : Nat), .int .u8 (byV a 8 : Nat), .int .u8 (byV a 9 : Nat), .int .u8 (byV a 10 : Nat), .int .u8 (byV a 11 : Nat), .int .u8 (byV a 12 : Nat), .int .u8 (byV a 13 : Nat), .int .u8 (byV a 14 : Nat), .int .u8 (byV a 15 : Nat)] 23)).alloc (.cells #[.int .u8 (byV b 0 : Nat), .int .u8 (byV b 1 : Nat), .int .u8 (byV b 2 : Nat), .int .u8 (byV b 3 : Nat), .int .u8 (byV b 4 : Nat), .int .u8 (byV b 5 : Nat), .int .u8 (byV b 6 : Nat), .int .u8 (byV b 7 : Nat), .int .u8 (byV b 8 : Nat), .int .u8 (byV b 9 : Nat), .int .u8 (byV b 10 : Nat), .int .u8 (byV b 11 : Nat), .int .u8 (byV b 12 : Nat), .int .u8 (byV b 13 : Nat), .int .u8 (byV b 14 : Nat), .int .u8 (byV b 15 : Nat)] 23) = w1 at HA ⊢
  rw [← HLh.out, ← HLa.out, ← HLb.out] at HA
  go_upto_if 17 with fail
  go_cut [3] from 15 to 19 (fun D wx => (∃ m, m ≤ 40 ∧ m ≤ n0 ∧ D = .slice ao m cap) ∧ wx = w1)
  case first =>
    by_cases h4 : n0 ≤ 40
    · have h4i : ((n0 : Nat) : Int) ≤ 40 := by omega
      go_wp2
      go_meet
      exact ⟨⟨n0, h4, Nat.le_refl _, rfl⟩, rfl⟩
    · have h4i : ¬ ((n0 : Nat) : Int) ≤ 40 := by omega
      go_wp2
      go_meet
      exact ⟨⟨40, Nat.le_refl _, by omega, rfl⟩, rfl⟩
  case rest =>
  obtain ⟨⟨m, hm40, hmn, rfl⟩, hwc⟩ := hcut
  have hwc' := hwc.symm
  subst hwc'
  have gh : Hid (∀ u, Below w1.heap.size w1 u → u.rangeAt w.heap.size 0 Lh) := fun u hu => range_below HA.out.2.1 hu (by have := HA.out.2.2.2.2; omega)
  have ga : Hid (∀ u, Below w1.heap.size w1 u → u.rangeAt (w.heap.size + 1) 0 La) := fun u hu => range_below HA.out.2.2.1 hu (by have := HA.out.2.2.2.2; omega)
  have gb : Hid (∀ u, Below w1.heap.size w1 u → u.rangeAt (w.heap.size + 2) 0 Lb) := fun u hu => range_below HA.out.2.2.2.1 hu (by have := HA.out.2.2.2.2; omega)
  go_upto_region 3 with fail
  go_cut [54] from 20 to 54 (fun c wx => c = .bool false ∧ Hid (Below w1.heap.size w1 wx))
  case first =>
    have hS0 : Below w1.heap.size w1 w1.drew := (Below.refl _ _).drew
    refine wp_region_noPanic ?_
    refine wp_region_held_drew (S := fun u => Below w1.heap.size w1 u) (by kernel_rfl) (hS0) (fun _ => ?_)
    refine takeH_at 0 20 (.agg La.toArray) rfl rfl (by kernel_rfl) (by kernel_rfl) (by kernel_rfl) (fun _ _ _ h => h) (hS0) (yieldsIf_load_mid (by kernel_rfl) 23 (.tmp 5) rfl (w.heap.size + 1) 0 rfl La _ (fun u hu => ga.out u hu) Try.underlying23 rfl (by rw [hla.out]; exact size23)) ?_
    simp only [List.setIfInBounds_toArray, List.set_cons_zero, List.set_cons_succ]
    refine takeH_at 1 21 (.agg Lb.toArray) rfl rfl (by kernel_rfl) (by kernel_rfl) (by kernel_rfl) (fun _ _ _ h => h) (hS0) (yieldsIf_load_mid (by kernel_rfl) 23 (.tmp 6) rfl (w.heap.size + 2) 0 rfl Lb _ (fun u hu => gb.out u hu) Try.underlying23 rfl (by rw [hlb.out]; exact size23)) ?_
    simp only [List.setIfInBounds_toArray, List.set_cons_zero, List.set_cons_succ]
    refine takeH_at 3 23 (.agg Lb.toArray) rfl rfl (by kernel_rfl) (by kernel_rfl) (by kernel_rfl) (fun _ _ _ h => h) (hS0) (yieldsIf_load_mid (by kernel_rfl) 23 (.tmp 6) rfl (w.heap.size + 2) 0 rfl Lb _ (fun u hu => gb.out u hu) Try.underlying23 rfl (by rw [hlb.out]; exact size23)) ?_
    simp only [List.setIfInBounds_toArray, List.set_cons_zero, List.set_cons_succ]
    refine takeH_at 4 24 (.agg La.toArray) rfl rfl (by kernel_rfl) (by kernel_rfl) (by kernel_rfl) (fun _ _ _ h => h) (hS0) (yieldsIf_load_mid (by kernel_rfl) 23 (.tmp 5) rfl (w.heap.size + 1) 0 rfl La _ (fun u hu => ga.out u hu) Try.underlying23 rfl (by rw [hla.out]; exact size23)) ?_
    simp only [List.setIfInBounds_toArray, List.set_cons_zero, List.set_cons_succ]
    refine wpAnyH_ready (rs := [2]) (by kernel_rfl) (by simp) ?_
    refine AllReadyH.cons rfl (fun K hK => ?_) AllReadyH.nil
    go_simp
    refine (Kab.out _).mono ?_
    rintro e1 q1 ⟨rfl, hbq1⟩
    have hSq1 : Below w1.heap.size w1 q1 := (hS0).trans (hbq1.mono (hS0).size)
    go_wp2_with fail
    refine hK.out _ _ hSq1 (fun _ => ?_)
    clear hK K
    try simp only [List.setIfInBounds_toArray, List.set_cons_zero, List.set_cons_succ]
    refine wpAnyH_ready (rs := [5]) (by kernel_rfl) (by simp) ?_
    refine AllReadyH.cons rfl (fun K hK => ?_) AllReadyH.nil
    go_simp
    refine (Kba.out _).mono ?_
    rintro e1 q2 ⟨rfl, hbq2⟩
    have hSq2 : Below w1.heap.size w1 q2 := (hSq1).trans (hbq2.mono (hSq1).size)
    go_wp2_with fail
    refine hK.out _ _ hSq2 (fun _ => ?_)
    clear hK K
    try simp only [List.setIfInBounds_toArray, List.set_cons_zero, List.set_cons_succ]
    refine takeH_at 6 26 (.bool false) rfl rfl (by kernel_rfl) (by kernel_rfl) (by kernel_rfl) (fun _ _ _ h => h) (hSq2) (Or.inl ⟨by kernel_rfl, fun w' hS' => by have q := hD1 w'; go_simp⟩) ?_
    simp only [List.setIfInBounds_toArray, List.set_cons_zero, List.set_cons_succ]
    refine takeH_at 7 27 (.bool false) rfl rfl (by kernel_rfl) (by kernel_rfl) (by kernel_rfl) (fun _ _ _ h => h) (hSq2) (Or.inl ⟨by kernel_rfl, fun w' hS' => by go_simp⟩) ?_
    simp only [List.setIfInBounds_toArray, List.set_cons_zero, List.set_cons_succ]
    refine takeH_at 8 28 (.agg La.toArray) rfl rfl (by kernel_rfl) (by kernel_rfl) (by kernel_rfl) (fun _ _ _ h => h) (hSq2) (yieldsIf_load_mid (by kernel_rfl) 23 (.tmp 5) rfl (w.heap.size + 1) 0 rfl La _ (fun u hu => ga.out u hu) Try.underlying23 rfl (by rw [hla.out]; exact size23)) ?_
    simp only [List.setIfInBounds_toArray, List.set_cons_zero, List.set_cons_succ]
    refine takeH_at 9 29 (.agg Lb.toArray) rfl rfl (by kernel_rfl) (by kernel_rfl) (by kernel_rfl) (fun _ _ _ h => h) (hSq2) (yieldsIf_load_mid (by kernel_rfl) 23 (.tmp 6) rfl (w.heap.size + 2) 0 rfl Lb _ (fun u hu => gb.out u hu) Try.underlying23 rfl (by rw [hlb.out]; exact size23)) ?_
    simp only [List.setIfInBounds_toArray, List.set_cons_zero, List.set_cons_succ]
    refine takeH_at 10 30 (.agg Lh.toArray) rfl rfl (by kernel_rfl) (by kernel_rfl) (by kernel_rfl) (fun _ _ _ h => h) (hSq2) (yieldsIf_load_mid (by kernel_rfl) 23 (.tmp 4) rfl w.heap.size 0 rfl Lh _ (fun u hu => gh.out u hu) Try.underlying23 rfl (by rw [hlh.out]; exact size23)) ?_
    simp only [List.setIfInBounds_toArray, List.set_cons_zero, List.set_cons_succ]
    refine takeH_at 13 33 (.agg La.toArray) rfl rfl (by kernel_rfl) (by kernel_rfl) (by kernel_rfl) (fun _ _ _ h => h) (hSq2) (yieldsIf_load_mid (by kernel_rfl) 23 (.tmp 5) rfl (w.heap.size + 1) 0 rfl La _ (fun u hu => ga.out u hu) Try.underlying23 rfl (by rw [hla.out]; exact size23)) ?_
    simp only [List.setIfInBounds_toArray, List.set_cons_zero, List.set_cons_succ]
    refine takeH_at 14 34 (.agg Lb.toArray) rfl rfl (by kernel_rfl) (by kernel_rfl) (by kernel_rfl) (fun _ _ _ h => h) (hSq2) (yieldsIf_load_mid (by kernel_rfl) 23 (.tmp 6) rfl (w.heap.size + 2) 0 rfl Lb _ (fun u hu => gb.out u hu) Try.underlying23 rfl (by rw [hlb.out]; exact size23)) ?_
    simp only [List.setIfInBounds_toArray, List.set_cons_zero, List.set_cons_succ]
    refine takeH_at 16 36 (.agg La.toArray) rfl rfl (by kernel_rfl) (by kernel_rfl) (by kernel_rfl) (fun _ _ _ h => h) (hSq2) (yieldsIf_load_mid (by kernel_rfl) 23 (.tmp 5) rfl (w.heap.size + 1) 0 rfl La _ (fun u hu => ga.out u hu) Try.underlying23 rfl (by rw [hla.out]; exact size23)) ?_
    simp only [List.setIfInBounds_toArray, List.set_cons_zero, List.set_cons_succ]
    refine takeH_at 17 37 (.agg Lh.toArray) rfl rfl (by kernel_rfl) (by kernel_rfl) (by kernel_rfl) (fun _ _ _ h => h) (hSq2) (yieldsIf_load_mid (by kernel_rfl) 23 (.tmp 4) rfl w.heap.size 0 rfl Lh _ (fun u hu => gh.out u hu) Try.underlying23 rfl (by rw [hlh.out]; exact size23)) ?_
    simp only [List.setIfInBounds_toArray, List.set_cons_zero, List.set_cons_succ]
    refine wpAnyH_ready (rs := [11]) (by kernel_rfl) (by simp) ?_
    refine AllReadyH.cons rfl (fun K hK => ?_) AllReadyH.nil
    rw [if_pos (by kernel_rfl)]
    go_simp
    refine (Kpbh.out _).mono ?_
    rintro e1 q3 ⟨rfl, hbq3⟩
    have hSq3 : Below w1.heap.size w1 q3 := (hSq2).trans (hbq3.mono (hSq2).size)
    go_wp2_with fail
    refine hK.out _ _ hSq3 (fun _ => ?_)
    clear hK K
    try simp only [List.setIfInBounds_toArray, List.set_cons_zero, List.set_cons_succ]
    refine wpAnyH_ready (rs := [12]) (by kernel_rfl) (by simp) ?_
    refine AllReadyH.cons rfl (fun K hK => ?_) AllReadyH.nil
    rw [if_pos (by kernel_rfl)]
    go_simp
    refine (KaP.out _).mono ?_
    rintro e1 q4 ⟨rfl, hbq4⟩
    have hSq4 : Below w1.heap.size w1 q4 := (hSq3).trans (hbq4.mono (hSq3).size)
    go_wp2_with fail
    refine hK.out _ _ hSq4 (fun _ => ?_)
    clear hK K
    try simp only [List.setIfInBounds_toArray, List.set_cons_zero, List.set_cons_succ]
    refine wpAnyH_ready (rs := [15]) (by kernel_rfl) (by simp) ?_
    refine AllReadyH.cons rfl (fun K hK => ?_) AllReadyH.nil
    rw [if_pos (by kernel_rfl)]
    go_simp
    refine (Kab.out _).mono ?_
    rintro e1 q5 ⟨rfl, hbq5⟩
    have hSq5 : Below w1.heap.size w1 q5 := (hSq4).trans (hbq5.mono (hSq4).size)
    go_wp2_with fail
    refine hK.out _ _ hSq5 (fun _ => ?_)
    clear hK K
    try simp only [List.setIfInBounds_toArray, List.set_cons_zero, List.set_cons_succ]
    refine wpAnyH_ready (rs := [18]) (by kernel_rfl) (by simp) ?_
    refine AllReadyH.cons rfl (fun K hK => ?_) AllReadyH.nil
    rw [if_pos (by kernel_rfl)]
    go_simp
    refine (Kah.out _).mono ?_
    rintro e1 q6 ⟨rfl, hbq6⟩
    have hSq6 : Below w1.heap.size w1 q6 := (hSq5).trans (hbq6.mono (hSq5).size)
    go_wp2_with fail
    refine hK.out _ _ hSq6 (fun _ => ?_)
    clear hK K
    try simp only [List.setIfInBounds_toArray, List.set_cons_zero, List.set_cons_succ]
    refine wpAnyH_ready (rs := [19]) (by kernel_rfl) (by simp) ?_
    refine AllReadyH.cons rfl (fun K hK => ?_) AllReadyH.nil
    rw [if_pos (by kernel_rfl)]
    go_simp
    refine (KpDD.out _).mono ?_
    rintro e1 q7 ⟨rfl, hbq7⟩
    have hSq7 : Below w1.heap.size w1 q7 := (hSq6).trans (hbq7.mono (hSq6).size)
    go_wp2_with fail
    refine hK.out _ _ hSq7 (fun _ => ?_)
    clear hK K
    try simp only [List.setIfInBounds_toArray, List.set_cons_zero, List.set_cons_succ]
    refine takeH_at 20 40 (.bool false) rfl rfl (by kernel_rfl) (by kernel_rfl) (by kernel_rfl) (fun _ _ _ h => h) (hSq7) (Or.inl ⟨by kernel_rfl, fun w' hS' => by have q := hE1 w'; go_simp⟩) ?_
    simp only [List.setIfInBounds_toArray, List.set_cons_zero, List.set_cons_succ]
    refine takeH_at 21 41 (.bool false) rfl rfl (by kernel_rfl) (by kernel_rfl) (by kernel_rfl) (fun _ _ _ h => h) (hSq7) (Or.inl ⟨by kernel_rfl, fun w' hS' => by go_simp⟩) ?_
    simp only [List.setIfInBounds_toArray, List.set_cons_zero, List.set_cons_succ]
    refine takeH_at 22 42 (.bool false) rfl rfl (by kernel_rfl) (by kernel_rfl) (by kernel_rfl) (fun _ _ _ h => h) (hSq7) (Or.inl ⟨by kernel_rfl, fun w' hS' => by go_simp⟩) ?_
    simp only [List.setIfInBounds_toArray, List.set_cons_zero, List.set_cons_succ]
    refine takeH_at 23 43 (.agg La.toArray) rfl rfl (by kernel_rfl) (by kernel_rfl) (by kernel_rfl) (fun _ _ _ h => h) (hSq7) (yieldsIf_load_mid (by kernel_rfl) 23 (.tmp 5) rfl (w.heap.size + 1) 0 rfl La _ (fun u hu => ga.out u hu) Try.underlying23 rfl (by rw [hla.out]; exact size23)) ?_
    simp only [List.setIfInBounds_toArray, List.set_cons_zero, List.set_cons_succ]
    refine takeH_at 24 44 (.agg Lb.toArray) rfl rfl (by kernel_rfl) (by kernel_rfl) (by kernel_rfl) (fun _ _ _ h => h) (hSq7) (yieldsIf_load_mid (by kernel_rfl) 23 (.tmp 6) rfl (w.heap.size + 2) 0 rfl Lb _ (fun u hu => gb.out u hu) Try.underlying23 rfl (by rw [hlb.out]; exact size23)) ?_
    simp only [List.setIfInBounds_toArray, List.set_cons_zero, List.set_cons_succ]
    refine takeH_at 26 46 (.agg Lh.toArray) rfl rfl (by kernel_rfl) (by kernel_rfl) (by kernel_rfl) (fun _ _ _ h => h) (hSq7) (yieldsIf_load_mid (by kernel_rfl) 23 (.tmp 4) rfl w.heap.size 0 rfl Lh _ (fun u hu => gh.out u hu) Try.underlying23 rfl (by rw [hlh.out]; exact size23)) ?_
    simp only [List.setIfInBounds_toArray, List.set_cons_zero, List.set_cons_succ]
    refine takeH_at 28 48 (.agg La.toArray) rfl rfl (by kernel_rfl) (by kernel_rfl) (by kernel_rfl) (fun _ _ _ h => h) (hSq7) (yieldsIf_load_mid (by kernel_rfl) 23 (.tmp 5) rfl (w.heap.size + 1) 0 rfl La _ (fun u hu => ga.out u hu) Try.underlying23 rfl (by rw [hla.out]; exact size23)) ?_
    simp only [List.setIfInBounds_toArray, List.set_cons_zero, List.set_cons_succ]
    refine takeH_at 29 49 (.agg Lb.toArray) rfl rfl (by kernel_rfl) (by kernel_rfl) (by kernel_rfl) (fun _ _ _ h => h) (hSq7) (yieldsIf_load_mid (by kernel_rfl) 23 (.tmp 6) rfl (w.heap.size + 2) 0 rfl Lb _ (fun u hu => gb.out u hu) Try.underlying23 rfl (by rw [hlb.out]; exact size23)) ?_
    simp only [List.setIfInBounds_toArray, List.set_cons_zero, List.set_cons_succ]
    refine takeH_at 30 50 (.agg Lh.toArray) rfl rfl (by kernel_rfl) (by kernel_rfl) (by kernel_rfl) (fun _ _ _ h => h) (hSq7) (yieldsIf_load_mid (by kernel_rfl) 23 (.tmp 4) rfl w.heap.size 0 rfl Lh _ (fun u hu => gh.out u hu) Try.underlying23 rfl (by rw [hlh.out]; exact size23)) ?_
    simp only [List.setIfInBounds_toArray, List.set_cons_zero, List.set_cons_succ]
    refine wpAnyH_ready (rs := [25]) (by kernel_rfl) (by simp) ?_
    refine AllReadyH.cons rfl (fun K hK => ?_) AllReadyH.nil
    rw [if_pos (by kernel_rfl)]
    go_simp
    refine (Kab.out _).mono ?_
    rintro e1 q8 ⟨rfl, hbq8⟩
    have hSq8 : Below w1.heap.size w1 q8 := (hSq7).trans (hbq8.mono (hSq7).size)
    go_wp2_with fail
    refine hK.out _ _ hSq8 (fun _ => ?_)
    clear hK K
    try simp only [List.setIfInBounds_toArray, List.set_cons_zero, List.set_cons_succ]
    refine wpAnyH_ready (rs := [27]) (by kernel_rfl) (by simp) ?_
    refine AllReadyH.cons rfl (fun K hK => ?_) AllReadyH.nil
    rw [if_pos (by kernel_rfl)]
    go_simp
    refine (KDh.out _).mono ?_
    rintro e1 q9 ⟨rfl, hbq9⟩
    have hSq9 : Below w1.heap.size w1 q9 := (hSq8).trans (hbq9.mono (hSq8).size)
    go_wp2_with fail
    refine hK.out _ _ hSq9 (fun _ => ?_)
    clear hK K
    try simp only [List.setIfInBounds_toArray, List.set_cons_zero, List.set_cons_succ]
    refine wpAnyH_ready (rs := [31]) (by kernel_rfl) (by simp) ?_
    refine AllReadyH.cons rfl (fun K hK => ?_) AllReadyH.nil
    rw [if_pos (by kernel_rfl)]
    go_simp
    refine (Kbh.out _).mono ?_
    rintro e1 q10 ⟨rfl, hbq10⟩
    have hSq10 : Below w1.heap.size w1 q10 := (hSq9).trans (hbq10.mono (hSq9).size)
    go_wp2_with fail
    refine hK.out _ _ hSq10 (fun _ => ?_)
    clear hK K
    try simp only [List.setIfInBounds_toArray, List.set_cons_zero, List.set_cons_succ]
    refine wpAnyH_ready (rs := [32]) (by kernel_rfl) (by simp) ?_
    refine AllReadyH.cons rfl (fun K hK => ?_) AllReadyH.nil
    rw [if_pos (by kernel_rfl)]
    go_simp
    refine (KaD.out _).mono ?_
    rintro e1 q11 ⟨rfl, hbq11⟩
    have hSq11 : Below w1.heap.size w1 q11 := (hSq10).trans (hbq11.mono (hSq10).size)
    go_wp2_with fail
    refine hK.out _ _ hSq11 (fun _ => ?_)
    clear hK K
    try simp only [List.setIfInBounds_toArray, List.set_cons_zero, List.set_cons_succ]
    refine takeH_at 33 53 (.bool false) rfl rfl (by kernel_rfl) (by kernel_rfl) (by kernel_rfl) (fun _ _ _ h => h) (hSq11) (Or.inl ⟨by kernel_rfl, fun w' hS' => by have q := hF1 w'; go_simp⟩) ?_
    simp only [List.setIfInBounds_toArray, List.set_cons_zero, List.set_cons_succ]
    refine takeH_at 34 54 (.bool false) rfl rfl (by kernel_rfl) (by kernel_rfl) (by kernel_rfl) (fun _ _ _ h => h) (hSq11) (Or.inl ⟨by kernel_rfl, fun w' hS' => by go_simp⟩) ?_
    simp only [List.setIfInBounds_toArray, List.set_cons_zero, List.set_cons_succ]
    refine wpAnyH_done (by kernel_rfl) ?_ _
    refine NoPanic.normal ?_
    go_wp2_with fail
    go_meet
    exact ⟨rfl, hSq11⟩
  case rest =>
  obtain ⟨rfl, HB2⟩ := hcut
  go_upto_region 5 with fail
  go_cut [65] from 55 to 65 (fun c wx => c = .bool false ∧ Hid (Below w1.heap.size w1 wx))
  case first =>
    have hS0 : Below w1.heap.size w1 wc.drew := HB2.out.drew
    refine wp_region_noPanic ?_
    refine wp_region_held_drew (S := fun u => Below w1.heap.size w1 u) (by kernel_rfl) (hS0) (fun _ => ?_)
    refine takeH_at 0 55 (.agg La.toArray) rfl rfl (by kernel_rfl) (by kernel_rfl) (by kernel_rfl) (fun _ _ _ h => h) (hS0) (yieldsIf_load_mid (by kernel_rfl) 23 (.tmp 5) rfl (w.heap.size + 1) 0 rfl La _ (fun u hu => ga.out u hu) Try.underlying23 rfl (by rw [hla.out]; exact size23)) ?_
    simp only [List.setIfInBounds_toArray, List.set_cons_zero, List.set_cons_succ]
    refine takeH_at 1 56 (.agg #[.int .u8 1, .int .u8 0, .int .u8 0, .int .u8 0, .int .u8 0, .int .u8 0, .int .u8 0, .int .u8 0, .int .u8 0, .int .u8 0, .int .u8 0, .int .u8 0, .int .u8 0, .int .u8 0, .int .u8 0, .int .u8 194]) rfl rfl (by kernel_rfl) (by kernel_rfl) (by kernel_rfl) (fun _ _ _ h => h) (hS0) (yieldsIf_build (by kernel_rfl) 23 #[(0, .const (.int .u8 1)), (15, .const (.int .u8 194))] rfl _ (by simp only [List.map_toArray, List.map_cons, List.map_nil]; kernel_rfl)) ?_
    simp only [List.setIfInBounds_toArray, List.set_cons_zero, List.set_cons_succ]
    refine takeH_at 3 58 (.agg La.toArray) rfl rfl (by kernel_rfl) (by kernel_rfl) (by kernel_rfl) (fun _ _ _ h => h) (hS0) (yieldsIf_load_mid (by kernel_rfl) 23 (.tmp 5) rfl (w.heap.size + 1) 0 rfl La _ (fun u hu => ga.out u hu) Try.underlying23 rfl (by rw [hla.out]; exact size23)) ?_
    simp only [List.setIfInBounds_toArray, List.set_cons_zero, List.set_cons_succ]
    refine wpAnyH_ready (rs := [2]) (by kernel_rfl) (by simp) ?_
    refine AllReadyH.cons rfl (fun K hK => ?_) AllReadyH.nil
    go_simp
    refine (Ka1.out _).mono ?_
    rintro e1 q1 ⟨rfl, hbq1⟩
    have hSq1 : Below w1.heap.size w1 q1 := (hS0).trans (hbq1.mono (hS0).size)
    go_wp2_with fail
    refine hK.out _ _ hSq1 (fun _ => ?_)
    clear hK K
    try simp only [List.setIfInBounds_toArray, List.set_cons_zero, List.set_cons_succ]
    refine takeH_at 4 59 (.bool false) rfl rfl (by kernel_rfl) (by kernel_rfl) (by kernel_rfl) (fun _ _ _ h => h) (hSq1) (Or.inl ⟨by kernel_rfl, fun w' hS' => by have q := hA1 w'; go_simp⟩) ?_
    simp only [List.setIfInBounds_toArray, List.set_cons_zero, List.set_cons_succ]
    refine takeH_at 5 60 (.bool false) rfl rfl (by kernel_rfl) (by kernel_rfl) (by kernel_rfl) (fun _ _ _ h => h) (hSq1) (Or.inl ⟨by kernel_rfl, fun w' hS' => by go_simp⟩) ?_
    simp only [List.setIfInBounds_toArray, List.set_cons_zero, List.set_cons_succ]
    refine takeH_at 6 61 (.agg Lh.toArray) rfl rfl (by kernel_rfl) (by kernel_rfl) (by kernel_rfl) (fun _ _ _ h => h) (hSq1) (yieldsIf_load_mid (by kernel_rfl) 23 (.tmp 4) rfl w.heap.size 0 rfl Lh _ (fun u hu => gh.out u hu) Try.underlying23 rfl (by rw [hlh.out]; exact size23)) ?_
    simp only [List.setIfInBounds_toArray, List.set_cons_zero, List.set_cons_succ]
    refine takeH_at 8 63 (.agg #[.int .u8 0, .int .u8 0, .int .u8 0, .int .u8 0, .int .u8 0, .int .u8 0, .int .u8 0, .int .u8 0, .int .u8 0, .int .u8 0, .int .u8 0, .int .u8 0, .int .u8 0, .int .u8 0, .int .u8 0, .int .u8 0]) rfl rfl (by kernel_rfl) (by kernel_rfl) (by kernel_rfl) (fun _ _ _ h => h) (hSq1) (yieldsIf_build (by kernel_rfl) 23 #[] rfl _ (by simp only [List.map_toArray, List.map_cons, List.map_nil]; kernel_rfl)) ?_
    simp only [List.setIfInBounds_toArray, List.set_cons_zero, List.set_cons_succ]
    refine wpAnyH_ready (rs := [7]) (by kernel_rfl) (by simp) ?_
    refine AllReadyH.cons rfl (fun K hK => ?_) AllReadyH.nil
    rw [if_pos (by kernel_rfl)]
    go_simp
    refine (Kp0.out _).mono ?_
    rintro e1 q2 ⟨rfl, hbq2⟩
    have hSq2 : Below w1.heap.size w1 q2 := (hSq1).trans (hbq2.mono (hSq1).size)
    go_wp2_with fail
    refine hK.out _ _ hSq2 (fun _ => ?_)
    clear hK K
    try simp only [List.setIfInBounds_toArray, List.set_cons_zero, List.set_cons_succ]
    refine takeH_at 9 64 (.bool false) rfl rfl (by kernel_rfl) (by kernel_rfl) (by kernel_rfl) (fun _ _ _ h => h) (hSq2) (Or.inl ⟨by kernel_rfl, fun w' hS' => by have q := hZ1 w'; go_simp⟩) ?_
    simp only [List.setIfInBounds_toArray, List.set_cons_zero, List.set_cons_succ]
    refine takeH_at 10 65 (.bool false) rfl rfl (by kernel_rfl) (by kernel_rfl) (by kernel_rfl) (fun _ _ _ h => h) (hSq2) (Or.inl ⟨by kernel_rfl, fun w' hS' => by go_simp⟩) ?_
    simp only [List.setIfInBounds_toArray, List.set_cons_zero, List.set_cons_succ]
    refine wpAnyH_done (by kernel_rfl) ?_ _
    refine NoPanic.normal ?_
    go_wp2_with fail
    go_meet
    exact ⟨rfl, hSq2⟩
  case rest =>
  clear HB2
  obtain ⟨rfl, HB2⟩ := hcut
  obtain ⟨Lp, HLp⟩ : ∃ L, Hid (L = BL (pvF h f m)) := ⟨_, rfl⟩
  have hlp : Hid (Lp.length = 16) := by show _ = _; rw [HLp.out]; rfl
  have hop : Hid (Lp.toArray.all (·.oneCell') = true) := by show _ = _; rw [HLp.out]; exact BL_one _
  have HM : Hid (∀ u, Below w1.heap.size w1 u → Blks u ao m f) := fun u hu => ((HB.out.below HA.out.1).below hu).less hmn
  have Kpol : Hid (∀ u, Below w1.heap.size w1 u → Calls Try.prog 8 #[.agg Lh.toArray, .slice ao m cap] u fun e w' => e = .returned (.agg Lp.toArray) ∧ Below u.heap.size u w') := fun u hu => by rw [HLh.out, HLp.out]; exact polyval_ok h ao m cap f u (HM.out u hu) (by omega) hc
  go_wp2_with (first
    | (refine wpList_load_mid (by rfl) 23 (.tmp 4) (by rfl) w.heap.size 0 (by rfl) Lh _ (gh.out _ HB2.out) Try.underlying23 rfl (by rw [hlh.out]; exact size23) ?_)
    | (go_at_call 8; refine (Kpol.out _ HB2.out).mono ?_))
  rintro e1 w7 rfl hb7
  have HB7 : Hid (Below w1.heap.size w1 w7) := HB2.out.trans (hb7.mono HB2.out.size)
  clear hb7
  have hTN : (w7.alloc (.cells #[.int .u8 0, .int .u8 0, .int .u8 0, .int .u8 0, .int .u8 0, .int .u8 0, .int .u8 0, .int .u8 0, .int .u8 0, .int .u8 0, .int .u8 0, .int .u8 0, .int .u8 0, .int .u8 0, .int .u8 0, .int .u8 0] 23)).there w7.heap.size 0 Lp.length := by rw [hlp.out]; exact there_new w7 _ 23 16 (Nat.le_refl _)
  go_upto_region 8 with (first
    | (refine wpList_store_mid (by rfl) 23 (.tmp 9) (.tmp 68) (by rfl) w7.heap.size 0 Lp.toArray (by rfl) (by rfl) (by simpa using hTN) (by rw [List.size_toArray, hlp.out]; exact size23) hop.out ?_))
  have H8 : Hid (Below w1.heap.size w1 ((w7.alloc (.cells #[.int .u8 0, .int .u8 0, .int .u8 0, .int .u8 0, .int .u8 0, .int .u8 0, .int .u8 0, .int .u8 0, .int .u8 0, .int .u8 0, .int .u8 0, .int .u8 0, .int .u8 0, .int .u8 0, .int .u8 0, .int .u8 0] 23)).setCells w7.heap.size 0 Lp) ∧ ((w7.alloc (.cells #[.int .u8 0, .int .u8 0, .int .u8 0, .int .u8 0, .int .u8 0, .int .u8 0, .int .u8 0, .int .u8 0, .int .u8 0, .int .u8 0, .int .u8 0, .int .u8 0, .int .u8 0, .int .u8 0, .int .u8 0, .int .u8 0] 23)).setCells w7.heap.size 0 Lp).rangeAt w7.heap.size 0 Lp ∧ w7.heap.size < ((w7.alloc (.cells #[.int .u8 0, .int .u8 0, .int .u8 0, .int .u8 0, .int .u8 0, .int .u8 0, .int .u8 0, .int .u8 0, .int .u8 0, .int .u8 0, .int .u8 0, .int .u8 0, .int .u8 0, .int .u8 0, .int .u8 0, .int .u8 0] 23)).setCells w7.heap.size 0 Lp).heap.size) :=
    ⟨belowB_setCells _ HB7.out.size _ _ _ (HB7.out.alloc HB7.out.size _), World.rangeAt_setCells_same _ _ _ _ hTN, by rw [size_setCells]; simp⟩
  generalize (w7.alloc (.cells #[.int .u8 0, .int .u8 0, .int .u8 0, .int .u8 0, .int .u8 0, .int .u8 0, .int .u8 0, .int .u8 0, .int .u8 0, .int .u8 0, .int .u8 0, .int .u8 0, .int .u8 0, .int .u8 0, .int .u8 0, .int .u8 0] 23)).setCells w7.heap.size 0 Lp = w8 at H8 ⊢
  clear hTN HB7
  generalize w7.heap.size = T9 at H8 ⊢
  have HT : Hid (∀ u, Below w8.heap.size w8 u → Below w1.heap.size w1 u) := fun u hu => H8.out.1.trans (hu.mono H8.out.1.size)
  have g9 : Hid (∀ u, Below w8.heap.size w8 u → u.rangeAt T9 0 Lp) := fun u hu => range_below H8.out.2.1 hu H8.out.2.2
  obtain ⟨g10, Hg10⟩ : ∃ g : Nat → BitVec 128, Hid (g = fun i => if i < m then f i else a) := ⟨_, rfl⟩
  obtain ⟨g11, Hg11⟩ : ∃ g : Nat → BitVec 128, Hid (g = fun i => f i ^^^ b) := ⟨_, rfl⟩
  obtain ⟨B8, hB8⟩ : ∃ B, Hid (w8.heap.size = B) := ⟨_, rfl⟩
  rw [hB8.out] at HT g9
  go_wp2_with fail
  go_loopw [10, 11, 12] (fun v10 v11 i wr => ∃ k : Nat, k ≤ m ∧ i = .int .i64 (k : Nat) ∧ Hid (Own wr B8 v10 k g10 ∧ Own wr B8 v11 k g11 ∧ (v11.ownBlock = none ∨ v11.ownBlock ≠ v10.ownBlock) ∧ Below B8 w8 wr)) (fun _ _ i _ => m - (intOf i).toNat)
  case atStart => exact ⟨0, by omega, rfl, Own.nil _ _ _, Own.nil _ _ _, Or.inl rfl, Below.refl _ _⟩
  case round =>
    obtain ⟨k, hk, rfl, HR⟩ := hrel
    by_cases hlt : k < m
    · obtain ⟨bb, off, hao⟩ : ∃ b off, ao = some ⟨b, off, none⟩ := by
        rcases HB.out with h0 | ⟨b, off, e, q⟩
        · omega
        · exact ⟨b, off, e⟩
      subst hao
      obtain ⟨Lf, HLf⟩ : ∃ L, Hid (L = BL (f k)) := ⟨_, rfl⟩
      obtain ⟨Lx, HLx⟩ : ∃ L, Hid (L = BL (f k ^^^ b)) := ⟨_, rfl⟩
      have hlf : Hid (Lf.length = 16) := by show _ = _; rw [HLf.out]; rfl
      have GF : Hid (∀ u, Below w1.heap.size w1 u → u.rangeAt bb (off + k * 16) Lf) := fun u hu => by
        rw [HLf.out]
        rcases HM.out u hu with h0 | ⟨b', off', e, _, q⟩
        · omega
        · cases e
          exact q k hlt
      have Kfb : Hid (∀ u, Calls Try.prog 7 #[.agg Lf.toArray, .agg Lb.toArray] u fun e w' => e = .returned (.agg Lx.toArray) ∧ Below u.heap.size u w') := fun u => by rw [HLf.out, HLb.out, HLx.out]; exact plusB_ok _ b u
      have hki : ((k : Nat) : Int) < (m : Nat) := by omega
      have HO : Hid (Own (wr.alloc (.cells Lf.toArray 23)) B8 u10 k g10 ∧ (wr.alloc (.cells Lf.toArray 23)).rangeAt wr.heap.size 0 (BL (g10 k)) ∧ B8 ≤ (wr.alloc (.cells Lf.toArray 23)).heap.size) := by
        have hz1 := HR.out.2.2.2.size
        have hz2 := hB8.out
        refine ⟨HR.out.1.below ((Below.refl _ wr).alloc (Nat.le_refl _) _), ?_, by simp; omega⟩
        have q := rangeAt_new wr Lf.toArray 23
        rw [Hg10.out]
        show World.rangeAt _ _ _ (BL (if k < m then f k else a))
        rw [if_pos hlt, ← HLf.out]
        exact q
      go_upto_region 14 with (first
        | (refine wpList_load_mid (by rfl) 23 (.tmp 78) (by rfl) bb (off + k * 16) (by rfl) Lf _ (GF.out _ (HT.out _ HR.out.2.2.2)) Try.underlying23 rfl (by rw [hlf.out]; exact size23) ?_)
        | (refine wpList_block (by rfl) (.tmp 79) (by rfl) Lf (f k) HLf.out (by rfl) ?_)
        | (refine wpList_more (by rfl) (.tmp 75) (.tmp 80) (by rfl) B8 k g10 u10 (by rfl) HO.out.1 wr.heap.size (by rfl) HO.out.2.1 (by omega) HO.out.2.2 ?_; intro g1 cap1 w13 ho13 hg13 ha13))
      have H13 : Hid (Own w13 B8 (.slice (some ⟨g1, 0, none⟩) (k + 1) cap1) (k + 1) g10 ∧ Own w13 B8 u11 k g11 ∧ u11.ownBlock ≠ some g1 ∧ Below B8 w8 w13) := by
        obtain ⟨r1, r2, r3, r4⟩ := HR.out
        have ha : Below wr.heap.size wr (wr.alloc (.cells Lf.toArray 23)) := (Below.refl _ wr).alloc (Nat.le_refl _) _
        refine ⟨ho13, (r2.below ha).other hg13 r3, fun e => ?_, r4.trans ((ha.mono ?_).trans (HO.out.1.frame hg13 HO.out.2.2))⟩
        · rcases ha13 with e1 | e1
          · rcases r3 with e2 | e2
            · rw [e2] at e; cases e
            · exact e2 (e.trans e1.symm)
          · have := (r2.lt e).2
            simp at e1
            omega
        · have hz1 := r4.size
          have hz2 := hB8.out
          omega
      clear ho13 hg13 ha13 HO
      have gf13 : Hid (∀ u, Below w13.heap.size w13 u → u.rangeAt bb (off + k * 16) Lf) := fun u hu => GF.out u (HT.out u (H13.out.2.2.2.trans (hu.mono (by have hz1 := H13.out.2.2.2.size; have hz2 := hB8.out; omega))))
      have gb13 : Hid (∀ u, Below w13.heap.size w13 u → u.rangeAt (w.heap.size + 2) 0 Lb) := fun u hu => gb.out u (HT.out u (H13.out.2.2.2.trans (hu.mono (by have hz1 := H13.out.2.2.2.size; have hz2 := hB8.out; omega))))
      have hS0 : Below w13.heap.size w13 w13.drew := (Below.refl _ _).drew
      refine wp_region_noPanic ?_
      refine wp_region_till (fun u => Below w13.heap.size w13 u) 8 (by kernel_rfl) (by decide) (by decide +kernel) (by decide +kernel) (by decide +kernel) (fun inv => ?_)
      refine till_at 0 82 (u11) inv rfl rfl (by decide) (by decide +kernel) (by decide +kernel) (fun _ _ _ h => h) (hS0) (Or.inl ⟨by rfl, fun w' hS' => by go_simp⟩) (fun inv' => ?_)
      clear inv; have inv := inv'; clear inv'
      simp only [List.setIfInBounds_toArray, List.set_cons_zero, List.set_cons_succ]
      refine till_at 1 83 (.slice (some ⟨bb, off, none⟩) m cap) inv rfl rfl (by decide) (by decide +kernel) (by decide +kernel) (fun _ _ _ h => h) (hS0) (Or.inl ⟨by rfl, fun w' hS' => by go_simp⟩) (fun inv' => ?_)
      clear inv; have inv := inv'; clear inv'
      simp only [List.setIfInBounds_toArray, List.set_cons_zero, List.set_cons_succ]
      refine till_at 2 84 (.int .i64 (k : Nat)) inv rfl rfl (by decide) (by decide +kernel) (by decide +kernel) (fun _ _ _ h => h) (hS0) (Or.inl ⟨by rfl, fun w' hS' => by go_simp⟩) (fun inv' => ?_)
      clear inv; have inv := inv'; clear inv'
      simp only [List.setIfInBounds_toArray, List.set_cons_zero, List.set_cons_succ]
      refine till_at 3 85 (.pointer (some ⟨bb, off + k * 16, none⟩)) inv rfl rfl (by decide) (by decide +kernel) (by decide +kernel) (fun _ _ _ h => h) (hS0) (Or.inl ⟨by rfl, fun w' hS' => by go_simp⟩) (fun inv' => ?_)
      clear inv; have inv := inv'; clear inv'
      simp only [List.setIfInBounds_toArray, List.set_cons_zero, List.set_cons_succ]
      refine till_at 4 86 (.agg Lf.toArray) inv rfl rfl (by decide) (by decide +kernel) (by decide +kernel) (fun _ _ _ h => h) (hS0) (yieldsIf_load_mid (by rfl) 23 (.tmp 85) rfl bb (off + k * 16) rfl Lf _ (fun u hu => gf13.out u hu) Try.underlying23 rfl (by rw [hlf.out]; exact size23)) (fun inv' => ?_)
      clear inv; have inv := inv'; clear inv'
      simp only [List.setIfInBounds_toArray, List.set_cons_zero, List.set_cons_succ]
      refine till_at 5 87 (.agg Lb.toArray) inv rfl rfl (by decide) (by decide +kernel) (by decide +kernel) (fun _ _ _ h => h) (hS0) (yieldsIf_load_mid (by rfl) 23 (.tmp 6) rfl (w.heap.size + 2) (0) rfl Lb _ (fun u hu => gb13.out u hu) Try.underlying23 rfl (by rw [hlb.out]; exact size23)) (fun inv' => ?_)
      clear inv; have inv := inv'; clear inv'
      simp only [List.setIfInBounds_toArray, List.set_cons_zero, List.set_cons_succ]
      refine till_head (i := 6) inv (by decide +kernel) (by decide) rfl (fun K hK => ?_)
      go_simp
      refine (Kfb.out _).mono ?_
      rintro e1 q1 ⟨rfl, hbq1⟩
      have hSq1 : Below w13.heap.size w13 q1 := (hS0).trans (hbq1.mono (hS0).size)
      go_wp2_with fail
      refine hK.out _ _ hSq1 (fun inv' => ?_)
      clear hK K inv; have inv := inv'; clear inv'
      try simp only [List.setIfInBounds_toArray, List.set_cons_zero, List.set_cons_succ]
      have HQ : Hid (Below w13.heap.size w13 q1) := hSq1
      clear hbq1 hSq1 hS0
      refine till_head (i := 7) inv (by decide +kernel) (by decide) rfl (fun K hK => ?_)
      rw [if_pos (by rfl)]
      refine wp_block (.tmp 88) rfl Lx (f k ^^^ b) HLx.out rfl ?_
      refine hK.out _ _ (HQ.out.alloc HQ.out.size _) (fun inv' => ?_)
      clear hK K inv; have inv := inv'; clear inv'
      try simp only [List.setIfInBounds_toArray, List.set_cons_zero, List.set_cons_succ]
      have HQ2 : Hid (Below w13.heap.size w13 (q1.alloc (.cells Lx.toArray 23)) ∧ (q1.alloc (.cells Lx.toArray 23)).rangeAt q1.heap.size 0 (BL (g11 k)) ∧ B8 ≤ (q1.alloc (.cells Lx.toArray 23)).heap.size) := by
        have hq := HQ.out.alloc HQ.out.size (.cells Lx.toArray 23)
        have hz := hq.size
        have hz1 := H13.out.2.2.2.size
        have hz2 := hB8.out
        refine ⟨hq, ?_, by omega⟩
        have q := rangeAt_new q1 Lx.toArray 23
        rw [Hg11.out]
        show World.rangeAt _ _ _ (BL (f k ^^^ b))
        rw [← HLx.out]
        exact q
      refine till_tail (i := 8) (by decide +kernel) (by decide) rfl (fun K hK => ?_)
      rw [if_pos (by rfl)]
      refine wp_more (.tmp 82) (.tmp 89) rfl B8 k g11 u11 rfl (H13.out.2.1.below HQ2.out.1) q1.heap.size rfl HQ2.out.2.1 (by omega) HQ2.out.2.2 ?_
      intro g2 cap2 w14 ho14 hg14 ha14
      refine hK.out _ _ ?_
      clear hK K
      try simp only [List.setIfInBounds_toArray, List.set_cons_zero, List.set_cons_succ]
      refine till_tail (i := 9) (by decide +kernel) (by decide) rfl (fun K hK => ?_)
      go_simp
      refine hK.out _ _ ?_
      clear hK K
      try simp only [List.setIfInBounds_toArray, List.set_cons_zero, List.set_cons_succ]
      refine till_done (by decide +kernel) ?_ _
      refine NoPanic.normal ?_
      go_wp2
      refine ⟨⟨k + 1, by omega, rfl, ?_⟩, by simp only [intOf]; omega⟩
      obtain ⟨r1, r2, r3, r4⟩ := H13.out
      obtain ⟨s1, s2, s3⟩ := HQ2.out
      refine ⟨(r1.below s1).other hg14 (Or.inr fun e => r3 e.symm), ho14, Or.inr fun e => ?_, r4.trans ((s1.mono (by have hz1 := r4.size; have hz2 := hB8.out; omega)).trans ((r2.below s1).frame hg14 s3))⟩
      have e' : g2 = g1 := by simpa [Value.ownBlock] using e
      subst e'
      rcases ha14 with e1 | e1
      · exact r3 e1
      · have hz1 := (r1.lt (g := g2) rfl).2
        have hz2 := s1.size
        omega
    · have hkm : m = k := by omega
      subst hkm
      have hki : ¬ ((m : Nat) : Int) < (m : Nat) := by omega
      have HO15 : Hid (Own (wr.alloc (.cells La.toArray 23)) B8 u10 m g10 ∧ (wr.alloc (.cells La.toArray 23)).rangeAt wr.heap.size 0 (BL (g10 m)) ∧ B8 ≤ (wr.alloc (.cells La.toArray 23)).heap.size) := by
        have hz1 := HR.out.2.2.2.size
        have hz2 := hB8.out
        refine ⟨HR.out.1.below ((Below.refl _ wr).alloc (Nat.le_refl _) _), ?_, by simp; omega⟩
        have q := rangeAt_new wr La.toArray 23
        rw [Hg10.out]
        show World.rangeAt _ _ _ (BL (if m < m then f m else a))
        rw [if_neg (Nat.lt_irrefl _), ← HLa.out]
        exact q
      go_upto_region 16 with (first
        | (refine wpList_load_mid (by rfl) 23 (.tmp 5) (by rfl) (w.heap.size + 1) 0 (by rfl) La _ (ga.out _ (HT.out _ HR.out.2.2.2)) Try.underlying23 rfl (by rw [hla.out]; exact size23) ?_)
        | (refine wpList_block (by rfl) (.tmp 92) (by rfl) La a HLa.out (by rfl) ?_)
        | (refine wpList_more (by rfl) (.tmp 91) (.tmp 93) (by rfl) B8 m g10 u10 (by rfl) HO15.out.1 wr.heap.size (by rfl) HO15.out.2.1 (by omega) HO15.out.2.2 ?_; intro g3 cap3 w15 ho15 hg15 ha15))
      obtain ⟨ao11, cap11, h11, hm11, hc11, _⟩ := HR.out.2.1.blks
      have H15 : Hid (Own w15 B8 (.slice (some ⟨g3, 0, none⟩) (m + 1) cap3) (m + 1) g10 ∧ Own w15 B8 u11 m g11 ∧ Below B8 w8 w15) := by
        obtain ⟨r1, r2, r3, r4⟩ := HR.out
        have ha : Below wr.heap.size wr (wr.alloc (.cells La.toArray 23)) := (Below.refl _ wr).alloc (Nat.le_refl _) _
        exact ⟨ho15, (r2.below ha).other hg15 r3, r4.trans ((ha.mono (by have hz1 := r4.size; have hz2 := hB8.out; omega)).trans (HO15.out.1.frame hg15 HO15.out.2.2))⟩
      clear ho15 hg15 ha15 HO15
      subst h11
      have HT15 : Hid (∀ u, Below w15.heap.size w15 u → Below B8 w8 u) := fun u hu => H15.out.2.2.trans (hu.mono (by have hz1 := H15.out.2.2.size; have hz2 := hB8.out; omega))
      have gh15 : Hid (∀ u, Below w15.heap.size w15 u → u.rangeAt w.heap.size 0 Lh) := fun u hu => gh.out u (HT.out u (HT15.out u hu))
      have ga15 : Hid (∀ u, Below w15.heap.size w15 u → u.rangeAt (w.heap.size + 1) 0 La) := fun u hu => ga.out u (HT.out u (HT15.out u hu))
      have g915 : Hid (∀ u, Below w15.heap.size w15 u → u.rangeAt T9 0 Lp) := fun u hu => g9.out u (HT15.out u hu)
      obtain ⟨Lpa, HLpa⟩ : ∃ L, Hid (L = BL (pvF h f m ^^^ a)) := ⟨_, rfl⟩
      obtain ⟨Lr, HLr⟩ : ∃ L, Hid (L = BL (D UP (pvF h f m ^^^ a) h)) := ⟨_, rfl⟩
      have Kp10 : Hid (∀ u, Below w15.heap.size w15 u → Calls Try.prog 8 #[.agg Lh.toArray, .slice (some ⟨g3, 0, none⟩) (m + 1) cap3] u fun e w' => e = .returned (.agg Lr.toArray) ∧ Below u.heap.size u w') := fun u hu => by
        obtain ⟨ao', cap', e1, e2, e3, e4⟩ := (H15.out.1.below hu).blks
        cases e1
        have ez : pvF h g10 (m + 1) = D UP (pvF h f m ^^^ a) h := by
          show D UP (pvF h g10 m ^^^ g10 m) h = _
          have e5 : g10 m = a := by rw [Hg10.out]; exact if_neg (Nat.lt_irrefl _)
          rw [e5, pvF_congr h g10 f m fun i hi => by rw [Hg10.out]; exact if_pos hi]
        have q := polyval_ok h (some ⟨g3, 0, none⟩) (m + 1) cap3 g10 u e4 e2 e3
        rw [ez] at q
        rw [HLh.out, HLr.out]
        exact q
      have Kpa : Hid (∀ u, Calls Try.prog 7 #[.agg Lp.toArray, .agg La.toArray] u fun e w' => e = .returned (.agg Lpa.toArray) ∧ Below u.heap.size u w') := fun u => by rw [HLp.out, HLa.out, HLpa.out]; exact plusB_ok _ a u
      have Kr : Hid (∀ u, Calls Try.prog 6 #[.agg Lpa.toArray, .agg Lh.toArray] u fun e w' => e = .returned (.agg Lr.toArray) ∧ Below u.heap.size u w') := fun u => by rw [HLpa.out, HLh.out, HLr.out]; exact dot_ok _ h u
      have hR1 : ∀ u, (binOp .neq 23 (.agg Lr.toArray) (.agg Lr.toArray)).run Try.prog u = .ok (.bool false) u := fun u => by rw [HLr.out]; exact neq_same _ u
      go_cut [103] from 95 to 103 (fun c wx => c = .bool false ∧ Hid (Below w15.heap.size w15 wx))
      case first =>
        have hS0 : Below w15.heap.size w15 w15.drew := (Below.refl _ _).drew
        refine wp_region_noPanic ?_
        refine wp_region_held_drew (S := fun u => Below w15.heap.size w15 u) (by kernel_rfl) (hS0) (fun _ => ?_)
        refine takeH_at 0 95 (.agg Lh.toArray) rfl rfl (by kernel_rfl) (by kernel_rfl) (by kernel_rfl) (fun _ _ _ h => h) (hS0) (yieldsIf_load_mid (by kernel_rfl) 23 (.tmp 4) rfl w.heap.size 0 rfl Lh _ (fun u hu => gh15.out u hu) Try.underlying23 rfl (by rw [hlh.out]; exact size23)) ?_
        simp only [List.setIfInBounds_toArray, List.set_cons_zero, List.set_cons_succ]
        refine takeH_at 1 96 (.slice (some ⟨g3, 0, none⟩) (m + 1) cap3) rfl rfl (by kernel_rfl) (by kernel_rfl) (by kernel_rfl) (fun _ _ _ h => h) (hS0) (Or.inl ⟨by kernel_rfl, fun w' hS' => by go_simp⟩) ?_
        simp only [List.setIfInBounds_toArray, List.set_cons_zero, List.set_cons_succ]
        refine takeH_at 3 98 (.agg Lp.toArray) rfl rfl (by kernel_rfl) (by kernel_rfl) (by kernel_rfl) (fun _ _ _ h => h) (hS0) (yieldsIf_load_mid (by kernel_rfl) 23 (.tmp 9) rfl T9 0 rfl Lp _ (fun u hu => g915.out u hu) Try.underlying23 rfl (by rw [hlp.out]; exact size23)) ?_
        simp only [List.setIfInBounds_toArray, List.set_cons_zero, List.set_cons_succ]
        refine takeH_at 4 99 (.agg La.toArray) rfl rfl (by kernel_rfl) (by kernel_rfl) (by kernel_rfl) (fun _ _ _ h => h) (hS0) (yieldsIf_load_mid (by kernel_rfl) 23 (.tmp 5) rfl (w.heap.size + 1) 0 rfl La _ (fun u hu => ga15.out u hu) Try.underlying23 rfl (by rw [hla.out]; exact size23)) ?_
        simp only [List.setIfInBounds_toArray, List.set_cons_zero, List.set_cons_succ]
        refine takeH_at 6 101 (.agg Lh.toArray) rfl rfl (by kernel_rfl) (by kernel_rfl) (by kernel_rfl) (fun _ _ _ h => h) (hS0) (yieldsIf_load_mid (by kernel_rfl) 23 (.tmp 4) rfl w.heap.size 0 rfl Lh _ (fun u hu => gh15.out u hu) Try.underlying23 rfl (by rw [hlh.out]; exact size23)) ?_
        simp only [List.setIfInBounds_toArray, List.set_cons_zero, List.set_cons_succ]
        refine wpAnyH_ready (rs := [2]) (by kernel_rfl) (by simp) ?_
        refine AllReadyH.cons rfl (fun K hK => ?_) AllReadyH.nil
        go_simp
        refine (Kp10.out _ hS0).mono ?_
        rintro e1 q1 ⟨rfl, hbq1⟩
        have hSq1 : Below w15.heap.size w15 q1 := (hS0).trans (hbq1.mono (hS0).size)
        go_wp2_with fail
        refine hK.out _ _ hSq1 (fun _ => ?_)
        clear hK K
        try simp only [List.setIfInBounds_toArray, List.set_cons_zero, List.set_cons_succ]
        refine wpAnyH_ready (rs := [5]) (by kernel_rfl) (by simp) ?_
        refine AllReadyH.cons rfl (fun K hK => ?_) AllReadyH.nil
        go_simp
        refine (Kpa.out _).mono ?_
        rintro e1 q2 ⟨rfl, hbq2⟩
        have hSq2 : Below w15.heap.size w15 q2 := (hSq1).trans (hbq2.mono (hSq1).size)
        go_wp2_with fail
        refine hK.out _ _ hSq2 (fun _ => ?_)
        clear hK K
        try simp only [List.setIfInBounds_toArray, List.set_cons_zero, List.set_cons_succ]
        refine wpAnyH_ready (rs := [7]) (by kernel_rfl) (by simp) ?_
        refine AllReadyH.cons rfl (fun K hK => ?_) AllReadyH.nil
        go_simp
        refine (Kr.out _).mono ?_
        rintro e1 q3 ⟨rfl, hbq3⟩
        have hSq3 : Below w15.heap.size w15 q3 := (hSq2).trans (hbq3.mono (hSq2).size)
        go_wp2_with fail
        refine hK.out _ _ hSq3 (fun _ => ?_)
        clear hK K
        try simp only [List.setIfInBounds_toArray, List.set_cons_zero, List.set_cons_succ]
        refine takeH_at 8 103 (.bool false) rfl rfl (by kernel_rfl) (by kernel_rfl) (by kernel_rfl) (fun _ _ _ h => h) (hSq3) (Or.inl ⟨by kernel_rfl, fun w' hS' => by have q := hR1 w'; go_simp⟩) ?_
        simp only [List.setIfInBounds_toArray, List.set_cons_zero, List.set_cons_succ]
        refine wpAnyH_done (by kernel_rfl) ?_ _
        refine NoPanic.normal ?_
        go_wp2_with fail
        go_meet
        exact ⟨rfl, hSq3⟩
      case rest =>
      clear HB2
      obtain ⟨rfl, HB2⟩ := hcut
      obtain ⟨g13, Hg13⟩ : ∃ g : Nat → BitVec 128, Hid (g = fun _ => b) := ⟨_, rfl⟩
      obtain ⟨w16, hw16⟩ : ∃ u, Hid (u = wc) := ⟨_, rfl⟩
      rw [← hw16.out] at HB2
      rw [← hw16.out]
      obtain ⟨B16, hB16⟩ : ∃ B, Hid (w16.heap.size = B) := ⟨_, rfl⟩
      have HT16 : Hid (∀ u, Below B16 w16 u → Below w15.heap.size w15 u) := fun u hu => HB2.out.trans (hu.mono (by have hz1 := HB2.out.size; have hz2 := hB16.out; omega))
      clear hR1 Kp10 Kpa Kr HR
      go_wp2_with fail
      go_loopw [13, 14] (fun v13 i wr => ∃ k : Nat, k ≤ m ∧ i = .int .i64 (k : Nat) ∧ Hid (Own wr B16 v13 k g13 ∧ Below B16 w16 wr)) (fun _ i _ => m - (intOf i).toNat)
      case atStart => exact ⟨0, by omega, rfl, Own.nil _ _ _, Below.refl _ _⟩
      case round =>
        obtain ⟨k, hk, rfl, HR⟩ := hrel
        by_cases hlt : k < m
        · have hki : ((k : Nat) : Int) < (m : Nat) := by omega
          have HO : Hid (Own (wr.alloc (.cells Lb.toArray 23)) B16 u13 k g13 ∧ (wr.alloc (.cells Lb.toArray 23)).rangeAt wr.heap.size 0 (BL (g13 k)) ∧ B16 ≤ (wr.alloc (.cells Lb.toArray 23)).heap.size) := by
            have hz1 := HR.out.2.size
            have hz2 := hB16.out
            refine ⟨HR.out.1.below ((Below.refl _ wr).alloc (Nat.le_refl _) _), ?_, by simp; omega⟩
            have q := rangeAt_new wr Lb.toArray 23
            rw [Hg13.out]
            show World.rangeAt _ _ _ (BL b)
            rw [← HLb.out]
            exact q
          go_wp2_with (first
            | (refine wpList_load_mid (by rfl) 23 (.tmp 6) (by rfl) (w.heap.size + 2) 0 (by rfl) Lb _ (gb.out _ (HT.out _ (HT15.out _ (HT16.out _ HR.out.2)))) Try.underlying23 rfl (by rw [hlb.out]; exact size23) ?_)
            | (refine wpList_block (by rfl) (.tmp 111) (by rfl) Lb b HLb.out (by rfl) ?_)
            | (refine wpList_more (by rfl) (.tmp 110) (.tmp 112) (by rfl) B16 k g13 u13 (by rfl) HO.out.1 wr.heap.size (by rfl) HO.out.2.1 (by omega) HO.out.2.2 ?_; intro g4 cap4 w22 ho22 hg22 ha22))
          refine ⟨⟨k + 1, by omega, rfl, ?_⟩, by simp only [intOf]; omega⟩
          have hz1 := HR.out.2.size
          have hz2 := hB16.out
          exact ⟨ho22, HR.out.2.trans ((((Below.refl wr.heap.size wr).alloc (Nat.le_refl _) (.cells Lb.toArray 23)).mono (by omega)).trans (HO.out.1.frame hg22 HO.out.2.2))⟩
        · have hkm : m = k := by omega
          subst hkm
          have hki : ¬ ((m : Nat) : Int) < (m : Nat) := by omega
          obtain ⟨ao13, cap13, h13, hm13, hc13, _⟩ := HR.out.1.blks
          subst h13
          have HT20 : Hid (∀ u, Below wr.heap.size wr u → Below B16 w16 u) := fun u hu => HR.out.2.trans (hu.mono (by have hz1 := HR.out.2.size; have hz2 := hB16.out; omega))
          have gh20 : Hid (∀ u, Below wr.heap.size wr u → u.rangeAt w.heap.size 0 Lh) := fun u hu => gh15.out u (HT16.out u (HT20.out u hu))
          have g920 : Hid (∀ u, Below wr.heap.size wr u → u.rangeAt T9 0 Lp) := fun u hu => g915.out u (HT16.out u (HT20.out u hu))
          obtain ⟨L13, HL13⟩ : ∃ L, Hid (L = BL (pvF h g13 m)) := ⟨_, rfl⟩
          obtain ⟨L11, HL11⟩ : ∃ L, Hid (L = BL (pvF h f m ^^^ pvF h g13 m)) := ⟨_, rfl⟩
          have Kp11 : Hid (∀ u, Below wr.heap.size wr u → Calls Try.prog 8 #[.agg Lh.toArray, .slice ao11 m cap11] u fun e w' => e = .returned (.agg L11.toArray) ∧ Below u.heap.size u w') := fun u hu => by
            obtain ⟨ao', cap', e1, e2, e3, e4⟩ := (H15.out.2.1.below (HT16.out u (HT20.out u hu))).blks
            cases e1
            have ez : pvF h g11 m = pvF h f m ^^^ pvF h g13 m := by
              rw [Hg11.out, Hg13.out]
              exact pvF_add h f (fun _ => b) m
            have q := polyval_ok h ao11 m cap11 g11 u e4 e2 e3
            rw [ez] at q
            rw [HLh.out, HL11.out]
            exact q
          have Kp13 : Hid (∀ u, Below wr.heap.size wr u → Calls Try.prog 8 #[.agg Lh.toArray, .slice ao13 m cap13] u fun e w' => e = .returned (.agg L13.toArray) ∧ Below u.heap.size u w') := fun u hu => by
            obtain ⟨ao', cap', e1, e2, e3, e4⟩ := (HR.out.1.below hu).blks
            cases e1
            rw [HLh.out, HL13.out]
            exact polyval_ok h ao13 m cap13 g13 u e4 e2 e3
          have Kq : Hid (∀ u, Calls Try.prog 7 #[.agg Lp.toArray, .agg L13.toArray] u fun e w' => e = .returned (.agg L11.toArray) ∧ Below u.heap.size u w') := fun u => by rw [HLp.out, HL13.out, HL11.out]; exact plusB_ok _ _ u
          have hQ1 : ∀ u, (binOp .eql 23 (.agg L11.toArray) (.agg L11.toArray)).run Try.prog u = .ok (.bool true) u := fun u => by rw [HL11.out]; exact eql_same _ u
          go_upto_region 23 with fail
          have hS0 : Below wr.heap.size wr wr.drew := (Below.refl _ _).drew
          refine wp_region_noPanic ?_
          refine wp_region_held_drew (S := fun u => Below wr.heap.size wr u) (by kernel_rfl) (hS0) (fun _ => ?_)
          refine takeH_at 0 114 (.agg Lh.toArray) rfl rfl (by kernel_rfl) (by kernel_rfl) (by kernel_rfl) (fun _ _ _ h => h) (hS0) (yieldsIf_load_mid (by kernel_rfl) 23 (.tmp 4) rfl w.heap.size 0 rfl Lh _ (fun u hu => gh20.out u hu) Try.underlying23 rfl (by rw [hlh.out]; exact size23)) ?_
          simp only [List.setIfInBounds_toArray, List.set_cons_zero, List.set_cons_succ]
          refine takeH_at 1 115 (.slice ao11 m cap11) rfl rfl (by kernel_rfl) (by kernel_rfl) (by kernel_rfl) (fun _ _ _ h => h) (hS0) (Or.inl ⟨by kernel_rfl, fun w' hS' => by go_simp⟩) ?_
          simp only [List.setIfInBounds_toArray, List.set_cons_zero, List.set_cons_succ]
          refine takeH_at 3 117 (.agg Lp.toArray) rfl rfl (by kernel_rfl) (by kernel_rfl) (by kernel_rfl) (fun _ _ _ h => h) (hS0) (yieldsIf_load_mid (by kernel_rfl) 23 (.tmp 9) rfl T9 0 rfl Lp _ (fun u hu => g920.out u hu) Try.underlying23 rfl (by rw [hlp.out]; exact size23)) ?_
          simp only [List.setIfInBounds_toArray, List.set_cons_zero, List.set_cons_succ]
          refine takeH_at 4 118 (.agg Lh.toArray) rfl rfl (by kernel_rfl) (by kernel_rfl) (by kernel_rfl) (fun _ _ _ h => h) (hS0) (yieldsIf_load_mid (by kernel_rfl) 23 (.tmp 4) rfl w.heap.size 0 rfl Lh _ (fun u hu => gh20.out u hu) Try.underlying23 rfl (by rw [hlh.out]; exact size23)) ?_
          simp only [List.setIfInBounds_toArray, List.set_cons_zero, List.set_cons_succ]
          refine takeH_at 5 119 (.slice ao13 m cap13) rfl rfl (by kernel_rfl) (by kernel_rfl) (by kernel_rfl) (fun _ _ _ h => h) (hS0) (Or.inl ⟨by kernel_rfl, fun w' hS' => by go_simp⟩) ?_
          simp only [List.setIfInBounds_toArray, List.set_cons_zero, List.set_cons_succ]
          refine wpAnyH_ready (rs := [2]) (by kernel_rfl) (by simp) ?_
          refine AllReadyH.cons rfl (fun K hK => ?_) AllReadyH.nil
          go_simp
          refine (Kp11.out _ hS0).mono ?_
          rintro e1 q1 ⟨rfl, hbq1⟩
          have hSq1 : Below wr.heap.size wr q1 := (hS0).trans (hbq1.mono (hS0).size)
          go_wp2_with fail
          refine hK.out _ _ hSq1 (fun _ => ?_)
          clear hK K
          try simp only [List.setIfInBounds_toArray, List.set_cons_zero, List.set_cons_succ]
          refine wpAnyH_ready (rs := [6]) (by kernel_rfl) (by simp) ?_
          refine AllReadyH.cons rfl (fun K hK => ?_) AllReadyH.nil
          go_simp
          refine (Kp13.out _ hSq1).mono ?_
          rintro e1 q2 ⟨rfl, hbq2⟩
          have hSq2 : Below wr.heap.size wr q2 := (hSq1).trans (hbq2.mono (hSq1).size)
          go_wp2_with fail
          refine hK.out _ _ hSq2 (fun _ => ?_)
          clear hK K
          try simp only [List.setIfInBounds_toArray, List.set_cons_zero, List.set_cons_succ]
          refine wpAnyH_ready (rs := [7]) (by kernel_rfl) (by simp) ?_
          refine AllReadyH.cons rfl (fun K hK => ?_) AllReadyH.nil
          go_simp
          refine (Kq.out _).mono ?_
          rintro e1 q3 ⟨rfl, hbq3⟩
          have hSq3 : Below wr.heap.size wr q3 := (hSq2).trans (hbq3.mono (hSq2).size)
          go_wp2_with fail
          refine hK.out _ _ hSq3 (fun _ => ?_)
          clear hK K
          try simp only [List.setIfInBounds_toArray, List.set_cons_zero, List.set_cons_succ]
          refine takeH_at 8 122 (.bool true) rfl rfl (by kernel_rfl) (by kernel_rfl) (by kernel_rfl) (fun _ _ _ h => h) (hSq3) (Or.inl ⟨by kernel_rfl, fun w' hS' => by have q := hQ1 w'; go_simp⟩) ?_
          simp only [List.setIfInBounds_toArray, List.set_cons_zero, List.set_cons_succ]
          refine takeH_at 9 8 (.bool true) rfl rfl (by kernel_rfl) (by kernel_rfl) (by kernel_rfl) (fun _ _ _ h => h) (hSq3) (Or.inl ⟨by kernel_rfl, fun w' hS' => by go_simp⟩) ?_
          simp only [List.setIfInBounds_toArray, List.set_cons_zero, List.set_cons_succ]
          refine wpAnyH_done (by kernel_rfl) ?_ _
          refine NoPanic.normal ?_
          have HF : Hid (Below w.heap.size w q3) := HA.out.1.trans ((HT.out _ (HT15.out _ (HT16.out _ (HT20.out _ hSq3)))).mono HA.out.1.size)
          go_wp2_with fail
          go_ret
          exact ⟨rfl, HF.out⟩

end Go.Proofs.Ytogpkphnkbebeaa
