import Derived.Test.YtnkpngpjlkkkbaaBtl
import Derived.Test.YtnkpngpjlkkkbaaDbl
import Derived.Test.YtnkpngpjlkkkbaaRow
namespace Go.Proofs.Ytnkpngpjlkkkbaa
open Go.RowKit Go.Proofs.Ytnkpngpjlkkkbaa.Fld
set_option linter.unusedVariables false
set_option linter.unusedSimpArgs false
theorem yieldsIf_build {P : Program} {ops : Array Oper} {S : World → Prop} {op : Oper} {a : Act} (hw : Region.wanted op (yielded ops a.tmps) = true) (ty : TypeId) (parts : Array (Nat × Operand)) (ho : op.op = .build ty parts) (cells : Array Value) (hb : P.built ty (parts.map fun (i, x) => (i, a.eval x)).toList = some cells) : YieldsIf P ops S op (.agg cells) a :=
  .inl ⟨hw, fun w _ => by
    have hrun := run_build (P := P) w ty (parts.map fun (i, x) => (i, a.eval x)) cells hb
    unfold execOp
    simp only [ho, Sem.run_bind, hrun, Result.andThen_ok, Sem.run_pure]⟩
theorem neq_same (v : BitVec 128) (u : World) : (binOp .neq 23 (.agg (BL v).toArray) (.agg (BL v).toArray)).run Try.prog u = .ok (.bool false) u := by
  have h := eqB_same v u
  unfold BV at h
  show (binOp .neq 23 (.agg #[.int .u8 (byV v 0 : Nat), .int .u8 (byV v 1 : Nat), .int .u8 (byV v 2 : Nat), .int .u8 (byV v 3 : Nat), .int .u8 (byV v 4 : Nat), .int .u8 (byV v 5 : Nat), .int .u8 (byV v 6 : Nat), .int .u8 (byV v 7 : Nat), .int .u8 (byV v 8 : Nat), .int .u8 (byV v 9 : Nat), .int .u8 (byV v 10 : Nat), .int .u8 (byV v 11 : Nat), .int .u8 (byV v 12 : Nat), .int .u8 (byV v 13 : Nat), .int .u8 (byV v 14 : Nat), .int .u8 (byV v 15 : Nat)]) (.agg #[.int .u8 (byV v 0 : Nat), .int .u8 (byV v 1 : Nat), .int .u8 (byV v 2 : Nat), .int .u8 (byV v 3 : Nat), .int .u8 (byV v 4 : Nat), .int .u8 (byV v 5 : Nat), .int .u8 (byV v 6 : Nat), .int .u8 (byV v 7 : Nat), .int .u8 (byV v 8 : Nat), .int .u8 (byV v 9 : Nat), .int .u8 (byV v 10 : Nat), .int .u8 (byV v 11 : Nat), .int .u8 (byV v 12 : Nat), .int .u8 (byV v 13 : Nat), .int .u8 (byV v 14 : Nat), .int .u8 (byV v 15 : Nat)])).run Try.prog u = _
  go_simp
theorem eql_same (v : BitVec 128) (u : World) : (binOp .eql 23 (.agg (BL v).toArray) (.agg (BL v).toArray)).run Try.prog u = .ok (.bool true) u := by
  have h := eqB_same v u
  unfold BV at h
  show (binOp .eql 23 (.agg #[.int .u8 (byV v 0 : Nat), .int .u8 (byV v 1 : Nat), .int .u8 (byV v 2 : Nat), .int .u8 (byV v 3 : Nat), .int .u8 (byV v 4 : Nat), .int .u8 (byV v 5 : Nat), .int .u8 (byV v 6 : Nat), .int .u8 (byV v 7 : Nat), .int .u8 (byV v 8 : Nat), .int .u8 (byV v 9 : Nat), .int .u8 (byV v 10 : Nat), .int .u8 (byV v 11 : Nat), .int .u8 (byV v 12 : Nat), .int .u8 (byV v 13 : Nat), .int .u8 (byV v 14 : Nat), .int .u8 (byV v 15 : Nat)]) (.agg #[.int .u8 (byV v 0 : Nat), .int .u8 (byV v 1 : Nat), .int .u8 (byV v 2 : Nat), .int .u8 (byV v 3 : Nat), .int .u8 (byV v 4 : Nat), .int .u8 (byV v 5 : Nat), .int .u8 (byV v 6 : Nat), .int .u8 (byV v 7 : Nat), .int .u8 (byV v 8 : Nat), .int .u8 (byV v 9 : Nat), .int .u8 (byV v 10 : Nat), .int .u8 (byV v 11 : Nat), .int .u8 (byV v 12 : Nat), .int .u8 (byV v 13 : Nat), .int .u8 (byV v 14 : Nat), .int .u8 (byV v 15 : Nat)])).run Try.prog u = _
  go_simp
theorem pvF_congr (h : BitVec 128) (f g : Nat → BitVec 128) (n : Nat) (e : ∀ i, i < n → f i = g i) : pvF h f n = pvF h g n := by
  induction n with
  | zero => rfl
  | succ n ih =>
    show D UP (pvF h f n ^^^ f n) h = D UP (pvF h g n ^^^ g n) h
    rw [ih fun i hi => e i (by omega), e n (by omega)]
theorem Blks.less {w : World} {ao : Option Addr} {n m : Nat} {f : Nat → BitVec 128} (h : Blks w ao n f) (hm : m ≤ n) : Blks w ao m f := by
  rcases h with h | ⟨b, off, e, hlt, hc⟩
  · exact Or.inl (by omega)
  · exact Or.inr ⟨b, off, e, hlt, fun i hi => hc i (by omega)⟩
theorem BL_seven : BL 7#128 = [.int .u8 7, .int .u8 0, .int .u8 0, .int .u8 0, .int .u8 0, .int .u8 0, .int .u8 0, .int .u8 0, .int .u8 0, .int .u8 0, .int .u8 0, .int .u8 0, .int .u8 0, .int .u8 0, .int .u8 0, .int .u8 0] := by simp [BL, byV]
/-- Where the hash lies. -/
def PvAt (w0 : World) (L : List Value) (T : Nat) (w : World) : Prop := w.rangeAt T 0 L ∧ T < w.heap.size ∧ Below w0.heap.size w0 w
theorem PvAt.mk' {w0 w : World} {L : List Value} {T : Nat} (hL : L.length = 16) (hB : Below w0.heap.size w0 w) (ht : w.there T 0 16) (h1 : w0.heap.size ≤ T ∧ T < w.heap.size) : PvAt w0 L T (w.setCells T 0 L) := by
  rw [← hL] at ht
  exact ⟨World.rangeAt_setCells_same _ _ _ _ ht, by rw [size_setCells]; exact h1.2, belowB_setCells _ h1.1 _ _ _ hB⟩
set_option maxHeartbeats 12800000 in
set_option maxRecDepth 100000 in
theorem fields_ok (a b : BitVec 128) (ao : Option Addr) (n0 cap : Nat) (f : Nat → BitVec 128) (w : World) (hB : Blks w ao n0 f) (hn : n0 ≤ cap) (hc : cap ≤ 9223372036854775807) : Calls Try.prog 5 #[BV a, BV b, .slice ao n0 cap] w fun e w' => e = .returned (.bool true) ∧ Below w.heap.size w w' := by
  have HB : Hid (Blks w ao n0 f) := hB
  have HA : Hid (Below w.heap.size w ((w.alloc (.cells #[.int .u8 (byV a 0 : Nat), .int .u8 (byV a 1 : Nat), .int .u8 (byV a 2 : Nat), .int .u8 (byV a 3 : Nat), .int .u8 (byV a 4 : Nat), .int .u8 (byV a 5 : Nat), .int .u8 (byV a 6 : Nat), .int .u8 (byV a 7 : Nat), .int .u8 (byV a 8 : Nat), .int .u8 (byV a 9 : Nat), .int .u8 (byV a 10 : Nat), .int .u8 (byV a 11 : Nat), .int .u8 (byV a 12 : Nat), .int .u8 (byV a 13 : Nat), .int .u8 (byV a 14 : Nat), .int .u8 (byV a 15 : Nat)] 23)).alloc (.cells #[.int .u8 (byV b 0 : Nat), .int .u8 (byV b 1 : Nat), .int .u8 (byV b 2 : Nat), .int .u8 (byV b 3 : Nat), .int .u8 (byV b 4 : Nat), .int .u8 (byV b 5 : Nat), .int .u8 (byV b 6 : Nat), .int .u8 (byV b 7 : Nat), .int .u8 (byV b 8 : Nat), .int .u8 (byV b 9 : Nat), .int .u8 (byV b 10 : Nat), .int .u8 (byV b 11 : Nat), .int .u8 (byV b 12 : Nat), .int .u8 (byV b 13 : Nat), .int .u8 (byV b 14 : Nat), .int .u8 (byV b 15 : Nat)] 23)) ∧ ((w.alloc (.cells #[.int .u8 (byV a 0 : Nat), .int .u8 (byV a 1 : Nat), .int .u8 (byV a 2 : Nat), .int .u8 (byV a 3 : Nat), .int .u8 (byV a 4 : Nat), .int .u8 (byV a 5 : Nat), .int .u8 (byV a 6 : Nat), .int .u8 (byV a 7 : Nat), .int .u8 (byV a 8 : Nat), .int .u8 (byV a 9 : Nat), .int .u8 (byV a 10 : Nat), .int .u8 (byV a 11 : Nat), .int .u8 (byV a 12 : Nat), .int .u8 (byV a 13 : Nat), .int .u8 (byV a 14 : Nat), .int .u8 (byV a 15 : Nat)] 23)).alloc (.cells #[.int .u8 (byV b 0 : Nat), .int .u8 (byV b 1 : Nat), .int .u8 (byV b 2 : Nat), .int .u8 (byV b 3 : Nat), .int .u8 (byV b 4 : Nat), .int .u8 (byV b 5 : Nat), .int .u8 (byV b 6 : Nat), .int .u8 (byV b 7 : Nat), .int .u8 (byV b 8 : Nat), .int .u8 (byV b 9 : Nat), .int .u8 (byV b 10 : Nat), .int .u8 (byV b 11 : Nat), .int .u8 (byV b 12 : Nat), .int .u8 (byV b 13 : Nat), .int .u8 (byV b 14 : Nat), .int .u8 (byV b 15 : Nat)] 23)).rangeAt w.heap.size 0 (BL a) ∧ ((w.alloc (.cells #[.int .u8 (byV a 0 : Nat), .int .u8 (byV a 1 : Nat), .int .u8 (byV a 2 : Nat), .int .u8 (byV a 3 : Nat), .int .u8 (byV a 4 : Nat), .int .u8 (byV a 5 : Nat), .int .u8 (byV a 6 : Nat), .int .u8 (byV a 7 : Nat), .int .u8 (byV a 8 : Nat), .int .u8 (byV a 9 : Nat), .int .u8 (byV a 10 : Nat), .int .u8 (byV a 11 : Nat), .int .u8 (byV a 12 : Nat), .int .u8 (byV a 13 : Nat), .int .u8 (byV a 14 : Nat), .int .u8 (byV a 15 : Nat)] 23)).alloc (.cells #[.int .u8 (byV b 0 : Nat), .int .u8 (byV b 1 : Nat), .int .u8 (byV b 2 : Nat), .int .u8 (byV b 3 : Nat), .int .u8 (byV b 4 : Nat), .int .u8 (byV b 5 : Nat), .int .u8 (byV b 6 : Nat), .int .u8 (byV b 7 : Nat), .int .u8 (byV b 8 : Nat), .int .u8 (byV b 9 : Nat), .int .u8 (byV b 10 : Nat), .int .u8 (byV b 11 : Nat), .int .u8 (byV b 12 : Nat), .int .u8 (byV b 13 : Nat), .int .u8 (byV b 14 : Nat), .int .u8 (byV b 15 : Nat)] 23)).rangeAt (w.heap.size + 1) 0 (BL b) ∧ ((w.alloc (.cells #[.int .u8 (byV a 0 : Nat), .int .u8 (byV a 1 : Nat), .int .u8 (byV a 2 : Nat), .int .u8 (byV a 3 : Nat), .int .u8 (byV a 4 : Nat), .int .u8 (byV a 5 : Nat), .int .u8 (byV a 6 : Nat), .int .u8 (byV a 7 : Nat), .int .u8 (byV a 8 : Nat), .int .u8 (byV a 9 : Nat), .int .u8 (byV a 10 : Nat), .int .u8 (byV a 11 : Nat), .int .u8 (byV a 12 : Nat), .int .u8 (byV a 13 : Nat), .int .u8 (byV a 14 : Nat), .int .u8 (byV a 15 : Nat)] 23)).alloc (.cells #[.int .u8 (byV b 0 : Nat), .int .u8 (byV b 1 : Nat), .int .u8 (byV b 2 : Nat), .int .u8 (byV b 3 : Nat), .int .u8 (byV b 4 : Nat), .int .u8 (byV b 5 : Nat), .int .u8 (byV b 6 : Nat), .int .u8 (byV b 7 : Nat), .int .u8 (byV b 8 : Nat), .int .u8 (byV b 9 : Nat), .int .u8 (byV b 10 : Nat), .int .u8 (byV b 11 : Nat), .int .u8 (byV b 12 : Nat), .int .u8 (byV b 13 : Nat), .int .u8 (byV b 14 : Nat), .int .u8 (byV b 15 : Nat)] 23)).heap.size = w.heap.size + 2) := by
    have e1 : Below (w.heap.size + 1) (w.alloc (.cells #[.int .u8 (byV a 0 : Nat), .int .u8 (byV a 1 : Nat), .int .u8 (byV a 2 : Nat), .int .u8 (byV a 3 : Nat), .int .u8 (byV a 4 : Nat), .int .u8 (byV a 5 : Nat), .int .u8 (byV a 6 : Nat), .int .u8 (byV a 7 : Nat), .int .u8 (byV a 8 : Nat), .int .u8 (byV a 9 : Nat), .int .u8 (byV a 10 : Nat), .int .u8 (byV a 11 : Nat), .int .u8 (byV a 12 : Nat), .int .u8 (byV a 13 : Nat), .int .u8 (byV a 14 : Nat), .int .u8 (byV a 15 : Nat)] 23)) ((w.alloc (.cells #[.int .u8 (byV a 0 : Nat), .int .u8 (byV a 1 : Nat), .int .u8 (byV a 2 : Nat), .int .u8 (byV a 3 : Nat), .int .u8 (byV a 4 : Nat), .int .u8 (byV a 5 : Nat), .int .u8 (byV a 6 : Nat), .int .u8 (byV a 7 : Nat), .int .u8 (byV a 8 : Nat), .int .u8 (byV a 9 : Nat), .int .u8 (byV a 10 : Nat), .int .u8 (byV a 11 : Nat), .int .u8 (byV a 12 : Nat), .int .u8 (byV a 13 : Nat), .int .u8 (byV a 14 : Nat), .int .u8 (byV a 15 : Nat)] 23)).alloc (.cells #[.int .u8 (byV b 0 : Nat), .int .u8 (byV b 1 : Nat), .int .u8 (byV b 2 : Nat), .int .u8 (byV b 3 : Nat), .int .u8 (byV b 4 : Nat), .int .u8 (byV b 5 : Nat), .int .u8 (byV b 6 : Nat), .int .u8 (byV b 7 : Nat), .int .u8 (byV b 8 : Nat), .int .u8 (byV b 9 : Nat), .int .u8 (byV b 10 : Nat), .int .u8 (byV b 11 : Nat), .int .u8 (byV b 12 : Nat), .int .u8 (byV b 13 : Nat), .int .u8 (byV b 14 : Nat), .int .u8 (byV b 15 : Nat)] 23)) := (Below.refl _ _).alloc (by simp) _
    exact ⟨((Below.refl _ _).alloc (Nat.le_refl _) _).alloc (by simp) _, range_below (rangeAt_new w #[.int .u8 (byV a 0 : Nat), .int .u8 (byV a 1 : Nat), .int .u8 (byV a 2 : Nat), .int .u8 (byV a 3 : Nat), .int .u8 (byV a 4 : Nat), .int .u8 (byV a 5 : Nat), .int .u8 (byV a 6 : Nat), .int .u8 (byV a 7 : Nat), .int .u8 (byV a 8 : Nat), .int .u8 (byV a 9 : Nat), .int .u8 (byV a 10 : Nat), .int .u8 (byV a 11 : Nat), .int .u8 (byV a 12 : Nat), .int .u8 (byV a 13 : Nat), .int .u8 (byV a 14 : Nat), .int .u8 (byV a 15 : Nat)] 23) e1 (by omega), range2 w _ #[.int .u8 (byV b 0 : Nat), .int .u8 (byV b 1 : Nat), .int .u8 (byV b 2 : Nat), .int .u8 (byV b 3 : Nat), .int .u8 (byV b 4 : Nat), .int .u8 (byV b 5 : Nat), .int .u8 (byV b 6 : Nat), .int .u8 (byV b 7 : Nat), .int .u8 (byV b 8 : Nat), .int .u8 (byV b 9 : Nat), .int .u8 (byV b 10 : Nat), .int .u8 (byV b 11 : Nat), .int .u8 (byV b 12 : Nat), .int .u8 (byV b 13 : Nat), .int .u8 (byV b 14 : Nat), .int .u8 (byV b 15 : Nat)] 23, by simp⟩
  clear hB
  have hni : ((n0 : Nat) : Int) ≤ (cap : Nat) := by omega
  have hci : ((cap : Nat) : Int) ≤ 9223372036854775807 := by omega
  obtain ⟨La, HLa⟩ : ∃ L, Hid (L = BL (a)) := ⟨_, rfl⟩
  obtain ⟨Lb, HLb⟩ : ∃ L, Hid (L = BL (b)) := ⟨_, rfl⟩
  obtain ⟨LX, HLX⟩ : ∃ L, Hid (L = BL (TX a)) := ⟨_, rfl⟩
  obtain ⟨LT, HLT⟩ : ∃ L, Hid (L = BL (TB a b)) := ⟨_, rfl⟩
  obtain ⟨LD, HLD⟩ : ∃ L, Hid (L = BL (D UP a b)) := ⟨_, rfl⟩
  obtain ⟨L7, HL7⟩ : ∃ L, Hid (L = BL (7#128)) := ⟨_, rfl⟩
  have Kd : Hid (∀ u, Calls Try.prog 11 #[.agg La.toArray] u fun e w' => e = .returned (.agg LX.toArray) ∧ Below u.heap.size u w') := fun u => by rw [HLa.out, HLX.out]; exact double_ok a u
  have Krd : Hid (∀ u, Calls Try.prog 12 #[.agg La.toArray] u fun e w' => e = .returned (.agg LX.toArray) ∧ Below u.heap.size u w') := fun u => by rw [HLa.out, HLX.out]; exact (rdouble_ok a u).mono fun e w' h => h.out
  have Kt : Hid (∀ u, Calls Try.prog 9 #[.agg La.toArray, .agg Lb.toArray] u fun e w' => e = .returned (.agg LT.toArray) ∧ Below u.heap.size u w') := fun u => by rw [HLa.out, HLb.out, HLT.out]; exact times_ok a b u
  have Krt : Hid (∀ u, Calls Try.prog 13 #[.agg La.toArray, .agg Lb.toArray] u fun e w' => e = .returned (.agg LT.toArray) ∧ Below u.heap.size u w') := fun u => by rw [HLa.out, HLb.out, HLT.out]; exact rtimesB_ok a b u
  have Kdot : Hid (∀ u, Calls Try.prog 6 #[.agg La.toArray, .agg Lb.toArray] u fun e w' => e = .returned (.agg LD.toArray) ∧ Below u.heap.size u w') := fun u => by rw [HLa.out, HLb.out, HLD.out]; exact dot_ok a b u
  have Krdot : Hid (∀ u, Calls Try.prog 14 #[.agg La.toArray, .agg Lb.toArray] u fun e w' => e = .returned (.agg LD.toArray) ∧ Below u.heap.size u w') := fun u => by rw [HLa.out, HLb.out, HLD.out]; exact rdotD_ok a b u
  have hX1 : ∀ u, (binOp .neq 23 (.agg LX.toArray) (.agg LX.toArray)).run Try.prog u = .ok (.bool false) u := fun u => by rw [HLX.out]; exact neq_same _ u
  have hT1 : ∀ u, (binOp .neq 23 (.agg LT.toArray) (.agg LT.toArray)).run Try.prog u = .ok (.bool false) u := fun u => by rw [HLT.out]; exact neq_same _ u
  have hD1 : ∀ u, (binOp .neq 23 (.agg LD.toArray) (.agg LD.toArray)).run Try.prog u = .ok (.bool false) u := fun u => by rw [HLD.out]; exact neq_same _ u
  have hla : Hid (La.length = 16) := by show _ = _; rw [HLa.out]; rfl
  have hlb : Hid (Lb.length = 16) := by show _ = _; rw [HLb.out]; rfl
  have hl7 : Hid (L7.length = 16) := by show _ = _; rw [HL7.out]; rfl
  show Calls Try.prog 5 #[.agg #[.int .u8 (byV a 0 : Nat), .int .u8 (byV a 1 : Nat), .int .u8 (byV a 2 : Nat), .int .u8 (byV a 3 : Nat), .int .u8 (byV a 4 : Nat), .int .u8 (byV a 5 : Nat), .int .u8 (byV a 6 : Nat), .int .u8 (byV a 7 : Nat), .int .u8 (byV a 8 : Nat), .int .u8 (byV a 9 : Nat), .int .u8 (byV a 10 : Nat), .int .u8 (byV a 11 : Nat), .int .u8 (byV a 12 : Nat), .int .u8 (byV a 13 : Nat), .int .u8 (byV a 14 : Nat), .int .u8 (byV a 15 : Nat)], .agg #[.int .u8 (byV b 0 : Nat), .int .u8 (byV b 1 : Nat), .int .u8 (byV b 2 : Nat), .int .u8 (byV b 3 : Nat), .int .u8 (byV b 4 : Nat), .int .u8 (byV b 5 : Nat), .int .u8 (byV b 6 : Nat), .int .u8 (byV b 7 : Nat), .int .u8 (byV b 8 : Nat), .int .u8 (byV b 9 : Nat), .int .u8 (byV b 10 : Nat), .int .u8 (byV b 11 : Nat), .int .u8 (byV b 12 : Nat), .int .u8 (byV b 13 : Nat), .int .u8 (byV b 14 : Nat), .int .u8 (byV b 15 : Nat)], .slice ao n0 cap] w _
  go_enter Try.func5, Try.ntmps5
  go_upto_region 1 with fail
  generalize (w.alloc (.cells #[.int .u8 (byV a 0 : Nat), .int .u8 (byV a 1 : Nat), .int .u8 (byV a 2 : Nat), .int .u8 (byV a 3 : Nat), .int .u8 (byV a 4 : Nat), .int .u8 (byV a 5 : Nat), .int .u8 (byV a 6 : Nat), .int .u8 (byV a 7 : Nat), .int .u8 (byV a 8 : Nat), .int .u8 (byV a 9 : Nat), .int .u8 (byV a 10 : Nat), .int .u8 (byV a 11 : Nat), .int .u8 (byV a 12 : Nat), .int .u8 (byV a 13 : Nat), .int .u8 (byV a 14 : Nat), .int .u8 (byV a 15 : Nat)] 23)).alloc (.cells #[.int .u8 (byV b 0 : Nat), .int .u8 (byV b 1 : Nat), .int .u8 (byV b 2 : Nat), .int .u8 (byV b 3 : Nat), .int .u8 (byV b 4 : Nat), .int .u8 (byV b 5 : Nat), .int .u8 (byV b 6 : Nat), .int .u8 (byV b 7 : Nat), .int .u8 (byV b 8 : Nat), .int .u8 (byV b 9 : Nat), .int .u8 (byV b 10 : Nat), .int .u8 (byV b 11 : Nat), .int .u8 (byV b 12 : Nat), .int .u8 (byV b 13 : Nat), .int .u8 (byV b 14 : Nat), .int .u8 (byV b 15 : Nat)] 23) = w1 at HA ⊢
  rw [← HLa.out, ← HLb.out] at HA
  go_upto_if 13 with fail
  go_cut [2] from 11 to 15 (fun D wx => (∃ m, m ≤ 70 ∧ m ≤ n0 ∧ D = .slice ao m cap) ∧ wx = w1)
  case first =>
    by_cases h4 : n0 ≤ 70
    · have h4i : ((n0 : Nat) : Int) ≤ 70 := by omega
      go_wp2
      go_meet
      exact ⟨⟨n0, h4, Nat.le_refl _, rfl⟩, rfl⟩
    · have h4i : ¬ ((n0 : Nat) : Int) ≤ 70 := by omega
      go_wp2
      go_meet
      exact ⟨⟨70, Nat.le_refl _, by omega, rfl⟩, rfl⟩
  case rest =>
  obtain ⟨⟨m, hm40, hmn, rfl⟩, hwc⟩ := hcut
  have hwc' := hwc.symm
  subst hwc'
  have ga : Hid (∀ u, Below w1.heap.size w1 u → u.rangeAt w.heap.size 0 La) := fun u hu => range_below HA.out.2.1 hu (by have := HA.out.2.2.2; omega)
  have gb : Hid (∀ u, Below w1.heap.size w1 u → u.rangeAt (w.heap.size + 1) 0 Lb) := fun u hu => range_below HA.out.2.2.1 hu (by have := HA.out.2.2.2; omega)
  go_upto_region 3 with fail
  go_cut [38] from 16 to 38 (fun c wx => c = .bool false ∧ Hid (Below w1.heap.size w1 wx))
  case first =>
    have hS0 : Below w1.heap.size w1 w1.drew := (Below.refl _ _).drew
    refine wp_region_noPanic ?_
    refine wp_region_held_drew (S := fun u => Below w1.heap.size w1 u) (by kernel_rfl) (hS0) (fun _ => ?_)
    refine takeH_at 0 16 (.agg La.toArray) rfl rfl (by kernel_rfl) (by kernel_rfl) (by kernel_rfl) (fun _ _ _ h => h) (hS0) (yieldsIf_load_mid (by kernel_rfl) 23 (.tmp 3) rfl w.heap.size (0) rfl La _ (fun u hu => ga.out u hu) Try.underlying23 rfl (by rw [hla.out]; exact size23)) ?_
    simp only [List.setIfInBounds_toArray, List.set_cons_zero, List.set_cons_succ]
    refine takeH_at 2 18 (.agg La.toArray) rfl rfl (by kernel_rfl) (by kernel_rfl) (by kernel_rfl) (fun _ _ _ h => h) (hS0) (yieldsIf_load_mid (by kernel_rfl) 23 (.tmp 3) rfl w.heap.size (0) rfl La _ (fun u hu => ga.out u hu) Try.underlying23 rfl (by rw [hla.out]; exact size23)) ?_
    simp only [List.setIfInBounds_toArray, List.set_cons_zero, List.set_cons_succ]
    refine wpAnyH_ready (rs := [1]) (by kernel_rfl) (by simp) ?_
    refine AllReadyH.cons rfl (fun K hK => ?_) AllReadyH.nil
    go_simp
    refine (Kd.out _).mono ?_
    rintro e1 q1 ⟨rfl, hbq1⟩
    have hSq1 : Below w1.heap.size w1 q1 := (hS0).trans (hbq1.mono (hS0).size)
    go_wp2_with fail
    refine hK.out _ _ hSq1 (fun _ => ?_)
    clear hK K
    try simp only [List.setIfInBounds_toArray, List.set_cons_zero, List.set_cons_succ]
    refine wpAnyH_ready (rs := [3]) (by kernel_rfl) (by simp) ?_
    refine AllReadyH.cons rfl (fun K hK => ?_) AllReadyH.nil
    go_simp
    refine (Krd.out _).mono ?_
    rintro e1 q2 ⟨rfl, hbq2⟩
    have hSq2 : Below w1.heap.size w1 q2 := (hSq1).trans (hbq2.mono (hSq1).size)
    go_wp2_with fail
    refine hK.out _ _ hSq2 (fun _ => ?_)
    clear hK K
    try simp only [List.setIfInBounds_toArray, List.set_cons_zero, List.set_cons_succ]
    refine takeH_at 4 20 (.bool false) rfl rfl (by kernel_rfl) (by kernel_rfl) (by kernel_rfl) (fun _ _ _ h => h) (hSq2) (Or.inl ⟨by kernel_rfl, fun w' hS' => by have q := hX1 w'; go_simp⟩) ?_
    simp only [List.setIfInBounds_toArray, List.set_cons_zero, List.set_cons_succ]
    refine takeH_at 5 21 (.bool false) rfl rfl (by kernel_rfl) (by kernel_rfl) (by kernel_rfl) (fun _ _ _ h => h) (hSq2) (Or.inl ⟨by kernel_rfl, fun w' hS' => by go_simp⟩) ?_
    simp only [List.setIfInBounds_toArray, List.set_cons_zero, List.set_cons_succ]
    refine takeH_at 6 22 (.agg La.toArray) rfl rfl (by kernel_rfl) (by kernel_rfl) (by kernel_rfl) (fun _ _ _ h => h) (hSq2) (yieldsIf_load_mid (by kernel_rfl) 23 (.tmp 3) rfl w.heap.size (0) rfl La _ (fun u hu => ga.out u hu) Try.underlying23 rfl (by rw [hla.out]; exact size23)) ?_
    simp only [List.setIfInBounds_toArray, List.set_cons_zero, List.set_cons_succ]
    refine takeH_at 7 23 (.agg Lb.toArray) rfl rfl (by kernel_rfl) (by kernel_rfl) (by kernel_rfl) (fun _ _ _ h => h) (hSq2) (yieldsIf_load_mid (by kernel_rfl) 23 (.tmp 4) rfl (w.heap.size + 1) (0) rfl Lb _ (fun u hu => gb.out u hu) Try.underlying23 rfl (by rw [hlb.out]; exact size23)) ?_
    simp only [List.setIfInBounds_toArray, List.set_cons_zero, List.set_cons_succ]
    refine takeH_at 9 25 (.agg La.toArray) rfl rfl (by kernel_rfl) (by kernel_rfl) (by kernel_rfl) (fun _ _ _ h => h) (hSq2) (yieldsIf_load_mid (by kernel_rfl) 23 (.tmp 3) rfl w.heap.size (0) rfl La _ (fun u hu => ga.out u hu) Try.underlying23 rfl (by rw [hla.out]; exact size23)) ?_
    simp only [List.setIfInBounds_toArray, List.set_cons_zero, List.set_cons_succ]
    refine takeH_at 10 26 (.agg Lb.toArray) rfl rfl (by kernel_rfl) (by kernel_rfl) (by kernel_rfl) (fun _ _ _ h => h) (hSq2) (yieldsIf_load_mid (by kernel_rfl) 23 (.tmp 4) rfl (w.heap.size + 1) (0) rfl Lb _ (fun u hu => gb.out u hu) Try.underlying23 rfl (by rw [hlb.out]; exact size23)) ?_
    simp only [List.setIfInBounds_toArray, List.set_cons_zero, List.set_cons_succ]
    refine wpAnyH_ready (rs := [8]) (by kernel_rfl) (by simp) ?_
    refine AllReadyH.cons rfl (fun K hK => ?_) AllReadyH.nil
    rw [if_pos (by kernel_rfl)]
    go_simp
    refine (Kt.out _).mono ?_
    rintro e1 q3 ⟨rfl, hbq3⟩
    have hSq3 : Below w1.heap.size w1 q3 := (hSq2).trans (hbq3.mono (hSq2).size)
    go_wp2_with fail
    refine hK.out _ _ hSq3 (fun _ => ?_)
    clear hK K
    try simp only [List.setIfInBounds_toArray, List.set_cons_zero, List.set_cons_succ]
    refine wpAnyH_ready (rs := [11]) (by kernel_rfl) (by simp) ?_
    refine AllReadyH.cons rfl (fun K hK => ?_) AllReadyH.nil
    rw [if_pos (by kernel_rfl)]
    go_simp
    refine (Krt.out _).mono ?_
    rintro e1 q4 ⟨rfl, hbq4⟩
    have hSq4 : Below w1.heap.size w1 q4 := (hSq3).trans (hbq4.mono (hSq3).size)
    go_wp2_with fail
    refine hK.out _ _ hSq4 (fun _ => ?_)
    clear hK K
    try simp only [List.setIfInBounds_toArray, List.set_cons_zero, List.set_cons_succ]
    refine takeH_at 12 28 (.bool false) rfl rfl (by kernel_rfl) (by kernel_rfl) (by kernel_rfl) (fun _ _ _ h => h) (hSq4) (Or.inl ⟨by kernel_rfl, fun w' hS' => by have q := hT1 w'; go_simp⟩) ?_
    simp only [List.setIfInBounds_toArray, List.set_cons_zero, List.set_cons_succ]
    refine takeH_at 13 29 (.bool false) rfl rfl (by kernel_rfl) (by kernel_rfl) (by kernel_rfl) (fun _ _ _ h => h) (hSq4) (Or.inl ⟨by kernel_rfl, fun w' hS' => by go_simp⟩) ?_
    simp only [List.setIfInBounds_toArray, List.set_cons_zero, List.set_cons_succ]
    refine takeH_at 14 30 (.bool false) rfl rfl (by kernel_rfl) (by kernel_rfl) (by kernel_rfl) (fun _ _ _ h => h) (hSq4) (Or.inl ⟨by kernel_rfl, fun w' hS' => by go_simp⟩) ?_
    simp only [List.setIfInBounds_toArray, List.set_cons_zero, List.set_cons_succ]
    refine takeH_at 15 31 (.agg La.toArray) rfl rfl (by kernel_rfl) (by kernel_rfl) (by kernel_rfl) (fun _ _ _ h => h) (hSq4) (yieldsIf_load_mid (by kernel_rfl) 23 (.tmp 3) rfl w.heap.size (0) rfl La _ (fun u hu => ga.out u hu) Try.underlying23 rfl (by rw [hla.out]; exact size23)) ?_
    simp only [List.setIfInBounds_toArray, List.set_cons_zero, List.set_cons_succ]
    refine takeH_at 16 32 (.agg Lb.toArray) rfl rfl (by kernel_rfl) (by kernel_rfl) (by kernel_rfl) (fun _ _ _ h => h) (hSq4) (yieldsIf_load_mid (by kernel_rfl) 23 (.tmp 4) rfl (w.heap.size + 1) (0) rfl Lb _ (fun u hu => gb.out u hu) Try.underlying23 rfl (by rw [hlb.out]; exact size23)) ?_
    simp only [List.setIfInBounds_toArray, List.set_cons_zero, List.set_cons_succ]
    refine takeH_at 18 34 (.agg La.toArray) rfl rfl (by kernel_rfl) (by kernel_rfl) (by kernel_rfl) (fun _ _ _ h => h) (hSq4) (yieldsIf_load_mid (by kernel_rfl) 23 (.tmp 3) rfl w.heap.size (0) rfl La _ (fun u hu => ga.out u hu) Try.underlying23 rfl (by rw [hla.out]; exact size23)) ?_
    simp only [List.setIfInBounds_toArray, List.set_cons_zero, List.set_cons_succ]
    refine takeH_at 19 35 (.agg Lb.toArray) rfl rfl (by kernel_rfl) (by kernel_rfl) (by kernel_rfl) (fun _ _ _ h => h) (hSq4) (yieldsIf_load_mid (by kernel_rfl) 23 (.tmp 4) rfl (w.heap.size + 1) (0) rfl Lb _ (fun u hu => gb.out u hu) Try.underlying23 rfl (by rw [hlb.out]; exact size23)) ?_
    simp only [List.setIfInBounds_toArray, List.set_cons_zero, List.set_cons_succ]
    refine wpAnyH_ready (rs := [17]) (by kernel_rfl) (by simp) ?_
    refine AllReadyH.cons rfl (fun K hK => ?_) AllReadyH.nil
    rw [if_pos (by kernel_rfl)]
    go_simp
    refine (Kdot.out _).mono ?_
    rintro e1 q5 ⟨rfl, hbq5⟩
    have hSq5 : Below w1.heap.size w1 q5 := (hSq4).trans (hbq5.mono (hSq4).size)
    go_wp2_with fail
    refine hK.out _ _ hSq5 (fun _ => ?_)
    clear hK K
    try simp only [List.setIfInBounds_toArray, List.set_cons_zero, List.set_cons_succ]
    refine wpAnyH_ready (rs := [20]) (by kernel_rfl) (by simp) ?_
    refine AllReadyH.cons rfl (fun K hK => ?_) AllReadyH.nil
    rw [if_pos (by kernel_rfl)]
    go_simp
    refine (Krdot.out _).mono ?_
    rintro e1 q6 ⟨rfl, hbq6⟩
    have hSq6 : Below w1.heap.size w1 q6 := (hSq5).trans (hbq6.mono (hSq5).size)
    go_wp2_with fail
    refine hK.out _ _ hSq6 (fun _ => ?_)
    clear hK K
    try simp only [List.setIfInBounds_toArray, List.set_cons_zero, List.set_cons_succ]
    refine takeH_at 21 37 (.bool false) rfl rfl (by kernel_rfl) (by kernel_rfl) (by kernel_rfl) (fun _ _ _ h => h) (hSq6) (Or.inl ⟨by kernel_rfl, fun w' hS' => by have q := hD1 w'; go_simp⟩) ?_
    simp only [List.setIfInBounds_toArray, List.set_cons_zero, List.set_cons_succ]
    refine takeH_at 22 38 (.bool false) rfl rfl (by kernel_rfl) (by kernel_rfl) (by kernel_rfl) (fun _ _ _ h => h) (hSq6) (Or.inl ⟨by kernel_rfl, fun w' hS' => by go_simp⟩) ?_
    simp only [List.setIfInBounds_toArray, List.set_cons_zero, List.set_cons_succ]
    refine wpAnyH_done (by kernel_rfl) ?_ _
    refine NoPanic.normal ?_
    go_wp2_with fail
    go_meet
    exact ⟨rfl, hSq6⟩
  case rest =>
  obtain ⟨rfl, HB2⟩ := hcut
  clear hX1 hT1 hD1 Kd Krd Kt Krt Kdot Krdot
  have HM : Hid (∀ u, Below w1.heap.size w1 u → Blks u ao m f) := fun u hu => ((HB.out.below HA.out.1).below hu).less hmn
  obtain ⟨g7, Hg7⟩ : ∃ g : Nat → BitVec 128, Hid (g = fun i => if i < m then f i else 7#128) := ⟨_, rfl⟩
  obtain ⟨B8, hB8⟩ : ∃ B, Hid (wc.heap.size = B) := ⟨_, rfl⟩
  have HT : Hid (∀ u, Below B8 wc u → Below w1.heap.size w1 u) := fun u hu => HB2.out.trans (hu.mono (by rw [← hB8.out]; exact HB2.out.size))
  go_wp2_with fail
  go_loopw [7, 8] (fun v7 i wr => ∃ k : Nat, k ≤ m ∧ i = .int .i64 (k : Nat) ∧ Hid (Own wr B8 v7 k g7 ∧ Below B8 wc wr)) (fun _ i _ => m - (intOf i).toNat)
  case atStart => exact ⟨0, by omega, rfl, Own.nil _ _ _, Below.refl _ _⟩
  case round =>
    obtain ⟨k, hk, rfl, HR⟩ := hrel
    by_cases hlt : k < m
    · obtain ⟨bb, off, hao⟩ : ∃ b off, ao = some ⟨b, off, none⟩ := by
        rcases HB.out with h0 | ⟨b, off, e, q⟩
        · omega
        · exact ⟨b, off, e⟩
      subst hao
      obtain ⟨Lf, HLf⟩ : ∃ L, Hid (L = BL (f k)) := ⟨_, rfl⟩
      have hlf : Hid (Lf.length = 16) := by show _ = _; rw [HLf.out]; rfl
      have GF : Hid (wr.rangeAt bb (off + k * 16) Lf) := by
        show World.rangeAt _ _ _ _
        rw [HLf.out]
        rcases HM.out _ (HT.out _ HR.out.2) with h0 | ⟨b', off', e, _, q⟩
        · omega
        · cases e
          exact q k hlt
      have hki : ((k : Nat) : Int) < (m : Nat) := by omega
      have HO : Hid (Own (wr.alloc (.cells Lf.toArray 23)) B8 u7 k g7 ∧ (wr.alloc (.cells Lf.toArray 23)).rangeAt wr.heap.size 0 (BL (g7 k)) ∧ B8 ≤ (wr.alloc (.cells Lf.toArray 23)).heap.size) := by
        have hz1 := HR.out.2.size
        have hz2 := hB8.out
        refine ⟨HR.out.1.below ((Below.refl _ wr).alloc (Nat.le_refl _) _), ?_, by simp; omega⟩
        have q := rangeAt_new wr Lf.toArray 23
        rw [Hg7.out]
        show World.rangeAt _ _ _ (BL (if k < m then f k else 7#128))
        rw [if_pos hlt, ← HLf.out]
        exact q
      go_wp2_with (first
        | (refine wpList_load_mid (by rfl) 23 (.tmp 48) (by rfl) bb (off + k * 16) (by rfl) Lf _ GF.out Try.underlying23 rfl (by rw [hlf.out]; exact size23) ?_)
        | (refine wpList_block (by rfl) (.tmp 49) (by rfl) Lf (f k) HLf.out (by rfl) ?_)
        | (refine wpList_more (by rfl) (.tmp 45) (.tmp 50) (by rfl) B8 k g7 u7 (by rfl) HO.out.1 wr.heap.size (by rfl) HO.out.2.1 (by omega) HO.out.2.2 ?_; intro g1 cap1 w13 ho13 hg13 ha13))
      refine ⟨⟨k + 1, by omega, rfl, ?_⟩, by simp only [intOf]; omega⟩
      obtain ⟨r1, r4⟩ := HR.out
      have ha : Below wr.heap.size wr (wr.alloc (.cells Lf.toArray 23)) := (Below.refl _ wr).alloc (Nat.le_refl _) _
      exact ⟨ho13, r4.trans ((ha.mono (by have hz1 := r4.size; have hz2 := hB8.out; omega)).trans (HO.out.1.frame hg13 HO.out.2.2))⟩
    · have hkm : m = k := by omega
      subst hkm
      have hki : ¬ ((m : Nat) : Int) < (m : Nat) := by omega
      have HO15 : Hid (Own (wr.alloc (.cells L7.toArray 23)) B8 u7 m g7 ∧ (wr.alloc (.cells L7.toArray 23)).rangeAt wr.heap.size 0 (BL (g7 m)) ∧ B8 ≤ (wr.alloc (.cells L7.toArray 23)).heap.size) := by
        have hz1 := HR.out.2.size
        have hz2 := hB8.out
        refine ⟨HR.out.1.below ((Below.refl _ wr).alloc (Nat.le_refl _) _), ?_, by simp; omega⟩
        have q := rangeAt_new wr L7.toArray 23
        rw [Hg7.out]
        show World.rangeAt _ _ _ (BL (if m < m then f m else 7#128))
        rw [if_neg (Nat.lt_irrefl _), ← HL7.out]
        exact q
      go_wp2_with (first
        | (refine wpList_block (by rfl) (.tmp 53) (by rfl) L7 7#128 HL7.out (by rw [HL7.out, BL_seven]; rfl) ?_)
        | (refine wpList_more (by rfl) (.tmp 52) (.tmp 54) (by rfl) B8 m g7 u7 (by rfl) HO15.out.1 wr.heap.size (by rfl) HO15.out.2.1 (by omega) HO15.out.2.2 ?_; intro g3 cap3 w15 ho15 hg15 ha15))
      have H15 : Hid (Own w15 B8 (.slice (some ⟨g3, 0, none⟩) (m + 1) cap3) (m + 1) g7 ∧ Below B8 wc w15) := by
        obtain ⟨r1, r4⟩ := HR.out
        have ha : Below wr.heap.size wr (wr.alloc (.cells L7.toArray 23)) := (Below.refl _ wr).alloc (Nat.le_refl _) _
        exact ⟨ho15, r4.trans ((ha.mono (by have hz1 := r4.size; have hz2 := hB8.out; omega)).trans (HO15.out.1.frame hg15 HO15.out.2.2))⟩
      clear ho15 hg15 ha15 HO15 HR
      have HT15 : Hid (∀ u, Below w15.heap.size w15 u → Below w1.heap.size w1 u) := fun u hu => HT.out u (H15.out.2.trans (hu.mono (by have hz1 := H15.out.2.size; have hz2 := hB8.out; omega)))
      have ga15 : Hid (∀ u, Below w15.heap.size w15 u → u.rangeAt w.heap.size 0 La) := fun u hu => ga.out u (HT15.out u hu)
      obtain ⟨hm3, hc3⟩ : m + 1 ≤ cap3 ∧ cap3 ≤ 9223372036854775807 := by
        obtain ⟨ao3, cap3', e3, h1, h2, _⟩ := H15.out.1.blks
        cases e3
        exact ⟨h1, h2⟩
      have G15 : Hid (∀ u, Below w15.heap.size w15 u → Blks u (some ⟨g3, 0, none⟩) (m + 1) g7) := fun u hu => by
        obtain ⟨ao4, cap4, e4, _, _, hb4⟩ := (H15.out.1.below hu).blks
        cases e4
        exact hb4
      obtain ⟨Lp, HLp⟩ : ∃ L, Hid (L = BL (pvF a f m)) := ⟨_, rfl⟩
      have hlp : Hid (Lp.length = 16) := by show _ = _; rw [HLp.out]; rfl
      have hsp : Hid (Lp.toArray.size = 16) := by show _ = _; rw [List.size_toArray, hlp.out]
      have hop : Hid (Lp.toArray.all (·.oneCell') = true) := by show _ = _; rw [HLp.out]; exact BL_one _
      have hpv : Hid (pvF a g7 m = pvF a f m) := pvF_congr _ _ _ _ fun i hi => by rw [Hg7.out]; exact if_pos hi
      have Kpol : Hid (∀ u, Below w15.heap.size w15 u → Calls Try.prog 8 #[.agg La.toArray, .slice (some ⟨g3, 0, none⟩) m cap3] u fun e w' => e = .returned (.agg Lp.toArray) ∧ Below u.heap.size u w') := fun u hu => by rw [HLa.out, HLp.out, ← hpv.out]; exact polyval_ok a _ m cap3 g7 u ((G15.out u hu).less (by omega)) (by omega) hc3
      have hm3i : ((m : Nat) : Int) ≤ (cap3 : Nat) := by omega
      have hc3i : ((cap3 : Nat) : Int) ≤ 9223372036854775807 := by omega
      go_cut [9] from 56 to 61 (fun D wx => ∃ T, D = .pointer (some ⟨T, 0, none⟩) ∧ Hid (PvAt w15 Lp T wx))
      case first =>
        have hS0 : Below w15.heap.size w15 w15.drew := (Below.refl _ _).drew
        refine wp_region_noPanic ?_
        refine wp_region_held_drew (S := fun u => Below w15.heap.size w15 u) (by kernel_rfl) (hS0) (fun _ => ?_)
        refine takeH_at 0 56 (.agg La.toArray) rfl rfl (by kernel_rfl) (by kernel_rfl) (by kernel_rfl) (fun _ _ _ h => h) (hS0) (yieldsIf_load_mid (by kernel_rfl) 23 (.tmp 3) rfl w.heap.size (0) rfl La _ (fun u hu => ga15.out u hu) Try.underlying23 rfl (by rw [hla.out]; exact size23)) ?_
        simp only [List.setIfInBounds_toArray, List.set_cons_zero, List.set_cons_succ]
        refine takeH_at 1 57 (.slice (some ⟨g3, 0, none⟩) (m + 1) cap3) rfl rfl (by kernel_rfl) (by kernel_rfl) (by kernel_rfl) (fun _ _ _ h => h) (hS0) (Or.inl ⟨by rfl, fun w' hS' => by go_simp⟩) ?_
        simp only [List.setIfInBounds_toArray, List.set_cons_zero, List.set_cons_succ]
        refine takeH_at 2 58 (.slice ao m cap) rfl rfl (by kernel_rfl) (by kernel_rfl) (by kernel_rfl) (fun _ _ _ h => h) (hS0) (Or.inl ⟨by rfl, fun w' hS' => by go_simp⟩) ?_
        simp only [List.setIfInBounds_toArray, List.set_cons_zero, List.set_cons_succ]
        refine takeH_at 3 59 (.int .i64 (m : Nat)) rfl rfl (by kernel_rfl) (by kernel_rfl) (by kernel_rfl) (fun _ _ _ h => h) (hS0) (Or.inl ⟨by rfl, fun w' hS' => by go_simp⟩) ?_
        simp only [List.setIfInBounds_toArray, List.set_cons_zero, List.set_cons_succ]
        refine takeH_at 4 60 (.slice (some ⟨g3, 0, none⟩) m cap3) rfl rfl (by kernel_rfl) (by kernel_rfl) (by kernel_rfl) (fun _ _ _ h => h) (hS0) (Or.inl ⟨by rfl, fun w' hS' => by go_simp⟩) ?_
        simp only [List.setIfInBounds_toArray, List.set_cons_zero, List.set_cons_succ]
        generalize w15.drew = u0 at hS0 ⊢
        refine wpAnyH_ready (rs := [5, 6]) (by kernel_rfl) (by simp) ?_
        refine AllReadyH.cons rfl (fun K hK => ?_) (AllReadyH.cons rfl (fun K hK => ?_) AllReadyH.nil)
        · skip
          go_simp
          refine (Kpol.out _ hS0).mono ?_
          rintro e1 u1 ⟨rfl, hb1⟩
          have hS1 : Below w15.heap.size w15 u1 := hS0.trans (hb1.mono hS0.size)
          go_wp2_with fail
          refine hK.out _ _ hS1 (fun _ => ?_)
          clear hK K
          try simp only [List.setIfInBounds_toArray, List.set_cons_zero, List.set_cons_succ]
          refine wpAnyH_ready (rs := [6]) (by kernel_rfl) (by simp) ?_
          refine AllReadyH.cons rfl (fun K hK => ?_) AllReadyH.nil
          go_simp
          have t1 := there_new u1 #[.int .u8 0, .int .u8 0, .int .u8 0, .int .u8 0, .int .u8 0, .int .u8 0, .int .u8 0, .int .u8 0, .int .u8 0, .int .u8 0, .int .u8 0, .int .u8 0, .int .u8 0, .int .u8 0, .int .u8 0, .int .u8 0] 23 16 (Nat.le_refl _)
          have hS2 : Below w15.heap.size w15 (u1.alloc (.cells #[.int .u8 0, .int .u8 0, .int .u8 0, .int .u8 0, .int .u8 0, .int .u8 0, .int .u8 0, .int .u8 0, .int .u8 0, .int .u8 0, .int .u8 0, .int .u8 0, .int .u8 0, .int .u8 0, .int .u8 0, .int .u8 0] 23)) := hS1.alloc hS1.size _
          have g1 : w15.heap.size ≤ u1.heap.size ∧ u1.heap.size < (u1.alloc (.cells #[.int .u8 0, .int .u8 0, .int .u8 0, .int .u8 0, .int .u8 0, .int .u8 0, .int .u8 0, .int .u8 0, .int .u8 0, .int .u8 0, .int .u8 0, .int .u8 0, .int .u8 0, .int .u8 0, .int .u8 0, .int .u8 0] 23)).heap.size := ⟨hS1.size, by simp⟩
          refine hK.out _ _ hS2 (fun _ => ?_)
          clear hK K
          try simp only [List.setIfInBounds_toArray, List.set_cons_zero, List.set_cons_succ]
          refine wpAnyH_ready (rs := [7]) (by kernel_rfl) (by simp) ?_
          refine AllReadyH.cons rfl (fun K hK => ?_) AllReadyH.nil
          rw [if_pos (by rfl)]
          refine wp_store_mid 23 (.tmp 9) (.tmp 61) rfl u1.heap.size 0 Lp.toArray rfl rfl (by rw [hsp.out]; exact t1) (by rw [hsp.out]; exact size23) hop.out ?_
          refine hK.out _ _ (belowB_setCells _ g1.1 _ _ _ hS2) (fun _ => ?_)
          clear hK K
          refine wpAnyH_done (by kernel_rfl) ?_ _
          refine NoPanic.normal ?_
          go_wp2_with fail
          go_meet
          exact ⟨_, rfl, PvAt.mk' hlp.out hS2 t1 g1⟩
        · skip
          go_simp
          have t1 := there_new u0 #[.int .u8 0, .int .u8 0, .int .u8 0, .int .u8 0, .int .u8 0, .int .u8 0, .int .u8 0, .int .u8 0, .int .u8 0, .int .u8 0, .int .u8 0, .int .u8 0, .int .u8 0, .int .u8 0, .int .u8 0, .int .u8 0] 23 16 (Nat.le_refl _)
          have hS2 : Below w15.heap.size w15 (u0.alloc (.cells #[.int .u8 0, .int .u8 0, .int .u8 0, .int .u8 0, .int .u8 0, .int .u8 0, .int .u8 0, .int .u8 0, .int .u8 0, .int .u8 0, .int .u8 0, .int .u8 0, .int .u8 0, .int .u8 0, .int .u8 0, .int .u8 0] 23)) := hS0.alloc hS0.size _
          have g1 : w15.heap.size ≤ u0.heap.size ∧ u0.heap.size < (u0.alloc (.cells #[.int .u8 0, .int .u8 0, .int .u8 0, .int .u8 0, .int .u8 0, .int .u8 0, .int .u8 0, .int .u8 0, .int .u8 0, .int .u8 0, .int .u8 0, .int .u8 0, .int .u8 0, .int .u8 0, .int .u8 0, .int .u8 0] 23)).heap.size := ⟨hS0.size, by simp⟩
          refine hK.out _ _ hS2 (fun _ => ?_)
          clear hK K
          try simp only [List.setIfInBounds_toArray, List.set_cons_zero, List.set_cons_succ]
          refine wpAnyH_ready (rs := [5]) (by kernel_rfl) (by simp) ?_
          refine AllReadyH.cons rfl (fun K hK => ?_) AllReadyH.nil
          go_simp
          refine (Kpol.out _ hS2).mono ?_
          rintro e1 u1 ⟨rfl, hb1⟩
          have hS1 : Below w15.heap.size w15 u1 := hS2.trans (hb1.mono hS2.size)
          have t2 := there_below t1 hb1 g1.2
          have g2 : w15.heap.size ≤ u0.heap.size ∧ u0.heap.size < u1.heap.size := ⟨g1.1, Nat.lt_of_lt_of_le g1.2 hb1.size⟩
          go_wp2_with fail
          refine hK.out _ _ hS1 (fun _ => ?_)
          clear hK K
          try simp only [List.setIfInBounds_toArray, List.set_cons_zero, List.set_cons_succ]
          refine wpAnyH_ready (rs := [7]) (by kernel_rfl) (by simp) ?_
          refine AllReadyH.cons rfl (fun K hK => ?_) AllReadyH.nil
          rw [if_pos (by rfl)]
          refine wp_store_mid 23 (.tmp 9) (.tmp 61) rfl u0.heap.size 0 Lp.toArray rfl rfl (by rw [hsp.out]; exact t2) (by rw [hsp.out]; exact size23) hop.out ?_
          refine hK.out _ _ (belowB_setCells _ g2.1 _ _ _ hS1) (fun _ => ?_)
          clear hK K
          refine wpAnyH_done (by kernel_rfl) ?_ _
          refine NoPanic.normal ?_
          go_wp2_with fail
          go_meet
          exact ⟨_, rfl, PvAt.mk' hlp.out hS1 t2 g2⟩
      case rest =>
      obtain ⟨T9, rfl, H9⟩ := hcut
      clear Kpol
      have H9' : Hid (∀ u, Below wc.heap.size wc u → Below w15.heap.size w15 u) := fun u hu => H9.out.2.2.trans (hu.mono H9.out.2.2.size)
      have g9 : Hid (∀ u, Below wc.heap.size wc u → u.rangeAt T9 0 Lp) := fun u hu => range_below H9.out.1 hu H9.out.2.1
      have G7 : Hid (∀ u, Below wc.heap.size wc u → ∀ i, i < m + 1 → u.rangeAt g3 (i * 16) (BL (g7 i))) := fun u hu i hi => by
        rcases G15.out u (H9'.out u hu) with h0 | ⟨b', off', e, _, q⟩
        · omega
        · cases e
          have qi := q i hi
          rwa [Nat.zero_add] at qi
      go_wp2_with fail
      go_loopw [10] (fun i wr => ∃ k : Nat, k ≤ m ∧ i = .int .i64 (k : Nat) ∧ Hid (Below wc.heap.size wc wr)) (fun i _ => m - (intOf i).toNat)
      case atStart => exact ⟨0, by omega, rfl, Below.refl _ _⟩
      case round =>
        obtain ⟨k, hk, rfl, HR⟩ := hrel
        have HW : Hid (∀ u, Below wr.heap.size wr u → Below wc.heap.size wc u) := fun u hu => HR.out.trans (hu.mono HR.out.size)
        by_cases hlt : k < m
        · obtain ⟨bb, off, hao⟩ : ∃ b off, ao = some ⟨b, off, none⟩ := by
            rcases HB.out with h0 | ⟨b, off, e, q⟩
            · omega
            · exact ⟨b, off, e⟩
          subst hao
          obtain ⟨Lf, HLf⟩ : ∃ L, Hid (L = BL (f k)) := ⟨_, rfl⟩
          have hlf : Hid (Lf.length = 16) := by show _ = _; rw [HLf.out]; rfl
          have gl : Hid (∀ u, Below wr.heap.size wr u → u.rangeAt bb (off + k * 16) Lf) := fun u hu => by
            rw [HLf.out]
            rcases HM.out _ (HT15.out _ (H9'.out _ (HW.out u hu))) with h0 | ⟨b', off', e, _, q⟩
            · omega
            · cases e
              exact q k hlt
          have gm : Hid (∀ u, Below wr.heap.size wr u → u.rangeAt g3 (k * 16) Lf) := fun u hu => by
            have q := G7.out u (HW.out u hu) k (by omega)
            rw [Hg7.out] at q
            rw [HLf.out]
            simpa only [if_pos hlt] using q
          have hF1 : ∀ u, (binOp .neq 23 (.agg Lf.toArray) (.agg Lf.toArray)).run Try.prog u = .ok (.bool false) u := fun u => by rw [HLf.out]; exact neq_same _ u
          have hki : ((k : Nat) : Int) < (m : Nat) := by omega
          have hki2 : ((k : Nat) : Int) < ((m : Nat) : Int) + 1 := by omega
          go_wp2_with fail
          have hS0 : Below wr.heap.size wr wr.drew := (Below.refl _ _).drew
          refine wp_region_noPanic ?_
          refine wp_region_held_drew (S := fun u => Below wr.heap.size wr u) (by kernel_rfl) (hS0) (fun _ => ?_)
          refine takeH_at 0 68 (.slice (some ⟨g3, 0, none⟩) (m + 1) cap3) rfl rfl (by kernel_rfl) (by kernel_rfl) (by kernel_rfl) (fun _ _ _ h => h) (hS0) (Or.inl ⟨by kernel_rfl, fun w' hS' => by go_simp⟩) ?_
          simp only [List.setIfInBounds_toArray, List.set_cons_zero, List.set_cons_succ]
          refine takeH_at 1 69 (.int .i64 (k : Nat)) rfl rfl (by kernel_rfl) (by kernel_rfl) (by kernel_rfl) (fun _ _ _ h => h) (hS0) (Or.inl ⟨by kernel_rfl, fun w' hS' => by go_simp⟩) ?_
          simp only [List.setIfInBounds_toArray, List.set_cons_zero, List.set_cons_succ]
          refine takeH_at 2 70 (.pointer (some ⟨g3, k * 16, none⟩)) rfl rfl (by kernel_rfl) (by kernel_rfl) (by kernel_rfl) (fun _ _ _ h => h) (hS0) (Or.inl ⟨by kernel_rfl, fun w' hS' => by go_simp⟩) ?_
          simp only [List.setIfInBounds_toArray, List.set_cons_zero, List.set_cons_succ]
          refine takeH_at 3 71 (.agg Lf.toArray) rfl rfl (by kernel_rfl) (by kernel_rfl) (by kernel_rfl) (fun _ _ _ h => h) (hS0) (yieldsIf_load_mid (by kernel_rfl) 23 (.tmp 70) rfl g3 (k * 16) rfl Lf _ (fun u hu => gm.out u hu) Try.underlying23 rfl (by rw [hlf.out]; exact size23)) ?_
          simp only [List.setIfInBounds_toArray, List.set_cons_zero, List.set_cons_succ]
          refine takeH_at 4 72 (.slice (some ⟨bb, off, none⟩) m cap) rfl rfl (by kernel_rfl) (by kernel_rfl) (by kernel_rfl) (fun _ _ _ h => h) (hS0) (Or.inl ⟨by kernel_rfl, fun w' hS' => by go_simp⟩) ?_
          simp only [List.setIfInBounds_toArray, List.set_cons_zero, List.set_cons_succ]
          refine takeH_at 5 73 (.int .i64 (k : Nat)) rfl rfl (by kernel_rfl) (by kernel_rfl) (by kernel_rfl) (fun _ _ _ h => h) (hS0) (Or.inl ⟨by kernel_rfl, fun w' hS' => by go_simp⟩) ?_
          simp only [List.setIfInBounds_toArray, List.set_cons_zero, List.set_cons_succ]
          refine takeH_at 6 74 (.pointer (some ⟨bb, off + k * 16, none⟩)) rfl rfl (by kernel_rfl) (by kernel_rfl) (by kernel_rfl) (fun _ _ _ h => h) (hS0) (Or.inl ⟨by kernel_rfl, fun w' hS' => by go_simp⟩) ?_
          simp only [List.setIfInBounds_toArray, List.set_cons_zero, List.set_cons_succ]
          refine takeH_at 7 75 (.agg Lf.toArray) rfl rfl (by kernel_rfl) (by kernel_rfl) (by kernel_rfl) (fun _ _ _ h => h) (hS0) (yieldsIf_load_mid (by kernel_rfl) 23 (.tmp 74) rfl bb (off + k * 16) rfl Lf _ (fun u hu => gl.out u hu) Try.underlying23 rfl (by rw [hlf.out]; exact size23)) ?_
          simp only [List.setIfInBounds_toArray, List.set_cons_zero, List.set_cons_succ]
          refine takeH_at 8 76 (.bool false) rfl rfl (by kernel_rfl) (by kernel_rfl) (by kernel_rfl) (fun _ _ _ h => h) (hS0) (Or.inl ⟨by kernel_rfl, fun w' hS' => by have q := hF1 w'; go_simp⟩) ?_
          simp only [List.setIfInBounds_toArray, List.set_cons_zero, List.set_cons_succ]
          refine wpAnyH_done (by kernel_rfl) ?_ _
          refine NoPanic.normal ?_
          have HR2 : Hid (Below wc.heap.size wc wr.drew) := HR.out.drew
          clear hF1 gl gm HLf hlf hS0
          go_wp2_with fail
          refine ⟨⟨k + 1, by omega, rfl, HR2⟩, by simp only [intOf]; omega⟩
        · have hkm : m = k := by omega
          subst hkm
          have hki : ¬ ((m : Nat) : Int) < (m : Nat) := by omega
          have hki2 : ((m : Nat) : Int) < ((m : Nat) : Int) + 1 := by omega
          have g97 : Hid (∀ u, Below wr.heap.size wr u → u.rangeAt T9 0 Lp) := fun u hu => g9.out u (HW.out u hu)
          have ga7 : Hid (∀ u, Below wr.heap.size wr u → u.rangeAt w.heap.size 0 La) := fun u hu => ga15.out u (H9'.out u (HW.out u hu))
          have gs : Hid (∀ u, Below wr.heap.size wr u → u.rangeAt g3 (m * 16) L7) := fun u hu => by
            have q := G7.out u (HW.out u hu) m (by omega)
            rw [Hg7.out] at q
            rw [HL7.out]
            simpa only [if_neg (Nat.lt_irrefl m)] using q
          have K15 : Hid (∀ u, Below wr.heap.size wr u → Calls Try.prog 15 #[.agg La.toArray, .slice ao m cap] u fun e w' => e = .returned (.agg Lp.toArray) ∧ Below u.heap.size u w') := fun u hu => by rw [HLa.out, HLp.out]; exact rpolyval_ok a ao m cap f u (HM.out u (HT15.out u (H9'.out u (HW.out u hu)))) (by omega) hc
          have hP1 : ∀ u, (binOp .eql 23 (.agg Lp.toArray) (.agg Lp.toArray)).run Try.prog u = .ok (.bool true) u := fun u => by rw [HLp.out]; exact eql_same _ u
          have hE7 : ∀ u, (binOp .eql 23 (.agg L7.toArray) (.agg #[.int .u8 7, .int .u8 0, .int .u8 0, .int .u8 0, .int .u8 0, .int .u8 0, .int .u8 0, .int .u8 0, .int .u8 0, .int .u8 0, .int .u8 0, .int .u8 0, .int .u8 0, .int .u8 0, .int .u8 0, .int .u8 0])).run Try.prog u = .ok (.bool true) u := fun u => by
            have q := eql_same 7#128 u
            rw [HL7.out]
            rw [BL_seven] at q ⊢
            exact q
          go_wp2_with fail
          have hS0 : Below wr.heap.size wr wr.drew := (Below.refl _ _).drew
          refine wp_region_noPanic ?_
          refine wp_region_held_drew (S := fun u => Below wr.heap.size wr u) (by kernel_rfl) (hS0) (fun _ => ?_)
          refine takeH_at 0 77 (.agg Lp.toArray) rfl rfl (by kernel_rfl) (by kernel_rfl) (by kernel_rfl) (fun _ _ _ h => h) (hS0) (yieldsIf_load_mid (by kernel_rfl) 23 (.tmp 9) rfl T9 (0) rfl Lp _ (fun u hu => g97.out u hu) Try.underlying23 rfl (by rw [hlp.out]; exact size23)) ?_
          simp only [List.setIfInBounds_toArray, List.set_cons_zero, List.set_cons_succ]
          refine takeH_at 1 78 (.agg La.toArray) rfl rfl (by kernel_rfl) (by kernel_rfl) (by kernel_rfl) (fun _ _ _ h => h) (hS0) (yieldsIf_load_mid (by kernel_rfl) 23 (.tmp 3) rfl w.heap.size (0) rfl La _ (fun u hu => ga7.out u hu) Try.underlying23 rfl (by rw [hla.out]; exact size23)) ?_
          simp only [List.setIfInBounds_toArray, List.set_cons_zero, List.set_cons_succ]
          refine takeH_at 2 79 (.slice ao m cap) rfl rfl (by kernel_rfl) (by kernel_rfl) (by kernel_rfl) (fun _ _ _ h => h) (hS0) (Or.inl ⟨by kernel_rfl, fun w' hS' => by go_simp⟩) ?_
          simp only [List.setIfInBounds_toArray, List.set_cons_zero, List.set_cons_succ]
          refine wpAnyH_ready (rs := [3]) (by kernel_rfl) (by simp) ?_
          refine AllReadyH.cons rfl (fun K hK => ?_) AllReadyH.nil
          go_simp
          refine (K15.out _ hS0).mono ?_
          rintro e1 q1 ⟨rfl, hbq1⟩
          have hSq1 : Below wr.heap.size wr q1 := (hS0).trans (hbq1.mono (hS0).size)
          go_wp2_with fail
          refine hK.out _ _ hSq1 (fun _ => ?_)
          clear hK K
          try simp only [List.setIfInBounds_toArray, List.set_cons_zero, List.set_cons_succ]
          refine takeH_at 4 81 (.bool true) rfl rfl (by kernel_rfl) (by kernel_rfl) (by kernel_rfl) (fun _ _ _ h => h) (hSq1) (Or.inl ⟨by kernel_rfl, fun w' hS' => by have q := hP1 w'; go_simp⟩) ?_
          simp only [List.setIfInBounds_toArray, List.set_cons_zero, List.set_cons_succ]
          refine takeH_at 5 82 (.bool true) rfl rfl (by kernel_rfl) (by kernel_rfl) (by kernel_rfl) (fun _ _ _ h => h) (hSq1) (Or.inl ⟨by kernel_rfl, fun w' hS' => by go_simp⟩) ?_
          simp only [List.setIfInBounds_toArray, List.set_cons_zero, List.set_cons_succ]
          refine takeH_at 6 83 (.slice (some ⟨g3, 0, none⟩) (m + 1) cap3) rfl rfl (by kernel_rfl) (by kernel_rfl) (by kernel_rfl) (fun _ _ _ h => h) (hSq1) (Or.inl ⟨by kernel_rfl, fun w' hS' => by go_simp⟩) ?_
          simp only [List.setIfInBounds_toArray, List.set_cons_zero, List.set_cons_succ]
          refine takeH_at 7 84 (.slice ao m cap) rfl rfl (by kernel_rfl) (by kernel_rfl) (by kernel_rfl) (fun _ _ _ h => h) (hSq1) (Or.inl ⟨by kernel_rfl, fun w' hS' => by go_simp⟩) ?_
          simp only [List.setIfInBounds_toArray, List.set_cons_zero, List.set_cons_succ]
          refine takeH_at 8 85 (.int .i64 (m : Nat)) rfl rfl (by kernel_rfl) (by kernel_rfl) (by kernel_rfl) (fun _ _ _ h => h) (hSq1) (Or.inl ⟨by kernel_rfl, fun w' hS' => by go_simp⟩) ?_
          simp only [List.setIfInBounds_toArray, List.set_cons_zero, List.set_cons_succ]
          refine takeH_at 9 86 (.pointer (some ⟨g3, m * 16, none⟩)) rfl rfl (by kernel_rfl) (by kernel_rfl) (by kernel_rfl) (fun _ _ _ h => h) (hSq1) (Or.inl ⟨by kernel_rfl, fun w' hS' => by go_simp⟩) ?_
          simp only [List.setIfInBounds_toArray, List.set_cons_zero, List.set_cons_succ]
          refine takeH_at 10 87 (.agg L7.toArray) rfl rfl (by kernel_rfl) (by kernel_rfl) (by kernel_rfl) (fun _ _ _ h => h) (hSq1) (yieldsIf_load_mid (by kernel_rfl) 23 (.tmp 86) rfl g3 (m * 16) rfl L7 _ (fun u hu => gs.out u hu) Try.underlying23 rfl (by rw [hl7.out]; exact size23)) ?_
          simp only [List.setIfInBounds_toArray, List.set_cons_zero, List.set_cons_succ]
          refine takeH_at 11 88 (.agg #[.int .u8 7, .int .u8 0, .int .u8 0, .int .u8 0, .int .u8 0, .int .u8 0, .int .u8 0, .int .u8 0, .int .u8 0, .int .u8 0, .int .u8 0, .int .u8 0, .int .u8 0, .int .u8 0, .int .u8 0, .int .u8 0]) rfl rfl (by kernel_rfl) (by kernel_rfl) (by kernel_rfl) (fun _ _ _ h => h) (hSq1) (yieldsIf_build (by kernel_rfl) 23 #[(0, .const (.int .u8 7))] rfl _ (by simp only [List.map_toArray, List.map_cons, List.map_nil]; kernel_rfl)) ?_
          simp only [List.setIfInBounds_toArray, List.set_cons_zero, List.set_cons_succ]
          refine takeH_at 12 89 (.bool true) rfl rfl (by kernel_rfl) (by kernel_rfl) (by kernel_rfl) (fun _ _ _ h => h) (hSq1) (Or.inl ⟨by kernel_rfl, fun w' hS' => by have q := hE7 w'; go_simp⟩) ?_
          simp only [List.setIfInBounds_toArray, List.set_cons_zero, List.set_cons_succ]
          refine takeH_at 13 90 (.bool true) rfl rfl (by kernel_rfl) (by kernel_rfl) (by kernel_rfl) (fun _ _ _ h => h) (hSq1) (Or.inl ⟨by kernel_rfl, fun w' hS' => by go_simp⟩) ?_
          simp only [List.setIfInBounds_toArray, List.set_cons_zero, List.set_cons_succ]
          refine takeH_at 14 6 (.bool true) rfl rfl (by kernel_rfl) (by kernel_rfl) (by kernel_rfl) (fun _ _ _ h => h) (hSq1) (Or.inl ⟨by kernel_rfl, fun w' hS' => by go_simp⟩) ?_
          simp only [List.setIfInBounds_toArray, List.set_cons_zero, List.set_cons_succ]
          refine wpAnyH_done (by kernel_rfl) ?_ _
          refine NoPanic.normal ?_
          have HE : Hid (Below w.heap.size w q1) := HA.out.1.trans ((HT15.out _ (H9'.out _ (HW.out _ hSq1))).mono HA.out.1.size)
          clear hE7 hP1 K15 gs ga7 g97
          go_wp2
          go_ret
          exact ⟨rfl, HE⟩

end Go.Proofs.Ytnkpngpjlkkkbaa
