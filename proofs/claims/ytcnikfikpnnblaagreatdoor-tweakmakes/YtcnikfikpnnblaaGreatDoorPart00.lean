import Derived.WalkKit
import Derived.Deep.MidRow
import Derived.Laws.ResultCell
import Derived.Below
import Derived.Test.YtcnikfikpnnblaaGreatDoorProg
import Derived.Deep.QuietTactic
import Derived.BigQuiet
import Derived.Deep.Draws
import Derived.Laws.BitsAllLaws
import Derived.Laws.Bits64
namespace Go.Proofs.YtcnikfikpnnblaaGreatDoor
open Go.RowKit
variable {P : Program}

/-- A new variable of a great type: its zero cells are handed in. -/
theorem wpList_alloc_big {ops : Array Oper} {rest : List Oper} {op : Oper} {a : Act} {w : World} {Q : Exit → Act → World → Prop} (hgd : op.guard = none) (ty : TypeId) (ho : op.op = .alloc ty)
  (cells : Array Value) (hz : ((P.info? ty).bind (·.zero)).map (·.cells) = some cells) (B : Nat) (hB : w.heap.size = B)
  (h : wpList P ops Q rest (a.put op.dst (.pointer (some ⟨B, 0, none⟩))) (w.alloc (.cells cells ty))) : wpList P ops Q (op :: rest) a w := by
 subst hB
 refine wpList_plain hgd fun K hK => ?_
 cases hi : P.info? ty with
 | none => simp [hi] at hz
 | some i =>
  cases hzz : i.zero with
  | none => simp [hi, hzz] at hz
  | some z =>
   have hc : z.cells = cells := by simpa [hi, hzz] using hz
   have hrun : (Instr.alloc ty true (.tuple #[])).run P w = .ok (.pointer (some ⟨w.heap.size, 0, none⟩)) (w.alloc (.cells cells ty)) := by
    simp [Instr.alloc, zeroValue, typeInfo, hi, hzz, newVar, newRow, hc]
   unfold Oper.wp execOp
   simp only [ho, Sem.run_bind, hrun, Result.andThen_ok, Sem.run_pure]
   exact hK _ _ h

/-- A great value that is built. -/
theorem wpList_build_big {ops : Array Oper} {rest : List Oper} {op : Oper} {a : Act} {w : World} {Q : Exit → Act → World → Prop} (hgd : op.guard = none) (ty : TypeId) (parts : Array (Nat × Operand)) (ho : op.op = .build ty parts)
  (cells : Array Value) (hb : P.built ty (parts.map fun (i, x) => (i, a.eval x)).toList = some cells)
  (h : wpList P ops Q rest (a.put op.dst (.agg cells)) w) : wpList P ops Q (op :: rest) a w := by
 refine wpList_plain hgd fun K hK => ?_
 have hrun := run_build (P := P) w ty (parts.map fun (i, x) => (i, a.eval x)) cells hb
 unfold Oper.wp execOp
 simp only [ho, Sem.run_bind, hrun, Result.andThen_ok, Sem.run_pure]
 exact hK _ _ h

theorem sizeB_setCells (b : Nat) : ∀ (vs : List Value) (o : Nat) (w : World), (w.setCells b o vs).heap.size = w.heap.size
 | [], _, _ => rfl
 | v :: r, o, w => by rw [World.setCells, sizeB_setCells b r (o + 1)]; simp [World.setCell]
theorem belowB_setCells (b : Nat) {B : Nat} (hB : B ≤ b) {a : World} : ∀ (vs : List Value) (o : Nat) (w : World), Below B a w → Below B a (w.setCells b o vs)
 | [], _, _, h => h
 | v :: r, o, w, h => by rw [World.setCells]; exact belowB_setCells b hB r (o + 1) _ (h.setCell hB _)
theorem rangeAt_new (w : World) (C : Array Value) (t : TypeId) : (w.alloc (.cells C t)).rangeAt w.heap.size 0 C.toList := fun j v hv => by
 rw [World.cell?_alloc_at C t _ _ rfl]
 simpa using hv
theorem there_new (w : World) (C : Array Value) (t : TypeId) (n : Nat) (hn : n ≤ C.size) : (w.alloc (.cells C t)).there w.heap.size 0 n := fun j hj => by
 refine ⟨?_, World.frozen?_alloc_at C t _ _ rfl⟩
 rw [World.cell?_alloc_at C t _ _ rfl]
 simp
 omega
end Go.Proofs.YtcnikfikpnnblaaGreatDoor
namespace Go.Proofs.YtcnikfikpnnblaaGreatDoor
open Go.RowKit

/-- A list of bytes behind a slice value. -/
def View (w : World) (v : Value) (zs : List Int) : Prop :=
 ∃ a cap, v = .slice a zs.length cap ∧ zs.length ≤ cap ∧ cap ≤ maxLen ∧ (a = none → cap = 0) ∧
  (zs = [] ∨ ∃ b off, a = some ⟨b, off, none⟩ ∧ ∀ i, i < zs.length → w.cell? ⟨b, off + i, none⟩ = some (.int .u8 (zs.getD i 0)))

theorem ret_bool {a b : Bool} (h : a = b) : Ending.returned (.bool a) = .returned (.bool b) := by rw [h]
theorem ext_getD {xs ys : List Int} {n : Nat} (hx : xs.length = n) (hy : ys.length = n) (h : ∀ j, j < n → xs.getD j 0 = ys.getD j 0) : xs = ys := by
 apply List.ext_getElem (by omega)
 intro i h1 h2
 have := h i (by omega)
 simpa [List.getD, List.getElem?_eq_getElem h1, List.getElem?_eq_getElem h2] using this

set_option maxHeartbeats 400000 in
theorem same_core (b1 o1 b2 o2 c1 c2 n : Nat) (xs ys : List Int) (w : World) (hx : xs.length = n) (hy : ys.length = n) (hn : n ≤ 9223372036854775807)
  (h1 : ∀ i, i < n → w.cell? ⟨b1, o1 + i, none⟩ = some (.int .u8 (xs.getD i 0)))
  (h2 : ∀ i, i < n → w.cell? ⟨b2, o2 + i, none⟩ = some (.int .u8 (ys.getD i 0))) :
  Calls Tryz.prog 30 #[.slice (some ⟨b1, o1, none⟩) n c1, .slice (some ⟨b2, o2, none⟩) n c2] w fun e w' => e = .returned (.bool (decide (xs = ys))) ∧ ∃ m, w' = w.drewN m := by
 have HX : Hid (xs.length = n) := hx
 have HY : Hid (ys.length = n) := hy
 clear hx hy
 go_enter Tryz.func30, Tryz.ntmps30
 go_wp2
 go_loopw [5] (fun i wr => ∃ k : Nat, k ≤ n ∧ i = .int .i64 k ∧ Hid (∀ j, j < k → xs.getD j 0 = ys.getD j 0) ∧ ∃ m, wr = w.drewN m) (fun i _ => n - (intOf i).toNat)
 case atStart => exact ⟨0, Nat.zero_le _, rfl, (fun j hj => by omega), 0, rfl⟩
 case round =>
  obtain ⟨k, hk, rfl, HE, m, rfl⟩ := hrel
  by_cases hlt : k < n
  ·have g1 := h1 k hlt
   have g2 := h2 k hlt
   clear h1 h2
   go_wp2
   go_quiet (fail)
   go_wp2
   ·have hne : (xs[k]?.getD 0 != ys[k]?.getD 0) = true := by assumption
    go_ret
    refine ⟨ret_bool ?_, _, World.drewN_drewN _ _ _⟩
    have : xs ≠ ys := by
     intro h
     subst h
     simp at hne
    simp [this]
   ·have heq : (xs[k]?.getD 0 != ys[k]?.getD 0) = false := by assumption
    go_roundw
    case rel =>
     refine ⟨k + 1, by omega, by go_num, ?_, _, rfl⟩
     intro j hj
     by_cases hjk : j < k
     ·exact HE.out j hjk
     ·obtain rfl : j = k := by omega
      simpa using heq
    case measure => simp [intOf]; omega
  ·go_wp2
   go_ret
   have := ext_getD HX.out HY.out (fun j hj => HE.out j (by omega))
   exact ⟨ret_bool (by simp [this]), _, rfl⟩

theorem same_zero (a1 a2 : Option Addr) (c1 c2 : Nat) (w : World) :
  Calls Tryz.prog 30 #[.slice a1 0 c1, .slice a2 0 c2] w fun e w' => e = .returned (.bool true) ∧ ∃ m, w' = w.drewN m := by
 go_enter Tryz.func30, Tryz.ntmps30
 go_wp2
 go_loop [5] (fun i => i = .int .i64 0) (fun _ => 0)
 case atStart => rfl
 case round =>
  subst hrel
  go_wp2
  go_ret
  exact ⟨rfl, 0, rfl⟩

theorem same_unlike (a1 a2 : Option Addr) (l1 l2 c1 c2 : Nat) (w : World) (h : l1 ≠ l2) :
  Calls Tryz.prog 30 #[.slice a1 l1 c1, .slice a2 l2 c2] w fun e w' => e = .returned (.bool false) ∧ ∃ m, w' = w.drewN m := by
 have hb : ((l1 : Int) != (l2 : Int)) = true := by rw [bne_iff_ne]; omega
 clear h
 go_enter Tryz.func30, Tryz.ntmps30
 go_wp2
 go_ret
 exact ⟨rfl, 0, rfl⟩

/-- cofferbook.SameBytes. -/
theorem same_any (v1 v2 : Value) (xs ys : List Int) (w : World) (h1 : View w v1 xs) (h2 : View w v2 ys) :
  Calls Tryz.prog 30 #[v1, v2] w fun e w' => e = .returned (.bool (decide (xs = ys))) ∧ ∃ m, w' = w.drewN m := by
 obtain ⟨a1, c1, rfl, hl1, hm1, _, k1⟩ := h1
 obtain ⟨a2, c2, rfl, hl2, hm2, _, k2⟩ := h2
 by_cases hl : xs.length = ys.length
 ·rcases k1 with rfl | ⟨b1, o1, rfl, g1⟩
  ·have : ys = [] := List.eq_nil_of_length_eq_zero (by simpa using hl.symm)
   subst this
   simpa using same_zero a1 a2 c1 c2 w
  ·rcases k2 with rfl | ⟨b2, o2, rfl, g2⟩
   ·have : xs = [] := List.eq_nil_of_length_eq_zero (by simpa using hl)
    subst this
    simpa using same_zero _ a2 c1 c2 w
   ·rw [← hl]
    exact same_core b1 o1 b2 o2 c1 c2 xs.length xs ys w rfl hl.symm (by unfold maxLen at hm1; omega) g1 (by rw [hl]; exact g2)
 ·have hne : xs ≠ ys := fun h => hl (by rw [h])
  have hd : decide (xs = ys) = false := by simpa using hne
  rw [hd]
  exact same_unlike a1 a2 _ _ c1 c2 w hl
end Go.Proofs.YtcnikfikpnnblaaGreatDoor
namespace Go.Proofs.YtcnikfikpnnblaaGreatDoor.Dg
open Go.RowKit
variable {P : Program}

/-- A new variable of a great type: its zero cells are handed in. -/
theorem wpList_alloc_big {ops : Array Oper} {rest : List Oper} {op : Oper} {a : Act} {w : World} {Q : Exit → Act → World → Prop} (hgd : op.guard = none) (ty : TypeId) (ho : op.op = .alloc ty)
  (cells : Array Value) (hz : ((P.info? ty).bind (·.zero)).map (·.cells) = some cells) (B : Nat) (hB : w.heap.size = B)
  (h : wpList P ops Q rest (a.put op.dst (.pointer (some ⟨B, 0, none⟩))) (w.alloc (.cells cells ty))) : wpList P ops Q (op :: rest) a w := by
 subst hB
 refine wpList_plain hgd fun K hK => ?_
 cases hi : P.info? ty with
 | none => simp [hi] at hz
 | some i =>
  cases hzz : i.zero with
  | none => simp [hi, hzz] at hz
  | some z =>
   have hc : z.cells = cells := by simpa [hi, hzz] using hz
   have hrun : (Instr.alloc ty true (.tuple #[])).run P w = .ok (.pointer (some ⟨w.heap.size, 0, none⟩)) (w.alloc (.cells cells ty)) := by
    simp [Instr.alloc, zeroValue, typeInfo, hi, hzz, newVar, newRow, hc]
   unfold Oper.wp execOp
   simp only [ho, Sem.run_bind, hrun, Result.andThen_ok, Sem.run_pure]
   exact hK _ _ h

/-- A great value that is built. -/
theorem wpList_build_big {ops : Array Oper} {rest : List Oper} {op : Oper} {a : Act} {w : World} {Q : Exit → Act → World → Prop} (hgd : op.guard = none) (ty : TypeId) (parts : Array (Nat × Operand)) (ho : op.op = .build ty parts)
  (cells : Array Value) (hb : P.built ty (parts.map fun (i, x) => (i, a.eval x)).toList = some cells)
  (h : wpList P ops Q rest (a.put op.dst (.agg cells)) w) : wpList P ops Q (op :: rest) a w := by
 refine wpList_plain hgd fun K hK => ?_
 have hrun := run_build (P := P) w ty (parts.map fun (i, x) => (i, a.eval x)) cells hb
 unfold Oper.wp execOp
 simp only [ho, Sem.run_bind, hrun, Result.andThen_ok, Sem.run_pure]
 exact hK _ _ h

theorem size_setCells (b : Nat) : ∀ (vs : List Value) (o : Nat) (w : World), (w.setCells b o vs).heap.size = w.heap.size
 | [], _, _ => rfl
 | v :: r, o, w => by rw [World.setCells, size_setCells b r (o + 1)]; simp [World.setCell]
theorem below_setCells (b : Nat) {B : Nat} (hB : B ≤ b) {a : World} : ∀ (vs : List Value) (o : Nat) (w : World), Below B a w → Below B a (w.setCells b o vs)
 | [], _, _, h => h
 | v :: r, o, w, h => by rw [World.setCells]; exact below_setCells b hB r (o + 1) _ (h.setCell hB _)
theorem rangeAt_new (w : World) (C : Array Value) (t : TypeId) : (w.alloc (.cells C t)).rangeAt w.heap.size 0 C.toList := fun j v hv => by
 rw [World.cell?_alloc_at C t _ _ rfl]
 simpa using hv
theorem there_new (w : World) (C : Array Value) (t : TypeId) (n : Nat) (hn : n ≤ C.size) : (w.alloc (.cells C t)).there w.heap.size 0 n := fun j hj => by
 refine ⟨?_, World.frozen?_alloc_at C t _ _ rfl⟩
 rw [World.cell?_alloc_at C t _ _ rfl]
 simp
 omega
end Go.Proofs.YtcnikfikpnnblaaGreatDoor.Dg
namespace Go.Proofs.YtcnikfikpnnblaaGreatDoor.Dg
open Go.RowKit

/-- A list of bytes behind a slice value. -/
def View (w : World) (v : Value) (zs : List Int) : Prop :=
 ∃ a cap, v = .slice a zs.length cap ∧ zs.length ≤ cap ∧ cap ≤ maxLen ∧ (a = none → cap = 0) ∧
  (zs = [] ∨ ∃ b off, a = some ⟨b, off, none⟩ ∧ ∀ i, i < zs.length → w.cell? ⟨b, off + i, none⟩ = some (.int .u8 (zs.getD i 0)))

theorem ret_bool {a b : Bool} (h : a = b) : Ending.returned (.bool a) = .returned (.bool b) := by rw [h]
theorem ext_getD {xs ys : List Int} {n : Nat} (hx : xs.length = n) (hy : ys.length = n) (h : ∀ j, j < n → xs.getD j 0 = ys.getD j 0) : xs = ys := by
 apply List.ext_getElem (by omega)
 intro i h1 h2
 have := h i (by omega)
 simpa [List.getD, List.getElem?_eq_getElem h1, List.getElem?_eq_getElem h2] using this

set_option maxHeartbeats 400000 in
theorem same_core (b1 o1 b2 o2 c1 c2 n : Nat) (xs ys : List Int) (w : World) (hx : xs.length = n) (hy : ys.length = n) (hn : n ≤ 9223372036854775807)
  (h1 : ∀ i, i < n → w.cell? ⟨b1, o1 + i, none⟩ = some (.int .u8 (xs.getD i 0)))
  (h2 : ∀ i, i < n → w.cell? ⟨b2, o2 + i, none⟩ = some (.int .u8 (ys.getD i 0))) :
  Calls Tryz.prog 30 #[.slice (some ⟨b1, o1, none⟩) n c1, .slice (some ⟨b2, o2, none⟩) n c2] w fun e w' => e = .returned (.bool (decide (xs = ys))) ∧ ∃ m, w' = w.drewN m := by
 have HX : Hid (xs.length = n) := hx
 have HY : Hid (ys.length = n) := hy
 clear hx hy
 go_enter Tryz.func30, Tryz.ntmps30
 go_wp2
 go_loopw [5] (fun i wr => ∃ k : Nat, k ≤ n ∧ i = .int .i64 k ∧ Hid (∀ j, j < k → xs.getD j 0 = ys.getD j 0) ∧ ∃ m, wr = w.drewN m) (fun i _ => n - (intOf i).toNat)
 case atStart => exact ⟨0, Nat.zero_le _, rfl, (fun j hj => by omega), 0, rfl⟩
 case round =>
  obtain ⟨k, hk, rfl, HE, m, rfl⟩ := hrel
  by_cases hlt : k < n
  ·have g1 := h1 k hlt
   have g2 := h2 k hlt
   clear h1 h2
   go_wp2
   go_quiet (fail)
   go_wp2
   ·have hne : (xs[k]?.getD 0 != ys[k]?.getD 0) = true := by assumption
    go_ret
    refine ⟨ret_bool ?_, _, World.drewN_drewN _ _ _⟩
    have : xs ≠ ys := by
     intro h
     subst h
     simp at hne
    simp [this]
   ·have heq : (xs[k]?.getD 0 != ys[k]?.getD 0) = false := by assumption
    go_roundw
    case rel =>
     refine ⟨k + 1, by omega, by go_num, ?_, _, rfl⟩
     intro j hj
     by_cases hjk : j < k
     ·exact HE.out j hjk
     ·obtain rfl : j = k := by omega
      simpa using heq
    case measure => simp [intOf]; omega
  ·go_wp2
   go_ret
   have := ext_getD HX.out HY.out (fun j hj => HE.out j (by omega))
   exact ⟨ret_bool (by simp [this]), _, rfl⟩

theorem same_zero (a1 a2 : Option Addr) (c1 c2 : Nat) (w : World) :
  Calls Tryz.prog 30 #[.slice a1 0 c1, .slice a2 0 c2] w fun e w' => e = .returned (.bool true) ∧ ∃ m, w' = w.drewN m := by
 go_enter Tryz.func30, Tryz.ntmps30
 go_wp2
 go_loop [5] (fun i => i = .int .i64 0) (fun _ => 0)
 case atStart => rfl
 case round =>
  subst hrel
  go_wp2
  go_ret
  exact ⟨rfl, 0, rfl⟩

theorem same_unlike (a1 a2 : Option Addr) (l1 l2 c1 c2 : Nat) (w : World) (h : l1 ≠ l2) :
  Calls Tryz.prog 30 #[.slice a1 l1 c1, .slice a2 l2 c2] w fun e w' => e = .returned (.bool false) ∧ ∃ m, w' = w.drewN m := by
 have hb : ((l1 : Int) != (l2 : Int)) = true := by rw [bne_iff_ne]; omega
 clear h
 go_enter Tryz.func30, Tryz.ntmps30
 go_wp2
 go_ret
 exact ⟨rfl, 0, rfl⟩

/-- cofferbook.SameBytes. -/
theorem same_any (v1 v2 : Value) (xs ys : List Int) (w : World) (h1 : View w v1 xs) (h2 : View w v2 ys) :
  Calls Tryz.prog 30 #[v1, v2] w fun e w' => e = .returned (.bool (decide (xs = ys))) ∧ ∃ m, w' = w.drewN m := by
 obtain ⟨a1, c1, rfl, hl1, hm1, _, k1⟩ := h1
 obtain ⟨a2, c2, rfl, hl2, hm2, _, k2⟩ := h2
 by_cases hl : xs.length = ys.length
 ·rcases k1 with rfl | ⟨b1, o1, rfl, g1⟩
  ·have : ys = [] := List.eq_nil_of_length_eq_zero (by simpa using hl.symm)
   subst this
   simpa using same_zero a1 a2 c1 c2 w
  ·rcases k2 with rfl | ⟨b2, o2, rfl, g2⟩
   ·have : xs = [] := List.eq_nil_of_length_eq_zero (by simpa using hl)
    subst this
    simpa using same_zero _ a2 c1 c2 w
   ·rw [← hl]
    exact same_core b1 o1 b2 o2 c1 c2 xs.length xs ys w rfl hl.symm (by unfold maxLen at hm1; omega) g1 (by rw [hl]; exact g2)
 ·have hne : xs ≠ ys := fun h => hl (by rw [h])
  have hd : decide (xs = ys) = false := by simpa using hne
  rw [hd]
  exact same_unlike a1 a2 _ _ c1 c2 w hl
end Go.Proofs.YtcnikfikpnnblaaGreatDoor.Dg
namespace Go.Proofs.YtcnikfikpnnblaaGreatDoor.Dg
open Go.RowKit
theorem bx32 (a b : Int) : bits .xor .u32 a b = (((BitVec.ofInt 32 a ^^^ BitVec.ofInt 32 b).toNat : Nat) : Int) := by
 show IntKind.u32.wrap ((BitVec.ofInt 32 a ^^^ BitVec.ofInt 32 b).toNat : Int) = _
 have := (BitVec.ofInt 32 a ^^^ BitVec.ofInt 32 b).isLt
 rw [IntKind.wrap_u32']
 omega
theorem bo32 (a b : Int) : bits .or .u32 a b = (((BitVec.ofInt 32 a ||| BitVec.ofInt 32 b).toNat : Nat) : Int) := by
 show IntKind.u32.wrap ((BitVec.ofInt 32 a ||| BitVec.ofInt 32 b).toNat : Int) = _
 have := (BitVec.ofInt 32 a ||| BitVec.ofInt 32 b).isLt
 rw [IntKind.wrap_u32']
 omega
theorem ba32 (a b : Int) : bits .and .u32 a b = (((BitVec.ofInt 32 a &&& BitVec.ofInt 32 b).toNat : Nat) : Int) := by
 show IntKind.u32.wrap ((BitVec.ofInt 32 a &&& BitVec.ofInt 32 b).toNat : Int) = _
 have := (BitVec.ofInt 32 a &&& BitVec.ofInt 32 b).isLt
 rw [IntKind.wrap_u32']
 omega
theorem bx64 (a b : Int) : bits .xor .u64 a b = (((BitVec.ofInt 64 a ^^^ BitVec.ofInt 64 b).toNat : Nat) : Int) := by
 show IntKind.u64.wrap ((BitVec.ofInt 64 a ^^^ BitVec.ofInt 64 b).toNat : Int) = _
 have := (BitVec.ofInt 64 a ^^^ BitVec.ofInt 64 b).isLt
 rw [IntKind.wrap_u64]
 omega
theorem bo64 (a b : Int) : bits .or .u64 a b = (((BitVec.ofInt 64 a ||| BitVec.ofInt 64 b).toNat : Nat) : Int) := by
 show IntKind.u64.wrap ((BitVec.ofInt 64 a ||| BitVec.ofInt 64 b).toNat : Int) = _
 have := (BitVec.ofInt 64 a ||| BitVec.ofInt 64 b).isLt
 rw [IntKind.wrap_u64]
 omega
theorem ba64 (a b : Int) : bits .and .u64 a b = (((BitVec.ofInt 64 a &&& BitVec.ofInt 64 b).toNat : Nat) : Int) := by
 show IntKind.u64.wrap ((BitVec.ofInt 64 a &&& BitVec.ofInt 64 b).toNat : Int) = _
 have := (BitVec.ofInt 64 a &&& BitVec.ofInt 64 b).isLt
 rw [IntKind.wrap_u64]
 omega
theorem of32 (v : BitVec 32) : BitVec.ofInt 32 ((v.toNat : Nat) : Int) = v := by
 apply BitVec.eq_of_toNat_eq
 simp
theorem of64 (v : BitVec 64) : BitVec.ofInt 64 ((v.toNat : Nat) : Int) = v := by
 apply BitVec.eq_of_toNat_eq
 simp
theorem or_comm32 (a b : Int) : bits .or .u32 a b = bits .or .u32 b a := by rw [bo32, bo32, BitVec.or_comm]
theorem or_comm64 (a b : Int) : bits .or .u64 a b = bits .or .u64 b a := by rw [bo64, bo64, BitVec.or_comm]
/-- The complement, as the walk prints it. -/
theorem not32 (e : Int) : BitVec.ofInt 32 (bits .xor .u32 (if IntKind.u32.signed = true then -1 else IntKind.u32.max) e) = ~~~ (BitVec.ofInt 32 e) := by
 rw [bx32, of32, show (if IntKind.u32.signed = true then (-1 : Int) else IntKind.u32.max) = 4294967295 by decide, show BitVec.ofInt 32 4294967295 = BitVec.allOnes 32 by decide, BitVec.allOnes_xor]
theorem not64 (e : Int) : BitVec.ofInt 64 (bits .xor .u64 (if IntKind.u64.signed = true then -1 else IntKind.u64.max) e) = ~~~ (BitVec.ofInt 64 e) := by
 rw [bx64, of64, show (if IntKind.u64.signed = true then (-1 : Int) else IntKind.u64.max) = 18446744073709551615 by decide, show BitVec.ofInt 64 18446744073709551615 = BitVec.allOnes 64 by decide, BitVec.allOnes_xor]
theorem ch_bv {n : Nat} (e f g : BitVec n) : (e &&& f) ||| (~~~ e &&& g) = (e &&& f) ^^^ (~~~ e &&& g) := by
 apply BitVec.eq_of_getLsbD_eq
 intro i hi
 simp only [BitVec.getLsbD_or, BitVec.getLsbD_and, BitVec.getLsbD_xor, BitVec.getLsbD_not, hi, decide_true, Bool.true_and]
 cases e.getLsbD i <;> cases f.getLsbD i <;> cases g.getLsbD i <;> rfl
theorem maj_bv {n : Nat} (a b c : BitVec n) : ((a &&& b) ||| (a &&& c)) ||| (b &&& c) = ((a &&& b) ^^^ (a &&& c)) ^^^ (b &&& c) := by
 apply BitVec.eq_of_getLsbD_eq
 intro i hi
 simp only [BitVec.getLsbD_or, BitVec.getLsbD_and, BitVec.getLsbD_xor]
 cases a.getLsbD i <;> cases b.getLsbD i <;> cases c.getLsbD i <;> rfl
theorem ch32 (e f g : Int) : bits .or .u32 (bits .and .u32 e f) (bits .and .u32 (bits .xor .u32 (if IntKind.u32.signed = true then -1 else IntKind.u32.max) e) g) = bits .xor .u32 (bits .and .u32 e f) (bits .and .u32 (bits .xor .u32 (if IntKind.u32.signed = true then -1 else IntKind.u32.max) e) g) := by
 rw [bo32, bx32 (bits .and .u32 e f), ba32, ba32, of32, of32, not32, ch_bv]
theorem ch64 (e f g : Int) : bits .or .u64 (bits .and .u64 e f) (bits .and .u64 (bits .xor .u64 (if IntKind.u64.signed = true then -1 else IntKind.u64.max) e) g) = bits .xor .u64 (bits .and .u64 e f) (bits .and .u64 (bits .xor .u64 (if IntKind.u64.signed = true then -1 else IntKind.u64.max) e) g) := by
 rw [bo64, bx64 (bits .and .u64 e f), ba64, ba64, of64, of64, not64, ch_bv]
theorem maj32 (a b c : Int) : bits .or .u32 (bits .or .u32 (bits .and .u32 a b) (bits .and .u32 a c)) (bits .and .u32 b c) = bits .xor .u32 (bits .xor .u32 (bits .and .u32 a b) (bits .and .u32 a c)) (bits .and .u32 b c) := by
 rw [bo32, bo32, bx32, bx32, ba32, ba32, ba32, of32, of32, of32, of32, of32, maj_bv]
theorem maj64 (a b c : Int) : bits .or .u64 (bits .or .u64 (bits .and .u64 a b) (bits .and .u64 a c)) (bits .and .u64 b c) = bits .xor .u64 (bits .xor .u64 (bits .and .u64 a b) (bits .and .u64 a c)) (bits .and .u64 b c) := by
 rw [bo64, bo64, bx64, bx64, ba64, ba64, ba64, of64, of64, of64, of64, of64, maj_bv]
end Go.Proofs.YtcnikfikpnnblaaGreatDoor.Dg
