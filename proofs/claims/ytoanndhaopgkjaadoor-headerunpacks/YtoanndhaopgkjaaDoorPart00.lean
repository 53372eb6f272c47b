import Derived.Test.YtoanndhaopgkjaaDoorProg
import Derived.Laws.BytesArg
import Derived.WalkKit
import Derived.Below
import Derived.BigRegion
import Derived.BigQuiet
import Derived.Deep.QuietTactic
import Derived.Deep.RegionHeld3
import Derived.Laws.Bits64
import Derived.Ground.NamesProg
import Derived.WalkMore
import Derived.Shelf.Lay
import Derived.Shelf.Small.Strs
import Derived.Deep.Draws
import Derived.Laws.BitsAllLaws
import Derived.Laws.AppendOwnNone
import Derived.Deep.DeepMust
import Derived.Deep.OwnRows
import Derived.Laws.CopyRow
import Derived.Laws.OwnMore
import Derived.Laws.Tables
import Derived.Lib.BufferWrite
import Derived.Maps.AppendAt
import Derived.Deep.MidRow
import Derived.Laws.ResultCell
import Derived.Deep.Upon
import Derived.Deep.Cut
namespace Go.Proofs.YtoanndhaopgkjaaDoor
open Go.RowKit
set_option linter.unusedVariables false
/-- A string's bytes as numbers. -/
def nums (s : ByteArray) : List Int := s.data.toList.map fun b => (b.toNat : Int)
theorem nums_length (s : ByteArray) : (nums s).length = s.size := by
  unfold nums
  rw [List.length_map, Array.length_toList]
  rfl
theorem nums_at (s : ByteArray) (i : Nat) (h : i < s.size) : (nums s).getD i 0 = ((s[i]'h).toNat : Int) := by
  have h' : i < (nums s).length := by rw [nums_length]; exact h
  rw [List.getD_eq_getElem?_getD, List.getElem?_eq_getElem h']
  simp [nums]
  rfl
theorem nums_range (s : ByteArray) (i : Nat) : 0 ≤ (nums s).getD i 0 ∧ (nums s).getD i 0 < 256 := by
  by_cases h : i < s.size
  · rw [nums_at s i h]
    have := (s[i]'h).toNat_lt
    omega
  · rw [List.getD_eq_getElem?_getD, List.getElem?_eq_none (by rw [nums_length]; omega)]
    simp
theorem nums_inj {a b : ByteArray} (h : nums a = nums b) : a = b := by
  have h2 : a.data.toList = b.data.toList := by
    unfold nums at h
    refine List.map_inj_right (fun x y e => ?_) |>.1 h
    exact UInt8.toNat_inj.1 (by omega)
  cases a
  cases b
  simp at h2
  rw [h2]
/-- A text of bytes. -/
def strB (zs : List Int) : ByteArray := ⟨(zs.map fun z => UInt8.ofNat z.toNat).toArray⟩
theorem nums_strB (zs : List Int) (h : ∀ z ∈ zs, 0 ≤ z ∧ z < 256) : nums (strB zs) = zs := by
  unfold nums strB
  simp only [List.map_map]
  conv => rhs; rw [← List.map_id zs]
  apply List.map_congr_left
  intro z hz
  have := h z hz
  simp
  omega
theorem strB_nums (s : ByteArray) : strB (nums s) = s := nums_inj (nums_strB _ (fun z hz => by
  obtain ⟨i, hi, rfl⟩ := List.getElem_of_mem hz
  have := nums_range s i
  simpa [List.getD_eq_getElem?_getD, List.getElem?_eq_getElem hi] using this))
theorem strB_size (zs : List Int) : (strB zs).size = zs.length := by
  show (Array.size _) = _
  simp
theorem getD_at {α : Type} (l : List α) (d : α) (i : Nat) (h : i < l.length) : l.getD i d = l[i] := by
  rw [List.getD_eq_getElem?_getD, List.getElem?_eq_getElem h]
  rfl
/-- s laid over L from place k on. -/
def layL (L : List Int) (k : Nat) (s : List Int) : List Int := L.take k ++ s ++ L.drop (k + s.length)
theorem layL_length {L : List Int} {k : Nat} {s : List Int} (h : k + s.length ≤ L.length) : (layL L k s).length = L.length := by
  simp [layL]
  omega
theorem layL_nil (L : List Int) (k : Nat) : layL L k [] = L := by simp [layL]
theorem layL_at {L : List Int} {k : Nat} {s : List Int} (h : k + s.length ≤ L.length) (i : Nat) :
    (layL L k s).getD i 0 = if k ≤ i ∧ i < k + s.length then s.getD (i - k) 0 else L.getD i 0 := by
  have hl := layL_length h
  by_cases hi : i < L.length
  · unfold layL
    rw [List.getD_eq_getElem?_getD]
    by_cases h1 : i < k
    · rw [if_neg (by omega), List.append_assoc, List.getElem?_append_left (by simp; omega), List.getElem?_take_of_lt h1]
      rfl
    by_cases h2 : i < k + s.length
    · rw [if_pos ⟨by omega, h2⟩, List.append_assoc, List.getElem?_append_right (by simp; omega), List.getElem?_append_left (by simp; omega)]
      simp [Nat.min_eq_left (show k ≤ L.length by omega)]
    · rw [if_neg (by omega), List.getElem?_append_right (by simp; omega)]
      simp only [List.length_append, List.length_take, List.getElem?_drop, List.getD_eq_getElem?_getD]
      congr 2
      omega
  · rw [List.getD_eq_getElem?_getD, List.getElem?_eq_none (by omega)]
    rw [if_neg (by omega), List.getD_eq_getElem?_getD, List.getElem?_eq_none (by omega)]
theorem ext_at {xs ys : List Int} (hl : xs.length = ys.length) (h : ∀ j, j < xs.length → xs.getD j 0 = ys.getD j 0) : xs = ys := by
  apply List.ext_getElem hl
  intro i h1 h2
  have := h i h1
  simpa [List.getD, List.getElem?_eq_getElem h1, List.getElem?_eq_getElem h2] using this
/-- One byte more of s. -/
theorem layL_snoc {L : List Int} {k : Nat} {s : List Int} {z : Int} (h : k + s.length < L.length) : (layL L k s).set (k + s.length) z = layL L k (s ++ [z]) := by
  have h1 : k + s.length ≤ L.length := by omega
  have h2 : k + (s ++ [z]).length ≤ L.length := by simp; omega
  refine ext_at ?_ (fun j hj => ?_)
  · rw [List.length_set, layL_length h1, layL_length h2]
  · rw [List.length_set, layL_length h1] at hj
    rw [layL_at h2]
    rw [List.getD_eq_getElem?_getD, List.getElem?_set]
    by_cases e : k + s.length = j
    · subst e
      rw [if_pos rfl, if_pos (by rw [layL_length h1]; omega), if_pos (by simp)]
      simp [List.getD_eq_getElem?_getD]
    · rw [if_neg e, ← List.getD_eq_getElem?_getD, layL_at h1]
      by_cases c : k ≤ j ∧ j < k + s.length
      · rw [if_pos c, if_pos (by simp; omega)]
        rw [List.getD_eq_getElem?_getD, List.getD_eq_getElem?_getD, List.getElem?_append_left (by omega)]
      · rw [if_neg c, if_neg (by simp; omega)]
/-- A number of k bytes, highest first. -/
def beL (x : Int) (k : Nat) : List Int := (List.range k).map fun i => x / 256 ^ (k - 1 - i) % 256
theorem beL_length (x : Int) (k : Nat) : (beL x k).length = k := by simp [beL]
theorem beL_range (x : Int) (k : Nat) : ∀ z ∈ beL x k, 0 ≤ z ∧ z < 256 := by
  intro z hz
  simp only [beL, List.mem_map] at hz
  obtain ⟨i, _, rfl⟩ := hz
  exact ⟨Int.emod_nonneg _ (by decide), Int.emod_lt_of_pos _ (by decide)⟩
theorem beL_at (x : Int) (k i : Nat) (h : i < k) : (beL x k).getD i 0 = x / 256 ^ (k - 1 - i) % 256 := by
  rw [getD_at _ _ _ (by rw [beL_length]; exact h)]
  simp [beL]
/-- A header's copy. -/
structure Hc where
  second : Bool
  head : Int
  seq : Int
  label : ByteArray
  sub : ByteArray
  uuid : ByteArray
  salt : ByteArray
  text : ByteArray
def Hc.cells (c : Hc) : List Value := [.bool c.second, .int .i64 c.head, .int .u64 c.seq, .string c.label, .string c.sub, .string c.uuid, .string c.salt, .string c.text]
def Hc.val (c : Hc) : Value := .agg c.cells.toArray
def headB (n : Int) : Bool := n == 16384 || n == 32768 || n == 65536 || n == 131072 || n == 262144 || n == 524288 || n == 1048576 || n == 2097152 || n == 4194304
theorem headB_cases {n : Int} (h : headB n = true) : n = 16384 ∨ n = 32768 ∨ n = 65536 ∨ n = 131072 ∨ n = 262144 ∨ n = 524288 ∨ n = 1048576 ∨ n = 2097152 ∨ n = 4194304 := by
  simp [headB] at h
  omega
theorem headB_le {n : Int} (h : headB n = true) : 16384 ≤ n ∧ n ≤ 4194304 := by
  have := headB_cases h
  omega
/-- A text of fewer than n bytes, none of them zero. -/
def plainB (s : ByteArray) (n : Int) : Bool := decide ((s.size : Int) < n) && !(nums s).contains 0
def magicL (b : Bool) : List Int := if b then [83, 75, 85, 76, 186, 190] else [76, 85, 75, 83, 186, 190]
def sha256L : List Int := [115, 104, 97, 50, 53, 54]
def Hc.start (c : Hc) : Int := if c.second then c.head else 0
/-- Why a copy is refused. -/
def packE (c : Hc) : Int :=
  if headB c.head = false then 83 else
  if ¬ (1 ≤ c.seq ∧ c.seq ≤ 4611686018427387904) ∨ c.salt.size ≠ 64 ∨ plainB c.label 48 = false ∨ plainB c.uuid 40 = false ∨ plainB c.sub 48 = false then 85 else
  if plainB c.text (c.head - 4096) = false then 86 else 0
/-- What stands in the field of a number. -/
def toldL (name : Nat) (c : Hc) : List Int :=
  match name with
  | 0 => magicL c.second
  | 1 => beL 2 2
  | 2 => beL c.head 8
  | 4 => beL c.seq 8
  | 5 => nums c.label
  | 6 => sha256L
  | 7 => nums c.salt
  | 8 => nums c.uuid
  | 9 => nums c.sub
  | 10 => beL c.start 8
  | _ => []
/-- The table fields: name, place, size, error. -/
def fldN (k : Nat) : Nat := [0, 1, 2, 3, 4, 5, 6, 7, 8, 9, 10, 11, 11].getD k 0
def fldA (k : Nat) : Nat := [0, 6, 8, 448, 16, 24, 72, 104, 168, 208, 256, 264, 480].getD k 0
def fldS (k : Nat) : Nat := [6, 2, 8, 32, 8, 48, 32, 64, 40, 48, 8, 184, 3616].getD k 0
def fldE (k : Nat) : Nat := [81, 82, 83, 84, 85, 85, 85, 85, 85, 85, 85, 85, 85].getD k 0
/-- The first k fields laid down. -/
def laysL (c : Hc) : Nat → List Int
  | 0 => List.replicate c.head.toNat 0
  | k + 1 => layL (laysL c k) (fldA k) (toldL (fldN k) c)
/-- All but the digest. -/
def preL (c : Hc) : List Int := layL (laysL c 13) 4096 (nums c.text)
end Go.Proofs.YtoanndhaopgkjaaDoor
namespace Go.Proofs
open Go.RowKit Go.Shelf Go.Lib
shelf_lay Lays.n137 Nm 137 at Tryd as Tryd.lays137
end Go.Proofs
namespace Go.Proofs.YtoanndhaopgkjaaDoor
open Go.RowKit
set_option linter.unusedVariables false
set_option linter.unusedSimpArgs false
theorem and_pow (k n : Nat) (h1 : 2 ^ k < n) (h2 : n < 2 ^ (k + 1)) : n &&& (n - 1) ≠ 0 := by
  intro e
  have hp : 0 < 2 ^ k := Nat.pos_of_ne_zero (by simp)
  rw [Nat.pow_succ] at h2
  have d1 : n / 2 ^ k = 1 := Nat.div_eq_of_lt_le (by omega) (by omega)
  have d2 : (n - 1) / 2 ^ k = 1 := Nat.div_eq_of_lt_le (by omega) (by omega)
  have t : (n &&& (n - 1)).testBit k = true := by
    rw [Nat.testBit_and, Nat.testBit_eq_decide_div_mod_eq, Nat.testBit_eq_decide_div_mod_eq, d1, d2]
    rfl
  rw [e] at t
  simp at t
theorem headB_and (n : Nat) (h1 : 16384 ≤ n) (h2 : n ≤ 4194304) : (((n &&& (n - 1) : Nat) : Int) == 0) = headB n := by
  by_cases hb : headB n = true
  · rw [hb]
    have hc : n = 16384 ∨ n = 32768 ∨ n = 65536 ∨ n = 131072 ∨ n = 262144 ∨ n = 524288 ∨ n = 1048576 ∨ n = 2097152 ∨ n = 4194304 := by
      simp [headB] at hb
      omega
    rcases hc with rfl | rfl | rfl | rfl | rfl | rfl | rfl | rfl | rfl <;> decide
  · have hb' : headB n = false := by simpa using hb
    rw [hb']
    simp [headB] at hb'
    have ne : n &&& (n - 1) ≠ 0 := by
      by_cases c14 : n < 32768
      · exact and_pow 14 n (by omega) (by omega)
      by_cases c15 : n < 65536
      · exact and_pow 15 n (by omega) (by omega)
      by_cases c16 : n < 131072
      · exact and_pow 16 n (by omega) (by omega)
      by_cases c17 : n < 262144
      · exact and_pow 17 n (by omega) (by omega)
      by_cases c18 : n < 524288
      · exact and_pow 18 n (by omega) (by omega)
      by_cases c19 : n < 1048576
      · exact and_pow 19 n (by omega) (by omega)
      by_cases c20 : n < 2097152
      · exact and_pow 20 n (by omega) (by omega)
      · exact and_pow 21 n (by omega) (by omega)
    rw [beq_eq_false_iff_ne]
    omega
theorem bits_and_u64_nat (a b : Nat) (ha : a < 18446744073709551616) (hb : b < 18446744073709551616) :
    bits .and .u64 (a : Int) (b : Int) = ((a &&& b : Nat) : Int) := by
  have hx : a &&& b < 2 ^ 64 := Nat.and_lt_two_pow _ (by omega)
  have h1 : (BitVec.ofInt 64 (a : Int)).toNat = a := by
    rw [BitVec.ofInt_natCast, BitVec.toNat_ofNat]; exact Nat.mod_eq_of_lt (by omega)
  have h2 : (BitVec.ofInt 64 (b : Int)).toNat = b := by
    rw [BitVec.ofInt_natCast, BitVec.toNat_ofNat]; exact Nat.mod_eq_of_lt (by omega)
  show IntKind.u64.wrap ((BitVec.ofInt 64 (a : Int) &&& BitVec.ofInt 64 (b : Int)).toNat : Int) = _
  rw [BitVec.toNat_and, h1, h2]
  rw [IntKind.wrap_u64]
  omega
set_option maxRecDepth 100000 in
theorem isHead_ok (n : Int) (w : World) (h0 : 0 ≤ n) (h1 : n < 18446744073709551616) :
    Calls Tryd.prog 31 #[.int .u64 n] w fun e w' => e = .returned (.bool (headB n)) ∧ w = w' := by
  by_cases ha : 16384 ≤ n
  · by_cases hb : n ≤ 4194304
    · obtain ⟨k, rfl⟩ : ∃ k : Nat, n = (k : Int) := ⟨n.toNat, by omega⟩
      have e1 : IntKind.u64.wrap ((k : Int) - 1) = ((k - 1 : Nat) : Int) := by rw [IntKind.wrap_u64]; omega
      have e2 : bits .and .u64 (k : Int) ((k - 1 : Nat) : Int) = ((k &&& (k - 1) : Nat) : Int) := bits_and_u64_nat _ _ (by omega) (by omega)
      have e3 := headB_and k (by omega) (by omega)
      go_enter Tryd.func31, Tryd.ntmps31
      go_wp2
      go_ret
      refine ⟨congrArg (fun b => Ending.returned (.bool b)) ?_, rfl⟩
      rw [← e3]
    · go_enter Tryd.func31, Tryd.ntmps31
      go_wp2
      go_ret
      refine ⟨congrArg (fun b => Ending.returned (.bool b)) ?_, rfl⟩
      simp [headB]
      omega
  · go_enter Tryd.func31, Tryd.ntmps31
    go_wp2
    go_ret
    refine ⟨congrArg (fun b => Ending.returned (.bool b)) ?_, rfl⟩
    simp [headB]
    omega
def seqB (n : Int) : Bool := decide (1 ≤ n ∧ n ≤ 4611686018427387904)
set_option maxRecDepth 100000 in
theorem isSeq_ok (n : Int) (w : World) :
    Calls Tryd.prog 32 #[.int .u64 n] w fun e w' => e = .returned (.bool (seqB n)) ∧ w = w' := by
  by_cases ha : 1 ≤ n
  all_goals
    go_enter Tryd.func32, Tryd.ntmps32
    go_wp2
    go_ret
    refine ⟨congrArg (fun b => Ending.returned (.bool b)) ?_, rfl⟩
    rw [Bool.eq_iff_iff]
    simp only [seqB, decide_eq_true_eq, Bool.false_eq_true, false_iff]
    omega
theorem plain_index (s : ByteArray) : decide (Lib.indexByte s.data.toList 0 < 0) = !(nums s).contains 0 := by
  have key : ∀ l : List UInt8, -1 ≤ Lib.indexByte l 0 ∧ decide (Lib.indexByte l 0 < 0) = !(l.map fun b => (b.toNat : Int)).contains 0 := by
    intro l
    induction l with
    | nil => exact ⟨by decide, by decide⟩
    | cons b l ih =>
      unfold Lib.indexByte
      by_cases hb : b = 0
      · subst hb
        simp
      · have hn : (b.toNat : Int) ≠ 0 := by
          intro e
          exact hb (UInt8.toNat_inj.1 (by simp; omega))
        have e1 : (b == 0) = false := by simpa using hb
        rw [e1]
        simp only [Bool.false_eq_true, if_false, List.map_cons, List.contains_cons]
        have e2 : ((0 : Int) == (b.toNat : Int)) = false := by
          rw [beq_eq_false_iff_ne]
          exact fun h => hn h.symm
        rw [e2, Bool.false_or, ← ih.2]
        by_cases hm : Lib.indexByte l 0 = -1
        · rw [hm]
          simp
        · rw [if_neg (by simpa using hm)]
          constructor
          · omega
          · rw [Bool.eq_iff_iff]
            simp only [decide_eq_true_eq]
            omega
  exact (key s.data.toList).2
set_option maxRecDepth 100000 in
theorem fits_ok (s : ByteArray) (n : Int) (w : World) :
    Calls Tryd.prog 34 #[.string s, .int .i64 n] w fun e w' => e = .returned (.bool (plainB s n)) ∧ w = w' := by
  by_cases ha : (s.size : Int) < n
  · go_enter Tryd.func34, Tryd.ntmps34
    go_wp2_with (go_at_call 49; refine (Any.strings_IndexByte Tryd.lays137 s 0 _).mono ?_; rintro e w1 ⟨rfl, hw⟩; obtain rfl := hw.symm)
    go_ret
    refine ⟨congrArg (fun b => Ending.returned (.bool b)) ?_, rfl⟩
    rw [plain_index]
    unfold plainB
    simp [ha]
  · go_enter Tryd.func34, Tryd.ntmps34
    go_wp2_with (fail)
    go_ret
    refine ⟨congrArg (fun b => Ending.returned (.bool b)) ?_, rfl⟩
    have hf : decide ((s.size : Int) < n) = false := by simpa using ha
    unfold plainB
    rw [hf, Bool.false_and]
end Go.Proofs.YtoanndhaopgkjaaDoor
namespace Go.Proofs.YtoanndhaopgkjaaDoor
open Go.RowKit

/-- A list of bytes behind a slice value. -/
def View (w : World) (v : Value) (zs : List Int) : Prop :=
  ∃ a cap, v = .slice a zs.length cap ∧ zs.length ≤ cap ∧ cap ≤ maxLen ∧ (a = none → cap = 0) ∧
    (zs = [] ∨ ∃ b off, a = some ⟨b, off, none⟩ ∧ ∀ i, i < zs.length → w.cell? ⟨b, off + i, none⟩ = some (.int .u8 (zs.getD i 0)))

theorem ret_bool {a b : Bool} (h : a = b) : Ending.returned (.bool a) = .returned (.bool b) := by rw [h]
theorem ext_getD {xs ys : List Int} {n : Nat} (hx : xs.length = n) (hy : ys.length = n) (h : ∀ j, j < n → xs.getD j 0 = ys.getD j 0) : xs = ys := by
  apply List.ext_getElem (by omega)
  intro i h1 h2
  have := h i (by omega)
  simpa [List.getD, List.getElem?_eq_getElem h1, List.getElem?_eq_getElem h2] using this

set_option maxHeartbeats 400000 in
theorem same_core (b1 o1 b2 o2 c1 c2 n : Nat) (xs ys : List Int) (w : World) (hx : xs.length = n) (hy : ys.length = n) (hn : n ≤ 9223372036854775807)
    (h1 : ∀ i, i < n → w.cell? ⟨b1, o1 + i, none⟩ = some (.int .u8 (xs.getD i 0)))
    (h2 : ∀ i, i < n → w.cell? ⟨b2, o2 + i, none⟩ = some (.int .u8 (ys.getD i 0))) :
    Calls Tryd.prog 9 #[.slice (some ⟨b1, o1, none⟩) n c1, .slice (some ⟨b2, o2, none⟩) n c2] w fun e w' => e = .returned (.bool (decide (xs = ys))) ∧ ∃ m, w' = w.drewN m := by
  have HX : Hid (xs.length = n) := hx
  have HY : Hid (ys.length = n) := hy
  clear hx hy
  go_enter Tryd.func9, Tryd.ntmps9
  go_wp2
  go_loopw [5] (fun i wr => ∃ k : Nat, k ≤ n ∧ i = .int .i64 k ∧ Hid (∀ j, j < k → xs.getD j 0 = ys.getD j 0) ∧ ∃ m, wr = w.drewN m) (fun i _ => n - (intOf i).toNat)
  case atStart => exact ⟨0, Nat.zero_le _, rfl, (fun j hj => by omega), 0, rfl⟩
  case round =>
    obtain ⟨k, hk, rfl, HE, m, rfl⟩ := hrel
    by_cases hlt : k < n
    · have g1 := h1 k hlt
      have g2 := h2 k hlt
      clear h1 h2
      go_wp2
      go_quiet (fail)
      go_wp2
      · have hne : (xs[k]?.getD 0 != ys[k]?.getD 0) = true := by assumption
        go_ret
        refine ⟨ret_bool ?_, _, World.drewN_drewN _ _ _⟩
        have : xs ≠ ys := by
          intro h
          subst h
          simp at hne
        simp [this]
      · have heq : (xs[k]?.getD 0 != ys[k]?.getD 0) = false := by assumption
        go_roundw
        case rel =>
          refine ⟨k + 1, by omega, by go_num, ?_, _, rfl⟩
          intro j hj
          by_cases hjk : j < k
          · exact HE.out j hjk
          · obtain rfl : j = k := by omega
            simpa using heq
        case measure => simp [intOf]; omega
    · go_wp2
      go_ret
      have := ext_getD HX.out HY.out (fun j hj => HE.out j (by omega))
      exact ⟨ret_bool (by simp [this]), _, rfl⟩

theorem same_zero (a1 a2 : Option Addr) (c1 c2 : Nat) (w : World) :
    Calls Tryd.prog 9 #[.slice a1 0 c1, .slice a2 0 c2] w fun e w' => e = .returned (.bool true) ∧ ∃ m, w' = w.drewN m := by
  go_enter Tryd.func9, Tryd.ntmps9
  go_wp2
  go_loop [5] (fun i => i = .int .i64 0) (fun _ => 0)
  case atStart => rfl
  case round =>
    subst hrel
    go_wp2
    go_ret
    exact ⟨rfl, 0, rfl⟩

theorem same_unlike (a1 a2 : Option Addr) (l1 l2 c1 c2 : Nat) (w : World) (h : l1 ≠ l2) :
    Calls Tryd.prog 9 #[.slice a1 l1 c1, .slice a2 l2 c2] w fun e w' => e = .returned (.bool false) ∧ ∃ m, w' = w.drewN m := by
  have hb : ((l1 : Int) != (l2 : Int)) = true := by rw [bne_iff_ne]; omega
  clear h
  go_enter Tryd.func9, Tryd.ntmps9
  go_wp2
  go_ret
  exact ⟨rfl, 0, rfl⟩

/-- cofferbook.SameBytes. -/
theorem same_any (v1 v2 : Value) (xs ys : List Int) (w : World) (h1 : View w v1 xs) (h2 : View w v2 ys) :
    Calls Tryd.prog 9 #[v1, v2] w fun e w' => e = .returned (.bool (decide (xs = ys))) ∧ ∃ m, w' = w.drewN m := by
  obtain ⟨a1, c1, rfl, hl1, hm1, _, k1⟩ := h1
  obtain ⟨a2, c2, rfl, hl2, hm2, _, k2⟩ := h2
  by_cases hl : xs.length = ys.length
  · rcases k1 with rfl | ⟨b1, o1, rfl, g1⟩
    · have : ys = [] := List.eq_nil_of_length_eq_zero (by simpa using hl.symm)
      subst this
      simpa using same_zero a1 a2 c1 c2 w
    · rcases k2 with rfl | ⟨b2, o2, rfl, g2⟩
      · have : xs = [] := List.eq_nil_of_length_eq_zero (by simpa using hl)
        subst this
        simpa using same_zero _ a2 c1 c2 w
      · rw [← hl]
        exact same_core b1 o1 b2 o2 c1 c2 xs.length xs ys w rfl hl.symm (by unfold maxLen at hm1; omega) g1 (by rw [hl]; exact g2)
  · have hne : xs ≠ ys := fun h => hl (by rw [h])
    have hd : decide (xs = ys) = false := by simpa using hne
    rw [hd]
    exact same_unlike a1 a2 _ _ c1 c2 w hl
end Go.Proofs.YtoanndhaopgkjaaDoor
namespace Go.Proofs.YtoanndhaopgkjaaDoor
/-- Numbers that are bytes. -/
def AllBytes (zs : List Int) : Prop := ∀ i, 0 ≤ zs.getD i 0 ∧ zs.getD i 0 < 256
end Go.Proofs.YtoanndhaopgkjaaDoor
namespace Go.Proofs.YtoanndhaopgkjaaDoor
open Go.RowKit

theorem Tryd.info5 : (Tryd.prog.info? 5).map (fun i => (i.zero, i.size, i.bytes)) = some (some (.int .u8 0), 1, 1) := by kernel_rfl

/-- The marks behind a copy. -/
def marks (k : Nat) : List Int := (List.range k).map fun (i : Nat) => (181 + (i : Int))
theorem marks_length (k : Nat) : (marks k).length = k := by simp [marks]
theorem marks_succ (k : Nat) : marks (k + 1) = marks k ++ [(181 + (k : Int))] := by simp [marks, List.range_succ]
/-- Bytes as cells. -/
def cellsU8 (zs : List Int) : List Value := zs.map (Value.int .u8)
theorem cellsU8_append (a b : List Int) : cellsU8 (a ++ b) = cellsU8 a ++ cellsU8 b := by simp [cellsU8]
theorem cellsU8_length (a : List Int) : (cellsU8 a).length = a.length := by simp [cellsU8]
theorem cellsU8_one (a : List Int) : ∀ u ∈ cellsU8 a, u.oneCell' = true := by
  intro u hu
  obtain ⟨_, _, rfl⟩ := List.mem_map.1 hu
  rfl
theorem cellsU8_at (a : List Int) (w : World) (b off : Nat) (h : ∀ i, i < a.length → w.cell? ⟨b, off + i, none⟩ = some (.int .u8 (a.getD i 0))) :
    ∀ j u, (cellsU8 a)[j]? = some u → w.cell? ((⟨b, off, none⟩ : Addr).add j) = some u := by
  intro j u hu
  simp only [cellsU8, List.getElem?_map, Option.map_eq_some_iff] at hu
  obtain ⟨z, hz, rfl⟩ := hu
  have hj : j < a.length := (List.getElem?_eq_some_iff.1 hz).1
  have := h j hj
  rw [List.getD_eq_getElem?_getD, hz] at this
  rw [Addr.add_lit]
  simpa using this

set_option maxHeartbeats 800000 in
set_option maxRecDepth 100000 in
theorem copy_some (x : Addr) (n cap : Nat) (zs : List Int) (w : World) (hz : Hid (zs.length = n)) (hn : n + 70 ≤ 140737488355328)
    (h1 : Hid (∀ j u, (cellsU8 zs)[j]? = some u → w.cell? (x.add j) = some u)) :
    Calls Tryd.prog 12 #[.slice (some x) n cap] w fun e w' => ∃ g c, e = .returned (.slice (some ⟨g, 0, none⟩) n c) ∧ w'.ownsRow w.heap.size 5 1 (.slice (some ⟨g, 0, none⟩) (n + 70) c) (n + 70) (cellsU8 (zs ++ marks 70)) ∧ Below w.heap.size w w' := by
  obtain ⟨i0, hi, hz0, hz1, hz2⟩ := info_parts Tryd.info5
  go_enter Tryd.func12, Tryd.ntmps12
  go_wp2_with (first
    | (at_builtin; go_must (refine wpList_append_own _ rfl (.tmp 6) (.tmp 7) 25 rfl w.heap.size 5 i0 (.int .u8 0) 1 1 Tryd.underlying25 hi hz0 hz1 hz2 rfl (by decide) _ 0 [] rfl (World.ownsRow_nil _ _ _ _) x n cap (cellsU8 zs) rfl ?_ h1.out (cellsU8_one zs) ?_ ?_ (Nat.le_refl _) ?_)))
  · rw [cellsU8_length, hz.out, Nat.mul_one]
  · unfold maxLen; omega
  · omega
  intro v1 w1 hown hgrow hnil
  have hb0 : Below w.heap.size w w1 := (Below.refl _ _).grown hgrow (Nat.le_refl _) (by intro k hk; cases hk)
  have HB : Hid (Below w.heap.size w w1) := hb0
  clear hgrow hb0 hnil
  go_wp2
  go_loopw [3, 4] (fun v i wr => ∃ k : Nat, k ≤ 70 ∧ i = .int .i64 k ∧ wr.ownsRow w.heap.size 5 1 v (n + k) (cellsU8 (zs ++ marks k)) ∧ Hid (Below w.heap.size w wr)) (fun _ i _ => 70 - (intOf i).toNat)
  case atStart => exact ⟨0, by omega, rfl, by simpa [marks] using hown, HB⟩
  case round =>
    obtain ⟨k, hk, rfl, hown2, HB2⟩ := hrel
    clear hown HB
    by_cases hlt : k < 70
    · go_wp2_with (first
        | (at_builtin; go_must (refine wpList_append_own _ rfl (.tmp 13) (.tmp 17) 25 rfl w.heap.size 5 i0 (.int .u8 0) 1 1 Tryd.underlying25 hi hz0 hz1 hz2 rfl (by decide) _ _ _ rfl (hown2.alloc _) ⟨wr.heap.size, 0, none⟩ 1 1 [.int .u8 (181 + (k : Int))] rfl rfl ?_ ?_ ?_ ?_ ?_ ?_)))
      · intro j u hj
        match j, hj with
        | 0, hj => simp at hj; subst hj; simp [Addr.add]
      · intro u hu; simp at hu; subst hu; rfl
      · unfold maxLen; omega
      · omega
      · have := HB2.out.size; simp; omega
      intro v2 w2 hown3 hgrow2 hnil2
      have HB3 : Hid (Below w.heap.size w w2) := (HB2.out.alloc HB2.out.size _).grown hgrow2 (by have := HB2.out.size; simp; omega) (fun q hq => (hown2.lt q hq).1)
      have ho3 : w2.ownsRow w.heap.size 5 1 v2 (n + (k + 1)) (cellsU8 (zs ++ marks (k + 1))) := by
        rw [marks_succ, ← List.append_assoc, cellsU8_append]
        simpa [cellsU8, Nat.add_assoc] using hown3
      have HO3 : Hid (w2.ownsRow w.heap.size 5 1 v2 (n + (k + 1)) (cellsU8 (zs ++ marks (k + 1)))) := ho3
      clear ho3 hown3 hgrow2 hnil2 hown2 HB2
      go_wp2
      go_roundw
      case rel => exact ⟨k + 1, by omega, by go_num, HO3, HB3⟩
      case measure => simp [intOf]; omega
    · obtain rfl : k = 70 := by omega
      obtain ⟨hlen, hcase⟩ := hown2
      rcases hcase with ⟨_, hc⟩ | ⟨g, c, cur, rfl, hg1, hg2, hg3, hg4, hg5, hg6⟩
      · omega
      have HO : Hid (wr.ownsRow w.heap.size 5 1 (.slice (some ⟨g, 0, none⟩) (n + 70) c) (n + 70) (cellsU8 (zs ++ marks 70))) := ⟨hlen, .inr ⟨g, c, cur, rfl, hg1, hg2, hg3, hg4, hg5, hg6⟩⟩
      clear hlen hg1 hg2 hg5 hg6 hlt
      unfold maxLen at hg4
      go_wp2
      go_ret
      exact ⟨g, c, rfl, HO, HB2⟩
set_option maxHeartbeats 800000 in
set_option maxRecDepth 100000 in
theorem copy_nil (w : World) :
    Calls Tryd.prog 12 #[.slice none 0 0] w fun e w' => ∃ g c, e = .returned (.slice (some ⟨g, 0, none⟩) 0 c) ∧ w'.ownsRow w.heap.size 5 1 (.slice (some ⟨g, 0, none⟩) 70 c) 70 (cellsU8 (marks 70)) ∧ Below w.heap.size w w' := by
  obtain ⟨i0, hi, hz0, hz1, hz2⟩ := info_parts Tryd.info5
  go_enter Tryd.func12, Tryd.ntmps12
  go_wp2_with (first
    | (at_builtin; go_must (refine wpList_append_own_none rfl (.tmp 6) (.tmp 7) 25 rfl w.heap.size 5 i0 1 Tryd.underlying25 hi _ 0 [] rfl (World.ownsRow_nil _ _ _ _) rfl ?_)))
  go_wp2
  go_loopw [3, 4] (fun v i wr => ∃ k : Nat, k ≤ 70 ∧ i = .int .i64 k ∧ wr.ownsRow w.heap.size 5 1 v k (cellsU8 (marks k)) ∧ Hid (Below w.heap.size w wr)) (fun _ i _ => 70 - (intOf i).toNat)
  case atStart => exact ⟨0, by omega, rfl, World.ownsRow_nil _ _ _ _, Below.refl _ _⟩
  case round =>
    obtain ⟨k, hk, rfl, hown2, HB2⟩ := hrel
    by_cases hlt : k < 70
    · go_wp2_with (first
        | (at_builtin; go_must (refine wpList_append_own _ rfl (.tmp 13) (.tmp 17) 25 rfl w.heap.size 5 i0 (.int .u8 0) 1 1 Tryd.underlying25 hi hz0 hz1 hz2 rfl (by decide) _ _ _ rfl (hown2.alloc _) ⟨wr.heap.size, 0, none⟩ 1 1 [.int .u8 (181 + (k : Int))] rfl rfl ?_ ?_ ?_ ?_ ?_ ?_)))
      · intro j u hj
        match j, hj with
        | 0, hj => simp at hj; subst hj; simp [Addr.add]
      · intro u hu; simp at hu; subst hu; rfl
      · unfold maxLen; omega
      · omega
      · have := HB2.out.size; simp; omega
      intro v2 w2 hown3 hgrow2 hnil2
      have HB3 : Hid (Below w.heap.size w w2) := (HB2.out.alloc HB2.out.size _).grown hgrow2 (by have := HB2.out.size; simp; omega) (fun q hq => (hown2.lt q hq).1)
      have ho3 : w2.ownsRow w.heap.size 5 1 v2 (k + 1) (cellsU8 (marks (k + 1))) := by
        rw [marks_succ, cellsU8_append]
        simpa [cellsU8] using hown3
      have HO3 : Hid (w2.ownsRow w.heap.size 5 1 v2 (k + 1) (cellsU8 (marks (k + 1)))) := ho3
      clear ho3 hown3 hgrow2 hnil2 hown2 HB2
      go_wp2
      go_roundw
      case rel => exact ⟨k + 1, by omega, by go_num, HO3, HB3⟩
      case measure => simp [intOf]; omega
    · obtain rfl : k = 70 := by omega
      obtain ⟨hlen, hcase⟩ := hown2
      rcases hcase with ⟨_, hc⟩ | ⟨g, c, cur, rfl, hg1, hg2, hg3, hg4, hg5, hg6⟩
      · omega
      have HO : Hid (wr.ownsRow w.heap.size 5 1 (.slice (some ⟨g, 0, none⟩) 70 c) 70 (cellsU8 (marks 70))) := ⟨hlen, .inr ⟨g, c, cur, rfl, hg1, hg2, hg3, hg4, hg5, hg6⟩⟩
      clear hlen hg1 hg2 hg5 hg6 hlt
      unfold maxLen at hg4
      go_wp2
      go_ret
      exact ⟨g, c, rfl, HO, HB2⟩
end Go.Proofs.YtoanndhaopgkjaaDoor
namespace Go.Proofs.YtoanndhaopgkjaaDoor
open Go.RowKit
set_option linter.unusedVariables false
set_option linter.unusedSimpArgs false
theorem al1 (w : World) (o : Obj) : Below w.heap.size w (w.alloc o) := (Below.refl _ w).alloc (Nat.le_refl _) _
/-- Block g holds the bytes L, and nothing else. -/
def Rw (w : World) (g : Nat) (L : List Int) : Prop := w.heap[g]? = some (.cells (cellsU8 L).toArray 5 (0, 0))
theorem Rw.lt {w : World} {g : Nat} {L : List Int} (h : Rw w g L) : g < w.heap.size := (Array.getElem?_eq_some_iff.1 h).1
theorem Rw.cell {w : World} {g : Nat} {L : List Int} (h : Rw w g L) (i : Nat) (hi : i < L.length) : w.cell? ⟨g, i, none⟩ = some (.int .u8 (L.getD i 0)) := by
  unfold Rw at h
  rw [World.cell?, h]
  simp [cellsU8, List.getD_eq_getElem?_getD, List.getElem?_eq_getElem hi]
theorem Rw.frozen {w : World} {g : Nat} {L : List Int} (h : Rw w g L) (i : Nat) : w.frozen? ⟨g, i, none⟩ = false := by
  unfold Rw at h
  simp [World.frozen?, h]
theorem Rw.same {w w' : World} {g : Nat} {L : List Int} (h : Rw w g L) (hk : w'.heap[g]? = w.heap[g]?) : Rw w' g L := by
  unfold Rw
  rw [hk]
  exact h
theorem Rw.below {w w' : World} {g : Nat} {L : List Int} (h : Rw w g L) (hb : Below w.heap.size w w') : Rw w' g L := h.same (hb.block g h.lt)
theorem Rw.alloc {w : World} {g : Nat} {L : List Int} (h : Rw w g L) (o : Obj) : Rw (w.alloc o) g L := h.below (al1 w o)
theorem Rw.grown {w w' : World} {g : Nat} {L : List Int} (h : Rw w g L) (hg : w.grownBy w' none) : Rw w' g L := h.same (hg.block g h.lt (by simp))
theorem Rw.set {w : World} {g : Nat} {L : List Int} (h : Rw w g L) (i : Nat) (z : Int) : Rw (w.setCell ⟨g, i, none⟩ (.int .u8 z)) g (L.set i z) := by
  unfold Rw at h ⊢
  obtain ⟨hlt, hk⟩ := Array.getElem?_eq_some_iff.1 h
  show (w.heap.modify g _)[g]? = _
  rw [Array.getElem?_eq_getElem (by rw [Array.size_modify]; exact hlt), Array.getElem_modify_self, hk]
  simp [cellsU8, List.map_set]
theorem Rw.owns {w : World} {g : Nat} {L : List Int} (h : Rw w g L) (B : Nat) (hB : B ≤ g) (hl : L.length ≤ maxLen) : w.ownsRow B 5 1 (.slice (some ⟨g, 0, none⟩) L.length L.length) L.length (cellsU8 L) := by
  refine ⟨by rw [cellsU8_length, Nat.mul_one], .inr ⟨g, L.length, (cellsU8 L).toArray, rfl, hB, h, Nat.le_refl _, hl, by simp [cellsU8_length], ?_⟩⟩
  rw [Nat.mul_one, ← cellsU8_length L]
  simp
theorem Rw.view {w : World} {g : Nat} {L : List Int} (h : Rw w g L) (hl : L.length ≤ maxLen) : View w (.slice (some ⟨g, 0, none⟩) L.length L.length) L :=
  ⟨some ⟨g, 0, none⟩, L.length, rfl, Nat.le_refl _, hl, (fun e => by cases e), .inr ⟨g, 0, rfl, fun i hi => by rw [Nat.zero_add]; exact h.cell i hi⟩⟩
theorem made_rw (w : World) (n : Nat) : Rw (w.alloc (.cells (madeCells #[.int .u8 0] n) 5)) w.heap.size (List.replicate n 0) := by
  unfold Rw
  rw [heap_alloc_new]
  congr 2
  apply Array.toList_inj.1
  rw [toList_madeCells_one]
  simp [cellsU8]
theorem und25 : Tryd.prog.underlying 25 = some (.slice 5) := Tryd.underlying25
theorem make_u8 (w : World) (n : Nat) (hn : n ≤ 281474976710656) : (Instr.makeSlice 25 (.int .i64 n) (.int .i64 n)).run Tryd.prog w = .ok (.slice (some ⟨w.heap.size, 0, none⟩) n n) (w.alloc (.cells (madeCells #[.int .u8 0] n) 5)) := by
  obtain ⟨i, hi, hz0, hz1, hz2⟩ := info_parts Tryd.info5
  exact run_make_row (P := Tryd.prog) 25 5 i (.int .u8 0) und25 hi hz0 hz1 rfl .i64 .i64 n (by rw [hz2]; omega) (by omega) w
theorem size5 : (Tryd.prog.info? 5).map (·.size) = some 1 := by kernel_rfl
theorem byteCells_nums (s : ByteArray) : Lib.byteCells s.data.toList = cellsU8 (nums s) := by
  simp [Lib.byteCells, cellsU8, nums]
theorem seg_lay (L : List Int) (o : Nat) (s : List Int) : ((cellsU8 L).toArray.toList.take o ++ cellsU8 s ++ (cellsU8 L).toArray.toList.drop (o + s.length)).toArray = (cellsU8 (layL L o s)).toArray := by
  simp [layL, cellsU8]
/-- copy of a text into a row. -/
theorem copy_str (w : World) (g o l c : Nat) (s : ByteArray) (L : List Int) (ty : TypeId) (h : Rw w g L) (hl : s.size ≤ l) (hf : o + s.size ≤ L.length) :
    ∃ w', (Builtin.copy_ #[25, 9] ty #[.slice (some ⟨g, o, none⟩) l c, .string s]).run Tryd.prog w = .ok (goInt s.size) w' ∧ Rw w' g (layL L o (nums s)) ∧ w.grownBy w' (some g) := by
  have hr := Lib.run_copy_row_string (P := Tryd.prog) w 25 9 ty 5 g o l c s (cellsU8 L).toArray 5 und25 size5 h hl (by simpa [cellsU8_length] using hf)
  rw [byteCells_nums, ← nums_length, seg_lay] at hr
  rw [← nums_length]
  exact ⟨_, hr, setRow_heap w g _ _ 5 (0, 0) h, rfl, rfl, rfl, by simp, fun k _ hk => setRow_other w g k _ (fun e => hk (by rw [e]))⟩
/-- copy of bytes into a row. -/
theorem copy_bytes (w : World) (g o l c : Nat) (a : Nat) (n : Nat) (c2 : Nat) (z : List Int) (L : List Int) (ty : TypeId) (h : Rw w g L) (hz : ∀ i, i < z.length → w.cell? ⟨a, i, none⟩ = some (.int .u8 (z.getD i 0))) (hn : z.length = n) (hl : z.length ≤ l) (hf : o + z.length ≤ L.length) :
    ∃ w', (Builtin.copy_ #[25, 25] ty #[.slice (some ⟨g, o, none⟩) l c, .slice (some ⟨a, 0, none⟩) n c2]).run Tryd.prog w = .ok (goInt n) w' ∧ Rw w' g (layL L o z) ∧ w.grownBy w' (some g) := by
  have hmin : Nat.min n l = z.length := by rw [← hn]; exact Nat.min_eq_left hl
  have hr := run_copy_row (P := Tryd.prog) w 25 25 ty 5 g o l c ⟨a, 0, none⟩ n c2 (cellsU8 L).toArray 5 (cellsU8 z) und25 size5 h (by rw [cellsU8_length, hmin])
    (fun j v hv => by
      have := cellsU8_at z w a 0 (fun i hi => by rw [Nat.zero_add]; exact hz i hi) j v hv
      exact this) (by simpa [cellsU8_length] using hf) (cellsU8_one z)
  rw [cellsU8_length, seg_lay, hn] at hr
  exact ⟨_, hr, setRow_heap w g _ _ 5 (0, 0) h, rfl, rfl, rfl, by simp, fun k _ hk => setRow_other w g k _ (fun e => hk (by rw [e]))⟩
end Go.Proofs.YtoanndhaopgkjaaDoor
namespace Go.Proofs.YtoanndhaopgkjaaDoor
open Go.RowKit
set_option linter.unusedVariables false
set_option linter.unusedSimpArgs false
def textB (n : Int) : Bool := n == 5 || n == 8 || n == 9
set_option maxRecDepth 100000 in
theorem isText_ok (n a s y : Int) (w : World) :
    Calls Tryd.prog 33 #[.agg #[.int .i64 n, .int .i64 a, .int .i64 s, .int .i64 y]] w fun e w' => e = .returned (.bool (textB n)) ∧ Below w.heap.size w w' := by
  by_cases h5 : n = 5
  · have d5 : (n == 5) = true := by simp [h5]
    have HR : Hid (textB n = true) := by show textB n = true; simp [textB, h5]
    clear h5
    go_enter Tryd.func33, Tryd.ntmps33
    go_wp2
    go_ret
    exact ⟨congrArg (fun b => Ending.returned (.bool b)) HR.out.symm, al1 w _⟩
  by_cases h8 : n = 8
  · have d5 : (n == 5) = false := by simp [h8]
    have d8 : (n == 8) = true := by simp [h8]
    have HR : Hid (textB n = true) := by show textB n = true; simp [textB, h8]
    clear h8 h5
    go_enter Tryd.func33, Tryd.ntmps33
    go_wp2
    go_ret
    exact ⟨congrArg (fun b => Ending.returned (.bool b)) HR.out.symm, al1 w _⟩
  · have d5 : (n == 5) = false := by simp [h5]
    have d8 : (n == 8) = false := by simp [h8]
    have HR : Hid (textB n = (n == 9)) := by show textB n = (n == 9); simp [textB, d5, d8]
    clear h8 h5
    go_enter Tryd.func33, Tryd.ntmps33
    go_wp2
    go_ret
    exact ⟨congrArg (fun b => Ending.returned (.bool b)) HR.out.symm, al1 w _⟩
set_option maxRecDepth 100000 in
theorem of_ok (n y : Int) (a s : Nat) (b o N c : Nat) (w : World) (h1 : a + s ≤ N) (h2 : N ≤ c) (h3 : a < c) (h4 : a + s ≤ 4194304) :
    Calls Tryd.prog 36 #[.agg #[.int .i64 n, .int .i64 a, .int .i64 s, .int .i64 y], .slice (some ⟨b, o, none⟩) N c] w fun e w' => e = .returned (.slice (some ⟨b, o + a, none⟩) s (c - a)) ∧ Below w.heap.size w w' := by
  have e1 : IntKind.i64.wrap ((a : Int) + (s : Int)) = ((a + s : Nat) : Int) := by rw [IntKind.wrap_i64]; omega
  go_enter Tryd.func36, Tryd.ntmps36
  go_wp2
  go_ret
  refine ⟨?_, al1 w _⟩
  rw [Nat.add_sub_cancel_left]
  rfl
set_option maxRecDepth 100000 in
theorem start_ok (c : Hc) (w : World) :
    Calls Tryd.prog 51 #[c.val] w fun e w' => e = .returned (.int .i64 c.start) ∧ Below w.heap.size w w' := by
  obtain ⟨sec, hd, sq, l1, l2, l3, l4, l5⟩ := c
  unfold Hc.val Hc.cells Hc.start
  cases sec
  · go_enter Tryd.func51, Tryd.ntmps51
    go_wp2
    go_ret
    exact ⟨rfl, al1 w _⟩
  · go_enter Tryd.func51, Tryd.ntmps51
    go_wp2
    go_ret
    exact ⟨rfl, al1 w _⟩

/-- The bytes behind k turns of spell. -/
def spK (x : Int) (n k : Nat) : List Int := (List.range n).map fun j => if n - k ≤ j then x / 256 ^ (n - 1 - j) % 256 else 0
theorem spK_length (x : Int) (n k : Nat) : (spK x n k).length = n := by simp [spK]
theorem spK_zero (x : Int) (n : Nat) : spK x n 0 = List.replicate n 0 := by
  apply List.ext_getElem (by simp [spK])
  intro i h1 h2
  simp [spK] at h1 ⊢
  omega
theorem spK_all (x : Int) (n : Nat) : spK x n n = beL x n := by
  simp [spK, beL]
theorem spK_succ (x : Int) (n k : Nat) (h : k < n) : (spK x n k).set (n - 1 - k) (x / 256 ^ k % 256) = spK x n (k + 1) := by
  apply List.ext_getElem (by simp [spK])
  intro i h1 h2
  simp [spK] at h1 h2 ⊢
  rw [List.getElem_set]
  by_cases e : n - 1 - k = i
  · rw [if_pos e, if_pos (by omega)]
    congr 3
    omega
  · rw [if_neg e]
    simp
    by_cases c : n - k ≤ i
    · rw [if_pos (by omega), if_pos (by omega)]
    · rw [if_neg (by omega), if_neg (by omega)]
theorem shr_u64 (x : Int) (k : Nat) (h0 : 0 ≤ x) (h1 : x < 18446744073709551616) (hk : k < 8) : x / 2 ^ (8 * k) % 256 = x / 256 ^ k % 256 := by
  rw [Int.pow_mul]
  rfl
theorem strOfNums_eq (L : List Int) : strOfNums L = strB L := by
  unfold strOfNums strB
  simp
theorem conv_row (w : World) (g n : Nat) (L : List Int) (h : Rw w g L) (hn : L.length = n) :
    (convert 25 9 (.slice (some ⟨g, 0, none⟩) n n)).run Tryd.prog w = .ok (.string (strB L)) w := by
  rw [← strOfNums_eq]
  exact run_convert_bytes_arg w 25 5 Tryd.underlying25 Tryd.underlying5 g 0 n n L hn (fun i hi => by rw [Nat.zero_add]; exact h.cell i (by omega)) 9 Tryd.underlying9
set_option maxRecDepth 100000 in
theorem spell_ok (x : Int) (n : Nat) (w : World) (h0 : 0 ≤ x) (h1 : x < 18446744073709551616) (hn : n ≤ 8) (hn1 : 0 < n) :
    Calls Tryd.prog 50 #[.int .u64 x, .int .i64 n] w fun e w' => e = .returned (.string (strB (beL x n))) ∧ Below w.heap.size w w' := by
  have mk := make_u8 w n (by omega)
  have HR : Hid (Rw (w.alloc (.cells (madeCells #[.int .u8 0] n) 5)) w.heap.size (spK x n 0) ∧ Below w.heap.size w (w.alloc (.cells (madeCells #[.int .u8 0] n) 5))) := by
    refine ⟨?_, al1 w _⟩
    rw [spK_zero]
    exact made_rw w n
  generalize (w.alloc (.cells (madeCells #[.int .u8 0] n) 5)) = wA at mk HR
  go_enter Tryd.func50, Tryd.ntmps50
  go_wp2
  clear mk
  go_loopw [11] (fun vi wr => ∃ k : Nat, vi = .int .i64 (k : Nat) ∧ k ≤ n ∧ Hid (Rw wr w.heap.size (spK x n k) ∧ Below w.heap.size w wr)) (fun vi _ => n - (intOf vi).toNat)
  case atStart => exact ⟨0, rfl, by omega, HR⟩
  case round =>
    obtain ⟨k, rfl, hk, HK⟩ := hrel
    clear HR
    by_cases hlt : k < n
    · have e1 : IntKind.i64.wrap ((n : Int) - 1) = ((n - 1 : Nat) : Int) := by rw [IntKind.wrap_i64]; omega
      have e2 : IntKind.i64.wrap (((n - 1 : Nat) : Int) - (k : Int)) = ((n - 1 - k : Nat) : Int) := by rw [IntKind.wrap_i64]; omega
      have f0 : wr.frozen? ⟨w.heap.size, n - 1 - k, none⟩ = false := HK.out.1.frozen _
      have c0 : wr.cell? ⟨w.heap.size, n - 1 - k, none⟩ = some (.int .u8 ((spK x n k).getD (n - 1 - k) 0)) := HK.out.1.cell _ (by rw [spK_length]; omega)
      go_wp2
      refine ⟨⟨k + 1, by simp, by omega, ?_, HK.out.2.setCell (Nat.le_refl _) _⟩, by simp [intOf]; omega⟩
      have q := HK.out.1.set (n - 1 - k) (x / 256 ^ k % 256)
      rw [spK_succ x n k hlt] at q
      rw [shr_u64 x k h0 h1 (by omega)]
      exact q
    · have hkn : k = n := by omega
      have HK2 : Hid (Rw wr w.heap.size (beL x n) ∧ Below w.heap.size w wr) := by
        have q := HK.out
        rw [hkn, spK_all] at q
        exact q
      have cv := conv_row wr w.heap.size n (beL x n) HK2.out.1 (beL_length x n)
      clear hkn HK
      go_wp2
      go_ret
      exact ⟨rfl, HK2.out.2⟩
end Go.Proofs.YtoanndhaopgkjaaDoor
namespace Go.Proofs.YtoanndhaopgkjaaDoor
open Go.RowKit
set_option linter.unusedVariables false
set_option linter.unusedSimpArgs false
theorem ret_str {a b : ByteArray} (h : a = b) : Ending.returned (.string a) = .returned (.string b) := by rw [h]
theorem wrapU (x : Int) (h0 : 0 ≤ x) (h1 : x < 18446744073709551616) : IntKind.u64.wrap x = x := by rw [IntKind.wrap_u64]; omega
theorem box_start (c : Hc) (w : World) : Calls Tryd.prog 51 #[.agg #[.bool c.second, .int .i64 c.head, .int .u64 c.seq, .string c.label, .string c.sub, .string c.uuid, .string c.salt, .string c.text]] w fun e w' => e = .returned (.int .i64 c.start) ∧ Below w.heap.size w w' := start_ok c w
set_option maxRecDepth 100000 in
theorem told_0 (c : Hc) (w : World) (h0 : 0 ≤ c.head) (h1 : c.head ≤ 4194304) (h2 : 0 ≤ c.seq) (h3 : c.seq < 18446744073709551616) :
    Calls Tryd.prog 35 #[.int .i64 0, c.val] w fun e w' => e = .returned (.string (strB (toldL 0 c))) ∧ Below w.heap.size w w' := by
  obtain ⟨sec, hd, sq, l1, l2, l3, l4, l5⟩ := c
  unfold Hc.val Hc.cells
  cases sec
  all_goals
    go_enter Tryd.func35, Tryd.ntmps35
    go_wp2
    go_ret
    exact ⟨ret_str rfl, al1 w _⟩
set_option maxRecDepth 100000 in
theorem told_1 (c : Hc) (w : World) (h0 : 0 ≤ c.head) (h1 : c.head ≤ 4194304) (h2 : 0 ≤ c.seq) (h3 : c.seq < 18446744073709551616) :
    Calls Tryd.prog 35 #[.int .i64 1, c.val] w fun e w' => e = .returned (.string (strB (toldL 1 c))) ∧ Below w.heap.size w w' := by
  have hw0 := wrapU c.head h0 (by omega)
  unfold Hc.val Hc.cells
  simp only [List.toArray]
  go_enter Tryd.func35, Tryd.ntmps35
  go_wp2_with (first
    | (go_at_call 50; refine (spell_ok 2 2 _ (by decide) (by decide) (by decide) (by decide)).mono ?_; rintro e w1 ⟨rfl, hb⟩))
  go_ret
  exact ⟨rfl, (al1 w _).trans (hb.mono (by simp))⟩
set_option maxRecDepth 100000 in
theorem told_2 (c : Hc) (w : World) (h0 : 0 ≤ c.head) (h1 : c.head ≤ 4194304) (h2 : 0 ≤ c.seq) (h3 : c.seq < 18446744073709551616) :
    Calls Tryd.prog 35 #[.int .i64 2, c.val] w fun e w' => e = .returned (.string (strB (toldL 2 c))) ∧ Below w.heap.size w w' := by
  have hw0 := wrapU c.head h0 (by omega)
  unfold Hc.val Hc.cells
  simp only [List.toArray]
  go_enter Tryd.func35, Tryd.ntmps35
  go_wp2_with (first
    | (go_at_call 50; refine (spell_ok c.head 8 _ h0 (by omega) (by decide) (by decide)).mono ?_; rintro e w1 ⟨rfl, hb⟩))
  go_ret
  exact ⟨rfl, (al1 w _).trans (hb.mono (by simp))⟩
set_option maxRecDepth 100000 in
theorem told_4 (c : Hc) (w : World) (h0 : 0 ≤ c.head) (h1 : c.head ≤ 4194304) (h2 : 0 ≤ c.seq) (h3 : c.seq < 18446744073709551616) :
    Calls Tryd.prog 35 #[.int .i64 4, c.val] w fun e w' => e = .returned (.string (strB (toldL 4 c))) ∧ Below w.heap.size w w' := by
  have hw0 := wrapU c.head h0 (by omega)
  unfold Hc.val Hc.cells
  simp only [List.toArray]
  go_enter Tryd.func35, Tryd.ntmps35
  go_wp2_with (first
    | (go_at_call 50; refine (spell_ok c.seq 8 _ h2 h3 (by decide) (by decide)).mono ?_; rintro e w1 ⟨rfl, hb⟩))
  go_ret
  exact ⟨rfl, (al1 w _).trans (hb.mono (by simp))⟩
set_option maxRecDepth 100000 in
theorem told_5 (c : Hc) (w : World) (h0 : 0 ≤ c.head) (h1 : c.head ≤ 4194304) (h2 : 0 ≤ c.seq) (h3 : c.seq < 18446744073709551616) :
    Calls Tryd.prog 35 #[.int .i64 5, c.val] w fun e w' => e = .returned (.string (strB (toldL 5 c))) ∧ Below w.heap.size w w' := by
  unfold Hc.val Hc.cells
  simp only [List.toArray]
  go_enter Tryd.func35, Tryd.ntmps35
  go_wp2
  go_ret
  exact ⟨ret_str (strB_nums c.label).symm, al1 w _⟩
set_option maxRecDepth 100000 in
theorem told_7 (c : Hc) (w : World) (h0 : 0 ≤ c.head) (h1 : c.head ≤ 4194304) (h2 : 0 ≤ c.seq) (h3 : c.seq < 18446744073709551616) :
    Calls Tryd.prog 35 #[.int .i64 7, c.val] w fun e w' => e = .returned (.string (strB (toldL 7 c))) ∧ Below w.heap.size w w' := by
  unfold Hc.val Hc.cells
  simp only [List.toArray]
  go_enter Tryd.func35, Tryd.ntmps35
  go_wp2
  go_ret
  exact ⟨ret_str (strB_nums c.salt).symm, al1 w _⟩
set_option maxRecDepth 100000 in
theorem told_8 (c : Hc) (w : World) (h0 : 0 ≤ c.head) (h1 : c.head ≤ 4194304) (h2 : 0 ≤ c.seq) (h3 : c.seq < 18446744073709551616) :
    Calls Tryd.prog 35 #[.int .i64 8, c.val] w fun e w' => e = .returned (.string (strB (toldL 8 c))) ∧ Below w.heap.size w w' := by
  unfold Hc.val Hc.cells
  simp only [List.toArray]
  go_enter Tryd.func35, Tryd.ntmps35
  go_wp2
  go_ret
  exact ⟨ret_str (strB_nums c.uuid).symm, al1 w _⟩
set_option maxRecDepth 100000 in
theorem told_9 (c : Hc) (w : World) (h0 : 0 ≤ c.head) (h1 : c.head ≤ 4194304) (h2 : 0 ≤ c.seq) (h3 : c.seq < 18446744073709551616) :
    Calls Tryd.prog 35 #[.int .i64 9, c.val] w fun e w' => e = .returned (.string (strB (toldL 9 c))) ∧ Below w.heap.size w w' := by
  unfold Hc.val Hc.cells
  simp only [List.toArray]
  go_enter Tryd.func35, Tryd.ntmps35
  go_wp2
  go_ret
  exact ⟨ret_str (strB_nums c.sub).symm, al1 w _⟩
set_option maxRecDepth 100000 in
theorem told_6 (c : Hc) (w : World) (h0 : 0 ≤ c.head) (h1 : c.head ≤ 4194304) (h2 : 0 ≤ c.seq) (h3 : c.seq < 18446744073709551616) :
    Calls Tryd.prog 35 #[.int .i64 6, c.val] w fun e w' => e = .returned (.string (strB (toldL 6 c))) ∧ Below w.heap.size w w' := by
  unfold Hc.val Hc.cells
  simp only [List.toArray]
  go_enter Tryd.func35, Tryd.ntmps35
  go_wp2
  go_ret
  exact ⟨ret_str rfl, al1 w _⟩
set_option maxRecDepth 100000 in
theorem told_3 (c : Hc) (w : World) (h0 : 0 ≤ c.head) (h1 : c.head ≤ 4194304) (h2 : 0 ≤ c.seq) (h3 : c.seq < 18446744073709551616) :
    Calls Tryd.prog 35 #[.int .i64 3, c.val] w fun e w' => e = .returned (.string (strB (toldL 3 c))) ∧ Below w.heap.size w w' := by
  unfold Hc.val Hc.cells
  simp only [List.toArray]
  go_enter Tryd.func35, Tryd.ntmps35
  go_wp2
  go_ret
  exact ⟨ret_str rfl, al1 w _⟩
set_option maxRecDepth 100000 in
theorem told_11 (c : Hc) (w : World) (h0 : 0 ≤ c.head) (h1 : c.head ≤ 4194304) (h2 : 0 ≤ c.seq) (h3 : c.seq < 18446744073709551616) :
    Calls Tryd.prog 35 #[.int .i64 11, c.val] w fun e w' => e = .returned (.string (strB (toldL 11 c))) ∧ Below w.heap.size w w' := by
  unfold Hc.val Hc.cells
  simp only [List.toArray]
  go_enter Tryd.func35, Tryd.ntmps35
  go_wp2
  go_ret
  exact ⟨ret_str rfl, al1 w _⟩
set_option maxRecDepth 100000 in
theorem told_10 (c : Hc) (w : World) (h0 : 0 ≤ c.head) (h1 : c.head ≤ 4194304) (h2 : 0 ≤ c.seq) (h3 : c.seq < 18446744073709551616) :
    Calls Tryd.prog 35 #[.int .i64 10, c.val] w fun e w' => e = .returned (.string (strB (toldL 10 c))) ∧ Below w.heap.size w w' := by
  have hs0 : 0 ≤ c.start := by unfold Hc.start; split <;> omega
  have hs1 : c.start ≤ 4194304 := by unfold Hc.start; split <;> omega
  have hw0 := wrapU c.start hs0 (by omega)
  unfold Hc.val Hc.cells
  simp only [List.toArray]
  go_enter Tryd.func35, Tryd.ntmps35
  go_wp2_with (go_at_call 51; refine (box_start c _).mono ?_; rintro e0 w0 ⟨rfl, hb0⟩)
  go_wp2_with (go_at_call 50; refine (spell_ok c.start 8 _ hs0 (by omega) (by decide) (by decide)).mono ?_; rintro e w1 ⟨rfl, hb⟩)
  go_ret
  exact ⟨rfl, ((al1 w _).trans (hb0.mono (by simp))).trans (hb.mono (by have := hb0.size; simp at this; omega))⟩
/-- told of any field. -/
theorem told_ok (k : Nat) (hk : k < 13) (c : Hc) (w : World) (h0 : 0 ≤ c.head) (h1 : c.head ≤ 4194304) (h2 : 0 ≤ c.seq) (h3 : c.seq < 18446744073709551616) :
    Calls Tryd.prog 35 #[.int .i64 (fldN k : Nat), c.val] w fun e w' => e = .returned (.string (strB (toldL (fldN k) c))) ∧ Below w.heap.size w w' := by
  match k, hk with
  | 0, _ => exact told_0 c w h0 h1 h2 h3
  | 1, _ => exact told_1 c w h0 h1 h2 h3
  | 2, _ => exact told_2 c w h0 h1 h2 h3
  | 3, _ => exact told_3 c w h0 h1 h2 h3
  | 4, _ => exact told_4 c w h0 h1 h2 h3
  | 5, _ => exact told_5 c w h0 h1 h2 h3
  | 6, _ => exact told_6 c w h0 h1 h2 h3
  | 7, _ => exact told_7 c w h0 h1 h2 h3
  | 8, _ => exact told_8 c w h0 h1 h2 h3
  | 9, _ => exact told_9 c w h0 h1 h2 h3
  | 10, _ => exact told_10 c w h0 h1 h2 h3
  | 11, _ => exact told_11 c w h0 h1 h2 h3
  | 12, _ => exact told_11 c w h0 h1 h2 h3
end Go.Proofs.YtoanndhaopgkjaaDoor
namespace Go.Proofs.YtoanndhaopgkjaaDoor
variable {P : Program} {ops : Array Oper} {Q : Exit → Act → World → Prop} {md : Region.Mode}

/-- An operation that yields in whatever world is taken first; its slot is written out. -/
theorem take_at (i d : Nat) (v : Value) {oi : Oper} {fuel : Nat} {listed : Array Bool} {tmps : Array Value} {ds : List Deferred} {w : World} (hi : ops[i]? = some oi) (hd : oi.dst = some d)
    (hs : Region.noSelect ops = true) (hf : Region.free md ops listed i = true) (hr : (Region.ready md ops listed).contains i = true)
    (hQ : ∀ c a w, Q (.panic c) (a.put oi.dst v) w → Q (.panic c) a w) (hy : Yields P ops oi v ⟨tmps, ds⟩)
    (h : wpAny P md ops Q fuel (listed.setIfInBounds i true) ⟨tmps.setIfInBounds d v, ds⟩ w) : wpAny P md ops Q (fuel + 1) listed ⟨tmps, ds⟩ w := by
  refine wpAny_take hi hs hf hr hQ hy ?_
  rw [hd]
  exact h
variable {S : World → Prop}
/-- The same under what every world of the region meets. -/
theorem takeH_at (i d : Nat) (v : Value) {oi : Oper} {fuel : Nat} {listed : Array Bool} {tmps : Array Value} {ds : List Deferred} {w : World} (hi : ops[i]? = some oi) (hd : oi.dst = some d)
    (hs : Region.noSelect ops = true) (hf : Region.free md ops listed i = true) (hr : (Region.ready md ops listed).contains i = true)
    (hQ : ∀ c a w, Q (.panic c) (a.put oi.dst v) w → Q (.panic c) a w) (hS : S w) (hy : YieldsIf P ops S oi v ⟨tmps, ds⟩)
    (h : wpAnyH P md ops Q S fuel (listed.setIfInBounds i true) ⟨tmps.setIfInBounds d v, ds⟩ w) : wpAnyH P md ops Q S (fuel + 1) listed ⟨tmps, ds⟩ w := by
  refine wpAnyH_take hi hs hf hr hQ hy hS ?_
  rw [hd]
  exact h
end Go.Proofs.YtoanndhaopgkjaaDoor
namespace Go.Proofs.YtoanndhaopgkjaaDoor
open Go.RowKit
variable {P : Program}

/-- A new variable of a great type: its zero cells are handed in. -/
theorem wpList_alloc_big {ops : Array Oper} {rest : List Oper} {op : Oper} {a : Act} {w : World} {Q : Exit → Act → World → Prop} (hgd : op.guard = none) (ty : TypeId) (ho : op.op = .alloc ty)
    (cells : Array Value) (hz : ((P.info? ty).bind (·.zero)).map (·.cells) = some cells) (B : Nat) (hB : w.heap.size = B)
    (h : wpList P ops Q rest (a.put op.dst (.pointer (some ⟨B, 0, none⟩))) (w.alloc (.cells cells ty))) : wpList P ops Q (op :: rest) a w := by
  subst hB
  refine wpList_plain hgd fun K hK => ?_
  cases hi : P.info? ty with
  | none => simp [hi] at hz
  | some i =>
    cases hzz : i.zero with
    | none => simp [hi, hzz] at hz
    | some z =>
      have hc : z.cells = cells := by simpa [hi, hzz] using hz
      have hrun : (Instr.alloc ty true (.tuple #[])).run P w = .ok (.pointer (some ⟨w.heap.size, 0, none⟩)) (w.alloc (.cells cells ty)) := by
        simp [Instr.alloc, zeroValue, typeInfo, hi, hzz, newVar, newRow, hc]
      unfold Oper.wp execOp
      simp only [ho, Sem.run_bind, hrun, Result.andThen_ok, Sem.run_pure]
      exact hK _ _ h

/-- A great value that is built. -/
theorem wpList_build_big {ops : Array Oper} {rest : List Oper} {op : Oper} {a : Act} {w : World} {Q : Exit → Act → World → Prop} (hgd : op.guard = none) (ty : TypeId) (parts : Array (Nat × Operand)) (ho : op.op = .build ty parts)
    (cells : Array Value) (hb : P.built ty (parts.map fun (i, x) => (i, a.eval x)).toList = some cells)
    (h : wpList P ops Q rest (a.put op.dst (.agg cells)) w) : wpList P ops Q (op :: rest) a w := by
  refine wpList_plain hgd fun K hK => ?_
  have hrun := run_build (P := P) w ty (parts.map fun (i, x) => (i, a.eval x)) cells hb
  unfold Oper.wp execOp
  simp only [ho, Sem.run_bind, hrun, Result.andThen_ok, Sem.run_pure]
  exact hK _ _ h

theorem size_setCells (b : Nat) : ∀ (vs : List Value) (o : Nat) (w : World), (w.setCells b o vs).heap.size = w.heap.size
  | [], _, _ => rfl
  | v :: r, o, w => by rw [World.setCells, size_setCells b r (o + 1)]; simp [World.setCell]
theorem below_setCells (b : Nat) {B : Nat} (hB : B ≤ b) {a : World} : ∀ (vs : List Value) (o : Nat) (w : World), Below B a w → Below B a (w.setCells b o vs)
  | [], _, _, h => h
  | v :: r, o, w, h => by rw [World.setCells]; exact below_setCells b hB r (o + 1) _ (h.setCell hB _)
theorem rangeAt_new (w : World) (C : Array Value) (t : TypeId) : (w.alloc (.cells C t)).rangeAt w.heap.size 0 C.toList := fun j v hv => by
  rw [World.cell?_alloc_at C t _ _ rfl]
  simpa using hv
theorem there_new (w : World) (C : Array Value) (t : TypeId) (n : Nat) (hn : n ≤ C.size) : (w.alloc (.cells C t)).there w.heap.size 0 n := fun j hj => by
  refine ⟨?_, World.frozen?_alloc_at C t _ _ rfl⟩
  rw [World.cell?_alloc_at C t _ _ rfl]
  simp
  omega
end Go.Proofs.YtoanndhaopgkjaaDoor
namespace Go.Proofs.YtoanndhaopgkjaaDoor
open Go.RowKit
set_option linter.unusedVariables false
set_option linter.unusedSimpArgs false
/-- The table fields, as it lies. -/
def fldL : List Value := [.int .i64 0, .int .i64 0, .int .i64 6, .int .i64 81, .int .i64 1, .int .i64 6, .int .i64 2, .int .i64 82, .int .i64 2, .int .i64 8, .int .i64 8, .int .i64 83, .int .i64 3, .int .i64 448, .int .i64 32, .int .i64 84, .int .i64 4, .int .i64 16, .int .i64 8, .int .i64 85, .int .i64 5, .int .i64 24, .int .i64 48, .int .i64 85, .int .i64 6, .int .i64 72, .int .i64 32, .int .i64 85, .int .i64 7, .int .i64 104, .int .i64 64, .int .i64 85, .int .i64 8, .int .i64 168, .int .i64 40, .int .i64 85, .int .i64 9, .int .i64 208, .int .i64 48, .int .i64 85, .int .i64 10, .int .i64 256, .int .i64 8, .int .i64 85, .int .i64 11, .int .i64 264, .int .i64 184, .int .i64 85, .int .i64 11, .int .i64 480, .int .i64 3616, .int .i64 85]
def FT (w : World) : Prop := w.rangeAt 0 0 fldL
theorem FT.lt {w : World} (h : FT w) : 0 < w.heap.size := World.block_lt_of_cell? w _ (h 0 (.int .i64 0) rfl)
theorem FT.below {w v : World} {B : Nat} (h : FT w) (hb : Below B w v) (hB : 0 < B) : FT v := fun j x hj => by
  rw [World.cell?_of_block (w := w) (hb.block 0 hB)]
  exact h j x hj
theorem size62 : (Tryd.prog.info? 62).map (·.size) = some fldL.length := by kernel_rfl
/-- A field as a struct. -/
def fldV (k : Nat) : List Value := [.int .i64 (fldN k : Nat), .int .i64 (fldA k : Nat), .int .i64 (fldS k : Nat), .int .i64 (fldE k : Nat)]
set_option maxRecDepth 100000 in
theorem fld_0 (u : World) : (Instr.index 62 (.agg fldL.toArray) (.int .i64 0)).run Tryd.prog u = .ok (.agg (fldV 0).toArray) u := by kernel_rfl
set_option maxRecDepth 100000 in
theorem fld_1 (u : World) : (Instr.index 62 (.agg fldL.toArray) (.int .i64 1)).run Tryd.prog u = .ok (.agg (fldV 1).toArray) u := by kernel_rfl
set_option maxRecDepth 100000 in
theorem fld_2 (u : World) : (Instr.index 62 (.agg fldL.toArray) (.int .i64 2)).run Tryd.prog u = .ok (.agg (fldV 2).toArray) u := by kernel_rfl
set_option maxRecDepth 100000 in
theorem fld_3 (u : World) : (Instr.index 62 (.agg fldL.toArray) (.int .i64 3)).run Tryd.prog u = .ok (.agg (fldV 3).toArray) u := by kernel_rfl
set_option maxRecDepth 100000 in
theorem fld_4 (u : World) : (Instr.index 62 (.agg fldL.toArray) (.int .i64 4)).run Tryd.prog u = .ok (.agg (fldV 4).toArray) u := by kernel_rfl
set_option maxRecDepth 100000 in
theorem fld_5 (u : World) : (Instr.index 62 (.agg fldL.toArray) (.int .i64 5)).run Tryd.prog u = .ok (.agg (fldV 5).toArray) u := by kernel_rfl
set_option maxRecDepth 100000 in
theorem fld_6 (u : World) : (Instr.index 62 (.agg fldL.toArray) (.int .i64 6)).run Tryd.prog u = .ok (.agg (fldV 6).toArray) u := by kernel_rfl
set_option maxRecDepth 100000 in
theorem fld_7 (u : World) : (Instr.index 62 (.agg fldL.toArray) (.int .i64 7)).run Tryd.prog u = .ok (.agg (fldV 7).toArray) u := by kernel_rfl
set_option maxRecDepth 100000 in
theorem fld_8 (u : World) : (Instr.index 62 (.agg fldL.toArray) (.int .i64 8)).run Tryd.prog u = .ok (.agg (fldV 8).toArray) u := by kernel_rfl
set_option maxRecDepth 100000 in
theorem fld_9 (u : World) : (Instr.index 62 (.agg fldL.toArray) (.int .i64 9)).run Tryd.prog u = .ok (.agg (fldV 9).toArray) u := by kernel_rfl
set_option maxRecDepth 100000 in
theorem fld_10 (u : World) : (Instr.index 62 (.agg fldL.toArray) (.int .i64 10)).run Tryd.prog u = .ok (.agg (fldV 10).toArray) u := by kernel_rfl
set_option maxRecDepth 100000 in
theorem fld_11 (u : World) : (Instr.index 62 (.agg fldL.toArray) (.int .i64 11)).run Tryd.prog u = .ok (.agg (fldV 11).toArray) u := by kernel_rfl
set_option maxRecDepth 100000 in
theorem fld_12 (u : World) : (Instr.index 62 (.agg fldL.toArray) (.int .i64 12)).run Tryd.prog u = .ok (.agg (fldV 12).toArray) u := by kernel_rfl
theorem fld_at (k : Nat) (hk : k < 13) (u : World) : (Instr.index 62 (.agg fldL.toArray) (.int .i64 (k : Nat))).run Tryd.prog u = .ok (.agg (fldV k).toArray) u := by
  match k, hk with
  | 0, _ => exact fld_0 u
  | 1, _ => exact fld_1 u
  | 2, _ => exact fld_2 u
  | 3, _ => exact fld_3 u
  | 4, _ => exact fld_4 u
  | 5, _ => exact fld_5 u
  | 6, _ => exact fld_6 u
  | 7, _ => exact fld_7 u
  | 8, _ => exact fld_8 u
  | 9, _ => exact fld_9 u
  | 10, _ => exact fld_10 u
  | 11, _ => exact fld_11 u
  | 12, _ => exact fld_12 u
theorem Hc.val_eq (c : Hc) : c.val = .agg #[.bool c.second, .int .i64 c.head, .int .u64 c.seq, .string c.label, .string c.sub, .string c.uuid, .string c.salt, .string c.text] := rfl
theorem Hc.cells_eq (c : Hc) : c.cells.toArray = #[.bool c.second, .int .i64 c.head, .int .u64 c.seq, .string c.label, .string c.sub, .string c.uuid, .string c.salt, .string c.text] := rfl
theorem headB_wrap (n : Int) (h0 : -9223372036854775808 ≤ n) (h1 : n < 9223372036854775808) : headB (IntKind.u64.wrap n) = headB n := by
  rw [IntKind.wrap_u64]
  by_cases h : 0 ≤ n
  · rw [Int.emod_eq_of_lt h (by omega)]
  · have e : n % 18446744073709551616 = n + 18446744073709551616 := by omega
    rw [e]
    simp only [headB]
    rw [Bool.eq_iff_iff]
    simp
    omega
/-- All texts of the first k fields fit. -/
def FitK (c : Hc) (k : Nat) : Prop := ∀ j, j < k → textB (fldN j : Nat) = true → plainB (strB (toldL (fldN j) c)) (fldS j : Nat) = true
theorem FitK.all {c : Hc} : FitK c 13 ↔ plainB c.label 48 = true ∧ plainB c.uuid 40 = true ∧ plainB c.sub 48 = true := by
  have e5 : strB (toldL (fldN 5) c) = c.label := strB_nums _
  have e8 : strB (toldL (fldN 8) c) = c.uuid := strB_nums _
  have e9 : strB (toldL (fldN 9) c) = c.sub := strB_nums _
  constructor
  · intro h
    refine ⟨?_, ?_, ?_⟩
    · have q := h 5 (by decide) (by decide); rw [e5] at q; exact q
    · have q := h 8 (by decide) (by decide); rw [e8] at q; exact q
    · have q := h 9 (by decide) (by decide); rw [e9] at q; exact q
  · rintro ⟨h1, h2, h3⟩ j hj ht
    match j, hj with
    | 5, _ => rw [e5]; exact h1
    | 8, _ => rw [e8]; exact h2
    | 9, _ => rw [e9]; exact h3
    | 0, _ | 1, _ | 2, _ | 3, _ | 4, _ | 6, _ | 7, _ | 10, _ | 11, _ | 12, _ => exact absurd ht (by decide)
theorem FitK.not {c : Hc} {j : Nat} (hj : j < 13) (ht : textB (fldN j : Nat) = true) (h : plainB (strB (toldL (fldN j) c)) (fldS j : Nat) = false) : ¬ FitK c 13 := fun q => by
  rw [q j hj ht] at h
  cases h
theorem fldE_text (j : Nat) (hj : j < 13) (ht : textB (fldN j : Nat) = true) : fldE j = 85 := by
  match j, hj with
  | 5, _ | 8, _ | 9, _ => rfl
  | 0, _ | 1, _ | 2, _ | 3, _ | 4, _ | 6, _ | 7, _ | 10, _ | 11, _ | 12, _ => exact absurd ht (by decide)
set_option maxRecDepth 100000 in
theorem refused_0 (c : Hc) (w : World) (hF : FT w) (h0 : -9223372036854775808 ≤ c.head) (h1 : c.head < 9223372036854775808) (h2 : 0 ≤ c.seq) (h3 : c.seq < 18446744073709551616) (hb : headB c.head = false) : Calls Tryd.prog 16 #[c.val] w fun e w' => e = .returned (.int .i64 83) ∧ Below w.heap.size w w' := by
  have hw := headB_wrap c.head h0 h1
  have w0' : 0 ≤ IntKind.u64.wrap c.head := by rw [IntKind.wrap_u64]; omega
  have w1' : IntKind.u64.wrap c.head < 18446744073709551616 := by rw [IntKind.wrap_u64]; omega
  rw [Hc.val_eq]
  go_enter Tryd.func16, Tryd.ntmps16
  go_wp2_with (go_at_call 31; refine (isHead_ok (IntKind.u64.wrap c.head) _ w0' w1').mono ?_; rintro e w1 ⟨rfl, hx⟩; obtain rfl := hx; rw [hw, hb])
  go_ret
  exact ⟨rfl, al1 w _⟩
set_option maxRecDepth 100000 in
theorem refused_1 (c : Hc) (w : World) (hF : FT w) (h0 : -9223372036854775808 ≤ c.head) (h1 : c.head < 9223372036854775808) (h2 : 0 ≤ c.seq) (h3 : c.seq < 18446744073709551616) (hb : headB c.head = true) (hq : seqB c.seq = false) : Calls Tryd.prog 16 #[c.val] w fun e w' => e = .returned (.int .i64 85) ∧ Below w.heap.size w w' := by
  have hw := headB_wrap c.head h0 h1
  have w0' : 0 ≤ IntKind.u64.wrap c.head := by rw [IntKind.wrap_u64]; omega
  have w1' : IntKind.u64.wrap c.head < 18446744073709551616 := by rw [IntKind.wrap_u64]; omega
  rw [Hc.val_eq]
  go_enter Tryd.func16, Tryd.ntmps16
  go_wp2_with (first | (go_at_call 31; refine (isHead_ok (IntKind.u64.wrap c.head) _ w0' w1').mono ?_; rintro e w1 ⟨rfl, hx⟩; obtain rfl := hx; rw [hw, hb]) | (go_at_call 32; refine (isSeq_ok c.seq _).mono ?_; rintro e w1 ⟨rfl, hx⟩; obtain rfl := hx; rw [hq]))
  go_ret
  exact ⟨rfl, al1 w _⟩
set_option maxRecDepth 100000 in
theorem refused_2 (c : Hc) (w : World) (hF : FT w) (h0 : -9223372036854775808 ≤ c.head) (h1 : c.head < 9223372036854775808) (h2 : 0 ≤ c.seq) (h3 : c.seq < 18446744073709551616) (hb : headB c.head = true) (hq : seqB c.seq = true) (hs : c.salt.size ≠ 64) : Calls Tryd.prog 16 #[c.val] w fun e w' => e = .returned (.int .i64 85) ∧ Below w.heap.size w w' := by
  have hw := headB_wrap c.head h0 h1
  have w0' : 0 ≤ IntKind.u64.wrap c.head := by rw [IntKind.wrap_u64]; omega
  have w1' : IntKind.u64.wrap c.head < 18446744073709551616 := by rw [IntKind.wrap_u64]; omega
  have hz : ((c.salt.size : Int) != 64) = true := by simp; omega
  clear hs
  rw [Hc.val_eq]
  go_enter Tryd.func16, Tryd.ntmps16
  go_wp2_with (first | (go_at_call 31; refine (isHead_ok (IntKind.u64.wrap c.head) _ w0' w1').mono ?_; rintro e w1 ⟨rfl, hx⟩; obtain rfl := hx; rw [hw, hb]) | (go_at_call 32; refine (isSeq_ok c.seq _).mono ?_; rintro e w1 ⟨rfl, hx⟩; obtain rfl := hx; rw [hq]))
  go_ret
  exact ⟨rfl, al1 w _⟩
def ansF (c : Hc) : Int := if plainB c.label 48 = true ∧ plainB c.uuid 40 = true ∧ plainB c.sub 48 = true then (if plainB c.text (c.head - 4096) = true then 0 else 86) else 85
set_option maxHeartbeats 400000 in
set_option maxRecDepth 100000 in
theorem refused_3 (c : Hc) (w : World) (hF : FT w) (h0 : -9223372036854775808 ≤ c.head) (h1 : c.head < 9223372036854775808) (h2 : 0 ≤ c.seq) (h3 : c.seq < 18446744073709551616) (hb : headB c.head = true) (hq : seqB c.seq = true) (hs : c.salt.size = 64) : Calls Tryd.prog 16 #[c.val] w fun e w' => e = .returned (.int .i64 (ansF c)) ∧ Below w.heap.size w w' := by
  have hw := headB_wrap c.head h0 h1
  have w0' : 0 ≤ IntKind.u64.wrap c.head := by rw [IntKind.wrap_u64]; omega
  have w1' : IntKind.u64.wrap c.head < 18446744073709551616 := by rw [IntKind.wrap_u64]; omega
  have hz : ((c.salt.size : Int) != 64) = false := by simp; omega
  have HHD : Hid (16384 ≤ c.head ∧ c.head ≤ 4194304) := headB_le hb
  have HF : Hid (FT w) := hF
  have hft := hF.lt
  obtain ⟨FA, HFA⟩ : ∃ FA : List Value, Hid (FA = fldL) := ⟨_, rfl⟩
  have HR : Hid ((w.alloc (.cells c.cells.toArray 24)).rangeAt 0 0 FA ∧ (Tryd.prog.info? 62).map (·.size) = some FA.length) := by rw [HFA.out]; exact ⟨hF.below (al1 w _) hft, size62⟩
  have HC0 : Hid ((w.alloc (.cells c.cells.toArray 24)).rangeAt w.heap.size 0 c.cells ∧ Below w.heap.size w (w.alloc (.cells c.cells.toArray 24))) := ⟨rangeAt_new w c.cells.toArray 24, al1 w _⟩
  clear hs hF
  rw [Hc.val_eq]
  rw [Hc.cells_eq] at HR HC0
  obtain ⟨AN, HAN⟩ : ∃ AN : Int, Hid (AN = ansF c) := ⟨_, rfl⟩
  rw [← HAN.out]
  go_enter Tryd.func16, Tryd.ntmps16
  go_upto_region 5 with (first | (go_at_call 31; refine (isHead_ok (IntKind.u64.wrap c.head) _ w0' w1').mono ?_; rintro e w1 ⟨rfl, hx⟩; obtain rfl := hx; rw [hw, hb]) | (go_at_call 32; refine (isSeq_ok c.seq _).mono ?_; rintro e w1 ⟨rfl, hx⟩; obtain rfl := hx; rw [hq]))
  go_wp2_with (refine wpList_load_mid (by rfl) 62 (.global 0) (by rfl) 0 0 (by rfl) FA _ HR.out.1 Tryd.underlying62 rfl HR.out.2 ?_)
  have HS0 : Hid ((w.alloc (.cells #[.bool c.second, .int .i64 c.head, .int .u64 c.seq, .string c.label, .string c.sub, .string c.uuid, .string c.salt, .string c.text] 24)).rangeAt w.heap.size 0 c.cells ∧ Below w.heap.size w (w.alloc (.cells #[.bool c.second, .int .i64 c.head, .int .u64 c.seq, .string c.label, .string c.sub, .string c.uuid, .string c.salt, .string c.text] 24)) ∧ w.heap.size < (w.alloc (.cells #[.bool c.second, .int .i64 c.head, .int .u64 c.seq, .string c.label, .string c.sub, .string c.uuid, .string c.salt, .string c.text] 24)).heap.size ∧ FitK c 0) := ⟨HC0.out.1, HC0.out.2, by simp, fun j hj => by omega⟩
  clear HC0 HR
  generalize (w.alloc (.cells #[.bool c.second, .int .i64 c.head, .int .u64 c.seq, .string c.label, .string c.sub, .string c.uuid, .string c.salt, .string c.text] 24)) = wA at HS0 ⊢
  go_loopw [21] (fun vi wr => ∃ k : Nat, vi = .int .i64 (k : Nat) ∧ k ≤ 13 ∧ Hid (wr.rangeAt w.heap.size 0 c.cells ∧ Below w.heap.size w wr ∧ w.heap.size < wr.heap.size ∧ FitK c k)) (fun vi _ => 13 - (intOf vi).toNat)
  case atStart => exact ⟨0, rfl, by omega, HS0⟩
  case round =>
    obtain ⟨k, rfl, hk, HK⟩ := hrel
    clear HS0
    by_cases hlt : k < 13
    · obtain ⟨n, HN⟩ : ∃ n : Int, Hid (n = (fldN k : Nat)) := ⟨_, rfl⟩
      obtain ⟨a, HA⟩ : ∃ n : Int, Hid (n = (fldA k : Nat)) := ⟨_, rfl⟩
      obtain ⟨s, HSz⟩ : ∃ n : Int, Hid (n = (fldS k : Nat)) := ⟨_, rfl⟩
      obtain ⟨y, HY⟩ : ∃ n : Int, Hid (n = (fldE k : Nat)) := ⟨_, rfl⟩
      have hix : ∀ u, (Instr.index 62 (.agg FA.toArray) (.int .i64 (k : Nat))).run Tryd.prog u = .ok (.agg #[.int .i64 n, .int .i64 a, .int .i64 s, .int .i64 y]) u := fun u => by
        rw [HFA.out, HN.out, HA.out, HSz.out, HY.out]
        exact fld_at k hlt u
      go_upto_region 8 with fail
      have HW : Hid ((wr.alloc (.cells #[.int .i64 n, .int .i64 a, .int .i64 s, .int .i64 y] 61)).rangeAt wr.heap.size 0 [.int .i64 n, .int .i64 a, .int .i64 s, .int .i64 y] ∧ (wr.alloc (.cells #[.int .i64 n, .int .i64 a, .int .i64 s, .int .i64 y] 61)).rangeAt w.heap.size 0 c.cells ∧ Below w.heap.size w (wr.alloc (.cells #[.int .i64 n, .int .i64 a, .int .i64 s, .int .i64 y] 61)) ∧ wr.heap.size < (wr.alloc (.cells #[.int .i64 n, .int .i64 a, .int .i64 s, .int .i64 y] 61)).heap.size ∧ w.heap.size < wr.heap.size) :=
        ⟨rangeAt_new wr _ 61, fun j v hj => by rw [(al1 wr _).cell (p := ⟨w.heap.size, 0 + j, none⟩) HK.out.2.2.1]; exact HK.out.1 j v hj, HK.out.2.1.trans ((al1 wr _).mono HK.out.2.1.size), by simp, HK.out.2.2.1⟩
      have HFK : Hid (FitK c k) := HK.out.2.2.2
      clear HK hix
      generalize (wr.alloc (.cells #[.int .i64 n, .int .i64 a, .int .i64 s, .int .i64 y] 61)) = w0 at HW ⊢
      generalize wr.heap.size = gf at HW ⊢
      have hS0 : Below w0.heap.size w0 w0.drew := (Below.refl _ _).drew
      have g0 : ∀ u, Below w0.heap.size w0 u → u.cell? ⟨gf, 0, none⟩ = some (.int .i64 n) := fun u hu => by rw [hu.cell (p := ⟨gf, 0, none⟩) HW.out.2.2.2.1]; exact HW.out.1 0 _ rfl
      have g1 : ∀ u, Below w0.heap.size w0 u → u.cell? ⟨gf, 1, none⟩ = some (.int .i64 a) := fun u hu => by rw [hu.cell (p := ⟨gf, 1, none⟩) HW.out.2.2.2.1]; exact HW.out.1 1 _ rfl
      have g2 : ∀ u, Below w0.heap.size w0 u → u.cell? ⟨gf, 2, none⟩ = some (.int .i64 s) := fun u hu => by rw [hu.cell (p := ⟨gf, 2, none⟩) HW.out.2.2.2.1]; exact HW.out.1 2 _ rfl
      have g3 : ∀ u, Below w0.heap.size w0 u → u.cell? ⟨gf, 3, none⟩ = some (.int .i64 y) := fun u hu => by rw [hu.cell (p := ⟨gf, 3, none⟩) HW.out.2.2.2.1]; exact HW.out.1 3 _ rfl
      have hrs : ∀ u, Below w0.heap.size w0 u → u.rangeAt w.heap.size 0 c.cells := fun u hu j v hj => by rw [hu.cell (p := ⟨w.heap.size, 0 + j, none⟩) (Nat.lt_trans HW.out.2.2.2.2 HW.out.2.2.2.1)]; exact HW.out.2.1 j v hj
      have HTo : Hid (∀ u, Calls Tryd.prog 35 #[.int .i64 n, c.val] u fun e w' => e = .returned (.string (strB (toldL (fldN k) c))) ∧ Below u.heap.size u w') := fun u => by
        rw [HN.out]
        exact told_ok k hlt c u (by have := HHD.out; omega) HHD.out.2 h2 h3
      cases ht : textB n
      · refine wp_region_noPanic ?_
        refine wp_region_held_drew (S := fun u => Below w0.heap.size w0 u) (by kernel_rfl) (hS0) (fun _ => ?_)
        refine takeH_at 0 24 (.agg #[.int .i64 n, .int .i64 a, .int .i64 s, .int .i64 y]) rfl rfl (by kernel_rfl) (by kernel_rfl) (by kernel_rfl) (fun _ _ _ h => h) (hS0) (Or.inl ⟨by kernel_rfl, fun w' hS' => by have q0 := g0 w' hS'; have q1 := g1 w' hS'; have q2 := g2 w' hS'; have q3 := g3 w' hS'; go_simp⟩) ?_
        simp only [List.setIfInBounds_toArray, List.set_cons_zero, List.set_cons_succ]
        refine wpAnyH_ready (rs := [1]) (by kernel_rfl) (by simp) ?_
        refine AllReadyH.cons rfl (fun Kx hK => ?_) AllReadyH.nil
        rw [if_pos (by kernel_rfl)]
        go_simp
        refine (isText_ok n a s y _).mono ?_
        intro e1 q1 hh
        obtain ⟨he, hq1⟩ := hh
        subst he; rw [ht]
        have hS1 : Below w0.heap.size w0 q1 := (hS0).trans (hq1.mono (hS0).size)
        go_wp2_with fail
        refine hK.out _ _ hS1 (fun _ => ?_)
        clear hK Kx
        try simp only [Act.put, List.setIfInBounds_toArray, List.set_cons_zero, List.set_cons_succ]
        refine takeH_at 2 26 (.bool false) rfl rfl (by kernel_rfl) (by kernel_rfl) (by kernel_rfl) (fun _ _ _ h => h) (hS1) (Or.inl ⟨by kernel_rfl, fun w' hS' => by go_simp⟩) ?_
        simp only [List.setIfInBounds_toArray, List.set_cons_zero, List.set_cons_succ]
        refine takeH_at 3 27 undef rfl rfl (by kernel_rfl) (by kernel_rfl) (by kernel_rfl) (fun _ _ _ h => h) (hS1) (Or.inr ⟨by kernel_rfl, rfl⟩) ?_
        simp only [List.setIfInBounds_toArray, List.set_cons_zero, List.set_cons_succ]
        refine takeH_at 4 28 undef rfl rfl (by kernel_rfl) (by kernel_rfl) (by kernel_rfl) (fun _ _ _ h => h) (hS1) (Or.inr ⟨by kernel_rfl, rfl⟩) ?_
        simp only [List.setIfInBounds_toArray, List.set_cons_zero, List.set_cons_succ]
        refine takeH_at 5 29 undef rfl rfl (by kernel_rfl) (by kernel_rfl) (by kernel_rfl) (fun _ _ _ h => h) (hS1) (Or.inr ⟨by kernel_rfl, rfl⟩) ?_
        simp only [List.setIfInBounds_toArray, List.set_cons_zero, List.set_cons_succ]
        refine takeH_at 6 30 undef rfl rfl (by kernel_rfl) (by kernel_rfl) (by kernel_rfl) (fun _ _ _ h => h) (hS1) (Or.inr ⟨by kernel_rfl, rfl⟩) ?_
        simp only [List.setIfInBounds_toArray, List.set_cons_zero, List.set_cons_succ]
        refine takeH_at 7 31 undef rfl rfl (by kernel_rfl) (by kernel_rfl) (by kernel_rfl) (fun _ _ _ h => h) (hS1) (Or.inr ⟨by kernel_rfl, rfl⟩) ?_
        simp only [List.setIfInBounds_toArray, List.set_cons_zero, List.set_cons_succ]
        refine takeH_at 8 32 undef rfl rfl (by kernel_rfl) (by kernel_rfl) (by kernel_rfl) (fun _ _ _ h => h) (hS1) (Or.inr ⟨by kernel_rfl, rfl⟩) ?_
        simp only [List.setIfInBounds_toArray, List.set_cons_zero, List.set_cons_succ]
        refine takeH_at 9 33 undef rfl rfl (by kernel_rfl) (by kernel_rfl) (by kernel_rfl) (fun _ _ _ h => h) (hS1) (Or.inr ⟨by kernel_rfl, rfl⟩) ?_
        simp only [List.setIfInBounds_toArray, List.set_cons_zero, List.set_cons_succ]
        refine takeH_at 10 34 undef rfl rfl (by kernel_rfl) (by kernel_rfl) (by kernel_rfl) (fun _ _ _ h => h) (hS1) (Or.inr ⟨by kernel_rfl, rfl⟩) ?_
        simp only [List.setIfInBounds_toArray, List.set_cons_zero, List.set_cons_succ]
        refine takeH_at 11 35 (.bool false) rfl rfl (by kernel_rfl) (by kernel_rfl) (by kernel_rfl) (fun _ _ _ h => h) (hS1) (Or.inl ⟨by kernel_rfl, fun w' hS' => by go_simp⟩) ?_
        simp only [List.setIfInBounds_toArray, List.set_cons_zero, List.set_cons_succ]
        refine wpAnyH_done (by kernel_rfl) ?_ _
        refine NoPanic.normal ?_
        go_wp2_with fail
        exact ⟨⟨k + 1, by simp, by omega, hrs _ hS1, HW.out.2.2.1.trans (hS1.mono HW.out.2.2.1.size), Nat.lt_of_lt_of_le (Nat.lt_trans HW.out.2.2.2.2 HW.out.2.2.2.1) hS1.size, fun j hj htj => by
          by_cases e : j = k
          · subst e; rw [HN.out] at ht; rw [htj] at ht; cases ht
          · exact HFK.out j (by omega) htj⟩, by simp [intOf]; omega⟩
      · cases hfi : plainB (strB (toldL (fldN k) c)) s
        · refine wp_region_noPanic ?_
          refine wp_region_held_drew (S := fun u => Below w0.heap.size w0 u) (by kernel_rfl) (hS0) (fun _ => ?_)
          refine takeH_at 0 24 (.agg #[.int .i64 n, .int .i64 a, .int .i64 s, .int .i64 y]) rfl rfl (by kernel_rfl) (by kernel_rfl) (by kernel_rfl) (fun _ _ _ h => h) (hS0) (Or.inl ⟨by kernel_rfl, fun w' hS' => by have q0 := g0 w' hS'; have q1 := g1 w' hS'; have q2 := g2 w' hS'; have q3 := g3 w' hS'; go_simp⟩) ?_
          simp only [List.setIfInBounds_toArray, List.set_cons_zero, List.set_cons_succ]
          refine wpAnyH_ready (rs := [1]) (by kernel_rfl) (by simp) ?_
          refine AllReadyH.cons rfl (fun Kx hK => ?_) AllReadyH.nil
          rw [if_pos (by kernel_rfl)]
          go_simp
          refine (isText_ok n a s y _).mono ?_
          intro e1 q1 hh
          obtain ⟨he, hq1⟩ := hh
          subst he; rw [ht]
          have hS1 : Below w0.heap.size w0 q1 := (hS0).trans (hq1.mono (hS0).size)
          go_wp2_with fail
          refine hK.out _ _ hS1 (fun _ => ?_)
          clear hK Kx
          try simp only [Act.put, List.setIfInBounds_toArray, List.set_cons_zero, List.set_cons_succ]
          refine takeH_at 2 26 (.bool true) rfl rfl (by kernel_rfl) (by kernel_rfl) (by kernel_rfl) (fun _ _ _ h => h) (hS1) (Or.inl ⟨by kernel_rfl, fun w' hS' => by go_simp⟩) ?_
          simp only [List.setIfInBounds_toArray, List.set_cons_zero, List.set_cons_succ]
          refine takeH_at 3 27 (.pointer (some ⟨gf, 0, none⟩)) rfl rfl (by kernel_rfl) (by kernel_rfl) (by kernel_rfl) (fun _ _ _ h => h) (hS1) (Or.inl ⟨by kernel_rfl, fun w' hS' => by go_simp⟩) ?_
          simp only [List.setIfInBounds_toArray, List.set_cons_zero, List.set_cons_succ]
          refine takeH_at 4 28 (.int .i64 n) rfl rfl (by kernel_rfl) (by kernel_rfl) (by kernel_rfl) (fun _ _ _ h => h) (hS1) (Or.inl ⟨by kernel_rfl, fun w' hS' => by have q0 := g0 w' hS'; have q1 := g1 w' hS'; have q2 := g2 w' hS'; have q3 := g3 w' hS'; go_simp⟩) ?_
          simp only [List.setIfInBounds_toArray, List.set_cons_zero, List.set_cons_succ]
          refine takeH_at 5 29 (.agg c.cells.toArray) rfl rfl (by kernel_rfl) (by kernel_rfl) (by kernel_rfl) (fun _ _ _ h => h) (hS1) (yieldsIf_load_mid (by kernel_rfl) 24 (.tmp 1) rfl w.heap.size 0 rfl c.cells _ hrs Tryd.underlying24 rfl (by kernel_rfl)) ?_
          simp only [List.setIfInBounds_toArray, List.set_cons_zero, List.set_cons_succ]
          refine takeH_at 7 31 (.pointer (some ⟨gf, 2, none⟩)) rfl rfl (by kernel_rfl) (by kernel_rfl) (by kernel_rfl) (fun _ _ _ h => h) (hS1) (Or.inl ⟨by kernel_rfl, fun w' hS' => by go_simp⟩) ?_
          simp only [List.setIfInBounds_toArray, List.set_cons_zero, List.set_cons_succ]
          refine takeH_at 8 32 (.int .i64 s) rfl rfl (by kernel_rfl) (by kernel_rfl) (by kernel_rfl) (fun _ _ _ h => h) (hS1) (Or.inl ⟨by kernel_rfl, fun w' hS' => by have q0 := g0 w' hS'; have q1 := g1 w' hS'; have q2 := g2 w' hS'; have q3 := g3 w' hS'; go_simp⟩) ?_
          simp only [List.setIfInBounds_toArray, List.set_cons_zero, List.set_cons_succ]
          refine wpAnyH_ready (rs := [6]) (by kernel_rfl) (by simp) ?_
          refine AllReadyH.cons rfl (fun Kx hK => ?_) AllReadyH.nil
          rw [if_pos (by kernel_rfl)]
          go_simp
          refine (HTo.out _).mono ?_
          intro e1 q2 hh
          obtain ⟨he, hq2⟩ := hh
          subst he
          have hS2 : Below w0.heap.size w0 q2 := (hS1).trans (hq2.mono (hS1).size)
          go_wp2_with fail
          refine hK.out _ _ hS2 (fun _ => ?_)
          clear hK Kx
          try simp only [Act.put, List.setIfInBounds_toArray, List.set_cons_zero, List.set_cons_succ]
          refine wpAnyH_ready (rs := [9]) (by kernel_rfl) (by simp) ?_
          refine AllReadyH.cons rfl (fun Kx hK => ?_) AllReadyH.nil
          rw [if_pos (by kernel_rfl)]
          go_simp
          refine (fits_ok (strB (toldL (fldN k) c)) s _).mono ?_
          intro e1 q3 hh
          obtain ⟨he, hq3⟩ := hh
          subst he; rw [hfi]
          subst hq3
          have hS3 := hS2
          go_wp2_with fail
          refine hK.out _ _ hS3 (fun _ => ?_)
          clear hK Kx
          try simp only [Act.put, List.setIfInBounds_toArray, List.set_cons_zero, List.set_cons_succ]
          refine takeH_at 10 34 (.bool true) rfl rfl (by kernel_rfl) (by kernel_rfl) (by kernel_rfl) (fun _ _ _ h => h) (hS3) (Or.inl ⟨by kernel_rfl, fun w' hS' => by go_simp⟩) ?_
          simp only [List.setIfInBounds_toArray, List.set_cons_zero, List.set_cons_succ]
          refine takeH_at 11 35 (.bool true) rfl rfl (by kernel_rfl) (by kernel_rfl) (by kernel_rfl) (fun _ _ _ h => h) (hS3) (Or.inl ⟨by kernel_rfl, fun w' hS' => by go_simp⟩) ?_
          simp only [List.setIfInBounds_toArray, List.set_cons_zero, List.set_cons_succ]
          refine wpAnyH_done (by kernel_rfl) ?_ _
          refine NoPanic.normal ?_
          have q3 := g3 _ hS3
          go_wp2_with fail
          go_ret
          refine ⟨?_, HW.out.2.2.1.trans (hS3.mono HW.out.2.2.1.size)⟩
          rw [HAN.out, HY.out, fldE_text k hlt (by rw [← HN.out]; exact ht)]
          have hn := FitK.not (c := c) hlt (by rw [← HN.out]; exact ht) (by rw [← HSz.out]; exact hfi)
          rw [FitK.all] at hn
          unfold ansF
          rw [if_neg hn]
          rfl
        · refine wp_region_noPanic ?_
          refine wp_region_held_drew (S := fun u => Below w0.heap.size w0 u) (by kernel_rfl) (hS0) (fun _ => ?_)
          refine takeH_at 0 24 (.agg #[.int .i64 n, .int .i64 a, .int .i64 s, .int .i64 y]) rfl rfl (by kernel_rfl) (by kernel_rfl) (by kernel_rfl) (fun _ _ _ h => h) (hS0) (Or.inl ⟨by kernel_rfl, fun w' hS' => by have q0 := g0 w' hS'; have q1 := g1 w' hS'; have q2 := g2 w' hS'; have q3 := g3 w' hS'; go_simp⟩) ?_
          simp only [List.setIfInBounds_toArray, List.set_cons_zero, List.set_cons_succ]
          refine wpAnyH_ready (rs := [1]) (by kernel_rfl) (by simp) ?_
          refine AllReadyH.cons rfl (fun Kx hK => ?_) AllReadyH.nil
          rw [if_pos (by kernel_rfl)]
          go_simp
          refine (isText_ok n a s y _).mono ?_
          intro e1 q1 hh
          obtain ⟨he, hq1⟩ := hh
          subst he; rw [ht]
          have hS1 : Below w0.heap.size w0 q1 := (hS0).trans (hq1.mono (hS0).size)
          go_wp2_with fail
          refine hK.out _ _ hS1 (fun _ => ?_)
          clear hK Kx
          try simp only [Act.put, List.setIfInBounds_toArray, List.set_cons_zero, List.set_cons_succ]
          refine takeH_at 2 26 (.bool true) rfl rfl (by kernel_rfl) (by kernel_rfl) (by kernel_rfl) (fun _ _ _ h => h) (hS1) (Or.inl ⟨by kernel_rfl, fun w' hS' => by go_simp⟩) ?_
          simp only [List.setIfInBounds_toArray, List.set_cons_zero, List.set_cons_succ]
          refine takeH_at 3 27 (.pointer (some ⟨gf, 0, none⟩)) rfl rfl (by kernel_rfl) (by kernel_rfl) (by kernel_rfl) (fun _ _ _ h => h) (hS1) (Or.inl ⟨by kernel_rfl, fun w' hS' => by go_simp⟩) ?_
          simp only [List.setIfInBounds_toArray, List.set_cons_zero, List.set_cons_succ]
          refine takeH_at 4 28 (.int .i64 n) rfl rfl (by kernel_rfl) (by kernel_rfl) (by kernel_rfl) (fun _ _ _ h => h) (hS1) (Or.inl ⟨by kernel_rfl, fun w' hS' => by have q0 := g0 w' hS'; have q1 := g1 w' hS'; have q2 := g2 w' hS'; have q3 := g3 w' hS'; go_simp⟩) ?_
          simp only [List.setIfInBounds_toArray, List.set_cons_zero, List.set_cons_succ]
          refine takeH_at 5 29 (.agg c.cells.toArray) rfl rfl (by kernel_rfl) (by kernel_rfl) (by kernel_rfl) (fun _ _ _ h => h) (hS1) (yieldsIf_load_mid (by kernel_rfl) 24 (.tmp 1) rfl w.heap.size 0 rfl c.cells _ hrs Tryd.underlying24 rfl (by kernel_rfl)) ?_
          simp only [List.setIfInBounds_toArray, List.set_cons_zero, List.set_cons_succ]
          refine takeH_at 7 31 (.pointer (some ⟨gf, 2, none⟩)) rfl rfl (by kernel_rfl) (by kernel_rfl) (by kernel_rfl) (fun _ _ _ h => h) (hS1) (Or.inl ⟨by kernel_rfl, fun w' hS' => by go_simp⟩) ?_
          simp only [List.setIfInBounds_toArray, List.set_cons_zero, List.set_cons_succ]
          refine takeH_at 8 32 (.int .i64 s) rfl rfl (by kernel_rfl) (by kernel_rfl) (by kernel_rfl) (fun _ _ _ h => h) (hS1) (Or.inl ⟨by kernel_rfl, fun w' hS' => by have q0 := g0 w' hS'; have q1 := g1 w' hS'; have q2 := g2 w' hS'; have q3 := g3 w' hS'; go_simp⟩) ?_
          simp only [List.setIfInBounds_toArray, List.set_cons_zero, List.set_cons_succ]
          refine wpAnyH_ready (rs := [6]) (by kernel_rfl) (by simp) ?_
          refine AllReadyH.cons rfl (fun Kx hK => ?_) AllReadyH.nil
          rw [if_pos (by kernel_rfl)]
          go_simp
          refine (HTo.out _).mono ?_
          intro e1 q2 hh
          obtain ⟨he, hq2⟩ := hh
          subst he
          have hS2 : Below w0.heap.size w0 q2 := (hS1).trans (hq2.mono (hS1).size)
          go_wp2_with fail
          refine hK.out _ _ hS2 (fun _ => ?_)
          clear hK Kx
          try simp only [Act.put, List.setIfInBounds_toArray, List.set_cons_zero, List.set_cons_succ]
          refine wpAnyH_ready (rs := [9]) (by kernel_rfl) (by simp) ?_
          refine AllReadyH.cons rfl (fun Kx hK => ?_) AllReadyH.nil
          rw [if_pos (by kernel_rfl)]
          go_simp
          refine (fits_ok (strB (toldL (fldN k) c)) s _).mono ?_
          intro e1 q3 hh
          obtain ⟨he, hq3⟩ := hh
          subst he; rw [hfi]
          subst hq3
          have hS3 := hS2
          go_wp2_with fail
          refine hK.out _ _ hS3 (fun _ => ?_)
          clear hK Kx
          try simp only [Act.put, List.setIfInBounds_toArray, List.set_cons_zero, List.set_cons_succ]
          refine takeH_at 10 34 (.bool false) rfl rfl (by kernel_rfl) (by kernel_rfl) (by kernel_rfl) (fun _ _ _ h => h) (hS3) (Or.inl ⟨by kernel_rfl, fun w' hS' => by go_simp⟩) ?_
          simp only [List.setIfInBounds_toArray, List.set_cons_zero, List.set_cons_succ]
          refine takeH_at 11 35 (.bool false) rfl rfl (by kernel_rfl) (by kernel_rfl) (by kernel_rfl) (fun _ _ _ h => h) (hS3) (Or.inl ⟨by kernel_rfl, fun w' hS' => by go_simp⟩) ?_
          simp only [List.setIfInBounds_toArray, List.set_cons_zero, List.set_cons_succ]
          refine wpAnyH_done (by kernel_rfl) ?_ _
          refine NoPanic.normal ?_
          go_wp2_with fail
          exact ⟨⟨k + 1, by simp, by omega, hrs _ hS3, HW.out.2.2.1.trans (hS3.mono HW.out.2.2.1.size), Nat.lt_of_lt_of_le (Nat.lt_trans HW.out.2.2.2.2 HW.out.2.2.2.1) hS3.size, fun j hj htj => by
            by_cases e : j = k
            · subst e; rw [← HSz.out]; exact hfi
            · exact HFK.out j (by omega) htj⟩, by simp [intOf]; omega⟩
    · have hk13 : k = 13 := by omega
      subst hk13
      have HAll : Hid (plainB c.label 48 = true ∧ plainB c.uuid 40 = true ∧ plainB c.sub 48 = true) := FitK.all.1 HK.out.2.2.2
      have c1 : wr.cell? ⟨w.heap.size, 1, none⟩ = some (.int .i64 c.head) := HK.out.1 1 _ rfl
      have c7 : wr.cell? ⟨w.heap.size, 7, none⟩ = some (.string c.text) := HK.out.1 7 _ rfl
      have e1 : IntKind.i64.wrap (c.head - 4096) = c.head - 4096 := by have := HHD.out; rw [IntKind.wrap_i64]; omega
      have HB : Hid (Below w.heap.size w wr) := HK.out.2.1
      clear HK
      cases hfi : plainB c.text (c.head - 4096)
      · go_wp2_with (go_at_call 34; refine (fits_ok c.text (c.head - 4096) _).mono ?_; rintro e w1 ⟨rfl, hx⟩; obtain rfl := hx; rw [hfi])
        go_ret
        refine ⟨?_, HB.out⟩
        rw [HAN.out]
        unfold ansF
        rw [if_pos HAll.out, if_neg (by rw [hfi]; decide)]
        rfl
      · go_wp2_with (go_at_call 34; refine (fits_ok c.text (c.head - 4096) _).mono ?_; rintro e w1 ⟨rfl, hx⟩; obtain rfl := hx; rw [hfi])
        go_ret
        refine ⟨?_, HB.out⟩
        rw [HAN.out]
        unfold ansF
        rw [if_pos HAll.out, if_pos hfi]
        rfl
end Go.Proofs.YtoanndhaopgkjaaDoor
namespace Go.Proofs.YtoanndhaopgkjaaDoor
open Go.RowKit

/-- A world that differs in what it drew alone. -/
structure Sm (w w' : World) : Prop where
  os : w'.os = w.os
  tape : w'.tape = w.tape
  output : w'.output = w.output
  heap : w'.heap = w.heap
theorem Sm.refl (w : World) : Sm w w := ⟨rfl, rfl, rfl, rfl⟩
theorem Sm.drewN {w v : World} (h : Sm w v) (m : Nat) : Sm w (v.drewN m) := ⟨h.os, h.tape, h.output, h.heap⟩
theorem Sm.trans {a b c : World} (h : Sm a b) (k : Sm b c) : Sm a c := ⟨k.os.trans h.os, k.tape.trans h.tape, k.output.trans h.output, k.heap.trans h.heap⟩
theorem Sm.cell {w v : World} (h : Sm w v) (p : Addr) : v.cell? p = w.cell? p := World.cell?_of_block (by rw [h.heap])
theorem Sm.frozen {w v : World} (h : Sm w v) (p : Addr) : v.frozen? p = w.frozen? p := World.frozen?_of_block (by rw [h.heap])

theorem setCells_os (b : Nat) : ∀ (vs : List Value) (o : Nat) (w : World), (w.setCells b o vs).os = w.os
  | [], _, _ => rfl
  | v :: r, o, w => by rw [World.setCells, setCells_os b r (o + 1)]; rfl
theorem setCells_tape (b : Nat) : ∀ (vs : List Value) (o : Nat) (w : World), (w.setCells b o vs).tape = w.tape
  | [], _, _ => rfl
  | v :: r, o, w => by rw [World.setCells, setCells_tape b r (o + 1)]; rfl
theorem setCells_output (b : Nat) : ∀ (vs : List Value) (o : Nat) (w : World), (w.setCells b o vs).output = w.output
  | [], _, _ => rfl
  | v :: r, o, w => by rw [World.setCells, setCells_output b r (o + 1)]; rfl

/-- From w to w' nothing of what was there is changed but n cells of block g from o on; what could be written there can be still. -/
structure Touch (w w' : World) (g o n : Nat) : Prop where
  os : w'.os = w.os
  tape : w'.tape = w.tape
  output : w'.output = w.output
  size : w.heap.size ≤ w'.heap.size
  block : ∀ k, k < w.heap.size → k ≠ g → w'.heap[k]? = w.heap[k]?
  cell : ∀ j, (j < o ∨ o + n ≤ j) → w'.cell? ⟨g, j, none⟩ = w.cell? ⟨g, j, none⟩
  there : ∀ o' n', w.there g o' n' → w'.there g o' n'

theorem Sm.touch {w v : World} (h : Sm w v) (g o n : Nat) : Touch w v g o n :=
  ⟨h.os, h.tape, h.output, by rw [h.heap]; exact Nat.le_refl _, fun k _ _ => by rw [h.heap], fun j _ => h.cell _, fun o' n' ht j hj => by rw [h.cell, h.frozen]; exact ht j hj⟩
theorem Touch.refl (w : World) (g o n : Nat) : Touch w w g o n := (Sm.refl w).touch g o n
theorem Touch.trans {a b c : World} {g o n : Nat} (h : Touch a b g o n) (k : Touch b c g o n) : Touch a c g o n :=
  ⟨k.os.trans h.os, k.tape.trans h.tape, k.output.trans h.output, Nat.le_trans h.size k.size, fun i hi hne => (k.block i (Nat.lt_of_lt_of_le hi h.size) hne).trans (h.block i hi hne), fun j hj => (k.cell j hj).trans (h.cell j hj), fun o' n' ht => k.there o' n' (h.there o' n' ht)⟩
theorem Touch.mono {a b : World} {g o n : Nat} (h : Touch a b g o n) (o' n' : Nat) (h1 : o' ≤ o) (h2 : o + n ≤ o' + n') : Touch a b g o' n' :=
  ⟨h.os, h.tape, h.output, h.size, h.block, fun j hj => h.cell j (by omega), h.there⟩
theorem Touch.setCells {a b : World} {g o n : Nat} (h : Touch a b g o n) (o' : Nat) (vs : List Value) (h1 : o ≤ o') (h2 : o' + vs.length ≤ o + n) : Touch a (b.setCells g o' vs) g o n := by
  refine h.trans ⟨?_, ?_, ?_, ?_, ?_, ?_, ?_⟩
  · exact setCells_os g vs o' b
  · exact setCells_tape g vs o' b
  · exact setCells_output g vs o' b
  · rw [size_setCells]; exact Nat.le_refl _
  · intro k hk hne
    exact World.heap_setCells_other b g o' vs hk hne
  · intro j hj
    exact World.cell?_setCells_out g vs o' b ⟨g, j, none⟩ (fun _ _ => by rcases hj with h | h; exact .inl (by show j < o'; omega); exact .inr (by show o' + vs.length ≤ j; omega))
  · intro o2 n2 ht
    exact World.there_setCells ht g o' vs
theorem Touch.setCell {a b : World} {g o n : Nat} (h : Touch a b g o n) (j : Nat) (u : Value) (h1 : o ≤ j) (h2 : j < o + n) : Touch a (b.setCell ⟨g, j, none⟩ u) g o n :=
  h.setCells j [u] h1 (by simp; omega)
theorem Touch.alloc {a b : World} {g o n : Nat} (h : Touch a b g o n) (ob : Obj) (hg : g < a.heap.size) : Touch a (b.alloc ob) g o n := by
  have hs := h.size
  refine h.trans ⟨rfl, rfl, rfl, by simp, ?_, ?_, ?_⟩
  · intro k hk _
    exact Below.heap_alloc b ob k hk
  · intro j _
    exact World.cell?_alloc_past ob g j (by omega)
  · intro o' n' ht
    exact World.there_alloc ht ob
theorem Touch.drew {a b : World} {g o n : Nat} (h : Touch a b g o n) : Touch a b.drew g o n := ⟨h.os, h.tape, h.output, h.size, h.block, h.cell, h.there⟩
theorem Touch.drewN {a b : World} {g o n : Nat} (h : Touch a b g o n) (m : Nat) : Touch a (b.drewN m) g o n := ⟨h.os, h.tape, h.output, h.size, h.block, h.cell, h.there⟩
/-- What only makes new blocks touches nothing. -/
theorem Touch.below {a b c : World} {g o n : Nat} (h : Touch a b g o n) (k : Below b.heap.size b c) (hg : g < a.heap.size) : Touch a c g o n := by
  have hs := h.size
  refine h.trans ⟨k.os, k.tape, k.output, k.size, fun i hi _ => k.block i hi, fun j _ => k.cell (p := ⟨g, j, none⟩) (show g < _ by omega), ?_⟩
  intro o' n' ht j hj
  rw [k.cell (p := ⟨g, o' + j, none⟩) (show g < _ by omega), k.frozen (p := ⟨g, o' + j, none⟩) (show g < _ by omega)]
  exact ht j hj
theorem Touch.toBelow {a b : World} {g o n B : Nat} (h : Touch a b g o n) (hg : B ≤ g) (hB : B ≤ a.heap.size) : Below B a b :=
  ⟨h.os, h.tape, h.output, h.size, fun k hk => h.block k (by omega) (by omega)⟩
theorem Touch.far {a b : World} {g o n : Nat} (h : Touch a b g o n) {p : Addr} (hp : p.block < a.heap.size) (hne : p.block ≠ g) : b.cell? p = a.cell? p := World.cell?_of_block (h.block p.block hp hne)
theorem Touch.farFrozen {a b : World} {g o n : Nat} (h : Touch a b g o n) {p : Addr} (hp : p.block < a.heap.size) (hne : p.block ≠ g) : b.frozen? p = a.frozen? p := World.frozen?_of_block (h.block p.block hp hne)
end Go.Proofs.YtoanndhaopgkjaaDoor
namespace Go.Proofs.YtoanndhaopgkjaaDoor
open Go.RowKit
set_option linter.unusedVariables false
/-- What a block function of the document's answer has in memory: the words that it was handed (block N), the constants (block N + 1, where there are some), room for what it answers (rb), the schedule (wb). -/
structure TX (w wr : World) (H : List Value) (K : Nat → Option Value) (rb wb M : Nat) (G : Nat → Value) : Prop where
  below : Below w.heap.size w wr
  nb : w.heap.size < rb ∧ w.heap.size < wb ∧ rb ≠ wb ∧ wb ≠ w.heap.size + 1 ∨ w.heap.size < rb ∧ w.heap.size < wb ∧ rb ≠ wb ∧ ∀ t, K t = none
  sz : rb < wr.heap.size ∧ wb < wr.heap.size ∧ w.heap.size < wr.heap.size
  h : wr.rangeAt w.heap.size 0 H
  k : ∀ t v, K t = some v → wr.cell? ⟨w.heap.size + 1, t, none⟩ = some v
  res : wr.there rb 0 8
  wth : wr.there wb 0 M
  fill : ∀ j, j < M → wr.cell? ⟨wb, j, none⟩ = some (G j)
theorem TX.drewN {w wr : World} {H : List Value} {K : Nat → Option Value} {rb wb M : Nat} {G : Nat → Value} (h : TX w wr H K rb wb M G) (n : Nat) : TX w (wr.drewN n) H K rb wb M G :=
  ⟨⟨h.below.os, h.below.tape, h.below.output, h.below.size, h.below.block⟩, h.nb, h.sz, h.h, h.k, h.res, h.wth, h.fill⟩
theorem TX.drew {w wr : World} {H : List Value} {K : Nat → Option Value} {rb wb M : Nat} {G : Nat → Value} (h : TX w wr H K rb wb M G) : TX w wr.drew H K rb wb M G :=
  ⟨⟨h.below.os, h.below.tape, h.below.output, h.below.size, h.below.block⟩, h.nb, h.sz, h.h, h.k, h.res, h.wth, h.fill⟩
theorem TX.congr {w wr : World} {H : List Value} {K : Nat → Option Value} {rb wb M : Nat} {G G' : Nat → Value} (h : TX w wr H K rb wb M G) (e : ∀ j, j < M → G j = G' j) : TX w wr H K rb wb M G' :=
  ⟨h.below, h.nb, h.sz, h.h, h.k, h.res, h.wth, fun j hj => by rw [← e j hj]; exact h.fill j hj⟩
theorem setCell_other (w : World) (b o b' o' : Nat) (u : Value) (hne : b' ≠ b) : (w.setCell ⟨b, o, none⟩ u).cell? ⟨b', o', none⟩ = w.cell? ⟨b', o', none⟩ :=
  World.cell?_of_block (w := w) (Below.heap_setCell w ⟨b, o, none⟩ u b' (by simpa using hne))
theorem TX.put {w wr : World} {H : List Value} {K : Nat → Option Value} {rb wb M : Nat} {G : Nat → Value} (h : TX w wr H K rb wb M G) (t : Nat) (ht : t < M) (u : Value) : TX w (wr.setCell ⟨wb, t, none⟩ u) H K rb wb M (fun j => if j = t then u else G j) := by
  have n1 : w.heap.size < rb ∧ w.heap.size < wb ∧ rb ≠ wb := by rcases h.nb with q | q <;> exact ⟨q.1, q.2.1, q.2.2.1⟩
  refine ⟨h.below.setCell (by show _ ≤ wb; omega) u, h.nb, by simpa [World.setCell] using h.sz, fun j v hv => ?_, fun j v hv => ?_, World.there_setCells h.res wb t [u], World.there_setCells h.wth wb t [u], fun j hj => ?_⟩
  · rw [setCell_other wr wb t _ _ u (by omega)]
    exact h.h j v hv
  · rcases h.nb with q | q
    · rw [setCell_other wr wb t _ _ u (by omega)]
      exact h.k j v hv
    · rw [q.2.2.2 j] at hv
      cases hv
  · by_cases e : j = t
    · subst e
      rw [if_pos rfl]
      have := (h.wth j hj).1
      rw [Nat.zero_add] at this
      exact World.cell?_setCell_same' _ _ _ this
    · rw [if_neg e]
      have := World.cell?_setCells_out wb [u] t wr ⟨wb, j, none⟩ (fun _ _ => by show j < t ∨ t + 1 ≤ j; omega)
      exact this.trans (h.fill j hj)
/-- Cells of what was made before lie as they did. -/
theorem cell_alloc_old (w : World) (o : Obj) (b j : Nat) (hb : b < w.heap.size) : (w.alloc o).cell? ⟨b, j, none⟩ = w.cell? ⟨b, j, none⟩ := World.cell?_of_block (w := w) (Below.heap_alloc w o b hb)
theorem there_alloc_old {w : World} {b o n : Nat} (h : w.there b o n) (hb : b < w.heap.size) (ob : Obj) : (w.alloc ob).there b o n := fun j hj => by
  rw [cell_alloc_old w ob b (o + j) hb, World.frozen?_of_block (w := w) (a := ⟨b, o + j, none⟩) (Below.heap_alloc w ob b hb)]
  exact h j hj
theorem range_alloc_old {w : World} {b o : Nat} {cs : List Value} (h : w.rangeAt b o cs) (hb : b < w.heap.size) (ob : Obj) : (w.alloc ob).rangeAt b o cs := fun j v hv => by
  rw [cell_alloc_old w ob b (o + j) hb]
  exact h j v hv
theorem size_alloc (w : World) (o : Obj) : (w.alloc o).heap.size = w.heap.size + 1 := by simp
theorem tx_new4 (w : World) (H Kc Z8 Zw : Array Value) (t1 t2 t3 t4 : TypeId) (K : Nat → Option Value) (M : Nat) (G : Nat → Value) (h8 : Z8.size = 8) (hM : Zw.size = M) (hK : ∀ t v, K t = some v → Kc[t]? = some v) (hG : ∀ j, j < M → Zw[j]? = some (G j)) :
    TX w ((((w.alloc (.cells H t1)).alloc (.cells Kc t2)).alloc (.cells Z8 t3)).alloc (.cells Zw t4)) H.toList K (w.heap.size + 2) (w.heap.size + 3) M G := by
  obtain ⟨w1, e1⟩ : ∃ w1, w1 = w.alloc (.cells H t1) := ⟨_, rfl⟩
  obtain ⟨w2, e2⟩ : ∃ w2, w2 = w1.alloc (.cells Kc t2) := ⟨_, rfl⟩
  obtain ⟨w3, e3⟩ : ∃ w3, w3 = w2.alloc (.cells Z8 t3) := ⟨_, rfl⟩
  have s1 : w1.heap.size = w.heap.size + 1 := by rw [e1, size_alloc]
  have s2 : w2.heap.size = w.heap.size + 2 := by rw [e2, size_alloc, s1]
  have s3 : w3.heap.size = w.heap.size + 3 := by rw [e3, size_alloc, s2]
  rw [← e1, ← e2, ← e3]
  have b1 : Below w.heap.size w w1 := by rw [e1]; exact (Below.refl _ _).alloc (Nat.le_refl _) _
  have b2 : Below w.heap.size w w2 := by rw [e2]; exact b1.alloc (by omega) _
  have b3 : Below w.heap.size w w3 := by rw [e3]; exact b2.alloc (by omega) _
  refine ⟨b3.alloc (by omega) _, .inl (by omega), by rw [size_alloc]; omega, ?_, fun t v hv => ?_, ?_, ?_, fun j hj => ?_⟩
  · have r1 : w1.rangeAt w.heap.size 0 H.toList := by rw [e1]; exact rangeAt_new w H t1
    have r2 : w2.rangeAt w.heap.size 0 H.toList := by rw [e2]; exact range_alloc_old r1 (by omega) _
    have r3 : w3.rangeAt w.heap.size 0 H.toList := by rw [e3]; exact range_alloc_old r2 (by omega) _
    exact range_alloc_old r3 (by omega) _
  · rw [cell_alloc_old w3 _ _ _ (by omega), e3, cell_alloc_old w2 _ _ _ (by omega), e2]
    have := rangeAt_new w1 Kc t2 t v (by simpa using hK t v hv)
    rw [s1, Nat.zero_add] at this
    exact this
  · have := there_new w2 Z8 t3 8 (by omega)
    rw [s2, ← e3] at this
    exact there_alloc_old this (by omega) _
  · have := there_new w3 Zw t4 M (by omega)
    rw [s3] at this
    exact this
  · have := rangeAt_new w3 Zw t4 j (G j) (by simpa using hG j hj)
    rw [s3, Nat.zero_add] at this
    exact this
theorem tx_new3 (w : World) (H Z8 Zw : Array Value) (t1 t3 t4 : TypeId) (M : Nat) (G : Nat → Value) (h8 : Z8.size = 8) (hM : Zw.size = M) (hG : ∀ j, j < M → Zw[j]? = some (G j)) :
    TX w (((w.alloc (.cells H t1)).alloc (.cells Z8 t3)).alloc (.cells Zw t4)) H.toList (fun _ => none) (w.heap.size + 1) (w.heap.size + 2) M G := by
  obtain ⟨w1, e1⟩ : ∃ w1, w1 = w.alloc (.cells H t1) := ⟨_, rfl⟩
  obtain ⟨w2, e2⟩ : ∃ w2, w2 = w1.alloc (.cells Z8 t3) := ⟨_, rfl⟩
  have s1 : w1.heap.size = w.heap.size + 1 := by rw [e1, size_alloc]
  have s2 : w2.heap.size = w.heap.size + 2 := by rw [e2, size_alloc, s1]
  rw [← e1, ← e2]
  have b1 : Below w.heap.size w w1 := by rw [e1]; exact (Below.refl _ _).alloc (Nat.le_refl _) _
  have b2 : Below w.heap.size w w2 := by rw [e2]; exact b1.alloc (by omega) _
  refine ⟨b2.alloc (by omega) _, .inr ⟨by omega, by omega, by omega, fun _ => rfl⟩, by rw [size_alloc]; omega, ?_, fun t v hv => (by cases hv), ?_, ?_, fun j hj => ?_⟩
  · have r1 : w1.rangeAt w.heap.size 0 H.toList := by rw [e1]; exact rangeAt_new w H t1
    have r2 : w2.rangeAt w.heap.size 0 H.toList := by rw [e2]; exact range_alloc_old r1 (by omega) _
    exact range_alloc_old r2 (by omega) _
  · have := there_new w1 Z8 t3 8 (by omega)
    rw [s1, ← e2] at this
    exact there_alloc_old this (by omega) _
  · have := there_new w2 Zw t4 M (by omega)
    rw [s2] at this
    exact this
  · have := rangeAt_new w2 Zw t4 j (G j) (by simpa using hG j hj)
    rw [s2, Nat.zero_add] at this
    exact this
end Go.Proofs.YtoanndhaopgkjaaDoor
