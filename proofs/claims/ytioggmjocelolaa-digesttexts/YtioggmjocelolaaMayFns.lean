import Derived.Test.YtioggmjocelolaaB64Fns
namespace Go.Proofs.Ytioggmjocelolaa

theorem i64_and15 (n : Int) : bits .and .i64 n 15 = n % 16 := by
  have h : (BitVec.ofInt 64 15).toNat = 2 ^ 4 - 1 := by decide
  have key : (BitVec.ofInt 64 n &&& BitVec.ofInt 64 15).toNat = (n % ((2 ^ 64 : Nat) : Int)).toNat % 2 ^ 4 := by
    rw [BitVec.toNat_and, BitVec.toNat_ofInt, h, Nat.and_two_pow_sub_one_eq_mod]
  show IntKind.i64.wrap ((BitVec.ofInt 64 n &&& BitVec.ofInt 64 15).toNat : Nat) = n % 16
  rw [key, IntKind.wrap_i64]
  omega
theorem i64_and3 (n : Int) : bits .and .i64 n 3 = n % 4 := by
  have h : (BitVec.ofInt 64 3).toNat = 2 ^ 2 - 1 := by decide
  have key : (BitVec.ofInt 64 n &&& BitVec.ofInt 64 3).toNat = (n % ((2 ^ 64 : Nat) : Int)).toNat % 2 ^ 2 := by
    rw [BitVec.toNat_and, BitVec.toNat_ofInt, h, Nat.and_two_pow_sub_one_eq_mod]
  show IntKind.i64.wrap ((BitVec.ofInt 64 n &&& BitVec.ofInt 64 3).toNat : Nat) = n % 4
  rw [key, IntKind.wrap_i64]
  omega

/-- May byte c stand at place i of a text in base64 whose byte ahead is p? -/
def mfc (i : Nat) (p c : Int) : Bool :=
  if i = 0 then decide (0 ≤ letV c)
  else if i % 4 = 2 then decide (0 ≤ letV c) || (c == 61 && letV p % 16 == 0)
  else if i % 4 = 3 then (if letV p < 0 then c == 61 else decide (0 ≤ letV c) || (c == 61 && letV p % 4 == 0))
  else decide (0 ≤ letV c) && decide (0 ≤ letV p)
def mf (l : List Int) (i : Nat) : Bool := mfc i (l.getD (i - 1) 0) (l.getD i 0)

/-- What a letter or a filler adds. -/
def mv (c : Int) : Int := max (letV c) 0
theorem mv_range (c : Int) : 0 ≤ mv c ∧ mv c ≤ 63 := by have := letV_range c; unfold mv; omega
def acc (q : List Int) : Nat → Int
  | 0 => 0
  | k + 1 => acc q k * 64 + mv (q.getD k 0)
theorem acc_range (q : List Int) : ∀ k, 0 ≤ acc q k ∧ acc q k < 64 ^ k
  | 0 => by simp [acc]
  | k + 1 => by
    have h := acc_range q k
    have m := mv_range (q.getD k 0)
    have e : (64 : Int) ^ (k + 1) = 64 ^ k * 64 := Int.pow_succ 64 k
    simp only [acc, e]
    omega
theorem orAcc (a b : Int) (a0 : 0 ≤ a) (a1 : a < 262144) (b0 : 0 ≤ b) (b1 : b ≤ 63) : bits .or .i64 (a * 64) b = a * 64 + b :=
  bits_join .i64 63 (by decide) wraps_i64 6 (a * 64) b (by omega) (by omega) (by omega) b0 (by omega) (by omega)
/-- The bytes of four letters. -/
def quadB (q : List Int) : List Int :=
  [acc q 4 / 65536 % 256] ++ ((if q.getD 2 0 = 61 then [] else [acc q 4 / 256 % 256]) ++ (if q.getD 3 0 = 61 then [] else [acc q 4 % 256]))
/-- The bytes of the first j groups of four letters. -/
def unq (l : List Int) : Nat → List Int
  | 0 => []
  | j + 1 => unq l j ++ quadB ((l.drop (4 * j)).take 4)
theorem unq_length (l : List Int) : ∀ j, (unq l j).length ≤ 3 * j
  | 0 => by simp [unq]
  | j + 1 => by
    have h := unq_length l j
    have hq : (quadB ((l.drop (4 * j)).take 4)).length ≤ 3 := by
      unfold quadB
      split <;> split <;> simp
    simp only [unq, List.length_append]
    omega
theorem nums_extract (s : ByteArray) (a b : Nat) : nums (s.extract a b) = ((nums s).drop a).take (b - a) := by
  have h : (s.extract a b).data.toList = (s.data.toList.drop a).take (b - a) := by
    rw [ByteArray.data_extract, Array.toList_extract, List.extract_eq_take_drop]
  rw [nums, h, nums, List.map_take, List.map_drop]
end Go.Proofs.Ytioggmjocelolaa
