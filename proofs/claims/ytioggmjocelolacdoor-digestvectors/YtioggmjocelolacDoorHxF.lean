import Derived.Test.YtioggmjocelolacDoorPart00
import Derived.Laws.BytesArg
import Derived.Laws.BitsLemmas
import Derived.Laws.MakeOwn
namespace Go.Proofs.YtioggmjocelolacDoor

/-- A hexadecimal digit's letter. -/
def hexD (n : Nat) : Int := if n < 10 then 48 + n else 87 + n
/-- What Hex writes. -/
def hexBytes : List Int → List Int
  | [] => []
  | z :: r => hexD (z / 16).toNat :: hexD (z % 16).toNat :: hexBytes r
theorem hexBytes_append (a b : List Int) : hexBytes (a ++ b) = hexBytes a ++ hexBytes b := by
  induction a with
  | nil => rfl
  | cons z r ih => simp [hexBytes, ih]
theorem hexBytes_length (a : List Int) : (hexBytes a).length = 2 * a.length := by
  induction a with
  | nil => rfl
  | cons z r ih => simp [hexBytes, ih]; omega
theorem hexD_all : ∀ i : Fin 16, ((((ByteArray.mk #[48, 49, 50, 51, 52, 53, 54, 55, 56, 57, 97, 98, 99, 100, 101, 102])[i.1]'i.2).toNat : Nat) : Int) = hexD i.1 := by decide
theorem hexD_at (i : Nat) (h : i < (ByteArray.mk #[48, 49, 50, 51, 52, 53, 54, 55, 56, 57, 97, 98, 99, 100, 101, 102]).size) :
    ((((ByteArray.mk #[48, 49, 50, 51, 52, 53, 54, 55, 56, 57, 97, 98, 99, 100, 101, 102])[i]'h).toNat : Nat) : Int) = hexD i := hexD_all ⟨i, h⟩
theorem take_snoc (xs : List Int) (k : Nat) (h : k < xs.length) : xs.take (k + 1) = xs.take k ++ [xs.getD k 0] := by
  rw [List.take_succ_eq_append_getElem h]
  simp [List.getD, List.getElem?_eq_getElem h]
theorem strOfNums_nil : strOfNums [] = ByteArray.empty := rfl

/-- What a digit stands for; -1: it is none. -/
def hexV (c : Int) : Int := if 48 ≤ c ∧ c ≤ 57 then c - 48 else if 97 ≤ c ∧ c ≤ 102 then c - 87 else if 65 ≤ c ∧ c ≤ 70 then c - 55 else -1
theorem hexV_range (c : Int) : -1 ≤ hexV c ∧ hexV c ≤ 15 := by unfold hexV; split <;> (try split) <;> (try split) <;> omega
/-- A string's bytes as numbers. -/
def nums (s : ByteArray) : List Int := s.data.toList.map fun b => (b.toNat : Int)
theorem nums_length (s : ByteArray) : (nums s).length = s.size := by
  unfold nums
  rw [List.length_map, Array.length_toList]
  rfl
theorem nums_at (s : ByteArray) (i : Nat) (h : i < s.size) : (nums s).getD i 0 = ((s[i]'h).toNat : Int) := by
  have h' : i < (nums s).length := by rw [nums_length]; exact h
  rw [List.getD_eq_getElem?_getD, List.getElem?_eq_getElem h']
  simp [nums]
  rfl
theorem nums_range (s : ByteArray) (i : Nat) : 0 ≤ (nums s).getD i 0 ∧ (nums s).getD i 0 < 256 := by
  by_cases h : i < s.size
  · rw [nums_at s i h]
    have := (s[i]'h).toNat_lt
    omega
  · rw [List.getD_eq_getElem?_getD, List.getElem?_eq_none (by rw [nums_length]; omega)]
    simp
theorem strOfNums_nums (s : ByteArray) : strOfNums (nums s) = s := by
  have h : (strOfNums (nums s)).data.toList = s.data.toList := by
    rw [strOfNums_data, nums, List.map_map]
    conv => rhs; rw [← List.map_id s.data.toList]
    apply List.map_congr_left
    intro b _
    simp
  have h2 : (strOfNums (nums s)).data = s.data := Array.toList_inj.1 h
  cases s
  cases hh : strOfNums (nums _) with
  | mk d => rw [hh] at h2; simpa using h2
theorem nums_strOfNums (xs : List Int) (h : ∀ x ∈ xs, 0 ≤ x ∧ x < 256) : nums (strOfNums xs) = xs := by
  unfold nums
  rw [strOfNums_data, List.map_map]
  conv => rhs; rw [← List.map_id xs]
  apply List.map_congr_left
  intro x hx
  have := h x hx
  simp
  omega

/-- The first place that is no digit's. -/
def hexFault : List Int → Option Nat
  | [] => none
  | c :: r => if hexV c < 0 then some 0 else (hexFault r).map (· + 1)
def unhex : List Int → List Int
  | a :: b :: r => (hexV a * 16 + hexV b) :: unhex r
  | _ => []

theorem wraps_i64 (n : Int) (h₀ : 0 ≤ n) (h₁ : n < 2 ^ 63) : IntKind.i64.wrap n = n := by rw [IntKind.wrap_i64]; omega
theorem hexPair (a b : Int) (a0 : 0 ≤ a) (a1 : a ≤ 15) (b0 : 0 ≤ b) (b1 : b ≤ 15) : IntKind.u8.wrap (bits .or .i64 (IntKind.i64.wrap (a * 16)) b) = a * 16 + b := by
  rw [wraps_i64 (a * 16) (by omega) (by omega), bits_join .i64 63 (by decide) wraps_i64 4 (a * 16) b (by omega) (by omega) (by omega) b0 (by omega) (by omega), IntKind.wrap_u8]
  omega
theorem unhex_length : ∀ (m : Nat) (l : List Int), l.length = 2 * m → (unhex l).length = m
  | 0, l, h => by
    obtain rfl : l = [] := List.eq_nil_of_length_eq_zero (by omega)
    rfl
  | m + 1, l, h => by
    match l, h with
    | a :: b :: r, h => simp [unhex, unhex_length m r (by simp at h; omega)]
    | [a], h => simp at h; omega
    | [], h => simp at h
theorem unhex_at : ∀ (j : Nat) (l : List Int), 2 * j + 1 < l.length → (unhex l).getD j 0 = hexV (l.getD (2 * j) 0) * 16 + hexV (l.getD (2 * j + 1) 0)
  | 0, l, h => by
    match l, h with
    | a :: b :: r, _ => simp [unhex]
    | [a], h => simp at h
    | [], h => simp at h
  | j + 1, l, h => by
    match l, h with
    | a :: b :: r, h =>
      have := unhex_at j r (by simp at h; omega)
      simp only [unhex, List.getD_cons_succ]
      rw [this, show 2 * (j + 1) = 2 * j + 1 + 1 by omega]
      simp only [List.getD_cons_succ]
    | [a], h => simp at h
    | [], h => simp at h
theorem made_u8 (m : Nat) : (madeCells #[Value.int .u8 0] m).toList = (List.replicate m (0 : Int)).map (Value.int .u8) := by
  apply List.ext_getElem
  · simp [madeCells]
  · intro i h1 h2
    simp [madeCells, Nat.mod_one]
theorem set_zero (xs : List Int) (j p : Nat) (z : Int) (h : xs.length = j) : (xs ++ List.replicate (p + 1) 0).set j z = (xs ++ [z]) ++ List.replicate p 0 := by
  rw [List.set_append_right _ _ (by omega), h, Nat.sub_self, List.replicate_succ, List.set_cons_zero]
  simp
end Go.Proofs.YtioggmjocelolacDoor
