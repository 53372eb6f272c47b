import Derived.Test.YtioggmjocelolacDoorHxF
import Derived.Lib.Bytealg
import Derived.Laws.BitsAllLaws
namespace Go.Proofs.YtioggmjocelolacDoor

/-- What a letter stands for; -1: it is none. -/
def letV (c : Int) : Int := if 65 ≤ c ∧ c ≤ 90 then c - 65 else if 97 ≤ c ∧ c ≤ 122 then c - 71 else if 48 ≤ c ∧ c ≤ 57 then c + 4 else if c = 43 then 62 else if c = 47 then 63 else -1
def lettersL : List UInt8 := [65, 66, 67, 68, 69, 70, 71, 72, 73, 74, 75, 76, 77, 78, 79, 80, 81, 82, 83, 84, 85, 86, 87, 88, 89, 90, 97, 98, 99, 100, 101, 102, 103, 104, 105, 106, 107, 108, 109, 110, 111, 112, 113, 114, 115, 116, 117, 118, 119, 120, 121, 122, 48, 49, 50, 51, 52, 53, 54, 55, 56, 57, 43, 47]
theorem letV_all : ∀ c : Fin 256, Lib.indexByte lettersL (UInt8.ofNat c.1) = letV (c.1 : Int) := by decide +kernel
theorem letV_at (c : Int) (h0 : 0 ≤ c) (h1 : c < 256) : Lib.indexByte lettersL (UInt8.ofNat c.toNat) = letV c := by
  have h := letV_all ⟨c.toNat, by omega⟩
  have hc : ((c.toNat : Nat) : Int) = c := by omega
  simp only [hc] at h
  exact h
theorem letV_range (c : Int) : -1 ≤ letV c ∧ letV c ≤ 63 := by unfold letV; (repeat' split) <;> omega
/-- The letter of a number below 64. -/
def letD (v : Nat) : Int := if v < 26 then 65 + v else if v < 52 then 71 + v else if v < 62 then (v : Int) - 4 else if v = 62 then 43 else 47
theorem letD_all : ∀ i : Fin 64, (((ByteArray.mk lettersL.toArray)[i.1]'i.2).toNat : Int) = letD i.1 := by decide +kernel
theorem letV_letD : ∀ i : Fin 64, letV (letD i.1) = (i.1 : Int) ∧ letD i.1 ≠ 61 ∧ 0 ≤ letD i.1 ∧ letD i.1 < 256 := by decide +kernel
theorem letD_letV : ∀ c : Fin 256, 0 ≤ letV (c.1 : Int) → letD (letV (c.1 : Int)).toNat = (c.1 : Int) := by decide +kernel

/-- Four letters of three bytes. -/
def grp (v : Int) : List Int := [letD (v / 262144).toNat, letD (v / 4096 % 64).toNat, letD (v / 64 % 64).toNat, letD (v % 64).toNat]
/-- What Base64 writes. -/
def b64 : List Int → List Int
  | a :: b :: c :: r => grp (a * 65536 + b * 256 + c) ++ b64 r
  | [a, b] => [letD (a / 4).toNat, letD (a % 4 * 16 + b / 16).toNat, letD (b % 16 * 4).toNat, 61]
  | [a] => [letD (a / 4).toNat, letD (a % 4 * 16).toNat, 61, 61]
  | [] => []
theorem letD_at (i : Nat) (h : i < (ByteArray.mk #[65, 66, 67, 68, 69, 70, 71, 72, 73, 74, 75, 76, 77, 78, 79, 80, 81, 82, 83, 84, 85, 86, 87, 88, 89, 90, 97, 98, 99, 100, 101, 102, 103, 104, 105, 106, 107, 108, 109, 110, 111, 112, 113, 114, 115, 116, 117, 118, 119, 120, 121, 122, 48, 49, 50, 51, 52, 53, 54, 55, 56, 57, 43, 47]).size) :
    ((((ByteArray.mk #[65, 66, 67, 68, 69, 70, 71, 72, 73, 74, 75, 76, 77, 78, 79, 80, 81, 82, 83, 84, 85, 86, 87, 88, 89, 90, 97, 98, 99, 100, 101, 102, 103, 104, 105, 106, 107, 108, 109, 110, 111, 112, 113, 114, 115, 116, 117, 118, 119, 120, 121, 122, 48, 49, 50, 51, 52, 53, 54, 55, 56, 57, 43, 47])[i]'h).toNat : Nat) : Int) = letD i := letD_all ⟨i, h⟩
/-- The groups of three, up to k of them. -/
def grps (xs : List Int) : Nat → List Int
  | 0 => []
  | k + 1 => grps xs k ++ grp (xs.getD (3 * k) 0 * 65536 + xs.getD (3 * k + 1) 0 * 256 + xs.getD (3 * k + 2) 0)
theorem grps_length (xs : List Int) (k : Nat) : (grps xs k).length = 4 * k := by
  induction k with
  | zero => rfl
  | succ k ih => simp [grps, grp, ih]; omega
theorem grps_cons (a b c : Int) (r : List Int) (k : Nat) : grps (a :: b :: c :: r) (k + 1) = grp (a * 65536 + b * 256 + c) ++ grps r k := by
  induction k with
  | zero => simp [grps]
  | succ k ih =>
    rw [grps, ih, grps, List.append_assoc]
    rfl
theorem b64_split : ∀ (k : Nat) (xs : List Int), 3 * k ≤ xs.length → b64 xs = grps xs k ++ b64 (xs.drop (3 * k))
  | 0, xs, _ => by simp [grps]
  | k + 1, xs, h => by
    match xs, h with
    | a :: b :: c :: r, h =>
      rw [grps_cons, b64, b64_split k r (by simp at h; omega), show 3 * (k + 1) = 3 * k + 1 + 1 + 1 by omega]
      simp
    | [], h => simp at h
    | [a], h => simp at h; omega
    | [a, b], h => simp at h; omega

theorem wraps_u64 (n : Int) (h₀ : 0 ≤ n) (h₁ : n < 2 ^ 63) : IntKind.u64.wrap n = n := by simp [IntKind.wrap, IntKind.bits, IntKind.signed]; omega
theorem orThree (x y z : Int) (x0 : 0 ≤ x) (x1 : x < 256) (y0 : 0 ≤ y) (y1 : y < 256) (z0 : 0 ≤ z) (z1 : z < 256) :
    bits .or .u64 (bits .or .u64 (x * 65536) (y * 256)) z = x * 65536 + y * 256 + z := by
  rw [bits_join .u64 63 (by decide) wraps_u64 16 (x * 65536) (y * 256) (by omega) (by omega) (by omega) (by omega) (by omega) (by omega),
    bits_join .u64 63 (by decide) wraps_u64 8 (x * 65536 + y * 256) z (by omega) (by omega) (by omega) (by omega) (by omega) (by omega)]
theorem and63 (a : Int) (h0 : 0 ≤ a) (h1 : a < 2 ^ 63) : bits .and .u64 a 63 = a % 64 := bits_mask .u64 63 (by decide) wraps_u64 6 (by decide) a h0 h1
theorem and3 (a : Int) (h0 : 0 ≤ a) (h1 : a < 256) : bits .and .u8 a 3 = a % 4 := bits_mask .u8 8 (by decide) wraps_u8 2 (by decide) a h0 h1
theorem and15 (a : Int) (h0 : 0 ≤ a) (h1 : a < 256) : bits .and .u8 a 15 = a % 16 := bits_mask .u8 8 (by decide) wraps_u8 4 (by decide) a h0 h1
theorem orTwo (x y : Int) (y0 : 0 ≤ y) (y1 : y < 256) : bits .or .u8 (x % 4 * 16) (y / 16) = x % 4 * 16 + y / 16 :=
  bits_join .u8 8 (by decide) wraps_u8 4 (x % 4 * 16) (y / 16) (by omega) (by omega) (by omega) (by omega) (by omega) (by omega)
theorem two_of {l : List Int} (h : l.length = 2) : ∃ a b, l = [a, b] := by
  match l, h with
  | [a, b], _ => exact ⟨a, b, rfl⟩
end Go.Proofs.YtioggmjocelolacDoor
