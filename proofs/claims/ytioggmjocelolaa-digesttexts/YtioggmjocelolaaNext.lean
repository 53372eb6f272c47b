import Derived.Test.YtioggmjocelolaaBack2
namespace Go.Proofs.Ytioggmjocelolaa

theorem take_four {a b c d : Int} {r : List Int} : (a :: b :: c :: d :: r).take 4 = [a, b, c, d] := rfl
/-- The next four letters, as they are reckoned from three bytes with zeros behind the end. -/
theorem b64_next (xs : List Int) (hb : Bytes xs) (k : Nat) (hk : 3 * k < xs.length) (x y z v : Int) (hx : x = xs.getD (3 * k) 0) (hy : y = xs.getD (3 * k + 1) 0) (hz : z = xs.getD (3 * k + 2) 0) (hv : v = x * 65536 + y * 256 + z) :
    (b64 xs).take (4 * (k + 1)) = (b64 xs).take (4 * k) ++ [letD (v / 262144).toNat, letD (v / 4096 % 64).toNat, if 3 * k + 1 < xs.length then letD (v / 64 % 64).toNat else 61, if 3 * k + 2 < xs.length then letD (v % 64).toNat else 61] := by
  rw [show 4 * (k + 1) = 4 * k + 4 by omega, List.take_add, b64_drop k xs (by omega)]
  congr 1
  have hl : (xs.drop (3 * k)).length = xs.length - 3 * k := List.length_drop
  have hbd := bytes_drop hb (3 * k)
  have hx0 := getD_drop xs (3 * k) 0
  rw [Nat.add_zero] at hx0
  rw [hx0] at hx
  rw [getD_drop] at hy hz
  match hys : xs.drop (3 * k), hl, hbd with
  | [], hl, _ => simp at hl; omega
  | [a], hl, hbd =>
    rw [hys] at hx hy hz
    simp at hx hy hz hl
    have ha := hbd a (by simp)
    subst hx hy hz
    rw [if_neg (by omega), if_neg (by omega), b64, take_four]
    have e1 : v / 262144 = x / 4 := by omega
    have e2 : v / 4096 % 64 = x % 4 * 16 := by omega
    rw [e1, e2]
  | [a, b], hl, hbd =>
    rw [hys] at hx hy hz
    simp at hx hy hz hl
    have ha := hbd a (by simp)
    have hb2 := hbd b (by simp)
    subst hx hy hz
    rw [if_pos (by omega), if_neg (by omega), b64, take_four]
    have e1 : v / 262144 = x / 4 := by omega
    have e2 : v / 4096 % 64 = x % 4 * 16 + y / 16 := by omega
    have e3 : v / 64 % 64 = y % 16 * 4 := by omega
    rw [e1, e2, e3]
  | a :: b :: c :: r, hl, hbd =>
    rw [hys] at hx hy hz
    simp at hx hy hz hl
    subst hx hy hz
    rw [if_pos (by omega), if_pos (by omega), b64, grp, ← hv]
    rfl
theorem b64_all (xs : List Int) (k : Nat) (h : xs.length ≤ 3 * k) : (b64 xs).take (4 * k) = b64 xs :=
  List.take_of_length_le (by rw [b64_length xs.length xs (Nat.le_refl _)]; omega)
end Go.Proofs.Ytioggmjocelolaa
