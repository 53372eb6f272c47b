import Derived.Test.YtffejkfkkciaaaaEsa
import Derived.Deep.QuietTactic
import Derived.BigQuiet
import Derived.Deep.Draws
import Derived.Test.YtffejkfkkciaaaaBld
import Derived.Laws.BitsAllLaws
namespace Go.Proofs.Ytffejkfkkciaaaa
open Go.RowKit

/-- The consonants, the vowels. -/
def conU (i : Nat) : UInt8 := ([98, 100, 102, 103, 104, 106, 107, 108, 109, 110, 112, 114, 115, 116, 118, 122] : List UInt8).getD i 0
def vowU (i : Nat) : UInt8 := ([97, 105, 111, 117] : List UInt8).getD i 0
theorem con_all : ∀ i : Fin 16, (((ByteArray.mk #[98, 100, 102, 103, 104, 106, 107, 108, 109, 110, 112, 114, 115, 116, 118, 122])[i.1]'i.2).toNat : Int) = ((conU i.1).toNat : Int) := by decide +kernel
theorem vow_all : ∀ i : Fin 4, (((ByteArray.mk #[97, 105, 111, 117])[i.1]'i.2).toNat : Int) = ((vowU i.1).toNat : Int) := by decide +kernel
theorem con_at (i : Nat) (h : i < (ByteArray.mk #[98, 100, 102, 103, 104, 106, 107, 108, 109, 110, 112, 114, 115, 116, 118, 122]).size) :
    ((((ByteArray.mk #[98, 100, 102, 103, 104, 106, 107, 108, 109, 110, 112, 114, 115, 116, 118, 122])[i]'h).toNat : Nat) : Int) = ((conU i).toNat : Int) := con_all ⟨i, h⟩
theorem vow_at (i : Nat) (h : i < (ByteArray.mk #[97, 105, 111, 117]).size) :
    ((((ByteArray.mk #[97, 105, 111, 117])[i]'h).toNat : Nat) : Int) = ((vowU i).toNat : Int) := vow_all ⟨i, h⟩
/-- The word of a number. -/
def word (v : Int) : List UInt8 := [conU (v / 4096).toNat, vowU (v / 1024 % 4).toNat, conU (v / 64 % 16).toNat, vowU (v / 16 % 4).toNat, conU (v % 16).toNat]
/-- The words of the first k pairs of bytes. -/
def wl (xs : List Int) : Nat → List UInt8
  | 0 => []
  | k + 1 => wl xs k ++ ((if k = 0 then [] else [32]) ++ word (xs.getD (2 * k) 0 * 256 + xs.getD (2 * k + 1) 0))
theorem wl_length (xs : List Int) (k : Nat) : (wl xs k).length ≤ 6 * k := by
  induction k with
  | zero => simp [wl]
  | succ k ih =>
    simp only [wl, List.length_append, word]
    split <;> simp <;> omega

theorem wraps_u16' (n : Int) (h₀ : 0 ≤ n) (h₁ : n < 2 ^ 16) : IntKind.u16.wrap n = n := by simp [IntKind.wrap, IntKind.bits, IntKind.signed]; omega
theorem or16 (x y : Int) (x0 : 0 ≤ x) (x1 : x < 256) (y0 : 0 ≤ y) (y1 : y < 256) : bits .or .u16 (x * 256) y = x * 256 + y :=
  bits_join .u16 16 (by decide) wraps_u16' 8 (x * 256) y (by omega) (by omega) (by omega) (by omega) (by omega) (by omega)
theorem and16_3 (a : Int) (h0 : 0 ≤ a) (h1 : a < 65536) : bits .and .u16 a 3 = a % 4 := bits_mask .u16 16 (by decide) wraps_u16' 2 (by decide) a h0 h1
theorem and16_15 (a : Int) (h0 : 0 ≤ a) (h1 : a < 65536) : bits .and .u16 a 15 = a % 16 := bits_mask .u16 16 (by decide) wraps_u16' 4 (by decide) a h0 h1

set_option maxHeartbeats 400000 in
theorem number_ok (g o m c : Nat) (x y : Int) (w : World) (hm : 2 ≤ m) (x0 : 0 ≤ x) (x1 : x < 256) (y0 : 0 ≤ y) (y1 : y < 256)
    (h1 : w.cell? ⟨g, o, none⟩ = some (.int .u8 x)) (h2 : w.cell? ⟨g, o + 1, none⟩ = some (.int .u8 y)) :
    Calls Try.prog 30 #[.slice (some ⟨g, o, none⟩) m c] w fun e w' => e = .returned (.int .u16 (x * 256 + y)) ∧ ∃ k, w' = w.drewN k := by
  have q0 : (0 : Int) < (m : Int) := by omega
  have q1 : (1 : Int) < (m : Int) := by omega
  have ho := or16 x y x0 x1 y0 y1
  go_enter Try.func30, Try.ntmps30
  go_wp2
  go_quiet (fail)
  go_wp2
  go_ret
  exact ⟨rfl, _, rfl⟩

set_option maxHeartbeats 1000000 in
set_option maxRecDepth 100000 in
/-- escrow.writeWord. -/
theorem writeWord_ok (B b : Nat) (bs : List Value) (v : Int) (w : World) (v0 : 0 ≤ v) (v1 : v < 65536) (h : Lib.IsBuilder 64 5 B b bs w) (hlen : bs.length + 5 ≤ 140737488355328) (hBw : B ≤ w.heap.size) :
    Calls Try.prog 29 #[.pointer (some ⟨b, 0, none⟩), .int .u16 v] w fun e w' => e = .returned (.tuple #[]) ∧ (Lib.BuilderAt 64 5 B b (.pointer (some ⟨b, 0, none⟩)) (bs ++ Lib.byteCells (word v)) w' ∧ Below B w w') := by
  have hC := con_at
  have hV := vow_at
  have a1 := and16_3 (v / 1024) (by omega) (by omega)
  have a2 := and16_15 (v / 64) (by omega) (by omega)
  have a3 := and16_3 (v / 16) (by omega) (by omega)
  have a4 := and16_15 v (by omega) (by omega)
  have b0 : 0 ≤ v / 4096 := by omega
  have b1 : v / 4096 < 16 := by omega
  have b2 : 0 ≤ v / 1024 % 4 := by omega
  have b3 : v / 1024 % 4 < 4 := by omega
  have b4 : 0 ≤ v / 64 % 16 := by omega
  have b5 : v / 64 % 16 < 16 := by omega
  have b6 : 0 ≤ v / 16 % 4 := by omega
  have b7 : v / 16 % 4 < 4 := by omega
  have b8 : 0 ≤ v % 16 := by omega
  have b9 : v % 16 < 16 := by omega
  go_enter Try.func29, Try.ntmps29
  go_wp2_with (go_at_call 28; refine (writeByte_ok B b _ ((conU (v / 4096).toNat).toNat : Int) _ h (by simp; omega) hBw).mono ?_)
  rintro e w1 ⟨rfl, h1, g1⟩
  have k1 := g1
  clear g1
  go_wp2_with (go_at_call 28; refine (writeByte_ok B b _ ((vowU (v / 1024 % 4).toNat).toNat : Int) _ (.inr h1) (by simp; omega) (by have := k1.size; omega)).mono ?_)
  rintro e w2 ⟨rfl, h2, g2⟩
  have k2 := k1.trans g2
  clear g2 k1 h1
  go_wp2_with (go_at_call 28; refine (writeByte_ok B b _ ((conU (v / 64 % 16).toNat).toNat : Int) _ (.inr h2) (by simp; omega) (by have := k2.size; omega)).mono ?_)
  rintro e w3 ⟨rfl, h3, g3⟩
  have k3 := k2.trans g3
  clear g3 k2 h2
  go_wp2_with (go_at_call 28; refine (writeByte_ok B b _ ((vowU (v / 16 % 4).toNat).toNat : Int) _ (.inr h3) (by simp; omega) (by have := k3.size; omega)).mono ?_)
  rintro e w4 ⟨rfl, h4, g4⟩
  have k4 := k3.trans g4
  clear g4 k3 h3
  go_wp2_with (go_at_call 28; refine (writeByte_ok B b _ ((conU (v % 16).toNat).toNat : Int) _ (.inr h4) (by simp; omega) (by have := k4.size; omega)).mono ?_)
  rintro e w5 ⟨rfl, h5, g5⟩
  have k5 := k4.trans g5
  clear g5 k4 h4
  go_wp2
  go_end0
  refine ⟨rfl, ?_, k5⟩
  simpa [Lib.byteCells, word, List.append_assoc] using h5
end Go.Proofs.Ytffejkfkkciaaaa
