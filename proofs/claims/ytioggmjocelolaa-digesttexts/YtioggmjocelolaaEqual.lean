import Derived.Test.YtioggmjocelolaaSame
import Derived.Laws.BitsAllLaws
namespace Go.Proofs.Ytioggmjocelolaa
open Go.RowKit

theorem differ_step (z a b : Int) (z0 : 0 ≤ z) (z1 : z < 256) (a0 : 0 ≤ a) (a1 : a < 256) (b0 : 0 ≤ b) (b1 : b < 256) :
    0 ≤ bits .or .u8 z (bits .xor .u8 a b) ∧ bits .or .u8 z (bits .xor .u8 a b) < 256 ∧ (bits .or .u8 z (bits .xor .u8 a b) = 0 ↔ z = 0 ∧ a = b) := by
  rw [u8_xor a b a0 a1 b0 b1]
  have hx : a.toNat ^^^ b.toNat < 2 ^ 8 := Nat.xor_lt_two_pow (by omega) (by omega)
  rw [u8_or _ _ z0 z1 (by omega) (by omega)]
  have ho : z.toNat ||| (a.toNat ^^^ b.toNat) < 2 ^ 8 := Nat.or_lt_two_pow (by omega) hx
  rw [Int.toNat_natCast]
  refine ⟨by omega, by omega, ?_⟩
  have e1 : (z.toNat ||| (a.toNat ^^^ b.toNat) = 0) ↔ (z.toNat = 0 ∧ a.toNat ^^^ b.toNat = 0) := Nat.or_eq_zero_iff
  have e2 : a.toNat ^^^ b.toNat = 0 ↔ a.toNat = b.toNat :=
    ⟨fun h => by have h2 : (a.toNat ^^^ b.toNat) ^^^ b.toNat = 0 ^^^ b.toNat := by rw [h]
                 rw [Nat.xor_assoc, Nat.xor_self, Nat.xor_zero, Nat.zero_xor] at h2
                 exact h2, fun h => by rw [h, Nat.xor_self]⟩
  rw [e2] at e1
  constructor
  · intro h
    have := e1.1 (by omega)
    omega
  · intro h
    have := e1.2 (by omega)
    omega

/-- Numbers that are bytes. -/
def AllBytes (zs : List Int) : Prop := ∀ i, 0 ≤ zs.getD i 0 ∧ zs.getD i 0 < 256

set_option maxHeartbeats 400000 in
theorem equal_core (b1 o1 b2 o2 c1 c2 n : Nat) (xs ys : List Int) (w : World) (hx : xs.length = n) (hy : ys.length = n) (hn : n ≤ 9223372036854775807) (ax : AllBytes xs) (ay : AllBytes ys)
    (h1 : ∀ i, i < n → w.cell? ⟨b1, o1 + i, none⟩ = some (.int .u8 (xs.getD i 0)))
    (h2 : ∀ i, i < n → w.cell? ⟨b2, o2 + i, none⟩ = some (.int .u8 (ys.getD i 0))) :
    Calls Try.prog 9 #[.slice (some ⟨b1, o1, none⟩) n c1, .slice (some ⟨b2, o2, none⟩) n c2] w fun e w' => e = .returned (.bool (decide (xs = ys))) ∧ ∃ m, w' = w.drewN m := by
  have HX : Hid (xs.length = n) := hx
  have HY : Hid (ys.length = n) := hy
  clear hx hy
  go_enter Try.func9, Try.ntmps9
  go_wp2
  go_loopw [5, 14] (fun d i wr => ∃ k : Nat, ∃ z : Int, k ≤ n ∧ i = .int .i64 k ∧ d = .int .u8 z ∧ Hid (0 ≤ z ∧ z < 256 ∧ (z = 0 ↔ ∀ j, j < k → xs.getD j 0 = ys.getD j 0)) ∧ ∃ m, wr = w.drewN m) (fun _ i _ => n - (intOf i).toNat)
  case atStart => exact ⟨0, 0, Nat.zero_le _, rfl, rfl, ⟨by omega, by omega, by simp⟩, 0, rfl⟩
  case round =>
    obtain ⟨k, z, hk, rfl, rfl, HE, m, rfl⟩ := hrel
    by_cases hlt : k < n
    · have g1 := h1 k hlt
      have g2 := h2 k hlt
      clear h1 h2
      go_wp2
      go_quiet (fail)
      go_wp2
      go_roundw
      case rel => 
        refine ⟨k + 1, _, by omega, by go_num, rfl, ?_, _, rfl⟩
        obtain ⟨z0, z1, ze⟩ := HE.out
        have hs := differ_step z (xs.getD k 0) (ys.getD k 0) z0 z1 (ax k).1 (ax k).2 (ay k).1 (ay k).2
        refine ⟨hs.1, hs.2.1, hs.2.2.trans ?_⟩
        rw [ze]
        constructor
        · rintro ⟨h, he⟩ j hj
          by_cases hjk : j < k
          · exact h j hjk
          · obtain rfl : j = k := by omega
            exact he
        · intro h
          exact ⟨fun j hj => h j (by omega), h k (by omega)⟩
      case measure => simp [intOf]; omega
    · go_wp2
      go_ret
      refine ⟨ret_bool ?_, _, rfl⟩
      obtain ⟨z0, z1, ze⟩ := HE.out
      have : z = 0 ↔ xs = ys := by
        rw [ze]
        exact ⟨fun h => ext_getD HX.out HY.out (fun j hj => h j (by omega)), fun h j _ => by rw [h]⟩
      by_cases hz : z = 0
      · simp [hz, this.1 hz]
      · have h2 : xs ≠ ys := fun h => hz (this.2 h)
        simp [hz, h2]

theorem equal_zero (a1 a2 : Option Addr) (c1 c2 : Nat) (w : World) :
    Calls Try.prog 9 #[.slice a1 0 c1, .slice a2 0 c2] w fun e w' => e = .returned (.bool true) ∧ ∃ m, w' = w.drewN m := by
  go_enter Try.func9, Try.ntmps9
  go_wp2
  go_loop [5, 14] (fun d i => d = .int .u8 0 ∧ i = .int .i64 0) (fun _ _ => 0)
  case atStart => exact ⟨rfl, rfl⟩
  case round =>
    obtain ⟨rfl, rfl⟩ := hrel
    go_wp2
    go_ret
    exact ⟨rfl, 0, rfl⟩

theorem equal_unlike (a1 a2 : Option Addr) (l1 l2 c1 c2 : Nat) (w : World) (h : l1 ≠ l2) :
    Calls Try.prog 9 #[.slice a1 l1 c1, .slice a2 l2 c2] w fun e w' => e = .returned (.bool false) ∧ ∃ m, w' = w.drewN m := by
  have hb : ((l1 : Int) != (l2 : Int)) = true := by rw [bne_iff_ne]; omega
  clear h
  go_enter Try.func9, Try.ntmps9
  go_wp2
  go_ret
  exact ⟨rfl, 0, rfl⟩

/-- digest.Equal. -/
theorem equal_any (v1 v2 : Value) (xs ys : List Int) (w : World) (ax : AllBytes xs) (ay : AllBytes ys) (h1 : View w v1 xs) (h2 : View w v2 ys) :
    Calls Try.prog 9 #[v1, v2] w fun e w' => e = .returned (.bool (decide (xs = ys))) ∧ ∃ m, w' = w.drewN m := by
  obtain ⟨a1, c1, rfl, hl1, hm1, _, k1⟩ := h1
  obtain ⟨a2, c2, rfl, hl2, hm2, _, k2⟩ := h2
  by_cases hl : xs.length = ys.length
  · rcases k1 with rfl | ⟨b1, o1, rfl, g1⟩
    · have : ys = [] := List.eq_nil_of_length_eq_zero (by simpa using hl.symm)
      subst this
      simpa using equal_zero a1 a2 c1 c2 w
    · rcases k2 with rfl | ⟨b2, o2, rfl, g2⟩
      · have : xs = [] := List.eq_nil_of_length_eq_zero (by simpa using hl)
        subst this
        simpa using equal_zero _ a2 c1 c2 w
      · rw [← hl]
        exact equal_core b1 o1 b2 o2 c1 c2 xs.length xs ys w rfl hl.symm (by unfold maxLen at hm1; omega) ax ay g1 (by rw [hl]; exact g2)
  · have hne : xs ≠ ys := fun h => hl (by rw [h])
    have hd : decide (xs = ys) = false := by simpa using hne
    rw [hd]
    exact equal_unlike a1 a2 _ _ c1 c2 w hl
end Go.Proofs.Ytioggmjocelolaa
