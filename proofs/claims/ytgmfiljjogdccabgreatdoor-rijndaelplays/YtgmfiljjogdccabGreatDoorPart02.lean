import Derived.Test.YtgmfiljjogdccabGreatDoorBoth
import Derived.Deep.RegionHeld3
import Derived.Deep.QuietTactic
import Derived.BigQuiet
import Derived.BigRegion
namespace Go.Proofs.YtgmfiljjogdccabGreatDoor
open Go.RowKit
set_option linter.unusedVariables false
theorem refTimes (a b : Nat) (ha : a < 256) (hb : b < 256) (w : World) : Calls Tryz.prog 10 #[.int .u8 a, .int .u8 b] w fun e w' => e = .returned (.int .u8 (tmsN 8 0 a b : Nat)) ∧ w' = w := by
 rw [← both_eq a b ha hb]
 exact refTimes_ok a b ha hb w
theorem times_lt {a b : Nat} (ha : a < 256) (hb : b < 256) : tmsN 8 0 a b < 256 := tms_lt 8 0 a b (by decide) ha hb
theorem times_ex (a b : Nat) (ha : a < 256) (hb : b < 256) (w : World) : Calls Tryz.prog 63 #[.int .u8 a, .int .u8 b] w fun e w' => ∃ y : Nat, y < 256 ∧ Hid (y = tmsN 8 0 a b) ∧ e = .returned (.int .u8 y) ∧ w' = w :=
 (times_ok a b ha hb w).mono fun e w' ⟨h1, h2⟩ => ⟨_, times_lt ha hb, rfl, h1, h2⟩
theorem refTimes_ex (a b : Nat) (ha : a < 256) (hb : b < 256) (w : World) : Calls Tryz.prog 10 #[.int .u8 a, .int .u8 b] w fun e w' => ∃ y : Nat, y < 256 ∧ Hid (y = tmsN 8 0 a b) ∧ e = .returned (.int .u8 y) ∧ w' = w :=
 (refTimes a b ha hb w).mono fun e w' ⟨h1, h2⟩ => ⟨_, times_lt ha hb, rfl, h1, h2⟩
theorem rot8_core (x k s : Int) (w : World) (hb : bits .and .u64 (IntKind.u64.wrap k) 7 = s) (h0 : 0 ≤ s) (h1 : s ≤ 8) (h2 : IntKind.u64.wrap (8 - s) = 8 - s) : Calls Tryz.prog 92 #[.int .u8 x, .int .i64 k] w fun e w' => e = .returned (.int .u8 (bits .or .u8 (x * 2 ^ s.toNat % 256) (x / 2 ^ (8 - s).toNat))) ∧ w' = w := by
 have h3 : 0 ≤ 8 - s := by omega
 go_enter Tryz.func92, Tryz.ntmps92
 go_wp2
 go_ret
 exact ⟨rfl, rfl⟩
def rotN (x s : Nat) : Nat := Nat.lor (Nat.mod (Nat.mul x (Nat.pow 2 s)) 256) (Nat.div x (Nat.pow 2 (Nat.sub 8 s)))
theorem rot_all : ∀ x : Fin 256, ∀ s : Fin 8, bits .or .u8 ((x.1 : Int) * 2 ^ s.1 % 256) ((x.1 : Int) / 2 ^ (8 - s.1)) = (rotN x.1 s.1 : Nat) := by decide +kernel
theorem rot_k : ∀ s : Fin 8, bits .and .u64 (IntKind.u64.wrap (s.1 : Int)) 7 = (s.1 : Int) ∧ IntKind.u64.wrap (8 - (s.1 : Int)) = 8 - (s.1 : Int) := by decide +kernel
theorem rot_lt : ∀ x : Fin 256, ∀ s : Fin 8, rotN x.1 s.1 < 256 := by decide +kernel
theorem rot8 {x : Nat} {w : World} (s : Nat) (hx : x < 256) (hs : s < 8) : Calls Tryz.prog 92 #[.int .u8 x, .int .i64 s] w fun e w' => e = .returned (.int .u8 (rotN x s : Nat)) ∧ w' = w := by
 have h := rot8_core x s s w (rot_k ⟨s, hs⟩).1 (by omega) (by omega) (rot_k ⟨s, hs⟩).2
 have e : bits .or .u8 ((x : Int) * 2 ^ (s : Int).toNat % 256) ((x : Int) / 2 ^ (8 - (s : Int)).toNat) = (rotN x s : Nat) := by
  rw [show (8 - (s : Int)).toNat = 8 - s by omega, show (s : Int).toNat = s by omega]
  exact rot_all ⟨x, hx⟩ ⟨s, hs⟩
 rw [e] at h
 exact h
theorem rot_ex {x : Nat} {w : World} (s : Nat) (hx : x < 256) (hs : s < 8) : Calls Tryz.prog 92 #[.int .u8 x, .int .i64 s] w fun e w' => ∃ y : Nat, Hid (y = rotN x s) ∧ e = .returned (.int .u8 y) ∧ w' = w :=
 (rot8 s hx hs).mono fun e w' ⟨h1, h2⟩ => ⟨_, rfl, h1, h2⟩
def sprN (y : Nat) : Nat := Nat.xor (Nat.xor (Nat.xor (Nat.xor (Nat.xor y (rotN y 1)) (rotN y 2)) (rotN y 3)) (rotN y 4)) 99
def gatN (y : Nat) : Nat := Nat.xor (Nat.xor (Nat.xor (rotN y 1) (rotN y 3)) (rotN y 6)) 5
theorem spr_all : ∀ y : Fin 256, bits .xor .u8 (bits .xor .u8 (bits .xor .u8 (bits .xor .u8 (bits .xor .u8 (y.1 : Int) (rotN y.1 1 : Nat)) (rotN y.1 2 : Nat)) (rotN y.1 3 : Nat)) (rotN y.1 4 : Nat)) 99 = (sprN y.1 : Nat) := by decide +kernel
theorem gat_all : ∀ y : Fin 256, bits .xor .u8 (bits .xor .u8 (bits .xor .u8 (rotN y.1 1 : Nat) (rotN y.1 3 : Nat)) (rotN y.1 6 : Nat)) 5 = (gatN y.1 : Nat) := by decide +kernel
theorem spr_lt : ∀ y : Fin 256, sprN y.1 < 256 := by decide +kernel
theorem gat_lt : ∀ y : Fin 256, gatN y.1 < 256 := by decide +kernel
theorem spread_ok (y : Nat) (hy : y < 256) (w : World) : Calls Tryz.prog 62 #[.int .u8 y] w fun e w' => ∃ z : Nat, z < 256 ∧ Hid (z = sprN y) ∧ e = .returned (.int .u8 z) ∧ w' = w := by
 go_enter Tryz.func62, Tryz.ntmps62
 go_wp2_with (first | (go_at_call 92; (refine (rot_ex 1 hy (by decide)).mono ?_)))
 rintro e1 w1 ⟨y1, H1, rfl, hw1⟩
 obtain rfl := hw1.symm
 go_wp2_with (first | (go_at_call 92; (refine (rot_ex 2 hy (by decide)).mono ?_)))
 rintro e1 w1 ⟨y2, H2, rfl, hw1⟩
 obtain rfl := hw1.symm
 go_wp2_with (first | (go_at_call 92; (refine (rot_ex 3 hy (by decide)).mono ?_)))
 rintro e1 w1 ⟨y3, H3, rfl, hw1⟩
 obtain rfl := hw1.symm
 go_wp2_with (first | (go_at_call 92; (refine (rot_ex 4 hy (by decide)).mono ?_)))
 rintro e1 w1 ⟨y4, H4, rfl, hw1⟩
 obtain rfl := hw1.symm
 go_wp2
 go_ret
 refine ⟨sprN y, spr_lt ⟨y, hy⟩, rfl, ret_int ?_, rfl⟩
 rw [H1.out, H2.out, H3.out, H4.out]
 exact spr_all ⟨y, hy⟩
def bitN (y i : Nat) : Nat := Nat.mod (Nat.xor (Nat.xor (Nat.xor (Nat.xor (Nat.xor (y / 2 ^ i) (y / 2 ^ ((i + 4) % 8))) (y / 2 ^ ((i + 5) % 8))) (y / 2 ^ ((i + 6) % 8))) (y / 2 ^ ((i + 7) % 8))) (99 / 2 ^ i)) 2
def sumN (y : Nat) : Nat → Nat
 | 0 => 0
 | i + 1 => sumN y i + bitN y i * 2 ^ i
theorem sum_spr : ∀ y : Fin 256, sumN y.1 8 = sprN y.1 := by decide +kernel
theorem bit_step0 : ∀ y : Fin 256, wrap64 ((sumN y.1 0 : Nat) + wrap64 ((bits .xor .i64 (bits .xor .i64 (bits .xor .i64 (bits .xor .i64 (bits .xor .i64 (y.1 : Int) ((y.1 : Int) / 16)) ((y.1 : Int) / 32)) ((y.1 : Int) / 64)) ((y.1 : Int) / 128)) 99).tmod 2)) = (sumN y.1 1 : Nat) := by decide +kernel
theorem bit_step1 : ∀ y : Fin 256, wrap64 ((sumN y.1 1 : Nat) + wrap64 ((bits .xor .i64 (bits .xor .i64 (bits .xor .i64 (bits .xor .i64 (bits .xor .i64 ((y.1 : Int) / 2) ((y.1 : Int) / 32)) ((y.1 : Int) / 64)) ((y.1 : Int) / 128)) (y.1 : Int)) 49).tmod 2 * 2)) = (sumN y.1 2 : Nat) := by decide +kernel
theorem bit_step2 : ∀ y : Fin 256, wrap64 ((sumN y.1 2 : Nat) + wrap64 ((bits .xor .i64 (bits .xor .i64 (bits .xor .i64 (bits .xor .i64 (bits .xor .i64 ((y.1 : Int) / 4) ((y.1 : Int) / 64)) ((y.1 : Int) / 128)) (y.1 : Int)) ((y.1 : Int) / 2)) 24).tmod 2 * 4)) = (sumN y.1 3 : Nat) := by decide +kernel
theorem bit_step3 : ∀ y : Fin 256, wrap64 ((sumN y.1 3 : Nat) + wrap64 ((bits .xor .i64 (bits .xor .i64 (bits .xor .i64 (bits .xor .i64 (bits .xor .i64 ((y.1 : Int) / 8) ((y.1 : Int) / 128)) (y.1 : Int)) ((y.1 : Int) / 2)) ((y.1 : Int) / 4)) 12).tmod 2 * 8)) = (sumN y.1 4 : Nat) := by decide +kernel
theorem bit_step4 : ∀ y : Fin 256, wrap64 ((sumN y.1 4 : Nat) + wrap64 ((bits .xor .i64 (bits .xor .i64 (bits .xor .i64 (bits .xor .i64 (bits .xor .i64 ((y.1 : Int) / 16) (y.1 : Int)) ((y.1 : Int) / 2)) ((y.1 : Int) / 4)) ((y.1 : Int) / 8)) 6).tmod 2 * 16)) = (sumN y.1 5 : Nat) := by decide +kernel
theorem bit_step5 : ∀ y : Fin 256, wrap64 ((sumN y.1 5 : Nat) + wrap64 ((bits .xor .i64 (bits .xor .i64 (bits .xor .i64 (bits .xor .i64 (bits .xor .i64 ((y.1 : Int) / 32) ((y.1 : Int) / 2)) ((y.1 : Int) / 4)) ((y.1 : Int) / 8)) ((y.1 : Int) / 16)) 3).tmod 2 * 32)) = (sumN y.1 6 : Nat) := by decide +kernel
theorem bit_step6 : ∀ y : Fin 256, wrap64 ((sumN y.1 6 : Nat) + wrap64 ((bits .xor .i64 (bits .xor .i64 (bits .xor .i64 (bits .xor .i64 (bits .xor .i64 ((y.1 : Int) / 64) ((y.1 : Int) / 4)) ((y.1 : Int) / 8)) ((y.1 : Int) / 16)) ((y.1 : Int) / 32)) 1).tmod 2 * 64)) = (sumN y.1 7 : Nat) := by decide +kernel
theorem bit_step7 : ∀ y : Fin 256, wrap64 ((sumN y.1 7 : Nat) + wrap64 ((bits .xor .i64 (bits .xor .i64 (bits .xor .i64 (bits .xor .i64 (bits .xor .i64 ((y.1 : Int) / 128) ((y.1 : Int) / 8)) ((y.1 : Int) / 16)) ((y.1 : Int) / 32)) ((y.1 : Int) / 64)) 0).tmod 2 * 128)) = (sumN y.1 8 : Nat) := by decide +kernel
theorem refBits_ok (y : Nat) (hy : y < 256) (w : World) : Calls Tryz.prog 40 #[.int .i64 y] w fun e w' => ∃ z : Nat, z < 256 ∧ Hid (z = sprN y) ∧ e = .returned (.int .u8 z) ∧ w' = w := by
 go_enter Tryz.func40, Tryz.ntmps40
 go_wp2
 go_loopw [3, 4] (fun vs i wr => ∃ k : Nat, k ≤ 8 ∧ i = .int .i64 k ∧ vs = .int .i64 (sumN y k : Nat) ∧ wr = w) (fun _ i _ => 8 - (intOf i).toNat)
 case atStart => exact ⟨0, by omega, rfl, rfl, rfl⟩
 case round =>
  obtain ⟨k, hk, rfl, rfl, hw⟩ := hrel
  obtain rfl := hw.symm
  have h9 : k = 0 ∨ k = 1 ∨ k = 2 ∨ k = 3 ∨ k = 4 ∨ k = 5 ∨ k = 6 ∨ k = 7 ∨ k = 8 := by omega
  clear hk
  rcases h9 with rfl | rfl | rfl | rfl | rfl | rfl | rfl | rfl | rfl
  ·go_wp2
   exact ⟨⟨1, by omega, rfl, val_eq (bit_step0 ⟨y, hy⟩), trivial⟩, by decide +kernel⟩
  ·go_wp2
   exact ⟨⟨2, by omega, rfl, val_eq (bit_step1 ⟨y, hy⟩), trivial⟩, by decide +kernel⟩
  ·go_wp2
   exact ⟨⟨3, by omega, rfl, val_eq (bit_step2 ⟨y, hy⟩), trivial⟩, by decide +kernel⟩
  ·go_wp2
   exact ⟨⟨4, by omega, rfl, val_eq (bit_step3 ⟨y, hy⟩), trivial⟩, by decide +kernel⟩
  ·go_wp2
   exact ⟨⟨5, by omega, rfl, val_eq (bit_step4 ⟨y, hy⟩), trivial⟩, by decide +kernel⟩
  ·go_wp2
   exact ⟨⟨6, by omega, rfl, val_eq (bit_step5 ⟨y, hy⟩), trivial⟩, by decide +kernel⟩
  ·go_wp2
   exact ⟨⟨7, by omega, rfl, val_eq (bit_step6 ⟨y, hy⟩), trivial⟩, by decide +kernel⟩
  ·go_wp2
   exact ⟨⟨8, by omega, rfl, val_eq (bit_step7 ⟨y, hy⟩), trivial⟩, by decide +kernel⟩
  ·go_wp2
   go_ret
   refine ⟨sprN y, spr_lt ⟨y, hy⟩, rfl, ret_int ?_, rfl⟩
   have h1 := sum_spr ⟨y, hy⟩
   have h2 := spr_lt ⟨y, hy⟩
   simp only at h1 h2
   omega
end Go.Proofs.YtgmfiljjogdccabGreatDoor
namespace Go.Proofs.YtgmfiljjogdccabGreatDoor
open Go.RowKit
set_option linter.unusedVariables false
/-- Four bytes as a word, the first one highest. -/
def wd (a b c d : Nat) : Nat := a * 16777216 + b * 65536 + c * 256 + d
theorem wd_lt {a b c d : Nat} (ha : a < 256) (hb : b < 256) (hc : c < 256) (hd : d < 256) : wd a b c d < 4294967296 := by unfold wd; omega
theorem wd0 {a b c d : Nat} (ha : a < 256) (hb : b < 256) (hc : c < 256) (hd : d < 256) : ((wd a b c d : Nat) : Int) / 16777216 % 256 = a := by unfold wd; omega
theorem wd1 {a b c d : Nat} (ha : a < 256) (hb : b < 256) (hc : c < 256) (hd : d < 256) : ((wd a b c d : Nat) : Int) / 65536 % 256 = b := by unfold wd; omega
theorem wd2 {a b c d : Nat} (ha : a < 256) (hb : b < 256) (hc : c < 256) (hd : d < 256) : ((wd a b c d : Nat) : Int) / 256 % 256 = c := by unfold wd; omega
theorem wd3 {a b c d : Nat} (ha : a < 256) (hb : b < 256) (hc : c < 256) (hd : d < 256) : ((wd a b c d : Nat) : Int) % 256 = d := by unfold wd; omega
theorem wraps_u32 (n : Int) (h₀ : 0 ≤ n) (h₁ : n < 2 ^ 32) : IntKind.u32.wrap n = n := by rw [IntKind.wrap_u32]; omega
theorem xor32 (a b : Nat) (ha : a < 4294967296) (hb : b < 4294967296) : bits .xor .u32 (a : Int) b = (Nat.xor a b : Nat) := bits_xor .u32 32 (by decide) wraps_u32 a b ha hb
theorem split8 (a b x y : Nat) (hx : x < 256) (hy : y < 256) : Nat.xor (a * 256 + x) (b * 256 + y) = Nat.xor a b * 256 + Nat.xor x y := by
 have h1 : Nat.xor (a * 256 + x) (b * 256 + y) / 2 ^ 8 = Nat.xor ((a * 256 + x) / 2 ^ 8) ((b * 256 + y) / 2 ^ 8) := Nat.xor_div_two_pow
 have h2 : Nat.xor (a * 256 + x) (b * 256 + y) % 2 ^ 8 = Nat.xor ((a * 256 + x) % 2 ^ 8) ((b * 256 + y) % 2 ^ 8) := Nat.xor_mod_two_pow
 rw [show (a * 256 + x) / 2 ^ 8 = a by omega, show (b * 256 + y) / 2 ^ 8 = b by omega] at h1
 rw [show (a * 256 + x) % 2 ^ 8 = x by omega, show (b * 256 + y) % 2 ^ 8 = y by omega] at h2
 omega
theorem wd_xor (a b c d a' b' c' d' : Nat) (hb : b < 256) (hc : c < 256) (hd : d < 256) (hb' : b' < 256) (hc' : c' < 256) (hd' : d' < 256) :
  Nat.xor (wd a b c d) (wd a' b' c' d') = wd (Nat.xor a a') (Nat.xor b b') (Nat.xor c c') (Nat.xor d d') := by
 have e : ∀ a b c d, wd a b c d = ((a * 256 + b) * 256 + c) * 256 + d := fun a b c d => by unfold wd; omega
 rw [e, e, split8 _ _ _ _ hd hd', split8 _ _ _ _ hc hc', split8 _ _ _ _ hb hb', e]
theorem joins (i x y : Nat) (hx : x % 2 ^ i = 0) (hx1 : x < 4294967296) (hy : y < 2 ^ i) (hi : i ≤ 32) (hxy : x + y < 4294967296) : bits .or .u32 (x : Int) y = ((x + y : Nat) : Int) := by
 have := bits_join .u32 32 (by decide) wraps_u32 i x y (by omega) (by exact_mod_cast hx) (by omega) (by omega) (by exact_mod_cast hy) (by omega)
 simpa using this
theorem word_ok (a b c d : Nat) (ha : a < 256) (hb : b < 256) (hc : c < 256) (hd : d < 256) (w : World) : Calls Tryz.prog 91 #[.int .u8 a, .int .u8 b, .int .u8 c, .int .u8 d] w fun e w' => e = .returned (.int .u32 (wd a b c d : Nat)) ∧ w' = w := by
 go_enter Tryz.func91, Tryz.ntmps91
 go_wp2
 go_ret
 refine ⟨ret_int ?_, rfl⟩
 have e1 := joins 24 (a * 16777216) (b * 65536) (by omega) (by omega) (by omega) (by omega) (by omega)
 have e2 := joins 16 (a * 16777216 + b * 65536) (c * 256) (by omega) (by omega) (by omega) (by omega) (by omega)
 have e3 := joins 8 (a * 16777216 + b * 65536 + c * 256) d (by omega) (by omega) (by omega) (by omega) (by omega)
 rw [show ((a : Int) * 16777216) = ((a * 16777216 : Nat) : Int) by omega, show ((b : Int) * 65536) = ((b * 65536 : Nat) : Int) by omega, show ((c : Int) * 256) = ((c * 256 : Nat) : Int) by omega, e1, e2, e3]
 unfold wd
 omega
theorem rot32_core (x k s : Int) (w : World) (hb : bits .and .u64 (IntKind.u64.wrap k) 31 = s) (h0 : 0 ≤ s) (h1 : s ≤ 32) (hs : IntKind.u64.wrap (32 - s) = 32 - s) : Calls Tryz.prog 39 #[.int .u32 x, .int .i64 k] w fun e w' => e = .returned (.int .u32 (bits .or .u32 (x * 2 ^ s.toNat % 4294967296) (x / 2 ^ (32 - s).toNat))) ∧ w' = w := by
 have h2 : 0 ≤ 32 - s := by omega
 go_enter Tryz.func39, Tryz.ntmps39
 go_wp2
 go_ret
 exact ⟨rfl, rfl⟩
theorem rotr8 {a b c d : Nat} {w : World} (ha : a < 256) (hb : b < 256) (hc : c < 256) (hd : d < 256) : Calls Tryz.prog 39 #[.int .u32 (wd a b c d : Nat), .int .i64 (-8)] w fun e w' => e = .returned (.int .u32 (wd d a b c : Nat)) ∧ w' = w := by
 have h := rot32_core (wd a b c d : Nat) (-8) 24 w (by decide +kernel) (by decide) (by decide) (by decide +kernel)
 refine h.mono fun e w' ⟨h1, h2⟩ => ⟨h1.trans (ret_int ?_), h2⟩
 rw [show (24 : Int).toNat = 24 from rfl, show ((32 : Int) - 24).toNat = 8 from rfl]
 have := joins 24 (d * 16777216) (a * 65536 + b * 256 + c) (by omega) (by omega) (by omega) (by omega) (by omega)
 rw [show ((wd a b c d : Nat) : Int) * 2 ^ 24 % 4294967296 = ((d * 16777216 : Nat) : Int) by unfold wd; omega, show ((wd a b c d : Nat) : Int) / 2 ^ 8 = ((a * 65536 + b * 256 + c : Nat) : Int) by unfold wd; omega, this]
 unfold wd
 omega
theorem rotr16 {a b c d : Nat} {w : World} (ha : a < 256) (hb : b < 256) (hc : c < 256) (hd : d < 256) : Calls Tryz.prog 39 #[.int .u32 (wd a b c d : Nat), .int .i64 (-16)] w fun e w' => e = .returned (.int .u32 (wd c d a b : Nat)) ∧ w' = w := by
 have h := rot32_core (wd a b c d : Nat) (-16) 16 w (by decide +kernel) (by decide) (by decide) (by decide +kernel)
 refine h.mono fun e w' ⟨h1, h2⟩ => ⟨h1.trans (ret_int ?_), h2⟩
 rw [show (16 : Int).toNat = 16 from rfl, show ((32 : Int) - 16).toNat = 16 from rfl]
 have := joins 16 (c * 16777216 + d * 65536) (a * 256 + b) (by omega) (by omega) (by omega) (by omega) (by omega)
 rw [show ((wd a b c d : Nat) : Int) * 2 ^ 16 % 4294967296 = ((c * 16777216 + d * 65536 : Nat) : Int) by unfold wd; omega, show ((wd a b c d : Nat) : Int) / 2 ^ 16 = ((a * 256 + b : Nat) : Int) by unfold wd; omega, this]
 unfold wd
 omega
theorem rotr24 {a b c d : Nat} {w : World} (ha : a < 256) (hb : b < 256) (hc : c < 256) (hd : d < 256) : Calls Tryz.prog 39 #[.int .u32 (wd a b c d : Nat), .int .i64 (-24)] w fun e w' => e = .returned (.int .u32 (wd b c d a : Nat)) ∧ w' = w := by
 have h := rot32_core (wd a b c d : Nat) (-24) 8 w (by decide +kernel) (by decide) (by decide) (by decide +kernel)
 refine h.mono fun e w' ⟨h1, h2⟩ => ⟨h1.trans (ret_int ?_), h2⟩
 rw [show (8 : Int).toNat = 8 from rfl, show ((32 : Int) - 8).toNat = 24 from rfl]
 have := joins 8 (b * 16777216 + c * 65536 + d * 256) (a) (by omega) (by omega) (by omega) (by omega) (by omega)
 rw [show ((wd a b c d : Nat) : Int) * 2 ^ 8 % 4294967296 = ((b * 16777216 + c * 65536 + d * 256 : Nat) : Int) by unfold wd; omega, show ((wd a b c d : Nat) : Int) / 2 ^ 24 = ((a : Nat) : Int) by unfold wd; omega, this]
 unfold wd
 omega
theorem rotl8 {a b c d : Nat} {w : World} (ha : a < 256) (hb : b < 256) (hc : c < 256) (hd : d < 256) : Calls Tryz.prog 39 #[.int .u32 (wd a b c d : Nat), .int .i64 (8)] w fun e w' => e = .returned (.int .u32 (wd b c d a : Nat)) ∧ w' = w := by
 have h := rot32_core (wd a b c d : Nat) (8) 8 w (by decide +kernel) (by decide) (by decide) (by decide +kernel)
 refine h.mono fun e w' ⟨h1, h2⟩ => ⟨h1.trans (ret_int ?_), h2⟩
 rw [show (8 : Int).toNat = 8 from rfl, show ((32 : Int) - 8).toNat = 24 from rfl]
 have := joins 8 (b * 16777216 + c * 65536 + d * 256) (a) (by omega) (by omega) (by omega) (by omega) (by omega)
 rw [show ((wd a b c d : Nat) : Int) * 2 ^ 8 % 4294967296 = ((b * 16777216 + c * 65536 + d * 256 : Nat) : Int) by unfold wd; omega, show ((wd a b c d : Nat) : Int) / 2 ^ 24 = ((a : Nat) : Int) by unfold wd; omega, this]
 unfold wd
 omega
/-- S and its inverse, out of one number each. -/
def SB (b : Nat) : Nat := Nat.mod (Nat.shiftRight 2869618975290639062594974519597816386035077209210385677284518162336985023502962151465775969507961862820568736543004676439868535775640188584098917533413284844376797297285941524888791401501466624530423689326528054213168201056672989590893583853414110162539122864583953358348775951166211353578440977400428507475679327181038682772945817200201960445064847785221508011893952350688324234443749897213621340677040612747745615276448919507935121141307752692835344166708617454322778699219895865633266409040561742768581056182730443599545881830075941537620590442514083341749674612746994879540562701631131184186066652929592955206755 (Nat.mul 8 b)) 256
def UB (b : Nat) : Nat := Nat.mod (Nat.shiftRight 15785769749828884342349381641981096363179738000380205650940338083111619982568718420166261191398703005748170232611805704157196303061330872280026969925224128193193768962594508714770967646139604422718174787315048227180018877623049221087186576642191304514338137614235628241783007805847129270530950856841486400764657112140097236091222567730363620332611309375046737430203438830593833719428588466121688739068564421474273450162064709239629809347626728710072303178617319436726577534667237755444692000788692193415136619289353224918429728194544458916874716857284226411602766869706570927007876872095880586785662942963508062062930 (Nat.mul 8 b)) 256
theorem SB_lt (b : Nat) : SB b < 256 := Nat.mod_lt _ (by decide)
theorem UB_lt (b : Nat) : UB b < 256 := Nat.mod_lt _ (by decide)
theorem UB_SB : ∀ b : Fin 256, UB (SB b.1) = b.1 ∧ SB (UB b.1) = b.1 := by decide +kernel
/-- Products by 3, 9, 11, 13, 14. -/
def x2 (a : Nat) : Nat := dblN a
def x3 (a : Nat) : Nat := Nat.xor (dblN a) a
def x9 (a : Nat) : Nat := Nat.xor (dblN (dblN (dblN a))) a
def x11 (a : Nat) : Nat := Nat.xor (Nat.xor (dblN (dblN (dblN a))) (dblN a)) a
def x13 (a : Nat) : Nat := Nat.xor (Nat.xor (dblN (dblN (dblN a))) (dblN (dblN a))) a
def x14 (a : Nat) : Nat := Nat.xor (Nat.xor (dblN (dblN (dblN a))) (dblN (dblN a))) (dblN a)
theorem x_lt : ∀ a : Fin 256, x2 a.1 < 256 ∧ x3 a.1 < 256 ∧ x9 a.1 < 256 ∧ x11 a.1 < 256 ∧ x13 a.1 < 256 ∧ x14 a.1 < 256 := by decide +kernel
/-- The columns' tables. -/
def MX (b : Nat) : Nat := wd (x2 (SB b)) (SB b) (SB b) (x3 (SB b))
def UX (b : Nat) : Nat := wd (x14 b) (x9 b) (x13 b) (x11 b)
/-- A column through S and multiplied; one multiplied backwards. -/
def M8 (b : Nat) : Nat := wd (x3 (SB b)) (x2 (SB b)) (SB b) (SB b)
def M16 (b : Nat) : Nat := wd (SB b) (x3 (SB b)) (x2 (SB b)) (SB b)
def M24 (b : Nat) : Nat := wd (SB b) (SB b) (x3 (SB b)) (x2 (SB b))
def U8 (b : Nat) : Nat := wd (x11 b) (x14 b) (x9 b) (x13 b)
def U16 (b : Nat) : Nat := wd (x13 b) (x11 b) (x14 b) (x9 b)
def U24 (b : Nat) : Nat := wd (x9 b) (x13 b) (x11 b) (x14 b)
def mixc (a b c d : Nat) : Nat := Nat.xor (Nat.xor (Nat.xor (MX a) (M8 b)) (M16 c)) (M24 d)
def unmc (a b c d : Nat) : Nat := Nat.xor (Nat.xor (Nat.xor (UX a) (U8 b)) (U16 c)) (U24 d)
/-- The tables of a cipher at g, o. -/
structure Tab (w : World) (g o : Nat) : Prop where
 s : ∀ b, b < 256 → w.cell? ⟨g, o + 61 + b, none⟩ = some (.int .u8 (SB b : Nat))
 u : ∀ b, b < 256 → w.cell? ⟨g, o + 317 + b, none⟩ = some (.int .u8 (UB b : Nat))
 m : ∀ b, b < 256 → w.cell? ⟨g, o + 573 + b, none⟩ = some (.int .u32 (MX b : Nat))
 n : ∀ b, b < 256 → w.cell? ⟨g, o + 829 + b, none⟩ = some (.int .u32 (UX b : Nat))
end Go.Proofs.YtgmfiljjogdccabGreatDoor
