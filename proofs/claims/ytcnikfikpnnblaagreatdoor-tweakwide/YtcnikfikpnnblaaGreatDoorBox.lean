import Derived.Test.YtcnikfikpnnblaaGreatDoorBoth
namespace Go.Proofs.YtcnikfikpnnblaaGreatDoor
open Go.RowKit
set_option linter.unusedVariables false
theorem refTimes (a b : Nat) (ha : a < 256) (hb : b < 256) (w : World) : Calls Tryz.prog 103 #[.int .u8 a, .int .u8 b] w fun e w' => e = .returned (.int .u8 (tmsN 8 0 a b : Nat)) ∧ w' = w := by
 rw [← both_eq a b ha hb]
 exact refTimes_ok a b ha hb w
theorem times_lt {a b : Nat} (ha : a < 256) (hb : b < 256) : tmsN 8 0 a b < 256 := tms_lt 8 0 a b (by decide) ha hb
theorem times_ex (a b : Nat) (ha : a < 256) (hb : b < 256) (w : World) : Calls Tryz.prog 168 #[.int .u8 a, .int .u8 b] w fun e w' => ∃ y : Nat, y < 256 ∧ Hid (y = tmsN 8 0 a b) ∧ e = .returned (.int .u8 y) ∧ w' = w :=
 (times_ok a b ha hb w).mono fun e w' ⟨h1, h2⟩ => ⟨_, times_lt ha hb, rfl, h1, h2⟩
theorem refTimes_ex (a b : Nat) (ha : a < 256) (hb : b < 256) (w : World) : Calls Tryz.prog 103 #[.int .u8 a, .int .u8 b] w fun e w' => ∃ y : Nat, y < 256 ∧ Hid (y = tmsN 8 0 a b) ∧ e = .returned (.int .u8 y) ∧ w' = w :=
 (refTimes a b ha hb w).mono fun e w' ⟨h1, h2⟩ => ⟨_, times_lt ha hb, rfl, h1, h2⟩
theorem rot8_core (x k s : Int) (w : World) (hb : bits .and .u64 (IntKind.u64.wrap k) 7 = s) (h0 : 0 ≤ s) (h1 : s ≤ 8) (h2 : IntKind.u64.wrap (8 - s) = 8 - s) : Calls Tryz.prog 225 #[.int .u8 x, .int .i64 k] w fun e w' => e = .returned (.int .u8 (bits .or .u8 (x * 2 ^ s.toNat % 256) (x / 2 ^ (8 - s).toNat))) ∧ w' = w := by
 have h3 : 0 ≤ 8 - s := by omega
 go_enter Tryz.func225, Tryz.ntmps225
 go_wp2
 go_ret
 exact ⟨rfl, rfl⟩
def rotN (x s : Nat) : Nat := Nat.lor (Nat.mod (Nat.mul x (Nat.pow 2 s)) 256) (Nat.div x (Nat.pow 2 (Nat.sub 8 s)))
theorem rot_all : ∀ x : Fin 256, ∀ s : Fin 8, bits .or .u8 ((x.1 : Int) * 2 ^ s.1 % 256) ((x.1 : Int) / 2 ^ (8 - s.1)) = (rotN x.1 s.1 : Nat) := by decide +kernel
theorem rot_k : ∀ s : Fin 8, bits .and .u64 (IntKind.u64.wrap (s.1 : Int)) 7 = (s.1 : Int) ∧ IntKind.u64.wrap (8 - (s.1 : Int)) = 8 - (s.1 : Int) := by decide +kernel
theorem rot_lt : ∀ x : Fin 256, ∀ s : Fin 8, rotN x.1 s.1 < 256 := by decide +kernel
theorem rot8 {x : Nat} {w : World} (s : Nat) (hx : x < 256) (hs : s < 8) : Calls Tryz.prog 225 #[.int .u8 x, .int .i64 s] w fun e w' => e = .returned (.int .u8 (rotN x s : Nat)) ∧ w' = w := by
 have h := rot8_core x s s w (rot_k ⟨s, hs⟩).1 (by omega) (by omega) (rot_k ⟨s, hs⟩).2
 have e : bits .or .u8 ((x : Int) * 2 ^ (s : Int).toNat % 256) ((x : Int) / 2 ^ (8 - (s : Int)).toNat) = (rotN x s : Nat) := by
  rw [show (8 - (s : Int)).toNat = 8 - s by omega, show (s : Int).toNat = s by omega]
  exact rot_all ⟨x, hx⟩ ⟨s, hs⟩
 rw [e] at h
 exact h
theorem rot_ex {x : Nat} {w : World} (s : Nat) (hx : x < 256) (hs : s < 8) : Calls Tryz.prog 225 #[.int .u8 x, .int .i64 s] w fun e w' => ∃ y : Nat, Hid (y = rotN x s) ∧ e = .returned (.int .u8 y) ∧ w' = w :=
 (rot8 s hx hs).mono fun e w' ⟨h1, h2⟩ => ⟨_, rfl, h1, h2⟩
def sprN (y : Nat) : Nat := Nat.xor (Nat.xor (Nat.xor (Nat.xor (Nat.xor y (rotN y 1)) (rotN y 2)) (rotN y 3)) (rotN y 4)) 99
def gatN (y : Nat) : Nat := Nat.xor (Nat.xor (Nat.xor (rotN y 1) (rotN y 3)) (rotN y 6)) 5
theorem spr_all : ∀ y : Fin 256, bits .xor .u8 (bits .xor .u8 (bits .xor .u8 (bits .xor .u8 (bits .xor .u8 (y.1 : Int) (rotN y.1 1 : Nat)) (rotN y.1 2 : Nat)) (rotN y.1 3 : Nat)) (rotN y.1 4 : Nat)) 99 = (sprN y.1 : Nat) := by decide +kernel
theorem gat_all : ∀ y : Fin 256, bits .xor .u8 (bits .xor .u8 (bits .xor .u8 (rotN y.1 1 : Nat) (rotN y.1 3 : Nat)) (rotN y.1 6 : Nat)) 5 = (gatN y.1 : Nat) := by decide +kernel
theorem spr_lt : ∀ y : Fin 256, sprN y.1 < 256 := by decide +kernel
theorem gat_lt : ∀ y : Fin 256, gatN y.1 < 256 := by decide +kernel
theorem spread_ok (y : Nat) (hy : y < 256) (w : World) : Calls Tryz.prog 167 #[.int .u8 y] w fun e w' => ∃ z : Nat, z < 256 ∧ Hid (z = sprN y) ∧ e = .returned (.int .u8 z) ∧ w' = w := by
 go_enter Tryz.func167, Tryz.ntmps167
 go_wp2_with (first | (go_at_call 225; (refine (rot_ex 1 hy (by decide)).mono ?_)))
 rintro e1 w1 ⟨y1, H1, rfl, hw1⟩
 obtain rfl := hw1.symm
 go_wp2_with (first | (go_at_call 225; (refine (rot_ex 2 hy (by decide)).mono ?_)))
 rintro e1 w1 ⟨y2, H2, rfl, hw1⟩
 obtain rfl := hw1.symm
 go_wp2_with (first | (go_at_call 225; (refine (rot_ex 3 hy (by decide)).mono ?_)))
 rintro e1 w1 ⟨y3, H3, rfl, hw1⟩
 obtain rfl := hw1.symm
 go_wp2_with (first | (go_at_call 225; (refine (rot_ex 4 hy (by decide)).mono ?_)))
 rintro e1 w1 ⟨y4, H4, rfl, hw1⟩
 obtain rfl := hw1.symm
 go_wp2
 go_ret
 refine ⟨sprN y, spr_lt ⟨y, hy⟩, rfl, ret_int ?_, rfl⟩
 rw [H1.out, H2.out, H3.out, H4.out]
 exact spr_all ⟨y, hy⟩
def bitN (y i : Nat) : Nat := Nat.mod (Nat.xor (Nat.xor (Nat.xor (Nat.xor (Nat.xor (y / 2 ^ i) (y / 2 ^ ((i + 4) % 8))) (y / 2 ^ ((i + 5) % 8))) (y / 2 ^ ((i + 6) % 8))) (y / 2 ^ ((i + 7) % 8))) (99 / 2 ^ i)) 2
def sumN (y : Nat) : Nat → Nat
 | 0 => 0
 | i + 1 => sumN y i + bitN y i * 2 ^ i
theorem sum_spr : ∀ y : Fin 256, sumN y.1 8 = sprN y.1 := by decide +kernel
theorem bit_step0 : ∀ y : Fin 256, wrap64 ((sumN y.1 0 : Nat) + wrap64 ((bits .xor .i64 (bits .xor .i64 (bits .xor .i64 (bits .xor .i64 (bits .xor .i64 (y.1 : Int) ((y.1 : Int) / 16)) ((y.1 : Int) / 32)) ((y.1 : Int) / 64)) ((y.1 : Int) / 128)) 99).tmod 2)) = (sumN y.1 1 : Nat) := by decide +kernel
theorem bit_step1 : ∀ y : Fin 256, wrap64 ((sumN y.1 1 : Nat) + wrap64 ((bits .xor .i64 (bits .xor .i64 (bits .xor .i64 (bits .xor .i64 (bits .xor .i64 ((y.1 : Int) / 2) ((y.1 : Int) / 32)) ((y.1 : Int) / 64)) ((y.1 : Int) / 128)) (y.1 : Int)) 49).tmod 2 * 2)) = (sumN y.1 2 : Nat) := by decide +kernel
theorem bit_step2 : ∀ y : Fin 256, wrap64 ((sumN y.1 2 : Nat) + wrap64 ((bits .xor .i64 (bits .xor .i64 (bits .xor .i64 (bits .xor .i64 (bits .xor .i64 ((y.1 : Int) / 4) ((y.1 : Int) / 64)) ((y.1 : Int) / 128)) (y.1 : Int)) ((y.1 : Int) / 2)) 24).tmod 2 * 4)) = (sumN y.1 3 : Nat) := by decide +kernel
theorem bit_step3 : ∀ y : Fin 256, wrap64 ((sumN y.1 3 : Nat) + wrap64 ((bits .xor .i64 (bits .xor .i64 (bits .xor .i64 (bits .xor .i64 (bits .xor .i64 ((y.1 : Int) / 8) ((y.1 : Int) / 128)) (y.1 : Int)) ((y.1 : Int) / 2)) ((y.1 : Int) / 4)) 12).tmod 2 * 8)) = (sumN y.1 4 : Nat) := by decide +kernel
theorem bit_step4 : ∀ y : Fin 256, wrap64 ((sumN y.1 4 : Nat) + wrap64 ((bits .xor .i64 (bits .xor .i64 (bits .xor .i64 (bits .xor .i64 (bits .xor .i64 ((y.1 : Int) / 16) (y.1 : Int)) ((y.1 : Int) / 2)) ((y.1 : Int) / 4)) ((y.1 : Int) / 8)) 6).tmod 2 * 16)) = (sumN y.1 5 : Nat) := by decide +kernel
theorem bit_step5 : ∀ y : Fin 256, wrap64 ((sumN y.1 5 : Nat) + wrap64 ((bits .xor .i64 (bits .xor .i64 (bits .xor .i64 (bits .xor .i64 (bits .xor .i64 ((y.1 : Int) / 32) ((y.1 : Int) / 2)) ((y.1 : Int) / 4)) ((y.1 : Int) / 8)) ((y.1 : Int) / 16)) 3).tmod 2 * 32)) = (sumN y.1 6 : Nat) := by decide +kernel
theorem bit_step6 : ∀ y : Fin 256, wrap64 ((sumN y.1 6 : Nat) + wrap64 ((bits .xor .i64 (bits .xor .i64 (bits .xor .i64 (bits .xor .i64 (bits .xor .i64 ((y.1 : Int) / 64) ((y.1 : Int) / 4)) ((y.1 : Int) / 8)) ((y.1 : Int) / 16)) ((y.1 : Int) / 32)) 1).tmod 2 * 64)) = (sumN y.1 7 : Nat) := by decide +kernel
theorem bit_step7 : ∀ y : Fin 256, wrap64 ((sumN y.1 7 : Nat) + wrap64 ((bits .xor .i64 (bits .xor .i64 (bits .xor .i64 (bits .xor .i64 (bits .xor .i64 ((y.1 : Int) / 128) ((y.1 : Int) / 8)) ((y.1 : Int) / 16)) ((y.1 : Int) / 32)) ((y.1 : Int) / 64)) 0).tmod 2 * 128)) = (sumN y.1 8 : Nat) := by decide +kernel
theorem refBits_ok (y : Nat) (hy : y < 256) (w : World) : Calls Tryz.prog 165 #[.int .i64 y] w fun e w' => ∃ z : Nat, z < 256 ∧ Hid (z = sprN y) ∧ e = .returned (.int .u8 z) ∧ w' = w := by
 go_enter Tryz.func165, Tryz.ntmps165
 go_wp2
 go_loopw [3, 4] (fun vs i wr => ∃ k : Nat, k ≤ 8 ∧ i = .int .i64 k ∧ vs = .int .i64 (sumN y k : Nat) ∧ wr = w) (fun _ i _ => 8 - (intOf i).toNat)
 case atStart => exact ⟨0, by omega, rfl, rfl, rfl⟩
 case round =>
  obtain ⟨k, hk, rfl, rfl, hw⟩ := hrel
  obtain rfl := hw.symm
  have h9 : k = 0 ∨ k = 1 ∨ k = 2 ∨ k = 3 ∨ k = 4 ∨ k = 5 ∨ k = 6 ∨ k = 7 ∨ k = 8 := by omega
  clear hk
  rcases h9 with rfl | rfl | rfl | rfl | rfl | rfl | rfl | rfl | rfl
  ·go_wp2
   exact ⟨⟨1, by omega, rfl, val_eq (bit_step0 ⟨y, hy⟩), trivial⟩, by decide +kernel⟩
  ·go_wp2
   exact ⟨⟨2, by omega, rfl, val_eq (bit_step1 ⟨y, hy⟩), trivial⟩, by decide +kernel⟩
  ·go_wp2
   exact ⟨⟨3, by omega, rfl, val_eq (bit_step2 ⟨y, hy⟩), trivial⟩, by decide +kernel⟩
  ·go_wp2
   exact ⟨⟨4, by omega, rfl, val_eq (bit_step3 ⟨y, hy⟩), trivial⟩, by decide +kernel⟩
  ·go_wp2
   exact ⟨⟨5, by omega, rfl, val_eq (bit_step4 ⟨y, hy⟩), trivial⟩, by decide +kernel⟩
  ·go_wp2
   exact ⟨⟨6, by omega, rfl, val_eq (bit_step5 ⟨y, hy⟩), trivial⟩, by decide +kernel⟩
  ·go_wp2
   exact ⟨⟨7, by omega, rfl, val_eq (bit_step6 ⟨y, hy⟩), trivial⟩, by decide +kernel⟩
  ·go_wp2
   exact ⟨⟨8, by omega, rfl, val_eq (bit_step7 ⟨y, hy⟩), trivial⟩, by decide +kernel⟩
  ·go_wp2
   go_ret
   refine ⟨sprN y, spr_lt ⟨y, hy⟩, rfl, ret_int ?_, rfl⟩
   have h1 := sum_spr ⟨y, hy⟩
   have h2 := spr_lt ⟨y, hy⟩
   simp only at h1 h2
   omega
end Go.Proofs.YtcnikfikpnnblaaGreatDoor
