import Derived.Test.YtcnikfikpnnblaaGreatDoorPart02
import Derived.Deep.RegionHeld3
import Derived.Deep.QuietTactic
import Derived.BigQuiet
import Derived.BigRegion
import Derived.Test.YtcnikfikpnnblaaGreatDoorPart04
namespace Go.Proofs.YtcnikfikpnnblaaGreatDoor
open Go.RowKit
set_option linter.unusedVariables false
theorem refTimes (a b : Nat) (ha : a < 256) (hb : b < 256) (w : World) : Calls Tryz.prog 103 #[.int .u8 a, .int .u8 b] w fun e w' => e = .returned (.int .u8 (tmsN 8 0 a b : Nat)) ∧ w' = w := by
 rw [← both_eq a b ha hb]
 exact refTimes_ok a b ha hb w
theorem times_lt {a b : Nat} (ha : a < 256) (hb : b < 256) : tmsN 8 0 a b < 256 := tms_lt 8 0 a b (by decide) ha hb
theorem times_ex (a b : Nat) (ha : a < 256) (hb : b < 256) (w : World) : Calls Tryz.prog 168 #[.int .u8 a, .int .u8 b] w fun e w' => ∃ y : Nat, y < 256 ∧ Hid (y = tmsN 8 0 a b) ∧ e = .returned (.int .u8 y) ∧ w' = w :=
 (times_ok a b ha hb w).mono fun e w' ⟨h1, h2⟩ => ⟨_, times_lt ha hb, rfl, h1, h2⟩
theorem refTimes_ex (a b : Nat) (ha : a < 256) (hb : b < 256) (w : World) : Calls Tryz.prog 103 #[.int .u8 a, .int .u8 b] w fun e w' => ∃ y : Nat, y < 256 ∧ Hid (y = tmsN 8 0 a b) ∧ e = .returned (.int .u8 y) ∧ w' = w :=
 (refTimes a b ha hb w).mono fun e w' ⟨h1, h2⟩ => ⟨_, times_lt ha hb, rfl, h1, h2⟩
theorem rot8_core (x k s : Int) (w : World) (hb : bits .and .u64 (IntKind.u64.wrap k) 7 = s) (h0 : 0 ≤ s) (h1 : s ≤ 8) (h2 : IntKind.u64.wrap (8 - s) = 8 - s) : Calls Tryz.prog 225 #[.int .u8 x, .int .i64 k] w fun e w' => e = .returned (.int .u8 (bits .or .u8 (x * 2 ^ s.toNat % 256) (x / 2 ^ (8 - s).toNat))) ∧ w' = w := by
 have h3 : 0 ≤ 8 - s := by omega
 go_enter Tryz.func225, Tryz.ntmps225
 go_wp2
 go_ret
 exact ⟨rfl, rfl⟩
def rotN (x s : Nat) : Nat := Nat.lor (Nat.mod (Nat.mul x (Nat.pow 2 s)) 256) (Nat.div x (Nat.pow 2 (Nat.sub 8 s)))
theorem rot_all : ∀ x : Fin 256, ∀ s : Fin 8, bits .or .u8 ((x.1 : Int) * 2 ^ s.1 % 256) ((x.1 : Int) / 2 ^ (8 - s.1)) = (rotN x.1 s.1 : Nat) := by decide +kernel
theorem rot_k : ∀ s : Fin 8, bits .and .u64 (IntKind.u64.wrap (s.1 : Int)) 7 = (s.1 : Int) ∧ IntKind.u64.wrap (8 - (s.1 : Int)) = 8 - (s.1 : Int) := by decide +kernel
theorem rot_lt : ∀ x : Fin 256, ∀ s : Fin 8, rotN x.1 s.1 < 256 := by decide +kernel
theorem rot8 {x : Nat} {w : World} (s : Nat) (hx : x < 256) (hs : s < 8) : Calls Tryz.prog 225 #[.int .u8 x, .int .i64 s] w fun e w' => e = .returned (.int .u8 (rotN x s : Nat)) ∧ w' = w := by
 have h := rot8_core x s s w (rot_k ⟨s, hs⟩).1 (by omega) (by omega) (rot_k ⟨s, hs⟩).2
 have e : bits .or .u8 ((x : Int) * 2 ^ (s : Int).toNat % 256) ((x : Int) / 2 ^ (8 - (s : Int)).toNat) = (rotN x s : Nat) := by
  rw [show (8 - (s : Int)).toNat = 8 - s by omega, show (s : Int).toNat = s by omega]
  exact rot_all ⟨x, hx⟩ ⟨s, hs⟩
 rw [e] at h
 exact h
theorem rot_ex {x : Nat} {w : World} (s : Nat) (hx : x < 256) (hs : s < 8) : Calls Tryz.prog 225 #[.int .u8 x, .int .i64 s] w fun e w' => ∃ y : Nat, Hid (y = rotN x s) ∧ e = .returned (.int .u8 y) ∧ w' = w :=
 (rot8 s hx hs).mono fun e w' ⟨h1, h2⟩ => ⟨_, rfl, h1, h2⟩
def sprN (y : Nat) : Nat := Nat.xor (Nat.xor (Nat.xor (Nat.xor (Nat.xor y (rotN y 1)) (rotN y 2)) (rotN y 3)) (rotN y 4)) 99
def gatN (y : Nat) : Nat := Nat.xor (Nat.xor (Nat.xor (rotN y 1) (rotN y 3)) (rotN y 6)) 5
theorem spr_all : ∀ y : Fin 256, bits .xor .u8 (bits .xor .u8 (bits .xor .u8 (bits .xor .u8 (bits .xor .u8 (y.1 : Int) (rotN y.1 1 : Nat)) (rotN y.1 2 : Nat)) (rotN y.1 3 : Nat)) (rotN y.1 4 : Nat)) 99 = (sprN y.1 : Nat) := by decide +kernel
theorem gat_all : ∀ y : Fin 256, bits .xor .u8 (bits .xor .u8 (bits .xor .u8 (rotN y.1 1 : Nat) (rotN y.1 3 : Nat)) (rotN y.1 6 : Nat)) 5 = (gatN y.1 : Nat) := by decide +kernel
theorem spr_lt : ∀ y : Fin 256, sprN y.1 < 256 := by decide +kernel
theorem gat_lt : ∀ y : Fin 256, gatN y.1 < 256 := by decide +kernel
theorem spread_ok (y : Nat) (hy : y < 256) (w : World) : Calls Tryz.prog 167 #[.int .u8 y] w fun e w' => ∃ z : Nat, z < 256 ∧ Hid (z = sprN y) ∧ e = .returned (.int .u8 z) ∧ w' = w := by
 go_enter Tryz.func167, Tryz.ntmps167
 go_wp2_with (first | (go_at_call 225; (refine (rot_ex 1 hy (by decide)).mono ?_)))
 rintro e1 w1 ⟨y1, H1, rfl, hw1⟩
 obtain rfl := hw1.symm
 go_wp2_with (first | (go_at_call 225; (refine (rot_ex 2 hy (by decide)).mono ?_)))
 rintro e1 w1 ⟨y2, H2, rfl, hw1⟩
 obtain rfl := hw1.symm
 go_wp2_with (first | (go_at_call 225; (refine (rot_ex 3 hy (by decide)).mono ?_)))
 rintro e1 w1 ⟨y3, H3, rfl, hw1⟩
 obtain rfl := hw1.symm
 go_wp2_with (first | (go_at_call 225; (refine (rot_ex 4 hy (by decide)).mono ?_)))
 rintro e1 w1 ⟨y4, H4, rfl, hw1⟩
 obtain rfl := hw1.symm
 go_wp2
 go_ret
 refine ⟨sprN y, spr_lt ⟨y, hy⟩, rfl, ret_int ?_, rfl⟩
 rw [H1.out, H2.out, H3.out, H4.out]
 exact spr_all ⟨y, hy⟩
def bitN (y i : Nat) : Nat := Nat.mod (Nat.xor (Nat.xor (Nat.xor (Nat.xor (Nat.xor (y / 2 ^ i) (y / 2 ^ ((i + 4) % 8))) (y / 2 ^ ((i + 5) % 8))) (y / 2 ^ ((i + 6) % 8))) (y / 2 ^ ((i + 7) % 8))) (99 / 2 ^ i)) 2
def sumN (y : Nat) : Nat → Nat
 | 0 => 0
 | i + 1 => sumN y i + bitN y i * 2 ^ i
theorem sum_spr : ∀ y : Fin 256, sumN y.1 8 = sprN y.1 := by decide +kernel
theorem bit_step0 : ∀ y : Fin 256, wrap64 ((sumN y.1 0 : Nat) + wrap64 ((bits .xor .i64 (bits .xor .i64 (bits .xor .i64 (bits .xor .i64 (bits .xor .i64 (y.1 : Int) ((y.1 : Int) / 16)) ((y.1 : Int) / 32)) ((y.1 : Int) / 64)) ((y.1 : Int) / 128)) 99).tmod 2)) = (sumN y.1 1 : Nat) := by decide +kernel
theorem bit_step1 : ∀ y : Fin 256, wrap64 ((sumN y.1 1 : Nat) + wrap64 ((bits .xor .i64 (bits .xor .i64 (bits .xor .i64 (bits .xor .i64 (bits .xor .i64 ((y.1 : Int) / 2) ((y.1 : Int) / 32)) ((y.1 : Int) / 64)) ((y.1 : Int) / 128)) (y.1 : Int)) 49).tmod 2 * 2)) = (sumN y.1 2 : Nat) := by decide +kernel
theorem bit_step2 : ∀ y : Fin 256, wrap64 ((sumN y.1 2 : Nat) + wrap64 ((bits .xor .i64 (bits .xor .i64 (bits .xor .i64 (bits .xor .i64 (bits .xor .i64 ((y.1 : Int) / 4) ((y.1 : Int) / 64)) ((y.1 : Int) / 128)) (y.1 : Int)) ((y.1 : Int) / 2)) 24).tmod 2 * 4)) = (sumN y.1 3 : Nat) := by decide +kernel
theorem bit_step3 : ∀ y : Fin 256, wrap64 ((sumN y.1 3 : Nat) + wrap64 ((bits .xor .i64 (bits .xor .i64 (bits .xor .i64 (bits .xor .i64 (bits .xor .i64 ((y.1 : Int) / 8) ((y.1 : Int) / 128)) (y.1 : Int)) ((y.1 : Int) / 2)) ((y.1 : Int) / 4)) 12).tmod 2 * 8)) = (sumN y.1 4 : Nat) := by decide +kernel
theorem bit_step4 : ∀ y : Fin 256, wrap64 ((sumN y.1 4 : Nat) + wrap64 ((bits .xor .i64 (bits .xor .i64 (bits .xor .i64 (bits .xor .i64 (bits .xor .i64 ((y.1 : Int) / 16) (y.1 : Int)) ((y.1 : Int) / 2)) ((y.1 : Int) / 4)) ((y.1 : Int) / 8)) 6).tmod 2 * 16)) = (sumN y.1 5 : Nat) := by decide +kernel
theorem bit_step5 : ∀ y : Fin 256, wrap64 ((sumN y.1 5 : Nat) + wrap64 ((bits .xor .i64 (bits .xor .i64 (bits .xor .i64 (bits .xor .i64 (bits .xor .i64 ((y.1 : Int) / 32) ((y.1 : Int) / 2)) ((y.1 : Int) / 4)) ((y.1 : Int) / 8)) ((y.1 : Int) / 16)) 3).tmod 2 * 32)) = (sumN y.1 6 : Nat) := by decide +kernel
theorem bit_step6 : ∀ y : Fin 256, wrap64 ((sumN y.1 6 : Nat) + wrap64 ((bits .xor .i64 (bits .xor .i64 (bits .xor .i64 (bits .xor .i64 (bits .xor .i64 ((y.1 : Int) / 64) ((y.1 : Int) / 4)) ((y.1 : Int) / 8)) ((y.1 : Int) / 16)) ((y.1 : Int) / 32)) 1).tmod 2 * 64)) = (sumN y.1 7 : Nat) := by decide +kernel
theorem bit_step7 : ∀ y : Fin 256, wrap64 ((sumN y.1 7 : Nat) + wrap64 ((bits .xor .i64 (bits .xor .i64 (bits .xor .i64 (bits .xor .i64 (bits .xor .i64 ((y.1 : Int) / 128) ((y.1 : Int) / 8)) ((y.1 : Int) / 16)) ((y.1 : Int) / 32)) ((y.1 : Int) / 64)) 0).tmod 2 * 128)) = (sumN y.1 8 : Nat) := by decide +kernel
theorem refBits_ok (y : Nat) (hy : y < 256) (w : World) : Calls Tryz.prog 165 #[.int .i64 y] w fun e w' => ∃ z : Nat, z < 256 ∧ Hid (z = sprN y) ∧ e = .returned (.int .u8 z) ∧ w' = w := by
 go_enter Tryz.func165, Tryz.ntmps165
 go_wp2
 go_loopw [3, 4] (fun vs i wr => ∃ k : Nat, k ≤ 8 ∧ i = .int .i64 k ∧ vs = .int .i64 (sumN y k : Nat) ∧ wr = w) (fun _ i _ => 8 - (intOf i).toNat)
 case atStart => exact ⟨0, by omega, rfl, rfl, rfl⟩
 case round =>
  obtain ⟨k, hk, rfl, rfl, hw⟩ := hrel
  obtain rfl := hw.symm
  have h9 : k = 0 ∨ k = 1 ∨ k = 2 ∨ k = 3 ∨ k = 4 ∨ k = 5 ∨ k = 6 ∨ k = 7 ∨ k = 8 := by omega
  clear hk
  rcases h9 with rfl | rfl | rfl | rfl | rfl | rfl | rfl | rfl | rfl
  ·go_wp2
   exact ⟨⟨1, by omega, rfl, val_eq (bit_step0 ⟨y, hy⟩), trivial⟩, by decide +kernel⟩
  ·go_wp2
   exact ⟨⟨2, by omega, rfl, val_eq (bit_step1 ⟨y, hy⟩), trivial⟩, by decide +kernel⟩
  ·go_wp2
   exact ⟨⟨3, by omega, rfl, val_eq (bit_step2 ⟨y, hy⟩), trivial⟩, by decide +kernel⟩
  ·go_wp2
   exact ⟨⟨4, by omega, rfl, val_eq (bit_step3 ⟨y, hy⟩), trivial⟩, by decide +kernel⟩
  ·go_wp2
   exact ⟨⟨5, by omega, rfl, val_eq (bit_step4 ⟨y, hy⟩), trivial⟩, by decide +kernel⟩
  ·go_wp2
   exact ⟨⟨6, by omega, rfl, val_eq (bit_step5 ⟨y, hy⟩), trivial⟩, by decide +kernel⟩
  ·go_wp2
   exact ⟨⟨7, by omega, rfl, val_eq (bit_step6 ⟨y, hy⟩), trivial⟩, by decide +kernel⟩
  ·go_wp2
   exact ⟨⟨8, by omega, rfl, val_eq (bit_step7 ⟨y, hy⟩), trivial⟩, by decide +kernel⟩
  ·go_wp2
   go_ret
   refine ⟨sprN y, spr_lt ⟨y, hy⟩, rfl, ret_int ?_, rfl⟩
   have h1 := sum_spr ⟨y, hy⟩
   have h2 := spr_lt ⟨y, hy⟩
   simp only at h1 h2
   omega
end Go.Proofs.YtcnikfikpnnblaaGreatDoor
namespace Go.Proofs.YtcnikfikpnnblaaGreatDoor.Dg
open Go.RowKit
set_option linter.unusedVariables false

/-- The eight words of a round. -/
structure Eight where
 (a b c d e f g k : Int)
def Eight.list (s : Eight) : List Int := [s.a, s.b, s.c, s.d, s.e, s.f, s.g, s.k]
def Eight.cells (s : Eight) : List Value := s.list.map (Value.int .u64)
def Eight.map (f : Int → Int) (s : Eight) : Eight := ⟨f s.a, f s.b, f s.c, f s.d, f s.e, f s.f, f s.g, f s.k⟩
def Eight.zip (f : Int → Int → Int) (s t : Eight) : Eight := ⟨f s.a t.a, f s.b t.b, f s.c t.c, f s.d t.d, f s.e t.e, f s.f t.f, f s.g t.g, f s.k t.k⟩

theorem val_eq {k : IntKind} {x y : Int} (h : x = y) : Value.int k x = Value.int k y := by rw [h]
theorem step_cells {w : World} {g o q : Nat} {A B : List Value} (h : w.rangeAt g o (A.take q ++ B.drop q)) (ht : w.there g o 8) (hq : q < 8) (v' : Value) (hv : A[q]? = some v') (hA : A.length = 8 := by rfl) (hB : B.length = 8 := by rfl) :
  (w.setCell ⟨g, o + q, none⟩ v').rangeAt g o (A.take (q + 1) ++ B.drop (q + 1)) := by
 intro j x hx
 by_cases hj : j = q
 ·subst hj
  have hx' : (A.take (j + 1) ++ B.drop (j + 1))[j]? = A[j]? := by
   rw [List.getElem?_append_left (by simp; omega)]
   simp
  rw [hx', hv] at hx
  obtain rfl := Option.some.inj hx
  exact World.cell?_setCell_same' _ _ _ (ht j hq).1
 ·have hx' : (A.take q ++ B.drop q)[j]? = some x := by
   by_cases hjq : j < q
   ·rw [List.getElem?_append_left (by simp; omega)] at hx ⊢
    simp only [List.getElem?_take] at hx ⊢
    rw [if_pos (by omega)] at hx ⊢
    exact hx
   ·rw [List.getElem?_append_right (by simp; omega)] at hx ⊢
    simp only [List.length_take, List.getElem?_drop] at hx ⊢
    rw [show min (q + 1) A.length = q + 1 by omega] at hx
    rw [show min q A.length = q by omega]
    rw [show q + 1 + (j - (q + 1)) = j by omega] at hx
    rw [show q + (j - q) = j by omega]
    exact hx
  have h0 := h j x hx'
  have : (w.setCells g (o + q) [v']).cell? ⟨g, o + j, none⟩ = w.cell? ⟨g, o + j, none⟩ := World.cell?_setCells_out g [v'] (o + q) w ⟨g, o + j, none⟩ (fun _ _ => by
   show o + j < o + q ∨ o + q + 1 ≤ o + j
   omega)
  exact this.trans h0

def t1_32 (s : Eight) (kc wv : Int) : Int := (s.k + (bits .xor .u32 (bits .xor .u32 (rotl32 s.e 26) (rotl32 s.e 21)) (rotl32 s.e 7)) + (bits .xor .u32 (bits .and .u32 s.e s.f) (bits .and .u32 (bits .xor .u32 (if IntKind.u32.signed = true then -1 else IntKind.u32.max) s.e) s.g)) + kc / 4294967296 + wv) % 4294967296
def t2_32 (s : Eight) : Int := ((bits .xor .u32 (bits .xor .u32 (rotl32 s.a 30) (rotl32 s.a 19)) (rotl32 s.a 10)) + (bits .xor .u32 (bits .xor .u32 (bits .and .u32 s.a s.b) (bits .and .u32 s.a s.c)) (bits .and .u32 s.b s.c))) % 4294967296
def round32 (s : Eight) (kc wv : Int) : Eight := ⟨(t1_32 s kc wv + t2_32 s) % 4294967296, s.a, s.b, s.c, (s.d + t1_32 s kc wv) % 4294967296, s.e, s.f, s.g⟩
def rounds32 (C W : Nat → Int) : Nat → Eight → Eight
 | 0, s => s
 | t + 1, s => round32 (rounds32 C W t s) (C t) (W t)

set_option maxHeartbeats 3200000 in
set_option maxRecDepth 100000 in
theorem rounds32_walk (g o wb : Nat) (h0 h1 h2 h3 h4 h5 h6 h7 : Int) (W C : Nat → Int) (w : World)
  (hr : w.rangeAt g o (Eight.cells ⟨h0, h1, h2, h3, h4, h5, h6, h7⟩)) (ht : w.there g o 8)
  (hW : ∀ t, t < 64 → w.cell? ⟨wb, t, none⟩ = some (.int .u32 (W t)))
  (hC : ∀ t, t < 64 → w.cell? ⟨8, t, none⟩ = some (.int .u64 (C t))) :
  Calls Tryz.prog 276 #[.pointer (some ⟨g, o, none⟩), .pointer (some ⟨wb, 0, none⟩)] w fun e w' => e = .returned (.tuple #[]) ∧ Touch w w' g o 8 ∧ w'.rangeAt g o (Eight.cells (Eight.zip (fun h x => (h + x) % 4294967296) ⟨h0, h1, h2, h3, h4, h5, h6, h7⟩ (rounds32 C W 64 ⟨h0 % 4294967296, h1 % 4294967296, h2 % 4294967296, h3 % 4294967296, h4 % 4294967296, h5 % 4294967296, h6 % 4294967296, h7 % 4294967296⟩))) := by
 have HW : Hid (∀ t, t < 64 → w.cell? ⟨wb, t, none⟩ = some (.int .u32 (W t))) := hW
 have HC : Hid (∀ t, t < 64 → w.cell? ⟨8, t, none⟩ = some (.int .u64 (C t))) := hC
 have HR : Hid (w.rangeAt g o (Eight.cells ⟨h0, h1, h2, h3, h4, h5, h6, h7⟩)) := hr
 have HT : Hid (w.there g o 8) := ht
 have c0 : w.cell? ⟨g, o, none⟩ = some (.int .u64 h0) := hr 0 _ rfl
 have c1 : w.cell? ⟨g, o + 1, none⟩ = some (.int .u64 h1) := hr 1 _ rfl
 have c2 : w.cell? ⟨g, o + 2, none⟩ = some (.int .u64 h2) := hr 2 _ rfl
 have c3 : w.cell? ⟨g, o + 3, none⟩ = some (.int .u64 h3) := hr 3 _ rfl
 have c4 : w.cell? ⟨g, o + 4, none⟩ = some (.int .u64 h4) := hr 4 _ rfl
 have c5 : w.cell? ⟨g, o + 5, none⟩ = some (.int .u64 h5) := hr 5 _ rfl
 have c6 : w.cell? ⟨g, o + 6, none⟩ = some (.int .u64 h6) := hr 6 _ rfl
 have c7 : w.cell? ⟨g, o + 7, none⟩ = some (.int .u64 h7) := hr 7 _ rfl
 clear hW hC hr ht
 go_enter Tryz.func276, Tryz.ntmps276
 go_wp2
 go_quiet (fail)
 go_wp2
 go_quiet (fail)
 clear c0 c1 c2 c3 c4 c5 c6 c7
 go_wp2
 go_loopw [4, 5, 6, 7, 8, 9, 10, 11, 59] (fun va vb vc vd ve vf vg vk i wr => ∃ t : Nat, ∃ s : Eight, t ≤ 64 ∧ i = .int .i64 t ∧ va = .int .u32 s.a ∧ vb = .int .u32 s.b ∧ vc = .int .u32 s.c ∧ vd = .int .u32 s.d ∧ ve = .int .u32 s.e ∧ vf = .int .u32 s.f ∧ vg = .int .u32 s.g ∧ vk = .int .u32 s.k ∧ Hid (s = rounds32 C W t ⟨h0 % 4294967296, h1 % 4294967296, h2 % 4294967296, h3 % 4294967296, h4 % 4294967296, h5 % 4294967296, h6 % 4294967296, h7 % 4294967296⟩) ∧ Hid (Sm w wr)) (fun _ _ _ _ _ _ _ _ i _ => 64 - (intOf i).toNat)
 case atStart => exact ⟨0, ⟨h0 % 4294967296, h1 % 4294967296, h2 % 4294967296, h3 % 4294967296, h4 % 4294967296, h5 % 4294967296, h6 % 4294967296, h7 % 4294967296⟩, by omega, rfl, rfl, rfl, rfl, rfl, rfl, rfl, rfl, rfl, rfl, ((Sm.refl w).drewN _).drewN _⟩
 case round =>
  obtain ⟨t, ⟨a, b, c, d, e, f, g1, k⟩, ht, rfl, rfl, rfl, rfl, rfl, rfl, rfl, rfl, rfl, HS, HM⟩ := hrel
  by_cases hlt : t < 64
  ·have hw : wr.cell? ⟨wb, t, none⟩ = some (.int .u32 (W t)) := by rw [HM.out.cell]; exact HW.out t hlt
   have hc : wr.cell? ⟨8, t, none⟩ = some (.int .u64 (C t)) := by rw [HM.out.cell]; exact HC.out t hlt
   go_wp2_with (first | (go_at_call 108; (first | refine (rot32_of 6 (by decide +kernel)).mono ?_ | refine (rot32_of 11 (by decide +kernel)).mono ?_ | refine (rot32_of 25 (by decide +kernel)).mono ?_ | refine (rot32_of 2 (by decide +kernel)).mono ?_ | refine (rot32_of 13 (by decide +kernel)).mono ?_ | refine (rot32_of 22 (by decide +kernel)).mono ?_); (rintro e1 w1 ⟨rfl, hw1⟩; obtain rfl := hw1.symm)))
   go_quiet (fail)
   go_wp2_with (first | (go_at_call 108; (first | refine (rot32_of 6 (by decide +kernel)).mono ?_ | refine (rot32_of 11 (by decide +kernel)).mono ?_ | refine (rot32_of 25 (by decide +kernel)).mono ?_ | refine (rot32_of 2 (by decide +kernel)).mono ?_ | refine (rot32_of 13 (by decide +kernel)).mono ?_ | refine (rot32_of 22 (by decide +kernel)).mono ?_); (rintro e1 w1 ⟨rfl, hw1⟩; obtain rfl := hw1.symm)))
   go_roundw
   case rel =>
    refine ⟨t + 1, round32 ⟨a, b, c, d, e, f, g1, k⟩ (C t) (W t), by omega, by go_num, rfl, rfl, rfl, rfl, rfl, rfl, rfl, rfl, ?_, HM.out.drewN _⟩
    have := HS.out
    rw [this]
    exact rfl
   case measure => simp [intOf]; omega
  ·obtain rfl : t = 64 := by omega
   clear hlt ht HW HC
   have HE : Hid (Eight.zip (fun h x => (h + x) % 4294967296) ⟨h0, h1, h2, h3, h4, h5, h6, h7⟩ (rounds32 C W 64 ⟨h0 % 4294967296, h1 % 4294967296, h2 % 4294967296, h3 % 4294967296, h4 % 4294967296, h5 % 4294967296, h6 % 4294967296, h7 % 4294967296⟩) = ⟨((h0 + a) % 4294967296), ((h1 + b) % 4294967296), ((h2 + c) % 4294967296), ((h3 + d) % 4294967296), ((h4 + e) % 4294967296), ((h5 + f) % 4294967296), ((h6 + g1) % 4294967296), ((h7 + k) % 4294967296)⟩) := by
    rw [← HS.out]
    exact rfl
   clear HS
   go_wp2
   go_loopw [137] (fun i wr => ∃ q : Nat, q ≤ 8 ∧ i = .int .i64 q ∧ Hid (Touch w wr g o 8) ∧ Hid (wr.rangeAt g o ((Eight.cells ⟨((h0 + a) % 4294967296), ((h1 + b) % 4294967296), ((h2 + c) % 4294967296), ((h3 + d) % 4294967296), ((h4 + e) % 4294967296), ((h5 + f) % 4294967296), ((h6 + g1) % 4294967296), ((h7 + k) % 4294967296)⟩).take q ++ (Eight.cells ⟨h0, h1, h2, h3, h4, h5, h6, h7⟩).drop q))) (fun i _ => 8 - (intOf i).toNat)
   case atStart => exact ⟨0, by omega, rfl, HM.out.touch _ _ _, fun j v hv => by rw [HM.out.cell]; exact HR.out j v hv⟩
   case round =>
    obtain ⟨q, hq, rfl, HT1, HR1⟩ := hrel
    have hq9 : q = 0 ∨ q = 1 ∨ q = 2 ∨ q = 3 ∨ q = 4 ∨ q = 5 ∨ q = 6 ∨ q = 7 ∨ q = 8 := by omega
    clear hq HM
    rcases hq9 with rfl | rfl | rfl | rfl | rfl | rfl | rfl | rfl | rfl
    ·have hcell : wr.cell? ⟨g, o, none⟩ = some (.int .u64 h0) := HR1.out 0 _ rfl
     have hfr : wr.frozen? ⟨g, o, none⟩ = false := ((HT1.out.there _ _ HT.out) 0 (by omega)).2
     have hrun : Sem.run Tryz.prog (Instr.index 175 (.agg #[.int .u32 a, .int .u32 b, .int .u32 c, .int .u32 d, .int .u32 e, .int .u32 f, .int .u32 g1, .int .u32 k]) (.int .i64 0)) wr = .ok (.int .u32 a) wr := by kernel_rfl
     go_wp2
     go_region
     go_wp2
     go_roundw
     case rel =>
      refine ⟨1, by omega, rfl, ?_, ?_⟩
      ·exact (HT1.out.setCell (o) _ (by omega) (by omega)).drew
      ·exact (World.rangeAt_drew _ _ _ _).2 (step_cells (q := 0) HR1.out (HT1.out.there _ _ HT.out) (by omega) _ rfl)
     case measure => simp [intOf]
    ·have hcell : wr.cell? ⟨g, o + 1, none⟩ = some (.int .u64 h1) := HR1.out 1 _ rfl
     have hfr : wr.frozen? ⟨g, o + 1, none⟩ = false := ((HT1.out.there _ _ HT.out) 1 (by omega)).2
     have hrun : Sem.run Tryz.prog (Instr.index 175 (.agg #[.int .u32 a, .int .u32 b, .int .u32 c, .int .u32 d, .int .u32 e, .int .u32 f, .int .u32 g1, .int .u32 k]) (.int .i64 1)) wr = .ok (.int .u32 b) wr := by kernel_rfl
     go_wp2
     go_region
     go_wp2
     go_roundw
     case rel =>
      refine ⟨2, by omega, rfl, ?_, ?_⟩
      ·exact (HT1.out.setCell (o + 1) _ (by omega) (by omega)).drew
      ·exact (World.rangeAt_drew _ _ _ _).2 (step_cells (q := 1) HR1.out (HT1.out.there _ _ HT.out) (by omega) _ rfl)
     case measure => simp [intOf]
    ·have hcell : wr.cell? ⟨g, o + 2, none⟩ = some (.int .u64 h2) := HR1.out 2 _ rfl
     have hfr : wr.frozen? ⟨g, o + 2, none⟩ = false := ((HT1.out.there _ _ HT.out) 2 (by omega)).2
     have hrun : Sem.run Tryz.prog (Instr.index 175 (.agg #[.int .u32 a, .int .u32 b, .int .u32 c, .int .u32 d, .int .u32 e, .int .u32 f, .int .u32 g1, .int .u32 k]) (.int .i64 2)) wr = .ok (.int .u32 c) wr := by kernel_rfl
     go_wp2
     go_region
     go_wp2
     go_roundw
     case rel =>
      refine ⟨3, by omega, rfl, ?_, ?_⟩
      ·exact (HT1.out.setCell (o + 2) _ (by omega) (by omega)).drew
      ·exact (World.rangeAt_drew _ _ _ _).2 (step_cells (q := 2) HR1.out (HT1.out.there _ _ HT.out) (by omega) _ rfl)
     case measure => simp [intOf]
    ·have hcell : wr.cell? ⟨g, o + 3, none⟩ = some (.int .u64 h3) := HR1.out 3 _ rfl
     have hfr : wr.frozen? ⟨g, o + 3, none⟩ = false := ((HT1.out.there _ _ HT.out) 3 (by omega)).2
     have hrun : Sem.run Tryz.prog (Instr.index 175 (.agg #[.int .u32 a, .int .u32 b, .int .u32 c, .int .u32 d, .int .u32 e, .int .u32 f, .int .u32 g1, .int .u32 k]) (.int .i64 3)) wr = .ok (.int .u32 d) wr := by kernel_rfl
     go_wp2
     go_region
     go_wp2
     go_roundw
     case rel =>
      refine ⟨4, by omega, rfl, ?_, ?_⟩
      ·exact (HT1.out.setCell (o + 3) _ (by omega) (by omega)).drew
      ·exact (World.rangeAt_drew _ _ _ _).2 (step_cells (q := 3) HR1.out (HT1.out.there _ _ HT.out) (by omega) _ rfl)
     case measure => simp [intOf]
    ·have hcell : wr.cell? ⟨g, o + 4, none⟩ = some (.int .u64 h4) := HR1.out 4 _ rfl
     have hfr : wr.frozen? ⟨g, o + 4, none⟩ = false := ((HT1.out.there _ _ HT.out) 4 (by omega)).2
     have hrun : Sem.run Tryz.prog (Instr.index 175 (.agg #[.int .u32 a, .int .u32 b, .int .u32 c, .int .u32 d, .int .u32 e, .int .u32 f, .int .u32 g1, .int .u32 k]) (.int .i64 4)) wr = .ok (.int .u32 e) wr := by kernel_rfl
     go_wp2
     go_region
     go_wp2
     go_roundw
     case rel =>
      refine ⟨5, by omega, rfl, ?_, ?_⟩
      ·exact (HT1.out.setCell (o + 4) _ (by omega) (by omega)).drew
      ·exact (World.rangeAt_drew _ _ _ _).2 (step_cells (q := 4) HR1.out (HT1.out.there _ _ HT.out) (by omega) _ rfl)
     case measure => simp [intOf]
    ·have hcell : wr.cell? ⟨g, o + 5, none⟩ = some (.int .u64 h5) := HR1.out 5 _ rfl
     have hfr : wr.frozen? ⟨g, o + 5, none⟩ = false := ((HT1.out.there _ _ HT.out) 5 (by omega)).2
     have hrun : Sem.run Tryz.prog (Instr.index 175 (.agg #[.int .u32 a, .int .u32 b, .int .u32 c, .int .u32 d, .int .u32 e, .int .u32 f, .int .u32 g1, .int .u32 k]) (.int .i64 5)) wr = .ok (.int .u32 f) wr := by kernel_rfl
     go_wp2
     go_region
     go_wp2
     go_roundw
     case rel =>
      refine ⟨6, by omega, rfl, ?_, ?_⟩
      ·exact (HT1.out.setCell (o + 5) _ (by omega) (by omega)).drew
      ·exact (World.rangeAt_drew _ _ _ _).2 (step_cells (q := 5) HR1.out (HT1.out.there _ _ HT.out) (by omega) _ rfl)
     case measure => simp [intOf]
    ·have hcell : wr.cell? ⟨g, o + 6, none⟩ = some (.int .u64 h6) := HR1.out 6 _ rfl
     have hfr : wr.frozen? ⟨g, o + 6, none⟩ = false := ((HT1.out.there _ _ HT.out) 6 (by omega)).2
     have hrun : Sem.run Tryz.prog (Instr.index 175 (.agg #[.int .u32 a, .int .u32 b, .int .u32 c, .int .u32 d, .int .u32 e, .int .u32 f, .int .u32 g1, .int .u32 k]) (.int .i64 6)) wr = .ok (.int .u32 g1) wr := by kernel_rfl
     go_wp2
     go_region
     go_wp2
     go_roundw
     case rel =>
      refine ⟨7, by omega, rfl, ?_, ?_⟩
      ·exact (HT1.out.setCell (o + 6) _ (by omega) (by omega)).drew
      ·exact (World.rangeAt_drew _ _ _ _).2 (step_cells (q := 6) HR1.out (HT1.out.there _ _ HT.out) (by omega) _ rfl)
     case measure => simp [intOf]
    ·have hcell : wr.cell? ⟨g, o + 7, none⟩ = some (.int .u64 h7) := HR1.out 7 _ rfl
     have hfr : wr.frozen? ⟨g, o + 7, none⟩ = false := ((HT1.out.there _ _ HT.out) 7 (by omega)).2
     have hrun : Sem.run Tryz.prog (Instr.index 175 (.agg #[.int .u32 a, .int .u32 b, .int .u32 c, .int .u32 d, .int .u32 e, .int .u32 f, .int .u32 g1, .int .u32 k]) (.int .i64 7)) wr = .ok (.int .u32 k) wr := by kernel_rfl
     go_wp2
     go_region
     go_wp2
     go_roundw
     case rel =>
      refine ⟨8, by omega, rfl, ?_, ?_⟩
      ·exact (HT1.out.setCell (o + 7) _ (by omega) (by omega)).drew
      ·exact (World.rangeAt_drew _ _ _ _).2 (step_cells (q := 7) HR1.out (HT1.out.there _ _ HT.out) (by omega) _ rfl)
     case measure => simp [intOf]
    ·go_wp2
     go_end0
     refine ⟨rfl, HT1.out, ?_⟩
     rw [HE.out]
     exact HR1.out
end Go.Proofs.YtcnikfikpnnblaaGreatDoor.Dg
namespace Go.Proofs.YtcnikfikpnnblaaGreatDoor.Dg
open Go.RowKit
set_option linter.unusedVariables false
/-- A row of cells, by a function. -/
def Cl (M : Nat) (G : Nat → Value) : List Value := (List.range M).map G
theorem Cl_length (M : Nat) (G : Nat → Value) : (Cl M G).length = M := by simp [Cl]
theorem Cl_at (M : Nat) (G : Nat → Value) (j : Nat) (hj : j < M) : (Cl M G)[j]? = some (G j) := by simp [Cl, hj]
theorem Cl_congr {M : Nat} {G G' : Nat → Value} (h : ∀ j, j < M → G j = G' j) : Cl M G = Cl M G' := by
 unfold Cl
 apply List.map_congr_left
 intro j hj
 exact h j (by simpa using hj)
theorem Cl_set (M : Nat) (G : Nat → Value) (t : Nat) (u : Value) : (Cl M G).set t u = Cl M (fun j => if j = t then u else G j) := by
 apply List.ext_getElem?
 intro j
 by_cases hj : j < M
 ·rw [Cl_at _ _ j hj]
  by_cases e : t = j
  ·subst e
   rw [List.getElem?_set_self (by rw [Cl_length]; exact hj), if_pos rfl]
  ·rw [List.getElem?_set_ne e, Cl_at _ _ j hj, if_neg (fun h => e h.symm)]
 ·rw [List.getElem?_eq_none (by rw [List.length_set, Cl_length]; omega), List.getElem?_eq_none (by rw [Cl_length]; omega)]
/-- Blocks that a call made for itself, one behind the other, with what they hold. -/
structure Mem (w wr : World) (L : List (List Value)) : Prop where
 below : Below w.heap.size w wr
 size : w.heap.size + L.length ≤ wr.heap.size
 holds : ∀ i cs, L[i]? = some cs → wr.rangeAt (w.heap.size + i) 0 cs ∧ wr.there (w.heap.size + i) 0 cs.length
theorem Mem.nil (w : World) : Mem w w [] := ⟨Below.refl _ _, by simp, fun i cs h => by simp at h⟩
theorem Mem.kept {w wr wn : World} {L : List (List Value)} (h : Mem w wr L) (hb : Below w.heap.size w wn) (hs : wr.heap.size ≤ wn.heap.size) (hk : ∀ b, b < wr.heap.size → wn.heap[b]? = wr.heap[b]?) : Mem w wn L := by
 refine ⟨hb, Nat.le_trans h.size hs, fun i cs hi => ?_⟩
 have hl : i < L.length := (List.getElem?_eq_some_iff.1 hi).1
 have hlt : w.heap.size + i < wr.heap.size := by have := h.size; omega
 obtain ⟨h1, h2⟩ := h.holds i cs hi
 refine ⟨fun j v hv => ?_, fun j hj => ?_⟩
 ·rw [World.cell?_of_block (w := wr) (hk _ hlt)]
  exact h1 j v hv
 ·rw [World.cell?_of_block (w := wr) (a := ⟨w.heap.size + i, 0 + j, none⟩) (hk _ hlt), World.frozen?_of_block (w := wr) (a := ⟨w.heap.size + i, 0 + j, none⟩) (hk _ hlt)]
  exact h2 j hj
theorem Mem.later {w wr wn : World} {L : List (List Value)} (h : Mem w wr L) (hb : Below wr.heap.size wr wn) : Mem w wn L :=
 h.kept (h.below.trans (hb.mono h.below.size)) hb.size (fun b hb' => hb.block b hb')
theorem Mem.drewN {w wr : World} {L : List (List Value)} (h : Mem w wr L) (n : Nat) : Mem w (wr.drewN n) L := ⟨⟨h.below.os, h.below.tape, h.below.output, h.below.size, h.below.block⟩, h.size, h.holds⟩
theorem Mem.drew {w wr : World} {L : List (List Value)} (h : Mem w wr L) : Mem w wr.drew L := ⟨⟨h.below.os, h.below.tape, h.below.output, h.below.size, h.below.block⟩, h.size, h.holds⟩
theorem Mem.alloc {w wr : World} {L : List (List Value)} (h : Mem w wr L) (hs : wr.heap.size = w.heap.size + L.length) (C : Array Value) (t : TypeId) : Mem w (wr.alloc (.cells C t)) (L ++ [C.toList]) := by
 have h0 : Mem w (wr.alloc (.cells C t)) L := h.kept (h.below.alloc (by omega) _) (by simp) (fun b hb => Below.heap_alloc wr _ b hb)
 refine ⟨h0.below, by simp; omega, fun i cs hi => ?_⟩
 by_cases hl : i < L.length
 ·rw [List.getElem?_append_left hl] at hi
  exact h0.holds i cs hi
 ·have hil : i < (L ++ [C.toList]).length := (List.getElem?_eq_some_iff.1 hi).1
  simp at hil
  obtain rfl : i = L.length := by omega
  simp at hi
  subst hi
  rw [← hs]
  exact ⟨rangeAt_new wr C t, there_new wr C t _ (by simp)⟩
theorem Mem.put {w wr : World} {L : List (List Value)} (h : Mem w wr L) (i : Nat) {cs : List Value} (hi : L[i]? = some cs) (t : Nat) (ht : t < cs.length) (u : Value) : Mem w (wr.setCell ⟨w.heap.size + i, t, none⟩ u) (L.set i (cs.set t u)) := by
 have hl : i < L.length := (List.getElem?_eq_some_iff.1 hi).1
 refine ⟨h.below.setCell (by show _ ≤ w.heap.size + i; omega) u, by simpa [World.setCell] using h.size, fun k ds hk => ?_⟩
 by_cases e : i = k
 ·subst e
  rw [List.getElem?_set_self hl] at hk
  injection hk with hk
  subst hk
  obtain ⟨h1, h2⟩ := h.holds i cs hi
  refine ⟨fun j v hv => ?_, ?_⟩
  ·by_cases e : t = j
   ·subst e
    rw [List.getElem?_set_self ht] at hv
    injection hv with hv
    subst hv
    rw [Nat.zero_add]
    have := (h2 t ht).1
    rw [Nat.zero_add] at this
    exact World.cell?_setCell_same' _ _ _ this
   ·rw [List.getElem?_set_ne e] at hv
    have := World.cell?_setCells_out (w.heap.size + i) [u] t wr ⟨w.heap.size + i, 0 + j, none⟩ (fun _ _ => by show 0 + j < t ∨ t + 1 ≤ 0 + j; omega)
    exact this.trans (h1 j v hv)
  ·rw [List.length_set]
   exact World.there_setCells h2 (w.heap.size + i) t [u]
 ·rw [List.getElem?_set_ne e] at hk
  obtain ⟨h1, h2⟩ := h.holds k ds hk
  refine ⟨fun j v hv => ?_, World.there_setCells h2 (w.heap.size + i) t [u]⟩
  rw [setCell_other wr (w.heap.size + i) t _ _ u (by omega)]
  exact h1 j v hv
theorem Mem.store {w wr : World} {L : List (List Value)} (h : Mem w wr L) (i : Nat) {cs : List Value} (hi : L[i]? = some cs) (vs : List Value) (hv : vs.length = cs.length) : Mem w (wr.setCells (w.heap.size + i) 0 vs) (L.set i vs) := by
 have hl : i < L.length := (List.getElem?_eq_some_iff.1 hi).1
 refine ⟨below_setCells _ (by omega) _ _ _ h.below, by rw [size_setCells]; simpa using h.size, fun k ds hk => ?_⟩
 by_cases e : i = k
 ·subst e
  rw [List.getElem?_set_self hl] at hk
  injection hk with hk
  subst hk
  obtain ⟨h1, h2⟩ := h.holds i cs hi
  rw [← hv] at h2
  exact ⟨World.rangeAt_setCells_same wr (w.heap.size + i) 0 vs h2, World.there_setCells h2 (w.heap.size + i) 0 vs⟩
 ·rw [List.getElem?_set_ne e] at hk
  obtain ⟨h1, h2⟩ := h.holds k ds hk
  refine ⟨fun j v hv => ?_, World.there_setCells h2 (w.heap.size + i) 0 vs⟩
  rw [World.cell?_setCells_out (w.heap.size + i) vs 0 wr ⟨w.heap.size + k, 0 + j, none⟩ (fun e' _ => absurd e' (by simp; omega))]
  exact h1 j v hv
theorem Mem.cell {w wr : World} {L : List (List Value)} (h : Mem w wr L) (i : Nat) {cs : List Value} (hi : L[i]? = some cs) (t : Nat) (v : Value) (hv : cs[t]? = some v) : wr.cell? ⟨w.heap.size + i, t, none⟩ = some v := by
 have := (h.holds i cs hi).1 t v hv
 rwa [Nat.zero_add] at this
theorem Mem.frozen {w wr : World} {L : List (List Value)} (h : Mem w wr L) (i : Nat) {cs : List Value} (hi : L[i]? = some cs) (t : Nat) (ht : t < cs.length) : wr.frozen? ⟨w.heap.size + i, t, none⟩ = false := by
 have := ((h.holds i cs hi).2 t ht).2
 rwa [Nat.zero_add] at this
theorem Mem.congr {w wr : World} {L L' : List (List Value)} (h : Mem w wr L) (e : L = L') : Mem w wr L' := e ▸ h
end Go.Proofs.YtcnikfikpnnblaaGreatDoor.Dg
