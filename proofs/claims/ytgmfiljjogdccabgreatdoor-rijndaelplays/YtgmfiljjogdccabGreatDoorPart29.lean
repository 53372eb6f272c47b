import Derived.Test.YtgmfiljjogdccabGreatDoorPart14
import Derived.Test.YtgmfiljjogdccabGreatDoorXor
import Derived.Test.YtgmfiljjogdccabGreatDoorPart24
import Derived.Test.YtgmfiljjogdccabGreatDoorBkd
import Derived.Test.YtgmfiljjogdccabGreatDoorPart28
import Derived.Test.YtgmfiljjogdccabGreatDoorPart02
import Derived.Test.YtgmfiljjogdccabGreatDoorPart16
namespace Go.Proofs.YtgmfiljjogdccabGreatDoor
open Go.RowKit
set_option linter.unusedVariables false
/-- What is carried behind m digits. -/
def crr (N n : Nat) : Nat → Nat
 | 0 => n
 | m + 1 => (N / 256 ^ m % 256 + crr N n m) / 256
theorem crr_succ (N n m : Nat) : crr N n (m + 1) = (N / 256 ^ m % 256 + crr N n m) / 256 := rfl
theorem crr_eq (N n : Nat) : ∀ m, crr N n m = (N % 256 ^ m + n) / 256 ^ m
 | 0 => by simp [crr, Nat.mod_one]
 | m + 1 => by
  have hM : 0 < 256 ^ m := Nat.pow_pos (by decide)
  show (N / 256 ^ m % 256 + crr N n m) / 256 = _
  rw [crr_eq N n m, Nat.pow_succ, Nat.mod_mul, ← Nat.div_div_eq_div_mul]
  congr 1
  rw [show N % 256 ^ m + 256 ^ m * (N / 256 ^ m % 256) + n = (N % 256 ^ m + n) + 256 ^ m * (N / 256 ^ m % 256) by omega, Nat.add_mul_div_left _ _ hM]
  omega
theorem crr_digit (N n m : Nat) : (N / 256 ^ m % 256 + crr N n m) % 256 = (N + n) / 256 ^ m % 256 := by
 have hM : 0 < 256 ^ m := Nat.pow_pos (by decide)
 have h2 := Nat.div_add_mod N (256 ^ m)
 have h1 : (N + n) / 256 ^ m = N / 256 ^ m + (N % 256 ^ m + n) / 256 ^ m := by
  conv => lhs; rw [← h2]
  rw [Nat.add_assoc, Nat.add_comm, Nat.add_mul_div_left _ _ hM, Nat.add_comm]
 rw [crr_eq, h1]
 omega
theorem crr_le (N n : Nat) : ∀ m, crr N n m ≤ n
 | 0 => Nat.le_refl _
 | m + 1 => by
  have := crr_le N n m
  show (N / 256 ^ m % 256 + crr N n m) / 256 ≤ n
  omega
theorem digit_mod (X m : Nat) (hm : m < 16) : X % 340282366920938463463374607431768211456 / 256 ^ m % 256 = X / 256 ^ m % 256 := by
 have e : (340282366920938463463374607431768211456 : Nat) = 256 ^ m * 256 ^ (16 - m) := by rw [← Nat.pow_add, show m + (16 - m) = 16 by omega]
 rw [e, Nat.mod_mul_right_div_self]
 exact Nat.mod_mod_of_dvd _ ⟨256 ^ (15 - m), by rw [show 16 - m = (15 - m) + 1 by omega, Nat.pow_succ, Nat.mul_comm]⟩
/-- A state as one number. -/
def W4.num (s : W4) : Nat := ((s.a * 4294967296 + s.b) * 4294967296 + s.c) * 4294967296 + s.d
theorem sixteen {j : Nat} (hj : j < 16) : j = 0 ∨ j = 1 ∨ j = 2 ∨ j = 3 ∨ j = 4 ∨ j = 5 ∨ j = 6 ∨ j = 7 ∨ j = 8 ∨ j = 9 ∨ j = 10 ∨ j = 11 ∨ j = 12 ∨ j = 13 ∨ j = 14 ∨ j = 15 := by omega
theorem num_a {s : W4} (h : s.ok) : s.num / 79228162514264337593543950336 = s.a := by unfold W4.ok at h; unfold W4.num; omega
theorem num_b {s : W4} (h : s.ok) : s.num / 18446744073709551616 % 4294967296 = s.b := by unfold W4.ok at h; unfold W4.num; omega
theorem num_c {s : W4} (h : s.ok) : s.num / 4294967296 % 4294967296 = s.c := by unfold W4.ok at h; unfold W4.num; omega
theorem num_d {s : W4} (h : s.ok) : s.num % 4294967296 = s.d := by unfold W4.ok at h; unfold W4.num; omega
theorem sb_num {s : W4} (h : s.ok) (j : Nat) (hj : j < 16) : sb s j = s.num / 256 ^ (15 - j) % 256 := by
 have ha := num_a h
 have hb := num_b h
 have hc := num_c h
 have hd := num_d h
 have h1 := h.1
 generalize s.num = N at *
 rcases sixteen hj with rfl | rfl | rfl | rfl | rfl | rfl | rfl | rfl | rfl | rfl | rfl | rfl | rfl | rfl | rfl | rfl
 ·show bt0 s.a = _; rw [← ha]; unfold bt0; simp only [Nat.reduceSub, Nat.reducePow]; omega
 ·show bt1 s.a = _; rw [← ha]; unfold bt1; simp only [Nat.reduceSub, Nat.reducePow]; omega
 ·show bt2 s.a = _; rw [← ha]; unfold bt2; simp only [Nat.reduceSub, Nat.reducePow]; omega
 ·show bt3 s.a = _; rw [← ha]; unfold bt3; simp only [Nat.reduceSub, Nat.reducePow]
 ·show bt0 s.b = _; rw [← hb]; unfold bt0; simp only [Nat.reduceSub, Nat.reducePow]; omega
 ·show bt1 s.b = _; rw [← hb]; unfold bt1; simp only [Nat.reduceSub, Nat.reducePow]; omega
 ·show bt2 s.b = _; rw [← hb]; unfold bt2; simp only [Nat.reduceSub, Nat.reducePow]; omega
 ·show bt3 s.b = _; rw [← hb]; unfold bt3; simp only [Nat.reduceSub, Nat.reducePow]; omega
 ·show bt0 s.c = _; rw [← hc]; unfold bt0; simp only [Nat.reduceSub, Nat.reducePow]; omega
 ·show bt1 s.c = _; rw [← hc]; unfold bt1; simp only [Nat.reduceSub, Nat.reducePow]; omega
 ·show bt2 s.c = _; rw [← hc]; unfold bt2; simp only [Nat.reduceSub, Nat.reducePow]; omega
 ·show bt3 s.c = _; rw [← hc]; unfold bt3; simp only [Nat.reduceSub, Nat.reducePow]; omega
 ·show bt0 s.d = _; rw [← hd]; unfold bt0; simp only [Nat.reduceSub, Nat.reducePow]; omega
 ·show bt1 s.d = _; rw [← hd]; unfold bt1; simp only [Nat.reduceSub, Nat.reducePow]; omega
 ·show bt2 s.d = _; rw [← hd]; unfold bt2; simp only [Nat.reduceSub, Nat.reducePow]; omega
 ·show bt3 s.d = _; rw [← hd]; unfold bt3; simp only [Nat.reduceSub, Nat.reducePow]; omega
theorem ctr_num {s : W4} (h : s.ok) (n : Nat) : (ctrW s n).num = (s.num + n) % 340282366920938463463374607431768211456 := by
 unfold W4.ok at h
 obtain ⟨a, b, c, d⟩ := s
 simp only at h
 unfold ctrW joinW W4.num
 simp only
 obtain ⟨H, hH⟩ : ∃ H, H = a * 4294967296 + b := ⟨_, rfl⟩
 obtain ⟨L, hL⟩ : ∃ L, L = c * 4294967296 + d + n := ⟨_, rfl⟩
 obtain ⟨q, hq⟩ : ∃ q, q = L / 18446744073709551616 := ⟨_, rfl⟩
 rw [← hL, ← hH, ← hq]
 have e : ((H * 4294967296 + c) * 4294967296 + d + n) = (H + q) * 18446744073709551616 + L % 18446744073709551616 := by omega
 rw [e]
 clear e hL hH
 generalize H + q = Q
 have hl : L % 18446744073709551616 < 18446744073709551616 := Nat.mod_lt _ (by decide)
 generalize L % 18446744073709551616 = l at hl ⊢
 clear hq
 omega
theorem plus_sb {s : W4} (h : s.ok) (n j : Nat) (hj : j < 16) : (sb s j + crr s.num n (15 - j)) % 256 = sb (ctrW s n) j := by
 rw [sb_num h j hj, sb_num (ctrW_ok s n) j hj, ctr_num h, digit_mod _ _ (by omega), crr_digit]
theorem sb_join (x y : Nat) (hx : x < 18446744073709551616) (hy : y < 18446744073709551616) (j : Nat) (hj : j < 16) : sb (joinW x y) j = if j < 8 then byteK x j else byteK y (j - 8) := by
 obtain ⟨a0, a1, a2, a3, a4, a5, a6, a7⟩ := byteK_hi x hx
 obtain ⟨b0, b1, b2, b3, b4, b5, b6, b7⟩ := byteK_hi y hy
 rcases sixteen hj with rfl | rfl | rfl | rfl | rfl | rfl | rfl | rfl | rfl | rfl | rfl | rfl | rfl | rfl | rfl | rfl
 ·exact a0.symm
 ·exact a1.symm
 ·exact a2.symm
 ·exact a3.symm
 ·exact a4.symm
 ·exact a5.symm
 ·exact a6.symm
 ·exact a7.symm
 ·exact b0.symm
 ·exact b1.symm
 ·exact b2.symm
 ·exact b3.symm
 ·exact b4.symm
 ·exact b5.symm
 ·exact b6.symm
 ·exact b7.symm
theorem sb_hi {y : W4} (h : y.ok) (j : Nat) (hj : j < 8) : sb y j = byteK y.hi j := by
 have := sb_join y.hi y.lo (W4.hi_lt h) (W4.lo_lt h) j (by omega)
 rw [joinW_halves h, if_pos hj] at this
 exact this
theorem sb_lo {y : W4} (h : y.ok) (j : Nat) (hj : j < 8) : sb y (8 + j) = byteK y.lo j := by
 have := sb_join y.hi y.lo (W4.hi_lt h) (W4.lo_lt h) (8 + j) (by omega)
 rw [joinW_halves h, if_neg (by omega), show 8 + j - 8 = j by omega] at this
 exact this
theorem byteK_xor (a b k : Nat) : byteK (a ^^^ b) k = Nat.xor (byteK a k) (byteK b k) := by
 show (a ^^^ b) / 256 ^ (7 - k) % 256 = (a / 256 ^ (7 - k) % 256) ^^^ (b / 256 ^ (7 - k) % 256)
 rw [show (256 : Nat) ^ (7 - k) = 2 ^ (8 * (7 - k)) by rw [Nat.pow_mul], Nat.xor_div_two_pow, show (256 : Nat) = 2 ^ 8 by decide, Nat.xor_mod_two_pow]
theorem by_sb (s : W4) (j : Nat) (hj : j < 16) : s.by j = sb s j := by
 rcases sixteen hj with rfl | rfl | rfl | rfl | rfl | rfl | rfl | rfl | rfl | rfl | rfl | rfl | rfl | rfl | rfl | rfl <;> rfl
end Go.Proofs.YtgmfiljjogdccabGreatDoor
namespace Go.Proofs.YtgmfiljjogdccabGreatDoor
open Go.RowKit
set_option linter.unusedVariables false
theorem crr_sb {s : W4} (h : s.ok) (n k : Nat) (hk : k < 16) : crr s.num n (k + 1) = (sb s (15 - k) + crr s.num n k) / 256 := by
 rw [crr_succ, sb_num h (15 - k) (by omega), show 15 - (15 - k) = k by omega]
set_option maxHeartbeats 1600000 in
set_option maxRecDepth 100000 in
theorem rplus_ok (s : W4) (n : Nat) (w : World) (hs : s.ok) (hn : n ≤ 68719476736) :
  Calls Tryz.prog 46 #[.agg (arA (sb s)), .int .u64 (n : Nat)] w fun e w' => e = .returned (.agg (arA (sb (ctrW s n)))) ∧ Below w.heap.size w w' := by
 obtain ⟨f, HF⟩ : ∃ f, Hid (f = sb s) := ⟨_, rfl⟩
 have HFl : Hid (∀ j, f j < 256) := by show ∀ j, _; rw [HF.out]; exact sb_lt s
 obtain ⟨F2, HF2⟩ : ∃ F, Hid (F = sb (ctrW s n)) := ⟨_, rfl⟩
 obtain ⟨C, HC⟩ : ∃ C, Hid (C = crr s.num n) := ⟨_, rfl⟩
 have HC0 : Hid (C 0 = n) := by show _ = _; rw [HC.out]; rfl
 have HCs : Hid (∀ k, k < 16 → C (k + 1) = (f (15 - k) + C k) / 256) := by show ∀ k, _; rw [HC.out, HF.out]; exact fun k hk => crr_sb hs n k hk
 have HCe : Hid (∀ j, j < 16 → (f j + C (15 - j)) % 256 = F2 j) := by show ∀ j, _; rw [HC.out, HF.out, HF2.out]; exact fun j hj => plus_sb hs n j hj
 have HCl : Hid (∀ k, C k ≤ 68719476736) := by show ∀ k, _; rw [HC.out]; exact fun k => Nat.le_trans (crr_le _ _ _) hn
 rw [← HF.out, ← HF2.out]
 clear hs hn HF HF2 HC
 have HI : Hid (Below w.heap.size w _ ∧ Ar _ w.heap.size f ∧ Ar _ (w.heap.size + 1) zero8) := ar_two w f 37 37
 unfold arA z16 at HI
 obtain ⟨R2, HR2⟩ : ∃ A, Hid (A = arA F2) := ⟨_, rfl⟩
 rw [← HR2.out]
 unfold arA
 rw [← HC0.out]
 go_enter Tryz.func46, Tryz.ntmps46
 go_wp2
 generalize ((w.alloc (.cells #[.int .u8 (f 0 : Nat), .int .u8 (f 1 : Nat), .int .u8 (f 2 : Nat), .int .u8 (f 3 : Nat), .int .u8 (f 4 : Nat), .int .u8 (f 5 : Nat), .int .u8 (f 6 : Nat), .int .u8 (f 7 : Nat), .int .u8 (f 8 : Nat), .int .u8 (f 9 : Nat), .int .u8 (f 10 : Nat), .int .u8 (f 11 : Nat), .int .u8 (f 12 : Nat), .int .u8 (f 13 : Nat), .int .u8 (f 14 : Nat), .int .u8 (f 15 : Nat)] 37)).alloc (.cells #[.int .u8 0, .int .u8 0, .int .u8 0, .int .u8 0, .int .u8 0, .int .u8 0, .int .u8 0, .int .u8 0, .int .u8 0, .int .u8 0, .int .u8 0, .int .u8 0, .int .u8 0, .int .u8 0, .int .u8 0, .int .u8 0] 37)) = w2 at HI ⊢
 obtain ⟨B1, HB1⟩ : ∃ b, Hid (w.heap.size + 1 = b) := ⟨_, rfl⟩
 rw [HB1.out] at HI ⊢
 have hB1 : w.heap.size ≠ B1 ∧ w.heap.size ≤ B1 := by have := HB1.out; omega
 go_loopw [1, 5] (fun vn i wr => ∃ j : Nat, j ≤ 16 ∧ i = .int .i64 ((j : Int) - 1) ∧ vn = .int .u64 (C (16 - j) : Nat) ∧ Hid (Below w.heap.size w wr ∧ Ar wr w.heap.size (fun q => if j ≤ q then F2 q else f q) ∧ wr.there B1 0 16)) (fun _ i _ => (intOf i + 1).toNat)
 case atStart => exact ⟨16, Nat.le_refl _, rfl, rfl, HI.out.1, HI.out.2.1.congr (fun j hj => by rw [if_neg (by omega)]), HI.out.2.2.t⟩
 case round =>
  obtain ⟨j, hj, rfl, rfl, HJ⟩ := hrel
  cases j with
  | zero =>
   have HA : Hid (Ar wr w.heap.size F2) := HJ.out.2.1.congr (fun j hj => by rw [if_pos (by omega)])
   have HRg : Hid (wr.rangeAt w.heap.size 0 (arL F2)) := HA.out.range
   obtain ⟨RL, HRL⟩ : ∃ L, Hid (L = arL F2) := ⟨_, rfl⟩
   have HRA : Hid (R2 = RL.toArray) := by show _ = _; rw [HR2.out, HRL.out, arL_array]
   rw [← HRL.out] at HRg
   have HA16 : Hid (A16 RL) := by show A16 _; rw [HRL.out]; exact a16 _
   have HTh : Hid (wr.there B1 0 RL.toArray.size) := HA16.out.there HJ.out.2.2
   go_wp2_with (first
    | (refine wpList_load_mid (by rfl) 37 (.tmp 2) (by rfl) w.heap.size 0 (by rfl) RL _ HRg.out Tryz.underlying37 rfl HA16.out.sz ?_)
    | (refine wpList_store_mid (by rfl) 37 (.tmp 4) (.tmp 28) (by rfl) B1 0 RL.toArray (by rfl) (by rfl) HTh.out HA16.out.sza HA16.out.one ?_))
   refine ret_array RL Tryz.results46 rfl ?_ Tryz.underlying37 rfl HA16.out.sz ⟨by rw [HRA.out], ?_⟩
   ·exact World.rangeAt_setCells_same _ _ _ _ (by rw [HA16.out.len]; exact HJ.out.2.2)
   ·exact belowB_setCells _ hB1.2 _ _ _ HJ.out.1
  | succ q =>
   have hq1 : (((q + 1 : Nat) : Int) - 1) = (q : Nat) := by omega
   rw [hq1]
   obtain ⟨c, HCC⟩ : ∃ x, Hid (x = C (16 - (q + 1))) := ⟨_, rfl⟩
   rw [← HCC.out]
   obtain ⟨a, HA⟩ : ∃ x, Hid (x = f q) := ⟨_, rfl⟩
   have hq16 : ((q : Nat) : Int) < 16 := by omega
   have hc : c ≤ 68719476736 := by rw [HCC.out]; exact HCl.out _
   have ha : a < 256 := by rw [HA.out]; exact HFl.out _
   have c1 : wr.cell? ⟨w.heap.size, q, none⟩ = some (.int .u8 (a : Nat)) := by rw [HJ.out.2.1.c q (by omega), if_neg (by omega), HA.out]
   have z1 : wr.frozen? ⟨w.heap.size, q, none⟩ = false := there_froz HJ.out.2.1.t q (by omega)
   go_wp2
   refine ⟨⟨q, by omega, rfl, val_eq ?_, ?_⟩, ?_⟩
   ·have e := HCs.out (15 - q) (by omega)
    rw [show 15 - q + 1 = 16 - q by omega, show 15 - (15 - q) = q by omega, ← HA.out, show 15 - q = 16 - (q + 1) by omega, ← HCC.out] at e
    rw [e]
    omega
   ·have hv : (((a : Nat) : Int) + ((c : Nat) : Int)) % 256 = ((F2 q : Nat) : Int) := by
     have e := HCe.out q (by omega)
     rw [← HA.out, show 15 - q = 16 - (q + 1) by omega, ← HCC.out] at e
     omega
    rw [hv]
    refine ⟨HJ.out.1.setCell (Nat.le_refl _) _, (HJ.out.2.1.set q (F2 q) (by omega)).congr (fun j hj => ?_), World.there_setCells HJ.out.2.2 _ _ [_]⟩
    by_cases e : j = q
    ·subst e; rw [if_pos rfl, if_pos (Nat.le_refl _)]
    ·rw [if_neg e]
     by_cases e2 : q + 1 ≤ j
     ·rw [if_pos e2, if_pos (by omega)]
     ·rw [if_neg e2, if_neg (by omega)]
   ·simp only [intOf]; omega
end Go.Proofs.YtgmfiljjogdccabGreatDoor
namespace Go.Proofs.YtgmfiljjogdccabGreatDoor
open Go.RowKit Go.RwLone Go.Conc.Locks
set_option linter.unusedVariables false
def ckE (n lo hi : Nat) : Int := if n < lo ∨ n % 8 ≠ 0 then 5 else if hi < n then 4 else 0
theorem ckE_ne {n lo hi : Nat} (h : ¬ (lo ≤ n ∧ n % 8 = 0 ∧ n ≤ hi)) : ckE n lo hi = 5 ∨ ckE n lo hi = 4 := by
 unfold ckE
 by_cases h1 : n < lo ∨ n % 8 ≠ 0
 ·rw [if_pos h1]; exact .inl rfl
 ·rw [if_neg h1, if_pos (by omega)]; exact .inr rfl
set_option maxHeartbeats 1600000 in
theorem checkLength_any (n lo hi : Nat) (w : World) (hn : n ≤ 9223372036854775807) (hlo : lo ≤ 1099511627776) (hh : hi ≤ 1099511627776) :
  Calls Tryz.prog 55 #[.int .i64 (n : Nat), .int .i64 (lo : Nat), .int .i64 (hi : Nat)] w fun e w' => e = .returned (.int .i64 (ckE n lo hi)) ∧ w' = w := by
 unfold ckE
 by_cases h1 : n < lo
 ·rw [if_pos (.inl h1)]
  have hlt : ((n : Nat) : Int) < (lo : Nat) := by omega
  go_enter Tryz.func55, Tryz.ntmps55
  go_wp2
  go_ret
  exact ⟨rfl, rfl⟩
 ·have hlt : ¬ ((n : Nat) : Int) < (lo : Nat) := by omega
  by_cases h2 : n % 8 = 0
  ·have hm : ((n : Nat) : Int) % 8 = 0 := by omega
   rw [if_neg (by omega)]
   by_cases h3 : hi < n
   ·rw [if_pos h3]
    have hgt : ((hi : Nat) : Int) < (n : Nat) := by omega
    go_enter Tryz.func55, Tryz.ntmps55
    go_wp2
    go_ret
    exact ⟨rfl, rfl⟩
   ·rw [if_neg h3]
    have hgt : ¬ ((hi : Nat) : Int) < (n : Nat) := by omega
    go_enter Tryz.func55, Tryz.ntmps55
    go_wp2
    go_ret
    exact ⟨rfl, rfl⟩
  ·rw [if_pos (.inr h2)]
   have hm : (((n : Nat) : Int) % 8 != 0) = true := by simp; omega
   go_enter Tryz.func55, Tryz.ntmps55
   go_wp2
   go_ret
   exact ⟨rfl, rfl⟩
set_option maxHeartbeats 1600000 in
set_option maxRecDepth 100000 in
theorem wrap_bad (g nr n cap : Nat) (a : Option Addr) (K : Nat → Nat) (w : World) (h : KeyAt w g nr K) (hn : n ≤ 9223372036854775807) (hb : ¬ (16 ≤ n ∧ n % 8 = 0 ∧ n ≤ 4096)) :
  Calls Tryz.prog 26 #[.pointer (some ⟨g, 0, none⟩), .slice a n cap] w fun e w' => e = .returned (.tuple #[.slice none 0 0, .int .i64 (ckE n 16 4096)]) ∧ KeyAt w' g nr K ∧ Touch w w' g 4 1 := by
 have HK : Hid (KeyAt w g nr K) := h
 have HH : Hid (Calls Tryz.prog 41 #[.pointer (some ⟨g, 0, none⟩)] w fun e w' => e = .returned (.int .i64 0) ∧ w' = w.setCell ⟨g, 4, none⟩ (.int .i32 1)) := hold_ok g nr K w h
 have HL : Hid (∀ u, Calls Tryz.prog 55 #[.int .i64 (n : Nat), .int .i64 (16 : Nat), .int .i64 (4096 : Nat)] u fun e w' => e = .returned (.int .i64 (ckE n 16 4096)) ∧ w' = u) := fun u => checkLength_any n 16 4096 u hn (by omega) (by omega)
 have hE : (ckE n 16 4096 != 0) = true := by rcases ckE_ne hb with e | e <;> rw [e] <;> rfl
 generalize ckE n 16 4096 = E at HL hE ⊢
 clear h hb
 go_enter_defers Tryz.func26, Tryz.ntmps26
 go_wp2_with (first | (go_at_call 41; refine HH.out.mono ?_))
 rintro e1 w1 ⟨rfl, hw1⟩
 have H1 : Hid (Ciph w1 g 6 nr K ∧ Touch w w1 g 4 1 ∧ w1.cell? ⟨g, 4, none⟩ = some (.int .i32 1)) := held HK.out hw1
 clear hw1 HH
 go_wp2_with (first | (go_at_call 55; refine (HL.out _).mono ?_))
 rintro e2 w2 ⟨rfl, rfl⟩
 go_wp2_with fail
 refine leaves_cons (f := 42) (args := #[.pointer (some ⟨g, 0, none⟩)]) (by simp) (by simp [go_sem]) ?_
 refine (unlocked HK.out H1.out.2.1 H1.out.2.2).mono ?_
 rintro e5 u5 w5 ⟨rfl, rfl, hk5, ht5, _⟩
 exact ⟨_, results_tmp2 rfl _ _ _, rfl, hk5, ht5⟩
set_option maxHeartbeats 1600000 in
set_option maxRecDepth 100000 in
theorem unwrap_bad (g nr n cap : Nat) (a : Option Addr) (K : Nat → Nat) (w : World) (h : KeyAt w g nr K) (hn : n ≤ 9223372036854775807) (hb : ¬ (24 ≤ n ∧ n % 8 = 0 ∧ n ≤ 4104)) :
  Calls Tryz.prog 28 #[.pointer (some ⟨g, 0, none⟩), .slice a n cap] w fun e w' => e = .returned (.tuple #[.slice none 0 0, .int .i64 (ckE n 24 4104)]) ∧ KeyAt w' g nr K ∧ Touch w w' g 4 1 := by
 have HK : Hid (KeyAt w g nr K) := h
 have HH : Hid (Calls Tryz.prog 41 #[.pointer (some ⟨g, 0, none⟩)] w fun e w' => e = .returned (.int .i64 0) ∧ w' = w.setCell ⟨g, 4, none⟩ (.int .i32 1)) := hold_ok g nr K w h
 have HL : Hid (∀ u, Calls Tryz.prog 55 #[.int .i64 (n : Nat), .int .i64 (24 : Nat), .int .i64 (4104 : Nat)] u fun e w' => e = .returned (.int .i64 (ckE n 24 4104)) ∧ w' = u) := fun u => checkLength_any n 24 4104 u hn (by omega) (by omega)
 have hE : (ckE n 24 4104 != 0) = true := by rcases ckE_ne hb with e | e <;> rw [e] <;> rfl
 generalize ckE n 24 4104 = E at HL hE ⊢
 clear h hb
 go_enter_defers Tryz.func28, Tryz.ntmps28
 go_wp2_with (first | (go_at_call 41; refine HH.out.mono ?_))
 rintro e1 w1 ⟨rfl, hw1⟩
 have H1 : Hid (Ciph w1 g 6 nr K ∧ Touch w w1 g 4 1 ∧ w1.cell? ⟨g, 4, none⟩ = some (.int .i32 1)) := held HK.out hw1
 clear hw1 HH
 go_wp2_with (first | (go_at_call 55; refine (HL.out _).mono ?_))
 rintro e2 w2 ⟨rfl, rfl⟩
 go_wp2_with fail
 refine leaves_cons (f := 42) (args := #[.pointer (some ⟨g, 0, none⟩)]) (by simp) (by simp [go_sem]) ?_
 refine (unlocked HK.out H1.out.2.1 H1.out.2.2).mono ?_
 rintro e5 u5 w5 ⟨rfl, rfl, hk5, ht5, _⟩
 exact ⟨_, results_tmp2 rfl _ _ _, rfl, hk5, ht5⟩
set_option maxHeartbeats 1600000 in
set_option maxRecDepth 100000 in
theorem skip_long (t g n m nr : Nat) (K : Nat → Nat) (s0 : W4) (w : World) (hk : KeyAt w g nr K) (hs : StreamAt w t g s0 n) (hne : t ≠ g) (hm : 1099511627776 < n + m) (hu : m < 18446744073709551616) :
  Calls Tryz.prog 17 #[.pointer (some ⟨t, 0, none⟩), .int .u64 (m : Nat)] w fun e w' => e = .returned (.int .i64 4) ∧ KeyAt w' g nr K ∧ Touch w w' g 4 1 := by
 have HK : Hid (KeyAt w g nr K) := hk
 have HS : Hid (StreamAt w t g s0 n) := hs
 have HNE : Hid (t ≠ g) := hne
 have HH : Hid (Calls Tryz.prog 41 #[.pointer (some ⟨g, 0, none⟩)] w fun e w' => e = .returned (.int .i64 0) ∧ w' = w.setCell ⟨g, 4, none⟩ (.int .i32 1)) := hold_ok g nr K w hk
 have ck := hs.key
 have hn40 := hs.most
 clear hk hs hne
 go_enter_defers Tryz.func17, Tryz.ntmps17
 go_wp2_with (first | (go_at_call 41; refine HH.out.mono ?_))
 rintro e1 w1 ⟨rfl, hw1⟩
 have H1 : Hid (Ciph w1 g 6 nr K ∧ Touch w w1 g 4 1 ∧ w1.cell? ⟨g, 4, none⟩ = some (.int .i32 1)) := held HK.out hw1
 have HS1 : Hid (StreamAt w1 t g s0 n) := HS.out.touch H1.out.2.1 HNE.out
 clear hw1 HH ck
 have ck : w1.cell? ⟨t, 0, none⟩ = some (.pointer (some ⟨g, 0, none⟩)) := HS1.out.key
 have KL : Hid (Calls Tryz.prog 43 #[.pointer (some ⟨t, 0, none⟩)] w1 fun e w' => e = .returned (.int .u64 (1099511627776 - n : Nat)) ∧ w' = w1) := left_ok t g n s0 w1 HS1.out
 obtain ⟨lf, HLF⟩ : ∃ x, Hid (x = 1099511627776 - n) := ⟨_, rfl⟩
 rw [← HLF.out] at KL
 have hle : ((lf : Nat) : Int) < (m : Nat) := by have := HLF.out; omega
 go_wp2_with (first | (go_at_call 43; refine KL.out.mono ?_; rintro e2 w2 ⟨rfl, hw2⟩; obtain rfl := hw2.symm))
 refine leaves_cons (f := 42) (args := #[.pointer (some ⟨g, 0, none⟩)]) (by simp) (by simp [go_sem]) ?_
 refine (unlocked HK.out H1.out.2.1 H1.out.2.2).mono ?_
 rintro e5 u5 w5 ⟨rfl, rfl, hk5, ht5, _⟩
 exact ⟨_, results_tmp rfl _ _ _, rfl, hk5, ht5⟩
set_option maxHeartbeats 1600000 in
set_option maxRecDepth 100000 in
theorem xor_over (t g n m cap nr : Nat) (a : Option Addr) (K : Nat → Nat) (s0 : W4) (w : World) (hk : KeyAt w g nr K) (hs : StreamAt w t g s0 n) (hne : t ≠ g) (hm : 1048576 < m) (hl : m ≤ 9223372036854775807) :
  Calls Tryz.prog 13 #[.pointer (some ⟨t, 0, none⟩), .slice a m cap] w fun e w' => e = .returned (.tuple #[.slice none 0 0, .int .i64 4]) ∧ KeyAt w' g nr K ∧ Touch w w' g 4 1 := by
 have HK : Hid (KeyAt w g nr K) := hk
 have HS : Hid (StreamAt w t g s0 n) := hs
 have HNE : Hid (t ≠ g) := hne
 have HH : Hid (Calls Tryz.prog 41 #[.pointer (some ⟨g, 0, none⟩)] w fun e w' => e = .returned (.int .i64 0) ∧ w' = w.setCell ⟨g, 4, none⟩ (.int .i32 1)) := hold_ok g nr K w hk
 have ck := hs.key
 have hn40 := hs.most
 have hgt : (1048576 : Int) < (m : Nat) := by omega
 clear hk hs hne
 go_enter_defers Tryz.func13, Tryz.ntmps13
 go_wp2_with (first | (go_at_call 41; refine HH.out.mono ?_))
 rintro e1 w1 ⟨rfl, hw1⟩
 have H1 : Hid (Ciph w1 g 6 nr K ∧ Touch w w1 g 4 1 ∧ w1.cell? ⟨g, 4, none⟩ = some (.int .i32 1)) := held HK.out hw1
 have HS1 : Hid (StreamAt w1 t g s0 n) := HS.out.touch H1.out.2.1 HNE.out
 clear hw1 HH ck
 have ck : w1.cell? ⟨t, 0, none⟩ = some (.pointer (some ⟨g, 0, none⟩)) := HS1.out.key
 have KL : Hid (Calls Tryz.prog 43 #[.pointer (some ⟨t, 0, none⟩)] w1 fun e w' => e = .returned (.int .u64 (1099511627776 - n : Nat)) ∧ w' = w1) := left_ok t g n s0 w1 HS1.out
 obtain ⟨lf, HLF⟩ : ∃ x, Hid (x = 1099511627776 - n) := ⟨_, rfl⟩
 rw [← HLF.out] at KL
 go_wp2_with fail
 refine leaves_cons (f := 42) (args := #[.pointer (some ⟨g, 0, none⟩)]) (by simp) (by simp [go_sem]) ?_
 refine (unlocked HK.out H1.out.2.1 H1.out.2.2).mono ?_
 rintro e5 u5 w5 ⟨rfl, rfl, hk5, ht5, _⟩
 exact ⟨_, results_tmp2 rfl _ _ _, rfl, hk5, ht5⟩
set_option maxHeartbeats 1600000 in
set_option maxRecDepth 100000 in
theorem xor_long (t g n m cap nr : Nat) (a : Option Addr) (K : Nat → Nat) (s0 : W4) (w : World) (hk : KeyAt w g nr K) (hs : StreamAt w t g s0 n) (hne : t ≠ g) (hm1 : m ≤ 1048576) (hm : 1099511627776 < n + m) :
  Calls Tryz.prog 13 #[.pointer (some ⟨t, 0, none⟩), .slice a m cap] w fun e w' => e = .returned (.tuple #[.slice none 0 0, .int .i64 4]) ∧ KeyAt w' g nr K ∧ Touch w w' g 4 1 := by
 have HK : Hid (KeyAt w g nr K) := hk
 have HS : Hid (StreamAt w t g s0 n) := hs
 have HNE : Hid (t ≠ g) := hne
 have HH : Hid (Calls Tryz.prog 41 #[.pointer (some ⟨g, 0, none⟩)] w fun e w' => e = .returned (.int .i64 0) ∧ w' = w.setCell ⟨g, 4, none⟩ (.int .i32 1)) := hold_ok g nr K w hk
 have ck := hs.key
 have hn40 := hs.most
 have HM : Hid (1099511627776 < n + m) := hm; clear hm
 clear hk hs hne
 go_enter_defers Tryz.func13, Tryz.ntmps13
 go_wp2_with (first | (go_at_call 41; refine HH.out.mono ?_))
 rintro e1 w1 ⟨rfl, hw1⟩
 have H1 : Hid (Ciph w1 g 6 nr K ∧ Touch w w1 g 4 1 ∧ w1.cell? ⟨g, 4, none⟩ = some (.int .i32 1)) := held HK.out hw1
 have HS1 : Hid (StreamAt w1 t g s0 n) := HS.out.touch H1.out.2.1 HNE.out
 clear hw1 HH ck
 have ck : w1.cell? ⟨t, 0, none⟩ = some (.pointer (some ⟨g, 0, none⟩)) := HS1.out.key
 have KL : Hid (Calls Tryz.prog 43 #[.pointer (some ⟨t, 0, none⟩)] w1 fun e w' => e = .returned (.int .u64 (1099511627776 - n : Nat)) ∧ w' = w1) := left_ok t g n s0 w1 HS1.out
 obtain ⟨lf, HLF⟩ : ∃ x, Hid (x = 1099511627776 - n) := ⟨_, rfl⟩
 rw [← HLF.out] at KL
 have hle : ((lf : Nat) : Int) < (m : Nat) := by have := HLF.out; have := HM.out; omega
 go_wp2_with (first | (go_at_call 43; refine KL.out.mono ?_; rintro e2 w2 ⟨rfl, hw2⟩; obtain rfl := hw2.symm))
 refine leaves_cons (f := 42) (args := #[.pointer (some ⟨g, 0, none⟩)]) (by simp) (by simp [go_sem]) ?_
 refine (unlocked HK.out H1.out.2.1 H1.out.2.2).mono ?_
 rintro e5 u5 w5 ⟨rfl, rfl, hk5, ht5, _⟩
 exact ⟨_, results_tmp2 rfl _ _ _, rfl, hk5, ht5⟩
set_option maxHeartbeats 1600000 in
set_option maxRecDepth 100000 in
theorem stream_off (k : Option Nat) (E : Int) (f : Nat → Nat) (w : World) (h : Off w k E) : Calls Tryz.prog 19 #[gq k, .agg (arA f)] w fun e w' => e = .returned (.tuple #[.pointer none, .int .i64 E]) ∧ OffP w w' k E := by
 have HA : Hid (Below w.heap.size w (w.alloc (.cells (arA f) 38))) := (Below.refl _ _).alloc (Nat.le_refl _) _
 have HO : Hid (Off w k E) := h
 have HH : Hid (Calls Tryz.prog 41 #[gq k] (w.alloc (.cells (arA f) 38)) fun e w' => e = .returned (.int .i64 E) ∧ OffP (w.alloc (.cells (arA f) 38)) w' k E) := hold_off k E _ (h.below HA.out)
 have hE1 : (E != 0) = true := by rcases h.e with rfl | rfl <;> rfl
 clear h
 generalize gq k = kp at HH ⊢
 unfold arA at HH HA ⊢
 go_enter Tryz.func19, Tryz.ntmps19
 go_wp2_with (first | (go_at_call 41; refine HH.out.mono ?_))
 rintro e1 w1 ⟨rfl, h1⟩
 have H1 : Hid (OffP w w1 k E) := OffP.after HO.out HA.out h1
 clear h1 HH HA
 go_wp2
 go_ret2
 exact ⟨rfl, H1.out⟩
end Go.Proofs.YtgmfiljjogdccabGreatDoor
