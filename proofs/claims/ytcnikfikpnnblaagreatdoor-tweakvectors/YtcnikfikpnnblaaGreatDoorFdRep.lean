import Derived.Test.YtcnikfikpnnblaaGreatDoorPart25
import Derived.Test.YtcnikfikpnnblaaGreatDoorPart02
import Derived.Lib.SliceRun
namespace Go.Proofs.YtcnikfikpnnblaaGreatDoor.Fd
open Go.RowKit Go.Proofs.YtcnikfikpnnblaaGreatDoor.Fld
set_option linter.unusedVariables false
/-- The two halves of 128 bits, as numbers. -/
def hiV (v : BitVec 128) : Nat := v.toNat / 18446744073709551616
def loV (v : BitVec 128) : Nat := v.toNat % 18446744073709551616
theorem hiV_lt (v : BitVec 128) : hiV v < 18446744073709551616 := by have := v.isLt; unfold hiV; omega
theorem loV_lt (v : BitVec 128) : loV v < 18446744073709551616 := by unfold loV; omega
theorem hiV_xor (a b : BitVec 128) : hiV (a ^^^ b) = Nat.xor (hiV a) (hiV b) := by
  have h : ∀ x : Nat, x / 18446744073709551616 = x >>> 64 := fun x => (Nat.shiftRight_eq_div_pow x 64).symm
  unfold hiV
  rw [BitVec.toNat_xor, h, h, h, Nat.shiftRight_xor_distrib]
  rfl
theorem loV_xor (a b : BitVec 128) : loV (a ^^^ b) = Nat.xor (loV a) (loV b) := by
  unfold loV
  rw [BitVec.toNat_xor]
  exact Nat.xor_mod_two_pow (n := 64)
theorem hiV_shl (v : BitVec 128) : hiV (v <<< 1) = hiV v * 2 % 18446744073709551616 + loV v / 9223372036854775808 := by
  have := v.isLt
  unfold hiV loV
  rw [BitVec.toNat_shiftLeft, Nat.shiftLeft_eq]
  omega
theorem loV_shl (v : BitVec 128) : loV (v <<< 1) = loV v * 2 % 18446744073709551616 := by
  have := v.isLt
  unfold loV
  rw [BitVec.toNat_shiftLeft, Nat.shiftLeft_eq]
  omega
theorem hiV_shr (v : BitVec 128) : hiV (v >>> 1) = hiV v / 2 := by
  have := v.isLt
  unfold hiV
  rw [BitVec.toNat_ushiftRight, Nat.shiftRight_eq_div_pow]
  omega
theorem loV_shr (v : BitVec 128) : loV (v >>> 1) = hiV v * 9223372036854775808 % 18446744073709551616 + loV v / 2 := by
  have := v.isLt
  unfold loV hiV
  rw [BitVec.toNat_ushiftRight, Nat.shiftRight_eq_div_pow]
  omega
theorem bit_nat (v : BitVec 128) (k : Nat) : v.getLsbD k = decide (v.toNat / 2 ^ k % 2 = 1) := by
  rw [← BitVec.testBit_toNat, Nat.testBit_eq_decide_div_mod_eq]
theorem bit_top (v : BitVec 128) : (if v.getLsbD 127 then 1 else 0) = hiV v / 9223372036854775808 := by
  have := v.isLt
  rw [bit_nat]
  unfold hiV
  have e : (2 : Nat) ^ 127 = 170141183460469231731687303715884105728 := by decide
  rw [e]
  by_cases h : v.toNat / 170141183460469231731687303715884105728 % 2 = 1
  · simp only [h, decide_true, if_true]; omega
  · simp only [h, decide_false]; rw [if_neg (by decide)]; omega
theorem bit_low (v : BitVec 128) : (if v.getLsbD 0 then 1 else 0) = loV v % 2 := by
  rw [bit_nat]
  unfold loV
  simp only [Nat.pow_zero, Nat.div_one]
  by_cases h : v.toNat % 2 = 1
  · simp only [h, decide_true, if_true]; omega
  · simp only [h, decide_false]; rw [if_neg (by decide)]; omega
/-- A polynomial of the program. -/
def PV (v : BitVec 128) : Value := .agg #[.int .u64 (hiV v : Nat), .int .u64 (loV v : Nat)]
theorem wraps_u64 (n : Int) (h₀ : 0 ≤ n) (h₁ : n < 18446744073709551616) : IntKind.u64.wrap n = n := by simp [IntKind.wrap, IntKind.bits, IntKind.signed]; omega
theorem size35 : (Tryz.prog.info? 122).map (·.size) = some 2 := by kernel_rfl
theorem below3 (w : World) (o1 o2 o3 : Obj) : Below w.heap.size w (((w.alloc o1).alloc o2).alloc o3) := (((Below.refl _ w).alloc (Nat.le_refl _) _).alloc (by simp) _).alloc (by simp; omega) _
theorem range3 (w : World) (o1 o2 : Obj) (C : Array Value) (t : TypeId) : (((w.alloc o1).alloc o2).alloc (.cells C t)).rangeAt (w.heap.size + 1 + 1) 0 C.toList := by have h := rangeAt_new ((w.alloc o1).alloc o2) C t; simpa using h
theorem range2 (w : World) (o1 : Obj) (C : Array Value) (t : TypeId) : ((w.alloc o1).alloc (.cells C t)).rangeAt (w.heap.size + 1) 0 C.toList := by have h := rangeAt_new (w.alloc o1) C t; simpa using h
theorem wrap_mul (a k : Nat) : IntKind.u64.wrap (((a : Nat) : Int) * ((k : Nat) : Int)) = ((a * k % 18446744073709551616 : Nat) : Int) := by simp [IntKind.wrap, IntKind.bits, IntKind.signed]
theorem below2 (w : World) (o1 o2 : Obj) : Below w.heap.size w ((w.alloc o1).alloc o2) := ((Below.refl _ w).alloc (Nat.le_refl _) _).alloc (by simp) _
theorem bits_u64 (a b : Nat) (ha : a < 18446744073709551616) (hb : b < 18446744073709551616) :
    bits .xor .u64 a b = ((Nat.xor a b : Nat) : Int) ∧ bits .and .u64 a b = ((Nat.land a b : Nat) : Int) ∧ bits .or .u64 a b = ((Nat.lor a b : Nat) : Int) := by
  have ha' : a % 2 ^ IntKind.u64.bits = a := Nat.mod_eq_of_lt (by simpa [IntKind.bits] using ha)
  have hb' : b % 2 ^ IntKind.u64.bits = b := Nat.mod_eq_of_lt (by simpa [IntKind.bits] using hb)
  refine ⟨?_, ?_, ?_⟩
  · simp only [bits, BitVec.ofInt_natCast, BitVec.toNat_xor, BitVec.toNat_ofNat, ha', hb']
    have : a ^^^ b < 18446744073709551616 := Nat.xor_lt_two_pow (n := 64) ha hb
    exact wraps_u64 _ (Int.natCast_nonneg _) (by omega)
  · simp only [bits, BitVec.ofInt_natCast, BitVec.toNat_and, BitVec.toNat_ofNat, ha', hb']
    have : a &&& b < 18446744073709551616 := Nat.and_lt_two_pow (n := 64) a hb
    exact wraps_u64 _ (Int.natCast_nonneg _) (by omega)
  · simp only [bits, BitVec.ofInt_natCast, BitVec.toNat_or, BitVec.toNat_ofNat, ha', hb']
    have : a ||| b < 18446744073709551616 := Nat.or_lt_two_pow (n := 64) ha hb
    exact wraps_u64 _ (Int.natCast_nonneg _) (by omega)
theorem and_1 (a : Nat) (ha : a < 18446744073709551616) : bits .and .u64 (a : Int) 1 = ((a % 2 : Nat) : Int) := by
  have h := (bits_u64 a 1 ha (by decide)).2.1
  have e : Nat.land a 1 = a % 2 := Nat.and_one_is_mod a
  rw [e] at h
  exact h
theorem bit_cases (v : BitVec 128) (k : Nat) : (if v.getLsbD k then 1 else 0) = v.toNat / 2 ^ k % 2 := by
  rw [bit_nat]
  by_cases h : v.toNat / 2 ^ k % 2 = 1
  · simp [h]
  · simp only [h, decide_false]; rw [if_neg (by decide)]; omega
theorem bit_lo (v : BitVec 128) (k : Nat) (hk : k < 64) : (if v.getLsbD k then 1 else 0) = loV v / 2 ^ k % 2 := by
  rw [bit_cases]
  have e : (18446744073709551616 : Nat) = 2 ^ k * (2 * 2 ^ (63 - k)) := by
    have : (18446744073709551616 : Nat) = 2 ^ 64 := by decide
    rw [this, show (64 : Nat) = k + (1 + (63 - k)) by omega, Nat.pow_add, Nat.pow_add]
  unfold loV
  rw [e, Nat.mod_mul_right_div_self, Nat.mod_mul_right_mod]
theorem bit_hi (v : BitVec 128) (k : Nat) (hk : 64 ≤ k) : (if v.getLsbD k then 1 else 0) = hiV v / 2 ^ (k - 64) % 2 := by
  rw [bit_cases]
  have e : (2 : Nat) ^ k = 18446744073709551616 * 2 ^ (k - 64) := by
    have : (18446744073709551616 : Nat) = 2 ^ 64 := by decide
    rw [this, ← Nat.pow_add, show 64 + (k - 64) = k by omega]
  unfold hiV
  rw [e, Nat.div_div_eq_div_mul]
theorem div_pow_cast (a k : Nat) : ((a : Nat) : Int) / 2 ^ k = ((a / 2 ^ k : Nat) : Int) := by push_cast; rfl
set_option maxHeartbeats 800000 in
set_option maxRecDepth 100000 in
theorem bit_ok (v : BitVec 128) (k : Nat) (w : World) (hk : k < 128) : Calls Tryz.prog 62 #[PV v, .int .i64 (k : Nat)] w fun e w' => e = .returned (.int .u64 ((if v.getLsbD k then 1 else 0 : Nat) : Int)) ∧ Below w.heap.size w w' := by
  obtain ⟨c, HC⟩ : ∃ c : Nat, Hid (c = if v.getLsbD k then 1 else 0) := ⟨_, rfl⟩
  rw [← HC.out]
  have HB : Hid (Below w.heap.size w (w.alloc (.cells #[.int .u64 (hiV v : Nat), .int .u64 (loV v : Nat)] 122))) := (Below.refl _ w).alloc (Nat.le_refl _) _
  by_cases h64 : k < 64
  · have i64 : ((k : Nat) : Int) < 64 := by omega
    have ha : bits .and .u64 (((loV v : Nat) : Int) / 2 ^ k) 1 = ((c : Nat) : Int) := by
      rw [div_pow_cast, and_1 _ (Nat.lt_of_le_of_lt (Nat.div_le_self _ _) (loV_lt v)), HC.out, bit_lo v k h64]
    unfold PV
    obtain ⟨hi, HH⟩ : ∃ x, Hid (x = hiV v) := ⟨_, rfl⟩
    obtain ⟨lo, HL⟩ : ∃ x, Hid (x = loV v) := ⟨_, rfl⟩
    rw [← HL.out] at ha
    rw [← HH.out, ← HL.out] at HB ⊢
    go_enter Tryz.func62, Tryz.ntmps62
    go_wp2
    go_ret
    exact ⟨rfl, HB.out⟩
  · have i64 : ¬ ((k : Nat) : Int) < 64 := by omega
    have ha : bits .and .u64 (((hiV v : Nat) : Int) / 2 ^ (k - 64)) 1 = ((c : Nat) : Int) := by
      rw [div_pow_cast, and_1 _ (Nat.lt_of_le_of_lt (Nat.div_le_self _ _) (hiV_lt v)), HC.out, bit_hi v k (by omega)]
    unfold PV
    obtain ⟨hi, HH⟩ : ∃ x, Hid (x = hiV v) := ⟨_, rfl⟩
    obtain ⟨lo, HL⟩ : ∃ x, Hid (x = loV v) := ⟨_, rfl⟩
    rw [← HH.out] at ha
    rw [← HH.out, ← HL.out] at HB ⊢
    go_enter Tryz.func62, Tryz.ntmps62
    go_wp2
    go_ret
    exact ⟨rfl, HB.out⟩
set_option maxHeartbeats 800000 in
set_option maxRecDepth 100000 in
theorem plus_ok (a b : BitVec 128) (c : Bool) (w : World) : Calls Tryz.prog 61 #[PV a, PV b, .int .u64 ((if c then 1 else 0 : Nat) : Int)] w fun e w' => e = .returned (PV (a ^^^ (if c then b else 0#128))) ∧ Below w.heap.size w w' := by
  obtain ⟨r, HR⟩ : ∃ r, Hid (r = a ^^^ (if c then b else 0#128)) := ⟨_, rfl⟩
  rw [← HR.out]
  have h1 : bits .xor .u64 ((hiV a : Nat) : Int) (((hiV b * (if c then 1 else 0 : Nat) : Nat)) : Int) = ((hiV r : Nat) : Int) := by
    have : hiV b * (if c then 1 else 0 : Nat) < 18446744073709551616 := by have := hiV_lt b; cases c <;> simp <;> omega
    rw [(bits_u64 _ _ (hiV_lt a) this).1, HR.out, hiV_xor]
    cases c
    · simp [hiV]
    · simp
  have h2 : bits .xor .u64 ((loV a : Nat) : Int) (((loV b * (if c then 1 else 0 : Nat) : Nat)) : Int) = ((loV r : Nat) : Int) := by
    have : loV b * (if c then 1 else 0 : Nat) < 18446744073709551616 := by have := loV_lt b; cases c <;> simp <;> omega
    rw [(bits_u64 _ _ (loV_lt a) this).1, HR.out, loV_xor]
    cases c
    · simp [loV]
    · simp
  have b1 := hiV_lt b
  have b2 := loV_lt b
  unfold PV
  obtain ⟨ah, HA⟩ : ∃ x, Hid (x = hiV a) := ⟨_, rfl⟩
  obtain ⟨al, HAL⟩ : ∃ x, Hid (x = loV a) := ⟨_, rfl⟩
  obtain ⟨bh, HB⟩ : ∃ x, Hid (x = hiV b) := ⟨_, rfl⟩
  obtain ⟨bl, HBL⟩ : ∃ x, Hid (x = loV b) := ⟨_, rfl⟩
  obtain ⟨rh, HRH⟩ : ∃ x, Hid (x = hiV r) := ⟨_, rfl⟩
  obtain ⟨rl, HRL⟩ : ∃ x, Hid (x = loV r) := ⟨_, rfl⟩
  rw [← HA.out, ← HB.out, ← HRH.out] at h1
  rw [← HAL.out, ← HBL.out, ← HRL.out] at h2
  rw [← HB.out] at b1
  rw [← HBL.out] at b2
  rw [← HA.out, ← HAL.out, ← HB.out, ← HBL.out, ← HRH.out, ← HRL.out]
  have HBB : Hid (Below w.heap.size w (((w.alloc (.cells #[.int .u64 (ah : Nat), .int .u64 (al : Nat)] 122)).alloc (.cells #[.int .u64 (bh : Nat), .int .u64 (bl : Nat)] 122)).alloc (.cells #[.int .u64 (rh : Nat), .int .u64 (rl : Nat)] 122))) := below3 w _ _ _
  cases c
  · simp at h1 h2
    go_enter Tryz.func61, Tryz.ntmps61
    go_wp2
    refine ret_array [.int .u64 (rh : Nat), .int .u64 (rl : Nat)] Tryz.results61 rfl (range3 w _ _ #[.int .u64 (rh : Nat), .int .u64 (rl : Nat)] 122) Tryz.underlying122 rfl size35 ⟨rfl, HBB.out⟩
  · simp at h1 h2
    go_enter Tryz.func61, Tryz.ntmps61
    go_wp2
    refine ret_array [.int .u64 (rh : Nat), .int .u64 (rl : Nat)] Tryz.results61 rfl (range3 w _ _ #[.int .u64 (rh : Nat), .int .u64 (rl : Nat)] 122) Tryz.underlying122 rfl size35 ⟨rfl, HBB.out⟩
theorem TX_hi (v : BitVec 128) : hiV (TX v) = hiV v * 2 % 18446744073709551616 + loV v / 9223372036854775808 := by
  unfold TX
  rw [hiV_xor, hiV_shl]
  have : hiV (if v.getLsbD 127 then 0x87#128 else 0#128) = 0 := by split <;> decide
  rw [this]
  exact Nat.xor_zero _
theorem TX_lo (v : BitVec 128) : loV (TX v) = Nat.xor (loV v * 2 % 18446744073709551616) (135 * (hiV v / 9223372036854775808)) := by
  unfold TX
  rw [loV_xor, loV_shl, ← bit_top]
  congr 1
  split <;> decide
theorem UP_hi (v : BitVec 128) : hiV (UP v) = Nat.xor (hiV v / 2) (16212958658533785600 * (loV v % 2)) := by
  unfold UP
  rw [hiV_xor, hiV_shr, ← bit_low]
  congr 1
  split <;> decide
theorem UP_lo (v : BitVec 128) : loV (UP v) = hiV v * 9223372036854775808 % 18446744073709551616 + loV v / 2 := by
  unfold UP
  rw [loV_xor, loV_shr]
  have : loV (if v.getLsbD 0 then 0xe1000000000000000000000000000000#128 else 0#128) = 0 := by split <;> decide
  rw [this]
  exact Nat.xor_zero _
theorem or_add (a b k : Nat) (ha : a % 2 ^ k = 0) (hb : b < 2 ^ k) : Nat.lor a b = a + b := by
  have e : a = 2 ^ k * (a / 2 ^ k) := by
    have := Nat.div_add_mod a (2 ^ k)
    omega
  have h := Nat.two_pow_add_eq_or_of_lt hb (a / 2 ^ k)
  rw [← e] at h
  exact h.symm
set_option maxHeartbeats 800000 in
set_option maxRecDepth 100000 in
theorem timesX_ok (v : BitVec 128) (w : World) : Calls Tryz.prog 270 #[PV v] w fun e w' => e = .returned (PV (TX v)) ∧ Below w.heap.size w w' := by
  have h1 := hiV_lt v
  have h2 := loV_lt v
  have e1 : bits .or .u64 (IntKind.u64.wrap (((hiV v : Nat) : Int) * 2)) (((loV v : Nat) : Int) / 9223372036854775808) = ((hiV (TX v) : Nat) : Int) := by
    have q1 := wrap_mul (hiV v) 2
    have q2 : ((loV v : Nat) : Int) / 9223372036854775808 = ((loV v / 9223372036854775808 : Nat) : Int) := by omega
    rw [show (2 : Int) = ((2 : Nat) : Int) from rfl, q1, q2, (bits_u64 _ _ (by omega) (by omega)).2.2, TX_hi, or_add _ _ 1 (by omega) (by omega)]
  have e2 : bits .xor .u64 (IntKind.u64.wrap (((loV v : Nat) : Int) * 2)) (135 * (((hiV v : Nat) : Int) / 9223372036854775808)) = ((loV (TX v) : Nat) : Int) := by
    have q1 := wrap_mul (loV v) 2
    have q2 : 135 * (((hiV v : Nat) : Int) / 9223372036854775808) = ((135 * (hiV v / 9223372036854775808) : Nat) : Int) := by omega
    rw [q2, show (2 : Int) = ((2 : Nat) : Int) from rfl, q1, (bits_u64 _ _ (by omega) (by omega)).1, TX_lo]
  unfold PV
  obtain ⟨rh, HRH⟩ : ∃ x, Hid (x = hiV (TX v)) := ⟨_, rfl⟩
  obtain ⟨rl, HRL⟩ : ∃ x, Hid (x = loV (TX v)) := ⟨_, rfl⟩
  rw [← HRH.out] at e1
  rw [← HRL.out] at e2
  rw [← HRH.out, ← HRL.out]
  obtain ⟨ah, HA⟩ : ∃ x, Hid (x = hiV v) := ⟨_, rfl⟩
  obtain ⟨al, HAL⟩ : ∃ x, Hid (x = loV v) := ⟨_, rfl⟩
  rw [← HA.out] at h1 e1 e2 ⊢
  rw [← HAL.out] at h2 e1 e2 ⊢
  have HBB : Hid (Below w.heap.size w ((w.alloc (.cells #[.int .u64 (ah : Nat), .int .u64 (al : Nat)] 122)).alloc (.cells #[.int .u64 (rh : Nat), .int .u64 (rl : Nat)] 122))) := below2 w _ _
  go_enter Tryz.func270, Tryz.ntmps270
  go_wp2
  refine ret_array [.int .u64 (rh : Nat), .int .u64 (rl : Nat)] Tryz.results270 rfl (range2 w _ #[.int .u64 (rh : Nat), .int .u64 (rl : Nat)] 122) Tryz.underlying122 rfl size35 ⟨rfl, HBB.out⟩
set_option maxHeartbeats 800000 in
set_option maxRecDepth 100000 in
theorem overX_ok (v : BitVec 128) (w : World) : Calls Tryz.prog 63 #[PV v] w fun e w' => e = .returned (PV (UP v)) ∧ Below w.heap.size w w' := by
  have h1 := hiV_lt v
  have h2 := loV_lt v
  have e0 := and_1 (loV v) h2
  have e1 : bits .or .u64 (IntKind.u64.wrap (((hiV v : Nat) : Int) * 9223372036854775808)) (((loV v : Nat) : Int) / 2) = ((loV (UP v) : Nat) : Int) := by
    have q1 := wrap_mul (hiV v) 9223372036854775808
    have q2 : ((loV v : Nat) : Int) / 2 = ((loV v / 2 : Nat) : Int) := by omega
    rw [show (9223372036854775808 : Int) = ((9223372036854775808 : Nat) : Int) from rfl, q1, q2, (bits_u64 _ _ (by omega) (by omega)).2.2, UP_lo, or_add _ _ 63 (by omega) (by omega)]
  have e2 : bits .xor .u64 (((hiV v : Nat) : Int) / 2) (16212958658533785600 * (((loV v : Nat) : Int) % 2)) = ((hiV (UP v) : Nat) : Int) := by
    have q1 : ((hiV v : Nat) : Int) / 2 = ((hiV v / 2 : Nat) : Int) := by omega
    have q2 : 16212958658533785600 * (((loV v : Nat) : Int) % 2) = ((16212958658533785600 * (loV v % 2) : Nat) : Int) := by omega
    rw [q1, q2, (bits_u64 _ _ (by omega) (by omega)).1, UP_hi]
  unfold PV
  obtain ⟨rh, HRH⟩ : ∃ x, Hid (x = hiV (UP v)) := ⟨_, rfl⟩
  obtain ⟨rl, HRL⟩ : ∃ x, Hid (x = loV (UP v)) := ⟨_, rfl⟩
  rw [← HRL.out] at e1
  rw [← HRH.out] at e2
  rw [← HRH.out, ← HRL.out]
  obtain ⟨ah, HA⟩ : ∃ x, Hid (x = hiV v) := ⟨_, rfl⟩
  obtain ⟨al, HAL⟩ : ∃ x, Hid (x = loV v) := ⟨_, rfl⟩
  rw [← HA.out] at h1 e1 e2 ⊢
  rw [← HAL.out] at h2 e0 e1 e2 ⊢
  have HBB : Hid (Below w.heap.size w ((w.alloc (.cells #[.int .u64 (ah : Nat), .int .u64 (al : Nat)] 122)).alloc (.cells #[.int .u64 (rh : Nat), .int .u64 (rl : Nat)] 122))) := below2 w _ _
  go_enter Tryz.func63, Tryz.ntmps63
  go_wp2
  refine ret_array [.int .u64 (rh : Nat), .int .u64 (rl : Nat)] Tryz.results63 rfl (range2 w _ #[.int .u64 (rh : Nat), .int .u64 (rl : Nat)] 122) Tryz.underlying122 rfl size35 ⟨rfl, HBB.out⟩
end Go.Proofs.YtcnikfikpnnblaaGreatDoor.Fd
