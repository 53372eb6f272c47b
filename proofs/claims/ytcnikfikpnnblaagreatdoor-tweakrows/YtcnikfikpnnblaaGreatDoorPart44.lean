import Derived.Test.YtcnikfikpnnblaaGreatDoorPart42
import Derived.Test.YtcnikfikpnnblaaGreatDoorFdTimes
namespace Go.Proofs.YtcnikfikpnnblaaGreatDoor
open Go.RowKit
set_option linter.unusedVariables false
set_option linter.unusedSimpArgs false
theorem add64_run (l x : Nat) (w : World) : (callFunc 200 #[.int .u64 (l : Nat), .int .u64 (x : Nat), .int .u64 0]).run Tryz.prog w = .ok (.value (.tuple #[.int .u64 ((l + x) % 18446744073709551616 : Nat), .int .u64 ((l + x) / 18446744073709551616 : Nat)])) w := by kernel_rfl
set_option maxHeartbeats 800000 in
set_option maxRecDepth 100000 in
theorem add128_ok (h l x : Nat) (w : World) (hh : h < 18446744073709551616) (hl : l < 18446744073709551616) (hx : x < 18446744073709551616) :
    Calls Tryz.prog 142 #[.int .u64 (h : Nat), .int .u64 (l : Nat), .int .u64 (x : Nat)] w fun e w' => e = .returned (.tuple #[.int .u64 ((h + (l + x) / 18446744073709551616) % 18446744073709551616 : Nat), .int .u64 ((l + x) % 18446744073709551616 : Nat)]) ∧ w' = w := by
  have hr := fun u => add64_run l x u
  obtain ⟨y, HY⟩ : ∃ y, Hid ((l + x) % 18446744073709551616 = y) := ⟨_, rfl⟩
  obtain ⟨z, HZ⟩ : ∃ z, Hid ((l + x) / 18446744073709551616 = z) := ⟨_, rfl⟩
  rw [HY.out, HZ.out] at hr ⊢
  have hz : z ≤ 1 := by rw [← HZ.out]; omega
  have hwr : IntKind.u64.wrap ((h : Int) + (z : Int)) = ((h + z) % 18446744073709551616 : Nat) := by rw [IntKind.wrap_u64]; omega
  clear hh hl hx hz
  go_enter Tryz.func142, Tryz.ntmps142
  go_wp2
  go_ret2
  exact ⟨rfl, rfl⟩
end Go.Proofs.YtcnikfikpnnblaaGreatDoor
namespace Go.Proofs.YtcnikfikpnnblaaGreatDoor
open Go.RowKit
set_option linter.unusedVariables false
set_option linter.unusedSimpArgs false
theorem u64_and32 (a : Nat) (ha : a < 18446744073709551616) : bits .and .u64 (a : Int) 4294967295 = ((a % 4294967296 : Nat) : Int) := by
  have h : (BitVec.ofInt 64 4294967295).toNat = 2 ^ 32 - 1 := by decide
  have key : (BitVec.ofInt 64 (a : Int) &&& BitVec.ofInt 64 4294967295).toNat = ((a : Int) % ((2 ^ 64 : Nat) : Int)).toNat % 2 ^ 32 := by
    rw [BitVec.toNat_and, BitVec.toNat_ofInt, h, Nat.and_two_pow_sub_one_eq_mod]
  show IntKind.u64.wrap ((BitVec.ofInt 64 (a : Int) &&& BitVec.ofInt 64 4294967295).toNat : Nat) = _
  rw [key, IntKind.wrap_u64]
  omega
theorem wrap_u64_nat (a : Nat) (h : a < 18446744073709551616) : IntKind.u64.wrap (a : Int) = (a : Int) := by rw [IntKind.wrap_u64]; omega
theorem mul_parts (x y : Nat) (hx : x < 18446744073709551616) (hy : y ≤ 64) : ∃ x0 x1 A B T T0 T1 : Nat, x % 4294967296 = x0 ∧ x / 4294967296 = x1 ∧ x1 * y = A ∧ x0 * y = B ∧ A + B / 4294967296 = T ∧ T % 4294967296 = T0 ∧ T / 4294967296 = T1 ∧ T1 = x * y / 18446744073709551616 ∧ A < 18446744073709551616 ∧ B < 18446744073709551616 ∧ T < 18446744073709551616 ∧ x0 < 4294967296 ∧ T0 < 4294967296 := by
  refine ⟨_, _, _, _, _, _, _, rfl, rfl, rfl, rfl, rfl, rfl, rfl, ?_, ?_, ?_, ?_, Nat.mod_lt _ (by decide), Nat.mod_lt _ (by decide)⟩
  all_goals
    have e : x = x / 4294967296 * 4294967296 + x % 4294967296 := by omega
    have h0 : x % 4294967296 < 4294967296 := Nat.mod_lt _ (by decide)
    have h1 : x / 4294967296 < 4294967296 := by omega
    generalize x % 4294967296 = x0 at e h0 ⊢
    generalize x / 4294967296 = x1 at e h1 ⊢
    have a1 : x1 * y ≤ 4294967295 * 64 := Nat.mul_le_mul (by omega) hy
    have a0 : x0 * y ≤ 4294967295 * 64 := Nat.mul_le_mul (by omega) hy
    have e2 : x * y = x1 * y * 4294967296 + x0 * y := by rw [e, Nat.add_mul, Nat.mul_right_comm]
    generalize x1 * y = A at a1 e2 ⊢
    generalize x0 * y = B at a0 e2 ⊢
  · rw [e2]; omega
  · omega
  · omega
  · omega
set_option maxHeartbeats 800000 in
set_option maxRecDepth 100000 in
theorem mul64_ok (x y : Nat) (w : World) (hx : x < 18446744073709551616) (hy : y ≤ 64) :
    Calls Tryz.prog 141 #[.int .u64 (x : Nat), .int .u64 (y : Nat)] w fun e w' => Hid (e = .returned (.tuple #[.int .u64 (x * y / 18446744073709551616 : Nat), .int .u64 (x * y % 18446744073709551616 : Nat)]) ∧ w' = w) := by
  obtain ⟨x0, x1, A, B, T, T0, T1, p0, p1, pA, pB, pT, pT0, pT1, pF, hA, hB, hT, hx0, hT0⟩ := mul_parts x y hx hy
  have q0 : bits BinOp.and IntKind.u64 (x : Int) 4294967295 = (x0 : Int) := by rw [u64_and32 x hx, p0]
  have q1 : (x : Int) / 4294967296 = (x1 : Int) := by omega
  have q2 : bits BinOp.and IntKind.u64 (y : Int) 4294967295 = (y : Int) := by rw [u64_and32 y (by omega)]; omega
  have q3 : (y : Int) / 4294967296 = 0 := by omega
  have q4 : (x1 : Int) * (y : Int) = (A : Int) := by rw [← pA]; simp
  have q5 : (x0 : Int) * (y : Int) = (B : Int) := by rw [← pB]; simp
  have q6 : IntKind.u64.wrap (A : Int) = (A : Int) := wrap_u64_nat A hA
  have q7 : IntKind.u64.wrap (B : Int) = (B : Int) := wrap_u64_nat B hB
  have q8 : IntKind.u64.wrap ((A : Int) + (B : Int) / 4294967296) = (T : Int) := by rw [IntKind.wrap_u64]; omega
  have q9 : (T : Int) / 4294967296 = (T1 : Int) := by omega
  have q10 : bits BinOp.and IntKind.u64 (T : Int) 4294967295 = (T0 : Int) := by rw [u64_and32 T hT, pT0]
  have q11 : IntKind.u64.wrap (T0 : Int) = (T0 : Int) := wrap_u64_nat T0 (by omega)
  have q12 : (T0 : Int) / 4294967296 = 0 := by omega
  have q13 : IntKind.u64.wrap (T1 : Int) = (T1 : Int) := wrap_u64_nat T1 (by omega)
  have q14 : IntKind.u64.wrap ((x : Int) * (y : Int)) = ((x * y % 18446744073709551616 : Nat) : Int) := by rw [IntKind.wrap_u64]; simp
  have q15 : IntKind.u64.wrap 0 = 0 := by decide
  rw [← pF]
  clear p0 p1 pA pB pT pT0 pT1 pF hA hB hT hx0 hT0 hx hy
  go_enter Tryz.func141, Tryz.ntmps141
  go_wp2
  go_ret2
  exact ⟨rfl, rfl⟩
end Go.Proofs.YtcnikfikpnnblaaGreatDoor
namespace Go.Proofs.YtcnikfikpnnblaaGreatDoor
open Go.RowKit
set_option linter.unusedVariables false
set_option linter.unusedSimpArgs false
/-- The number of a sector's first block. -/
def benV (s k : Nat) : BitVec 128 := BitVec.ofNat 128 (s * k + 1)
theorem ben_parts (s k : Nat) (hs : s < 18446744073709551616) (hk : k ≤ 64) : Fd.hiV (benV s k) = (s * k / 18446744073709551616 + (s * k % 18446744073709551616 + 1) / 18446744073709551616) % 18446744073709551616 ∧ Fd.loV (benV s k) = (s * k % 18446744073709551616 + 1) % 18446744073709551616 := by
  have h : s * k ≤ 18446744073709551615 * 64 := Nat.mul_le_mul (by omega) hk
  unfold Fd.hiV Fd.loV benV
  rw [BitVec.toNat_ofNat]
  generalize s * k = M at h ⊢
  constructor <;> omega
set_option maxHeartbeats 800000 in
set_option maxRecDepth 100000 in
theorem benbi_ok (s n : Nat) (w : World) (hs : s < 18446744073709551616) (hn : n ≤ 1024) :
    Calls Tryz.prog 140 #[.int .u64 (s : Nat), .int .i64 (n : Nat)] w fun e w' => Hid (e = .returned (Fd.BV (Fd.rv (benV s (n / 16)))) ∧ Below w.heap.size w w') := by
  obtain ⟨k, HK⟩ : ∃ k, Hid (n / 16 = k) := ⟨_, rfl⟩
  have hk : k ≤ 64 := by rw [← HK.out]; omega
  have q1 : (n : Int).tdiv 16 = (k : Int) := by rw [← HK.out, Int.tdiv_eq_ediv_of_nonneg (by omega)]; omega
  have q1b : (n : Int) / 16 = (k : Int) := by rw [← HK.out]; omega
  have q2 : IntKind.u64.wrap (k : Int) = (k : Int) := wrap_u64_nat k (by omega)
  have q3 : IntKind.i64.wrap (k : Int) = (k : Int) := by rw [IntKind.wrap_i64]; omega
  obtain ⟨h1, h2⟩ := ben_parts s k hs hk
  obtain ⟨a, HA⟩ : ∃ a, Hid (s * k / 18446744073709551616 = a) := ⟨_, rfl⟩
  obtain ⟨b, HB⟩ : ∃ b, Hid (s * k % 18446744073709551616 = b) := ⟨_, rfl⟩
  have hb : b < 18446744073709551616 := by rw [← HB.out]; exact Nat.mod_lt _ (by decide)
  have ha : a < 18446744073709551616 := by
    rw [← HA.out]
    have h : s * k ≤ 18446744073709551615 * 64 := Nat.mul_le_mul (by omega) hk
    omega
  have HM : Hid (∀ u, Calls Tryz.prog 141 #[.int .u64 (s : Nat), .int .u64 (k : Nat)] u fun e w' => Hid (e = .returned (.tuple #[.int .u64 (a : Nat), .int .u64 (b : Nat)]) ∧ w' = u)) := fun u => by
    have q := mul64_ok s k u hs hk; rw [HA.out, HB.out] at q; exact q
  rw [HA.out, HB.out] at h1
  rw [HB.out] at h2
  have HD : Hid (∀ u, Calls Tryz.prog 142 #[.int .u64 (a : Nat), .int .u64 (b : Nat), .int .u64 1] u fun e w' => e = .returned (.tuple #[.int .u64 (Fd.hiV (benV s k) : Nat), .int .u64 (Fd.loV (benV s k) : Nat)]) ∧ w' = u) := fun u => by
    have q := add128_ok a b 1 u ha hb (by decide); rw [← h1, ← h2] at q; exact q
  obtain ⟨v, HV⟩ : ∃ v, Hid (benV s k = v) := ⟨_, rfl⟩
  rw [HK.out, HV.out]
  rw [HV.out] at HD
  obtain ⟨M, HMM⟩ : ∃ M, Hid (M = Fd.BL (Fd.rv v)) := ⟨_, rfl⟩
  have HG : Hid (∀ u, Calls Tryz.prog 139 #[.int .u64 (Fd.hiV v : Nat), .int .u64 (Fd.loV v : Nat)] u fun e w' => Hid (e = .returned (.agg M.toArray) ∧ Below u.heap.size u w')) := fun u => by rw [HMM.out]; exact (Fd.big_ok v u).mono fun e w' hh => hh
  have HLN : Hid (M.length = 16 ∧ (∀ x ∈ M, x.oneCell' = true)) := by rw [HMM.out]; exact ⟨rfl, BL_one8 _⟩
  show Calls Tryz.prog 140 #[_, _] w fun e w' => Hid (e = .returned (.agg (Fd.BL (Fd.rv v)).toArray) ∧ _)
  rw [← HMM.out]
  clear h1 h2 ha hb hk hs hn
  obtain ⟨w1, hw1⟩ : ∃ w1, w1 = w.alloc (.cells ZZ.toArray 29) := ⟨_, rfl⟩
  have HB1 : Hid (Bx w1 w.heap.size 29 ZZ ∧ Below w.heap.size w w1) := by rw [hw1]; exact ⟨Bx.new w 29 ZZ, (Below.refl _ _).alloc (Nat.le_refl _) _⟩
  have hw2 : w1 = w.alloc (.cells #[.int .u8 0, .int .u8 0, .int .u8 0, .int .u8 0, .int .u8 0, .int .u8 0, .int .u8 0, .int .u8 0, .int .u8 0, .int .u8 0, .int .u8 0, .int .u8 0, .int .u8 0, .int .u8 0, .int .u8 0, .int .u8 0] 29) := hw1
  clear hw1
  go_enter Tryz.func140, Tryz.ntmps140
  go_upto_region 2 with (first
    | (go_at_call 141; refine (HM.out _).mono ?_; intro e2 w2 hh; obtain ⟨rfl, rfl⟩ := hh.out; clear hh))
  rw [← hw2]
  clear hw2
  obtain ⟨m, HM2⟩ : ∃ m, Hid (w.heap.size = m) := ⟨_, rfl⟩
  rw [HM2.out] at HB1 ⊢
  go_wp2_with (first
    | (go_at_call 142; refine (HD.out _).mono ?_; rintro e3 w3 ⟨rfl, hw⟩; obtain rfl := hw.symm; clear hw)
    | (go_at_call 139; refine (HG.out _).mono ?_; intro e4 w4 hh; obtain ⟨rfl, hb4⟩ := hh.out; have HB4 : Hid (Bx w4 m 29 ZZ ∧ Below m w w4) := ⟨HB1.out.1.below hb4, HB1.out.2.trans (hb4.mono (by have := HB1.out.1.lt; omega))⟩; clear hh hb4)
    | (refine wpList_store_bx (by rfl) 29 (.tmp 4) (.tmp 20) (by rfl) ZZ M m (by rfl) (by rfl) HB4.out.1 (by rw [HLN.out.1]; rfl) (by rw [HLN.out.1]; kernel_rfl) HLN.out.2 ?_; intro u9 hb9 hg9))
  refine ret_agg (b := m) M rfl rfl hb9.range Tryz.underlying29 rfl (by rw [HLN.out.1]; kernel_rfl) ⟨rfl, ?_⟩
  have hfin : Below m w u9 := HB4.out.2.trans (below_gb hg9 (by have := HB4.out.1.lt; omega) (by omega))
  first | exact hfin | (rw [HM2.out]; exact hfin)
end Go.Proofs.YtcnikfikpnnblaaGreatDoor
