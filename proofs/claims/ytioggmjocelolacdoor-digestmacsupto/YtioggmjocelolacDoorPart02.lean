import Derived.WalkKit
import Derived.Laws.BitsAllLaws
import Derived.Laws.Bits64
import Derived.Test.YtioggmjocelolacDoorPart00
import Derived.Test.YtioggmjocelolacDoorPart01
import Derived.Laws.EntriesVeiled
import Derived.Deep.Cut
import Derived.Lib.SliceRun
namespace Go.Proofs.YtioggmjocelolacDoor
open Go.RowKit
theorem bx32 (a b : Int) : bits .xor .u32 a b = (((BitVec.ofInt 32 a ^^^ BitVec.ofInt 32 b).toNat : Nat) : Int) := by
  show IntKind.u32.wrap ((BitVec.ofInt 32 a ^^^ BitVec.ofInt 32 b).toNat : Int) = _
  have := (BitVec.ofInt 32 a ^^^ BitVec.ofInt 32 b).isLt
  rw [IntKind.wrap_u32']
  omega
theorem bo32 (a b : Int) : bits .or .u32 a b = (((BitVec.ofInt 32 a ||| BitVec.ofInt 32 b).toNat : Nat) : Int) := by
  show IntKind.u32.wrap ((BitVec.ofInt 32 a ||| BitVec.ofInt 32 b).toNat : Int) = _
  have := (BitVec.ofInt 32 a ||| BitVec.ofInt 32 b).isLt
  rw [IntKind.wrap_u32']
  omega
theorem ba32 (a b : Int) : bits .and .u32 a b = (((BitVec.ofInt 32 a &&& BitVec.ofInt 32 b).toNat : Nat) : Int) := by
  show IntKind.u32.wrap ((BitVec.ofInt 32 a &&& BitVec.ofInt 32 b).toNat : Int) = _
  have := (BitVec.ofInt 32 a &&& BitVec.ofInt 32 b).isLt
  rw [IntKind.wrap_u32']
  omega
theorem bx64 (a b : Int) : bits .xor .u64 a b = (((BitVec.ofInt 64 a ^^^ BitVec.ofInt 64 b).toNat : Nat) : Int) := by
  show IntKind.u64.wrap ((BitVec.ofInt 64 a ^^^ BitVec.ofInt 64 b).toNat : Int) = _
  have := (BitVec.ofInt 64 a ^^^ BitVec.ofInt 64 b).isLt
  rw [IntKind.wrap_u64]
  omega
theorem bo64 (a b : Int) : bits .or .u64 a b = (((BitVec.ofInt 64 a ||| BitVec.ofInt 64 b).toNat : Nat) : Int) := by
  show IntKind.u64.wrap ((BitVec.ofInt 64 a ||| BitVec.ofInt 64 b).toNat : Int) = _
  have := (BitVec.ofInt 64 a ||| BitVec.ofInt 64 b).isLt
  rw [IntKind.wrap_u64]
  omega
theorem ba64 (a b : Int) : bits .and .u64 a b = (((BitVec.ofInt 64 a &&& BitVec.ofInt 64 b).toNat : Nat) : Int) := by
  show IntKind.u64.wrap ((BitVec.ofInt 64 a &&& BitVec.ofInt 64 b).toNat : Int) = _
  have := (BitVec.ofInt 64 a &&& BitVec.ofInt 64 b).isLt
  rw [IntKind.wrap_u64]
  omega
theorem of32 (v : BitVec 32) : BitVec.ofInt 32 ((v.toNat : Nat) : Int) = v := by
  apply BitVec.eq_of_toNat_eq
  simp
theorem of64 (v : BitVec 64) : BitVec.ofInt 64 ((v.toNat : Nat) : Int) = v := by
  apply BitVec.eq_of_toNat_eq
  simp
theorem or_comm32 (a b : Int) : bits .or .u32 a b = bits .or .u32 b a := by rw [bo32, bo32, BitVec.or_comm]
theorem or_comm64 (a b : Int) : bits .or .u64 a b = bits .or .u64 b a := by rw [bo64, bo64, BitVec.or_comm]
/-- The complement, as the walk prints it. -/
theorem not32 (e : Int) : BitVec.ofInt 32 (bits .xor .u32 (if IntKind.u32.signed = true then -1 else IntKind.u32.max) e) = ~~~ (BitVec.ofInt 32 e) := by
  rw [bx32, of32, show (if IntKind.u32.signed = true then (-1 : Int) else IntKind.u32.max) = 4294967295 by decide, show BitVec.ofInt 32 4294967295 = BitVec.allOnes 32 by decide, BitVec.allOnes_xor]
theorem not64 (e : Int) : BitVec.ofInt 64 (bits .xor .u64 (if IntKind.u64.signed = true then -1 else IntKind.u64.max) e) = ~~~ (BitVec.ofInt 64 e) := by
  rw [bx64, of64, show (if IntKind.u64.signed = true then (-1 : Int) else IntKind.u64.max) = 18446744073709551615 by decide, show BitVec.ofInt 64 18446744073709551615 = BitVec.allOnes 64 by decide, BitVec.allOnes_xor]
theorem ch_bv {n : Nat} (e f g : BitVec n) : (e &&& f) ||| (~~~ e &&& g) = (e &&& f) ^^^ (~~~ e &&& g) := by
  apply BitVec.eq_of_getLsbD_eq
  intro i hi
  simp only [BitVec.getLsbD_or, BitVec.getLsbD_and, BitVec.getLsbD_xor, BitVec.getLsbD_not, hi, decide_true, Bool.true_and]
  cases e.getLsbD i <;> cases f.getLsbD i <;> cases g.getLsbD i <;> rfl
theorem maj_bv {n : Nat} (a b c : BitVec n) : ((a &&& b) ||| (a &&& c)) ||| (b &&& c) = ((a &&& b) ^^^ (a &&& c)) ^^^ (b &&& c) := by
  apply BitVec.eq_of_getLsbD_eq
  intro i hi
  simp only [BitVec.getLsbD_or, BitVec.getLsbD_and, BitVec.getLsbD_xor]
  cases a.getLsbD i <;> cases b.getLsbD i <;> cases c.getLsbD i <;> rfl
theorem ch32 (e f g : Int) : bits .or .u32 (bits .and .u32 e f) (bits .and .u32 (bits .xor .u32 (if IntKind.u32.signed = true then -1 else IntKind.u32.max) e) g) = bits .xor .u32 (bits .and .u32 e f) (bits .and .u32 (bits .xor .u32 (if IntKind.u32.signed = true then -1 else IntKind.u32.max) e) g) := by
  rw [bo32, bx32 (bits .and .u32 e f), ba32, ba32, of32, of32, not32, ch_bv]
theorem ch64 (e f g : Int) : bits .or .u64 (bits .and .u64 e f) (bits .and .u64 (bits .xor .u64 (if IntKind.u64.signed = true then -1 else IntKind.u64.max) e) g) = bits .xor .u64 (bits .and .u64 e f) (bits .and .u64 (bits .xor .u64 (if IntKind.u64.signed = true then -1 else IntKind.u64.max) e) g) := by
  rw [bo64, bx64 (bits .and .u64 e f), ba64, ba64, of64, of64, not64, ch_bv]
theorem maj32 (a b c : Int) : bits .or .u32 (bits .or .u32 (bits .and .u32 a b) (bits .and .u32 a c)) (bits .and .u32 b c) = bits .xor .u32 (bits .xor .u32 (bits .and .u32 a b) (bits .and .u32 a c)) (bits .and .u32 b c) := by
  rw [bo32, bo32, bx32, bx32, ba32, ba32, ba32, of32, of32, of32, of32, of32, maj_bv]
theorem maj64 (a b c : Int) : bits .or .u64 (bits .or .u64 (bits .and .u64 a b) (bits .and .u64 a c)) (bits .and .u64 b c) = bits .xor .u64 (bits .xor .u64 (bits .and .u64 a b) (bits .and .u64 a c)) (bits .and .u64 b c) := by
  rw [bo64, bo64, bx64, bx64, ba64, ba64, ba64, of64, of64, of64, of64, of64, maj_bv]
end Go.Proofs.YtioggmjocelolacDoor
namespace Go.Proofs.YtioggmjocelolacDoor
open Go.RowKit
set_option linter.unusedVariables false
set_option linter.unusedSimpArgs false
theorem zero_arr64 {n : Nat} {Z : Array Value} {v : Value} (h : Z = Array.replicate n v) (j : Nat) (hj : j < n) : Z[j]? = some v := by
  rw [h]
  simp [hj]
theorem rot_or64 (x : Int) (a b s : Nat) (hb : b = 64 - s) (ha : a = s) : bits .or .u64 (x / 2 ^ b) (x * 2 ^ a % 18446744073709551616) = rotl64 x s := by
  subst hb ha
  rw [rotl64, or_comm64]
theorem lo0_or64 (x : Int) : bits .xor .u64 (bits .xor .u64 (bits .or .u64 (x / 2) (x * 9223372036854775808 % 18446744073709551616)) (bits .or .u64 (x / 256) (x * 72057594037927936 % 18446744073709551616))) (x / 128) = lo0_64 x := by
  have h1 := rot_or64 x 63 1 63 rfl rfl
  have h2 := rot_or64 x 56 8 56 rfl rfl
  simp only [Int.reducePow] at h1 h2
  rw [h1, h2, lo0_64]
theorem lo1_or64 (x : Int) : bits .xor .u64 (bits .xor .u64 (bits .or .u64 (x / 524288) (x * 35184372088832 % 18446744073709551616)) (bits .or .u64 (x / 2305843009213693952) (x * 8 % 18446744073709551616))) (x / 64) = lo1_64 x := by
  have h1 := rot_or64 x 45 19 45 rfl rfl
  have h2 := rot_or64 x 3 61 3 rfl rfl
  simp only [Int.reducePow] at h1 h2
  rw [h1, h2, lo1_64]
theorem S1_or64 (x : Int) : bits .xor .u64 (bits .xor .u64 (bits .or .u64 (x / 16384) (x * 1125899906842624 % 18446744073709551616)) (bits .or .u64 (x / 262144) (x * 70368744177664 % 18446744073709551616))) (bits .or .u64 (x / 2199023255552) (x * 8388608 % 18446744073709551616)) = bits .xor .u64 (bits .xor .u64 (rotl64 x 50) (rotl64 x 46)) (rotl64 x 23) := by
  have h1 := rot_or64 x 50 14 50 rfl rfl
  have h2 := rot_or64 x 46 18 46 rfl rfl
  have h3 := rot_or64 x 23 41 23 rfl rfl
  simp only [Int.reducePow] at h1 h2 h3
  rw [h1, h2, h3]
theorem S0_or64 (x : Int) : bits .xor .u64 (bits .xor .u64 (bits .or .u64 (x / 268435456) (x * 68719476736 % 18446744073709551616)) (bits .or .u64 (x / 17179869184) (x * 1073741824 % 18446744073709551616))) (bits .or .u64 (x / 549755813888) (x * 33554432 % 18446744073709551616)) = bits .xor .u64 (bits .xor .u64 (rotl64 x 36) (rotl64 x 30)) (rotl64 x 25) := by
  have h1 := rot_or64 x 36 28 36 rfl rfl
  have h2 := rot_or64 x 30 34 30 rfl rfl
  have h3 := rot_or64 x 25 39 25 rfl rfl
  simp only [Int.reducePow] at h1 h2 h3
  rw [h1, h2, h3]
theorem size70 : (Tryd.prog.info? 65).map (·.size) = some 8 := by kernel_rfl
set_option maxHeartbeats 3200000 in
set_option maxRecDepth 100000 in
theorem taken64_walk (h0 h1 h2 h3 h4 h5 h6 h7 : Int) (C B : Nat → Int) (b p cap : Nat) (w : World) (hC : ∀ t, t < 80 → w.cell? ⟨1, t, none⟩ = some (.int .u64 (C t)))
    (hcap : 128 ≤ cap) (hcm : cap ≤ 9223372036854775807) (hB : ∀ i, i < 128 → w.cell? ⟨b, p + i, none⟩ = some (.int .u8 (B i))) :
    Calls Tryd.prog 62 #[.agg #[.int .u64 h0, .int .u64 h1, .int .u64 h2, .int .u64 h3, .int .u64 h4, .int .u64 h5, .int .u64 h6, .int .u64 h7], .slice (some ⟨b, p, none⟩) 128 cap] w fun e w' =>
      e = .returned (.agg (Eight.cells (block64 C B ⟨h0, h1, h2, h3, h4, h5, h6, h7⟩)).toArray) ∧ Below w.heap.size w w' := by
  have hbw : b < w.heap.size := lt_of_cell (hB 0 (by omega))
  have hw1 : 1 < w.heap.size := lt_of_cell (hC 0 (by omega))
  have HB : Hid (∀ i, i < 128 → w.cell? ⟨b, p + i, none⟩ = some (.int .u8 (B i))) := hB
  have HC : Hid (∀ t, t < 80 → w.cell? ⟨1, t, none⟩ = some (.int .u64 (C t))) := hC
  clear hB hC
  go_enter Tryd.func62, Tryd.ntmps62
  go_wp2
  go_loopw [6] (fun v wr => ∃ t : Nat, t ≤ 16 ∧ v = .int .i64 t ∧ Hid (TX w wr [.int .u64 h0, .int .u64 h1, .int .u64 h2, .int .u64 h3, .int .u64 h4, .int .u64 h5, .int .u64 h6, .int .u64 h7] (fun _ => none) (w.heap.size + 1) (w.heap.size + 2) 80 (fun j => .int .u64 (if j < t then sched64 B j else 0)))) (fun v _ => 16 - (intOf v).toNat)
  case atStart => exact ⟨0, by omega, rfl, tx_new3 w _ _ _ _ _ _ _ _ (by rfl) (by rfl) (fun j hj => by rw [if_neg (by omega)]; exact zero_arr64 (by rfl) j hj)⟩
  case round =>
    obtain ⟨t, ht, rfl, HX⟩ := hrel
    by_cases h16 : t < 16
    · go_wp2
      go_loopw [7] (fun v wr => ∃ k : Nat, k ≤ 8 ∧ v = .int .i64 k ∧ Hid (TX w wr [.int .u64 h0, .int .u64 h1, .int .u64 h2, .int .u64 h3, .int .u64 h4, .int .u64 h5, .int .u64 h6, .int .u64 h7] (fun _ => none) (w.heap.size + 1) (w.heap.size + 2) 80 (fun j => .int .u64 (if j < t then sched64 B j else if j = t then part64 B t k else 0)))) (fun v _ => 8 - (intOf v).toNat)
      case atStart =>
        refine ⟨0, by omega, rfl, HX.out.congr fun j hj => ?_⟩
        by_cases e : j < t
        · rw [if_pos e, if_pos e]
        · rw [if_neg e, if_neg e]
          by_cases e2 : j = t
          · rw [if_pos e2]
            exact rfl
          · rw [if_neg e2]
      case round =>
        obtain ⟨k, hk, rfl, HX1⟩ := hrel
        by_cases h8 : k < 8
        · have f0 : wr.cell? ⟨b, p + (8 * t + k), none⟩ = some (.int .u8 (B (8 * t + k))) := by rw [HX1.out.below.cell hbw]; exact HB.out (8 * t + k) (by omega)
          have fw : wr.frozen? ⟨w.heap.size + 2, t, none⟩ = false := by simpa using (HX1.out.wth t (by omega)).2
          have fu : wr.cell? ⟨w.heap.size + 2, t, none⟩ = some (.int .u64 (part64 B t k)) := by rw [HX1.out.fill t (by omega), if_neg (by omega), if_pos rfl]
          go_wp2
          go_region
          go_wp2
          go_roundw
          case rel =>
            refine ⟨k + 1, by omega, by go_num, ((HX1.out.put t (by omega) (.int .u64 (part64 B t (k + 1)))).drew).congr fun j hj => ?_⟩
            by_cases e : j = t
            · subst e
              rw [if_pos rfl, if_neg (by omega), if_pos rfl]
            · rw [if_neg e, if_neg e]
              by_cases e2 : j < t
              · rw [if_pos e2, if_pos e2]
              · rw [if_neg e2, if_neg e2, if_neg e]
          case measure => simp [intOf]; omega
        · obtain rfl : k = 8 := by omega
          go_wp2
          go_roundw
          case rel =>
            refine ⟨t + 1, by omega, by go_num, HX1.out.congr fun j hj => ?_⟩
            by_cases e2 : j < t
            · rw [if_pos e2, if_pos (by omega)]
            · rw [if_neg e2]
              by_cases e : j = t
              · subst e
                rw [if_pos rfl, if_pos (by omega), sched64, if_pos h16]
              · rw [if_neg e, if_neg (by omega)]
          case measure => simp [intOf]; omega
    · obtain rfl : t = 16 := by omega
      clear h16 ht HB
      go_wp2
      go_loopw [8] (fun v wr => ∃ t : Nat, t ≤ 64 ∧ v = .int .i64 (16 + (t : Int)) ∧ Hid (TX w wr [.int .u64 h0, .int .u64 h1, .int .u64 h2, .int .u64 h3, .int .u64 h4, .int .u64 h5, .int .u64 h6, .int .u64 h7] (fun _ => none) (w.heap.size + 1) (w.heap.size + 2) 80 (fun j => .int .u64 (if j < 16 + t then sched64 B j else 0)))) (fun v _ => 80 - (intOf v).toNat)
      case atStart => exact ⟨0, by omega, rfl, HX⟩
      case round =>
        obtain ⟨t, ht, rfl, HX2⟩ := hrel
        clear HX
        by_cases h48 : t < 64
        · have f2 : wr.cell? ⟨w.heap.size + 2, t + 14, none⟩ = some (.int .u64 (sched64 B (t + 14))) := by rw [HX2.out.fill _ (by omega), if_pos (by omega)]
          have f15 : wr.cell? ⟨w.heap.size + 2, t + 1, none⟩ = some (.int .u64 (sched64 B (t + 1))) := by rw [HX2.out.fill _ (by omega), if_pos (by omega)]
          have f7 : wr.cell? ⟨w.heap.size + 2, t + 9, none⟩ = some (.int .u64 (sched64 B (t + 9))) := by rw [HX2.out.fill _ (by omega), if_pos (by omega)]
          have f16 : wr.cell? ⟨w.heap.size + 2, t, none⟩ = some (.int .u64 (sched64 B t)) := by rw [HX2.out.fill _ (by omega), if_pos (by omega)]
          have fw : wr.frozen? ⟨w.heap.size + 2, t + 16, none⟩ = false := by simpa using (HX2.out.wth (t + 16) (by omega)).2
          obtain ⟨u, fu⟩ : ∃ u, wr.cell? ⟨w.heap.size + 2, t + 16, none⟩ = some u := ⟨_, HX2.out.fill (t + 16) (by omega)⟩
          have e2 : (16 + (t : Int) - 2).toNat = t + 14 := by omega
          have e15 : (16 + (t : Int) - 15).toNat = t + 1 := by omega
          have e7 : (16 + (t : Int) - 7).toNat = t + 9 := by omega
          have e16 : (16 + (t : Int) - 16).toNat = t := by omega
          have e0 : (16 + (t : Int)).toNat = t + 16 := by omega
          go_wp2
          go_region
          go_wp2
          go_roundw
          case rel =>
            have hv : sched64 B (t + 16) = (lo1_64 (sched64 B (t + 14)) + sched64 B (t + 9) + lo0_64 (sched64 B (t + 1)) + sched64 B t) % 18446744073709551616 := by
              rw [sched64, if_neg (by omega)]
              rw [show t + 16 - 2 = t + 14 by omega, show t + 16 - 7 = t + 9 by omega, show t + 16 - 15 = t + 1 by omega, show t + 16 - 16 = t by omega]
            simp only [IntKind.wrap_u64]
            rw [lo0_or64, lo1_or64]
            refine ⟨t + 1, by omega, by go_num, ((HX2.out.put (t + 16) (by omega) _).drew).congr fun j hj => ?_⟩
            by_cases e : j = t + 16
            · subst e
              rw [if_pos rfl, if_pos (by omega), hv]
              exact val_eq (by omega)
            · rw [if_neg e]
              by_cases e2 : j < 16 + t
              · rw [if_pos e2, if_pos (by omega)]
              · rw [if_neg e2, if_neg (by omega)]
          case measure => simp [intOf]; omega
        · obtain rfl : t = 64 := by omega
          clear h48 ht
          have HX3 : Hid (TX w wr [.int .u64 h0, .int .u64 h1, .int .u64 h2, .int .u64 h3, .int .u64 h4, .int .u64 h5, .int .u64 h6, .int .u64 h7] (fun _ => none) (w.heap.size + 1) (w.heap.size + 2) 80 (fun j => .int .u64 (sched64 B j))) := HX2.out.congr fun j hj => by rw [if_pos (by omega)]
          clear HX2
          have c0 : wr.cell? ⟨w.heap.size, 0, none⟩ = some (.int .u64 h0) := by simpa using HX3.out.h 0 _ rfl
          have c1 : wr.cell? ⟨w.heap.size, 1, none⟩ = some (.int .u64 h1) := by simpa using HX3.out.h 1 _ rfl
          have c2 : wr.cell? ⟨w.heap.size, 2, none⟩ = some (.int .u64 h2) := by simpa using HX3.out.h 2 _ rfl
          have c3 : wr.cell? ⟨w.heap.size, 3, none⟩ = some (.int .u64 h3) := by simpa using HX3.out.h 3 _ rfl
          have c4 : wr.cell? ⟨w.heap.size, 4, none⟩ = some (.int .u64 h4) := by simpa using HX3.out.h 4 _ rfl
          have c5 : wr.cell? ⟨w.heap.size, 5, none⟩ = some (.int .u64 h5) := by simpa using HX3.out.h 5 _ rfl
          have c6 : wr.cell? ⟨w.heap.size, 6, none⟩ = some (.int .u64 h6) := by simpa using HX3.out.h 6 _ rfl
          have c7 : wr.cell? ⟨w.heap.size, 7, none⟩ = some (.int .u64 h7) := by simpa using HX3.out.h 7 _ rfl
          go_wp2
          go_quiet (fail)
          go_wp2
          go_quiet (fail)
          go_wp2
          clear c0 c1 c2 c3 c4 c5 c6 c7
          go_loopw [13, 14, 15, 16, 17, 18, 19, 20, 21] (fun va vb vc vd ve vf vg vk i wr => ∃ t : Nat, ∃ s : Eight, t ≤ 80 ∧ i = .int .i64 t ∧ va = .int .u64 s.a ∧ vb = .int .u64 s.b ∧ vc = .int .u64 s.c ∧ vd = .int .u64 s.d ∧ ve = .int .u64 s.e ∧ vf = .int .u64 s.f ∧ vg = .int .u64 s.g ∧ vk = .int .u64 s.k ∧ Hid (s = rounds64 C (sched64 B) t ⟨h0, h1, h2, h3, h4, h5, h6, h7⟩) ∧ Hid (TX w wr [.int .u64 h0, .int .u64 h1, .int .u64 h2, .int .u64 h3, .int .u64 h4, .int .u64 h5, .int .u64 h6, .int .u64 h7] (fun _ => none) (w.heap.size + 1) (w.heap.size + 2) 80 (fun j => .int .u64 (sched64 B j)))) (fun _ _ _ _ _ _ _ _ i _ => 80 - (intOf i).toNat)
          case atStart => exact ⟨0, ⟨h0, h1, h2, h3, h4, h5, h6, h7⟩, by omega, rfl, rfl, rfl, rfl, rfl, rfl, rfl, rfl, rfl, rfl, (HX3.out.drewN _).drewN _⟩
          case round =>
            obtain ⟨t, ⟨a, b, c, d, e, f, g1, k⟩, ht, rfl, rfl, rfl, rfl, rfl, rfl, rfl, rfl, rfl, HS, HX4⟩ := hrel
            clear HX3
            by_cases hlt : t < 80
            · have hw : wr.cell? ⟨w.heap.size + 2, t, none⟩ = some (.int .u64 (sched64 B t)) := HX4.out.fill t hlt
              have hc : wr.cell? ⟨1, t, none⟩ = some (.int .u64 (C t)) := by rw [HX4.out.below.cell hw1]; exact HC.out t hlt
              go_wp2
              go_quiet (fail)
              go_wp2
              go_roundw
              case rel =>
                simp only [IntKind.wrap_u64]
                rw [S1_or64, S0_or64, ch64, maj64]
                refine ⟨t + 1, round64 ⟨a, b, c, d, e, f, g1, k⟩ (C t) (sched64 B t), by omega, by go_num, val_eq (by simp only [round64, t1_64, t2_64]; omega), rfl, rfl, rfl, val_eq (by simp only [round64, t1_64, t2_64]; omega), rfl, rfl, rfl, ?_, HX4.out.drewN _⟩
                have := HS.out
                rw [this]
                exact rfl
              case measure => simp [intOf]; omega
            · obtain rfl : t = 80 := by omega
              clear hlt ht
              have HEE : Hid (block64 C B ⟨h0, h1, h2, h3, h4, h5, h6, h7⟩ = ⟨((h0 + a) % 18446744073709551616), ((h1 + b) % 18446744073709551616), ((h2 + c) % 18446744073709551616), ((h3 + d) % 18446744073709551616), ((h4 + e) % 18446744073709551616), ((h5 + f) % 18446744073709551616), ((h6 + g1) % 18446744073709551616), ((h7 + k) % 18446744073709551616)⟩) := by
                rw [block64, ← HS.out]
                exact rfl
              clear HS
              have c0 : wr.cell? ⟨w.heap.size, 0, none⟩ = some (.int .u64 h0) := by simpa using HX4.out.h 0 _ rfl
              have c1 : wr.cell? ⟨w.heap.size, 1, none⟩ = some (.int .u64 h1) := by simpa using HX4.out.h 1 _ rfl
              have c2 : wr.cell? ⟨w.heap.size, 2, none⟩ = some (.int .u64 h2) := by simpa using HX4.out.h 2 _ rfl
              have c3 : wr.cell? ⟨w.heap.size, 3, none⟩ = some (.int .u64 h3) := by simpa using HX4.out.h 3 _ rfl
              have c4 : wr.cell? ⟨w.heap.size, 4, none⟩ = some (.int .u64 h4) := by simpa using HX4.out.h 4 _ rfl
              have c5 : wr.cell? ⟨w.heap.size, 5, none⟩ = some (.int .u64 h5) := by simpa using HX4.out.h 5 _ rfl
              have c6 : wr.cell? ⟨w.heap.size, 6, none⟩ = some (.int .u64 h6) := by simpa using HX4.out.h 6 _ rfl
              have c7 : wr.cell? ⟨w.heap.size, 7, none⟩ = some (.int .u64 h7) := by simpa using HX4.out.h 7 _ rfl
              go_wp2_with (first
                | (refine wpList_store_mid (by rfl) 65 (.tmp 4) (.tmp 235) (by rfl) (w.heap.size + 1) 0 (Eight.cells ⟨((h0 + a) % 18446744073709551616), ((h1 + b) % 18446744073709551616), ((h2 + c) % 18446744073709551616), ((h3 + d) % 18446744073709551616), ((h4 + e) % 18446744073709551616), ((h5 + f) % 18446744073709551616), ((h6 + g1) % 18446744073709551616), ((h7 + k) % 18446744073709551616)⟩).toArray (by rfl) (by rfl) HX4.out.res size70 (cellsE_one _) ?_)
                | fail)
              have hl := run_loadVar_mid (P := Tryd.prog) (wr.setCells (w.heap.size + 1) 0 (Eight.cells ⟨((h0 + a) % 18446744073709551616), ((h1 + b) % 18446744073709551616), ((h2 + c) % 18446744073709551616), ((h3 + d) % 18446744073709551616), ((h4 + e) % 18446744073709551616), ((h5 + f) % 18446744073709551616), ((h6 + g1) % 18446744073709551616), ((h7 + k) % 18446744073709551616)⟩)) (w.heap.size + 1) 0 65 (Eight.cells ⟨((h0 + a) % 18446744073709551616), ((h1 + b) % 18446744073709551616), ((h2 + c) % 18446744073709551616), ((h3 + d) % 18446744073709551616), ((h4 + e) % 18446744073709551616), ((h5 + f) % 18446744073709551616), ((h6 + g1) % 18446744073709551616), ((h7 + k) % 18446744073709551616)⟩) _ (World.rangeAt_setCells_same wr (w.heap.size + 1) 0 _ HX4.out.res) Tryd.underlying65 rfl size70
              refine bodyPost_ret (v := .agg (Eight.cells ⟨((h0 + a) % 18446744073709551616), ((h1 + b) % 18446744073709551616), ((h2 + c) % 18446744073709551616), ((h3 + d) % 18446744073709551616), ((h4 + e) % 18446744073709551616), ((h5 + f) % 18446744073709551616), ((h6 + g1) % 18446744073709551616), ((h7 + k) % 18446744073709551616)⟩).toArray) ?_ rfl ⟨by rw [HEE.out], below_setCells _ (by omega) _ _ _ HX4.out.below⟩
              rw [results_cell1 Tryd.results62]
              simp [Act.put, asAddr, hl]
end Go.Proofs.YtioggmjocelolacDoor
namespace Go.Proofs.YtioggmjocelolacDoor
open Go.RowKit
set_option linter.unusedVariables false
set_option linter.unusedSimpArgs false

/-- The cells of a taken, as a list. -/
def tkL (h : Int) (wd : Bool) (s : Eight) (half : Nat → Int) (fed : Nat) : List Value :=
  .int .i64 h :: fnV wd :: (s.cells ++ ((List.range 128).map (fun i => Value.int .u8 (half i)) ++ [.int .u64 fed]))
theorem tkL_length (h : Int) (wd : Bool) (s : Eight) (half : Nat → Int) (fed : Nat) : (tkL h wd s half fed).length = 139 := by simp [tkL, Eight.cells_length]
theorem tkL_at (h : Int) (wd : Bool) (s : Eight) (half : Nat → Int) (fed : Nat) :
    (tkL h wd s half fed)[0]? = some (.int .i64 h) ∧ (tkL h wd s half fed)[1]? = some (fnV wd) ∧ (∀ i, i < 8 → (tkL h wd s half fed)[2 + i]? = s.cells[i]?) ∧ (∀ i, i < 128 → (tkL h wd s half fed)[10 + i]? = some (.int .u8 (half i))) ∧ (tkL h wd s half fed)[138]? = some (.int .u64 fed) := by
  have hc := s.cells_length
  refine ⟨rfl, rfl, ?_, ?_, ?_⟩
  · intro i hi
    rw [tkL, show 2 + i = (i + 1) + 1 by omega, List.getElem?_cons_succ, List.getElem?_cons_succ, List.getElem?_append_left (by omega)]
  · intro i hi
    rw [tkL, show 10 + i = ((8 + i) + 1) + 1 by omega, List.getElem?_cons_succ, List.getElem?_cons_succ, List.getElem?_append_right (by omega), List.getElem?_append_left (by simp; omega)]
    rw [hc, show 8 + i - 8 = i by omega]
    simp [hi]
  · rw [tkL, show 138 = (136 + 1) + 1 by omega, List.getElem?_cons_succ, List.getElem?_cons_succ, List.getElem?_append_right (by omega), List.getElem?_append_right (by simp; omega)]
    simp [hc]
theorem TK.range {w : World} {g o : Nat} {h : Int} {wd : Bool} {s : Eight} {half : Nat → Int} {fed : Nat} (k : TK w g o h wd s half fed) : w.rangeAt g o (tkL h wd s half fed) := by
  obtain ⟨h0, h1, h2, h3, h4⟩ := tkL_at h wd s half fed
  intro j v hv
  have hj : j < 139 := by
    by_cases hj : j < 139
    · exact hj
    · rw [List.getElem?_eq_none (by rw [tkL_length]; omega)] at hv; cases hv
  by_cases j0 : j = 0
  · subst j0; rw [h0] at hv; cases hv; exact k.hash
  by_cases j1 : j = 1
  · subst j1; rw [h1] at hv; cases hv; exact k.fn
  by_cases j2 : j < 10
  · obtain ⟨i, rfl⟩ : ∃ i, j = 2 + i := ⟨j - 2, by omega⟩
    rw [h2 i (by omega)] at hv
    rw [← Nat.add_assoc]
    exact k.st i v hv
  by_cases j3 : j < 138
  · obtain ⟨i, rfl⟩ : ∃ i, j = 10 + i := ⟨j - 10, by omega⟩
    rw [h3 i (by omega)] at hv
    rw [← Nat.add_assoc]
    cases hv
    exact k.half i (by omega)
  · obtain rfl : j = 138 := by omega
    rw [h4] at hv; cases hv; exact k.fed
theorem TK.of {w : World} {g o : Nat} {h : Int} {wd : Bool} {s : Eight} {half : Nat → Int} {fed : Nat} (hr : w.rangeAt g o (tkL h wd s half fed)) (ht : w.there g o 139) : TK w g o h wd s half fed := by
  obtain ⟨h0, h1, h2, h3, h4⟩ := tkL_at h wd s half fed
  refine ⟨hr 0 _ h0, hr 1 _ h1, fun j v hv => ?_, fun i hi => ?_, hr 138 _ h4, ht⟩
  · have hj : j < 8 := by
      by_cases hj : j < s.cells.length
      · exact hj
      · rw [List.getElem?_eq_none (by omega)] at hv; cases hv
    have := hr (2 + j) v (by rw [h2 j hj]; exact hv)
    rw [← Nat.add_assoc] at this
    exact this
  · have := hr (10 + i) _ (h3 i hi)
    rw [← Nat.add_assoc] at this
    exact this
theorem cells_oneE (s : Eight) : ∀ v ∈ s.cells, v.oneCell' = true := by
  intro v hv
  simp only [Eight.cells, List.mem_map] at hv
  obtain ⟨x, _, rfl⟩ := hv
  rfl
theorem tkL_one (h : Int) (wd : Bool) (s : Eight) (half : Nat → Int) (fed : Nat) : (tkL h wd s half fed).toArray.all (·.oneCell') = true := all_oneCell_toArray (by
  intro v hv
  simp only [tkL, List.mem_cons, List.mem_append, List.mem_map, List.mem_singleton] at hv
  rcases hv with rfl | rfl | hv | ⟨i, _, rfl⟩ | rfl | hv
  · rfl
  · cases wd <;> rfl
  · exact cells_oneE s v hv
  · rfl
  · rfl
  · simp at hv)
theorem tkArr_size (h : Int) (wd : Bool) (s : Eight) (half : Nat → Int) (fed : Nat) : (tkL h wd s half fed).toArray.size = 139 := by simp [tkL_length]

end Go.Proofs.YtioggmjocelolacDoor
namespace Go.Proofs.YtioggmjocelolacDoor
open Go.RowKit
set_option linter.unusedVariables false
set_option linter.unusedSimpArgs false

theorem tkOf_at (h : Int) : (tkOf h)[0]? = some (.int .i64 h) ∧ (tkOf h)[1]? = some .nilFunc ∧ (∀ i, i < 128 → (tkOf h)[10 + i]? = some (.int .u8 0)) ∧ (tkOf h)[138]? = some (.int .u64 0) := by
  refine ⟨rfl, rfl, ?_, rfl⟩
  intro i hi
  have e : (tkOf h)[10 + i]? = (List.replicate 128 (Value.int .u8 0) ++ [.int .u64 0])[i]? := by
    rw [tkOf, tkCells, show 10 + i = ((8 + i) + 1) + 1 by omega, List.getElem?_cons_succ, List.getElem?_cons_succ, List.getElem?_append_right (by simp), List.map_replicate]
    rw [List.length_map, List.length_replicate, show 8 + i - 8 = i by omega]
  rw [e, List.getElem?_append_left (by rw [List.length_replicate]; exact hi), List.getElem?_replicate, if_pos hi]
/-- A taken that is put together: the digest's number, then the function, then the words. -/
theorem tk_put {W V : World} {L : Nat} (h : Int) (wd : Bool) (E : Eight) (hr : W.rangeAt L 0 (tkOf h)) (ht : W.there L 0 139) (hb : ∀ j, V.cell? ⟨L, j, none⟩ = (W.setCell ⟨L, 1, none⟩ (fnV wd)).cell? ⟨L, j, none⟩) (htV : V.there L 0 139) :
    (V.setCells L 2 E.cells).rangeAt L 0 (tkL h wd E (fun _ => 0) 0) := by
  obtain ⟨h0, h1, h2, h3, h4⟩ := tkL_at h wd E (fun _ => 0) 0
  obtain ⟨k0, k1, k3, k4⟩ := tkOf_at h
  have hout : ∀ j, (j < 2 ∨ 10 ≤ j) → (V.setCells L 2 E.cells).cell? ⟨L, j, none⟩ = V.cell? ⟨L, j, none⟩ := fun j hj => World.cell?_setCells_out L E.cells 2 V ⟨L, j, none⟩ (fun _ _ => by rcases hj with hj | hj; exact .inl hj; exact .inr hj)
  have hout1 : ∀ j, j ≠ 1 → (W.setCell ⟨L, 1, none⟩ (fnV wd)).cell? ⟨L, j, none⟩ = W.cell? ⟨L, j, none⟩ := fun j hj => World.cell?_setCells_out L [fnV wd] 1 W ⟨L, j, none⟩ (fun _ _ => by show j < 1 ∨ 1 + 1 ≤ j; omega)
  intro j v hv
  have hj : j < 139 := by
    by_cases hj : j < 139
    · exact hj
    · rw [List.getElem?_eq_none (by rw [tkL_length]; omega)] at hv; cases hv
  rw [Nat.zero_add]
  by_cases j0 : j = 0
  · subst j0; rw [h0] at hv; cases hv; rw [hout 0 (by omega), hb, hout1 0 (by omega)]; exact hr 0 _ k0
  by_cases j1 : j = 1
  · subst j1; rw [h1] at hv; cases hv; rw [hout 1 (by omega), hb]; exact World.cell?_setCell_same' _ _ _ (ht 1 (by omega)).1
  by_cases j2 : j < 10
  · obtain ⟨i, rfl⟩ : ∃ i, j = 2 + i := ⟨j - 2, by omega⟩
    rw [h2 i (by omega)] at hv
    exact World.rangeAt_setCells_same V L 2 E.cells (fun j hj => by have := htV (2 + j) (by have : E.cells.length = 8 := rfl; omega); rw [Nat.zero_add] at this; exact this) i v hv
  by_cases j3 : j < 138
  · obtain ⟨i, rfl⟩ : ∃ i, j = 10 + i := ⟨j - 10, by omega⟩
    rw [h3 i (by omega)] at hv
    cases hv
    rw [hout _ (by omega), hb, hout1 _ (by omega)]
    have := hr (10 + i) _ (k3 i (by omega))
    rw [Nat.zero_add] at this
    exact this
  · obtain rfl : j = 138 := by omega
    rw [h4] at hv; cases hv; rw [hout _ (by omega), hb, hout1 _ (by omega)]; exact hr 138 _ k4

set_option maxHeartbeats 600000 in
set_option maxRecDepth 100000 in
theorem begin_good64 (h : Int) (w : World) (hblk : blockOf h = 64) (hfw : Hid (∀ v, Tables v → Calls Tryd.prog 66 #[.int .i64 h] v fun e w' => e = .returned (.agg (firstE h).cells.toArray) ∧ Below v.heap.size v w')) (hT : Hid (Tables w)) :
    Calls Tryd.prog 45 #[.int .i64 h] w fun e w' => e = .returned (.tuple #[.agg (tkL h false (firstE h) (fun _ => 0) 0).toArray, .int .i64 0]) ∧ Below w.heap.size w w' := by
  have e71 := cells71 h
  have hz : Tryd.zeroCells69.size = 139 := by rw [cells71z]; exact size71z
  have ht : ((w.alloc (.cells Tryd.zeroCells69 69)).alloc (.cells Tryd.zeroCells69 69)).there (w.heap.size + 1) 0 139 := by
    simpa using there_new (w.alloc (.cells Tryd.zeroCells69 69)) Tryd.zeroCells69 69 139 (by rw [hz]; exact Nat.le_refl _)
  have HT : Hid (((w.alloc (.cells Tryd.zeroCells69 69)).alloc (.cells Tryd.zeroCells69 69)).there (w.heap.size + 1) 0 139) := ht
  clear hz ht
  go_enter Tryd.func45, Tryd.ntmps45
  go_wp2_with (first
    | (refine wpList_store_mid (by rfl) 69 (.tmp 4) (.tmp 6) (by rfl) (w.heap.size + 1) 0 (tkOf h).toArray (by rfl) (by rfl) (by rw [size71a]; exact HT.out) (by rw [size71a]; exact size71) (tkOf_one h) ?_)
    | fail)
  refine (block_any h _).mono ?_
  rintro e w1 ⟨rfl, rfl⟩
  rw [hblk]
  have hb2 : Below w.heap.size w (((w.alloc (.cells Tryd.zeroCells69 69)).alloc (.cells Tryd.zeroCells69 69)).setCells (w.heap.size + 1) 0 (tkOf h)) :=
    below_setCells _ (by omega) _ _ _ (((Below.refl _ _).alloc (Nat.le_refl _) _).alloc (by simp) _)
  have ht2 : (((w.alloc (.cells Tryd.zeroCells69 69)).alloc (.cells Tryd.zeroCells69 69)).setCells (w.heap.size + 1) 0 (tkOf h)).there w.heap.size 0 139 :=
    World.there_setCells (World.there_alloc (there_new w Tryd.zeroCells69 69 139 (by rw [cells71z, size71z]; exact Nat.le_refl _)) _) _ _ _
  have ht3 : (((w.alloc (.cells Tryd.zeroCells69 69)).alloc (.cells Tryd.zeroCells69 69)).setCells (w.heap.size + 1) 0 (tkOf h)).there (w.heap.size + 1) 0 139 := World.there_setCells HT.out _ _ _
  have hr2 : (((w.alloc (.cells Tryd.zeroCells69 69)).alloc (.cells Tryd.zeroCells69 69)).setCells (w.heap.size + 1) 0 (tkOf h)).rangeAt (w.heap.size + 1) 0 (tkOf h) := World.rangeAt_setCells_same _ _ _ _ (by rw [tkOf_length]; exact HT.out)
  have hs2 : (((w.alloc (.cells Tryd.zeroCells69 69)).alloc (.cells Tryd.zeroCells69 69)).setCells (w.heap.size + 1) 0 (tkOf h)).heap.size = w.heap.size + 2 := by rw [size_setCells]; simp
  generalize (((w.alloc (.cells Tryd.zeroCells69 69)).alloc (.cells Tryd.zeroCells69 69)).setCells (w.heap.size + 1) 0 (tkOf h)) = W2 at hb2 ht2 ht3 hr2 hs2 ⊢
  have HB2 : Hid (Below w.heap.size w W2 ∧ W2.there w.heap.size 0 139 ∧ W2.there (w.heap.size + 1) 0 139 ∧ W2.rangeAt (w.heap.size + 1) 0 (tkOf h) ∧ W2.heap.size = w.heap.size + 2) := ⟨hb2, ht2, ht3, hr2, hs2⟩
  have c1 : W2.cell? ⟨w.heap.size + 1, 1, none⟩ = some .nilFunc := hr2 1 _ rfl
  have f1 : W2.frozen? ⟨w.heap.size + 1, 1, none⟩ = false := (ht3 1 (by omega)).2
  clear hb2 ht2 ht3 hr2 hs2 HT e71
  go_wp2_with (first
    | (go_at_call 66; refine (hfw.out _ ?_).mono ?_)
    | fail)
  · exact ((hT.out.below HB2.out.1 hT.out.size).kept fun k hk => World.heap_setCells_other W2 (w.heap.size + 1) 1 [_] (by have := hT.out.size; have := HB2.out.2.2.2.2; omega) (by have := hT.out.size; omega))
  rintro e5 w5 ⟨rfl, hb5⟩
  obtain ⟨E, HE⟩ : ∃ E : Eight, Hid (E = firstE h) := ⟨_, rfl⟩
  rw [← HE.out]
  have hsz : (W2.setCell ⟨w.heap.size + 1, 1, none⟩ (fnV false)).heap.size = w.heap.size + 2 := (size_setCells (w.heap.size + 1) [fnV false] 1 W2).trans HB2.out.2.2.2.2
  have hst := fun (b o n : Nat) (ht : W2.there b o n) => World.there_setCells ht (w.heap.size + 1) 1 [fnV false]
  have hb5' : Below (w.heap.size + 2) (W2.setCell ⟨w.heap.size + 1, 1, none⟩ (fnV false)) w5 := by rw [← hsz]; exact hb5
  have hth : ∀ b n, b < w.heap.size + 2 → W2.there b 0 n → w5.there b 0 n := fun b n hb ht j hj => by
    rw [hb5'.cell (p := ⟨b, 0 + j, none⟩) hb, hb5'.frozen (p := ⟨b, 0 + j, none⟩) hb]
    exact hst b 0 n ht j hj
  have HB5 : Hid (Below w.heap.size w w5 ∧ w5.there w.heap.size 0 139 ∧ w5.there (w.heap.size + 1) 0 139) := ⟨(HB2.out.1.setCell (p := ⟨w.heap.size + 1, 1, none⟩) (by simp) _).trans (hb5'.mono (by omega)), hth _ _ (by omega) HB2.out.2.1, hth _ _ (by omega) HB2.out.2.2.1⟩
  have hr5 := tk_put h false E HB2.out.2.2.2.1 HB2.out.2.2.1 (fun j => hb5'.cell (p := ⟨w.heap.size + 1, j, none⟩) (by simp)) HB5.out.2.2
  have HR5 : Hid ((w5.setCells (w.heap.size + 1) 2 E.cells).rangeAt (w.heap.size + 1) 0 (tkL h false E (fun _ => 0) 0)) := hr5
  have HX : Hid (w5.there (w.heap.size + 1) 2 E.cells.toArray.size) := fun j hj => by
    have := HB5.out.2.2 (2 + j) (by have : E.cells.toArray.size = 8 := rfl; omega)
    rw [Nat.zero_add] at this
    exact this
  have HZ : Hid ((Tryd.prog.info? 66).map (·.size) = some E.cells.toArray.size) := size68
  clear hr5 hth hb5' hst hsz hb5 HB2 c1 f1
  go_upto_region 9 with (first
    | (refine wpList_store_mid (by rfl) 66 (.tmp 18) (.tmp 17) (by rfl) (w.heap.size + 1) 2 E.cells.toArray (by rfl) (by rfl) HX.out HZ.out (cellsE_one E) ?_)
    | fail)
  have HB6 : Hid (Below w.heap.size w (w5.setCells (w.heap.size + 1) 2 E.cells) ∧ (w5.setCells (w.heap.size + 1) 2 E.cells).there w.heap.size 0 139) := ⟨below_setCells _ (by omega) _ _ _ HB5.out.1, World.there_setCells HB5.out.2.1 _ _ _⟩
  generalize w5.setCells (w.heap.size + 1) 2 E.cells = w6 at HR5 HB6 ⊢
  obtain ⟨T, HTT⟩ : ∃ T : List Value, Hid (T = tkL h false E (fun _ => 0) 0) := ⟨_, rfl⟩
  rw [← HTT.out] at HR5
  have HLA : Hid (T.toArray.size = 139) := by show _ = _; rw [HTT.out]; exact tkArr_size _ _ _ _ _
  have HL : Hid (T.length = 139) := by rw [HTT.out]; exact tkL_length _ _ _ _ _
  have HY : Hid (w6.there w.heap.size 0 T.toArray.size) := by rw [HLA.out]; exact HB6.out.2
  have HZ6 : Hid ((Tryd.prog.info? 69).map (·.size) = some T.toArray.size) := by rw [HLA.out]; exact size71
  have HO : Hid (T.toArray.all (·.oneCell') = true) := by rw [HTT.out]; exact tkL_one _ _ _ _ _
  clear HB5
  go_wp2_with (first
    | (refine wpList_load_mid (by rfl) 69 (.tmp 4) (by rfl) (w.heap.size + 1) 0 (by rfl) T _ HR5.out Tryd.underlying69 rfl (by rw [HL.out]; exact size71) ?_)
    | (refine wpList_store_mid (by rfl) 69 (.tmp 2) (.tmp 19) (by rfl) w.heap.size 0 T.toArray (by rfl) (by rfl) HY.out HZ6.out HO.out ?_)
    | fail)
  have hl := run_loadVar_mid (P := Tryd.prog) (w6.setCells w.heap.size 0 T) w.heap.size 0 69 T _ (World.rangeAt_setCells_same w6 w.heap.size 0 T (by rw [HL.out]; exact HB6.out.2)) Tryd.underlying69 rfl (by rw [HL.out]; exact size71)
  refine bodyPost_ret (v := .tuple #[.agg T.toArray, .int .i64 0]) ?_ rfl ⟨by rw [HTT.out, HE.out], below_setCells _ (Nat.le_refl _) _ _ _ HB6.out.1⟩
  rw [results_cell_tmp Tryd.results45]
  simp [asAddr, hl]

set_option maxHeartbeats 600000 in
set_option maxRecDepth 100000 in
theorem begin_good128 (h : Int) (w : World) (hblk : blockOf h = 128) (hfw : Hid (∀ v, Tables v → Calls Tryd.prog 66 #[.int .i64 h] v fun e w' => e = .returned (.agg (firstE h).cells.toArray) ∧ Below v.heap.size v w')) (hT : Hid (Tables w)) :
    Calls Tryd.prog 45 #[.int .i64 h] w fun e w' => e = .returned (.tuple #[.agg (tkL h true (firstE h) (fun _ => 0) 0).toArray, .int .i64 0]) ∧ Below w.heap.size w w' := by
  have e71 := cells71 h
  have hz : Tryd.zeroCells69.size = 139 := by rw [cells71z]; exact size71z
  have ht : ((w.alloc (.cells Tryd.zeroCells69 69)).alloc (.cells Tryd.zeroCells69 69)).there (w.heap.size + 1) 0 139 := by
    simpa using there_new (w.alloc (.cells Tryd.zeroCells69 69)) Tryd.zeroCells69 69 139 (by rw [hz]; exact Nat.le_refl _)
  have HT : Hid (((w.alloc (.cells Tryd.zeroCells69 69)).alloc (.cells Tryd.zeroCells69 69)).there (w.heap.size + 1) 0 139) := ht
  clear hz ht
  go_enter Tryd.func45, Tryd.ntmps45
  go_wp2_with (first
    | (refine wpList_store_mid (by rfl) 69 (.tmp 4) (.tmp 6) (by rfl) (w.heap.size + 1) 0 (tkOf h).toArray (by rfl) (by rfl) (by rw [size71a]; exact HT.out) (by rw [size71a]; exact size71) (tkOf_one h) ?_)
    | fail)
  refine (block_any h _).mono ?_
  rintro e w1 ⟨rfl, rfl⟩
  rw [hblk]
  have hb2 : Below w.heap.size w (((w.alloc (.cells Tryd.zeroCells69 69)).alloc (.cells Tryd.zeroCells69 69)).setCells (w.heap.size + 1) 0 (tkOf h)) :=
    below_setCells _ (by omega) _ _ _ (((Below.refl _ _).alloc (Nat.le_refl _) _).alloc (by simp) _)
  have ht2 : (((w.alloc (.cells Tryd.zeroCells69 69)).alloc (.cells Tryd.zeroCells69 69)).setCells (w.heap.size + 1) 0 (tkOf h)).there w.heap.size 0 139 :=
    World.there_setCells (World.there_alloc (there_new w Tryd.zeroCells69 69 139 (by rw [cells71z, size71z]; exact Nat.le_refl _)) _) _ _ _
  have ht3 : (((w.alloc (.cells Tryd.zeroCells69 69)).alloc (.cells Tryd.zeroCells69 69)).setCells (w.heap.size + 1) 0 (tkOf h)).there (w.heap.size + 1) 0 139 := World.there_setCells HT.out _ _ _
  have hr2 : (((w.alloc (.cells Tryd.zeroCells69 69)).alloc (.cells Tryd.zeroCells69 69)).setCells (w.heap.size + 1) 0 (tkOf h)).rangeAt (w.heap.size + 1) 0 (tkOf h) := World.rangeAt_setCells_same _ _ _ _ (by rw [tkOf_length]; exact HT.out)
  have hs2 : (((w.alloc (.cells Tryd.zeroCells69 69)).alloc (.cells Tryd.zeroCells69 69)).setCells (w.heap.size + 1) 0 (tkOf h)).heap.size = w.heap.size + 2 := by rw [size_setCells]; simp
  generalize (((w.alloc (.cells Tryd.zeroCells69 69)).alloc (.cells Tryd.zeroCells69 69)).setCells (w.heap.size + 1) 0 (tkOf h)) = W2 at hb2 ht2 ht3 hr2 hs2 ⊢
  have HB2 : Hid (Below w.heap.size w W2 ∧ W2.there w.heap.size 0 139 ∧ W2.there (w.heap.size + 1) 0 139 ∧ W2.rangeAt (w.heap.size + 1) 0 (tkOf h) ∧ W2.heap.size = w.heap.size + 2) := ⟨hb2, ht2, ht3, hr2, hs2⟩
  have c1 : W2.cell? ⟨w.heap.size + 1, 1, none⟩ = some .nilFunc := hr2 1 _ rfl
  have f1 : W2.frozen? ⟨w.heap.size + 1, 1, none⟩ = false := (ht3 1 (by omega)).2
  clear hb2 ht2 ht3 hr2 hs2 HT e71
  go_wp2_with (first
    | (go_at_call 66; refine (hfw.out _ ?_).mono ?_)
    | fail)
  · exact ((hT.out.below HB2.out.1 hT.out.size).kept fun k hk => World.heap_setCells_other W2 (w.heap.size + 1) 1 [_] (by have := hT.out.size; have := HB2.out.2.2.2.2; omega) (by have := hT.out.size; omega))
  rintro e5 w5 ⟨rfl, hb5⟩
  obtain ⟨E, HE⟩ : ∃ E : Eight, Hid (E = firstE h) := ⟨_, rfl⟩
  rw [← HE.out]
  have hsz : (W2.setCell ⟨w.heap.size + 1, 1, none⟩ (fnV true)).heap.size = w.heap.size + 2 := (size_setCells (w.heap.size + 1) [fnV true] 1 W2).trans HB2.out.2.2.2.2
  have hst := fun (b o n : Nat) (ht : W2.there b o n) => World.there_setCells ht (w.heap.size + 1) 1 [fnV true]
  have hb5' : Below (w.heap.size + 2) (W2.setCell ⟨w.heap.size + 1, 1, none⟩ (fnV true)) w5 := by rw [← hsz]; exact hb5
  have hth : ∀ b n, b < w.heap.size + 2 → W2.there b 0 n → w5.there b 0 n := fun b n hb ht j hj => by
    rw [hb5'.cell (p := ⟨b, 0 + j, none⟩) hb, hb5'.frozen (p := ⟨b, 0 + j, none⟩) hb]
    exact hst b 0 n ht j hj
  have HB5 : Hid (Below w.heap.size w w5 ∧ w5.there w.heap.size 0 139 ∧ w5.there (w.heap.size + 1) 0 139) := ⟨(HB2.out.1.setCell (p := ⟨w.heap.size + 1, 1, none⟩) (by simp) _).trans (hb5'.mono (by omega)), hth _ _ (by omega) HB2.out.2.1, hth _ _ (by omega) HB2.out.2.2.1⟩
  have hr5 := tk_put h true E HB2.out.2.2.2.1 HB2.out.2.2.1 (fun j => hb5'.cell (p := ⟨w.heap.size + 1, j, none⟩) (by simp)) HB5.out.2.2
  have HR5 : Hid ((w5.setCells (w.heap.size + 1) 2 E.cells).rangeAt (w.heap.size + 1) 0 (tkL h true E (fun _ => 0) 0)) := hr5
  have HX : Hid (w5.there (w.heap.size + 1) 2 E.cells.toArray.size) := fun j hj => by
    have := HB5.out.2.2 (2 + j) (by have : E.cells.toArray.size = 8 := rfl; omega)
    rw [Nat.zero_add] at this
    exact this
  have HZ : Hid ((Tryd.prog.info? 66).map (·.size) = some E.cells.toArray.size) := size68
  clear hr5 hth hb5' hst hsz hb5 HB2 c1 f1
  go_upto_region 9 with (first
    | (refine wpList_store_mid (by rfl) 66 (.tmp 18) (.tmp 17) (by rfl) (w.heap.size + 1) 2 E.cells.toArray (by rfl) (by rfl) HX.out HZ.out (cellsE_one E) ?_)
    | fail)
  have HB6 : Hid (Below w.heap.size w (w5.setCells (w.heap.size + 1) 2 E.cells) ∧ (w5.setCells (w.heap.size + 1) 2 E.cells).there w.heap.size 0 139) := ⟨below_setCells _ (by omega) _ _ _ HB5.out.1, World.there_setCells HB5.out.2.1 _ _ _⟩
  generalize w5.setCells (w.heap.size + 1) 2 E.cells = w6 at HR5 HB6 ⊢
  obtain ⟨T, HTT⟩ : ∃ T : List Value, Hid (T = tkL h true E (fun _ => 0) 0) := ⟨_, rfl⟩
  rw [← HTT.out] at HR5
  have HLA : Hid (T.toArray.size = 139) := by show _ = _; rw [HTT.out]; exact tkArr_size _ _ _ _ _
  have HL : Hid (T.length = 139) := by rw [HTT.out]; exact tkL_length _ _ _ _ _
  have HY : Hid (w6.there w.heap.size 0 T.toArray.size) := by rw [HLA.out]; exact HB6.out.2
  have HZ6 : Hid ((Tryd.prog.info? 69).map (·.size) = some T.toArray.size) := by rw [HLA.out]; exact size71
  have HO : Hid (T.toArray.all (·.oneCell') = true) := by rw [HTT.out]; exact tkL_one _ _ _ _ _
  clear HB5
  go_wp2_with (first
    | (refine wpList_load_mid (by rfl) 69 (.tmp 4) (by rfl) (w.heap.size + 1) 0 (by rfl) T _ HR5.out Tryd.underlying69 rfl (by rw [HL.out]; exact size71) ?_)
    | (refine wpList_store_mid (by rfl) 69 (.tmp 2) (.tmp 19) (by rfl) w.heap.size 0 T.toArray (by rfl) (by rfl) HY.out HZ6.out HO.out ?_)
    | fail)
  have hl := run_loadVar_mid (P := Tryd.prog) (w6.setCells w.heap.size 0 T) w.heap.size 0 69 T _ (World.rangeAt_setCells_same w6 w.heap.size 0 T (by rw [HL.out]; exact HB6.out.2)) Tryd.underlying69 rfl (by rw [HL.out]; exact size71)
  refine bodyPost_ret (v := .tuple #[.agg T.toArray, .int .i64 0]) ?_ rfl ⟨by rw [HTT.out, HE.out], below_setCells _ (Nat.le_refl _) _ _ _ HB6.out.1⟩
  rw [results_cell_tmp Tryd.results45]
  simp [asAddr, hl]
end Go.Proofs.YtioggmjocelolacDoor
namespace Go.Proofs.YtioggmjocelolacDoor
open Go.RowKit
set_option linter.unusedVariables false
set_option linter.unusedSimpArgs false

theorem TK.below {w v : World} {g o : Nat} {h : Int} {wd : Bool} {s : Eight} {half : Nat → Int} {fed : Nat} (k : TK w g o h wd s half fed) (b : Below w.heap.size w v) : TK v g o h wd s half fed := by
  have hg : g < w.heap.size := lt_of_cell k.hash
  exact ⟨by rw [b.cell hg]; exact k.hash, by rw [b.cell (p := ⟨g, o + 1, none⟩) hg]; exact k.fn, range_below k.st b hg, fun i hi => by rw [b.cell (p := ⟨g, o + 10 + i, none⟩) hg]; exact k.half i hi, by rw [b.cell (p := ⟨g, o + 138, none⟩) hg]; exact k.fed, fun j hj => by rw [b.cell (p := ⟨g, o + j, none⟩) hg, b.frozen (p := ⟨g, o + j, none⟩) hg]; exact k.there j hj⟩
theorem TK.setByte {w : World} {g o : Nat} {h : Int} {wd : Bool} {s : Eight} {half : Nat → Int} {fed : Nat} (k : TK w g o h wd s half fed) (u : Nat) (x : Int) (hu : u < 128) :
    TK (w.setCell ⟨g, o + 10 + u, none⟩ (.int .u8 x)) g o h wd s (fun i => if i = u then x else half i) fed ∧ Touch w (w.setCell ⟨g, o + 10 + u, none⟩ (.int .u8 x)) g o 139 := by
  have hx := k.setHalf u [x] (by simp; omega)
  refine ⟨?_, hx.2⟩
  have e : (fun i => if u ≤ i ∧ i < u + [x].length then [x].getD (i - u) 0 else half i) = fun i => if i = u then x else half i := by
    funext i
    by_cases hi : i = u
    · subst hi; simp
    · rw [if_neg (by simp; omega), if_neg hi]
  rw [e] at hx
  exact hx.1
theorem TK.clear {w : World} {g o : Nat} {h : Int} {wd : Bool} {s : Eight} {half : Nat → Int} {fed : Nat} (k : TK w g o h wd s half fed) (u n : Nat) (hu : u + n ≤ 128) :
    TK (w.setCells g (o + 10 + u) (List.replicate n (.int .u8 0))) g o h wd s (fun i => if u ≤ i ∧ i < u + n then 0 else half i) fed ∧ Touch w (w.setCells g (o + 10 + u) (List.replicate n (.int .u8 0))) g o 139 := by
  have hx := k.setHalf u (List.replicate n 0) (by simp; omega)
  have e1 : cellsU8 (List.replicate n 0) = List.replicate n (.int .u8 0) := by simp [cellsU8]
  rw [e1] at hx
  refine ⟨?_, hx.2⟩
  have e : (fun i => if u ≤ i ∧ i < u + (List.replicate n (0 : Int)).length then (List.replicate n (0 : Int)).getD (i - u) 0 else half i) = fun i => if u ≤ i ∧ i < u + n then 0 else half i := by
    funext i
    by_cases hi : u ≤ i ∧ i < u + n
    · rw [if_pos (by simpa using hi), if_pos hi]
      simp only [List.getD, List.getElem?_replicate]
      split <;> rfl
    · rw [if_neg (by simpa using hi), if_neg hi]
  rw [e] at hx
  exact hx.1
theorem TK.fun_eq {w : World} {g o : Nat} {h : Int} {wd : Bool} {s : Eight} {half half' : Nat → Int} {fed : Nat} (k : TK w g o h wd s half fed) (e : ∀ i, i < 128 → half i = half' i) : TK w g o h wd s half' fed :=
  ⟨k.hash, k.fn, k.st, fun i hi => by rw [← e i hi]; exact k.half i hi, k.fed, k.there⟩
theorem TK.newer {w : World} {g o : Nat} {h : Int} {wd : Bool} {s : Eight} {half : Nat → Int} {fed b : Nat} (k : TK w g o h wd s half fed) (hb : g ≠ b) (vs : List Value) (o' : Nat) : TK (w.setCells b o' vs) g o h wd s half fed := by
  have ho : ∀ p : Addr, p.block = g → (w.setCells b o' vs).cell? p = w.cell? p := fun p hp => World.cell?_setCells_out b vs o' w p (fun e _ => absurd (hp.symm.trans e) hb)
  exact ⟨by rw [ho _ rfl]; exact k.hash, by rw [ho _ rfl]; exact k.fn, fun j v hv => by rw [ho _ rfl]; exact k.st j v hv, fun i hi => by rw [ho _ rfl]; exact k.half i hi, by rw [ho _ rfl]; exact k.fed, World.there_setCells k.there b o' vs⟩
theorem touch_new {w v : World} {g o n : Nat} (h : Touch w v g o n) {b : Nat} (hb : w.heap.size ≤ b) (vs : List Value) (o' : Nat) (hg : g < w.heap.size) : Touch w (v.setCells b o' vs) g o n :=
  ⟨by rw [setCells_os]; exact h.os, by rw [setCells_tape]; exact h.tape, by rw [setCells_output]; exact h.output, by rw [size_setCells]; exact h.size,
    fun k hk hne => by rw [World.heap_setCells_other v b o' vs (by have := h.size; omega) (by omega)]; exact h.block k hk hne,
    fun j hj => by rw [World.cell?_setCells_out b vs o' v ⟨g, j, none⟩ (fun e _ => absurd e (by simp; omega))]; exact h.cell j hj,
    fun o2 n2 ht => World.there_setCells (h.there o2 n2 ht) b o' vs⟩
theorem zero5 (w : World) : (zeroValue 5).run Tryd.prog w = .ok (.int .u8 0) w := by kernel_rfl
theorem clear_eq (w : World) (ty : TypeId) (g o n c : Nat) (ht : w.there g o n) : (Builtin.clear_ #[22] ty #[.slice (some ⟨g, o, none⟩) n c]).run Tryd.prog w = .ok (.tuple #[]) (w.setCells g o (List.replicate n (.int .u8 0))) := by
  by_cases hn : n = 0
  · subst hn
    simp [Builtin.clear_, World.setCells, run_underlying Tryd.underlying22]
  · exact Go.Lib.run_clear_slice w 22 5 ty (.int .u8 0) Tryd.underlying22 (fun w => zero5 w) rfl rfl g o n c (by omega) (fun j hj => (ht j hj).1) (fun j hj => (ht j hj).2)
/-- How many blocks the bytes that are left and the padding make. -/
def padN (bs fed : Nat) : Nat := if fed % bs + 1 ≤ bs - bs / 8 then 1 else 2
def padF (bs : Nat) (half : Nat → Int) (fed : Nat) (i : Nat) : Int :=
  if i < fed % bs then half i else if i = fed % bs then 128 else if i + 8 < padN bs fed * bs then 0 else ((fed : Int) * 8) / 2 ^ (8 * (padN bs fed * bs - 1 - i)) % 256
end Go.Proofs.YtioggmjocelolacDoor
namespace Go.Proofs.YtioggmjocelolacDoor
open Go.RowKit
set_option linter.unusedVariables false
set_option linter.unusedSimpArgs false

set_option maxHeartbeats 3200000 in
set_option maxRecDepth 100000 in
theorem finish64_A (g o : Nat) (h : Int) (s : Eight) (half : Nat → Int) (fed used u1 : Nat) (w : World) (hblk : blockOf h = 64) (HK : Hid (TK w g o h false s half fed)) (hfed : fed ≤ 1152921504606846976) (hT : Hid (Tables w)) (hg : 4 ≤ g) (h0 : Hid (fed % 64 = used)) (hu1 : Hid (u1 = used + 1)) (hu : u1 ≤ 56) :
    Calls Tryd.prog 75 #[.pointer (some ⟨g, o, none⟩)] w fun e w' => e = .returned (.agg (spellCells 4 (TT false (padF 64 half fed) s (padN 64 fed))).toArray) ∧ Touch w w' g o 139 ∧ ∃ half', TK w' g o h false (TT false (padF 64 half fed) s (padN 64 fed)) half' fed := by
  have c0 := HK.out.hash
  have c138 := HK.out.fed
  have hgw : g < w.heap.size := lt_of_cell c0
  have e1 : (used : Int) + 1 = (u1 : Int) := by have := hu1.out; omega
  have hu' : (u1 : Int) ≤ 64 := by omega
  have hu'' : (0 : Int) ≤ (u1 : Int) := by omega
  have hul : used < u1 := by have := hu1.out; omega
  have hlim : (u1 : Int) ≤ 56 := by omega
  have r0 : ((fed : Int) % 64) = (used : Int) := by have := h0.out; omega
  go_enter Tryd.func75, Tryd.ntmps75
  go_upto_region 3 with (first | (go_at_call 55; refine (block_any _ _).mono ?_; rintro e1 w1 ⟨rfl, hw1⟩; obtain rfl := hw1.symm; rw [hblk]))
  have HB0 : Hid (Below w.heap.size w (w.alloc (.cells #[.int .u8 0, .int .u8 0, .int .u8 0, .int .u8 0, .int .u8 0, .int .u8 0, .int .u8 0, .int .u8 0, .int .u8 0, .int .u8 0, .int .u8 0, .int .u8 0, .int .u8 0, .int .u8 0, .int .u8 0, .int .u8 0, .int .u8 0, .int .u8 0, .int .u8 0, .int .u8 0, .int .u8 0, .int .u8 0, .int .u8 0, .int .u8 0, .int .u8 0, .int .u8 0, .int .u8 0, .int .u8 0, .int .u8 0, .int .u8 0, .int .u8 0, .int .u8 0, .int .u8 0, .int .u8 0, .int .u8 0, .int .u8 0, .int .u8 0, .int .u8 0, .int .u8 0, .int .u8 0, .int .u8 0, .int .u8 0, .int .u8 0, .int .u8 0, .int .u8 0, .int .u8 0, .int .u8 0, .int .u8 0, .int .u8 0, .int .u8 0, .int .u8 0, .int .u8 0, .int .u8 0, .int .u8 0, .int .u8 0, .int .u8 0, .int .u8 0, .int .u8 0, .int .u8 0, .int .u8 0, .int .u8 0, .int .u8 0, .int .u8 0, .int .u8 0] 72)) ∧ (w.alloc (.cells #[.int .u8 0, .int .u8 0, .int .u8 0, .int .u8 0, .int .u8 0, .int .u8 0, .int .u8 0, .int .u8 0, .int .u8 0, .int .u8 0, .int .u8 0, .int .u8 0, .int .u8 0, .int .u8 0, .int .u8 0, .int .u8 0, .int .u8 0, .int .u8 0, .int .u8 0, .int .u8 0, .int .u8 0, .int .u8 0, .int .u8 0, .int .u8 0, .int .u8 0, .int .u8 0, .int .u8 0, .int .u8 0, .int .u8 0, .int .u8 0, .int .u8 0, .int .u8 0, .int .u8 0, .int .u8 0, .int .u8 0, .int .u8 0, .int .u8 0, .int .u8 0, .int .u8 0, .int .u8 0, .int .u8 0, .int .u8 0, .int .u8 0, .int .u8 0, .int .u8 0, .int .u8 0, .int .u8 0, .int .u8 0, .int .u8 0, .int .u8 0, .int .u8 0, .int .u8 0, .int .u8 0, .int .u8 0, .int .u8 0, .int .u8 0, .int .u8 0, .int .u8 0, .int .u8 0, .int .u8 0, .int .u8 0, .int .u8 0, .int .u8 0, .int .u8 0] 72)).there w.heap.size 0 64 ∧ w.heap.size < (w.alloc (.cells #[.int .u8 0, .int .u8 0, .int .u8 0, .int .u8 0, .int .u8 0, .int .u8 0, .int .u8 0, .int .u8 0, .int .u8 0, .int .u8 0, .int .u8 0, .int .u8 0, .int .u8 0, .int .u8 0, .int .u8 0, .int .u8 0, .int .u8 0, .int .u8 0, .int .u8 0, .int .u8 0, .int .u8 0, .int .u8 0, .int .u8 0, .int .u8 0, .int .u8 0, .int .u8 0, .int .u8 0, .int .u8 0, .int .u8 0, .int .u8 0, .int .u8 0, .int .u8 0, .int .u8 0, .int .u8 0, .int .u8 0, .int .u8 0, .int .u8 0, .int .u8 0, .int .u8 0, .int .u8 0, .int .u8 0, .int .u8 0, .int .u8 0, .int .u8 0, .int .u8 0, .int .u8 0, .int .u8 0, .int .u8 0, .int .u8 0, .int .u8 0, .int .u8 0, .int .u8 0, .int .u8 0, .int .u8 0, .int .u8 0, .int .u8 0, .int .u8 0, .int .u8 0, .int .u8 0, .int .u8 0, .int .u8 0, .int .u8 0, .int .u8 0, .int .u8 0] 72)).heap.size) := ⟨(Below.refl _ _).alloc (Nat.le_refl _) _, there_new w _ 72 64 (by decide), by simp⟩
  generalize w.alloc (.cells #[.int .u8 0, .int .u8 0, .int .u8 0, .int .u8 0, .int .u8 0, .int .u8 0, .int .u8 0, .int .u8 0, .int .u8 0, .int .u8 0, .int .u8 0, .int .u8 0, .int .u8 0, .int .u8 0, .int .u8 0, .int .u8 0, .int .u8 0, .int .u8 0, .int .u8 0, .int .u8 0, .int .u8 0, .int .u8 0, .int .u8 0, .int .u8 0, .int .u8 0, .int .u8 0, .int .u8 0, .int .u8 0, .int .u8 0, .int .u8 0, .int .u8 0, .int .u8 0, .int .u8 0, .int .u8 0, .int .u8 0, .int .u8 0, .int .u8 0, .int .u8 0, .int .u8 0, .int .u8 0, .int .u8 0, .int .u8 0, .int .u8 0, .int .u8 0, .int .u8 0, .int .u8 0, .int .u8 0, .int .u8 0, .int .u8 0, .int .u8 0, .int .u8 0, .int .u8 0, .int .u8 0, .int .u8 0, .int .u8 0, .int .u8 0, .int .u8 0, .int .u8 0, .int .u8 0, .int .u8 0, .int .u8 0, .int .u8 0, .int .u8 0, .int .u8 0] 72) = w0 at HB0 ⊢
  have HK0 : Hid (TK w0 g o h false s half fed) := HK.out.below HB0.out.1
  have fu : w0.cell? ⟨g, o + 10 + used, none⟩ = some (.int .u8 (half used)) := HK0.out.half used (by omega)
  have ff : w0.frozen? ⟨g, o + 10 + used, none⟩ = false := by
    have := (HK0.out.there (10 + used) (by omega)).2
    rw [← Nat.add_assoc] at this
    exact this
  have hx1 := HK0.out.setByte used 128 (by omega)
  have hcl : ∀ ty, (Builtin.clear_ #[22] ty #[.slice (some ⟨g, o + 10 + u1, none⟩) (64 - u1) (128 - u1)]).run Tryd.prog (w0.setCell ⟨g, o + 10 + used, none⟩ (.int .u8 128)) = .ok (.tuple #[]) ((w0.setCell ⟨g, o + 10 + used, none⟩ (.int .u8 128)).setCells g (o + 10 + u1) (List.replicate (64 - u1) (.int .u8 0))) := fun ty => clear_eq _ ty g _ _ _ (fun j hj => by
    have := hx1.1.there (10 + u1 + j) (by omega)
    rw [← Nat.add_assoc, ← Nat.add_assoc] at this
    exact this)
  have hx2 := hx1.1.clear u1 (64 - u1) (by omega)
  have HT1 : Hid (Touch w ((w0.setCell ⟨g, o + 10 + used, none⟩ (.int .u8 128)).setCells g (o + 10 + u1) (List.replicate (64 - u1) (.int .u8 0))) g o 139) := (((Touch.refl w g o 139).below HB0.out.1 hgw).trans hx1.2).trans hx2.2
  have HK1 : Hid (TK ((w0.setCell ⟨g, o + 10 + used, none⟩ (.int .u8 128)).setCells g (o + 10 + u1) (List.replicate (64 - u1) (.int .u8 0))) g o h false s (fun i => if u1 ≤ i ∧ i < u1 + (64 - u1) then 0 else (fun i => if i = used then 128 else half i) i) fed) := hx2.1
  have HR1 : Hid (((w0.setCell ⟨g, o + 10 + used, none⟩ (.int .u8 128)).setCells g (o + 10 + u1) (List.replicate (64 - u1) (.int .u8 0))).there w.heap.size 0 64 ∧ w.heap.size < ((w0.setCell ⟨g, o + 10 + used, none⟩ (.int .u8 128)).setCells g (o + 10 + u1) (List.replicate (64 - u1) (.int .u8 0))).heap.size) := ⟨World.there_setCells (World.there_setCells HB0.out.2.1 g _ [_]) g _ _, by rw [size_setCells]; simpa [World.setCell] using HB0.out.2.2⟩
  clear hx1 hx2
  go_upto_region 8 with fail
  rw [show decide ((56 : Int) < (u1 : Int)) = false by simp; omega]
  generalize (w0.setCell ⟨g, o + 10 + used, none⟩ (.int .u8 128)).setCells g (o + 10 + u1) (List.replicate (64 - u1) (.int .u8 0)) = w2 at HT1 HK1 HR1 hcl ⊢
  have c138' : w2.cell? ⟨g, o + 138, none⟩ = some (.int .u64 fed) := HK1.out.fed
  obtain ⟨H1, HH1⟩ : ∃ H1 : Nat → Int, Hid ((fun i => if u1 ≤ i ∧ i < u1 + (64 - u1) then (0 : Int) else (fun i => if i = used then 128 else half i) i) = H1) := ⟨_, (show _ = _ from rfl)⟩
  rw [HH1.out] at HK1
  obtain ⟨P, HPP⟩ : ∃ P : Nat → Int, Hid (P = padF 64 half fed) := ⟨_, (show _ = _ from rfl)⟩
  obtain ⟨s1, HS1⟩ : ∃ s1 : Eight, Hid (s1 = s) := ⟨_, (show _ = _ from rfl)⟩
  rw [← HS1.out] at HK1
  have hpn : padN 64 fed = 1 := by rw [padN, if_pos (by have := h0.out; have := hu1.out; omega)]
  have HP1 : Hid (∀ k, k < 64 - 8 → H1 k = P k) := by
    intro k hk
    have hu := hu1.out
    have h00 := h0.out
    rw [← HH1.out, HPP.out]
    simp only [padF, hpn, h00]
    by_cases k2 : u1 ≤ k
    · rw [if_pos ⟨k2, by omega⟩, if_neg (by omega), if_neg (by omega), if_pos (by omega)]
    · rw [if_neg (by omega)]
      by_cases k3 : k = used
      · rw [if_pos k3, if_neg (by omega), if_pos k3]
      · rw [if_neg k3, if_pos (by omega)]
  have HPL : Hid (∀ k, 64 - 8 ≤ k → k < 64 → P k = ((fed : Int) * 8) / 2 ^ (8 * (64 - 1 - k)) % 256) := by
    intro k k1 hk
    have hu := hu1.out
    have h00 := h0.out
    rw [HPP.out]
    simp only [padF, hpn, h00]
    rw [if_neg (by omega), if_neg (by omega), if_neg (by omega)]
  have HE : Hid (TT false P s1 1 = TT false (padF 64 half fed) s (padN 64 fed)) := by show _ = _; rw [HPP.out, HS1.out, hpn]
  clear hcl fu ff HK0 HB0 c0 c138 hpn HH1 HPP HS1
  go_wp2
  clear c138'
  go_loopw [62] (fun v wr => ∃ i : Nat, i ≤ 8 ∧ v = .int .i64 i ∧ Hid (Touch w wr g o 139) ∧ Hid (TK wr g o h false s1 (fun k => if 64 - i ≤ k ∧ k < 64 then ((fed : Int) * 8) / 2 ^ (8 * (64 - 1 - k)) % 256 else H1 k) fed) ∧ Hid (wr.there w.heap.size 0 64 ∧ w.heap.size < wr.heap.size)) (fun v _ => 8 - (intOf v).toNat)
  case atStart => exact ⟨0, by omega, rfl, HT1, HK1.out.fun_eq (fun i hi => by rw [if_neg (by omega)]), HR1⟩
  case round =>
    obtain ⟨i, hi, rfl, HT2, HK2, HR2⟩ := hrel
    clear HT1 HK1 HR1
    by_cases h8 : i < 8
    · obtain ⟨j, hj⟩ : ∃ j, j = 64 - 1 - i := ⟨_, rfl⟩
      have e2 : (63 : Int) - (i : Int) = (j : Int) := by omega
      have e3 : (8 * (i : Int)).toNat = 8 * i := by omega
      have e4 : min (8 * i) 64 = 8 * i := by omega
      have e5 : (0 : Int) ≤ 8 * (i : Int) := by omega
      have e6 : (j : Int) < 128 := by omega
      have HJ : Hid (j = 64 - 1 - i) := hj
      have fc := HK2.out.half j (by omega)
      have ff : wr.frozen? ⟨g, o + 10 + j, none⟩ = false := by
        have := (HK2.out.there (10 + j) (by omega)).2
        rw [← Nat.add_assoc] at this
        exact this
      clear hj
      go_wp2
      go_region
      go_wp2
      go_roundw
      case rel =>
        have hx := HK2.out.setByte j ((fed : Int) * 8 / 2 ^ (8 * i) % 256) (by omega)
        refine ⟨i + 1, by omega, by go_num, (HT2.out.trans hx.2).drew, (hx.1.sm (Sm.refl _).drew).fun_eq (fun k hk => ?_), ⟨World.there_setCells HR2.out.1 g _ [_], by simpa [World.setCell] using HR2.out.2⟩⟩
        have hj := HJ.out
        by_cases hkj : k = j
        · subst hkj
          rw [if_pos rfl, if_pos (by omega), show 64 - 1 - k = i by omega]
        · rw [if_neg hkj]
          by_cases hc : 64 - i ≤ k ∧ k < 64
          · rw [if_pos hc, if_pos (by omega)]
          · rw [if_neg hc, if_neg (by omega)]
      case measure => simp [intOf]; omega
    · obtain rfl : i = 8 := by omega
      have c1' : wr.cell? ⟨g, o + 1, none⟩ = some (.func (.func 64) #[] #[]) := HK2.out.fn
      obtain ⟨H2, HH2⟩ : ∃ H2 : Nat → Int, Hid ((fun k => if 64 - 8 ≤ k ∧ k < 64 then ((fed : Int) * 8) / 2 ^ (8 * (64 - 1 - k)) % 256 else H1 k) = H2) := ⟨_, (show _ = _ from rfl)⟩
      rw [HH2.out] at HK2
      have HP : Hid (∀ k, k < 64 → H2 k = P k) := by
        intro k hk
        rw [← HH2.out]
        dsimp only
        by_cases k1 : 64 - 8 ≤ k
        · rw [if_pos ⟨k1, hk⟩, HPL.out k k1 hk]
        · rw [if_neg (by omega), HP1.out k (by omega)]
      obtain ⟨s', HS'⟩ : ∃ s' : Eight, Hid (s' = TT false (padF 64 half fed) s (padN 64 fed)) := ⟨_, (show _ = _ from rfl)⟩
      have HA : Hid (∀ v, Sm wr v → Calls Tryd.prog 64 #[.pointer (some ⟨g, o + 2, none⟩), .slice (some ⟨g, o + 10, none⟩) 64 128] v fun e w' => e = .returned (.tuple #[]) ∧ Touch wr w' g o 139 ∧ TK w' g o h false s' H2 fed) := by
        intro v hsm
        have hs1 := HT2.out.size
        have hk' := HK2.out.sm hsm
        refine (take_any false g (o + 2) _ ((List.range 64).map H2) s1 v (by rw [hsm.heap]; omega) hk'.st (fun j hj => by have := hk'.there (2 + j) (by omega); rw [← Nat.add_assoc] at this; exact this) (view_half hk' 64 (by omega)) (fun _ _ _ _ e => by injection e with e1 e2 e3; injection e1 with e1; injection e1 with e4 e5; omega) (hsm.tables (hT.out.touch HT2.out hg)) hg).mono ?_
        rintro e w' ⟨rfl, ht', hr'⟩
        rw [show ((List.range 64).map H2).length / bsz false = 1 by simp [bsz], TT_congr false (B' := P) s1 1 (fun j hj => by simp [bsz] at hj; simp [List.getD, hj]; exact HP.out j (by omega)), HE.out, ← HS'.out] at hr'
        exact ⟨rfl, (hsm.touch g o 139).trans (ht'.mono o 139 (by omega) (by omega)), hk'.words ht' hr'⟩
      clear HH2 h8 HP HPL HP1 HE
      go_wp2
      go_region_held3 (fun v => v.cell? ⟨g, o + 1, none⟩ = some (.func (.func 64) #[] #[])) (first | go_keep | exact hk3.fn) ((go_at_call 64; refine (HA.out wr.drew (Sm.refl wr).drew).mono ?_; rintro e3 w3 ⟨rfl, ht3, hk3⟩))
      have HT3 : Hid (Touch w w3 g o 139) := HT2.out.trans ht3
      have HR3 : Hid (w3.there w.heap.size 0 64 ∧ w.heap.size < w3.heap.size) := ⟨ht3.thereFar HR2.out.1 HR2.out.2 (by omega), Nat.lt_of_lt_of_le HR2.out.2 ht3.size⟩
      have HK3 : Hid (TK w3 g o h false s' H2 fed) := hk3
      clear ht3 hk3 HA c1' HT2 HR2 HK2
      go_wp2_with (first | (go_at_call 86; refine (spell64 g o h s' H2 fed _ hblk HK3).mono ?_))
      rintro e4 w4 ⟨rfl, hb4⟩
      have hs3 := HT3.out.size
      have HT4 : Hid (Touch w w4 g o 139) := HT3.out.below hb4 hgw
      have HK4 : Hid (TK w4 g o h false s' H2 fed) := HK3.out.below hb4
      have HR4 : Hid (w4.there w.heap.size 0 64) := fun j hj => by rw [hb4.cell (p := ⟨w.heap.size, 0 + j, none⟩) HR3.out.2, hb4.frozen (p := ⟨w.heap.size, 0 + j, none⟩) HR3.out.2]; exact HR3.out.1 j hj
      have HY : Hid (w4.there w.heap.size 0 (spellCells 4 s').toArray.size) := by rw [spellArr_size]; exact HR4.out
      have HZ : Hid ((Tryd.prog.info? 72).map (·.size) = some (spellCells 4 s').toArray.size) := by rw [spellArr_size]; exact size75
      clear HT3 HK3 HR3 hb4
      go_wp2_with (first
        | (refine wpList_store_mid (by rfl) 72 (.tmp 2) (.tmp 93) (by rfl) w.heap.size 0 (spellCells 4 s').toArray (by rfl) (by rfl) HY.out HZ.out (spellCells_one 4 s') ?_)
        | fail)
      have hl := run_loadVar_mid (P := Tryd.prog) (w4.setCells w.heap.size 0 (spellCells 4 s')) w.heap.size 0 72 (spellCells 4 s') _ (World.rangeAt_setCells_same w4 w.heap.size 0 (spellCells 4 s') (by rw [spellCells_length]; exact HR4.out)) Tryd.underlying72 rfl (by rw [spellCells_length]; exact size75)
      have hn := touch_new HT4.out (Nat.le_refl _) (spellCells 4 s') 0 hgw
      have hs' := HS'.out
      refine bodyPost_ret (v := .agg (spellCells 4 s').toArray) ?_ rfl ⟨by rw [hs'], hn, H2, by rw [← hs']; exact HK4.out.newer (by omega) _ _⟩
      rw [results_cell1 Tryd.results75]
      simp [Act.put, asAddr, hl]
end Go.Proofs.YtioggmjocelolacDoor
namespace Go.Proofs.YtioggmjocelolacDoor
open Go.RowKit
set_option linter.unusedVariables false
set_option linter.unusedSimpArgs false

set_option maxHeartbeats 3200000 in
set_option maxRecDepth 100000 in
theorem finish128_A (g o : Nat) (h : Int) (s : Eight) (half : Nat → Int) (fed used u1 : Nat) (w : World) (hblk : blockOf h = 128) (HK : Hid (TK w g o h true s half fed)) (hfed : fed ≤ 1152921504606846976) (hT : Hid (Tables w)) (hg : 4 ≤ g) (h0 : Hid (fed % 128 = used)) (hu1 : Hid (u1 = used + 1)) (hu : u1 ≤ 112) :
    Calls Tryd.prog 75 #[.pointer (some ⟨g, o, none⟩)] w fun e w' => e = .returned (.agg (spellCells 8 (TT true (padF 128 half fed) s (padN 128 fed))).toArray) ∧ Touch w w' g o 139 ∧ ∃ half', TK w' g o h true (TT true (padF 128 half fed) s (padN 128 fed)) half' fed := by
  have c0 := HK.out.hash
  have c138 := HK.out.fed
  have hgw : g < w.heap.size := lt_of_cell c0
  have e1 : (used : Int) + 1 = (u1 : Int) := by have := hu1.out; omega
  have hu' : (u1 : Int) ≤ 128 := by omega
  have hu'' : (0 : Int) ≤ (u1 : Int) := by omega
  have hul : used < u1 := by have := hu1.out; omega
  have hlim : (u1 : Int) ≤ 112 := by omega
  have r0 : ((fed : Int) % 128) = (used : Int) := by have := h0.out; omega
  go_enter Tryd.func75, Tryd.ntmps75
  go_upto_region 3 with (first | (go_at_call 55; refine (block_any _ _).mono ?_; rintro e1 w1 ⟨rfl, hw1⟩; obtain rfl := hw1.symm; rw [hblk]))
  have HB0 : Hid (Below w.heap.size w (w.alloc (.cells #[.int .u8 0, .int .u8 0, .int .u8 0, .int .u8 0, .int .u8 0, .int .u8 0, .int .u8 0, .int .u8 0, .int .u8 0, .int .u8 0, .int .u8 0, .int .u8 0, .int .u8 0, .int .u8 0, .int .u8 0, .int .u8 0, .int .u8 0, .int .u8 0, .int .u8 0, .int .u8 0, .int .u8 0, .int .u8 0, .int .u8 0, .int .u8 0, .int .u8 0, .int .u8 0, .int .u8 0, .int .u8 0, .int .u8 0, .int .u8 0, .int .u8 0, .int .u8 0, .int .u8 0, .int .u8 0, .int .u8 0, .int .u8 0, .int .u8 0, .int .u8 0, .int .u8 0, .int .u8 0, .int .u8 0, .int .u8 0, .int .u8 0, .int .u8 0, .int .u8 0, .int .u8 0, .int .u8 0, .int .u8 0, .int .u8 0, .int .u8 0, .int .u8 0, .int .u8 0, .int .u8 0, .int .u8 0, .int .u8 0, .int .u8 0, .int .u8 0, .int .u8 0, .int .u8 0, .int .u8 0, .int .u8 0, .int .u8 0, .int .u8 0, .int .u8 0] 72)) ∧ (w.alloc (.cells #[.int .u8 0, .int .u8 0, .int .u8 0, .int .u8 0, .int .u8 0, .int .u8 0, .int .u8 0, .int .u8 0, .int .u8 0, .int .u8 0, .int .u8 0, .int .u8 0, .int .u8 0, .int .u8 0, .int .u8 0, .int .u8 0, .int .u8 0, .int .u8 0, .int .u8 0, .int .u8 0, .int .u8 0, .int .u8 0, .int .u8 0, .int .u8 0, .int .u8 0, .int .u8 0, .int .u8 0, .int .u8 0, .int .u8 0, .int .u8 0, .int .u8 0, .int .u8 0, .int .u8 0, .int .u8 0, .int .u8 0, .int .u8 0, .int .u8 0, .int .u8 0, .int .u8 0, .int .u8 0, .int .u8 0, .int .u8 0, .int .u8 0, .int .u8 0, .int .u8 0, .int .u8 0, .int .u8 0, .int .u8 0, .int .u8 0, .int .u8 0, .int .u8 0, .int .u8 0, .int .u8 0, .int .u8 0, .int .u8 0, .int .u8 0, .int .u8 0, .int .u8 0, .int .u8 0, .int .u8 0, .int .u8 0, .int .u8 0, .int .u8 0, .int .u8 0] 72)).there w.heap.size 0 64 ∧ w.heap.size < (w.alloc (.cells #[.int .u8 0, .int .u8 0, .int .u8 0, .int .u8 0, .int .u8 0, .int .u8 0, .int .u8 0, .int .u8 0, .int .u8 0, .int .u8 0, .int .u8 0, .int .u8 0, .int .u8 0, .int .u8 0, .int .u8 0, .int .u8 0, .int .u8 0, .int .u8 0, .int .u8 0, .int .u8 0, .int .u8 0, .int .u8 0, .int .u8 0, .int .u8 0, .int .u8 0, .int .u8 0, .int .u8 0, .int .u8 0, .int .u8 0, .int .u8 0, .int .u8 0, .int .u8 0, .int .u8 0, .int .u8 0, .int .u8 0, .int .u8 0, .int .u8 0, .int .u8 0, .int .u8 0, .int .u8 0, .int .u8 0, .int .u8 0, .int .u8 0, .int .u8 0, .int .u8 0, .int .u8 0, .int .u8 0, .int .u8 0, .int .u8 0, .int .u8 0, .int .u8 0, .int .u8 0, .int .u8 0, .int .u8 0, .int .u8 0, .int .u8 0, .int .u8 0, .int .u8 0, .int .u8 0, .int .u8 0, .int .u8 0, .int .u8 0, .int .u8 0, .int .u8 0] 72)).heap.size) := ⟨(Below.refl _ _).alloc (Nat.le_refl _) _, there_new w _ 72 64 (by decide), by simp⟩
  generalize w.alloc (.cells #[.int .u8 0, .int .u8 0, .int .u8 0, .int .u8 0, .int .u8 0, .int .u8 0, .int .u8 0, .int .u8 0, .int .u8 0, .int .u8 0, .int .u8 0, .int .u8 0, .int .u8 0, .int .u8 0, .int .u8 0, .int .u8 0, .int .u8 0, .int .u8 0, .int .u8 0, .int .u8 0, .int .u8 0, .int .u8 0, .int .u8 0, .int .u8 0, .int .u8 0, .int .u8 0, .int .u8 0, .int .u8 0, .int .u8 0, .int .u8 0, .int .u8 0, .int .u8 0, .int .u8 0, .int .u8 0, .int .u8 0, .int .u8 0, .int .u8 0, .int .u8 0, .int .u8 0, .int .u8 0, .int .u8 0, .int .u8 0, .int .u8 0, .int .u8 0, .int .u8 0, .int .u8 0, .int .u8 0, .int .u8 0, .int .u8 0, .int .u8 0, .int .u8 0, .int .u8 0, .int .u8 0, .int .u8 0, .int .u8 0, .int .u8 0, .int .u8 0, .int .u8 0, .int .u8 0, .int .u8 0, .int .u8 0, .int .u8 0, .int .u8 0, .int .u8 0] 72) = w0 at HB0 ⊢
  have HK0 : Hid (TK w0 g o h true s half fed) := HK.out.below HB0.out.1
  have fu : w0.cell? ⟨g, o + 10 + used, none⟩ = some (.int .u8 (half used)) := HK0.out.half used (by omega)
  have ff : w0.frozen? ⟨g, o + 10 + used, none⟩ = false := by
    have := (HK0.out.there (10 + used) (by omega)).2
    rw [← Nat.add_assoc] at this
    exact this
  have hx1 := HK0.out.setByte used 128 (by omega)
  have hcl : ∀ ty, (Builtin.clear_ #[22] ty #[.slice (some ⟨g, o + 10 + u1, none⟩) (128 - u1) (128 - u1)]).run Tryd.prog (w0.setCell ⟨g, o + 10 + used, none⟩ (.int .u8 128)) = .ok (.tuple #[]) ((w0.setCell ⟨g, o + 10 + used, none⟩ (.int .u8 128)).setCells g (o + 10 + u1) (List.replicate (128 - u1) (.int .u8 0))) := fun ty => clear_eq _ ty g _ _ _ (fun j hj => by
    have := hx1.1.there (10 + u1 + j) (by omega)
    rw [← Nat.add_assoc, ← Nat.add_assoc] at this
    exact this)
  have hx2 := hx1.1.clear u1 (128 - u1) (by omega)
  have HT1 : Hid (Touch w ((w0.setCell ⟨g, o + 10 + used, none⟩ (.int .u8 128)).setCells g (o + 10 + u1) (List.replicate (128 - u1) (.int .u8 0))) g o 139) := (((Touch.refl w g o 139).below HB0.out.1 hgw).trans hx1.2).trans hx2.2
  have HK1 : Hid (TK ((w0.setCell ⟨g, o + 10 + used, none⟩ (.int .u8 128)).setCells g (o + 10 + u1) (List.replicate (128 - u1) (.int .u8 0))) g o h true s (fun i => if u1 ≤ i ∧ i < u1 + (128 - u1) then 0 else (fun i => if i = used then 128 else half i) i) fed) := hx2.1
  have HR1 : Hid (((w0.setCell ⟨g, o + 10 + used, none⟩ (.int .u8 128)).setCells g (o + 10 + u1) (List.replicate (128 - u1) (.int .u8 0))).there w.heap.size 0 64 ∧ w.heap.size < ((w0.setCell ⟨g, o + 10 + used, none⟩ (.int .u8 128)).setCells g (o + 10 + u1) (List.replicate (128 - u1) (.int .u8 0))).heap.size) := ⟨World.there_setCells (World.there_setCells HB0.out.2.1 g _ [_]) g _ _, by rw [size_setCells]; simpa [World.setCell] using HB0.out.2.2⟩
  clear hx1 hx2
  go_upto_region 8 with fail
  rw [show decide ((112 : Int) < (u1 : Int)) = false by simp; omega]
  generalize (w0.setCell ⟨g, o + 10 + used, none⟩ (.int .u8 128)).setCells g (o + 10 + u1) (List.replicate (128 - u1) (.int .u8 0)) = w2 at HT1 HK1 HR1 hcl ⊢
  have c138' : w2.cell? ⟨g, o + 138, none⟩ = some (.int .u64 fed) := HK1.out.fed
  obtain ⟨H1, HH1⟩ : ∃ H1 : Nat → Int, Hid ((fun i => if u1 ≤ i ∧ i < u1 + (128 - u1) then (0 : Int) else (fun i => if i = used then 128 else half i) i) = H1) := ⟨_, (show _ = _ from rfl)⟩
  rw [HH1.out] at HK1
  obtain ⟨P, HPP⟩ : ∃ P : Nat → Int, Hid (P = padF 128 half fed) := ⟨_, (show _ = _ from rfl)⟩
  obtain ⟨s1, HS1⟩ : ∃ s1 : Eight, Hid (s1 = s) := ⟨_, (show _ = _ from rfl)⟩
  rw [← HS1.out] at HK1
  have hpn : padN 128 fed = 1 := by rw [padN, if_pos (by have := h0.out; have := hu1.out; omega)]
  have HP1 : Hid (∀ k, k < 128 - 8 → H1 k = P k) := by
    intro k hk
    have hu := hu1.out
    have h00 := h0.out
    rw [← HH1.out, HPP.out]
    simp only [padF, hpn, h00]
    by_cases k2 : u1 ≤ k
    · rw [if_pos ⟨k2, by omega⟩, if_neg (by omega), if_neg (by omega), if_pos (by omega)]
    · rw [if_neg (by omega)]
      by_cases k3 : k = used
      · rw [if_pos k3, if_neg (by omega), if_pos k3]
      · rw [if_neg k3, if_pos (by omega)]
  have HPL : Hid (∀ k, 128 - 8 ≤ k → k < 128 → P k = ((fed : Int) * 8) / 2 ^ (8 * (128 - 1 - k)) % 256) := by
    intro k k1 hk
    have hu := hu1.out
    have h00 := h0.out
    rw [HPP.out]
    simp only [padF, hpn, h00]
    rw [if_neg (by omega), if_neg (by omega), if_neg (by omega)]
  have HE : Hid (TT true P s1 1 = TT true (padF 128 half fed) s (padN 128 fed)) := by show _ = _; rw [HPP.out, HS1.out, hpn]
  clear hcl fu ff HK0 HB0 c0 c138 hpn HH1 HPP HS1
  go_wp2
  clear c138'
  go_loopw [62] (fun v wr => ∃ i : Nat, i ≤ 8 ∧ v = .int .i64 i ∧ Hid (Touch w wr g o 139) ∧ Hid (TK wr g o h true s1 (fun k => if 128 - i ≤ k ∧ k < 128 then ((fed : Int) * 8) / 2 ^ (8 * (128 - 1 - k)) % 256 else H1 k) fed) ∧ Hid (wr.there w.heap.size 0 64 ∧ w.heap.size < wr.heap.size)) (fun v _ => 8 - (intOf v).toNat)
  case atStart => exact ⟨0, by omega, rfl, HT1, HK1.out.fun_eq (fun i hi => by rw [if_neg (by omega)]), HR1⟩
  case round =>
    obtain ⟨i, hi, rfl, HT2, HK2, HR2⟩ := hrel
    clear HT1 HK1 HR1
    by_cases h8 : i < 8
    · obtain ⟨j, hj⟩ : ∃ j, j = 128 - 1 - i := ⟨_, rfl⟩
      have e2 : (127 : Int) - (i : Int) = (j : Int) := by omega
      have e3 : (8 * (i : Int)).toNat = 8 * i := by omega
      have e4 : min (8 * i) 64 = 8 * i := by omega
      have e5 : (0 : Int) ≤ 8 * (i : Int) := by omega
      have e6 : (j : Int) < 128 := by omega
      have HJ : Hid (j = 128 - 1 - i) := hj
      have fc := HK2.out.half j (by omega)
      have ff : wr.frozen? ⟨g, o + 10 + j, none⟩ = false := by
        have := (HK2.out.there (10 + j) (by omega)).2
        rw [← Nat.add_assoc] at this
        exact this
      clear hj
      go_wp2
      go_region
      go_wp2
      go_roundw
      case rel =>
        have hx := HK2.out.setByte j ((fed : Int) * 8 / 2 ^ (8 * i) % 256) (by omega)
        refine ⟨i + 1, by omega, by go_num, (HT2.out.trans hx.2).drew, (hx.1.sm (Sm.refl _).drew).fun_eq (fun k hk => ?_), ⟨World.there_setCells HR2.out.1 g _ [_], by simpa [World.setCell] using HR2.out.2⟩⟩
        have hj := HJ.out
        by_cases hkj : k = j
        · subst hkj
          rw [if_pos rfl, if_pos (by omega), show 128 - 1 - k = i by omega]
        · rw [if_neg hkj]
          by_cases hc : 128 - i ≤ k ∧ k < 128
          · rw [if_pos hc, if_pos (by omega)]
          · rw [if_neg hc, if_neg (by omega)]
      case measure => simp [intOf]; omega
    · obtain rfl : i = 8 := by omega
      have c1' : wr.cell? ⟨g, o + 1, none⟩ = some (.func (.func 65) #[] #[]) := HK2.out.fn
      obtain ⟨H2, HH2⟩ : ∃ H2 : Nat → Int, Hid ((fun k => if 128 - 8 ≤ k ∧ k < 128 then ((fed : Int) * 8) / 2 ^ (8 * (128 - 1 - k)) % 256 else H1 k) = H2) := ⟨_, (show _ = _ from rfl)⟩
      rw [HH2.out] at HK2
      have HP : Hid (∀ k, k < 128 → H2 k = P k) := by
        intro k hk
        rw [← HH2.out]
        dsimp only
        by_cases k1 : 128 - 8 ≤ k
        · rw [if_pos ⟨k1, hk⟩, HPL.out k k1 hk]
        · rw [if_neg (by omega), HP1.out k (by omega)]
      obtain ⟨s', HS'⟩ : ∃ s' : Eight, Hid (s' = TT true (padF 128 half fed) s (padN 128 fed)) := ⟨_, (show _ = _ from rfl)⟩
      have HA : Hid (∀ v, Sm wr v → Calls Tryd.prog 65 #[.pointer (some ⟨g, o + 2, none⟩), .slice (some ⟨g, o + 10, none⟩) 128 128] v fun e w' => e = .returned (.tuple #[]) ∧ Touch wr w' g o 139 ∧ TK w' g o h true s' H2 fed) := by
        intro v hsm
        have hs1 := HT2.out.size
        have hk' := HK2.out.sm hsm
        refine (take_any true g (o + 2) _ ((List.range 128).map H2) s1 v (by rw [hsm.heap]; omega) hk'.st (fun j hj => by have := hk'.there (2 + j) (by omega); rw [← Nat.add_assoc] at this; exact this) (view_half hk' 128 (by omega)) (fun _ _ _ _ e => by injection e with e1 e2 e3; injection e1 with e1; injection e1 with e4 e5; omega) (hsm.tables (hT.out.touch HT2.out hg)) hg).mono ?_
        rintro e w' ⟨rfl, ht', hr'⟩
        rw [show ((List.range 128).map H2).length / bsz true = 1 by simp [bsz], TT_congr true (B' := P) s1 1 (fun j hj => by simp [bsz] at hj; simp [List.getD, hj]; exact HP.out j (by omega)), HE.out, ← HS'.out] at hr'
        exact ⟨rfl, (hsm.touch g o 139).trans (ht'.mono o 139 (by omega) (by omega)), hk'.words ht' hr'⟩
      clear HH2 h8 HP HPL HP1 HE
      go_wp2
      go_region_held3 (fun v => v.cell? ⟨g, o + 1, none⟩ = some (.func (.func 65) #[] #[])) (first | go_keep | exact hk3.fn) ((go_at_call 65; refine (HA.out wr.drew (Sm.refl wr).drew).mono ?_; rintro e3 w3 ⟨rfl, ht3, hk3⟩))
      have HT3 : Hid (Touch w w3 g o 139) := HT2.out.trans ht3
      have HR3 : Hid (w3.there w.heap.size 0 64 ∧ w.heap.size < w3.heap.size) := ⟨ht3.thereFar HR2.out.1 HR2.out.2 (by omega), Nat.lt_of_lt_of_le HR2.out.2 ht3.size⟩
      have HK3 : Hid (TK w3 g o h true s' H2 fed) := hk3
      clear ht3 hk3 HA c1' HT2 HR2 HK2
      go_wp2_with (first | (go_at_call 86; refine (spell128 g o h s' H2 fed _ hblk HK3).mono ?_))
      rintro e4 w4 ⟨rfl, hb4⟩
      have hs3 := HT3.out.size
      have HT4 : Hid (Touch w w4 g o 139) := HT3.out.below hb4 hgw
      have HK4 : Hid (TK w4 g o h true s' H2 fed) := HK3.out.below hb4
      have HR4 : Hid (w4.there w.heap.size 0 64) := fun j hj => by rw [hb4.cell (p := ⟨w.heap.size, 0 + j, none⟩) HR3.out.2, hb4.frozen (p := ⟨w.heap.size, 0 + j, none⟩) HR3.out.2]; exact HR3.out.1 j hj
      have HY : Hid (w4.there w.heap.size 0 (spellCells 8 s').toArray.size) := by rw [spellArr_size]; exact HR4.out
      have HZ : Hid ((Tryd.prog.info? 72).map (·.size) = some (spellCells 8 s').toArray.size) := by rw [spellArr_size]; exact size75
      clear HT3 HK3 HR3 hb4
      go_wp2_with (first
        | (refine wpList_store_mid (by rfl) 72 (.tmp 2) (.tmp 93) (by rfl) w.heap.size 0 (spellCells 8 s').toArray (by rfl) (by rfl) HY.out HZ.out (spellCells_one 8 s') ?_)
        | fail)
      have hl := run_loadVar_mid (P := Tryd.prog) (w4.setCells w.heap.size 0 (spellCells 8 s')) w.heap.size 0 72 (spellCells 8 s') _ (World.rangeAt_setCells_same w4 w.heap.size 0 (spellCells 8 s') (by rw [spellCells_length]; exact HR4.out)) Tryd.underlying72 rfl (by rw [spellCells_length]; exact size75)
      have hn := touch_new HT4.out (Nat.le_refl _) (spellCells 8 s') 0 hgw
      have hs' := HS'.out
      refine bodyPost_ret (v := .agg (spellCells 8 s').toArray) ?_ rfl ⟨by rw [hs'], hn, H2, by rw [← hs']; exact HK4.out.newer (by omega) _ _⟩
      rw [results_cell1 Tryd.results75]
      simp [Act.put, asAddr, hl]
end Go.Proofs.YtioggmjocelolacDoor
namespace Go.Proofs.YtioggmjocelolacDoor
open Go.RowKit
set_option linter.unusedVariables false
set_option linter.unusedSimpArgs false

set_option maxHeartbeats 3200000 in
set_option maxRecDepth 100000 in
theorem finish64_B (g o : Nat) (h : Int) (s : Eight) (half : Nat → Int) (fed used u1 : Nat) (w : World) (hblk : blockOf h = 64) (HK : Hid (TK w g o h false s half fed)) (hfed : fed ≤ 1152921504606846976) (hT : Hid (Tables w)) (hg : 4 ≤ g) (h0 : Hid (fed % 64 = used)) (hu1 : Hid (u1 = used + 1)) (hu : 56 < u1) (hu9 : u1 ≤ 64) :
    Calls Tryd.prog 75 #[.pointer (some ⟨g, o, none⟩)] w fun e w' => e = .returned (.agg (spellCells 4 (TT false (padF 64 half fed) s (padN 64 fed))).toArray) ∧ Touch w w' g o 139 ∧ ∃ half', TK w' g o h false (TT false (padF 64 half fed) s (padN 64 fed)) half' fed := by
  have c0 := HK.out.hash
  have c138 := HK.out.fed
  have hgw : g < w.heap.size := lt_of_cell c0
  have e1 : (used : Int) + 1 = (u1 : Int) := by have := hu1.out; omega
  have hu' : (u1 : Int) ≤ 64 := by omega
  have hu'' : (0 : Int) ≤ (u1 : Int) := by omega
  have hul : used < u1 := by have := hu1.out; omega
  have hlim : (56 : Int) < (u1 : Int) := by omega
  have r0 : ((fed : Int) % 64) = (used : Int) := by have := h0.out; omega
  go_enter Tryd.func75, Tryd.ntmps75
  go_upto_region 3 with (first | (go_at_call 55; refine (block_any _ _).mono ?_; rintro e1 w1 ⟨rfl, hw1⟩; obtain rfl := hw1.symm; rw [hblk]))
  have HB0 : Hid (Below w.heap.size w (w.alloc (.cells #[.int .u8 0, .int .u8 0, .int .u8 0, .int .u8 0, .int .u8 0, .int .u8 0, .int .u8 0, .int .u8 0, .int .u8 0, .int .u8 0, .int .u8 0, .int .u8 0, .int .u8 0, .int .u8 0, .int .u8 0, .int .u8 0, .int .u8 0, .int .u8 0, .int .u8 0, .int .u8 0, .int .u8 0, .int .u8 0, .int .u8 0, .int .u8 0, .int .u8 0, .int .u8 0, .int .u8 0, .int .u8 0, .int .u8 0, .int .u8 0, .int .u8 0, .int .u8 0, .int .u8 0, .int .u8 0, .int .u8 0, .int .u8 0, .int .u8 0, .int .u8 0, .int .u8 0, .int .u8 0, .int .u8 0, .int .u8 0, .int .u8 0, .int .u8 0, .int .u8 0, .int .u8 0, .int .u8 0, .int .u8 0, .int .u8 0, .int .u8 0, .int .u8 0, .int .u8 0, .int .u8 0, .int .u8 0, .int .u8 0, .int .u8 0, .int .u8 0, .int .u8 0, .int .u8 0, .int .u8 0, .int .u8 0, .int .u8 0, .int .u8 0, .int .u8 0] 72)) ∧ (w.alloc (.cells #[.int .u8 0, .int .u8 0, .int .u8 0, .int .u8 0, .int .u8 0, .int .u8 0, .int .u8 0, .int .u8 0, .int .u8 0, .int .u8 0, .int .u8 0, .int .u8 0, .int .u8 0, .int .u8 0, .int .u8 0, .int .u8 0, .int .u8 0, .int .u8 0, .int .u8 0, .int .u8 0, .int .u8 0, .int .u8 0, .int .u8 0, .int .u8 0, .int .u8 0, .int .u8 0, .int .u8 0, .int .u8 0, .int .u8 0, .int .u8 0, .int .u8 0, .int .u8 0, .int .u8 0, .int .u8 0, .int .u8 0, .int .u8 0, .int .u8 0, .int .u8 0, .int .u8 0, .int .u8 0, .int .u8 0, .int .u8 0, .int .u8 0, .int .u8 0, .int .u8 0, .int .u8 0, .int .u8 0, .int .u8 0, .int .u8 0, .int .u8 0, .int .u8 0, .int .u8 0, .int .u8 0, .int .u8 0, .int .u8 0, .int .u8 0, .int .u8 0, .int .u8 0, .int .u8 0, .int .u8 0, .int .u8 0, .int .u8 0, .int .u8 0, .int .u8 0] 72)).there w.heap.size 0 64 ∧ w.heap.size < (w.alloc (.cells #[.int .u8 0, .int .u8 0, .int .u8 0, .int .u8 0, .int .u8 0, .int .u8 0, .int .u8 0, .int .u8 0, .int .u8 0, .int .u8 0, .int .u8 0, .int .u8 0, .int .u8 0, .int .u8 0, .int .u8 0, .int .u8 0, .int .u8 0, .int .u8 0, .int .u8 0, .int .u8 0, .int .u8 0, .int .u8 0, .int .u8 0, .int .u8 0, .int .u8 0, .int .u8 0, .int .u8 0, .int .u8 0, .int .u8 0, .int .u8 0, .int .u8 0, .int .u8 0, .int .u8 0, .int .u8 0, .int .u8 0, .int .u8 0, .int .u8 0, .int .u8 0, .int .u8 0, .int .u8 0, .int .u8 0, .int .u8 0, .int .u8 0, .int .u8 0, .int .u8 0, .int .u8 0, .int .u8 0, .int .u8 0, .int .u8 0, .int .u8 0, .int .u8 0, .int .u8 0, .int .u8 0, .int .u8 0, .int .u8 0, .int .u8 0, .int .u8 0, .int .u8 0, .int .u8 0, .int .u8 0, .int .u8 0, .int .u8 0, .int .u8 0, .int .u8 0] 72)).heap.size) := ⟨(Below.refl _ _).alloc (Nat.le_refl _) _, there_new w _ 72 64 (by decide), by simp⟩
  generalize w.alloc (.cells #[.int .u8 0, .int .u8 0, .int .u8 0, .int .u8 0, .int .u8 0, .int .u8 0, .int .u8 0, .int .u8 0, .int .u8 0, .int .u8 0, .int .u8 0, .int .u8 0, .int .u8 0, .int .u8 0, .int .u8 0, .int .u8 0, .int .u8 0, .int .u8 0, .int .u8 0, .int .u8 0, .int .u8 0, .int .u8 0, .int .u8 0, .int .u8 0, .int .u8 0, .int .u8 0, .int .u8 0, .int .u8 0, .int .u8 0, .int .u8 0, .int .u8 0, .int .u8 0, .int .u8 0, .int .u8 0, .int .u8 0, .int .u8 0, .int .u8 0, .int .u8 0, .int .u8 0, .int .u8 0, .int .u8 0, .int .u8 0, .int .u8 0, .int .u8 0, .int .u8 0, .int .u8 0, .int .u8 0, .int .u8 0, .int .u8 0, .int .u8 0, .int .u8 0, .int .u8 0, .int .u8 0, .int .u8 0, .int .u8 0, .int .u8 0, .int .u8 0, .int .u8 0, .int .u8 0, .int .u8 0, .int .u8 0, .int .u8 0, .int .u8 0, .int .u8 0] 72) = w0 at HB0 ⊢
  have HK0 : Hid (TK w0 g o h false s half fed) := HK.out.below HB0.out.1
  have fu : w0.cell? ⟨g, o + 10 + used, none⟩ = some (.int .u8 (half used)) := HK0.out.half used (by omega)
  have ff : w0.frozen? ⟨g, o + 10 + used, none⟩ = false := by
    have := (HK0.out.there (10 + used) (by omega)).2
    rw [← Nat.add_assoc] at this
    exact this
  have hx1 := HK0.out.setByte used 128 (by omega)
  have hcl : ∀ ty, (Builtin.clear_ #[22] ty #[.slice (some ⟨g, o + 10 + u1, none⟩) (64 - u1) (128 - u1)]).run Tryd.prog (w0.setCell ⟨g, o + 10 + used, none⟩ (.int .u8 128)) = .ok (.tuple #[]) ((w0.setCell ⟨g, o + 10 + used, none⟩ (.int .u8 128)).setCells g (o + 10 + u1) (List.replicate (64 - u1) (.int .u8 0))) := fun ty => clear_eq _ ty g _ _ _ (fun j hj => by
    have := hx1.1.there (10 + u1 + j) (by omega)
    rw [← Nat.add_assoc, ← Nat.add_assoc] at this
    exact this)
  have hx2 := hx1.1.clear u1 (64 - u1) (by omega)
  have HT1 : Hid (Touch w ((w0.setCell ⟨g, o + 10 + used, none⟩ (.int .u8 128)).setCells g (o + 10 + u1) (List.replicate (64 - u1) (.int .u8 0))) g o 139) := (((Touch.refl w g o 139).below HB0.out.1 hgw).trans hx1.2).trans hx2.2
  have HK1 : Hid (TK ((w0.setCell ⟨g, o + 10 + used, none⟩ (.int .u8 128)).setCells g (o + 10 + u1) (List.replicate (64 - u1) (.int .u8 0))) g o h false s (fun i => if u1 ≤ i ∧ i < u1 + (64 - u1) then 0 else (fun i => if i = used then 128 else half i) i) fed) := hx2.1
  have HR1 : Hid (((w0.setCell ⟨g, o + 10 + used, none⟩ (.int .u8 128)).setCells g (o + 10 + u1) (List.replicate (64 - u1) (.int .u8 0))).there w.heap.size 0 64 ∧ w.heap.size < ((w0.setCell ⟨g, o + 10 + used, none⟩ (.int .u8 128)).setCells g (o + 10 + u1) (List.replicate (64 - u1) (.int .u8 0))).heap.size) := ⟨World.there_setCells (World.there_setCells HB0.out.2.1 g _ [_]) g _ _, by rw [size_setCells]; simpa [World.setCell] using HB0.out.2.2⟩
  clear hx1 hx2
  go_upto_region 6 with fail
  generalize (w0.setCell ⟨g, o + 10 + used, none⟩ (.int .u8 128)).setCells g (o + 10 + u1) (List.replicate (64 - u1) (.int .u8 0)) = w2 at HT1 HK1 HR1 hcl ⊢
  have c1' : w2.cell? ⟨g, o + 1, none⟩ = some (.func (.func 64) #[] #[]) := HK1.out.fn
  obtain ⟨H0, HH0⟩ : ∃ H0 : Nat → Int, Hid ((fun i => if u1 ≤ i ∧ i < u1 + (64 - u1) then (0 : Int) else (fun i => if i = used then 128 else half i) i) = H0) := ⟨_, (show _ = _ from rfl)⟩
  rw [HH0.out] at HK1
  obtain ⟨s1, HS1⟩ : ∃ s1 : Eight, Hid (s1 = TT false H0 s 1) := ⟨_, (show _ = _ from rfl)⟩
  have HA : Hid (∀ v, Sm w2 v → Calls Tryd.prog 64 #[.pointer (some ⟨g, o + 2, none⟩), .slice (some ⟨g, o + 10, none⟩) 64 128] v fun e w' => e = .returned (.tuple #[]) ∧ Touch w2 w' g o 139 ∧ TK w' g o h false s1 H0 fed) := by
    intro v hsm
    have hs1 := HT1.out.size
    have hk' := HK1.out.sm hsm
    refine (take_any false g (o + 2) _ ((List.range 64).map H0) s v (by rw [hsm.heap]; omega) hk'.st (fun j hj => by have := hk'.there (2 + j) (by omega); rw [← Nat.add_assoc] at this; exact this) (view_half hk' 64 (by omega)) (fun _ _ _ _ e => by injection e with e1 e2 e3; injection e1 with e1; injection e1 with e4 e5; omega) (hsm.tables (hT.out.touch HT1.out hg)) hg).mono ?_
    rintro e w' ⟨rfl, ht', hr'⟩
    rw [show ((List.range 64).map H0).length / bsz false = 1 by simp [bsz], TT_congr false (B' := H0) s 1 (fun j hj => by simp [bsz] at hj; simp [List.getD, hj]), ← HS1.out] at hr'
    exact ⟨rfl, (hsm.touch g o 139).trans (ht'.mono o 139 (by omega) (by omega)), hk'.words ht' hr'⟩
  clear hcl fu ff HK0 HB0 c0 c138
  go_wp2
  go_region_held3 (fun v => v.cell? ⟨g, o + 1, none⟩ = some (.func (.func 64) #[] #[])) (first | go_keep | exact hk3.fn) ((go_at_call 64; refine (HA.out w2.drew (Sm.refl w2).drew).mono ?_; rintro e3 w3 ⟨rfl, ht3, hk3⟩))
  have hx3 := hk3.clear 0 64 (by omega)
  have hcl3 : ∀ ty, (Builtin.clear_ #[22] ty #[.slice (some ⟨g, o + 10, none⟩) 64 128]).run Tryd.prog w3 = .ok (.tuple #[]) (w3.setCells g (o + 10) (List.replicate 64 (.int .u8 0))) := fun ty => clear_eq _ ty g _ _ _ (fun j hj => by
    have := hk3.there (10 + j) (by omega)
    rw [← Nat.add_assoc] at this
    exact this)
  rw [Nat.add_zero] at hx3
  have HR2 : Hid ((w3.setCells g (o + 10) (List.replicate 64 (.int .u8 0))).there w.heap.size 0 64 ∧ w.heap.size < (w3.setCells g (o + 10) (List.replicate 64 (.int .u8 0))).heap.size) := ⟨World.there_setCells (ht3.thereFar HR1.out.1 HR1.out.2 (by omega)) g _ _, by rw [size_setCells]; exact Nat.lt_of_lt_of_le HR1.out.2 ht3.size⟩
  have HT2 : Hid (Touch w (w3.setCells g (o + 10) (List.replicate 64 (.int .u8 0))) g o 139) := (HT1.out.trans ht3).trans hx3.2
  have HK2 : Hid (TK (w3.setCells g (o + 10) (List.replicate 64 (.int .u8 0))) g o h false s1 (fun i => if 0 ≤ i ∧ i < 0 + 64 then 0 else H0 i) fed) := hx3.1
  clear hx3 ht3 hk3 HT1 HK1 HR1 HA c1'
  generalize w3.setCells g (o + 10) (List.replicate 64 (.int .u8 0)) = w4 at HT2 HK2 HR2 hcl3
  go_upto_region 8 with fail
  have HT1 := HT2; have HR1 := HR2
  have c138' : w4.cell? ⟨g, o + 138, none⟩ = some (.int .u64 fed) := HK2.out.fed
  obtain ⟨H1, HH1⟩ : ∃ H1 : Nat → Int, Hid ((fun i => if 0 ≤ i ∧ i < 0 + 64 then 0 else H0 i) = H1) := ⟨_, (show _ = _ from rfl)⟩
  rw [HH1.out] at HK2
  have HK1 := HK2
  obtain ⟨P, HPP⟩ : ∃ P : Nat → Int, Hid (P = fun i => padF 64 half fed (64 + i)) := ⟨_, (show _ = _ from rfl)⟩
  have hpn : padN 64 fed = 2 := by rw [padN, if_neg (by have := h0.out; have := hu1.out; omega)]
  have HP1 : Hid (∀ k, k < 64 - 8 → H1 k = P k) := by
    intro k hk
    have hu := hu1.out
    have h00 := h0.out
    rw [← HH1.out, HPP.out]
    simp only [padF, hpn, h00]
    rw [if_pos ⟨by omega, by omega⟩, if_neg (by omega), if_neg (by omega), if_pos (by omega)]
  have HPL : Hid (∀ k, 64 - 8 ≤ k → k < 64 → P k = ((fed : Int) * 8) / 2 ^ (8 * (64 - 1 - k)) % 256) := by
    intro k k1 hk
    have hu := hu1.out
    have h00 := h0.out
    rw [HPP.out]
    simp only [padF, hpn, h00]
    rw [if_neg (by omega), if_neg (by omega), if_neg (by omega), show 2 * 64 - 1 - (64 + k) = 64 - 1 - k by omega]
  have HE : Hid (TT false P s1 1 = TT false (padF 64 half fed) s (padN 64 fed)) := by
    show _ = _
    rw [HPP.out, HS1.out, hpn, show (2 : Nat) = 1 + 1 from rfl, TT_add false _ s 1 1, TT_congr false (B := H0) (B' := padF 64 half fed) s 1]
    · simp [bsz]
    · intro k hk
      have hk' : k < 64 := by simpa [bsz] using hk
      have hu := hu1.out
      have h00 := h0.out
      rw [← HH0.out]
      simp only [padF, hpn, h00]
      by_cases k2 : u1 ≤ k
      · rw [if_pos ⟨k2, by omega⟩, if_neg (by omega), if_neg (by omega), if_pos (by omega)]
      · rw [if_neg (by omega)]
        by_cases k3 : k = used
        · rw [if_pos k3, if_neg (by omega), if_pos k3]
        · rw [if_neg k3, if_pos (by omega)]
  clear hcl3 hpn HH1 HPP HS1 HT2 HK2 HR2 HH0
  go_wp2
  clear c138'
  go_loopw [62] (fun v wr => ∃ i : Nat, i ≤ 8 ∧ v = .int .i64 i ∧ Hid (Touch w wr g o 139) ∧ Hid (TK wr g o h false s1 (fun k => if 64 - i ≤ k ∧ k < 64 then ((fed : Int) * 8) / 2 ^ (8 * (64 - 1 - k)) % 256 else H1 k) fed) ∧ Hid (wr.there w.heap.size 0 64 ∧ w.heap.size < wr.heap.size)) (fun v _ => 8 - (intOf v).toNat)
  case atStart => exact ⟨0, by omega, rfl, HT1, HK1.out.fun_eq (fun i hi => by rw [if_neg (by omega)]), HR1⟩
  case round =>
    obtain ⟨i, hi, rfl, HT2, HK2, HR2⟩ := hrel
    clear HT1 HK1 HR1
    by_cases h8 : i < 8
    · obtain ⟨j, hj⟩ : ∃ j, j = 64 - 1 - i := ⟨_, rfl⟩
      have e2 : (63 : Int) - (i : Int) = (j : Int) := by omega
      have e3 : (8 * (i : Int)).toNat = 8 * i := by omega
      have e4 : min (8 * i) 64 = 8 * i := by omega
      have e5 : (0 : Int) ≤ 8 * (i : Int) := by omega
      have e6 : (j : Int) < 128 := by omega
      have HJ : Hid (j = 64 - 1 - i) := hj
      have fc := HK2.out.half j (by omega)
      have ff : wr.frozen? ⟨g, o + 10 + j, none⟩ = false := by
        have := (HK2.out.there (10 + j) (by omega)).2
        rw [← Nat.add_assoc] at this
        exact this
      clear hj
      go_wp2
      go_region
      go_wp2
      go_roundw
      case rel =>
        have hx := HK2.out.setByte j ((fed : Int) * 8 / 2 ^ (8 * i) % 256) (by omega)
        refine ⟨i + 1, by omega, by go_num, (HT2.out.trans hx.2).drew, (hx.1.sm (Sm.refl _).drew).fun_eq (fun k hk => ?_), ⟨World.there_setCells HR2.out.1 g _ [_], by simpa [World.setCell] using HR2.out.2⟩⟩
        have hj := HJ.out
        by_cases hkj : k = j
        · subst hkj
          rw [if_pos rfl, if_pos (by omega), show 64 - 1 - k = i by omega]
        · rw [if_neg hkj]
          by_cases hc : 64 - i ≤ k ∧ k < 64
          · rw [if_pos hc, if_pos (by omega)]
          · rw [if_neg hc, if_neg (by omega)]
      case measure => simp [intOf]; omega
    · obtain rfl : i = 8 := by omega
      have c1' : wr.cell? ⟨g, o + 1, none⟩ = some (.func (.func 64) #[] #[]) := HK2.out.fn
      obtain ⟨H2, HH2⟩ : ∃ H2 : Nat → Int, Hid ((fun k => if 64 - 8 ≤ k ∧ k < 64 then ((fed : Int) * 8) / 2 ^ (8 * (64 - 1 - k)) % 256 else H1 k) = H2) := ⟨_, (show _ = _ from rfl)⟩
      rw [HH2.out] at HK2
      have HP : Hid (∀ k, k < 64 → H2 k = P k) := by
        intro k hk
        rw [← HH2.out]
        dsimp only
        by_cases k1 : 64 - 8 ≤ k
        · rw [if_pos ⟨k1, hk⟩, HPL.out k k1 hk]
        · rw [if_neg (by omega), HP1.out k (by omega)]
      obtain ⟨s', HS'⟩ : ∃ s' : Eight, Hid (s' = TT false (padF 64 half fed) s (padN 64 fed)) := ⟨_, (show _ = _ from rfl)⟩
      have HA : Hid (∀ v, Sm wr v → Calls Tryd.prog 64 #[.pointer (some ⟨g, o + 2, none⟩), .slice (some ⟨g, o + 10, none⟩) 64 128] v fun e w' => e = .returned (.tuple #[]) ∧ Touch wr w' g o 139 ∧ TK w' g o h false s' H2 fed) := by
        intro v hsm
        have hs1 := HT2.out.size
        have hk' := HK2.out.sm hsm
        refine (take_any false g (o + 2) _ ((List.range 64).map H2) s1 v (by rw [hsm.heap]; omega) hk'.st (fun j hj => by have := hk'.there (2 + j) (by omega); rw [← Nat.add_assoc] at this; exact this) (view_half hk' 64 (by omega)) (fun _ _ _ _ e => by injection e with e1 e2 e3; injection e1 with e1; injection e1 with e4 e5; omega) (hsm.tables (hT.out.touch HT2.out hg)) hg).mono ?_
        rintro e w' ⟨rfl, ht', hr'⟩
        rw [show ((List.range 64).map H2).length / bsz false = 1 by simp [bsz], TT_congr false (B' := P) s1 1 (fun j hj => by simp [bsz] at hj; simp [List.getD, hj]; exact HP.out j (by omega)), HE.out, ← HS'.out] at hr'
        exact ⟨rfl, (hsm.touch g o 139).trans (ht'.mono o 139 (by omega) (by omega)), hk'.words ht' hr'⟩
      clear HH2 h8 HP HPL HP1 HE
      go_wp2
      go_region_held3 (fun v => v.cell? ⟨g, o + 1, none⟩ = some (.func (.func 64) #[] #[])) (first | go_keep | exact hk3.fn) ((go_at_call 64; refine (HA.out wr.drew (Sm.refl wr).drew).mono ?_; rintro e3 w3 ⟨rfl, ht3, hk3⟩))
      have HT3 : Hid (Touch w w3 g o 139) := HT2.out.trans ht3
      have HR3 : Hid (w3.there w.heap.size 0 64 ∧ w.heap.size < w3.heap.size) := ⟨ht3.thereFar HR2.out.1 HR2.out.2 (by omega), Nat.lt_of_lt_of_le HR2.out.2 ht3.size⟩
      have HK3 : Hid (TK w3 g o h false s' H2 fed) := hk3
      clear ht3 hk3 HA c1' HT2 HR2 HK2
      go_wp2_with (first | (go_at_call 86; refine (spell64 g o h s' H2 fed _ hblk HK3).mono ?_))
      rintro e4 w4 ⟨rfl, hb4⟩
      have hs3 := HT3.out.size
      have HT4 : Hid (Touch w w4 g o 139) := HT3.out.below hb4 hgw
      have HK4 : Hid (TK w4 g o h false s' H2 fed) := HK3.out.below hb4
      have HR4 : Hid (w4.there w.heap.size 0 64) := fun j hj => by rw [hb4.cell (p := ⟨w.heap.size, 0 + j, none⟩) HR3.out.2, hb4.frozen (p := ⟨w.heap.size, 0 + j, none⟩) HR3.out.2]; exact HR3.out.1 j hj
      have HY : Hid (w4.there w.heap.size 0 (spellCells 4 s').toArray.size) := by rw [spellArr_size]; exact HR4.out
      have HZ : Hid ((Tryd.prog.info? 72).map (·.size) = some (spellCells 4 s').toArray.size) := by rw [spellArr_size]; exact size75
      clear HT3 HK3 HR3 hb4
      go_wp2_with (first
        | (refine wpList_store_mid (by rfl) 72 (.tmp 2) (.tmp 93) (by rfl) w.heap.size 0 (spellCells 4 s').toArray (by rfl) (by rfl) HY.out HZ.out (spellCells_one 4 s') ?_)
        | fail)
      have hl := run_loadVar_mid (P := Tryd.prog) (w4.setCells w.heap.size 0 (spellCells 4 s')) w.heap.size 0 72 (spellCells 4 s') _ (World.rangeAt_setCells_same w4 w.heap.size 0 (spellCells 4 s') (by rw [spellCells_length]; exact HR4.out)) Tryd.underlying72 rfl (by rw [spellCells_length]; exact size75)
      have hn := touch_new HT4.out (Nat.le_refl _) (spellCells 4 s') 0 hgw
      have hs' := HS'.out
      refine bodyPost_ret (v := .agg (spellCells 4 s').toArray) ?_ rfl ⟨by rw [hs'], hn, H2, by rw [← hs']; exact HK4.out.newer (by omega) _ _⟩
      rw [results_cell1 Tryd.results75]
      simp [Act.put, asAddr, hl]
end Go.Proofs.YtioggmjocelolacDoor
namespace Go.Proofs.YtioggmjocelolacDoor
open Go.RowKit
set_option linter.unusedVariables false
set_option linter.unusedSimpArgs false

set_option maxHeartbeats 3200000 in
set_option maxRecDepth 100000 in
theorem finish128_B (g o : Nat) (h : Int) (s : Eight) (half : Nat → Int) (fed used u1 : Nat) (w : World) (hblk : blockOf h = 128) (HK : Hid (TK w g o h true s half fed)) (hfed : fed ≤ 1152921504606846976) (hT : Hid (Tables w)) (hg : 4 ≤ g) (h0 : Hid (fed % 128 = used)) (hu1 : Hid (u1 = used + 1)) (hu : 112 < u1) (hu9 : u1 ≤ 127) :
    Calls Tryd.prog 75 #[.pointer (some ⟨g, o, none⟩)] w fun e w' => e = .returned (.agg (spellCells 8 (TT true (padF 128 half fed) s (padN 128 fed))).toArray) ∧ Touch w w' g o 139 ∧ ∃ half', TK w' g o h true (TT true (padF 128 half fed) s (padN 128 fed)) half' fed := by
  have c0 := HK.out.hash
  have c138 := HK.out.fed
  have hgw : g < w.heap.size := lt_of_cell c0
  have e1 : (used : Int) + 1 = (u1 : Int) := by have := hu1.out; omega
  have hu' : (u1 : Int) ≤ 128 := by omega
  have hu'' : (0 : Int) ≤ (u1 : Int) := by omega
  have hul : used < u1 := by have := hu1.out; omega
  have hlim : (112 : Int) < (u1 : Int) := by omega
  have r0 : ((fed : Int) % 128) = (used : Int) := by have := h0.out; omega
  go_enter Tryd.func75, Tryd.ntmps75
  go_upto_region 3 with (first | (go_at_call 55; refine (block_any _ _).mono ?_; rintro e1 w1 ⟨rfl, hw1⟩; obtain rfl := hw1.symm; rw [hblk]))
  have HB0 : Hid (Below w.heap.size w (w.alloc (.cells #[.int .u8 0, .int .u8 0, .int .u8 0, .int .u8 0, .int .u8 0, .int .u8 0, .int .u8 0, .int .u8 0, .int .u8 0, .int .u8 0, .int .u8 0, .int .u8 0, .int .u8 0, .int .u8 0, .int .u8 0, .int .u8 0, .int .u8 0, .int .u8 0, .int .u8 0, .int .u8 0, .int .u8 0, .int .u8 0, .int .u8 0, .int .u8 0, .int .u8 0, .int .u8 0, .int .u8 0, .int .u8 0, .int .u8 0, .int .u8 0, .int .u8 0, .int .u8 0, .int .u8 0, .int .u8 0, .int .u8 0, .int .u8 0, .int .u8 0, .int .u8 0, .int .u8 0, .int .u8 0, .int .u8 0, .int .u8 0, .int .u8 0, .int .u8 0, .int .u8 0, .int .u8 0, .int .u8 0, .int .u8 0, .int .u8 0, .int .u8 0, .int .u8 0, .int .u8 0, .int .u8 0, .int .u8 0, .int .u8 0, .int .u8 0, .int .u8 0, .int .u8 0, .int .u8 0, .int .u8 0, .int .u8 0, .int .u8 0, .int .u8 0, .int .u8 0] 72)) ∧ (w.alloc (.cells #[.int .u8 0, .int .u8 0, .int .u8 0, .int .u8 0, .int .u8 0, .int .u8 0, .int .u8 0, .int .u8 0, .int .u8 0, .int .u8 0, .int .u8 0, .int .u8 0, .int .u8 0, .int .u8 0, .int .u8 0, .int .u8 0, .int .u8 0, .int .u8 0, .int .u8 0, .int .u8 0, .int .u8 0, .int .u8 0, .int .u8 0, .int .u8 0, .int .u8 0, .int .u8 0, .int .u8 0, .int .u8 0, .int .u8 0, .int .u8 0, .int .u8 0, .int .u8 0, .int .u8 0, .int .u8 0, .int .u8 0, .int .u8 0, .int .u8 0, .int .u8 0, .int .u8 0, .int .u8 0, .int .u8 0, .int .u8 0, .int .u8 0, .int .u8 0, .int .u8 0, .int .u8 0, .int .u8 0, .int .u8 0, .int .u8 0, .int .u8 0, .int .u8 0, .int .u8 0, .int .u8 0, .int .u8 0, .int .u8 0, .int .u8 0, .int .u8 0, .int .u8 0, .int .u8 0, .int .u8 0, .int .u8 0, .int .u8 0, .int .u8 0, .int .u8 0] 72)).there w.heap.size 0 64 ∧ w.heap.size < (w.alloc (.cells #[.int .u8 0, .int .u8 0, .int .u8 0, .int .u8 0, .int .u8 0, .int .u8 0, .int .u8 0, .int .u8 0, .int .u8 0, .int .u8 0, .int .u8 0, .int .u8 0, .int .u8 0, .int .u8 0, .int .u8 0, .int .u8 0, .int .u8 0, .int .u8 0, .int .u8 0, .int .u8 0, .int .u8 0, .int .u8 0, .int .u8 0, .int .u8 0, .int .u8 0, .int .u8 0, .int .u8 0, .int .u8 0, .int .u8 0, .int .u8 0, .int .u8 0, .int .u8 0, .int .u8 0, .int .u8 0, .int .u8 0, .int .u8 0, .int .u8 0, .int .u8 0, .int .u8 0, .int .u8 0, .int .u8 0, .int .u8 0, .int .u8 0, .int .u8 0, .int .u8 0, .int .u8 0, .int .u8 0, .int .u8 0, .int .u8 0, .int .u8 0, .int .u8 0, .int .u8 0, .int .u8 0, .int .u8 0, .int .u8 0, .int .u8 0, .int .u8 0, .int .u8 0, .int .u8 0, .int .u8 0, .int .u8 0, .int .u8 0, .int .u8 0, .int .u8 0] 72)).heap.size) := ⟨(Below.refl _ _).alloc (Nat.le_refl _) _, there_new w _ 72 64 (by decide), by simp⟩
  generalize w.alloc (.cells #[.int .u8 0, .int .u8 0, .int .u8 0, .int .u8 0, .int .u8 0, .int .u8 0, .int .u8 0, .int .u8 0, .int .u8 0, .int .u8 0, .int .u8 0, .int .u8 0, .int .u8 0, .int .u8 0, .int .u8 0, .int .u8 0, .int .u8 0, .int .u8 0, .int .u8 0, .int .u8 0, .int .u8 0, .int .u8 0, .int .u8 0, .int .u8 0, .int .u8 0, .int .u8 0, .int .u8 0, .int .u8 0, .int .u8 0, .int .u8 0, .int .u8 0, .int .u8 0, .int .u8 0, .int .u8 0, .int .u8 0, .int .u8 0, .int .u8 0, .int .u8 0, .int .u8 0, .int .u8 0, .int .u8 0, .int .u8 0, .int .u8 0, .int .u8 0, .int .u8 0, .int .u8 0, .int .u8 0, .int .u8 0, .int .u8 0, .int .u8 0, .int .u8 0, .int .u8 0, .int .u8 0, .int .u8 0, .int .u8 0, .int .u8 0, .int .u8 0, .int .u8 0, .int .u8 0, .int .u8 0, .int .u8 0, .int .u8 0, .int .u8 0, .int .u8 0] 72) = w0 at HB0 ⊢
  have HK0 : Hid (TK w0 g o h true s half fed) := HK.out.below HB0.out.1
  have fu : w0.cell? ⟨g, o + 10 + used, none⟩ = some (.int .u8 (half used)) := HK0.out.half used (by omega)
  have ff : w0.frozen? ⟨g, o + 10 + used, none⟩ = false := by
    have := (HK0.out.there (10 + used) (by omega)).2
    rw [← Nat.add_assoc] at this
    exact this
  have hx1 := HK0.out.setByte used 128 (by omega)
  have hcl : ∀ ty, (Builtin.clear_ #[22] ty #[.slice (some ⟨g, o + 10 + u1, none⟩) (128 - u1) (128 - u1)]).run Tryd.prog (w0.setCell ⟨g, o + 10 + used, none⟩ (.int .u8 128)) = .ok (.tuple #[]) ((w0.setCell ⟨g, o + 10 + used, none⟩ (.int .u8 128)).setCells g (o + 10 + u1) (List.replicate (128 - u1) (.int .u8 0))) := fun ty => clear_eq _ ty g _ _ _ (fun j hj => by
    have := hx1.1.there (10 + u1 + j) (by omega)
    rw [← Nat.add_assoc, ← Nat.add_assoc] at this
    exact this)
  have hx2 := hx1.1.clear u1 (128 - u1) (by omega)
  have HT1 : Hid (Touch w ((w0.setCell ⟨g, o + 10 + used, none⟩ (.int .u8 128)).setCells g (o + 10 + u1) (List.replicate (128 - u1) (.int .u8 0))) g o 139) := (((Touch.refl w g o 139).below HB0.out.1 hgw).trans hx1.2).trans hx2.2
  have HK1 : Hid (TK ((w0.setCell ⟨g, o + 10 + used, none⟩ (.int .u8 128)).setCells g (o + 10 + u1) (List.replicate (128 - u1) (.int .u8 0))) g o h true s (fun i => if u1 ≤ i ∧ i < u1 + (128 - u1) then 0 else (fun i => if i = used then 128 else half i) i) fed) := hx2.1
  have HR1 : Hid (((w0.setCell ⟨g, o + 10 + used, none⟩ (.int .u8 128)).setCells g (o + 10 + u1) (List.replicate (128 - u1) (.int .u8 0))).there w.heap.size 0 64 ∧ w.heap.size < ((w0.setCell ⟨g, o + 10 + used, none⟩ (.int .u8 128)).setCells g (o + 10 + u1) (List.replicate (128 - u1) (.int .u8 0))).heap.size) := ⟨World.there_setCells (World.there_setCells HB0.out.2.1 g _ [_]) g _ _, by rw [size_setCells]; simpa [World.setCell] using HB0.out.2.2⟩
  clear hx1 hx2
  go_upto_region 6 with fail
  generalize (w0.setCell ⟨g, o + 10 + used, none⟩ (.int .u8 128)).setCells g (o + 10 + u1) (List.replicate (128 - u1) (.int .u8 0)) = w2 at HT1 HK1 HR1 hcl ⊢
  have c1' : w2.cell? ⟨g, o + 1, none⟩ = some (.func (.func 65) #[] #[]) := HK1.out.fn
  obtain ⟨H0, HH0⟩ : ∃ H0 : Nat → Int, Hid ((fun i => if u1 ≤ i ∧ i < u1 + (128 - u1) then (0 : Int) else (fun i => if i = used then 128 else half i) i) = H0) := ⟨_, (show _ = _ from rfl)⟩
  rw [HH0.out] at HK1
  obtain ⟨s1, HS1⟩ : ∃ s1 : Eight, Hid (s1 = TT true H0 s 1) := ⟨_, (show _ = _ from rfl)⟩
  have HA : Hid (∀ v, Sm w2 v → Calls Tryd.prog 65 #[.pointer (some ⟨g, o + 2, none⟩), .slice (some ⟨g, o + 10, none⟩) 128 128] v fun e w' => e = .returned (.tuple #[]) ∧ Touch w2 w' g o 139 ∧ TK w' g o h true s1 H0 fed) := by
    intro v hsm
    have hs1 := HT1.out.size
    have hk' := HK1.out.sm hsm
    refine (take_any true g (o + 2) _ ((List.range 128).map H0) s v (by rw [hsm.heap]; omega) hk'.st (fun j hj => by have := hk'.there (2 + j) (by omega); rw [← Nat.add_assoc] at this; exact this) (view_half hk' 128 (by omega)) (fun _ _ _ _ e => by injection e with e1 e2 e3; injection e1 with e1; injection e1 with e4 e5; omega) (hsm.tables (hT.out.touch HT1.out hg)) hg).mono ?_
    rintro e w' ⟨rfl, ht', hr'⟩
    rw [show ((List.range 128).map H0).length / bsz true = 1 by simp [bsz], TT_congr true (B' := H0) s 1 (fun j hj => by simp [bsz] at hj; simp [List.getD, hj]), ← HS1.out] at hr'
    exact ⟨rfl, (hsm.touch g o 139).trans (ht'.mono o 139 (by omega) (by omega)), hk'.words ht' hr'⟩
  clear hcl fu ff HK0 HB0 c0 c138
  go_wp2
  go_region_held3 (fun v => v.cell? ⟨g, o + 1, none⟩ = some (.func (.func 65) #[] #[])) (first | go_keep | exact hk3.fn) ((go_at_call 65; refine (HA.out w2.drew (Sm.refl w2).drew).mono ?_; rintro e3 w3 ⟨rfl, ht3, hk3⟩))
  have hx3 := hk3.clear 0 128 (by omega)
  have hcl3 : ∀ ty, (Builtin.clear_ #[22] ty #[.slice (some ⟨g, o + 10, none⟩) 128 128]).run Tryd.prog w3 = .ok (.tuple #[]) (w3.setCells g (o + 10) (List.replicate 128 (.int .u8 0))) := fun ty => clear_eq _ ty g _ _ _ (fun j hj => by
    have := hk3.there (10 + j) (by omega)
    rw [← Nat.add_assoc] at this
    exact this)
  rw [Nat.add_zero] at hx3
  have HR2 : Hid ((w3.setCells g (o + 10) (List.replicate 128 (.int .u8 0))).there w.heap.size 0 64 ∧ w.heap.size < (w3.setCells g (o + 10) (List.replicate 128 (.int .u8 0))).heap.size) := ⟨World.there_setCells (ht3.thereFar HR1.out.1 HR1.out.2 (by omega)) g _ _, by rw [size_setCells]; exact Nat.lt_of_lt_of_le HR1.out.2 ht3.size⟩
  have HT2 : Hid (Touch w (w3.setCells g (o + 10) (List.replicate 128 (.int .u8 0))) g o 139) := (HT1.out.trans ht3).trans hx3.2
  have HK2 : Hid (TK (w3.setCells g (o + 10) (List.replicate 128 (.int .u8 0))) g o h true s1 (fun i => if 0 ≤ i ∧ i < 0 + 128 then 0 else H0 i) fed) := hx3.1
  clear hx3 ht3 hk3 HT1 HK1 HR1 HA c1'
  generalize w3.setCells g (o + 10) (List.replicate 128 (.int .u8 0)) = w4 at HT2 HK2 HR2 hcl3
  go_upto_region 8 with fail
  have HT1 := HT2; have HR1 := HR2
  have c138' : w4.cell? ⟨g, o + 138, none⟩ = some (.int .u64 fed) := HK2.out.fed
  obtain ⟨H1, HH1⟩ : ∃ H1 : Nat → Int, Hid ((fun i => if 0 ≤ i ∧ i < 0 + 128 then 0 else H0 i) = H1) := ⟨_, (show _ = _ from rfl)⟩
  rw [HH1.out] at HK2
  have HK1 := HK2
  obtain ⟨P, HPP⟩ : ∃ P : Nat → Int, Hid (P = fun i => padF 128 half fed (128 + i)) := ⟨_, (show _ = _ from rfl)⟩
  have hpn : padN 128 fed = 2 := by rw [padN, if_neg (by have := h0.out; have := hu1.out; omega)]
  have HP1 : Hid (∀ k, k < 128 - 8 → H1 k = P k) := by
    intro k hk
    have hu := hu1.out
    have h00 := h0.out
    rw [← HH1.out, HPP.out]
    simp only [padF, hpn, h00]
    rw [if_pos ⟨by omega, by omega⟩, if_neg (by omega), if_neg (by omega), if_pos (by omega)]
  have HPL : Hid (∀ k, 128 - 8 ≤ k → k < 128 → P k = ((fed : Int) * 8) / 2 ^ (8 * (128 - 1 - k)) % 256) := by
    intro k k1 hk
    have hu := hu1.out
    have h00 := h0.out
    rw [HPP.out]
    simp only [padF, hpn, h00]
    rw [if_neg (by omega), if_neg (by omega), if_neg (by omega), show 2 * 128 - 1 - (128 + k) = 128 - 1 - k by omega]
  have HE : Hid (TT true P s1 1 = TT true (padF 128 half fed) s (padN 128 fed)) := by
    show _ = _
    rw [HPP.out, HS1.out, hpn, show (2 : Nat) = 1 + 1 from rfl, TT_add true _ s 1 1, TT_congr true (B := H0) (B' := padF 128 half fed) s 1]
    · simp [bsz]
    · intro k hk
      have hk' : k < 128 := by simpa [bsz] using hk
      have hu := hu1.out
      have h00 := h0.out
      rw [← HH0.out]
      simp only [padF, hpn, h00]
      by_cases k2 : u1 ≤ k
      · rw [if_pos ⟨k2, by omega⟩, if_neg (by omega), if_neg (by omega), if_pos (by omega)]
      · rw [if_neg (by omega)]
        by_cases k3 : k = used
        · rw [if_pos k3, if_neg (by omega), if_pos k3]
        · rw [if_neg k3, if_pos (by omega)]
  clear hcl3 hpn HH1 HPP HS1 HT2 HK2 HR2 HH0
  go_wp2
  clear c138'
  go_loopw [62] (fun v wr => ∃ i : Nat, i ≤ 8 ∧ v = .int .i64 i ∧ Hid (Touch w wr g o 139) ∧ Hid (TK wr g o h true s1 (fun k => if 128 - i ≤ k ∧ k < 128 then ((fed : Int) * 8) / 2 ^ (8 * (128 - 1 - k)) % 256 else H1 k) fed) ∧ Hid (wr.there w.heap.size 0 64 ∧ w.heap.size < wr.heap.size)) (fun v _ => 8 - (intOf v).toNat)
  case atStart => exact ⟨0, by omega, rfl, HT1, HK1.out.fun_eq (fun i hi => by rw [if_neg (by omega)]), HR1⟩
  case round =>
    obtain ⟨i, hi, rfl, HT2, HK2, HR2⟩ := hrel
    clear HT1 HK1 HR1
    by_cases h8 : i < 8
    · obtain ⟨j, hj⟩ : ∃ j, j = 128 - 1 - i := ⟨_, rfl⟩
      have e2 : (127 : Int) - (i : Int) = (j : Int) := by omega
      have e3 : (8 * (i : Int)).toNat = 8 * i := by omega
      have e4 : min (8 * i) 64 = 8 * i := by omega
      have e5 : (0 : Int) ≤ 8 * (i : Int) := by omega
      have e6 : (j : Int) < 128 := by omega
      have HJ : Hid (j = 128 - 1 - i) := hj
      have fc := HK2.out.half j (by omega)
      have ff : wr.frozen? ⟨g, o + 10 + j, none⟩ = false := by
        have := (HK2.out.there (10 + j) (by omega)).2
        rw [← Nat.add_assoc] at this
        exact this
      clear hj
      go_wp2
      go_region
      go_wp2
      go_roundw
      case rel =>
        have hx := HK2.out.setByte j ((fed : Int) * 8 / 2 ^ (8 * i) % 256) (by omega)
        refine ⟨i + 1, by omega, by go_num, (HT2.out.trans hx.2).drew, (hx.1.sm (Sm.refl _).drew).fun_eq (fun k hk => ?_), ⟨World.there_setCells HR2.out.1 g _ [_], by simpa [World.setCell] using HR2.out.2⟩⟩
        have hj := HJ.out
        by_cases hkj : k = j
        · subst hkj
          rw [if_pos rfl, if_pos (by omega), show 128 - 1 - k = i by omega]
        · rw [if_neg hkj]
          by_cases hc : 128 - i ≤ k ∧ k < 128
          · rw [if_pos hc, if_pos (by omega)]
          · rw [if_neg hc, if_neg (by omega)]
      case measure => simp [intOf]; omega
    · obtain rfl : i = 8 := by omega
      have c1' : wr.cell? ⟨g, o + 1, none⟩ = some (.func (.func 65) #[] #[]) := HK2.out.fn
      obtain ⟨H2, HH2⟩ : ∃ H2 : Nat → Int, Hid ((fun k => if 128 - 8 ≤ k ∧ k < 128 then ((fed : Int) * 8) / 2 ^ (8 * (128 - 1 - k)) % 256 else H1 k) = H2) := ⟨_, (show _ = _ from rfl)⟩
      rw [HH2.out] at HK2
      have HP : Hid (∀ k, k < 128 → H2 k = P k) := by
        intro k hk
        rw [← HH2.out]
        dsimp only
        by_cases k1 : 128 - 8 ≤ k
        · rw [if_pos ⟨k1, hk⟩, HPL.out k k1 hk]
        · rw [if_neg (by omega), HP1.out k (by omega)]
      obtain ⟨s', HS'⟩ : ∃ s' : Eight, Hid (s' = TT true (padF 128 half fed) s (padN 128 fed)) := ⟨_, (show _ = _ from rfl)⟩
      have HA : Hid (∀ v, Sm wr v → Calls Tryd.prog 65 #[.pointer (some ⟨g, o + 2, none⟩), .slice (some ⟨g, o + 10, none⟩) 128 128] v fun e w' => e = .returned (.tuple #[]) ∧ Touch wr w' g o 139 ∧ TK w' g o h true s' H2 fed) := by
        intro v hsm
        have hs1 := HT2.out.size
        have hk' := HK2.out.sm hsm
        refine (take_any true g (o + 2) _ ((List.range 128).map H2) s1 v (by rw [hsm.heap]; omega) hk'.st (fun j hj => by have := hk'.there (2 + j) (by omega); rw [← Nat.add_assoc] at this; exact this) (view_half hk' 128 (by omega)) (fun _ _ _ _ e => by injection e with e1 e2 e3; injection e1 with e1; injection e1 with e4 e5; omega) (hsm.tables (hT.out.touch HT2.out hg)) hg).mono ?_
        rintro e w' ⟨rfl, ht', hr'⟩
        rw [show ((List.range 128).map H2).length / bsz true = 1 by simp [bsz], TT_congr true (B' := P) s1 1 (fun j hj => by simp [bsz] at hj; simp [List.getD, hj]; exact HP.out j (by omega)), HE.out, ← HS'.out] at hr'
        exact ⟨rfl, (hsm.touch g o 139).trans (ht'.mono o 139 (by omega) (by omega)), hk'.words ht' hr'⟩
      clear HH2 h8 HP HPL HP1 HE
      go_wp2
      go_region_held3 (fun v => v.cell? ⟨g, o + 1, none⟩ = some (.func (.func 65) #[] #[])) (first | go_keep | exact hk3.fn) ((go_at_call 65; refine (HA.out wr.drew (Sm.refl wr).drew).mono ?_; rintro e3 w3 ⟨rfl, ht3, hk3⟩))
      have HT3 : Hid (Touch w w3 g o 139) := HT2.out.trans ht3
      have HR3 : Hid (w3.there w.heap.size 0 64 ∧ w.heap.size < w3.heap.size) := ⟨ht3.thereFar HR2.out.1 HR2.out.2 (by omega), Nat.lt_of_lt_of_le HR2.out.2 ht3.size⟩
      have HK3 : Hid (TK w3 g o h true s' H2 fed) := hk3
      clear ht3 hk3 HA c1' HT2 HR2 HK2
      go_wp2_with (first | (go_at_call 86; refine (spell128 g o h s' H2 fed _ hblk HK3).mono ?_))
      rintro e4 w4 ⟨rfl, hb4⟩
      have hs3 := HT3.out.size
      have HT4 : Hid (Touch w w4 g o 139) := HT3.out.below hb4 hgw
      have HK4 : Hid (TK w4 g o h true s' H2 fed) := HK3.out.below hb4
      have HR4 : Hid (w4.there w.heap.size 0 64) := fun j hj => by rw [hb4.cell (p := ⟨w.heap.size, 0 + j, none⟩) HR3.out.2, hb4.frozen (p := ⟨w.heap.size, 0 + j, none⟩) HR3.out.2]; exact HR3.out.1 j hj
      have HY : Hid (w4.there w.heap.size 0 (spellCells 8 s').toArray.size) := by rw [spellArr_size]; exact HR4.out
      have HZ : Hid ((Tryd.prog.info? 72).map (·.size) = some (spellCells 8 s').toArray.size) := by rw [spellArr_size]; exact size75
      clear HT3 HK3 HR3 hb4
      go_wp2_with (first
        | (refine wpList_store_mid (by rfl) 72 (.tmp 2) (.tmp 93) (by rfl) w.heap.size 0 (spellCells 8 s').toArray (by rfl) (by rfl) HY.out HZ.out (spellCells_one 8 s') ?_)
        | fail)
      have hl := run_loadVar_mid (P := Tryd.prog) (w4.setCells w.heap.size 0 (spellCells 8 s')) w.heap.size 0 72 (spellCells 8 s') _ (World.rangeAt_setCells_same w4 w.heap.size 0 (spellCells 8 s') (by rw [spellCells_length]; exact HR4.out)) Tryd.underlying72 rfl (by rw [spellCells_length]; exact size75)
      have hn := touch_new HT4.out (Nat.le_refl _) (spellCells 8 s') 0 hgw
      have hs' := HS'.out
      refine bodyPost_ret (v := .agg (spellCells 8 s').toArray) ?_ rfl ⟨by rw [hs'], hn, H2, by rw [← hs']; exact HK4.out.newer (by omega) _ _⟩
      rw [results_cell1 Tryd.results75]
      simp [Act.put, asAddr, hl]
end Go.Proofs.YtioggmjocelolacDoor
