import Derived.Test.YtcnikfikpnnblaaGreatDoorPart38
namespace Go.Proofs.YtcnikfikpnnblaaGreatDoor
open Go.RowKit
set_option linter.unusedVariables false
set_option linter.unusedSimpArgs false
/-- Blocks from B on stay. -/
structure Kp (B : Nat) (u v : World) : Prop where
  os : v.os = u.os
  tape : v.tape = u.tape
  output : v.output = u.output
  size : u.heap.size ≤ v.heap.size
  block : ∀ c, B ≤ c → c < u.heap.size → v.heap[c]? = u.heap[c]?
theorem Kp.of_gb {B g : Nat} {u v : World} (h : u.grownBy v (some g)) (hg : g < B) : Kp B u v := ⟨h.os, h.tape, h.output, h.size, fun c hc hl => h.block c hl (fun e => by injection e with e; omega)⟩
/-- What a block's function keeps hangs on blocks below B alone. -/
def LowJ (B : Nat) (J : Nat → World → Prop) : Prop := ∀ k u u', J k u → B ≤ u.heap.size → (∀ c, c < B → u'.heap[c]? = u.heap[c]?) → u.heap.size ≤ u'.heap.size → J k u'
/-- blockwise between two rounds. -/
structure BwI (J : Nat → World → Prop) (F : Nat → BitVec 128) (n : Nat) (w wr : World) (k : Nat) : Prop where
  row : Bx wr w.heap.size 5 (bkR F n k)
  inv : J k wr
  os : wr.os = w.os
  tape : wr.tape = w.tape
  output : wr.output = w.output
  size : w.heap.size ≤ wr.heap.size
theorem BwI.below {J : Nat → World → Prop} {F : Nat → BitVec 128} {n : Nat} {w wr u : World} {k : Nat} (h : BwI J F n w wr k) (hJ : LowJ w.heap.size J) (hb : Below wr.heap.size wr u) : BwI J F n w u k :=
  ⟨h.row.below hb, hJ k wr u h.inv h.size (fun c hc => hb.block c (Nat.lt_of_lt_of_le hc h.size)) hb.size, hb.os.trans h.os, hb.tape.trans h.tape, hb.output.trans h.output, Nat.le_trans h.size hb.size⟩
/-- Behind the block's function: the row is as it was. -/
structure BwM (J : Nat → World → Prop) (F : Nat → BitVec 128) (n : Nat) (w wr : World) (k : Nat) : Prop where
  row : Bx wr w.heap.size 5 (bkR F n k)
  inv : J (k + 1) wr
  os : wr.os = w.os
  tape : wr.tape = w.tape
  output : wr.output = w.output
  size : w.heap.size ≤ wr.heap.size
theorem BwI.does {J : Nat → World → Prop} {F : Nat → BitVec 128} {n : Nat} {w wr u : World} {k : Nat} (h : BwI J F n w wr k) (h1 : J (k + 1) u) (hb : Kp w.heap.size wr u) : BwM J F n w u k :=
  ⟨h.row.keep (hb.block _ (Nat.le_refl _) h.row.lt), h1, hb.os.trans h.os, hb.tape.trans h.tape, hb.output.trans h.output, Nat.le_trans h.size hb.size⟩
theorem BwM.lay {J : Nat → World → Prop} {F : Nat → BitVec 128} {n : Nat} {w wr u : World} {k : Nat} (h : BwM J F n w wr k) (hJ : LowJ w.heap.size J) (hk : 16 * k + 16 ≤ n) (h1 : Bx u w.heap.size 5 (splice (bkR F n k) (16 * k) (Fd.BL (F k)))) (hb : wr.grownBy u (some w.heap.size)) : BwI J F n w u (k + 1) := by
  rw [bkR_step F n k hk] at h1
  exact ⟨h1, hJ (k + 1) wr u h.inv h.size (fun c hc => hb.block c (Nat.lt_of_lt_of_le hc h.size) (fun e => by injection e with e; omega)) hb.size, hb.os.trans h.os, hb.tape.trans h.tape, hb.output.trans h.output, Nat.le_trans h.size hb.size⟩
theorem small_i4 (j k : Nat) (h : j < k) (hk : k ≤ 256) : wrap64 ((j : Int) + 1) = ((j + 1 : Nat) : Int) ∧ IntKind.i64.wrap ((j : Int) + 1) = ((j + 1 : Nat) : Int) ∧ (j : Int) < (k : Int) := by
  refine ⟨?_, ?_, by omega⟩
  · unfold wrap64; omega
  · rw [IntKind.wrap_i64]; omega
theorem made_few4 (i n b : Nat) (hb : b ≤ 64) (h : i = b) (hn : n ≤ 4096) : i * n ≤ 281474976710656 ∧ n ≤ maxLen := by
  have : b * n ≤ 64 * 4096 := Nat.mul_le_mul hb hn
  subst h
  refine ⟨by omega, by unfold maxLen; omega⟩
set_option maxHeartbeats 1600000 in
set_option maxRecDepth 100000 in
/-- blockwise, with any function of a block's number and the block, that has 1 box(es). -/
theorem blockwise1 (fn p : Nat) (hE : ∀ args u, (callFunc fn args).run Tryz.prog u = .ok (.enter fn args) u) (J : Nat → World → Prop) (F : Nat → BitVec 128) (b off c k : Nat) (zs : List Int) (w : World) (hJ : LowJ w.heap.size J) (h0 : J 0 w) (hl1 : 16 * k ≤ zs.length) (hl2 : zs.length < 16 * k + 16) (hl3 : zs.length ≤ 4096) (hc1 : zs.length ≤ c) (hb : AllBytes zs)
    (hz : ∀ j u, J j u → ∀ i, i < zs.length → u.cell? ⟨b, off + i, none⟩ = some (.int .u8 (zs.getD i 0)))
    (HD : ∀ j u, j < k → J j u → w.heap.size ≤ u.heap.size → Calls Tryz.prog fn #[.int .i64 (j : Nat), Fd.BV (cutV zs j), .pointer (some ⟨p, 0, none⟩)] u fun e w' => Hid (e = .returned (Fd.BV (F j)) ∧ J (j + 1) w' ∧ Kp w.heap.size u w')) :
    Calls Tryz.prog 193 #[.slice (some ⟨b, off, none⟩) zs.length c, .func (.func fn) #[] #[.pointer (some ⟨p, 0, none⟩)]] w fun e w' => Hid (e = .returned (.slice (some ⟨w.heap.size, 0, none⟩) zs.length zs.length) ∧ BwI J F zs.length w w' k) := by
  obtain ⟨n, HNL⟩ : ∃ n, Hid (zs.length = n) := ⟨_, rfl⟩
  have HJ0 : Hid (LowJ w.heap.size J ∧ J 0 w) := ⟨hJ, h0⟩
  have HC : Hid (∀ u j, j < k → BwI J F n w u j → Calls Tryz.prog 154 #[.slice (some ⟨b, off, none⟩) n c, .int .i64 (j : Nat)] u fun e w' => Hid (e = .returned (Fd.BV (cutV zs j)) ∧ Below u.heap.size u w')) := fun u j hj hu => by
    have q := cut_ok b off c j zs u (by omega) hc1 (by omega) hb (fun i hi => hz j u hu.inv i hi)
    rw [HNL.out] at q; exact q
  have HK : Hid (∀ u j, j < k → BwI J F n w u j → Calls Tryz.prog fn #[.int .i64 (j : Nat), Fd.BV (cutV zs j), .pointer (some ⟨p, 0, none⟩)] u fun e w' => Hid (e = .returned (Fd.BV (F j)) ∧ J (j + 1) w' ∧ Kp w.heap.size u w')) := fun u j hj hu => HD j u hj hu.inv hu.size
  have HLY : Hid (∀ u j, j < k → BwM J F n w u j → Calls Tryz.prog 219 #[.slice (some ⟨w.heap.size, 0, none⟩) n n, .int .i64 (j : Nat), Fd.BV (F j)] u fun e w' => Hid (e = .returned (.tuple #[]) ∧ BwI J F n w w' (j + 1))) := fun u j hj hu => by
    have hle : 16 * j + 16 ≤ n := by rw [← HNL.out]; omega
    refine (lay_ok w.heap.size n n j (F j) (bkR F n j) u hle (Nat.le_refl _) (by rw [← HNL.out]; omega) (by rw [bkR_len F n j (by omega)]; omega) hu.row).mono ?_
    intro e w' hh
    obtain ⟨rfl, h1, h2⟩ := hh.out
    exact ⟨rfl, hu.lay HJ0.out.1 hle h1 h2⟩
  have HN : Hid (16 * k ≤ n ∧ n < 16 * k + 16 ∧ n ≤ 4096) := by rw [← HNL.out]; exact ⟨hl1, hl2, hl3⟩
  rw [HNL.out]
  obtain ⟨i0, hi0, hz0, hz1, hz2⟩ := info_parts Tryz.info5
  have HI0 : Hid (Tryz.prog.info? 5 = some i0 ∧ i0.zero = some (.int .u8 0) ∧ i0.size = 1 ∧ i0.bytes = 1) := ⟨hi0, hz0, hz1, hz2⟩
  have q1 : (n : Int).tdiv 16 = (k : Int) := by rw [Int.tdiv_eq_ediv_of_nonneg (by omega)]; have := HN.out; omega
  have q3 : IntKind.i64.wrap (k : Int) = (k : Int) := by rw [IntKind.wrap_i64]; have := HN.out; omega
  have q4 : (n : Int) / 16 = (k : Int) := by have := HN.out; omega
  have HK64 : Hid (k ≤ 256) := (by have := HN.out; omega : k ≤ 256)
  have HMF : Hid (i0.bytes * n ≤ 281474976710656 ∧ n ≤ maxLen) := made_few4 i0.bytes n 1 (by decide) HI0.out.2.2.2 (by have := HN.out; omega)
  clear hl1 hl2 hl3 hc1 hb hz hi0 hz0 hz1 hz2 hJ h0 HD
  go_enter Tryz.func193, Tryz.ntmps193
  go_upto_region 2 with (first
    | (at_make; go_must (refine wpList_make_full _ rfl _ _ 24 rfl w.heap.size 5 i0 (.int .u8 0) 1 Tryz.underlying24 HI0.out.1 HI0.out.2.1 HI0.out.2.2.1 .i64 .i64 (n : Nat) (n : Nat) n rfl rfl rfl rfl HMF.out.1 HMF.out.2 (Nat.le_refl _) ?_; intro w1 hown hgrow; have HW1 : Hid (BwI J F n w w1 0) := ⟨by rw [bkR_zero]; have z := own_full hown; rw [show (Value.int .u8 0).cells = #[.int .u8 0] from rfl, toList_madeCells_one, Nat.mul_one] at z; exact z, HJ0.out.1 0 w w1 HJ0.out.2 (Nat.le_refl _) (fun c hc => hgrow.block c hc (by simp)) hgrow.size, hgrow.os, hgrow.tape, hgrow.output, hgrow.size⟩; clear hown hgrow)))
  go_upto_region 3 with fail
  go_loopw [13] (fun v wr => ∃ j : Nat, j ≤ k ∧ v = .int .i64 (j : Nat) ∧ Hid (BwI J F n w wr j)) (fun v _ => k - (intOf v).toNat)
  case atStart => exact ⟨0, Nat.zero_le _, rfl, HW1⟩
  case round =>
   as_aux_lemma =>
    obtain ⟨j, hj, rfl, HI⟩ := hrel
    by_cases hlt : j < k
    · have HJ : Hid (j < k) := hlt
      obtain ⟨ej, ej2, g1⟩ := small_i4 j k hlt HK64.out
      go_wp2_with (first
        | (go_at_call 154; refine (HC.out _ _ HJ.out HI.out).mono ?_; intro e2 w2 hh; obtain ⟨rfl, hb2⟩ := hh.out; have HI2 : Hid (BwI J F n w w2 j) := HI.out.below HJ0.out.1 hb2; clear hh hb2)
        | (go_at_call 219; refine (HLY.out _ _ HJ.out HI3.out).mono ?_; intro e4 w4 hh; obtain ⟨rfl, hi4⟩ := hh.out; have HI4 : Hid (BwI J F n w w4 (j + 1)) := hi4; clear hh hi4)
        | (refine (HK.out _ _ HJ.out HI2.out).mono ?_; intro e3 w3 hh; obtain ⟨rfl, hm3, hg3⟩ := hh.out; have HI3 : Hid (BwM J F n w w3 j) := HI2.out.does hm3 hg3; clear hh hm3 hg3))
      exact ⟨⟨j + 1, HJ.out, by first | rfl | simp, HI4⟩, by first | exact meas_i j k HJ.out | (simpa using meas_i j k HJ.out)⟩
    · have g1 : ¬ (j : Int) < (k : Int) := by omega
      have HE : Hid (BwI J F n w wr k) := by
        have p := HI.out
        rw [show j = k by omega] at p
        exact p
      clear HI
      go_wp2
      go_ret
      exact ⟨rfl, HE.out⟩
set_option maxHeartbeats 1600000 in
set_option maxRecDepth 100000 in
/-- blockwise, with any function of a block's number and the block, that has 2 box(es). -/
theorem blockwise2 (fn p q : Nat) (hE : ∀ args u, (callFunc fn args).run Tryz.prog u = .ok (.enter fn args) u) (J : Nat → World → Prop) (F : Nat → BitVec 128) (b off c k : Nat) (zs : List Int) (w : World) (hJ : LowJ w.heap.size J) (h0 : J 0 w) (hl1 : 16 * k ≤ zs.length) (hl2 : zs.length < 16 * k + 16) (hl3 : zs.length ≤ 4096) (hc1 : zs.length ≤ c) (hb : AllBytes zs)
    (hz : ∀ j u, J j u → ∀ i, i < zs.length → u.cell? ⟨b, off + i, none⟩ = some (.int .u8 (zs.getD i 0)))
    (HD : ∀ j u, j < k → J j u → w.heap.size ≤ u.heap.size → Calls Tryz.prog fn #[.int .i64 (j : Nat), Fd.BV (cutV zs j), .pointer (some ⟨p, 0, none⟩), .pointer (some ⟨q, 0, none⟩)] u fun e w' => Hid (e = .returned (Fd.BV (F j)) ∧ J (j + 1) w' ∧ Kp w.heap.size u w')) :
    Calls Tryz.prog 193 #[.slice (some ⟨b, off, none⟩) zs.length c, .func (.func fn) #[] #[.pointer (some ⟨p, 0, none⟩), .pointer (some ⟨q, 0, none⟩)]] w fun e w' => Hid (e = .returned (.slice (some ⟨w.heap.size, 0, none⟩) zs.length zs.length) ∧ BwI J F zs.length w w' k) := by
  obtain ⟨n, HNL⟩ : ∃ n, Hid (zs.length = n) := ⟨_, rfl⟩
  have HJ0 : Hid (LowJ w.heap.size J ∧ J 0 w) := ⟨hJ, h0⟩
  have HC : Hid (∀ u j, j < k → BwI J F n w u j → Calls Tryz.prog 154 #[.slice (some ⟨b, off, none⟩) n c, .int .i64 (j : Nat)] u fun e w' => Hid (e = .returned (Fd.BV (cutV zs j)) ∧ Below u.heap.size u w')) := fun u j hj hu => by
    have q := cut_ok b off c j zs u (by omega) hc1 (by omega) hb (fun i hi => hz j u hu.inv i hi)
    rw [HNL.out] at q; exact q
  have HK : Hid (∀ u j, j < k → BwI J F n w u j → Calls Tryz.prog fn #[.int .i64 (j : Nat), Fd.BV (cutV zs j), .pointer (some ⟨p, 0, none⟩), .pointer (some ⟨q, 0, none⟩)] u fun e w' => Hid (e = .returned (Fd.BV (F j)) ∧ J (j + 1) w' ∧ Kp w.heap.size u w')) := fun u j hj hu => HD j u hj hu.inv hu.size
  have HLY : Hid (∀ u j, j < k → BwM J F n w u j → Calls Tryz.prog 219 #[.slice (some ⟨w.heap.size, 0, none⟩) n n, .int .i64 (j : Nat), Fd.BV (F j)] u fun e w' => Hid (e = .returned (.tuple #[]) ∧ BwI J F n w w' (j + 1))) := fun u j hj hu => by
    have hle : 16 * j + 16 ≤ n := by rw [← HNL.out]; omega
    refine (lay_ok w.heap.size n n j (F j) (bkR F n j) u hle (Nat.le_refl _) (by rw [← HNL.out]; omega) (by rw [bkR_len F n j (by omega)]; omega) hu.row).mono ?_
    intro e w' hh
    obtain ⟨rfl, h1, h2⟩ := hh.out
    exact ⟨rfl, hu.lay HJ0.out.1 hle h1 h2⟩
  have HN : Hid (16 * k ≤ n ∧ n < 16 * k + 16 ∧ n ≤ 4096) := by rw [← HNL.out]; exact ⟨hl1, hl2, hl3⟩
  rw [HNL.out]
  obtain ⟨i0, hi0, hz0, hz1, hz2⟩ := info_parts Tryz.info5
  have HI0 : Hid (Tryz.prog.info? 5 = some i0 ∧ i0.zero = some (.int .u8 0) ∧ i0.size = 1 ∧ i0.bytes = 1) := ⟨hi0, hz0, hz1, hz2⟩
  have q1 : (n : Int).tdiv 16 = (k : Int) := by rw [Int.tdiv_eq_ediv_of_nonneg (by omega)]; have := HN.out; omega
  have q3 : IntKind.i64.wrap (k : Int) = (k : Int) := by rw [IntKind.wrap_i64]; have := HN.out; omega
  have q4 : (n : Int) / 16 = (k : Int) := by have := HN.out; omega
  have HK64 : Hid (k ≤ 256) := (by have := HN.out; omega : k ≤ 256)
  have HMF : Hid (i0.bytes * n ≤ 281474976710656 ∧ n ≤ maxLen) := made_few4 i0.bytes n 1 (by decide) HI0.out.2.2.2 (by have := HN.out; omega)
  clear hl1 hl2 hl3 hc1 hb hz hi0 hz0 hz1 hz2 hJ h0 HD
  go_enter Tryz.func193, Tryz.ntmps193
  go_upto_region 2 with (first
    | (at_make; go_must (refine wpList_make_full _ rfl _ _ 24 rfl w.heap.size 5 i0 (.int .u8 0) 1 Tryz.underlying24 HI0.out.1 HI0.out.2.1 HI0.out.2.2.1 .i64 .i64 (n : Nat) (n : Nat) n rfl rfl rfl rfl HMF.out.1 HMF.out.2 (Nat.le_refl _) ?_; intro w1 hown hgrow; have HW1 : Hid (BwI J F n w w1 0) := ⟨by rw [bkR_zero]; have z := own_full hown; rw [show (Value.int .u8 0).cells = #[.int .u8 0] from rfl, toList_madeCells_one, Nat.mul_one] at z; exact z, HJ0.out.1 0 w w1 HJ0.out.2 (Nat.le_refl _) (fun c hc => hgrow.block c hc (by simp)) hgrow.size, hgrow.os, hgrow.tape, hgrow.output, hgrow.size⟩; clear hown hgrow)))
  go_upto_region 3 with fail
  go_loopw [13] (fun v wr => ∃ j : Nat, j ≤ k ∧ v = .int .i64 (j : Nat) ∧ Hid (BwI J F n w wr j)) (fun v _ => k - (intOf v).toNat)
  case atStart => exact ⟨0, Nat.zero_le _, rfl, HW1⟩
  case round =>
   as_aux_lemma =>
    obtain ⟨j, hj, rfl, HI⟩ := hrel
    by_cases hlt : j < k
    · have HJ : Hid (j < k) := hlt
      obtain ⟨ej, ej2, g1⟩ := small_i4 j k hlt HK64.out
      go_wp2_with (first
        | (go_at_call 154; refine (HC.out _ _ HJ.out HI.out).mono ?_; intro e2 w2 hh; obtain ⟨rfl, hb2⟩ := hh.out; have HI2 : Hid (BwI J F n w w2 j) := HI.out.below HJ0.out.1 hb2; clear hh hb2)
        | (go_at_call 219; refine (HLY.out _ _ HJ.out HI3.out).mono ?_; intro e4 w4 hh; obtain ⟨rfl, hi4⟩ := hh.out; have HI4 : Hid (BwI J F n w w4 (j + 1)) := hi4; clear hh hi4)
        | (refine (HK.out _ _ HJ.out HI2.out).mono ?_; intro e3 w3 hh; obtain ⟨rfl, hm3, hg3⟩ := hh.out; have HI3 : Hid (BwM J F n w w3 j) := HI2.out.does hm3 hg3; clear hh hm3 hg3))
      exact ⟨⟨j + 1, HJ.out, by first | rfl | simp, HI4⟩, by first | exact meas_i j k HJ.out | (simpa using meas_i j k HJ.out)⟩
    · have g1 : ¬ (j : Int) < (k : Int) := by omega
      have HE : Hid (BwI J F n w wr k) := by
        have p := HI.out
        rw [show j = k by omega] at p
        exact p
      clear HI
      go_wp2
      go_ret
      exact ⟨rfl, HE.out⟩
end Go.Proofs.YtcnikfikpnnblaaGreatDoor
