import Derived.Test.YtcnikfikpnnblaaGreatDoorMsk
import Derived.OwnWalk
namespace Go.Proofs.YtcnikfikpnnblaaGreatDoor
open Go.RowKit
set_option linter.unusedVariables false
set_option linter.unusedSimpArgs false
/-- Blocks one behind the other. -/
def bkL (F : Nat → BitVec 128) (k : Nat) : List Value := (List.range k).flatMap fun j => Fd.BL (F j)
theorem bkL_succ (F : Nat → BitVec 128) (k : Nat) : bkL F (k + 1) = bkL F k ++ Fd.BL (F k) := by simp [bkL, List.range_succ]
theorem bkL_len (F : Nat → BitVec 128) (k : Nat) : (bkL F k).length = 16 * k := by
  induction k with
  | zero => rfl
  | succ k ih => rw [bkL_succ, List.length_append, ih, Fd.BL_length]; omega
theorem bkL_at (F : Nat → BitVec 128) (k j i : Nat) (hj : j < k) (hi : i < 16) : (bkL F k)[16 * j + i]? = some (.int .u8 (Fd.byV (F j) i : Nat)) := by
  induction k with
  | zero => omega
  | succ k ih =>
    rw [bkL_succ]
    by_cases h : j < k
    · rw [List.getElem?_append_left (by rw [bkL_len]; omega)]; exact ih h
    · obtain rfl : j = k := by omega
      rw [List.getElem?_append_right (by rw [bkL_len]; omega), bkL_len, show 16 * j + i - 16 * j = i by omega, Fd.BL_at _ i hi]
/-- The row between two rounds. -/
def bkR (F : Nat → BitVec 128) (n k : Nat) : List Value := bkL F k ++ List.replicate (n - 16 * k) (.int .u8 0)
theorem bkR_len (F : Nat → BitVec 128) (n k : Nat) (h : 16 * k ≤ n) : (bkR F n k).length = n := by
  rw [bkR, List.length_append, bkL_len, List.length_replicate]; omega
theorem bkR_step (F : Nat → BitVec 128) (n k : Nat) (h : 16 * k + 16 ≤ n) : splice (bkR F n k) (16 * k) (Fd.BL (F k)) = bkR F n (k + 1) := by
  have e1 : (bkR F n k).take (16 * k) = bkL F k := by rw [bkR, List.take_append_of_le_length (by rw [bkL_len]; omega), List.take_of_length_le (by rw [bkL_len]; omega)]
  have e2 : (bkR F n k).drop (16 * k + 16) = List.replicate (n - 16 * (k + 1)) (.int .u8 0) := by
    rw [bkR, List.drop_append, bkL_len, List.drop_of_length_le (by rw [bkL_len]; omega), List.drop_replicate, List.nil_append, show n - 16 * k - (16 * k + 16 - 16 * k) = n - 16 * (k + 1) by omega]
  simp only [splice, Fd.BL_length]
  rw [e1, e2, bkR, bkL_succ]
  simp
theorem bkR_zero (F : Nat → BitVec 128) (n : Nat) : bkR F n 0 = List.replicate n (.int .u8 0) := by simp [bkR, bkL]
theorem bkR_end (F : Nat → BitVec 128) (n k : Nat) (h : n = 16 * k) : bkR F n k = bkL F k := by simp [bkR, h]
theorem own_full {w : World} {base n g : Nat} {e : TypeId} {xs : List Value} (h : w.ownsRow base e 1 (.slice (some ⟨g, 0, none⟩) n n) n xs) : Bx w g e xs := by
  obtain ⟨h1, h2⟩ := h
  rcases h2 with ⟨q, _⟩ | ⟨g', cap, cur, q, _, hh, _, _, hs, ht⟩
  · cases q
  · injection q with q1 q2 q3
    injection q1 with q1
    injection q1 with q1
    subst q1 q3
    have : xs.toArray = cur := by
      rw [← ht, List.take_of_length_le (by simp; omega)]
    unfold Bx; rw [hh, this]
theorem small_i (j k : Nat) (h : j < k) (hk : k ≤ 64) : wrap64 ((j : Int) + 1) = ((j + 1 : Nat) : Int) ∧ IntKind.i64.wrap ((j : Int) + 1) = ((j + 1 : Nat) : Int) ∧ (j : Int) < (k : Int) := by
  refine ⟨?_, ?_, by omega⟩
  · unfold wrap64; omega
  · rw [IntKind.wrap_i64]; omega
theorem made_few (i n k b : Nat) (hb : b ≤ 64) (h : i = b) (hn : n ≤ 1024) : i * n ≤ 281474976710656 ∧ n ≤ maxLen := by
  have : b * n ≤ 64 * 1024 := Nat.mul_le_mul hb hn
  subst h
  refine ⟨by omega, by unfold maxLen; omega⟩
theorem meas_i (j k : Nat) (h : j < k) : k - (intOf (.int .i64 ((j + 1 : Nat) : Int))).toNat < k - (intOf (.int .i64 ((j : Nat) : Int))).toNat := by
  simp [intOf]; omega
/-- blockwise between two rounds: k blocks are done. -/
structure BkI (g nr : Nat) (K : Nat → Nat) (sh p q r o nn cc : Nat) (f : Nat → BitVec 128) (F : Nat → BitVec 128) (n : Nat) (w wr : World) (k : Nat) : Prop where
  row : Bx wr w.heap.size 5 (bkR F n k)
  mw : MkW g nr K sh p q r o nn cc f wr
  gb : w.grownBy wr (some g)
theorem BkI.cell {g nr : Nat} {K : Nat → Nat} {sh p q r o nn cc : Nat} {f F : Nat → BitVec 128} {n : Nat} {w wr : World} {k : Nat} (h : BkI g nr K sh p q r o nn cc f F n w wr k) {b i : Nat} {x : Value} (hb : b ≠ g) (hx : w.cell? ⟨b, i, none⟩ = some x) : wr.cell? ⟨b, i, none⟩ = some x := by
  rw [World.cell?_of_block (a := ⟨b, i, none⟩) (h.gb.block b (World.block_lt_of_cell? w _ hx) (fun e => hb (by injection e)))]; exact hx
theorem BkI.below {g nr : Nat} {K : Nat → Nat} {sh p q r o nn cc : Nat} {f F : Nat → BitVec 128} {n : Nat} {w wr u : World} {k : Nat} (h : BkI g nr K sh p q r o nn cc f F n w wr k) (hb : Below wr.heap.size wr u) : BkI g nr K sh p q r o nn cc f F n w u k :=
  ⟨h.row.below hb, h.mw.below hb, ⟨hb.os.trans h.gb.os, hb.tape.trans h.gb.tape, hb.output.trans h.gb.output, Nat.le_trans h.gb.size hb.size, fun c hc hn => (hb.block c (Nat.lt_of_lt_of_le hc h.gb.size)).trans (h.gb.block c hc hn)⟩⟩
theorem BkI.mask {g nr : Nat} {K : Nat → Nat} {sh p q r o nn cc : Nat} {f F : Nat → BitVec 128} {n : Nat} {w wr u : World} {k : Nat} (h : BkI g nr K sh p q r o nn cc f F n w wr k) (hg : g < w.heap.size) (hm : MkW g nr K sh p q r o nn cc f u) (hb : wr.grownBy u (some g)) : BkI g nr K sh p q r o nn cc f F n w u k :=
  ⟨h.row.keep (hb.block _ h.row.lt (fun e => by injection e with e; omega)), hm, gb_trans h.gb hb⟩
theorem BkI.lay {g nr : Nat} {K : Nat → Nat} {sh p q r o nn cc : Nat} {f F : Nat → BitVec 128} {n : Nat} {w wr u : World} {k : Nat} (h : BkI g nr K sh p q r o nn cc f F n w wr k) (hg : g < w.heap.size) (hk : 16 * k + 16 ≤ n) (h1 : Bx u w.heap.size 5 (splice (bkR F n k) (16 * k) (Fd.BL (F k)))) (hb : wr.grownBy u (some w.heap.size)) (hM : MkW g nr K sh p q r o nn cc f w) : BkI g nr K sh p q r o nn cc f F n w u (k + 1) := by
  have e : ∀ c, c < w.heap.size → u.heap[c]? = wr.heap[c]? := fun c hc => hb.block c (Nat.lt_of_lt_of_le hc h.gb.size) (fun e => by injection e with e; omega)
  have hG : w.grownBy u (some g) := ⟨hb.os.trans h.gb.os, hb.tape.trans h.gb.tape, hb.output.trans h.gb.output, Nat.le_trans h.gb.size hb.size, fun c hc hn => (e c hc).trans (h.gb.block c hc hn)⟩
  rw [bkR_step F n k hk] at h1
  exact ⟨h1, hM.grown hG (h.mw.key.sameK (e g hg) hb.size), hG⟩
set_option maxHeartbeats 1600000 in
set_option maxRecDepth 100000 in
/-- blockwise, with masked's function. -/
theorem blockwise_ok (g nr : Nat) (K : Nat → Nat) (sh p q r o nn cc : Nat) (f : Nat → BitVec 128) (b off c k : Nat) (zs : List Int) (w : World) (h : MkW g nr K sh p q r o nn cc f w) (hnc : nn ≤ cc) (hl : zs.length = 16 * k) (hkn : k ≤ nn) (hk : k ≤ 64) (hc1 : zs.length ≤ c) (hb : AllBytes zs) (hbg : b ≠ g)
    (hz : ∀ i, i < zs.length → w.cell? ⟨b, off + i, none⟩ = some (.int .u8 (zs.getD i 0))) :
    Calls Tryz.prog 193 #[.slice (some ⟨b, off, none⟩) zs.length c, .func (.func 244) #[] #[.pointer (some ⟨p, 0, none⟩), .pointer (some ⟨q, 0, none⟩)]] w fun e w' => Hid (e = .returned (.slice (some ⟨w.heap.size, 0, none⟩) zs.length zs.length) ∧ Bx w' w.heap.size 5 (bkL (fun j => encV nr K (cutV zs j ^^^ f j) ^^^ f j) k) ∧ MkW g nr K sh p q r o nn cc f w' ∧ w.grownBy w' (some g)) := by
  obtain ⟨F, HF⟩ : ∃ F : Nat → BitVec 128, Hid (F = fun j => encV nr K (cutV zs j ^^^ f j) ^^^ f j) := ⟨_, rfl⟩
  obtain ⟨n, HNL⟩ : ∃ n, Hid (zs.length = n) := ⟨_, rfl⟩
  have HG : Hid (g < w.heap.size) := h.key.ciph.here
  have HM0 : Hid (MkW g nr K sh p q r o nn cc f w) := h
  have HC : Hid (∀ u j, j < k → BkI g nr K sh p q r o nn cc f F n w u j → Calls Tryz.prog 154 #[.slice (some ⟨b, off, none⟩) n c, .int .i64 (j : Nat)] u fun e w' => Hid (e = .returned (Fd.BV (cutV zs j)) ∧ Below u.heap.size u w')) := fun u j hj hu => by
    have q := cut_ok b off c j zs u (by omega) hc1 (by omega) hb (fun i hi => hu.cell hbg (hz i hi))
    rw [HNL.out] at q; exact q
  have HK : Hid (∀ u j, j < k → BkI g nr K sh p q r o nn cc f F n w u j → Calls Tryz.prog 244 #[.int .i64 (j : Nat), Fd.BV (cutV zs j), .pointer (some ⟨p, 0, none⟩), .pointer (some ⟨q, 0, none⟩)] u fun e w' => Hid (e = .returned (Fd.BV (F j)) ∧ MkW g nr K sh p q r o nn cc f w' ∧ u.grownBy w' (some g))) := fun u j hj hu => by
    rw [HF.out]; exact mask_ok g nr K sh p q r o nn cc j f _ u hu.mw (by omega) hnc
  have HLY : Hid (∀ u j, j < k → BkI g nr K sh p q r o nn cc f F n w u j → Calls Tryz.prog 219 #[.slice (some ⟨w.heap.size, 0, none⟩) n n, .int .i64 (j : Nat), Fd.BV (F j)] u fun e w' => Hid (e = .returned (.tuple #[]) ∧ BkI g nr K sh p q r o nn cc f F n w w' (j + 1))) := fun u j hj hu => by
    have hle : 16 * j + 16 ≤ n := by rw [← HNL.out]; omega
    refine (lay_ok w.heap.size n n j (F j) (bkR F n j) u hle (Nat.le_refl _) (by rw [← HNL.out]; omega) (by rw [bkR_len F n j (by omega)]; omega) hu.row).mono ?_
    intro e w' hh
    obtain ⟨rfl, h1, h2⟩ := hh.out
    exact ⟨rfl, hu.lay HG.out hle h1 h2 HM0.out⟩
  have HN : Hid (n = 16 * k ∧ k ≤ 64) := ⟨by rw [← HNL.out]; exact hl, hk⟩
  rw [HNL.out, ← HF.out]
  obtain ⟨i0, hi0, hz0, hz1, hz2⟩ := info_parts Tryz.info5
  have HI0 : Hid (Tryz.prog.info? 5 = some i0 ∧ i0.zero = some (.int .u8 0) ∧ i0.size = 1 ∧ i0.bytes = 1) := ⟨hi0, hz0, hz1, hz2⟩
  have q1 : (n : Int).tdiv 16 = (k : Int) := by rw [HN.out.1, Int.tdiv_eq_ediv_of_nonneg (by omega)]; omega
  have q3 : IntKind.i64.wrap (k : Int) = (k : Int) := by rw [IntKind.wrap_i64]; omega
  have q4 : (n : Int) / 16 = (k : Int) := by rw [HN.out.1]; omega
  have HK64 : Hid (k ≤ 64) := hk
  have HMF : Hid (i0.bytes * n ≤ 281474976710656 ∧ n ≤ maxLen) := made_few i0.bytes n k 1 (by decide) HI0.out.2.2.2 (by have := HN.out; omega)
  clear h hnc hl hkn hc1 hb hbg hz hi0 hz0 hz1 hz2 hk
  go_enter Tryz.func193, Tryz.ntmps193
  go_upto_region 2 with (first
    | (at_make; go_must (refine wpList_make_full _ rfl _ _ 24 rfl w.heap.size 5 i0 (.int .u8 0) 1 Tryz.underlying24 HI0.out.1 HI0.out.2.1 HI0.out.2.2.1 .i64 .i64 (n : Nat) (n : Nat) n rfl rfl rfl rfl HMF.out.1 HMF.out.2 (Nat.le_refl _) ?_; intro w1 hown hgrow; have HW1 : Hid (BkI g nr K sh p q r o nn cc f F n w w1 0) := ⟨by rw [bkR_zero]; have z := own_full hown; rw [show (Value.int .u8 0).cells = #[.int .u8 0] from rfl, toList_madeCells_one, Nat.mul_one] at z; exact z, HM0.out.keep (fun k hk _ => hgrow.block k hk (by simp)) (HM0.out.key.sameK (hgrow.block g HG.out (by simp)) hgrow.size), ⟨hgrow.os, hgrow.tape, hgrow.output, hgrow.size, fun k hk _ => hgrow.block k hk (by simp)⟩⟩; clear hown hgrow)))
  go_upto_region 3 with fail
  go_loopw [13] (fun v wr => ∃ j : Nat, j ≤ k ∧ v = .int .i64 (j : Nat) ∧ Hid (BkI g nr K sh p q r o nn cc f F n w wr j)) (fun v _ => k - (intOf v).toNat)
  case atStart => exact ⟨0, Nat.zero_le _, rfl, HW1⟩
  case round =>
   as_aux_lemma =>
    obtain ⟨j, hj, rfl, HI⟩ := hrel
    by_cases hlt : j < k
    · have HJ : Hid (j < k) := hlt
      obtain ⟨ej, ej2, g1⟩ := small_i j k hlt HK64.out
      go_wp2_with (first
        | (go_at_call 154; refine (HC.out _ _ HJ.out HI.out).mono ?_; intro e2 w2 hh; obtain ⟨rfl, hb2⟩ := hh.out; have HI2 : Hid (BkI g nr K sh p q r o nn cc f F n w w2 j) := HI.out.below hb2; clear hh hb2)
        | (go_at_call 244; refine (HK.out _ _ HJ.out HI2.out).mono ?_; intro e3 w3 hh; obtain ⟨rfl, hm3, hg3⟩ := hh.out; have HI3 : Hid (BkI g nr K sh p q r o nn cc f F n w w3 j) := HI2.out.mask HG.out hm3 hg3; clear hh hm3 hg3)
        | (go_at_call 219; refine (HLY.out _ _ HJ.out HI3.out).mono ?_; intro e4 w4 hh; obtain ⟨rfl, hi4⟩ := hh.out; have HI4 : Hid (BkI g nr K sh p q r o nn cc f F n w w4 (j + 1)) := hi4; clear hh hi4))
      exact ⟨⟨j + 1, HJ.out, by first | rfl | simp, HI4⟩, by first | exact meas_i j k HJ.out | (simpa using meas_i j k HJ.out)⟩
    · have g1 : ¬ (j : Int) < (k : Int) := by omega
      have HE : Hid (Bx wr w.heap.size 5 (bkL F k) ∧ MkW g nr K sh p q r o nn cc f wr ∧ w.grownBy wr (some g)) := by
        obtain ⟨p1, p2, p3⟩ := HI.out
        rw [show j = k by omega, bkR_end F n k HN.out.1] at p1
        exact ⟨p1, p2, p3⟩
      clear HI
      go_wp2
      go_ret
      exact ⟨rfl, HE.out.1, HE.out.2.1, HE.out.2.2⟩
end Go.Proofs.YtcnikfikpnnblaaGreatDoor
