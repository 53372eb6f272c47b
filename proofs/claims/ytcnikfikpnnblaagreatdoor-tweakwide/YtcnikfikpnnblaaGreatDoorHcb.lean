import Derived.Test.YtcnikfikpnnblaaGreatDoorHca
import Derived.Great.BuildSlice
namespace Go.Proofs.YtcnikfikpnnblaaGreatDoor
open Go.RowKit
set_option linter.unusedVariables false
set_option linter.unusedSimpArgs false
/-- A list's blocks, a byte 1 behind the last one. -/
def flV (zs : List Int) (j : Nat) : BitVec 128 := cutV (zs ++ [1]) j
theorem flV_full (zs : List Int) (j : Nat) (h : 16 * j + 16 ≤ zs.length) : flV zs j = cutV zs j := by
  unfold flV cutV
  congr 1
  refine pk_congr _ _ 16 fun i hi => ?_
  unfold nat8
  rw [List.getD_eq_getElem?_getD, List.getElem?_append_left (by omega), ← List.getD_eq_getElem?_getD]
theorem bkL_congr (f g : Nat → BitVec 128) (k : Nat) (h : ∀ j, j < k → f j = g j) : bkL f k = bkL g k := by
  induction k with
  | zero => rfl
  | succ k ih => rw [bkL_succ, bkL_succ, ih (fun j hj => h j (by omega)), h k (by omega)]
theorem bkL_one (f : Nat → BitVec 128) (k : Nat) : ∀ v ∈ bkL f k, v.oneCell' = true := by
  intro v hv
  simp only [bkL, List.mem_flatMap] at hv
  obtain ⟨j, _, hv⟩ := hv
  exact BL_one8 _ v hv
theorem mark_bytes {zs : List Int} (h : AllBytes zs) : AllBytes (zs ++ [1]) := fun i => by
  rw [List.getD_eq_getElem?_getD]
  by_cases hi : i < zs.length
  · rw [List.getElem?_append_left hi, ← List.getD_eq_getElem?_getD]; exact h i
  · rw [List.getElem?_append_right (by omega)]
    by_cases h0 : i - zs.length = 0
    · rw [h0]; simp
    · rw [List.getElem?_eq_none (by simp; omega)]; simp
/-- The last bytes of a list with a byte 1 behind them, as a block. -/
theorem BL_mark {zs : List Int} (hb : AllBytes zs) (k r : Nat) (hk : zs.length = 16 * k + r) (hr0 : 0 < r) (hr : r < 16) : (splice ZZ 0 (cellsU8 (zs.drop (16 * k)))).set r (.int .u8 1) = Fd.BL (flV zs k) := by
  have hd : AllBytes (zs.drop (16 * k)) := fun i => by rw [List.getD_eq_getElem?_getD, List.getElem?_drop, ← List.getD_eq_getElem?_getD]; exact hb _
  have hdl : (zs.drop (16 * k)).length = r := by rw [List.length_drop]; omega
  have e0 : splice ZZ 0 (cellsU8 (zs.drop (16 * k))) = Fd.BL (cutV (zs.drop (16 * k)) 0) := by
    rw [← BL_head hd r (by rw [hdl]; exact (Nat.min_eq_left (by omega)).symm), List.take_of_length_le (by simp [cellsU8]; omega)]
  rw [e0]
  apply List.ext_getElem?
  intro i
  by_cases hi : i < 16
  · rw [Fd.BL_at _ i hi, flV, cutV_at (mark_bytes hb) k i hi]
    by_cases h : i = r
    · subst h
      rw [List.getElem?_set_self (by rw [Fd.BL_length]; omega), List.getD_eq_getElem?_getD, List.getElem?_append_right (by omega), show 16 * k + i - zs.length = 0 by omega]; rfl
    · rw [List.getElem?_set_ne (by omega), Fd.BL_at _ i hi, cutV_at hd 0 i hi, Nat.mul_zero, Nat.zero_add, List.getD_eq_getElem?_getD, List.getElem?_drop, List.getD_eq_getElem?_getD]
      by_cases h2 : i < r
      · rw [List.getElem?_append_left (by omega)]
      · rw [List.getElem?_eq_none (by omega), List.getElem?_append_right (by omega), List.getElem?_eq_none (by simp; omega)]
  · rw [List.getElem?_eq_none (by rw [List.length_set, Fd.BL_length]; omega), List.getElem?_eq_none (by rw [Fd.BL_length]; omega)]
theorem own_of_bx {w : World} {base x k : Nat} {f : Nat → BitVec 128} (h : Bx w x 29 (bkL f k)) (hx : base ≤ x) (hk : k ≤ 1000) : w.ownsRow base 29 16 (.slice (some ⟨x, 0, none⟩) k k) k (bkL f k) := by
  refine ⟨by rw [bkL_len]; omega, .inr ⟨x, k, _, rfl, hx, h, Nat.le_refl _, by unfold maxLen; omega, by rw [List.size_toArray, bkL_len]; omega, ?_⟩⟩
  rw [List.take_of_length_le (by simp [bkL_len]; omega)]
theorem fill1 (c0 c1 c2 c3 c4 c5 c6 c7 c8 c9 c10 c11 c12 c13 c14 c15 : Value) : Instr.fill (fun i => some (i * 16, 16)) ((Array.range (1 * 16)).map ((Value.agg ZZ.toArray).cells[· % (Value.agg ZZ.toArray).cells.size]!)) [(0, .agg #[c0, c1, c2, c3, c4, c5, c6, c7, c8, c9, c10, c11, c12, c13, c14, c15])] = some #[c0, c1, c2, c3, c4, c5, c6, c7, c8, c9, c10, c11, c12, c13, c14, c15] := by kernel_rfl
theorem fill1B (i0 : TypeInfo) (h : i0.size = 16) (v : BitVec 128) : Instr.fill (fun i => some (i * i0.size, i0.size)) ((Array.range (1 * i0.size)).map ((Value.agg ZZ.toArray).cells[· % (Value.agg ZZ.toArray).cells.size]!)) [(0, .agg (Fd.BL v).toArray)] = some (Fd.BL v).toArray := by
  rw [h]; exact fill1 _ _ _ _ _ _ _ _ _ _ _ _ _ _ _ _
theorem fill3 (c0 c1 c2 c3 c4 c5 c6 c7 c8 c9 c10 c11 c12 c13 c14 c15 d0 d1 d2 d3 d4 d5 d6 d7 d8 d9 d10 d11 d12 d13 d14 d15 e0 e1 e2 e3 e4 e5 e6 e7 e8 e9 e10 e11 e12 e13 e14 e15 : Value) : Instr.fill (fun i => some (i * 16, 16)) ((Array.range (3 * 16)).map ((Value.agg ZZ.toArray).cells[· % (Value.agg ZZ.toArray).cells.size]!)) [(0, .agg #[c0, c1, c2, c3, c4, c5, c6, c7, c8, c9, c10, c11, c12, c13, c14, c15]), (1, .agg #[d0, d1, d2, d3, d4, d5, d6, d7, d8, d9, d10, d11, d12, d13, d14, d15]), (2, .agg #[e0, e1, e2, e3, e4, e5, e6, e7, e8, e9, e10, e11, e12, e13, e14, e15])] = some #[c0, c1, c2, c3, c4, c5, c6, c7, c8, c9, c10, c11, c12, c13, c14, c15, d0, d1, d2, d3, d4, d5, d6, d7, d8, d9, d10, d11, d12, d13, d14, d15, e0, e1, e2, e3, e4, e5, e6, e7, e8, e9, e10, e11, e12, e13, e14, e15] := by kernel_rfl
theorem fill3B (i0 : TypeInfo) (h : i0.size = 16) (a b c : BitVec 128) : Instr.fill (fun i => some (i * i0.size, i0.size)) ((Array.range (3 * i0.size)).map ((Value.agg ZZ.toArray).cells[· % (Value.agg ZZ.toArray).cells.size]!)) [(0, .agg (Fd.BL a).toArray), (1, .agg (Fd.BL b).toArray), (2, .agg (Fd.BL c).toArray)] = some (Fd.BL a ++ Fd.BL b ++ Fd.BL c).toArray := by
  rw [h]; exact fill3 _ _ _ _ _ _ _ _ _ _ _ _ _ _ _ _ _ _ _ _ _ _ _ _ _ _ _ _ _ _ _ _ _ _ _ _ _ _ _ _ _ _ _ _ _ _ _ _
theorem fold16 (c0 c1 c2 c3 c4 c5 c6 c7 c8 c9 c10 c11 c12 c13 c14 c15 : Value) : List.foldl (fun (cs : Array Value) (x : Value × Nat) => cs.setIfInBounds x.snd x.fst) #[.int .u8 0, .int .u8 0, .int .u8 0, .int .u8 0, .int .u8 0, .int .u8 0, .int .u8 0, .int .u8 0, .int .u8 0, .int .u8 0, .int .u8 0, .int .u8 0, .int .u8 0, .int .u8 0, .int .u8 0, .int .u8 0] [c0, c1, c2, c3, c4, c5, c6, c7, c8, c9, c10, c11, c12, c13, c14, c15].zipIdx = #[c0, c1, c2, c3, c4, c5, c6, c7, c8, c9, c10, c11, c12, c13, c14, c15] := by kernel_rfl
theorem foldB (v : BitVec 128) : List.foldl (fun (cs : Array Value) (x : Value × Nat) => cs.setIfInBounds x.snd x.fst) #[.int .u8 0, .int .u8 0, .int .u8 0, .int .u8 0, .int .u8 0, .int .u8 0, .int .u8 0, .int .u8 0, .int .u8 0, .int .u8 0, .int .u8 0, .int .u8 0, .int .u8 0, .int .u8 0, .int .u8 0, .int .u8 0] (Fd.BL v).zipIdx = (Fd.BL v).toArray := fold16 _ _ _ _ _ _ _ _ _ _ _ _ _ _ _ _
/-- The number of blocks. -/
def flN (n : Nat) : Nat := (n + 15) / 16
structure FlI (f : Nat → BitVec 128) (x k : Nat) (w u : World) (j : Nat) : Prop where
  row : ∃ T, Bx u x 29 (bkL f j ++ T) ∧ T.length = 16 * (k - j)
  bel : Below w.heap.size w u
theorem FlI.below {f : Nat → BitVec 128} {x k : Nat} {w u v : World} {j : Nat} (h : FlI f x k w u j) (hb : Below u.heap.size u v) : FlI f x k w v j := by
  obtain ⟨T, h1, h2⟩ := h.row
  exact ⟨⟨T, h1.below hb, h2⟩, h.bel.trans (hb.mono h.bel.size)⟩
theorem FlI.there {f : Nat → BitVec 128} {x k : Nat} {w u : World} {j : Nat} (h : FlI f x k w u j) (hj : j < k) : u.there x (j * 16) 16 := by
  obtain ⟨T, h1, h2⟩ := h.row
  intro i hi
  have hl : j * 16 + i < (bkL f j ++ T).length := by rw [List.length_append, bkL_len, h2]; omega
  exact ⟨by rw [h1.cell _ _ (List.getElem?_eq_getElem hl)]; rfl, h1.frozen _⟩
theorem FlI.store {f : Nat → BitVec 128} {x k : Nat} {w u : World} {j : Nat} (h : FlI f x k w u j) (hj : j < k) (hx : w.heap.size ≤ x) : FlI f x k w (u.setCells x (j * 16) (Fd.BL (f j))) (j + 1) := by
  obtain ⟨T, h1, h2⟩ := h.row
  have hg := setCells_gb x (Fd.BL (f j)) (j * 16) u
  refine ⟨⟨T.drop 16, ?_, by rw [List.length_drop, h2]; omega⟩, h.bel.trans (below_gb hg h.bel.size hx)⟩
  have q := h1.storeAt (o := j * 16) (L := Fd.BL (f j)) (by rw [Fd.BL_length, List.length_append, bkL_len, h2]; omega)
  have e : splice (bkL f j ++ T) (j * 16) (Fd.BL (f j)) = bkL f (j + 1) ++ T.drop 16 := by
    simp only [splice, Fd.BL_length]
    rw [bkL_succ, List.take_append_of_le_length (by rw [bkL_len]; omega), List.take_of_length_le (by rw [bkL_len]; omega), List.drop_append, bkL_len, List.drop_of_length_le (by rw [bkL_len]; omega), show j * 16 + 16 - 16 * j = 16 by omega]
    simp
  rw [e] at q
  exact q
/-- What filled answers. -/
def FilP (zs : List Int) (w : World) (e : Ending) (w' : World) : Prop := ∃ y d, e = .returned (.slice (some ⟨y, 0, none⟩) (flN zs.length) d) ∧ w'.ownsRow w.heap.size 29 16 (.slice (some ⟨y, 0, none⟩) (flN zs.length) d) (flN zs.length) (bkL (flV zs) (flN zs.length)) ∧ Below w.heap.size w w'
theorem fil_num (n k r : Nat) (hn : n = 16 * k + r) (hr : r < 16) (hm : n ≤ 4096) : k ≤ 256 ∧ (n : Int).tdiv 16 = (k : Int) ∧ (n : Int) / 16 = (k : Int) ∧ IntKind.i64.wrap (k : Int) = (k : Int) ∧ IntKind.i64.wrap ((k : Int) * 16) = ((16 * k : Nat) : Int) ∧ wrap64 ((k : Int) * 16) = ((16 * k : Nat) : Int) := by
  refine ⟨by omega, ?_, by omega, ?_, ?_, ?_⟩
  · rw [Int.tdiv_eq_ediv_of_nonneg (by omega)]; omega
  · rw [IntKind.wrap_i64]; omega
  · rw [IntKind.wrap_i64]; omega
  · unfold wrap64; omega
theorem small_j (j k : Nat) (h : j < k) (hk : k ≤ 256) : wrap64 ((j : Int) + 1) = ((j + 1 : Nat) : Int) ∧ IntKind.i64.wrap ((j : Int) + 1) = ((j + 1 : Nat) : Int) ∧ (j : Int) < (k : Int) ∧ (0 : Int) ≤ (j : Int) := by
  refine ⟨?_, ?_, by omega, by omega⟩
  · unfold wrap64; omega
  · rw [IntKind.wrap_i64]; omega
set_option maxHeartbeats 3200000 in
set_option maxRecDepth 100000 in
/-- filled. -/
theorem filled_ok (v : Value) (zs : List Int) (w : World) (hv : View w v zs) (hb : AllBytes zs) (hm : zs.length ≤ 4096) :
    Calls Tryz.prog 250 #[v] w fun e w' => Hid (FilP zs w e w') := by
  obtain ⟨a, c, rfl, h1, h2, h3, h4⟩ := id hv
  obtain ⟨n, HNL⟩ : ∃ n, Hid (zs.length = n) := ⟨_, rfl⟩
  obtain ⟨k, r, hkr, hr⟩ : ∃ k r, n = 16 * k + r ∧ r < 16 := ⟨n / 16, n % 16, by omega, by omega⟩
  have hm' : n ≤ 4096 := by rw [← HNL.out]; exact hm
  obtain ⟨hk256, q1, q2, q3, q4, q5⟩ := fil_num n k r hkr hr hm'
  obtain ⟨K16, HK16⟩ : ∃ K16, Hid (16 * k = K16) := ⟨_, rfl⟩
  rw [HK16.out] at q4 q5
  have HNK : Hid (n = 16 * k + r ∧ r < 16 ∧ k ≤ 256 ∧ zs.length = n ∧ AllBytes zs ∧ n ≤ c ∧ K16 = 16 * k) := ⟨hkr, hr, hk256, HNL.out, hb, by rw [← HNL.out]; exact h1, HK16.out.symm⟩
  have HV : Hid (View w (.slice a n c) zs) := by rw [← HNL.out]; exact hv
  have HCU : Hid (∀ u j, j < k → Below w.heap.size w u → Calls Tryz.prog 154 #[.slice a n c, .int .i64 (j : Nat)] u fun e w' => Hid (e = .returned (.agg (Fd.BL (flV zs j)).toArray) ∧ Below u.heap.size u w')) := fun u j hj hu => by
    rw [flV_full zs j (by rw [HNL.out]; omega)]
    rcases h4 with h4 | ⟨b, off, rfl, h4⟩
    · rw [h4] at HNL; have := HNL.out; simp at this; omega
    · have q := cut_ok b off c j zs u (by rw [HNL.out]; omega) h1 (by omega) hb (fun i hi => (hu.cell (World.block_lt_of_cell? w _ (h4 i hi))).trans (h4 i hi))
      rw [HNL.out] at q
      exact q
  obtain ⟨y0, d0, hsl⟩ : ∃ y d, sliced a K16 n c 1 = .slice y r d := ⟨_, _, by unfold sliced; rw [show n - K16 = r by rw [← HK16.out]; omega]⟩
  have HVR : Hid (View w (.slice y0 r d0) (zs.drop K16)) := by
    have q := view_sliced HV.out K16 n (by rw [← HK16.out]; omega) (Nat.le_refl _)
    rw [hsl, List.take_of_length_le (by rw [List.length_drop, HNL.out]; omega)] at q
    exact q
  have hS : ∀ u : World, (Instr.slice 24 (.slice a n c) (some (.int .i64 (K16 : Nat))) none none).run Tryz.prog u = .ok (.slice y0 r d0) u := fun u => by
    rw [slice_l u a n c K16 (by rw [← HK16.out]; omega) HNK.out.2.2.2.2.2.1, hsl]
  obtain ⟨i0, hi0, hz0, hz1, hz2⟩ := info_parts Tryz.info29b
  have HI0 : Hid (Tryz.prog.info? 29 = some i0 ∧ i0.zero = some (.agg ZZ.toArray) ∧ i0.size = 16 ∧ i0.bytes = 16) := ⟨hi0, hz0, hz1, hz2⟩
  have HMF : Hid (i0.bytes * k ≤ 281474976710656 ∧ k ≤ maxLen) := made_few i0.bytes k k 16 (by decide) HI0.out.2.2.2 (by omega)
  rw [HNL.out]
  obtain ⟨x, HXX⟩ : ∃ x, Hid (w.heap.size = x) := ⟨_, rfl⟩
  clear hv h1 h2 h3 h4 hb hm hsl hkr hr hm' hi0 hz0 hz1 hz2
  go_enter Tryz.func250, Tryz.ntmps250
  go_upto_region 2 with (first
    | (at_make; go_must (refine wpList_make_full _ rfl _ _ 77 rfl w.heap.size 29 i0 (.agg ZZ.toArray) 16 Tryz.underlying77b HI0.out.1 HI0.out.2.1 HI0.out.2.2.1 .i64 .i64 (k : Nat) (k : Nat) k rfl rfl rfl rfl HMF.out.1 HMF.out.2 (Nat.le_refl _) ?_; intro w1 hown hgrow; have HW1 : Hid (FlI (flV zs) w.heap.size k w w1 0) := ⟨⟨_, (own_full16 hown).1, (own_full16 hown).2⟩, ⟨hgrow.os, hgrow.tape, hgrow.output, hgrow.size, fun k hk => hgrow.block k hk (by simp)⟩⟩; clear hown hgrow)))
  go_upto_region 3 with fail
  go_loopw [13] (fun v wr => ∃ j : Nat, j ≤ k ∧ v = .int .i64 (j : Nat) ∧ Hid (FlI (flV zs) w.heap.size k w wr j)) (fun v _ => k - (intOf v).toNat)
  case atStart => exact ⟨0, Nat.zero_le _, rfl, HW1⟩
  case round =>
   as_aux_lemma =>
    obtain ⟨j, hj, rfl, HI⟩ := hrel
    by_cases hlt : j < k
    · have HJ : Hid (j < k) := hlt
      obtain ⟨ej, ej2, g1, g0⟩ := small_j j k hlt HNK.out.2.2.1
      have HL16 : Hid ((Fd.BL (flV zs j)).length = 16 ∧ ∀ v ∈ Fd.BL (flV zs j), v.oneCell' = true) := ⟨Fd.BL_length _, BL_one8 _⟩
      obtain ⟨L, HLL⟩ : ∃ L, Hid (Fd.BL (flV zs j) = L) := ⟨_, rfl⟩
      rw [HLL.out] at HL16
      have HLS : Hid (L.toArray.size = 16) := by show _ = _; rw [List.size_toArray]; exact HL16.out.1
      have HC1 : Hid (∀ u, Below w.heap.size w u → Calls Tryz.prog 154 #[.slice a n c, .int .i64 (j : Nat)] u fun e w' => Hid (e = .returned (.agg L.toArray) ∧ Below u.heap.size u w')) := fun u hu => by
        have q := HCU.out u j HJ.out hu; rw [HLL.out] at q; exact q
      go_wp2_with (first
        | (go_at_call 154; refine (HC1.out _ HI.out.bel).mono ?_; intro e2 w2 hh; obtain ⟨rfl, hb2⟩ := hh.out; have HI2 : Hid (FlI (flV zs) w.heap.size k w w2 j) := HI.out.below hb2; clear hh hb2)
        | (show wpList _ _ _ [_] _ w2; go_must (refine wpList_store_mid (by rfl) 29 (.tmp 21) (.tmp 20) (by rfl) w.heap.size (j * 16) L.toArray (by rfl) (by rfl) (by rw [HLS.out]; exact HI2.out.there HJ.out) (by rw [HLS.out]; kernel_rfl) (all_oneCell_toArray HL16.out.2) ?_)))
      have HI3 : Hid (FlI (flV zs) w.heap.size k w (w2.setCells w.heap.size (j * 16) L.toArray.toList) (j + 1)) := by
        have q := HI2.out.store HJ.out (Nat.le_refl _); rw [HLL.out] at q; exact q
      exact ⟨⟨j + 1, HJ.out, by first | rfl | simp, by first | exact HI3 | simpa using HI3⟩, by first | exact meas_i j k HJ.out | (simpa using meas_i j k HJ.out)⟩
    · have g1 : ¬ (j : Int) < (k : Int) := by omega
      have HF : Hid (Bx wr w.heap.size 29 (bkL (flV zs) k) ∧ Below w.heap.size w wr) := by
        obtain ⟨⟨T, p2, p3⟩, p4⟩ := HI.out
        rw [show j = k by omega] at p2 p3
        have : T = [] := List.eq_nil_of_length_eq_zero (by omega)
        rw [this, List.append_nil] at p2
        exact ⟨p2, p4⟩
      clear HI
      by_cases hr0 : r = 0
      · have HR0 : Hid (r = 0) := hr0
        clear hr0
        have hr1 : ¬ (0 : Int) < (r : Int) := by rw [HR0.out]; decide
        go_wp2
        go_ret
        refine ⟨w.heap.size, k, ?_⟩
        have hfn : flN zs.length = k := by have := HNK.out; unfold flN; omega
        rw [hfn]
        exact ⟨rfl, own_of_bx HF.out.1 (Nat.le_refl _) (by have := HNK.out; omega), HF.out.2⟩
      · have HR0 : Hid (0 < r) := (by omega : 0 < r)
        clear hr0
        have hr1 : (0 : Int) < (r : Int) := by have := HR0.out; omega
        obtain ⟨X, HX⟩ : ∃ X, Hid (wr.heap.size = X) := ⟨_, rfl⟩
        obtain ⟨cs, HCS⟩ : ∃ cs, Hid (cs = cellsU8 (zs.drop K16)) := ⟨_, rfl⟩
        have HCL : Hid (cs.length = r ∧ ∀ v ∈ cs, v.oneCell' = true) := by
          rw [HCS.out]
          refine ⟨by simp [cellsU8]; have := HNK.out; omega, fun v hv => ?_⟩
          simp only [cellsU8, List.mem_map] at hv
          obtain ⟨z, _, rfl⟩ := hv
          rfl
        have HSR : Hid (∀ u, Below w.heap.size w u → ∃ ad, y0 = some ad ∧ ∀ j v, cs[j]? = some v → u.cell? (ad.add j) = some v) := fun u hu => by
          obtain ⟨a', c', e1, p1, p2, p3, p4⟩ := HVR.out.below hu
          rcases p4 with p4 | ⟨b, off, rfl, p4⟩
          · have := HCL.out.1; rw [HCS.out, p4] at this; simp [cellsU8] at this; have := HR0.out; omega
          · injection e1 with e1 e2 e3
            subst e1
            refine ⟨_, rfl, fun j v hj => ?_⟩
            rw [HCS.out] at hj
            exact vcells (HVR.out.below hu) j v hj
        have HBX : Hid (Bx (wr.alloc (.cells ZZ.toArray 29)) X 29 ZZ ∧ Below w.heap.size w (wr.alloc (.cells ZZ.toArray 29)) ∧ w.heap.size < X ∧ Bx (wr.alloc (.cells ZZ.toArray 29)) w.heap.size 29 (bkL (flV zs) k)) := by
          have q := HF.out.1.lt
          refine ⟨by rw [← HX.out]; exact Bx.new wr 29 ZZ, HF.out.2.alloc HF.out.2.size _, by rw [← HX.out]; exact q, HF.out.1.below ((Below.refl _ _).alloc (Nat.le_refl _) _)⟩
        have hr16 : (r : Int) < 16 := by have := HNK.out.2.1; omega
        have hr00 : (0 : Int) ≤ (r : Int) := by omega
        have HZR : Hid ((splice ZZ 0 cs)[r]? = some (.int .u8 0)) := by
          show _ = _
          rw [splice, List.take_zero, List.nil_append, HCL.out.1, List.getElem?_append_right (by rw [HCL.out.1]; omega), HCL.out.1, List.getElem?_drop, show 0 + r + (r - r) = r by omega, show ZZ = List.replicate 16 (.int .u8 0) from rfl, List.getElem?_replicate, if_pos HNK.out.2.1]
        have HMK : Hid ((splice ZZ 0 cs).set r (.int .u8 1) = Fd.BL (flV zs k)) := by
          show _ = _
          rw [HCS.out, HNK.out.2.2.2.2.2.2]; exact BL_mark HNK.out.2.2.2.2.1 k r (by have := HNK.out; omega) HR0.out HNK.out.2.1
        go_upto_region 10 with fail
        rw [HX.out]
        go_upto_region 11 with (first
          | (refine wpList_copy_splice rfl (.tmp 31) (.tmp 32) 24 24 rfl 5 Tryz.underlying24 (by kernel_rfl) _ _ 16 16 r _ rfl rfl X 0 ZZ 29 HBX.out.1 cs (by rw [HCL.out.1]; have := HNK.out.2.1; exact (Nat.min_eq_left (by omega)).symm) (fun _ => ⟨rfl, HSR.out _ HBX.out.2.1⟩) (by rw [HCL.out.1]; have := HNK.out.2.1; simp; omega) HCL.out.2 X _ (Below.refl _ _) (Nat.le_refl _) ?_; intro w3 HG3 hb3; rw [HCL.out.1]; have HB3 : Hid (Below X (wr.alloc (.cells ZZ.toArray 29)) w3) := hb3; clear hb3; have hG3 : Bx w3 X 29 (splice ZZ 0 cs) := HG3.out; have c9 : w3.cell? ⟨X, r, none⟩ = some (.int .u8 0) := hG3.cell r _ HZR.out; have f9 : w3.frozen? ⟨X, r, none⟩ = false := hG3.frozen r; have HG4 : Hid (Bx (w3.setCell ⟨X, r, none⟩ (.int .u8 1)) X 29 (Fd.BL (flV zs k))) := (by have q := hG3.set r (.int .u8 1); rw [HMK.out] at q; exact q); clear hG3))
        obtain ⟨w4, hw4⟩ : ∃ w4, w4 = w3.setCell ⟨X, r, none⟩ (.int .u8 1) := ⟨_, rfl⟩
        have HW4 : Hid (Bx w4 X 29 (Fd.BL (flV zs k)) ∧ w4.ownsRow w.heap.size 29 16 (.slice (some ⟨w.heap.size, 0, none⟩) k k) k (bkL (flV zs) k) ∧ Below w.heap.size w w4) := by
          have hg := set_gb w3 X r (.int .u8 1)
          rw [← hw4] at hg
          have hxs := HBX.out.2.2.1
          have e1 : Below X (wr.alloc (.cells ZZ.toArray 29)) w4 := HB3.out.trans (below_gb hg (Nat.le_trans (by have := HBX.out.1.lt; omega) HB3.out.size) (Nat.le_refl _))
          refine ⟨by rw [hw4]; exact HG4.out, own_of_bx (HBX.out.2.2.2.keep (e1.block w.heap.size hxs)) (Nat.le_refl _) (by have := HNK.out; omega), HBX.out.2.1.trans (e1.mono (by omega))⟩
        rw [← hw4]
        clear hw4 HG4 c9 f9 HG3 HB3 HBX
        obtain ⟨L, HLL⟩ : ∃ L, Hid (Fd.BL (flV zs k) = L) := ⟨_, rfl⟩
        have HL16 : Hid (L.length = 16 ∧ ∀ v ∈ L, v.oneCell' = true) := by rw [← HLL.out]; exact ⟨Fd.BL_length _, BL_one8 _⟩
        have hfo : List.foldl (fun (cs : Array Value) (x : Value × Nat) => cs.setIfInBounds x.snd x.fst) #[.int .u8 0, .int .u8 0, .int .u8 0, .int .u8 0, .int .u8 0, .int .u8 0, .int .u8 0, .int .u8 0, .int .u8 0, .int .u8 0, .int .u8 0, .int .u8 0, .int .u8 0, .int .u8 0, .int .u8 0, .int .u8 0] L.zipIdx = L.toArray := by rw [← HLL.out]; exact foldB _
        have hL16 : L.length = 16 := HL16.out.1
        rw [HLL.out] at HW4
        have HAF : Hid (k + 1 ≤ maxLen ∧ (k + 1) * 16 ≤ 140737488355328) := by have := HNK.out.2.2.1; exact ⟨by unfold maxLen; omega, by omega⟩
        go_wp2_with (first
          | (refine wpList_load_mid (by rfl) 29 (.tmp 6) (by rfl) X 0 (by rfl) L _ HW4.out.1.range Tryz.underlying29 rfl (by rw [HL16.out.1]; kernel_rfl) ?_)
          | (at_builtin; go_must (refine wpList_append_own _ rfl (.tmp 35) (.tmp 37) 77 rfl w.heap.size 29 i0 (.agg ZZ.toArray) 16 16 Tryz.underlying77b HI0.out.1 HI0.out.2.1 HI0.out.2.2.1 HI0.out.2.2.2 rfl (by decide) _ k (bkL (flV zs) k) rfl (HW4.out.2.1.alloc _) ⟨w4.heap.size, 0, none⟩ 1 1 L rfl HL16.out.1 (fun j u hj => by rw [Addr.add_mid]; exact (Bx.new w4 29 L).range j u hj) HL16.out.2 HAF.out.1 HAF.out.2 (by have := HW4.out.2.2.size; simp; omega) ?_; intro v2 w5 hown hgrow hnil; have HX5 : Hid (w5.ownsRow w.heap.size 29 16 v2 (k + 1) (bkL (flV zs) k ++ L) ∧ (w4.alloc (.cells L.toArray 29)).grownBy w5 (some w.heap.size)) := ⟨hown, hgrow⟩; clear hown hgrow hnil)))
        go_ret
        have hfn : flN zs.length = k + 1 := by have := HNK.out; have := HR0.out; unfold flN; omega
        obtain ⟨z1, z2⟩ := HX5.out
        have hb5 : Below w.heap.size w w5 := HW4.out.2.2.trans (((Below.refl _ _).alloc HW4.out.2.2.size _).trans (below_gb z2 (by have := HW4.out.2.2.size; simp; omega) (Nat.le_refl _)))
        rw [← HLL.out, ← bkL_succ] at z1
        rcases z1.2 with ⟨_, q⟩ | ⟨g, cap, cur, q, _⟩
        · omega
        · subst q
          refine ⟨g, cap, ?_⟩
          rw [hfn]
          exact ⟨rfl, z1, hb5⟩
end Go.Proofs.YtcnikfikpnnblaaGreatDoor
