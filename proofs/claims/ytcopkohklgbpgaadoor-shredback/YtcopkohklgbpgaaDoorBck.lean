import Derived.Test.YtcopkohklgbpgaaDoorFil
import Derived.Test.YtcopkohklgbpgaaDoorTill
namespace Go.Proofs.YtcopkohklgbpgaaDoor
open Go.RowKit
set_option linter.unusedVariables false
set_option linter.unusedSimpArgs false
theorem xb (a b : Int) : bits .xor .u8 a b = (((BitVec.ofInt 8 a ^^^ BitVec.ofInt 8 b).toNat : Nat) : Int) := by
  show IntKind.u8.wrap ((BitVec.ofInt 8 a ^^^ BitVec.ofInt 8 b).toNat : Int) = _
  have := (BitVec.ofInt 8 a ^^^ BitVec.ofInt 8 b).isLt
  rw [IntKind.wrap_u8]
  omega
theorem of8 (v : BitVec 8) : BitVec.ofInt 8 ((v.toNat : Nat) : Int) = v := by
  apply BitVec.eq_of_toNat_eq
  simp
theorem of8b {z : Int} (h0 : 0 ≤ z) (h1 : z < 256) : (((BitVec.ofInt 8 z).toNat : Nat) : Int) = z := by
  rw [BitVec.toNat_ofInt]
  omega
theorem xor_back (f : Int) {z : Int} (h0 : 0 ≤ z) (h1 : z < 256) : bits .xor .u8 f (bits .xor .u8 f z) = z := by
  rw [xb f z, xb f, of8, ← BitVec.xor_assoc, BitVec.xor_self, BitVec.zero_xor]
  exact of8b h0 h1
theorem xor_mask (f z x : Int) : bits .xor .u8 f (bits .xor .u8 (bits .xor .u8 f z) x) = bits .xor .u8 z x := by
  rw [xb f z, xb _ x, of8, xb f, of8, xb z x, ← BitVec.xor_assoc, ← BitVec.xor_assoc, BitVec.xor_self, BitVec.zero_xor]
theorem xor_again (f z x : Int) : bits .xor .u8 f (bits .xor .u8 z x) = bits .xor .u8 (bits .xor .u8 f z) x := by
  rw [xb z x, xb f, of8, xb f z, xb _ x, of8, BitVec.xor_assoc]
/-- What is laid over the last stripe. -/
def mF (h : Int) (n cnt : Nat) (R : List Int) : Nat → Int := maskF h n (fun i => R.getD i 0) cnt (fun _ => 0)
theorem splitL_eq (h : Int) (n cnt : Nat) (Z R : List Int) : splitL h n cnt Z R = R ++ (List.range n).map fun i => bits .xor .u8 (mF h n cnt R i) (Z.getD i 0) := by
  unfold splitL
  congr 1
  apply List.map_congr_left
  intro i hi
  rw [List.mem_range] at hi
  rw [xorF, if_pos hi]
  rfl
theorem mergeL_eq (h : Int) (n cnt : Nat) (R L : List Int) (hR : R.length = n * cnt) : mergeL h n cnt (R ++ L) = (List.range n).map fun i => bits .xor .u8 (mF h n cnt R i) (L.getD i 0) := by
  unfold mergeL
  rw [List.take_left' hR, List.drop_left' hR]
  apply List.map_congr_left
  intro i hi
  rw [List.mem_range] at hi
  rw [xorF, if_pos hi]
  rfl
theorem getD_map (n i : Nat) (F : Nat → Int) (hi : i < n) : ((List.range n).map F).getD i 0 = F i := by simp [List.getD, hi]
theorem merge_split (h : Int) (n cnt : Nat) (Z R : List Int) (hR : R.length = n * cnt) (hZ : Z.length = n) (hb : AllBytes Z) : mergeL h n cnt (splitL h n cnt Z R) = Z := by
  rw [splitL_eq, mergeL_eq _ _ _ _ _ hR]
  refine map_getD n Z hZ _ (fun i hi => ?_)
  rw [getD_map n i _ hi]
  exact xor_back _ (hb i).1 (hb i).2
/-- The material while the mask is laid over its last stripe. -/
def mixM (h : Int) (n cnt : Nat) (Z R X : List Int) (k : Nat) : List Int := R ++ (List.range n).map fun i => if i < k then bits .xor .u8 (bits .xor .u8 (mF h n cnt R i) (Z.getD i 0)) (X.getD i 0) else bits .xor .u8 (mF h n cnt R i) (Z.getD i 0)
theorem mixM_zero (h : Int) (n cnt : Nat) (Z R X : List Int) : mixM h n cnt Z R X 0 = splitL h n cnt Z R := by rw [splitL_eq]; simp [mixM]
theorem mixM_length (h : Int) (n cnt : Nat) (Z R X : List Int) (k : Nat) : (mixM h n cnt Z R X k).length = R.length + n := by simp [mixM]
theorem mixM_at (h : Int) (n cnt : Nat) (Z R X : List Int) (k : Nat) (hk : k < n) : (mixM h n cnt Z R X k).getD (R.length + k) 0 = bits .xor .u8 (mF h n cnt R k) (Z.getD k 0) := by
  rw [mixM, List.getD_eq_getElem?_getD, List.getElem?_append_right (by omega), Nat.add_sub_cancel_left]
  simp [hk]
theorem mixM_succ (h : Int) (n cnt : Nat) (Z R X : List Int) (k : Nat) (hk : k < n) : (mixM h n cnt Z R X k).set (R.length + k) (bits .xor .u8 (bits .xor .u8 (mF h n cnt R k) (Z.getD k 0)) (X.getD k 0)) = mixM h n cnt Z R X (k + 1) := by
  rw [mixM, mixM, List.set_append_right _ _ (by omega), Nat.add_sub_cancel_left]
  congr 1
  apply List.ext_getElem (by simp)
  intro i h1 h2
  simp at h1 h2
  by_cases e : i = k
  · subst e
    simp
  · rw [List.getElem_set_ne (Ne.symm e)]
    simp only [List.getElem_map, List.getElem_range]
    by_cases e2 : i < k
    · rw [if_pos e2, if_pos (by omega)]
    · rw [if_neg e2, if_neg (by omega)]
/-- The secret under the mask. -/
def mixT (n : Nat) (Z X : List Int) : List Int := (List.range n).map fun i => bits .xor .u8 (Z.getD i 0) (X.getD i 0)
theorem merge_mix (h : Int) (n cnt : Nat) (Z R X : List Int) (hR : R.length = n * cnt) : mergeL h n cnt (mixM h n cnt Z R X n) = mixT n Z X := by
  rw [mixM, mergeL_eq _ _ _ _ _ hR, mixT]
  apply List.map_congr_left
  intro i hi
  rw [List.mem_range] at hi
  rw [getD_map n i _ hi, if_pos hi]
  exact xor_mask _ _ _
theorem split_mix (h : Int) (n cnt : Nat) (Z R X : List Int) : splitL h n cnt (mixT n Z X) R = mixM h n cnt Z R X n := by
  rw [splitL_eq, mixM]
  congr 1
  apply List.map_congr_left
  intro i hi
  rw [List.mem_range] at hi
  rw [mixT, getD_map n i _ hi, if_pos hi]
  exact xor_again _ _ _
theorem mixT_length (n : Nat) (Z X : List Int) : (mixT n Z X).length = n := by simp [mixT]
set_option maxHeartbeats 6400000 in
set_option maxRecDepth 100000 in
/-- ShredBack where something is split. -/
theorem back_good (h : Int) (za ra ma : Option Addr) (n zc cnt rl rc ml mc : Nat) (Z RR MM : List Int) (w : World) (KN : Hid (Known h)) (hn : 1 ≤ n ∧ n ≤ 1024) (hc : cnt < 4000) (hmost : n * cnt + n ≤ 32768) (hZ : Hid (View w (.slice za n zc) Z)) (hZl : Hid (Z.length = n)) (hB : Hid (AllBytes Z)) (hRR : Hid (View w (.slice ra rl rc) RR)) (hRl : Hid (RR.length = rl)) (hMM : Hid (View w (.slice ma ml mc) MM)) (hMl : Hid (MM.length = ml)) (hrl : rl ≤ 9223372036854775807) (hml : ml ≤ 9223372036854775807) (hT : Hid (Tables w)) :
    Calls Tryd.prog 4 #[.agg #[.int .i64 h, .slice za n zc, .int .i64 ((cnt : Int) + 1), .slice ra rl rc], .slice ma ml mc] w fun e w' => e = .returned (.bool true) ∧ Below w.heap.size w w' := by
  obtain ⟨m, hm⟩ : ∃ m, m = n * cnt := ⟨_, rfl⟩
  rw [← hm] at hmost
  obtain ⟨q, hq⟩ : ∃ q, q = m + n := ⟨_, rfl⟩
  rw [← hq] at hmost
  have HM : Hid (m = n * cnt) := hm
  have HQ : Hid (q = m + n) := hq
  have hmb : m ≤ 32768 := by omega
  have hnq : n ≤ q := by omega
  have hqi : ((m : Nat) : Int) + ((n : Nat) : Int) = (q : Nat) := by omega
  have e1 : decide ((n : Int) < 1) = false := by simp; omega
  have e2 : decide ((1024 : Int) < (n : Int)) = false := by simp; omega
  have e3 : decide ((cnt : Int) + 1 < 1) = false := by simp; omega
  have e4 : decide ((4000 : Int) < (cnt : Int) + 1) = false := by simp; omega
  have hmul : ((n : Nat) : Int) * ((cnt : Int) + 1) = (q : Nat) := by
    rw [hq, hm, Int.mul_add, Int.mul_one]
    simp
  have hmul2 : ((n : Nat) : Int) * (cnt : Int) = (m : Nat) := by rw [hm]; simp
  have e5 : decide ((32768 : Int) < (q : Int)) = false := by simp; omega
  have hw1 : IntKind.i64.wrap ((q : Nat) : Int) = (q : Nat) := wrap64_small (by omega) (by omega)
  have hw2 : IntKind.i64.wrap ((m : Nat) : Int) = (m : Nat) := wrap64_small (by omega) (by omega)
  obtain ⟨w0, hw0⟩ : ∃ w0, w0 = w.alloc (.cells #[.int .i64 h, .slice za n zc, .int .i64 ((cnt : Int) + 1), .slice ra rl rc] 32) := ⟨_, rfl⟩
  have HB0 : Hid (Below w.heap.size w w0) := by show Below _ _ _; rw [hw0]; exact (Below.refl _ w).alloc (Nat.le_refl _) _
  have HW0 : Hid (w0.heap.size = w.heap.size + 1) := by show _ = _; rw [hw0]; simp
  have BX : Hid (∀ u, Below w0.heap.size w0 u → u.cell? ⟨w.heap.size, 0, none⟩ = some (.int .i64 h) ∧ u.cell? ⟨w.heap.size, 1, none⟩ = some (.slice za n zc) ∧ u.cell? ⟨w.heap.size, 2, none⟩ = some (.int .i64 ((cnt : Int) + 1)) ∧ u.cell? ⟨w.heap.size, 3, none⟩ = some (.slice ra rl rc)) := fun u hu => by
    have hb : ∀ i, u.cell? ⟨w.heap.size, i, none⟩ = w0.cell? ⟨w.heap.size, i, none⟩ := fun i => World.cell?_of_block (hu.block w.heap.size (by have := HW0.out; omega))
    rw [hb, hb, hb, hb, hw0]
    exact ⟨World.cell?_alloc_at _ _ _ _ rfl, World.cell?_alloc_at _ _ _ _ rfl, World.cell?_alloc_at _ _ _ _ rfl, World.cell?_alloc_at _ _ _ _ rfl⟩
  have hT0 : Tables w0 := hT.out.below HB0.out hT.out.size
  have TB : Hid (∀ u, Below w0.heap.size w0 u → Tables u) := fun u hu => hT0.below hu hT0.size
  have ZV : Hid (∀ u, Below w0.heap.size w0 u → View u (.slice za n zc) Z) := fun u hu => (hZ.out.kept HB0.out.block).kept hu.block
  have RV : Hid (∀ u, Below w0.heap.size w0 u → View u (.slice ra rl rc) RR) := fun u hu => (hRR.out.kept HB0.out.block).kept hu.block
  have MV : Hid (∀ u, Below w0.heap.size w0 u → View u (.slice ma ml mc) MM) := fun u hu => (hMM.out.kept HB0.out.block).kept hu.block
  obtain ⟨c0, c1, c2, c3⟩ := BX.out w0 (Below.refl _ _)
  clear hm hq hT0
  go_enter Tryd.func4, Tryd.ntmps4
  go_upto_region 1 with fail
  rw [← hw0]
  clear hw0
  go_wp2_with (first
    | (go_at_call 7; refine (known_yes KN.out _).mono ?_; rintro e x1 ⟨rfl, hx1⟩; obtain rfl := hx1.symm)
    | (go_at_call 12; refine (filled_ok m rl rc ra RR w0 (by omega) hrl (RV.out _ (Below.refl _ _)) hRl).mono ?_))
  rintro e1' w1 ⟨br, R, rfl, hbr0, hbr, hRlen, hMR, hB1⟩
  have HB1 : Hid (Below w0.heap.size w0 w1) := hB1
  have HR : Hid (Mat w1 br R) := hMR
  have HRl : Hid (R.length = m) := hRlen
  obtain ⟨c0, c1, c2, c3⟩ := BX.out w1 hB1
  clear hB1 hMR hRlen
  have HS : Hid (Calls Tryd.prog 8 #[.int .i64 h, .slice za n zc, .int .i64 ((cnt : Int) + 1), .slice (some ⟨br, 0, none⟩) m m] w1 fun e w' => ∃ b, e = .returned (.tuple #[.slice (some ⟨b, 0, none⟩) q q, .int .i64 0]) ∧ w1.heap.size ≤ b ∧ Mat w' b (splitL h n cnt Z R) ∧ Below w1.heap.size w1 w') := by
    have hmm := HM.out
    have hqq := HQ.out
    have hr := HRl.out
    have v : View w1 (.slice (some ⟨br, 0, none⟩) m m) R := by
      have := HR.out.view (by omega)
      rwa [hr] at this
    have q1 := split_ok h n cnt _ _ Z R za (some ⟨br, 0, none⟩) zc m w1 KN (TB.out _ HB1.out) hn hc rfl (by rw [hmm]) (ZV.out _ HB1.out) hZl (by rw [← hmm]; exact v) (by rw [← hmm]; exact hr)
    rw [← hmm, ← hqq] at q1
    exact q1
  go_wp2_with (first | (go_at_call 8; refine HS.out.mono ?_))
  rintro e2' w2 ⟨bm, rfl, hbm0, hMM2, hB2⟩
  have HB2 : Hid (Below w0.heap.size w0 w2) := HB1.out.trans (hB2.mono HB1.out.size)
  have HMm : Hid (Mat w2 bm (splitL h n cnt Z R)) := hMM2
  have HR2 : Hid (Mat w2 br R) := HR.out.kept (hB2.block br hbr)
  have hbr2 : br < w2.heap.size := Nat.lt_of_lt_of_le hbr hB2.size
  have hbm2 : bm < w2.heap.size := hMM2.lt (by rw [splitL_eq]; intro e; have := congrArg List.length e; simp at this; omega)
  have hne : br ≠ bm := by omega
  obtain ⟨c0, c1, c2, c3⟩ := BX.out w2 HB2.out
  have hsl : ∀ u, (Instr.slice 22 (.slice (some ⟨bm, 0, none⟩) q q) none (some (.int .i64 (m : Nat))) none).run Tryd.prog u = .ok (.slice (some ⟨bm, 0, none⟩) m q) u := fun u => by
    have := HQ.out
    rw [run_slice_h u 22 (some ⟨bm, 0, none⟩) q q und22p .i64 m (by omega) (by omega), elem22p, sizeOf5p]
    simp [Result.andThen, sliced, Addr.add]
  have S1 : Hid (Calls Tryd.prog 11 #[.slice (some ⟨bm, 0, none⟩) m q, .slice (some ⟨br, 0, none⟩) m m] w2 fun e w' => e = .returned (.bool true) ∧ ∃ d, w' = w2.drewN d) := by
    have hr := HRl.out
    have hqq := HQ.out
    have v2 : View w2 (.slice (some ⟨br, 0, none⟩) m m) R := by
      have := HR2.out.view (by omega)
      rwa [hr] at this
    have v1 : View w2 (.slice (some ⟨bm, 0, none⟩) m q) R := ⟨_, q, by rw [hr], by omega, by unfold maxLen; omega, (fun e => by cases e), .inr ⟨bm, 0, rfl, fun i hi => by
      rw [Nat.zero_add, HMm.out.cell i (by rw [splitL_eq]; simp; omega), splitL_eq, List.getD_eq_getElem?_getD, List.getElem?_append_left hi, ← List.getD_eq_getElem?_getD]⟩⟩
    refine (same_any _ _ R R w2 v1 v2).mono ?_
    rintro e w' ⟨rfl, d, rfl⟩
    exact ⟨by simp, d, rfl⟩
  clear hMM2 hB2 HS HR
  go_wp2_with (first
    | (go_at_call 10; refine (num_ok _ _).mono ?_; rintro e3 w3 ⟨rfl, hw3⟩; obtain rfl := hw3.symm)
    | (go_at_call 11; refine S1.out.mono ?_))
  rintro e3' w3 ⟨rfl, d3, rfl⟩
  have HB3 : Hid (Below w0.heap.size w0 (w2.drewN d3)) := ⟨HB2.out.os, HB2.out.tape, HB2.out.output, HB2.out.size, HB2.out.block⟩
  have HMm3 : Hid (Mat (w2.drewN d3) bm (splitL h n cnt Z R)) := HMm.out.kept rfl
  have HR3 : Hid (Mat (w2.drewN d3) br R) := HR2.out.kept rfl
  have hbr3 : br < (w2.drewN d3).heap.size := hbr2
  have hbm3 : bm < (w2.drewN d3).heap.size := hbm2
  generalize w2.drewN d3 = w3 at HB3 HMm3 HR3 hbr3 hbm3 ⊢
  clear hbr2 hbm2 S1 HMm HR2 hsl
  obtain ⟨c0, c1, c2, c3⟩ := BX.out w3 HB3.out
  have HRm : Hid (R.length = n * cnt) := by show _ = _; rw [← HM.out]; exact HRl.out
  have HG : Hid (Calls Tryd.prog 9 #[.int .i64 h, .slice (some ⟨bm, 0, none⟩) q q, .int .i64 ((cnt : Int) + 1)] w3 fun e w' => ∃ b, e = .returned (.tuple #[.slice (some ⟨b, 0, none⟩) n n, .int .i64 0]) ∧ w3.heap.size ≤ b ∧ Mat w' b Z ∧ Below w3.heap.size w3 w') := by
    have hmm := HM.out
    have hqq := HQ.out
    have hr := HRl.out
    have hsl : (splitL h n cnt Z R).length = q := by rw [splitL_eq]; simp; omega
    have v : View w3 (.slice (some ⟨bm, 0, none⟩) q q) (splitL h n cnt Z R) := by
      have := HMm3.out.view (by omega)
      rwa [hsl] at this
    have q1 := merge_ok h n cnt (splitL h n cnt Z R) bm 0 q w3 KN (TB.out _ HB3.out) hn hc (by rw [← hmm, ← hqq]; exact v) (by rw [← hmm, ← hqq]; exact hsl)
    rw [merge_split h n cnt Z R HRm.out hZl.out hB.out, ← hmm, ← hqq] at q1
    exact q1
  go_wp2_with (first | (go_at_call 9; refine HG.out.mono ?_))
  rintro e4' w4 ⟨bs, rfl, hbs0, hMs4, hB4⟩
  have HB4 : Hid (Below w0.heap.size w0 w4) := HB3.out.trans (hB4.mono HB3.out.size)
  have HMm4 : Hid (Mat w4 bm (splitL h n cnt Z R)) := HMm3.out.kept (hB4.block bm hbm3)
  have HR4 : Hid (Mat w4 br R) := HR3.out.kept (hB4.block br hbr3)
  have hbr4 : br < w4.heap.size := Nat.lt_of_lt_of_le hbr3 hB4.size
  have hbm4 : bm < w4.heap.size := Nat.lt_of_lt_of_le hbm3 hB4.size
  obtain ⟨c0, c1, c2, c3⟩ := BX.out w4 HB4.out
  have S2 : Hid (Calls Tryd.prog 11 #[.slice (some ⟨bs, 0, none⟩) n n, .slice za n zc] w4 fun e w' => e = .returned (.bool true) ∧ ∃ d, w' = w4.drewN d) := by
    have v1 : View w4 (.slice (some ⟨bs, 0, none⟩) n n) Z := by
      have := hMs4.view (by have := hZl.out; omega)
      rwa [hZl.out] at this
    refine (same_any _ _ Z Z w4 v1 (ZV.out _ HB4.out)).mono ?_
    rintro e w' ⟨rfl, d, rfl⟩
    exact ⟨by simp, d, rfl⟩
  clear hMs4 hB4 HG HMm3 HR3 hbr3 hbm3
  go_wp2_with (first
    | (go_at_call 10; refine (num_ok _ _).mono ?_; rintro e3 x3 ⟨rfl, hx3⟩; obtain rfl := hx3.symm)
    | (go_at_call 11; refine S2.out.mono ?_))
  rintro e5' w5 ⟨rfl, d5, rfl⟩
  have HB5 : Hid (Below w0.heap.size w0 (w4.drewN d5)) := ⟨HB4.out.os, HB4.out.tape, HB4.out.output, HB4.out.size, HB4.out.block⟩
  have HMm5 : Hid (Mat (w4.drewN d5) bm (splitL h n cnt Z R)) := HMm4.out.kept rfl
  have HR5 : Hid (Mat (w4.drewN d5) br R) := HR4.out.kept rfl
  have hbr5 : br < (w4.drewN d5).heap.size := hbr4
  have hbm5 : bm < (w4.drewN d5).heap.size := hbm4
  generalize w4.drewN d5 = w5 at HB5 HMm5 HR5 hbr5 hbm5 ⊢
  clear hbr4 hbm4 S2 HMm4 HR4
  have HFl : Hid (Calls Tryd.prog 12 #[.int .i64 (n : Nat), .slice ma ml mc] w5 fun e w' => ∃ b X, e = .returned (.slice (some ⟨b, 0, none⟩) n n) ∧ w5.heap.size ≤ b ∧ b < w'.heap.size ∧ X.length = n ∧ Mat w' b X ∧ Below w5.heap.size w5 w') := filled_ok n ml mc ma MM w5 (by omega) hml (MV.out _ HB5.out) hMl
  go_wp2_with (first | (go_at_call 12; refine HFl.out.mono ?_))
  rintro e6' w6 ⟨bx, X, rfl, hbx0, hbx6, hXl, hMx6, hB6⟩
  have HB6 : Hid (Below w0.heap.size w0 w6) := HB5.out.trans (hB6.mono HB5.out.size)
  have HMm6 : Hid (Mat w6 bm (splitL h n cnt Z R)) := HMm5.out.kept (hB6.block bm hbm5)
  have HR6 : Hid (Mat w6 br R) := HR5.out.kept (hB6.block br hbr5)
  have HX6 : Hid (Mat w6 bx X) := hMx6
  have HXl : Hid (X.length = n) := hXl
  have hbr6 : br < w6.heap.size := Nat.lt_of_lt_of_le hbr5 hB6.size
  have hbm6 : bm < w6.heap.size := Nat.lt_of_lt_of_le hbm5 hB6.size
  have hxm : bx ≠ bm ∧ bx ≠ br := by omega
  clear hMx6 hXl hB6 HFl HMm5 HR5 hbr5 hbm5
  go_wp2_with fail
  go_loopw [11] (fun i wr => ∃ k : Nat, k ≤ n ∧ i = .int .i64 (k : Nat) ∧ Hid (Below w0.heap.size w0 wr ∧ Mat wr bm (mixM h n cnt Z R X k) ∧ Mat wr br R ∧ Mat wr bx X ∧ br < wr.heap.size ∧ bm < wr.heap.size ∧ bx < wr.heap.size)) (fun i _ => n - (intOf i).toNat)
  case atStart => exact ⟨0, Nat.zero_le _, rfl, ⟨HB6.out, by rw [mixM_zero]; exact HMm6.out, HR6.out, HX6.out, hbr6, hbm6, hbx6⟩⟩
  case round =>
    obtain ⟨k, hk, rfl, HI⟩ := hrel
    clear HMm6 HR6 HX6 hbr6 hbm6 hbx6
    by_cases hlt : k < n
    · obtain ⟨p, hp⟩ : ∃ p, p = m + k := ⟨_, rfl⟩
      have hpi : ((m : Nat) : Int) + ((k : Nat) : Int) = (p : Nat) := by omega
      have hpq : p < q := by have := HQ.out; omega
      have hpw : IntKind.i64.wrap ((p : Nat) : Int) = (p : Nat) := wrap64_small (by omega) (by omega)
      obtain ⟨y, hy⟩ : ∃ y, y = bits .xor .u8 (mF h n cnt R k) (Z.getD k 0) := ⟨_, rfl⟩
      obtain ⟨x, hx⟩ : ∃ x, x = X.getD k 0 := ⟨_, rfl⟩
      have hRl := HRl.out
      have hXl := HXl.out
      have hll := mixM_length h n cnt Z R X k
      have g1 : wr.cell? ⟨bm, p, none⟩ = some (.int .u8 y) := by
        have q1 := HI.out.2.1.cell p (by rw [hll]; omega)
        rw [q1, hp, ← hRl, mixM_at h n cnt Z R X k hlt, hy]
      have g2 : wr.cell? ⟨bx, k, none⟩ = some (.int .u8 x) := by rw [HI.out.2.2.2.1.cell k (by omega), hx]
      have g3 : wr.frozen? ⟨bm, p, none⟩ = false := by
        have q1 := (HI.out.2.1.there p (by rw [hll]; omega)).2
        simpa using q1
      have HN : Hid (Below w0.heap.size w0 (wr.setCell ⟨bm, p, none⟩ (.int .u8 (bits .xor .u8 y x))).drew ∧ Mat (wr.setCell ⟨bm, p, none⟩ (.int .u8 (bits .xor .u8 y x))).drew bm (mixM h n cnt Z R X (k + 1)) ∧ Mat (wr.setCell ⟨bm, p, none⟩ (.int .u8 (bits .xor .u8 y x))).drew br R ∧ Mat (wr.setCell ⟨bm, p, none⟩ (.int .u8 (bits .xor .u8 y x))).drew bx X ∧ br < (wr.setCell ⟨bm, p, none⟩ (.int .u8 (bits .xor .u8 y x))).drew.heap.size ∧ bm < (wr.setCell ⟨bm, p, none⟩ (.int .u8 (bits .xor .u8 y x))).drew.heap.size ∧ bx < (wr.setCell ⟨bm, p, none⟩ (.int .u8 (bits .xor .u8 y x))).drew.heap.size) := by
        obtain ⟨i1, i2, i3, i4, i5, i6, i7⟩ := HI.out
        have hw01 := HB1.out.size
        have ho : ∀ j, j < wr.heap.size → j ≠ bm → (wr.setCell ⟨bm, p, none⟩ (.int .u8 (bits .xor .u8 y x))).drew.heap[j]? = wr.heap[j]? := fun j hj hne' => World.heap_setCells_other wr bm p [.int .u8 (bits .xor .u8 y x)] hj hne'
        have hsz : (wr.setCell ⟨bm, p, none⟩ (.int .u8 (bits .xor .u8 y x))).drew.heap.size = wr.heap.size := size_setCells bm [.int .u8 (bits .xor .u8 y x)] p wr
        refine ⟨(i1.setCell (p := ⟨bm, p, none⟩) (by show _ ≤ bm; omega) _).drew, ?_, i3.kept (ho br i5 hne), i4.kept (ho bx i7 hxm.1), by omega, by omega, by omega⟩
        have q1 := i2.set (k := p) (by rw [hll]; omega) (bits .xor .u8 y x)
        have q2 := mixM_succ h n cnt Z R X k hlt
        rw [hRl, ← hp, ← hy, ← hx] at q2
        rw [q2] at q1
        exact q1.kept rfl
      clear hy hx HI hll hp
      go_upto_region 15 with fail
      have hS0 : wr.drew.cell? ⟨bm, p, none⟩ = some (.int .u8 y) ∧ wr.drew.cell? ⟨bx, k, none⟩ = some (.int .u8 x) := ⟨g1, g2⟩
      refine wp_region_noPanic ?_
      refine wp_region_till (fun u => u.cell? ⟨bm, p, none⟩ = some (.int .u8 y) ∧ u.cell? ⟨bx, k, none⟩ = some (.int .u8 x)) 18 (by kernel_rfl) (by decide) (by decide +kernel) (by decide +kernel) (by decide +kernel) (fun inv => ?_)
      refine till_at 0 114 (.slice (some ⟨bm, 0, none⟩) q q) inv rfl rfl (by decide) (by decide +kernel) (by decide +kernel) (fun _ _ _ h => h) (hS0) (Or.inl ⟨by kernel_rfl, fun w' hS' => by go_simp⟩) (fun inv' => ?_)
      clear inv; have inv := inv'; clear inv'
      simp only [List.setIfInBounds_toArray, List.set_cons_zero, List.set_cons_succ]
      refine till_at 1 115 (.slice (some ⟨br, 0, none⟩) m m) inv rfl rfl (by decide) (by decide +kernel) (by decide +kernel) (fun _ _ _ h => h) (hS0) (Or.inl ⟨by kernel_rfl, fun w' hS' => by go_simp⟩) (fun inv' => ?_)
      clear inv; have inv := inv'; clear inv'
      simp only [List.setIfInBounds_toArray, List.set_cons_zero, List.set_cons_succ]
      refine till_at 2 116 (.int .i64 (m : Nat)) inv rfl rfl (by decide) (by decide +kernel) (by decide +kernel) (fun _ _ _ h => h) (hS0) (Or.inl ⟨by kernel_rfl, fun w' hS' => by go_simp⟩) (fun inv' => ?_)
      clear inv; have inv := inv'; clear inv'
      simp only [List.setIfInBounds_toArray, List.set_cons_zero, List.set_cons_succ]
      refine till_at 3 117 (.int .i64 (k : Nat)) inv rfl rfl (by decide) (by decide +kernel) (by decide +kernel) (fun _ _ _ h => h) (hS0) (Or.inl ⟨by kernel_rfl, fun w' hS' => by go_simp⟩) (fun inv' => ?_)
      clear inv; have inv := inv'; clear inv'
      simp only [List.setIfInBounds_toArray, List.set_cons_zero, List.set_cons_succ]
      refine till_at 4 118 (.int .i64 (p : Nat)) inv rfl rfl (by decide) (by decide +kernel) (by decide +kernel) (fun _ _ _ h => h) (hS0) (Or.inl ⟨by kernel_rfl, fun w' hS' => by go_simp⟩) (fun inv' => ?_)
      clear inv; have inv := inv'; clear inv'
      simp only [List.setIfInBounds_toArray, List.set_cons_zero, List.set_cons_succ]
      refine till_at 5 119 (.slice (some ⟨bm, 0, none⟩) q q) inv rfl rfl (by decide) (by decide +kernel) (by decide +kernel) (fun _ _ _ h => h) (hS0) (Or.inl ⟨by kernel_rfl, fun w' hS' => by go_simp⟩) (fun inv' => ?_)
      clear inv; have inv := inv'; clear inv'
      simp only [List.setIfInBounds_toArray, List.set_cons_zero, List.set_cons_succ]
      refine till_at 6 120 (.slice (some ⟨br, 0, none⟩) m m) inv rfl rfl (by decide) (by decide +kernel) (by decide +kernel) (fun _ _ _ h => h) (hS0) (Or.inl ⟨by kernel_rfl, fun w' hS' => by go_simp⟩) (fun inv' => ?_)
      clear inv; have inv := inv'; clear inv'
      simp only [List.setIfInBounds_toArray, List.set_cons_zero, List.set_cons_succ]
      refine till_at 7 121 (.int .i64 (m : Nat)) inv rfl rfl (by decide) (by decide +kernel) (by decide +kernel) (fun _ _ _ h => h) (hS0) (Or.inl ⟨by kernel_rfl, fun w' hS' => by go_simp⟩) (fun inv' => ?_)
      clear inv; have inv := inv'; clear inv'
      simp only [List.setIfInBounds_toArray, List.set_cons_zero, List.set_cons_succ]
      refine till_at 8 122 (.int .i64 (k : Nat)) inv rfl rfl (by decide) (by decide +kernel) (by decide +kernel) (fun _ _ _ h => h) (hS0) (Or.inl ⟨by kernel_rfl, fun w' hS' => by go_simp⟩) (fun inv' => ?_)
      clear inv; have inv := inv'; clear inv'
      simp only [List.setIfInBounds_toArray, List.set_cons_zero, List.set_cons_succ]
      refine till_at 9 123 (.int .i64 (p : Nat)) inv rfl rfl (by decide) (by decide +kernel) (by decide +kernel) (fun _ _ _ h => h) (hS0) (Or.inl ⟨by kernel_rfl, fun w' hS' => by go_simp⟩) (fun inv' => ?_)
      clear inv; have inv := inv'; clear inv'
      simp only [List.setIfInBounds_toArray, List.set_cons_zero, List.set_cons_succ]
      refine till_at 10 124 (.pointer (some ⟨bm, p, none⟩)) inv rfl rfl (by decide) (by decide +kernel) (by decide +kernel) (fun _ _ _ h => h) (hS0) (Or.inl ⟨by kernel_rfl, fun w' hS' => by go_simp⟩) (fun inv' => ?_)
      clear inv; have inv := inv'; clear inv'
      simp only [List.setIfInBounds_toArray, List.set_cons_zero, List.set_cons_succ]
      refine till_at 11 125 (.int .u8 y) inv rfl rfl (by decide) (by decide +kernel) (by decide +kernel) (fun _ _ _ h => h) (hS0) (Or.inl ⟨by kernel_rfl, fun w' hS' => by have q1 := hS'.1; go_simp⟩) (fun inv' => ?_)
      clear inv; have inv := inv'; clear inv'
      simp only [List.setIfInBounds_toArray, List.set_cons_zero, List.set_cons_succ]
      refine till_at 12 126 (.slice (some ⟨bx, 0, none⟩) n n) inv rfl rfl (by decide) (by decide +kernel) (by decide +kernel) (fun _ _ _ h => h) (hS0) (Or.inl ⟨by kernel_rfl, fun w' hS' => by go_simp⟩) (fun inv' => ?_)
      clear inv; have inv := inv'; clear inv'
      simp only [List.setIfInBounds_toArray, List.set_cons_zero, List.set_cons_succ]
      refine till_at 13 127 (.int .i64 (k : Nat)) inv rfl rfl (by decide) (by decide +kernel) (by decide +kernel) (fun _ _ _ h => h) (hS0) (Or.inl ⟨by kernel_rfl, fun w' hS' => by go_simp⟩) (fun inv' => ?_)
      clear inv; have inv := inv'; clear inv'
      simp only [List.setIfInBounds_toArray, List.set_cons_zero, List.set_cons_succ]
      refine till_at 14 128 (.pointer (some ⟨bx, k, none⟩)) inv rfl rfl (by decide) (by decide +kernel) (by decide +kernel) (fun _ _ _ h => h) (hS0) (Or.inl ⟨by kernel_rfl, fun w' hS' => by go_simp⟩) (fun inv' => ?_)
      clear inv; have inv := inv'; clear inv'
      simp only [List.setIfInBounds_toArray, List.set_cons_zero, List.set_cons_succ]
      refine till_at 15 129 (.int .u8 x) inv rfl rfl (by decide) (by decide +kernel) (by decide +kernel) (fun _ _ _ h => h) (hS0) (Or.inl ⟨by kernel_rfl, fun w' hS' => by have q1 := hS'.2; go_simp⟩) (fun inv' => ?_)
      clear inv; have inv := inv'; clear inv'
      simp only [List.setIfInBounds_toArray, List.set_cons_zero, List.set_cons_succ]
      refine till_at 16 130 (.int .u8 (bits .xor .u8 y x)) inv rfl rfl (by decide) (by decide +kernel) (by decide +kernel) (fun _ _ _ h => h) (hS0) (Or.inl ⟨by kernel_rfl, fun w' hS' => by go_simp⟩) (fun inv' => ?_)
      clear inv; have inv := inv'; clear inv'
      simp only [List.setIfInBounds_toArray, List.set_cons_zero, List.set_cons_succ]
      refine till_at 17 131 (.pointer (some ⟨bm, p, none⟩)) inv rfl rfl (by decide) (by decide +kernel) (by decide +kernel) (fun _ _ _ h => h) (hS0) (Or.inl ⟨by kernel_rfl, fun w' hS' => by go_simp⟩) (fun inv' => ?_)
      clear inv; have inv := inv'; clear inv'
      simp only [List.setIfInBounds_toArray, List.set_cons_zero, List.set_cons_succ]
      refine till_tail (i := 18) (by decide +kernel) (by decide) rfl (fun K hK => ?_)
      go_wp2_with fail
      refine hK.out _ _ ?_
      clear hK K
      try simp only [List.setIfInBounds_toArray, List.set_cons_zero, List.set_cons_succ]
      refine till_done (by decide +kernel) ?_ _
      refine NoPanic.normal ?_
      go_wp2_with fail
      go_roundw
      case rel => exact ⟨k + 1, by omega, by go_num, HN⟩
      case measure => simp [intOf]; omega
    · have hkn : k = n := by omega
      rw [hkn] at HI ⊢
      have hef : decide ((n : Int) < (n : Int)) = false := by simp
      clear hlt hk hkn
      obtain ⟨i1, i2, i3, i4, hbr7, hbm7, hbx7⟩ := HI.out
      have HB7 : Hid (Below w0.heap.size w0 wr) := i1
      have HM7 : Hid (Mat wr bm (mixM h n cnt Z R X n)) := i2
      have HR7 : Hid (Mat wr br R) := i3
      have HX7 : Hid (Mat wr bx X) := i4
      obtain ⟨c0, c1, c2, c3⟩ := BX.out wr i1
      have HG : Hid (Calls Tryd.prog 9 #[.int .i64 h, .slice (some ⟨bm, 0, none⟩) q q, .int .i64 ((cnt : Int) + 1)] wr fun e w' => ∃ b, e = .returned (.tuple #[.slice (some ⟨b, 0, none⟩) n n, .int .i64 0]) ∧ wr.heap.size ≤ b ∧ Mat w' b (mixT n Z X) ∧ Below wr.heap.size wr w') := by
        have hmm := HM.out
        have hqq := HQ.out
        have hr := HRl.out
        have hsl : (mixM h n cnt Z R X n).length = q := by rw [mixM_length]; omega
        have v : View wr (.slice (some ⟨bm, 0, none⟩) q q) (mixM h n cnt Z R X n) := by
          have := i2.view (by omega)
          rwa [hsl] at this
        have q1 := merge_ok h n cnt (mixM h n cnt Z R X n) bm 0 q wr KN (TB.out _ i1) hn hc (by rw [← hmm, ← hqq]; exact v) (by rw [← hmm, ← hqq]; exact hsl)
        rw [merge_mix h n cnt Z R X HRm.out, ← hmm, ← hqq] at q1
        exact q1
      clear i1 i2 i3 i4 HI
      go_wp2_with (first | (go_at_call 9; refine HG.out.mono ?_))
      rintro e8' w8 ⟨bt, rfl, hbt0, hMt8, hB8⟩
      have HB8 : Hid (Below w0.heap.size w0 w8) := HB7.out.trans (hB8.mono HB7.out.size)
      have HM8 : Hid (Mat w8 bm (mixM h n cnt Z R X n)) := HM7.out.kept (hB8.block bm hbm7)
      have HR8 : Hid (Mat w8 br R) := HR7.out.kept (hB8.block br hbr7)
      have HX8 : Hid (Mat w8 bx X) := HX7.out.kept (hB8.block bx hbx7)
      have HT8 : Hid (Mat w8 bt (mixT n Z X)) := hMt8
      have hbm8 : bm < w8.heap.size := Nat.lt_of_lt_of_le hbm7 hB8.size
      have hbt8 : bt < w8.heap.size := hMt8.lt (by intro e; have := congrArg List.length e; rw [mixT_length] at this; simp at this; omega)
      clear hB8 hMt8 HG HM7 HR7 HX7 HB7
      go_wp2_with (first
        | (go_at_call 10; refine (num_ok _ _).mono ?_; rintro e3 x3 ⟨rfl, hx3⟩; obtain rfl := hx3.symm))
      go_loopw [13] (fun i wr2 => ∃ j : Nat, j ≤ n ∧ i = .int .i64 (j : Nat) ∧ ∃ d, wr2 = w8.drewN d) (fun i _ => n - (intOf i).toNat)
      case atStart => exact ⟨0, Nat.zero_le _, rfl, 0, rfl⟩
      case round =>
        obtain ⟨j, hj, rfl, d, rfl⟩ := hrel
        by_cases hlt : j < n
        · obtain ⟨x, hx⟩ : ∃ x, x = X.getD j 0 := ⟨_, rfl⟩
          obtain ⟨z, hz⟩ : ∃ z, z = Z.getD j 0 := ⟨_, rfl⟩
          have hXl := HXl.out
          have g1 : w8.cell? ⟨bt, j, none⟩ = some (.int .u8 (bits .xor .u8 z x)) := by
            rw [HT8.out.cell j (by rw [mixT_length]; exact hlt), mixT, getD_map n j _ hlt, hx, hz]
          have g2 : w8.cell? ⟨bx, j, none⟩ = some (.int .u8 x) := by
            rw [HX8.out.cell j (by omega), hx]
          obtain ⟨zb, zo, rfl, g3⟩ : ∃ zb zo, za = some ⟨zb, zo, none⟩ ∧ w8.cell? ⟨zb, zo + j, none⟩ = some (.int .u8 z) := by
            have hl' := hZl.out
            obtain ⟨a', c', e, q1, q2, q3, q4⟩ := ZV.out _ HB8.out
            injection e with e4 e5 e6
            rcases q4 with q4 | ⟨zb, zo, q5, q6⟩
            · rw [q4] at hl'; simp at hl'; omega
            · refine ⟨zb, zo, by rw [e4, q5], ?_⟩
              rw [q6 j (by omega), hz]
          obtain ⟨c0, c1, c2, c3⟩ := BX.out w8 HB8.out
          clear hx hz
          go_wp2
          go_quiet (fail)
          go_wp2
          go_roundw
          case rel => exact ⟨j + 1, by omega, by go_num, _, rfl⟩
          case measure => simp [intOf]; omega
        · have hjn : j = n := by omega
          rw [hjn]
          clear hjn hlt hj
          have HB9 : Hid (Below w0.heap.size w0 (w8.drewN d)) := ⟨HB8.out.os, HB8.out.tape, HB8.out.output, HB8.out.size, HB8.out.block⟩
          have HM9 : Hid (Mat (w8.drewN d) bm (mixM h n cnt Z R X n)) := HM8.out.kept rfl
          have HR9 : Hid (Mat (w8.drewN d) br R) := HR8.out.kept rfl
          have HT9 : Hid (Mat (w8.drewN d) bt (mixT n Z X)) := HT8.out.kept rfl
          have hbm9 : bm < (w8.drewN d).heap.size := hbm8
          generalize w8.drewN d = w9 at HB9 HM9 HR9 HT9 hbm9 ⊢
          obtain ⟨c0, c1, c2, c3⟩ := BX.out w9 HB9.out
          have HS : Hid (Calls Tryd.prog 8 #[.int .i64 h, .slice (some ⟨bt, 0, none⟩) n n, .int .i64 ((cnt : Int) + 1), .slice (some ⟨br, 0, none⟩) m m] w9 fun e w' => ∃ b, e = .returned (.tuple #[.slice (some ⟨b, 0, none⟩) q q, .int .i64 0]) ∧ w9.heap.size ≤ b ∧ Mat w' b (mixM h n cnt Z R X n) ∧ Below w9.heap.size w9 w') := by
            have hmm := HM.out
            have hqq := HQ.out
            have hr := HRl.out
            have v : View w9 (.slice (some ⟨br, 0, none⟩) m m) R := by
              have := HR9.out.view (by omega)
              rwa [hr] at this
            have vt : View w9 (.slice (some ⟨bt, 0, none⟩) n n) (mixT n Z X) := by
              have := HT9.out.view (by rw [mixT_length]; omega)
              rwa [mixT_length] at this
            have q1 := split_ok h n cnt _ _ (mixT n Z X) R (some ⟨bt, 0, none⟩) (some ⟨br, 0, none⟩) n m w9 KN (TB.out _ HB9.out) hn hc rfl (by rw [hmm]) vt (mixT_length n Z X) (by rw [← hmm]; exact v) (by rw [← hmm]; exact hr)
            rw [split_mix, ← hmm, ← hqq] at q1
            exact q1
          go_wp2_with (first | (go_at_call 8; refine HS.out.mono ?_))
          rintro e10' w10 ⟨ba, rfl, hba0, hMa, hB10⟩
          have HB10 : Hid (Below w0.heap.size w0 w10) := HB9.out.trans (hB10.mono HB9.out.size)
          have hlq : (mixM h n cnt Z R X n).length = q := by rw [mixM_length, HRl.out]; exact HQ.out.symm
          have v1 : View w10 (.slice (some ⟨ba, 0, none⟩) q q) (mixM h n cnt Z R X n) := by
            have := hMa.view (by omega)
            rwa [hlq] at this
          have v2 : View w10 (.slice (some ⟨bm, 0, none⟩) q q) (mixM h n cnt Z R X n) := by
            have := (HM9.out.kept (hB10.block bm hbm9)).view (by omega)
            rwa [hlq] at this
          have S3 : Hid (Calls Tryd.prog 11 #[.slice (some ⟨ba, 0, none⟩) q q, .slice (some ⟨bm, 0, none⟩) q q] w10 fun e w' => e = .returned (.bool true) ∧ ∃ d, w' = w10.drewN d) := by
            refine (same_any _ _ _ _ w10 v1 v2).mono ?_
            rintro e w' ⟨rfl, d, rfl⟩
            exact ⟨by simp, d, rfl⟩
          clear v1 v2 hlq hMa hB10 HS
          go_wp2_with (first
            | (go_at_call 10; refine (num_ok _ _).mono ?_; rintro e3 x3 ⟨rfl, hx3⟩; obtain rfl := hx3.symm)
            | (go_at_call 11; refine S3.out.mono ?_))
          rintro e11 w11 ⟨rfl, d11, rfl⟩
          go_wp2_with fail
          go_ret
          have hfin : Below w.heap.size w w10 := HB0.out.trans (HB10.out.mono HB0.out.size)
          exact ⟨rfl, hfin.os, hfin.tape, hfin.output, hfin.size, hfin.block⟩
set_option maxHeartbeats 1600000 in
set_option maxRecDepth 100000 in
theorem back_ok (h st : Int) (za ra ma : Option Addr) (n zc rl rc ml mc : Nat) (Z RR MM : List Int) (w : World) (hZ : Hid (View w (.slice za n zc) Z)) (hZl : Hid (Z.length = n)) (hB : Hid (AllBytes Z)) (hRR : Hid (View w (.slice ra rl rc) RR)) (hRl : Hid (RR.length = rl)) (hMM : Hid (View w (.slice ma ml mc) MM)) (hMl : Hid (MM.length = ml)) (hrl : rl ≤ 9223372036854775807) (hml : ml ≤ 9223372036854775807) (hT : Hid (Tables w)) :
    Calls Tryd.prog 4 #[.agg #[.int .i64 h, .slice za n zc, .int .i64 st, .slice ra rl rc], .slice ma ml mc] w fun e w' => e = .returned (.bool true) ∧ Below w.heap.size w w' := by
  have HF : Hid (Below w.heap.size w (w.alloc (.cells #[.int .i64 h, .slice za n zc, .int .i64 st, .slice ra rl rc] 32))) := (Below.refl _ w).alloc (Nat.le_refl _) _
  by_cases hk : Known h
  · have HK : Hid (Known h) := hk
    clear hk
    by_cases h1 : n < 1
    · have e1 : decide ((n : Int) < 1) = true := by simp; omega
      go_enter Tryd.func4, Tryd.ntmps4
      go_wp2_with (first | (go_at_call 7; refine (known_yes HK.out _).mono ?_; rintro e w1 ⟨rfl, hw1⟩; obtain rfl := hw1.symm))
      go_ret
      exact ⟨rfl, HF.out⟩
    have e1 : decide ((n : Int) < 1) = false := by simp; omega
    by_cases h2 : 1024 < n
    · have e2 : decide ((1024 : Int) < (n : Int)) = true := by simp; omega
      go_enter Tryd.func4, Tryd.ntmps4
      go_wp2_with (first | (go_at_call 7; refine (known_yes HK.out _).mono ?_; rintro e w1 ⟨rfl, hw1⟩; obtain rfl := hw1.symm))
      go_ret
      exact ⟨rfl, HF.out⟩
    have e2 : decide ((1024 : Int) < (n : Int)) = false := by simp; omega
    by_cases h3 : st < 1
    · have e3 : decide (st < 1) = true := by simpa using h3
      go_enter Tryd.func4, Tryd.ntmps4
      go_wp2_with (first | (go_at_call 7; refine (known_yes HK.out _).mono ?_; rintro e w1 ⟨rfl, hw1⟩; obtain rfl := hw1.symm))
      go_ret
      exact ⟨rfl, HF.out⟩
    have e3 : decide (st < 1) = false := by simpa using h3
    by_cases h4 : 4000 < st
    · have e4 : decide ((4000 : Int) < st) = true := by simpa using h4
      go_enter Tryd.func4, Tryd.ntmps4
      go_wp2_with (first | (go_at_call 7; refine (known_yes HK.out _).mono ?_; rintro e w1 ⟨rfl, hw1⟩; obtain rfl := hw1.symm))
      go_ret
      exact ⟨rfl, HF.out⟩
    have e4 : decide ((4000 : Int) < st) = false := by simpa using h4
    obtain ⟨cnt, rfl⟩ : ∃ cnt : Nat, st = (cnt : Int) + 1 := ⟨(st - 1).toNat, by omega⟩
    by_cases h5 : 32768 < n * cnt + n
    · obtain ⟨q, hq⟩ : ∃ q, q = n * cnt + n := ⟨_, rfl⟩
      have hmul : ((n : Nat) : Int) * ((cnt : Int) + 1) = (q : Nat) := by
        rw [hq, Int.mul_add, Int.mul_one]
        simp
      have hql : q ≤ 1024 * 4000 + 1024 := by rw [hq]; exact Nat.add_le_add (Nat.mul_le_mul (by omega) (by omega)) (by omega)
      have hw1 : IntKind.i64.wrap ((q : Nat) : Int) = (q : Nat) := wrap64_small (by omega) (by omega)
      have e5 : decide ((32768 : Int) < (q : Int)) = true := by simp; omega
      clear h5 hq
      go_enter Tryd.func4, Tryd.ntmps4
      go_wp2_with (first | (go_at_call 7; refine (known_yes HK.out _).mono ?_; rintro e w1 ⟨rfl, hw1⟩; obtain rfl := hw1.symm))
      go_ret
      exact ⟨rfl, HF.out⟩
    exact back_good h za ra ma n zc cnt rl rc ml mc Z RR MM w HK (by omega) (by omega) (by omega) hZ hZl hB hRR hRl hMM hMl hrl hml hT
  · go_enter Tryd.func4, Tryd.ntmps4
    go_wp2_with (first | (go_at_call 7; refine (known_no hk _).mono ?_; rintro e w1 ⟨rfl, hw1⟩; obtain rfl := hw1.symm))
    go_ret
    exact ⟨rfl, HF.out⟩
end Go.Proofs.YtcopkohklgbpgaaDoor
