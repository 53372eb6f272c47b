import Derived.Test.YtcnikfikpnnblaaGreatDoorPart42
namespace Go.Proofs.YtcnikfikpnnblaaGreatDoor.Dg
open Go.RowKit
set_option linter.unusedVariables false
set_option linter.unusedSimpArgs false
theorem Mem.laterN {w wr wn : World} {L : List (List Value)} (h : Mem w wr L) (hb : Below (w.heap.size + L.length) wr wn) : Mem w wn L := by
 refine ⟨h.below.trans (hb.mono (by omega)), Nat.le_trans h.size hb.size, fun i cs hi => ?_⟩
 have hl : i < L.length := (List.getElem?_eq_some_iff.1 hi).1
 obtain ⟨h1, h2⟩ := h.holds i cs hi
 refine ⟨fun j v hv => ?_, fun j hj => ?_⟩
 ·rw [hb.cell (p := ⟨w.heap.size + i, 0 + j, none⟩) (by show w.heap.size + i < _; omega)]
  exact h1 j v hv
 ·rw [hb.cell (p := ⟨w.heap.size + i, 0 + j, none⟩) (by show w.heap.size + i < _; omega), hb.frozen (p := ⟨w.heap.size + i, 0 + j, none⟩) (by show w.heap.size + i < _; omega)]
  exact h2 j hj
theorem owns_slice {w : World} {B n : Nat} {v : Value} {cs : List Value} (h : w.ownsRow B 5 1 v n cs) : ∃ a c, v = .slice a n c := by
 rcases h.2 with ⟨rfl, e⟩ | ⟨g, c, cur, rfl, _⟩
 ·exact ⟨none, 0, by rw [e]⟩
 ·exact ⟨some ⟨g, 0, none⟩, c, rfl⟩
theorem owns_base {w : World} {B B' n : Nat} {v : Value} {cs : List Value} (h : w.ownsRow B 5 1 v n cs) (hB : B' ≤ B) : w.ownsRow B' 5 1 v n cs := by
 obtain ⟨h1, h2⟩ := h
 refine ⟨h1, ?_⟩
 rcases h2 with h2 | ⟨g, c, cur, e, q1, q⟩
 ·exact .inl h2
 ·exact .inr ⟨g, c, cur, e, Nat.le_trans hB q1, q⟩
theorem spellL_at (wd : Bool) (s : Eight) (l : Nat) (hl : l < 64) : (spellL wd s)[l]? = some (spellAt (wsz wd) s l) := by simp [spellL, hl]
theorem pow256 (j : Nat) : (2 : Int) ^ (8 * j) = 256 ^ j := by rw [Int.pow_mul]; rfl
theorem spell4 (s : Eight) (i j l : Nat) (hl : l = 4 * i + (4 - (j + 1))) (hj : j < 4) (hi : i < 8) : spellAt (wsz false) s l = fnz s.list i / 2 ^ (8 * j) % 256 := by
 show spellAt 4 s l = _
 unfold spellAt
 rw [if_pos (by omega), show l / 4 = i by omega, show 4 - 1 - l % 4 = j by omega, pow256]
theorem spell8 (s : Eight) (i j l : Nat) (hl : l = 8 * i + (8 - (j + 1))) (hj : j < 8) (hi : i < 8) : spellAt (wsz true) s l = fnz s.list i / 2 ^ (8 * j) % 256 := by
 show spellAt 8 s l = _
 unfold spellAt
 rw [if_pos (by omega), show l / 8 = i by omega, show 8 - 1 - l % 8 = j by omega, pow256]
set_option maxHeartbeats 3200000 in
set_option maxRecDepth 100000 in
theorem rsum64 (h : Int) (k : Known h) (hwd : wdOf h = false) (m : Nat) (hm : Hid (szOf h = 4 * m ∧ m ≤ 8)) (v : Value) (zs : List Int) (w : World) (hT : RTab w) (hv : View w v zs) (hn : zs.length ≤ 140737488351232) :
  Calls Tryz.prog 49 #[.int .i64 h, v] w fun e w' => ∃ v', e = .returned v' ∧ w'.ownsRow w.heap.size 5 1 v' (szOf h) (cellsU8 (sumD h zs)) ∧ Below w.heap.size w w' := by
 have HT : Hid (RTab w) := hT
 have HV : Hid (View w v zs) := hv
 have hn2 : Hid (zs.length ≤ 140737488351232) := hn
 have hb48 : Hid (∀ u, Calls Tryz.prog 70 #[.int .i64 h] u fun e w' => e = .returned (.int .i64 64) ∧ w' = u) := fun u => by
  have := rblock_ok h k u
  rw [hwd] at this
  exact this
 obtain ⟨i0, hi, hz0, hz1, hz2⟩ := info_parts Tryz.info5
 clear hT hv hn
 go_enter Tryz.func49, Tryz.ntmps49
 go_wp2_with (go_at_call 70; refine (hb48.out _).mono ?_; rintro e1 wx ⟨rfl, hwx⟩; obtain rfl := hwx.symm)
 go_upto_region 5 with (go_at_call 71; refine (rfirst_any k w HT).mono ?_)
 rintro e w1 ⟨rfl, hb1⟩
 obtain ⟨E0, HE0⟩ : ∃ E0 : Eight, Hid (E0 = firstE h) := ⟨_, rfl⟩
 rw [← HE0.out]
 have HN1 : Hid (w.heap.size ≤ w1.heap.size) := hb1.size
 have HMa : Hid (Mem w1 (w1.alloc (.cells #[.int .u64 0, .int .u64 0, .int .u64 0, .int .u64 0, .int .u64 0, .int .u64 0, .int .u64 0, .int .u64 0] 136)) [[.int .u64 0, .int .u64 0, .int .u64 0, .int .u64 0, .int .u64 0, .int .u64 0, .int .u64 0, .int .u64 0]]) := (Mem.nil w1).alloc rfl _ _
 have HBa : Hid (Below w.heap.size w (w1.alloc (.cells #[.int .u64 0, .int .u64 0, .int .u64 0, .int .u64 0, .int .u64 0, .int .u64 0, .int .u64 0, .int .u64 0] 136))) := hb1.alloc hb1.size _
 have HYa : Hid ((w1.alloc (.cells #[.int .u64 0, .int .u64 0, .int .u64 0, .int .u64 0, .int .u64 0, .int .u64 0, .int .u64 0, .int .u64 0] 136)).there w1.heap.size 0 E0.cells.toArray.size) := (HMa.out.holds 0 _ rfl).2
 clear hb1
 go_upto_region 5 with (refine wpList_store_mid (by rfl) 136 (.tmp 6) (.tmp 18) (by rfl) w1.heap.size 0 E0.cells.toArray (by rfl) (by rfl) HYa.out size70 (cellsE_one E0) ?_)
 have HM2 : Hid (Mem w1 ((w1.alloc (.cells #[.int .u64 0, .int .u64 0, .int .u64 0, .int .u64 0, .int .u64 0, .int .u64 0, .int .u64 0, .int .u64 0] 136)).setCells w1.heap.size 0 E0.cells) [E0.cells]) := (HMa.out.store 0 rfl E0.cells rfl).congr rfl
 have HB2 : Hid (Below w.heap.size w ((w1.alloc (.cells #[.int .u64 0, .int .u64 0, .int .u64 0, .int .u64 0, .int .u64 0, .int .u64 0, .int .u64 0, .int .u64 0] 136)).setCells w1.heap.size 0 E0.cells)) := below_setCells _ HN1.out _ _ _ HBa.out
 clear HMa HBa HYa
 generalize (w1.alloc (.cells #[.int .u64 0, .int .u64 0, .int .u64 0, .int .u64 0, .int .u64 0, .int .u64 0, .int .u64 0, .int .u64 0] 136)).setCells w1.heap.size 0 E0.cells = w2 at HM2 HB2 ⊢
 have H50 : Hid (Calls Tryz.prog 72 #[v, .int .i64 64] w2 fun e w' => ∃ v', e = .returned v' ∧ w'.ownsRow w2.heap.size 5 1 v' (laidL (bsz false) zs).length (cellsU8 (laidL (bsz false) zs)) ∧ Below w2.heap.size w2 w') := rlaid_any false v zs w2 (HV.out.kept fun b hb => HB2.out.block b hb) hn2.out
 go_upto_region 6 with (go_at_call 72; refine H50.out.mono ?_)
 clear H50
 rintro e w3 ⟨v3, rfl, ho3, hb3⟩
 obtain ⟨Z, HZ⟩ : ∃ Z, Hid (Z = laidL (bsz false) zs) := ⟨_, rfl⟩
 rw [← HZ.out] at ho3
 obtain ⟨L, HLZ⟩ : ∃ L, Hid (L = Z.length) := ⟨_, rfl⟩
 rw [← HLZ.out] at ho3
 have HL1 : Hid (64 ≤ L ∧ L = 64 * (L / 64)) := by
  have h1 := laid_blocks false zs
  have h2 := padN_pos (bsz false) zs.length
  rw [← HZ.out, ← HLZ.out] at h1
  have h3 : L = 64 * (zs.length / bsz false + padN (bsz false) zs.length) := h1
  generalize zs.length / bsz false = x1 at h3
  generalize padN (bsz false) zs.length = x2 at h2 h3
  show 64 ≤ L ∧ L = 64 * (L / 64)
  omega
 obtain ⟨g, c, rfl⟩ := owns_some ho3 (by have := HL1.out; omega)
 have HGN : Hid (g ≠ w1.heap.size) := by
  have h1 := (ho3.lt g rfl).1
  have h2 := HM2.out.size
  simp at h2
  show g ≠ w1.heap.size
  omega
 have HL : Hid (L = 64 * (L / 64) ∧ L ≤ c ∧ c ≤ 9223372036854775807 ∧ g < w3.heap.size ∧ ∀ i, i < L → w3.cell? ⟨g, 0 + i, none⟩ = some (.int .u8 (fnz Z i))) := by
  have h1 := viewOwns ho3 HLZ.out.symm
  obtain ⟨a', cap', e1, q1, q2, q3, q4⟩ := h1
  injection e1 with e1 e2 e3
  subst e3
  refine ⟨HL1.out.2, by rw [← HLZ.out] at q1; exact q1, by unfold maxLen at q2; omega, (ho3.lt g rfl).2, fun i hi => ?_⟩
  rcases q4 with q4 | ⟨b', p', e4, q5⟩
  ·rw [HLZ.out, q4] at hi
   simp at hi
  ·rw [← e1] at e4
   injection e4 with e4
   injection e4 with e5 e6
   subst e5 e6
   exact q5 i (by rw [← HLZ.out]; exact hi)
 have HM3 : Hid (Mem w1 w3 [E0.cells]) := HM2.out.later hb3
 have HB3 : Hid (Below w.heap.size w w3) := HB2.out.trans (hb3.mono HB2.out.size)
 have HT3 : Hid (RTab w3) := HT.out.below HB3.out HT.out.size
 clear HM2 HB2 ho3 hb3 HV
 have hTw := HT3.out
 go_upto_region 13 with (first
  | (refine wpList_load_mid (by rfl) 136 (.tmp 6) (by rfl) w1.heap.size 0 (by rfl) E0.cells _ ((HM3.out.holds 0 _ rfl).1) Tryz.underlying136 rfl size70 ?_)
  | (go_at_call 73; refine (rnarrow_walk E0.a E0.b E0.c E0.d E0.e E0.f E0.g E0.k (fnz Z) g 0 L (L / 64) c w3 hTw HL.out.1 HL.out.2.1 HL.out.2.2.1 HL.out.2.2.2.1 HL.out.2.2.2.2).mono ?_)
  | fail)
 rintro e w4 ⟨rfl, hb4⟩
 obtain ⟨E1, HE1⟩ : ∃ E1 : Eight, Hid (E1 = (takes32 cubeAt (fnz Z) ⟨E0.a, E0.b, E0.c, E0.d, E0.e, E0.f, E0.g, E0.k⟩ (L / 64)).low) := ⟨_, rfl⟩
 rw [← HE1.out]
 have HM4 : Hid (Mem w1 w4 [E0.cells]) := HM3.out.later hb4
 have HB4 : Hid (Below w.heap.size w w4) := HB3.out.trans (hb4.mono HB3.out.size)
 have HM5 : Hid (Mem w1 (w4.setCells w1.heap.size 0 E1.cells) [E1.cells]) := (HM4.out.store 0 rfl E1.cells rfl).congr rfl
 have HB5 : Hid (Below w.heap.size w (w4.setCells w1.heap.size 0 E1.cells)) := below_setCells _ HN1.out _ _ _ HB4.out
 have HY : Hid (w4.there w1.heap.size 0 E1.cells.toArray.size) := (HM4.out.holds 0 _ rfl).2
 have HEE : Hid (E1 = endW (wdOf h) (firstE h) 0 zs) := by
  rw [HE1.out, hwd, ← endW_laid false, ← HE0.out, ← HZ.out]
  have hL : L = Z.length := HLZ.out
  have h1 : 1 ≤ L / 64 := by have := HL1.out; omega
  obtain ⟨t, ht⟩ : ∃ t, L / 64 = t + 1 := ⟨L / 64 - 1, by omega⟩
  have e : takes32 cubeAt (fnz Z) ⟨E0.a, E0.b, E0.c, E0.d, E0.e, E0.f, E0.g, E0.k⟩ (L / 64) = TT false (fnz Z) E0 (Z.length / bsz false) := by rw [← hL]; rfl
  rw [← e, ht]
  exact low_low _ _ _
 clear HM3 HB3 HE1 HM4 HB4 hb4 hTw
 go_upto_region 13 with (refine wpList_store_mid (by rfl) 136 (.tmp 6) (.tmp 28) (by rfl) w1.heap.size 0 E1.cells.toArray (by rfl) (by rfl) HY.out size70 (cellsE_one E1) ?_)
 clear HY
 change Code.wp _ _ _ _ (w4.setCells w1.heap.size 0 E1.cells) at *
 generalize w4.setCells w1.heap.size 0 E1.cells = w5 at HM5 HB5 ⊢
 go_wp2
 go_loopw [10, 11] (fun v vi wr => ∃ i l c : Nat, ∃ a : Option Addr, Hid (i ≤ m ∧ l = 4 * i) ∧ vi = .int .i64 i ∧ v = .slice a l c ∧ Hid (wr.ownsRow (w1.heap.size + 1) 5 1 (.slice a l c) l (cellsU8 ((spellL false E1).take l))) ∧ Hid (Mem w1 wr [E1.cells]) ∧ Hid (Below w.heap.size w wr)) (fun _ vi _ => m - (intOf vi).toNat)
 case atStart => exact ⟨0, 0, 0, none, ⟨Nat.zero_le _, rfl⟩, rfl, rfl, World.ownsRow_nil _ _ _ _, HM5, HB5⟩
 case round =>
  obtain ⟨i, l, c0, a, HI, rfl, rfl, HO6, HM6, HB6⟩ := hrel
  clear HM5 HB5
  by_cases him : i < m
  ·have hi8 : i < 8 := by have := hm.out; omega
   have hls : l < szOf h := by have := HI.out; have := hm.out; omega
   have hls' : (l : Int) < (szOf h : Nat) := by omega
   go_wp2_with (go_at_call 75; refine (rsize_ok h k _).mono ?_; rintro e1 wx ⟨rfl, hwx⟩; obtain rfl := hwx.symm)
   go_loopw [10, 12] (fun v vj wr => ∃ q l c : Nat, ∃ a : Option Addr, Hid (q ≤ 4 ∧ l = 4 * i + (4 - q)) ∧ vj = .int .i64 ((q : Int) - 1) ∧ v = .slice a l c ∧ Hid (wr.ownsRow (w1.heap.size + 1) 5 1 (.slice a l c) l (cellsU8 ((spellL false E1).take l))) ∧ Hid (Mem w1 wr [E1.cells]) ∧ Hid (Below w.heap.size w wr)) (fun _ vj _ => (intOf vj + 1).toNat)
   case atStart => exact ⟨4, l, c0, a, ⟨by omega, by have := HI.out; omega⟩, rfl, rfl, HO6, HM6, HB6⟩
   case round =>
    obtain ⟨q, l2, c2, a2, HL2, rfl, rfl, HO7, HM7, HB7⟩ := hrel
    clear HO6 HM6 HB6
    rcases q with _ | j
    ·rw [show ((0 : Nat) : Int) - 1 = -1 from rfl]
     go_wp2
     go_roundw
     case rel => exact ⟨i + 1, l2, c2, a2, ⟨by omega, by have := HL2.out; omega⟩, by go_num, rfl, HO7, HM7, HB7⟩
     case measure => simp [intOf]; omega
    ·rw [show ((j + 1 : Nat) : Int) - 1 = (j : Int) by omega]
     have hj : j < 4 := by have := HL2.out; omega
     have hls2 : l2 < szOf h := by have := HL2.out; have := hm.out; omega
     have hls3 : (l2 : Int) < (szOf h : Nat) := by omega
     have hl64 : l2 < 64 := by have := HL2.out; omega
     have hj0 : (0 : Int) ≤ (j : Int) := by omega
     have hw1 : IntKind.i64.wrap (8 * (j : Int)) = 8 * (j : Int) := by rw [IntKind.wrap_i64]; omega
     have hw2 : IntKind.u64.wrap (8 * (j : Int)) = 8 * (j : Int) := by rw [IntKind.wrap_u64]; omega
     have f0 : wr.cell? ⟨w1.heap.size, i, none⟩ = some (.int .u64 (fnz E1.list i)) := HM7.out.cell 0 rfl i _ (by rw [cells_Cl]; exact Cl_at _ _ i hi8)
     have hbase : w1.heap.size + 1 ≤ wr.heap.size := HM7.out.size
     go_wp2_with (first
      | (go_at_call 75; refine (rsize_ok h k _).mono ?_; rintro e1 wx ⟨rfl, hwx⟩; obtain rfl := hwx.symm)
      | (at_builtin; go_must (refine wpList_append_own _ rfl (.tmp 62) (.tmp 71) 24 rfl (w1.heap.size + 1) 5 i0 (.int .u8 0) 1 1 Tryz.underlying24 hi hz0 hz1 hz2 rfl (by decide) _ _ _ rfl (HO7.out.alloc _) ⟨wr.heap.size, 0, none⟩ 1 1 [.int .u8 (fnz E1.list i / 2 ^ (8 * j) % 256)] rfl rfl (one_cell _ _ _) (one_one _) (by unfold maxLen; omega) (by omega) (by rw [size_alloc]; omega) ?_)))
     intro v8 w8 hown8 hgrow8 hnil8
     have hb8 : Below (w1.heap.size + 1) wr w8 := ((Below.refl (w1.heap.size + 1) wr).alloc hbase _).grown hgrow8 (by rw [size_alloc]; omega) (fun q hq => (HO7.out.lt q hq).1)
     have HM8 : Hid (Mem w1 w8 [E1.cells]) := HM7.out.laterN hb8
     have HB8 : Hid (Below w.heap.size w w8) := HB7.out.trans (hb8.mono (by have := HN1.out; omega))
     have ho8 : w8.ownsRow (w1.heap.size + 1) 5 1 v8 (l2 + 1) (cellsU8 ((spellL false E1).take (l2 + 1))) := by
      have e : cellsU8 ((spellL false E1).take (l2 + 1)) = cellsU8 ((spellL false E1).take l2) ++ [.int .u8 (fnz E1.list i / 2 ^ (8 * j) % 256)] := by
       rw [List.take_add_one, spellL_at _ _ l2 hl64, spell4 E1 i j l2 (by have := HL2.out; omega) hj hi8]
       simp [cellsU8]
      rw [e]
      exact hown8
     clear hown8 hgrow8 hnil8 hb8
     obtain ⟨a8, c8, rfl⟩ := owns_slice ho8
     have HO8 : Hid (w8.ownsRow (w1.heap.size + 1) 5 1 (.slice a8 (l2 + 1) c8) (l2 + 1) (cellsU8 ((spellL false E1).take (l2 + 1)))) := ho8
     clear ho8 HO7 HM7 HB7
     go_wp2
     go_roundw
     case rel => exact ⟨j, l2 + 1, c8, a8, ⟨by omega, by have := HL2.out; omega⟩, rfl, rfl, HO8, HM8, HB8⟩
     case measure => simp [intOf]
  ·have hls : ¬ l < szOf h := by have := HI.out; have := hm.out; omega
   have hls' : ¬ (l : Int) < (szOf h : Nat) := by omega
   go_wp2_with (go_at_call 75; refine (rsize_ok h k _).mono ?_; rintro e1 wx ⟨rfl, hwx⟩; obtain rfl := hwx.symm)
   go_ret
   have hl : l = szOf h := by have := HI.out; have := hm.out; omega
   refine ⟨_, rfl, ?_, HB6.out⟩
   have e : sumD h zs = (spellL false E1).take l := by rw [hl, HEE.out, ← hwd]; rfl
   rw [e, ← hl]
   exact owns_base HO6.out (by have := HN1.out; omega)
set_option maxHeartbeats 3200000 in
set_option maxRecDepth 100000 in
theorem rsum128 (h : Int) (k : Known h) (hwd : wdOf h = true) (m : Nat) (hm : Hid (szOf h = 8 * m ∧ m ≤ 8)) (v : Value) (zs : List Int) (w : World) (hT : RTab w) (hv : View w v zs) (hn : zs.length ≤ 140737488351232) :
  Calls Tryz.prog 49 #[.int .i64 h, v] w fun e w' => ∃ v', e = .returned v' ∧ w'.ownsRow w.heap.size 5 1 v' (szOf h) (cellsU8 (sumD h zs)) ∧ Below w.heap.size w w' := by
 have HT : Hid (RTab w) := hT
 have HV : Hid (View w v zs) := hv
 have hn2 : Hid (zs.length ≤ 140737488351232) := hn
 have hb48 : Hid (∀ u, Calls Tryz.prog 70 #[.int .i64 h] u fun e w' => e = .returned (.int .i64 128) ∧ w' = u) := fun u => by
  have := rblock_ok h k u
  rw [hwd] at this
  exact this
 obtain ⟨i0, hi, hz0, hz1, hz2⟩ := info_parts Tryz.info5
 clear hT hv hn
 go_enter Tryz.func49, Tryz.ntmps49
 go_wp2_with (go_at_call 70; refine (hb48.out _).mono ?_; rintro e1 wx ⟨rfl, hwx⟩; obtain rfl := hwx.symm)
 go_upto_region 5 with (go_at_call 71; refine (rfirst_any k w HT).mono ?_)
 rintro e w1 ⟨rfl, hb1⟩
 obtain ⟨E0, HE0⟩ : ∃ E0 : Eight, Hid (E0 = firstE h) := ⟨_, rfl⟩
 rw [← HE0.out]
 have HN1 : Hid (w.heap.size ≤ w1.heap.size) := hb1.size
 have HMa : Hid (Mem w1 (w1.alloc (.cells #[.int .u64 0, .int .u64 0, .int .u64 0, .int .u64 0, .int .u64 0, .int .u64 0, .int .u64 0, .int .u64 0] 136)) [[.int .u64 0, .int .u64 0, .int .u64 0, .int .u64 0, .int .u64 0, .int .u64 0, .int .u64 0, .int .u64 0]]) := (Mem.nil w1).alloc rfl _ _
 have HBa : Hid (Below w.heap.size w (w1.alloc (.cells #[.int .u64 0, .int .u64 0, .int .u64 0, .int .u64 0, .int .u64 0, .int .u64 0, .int .u64 0, .int .u64 0] 136))) := hb1.alloc hb1.size _
 have HYa : Hid ((w1.alloc (.cells #[.int .u64 0, .int .u64 0, .int .u64 0, .int .u64 0, .int .u64 0, .int .u64 0, .int .u64 0, .int .u64 0] 136)).there w1.heap.size 0 E0.cells.toArray.size) := (HMa.out.holds 0 _ rfl).2
 clear hb1
 go_upto_region 5 with (refine wpList_store_mid (by rfl) 136 (.tmp 6) (.tmp 18) (by rfl) w1.heap.size 0 E0.cells.toArray (by rfl) (by rfl) HYa.out size70 (cellsE_one E0) ?_)
 have HM2 : Hid (Mem w1 ((w1.alloc (.cells #[.int .u64 0, .int .u64 0, .int .u64 0, .int .u64 0, .int .u64 0, .int .u64 0, .int .u64 0, .int .u64 0] 136)).setCells w1.heap.size 0 E0.cells) [E0.cells]) := (HMa.out.store 0 rfl E0.cells rfl).congr rfl
 have HB2 : Hid (Below w.heap.size w ((w1.alloc (.cells #[.int .u64 0, .int .u64 0, .int .u64 0, .int .u64 0, .int .u64 0, .int .u64 0, .int .u64 0, .int .u64 0] 136)).setCells w1.heap.size 0 E0.cells)) := below_setCells _ HN1.out _ _ _ HBa.out
 clear HMa HBa HYa
 generalize (w1.alloc (.cells #[.int .u64 0, .int .u64 0, .int .u64 0, .int .u64 0, .int .u64 0, .int .u64 0, .int .u64 0, .int .u64 0] 136)).setCells w1.heap.size 0 E0.cells = w2 at HM2 HB2 ⊢
 have H50 : Hid (Calls Tryz.prog 72 #[v, .int .i64 128] w2 fun e w' => ∃ v', e = .returned v' ∧ w'.ownsRow w2.heap.size 5 1 v' (laidL (bsz true) zs).length (cellsU8 (laidL (bsz true) zs)) ∧ Below w2.heap.size w2 w') := rlaid_any true v zs w2 (HV.out.kept fun b hb => HB2.out.block b hb) hn2.out
 go_upto_region 6 with (go_at_call 72; refine H50.out.mono ?_)
 clear H50
 rintro e w3 ⟨v3, rfl, ho3, hb3⟩
 obtain ⟨Z, HZ⟩ : ∃ Z, Hid (Z = laidL (bsz true) zs) := ⟨_, rfl⟩
 rw [← HZ.out] at ho3
 obtain ⟨L, HLZ⟩ : ∃ L, Hid (L = Z.length) := ⟨_, rfl⟩
 rw [← HLZ.out] at ho3
 have HL1 : Hid (128 ≤ L ∧ L = 128 * (L / 128)) := by
  have h1 := laid_blocks true zs
  have h2 := padN_pos (bsz true) zs.length
  rw [← HZ.out, ← HLZ.out] at h1
  have h3 : L = 128 * (zs.length / bsz true + padN (bsz true) zs.length) := h1
  generalize zs.length / bsz true = x1 at h3
  generalize padN (bsz true) zs.length = x2 at h2 h3
  show 128 ≤ L ∧ L = 128 * (L / 128)
  omega
 obtain ⟨g, c, rfl⟩ := owns_some ho3 (by have := HL1.out; omega)
 have HGN : Hid (g ≠ w1.heap.size) := by
  have h1 := (ho3.lt g rfl).1
  have h2 := HM2.out.size
  simp at h2
  show g ≠ w1.heap.size
  omega
 have HL : Hid (L = 128 * (L / 128) ∧ L ≤ c ∧ c ≤ 9223372036854775807 ∧ g < w3.heap.size ∧ ∀ i, i < L → w3.cell? ⟨g, 0 + i, none⟩ = some (.int .u8 (fnz Z i))) := by
  have h1 := viewOwns ho3 HLZ.out.symm
  obtain ⟨a', cap', e1, q1, q2, q3, q4⟩ := h1
  injection e1 with e1 e2 e3
  subst e3
  refine ⟨HL1.out.2, by rw [← HLZ.out] at q1; exact q1, by unfold maxLen at q2; omega, (ho3.lt g rfl).2, fun i hi => ?_⟩
  rcases q4 with q4 | ⟨b', p', e4, q5⟩
  ·rw [HLZ.out, q4] at hi
   simp at hi
  ·rw [← e1] at e4
   injection e4 with e4
   injection e4 with e5 e6
   subst e5 e6
   exact q5 i (by rw [← HLZ.out]; exact hi)
 have HM3 : Hid (Mem w1 w3 [E0.cells]) := HM2.out.later hb3
 have HB3 : Hid (Below w.heap.size w w3) := HB2.out.trans (hb3.mono HB2.out.size)
 have HT3 : Hid (RTab w3) := HT.out.below HB3.out HT.out.size
 clear HM2 HB2 ho3 hb3 HV
 go_wp2
 go_loopw [9] (fun v wr => ∃ i : Nat, Hid (128 * i ≤ L) ∧ v = .int .i64 ((128 * i : Nat) : Int) ∧ Hid (Mem w1 wr [(takes64 cubeAt (fnz Z) E0 i).cells]) ∧ Hid (Below w.heap.size w wr) ∧ Hid (Below w3.heap.size w3 (wr.setCells w1.heap.size 0 E0.cells) ∨ True) ∧ Hid (∀ i, i < L → wr.cell? ⟨g, 0 + i, none⟩ = some (.int .u8 (fnz Z i))) ∧ Hid (g < wr.heap.size)) (fun v _ => L - (intOf v).toNat)
 case atStart => exact ⟨0, Nat.zero_le _, rfl, HM3, HB3, .inr trivial, HL.out.2.2.2.2, HL.out.2.2.2.1⟩
 case round =>
  obtain ⟨i, hi, rfl, HM, HBr, _, HC, Hg⟩ := hrel
  clear HM3 HB3
  obtain ⟨q, hq⟩ : ∃ q, q = 128 * i := ⟨_, rfl⟩
  obtain ⟨E, HE⟩ : ∃ E : Eight, Hid (E = takes64 cubeAt (fnz Z) E0 i) := ⟨_, rfl⟩
  rw [← HE.out] at HM
  rw [← hq]
  have HQ : Hid (q = 128 * i) := hq
  clear hq
  by_cases hlt : q < L
  ·have h128 : q + 128 ≤ L := by have := HQ.out; have := HL.out.1; omega
   have hq64 : IntKind.i64.wrap ((q : Int) + 128) = (q : Int) + 128 := by
    have := HL.out.2.2.1; have := HL.out.2.1
    rw [IntKind.wrap_i64]
    omega
   have HSl : Hid (∀ u, (Instr.slice 24 (.slice (some ⟨g, 0, none⟩) L c) (some (.int .i64 (q : Nat))) (some (.int .i64 ((q : Int) + 128))) none).run Tryz.prog u = .ok (.slice (some ⟨g, q, none⟩) 128 (c - q)) u) := fun u => by
    have := slice22 u g 0 L c q 128 128 rfl (by omega) (by have := HL.out.2.1; omega)
    rwa [Nat.zero_add] at this
   obtain ⟨E2, HE2⟩ : ∃ E2 : Eight, Hid (E2 = takes64 cubeAt (fnz Z) E0 (i + 1)) := ⟨_, rfl⟩
   have HCall : Hid (∀ u, Below wr.heap.size wr u → Calls Tryz.prog 74 #[.agg E.cells.toArray, .slice (some ⟨g, q, none⟩) 128 (c - q)] u fun e w' => e = .returned (.agg E2.cells.toArray) ∧ Below wr.heap.size wr w') := fun u hu => by
    refine (taken64_walk E.a E.b E.c E.d E.e E.f E.g E.k cubeAt (fun j => fnz Z (128 * i + j)) g q (c - q) u (fun t ht => ?_) (by have := HL.out.2.1; omega) (by have := HL.out.2.2.1; omega) (fun j hj => ?_)).mono fun e w' h => ⟨?_, hu.trans (h.2.mono hu.size)⟩
    ·have hs := HT.out.size
     have hs2 := HBr.out.size
     rw [hu.cell (p := ⟨2, t, none⟩) (by show 2 < _; omega), HBr.out.cell (p := ⟨2, t, none⟩) (by show 2 < _; omega)]
     exact HT.out.cubes t ht
    ·have h5 := HC.out (q + j) (by omega)
     rw [Nat.zero_add] at h5
     rw [hu.cell Hg.out, h5, HQ.out]
    ·rw [h.1, HE2.out]
     have e1 : takes64 cubeAt (fnz Z) E0 (i + 1) = block64 cubeAt (fun j => fnz Z (128 * i + j)) (takes64 cubeAt (fnz Z) E0 i) := rfl
     rw [e1, ← HE.out]
   have hS0 : Below wr.heap.size wr wr.drew := (Below.refl _ _).drew
   clear HE
   go_wp2
   refine wp_region_noPanic ?_
   refine wp_region_till (fun u => Below wr.heap.size wr u) 6 (by kernel_rfl) (by decide) (by decide +kernel) (by decide +kernel) (by decide +kernel) (fun inv => ?_)
   refine till_at 0 35 (.agg (E.cells).toArray) inv rfl rfl (by decide) (by decide +kernel) (by decide +kernel) (fun _ _ _ h => h) (hS0) (yieldsIf_load_mid (by kernel_rfl) 136 (.tmp 6) rfl (w1.heap.size) 0 rfl E.cells _ (fun u hu => ((HM.out.later hu).holds 0 _ rfl).1) Tryz.underlying136 rfl size70) (fun inv' => ?_)
   clear inv; have inv := inv'; clear inv'
   simp only [List.setIfInBounds_toArray, List.set_cons_zero, List.set_cons_succ]
   refine till_at 1 36 (.slice (some ⟨g, 0, none⟩) L c) inv rfl rfl (by decide) (by decide +kernel) (by decide +kernel) (fun _ _ _ h => h) (hS0) (Or.inl ⟨by rfl, fun w' hS' => by go_simp⟩) (fun inv' => ?_)
   clear inv; have inv := inv'; clear inv'
   simp only [List.setIfInBounds_toArray, List.set_cons_zero, List.set_cons_succ]
   refine till_at 2 37 (.int .i64 (q : Nat)) inv rfl rfl (by decide) (by decide +kernel) (by decide +kernel) (fun _ _ _ h => h) (hS0) (Or.inl ⟨by rfl, fun w' hS' => by go_simp⟩) (fun inv' => ?_)
   clear inv; have inv := inv'; clear inv'
   simp only [List.setIfInBounds_toArray, List.set_cons_zero, List.set_cons_succ]
   refine till_at 3 38 (.int .i64 (q : Nat)) inv rfl rfl (by decide) (by decide +kernel) (by decide +kernel) (fun _ _ _ h => h) (hS0) (Or.inl ⟨by rfl, fun w' hS' => by go_simp⟩) (fun inv' => ?_)
   clear inv; have inv := inv'; clear inv'
   simp only [List.setIfInBounds_toArray, List.set_cons_zero, List.set_cons_succ]
   refine till_at 4 39 (.int .i64 ((q : Int) + 128)) inv rfl rfl (by decide) (by decide +kernel) (by decide +kernel) (fun _ _ _ h => h) (hS0) (Or.inl ⟨by rfl, fun w' hS' => by go_simp⟩) (fun inv' => ?_)
   clear inv; have inv := inv'; clear inv'
   simp only [List.setIfInBounds_toArray, List.set_cons_zero, List.set_cons_succ]
   refine till_at 5 40 (.slice (some ⟨g, q, none⟩) 128 (c - q)) inv rfl rfl (by decide) (by decide +kernel) (by decide +kernel) (fun _ _ _ h => h) (hS0) (Or.inl ⟨by rfl, fun w' hS' => by have q := HSl.out w'; go_simp⟩) (fun inv' => ?_)
   clear inv; have inv := inv'; clear inv'
   simp only [List.setIfInBounds_toArray, List.set_cons_zero, List.set_cons_succ]
   refine till_tail (i := 6) (by decide +kernel) (by decide) rfl (fun K hK => ?_)
   go_simp
   refine (HCall.out _ hS0).mono ?_
   rintro e1 wn ⟨rfl, hwn⟩
   go_wp2_with fail
   refine hK.out _ _ ?_
   clear hK K
   try simp only [List.setIfInBounds_toArray, List.set_cons_zero, List.set_cons_succ]
   refine till_tail (i := 7) (by decide +kernel) (by decide) rfl (fun K hK => ?_)
   rw [if_pos (by rfl)]
   refine wp_store_mid 136 (.tmp 6) (.tmp 41) rfl w1.heap.size 0 (Eight.cells E2).toArray rfl rfl (((HM.out.later hwn).holds 0 _ rfl).2) (size70) (cellsE_one _) ?_
   refine hK.out _ _ ?_
   clear hK K
   try simp only [List.setIfInBounds_toArray, List.set_cons_zero, List.set_cons_succ]
   refine till_done (by decide +kernel) ?_ _
   refine NoPanic.normal ?_
   have hgn : g ≠ w1.heap.size := HGN.out
   have HBn : Hid (Below w.heap.size w (wn.setCells w1.heap.size 0 E2.cells)) := below_setCells _ HN1.out _ _ _ (HBr.out.trans (hwn.mono HBr.out.size))
   have HMn : Hid (Mem w1 (wn.setCells w1.heap.size 0 E2.cells) [E2.cells]) := ((HM.out.later hwn).store 0 rfl E2.cells rfl).congr rfl
   have HCn : Hid (∀ i, i < L → (wn.setCells w1.heap.size 0 E2.cells).cell? ⟨g, 0 + i, none⟩ = some (.int .u8 (fnz Z i))) := fun j hj => by
    rw [World.cell?_setCells_out w1.heap.size E2.cells 0 wn ⟨g, 0 + j, none⟩ (fun e' _ => absurd e' hgn), hwn.cell Hg.out]
    exact HC.out j hj
   have Hgn : Hid (g < (wn.setCells w1.heap.size 0 E2.cells).heap.size) := by
    show g < (wn.setCells w1.heap.size 0 E2.cells).heap.size
    rw [size_setCells]
    exact Nat.lt_of_lt_of_le Hg.out hwn.size
   clear hwn HM HBr HC Hg
   go_wp2
   go_roundw
   case rel =>
    refine ⟨i + 1, (by have := HQ.out; omega : 128 * (i + 1) ≤ L), val_eq (by have := HQ.out; omega), ?_, HBn, .inr trivial, HCn, Hgn⟩
    rw [← HE2.out]
    exact HMn
   case measure => simp [intOf]; omega
  ·have hiL : L = 128 * i := by have := HQ.out; have := hi.out; omega
   have HM5 : Hid (Mem w1 wr [E.cells]) := HM
   have HB5 : Hid (Below w.heap.size w wr) := HBr
   have HEE : Hid (E = endW (wdOf h) (firstE h) 0 zs) := by
    rw [HE.out, hwd, ← endW_laid true, ← HE0.out, ← HZ.out]
    have hL : L = Z.length := HLZ.out
    have e : takes64 cubeAt (fnz Z) E0 i = TT true (fnz Z) E0 (Z.length / bsz true) := by
     rw [← hL, hiL]
     show _ = takes64 cubeAt (fnz Z) E0 (128 * i / 128)
     rw [Nat.mul_div_cancel_left _ (by omega)]
    rw [← e]
    exact rfl
   clear HM HBr HC Hg HE hi hiL
   go_upto_region 13 with fail
   go_wp2
   go_loopw [10, 11] (fun v vi wr => ∃ i l c : Nat, ∃ a : Option Addr, Hid (i ≤ m ∧ l = 8 * i) ∧ vi = .int .i64 i ∧ v = .slice a l c ∧ Hid (wr.ownsRow (w1.heap.size + 1) 5 1 (.slice a l c) l (cellsU8 ((spellL true E).take l))) ∧ Hid (Mem w1 wr [E.cells]) ∧ Hid (Below w.heap.size w wr)) (fun _ vi _ => m - (intOf vi).toNat)
   case atStart => exact ⟨0, 0, 0, none, ⟨Nat.zero_le _, rfl⟩, rfl, rfl, World.ownsRow_nil _ _ _ _, HM5, HB5⟩
   case round =>
    obtain ⟨i, l, c0, a, HI, rfl, rfl, HO6, HM6, HB6⟩ := hrel
    clear HM5 HB5
    by_cases him : i < m
    ·have hi8 : i < 8 := by have := hm.out; omega
     have hls : l < szOf h := by have := HI.out; have := hm.out; omega
     have hls' : (l : Int) < (szOf h : Nat) := by omega
     go_wp2_with (go_at_call 75; refine (rsize_ok h k _).mono ?_; rintro e1 wx ⟨rfl, hwx⟩; obtain rfl := hwx.symm)
     go_loopw [10, 12] (fun v vj wr => ∃ q l c : Nat, ∃ a : Option Addr, Hid (q ≤ 8 ∧ l = 8 * i + (8 - q)) ∧ vj = .int .i64 ((q : Int) - 1) ∧ v = .slice a l c ∧ Hid (wr.ownsRow (w1.heap.size + 1) 5 1 (.slice a l c) l (cellsU8 ((spellL true E).take l))) ∧ Hid (Mem w1 wr [E.cells]) ∧ Hid (Below w.heap.size w wr)) (fun _ vj _ => (intOf vj + 1).toNat)
     case atStart => exact ⟨8, l, c0, a, ⟨by omega, by have := HI.out; omega⟩, rfl, rfl, HO6, HM6, HB6⟩
     case round =>
      obtain ⟨q, l2, c2, a2, HL2, rfl, rfl, HO7, HM7, HB7⟩ := hrel
      clear HO6 HM6 HB6
      rcases q with _ | j
      ·rw [show ((0 : Nat) : Int) - 1 = -1 from rfl]
       go_wp2
       go_roundw
       case rel => exact ⟨i + 1, l2, c2, a2, ⟨by omega, by have := HL2.out; omega⟩, by go_num, rfl, HO7, HM7, HB7⟩
       case measure => simp [intOf]; omega
      ·rw [show ((j + 1 : Nat) : Int) - 1 = (j : Int) by omega]
       have hj : j < 8 := by have := HL2.out; omega
       have hls2 : l2 < szOf h := by have := HL2.out; have := hm.out; omega
       have hls3 : (l2 : Int) < (szOf h : Nat) := by omega
       have hl64 : l2 < 64 := by have := HL2.out; omega
       have hj0 : (0 : Int) ≤ (j : Int) := by omega
       have hw1 : IntKind.i64.wrap (8 * (j : Int)) = 8 * (j : Int) := by rw [IntKind.wrap_i64]; omega
       have hw2 : IntKind.u64.wrap (8 * (j : Int)) = 8 * (j : Int) := by rw [IntKind.wrap_u64]; omega
       have f0 : wr.cell? ⟨w1.heap.size, i, none⟩ = some (.int .u64 (fnz E.list i)) := HM7.out.cell 0 rfl i _ (by rw [cells_Cl]; exact Cl_at _ _ i hi8)
       have hbase : w1.heap.size + 1 ≤ wr.heap.size := HM7.out.size
       go_wp2_with (first
        | (go_at_call 75; refine (rsize_ok h k _).mono ?_; rintro e1 wx ⟨rfl, hwx⟩; obtain rfl := hwx.symm)
        | (at_builtin; go_must (refine wpList_append_own _ rfl (.tmp 62) (.tmp 71) 24 rfl (w1.heap.size + 1) 5 i0 (.int .u8 0) 1 1 Tryz.underlying24 hi hz0 hz1 hz2 rfl (by decide) _ _ _ rfl (HO7.out.alloc _) ⟨wr.heap.size, 0, none⟩ 1 1 [.int .u8 (fnz E.list i / 2 ^ (8 * j) % 256)] rfl rfl (one_cell _ _ _) (one_one _) (by unfold maxLen; omega) (by omega) (by rw [size_alloc]; omega) ?_)))
       intro v8 w8 hown8 hgrow8 hnil8
       have hb8 : Below (w1.heap.size + 1) wr w8 := ((Below.refl (w1.heap.size + 1) wr).alloc hbase _).grown hgrow8 (by rw [size_alloc]; omega) (fun q hq => (HO7.out.lt q hq).1)
       have HM8 : Hid (Mem w1 w8 [E.cells]) := HM7.out.laterN hb8
       have HB8 : Hid (Below w.heap.size w w8) := HB7.out.trans (hb8.mono (by have := HN1.out; omega))
       have ho8 : w8.ownsRow (w1.heap.size + 1) 5 1 v8 (l2 + 1) (cellsU8 ((spellL true E).take (l2 + 1))) := by
        have e : cellsU8 ((spellL true E).take (l2 + 1)) = cellsU8 ((spellL true E).take l2) ++ [.int .u8 (fnz E.list i / 2 ^ (8 * j) % 256)] := by
         rw [List.take_add_one, spellL_at _ _ l2 hl64, spell8 E i j l2 (by have := HL2.out; omega) hj hi8]
         simp [cellsU8]
        rw [e]
        exact hown8
       clear hown8 hgrow8 hnil8 hb8
       obtain ⟨a8, c8, rfl⟩ := owns_slice ho8
       have HO8 : Hid (w8.ownsRow (w1.heap.size + 1) 5 1 (.slice a8 (l2 + 1) c8) (l2 + 1) (cellsU8 ((spellL true E).take (l2 + 1)))) := ho8
       clear ho8 HO7 HM7 HB7
       go_wp2
       go_roundw
       case rel => exact ⟨j, l2 + 1, c8, a8, ⟨by omega, by have := HL2.out; omega⟩, rfl, rfl, HO8, HM8, HB8⟩
       case measure => simp [intOf]
    ·have hls : ¬ l < szOf h := by have := HI.out; have := hm.out; omega
     have hls' : ¬ (l : Int) < (szOf h : Nat) := by omega
     go_wp2_with (go_at_call 75; refine (rsize_ok h k _).mono ?_; rintro e1 wx ⟨rfl, hwx⟩; obtain rfl := hwx.symm)
     go_ret
     have hl : l = szOf h := by have := HI.out; have := hm.out; omega
     refine ⟨_, rfl, ?_, HB6.out⟩
     have e : sumD h zs = (spellL true E).take l := by rw [hl, HEE.out, ← hwd]; rfl
     rw [e, ← hl]
     exact owns_base HO6.out (by have := HN1.out; omega)
/-- Sum: the document's digest is the one that the streams make. -/
theorem rsum_ok {h : Int} (k : Known h) (v : Value) (zs : List Int) (w : World) (hT : RTab w) (hv : View w v zs) (hn : zs.length ≤ 140737488351232) :
  Calls Tryz.prog 49 #[.int .i64 h, v] w fun e w' => ∃ v', e = .returned v' ∧ w'.ownsRow w.heap.size 5 1 v' (szOf h) (cellsU8 (sumD h zs)) ∧ Below w.heap.size w w' := by
 rcases k with rfl | rfl | rfl | rfl
 ·exact rsum64 224 (.inl rfl) rfl 7 ⟨rfl, by decide⟩ v zs w hT hv hn
 ·exact rsum64 256 (.inr (.inl rfl)) rfl 8 ⟨rfl, by decide⟩ v zs w hT hv hn
 ·exact rsum128 384 (.inr (.inr (.inl rfl))) rfl 6 ⟨rfl, by decide⟩ v zs w hT hv hn
 ·exact rsum128 512 (.inr (.inr (.inr rfl))) rfl 8 ⟨rfl, by decide⟩ v zs w hT hv hn
end Go.Proofs.YtcnikfikpnnblaaGreatDoor.Dg
