import Derived.Test.YtcopkohklgbpgabDoorPart04
namespace Go.Proofs.YtcopkohklgbpgabDoor
open Go.RowKit
set_option linter.unusedVariables false
set_option linter.unusedSimpArgs false
theorem Mem.laterN {w wr wn : World} {L : List (List Value)} (h : Mem w wr L) (hb : Below (w.heap.size + L.length) wr wn) : Mem w wn L := by
  refine ⟨h.below.trans (hb.mono (by omega)), Nat.le_trans h.size hb.size, fun i cs hi => ?_⟩
  have hl : i < L.length := (List.getElem?_eq_some_iff.1 hi).1
  obtain ⟨h1, h2⟩ := h.holds i cs hi
  refine ⟨fun j v hv => ?_, fun j hj => ?_⟩
  · rw [hb.cell (p := ⟨w.heap.size + i, 0 + j, none⟩) (by show w.heap.size + i < _; omega)]
    exact h1 j v hv
  · rw [hb.cell (p := ⟨w.heap.size + i, 0 + j, none⟩) (by show w.heap.size + i < _; omega), hb.frozen (p := ⟨w.heap.size + i, 0 + j, none⟩) (by show w.heap.size + i < _; omega)]
    exact h2 j hj
theorem owns_slice {w : World} {B n : Nat} {v : Value} {cs : List Value} (h : w.ownsRow B 5 1 v n cs) : ∃ a c, v = .slice a n c := by
  rcases h.2 with ⟨rfl, e⟩ | ⟨g, c, cur, rfl, _⟩
  · exact ⟨none, 0, by rw [e]⟩
  · exact ⟨some ⟨g, 0, none⟩, c, rfl⟩
theorem owns_base {w : World} {B B' n : Nat} {v : Value} {cs : List Value} (h : w.ownsRow B 5 1 v n cs) (hB : B' ≤ B) : w.ownsRow B' 5 1 v n cs := by
  obtain ⟨h1, h2⟩ := h
  refine ⟨h1, ?_⟩
  rcases h2 with h2 | ⟨g, c, cur, e, q1, q⟩
  · exact .inl h2
  · exact .inr ⟨g, c, cur, e, Nat.le_trans hB q1, q⟩
theorem spellL_at (wd : Bool) (s : Eight) (l : Nat) (hl : l < 64) : (spellL wd s)[l]? = some (spellAt (wsz wd) s l) := by simp [spellL, hl]
theorem pow256 (j : Nat) : (2 : Int) ^ (8 * j) = 256 ^ j := by rw [Int.pow_mul]; rfl
theorem spell4 (s : Eight) (i j l : Nat) (hl : l = 4 * i + (4 - (j + 1))) (hj : j < 4) (hi : i < 8) : spellAt (wsz false) s l = fnz s.list i / 2 ^ (8 * j) % 256 := by
  show spellAt 4 s l = _
  unfold spellAt
  rw [if_pos (by omega), show l / 4 = i by omega, show 4 - 1 - l % 4 = j by omega, pow256]
theorem spell8 (s : Eight) (i j l : Nat) (hl : l = 8 * i + (8 - (j + 1))) (hj : j < 8) (hi : i < 8) : spellAt (wsz true) s l = fnz s.list i / 2 ^ (8 * j) % 256 := by
  show spellAt 8 s l = _
  unfold spellAt
  rw [if_pos (by omega), show l / 8 = i by omega, show 8 - 1 - l % 8 = j by omega, pow256]
set_option maxHeartbeats 3200000 in
set_option maxRecDepth 100000 in
theorem rsum64 (h : Int) (k : Known h) (hwd : wdOf h = false) (m : Nat) (hm : Hid (szOf h = 4 * m ∧ m ≤ 8)) (v : Value) (zs : List Int) (w : World) (hT : RTab w) (hv : View w v zs) (hn : zs.length ≤ 1099511627776) :
    Calls Tryd.prog 35 #[.int .i64 h, v] w fun e w' => ∃ v', e = .returned v' ∧ w'.ownsRow w.heap.size 5 1 v' (szOf h) (cellsU8 (sumD h zs)) ∧ Below w.heap.size w w' := by
  have HT : Hid (RTab w) := hT
  have HV : Hid (View w v zs) := hv
  have hn2 : Hid (zs.length ≤ 1099511627776) := hn
  have hb48 : Hid (∀ u, Calls Tryd.prog 45 #[.int .i64 h] u fun e w' => e = .returned (.int .i64 64) ∧ w' = u) := fun u => by
    have := rblock_ok h k u
    rw [hwd] at this
    exact this
  obtain ⟨i0, hi, hz0, hz1, hz2⟩ := info_parts Tryd.info5
  clear hT hv hn
  go_enter Tryd.func35, Tryd.ntmps35
  go_wp2_with (go_at_call 45; refine (hb48.out _).mono ?_; rintro e1 wx ⟨rfl, hwx⟩; obtain rfl := hwx.symm)
  go_upto_region 5 with (go_at_call 46; refine (rfirst_any k w HT).mono ?_)
  rintro e w1 ⟨rfl, hb1⟩
  obtain ⟨E0, HE0⟩ : ∃ E0 : Eight, Hid (E0 = firstE h) := ⟨_, rfl⟩
  rw [← HE0.out]
  have HN1 : Hid (w.heap.size ≤ w1.heap.size) := hb1.size
  have HMa : Hid (Mem w1 (w1.alloc (.cells #[.int .u64 0, .int .u64 0, .int .u64 0, .int .u64 0, .int .u64 0, .int .u64 0, .int .u64 0, .int .u64 0] 64)) [[.int .u64 0, .int .u64 0, .int .u64 0, .int .u64 0, .int .u64 0, .int .u64 0, .int .u64 0, .int .u64 0]]) := (Mem.nil w1).alloc rfl _ _
  have HBa : Hid (Below w.heap.size w (w1.alloc (.cells #[.int .u64 0, .int .u64 0, .int .u64 0, .int .u64 0, .int .u64 0, .int .u64 0, .int .u64 0, .int .u64 0] 64))) := hb1.alloc hb1.size _
  have HYa : Hid ((w1.alloc (.cells #[.int .u64 0, .int .u64 0, .int .u64 0, .int .u64 0, .int .u64 0, .int .u64 0, .int .u64 0, .int .u64 0] 64)).there w1.heap.size 0 E0.cells.toArray.size) := (HMa.out.holds 0 _ rfl).2
  clear hb1
  go_upto_region 5 with (refine wpList_store_mid (by rfl) 64 (.tmp 6) (.tmp 18) (by rfl) w1.heap.size 0 E0.cells.toArray (by rfl) (by rfl) HYa.out size70 (cellsE_one E0) ?_)
  have HM2 : Hid (Mem w1 ((w1.alloc (.cells #[.int .u64 0, .int .u64 0, .int .u64 0, .int .u64 0, .int .u64 0, .int .u64 0, .int .u64 0, .int .u64 0] 64)).setCells w1.heap.size 0 E0.cells) [E0.cells]) := (HMa.out.store 0 rfl E0.cells rfl).congr rfl
  have HB2 : Hid (Below w.heap.size w ((w1.alloc (.cells #[.int .u64 0, .int .u64 0, .int .u64 0, .int .u64 0, .int .u64 0, .int .u64 0, .int .u64 0, .int .u64 0] 64)).setCells w1.heap.size 0 E0.cells)) := below_setCells _ HN1.out _ _ _ HBa.out
  clear HMa HBa HYa
  generalize (w1.alloc (.cells #[.int .u64 0, .int .u64 0, .int .u64 0, .int .u64 0, .int .u64 0, .int .u64 0, .int .u64 0, .int .u64 0] 64)).setCells w1.heap.size 0 E0.cells = w2 at HM2 HB2 ⊢
  have H50 : Hid (Calls Tryd.prog 47 #[v, .int .i64 64] w2 fun e w' => ∃ v', e = .returned v' ∧ w'.ownsRow w2.heap.size 5 1 v' (laidL (bsz false) zs).length (cellsU8 (laidL (bsz false) zs)) ∧ Below w2.heap.size w2 w') := rlaid_any false v zs w2 (HV.out.kept fun b hb => HB2.out.block b hb) hn2.out
  go_upto_region 6 with (go_at_call 47; refine H50.out.mono ?_)
  clear H50
  rintro e w3 ⟨v3, rfl, ho3, hb3⟩
  obtain ⟨Z, HZ⟩ : ∃ Z, Hid (Z = laidL (bsz false) zs) := ⟨_, rfl⟩
  rw [← HZ.out] at ho3
  obtain ⟨L, HLZ⟩ : ∃ L, Hid (L = Z.length) := ⟨_, rfl⟩
  rw [← HLZ.out] at ho3
  have HL1 : Hid (64 ≤ L ∧ L = 64 * (L / 64)) := by
    have h1 := laid_blocks false zs
    have h2 := padN_pos (bsz false) zs.length
    rw [← HZ.out, ← HLZ.out] at h1
    have h3 : L = 64 * (zs.length / bsz false + padN (bsz false) zs.length) := h1
    generalize zs.length / bsz false = x1 at h3
    generalize padN (bsz false) zs.length = x2 at h2 h3
    show 64 ≤ L ∧ L = 64 * (L / 64)
    omega
  obtain ⟨g, c, rfl⟩ := owns_some ho3 (by have := HL1.out; omega)
  have HGN : Hid (g ≠ w1.heap.size) := by
    have h1 := (ho3.lt g rfl).1
    have h2 := HM2.out.size
    simp at h2
    show g ≠ w1.heap.size
    omega
  have HL : Hid (L = 64 * (L / 64) ∧ L ≤ c ∧ c ≤ 9223372036854775807 ∧ g < w3.heap.size ∧ ∀ i, i < L → w3.cell? ⟨g, 0 + i, none⟩ = some (.int .u8 (fnz Z i))) := by
    have h1 := viewOwns ho3 HLZ.out.symm
    obtain ⟨a', cap', e1, q1, q2, q3, q4⟩ := h1
    injection e1 with e1 e2 e3
    subst e3
    refine ⟨HL1.out.2, by rw [← HLZ.out] at q1; exact q1, by unfold maxLen at q2; omega, (ho3.lt g rfl).2, fun i hi => ?_⟩
    rcases q4 with q4 | ⟨b', p', e4, q5⟩
    · rw [HLZ.out, q4] at hi
      simp at hi
    · rw [← e1] at e4
      injection e4 with e4
      injection e4 with e5 e6
      subst e5 e6
      exact q5 i (by rw [← HLZ.out]; exact hi)
  have HM3 : Hid (Mem w1 w3 [E0.cells]) := HM2.out.later hb3
  have HB3 : Hid (Below w.heap.size w w3) := HB2.out.trans (hb3.mono HB2.out.size)
  have HT3 : Hid (RTab w3) := HT.out.below HB3.out HT.out.size
  clear HM2 HB2 ho3 hb3 HV
  have hTw := HT3.out
  go_upto_region 13 with (first
    | (refine wpList_load_mid (by rfl) 64 (.tmp 6) (by rfl) w1.heap.size 0 (by rfl) E0.cells _ ((HM3.out.holds 0 _ rfl).1) Tryd.underlying64 rfl size70 ?_)
    | (go_at_call 48; refine (rnarrow_walk E0.a E0.b E0.c E0.d E0.e E0.f E0.g E0.k (fnz Z) g 0 L (L / 64) c w3 hTw HL.out.1 HL.out.2.1 HL.out.2.2.1 HL.out.2.2.2.1 HL.out.2.2.2.2).mono ?_)
    | fail)
  rintro e w4 ⟨rfl, hb4⟩
  obtain ⟨E1, HE1⟩ : ∃ E1 : Eight, Hid (E1 = (takes32 cubeAt (fnz Z) ⟨E0.a, E0.b, E0.c, E0.d, E0.e, E0.f, E0.g, E0.k⟩ (L / 64)).low) := ⟨_, rfl⟩
  rw [← HE1.out]
  have HM4 : Hid (Mem w1 w4 [E0.cells]) := HM3.out.later hb4
  have HB4 : Hid (Below w.heap.size w w4) := HB3.out.trans (hb4.mono HB3.out.size)
  have HM5 : Hid (Mem w1 (w4.setCells w1.heap.size 0 E1.cells) [E1.cells]) := (HM4.out.store 0 rfl E1.cells rfl).congr rfl
  have HB5 : Hid (Below w.heap.size w (w4.setCells w1.heap.size 0 E1.cells)) := below_setCells _ HN1.out _ _ _ HB4.out
  have HY : Hid (w4.there w1.heap.size 0 E1.cells.toArray.size) := (HM4.out.holds 0 _ rfl).2
  have HEE : Hid (E1 = endW (wdOf h) (firstE h) 0 zs) := by
    rw [HE1.out, hwd, ← endW_laid false, ← HE0.out, ← HZ.out]
    have hL : L = Z.length := HLZ.out
    have h1 : 1 ≤ L / 64 := by have := HL1.out; omega
    obtain ⟨t, ht⟩ : ∃ t, L / 64 = t + 1 := ⟨L / 64 - 1, by omega⟩
    have e : takes32 cubeAt (fnz Z) ⟨E0.a, E0.b, E0.c, E0.d, E0.e, E0.f, E0.g, E0.k⟩ (L / 64) = TT false (fnz Z) E0 (Z.length / bsz false) := by rw [← hL]; rfl
    rw [← e, ht]
    exact low_low _ _ _
  clear HM3 HB3 HE1 HM4 HB4 hb4 hTw
  go_upto_region 13 with (refine wpList_store_mid (by rfl) 64 (.tmp 6) (.tmp 28) (by rfl) w1.heap.size 0 E1.cells.toArray (by rfl) (by rfl) HY.out size70 (cellsE_one E1) ?_)
  clear HY
  change Code.wp _ _ _ _ (w4.setCells w1.heap.size 0 E1.cells) at *
  generalize w4.setCells w1.heap.size 0 E1.cells = w5 at HM5 HB5 ⊢
  go_wp2
  go_loopw [10, 11] (fun v vi wr => ∃ i l c : Nat, ∃ a : Option Addr, Hid (i ≤ m ∧ l = 4 * i) ∧ vi = .int .i64 i ∧ v = .slice a l c ∧ Hid (wr.ownsRow (w1.heap.size + 1) 5 1 (.slice a l c) l (cellsU8 ((spellL false E1).take l))) ∧ Hid (Mem w1 wr [E1.cells]) ∧ Hid (Below w.heap.size w wr)) (fun _ vi _ => m - (intOf vi).toNat)
  case atStart => exact ⟨0, 0, 0, none, ⟨Nat.zero_le _, rfl⟩, rfl, rfl, World.ownsRow_nil _ _ _ _, HM5, HB5⟩
  case round =>
    obtain ⟨i, l, c0, a, HI, rfl, rfl, HO6, HM6, HB6⟩ := hrel
    clear HM5 HB5
    by_cases him : i < m
    · have hi8 : i < 8 := by have := hm.out; omega
      have hls : l < szOf h := by have := HI.out; have := hm.out; omega
      have hls' : (l : Int) < (szOf h : Nat) := by omega
      go_wp2_with (go_at_call 16; refine (rsize_ok h k _).mono ?_; rintro e1 wx ⟨rfl, hwx⟩; obtain rfl := hwx.symm)
      go_loopw [10, 12] (fun v vj wr => ∃ q l c : Nat, ∃ a : Option Addr, Hid (q ≤ 4 ∧ l = 4 * i + (4 - q)) ∧ vj = .int .i64 ((q : Int) - 1) ∧ v = .slice a l c ∧ Hid (wr.ownsRow (w1.heap.size + 1) 5 1 (.slice a l c) l (cellsU8 ((spellL false E1).take l))) ∧ Hid (Mem w1 wr [E1.cells]) ∧ Hid (Below w.heap.size w wr)) (fun _ vj _ => (intOf vj + 1).toNat)
      case atStart => exact ⟨4, l, c0, a, ⟨by omega, by have := HI.out; omega⟩, rfl, rfl, HO6, HM6, HB6⟩
      case round =>
        obtain ⟨q, l2, c2, a2, HL2, rfl, rfl, HO7, HM7, HB7⟩ := hrel
        clear HO6 HM6 HB6
        rcases q with _ | j
        · rw [show ((0 : Nat) : Int) - 1 = -1 from rfl]
          go_wp2
          go_roundw
          case rel => exact ⟨i + 1, l2, c2, a2, ⟨by omega, by have := HL2.out; omega⟩, by go_num, rfl, HO7, HM7, HB7⟩
          case measure => simp [intOf]; omega
        · rw [show ((j + 1 : Nat) : Int) - 1 = (j : Int) by omega]
          have hj : j < 4 := by have := HL2.out; omega
          have hls2 : l2 < szOf h := by have := HL2.out; have := hm.out; omega
          have hls3 : (l2 : Int) < (szOf h : Nat) := by omega
          have hl64 : l2 < 64 := by have := HL2.out; omega
          have hj0 : (0 : Int) ≤ (j : Int) := by omega
          have hw1 : IntKind.i64.wrap (8 * (j : Int)) = 8 * (j : Int) := by rw [IntKind.wrap_i64]; omega
          have hw2 : IntKind.u64.wrap (8 * (j : Int)) = 8 * (j : Int) := by rw [IntKind.wrap_u64]; omega
          have f0 : wr.cell? ⟨w1.heap.size, i, none⟩ = some (.int .u64 (fnz E1.list i)) := HM7.out.cell 0 rfl i _ (by rw [cells_Cl]; exact Cl_at _ _ i hi8)
          have hbase : w1.heap.size + 1 ≤ wr.heap.size := HM7.out.size
          go_wp2_with (first
            | (go_at_call 16; refine (rsize_ok h k _).mono ?_; rintro e1 wx ⟨rfl, hwx⟩; obtain rfl := hwx.symm)
            | (at_builtin; go_must (refine wpList_append_own _ rfl (.tmp 62) (.tmp 71) 22 rfl (w1.heap.size + 1) 5 i0 (.int .u8 0) 1 1 Tryd.underlying22 hi hz0 hz1 hz2 rfl (by decide) _ _ _ rfl (HO7.out.alloc _) ⟨wr.heap.size, 0, none⟩ 1 1 [.int .u8 (fnz E1.list i / 2 ^ (8 * j) % 256)] rfl rfl (one_cell _ _ _) (one_one _) (by unfold maxLen; omega) (by omega) (by rw [size_alloc]; omega) ?_)))
          intro v8 w8 hown8 hgrow8 hnil8
          have hb8 : Below (w1.heap.size + 1) wr w8 := ((Below.refl (w1.heap.size + 1) wr).alloc hbase _).grown hgrow8 (by rw [size_alloc]; omega) (fun q hq => (HO7.out.lt q hq).1)
          have HM8 : Hid (Mem w1 w8 [E1.cells]) := HM7.out.laterN hb8
          have HB8 : Hid (Below w.heap.size w w8) := HB7.out.trans (hb8.mono (by have := HN1.out; omega))
          have ho8 : w8.ownsRow (w1.heap.size + 1) 5 1 v8 (l2 + 1) (cellsU8 ((spellL false E1).take (l2 + 1))) := by
            have e : cellsU8 ((spellL false E1).take (l2 + 1)) = cellsU8 ((spellL false E1).take l2) ++ [.int .u8 (fnz E1.list i / 2 ^ (8 * j) % 256)] := by
              rw [List.take_add_one, spellL_at _ _ l2 hl64, spell4 E1 i j l2 (by have := HL2.out; omega) hj hi8]
              simp [cellsU8]
            rw [e]
            exact hown8
          clear hown8 hgrow8 hnil8 hb8
          obtain ⟨a8, c8, rfl⟩ := owns_slice ho8
          have HO8 : Hid (w8.ownsRow (w1.heap.size + 1) 5 1 (.slice a8 (l2 + 1) c8) (l2 + 1) (cellsU8 ((spellL false E1).take (l2 + 1)))) := ho8
          clear ho8 HO7 HM7 HB7
          go_wp2
          go_roundw
          case rel => exact ⟨j, l2 + 1, c8, a8, ⟨by omega, by have := HL2.out; omega⟩, rfl, rfl, HO8, HM8, HB8⟩
          case measure => simp [intOf]
    · have hls : ¬ l < szOf h := by have := HI.out; have := hm.out; omega
      have hls' : ¬ (l : Int) < (szOf h : Nat) := by omega
      go_wp2_with (go_at_call 16; refine (rsize_ok h k _).mono ?_; rintro e1 wx ⟨rfl, hwx⟩; obtain rfl := hwx.symm)
      go_ret
      have hl : l = szOf h := by have := HI.out; have := hm.out; omega
      refine ⟨_, rfl, ?_, HB6.out⟩
      have e : sumD h zs = (spellL false E1).take l := by rw [hl, HEE.out, ← hwd]; rfl
      rw [e, ← hl]
      exact owns_base HO6.out (by have := HN1.out; omega)
set_option maxHeartbeats 3200000 in
set_option maxRecDepth 100000 in
theorem rsum128 (h : Int) (k : Known h) (hwd : wdOf h = true) (m : Nat) (hm : Hid (szOf h = 8 * m ∧ m ≤ 8)) (v : Value) (zs : List Int) (w : World) (hT : RTab w) (hv : View w v zs) (hn : zs.length ≤ 1099511627776) :
    Calls Tryd.prog 35 #[.int .i64 h, v] w fun e w' => ∃ v', e = .returned v' ∧ w'.ownsRow w.heap.size 5 1 v' (szOf h) (cellsU8 (sumD h zs)) ∧ Below w.heap.size w w' := by
  have HT : Hid (RTab w) := hT
  have HV : Hid (View w v zs) := hv
  have hn2 : Hid (zs.length ≤ 1099511627776) := hn
  have hb48 : Hid (∀ u, Calls Tryd.prog 45 #[.int .i64 h] u fun e w' => e = .returned (.int .i64 128) ∧ w' = u) := fun u => by
    have := rblock_ok h k u
    rw [hwd] at this
    exact this
  obtain ⟨i0, hi, hz0, hz1, hz2⟩ := info_parts Tryd.info5
  clear hT hv hn
  go_enter Tryd.func35, Tryd.ntmps35
  go_wp2_with (go_at_call 45; refine (hb48.out _).mono ?_; rintro e1 wx ⟨rfl, hwx⟩; obtain rfl := hwx.symm)
  go_upto_region 5 with (go_at_call 46; refine (rfirst_any k w HT).mono ?_)
  rintro e w1 ⟨rfl, hb1⟩
  obtain ⟨E0, HE0⟩ : ∃ E0 : Eight, Hid (E0 = firstE h) := ⟨_, rfl⟩
  rw [← HE0.out]
  have HN1 : Hid (w.heap.size ≤ w1.heap.size) := hb1.size
  have HMa : Hid (Mem w1 (w1.alloc (.cells #[.int .u64 0, .int .u64 0, .int .u64 0, .int .u64 0, .int .u64 0, .int .u64 0, .int .u64 0, .int .u64 0] 64)) [[.int .u64 0, .int .u64 0, .int .u64 0, .int .u64 0, .int .u64 0, .int .u64 0, .int .u64 0, .int .u64 0]]) := (Mem.nil w1).alloc rfl _ _
  have HBa : Hid (Below w.heap.size w (w1.alloc (.cells #[.int .u64 0, .int .u64 0, .int .u64 0, .int .u64 0, .int .u64 0, .int .u64 0, .int .u64 0, .int .u64 0] 64))) := hb1.alloc hb1.size _
  have HYa : Hid ((w1.alloc (.cells #[.int .u64 0, .int .u64 0, .int .u64 0, .int .u64 0, .int .u64 0, .int .u64 0, .int .u64 0, .int .u64 0] 64)).there w1.heap.size 0 E0.cells.toArray.size) := (HMa.out.holds 0 _ rfl).2
  clear hb1
  go_upto_region 5 with (refine wpList_store_mid (by rfl) 64 (.tmp 6) (.tmp 18) (by rfl) w1.heap.size 0 E0.cells.toArray (by rfl) (by rfl) HYa.out size70 (cellsE_one E0) ?_)
  have HM2 : Hid (Mem w1 ((w1.alloc (.cells #[.int .u64 0, .int .u64 0, .int .u64 0, .int .u64 0, .int .u64 0, .int .u64 0, .int .u64 0, .int .u64 0] 64)).setCells w1.heap.size 0 E0.cells) [E0.cells]) := (HMa.out.store 0 rfl E0.cells rfl).congr rfl
  have HB2 : Hid (Below w.heap.size w ((w1.alloc (.cells #[.int .u64 0, .int .u64 0, .int .u64 0, .int .u64 0, .int .u64 0, .int .u64 0, .int .u64 0, .int .u64 0] 64)).setCells w1.heap.size 0 E0.cells)) := below_setCells _ HN1.out _ _ _ HBa.out
  clear HMa HBa HYa
  generalize (w1.alloc (.cells #[.int .u64 0, .int .u64 0, .int .u64 0, .int .u64 0, .int .u64 0, .int .u64 0, .int .u64 0, .int .u64 0] 64)).setCells w1.heap.size 0 E0.cells = w2 at HM2 HB2 ⊢
  have H50 : Hid (Calls Tryd.prog 47 #[v, .int .i64 128] w2 fun e w' => ∃ v', e = .returned v' ∧ w'.ownsRow w2.heap.size 5 1 v' (laidL (bsz true) zs).length (cellsU8 (laidL (bsz true) zs)) ∧ Below w2.heap.size w2 w') := rlaid_any true v zs w2 (HV.out.kept fun b hb => HB2.out.block b hb) hn2.out
  go_upto_region 6 with (go_at_call 47; refine H50.out.mono ?_)
  clear H50
  rintro e w3 ⟨v3, rfl, ho3, hb3⟩
  obtain ⟨Z, HZ⟩ : ∃ Z, Hid (Z = laidL (bsz true) zs) := ⟨_, rfl⟩
  rw [← HZ.out] at ho3
  obtain ⟨L, HLZ⟩ : ∃ L, Hid (L = Z.length) := ⟨_, rfl⟩
  rw [← HLZ.out] at ho3
  have HL1 : Hid (128 ≤ L ∧ L = 128 * (L / 128)) := by
    have h1 := laid_blocks true zs
    have h2 := padN_pos (bsz true) zs.length
    rw [← HZ.out, ← HLZ.out] at h1
    have h3 : L = 128 * (zs.length / bsz true + padN (bsz true) zs.length) := h1
    generalize zs.length / bsz true = x1 at h3
    generalize padN (bsz true) zs.length = x2 at h2 h3
    show 128 ≤ L ∧ L = 128 * (L / 128)
    omega
  obtain ⟨g, c, rfl⟩ := owns_some ho3 (by have := HL1.out; omega)
  have HGN : Hid (g ≠ w1.heap.size) := by
    have h1 := (ho3.lt g rfl).1
    have h2 := HM2.out.size
    simp at h2
    show g ≠ w1.heap.size
    omega
  have HL : Hid (L = 128 * (L / 128) ∧ L ≤ c ∧ c ≤ 9223372036854775807 ∧ g < w3.heap.size ∧ ∀ i, i < L → w3.cell? ⟨g, 0 + i, none⟩ = some (.int .u8 (fnz Z i))) := by
    have h1 := viewOwns ho3 HLZ.out.symm
    obtain ⟨a', cap', e1, q1, q2, q3, q4⟩ := h1
    injection e1 with e1 e2 e3
    subst e3
    refine ⟨HL1.out.2, by rw [← HLZ.out] at q1; exact q1, by unfold maxLen at q2; omega, (ho3.lt g rfl).2, fun i hi => ?_⟩
    rcases q4 with q4 | ⟨b', p', e4, q5⟩
    · rw [HLZ.out, q4] at hi
      simp at hi
    · rw [← e1] at e4
      injection e4 with e4
      injection e4 with e5 e6
      subst e5 e6
      exact q5 i (by rw [← HLZ.out]; exact hi)
  have HM3 : Hid (Mem w1 w3 [E0.cells]) := HM2.out.later hb3
  have HB3 : Hid (Below w.heap.size w w3) := HB2.out.trans (hb3.mono HB2.out.size)
  have HT3 : Hid (RTab w3) := HT.out.below HB3.out HT.out.size
  clear HM2 HB2 ho3 hb3 HV
  go_wp2
  go_loopw [9] (fun v wr => ∃ i : Nat, Hid (128 * i ≤ L) ∧ v = .int .i64 ((128 * i : Nat) : Int) ∧ Hid (Mem w1 wr [(takes64 cubeAt (fnz Z) E0 i).cells]) ∧ Hid (Below w.heap.size w wr) ∧ Hid (Below w3.heap.size w3 (wr.setCells w1.heap.size 0 E0.cells) ∨ True) ∧ Hid (∀ i, i < L → wr.cell? ⟨g, 0 + i, none⟩ = some (.int .u8 (fnz Z i))) ∧ Hid (g < wr.heap.size)) (fun v _ => L - (intOf v).toNat)
  case atStart => exact ⟨0, Nat.zero_le _, rfl, HM3, HB3, .inr trivial, HL.out.2.2.2.2, HL.out.2.2.2.1⟩
  case round =>
    obtain ⟨i, hi, rfl, HM, HBr, _, HC, Hg⟩ := hrel
    clear HM3 HB3
    obtain ⟨q, hq⟩ : ∃ q, q = 128 * i := ⟨_, rfl⟩
    obtain ⟨E, HE⟩ : ∃ E : Eight, Hid (E = takes64 cubeAt (fnz Z) E0 i) := ⟨_, rfl⟩
    rw [← HE.out] at HM
    rw [← hq]
    have HQ : Hid (q = 128 * i) := hq
    clear hq
    by_cases hlt : q < L
    · have h128 : q + 128 ≤ L := by have := HQ.out; have := HL.out.1; omega
      have hq64 : IntKind.i64.wrap ((q : Int) + 128) = (q : Int) + 128 := by
        have := HL.out.2.2.1; have := HL.out.2.1
        rw [IntKind.wrap_i64]
        omega
      have HSl : Hid (∀ u, (Instr.slice 22 (.slice (some ⟨g, 0, none⟩) L c) (some (.int .i64 (q : Nat))) (some (.int .i64 ((q : Int) + 128))) none).run Tryd.prog u = .ok (.slice (some ⟨g, q, none⟩) 128 (c - q)) u) := fun u => by
        have := slice22 u g 0 L c q 128 128 rfl (by omega) (by have := HL.out.2.1; omega)
        rwa [Nat.zero_add] at this
      obtain ⟨E2, HE2⟩ : ∃ E2 : Eight, Hid (E2 = takes64 cubeAt (fnz Z) E0 (i + 1)) := ⟨_, rfl⟩
      have HCall : Hid (∀ u, Below wr.heap.size wr u → Calls Tryd.prog 49 #[.agg E.cells.toArray, .slice (some ⟨g, q, none⟩) 128 (c - q)] u fun e w' => e = .returned (.agg E2.cells.toArray) ∧ Below wr.heap.size wr w') := fun u hu => by
        refine (taken64_walk E.a E.b E.c E.d E.e E.f E.g E.k cubeAt (fun j => fnz Z (128 * i + j)) g q (c - q) u (fun t ht => ?_) (by have := HL.out.2.1; omega) (by have := HL.out.2.2.1; omega) (fun j hj => ?_)).mono fun e w' h => ⟨?_, hu.trans (h.2.mono hu.size)⟩
        · have hs := HT.out.size
          have hs2 := HBr.out.size
          rw [hu.cell (p := ⟨2, t, none⟩) (by show 2 < _; omega), HBr.out.cell (p := ⟨2, t, none⟩) (by show 2 < _; omega)]
          exact HT.out.cubes t ht
        · have h5 := HC.out (q + j) (by omega)
          rw [Nat.zero_add] at h5
          rw [hu.cell Hg.out, h5, HQ.out]
        · rw [h.1, HE2.out]
          have e1 : takes64 cubeAt (fnz Z) E0 (i + 1) = block64 cubeAt (fun j => fnz Z (128 * i + j)) (takes64 cubeAt (fnz Z) E0 i) := rfl
          rw [e1, ← HE.out]
      have hS0 : Below wr.heap.size wr wr.drew := (Below.refl _ _).drew
      clear HE
      go_wp2
      refine wp_region_noPanic ?_
      refine wp_region_till (fun u => Below wr.heap.size wr u) 6 (by kernel_rfl) (by decide) (by decide +kernel) (by decide +kernel) (by decide +kernel) (fun inv => ?_)
      refine till_at 0 35 (.agg (E.cells).toArray) inv rfl rfl (by decide) (by decide +kernel) (by decide +kernel) (fun _ _ _ h => h) (hS0) (yieldsIf_load_mid (by kernel_rfl) 64 (.tmp 6) rfl (w1.heap.size) 0 rfl E.cells _ (fun u hu => ((HM.out.later hu).holds 0 _ rfl).1) Tryd.underlying64 rfl size70) (fun inv' => ?_)
      clear inv; have inv := inv'; clear inv'
      simp only [List.setIfInBounds_toArray, List.set_cons_zero, List.set_cons_succ]
      refine till_at 1 36 (.slice (some ⟨g, 0, none⟩) L c) inv rfl rfl (by decide) (by decide +kernel) (by decide +kernel) (fun _ _ _ h => h) (hS0) (Or.inl ⟨by rfl, fun w' hS' => by go_simp⟩) (fun inv' => ?_)
      clear inv; have inv := inv'; clear inv'
      simp only [List.setIfInBounds_toArray, List.set_cons_zero, List.set_cons_succ]
      refine till_at 2 37 (.int .i64 (q : Nat)) inv rfl rfl (by decide) (by decide +kernel) (by decide +kernel) (fun _ _ _ h => h) (hS0) (Or.inl ⟨by rfl, fun w' hS' => by go_simp⟩) (fun inv' => ?_)
      clear inv; have inv := inv'; clear inv'
      simp only [List.setIfInBounds_toArray, List.set_cons_zero, List.set_cons_succ]
      refine till_at 3 38 (.int .i64 (q : Nat)) inv rfl rfl (by decide) (by decide +kernel) (by decide +kernel) (fun _ _ _ h => h) (hS0) (Or.inl ⟨by rfl, fun w' hS' => by go_simp⟩) (fun inv' => ?_)
      clear inv; have inv := inv'; clear inv'
      simp only [List.setIfInBounds_toArray, List.set_cons_zero, List.set_cons_succ]
      refine till_at 4 39 (.int .i64 ((q : Int) + 128)) inv rfl rfl (by decide) (by decide +kernel) (by decide +kernel) (fun _ _ _ h => h) (hS0) (Or.inl ⟨by rfl, fun w' hS' => by go_simp⟩) (fun inv' => ?_)
      clear inv; have inv := inv'; clear inv'
      simp only [List.setIfInBounds_toArray, List.set_cons_zero, List.set_cons_succ]
      refine till_at 5 40 (.slice (some ⟨g, q, none⟩) 128 (c - q)) inv rfl rfl (by decide) (by decide +kernel) (by decide +kernel) (fun _ _ _ h => h) (hS0) (Or.inl ⟨by rfl, fun w' hS' => by have q := HSl.out w'; go_simp⟩) (fun inv' => ?_)
      clear inv; have inv := inv'; clear inv'
      simp only [List.setIfInBounds_toArray, List.set_cons_zero, List.set_cons_succ]
      refine till_tail (i := 6) (by decide +kernel) (by decide) rfl (fun K hK => ?_)
      go_simp
      refine (HCall.out _ hS0).mono ?_
      rintro e1 wn ⟨rfl, hwn⟩
      go_wp2_with fail
      refine hK.out _ _ ?_
      clear hK K
      try simp only [List.setIfInBounds_toArray, List.set_cons_zero, List.set_cons_succ]
      refine till_tail (i := 7) (by decide +kernel) (by decide) rfl (fun K hK => ?_)
      rw [if_pos (by rfl)]
      refine wp_store_mid 64 (.tmp 6) (.tmp 41) rfl w1.heap.size 0 (Eight.cells E2).toArray rfl rfl (((HM.out.later hwn).holds 0 _ rfl).2) (size70) (cellsE_one _) ?_
      refine hK.out _ _ ?_
      clear hK K
      try simp only [List.setIfInBounds_toArray, List.set_cons_zero, List.set_cons_succ]
      refine till_done (by decide +kernel) ?_ _
      refine NoPanic.normal ?_
      have hgn : g ≠ w1.heap.size := HGN.out
      have HBn : Hid (Below w.heap.size w (wn.setCells w1.heap.size 0 E2.cells)) := below_setCells _ HN1.out _ _ _ (HBr.out.trans (hwn.mono HBr.out.size))
      have HMn : Hid (Mem w1 (wn.setCells w1.heap.size 0 E2.cells) [E2.cells]) := ((HM.out.later hwn).store 0 rfl E2.cells rfl).congr rfl
      have HCn : Hid (∀ i, i < L → (wn.setCells w1.heap.size 0 E2.cells).cell? ⟨g, 0 + i, none⟩ = some (.int .u8 (fnz Z i))) := fun j hj => by
        rw [World.cell?_setCells_out w1.heap.size E2.cells 0 wn ⟨g, 0 + j, none⟩ (fun e' _ => absurd e' hgn), hwn.cell Hg.out]
        exact HC.out j hj
      have Hgn : Hid (g < (wn.setCells w1.heap.size 0 E2.cells).heap.size) := by
        show g < (wn.setCells w1.heap.size 0 E2.cells).heap.size
        rw [size_setCells]
        exact Nat.lt_of_lt_of_le Hg.out hwn.size
      clear hwn HM HBr HC Hg
      go_wp2
      go_roundw
      case rel =>
        refine ⟨i + 1, (by have := HQ.out; omega : 128 * (i + 1) ≤ L), val_eq (by have := HQ.out; omega), ?_, HBn, .inr trivial, HCn, Hgn⟩
        rw [← HE2.out]
        exact HMn
      case measure => simp [intOf]; omega
    · have hiL : L = 128 * i := by have := HQ.out; have := hi.out; omega
      have HM5 : Hid (Mem w1 wr [E.cells]) := HM
      have HB5 : Hid (Below w.heap.size w wr) := HBr
      have HEE : Hid (E = endW (wdOf h) (firstE h) 0 zs) := by
        rw [HE.out, hwd, ← endW_laid true, ← HE0.out, ← HZ.out]
        have hL : L = Z.length := HLZ.out
        have e : takes64 cubeAt (fnz Z) E0 i = TT true (fnz Z) E0 (Z.length / bsz true) := by
          rw [← hL, hiL]
          show _ = takes64 cubeAt (fnz Z) E0 (128 * i / 128)
          rw [Nat.mul_div_cancel_left _ (by omega)]
        rw [← e]
        exact rfl
      clear HM HBr HC Hg HE hi hiL
      go_upto_region 13 with fail
      go_wp2
      go_loopw [10, 11] (fun v vi wr => ∃ i l c : Nat, ∃ a : Option Addr, Hid (i ≤ m ∧ l = 8 * i) ∧ vi = .int .i64 i ∧ v = .slice a l c ∧ Hid (wr.ownsRow (w1.heap.size + 1) 5 1 (.slice a l c) l (cellsU8 ((spellL true E).take l))) ∧ Hid (Mem w1 wr [E.cells]) ∧ Hid (Below w.heap.size w wr)) (fun _ vi _ => m - (intOf vi).toNat)
      case atStart => exact ⟨0, 0, 0, none, ⟨Nat.zero_le _, rfl⟩, rfl, rfl, World.ownsRow_nil _ _ _ _, HM5, HB5⟩
      case round =>
        obtain ⟨i, l, c0, a, HI, rfl, rfl, HO6, HM6, HB6⟩ := hrel
        clear HM5 HB5
        by_cases him : i < m
        · have hi8 : i < 8 := by have := hm.out; omega
          have hls : l < szOf h := by have := HI.out; have := hm.out; omega
          have hls' : (l : Int) < (szOf h : Nat) := by omega
          go_wp2_with (go_at_call 16; refine (rsize_ok h k _).mono ?_; rintro e1 wx ⟨rfl, hwx⟩; obtain rfl := hwx.symm)
          go_loopw [10, 12] (fun v vj wr => ∃ q l c : Nat, ∃ a : Option Addr, Hid (q ≤ 8 ∧ l = 8 * i + (8 - q)) ∧ vj = .int .i64 ((q : Int) - 1) ∧ v = .slice a l c ∧ Hid (wr.ownsRow (w1.heap.size + 1) 5 1 (.slice a l c) l (cellsU8 ((spellL true E).take l))) ∧ Hid (Mem w1 wr [E.cells]) ∧ Hid (Below w.heap.size w wr)) (fun _ vj _ => (intOf vj + 1).toNat)
          case atStart => exact ⟨8, l, c0, a, ⟨by omega, by have := HI.out; omega⟩, rfl, rfl, HO6, HM6, HB6⟩
          case round =>
            obtain ⟨q, l2, c2, a2, HL2, rfl, rfl, HO7, HM7, HB7⟩ := hrel
            clear HO6 HM6 HB6
            rcases q with _ | j
            · rw [show ((0 : Nat) : Int) - 1 = -1 from rfl]
              go_wp2
              go_roundw
              case rel => exact ⟨i + 1, l2, c2, a2, ⟨by omega, by have := HL2.out; omega⟩, by go_num, rfl, HO7, HM7, HB7⟩
              case measure => simp [intOf]; omega
            · rw [show ((j + 1 : Nat) : Int) - 1 = (j : Int) by omega]
              have hj : j < 8 := by have := HL2.out; omega
              have hls2 : l2 < szOf h := by have := HL2.out; have := hm.out; omega
              have hls3 : (l2 : Int) < (szOf h : Nat) := by omega
              have hl64 : l2 < 64 := by have := HL2.out; omega
              have hj0 : (0 : Int) ≤ (j : Int) := by omega
              have hw1 : IntKind.i64.wrap (8 * (j : Int)) = 8 * (j : Int) := by rw [IntKind.wrap_i64]; omega
              have hw2 : IntKind.u64.wrap (8 * (j : Int)) = 8 * (j : Int) := by rw [IntKind.wrap_u64]; omega
              have f0 : wr.cell? ⟨w1.heap.size, i, none⟩ = some (.int .u64 (fnz E.list i)) := HM7.out.cell 0 rfl i _ (by rw [cells_Cl]; exact Cl_at _ _ i hi8)
              have hbase : w1.heap.size + 1 ≤ wr.heap.size := HM7.out.size
              go_wp2_with (first
                | (go_at_call 16; refine (rsize_ok h k _).mono ?_; rintro e1 wx ⟨rfl, hwx⟩; obtain rfl := hwx.symm)
                | (at_builtin; go_must (refine wpList_append_own _ rfl (.tmp 62) (.tmp 71) 22 rfl (w1.heap.size + 1) 5 i0 (.int .u8 0) 1 1 Tryd.underlying22 hi hz0 hz1 hz2 rfl (by decide) _ _ _ rfl (HO7.out.alloc _) ⟨wr.heap.size, 0, none⟩ 1 1 [.int .u8 (fnz E.list i / 2 ^ (8 * j) % 256)] rfl rfl (one_cell _ _ _) (one_one _) (by unfold maxLen; omega) (by omega) (by rw [size_alloc]; omega) ?_)))
              intro v8 w8 hown8 hgrow8 hnil8
              have hb8 : Below (w1.heap.size + 1) wr w8 := ((Below.refl (w1.heap.size + 1) wr).alloc hbase _).grown hgrow8 (by rw [size_alloc]; omega) (fun q hq => (HO7.out.lt q hq).1)
              have HM8 : Hid (Mem w1 w8 [E.cells]) := HM7.out.laterN hb8
              have HB8 : Hid (Below w.heap.size w w8) := HB7.out.trans (hb8.mono (by have := HN1.out; omega))
              have ho8 : w8.ownsRow (w1.heap.size + 1) 5 1 v8 (l2 + 1) (cellsU8 ((spellL true E).take (l2 + 1))) := by
                have e : cellsU8 ((spellL true E).take (l2 + 1)) = cellsU8 ((spellL true E).take l2) ++ [.int .u8 (fnz E.list i / 2 ^ (8 * j) % 256)] := by
                  rw [List.take_add_one, spellL_at _ _ l2 hl64, spell8 E i j l2 (by have := HL2.out; omega) hj hi8]
                  simp [cellsU8]
                rw [e]
                exact hown8
              clear hown8 hgrow8 hnil8 hb8
              obtain ⟨a8, c8, rfl⟩ := owns_slice ho8
              have HO8 : Hid (w8.ownsRow (w1.heap.size + 1) 5 1 (.slice a8 (l2 + 1) c8) (l2 + 1) (cellsU8 ((spellL true E).take (l2 + 1)))) := ho8
              clear ho8 HO7 HM7 HB7
              go_wp2
              go_roundw
              case rel => exact ⟨j, l2 + 1, c8, a8, ⟨by omega, by have := HL2.out; omega⟩, rfl, rfl, HO8, HM8, HB8⟩
              case measure => simp [intOf]
        · have hls : ¬ l < szOf h := by have := HI.out; have := hm.out; omega
          have hls' : ¬ (l : Int) < (szOf h : Nat) := by omega
          go_wp2_with (go_at_call 16; refine (rsize_ok h k _).mono ?_; rintro e1 wx ⟨rfl, hwx⟩; obtain rfl := hwx.symm)
          go_ret
          have hl : l = szOf h := by have := HI.out; have := hm.out; omega
          refine ⟨_, rfl, ?_, HB6.out⟩
          have e : sumD h zs = (spellL true E).take l := by rw [hl, HEE.out, ← hwd]; rfl
          rw [e, ← hl]
          exact owns_base HO6.out (by have := HN1.out; omega)
/-- Sum: the document's digest is the one that the streams make. -/
theorem rsum_ok {h : Int} (k : Known h) (v : Value) (zs : List Int) (w : World) (hT : RTab w) (hv : View w v zs) (hn : zs.length ≤ 1099511627776) :
    Calls Tryd.prog 35 #[.int .i64 h, v] w fun e w' => ∃ v', e = .returned v' ∧ w'.ownsRow w.heap.size 5 1 v' (szOf h) (cellsU8 (sumD h zs)) ∧ Below w.heap.size w w' := by
  rcases k with rfl | rfl | rfl | rfl
  · exact rsum64 224 (.inl rfl) rfl 7 ⟨rfl, by decide⟩ v zs w hT hv hn
  · exact rsum64 256 (.inr (.inl rfl)) rfl 8 ⟨rfl, by decide⟩ v zs w hT hv hn
  · exact rsum128 384 (.inr (.inr (.inl rfl))) rfl 6 ⟨rfl, by decide⟩ v zs w hT hv hn
  · exact rsum128 512 (.inr (.inr (.inr rfl))) rfl 8 ⟨rfl, by decide⟩ v zs w hT hv hn
end Go.Proofs.YtcopkohklgbpgabDoor
namespace Go.Proofs.YtcopkohklgbpgabDoor
open Go.RowKit
set_option linter.unusedVariables false
set_option linter.unusedSimpArgs false
/-- Piece c of a block, digested. -/
def dPiece (h : Int) (Z : List Int) (c : Nat) : List Int := sumD h (be4 c ++ (Z.drop (szOf h * c)).take (szOf h))
/-- Diffuse, piece by piece. -/
def spreadL (h : Int) (Z : List Int) : List Int := (List.range Z.length).map fun j => (dPiece h Z (j / szOf h)).getD (j % szOf h) 0
theorem spreadL_length (h : Int) (Z : List Int) : (spreadL h Z).length = Z.length := by simp [spreadL]
theorem sumD_length (h : Int) (k : Known h) (X : List Int) : (sumD h X).length = szOf h := by
  have := szOf_pos k
  simp [sumD, spellL]
  omega
theorem spreadL_step (h : Int) (k : Known h) (Z : List Int) (i d : Nat) (hd : d ≤ szOf h) (hp : szOf h * i + d ≤ Z.length) : (spreadL h Z).take (szOf h * i + d) = (spreadL h Z).take (szOf h * i) ++ (dPiece h Z i).take d := by
  have hs := szOf_pos k
  have hl : (dPiece h Z i).length = szOf h := sumD_length h k _
  apply List.ext_getElem?
  intro j
  by_cases h1 : j < szOf h * i
  · rw [List.getElem?_append_left (by simp [spreadL_length]; omega), List.getElem?_take, List.getElem?_take, if_pos (by omega), if_pos h1]
  · rw [List.getElem?_append_right (by simp [spreadL_length]; omega), List.length_take, spreadL_length, Nat.min_eq_left (by omega)]
    by_cases h2 : j < szOf h * i + d
    · have e1 : j / szOf h = i := by
        rw [show j = (j - szOf h * i) + szOf h * i by omega, Nat.add_mul_div_left _ _ (by omega), Nat.div_eq_of_lt (by omega), Nat.zero_add]
      have e2 : j % szOf h = j - szOf h * i := by
        have := Nat.div_add_mod j (szOf h)
        rw [e1] at this
        omega
      rw [List.getElem?_take, if_pos h2, List.getElem?_take, if_pos (by omega)]
      simp only [spreadL, List.getElem?_map, List.getElem?_range (show j < Z.length by omega), Option.map_some, e1, e2]
      rw [List.getElem?_eq_getElem (by omega), List.getD_eq_getElem?_getD, List.getElem?_eq_getElem (by omega)]
      rfl
    · rw [List.getElem?_eq_none (by simp [spreadL_length]; omega), List.getElem?_eq_none (by simp; omega)]
theorem owns_kept {w w' : World} {B n : Nat} {v : Value} {xs : List Value} (h : w.ownsRow B 5 1 v n xs) (hb : Below w.heap.size w w') : w'.ownsRow B 5 1 v n xs := by
  obtain ⟨h1, h2⟩ := h
  refine ⟨h1, ?_⟩
  rcases h2 with h2 | ⟨g, c, cur, e, q1, q2, q⟩
  · exact .inl h2
  · exact .inr ⟨g, c, cur, e, q1, by rw [hb.block g (Array.getElem?_eq_some_iff.1 q2).1]; exact q2, q⟩
theorem getElem?_of_take {α : Type} {l : List α} {d j : Nat} {u : α} (h : (l.take d)[j]? = some u) : l[j]? = some u := by
  rw [List.getElem?_take] at h
  split at h
  · exact h
  · cases h
theorem be4_small (i : Nat) (hi : i < 256) : be4 i = [(i : Int) / 16777216, (i : Int) / 65536, (i : Int) / 256, (i : Int)] := by
  unfold be4
  have e1 : (i : Int) / 16777216 % 256 = (i : Int) / 16777216 := by omega
  have e2 : (i : Int) / 65536 % 256 = (i : Int) / 65536 := by omega
  have e3 : (i : Int) / 256 % 256 = (i : Int) / 256 := by omega
  have e4 : (i : Int) % 256 = (i : Int) := by omega
  rw [e1, e2, e3, e4]
theorem owns_lit (w : World) (zs : List Int) (n : Nat) (hz : zs.length = n) (hl : n ≤ maxLen) : (w.alloc (.cells (cellsU8 zs).toArray 5)).ownsRow w.heap.size 5 1 (.slice (some ⟨w.heap.size, 0, none⟩) n n) n (cellsU8 zs) := by
  subst hz
  have hh : (w.alloc (.cells (cellsU8 zs).toArray 5)).heap[w.heap.size]? = some (.cells (cellsU8 zs).toArray 5 (0, 0)) := by
    show (w.heap.push _)[w.heap.size]? = _
    simp
  refine ⟨by rw [cellsU8_length, Nat.mul_one], .inr ⟨_, _, _, rfl, Nat.le_refl _, hh, Nat.le_refl _, hl, by simp [cellsU8_length], ?_⟩⟩
  rw [List.take_of_length_le (by simp [cellsU8_length])]
set_option maxHeartbeats 1600000 in
set_option maxRecDepth 100000 in
theorem rspread224_some (b off n c : Nat) (Z : List Int) (w : World) (hT : Hid (RTab w)) (hn : 0 < n ∧ n ≤ 1024) (hnc : n ≤ c ∧ c ≤ 9223372036854775807) (hZl : Hid (Z.length = n)) (hbw : b < w.heap.size) (HC : Hid (∀ i, i < n → w.cell? ⟨b, off + i, none⟩ = some (.int .u8 (Z.getD i 0)))) :
    Calls Tryd.prog 28 #[.int .i64 224, .slice (some ⟨b, off, none⟩) n c] w fun e w' => ∃ v, e = .returned v ∧ w'.ownsRow w.heap.size 5 1 v n (cellsU8 (spreadL 224 Z)) ∧ Below w.heap.size w w' := by
  obtain ⟨i0, hi, hz0, hz1, hz2⟩ := info_parts Tryd.info5
  have H27 : Hid (∀ u, Calls Tryd.prog 16 #[.int .i64 224] u fun e w' => e = .returned (.int .i64 28) ∧ w' = u) := fun u => rsize_ok 224 (by unfold Known; omega) u
  go_enter Tryd.func28, Tryd.ntmps28
  go_wp2_with (go_at_call 16; refine (H27.out _).mono ?_; rintro e1 wx ⟨rfl, hwx⟩; obtain rfl := hwx.symm)
  go_loopw [6, 7] (fun v vi wr => ∃ i l c : Nat, ∃ a : Option Addr, Hid (i ≤ n ∧ l = min (28 * i) n) ∧ vi = .int .i64 i ∧ v = .slice a l c ∧ Hid (wr.ownsRow w.heap.size 5 1 (.slice a l c) l (cellsU8 ((spreadL 224 Z).take l))) ∧ Hid (Below w.heap.size w wr)) (fun _ vi _ => n - (intOf vi).toNat)
  case atStart => exact ⟨0, 0, 0, none, ⟨by omega, by omega⟩, rfl, rfl, World.ownsRow_nil _ _ _ _, Below.refl _ _⟩
  case round =>
    obtain ⟨i, l, c3, a3, HI, rfl, rfl, HO3, HB3⟩ := hrel
    obtain ⟨P, hP⟩ : ∃ P, P = 28 * i := ⟨_, rfl⟩
    have HP : Hid (P = 28 * i) := hP
    by_cases hlt : P < n
    · have hin : i < n := by omega
      have hl : l = P := by have := HI.out; omega
      have HLP : Hid (l = P) := hl
      have hlt2 : (i : Int) * 28 < n := by omega
      by_cases hfull : P + 28 < n
      · have hmin : (i : Int) * 28 + 28 < n := by omega
        have hEP : P + 28 ≤ n := by omega
        have hsl1 : ∀ u, (Instr.slice 22 (.slice (some ⟨b, off, none⟩) n c) (some (.int .i64 ((i : Int) * 28))) (some (.int .i64 ((i : Int) * 28 + 28))) none).run Tryd.prog u = .ok (.slice (some ⟨b, off + P, none⟩) 28 (c - P)) u := fun u => by
          have := slice22 u b off n c P 28 28 (by omega) (by omega) (by omega)
          rw [show ((P : Nat) : Int) = (i : Int) * 28 by omega] at this
          exact this
        obtain ⟨X, HX⟩ : ∃ X : List Int, Hid (X = be4 i ++ (Z.drop P).take 28) := ⟨_, rfl⟩
        have HPl : Hid ((Z.drop P).take 28 = (Z.drop P).take 28) := by
          have hl := hZl.out
          show (Z.drop P).take 28 = (Z.drop P).take 28
          rw [List.take_eq_take_iff, List.length_drop, hl]
          try omega
        have HNw : Hid (∀ j u, (cellsU8 ((Z.drop P).take 28))[j]? = some u → wr.cell? ((⟨b, off + P, none⟩ : Addr).add j) = some u) := cellsU8_at _ wr b (off + P) (fun j hj => by
          have hl := hZl.out
          simp at hj
          rw [HB3.out.cell (p := ⟨b, off + P + j, none⟩) hbw, Nat.add_assoc, HC.out (P + j) (by omega)]
          simp [List.getD, List.getElem?_take, show j < 28 by omega])
        have hbwr : b < wr.heap.size := Nat.lt_of_lt_of_le hbw HB3.out.size
        have HNw2 : Hid (∀ j u, (cellsU8 ((Z.drop P).take 28))[j]? = some u → (wr.alloc (.cells #[.int .u8 ((i : Int) / 16777216), .int .u8 ((i : Int) / 65536), .int .u8 ((i : Int) / 256), .int .u8 (i : Int)] 5)).cell? ((⟨b, off + P, none⟩ : Addr).add j) = some u) := fun j u hu => by
          have h := HNw.out j u hu
          rw [Addr.add_lit] at h ⊢
          rw [cell_alloc_old wr _ b _ hbwr]
          exact h
        have HLn : Hid ((cellsU8 ((Z.drop P).take 28)).length = 28 * 1) := by
          show _ = _
          rw [cellsU8_length, Nat.mul_one, List.length_take, List.length_drop, hZl.out]
          omega
        have Hd : Hid (P + 28 ≤ n ∧ 28 ≤ 28 ∧ 0 < 28 ∧ (P + 28 < n ∨ P + 28 = n)) := ⟨by omega, by omega, by omega, by omega⟩
        clear hP hl
        go_wp2_with (first
          | (at_builtin; go_must (refine wpList_append_own _ rfl (.tmp 41) (.tmp 47) 22 rfl wr.heap.size 5 i0 (.int .u8 0) 1 1 Tryd.underlying22 hi hz0 hz1 hz2 rfl (by decide) _ 4 (cellsU8 [(i : Int) / 16777216, (i : Int) / 65536, (i : Int) / 256, (i : Int)]) rfl (owns_lit wr [(i : Int) / 16777216, (i : Int) / 65536, (i : Int) / 256, (i : Int)] 4 rfl (by decide)) ⟨b, off + P, none⟩ 28 (c - P) (cellsU8 ((Z.drop P).take 28)) rfl HLn.out HNw2.out (cellsU8_one _) (by unfold maxLen; omega) (by omega) (by rw [size_alloc]; omega) ?_)))
        intro v9 w9 hown9 hgrow9 hnil9
        have hbx : Below wr.heap.size wr w9 := ((Below.refl wr.heap.size wr).alloc (Nat.le_refl _) _).grown hgrow9 (by rw [size_alloc]; omega) (fun q hq => by injection hq with hq; rw [← hq]; exact Nat.le_refl _)
        have HB9 : Hid (Below w.heap.size w w9) := HB3.out.trans (hbx.mono HB3.out.size)
        have HO9 : Hid (w9.ownsRow w.heap.size 5 1 (.slice a3 l c3) l (cellsU8 ((spreadL 224 Z).take l))) := owns_kept HO3.out hbx
        have HXl : Hid (X.length = 4 + 28) := by
          show _ = _
          rw [HX.out, List.length_append, List.length_take, List.length_drop, hZl.out]
          have := Hd.out
          simp [be4]
          omega
        have hX9 : w9.ownsRow wr.heap.size 5 1 v9 (4 + 28) (cellsU8 X) := by
          rw [HX.out, be4_small i (by have := HP.out; omega), cellsU8_append]
          exact hown9
        have hT9 : RTab w9 := hT.out.below HB9.out hT.out.size
        have H40 : Hid (Calls Tryd.prog 35 #[.int .i64 224, v9] w9 fun e w' => ∃ v', e = .returned v' ∧ w'.ownsRow w9.heap.size 5 1 v' 28 (cellsU8 (sumD 224 X)) ∧ Below w9.heap.size w9 w') := rsum_ok (h := 224) (by unfold Known; omega) v9 X w9 hT9 (viewOwns hX9 HXl.out) (by rw [HXl.out]; omega)
        clear hown9 hgrow9 hnil9 hbx hX9 hT9 HNw HNw2 HLn HO3 HB3
        go_upto_region 10 with (go_at_call 35; refine H40.out.mono ?_)
        rintro e10 w10 ⟨v10, rfl, hown10, hb10⟩
        clear H40
        obtain ⟨g10, c10, rfl⟩ := owns_some hown10 (by omega)
        have hc10 : 28 ≤ c10 ∧ c10 ≤ 9223372036854775807 := by
          rcases hown10.2 with ⟨e1, e2⟩ | ⟨g', c', cur, e1, q1, q2, q3, q4, q5⟩
          · omega
          · injection e1 with e1 e2 e3
            subst e3
            unfold maxLen at q4
            omega
        have hsl2 : ∀ u, (Instr.slice 22 (.slice (some ⟨g10, 0, none⟩) 28 c10) none (some (.int .i64 ((i : Int) * 28 + 28 - (i : Int) * 28))) none).run Tryd.prog u = .ok (.slice (some ⟨g10, 0, none⟩) 28 c10) u := fun u => by
          have hd1 := Hd.out
          have hd2 := HP.out
          rw [run_slice_h u 22 (some ⟨g10, 0, none⟩) 28 c10 und22p .i64 ((i : Int) * 28 + 28 - (i : Int) * 28) (by omega) (by omega), elem22p, sizeOf5p]
          have e1 : (((i : Int) * 28 + 28 - (i : Int) * 28)).toNat = 28 := by omega
          simp only [Result.andThen, sliced, e1]
          simp [Addr.add]
        have HB10 : Hid (Below w.heap.size w w10) := HB9.out.trans (hb10.mono HB9.out.size)
        have HO10 : Hid (w10.ownsRow w.heap.size 5 1 (.slice a3 l c3) l (cellsU8 ((spreadL 224 Z).take l))) := owns_kept HO9.out hb10
        have HN10 : Hid (∀ j u, (cellsU8 ((sumD 224 X).take 28))[j]? = some u → w10.cell? ((⟨g10, 0, none⟩ : Addr).add j) = some u) := fun j u hu => by
          rw [cellsU8, List.map_take] at hu
          exact hown10.cells rfl j u (getElem?_of_take hu)
        have HL10 : Hid ((cellsU8 ((sumD 224 X).take 28)).length = 28 * 1) := by
          show _ = _
          have := sumD_length 224 (by unfold Known; omega) X
          rw [cellsU8_length, List.length_take, this]
          have := Hd.out
          show min 28 28 = 28 * 1
          omega
        have hll : l ≤ 1024 ∧ 28 ≤ 1024 := by have := HLP.out; have := Hd.out; omega
        clear HO9 HB9 hown10 hb10
        go_wp2_with (first
          | (at_builtin; go_must (refine wpList_append_own _ rfl (.tmp 52) (.tmp 59) 22 rfl w.heap.size 5 i0 (.int .u8 0) 1 1 Tryd.underlying22 hi hz0 hz1 hz2 rfl (by decide) _ _ _ rfl HO10.out ⟨g10, 0, none⟩ 28 c10 (cellsU8 ((sumD 224 X).take 28)) rfl HL10.out HN10.out (cellsU8_one _) (by unfold maxLen; omega) (by omega) HB10.out.size ?_)))
        intro v11 w11 hown11 hgrow11 hnil11
        have HB11 : Hid (Below w.heap.size w w11) := HB10.out.grown hgrow11 HB10.out.size (fun q hq => (HO10.out.lt q hq).1)
        have ho11 : w11.ownsRow w.heap.size 5 1 v11 (l + 28) (cellsU8 ((spreadL 224 Z).take (l + 28))) := by
          have h1 := spreadL_step 224 (by unfold Known; omega) Z i 28 (by have := Hd.out; show 28 ≤ 28; omega) (by have := Hd.out; have := HP.out; rw [hZl.out]; show 28 * i + 28 ≤ n; omega)
          have h2 : l = szOf 224 * i := by rw [HLP.out, HP.out]; rfl
          rw [h2, h1, cellsU8_append, ← h2]
          have h3 : dPiece 224 Z i = sumD 224 X := by
            rw [dPiece, HX.out, ← h2, HLP.out]
            rfl
          rw [h3]
          exact hown11
        clear hown11 hgrow11 hnil11
        obtain ⟨a11, c11, rfl⟩ := owns_slice ho11
        have HO11 : Hid (w11.ownsRow w.heap.size 5 1 (.slice a11 (l + 28) c11) (l + 28) (cellsU8 ((spreadL 224 Z).take (l + 28)))) := ho11
        clear ho11 HO10 HB10 HN10 HL10
        go_wp2
        go_roundw
        case rel => exact ⟨i + 1, l + 28, c11, a11, ⟨by omega, by have := Hd.out; have := HP.out; have := HLP.out; omega⟩, by go_num, rfl, HO11, HB11⟩
        case measure => simp [intOf]; omega
      · have hmin : ¬ (i : Int) * 28 + 28 < n := by omega
        obtain ⟨d, hd⟩ : ∃ d, d = n - P := ⟨_, rfl⟩
        have hEP : P + d ≤ n := by omega
        have hsl1 : ∀ u, (Instr.slice 22 (.slice (some ⟨b, off, none⟩) n c) (some (.int .i64 ((i : Int) * 28))) (some (.int .i64 (n : Int))) none).run Tryd.prog u = .ok (.slice (some ⟨b, off + P, none⟩) d (c - P)) u := fun u => by
          have := slice22 u b off n c P d (d : Nat) (by omega) (by omega) (by omega)
          rw [show ((P : Nat) : Int) = (i : Int) * 28 by omega] at this
          rw [show (i : Int) * 28 + ((d : Nat) : Int) = (n : Int) by omega] at this
          exact this
        obtain ⟨X, HX⟩ : ∃ X : List Int, Hid (X = be4 i ++ (Z.drop P).take 28) := ⟨_, rfl⟩
        have HPl : Hid ((Z.drop P).take 28 = (Z.drop P).take d) := by
          have hl := hZl.out
          show (Z.drop P).take 28 = (Z.drop P).take d
          rw [List.take_eq_take_iff, List.length_drop, hl]
          try omega
        have HNw : Hid (∀ j u, (cellsU8 ((Z.drop P).take d))[j]? = some u → wr.cell? ((⟨b, off + P, none⟩ : Addr).add j) = some u) := cellsU8_at _ wr b (off + P) (fun j hj => by
          have hl := hZl.out
          simp at hj
          rw [HB3.out.cell (p := ⟨b, off + P + j, none⟩) hbw, Nat.add_assoc, HC.out (P + j) (by omega)]
          simp [List.getD, List.getElem?_take, show j < d by omega])
        have hbwr : b < wr.heap.size := Nat.lt_of_lt_of_le hbw HB3.out.size
        have HNw2 : Hid (∀ j u, (cellsU8 ((Z.drop P).take d))[j]? = some u → (wr.alloc (.cells #[.int .u8 ((i : Int) / 16777216), .int .u8 ((i : Int) / 65536), .int .u8 ((i : Int) / 256), .int .u8 (i : Int)] 5)).cell? ((⟨b, off + P, none⟩ : Addr).add j) = some u) := fun j u hu => by
          have h := HNw.out j u hu
          rw [Addr.add_lit] at h ⊢
          rw [cell_alloc_old wr _ b _ hbwr]
          exact h
        have HLn : Hid ((cellsU8 ((Z.drop P).take d)).length = d * 1) := by
          show _ = _
          rw [cellsU8_length, Nat.mul_one, List.length_take, List.length_drop, hZl.out]
          omega
        have Hd : Hid (P + d ≤ n ∧ d ≤ 28 ∧ 0 < d ∧ (P + 28 < n ∨ P + d = n)) := ⟨by omega, by omega, by omega, by omega⟩
        clear hP hl hd
        go_wp2_with (first
          | (at_builtin; go_must (refine wpList_append_own _ rfl (.tmp 41) (.tmp 47) 22 rfl wr.heap.size 5 i0 (.int .u8 0) 1 1 Tryd.underlying22 hi hz0 hz1 hz2 rfl (by decide) _ 4 (cellsU8 [(i : Int) / 16777216, (i : Int) / 65536, (i : Int) / 256, (i : Int)]) rfl (owns_lit wr [(i : Int) / 16777216, (i : Int) / 65536, (i : Int) / 256, (i : Int)] 4 rfl (by decide)) ⟨b, off + P, none⟩ d (c - P) (cellsU8 ((Z.drop P).take d)) rfl HLn.out HNw2.out (cellsU8_one _) (by unfold maxLen; omega) (by omega) (by rw [size_alloc]; omega) ?_)))
        intro v9 w9 hown9 hgrow9 hnil9
        have hbx : Below wr.heap.size wr w9 := ((Below.refl wr.heap.size wr).alloc (Nat.le_refl _) _).grown hgrow9 (by rw [size_alloc]; omega) (fun q hq => by injection hq with hq; rw [← hq]; exact Nat.le_refl _)
        have HB9 : Hid (Below w.heap.size w w9) := HB3.out.trans (hbx.mono HB3.out.size)
        have HO9 : Hid (w9.ownsRow w.heap.size 5 1 (.slice a3 l c3) l (cellsU8 ((spreadL 224 Z).take l))) := owns_kept HO3.out hbx
        have HXl : Hid (X.length = 4 + d) := by
          show _ = _
          rw [HX.out, HPl.out, List.length_append, List.length_take, List.length_drop, hZl.out]
          have := Hd.out
          simp [be4]
          omega
        have hX9 : w9.ownsRow wr.heap.size 5 1 v9 (4 + d) (cellsU8 X) := by
          rw [HX.out, HPl.out, be4_small i (by have := HP.out; omega), cellsU8_append]
          exact hown9
        have hT9 : RTab w9 := hT.out.below HB9.out hT.out.size
        have H40 : Hid (Calls Tryd.prog 35 #[.int .i64 224, v9] w9 fun e w' => ∃ v', e = .returned v' ∧ w'.ownsRow w9.heap.size 5 1 v' 28 (cellsU8 (sumD 224 X)) ∧ Below w9.heap.size w9 w') := rsum_ok (h := 224) (by unfold Known; omega) v9 X w9 hT9 (viewOwns hX9 HXl.out) (by rw [HXl.out]; omega)
        clear hown9 hgrow9 hnil9 hbx hX9 hT9 HNw HNw2 HLn HO3 HB3
        go_upto_region 10 with (go_at_call 35; refine H40.out.mono ?_)
        rintro e10 w10 ⟨v10, rfl, hown10, hb10⟩
        clear H40
        obtain ⟨g10, c10, rfl⟩ := owns_some hown10 (by omega)
        have hc10 : 28 ≤ c10 ∧ c10 ≤ 9223372036854775807 := by
          rcases hown10.2 with ⟨e1, e2⟩ | ⟨g', c', cur, e1, q1, q2, q3, q4, q5⟩
          · omega
          · injection e1 with e1 e2 e3
            subst e3
            unfold maxLen at q4
            omega
        have hsl2 : ∀ u, (Instr.slice 22 (.slice (some ⟨g10, 0, none⟩) 28 c10) none (some (.int .i64 ((n : Int) - (i : Int) * 28))) none).run Tryd.prog u = .ok (.slice (some ⟨g10, 0, none⟩) d c10) u := fun u => by
          have hd1 := Hd.out
          have hd2 := HP.out
          rw [run_slice_h u 22 (some ⟨g10, 0, none⟩) 28 c10 und22p .i64 ((n : Int) - (i : Int) * 28) (by omega) (by omega), elem22p, sizeOf5p]
          have e1 : (((n : Int) - (i : Int) * 28)).toNat = d := by omega
          simp only [Result.andThen, sliced, e1]
          simp [Addr.add]
        have HB10 : Hid (Below w.heap.size w w10) := HB9.out.trans (hb10.mono HB9.out.size)
        have HO10 : Hid (w10.ownsRow w.heap.size 5 1 (.slice a3 l c3) l (cellsU8 ((spreadL 224 Z).take l))) := owns_kept HO9.out hb10
        have HN10 : Hid (∀ j u, (cellsU8 ((sumD 224 X).take d))[j]? = some u → w10.cell? ((⟨g10, 0, none⟩ : Addr).add j) = some u) := fun j u hu => by
          rw [cellsU8, List.map_take] at hu
          exact hown10.cells rfl j u (getElem?_of_take hu)
        have HL10 : Hid ((cellsU8 ((sumD 224 X).take d)).length = d * 1) := by
          show _ = _
          have := sumD_length 224 (by unfold Known; omega) X
          rw [cellsU8_length, List.length_take, this]
          have := Hd.out
          show min d 28 = d * 1
          omega
        have hll : l ≤ 1024 ∧ d ≤ 1024 := by have := HLP.out; have := Hd.out; omega
        clear HO9 HB9 hown10 hb10
        go_wp2_with (first
          | (at_builtin; go_must (refine wpList_append_own _ rfl (.tmp 52) (.tmp 59) 22 rfl w.heap.size 5 i0 (.int .u8 0) 1 1 Tryd.underlying22 hi hz0 hz1 hz2 rfl (by decide) _ _ _ rfl HO10.out ⟨g10, 0, none⟩ d c10 (cellsU8 ((sumD 224 X).take d)) rfl HL10.out HN10.out (cellsU8_one _) (by unfold maxLen; omega) (by omega) HB10.out.size ?_)))
        intro v11 w11 hown11 hgrow11 hnil11
        have HB11 : Hid (Below w.heap.size w w11) := HB10.out.grown hgrow11 HB10.out.size (fun q hq => (HO10.out.lt q hq).1)
        have ho11 : w11.ownsRow w.heap.size 5 1 v11 (l + d) (cellsU8 ((spreadL 224 Z).take (l + d))) := by
          have h1 := spreadL_step 224 (by unfold Known; omega) Z i d (by have := Hd.out; show d ≤ 28; omega) (by have := Hd.out; have := HP.out; rw [hZl.out]; show 28 * i + d ≤ n; omega)
          have h2 : l = szOf 224 * i := by rw [HLP.out, HP.out]; rfl
          rw [h2, h1, cellsU8_append, ← h2]
          have h3 : dPiece 224 Z i = sumD 224 X := by
            rw [dPiece, HX.out, ← h2, HLP.out]
            rfl
          rw [h3]
          exact hown11
        clear hown11 hgrow11 hnil11
        obtain ⟨a11, c11, rfl⟩ := owns_slice ho11
        have HO11 : Hid (w11.ownsRow w.heap.size 5 1 (.slice a11 (l + d) c11) (l + d) (cellsU8 ((spreadL 224 Z).take (l + d)))) := ho11
        clear ho11 HO10 HB10 HN10 HL10
        go_wp2
        go_roundw
        case rel => exact ⟨i + 1, l + d, c11, a11, ⟨by omega, by have := Hd.out; have := HP.out; have := HLP.out; omega⟩, by go_num, rfl, HO11, HB11⟩
        case measure => simp [intOf]; omega
    · have hlt2 : ¬ (i : Int) * 28 < n := by omega
      have hin : i ≤ 1024 := by have := HI.out; omega
      have hln : l = n := by have := HI.out; omega
      have HLN : Hid (l = n) := hln
      clear hln hP
      go_wp2
      go_ret
      refine ⟨_, rfl, ?_, HB3.out⟩
      have h1 := HO3.out
      rw [List.take_of_length_le (by rw [spreadL_length, hZl.out, HLN.out]; exact Nat.le_refl _)] at h1
      rw [← HLN.out]
      exact h1
set_option maxHeartbeats 1600000 in
set_option maxRecDepth 100000 in
theorem rspread256_some (b off n c : Nat) (Z : List Int) (w : World) (hT : Hid (RTab w)) (hn : 0 < n ∧ n ≤ 1024) (hnc : n ≤ c ∧ c ≤ 9223372036854775807) (hZl : Hid (Z.length = n)) (hbw : b < w.heap.size) (HC : Hid (∀ i, i < n → w.cell? ⟨b, off + i, none⟩ = some (.int .u8 (Z.getD i 0)))) :
    Calls Tryd.prog 28 #[.int .i64 256, .slice (some ⟨b, off, none⟩) n c] w fun e w' => ∃ v, e = .returned v ∧ w'.ownsRow w.heap.size 5 1 v n (cellsU8 (spreadL 256 Z)) ∧ Below w.heap.size w w' := by
  obtain ⟨i0, hi, hz0, hz1, hz2⟩ := info_parts Tryd.info5
  have H27 : Hid (∀ u, Calls Tryd.prog 16 #[.int .i64 256] u fun e w' => e = .returned (.int .i64 32) ∧ w' = u) := fun u => rsize_ok 256 (by unfold Known; omega) u
  go_enter Tryd.func28, Tryd.ntmps28
  go_wp2_with (go_at_call 16; refine (H27.out _).mono ?_; rintro e1 wx ⟨rfl, hwx⟩; obtain rfl := hwx.symm)
  go_loopw [6, 7] (fun v vi wr => ∃ i l c : Nat, ∃ a : Option Addr, Hid (i ≤ n ∧ l = min (32 * i) n) ∧ vi = .int .i64 i ∧ v = .slice a l c ∧ Hid (wr.ownsRow w.heap.size 5 1 (.slice a l c) l (cellsU8 ((spreadL 256 Z).take l))) ∧ Hid (Below w.heap.size w wr)) (fun _ vi _ => n - (intOf vi).toNat)
  case atStart => exact ⟨0, 0, 0, none, ⟨by omega, by omega⟩, rfl, rfl, World.ownsRow_nil _ _ _ _, Below.refl _ _⟩
  case round =>
    obtain ⟨i, l, c3, a3, HI, rfl, rfl, HO3, HB3⟩ := hrel
    obtain ⟨P, hP⟩ : ∃ P, P = 32 * i := ⟨_, rfl⟩
    have HP : Hid (P = 32 * i) := hP
    by_cases hlt : P < n
    · have hin : i < n := by omega
      have hl : l = P := by have := HI.out; omega
      have HLP : Hid (l = P) := hl
      have hlt2 : (i : Int) * 32 < n := by omega
      by_cases hfull : P + 32 < n
      · have hmin : (i : Int) * 32 + 32 < n := by omega
        have hEP : P + 32 ≤ n := by omega
        have hsl1 : ∀ u, (Instr.slice 22 (.slice (some ⟨b, off, none⟩) n c) (some (.int .i64 ((i : Int) * 32))) (some (.int .i64 ((i : Int) * 32 + 32))) none).run Tryd.prog u = .ok (.slice (some ⟨b, off + P, none⟩) 32 (c - P)) u := fun u => by
          have := slice22 u b off n c P 32 32 (by omega) (by omega) (by omega)
          rw [show ((P : Nat) : Int) = (i : Int) * 32 by omega] at this
          exact this
        obtain ⟨X, HX⟩ : ∃ X : List Int, Hid (X = be4 i ++ (Z.drop P).take 32) := ⟨_, rfl⟩
        have HPl : Hid ((Z.drop P).take 32 = (Z.drop P).take 32) := by
          have hl := hZl.out
          show (Z.drop P).take 32 = (Z.drop P).take 32
          rw [List.take_eq_take_iff, List.length_drop, hl]
          try omega
        have HNw : Hid (∀ j u, (cellsU8 ((Z.drop P).take 32))[j]? = some u → wr.cell? ((⟨b, off + P, none⟩ : Addr).add j) = some u) := cellsU8_at _ wr b (off + P) (fun j hj => by
          have hl := hZl.out
          simp at hj
          rw [HB3.out.cell (p := ⟨b, off + P + j, none⟩) hbw, Nat.add_assoc, HC.out (P + j) (by omega)]
          simp [List.getD, List.getElem?_take, show j < 32 by omega])
        have hbwr : b < wr.heap.size := Nat.lt_of_lt_of_le hbw HB3.out.size
        have HNw2 : Hid (∀ j u, (cellsU8 ((Z.drop P).take 32))[j]? = some u → (wr.alloc (.cells #[.int .u8 ((i : Int) / 16777216), .int .u8 ((i : Int) / 65536), .int .u8 ((i : Int) / 256), .int .u8 (i : Int)] 5)).cell? ((⟨b, off + P, none⟩ : Addr).add j) = some u) := fun j u hu => by
          have h := HNw.out j u hu
          rw [Addr.add_lit] at h ⊢
          rw [cell_alloc_old wr _ b _ hbwr]
          exact h
        have HLn : Hid ((cellsU8 ((Z.drop P).take 32)).length = 32 * 1) := by
          show _ = _
          rw [cellsU8_length, Nat.mul_one, List.length_take, List.length_drop, hZl.out]
          omega
        have Hd : Hid (P + 32 ≤ n ∧ 32 ≤ 32 ∧ 0 < 32 ∧ (P + 32 < n ∨ P + 32 = n)) := ⟨by omega, by omega, by omega, by omega⟩
        clear hP hl
        go_wp2_with (first
          | (at_builtin; go_must (refine wpList_append_own _ rfl (.tmp 41) (.tmp 47) 22 rfl wr.heap.size 5 i0 (.int .u8 0) 1 1 Tryd.underlying22 hi hz0 hz1 hz2 rfl (by decide) _ 4 (cellsU8 [(i : Int) / 16777216, (i : Int) / 65536, (i : Int) / 256, (i : Int)]) rfl (owns_lit wr [(i : Int) / 16777216, (i : Int) / 65536, (i : Int) / 256, (i : Int)] 4 rfl (by decide)) ⟨b, off + P, none⟩ 32 (c - P) (cellsU8 ((Z.drop P).take 32)) rfl HLn.out HNw2.out (cellsU8_one _) (by unfold maxLen; omega) (by omega) (by rw [size_alloc]; omega) ?_)))
        intro v9 w9 hown9 hgrow9 hnil9
        have hbx : Below wr.heap.size wr w9 := ((Below.refl wr.heap.size wr).alloc (Nat.le_refl _) _).grown hgrow9 (by rw [size_alloc]; omega) (fun q hq => by injection hq with hq; rw [← hq]; exact Nat.le_refl _)
        have HB9 : Hid (Below w.heap.size w w9) := HB3.out.trans (hbx.mono HB3.out.size)
        have HO9 : Hid (w9.ownsRow w.heap.size 5 1 (.slice a3 l c3) l (cellsU8 ((spreadL 256 Z).take l))) := owns_kept HO3.out hbx
        have HXl : Hid (X.length = 4 + 32) := by
          show _ = _
          rw [HX.out, List.length_append, List.length_take, List.length_drop, hZl.out]
          have := Hd.out
          simp [be4]
          omega
        have hX9 : w9.ownsRow wr.heap.size 5 1 v9 (4 + 32) (cellsU8 X) := by
          rw [HX.out, be4_small i (by have := HP.out; omega), cellsU8_append]
          exact hown9
        have hT9 : RTab w9 := hT.out.below HB9.out hT.out.size
        have H40 : Hid (Calls Tryd.prog 35 #[.int .i64 256, v9] w9 fun e w' => ∃ v', e = .returned v' ∧ w'.ownsRow w9.heap.size 5 1 v' 32 (cellsU8 (sumD 256 X)) ∧ Below w9.heap.size w9 w') := rsum_ok (h := 256) (by unfold Known; omega) v9 X w9 hT9 (viewOwns hX9 HXl.out) (by rw [HXl.out]; omega)
        clear hown9 hgrow9 hnil9 hbx hX9 hT9 HNw HNw2 HLn HO3 HB3
        go_upto_region 10 with (go_at_call 35; refine H40.out.mono ?_)
        rintro e10 w10 ⟨v10, rfl, hown10, hb10⟩
        clear H40
        obtain ⟨g10, c10, rfl⟩ := owns_some hown10 (by omega)
        have hc10 : 32 ≤ c10 ∧ c10 ≤ 9223372036854775807 := by
          rcases hown10.2 with ⟨e1, e2⟩ | ⟨g', c', cur, e1, q1, q2, q3, q4, q5⟩
          · omega
          · injection e1 with e1 e2 e3
            subst e3
            unfold maxLen at q4
            omega
        have hsl2 : ∀ u, (Instr.slice 22 (.slice (some ⟨g10, 0, none⟩) 32 c10) none (some (.int .i64 ((i : Int) * 32 + 32 - (i : Int) * 32))) none).run Tryd.prog u = .ok (.slice (some ⟨g10, 0, none⟩) 32 c10) u := fun u => by
          have hd1 := Hd.out
          have hd2 := HP.out
          rw [run_slice_h u 22 (some ⟨g10, 0, none⟩) 32 c10 und22p .i64 ((i : Int) * 32 + 32 - (i : Int) * 32) (by omega) (by omega), elem22p, sizeOf5p]
          have e1 : (((i : Int) * 32 + 32 - (i : Int) * 32)).toNat = 32 := by omega
          simp only [Result.andThen, sliced, e1]
          simp [Addr.add]
        have HB10 : Hid (Below w.heap.size w w10) := HB9.out.trans (hb10.mono HB9.out.size)
        have HO10 : Hid (w10.ownsRow w.heap.size 5 1 (.slice a3 l c3) l (cellsU8 ((spreadL 256 Z).take l))) := owns_kept HO9.out hb10
        have HN10 : Hid (∀ j u, (cellsU8 ((sumD 256 X).take 32))[j]? = some u → w10.cell? ((⟨g10, 0, none⟩ : Addr).add j) = some u) := fun j u hu => by
          rw [cellsU8, List.map_take] at hu
          exact hown10.cells rfl j u (getElem?_of_take hu)
        have HL10 : Hid ((cellsU8 ((sumD 256 X).take 32)).length = 32 * 1) := by
          show _ = _
          have := sumD_length 256 (by unfold Known; omega) X
          rw [cellsU8_length, List.length_take, this]
          have := Hd.out
          show min 32 32 = 32 * 1
          omega
        have hll : l ≤ 1024 ∧ 32 ≤ 1024 := by have := HLP.out; have := Hd.out; omega
        clear HO9 HB9 hown10 hb10
        go_wp2_with (first
          | (at_builtin; go_must (refine wpList_append_own _ rfl (.tmp 52) (.tmp 59) 22 rfl w.heap.size 5 i0 (.int .u8 0) 1 1 Tryd.underlying22 hi hz0 hz1 hz2 rfl (by decide) _ _ _ rfl HO10.out ⟨g10, 0, none⟩ 32 c10 (cellsU8 ((sumD 256 X).take 32)) rfl HL10.out HN10.out (cellsU8_one _) (by unfold maxLen; omega) (by omega) HB10.out.size ?_)))
        intro v11 w11 hown11 hgrow11 hnil11
        have HB11 : Hid (Below w.heap.size w w11) := HB10.out.grown hgrow11 HB10.out.size (fun q hq => (HO10.out.lt q hq).1)
        have ho11 : w11.ownsRow w.heap.size 5 1 v11 (l + 32) (cellsU8 ((spreadL 256 Z).take (l + 32))) := by
          have h1 := spreadL_step 256 (by unfold Known; omega) Z i 32 (by have := Hd.out; show 32 ≤ 32; omega) (by have := Hd.out; have := HP.out; rw [hZl.out]; show 32 * i + 32 ≤ n; omega)
          have h2 : l = szOf 256 * i := by rw [HLP.out, HP.out]; rfl
          rw [h2, h1, cellsU8_append, ← h2]
          have h3 : dPiece 256 Z i = sumD 256 X := by
            rw [dPiece, HX.out, ← h2, HLP.out]
            rfl
          rw [h3]
          exact hown11
        clear hown11 hgrow11 hnil11
        obtain ⟨a11, c11, rfl⟩ := owns_slice ho11
        have HO11 : Hid (w11.ownsRow w.heap.size 5 1 (.slice a11 (l + 32) c11) (l + 32) (cellsU8 ((spreadL 256 Z).take (l + 32)))) := ho11
        clear ho11 HO10 HB10 HN10 HL10
        go_wp2
        go_roundw
        case rel => exact ⟨i + 1, l + 32, c11, a11, ⟨by omega, by have := Hd.out; have := HP.out; have := HLP.out; omega⟩, by go_num, rfl, HO11, HB11⟩
        case measure => simp [intOf]; omega
      · have hmin : ¬ (i : Int) * 32 + 32 < n := by omega
        obtain ⟨d, hd⟩ : ∃ d, d = n - P := ⟨_, rfl⟩
        have hEP : P + d ≤ n := by omega
        have hsl1 : ∀ u, (Instr.slice 22 (.slice (some ⟨b, off, none⟩) n c) (some (.int .i64 ((i : Int) * 32))) (some (.int .i64 (n : Int))) none).run Tryd.prog u = .ok (.slice (some ⟨b, off + P, none⟩) d (c - P)) u := fun u => by
          have := slice22 u b off n c P d (d : Nat) (by omega) (by omega) (by omega)
          rw [show ((P : Nat) : Int) = (i : Int) * 32 by omega] at this
          rw [show (i : Int) * 32 + ((d : Nat) : Int) = (n : Int) by omega] at this
          exact this
        obtain ⟨X, HX⟩ : ∃ X : List Int, Hid (X = be4 i ++ (Z.drop P).take 32) := ⟨_, rfl⟩
        have HPl : Hid ((Z.drop P).take 32 = (Z.drop P).take d) := by
          have hl := hZl.out
          show (Z.drop P).take 32 = (Z.drop P).take d
          rw [List.take_eq_take_iff, List.length_drop, hl]
          try omega
        have HNw : Hid (∀ j u, (cellsU8 ((Z.drop P).take d))[j]? = some u → wr.cell? ((⟨b, off + P, none⟩ : Addr).add j) = some u) := cellsU8_at _ wr b (off + P) (fun j hj => by
          have hl := hZl.out
          simp at hj
          rw [HB3.out.cell (p := ⟨b, off + P + j, none⟩) hbw, Nat.add_assoc, HC.out (P + j) (by omega)]
          simp [List.getD, List.getElem?_take, show j < d by omega])
        have hbwr : b < wr.heap.size := Nat.lt_of_lt_of_le hbw HB3.out.size
        have HNw2 : Hid (∀ j u, (cellsU8 ((Z.drop P).take d))[j]? = some u → (wr.alloc (.cells #[.int .u8 ((i : Int) / 16777216), .int .u8 ((i : Int) / 65536), .int .u8 ((i : Int) / 256), .int .u8 (i : Int)] 5)).cell? ((⟨b, off + P, none⟩ : Addr).add j) = some u) := fun j u hu => by
          have h := HNw.out j u hu
          rw [Addr.add_lit] at h ⊢
          rw [cell_alloc_old wr _ b _ hbwr]
          exact h
        have HLn : Hid ((cellsU8 ((Z.drop P).take d)).length = d * 1) := by
          show _ = _
          rw [cellsU8_length, Nat.mul_one, List.length_take, List.length_drop, hZl.out]
          omega
        have Hd : Hid (P + d ≤ n ∧ d ≤ 32 ∧ 0 < d ∧ (P + 32 < n ∨ P + d = n)) := ⟨by omega, by omega, by omega, by omega⟩
        clear hP hl hd
        go_wp2_with (first
          | (at_builtin; go_must (refine wpList_append_own _ rfl (.tmp 41) (.tmp 47) 22 rfl wr.heap.size 5 i0 (.int .u8 0) 1 1 Tryd.underlying22 hi hz0 hz1 hz2 rfl (by decide) _ 4 (cellsU8 [(i : Int) / 16777216, (i : Int) / 65536, (i : Int) / 256, (i : Int)]) rfl (owns_lit wr [(i : Int) / 16777216, (i : Int) / 65536, (i : Int) / 256, (i : Int)] 4 rfl (by decide)) ⟨b, off + P, none⟩ d (c - P) (cellsU8 ((Z.drop P).take d)) rfl HLn.out HNw2.out (cellsU8_one _) (by unfold maxLen; omega) (by omega) (by rw [size_alloc]; omega) ?_)))
        intro v9 w9 hown9 hgrow9 hnil9
        have hbx : Below wr.heap.size wr w9 := ((Below.refl wr.heap.size wr).alloc (Nat.le_refl _) _).grown hgrow9 (by rw [size_alloc]; omega) (fun q hq => by injection hq with hq; rw [← hq]; exact Nat.le_refl _)
        have HB9 : Hid (Below w.heap.size w w9) := HB3.out.trans (hbx.mono HB3.out.size)
        have HO9 : Hid (w9.ownsRow w.heap.size 5 1 (.slice a3 l c3) l (cellsU8 ((spreadL 256 Z).take l))) := owns_kept HO3.out hbx
        have HXl : Hid (X.length = 4 + d) := by
          show _ = _
          rw [HX.out, HPl.out, List.length_append, List.length_take, List.length_drop, hZl.out]
          have := Hd.out
          simp [be4]
          omega
        have hX9 : w9.ownsRow wr.heap.size 5 1 v9 (4 + d) (cellsU8 X) := by
          rw [HX.out, HPl.out, be4_small i (by have := HP.out; omega), cellsU8_append]
          exact hown9
        have hT9 : RTab w9 := hT.out.below HB9.out hT.out.size
        have H40 : Hid (Calls Tryd.prog 35 #[.int .i64 256, v9] w9 fun e w' => ∃ v', e = .returned v' ∧ w'.ownsRow w9.heap.size 5 1 v' 32 (cellsU8 (sumD 256 X)) ∧ Below w9.heap.size w9 w') := rsum_ok (h := 256) (by unfold Known; omega) v9 X w9 hT9 (viewOwns hX9 HXl.out) (by rw [HXl.out]; omega)
        clear hown9 hgrow9 hnil9 hbx hX9 hT9 HNw HNw2 HLn HO3 HB3
        go_upto_region 10 with (go_at_call 35; refine H40.out.mono ?_)
        rintro e10 w10 ⟨v10, rfl, hown10, hb10⟩
        clear H40
        obtain ⟨g10, c10, rfl⟩ := owns_some hown10 (by omega)
        have hc10 : 32 ≤ c10 ∧ c10 ≤ 9223372036854775807 := by
          rcases hown10.2 with ⟨e1, e2⟩ | ⟨g', c', cur, e1, q1, q2, q3, q4, q5⟩
          · omega
          · injection e1 with e1 e2 e3
            subst e3
            unfold maxLen at q4
            omega
        have hsl2 : ∀ u, (Instr.slice 22 (.slice (some ⟨g10, 0, none⟩) 32 c10) none (some (.int .i64 ((n : Int) - (i : Int) * 32))) none).run Tryd.prog u = .ok (.slice (some ⟨g10, 0, none⟩) d c10) u := fun u => by
          have hd1 := Hd.out
          have hd2 := HP.out
          rw [run_slice_h u 22 (some ⟨g10, 0, none⟩) 32 c10 und22p .i64 ((n : Int) - (i : Int) * 32) (by omega) (by omega), elem22p, sizeOf5p]
          have e1 : (((n : Int) - (i : Int) * 32)).toNat = d := by omega
          simp only [Result.andThen, sliced, e1]
          simp [Addr.add]
        have HB10 : Hid (Below w.heap.size w w10) := HB9.out.trans (hb10.mono HB9.out.size)
        have HO10 : Hid (w10.ownsRow w.heap.size 5 1 (.slice a3 l c3) l (cellsU8 ((spreadL 256 Z).take l))) := owns_kept HO9.out hb10
        have HN10 : Hid (∀ j u, (cellsU8 ((sumD 256 X).take d))[j]? = some u → w10.cell? ((⟨g10, 0, none⟩ : Addr).add j) = some u) := fun j u hu => by
          rw [cellsU8, List.map_take] at hu
          exact hown10.cells rfl j u (getElem?_of_take hu)
        have HL10 : Hid ((cellsU8 ((sumD 256 X).take d)).length = d * 1) := by
          show _ = _
          have := sumD_length 256 (by unfold Known; omega) X
          rw [cellsU8_length, List.length_take, this]
          have := Hd.out
          show min d 32 = d * 1
          omega
        have hll : l ≤ 1024 ∧ d ≤ 1024 := by have := HLP.out; have := Hd.out; omega
        clear HO9 HB9 hown10 hb10
        go_wp2_with (first
          | (at_builtin; go_must (refine wpList_append_own _ rfl (.tmp 52) (.tmp 59) 22 rfl w.heap.size 5 i0 (.int .u8 0) 1 1 Tryd.underlying22 hi hz0 hz1 hz2 rfl (by decide) _ _ _ rfl HO10.out ⟨g10, 0, none⟩ d c10 (cellsU8 ((sumD 256 X).take d)) rfl HL10.out HN10.out (cellsU8_one _) (by unfold maxLen; omega) (by omega) HB10.out.size ?_)))
        intro v11 w11 hown11 hgrow11 hnil11
        have HB11 : Hid (Below w.heap.size w w11) := HB10.out.grown hgrow11 HB10.out.size (fun q hq => (HO10.out.lt q hq).1)
        have ho11 : w11.ownsRow w.heap.size 5 1 v11 (l + d) (cellsU8 ((spreadL 256 Z).take (l + d))) := by
          have h1 := spreadL_step 256 (by unfold Known; omega) Z i d (by have := Hd.out; show d ≤ 32; omega) (by have := Hd.out; have := HP.out; rw [hZl.out]; show 32 * i + d ≤ n; omega)
          have h2 : l = szOf 256 * i := by rw [HLP.out, HP.out]; rfl
          rw [h2, h1, cellsU8_append, ← h2]
          have h3 : dPiece 256 Z i = sumD 256 X := by
            rw [dPiece, HX.out, ← h2, HLP.out]
            rfl
          rw [h3]
          exact hown11
        clear hown11 hgrow11 hnil11
        obtain ⟨a11, c11, rfl⟩ := owns_slice ho11
        have HO11 : Hid (w11.ownsRow w.heap.size 5 1 (.slice a11 (l + d) c11) (l + d) (cellsU8 ((spreadL 256 Z).take (l + d)))) := ho11
        clear ho11 HO10 HB10 HN10 HL10
        go_wp2
        go_roundw
        case rel => exact ⟨i + 1, l + d, c11, a11, ⟨by omega, by have := Hd.out; have := HP.out; have := HLP.out; omega⟩, by go_num, rfl, HO11, HB11⟩
        case measure => simp [intOf]; omega
    · have hlt2 : ¬ (i : Int) * 32 < n := by omega
      have hin : i ≤ 1024 := by have := HI.out; omega
      have hln : l = n := by have := HI.out; omega
      have HLN : Hid (l = n) := hln
      clear hln hP
      go_wp2
      go_ret
      refine ⟨_, rfl, ?_, HB3.out⟩
      have h1 := HO3.out
      rw [List.take_of_length_le (by rw [spreadL_length, hZl.out, HLN.out]; exact Nat.le_refl _)] at h1
      rw [← HLN.out]
      exact h1
set_option maxHeartbeats 1600000 in
set_option maxRecDepth 100000 in
theorem rspread384_some (b off n c : Nat) (Z : List Int) (w : World) (hT : Hid (RTab w)) (hn : 0 < n ∧ n ≤ 1024) (hnc : n ≤ c ∧ c ≤ 9223372036854775807) (hZl : Hid (Z.length = n)) (hbw : b < w.heap.size) (HC : Hid (∀ i, i < n → w.cell? ⟨b, off + i, none⟩ = some (.int .u8 (Z.getD i 0)))) :
    Calls Tryd.prog 28 #[.int .i64 384, .slice (some ⟨b, off, none⟩) n c] w fun e w' => ∃ v, e = .returned v ∧ w'.ownsRow w.heap.size 5 1 v n (cellsU8 (spreadL 384 Z)) ∧ Below w.heap.size w w' := by
  obtain ⟨i0, hi, hz0, hz1, hz2⟩ := info_parts Tryd.info5
  have H27 : Hid (∀ u, Calls Tryd.prog 16 #[.int .i64 384] u fun e w' => e = .returned (.int .i64 48) ∧ w' = u) := fun u => rsize_ok 384 (by unfold Known; omega) u
  go_enter Tryd.func28, Tryd.ntmps28
  go_wp2_with (go_at_call 16; refine (H27.out _).mono ?_; rintro e1 wx ⟨rfl, hwx⟩; obtain rfl := hwx.symm)
  go_loopw [6, 7] (fun v vi wr => ∃ i l c : Nat, ∃ a : Option Addr, Hid (i ≤ n ∧ l = min (48 * i) n) ∧ vi = .int .i64 i ∧ v = .slice a l c ∧ Hid (wr.ownsRow w.heap.size 5 1 (.slice a l c) l (cellsU8 ((spreadL 384 Z).take l))) ∧ Hid (Below w.heap.size w wr)) (fun _ vi _ => n - (intOf vi).toNat)
  case atStart => exact ⟨0, 0, 0, none, ⟨by omega, by omega⟩, rfl, rfl, World.ownsRow_nil _ _ _ _, Below.refl _ _⟩
  case round =>
    obtain ⟨i, l, c3, a3, HI, rfl, rfl, HO3, HB3⟩ := hrel
    obtain ⟨P, hP⟩ : ∃ P, P = 48 * i := ⟨_, rfl⟩
    have HP : Hid (P = 48 * i) := hP
    by_cases hlt : P < n
    · have hin : i < n := by omega
      have hl : l = P := by have := HI.out; omega
      have HLP : Hid (l = P) := hl
      have hlt2 : (i : Int) * 48 < n := by omega
      by_cases hfull : P + 48 < n
      · have hmin : (i : Int) * 48 + 48 < n := by omega
        have hEP : P + 48 ≤ n := by omega
        have hsl1 : ∀ u, (Instr.slice 22 (.slice (some ⟨b, off, none⟩) n c) (some (.int .i64 ((i : Int) * 48))) (some (.int .i64 ((i : Int) * 48 + 48))) none).run Tryd.prog u = .ok (.slice (some ⟨b, off + P, none⟩) 48 (c - P)) u := fun u => by
          have := slice22 u b off n c P 48 48 (by omega) (by omega) (by omega)
          rw [show ((P : Nat) : Int) = (i : Int) * 48 by omega] at this
          exact this
        obtain ⟨X, HX⟩ : ∃ X : List Int, Hid (X = be4 i ++ (Z.drop P).take 48) := ⟨_, rfl⟩
        have HPl : Hid ((Z.drop P).take 48 = (Z.drop P).take 48) := by
          have hl := hZl.out
          show (Z.drop P).take 48 = (Z.drop P).take 48
          rw [List.take_eq_take_iff, List.length_drop, hl]
          try omega
        have HNw : Hid (∀ j u, (cellsU8 ((Z.drop P).take 48))[j]? = some u → wr.cell? ((⟨b, off + P, none⟩ : Addr).add j) = some u) := cellsU8_at _ wr b (off + P) (fun j hj => by
          have hl := hZl.out
          simp at hj
          rw [HB3.out.cell (p := ⟨b, off + P + j, none⟩) hbw, Nat.add_assoc, HC.out (P + j) (by omega)]
          simp [List.getD, List.getElem?_take, show j < 48 by omega])
        have hbwr : b < wr.heap.size := Nat.lt_of_lt_of_le hbw HB3.out.size
        have HNw2 : Hid (∀ j u, (cellsU8 ((Z.drop P).take 48))[j]? = some u → (wr.alloc (.cells #[.int .u8 ((i : Int) / 16777216), .int .u8 ((i : Int) / 65536), .int .u8 ((i : Int) / 256), .int .u8 (i : Int)] 5)).cell? ((⟨b, off + P, none⟩ : Addr).add j) = some u) := fun j u hu => by
          have h := HNw.out j u hu
          rw [Addr.add_lit] at h ⊢
          rw [cell_alloc_old wr _ b _ hbwr]
          exact h
        have HLn : Hid ((cellsU8 ((Z.drop P).take 48)).length = 48 * 1) := by
          show _ = _
          rw [cellsU8_length, Nat.mul_one, List.length_take, List.length_drop, hZl.out]
          omega
        have Hd : Hid (P + 48 ≤ n ∧ 48 ≤ 48 ∧ 0 < 48 ∧ (P + 48 < n ∨ P + 48 = n)) := ⟨by omega, by omega, by omega, by omega⟩
        clear hP hl
        go_wp2_with (first
          | (at_builtin; go_must (refine wpList_append_own _ rfl (.tmp 41) (.tmp 47) 22 rfl wr.heap.size 5 i0 (.int .u8 0) 1 1 Tryd.underlying22 hi hz0 hz1 hz2 rfl (by decide) _ 4 (cellsU8 [(i : Int) / 16777216, (i : Int) / 65536, (i : Int) / 256, (i : Int)]) rfl (owns_lit wr [(i : Int) / 16777216, (i : Int) / 65536, (i : Int) / 256, (i : Int)] 4 rfl (by decide)) ⟨b, off + P, none⟩ 48 (c - P) (cellsU8 ((Z.drop P).take 48)) rfl HLn.out HNw2.out (cellsU8_one _) (by unfold maxLen; omega) (by omega) (by rw [size_alloc]; omega) ?_)))
        intro v9 w9 hown9 hgrow9 hnil9
        have hbx : Below wr.heap.size wr w9 := ((Below.refl wr.heap.size wr).alloc (Nat.le_refl _) _).grown hgrow9 (by rw [size_alloc]; omega) (fun q hq => by injection hq with hq; rw [← hq]; exact Nat.le_refl _)
        have HB9 : Hid (Below w.heap.size w w9) := HB3.out.trans (hbx.mono HB3.out.size)
        have HO9 : Hid (w9.ownsRow w.heap.size 5 1 (.slice a3 l c3) l (cellsU8 ((spreadL 384 Z).take l))) := owns_kept HO3.out hbx
        have HXl : Hid (X.length = 4 + 48) := by
          show _ = _
          rw [HX.out, List.length_append, List.length_take, List.length_drop, hZl.out]
          have := Hd.out
          simp [be4]
          omega
        have hX9 : w9.ownsRow wr.heap.size 5 1 v9 (4 + 48) (cellsU8 X) := by
          rw [HX.out, be4_small i (by have := HP.out; omega), cellsU8_append]
          exact hown9
        have hT9 : RTab w9 := hT.out.below HB9.out hT.out.size
        have H40 : Hid (Calls Tryd.prog 35 #[.int .i64 384, v9] w9 fun e w' => ∃ v', e = .returned v' ∧ w'.ownsRow w9.heap.size 5 1 v' 48 (cellsU8 (sumD 384 X)) ∧ Below w9.heap.size w9 w') := rsum_ok (h := 384) (by unfold Known; omega) v9 X w9 hT9 (viewOwns hX9 HXl.out) (by rw [HXl.out]; omega)
        clear hown9 hgrow9 hnil9 hbx hX9 hT9 HNw HNw2 HLn HO3 HB3
        go_upto_region 10 with (go_at_call 35; refine H40.out.mono ?_)
        rintro e10 w10 ⟨v10, rfl, hown10, hb10⟩
        clear H40
        obtain ⟨g10, c10, rfl⟩ := owns_some hown10 (by omega)
        have hc10 : 48 ≤ c10 ∧ c10 ≤ 9223372036854775807 := by
          rcases hown10.2 with ⟨e1, e2⟩ | ⟨g', c', cur, e1, q1, q2, q3, q4, q5⟩
          · omega
          · injection e1 with e1 e2 e3
            subst e3
            unfold maxLen at q4
            omega
        have hsl2 : ∀ u, (Instr.slice 22 (.slice (some ⟨g10, 0, none⟩) 48 c10) none (some (.int .i64 ((i : Int) * 48 + 48 - (i : Int) * 48))) none).run Tryd.prog u = .ok (.slice (some ⟨g10, 0, none⟩) 48 c10) u := fun u => by
          have hd1 := Hd.out
          have hd2 := HP.out
          rw [run_slice_h u 22 (some ⟨g10, 0, none⟩) 48 c10 und22p .i64 ((i : Int) * 48 + 48 - (i : Int) * 48) (by omega) (by omega), elem22p, sizeOf5p]
          have e1 : (((i : Int) * 48 + 48 - (i : Int) * 48)).toNat = 48 := by omega
          simp only [Result.andThen, sliced, e1]
          simp [Addr.add]
        have HB10 : Hid (Below w.heap.size w w10) := HB9.out.trans (hb10.mono HB9.out.size)
        have HO10 : Hid (w10.ownsRow w.heap.size 5 1 (.slice a3 l c3) l (cellsU8 ((spreadL 384 Z).take l))) := owns_kept HO9.out hb10
        have HN10 : Hid (∀ j u, (cellsU8 ((sumD 384 X).take 48))[j]? = some u → w10.cell? ((⟨g10, 0, none⟩ : Addr).add j) = some u) := fun j u hu => by
          rw [cellsU8, List.map_take] at hu
          exact hown10.cells rfl j u (getElem?_of_take hu)
        have HL10 : Hid ((cellsU8 ((sumD 384 X).take 48)).length = 48 * 1) := by
          show _ = _
          have := sumD_length 384 (by unfold Known; omega) X
          rw [cellsU8_length, List.length_take, this]
          have := Hd.out
          show min 48 48 = 48 * 1
          omega
        have hll : l ≤ 1024 ∧ 48 ≤ 1024 := by have := HLP.out; have := Hd.out; omega
        clear HO9 HB9 hown10 hb10
        go_wp2_with (first
          | (at_builtin; go_must (refine wpList_append_own _ rfl (.tmp 52) (.tmp 59) 22 rfl w.heap.size 5 i0 (.int .u8 0) 1 1 Tryd.underlying22 hi hz0 hz1 hz2 rfl (by decide) _ _ _ rfl HO10.out ⟨g10, 0, none⟩ 48 c10 (cellsU8 ((sumD 384 X).take 48)) rfl HL10.out HN10.out (cellsU8_one _) (by unfold maxLen; omega) (by omega) HB10.out.size ?_)))
        intro v11 w11 hown11 hgrow11 hnil11
        have HB11 : Hid (Below w.heap.size w w11) := HB10.out.grown hgrow11 HB10.out.size (fun q hq => (HO10.out.lt q hq).1)
        have ho11 : w11.ownsRow w.heap.size 5 1 v11 (l + 48) (cellsU8 ((spreadL 384 Z).take (l + 48))) := by
          have h1 := spreadL_step 384 (by unfold Known; omega) Z i 48 (by have := Hd.out; show 48 ≤ 48; omega) (by have := Hd.out; have := HP.out; rw [hZl.out]; show 48 * i + 48 ≤ n; omega)
          have h2 : l = szOf 384 * i := by rw [HLP.out, HP.out]; rfl
          rw [h2, h1, cellsU8_append, ← h2]
          have h3 : dPiece 384 Z i = sumD 384 X := by
            rw [dPiece, HX.out, ← h2, HLP.out]
            rfl
          rw [h3]
          exact hown11
        clear hown11 hgrow11 hnil11
        obtain ⟨a11, c11, rfl⟩ := owns_slice ho11
        have HO11 : Hid (w11.ownsRow w.heap.size 5 1 (.slice a11 (l + 48) c11) (l + 48) (cellsU8 ((spreadL 384 Z).take (l + 48)))) := ho11
        clear ho11 HO10 HB10 HN10 HL10
        go_wp2
        go_roundw
        case rel => exact ⟨i + 1, l + 48, c11, a11, ⟨by omega, by have := Hd.out; have := HP.out; have := HLP.out; omega⟩, by go_num, rfl, HO11, HB11⟩
        case measure => simp [intOf]; omega
      · have hmin : ¬ (i : Int) * 48 + 48 < n := by omega
        obtain ⟨d, hd⟩ : ∃ d, d = n - P := ⟨_, rfl⟩
        have hEP : P + d ≤ n := by omega
        have hsl1 : ∀ u, (Instr.slice 22 (.slice (some ⟨b, off, none⟩) n c) (some (.int .i64 ((i : Int) * 48))) (some (.int .i64 (n : Int))) none).run Tryd.prog u = .ok (.slice (some ⟨b, off + P, none⟩) d (c - P)) u := fun u => by
          have := slice22 u b off n c P d (d : Nat) (by omega) (by omega) (by omega)
          rw [show ((P : Nat) : Int) = (i : Int) * 48 by omega] at this
          rw [show (i : Int) * 48 + ((d : Nat) : Int) = (n : Int) by omega] at this
          exact this
        obtain ⟨X, HX⟩ : ∃ X : List Int, Hid (X = be4 i ++ (Z.drop P).take 48) := ⟨_, rfl⟩
        have HPl : Hid ((Z.drop P).take 48 = (Z.drop P).take d) := by
          have hl := hZl.out
          show (Z.drop P).take 48 = (Z.drop P).take d
          rw [List.take_eq_take_iff, List.length_drop, hl]
          try omega
        have HNw : Hid (∀ j u, (cellsU8 ((Z.drop P).take d))[j]? = some u → wr.cell? ((⟨b, off + P, none⟩ : Addr).add j) = some u) := cellsU8_at _ wr b (off + P) (fun j hj => by
          have hl := hZl.out
          simp at hj
          rw [HB3.out.cell (p := ⟨b, off + P + j, none⟩) hbw, Nat.add_assoc, HC.out (P + j) (by omega)]
          simp [List.getD, List.getElem?_take, show j < d by omega])
        have hbwr : b < wr.heap.size := Nat.lt_of_lt_of_le hbw HB3.out.size
        have HNw2 : Hid (∀ j u, (cellsU8 ((Z.drop P).take d))[j]? = some u → (wr.alloc (.cells #[.int .u8 ((i : Int) / 16777216), .int .u8 ((i : Int) / 65536), .int .u8 ((i : Int) / 256), .int .u8 (i : Int)] 5)).cell? ((⟨b, off + P, none⟩ : Addr).add j) = some u) := fun j u hu => by
          have h := HNw.out j u hu
          rw [Addr.add_lit] at h ⊢
          rw [cell_alloc_old wr _ b _ hbwr]
          exact h
        have HLn : Hid ((cellsU8 ((Z.drop P).take d)).length = d * 1) := by
          show _ = _
          rw [cellsU8_length, Nat.mul_one, List.length_take, List.length_drop, hZl.out]
          omega
        have Hd : Hid (P + d ≤ n ∧ d ≤ 48 ∧ 0 < d ∧ (P + 48 < n ∨ P + d = n)) := ⟨by omega, by omega, by omega, by omega⟩
        clear hP hl hd
        go_wp2_with (first
          | (at_builtin; go_must (refine wpList_append_own _ rfl (.tmp 41) (.tmp 47) 22 rfl wr.heap.size 5 i0 (.int .u8 0) 1 1 Tryd.underlying22 hi hz0 hz1 hz2 rfl (by decide) _ 4 (cellsU8 [(i : Int) / 16777216, (i : Int) / 65536, (i : Int) / 256, (i : Int)]) rfl (owns_lit wr [(i : Int) / 16777216, (i : Int) / 65536, (i : Int) / 256, (i : Int)] 4 rfl (by decide)) ⟨b, off + P, none⟩ d (c - P) (cellsU8 ((Z.drop P).take d)) rfl HLn.out HNw2.out (cellsU8_one _) (by unfold maxLen; omega) (by omega) (by rw [size_alloc]; omega) ?_)))
        intro v9 w9 hown9 hgrow9 hnil9
        have hbx : Below wr.heap.size wr w9 := ((Below.refl wr.heap.size wr).alloc (Nat.le_refl _) _).grown hgrow9 (by rw [size_alloc]; omega) (fun q hq => by injection hq with hq; rw [← hq]; exact Nat.le_refl _)
        have HB9 : Hid (Below w.heap.size w w9) := HB3.out.trans (hbx.mono HB3.out.size)
        have HO9 : Hid (w9.ownsRow w.heap.size 5 1 (.slice a3 l c3) l (cellsU8 ((spreadL 384 Z).take l))) := owns_kept HO3.out hbx
        have HXl : Hid (X.length = 4 + d) := by
          show _ = _
          rw [HX.out, HPl.out, List.length_append, List.length_take, List.length_drop, hZl.out]
          have := Hd.out
          simp [be4]
          omega
        have hX9 : w9.ownsRow wr.heap.size 5 1 v9 (4 + d) (cellsU8 X) := by
          rw [HX.out, HPl.out, be4_small i (by have := HP.out; omega), cellsU8_append]
          exact hown9
        have hT9 : RTab w9 := hT.out.below HB9.out hT.out.size
        have H40 : Hid (Calls Tryd.prog 35 #[.int .i64 384, v9] w9 fun e w' => ∃ v', e = .returned v' ∧ w'.ownsRow w9.heap.size 5 1 v' 48 (cellsU8 (sumD 384 X)) ∧ Below w9.heap.size w9 w') := rsum_ok (h := 384) (by unfold Known; omega) v9 X w9 hT9 (viewOwns hX9 HXl.out) (by rw [HXl.out]; omega)
        clear hown9 hgrow9 hnil9 hbx hX9 hT9 HNw HNw2 HLn HO3 HB3
        go_upto_region 10 with (go_at_call 35; refine H40.out.mono ?_)
        rintro e10 w10 ⟨v10, rfl, hown10, hb10⟩
        clear H40
        obtain ⟨g10, c10, rfl⟩ := owns_some hown10 (by omega)
        have hc10 : 48 ≤ c10 ∧ c10 ≤ 9223372036854775807 := by
          rcases hown10.2 with ⟨e1, e2⟩ | ⟨g', c', cur, e1, q1, q2, q3, q4, q5⟩
          · omega
          · injection e1 with e1 e2 e3
            subst e3
            unfold maxLen at q4
            omega
        have hsl2 : ∀ u, (Instr.slice 22 (.slice (some ⟨g10, 0, none⟩) 48 c10) none (some (.int .i64 ((n : Int) - (i : Int) * 48))) none).run Tryd.prog u = .ok (.slice (some ⟨g10, 0, none⟩) d c10) u := fun u => by
          have hd1 := Hd.out
          have hd2 := HP.out
          rw [run_slice_h u 22 (some ⟨g10, 0, none⟩) 48 c10 und22p .i64 ((n : Int) - (i : Int) * 48) (by omega) (by omega), elem22p, sizeOf5p]
          have e1 : (((n : Int) - (i : Int) * 48)).toNat = d := by omega
          simp only [Result.andThen, sliced, e1]
          simp [Addr.add]
        have HB10 : Hid (Below w.heap.size w w10) := HB9.out.trans (hb10.mono HB9.out.size)
        have HO10 : Hid (w10.ownsRow w.heap.size 5 1 (.slice a3 l c3) l (cellsU8 ((spreadL 384 Z).take l))) := owns_kept HO9.out hb10
        have HN10 : Hid (∀ j u, (cellsU8 ((sumD 384 X).take d))[j]? = some u → w10.cell? ((⟨g10, 0, none⟩ : Addr).add j) = some u) := fun j u hu => by
          rw [cellsU8, List.map_take] at hu
          exact hown10.cells rfl j u (getElem?_of_take hu)
        have HL10 : Hid ((cellsU8 ((sumD 384 X).take d)).length = d * 1) := by
          show _ = _
          have := sumD_length 384 (by unfold Known; omega) X
          rw [cellsU8_length, List.length_take, this]
          have := Hd.out
          show min d 48 = d * 1
          omega
        have hll : l ≤ 1024 ∧ d ≤ 1024 := by have := HLP.out; have := Hd.out; omega
        clear HO9 HB9 hown10 hb10
        go_wp2_with (first
          | (at_builtin; go_must (refine wpList_append_own _ rfl (.tmp 52) (.tmp 59) 22 rfl w.heap.size 5 i0 (.int .u8 0) 1 1 Tryd.underlying22 hi hz0 hz1 hz2 rfl (by decide) _ _ _ rfl HO10.out ⟨g10, 0, none⟩ d c10 (cellsU8 ((sumD 384 X).take d)) rfl HL10.out HN10.out (cellsU8_one _) (by unfold maxLen; omega) (by omega) HB10.out.size ?_)))
        intro v11 w11 hown11 hgrow11 hnil11
        have HB11 : Hid (Below w.heap.size w w11) := HB10.out.grown hgrow11 HB10.out.size (fun q hq => (HO10.out.lt q hq).1)
        have ho11 : w11.ownsRow w.heap.size 5 1 v11 (l + d) (cellsU8 ((spreadL 384 Z).take (l + d))) := by
          have h1 := spreadL_step 384 (by unfold Known; omega) Z i d (by have := Hd.out; show d ≤ 48; omega) (by have := Hd.out; have := HP.out; rw [hZl.out]; show 48 * i + d ≤ n; omega)
          have h2 : l = szOf 384 * i := by rw [HLP.out, HP.out]; rfl
          rw [h2, h1, cellsU8_append, ← h2]
          have h3 : dPiece 384 Z i = sumD 384 X := by
            rw [dPiece, HX.out, ← h2, HLP.out]
            rfl
          rw [h3]
          exact hown11
        clear hown11 hgrow11 hnil11
        obtain ⟨a11, c11, rfl⟩ := owns_slice ho11
        have HO11 : Hid (w11.ownsRow w.heap.size 5 1 (.slice a11 (l + d) c11) (l + d) (cellsU8 ((spreadL 384 Z).take (l + d)))) := ho11
        clear ho11 HO10 HB10 HN10 HL10
        go_wp2
        go_roundw
        case rel => exact ⟨i + 1, l + d, c11, a11, ⟨by omega, by have := Hd.out; have := HP.out; have := HLP.out; omega⟩, by go_num, rfl, HO11, HB11⟩
        case measure => simp [intOf]; omega
    · have hlt2 : ¬ (i : Int) * 48 < n := by omega
      have hin : i ≤ 1024 := by have := HI.out; omega
      have hln : l = n := by have := HI.out; omega
      have HLN : Hid (l = n) := hln
      clear hln hP
      go_wp2
      go_ret
      refine ⟨_, rfl, ?_, HB3.out⟩
      have h1 := HO3.out
      rw [List.take_of_length_le (by rw [spreadL_length, hZl.out, HLN.out]; exact Nat.le_refl _)] at h1
      rw [← HLN.out]
      exact h1
set_option maxHeartbeats 1600000 in
set_option maxRecDepth 100000 in
theorem rspread512_some (b off n c : Nat) (Z : List Int) (w : World) (hT : Hid (RTab w)) (hn : 0 < n ∧ n ≤ 1024) (hnc : n ≤ c ∧ c ≤ 9223372036854775807) (hZl : Hid (Z.length = n)) (hbw : b < w.heap.size) (HC : Hid (∀ i, i < n → w.cell? ⟨b, off + i, none⟩ = some (.int .u8 (Z.getD i 0)))) :
    Calls Tryd.prog 28 #[.int .i64 512, .slice (some ⟨b, off, none⟩) n c] w fun e w' => ∃ v, e = .returned v ∧ w'.ownsRow w.heap.size 5 1 v n (cellsU8 (spreadL 512 Z)) ∧ Below w.heap.size w w' := by
  obtain ⟨i0, hi, hz0, hz1, hz2⟩ := info_parts Tryd.info5
  have H27 : Hid (∀ u, Calls Tryd.prog 16 #[.int .i64 512] u fun e w' => e = .returned (.int .i64 64) ∧ w' = u) := fun u => rsize_ok 512 (by unfold Known; omega) u
  go_enter Tryd.func28, Tryd.ntmps28
  go_wp2_with (go_at_call 16; refine (H27.out _).mono ?_; rintro e1 wx ⟨rfl, hwx⟩; obtain rfl := hwx.symm)
  go_loopw [6, 7] (fun v vi wr => ∃ i l c : Nat, ∃ a : Option Addr, Hid (i ≤ n ∧ l = min (64 * i) n) ∧ vi = .int .i64 i ∧ v = .slice a l c ∧ Hid (wr.ownsRow w.heap.size 5 1 (.slice a l c) l (cellsU8 ((spreadL 512 Z).take l))) ∧ Hid (Below w.heap.size w wr)) (fun _ vi _ => n - (intOf vi).toNat)
  case atStart => exact ⟨0, 0, 0, none, ⟨by omega, by omega⟩, rfl, rfl, World.ownsRow_nil _ _ _ _, Below.refl _ _⟩
  case round =>
    obtain ⟨i, l, c3, a3, HI, rfl, rfl, HO3, HB3⟩ := hrel
    obtain ⟨P, hP⟩ : ∃ P, P = 64 * i := ⟨_, rfl⟩
    have HP : Hid (P = 64 * i) := hP
    by_cases hlt : P < n
    · have hin : i < n := by omega
      have hl : l = P := by have := HI.out; omega
      have HLP : Hid (l = P) := hl
      have hlt2 : (i : Int) * 64 < n := by omega
      by_cases hfull : P + 64 < n
      · have hmin : (i : Int) * 64 + 64 < n := by omega
        have hEP : P + 64 ≤ n := by omega
        have hsl1 : ∀ u, (Instr.slice 22 (.slice (some ⟨b, off, none⟩) n c) (some (.int .i64 ((i : Int) * 64))) (some (.int .i64 ((i : Int) * 64 + 64))) none).run Tryd.prog u = .ok (.slice (some ⟨b, off + P, none⟩) 64 (c - P)) u := fun u => by
          have := slice22 u b off n c P 64 64 (by omega) (by omega) (by omega)
          rw [show ((P : Nat) : Int) = (i : Int) * 64 by omega] at this
          exact this
        obtain ⟨X, HX⟩ : ∃ X : List Int, Hid (X = be4 i ++ (Z.drop P).take 64) := ⟨_, rfl⟩
        have HPl : Hid ((Z.drop P).take 64 = (Z.drop P).take 64) := by
          have hl := hZl.out
          show (Z.drop P).take 64 = (Z.drop P).take 64
          rw [List.take_eq_take_iff, List.length_drop, hl]
          try omega
        have HNw : Hid (∀ j u, (cellsU8 ((Z.drop P).take 64))[j]? = some u → wr.cell? ((⟨b, off + P, none⟩ : Addr).add j) = some u) := cellsU8_at _ wr b (off + P) (fun j hj => by
          have hl := hZl.out
          simp at hj
          rw [HB3.out.cell (p := ⟨b, off + P + j, none⟩) hbw, Nat.add_assoc, HC.out (P + j) (by omega)]
          simp [List.getD, List.getElem?_take, show j < 64 by omega])
        have hbwr : b < wr.heap.size := Nat.lt_of_lt_of_le hbw HB3.out.size
        have HNw2 : Hid (∀ j u, (cellsU8 ((Z.drop P).take 64))[j]? = some u → (wr.alloc (.cells #[.int .u8 ((i : Int) / 16777216), .int .u8 ((i : Int) / 65536), .int .u8 ((i : Int) / 256), .int .u8 (i : Int)] 5)).cell? ((⟨b, off + P, none⟩ : Addr).add j) = some u) := fun j u hu => by
          have h := HNw.out j u hu
          rw [Addr.add_lit] at h ⊢
          rw [cell_alloc_old wr _ b _ hbwr]
          exact h
        have HLn : Hid ((cellsU8 ((Z.drop P).take 64)).length = 64 * 1) := by
          show _ = _
          rw [cellsU8_length, Nat.mul_one, List.length_take, List.length_drop, hZl.out]
          omega
        have Hd : Hid (P + 64 ≤ n ∧ 64 ≤ 64 ∧ 0 < 64 ∧ (P + 64 < n ∨ P + 64 = n)) := ⟨by omega, by omega, by omega, by omega⟩
        clear hP hl
        go_wp2_with (first
          | (at_builtin; go_must (refine wpList_append_own _ rfl (.tmp 41) (.tmp 47) 22 rfl wr.heap.size 5 i0 (.int .u8 0) 1 1 Tryd.underlying22 hi hz0 hz1 hz2 rfl (by decide) _ 4 (cellsU8 [(i : Int) / 16777216, (i : Int) / 65536, (i : Int) / 256, (i : Int)]) rfl (owns_lit wr [(i : Int) / 16777216, (i : Int) / 65536, (i : Int) / 256, (i : Int)] 4 rfl (by decide)) ⟨b, off + P, none⟩ 64 (c - P) (cellsU8 ((Z.drop P).take 64)) rfl HLn.out HNw2.out (cellsU8_one _) (by unfold maxLen; omega) (by omega) (by rw [size_alloc]; omega) ?_)))
        intro v9 w9 hown9 hgrow9 hnil9
        have hbx : Below wr.heap.size wr w9 := ((Below.refl wr.heap.size wr).alloc (Nat.le_refl _) _).grown hgrow9 (by rw [size_alloc]; omega) (fun q hq => by injection hq with hq; rw [← hq]; exact Nat.le_refl _)
        have HB9 : Hid (Below w.heap.size w w9) := HB3.out.trans (hbx.mono HB3.out.size)
        have HO9 : Hid (w9.ownsRow w.heap.size 5 1 (.slice a3 l c3) l (cellsU8 ((spreadL 512 Z).take l))) := owns_kept HO3.out hbx
        have HXl : Hid (X.length = 4 + 64) := by
          show _ = _
          rw [HX.out, List.length_append, List.length_take, List.length_drop, hZl.out]
          have := Hd.out
          simp [be4]
          omega
        have hX9 : w9.ownsRow wr.heap.size 5 1 v9 (4 + 64) (cellsU8 X) := by
          rw [HX.out, be4_small i (by have := HP.out; omega), cellsU8_append]
          exact hown9
        have hT9 : RTab w9 := hT.out.below HB9.out hT.out.size
        have H40 : Hid (Calls Tryd.prog 35 #[.int .i64 512, v9] w9 fun e w' => ∃ v', e = .returned v' ∧ w'.ownsRow w9.heap.size 5 1 v' 64 (cellsU8 (sumD 512 X)) ∧ Below w9.heap.size w9 w') := rsum_ok (h := 512) (by unfold Known; omega) v9 X w9 hT9 (viewOwns hX9 HXl.out) (by rw [HXl.out]; omega)
        clear hown9 hgrow9 hnil9 hbx hX9 hT9 HNw HNw2 HLn HO3 HB3
        go_upto_region 10 with (go_at_call 35; refine H40.out.mono ?_)
        rintro e10 w10 ⟨v10, rfl, hown10, hb10⟩
        clear H40
        obtain ⟨g10, c10, rfl⟩ := owns_some hown10 (by omega)
        have hc10 : 64 ≤ c10 ∧ c10 ≤ 9223372036854775807 := by
          rcases hown10.2 with ⟨e1, e2⟩ | ⟨g', c', cur, e1, q1, q2, q3, q4, q5⟩
          · omega
          · injection e1 with e1 e2 e3
            subst e3
            unfold maxLen at q4
            omega
        have hsl2 : ∀ u, (Instr.slice 22 (.slice (some ⟨g10, 0, none⟩) 64 c10) none (some (.int .i64 ((i : Int) * 64 + 64 - (i : Int) * 64))) none).run Tryd.prog u = .ok (.slice (some ⟨g10, 0, none⟩) 64 c10) u := fun u => by
          have hd1 := Hd.out
          have hd2 := HP.out
          rw [run_slice_h u 22 (some ⟨g10, 0, none⟩) 64 c10 und22p .i64 ((i : Int) * 64 + 64 - (i : Int) * 64) (by omega) (by omega), elem22p, sizeOf5p]
          have e1 : (((i : Int) * 64 + 64 - (i : Int) * 64)).toNat = 64 := by omega
          simp only [Result.andThen, sliced, e1]
          simp [Addr.add]
        have HB10 : Hid (Below w.heap.size w w10) := HB9.out.trans (hb10.mono HB9.out.size)
        have HO10 : Hid (w10.ownsRow w.heap.size 5 1 (.slice a3 l c3) l (cellsU8 ((spreadL 512 Z).take l))) := owns_kept HO9.out hb10
        have HN10 : Hid (∀ j u, (cellsU8 ((sumD 512 X).take 64))[j]? = some u → w10.cell? ((⟨g10, 0, none⟩ : Addr).add j) = some u) := fun j u hu => by
          rw [cellsU8, List.map_take] at hu
          exact hown10.cells rfl j u (getElem?_of_take hu)
        have HL10 : Hid ((cellsU8 ((sumD 512 X).take 64)).length = 64 * 1) := by
          show _ = _
          have := sumD_length 512 (by unfold Known; omega) X
          rw [cellsU8_length, List.length_take, this]
          have := Hd.out
          show min 64 64 = 64 * 1
          omega
        have hll : l ≤ 1024 ∧ 64 ≤ 1024 := by have := HLP.out; have := Hd.out; omega
        clear HO9 HB9 hown10 hb10
        go_wp2_with (first
          | (at_builtin; go_must (refine wpList_append_own _ rfl (.tmp 52) (.tmp 59) 22 rfl w.heap.size 5 i0 (.int .u8 0) 1 1 Tryd.underlying22 hi hz0 hz1 hz2 rfl (by decide) _ _ _ rfl HO10.out ⟨g10, 0, none⟩ 64 c10 (cellsU8 ((sumD 512 X).take 64)) rfl HL10.out HN10.out (cellsU8_one _) (by unfold maxLen; omega) (by omega) HB10.out.size ?_)))
        intro v11 w11 hown11 hgrow11 hnil11
        have HB11 : Hid (Below w.heap.size w w11) := HB10.out.grown hgrow11 HB10.out.size (fun q hq => (HO10.out.lt q hq).1)
        have ho11 : w11.ownsRow w.heap.size 5 1 v11 (l + 64) (cellsU8 ((spreadL 512 Z).take (l + 64))) := by
          have h1 := spreadL_step 512 (by unfold Known; omega) Z i 64 (by have := Hd.out; show 64 ≤ 64; omega) (by have := Hd.out; have := HP.out; rw [hZl.out]; show 64 * i + 64 ≤ n; omega)
          have h2 : l = szOf 512 * i := by rw [HLP.out, HP.out]; rfl
          rw [h2, h1, cellsU8_append, ← h2]
          have h3 : dPiece 512 Z i = sumD 512 X := by
            rw [dPiece, HX.out, ← h2, HLP.out]
            rfl
          rw [h3]
          exact hown11
        clear hown11 hgrow11 hnil11
        obtain ⟨a11, c11, rfl⟩ := owns_slice ho11
        have HO11 : Hid (w11.ownsRow w.heap.size 5 1 (.slice a11 (l + 64) c11) (l + 64) (cellsU8 ((spreadL 512 Z).take (l + 64)))) := ho11
        clear ho11 HO10 HB10 HN10 HL10
        go_wp2
        go_roundw
        case rel => exact ⟨i + 1, l + 64, c11, a11, ⟨by omega, by have := Hd.out; have := HP.out; have := HLP.out; omega⟩, by go_num, rfl, HO11, HB11⟩
        case measure => simp [intOf]; omega
      · have hmin : ¬ (i : Int) * 64 + 64 < n := by omega
        obtain ⟨d, hd⟩ : ∃ d, d = n - P := ⟨_, rfl⟩
        have hEP : P + d ≤ n := by omega
        have hsl1 : ∀ u, (Instr.slice 22 (.slice (some ⟨b, off, none⟩) n c) (some (.int .i64 ((i : Int) * 64))) (some (.int .i64 (n : Int))) none).run Tryd.prog u = .ok (.slice (some ⟨b, off + P, none⟩) d (c - P)) u := fun u => by
          have := slice22 u b off n c P d (d : Nat) (by omega) (by omega) (by omega)
          rw [show ((P : Nat) : Int) = (i : Int) * 64 by omega] at this
          rw [show (i : Int) * 64 + ((d : Nat) : Int) = (n : Int) by omega] at this
          exact this
        obtain ⟨X, HX⟩ : ∃ X : List Int, Hid (X = be4 i ++ (Z.drop P).take 64) := ⟨_, rfl⟩
        have HPl : Hid ((Z.drop P).take 64 = (Z.drop P).take d) := by
          have hl := hZl.out
          show (Z.drop P).take 64 = (Z.drop P).take d
          rw [List.take_eq_take_iff, List.length_drop, hl]
          try omega
        have HNw : Hid (∀ j u, (cellsU8 ((Z.drop P).take d))[j]? = some u → wr.cell? ((⟨b, off + P, none⟩ : Addr).add j) = some u) := cellsU8_at _ wr b (off + P) (fun j hj => by
          have hl := hZl.out
          simp at hj
          rw [HB3.out.cell (p := ⟨b, off + P + j, none⟩) hbw, Nat.add_assoc, HC.out (P + j) (by omega)]
          simp [List.getD, List.getElem?_take, show j < d by omega])
        have hbwr : b < wr.heap.size := Nat.lt_of_lt_of_le hbw HB3.out.size
        have HNw2 : Hid (∀ j u, (cellsU8 ((Z.drop P).take d))[j]? = some u → (wr.alloc (.cells #[.int .u8 ((i : Int) / 16777216), .int .u8 ((i : Int) / 65536), .int .u8 ((i : Int) / 256), .int .u8 (i : Int)] 5)).cell? ((⟨b, off + P, none⟩ : Addr).add j) = some u) := fun j u hu => by
          have h := HNw.out j u hu
          rw [Addr.add_lit] at h ⊢
          rw [cell_alloc_old wr _ b _ hbwr]
          exact h
        have HLn : Hid ((cellsU8 ((Z.drop P).take d)).length = d * 1) := by
          show _ = _
          rw [cellsU8_length, Nat.mul_one, List.length_take, List.length_drop, hZl.out]
          omega
        have Hd : Hid (P + d ≤ n ∧ d ≤ 64 ∧ 0 < d ∧ (P + 64 < n ∨ P + d = n)) := ⟨by omega, by omega, by omega, by omega⟩
        clear hP hl hd
        go_wp2_with (first
          | (at_builtin; go_must (refine wpList_append_own _ rfl (.tmp 41) (.tmp 47) 22 rfl wr.heap.size 5 i0 (.int .u8 0) 1 1 Tryd.underlying22 hi hz0 hz1 hz2 rfl (by decide) _ 4 (cellsU8 [(i : Int) / 16777216, (i : Int) / 65536, (i : Int) / 256, (i : Int)]) rfl (owns_lit wr [(i : Int) / 16777216, (i : Int) / 65536, (i : Int) / 256, (i : Int)] 4 rfl (by decide)) ⟨b, off + P, none⟩ d (c - P) (cellsU8 ((Z.drop P).take d)) rfl HLn.out HNw2.out (cellsU8_one _) (by unfold maxLen; omega) (by omega) (by rw [size_alloc]; omega) ?_)))
        intro v9 w9 hown9 hgrow9 hnil9
        have hbx : Below wr.heap.size wr w9 := ((Below.refl wr.heap.size wr).alloc (Nat.le_refl _) _).grown hgrow9 (by rw [size_alloc]; omega) (fun q hq => by injection hq with hq; rw [← hq]; exact Nat.le_refl _)
        have HB9 : Hid (Below w.heap.size w w9) := HB3.out.trans (hbx.mono HB3.out.size)
        have HO9 : Hid (w9.ownsRow w.heap.size 5 1 (.slice a3 l c3) l (cellsU8 ((spreadL 512 Z).take l))) := owns_kept HO3.out hbx
        have HXl : Hid (X.length = 4 + d) := by
          show _ = _
          rw [HX.out, HPl.out, List.length_append, List.length_take, List.length_drop, hZl.out]
          have := Hd.out
          simp [be4]
          omega
        have hX9 : w9.ownsRow wr.heap.size 5 1 v9 (4 + d) (cellsU8 X) := by
          rw [HX.out, HPl.out, be4_small i (by have := HP.out; omega), cellsU8_append]
          exact hown9
        have hT9 : RTab w9 := hT.out.below HB9.out hT.out.size
        have H40 : Hid (Calls Tryd.prog 35 #[.int .i64 512, v9] w9 fun e w' => ∃ v', e = .returned v' ∧ w'.ownsRow w9.heap.size 5 1 v' 64 (cellsU8 (sumD 512 X)) ∧ Below w9.heap.size w9 w') := rsum_ok (h := 512) (by unfold Known; omega) v9 X w9 hT9 (viewOwns hX9 HXl.out) (by rw [HXl.out]; omega)
        clear hown9 hgrow9 hnil9 hbx hX9 hT9 HNw HNw2 HLn HO3 HB3
        go_upto_region 10 with (go_at_call 35; refine H40.out.mono ?_)
        rintro e10 w10 ⟨v10, rfl, hown10, hb10⟩
        clear H40
        obtain ⟨g10, c10, rfl⟩ := owns_some hown10 (by omega)
        have hc10 : 64 ≤ c10 ∧ c10 ≤ 9223372036854775807 := by
          rcases hown10.2 with ⟨e1, e2⟩ | ⟨g', c', cur, e1, q1, q2, q3, q4, q5⟩
          · omega
          · injection e1 with e1 e2 e3
            subst e3
            unfold maxLen at q4
            omega
        have hsl2 : ∀ u, (Instr.slice 22 (.slice (some ⟨g10, 0, none⟩) 64 c10) none (some (.int .i64 ((n : Int) - (i : Int) * 64))) none).run Tryd.prog u = .ok (.slice (some ⟨g10, 0, none⟩) d c10) u := fun u => by
          have hd1 := Hd.out
          have hd2 := HP.out
          rw [run_slice_h u 22 (some ⟨g10, 0, none⟩) 64 c10 und22p .i64 ((n : Int) - (i : Int) * 64) (by omega) (by omega), elem22p, sizeOf5p]
          have e1 : (((n : Int) - (i : Int) * 64)).toNat = d := by omega
          simp only [Result.andThen, sliced, e1]
          simp [Addr.add]
        have HB10 : Hid (Below w.heap.size w w10) := HB9.out.trans (hb10.mono HB9.out.size)
        have HO10 : Hid (w10.ownsRow w.heap.size 5 1 (.slice a3 l c3) l (cellsU8 ((spreadL 512 Z).take l))) := owns_kept HO9.out hb10
        have HN10 : Hid (∀ j u, (cellsU8 ((sumD 512 X).take d))[j]? = some u → w10.cell? ((⟨g10, 0, none⟩ : Addr).add j) = some u) := fun j u hu => by
          rw [cellsU8, List.map_take] at hu
          exact hown10.cells rfl j u (getElem?_of_take hu)
        have HL10 : Hid ((cellsU8 ((sumD 512 X).take d)).length = d * 1) := by
          show _ = _
          have := sumD_length 512 (by unfold Known; omega) X
          rw [cellsU8_length, List.length_take, this]
          have := Hd.out
          show min d 64 = d * 1
          omega
        have hll : l ≤ 1024 ∧ d ≤ 1024 := by have := HLP.out; have := Hd.out; omega
        clear HO9 HB9 hown10 hb10
        go_wp2_with (first
          | (at_builtin; go_must (refine wpList_append_own _ rfl (.tmp 52) (.tmp 59) 22 rfl w.heap.size 5 i0 (.int .u8 0) 1 1 Tryd.underlying22 hi hz0 hz1 hz2 rfl (by decide) _ _ _ rfl HO10.out ⟨g10, 0, none⟩ d c10 (cellsU8 ((sumD 512 X).take d)) rfl HL10.out HN10.out (cellsU8_one _) (by unfold maxLen; omega) (by omega) HB10.out.size ?_)))
        intro v11 w11 hown11 hgrow11 hnil11
        have HB11 : Hid (Below w.heap.size w w11) := HB10.out.grown hgrow11 HB10.out.size (fun q hq => (HO10.out.lt q hq).1)
        have ho11 : w11.ownsRow w.heap.size 5 1 v11 (l + d) (cellsU8 ((spreadL 512 Z).take (l + d))) := by
          have h1 := spreadL_step 512 (by unfold Known; omega) Z i d (by have := Hd.out; show d ≤ 64; omega) (by have := Hd.out; have := HP.out; rw [hZl.out]; show 64 * i + d ≤ n; omega)
          have h2 : l = szOf 512 * i := by rw [HLP.out, HP.out]; rfl
          rw [h2, h1, cellsU8_append, ← h2]
          have h3 : dPiece 512 Z i = sumD 512 X := by
            rw [dPiece, HX.out, ← h2, HLP.out]
            rfl
          rw [h3]
          exact hown11
        clear hown11 hgrow11 hnil11
        obtain ⟨a11, c11, rfl⟩ := owns_slice ho11
        have HO11 : Hid (w11.ownsRow w.heap.size 5 1 (.slice a11 (l + d) c11) (l + d) (cellsU8 ((spreadL 512 Z).take (l + d)))) := ho11
        clear ho11 HO10 HB10 HN10 HL10
        go_wp2
        go_roundw
        case rel => exact ⟨i + 1, l + d, c11, a11, ⟨by omega, by have := Hd.out; have := HP.out; have := HLP.out; omega⟩, by go_num, rfl, HO11, HB11⟩
        case measure => simp [intOf]; omega
    · have hlt2 : ¬ (i : Int) * 64 < n := by omega
      have hin : i ≤ 1024 := by have := HI.out; omega
      have hln : l = n := by have := HI.out; omega
      have HLN : Hid (l = n) := hln
      clear hln hP
      go_wp2
      go_ret
      refine ⟨_, rfl, ?_, HB3.out⟩
      have h1 := HO3.out
      rw [List.take_of_length_le (by rw [spreadL_length, hZl.out, HLN.out]; exact Nat.le_refl _)] at h1
      rw [← HLN.out]
      exact h1
set_option maxHeartbeats 400000 in
theorem rspread_zero {h : Int} (k : Known h) (a : Option Addr) (c : Nat) (w : World) :
    Calls Tryd.prog 28 #[.int .i64 h, .slice a 0 c] w fun e w' => e = .returned (.slice none 0 0) ∧ w' = w := by
  have hs := szOf_pos k
  go_enter Tryd.func28, Tryd.ntmps28
  go_wp2_with (go_at_call 16; refine (rsize_ok h k _).mono ?_; rintro e1 wx ⟨rfl, hwx⟩; obtain rfl := hwx.symm)
  go_loop [6, 7] (fun o v => o = .slice none 0 0 ∧ v = .int .i64 0) (fun _ _ => 0)
  case atStart => exact ⟨rfl, rfl⟩
  case round =>
    obtain ⟨rfl, rfl⟩ := hrel
    go_wp2
    go_ret
    exact ⟨rfl, rfl⟩
/-- spread. -/
theorem rspread_any {h : Int} (k : Known h) (v : Value) (Z : List Int) (w : World) (hT : RTab w) (hv : View w v Z) (hl : Z.length ≤ 1024) :
    Calls Tryd.prog 28 #[.int .i64 h, v] w fun e w' => ∃ v', e = .returned v' ∧ w'.ownsRow w.heap.size 5 1 v' Z.length (cellsU8 (spreadL h Z)) ∧ Below w.heap.size w w' := by
  obtain ⟨a, c, rfl, h1, h2, h3, h4⟩ := hv
  by_cases hz : Z = []
  · subst hz
    refine (rspread_zero k a c w).mono ?_
    rintro e w' ⟨rfl, rfl⟩
    exact ⟨_, rfl, World.ownsRow_nil _ _ _ _, Below.refl _ _⟩
  · have h0 : 0 < Z.length := List.length_pos_iff.2 hz
    rcases h4 with h4 | ⟨b, off, rfl, hc⟩
    · exact absurd h4 hz
    · have hbw : b < w.heap.size := lt_of_cell (hc 0 h0)
      have hm : c ≤ 9223372036854775807 := by unfold maxLen at h2; omega
      rcases k with rfl | rfl | rfl | rfl
      · exact rspread224_some b off _ c Z w hT ⟨h0, hl⟩ ⟨h1, hm⟩ rfl hbw hc
      · exact rspread256_some b off _ c Z w hT ⟨h0, hl⟩ ⟨h1, hm⟩ rfl hbw hc
      · exact rspread384_some b off _ c Z w hT ⟨h0, hl⟩ ⟨h1, hm⟩ rfl hbw hc
      · exact rspread512_some b off _ c Z w hT ⟨h0, hl⟩ ⟨h1, hm⟩ rfl hbw hc
/-- The mixer's pieces, one after the other, make the same. -/
theorem diff_fold (h : Int) (k : Known h) (Z : List Int) (f : Nat → Int) (hf : ∀ j, j < Z.length → f j = Z.getD j 0) : ∀ m, m ≤ (Z.length + szOf h - 1) / szOf h → ∀ j, (List.range m).foldl (stepF h (szOf h) Z.length) f j = if j < min (szOf h * m) Z.length then (dPiece h Z (j / szOf h)).getD (j % szOf h) 0 else f j
  | 0, _, j => by simp
  | m + 1, hm, j => by
    have hs := szOf_pos k
    have ih := diff_fold h k Z f hf m (by omega)
    have hlt : m * szOf h < Z.length := (cnt_iff Z.length (szOf h) hs.1 m).1 hm
    rw [List.range_succ, List.foldl_append]
    generalize (List.range m).foldl (stepF h (szOf h) Z.length) f = G at ih
    simp only [List.foldl_cons, List.foldl_nil]
    have hc : clp (szOf h) Z.length m = m := by unfold clp; rw [if_pos hlt]
    have hd : pcl (szOf h) Z.length m = min (szOf h) (Z.length - szOf h * m) := by
      unfold pcl
      rw [hc, Nat.succ_mul, Nat.mul_comm m]
      omega
    have hsm : szOf h * m < Z.length := by rw [Nat.mul_comm]; exact hlt
    unfold stepF
    rw [hc, hd, Nat.mul_comm m]
    unfold pieceF
    rw [Nat.mul_succ]
    by_cases h1 : szOf h * m ≤ j ∧ j < szOf h * m + min (szOf h) (Z.length - szOf h * m)
    · rw [if_pos h1, if_pos (by omega)]
      have e1 : j / szOf h = m := by
        rw [show j = (j - szOf h * m) + szOf h * m by omega, Nat.add_mul_div_left _ _ (by omega), Nat.div_eq_of_lt (by omega), Nat.zero_add]
      have e2 : j % szOf h = j - szOf h * m := by
        have := Nat.div_add_mod j (szOf h)
        rw [e1] at this
        omega
      rw [e1, e2, dPiece]
      have e3 : (List.range (min (szOf h) (Z.length - szOf h * m))).map (fun q => G (szOf h * m + q)) = (Z.drop (szOf h * m)).take (szOf h) := by
        apply List.ext_getElem?
        intro q
        by_cases hq : q < min (szOf h) (Z.length - szOf h * m)
        · rw [List.getElem?_map, List.getElem?_range hq, List.getElem?_take, if_pos (by omega), List.getElem?_drop, List.getElem?_eq_getElem (by omega)]
          simp only [Option.map_some]
          rw [ih, if_neg (by omega), hf _ (by omega), List.getD_eq_getElem?_getD, List.getElem?_eq_getElem (by omega)]
          rfl
        · rw [List.getElem?_eq_none (by simp; omega), List.getElem?_eq_none (by simp; omega)]
      rw [e3]
    · rw [if_neg h1, ih]
      by_cases h2 : j < min (szOf h * m) Z.length
      · rw [if_pos h2, if_pos (by omega)]
      · rw [if_neg h2, if_neg (by omega)]
theorem diffF_spread (h : Int) (k : Known h) (Z : List Int) (f : Nat → Int) (hf : ∀ j, j < Z.length → f j = Z.getD j 0) (j : Nat) (hj : j < Z.length) : diffF h Z.length f j = (spreadL h Z).getD j 0 := by
  have hs := szOf_pos k
  unfold diffF
  rw [diff_fold h k Z f hf _ (Nat.le_refl _), if_pos]
  · simp [spreadL, List.getD, hj]
  · have := mt (cnt_iff Z.length (szOf h) hs.1 ((Z.length + szOf h - 1) / szOf h)).2 (Nat.lt_irrefl _)
    rw [Nat.mul_comm] at this
    omega
theorem diffF_list (h : Int) (k : Known h) (Z : List Int) (f : Nat → Int) (hf : ∀ j, j < Z.length → f j = Z.getD j 0) : (List.range Z.length).map (diffF h Z.length f) = spreadL h Z := by
  apply List.ext_getElem?
  intro j
  by_cases hj : j < Z.length
  · rw [List.getElem?_map, List.getElem?_range hj]
    simp only [Option.map_some]
    rw [diffF_spread h k Z f hf j hj, List.getD_eq_getElem?_getD, List.getElem?_eq_getElem (by rw [spreadL_length]; exact hj)]
    rfl
  · rw [List.getElem?_eq_none (by simp; omega), List.getElem?_eq_none (by rw [spreadL_length]; omega)]
end Go.Proofs.YtcopkohklgbpgabDoor
