import Derived.Test.YtioggmjocelolacDoorPart05
import Derived.Test.YtioggmjocelolacDoorPart04
import Derived.Maps.AppendAt
import Derived.Test.YtioggmjocelolacDoorPart00
import Derived.ArgAppend
namespace Go.Proofs.YtioggmjocelolacDoor
open Go.RowKit
set_option linter.unusedVariables false
set_option linter.unusedSimpArgs false
/-- The key, filled up and masked. -/
def padL (bs : Nat) (K : List Int) (m : Int) : List Int := (List.range bs).map fun i => bits .xor .u8 (fnz K i) m
theorem padL_length (bs : Nat) (K : List Int) (m : Int) : (padL bs K m).length = bs := by simp [padL]
theorem padL_at (bs : Nat) (K : List Int) (m : Int) (i : Nat) (hi : i < bs) : (padL bs K m)[i]? = some (bits .xor .u8 (fnz K i) m) := by simp [padL, hi]
theorem fnz_padL (bs : Nat) (K : List Int) (m : Int) (i : Nat) (hi : i < bs) : fnz (padL bs K m) i = maskF K m i := by
  rw [fnz, List.getD_eq_getElem?_getD, padL_at bs K m i hi]
  rfl
/-- A whole block ahead. -/
theorem endW_block (wd : Bool) (s0 : Eight) (X zs : List Int) (hX : X.length = bsz wd) : endW wd s0 0 (X ++ zs) = endW wd (TT wd (fnz X) s0 1) (bsz wd) zs := by
  have hb := bsz_pos wd
  have e1 : (X ++ zs).length / bsz wd = 1 + zs.length / bsz wd := by
    rw [List.length_append, hX, Nat.add_div_left _ hb]
    omega
  have e2 : ∀ i, fnz (X ++ zs) (bsz wd + i) = fnz zs i := fun i => by rw [← hX]; exact fnz_right X zs i
  unfold endW
  rw [e1, List.length_append, hX, Nat.zero_add, TT_add]
  have e3 : TT wd (fnz (X ++ zs)) s0 1 = TT wd (fnz X) s0 1 := TT_congr wd s0 1 fun j hj => fnz_left X zs j (by omega)
  rw [e3]
  have e4 : (fun k => fnz (X ++ zs) (bsz wd * 1 + k)) = fnz zs := funext fun k => by rw [Nat.mul_one]; exact e2 k
  have e5 : (fun i => fnz (X ++ zs) (bsz wd * (1 + zs.length / bsz wd) + i)) = fun i => fnz zs (bsz wd * (zs.length / bsz wd) + i) := funext fun i => by
    rw [Nat.mul_add, Nat.mul_one, Nat.add_assoc]
    exact e2 _
  rw [e4, e5]
theorem state_pad (h : Int) (key : List Int) (m : Int) : TT (wdOf h) (fnz (padL (bsz (wdOf h)) (keyOf h key) m)) (firstE h) 1 = stateOf h key m :=
  TT_congr _ _ 1 fun j hj => fnz_padL _ _ _ _ (by omega)
/-- HMAC, as two digests. -/
theorem hmac_eq (h : Int) (key zs : List Int) : hmac h key zs = sumD h (padL (bsz (wdOf h)) (keyOf h key) 92 ++ sumD h (padL (bsz (wdOf h)) (keyOf h key) 54 ++ zs)) := by
  unfold hmac macL macE sumD
  rw [endW_block _ _ _ _ (padL_length _ _ _), endW_block _ _ _ _ (padL_length _ _ _), state_pad, state_pad]
/-- Two rows in different blocks. -/
def RowsApart (v u : Value) : Prop := ∀ b, v.ownBlock = some b → u.ownBlock ≠ some b
theorem owns_other {w w' : World} {B e s n : Nat} {v u : Value} {xs : List Value} (h : w.ownsRow B e s u n xs) (hg : w.grownBy w' v.ownBlock) (ha : RowsApart v u) : w'.ownsRow B e s u n xs := by
  have h0 := h
  obtain ⟨h1, h2⟩ := h
  refine ⟨h1, ?_⟩
  rcases h2 with h2 | ⟨g, c, cur, rfl, q1, q2, q⟩
  · exact .inl h2
  · exact .inr ⟨g, c, cur, rfl, q1, by rw [hg.block g (Array.getElem?_eq_some_iff.1 q2).1 (fun hh => ha g hh.symm rfl)]; exact q2, q⟩
theorem apart_step {w : World} {B e s n m : Nat} {v v' u : Value} {xs : List Value} (hu : w.ownsRow B e s u n xs) (ha : RowsApart v u) (hat : v'.ownBlock = v.ownBlock ∨ v'.ownBlock = some m) (hm : w.heap.size ≤ m) : RowsApart v' u := by
  intro b hb hb2
  rcases hat with e1 | e1
  · exact ha b (by rw [← e1]; exact hb) hb2
  · have := (hu.lt b hb2).2
    rw [e1] at hb
    injection hb with hb
    omega
theorem RowsApart.symm {v u : Value} (h : RowsApart v u) : RowsApart u v := fun b hb hb2 => h b hb2 hb
theorem keyOf_short {h : Int} {key : List Int} (hl : key.length ≤ bsz (wdOf h)) : keyOf h key = key := by unfold keyOf; rw [if_pos hl]
theorem keyOf_long {h : Int} {key : List Int} (hl : ¬ key.length ≤ bsz (wdOf h)) : keyOf h key = sumD h key := by unfold keyOf; rw [if_neg hl]; rfl
theorem bsz_le (wd : Bool) : 64 ≤ bsz wd ∧ bsz wd ≤ 128 := by cases wd <;> decide
theorem view_block {w : World} {a : Option Addr} {l c : Nat} {zs : List Int} (h : View w (.slice a l c) zs) (hl : zs.length = l) (h0 : 0 < l) : ∃ b o, a = some ⟨b, o, none⟩ ∧ ∀ j, j < l → w.cell? ⟨b, o + j, none⟩ = some (.int .u8 (fnz zs j)) := by
  obtain ⟨a', c', e, q1, q2, q3, q4⟩ := h
  injection e with e1 e2 e3
  rcases q4 with q4 | ⟨b, o, e5, q5⟩
  · rw [q4] at hl; simp at hl; omega
  · exact ⟨b, o, by rw [e1, e5], fun j hj => q5 j (by omega)⟩
set_option maxHeartbeats 6400000 in
set_option maxRecDepth 100000 in
theorem rcode_walk (h : Int) (ka0 : Option Addr) (kn kc0 : Nat) (za : Option Addr) (zn zc : Nat) (key zs : List Int) (w : World) (k : Hid (Known h)) (hR : Hid (RTab w)) (hk : Hid (View w (.slice ka0 kn kc0) key)) (hkn : Hid (key.length = kn)) (hb : Hid (View w (.slice za zn zc) zs)) (HZl : Hid (zs.length = zn)) (hkl0 : kn ≤ 1099511627776) (hzl : zn ≤ 1099511627000) :
    Calls Tryd.prog 24 #[.int .i64 h, .slice ka0 kn kc0, .slice za zn zc] w fun e w' => ∃ v', e = .returned v' ∧ w'.ownsRow w.heap.size 5 1 v' (szOf h) (cellsU8 (hmac h key zs)) ∧ Below w.heap.size w w' := by
  obtain ⟨i0, hi, hz0, hz1, hz2⟩ := info_parts Tryd.info5
  have hR2 := hR.out.size
  obtain ⟨bs, HBs⟩ : ∃ bs, Hid (bs = bsz (wdOf h)) := ⟨_, rfl⟩
  have hbl : 64 ≤ bs ∧ bs ≤ 128 := by rw [HBs.out]; exact bsz_le _
  have HBk : Hid (∀ u, Calls Tryd.prog 40 #[.int .i64 h] u fun e w' => e = .returned (.int .i64 (bs : Nat)) ∧ w' = u) := fun u => by
    rw [HBs.out]
    exact rblock_ok h k.out u
  have d0 : (((bs : Nat) : Int) == 0) = false := by rw [beq_eq_false_iff_ne]; omega
  go_enter Tryd.func24, Tryd.ntmps24
  by_cases hlong : kn ≤ bs
  · obtain ⟨K, HKe⟩ : ∃ K, Hid (K = keyOf h key) := ⟨_, rfl⟩
    have HKk : Hid (K = key) := by show _ = _; rw [HKe.out]; exact keyOf_short (by rw [hkn.out, ← HBs.out]; exact hlong)
    obtain ⟨ka, hka⟩ : ∃ ka, ka = ka0 := ⟨_, rfl⟩
    obtain ⟨kl, hkl⟩ : ∃ kl, kl = kn := ⟨_, rfl⟩
    subst hka hkl
    have HK : Hid (View w (.slice ka kl kc0) K) := by rw [HKk.out]; exact hk.out
    have HKl : Hid (K.length = kl) := by rw [HKk.out]; exact hkn.out
    have d2 : ¬ ((bs : Nat) : Int) < (kl : Nat) := by omega
    go_wp2_with (go_at_call 40; refine (HBk.out _).mono ?_; rintro e1 wx ⟨rfl, hwx⟩; obtain rfl := hwx.symm)
    clear d0 d2
    generalize decide (bs < kl) = bq
    go_loopw [9, 10, 11] (fun v9 v10 vi wr => ∃ i c1 c2 : Nat, ∃ a1 a2 : Option Addr, i ≤ bs ∧ vi = .int .i64 i ∧ v9 = .slice a1 i c1 ∧ v10 = .slice a2 i c2 ∧ Hid (wr.ownsRow w.heap.size 5 1 (.slice a1 i c1) i (cellsU8 ((padL bs K 54).take i))) ∧ Hid (wr.ownsRow w.heap.size 5 1 (.slice a2 i c2) i (cellsU8 ((padL bs K 92).take i))) ∧ Hid (RowsApart (.slice a1 i c1) (.slice a2 i c2)) ∧ Hid (Below w.heap.size w wr)) (fun _ _ vi _ => bs - (intOf vi).toNat)
    case atStart => exact ⟨0, 0, 0, none, none, by omega, rfl, rfl, rfl, World.ownsRow_nil _ _ _ _, World.ownsRow_nil _ _ _ _, (fun b hb => by cases hb), Below.refl _ _⟩
    case round =>
      obtain ⟨i, c1, c2, a1, a2, hle, rfl, rfl, rfl, HI, HU, HA, HB3⟩ := hrel
      by_cases hlt : i < bs
      · by_cases hik : i < kl
        · obtain ⟨b, o, hab, hcb⟩ := view_block HK.out HKl.out (by omega)
          subst hab
          obtain ⟨x, HX⟩ : ∃ x, Hid (x = fnz K i) := ⟨_, rfl⟩
          have f0 : wr.cell? ⟨b, o + i, none⟩ = some (.int .u8 x) := by
            rw [HB3.out.cell (p := ⟨b, o + i, none⟩) (lt_of_cell (hcb i hik)), HX.out]
            exact hcb i hik
          clear hcb
          have hBa : Below wr.heap.size wr (wr.alloc (.cells #[.int .u8 (bits .xor .u8 x 54)] 5)) := (Below.refl _ _).alloc (Nat.le_refl _) _
          have HIa : Hid ((wr.alloc (.cells #[.int .u8 (bits .xor .u8 x 54)] 5)).ownsRow w.heap.size 5 1 (.slice a1 i c1) i (cellsU8 ((padL bs K 54).take i))) := owns_kept HI.out hBa
          have HUa : Hid ((wr.alloc (.cells #[.int .u8 (bits .xor .u8 x 54)] 5)).ownsRow w.heap.size 5 1 (.slice a2 i c2) i (cellsU8 ((padL bs K 92).take i))) := owns_kept HU.out hBa
          have HSa : Hid (w.heap.size ≤ (wr.alloc (.cells #[.int .u8 (bits .xor .u8 x 54)] 5)).heap.size) := Nat.le_trans HB3.out.size hBa.size
          have HBa : Hid (Below w.heap.size w (wr.alloc (.cells #[.int .u8 (bits .xor .u8 x 54)] 5))) := HB3.out.trans (hBa.mono HB3.out.size)
          clear hBa
          go_wp2_with (first | (at_builtin; go_must (refine wpList_append_own_at _ rfl (.tmp 39) (.tmp 42) 22 rfl w.heap.size 5 i0 (.int .u8 0) 1 1 Tryd.underlying22 hi hz0 hz1 hz2 rfl (by decide) _ i (cellsU8 ((padL bs K 54).take i)) rfl HIa.out ⟨wr.heap.size, 0, none⟩ 1 1 [.int .u8 (bits .xor .u8 x 54)] rfl rfl (one_cell wr _ _) (one_one _) (by unfold maxLen; omega) (by omega) HSa.out ?_)))
          intro v4 w4 hown4 hgrow4 hnil4 hat4
          have HB4 : Hid (Below w.heap.size w w4) := HBa.out.grown hgrow4 HSa.out (fun q hq => (HIa.out.lt q hq).1)
          have HU4 : Hid (w4.ownsRow w.heap.size 5 1 (.slice a2 i c2) i (cellsU8 ((padL bs K 92).take i))) := owns_other HUa.out hgrow4 HA.out
          have HA4 : Hid (RowsApart v4 (.slice a2 i c2)) := apart_step HUa.out HA.out hat4 (by rw [size_alloc]; omega)
          have ho4 : w4.ownsRow w.heap.size 5 1 v4 (i + 1) (cellsU8 ((padL bs K 54).take (i + 1))) := by
            rw [List.take_add_one, padL_at bs K 54 i hlt, cellsU8_append, ← HX.out]
            exact hown4
          obtain ⟨a4, c4, rfl⟩ := owns_slice ho4
          have HI4 : Hid (w4.ownsRow w.heap.size 5 1 (.slice a4 (i + 1) c4) (i + 1) (cellsU8 ((padL bs K 54).take (i + 1)))) := ho4
          clear hown4 hgrow4 hnil4 hat4 ho4 HIa HUa HSa HBa HI HU HB3 HA
          have hBb : Below w4.heap.size w4 (w4.alloc (.cells #[.int .u8 (bits .xor .u8 x 92)] 5)) := (Below.refl _ _).alloc (Nat.le_refl _) _
          have HIb : Hid ((w4.alloc (.cells #[.int .u8 (bits .xor .u8 x 92)] 5)).ownsRow w.heap.size 5 1 (.slice a4 (i + 1) c4) (i + 1) (cellsU8 ((padL bs K 54).take (i + 1)))) := owns_kept HI4.out hBb
          have HUb : Hid ((w4.alloc (.cells #[.int .u8 (bits .xor .u8 x 92)] 5)).ownsRow w.heap.size 5 1 (.slice a2 i c2) i (cellsU8 ((padL bs K 92).take i))) := owns_kept HU4.out hBb
          have HSb : Hid (w.heap.size ≤ (w4.alloc (.cells #[.int .u8 (bits .xor .u8 x 92)] 5)).heap.size) := Nat.le_trans HB4.out.size hBb.size
          have HBb : Hid (Below w.heap.size w (w4.alloc (.cells #[.int .u8 (bits .xor .u8 x 92)] 5))) := HB4.out.trans (hBb.mono HB4.out.size)
          clear hBb
          go_wp2_with (first | (at_builtin; go_must (refine wpList_append_own_at _ rfl (.tmp 44) (.tmp 47) 22 rfl w.heap.size 5 i0 (.int .u8 0) 1 1 Tryd.underlying22 hi hz0 hz1 hz2 rfl (by decide) _ i (cellsU8 ((padL bs K 92).take i)) rfl HUb.out ⟨w4.heap.size, 0, none⟩ 1 1 [.int .u8 (bits .xor .u8 x 92)] rfl rfl (one_cell w4 _ _) (one_one _) (by unfold maxLen; omega) (by omega) HSb.out ?_)))
          intro v6 w6 hown6 hgrow6 hnil6 hat6
          have HB6 : Hid (Below w.heap.size w w6) := HBb.out.grown hgrow6 HSb.out (fun q hq => (HUb.out.lt q hq).1)
          have HI6 : Hid (w6.ownsRow w.heap.size 5 1 (.slice a4 (i + 1) c4) (i + 1) (cellsU8 ((padL bs K 54).take (i + 1)))) := owns_other HIb.out hgrow6 HA4.out.symm
          have HA6 : Hid (RowsApart (.slice a4 (i + 1) c4) v6) := (apart_step HIb.out HA4.out.symm hat6 (by first | exact Nat.le_refl _ | (rw [size_alloc]; omega))).symm
          have ho6 : w6.ownsRow w.heap.size 5 1 v6 (i + 1) (cellsU8 ((padL bs K 92).take (i + 1))) := by
            rw [List.take_add_one, padL_at bs K 92 i hlt, cellsU8_append, ← HX.out]
            exact hown6
          obtain ⟨a6, c6, rfl⟩ := owns_slice ho6
          have HU6 : Hid (w6.ownsRow w.heap.size 5 1 (.slice a6 (i + 1) c6) (i + 1) (cellsU8 ((padL bs K 92).take (i + 1)))) := ho6
          clear hown6 hgrow6 hnil6 hat6 ho6 HIb HUb HSb HBb HI4 HU4 HB4 HA4
          go_wp2
          go_roundw
          case rel => exact ⟨i + 1, c4, c6, a4, a6, by omega, by go_num, rfl, rfl, HI6, HU6, HA6, HB6⟩
          case measure => simp [intOf]; omega
        · have HX : Hid ((0 : Int) = fnz K i) := by
            show _ = _
            rw [fnz, List.getD_eq_getElem?_getD, List.getElem?_eq_none (by rw [HKl.out]; omega)]
            rfl
          have d1 : ¬ ((i : Nat) : Int) < (kl : Nat) := by omega
          have hBa : Below wr.heap.size wr (wr.alloc (.cells #[.int .u8 (bits .xor .u8 0 54)] 5)) := (Below.refl _ _).alloc (Nat.le_refl _) _
          have HIa : Hid ((wr.alloc (.cells #[.int .u8 (bits .xor .u8 0 54)] 5)).ownsRow w.heap.size 5 1 (.slice a1 i c1) i (cellsU8 ((padL bs K 54).take i))) := owns_kept HI.out hBa
          have HUa : Hid ((wr.alloc (.cells #[.int .u8 (bits .xor .u8 0 54)] 5)).ownsRow w.heap.size 5 1 (.slice a2 i c2) i (cellsU8 ((padL bs K 92).take i))) := owns_kept HU.out hBa
          have HSa : Hid (w.heap.size ≤ (wr.alloc (.cells #[.int .u8 (bits .xor .u8 0 54)] 5)).heap.size) := Nat.le_trans HB3.out.size hBa.size
          have HBa : Hid (Below w.heap.size w (wr.alloc (.cells #[.int .u8 (bits .xor .u8 0 54)] 5))) := HB3.out.trans (hBa.mono HB3.out.size)
          clear hBa
          go_wp2_with (first | (at_builtin; go_must (refine wpList_append_own_at _ rfl (.tmp 39) (.tmp 42) 22 rfl w.heap.size 5 i0 (.int .u8 0) 1 1 Tryd.underlying22 hi hz0 hz1 hz2 rfl (by decide) _ i (cellsU8 ((padL bs K 54).take i)) rfl HIa.out ⟨wr.heap.size, 0, none⟩ 1 1 [.int .u8 (bits .xor .u8 0 54)] rfl rfl (one_cell wr _ _) (one_one _) (by unfold maxLen; omega) (by omega) HSa.out ?_)))
          intro v4 w4 hown4 hgrow4 hnil4 hat4
          have HB4 : Hid (Below w.heap.size w w4) := HBa.out.grown hgrow4 HSa.out (fun q hq => (HIa.out.lt q hq).1)
          have HU4 : Hid (w4.ownsRow w.heap.size 5 1 (.slice a2 i c2) i (cellsU8 ((padL bs K 92).take i))) := owns_other HUa.out hgrow4 HA.out
          have HA4 : Hid (RowsApart v4 (.slice a2 i c2)) := apart_step HUa.out HA.out hat4 (by rw [size_alloc]; omega)
          have ho4 : w4.ownsRow w.heap.size 5 1 v4 (i + 1) (cellsU8 ((padL bs K 54).take (i + 1))) := by
            rw [List.take_add_one, padL_at bs K 54 i hlt, cellsU8_append, ← HX.out]
            exact hown4
          obtain ⟨a4, c4, rfl⟩ := owns_slice ho4
          have HI4 : Hid (w4.ownsRow w.heap.size 5 1 (.slice a4 (i + 1) c4) (i + 1) (cellsU8 ((padL bs K 54).take (i + 1)))) := ho4
          clear hown4 hgrow4 hnil4 hat4 ho4 HIa HUa HSa HBa HI HU HB3 HA
          have hBb : Below w4.heap.size w4 (w4.alloc (.cells #[.int .u8 (bits .xor .u8 0 92)] 5)) := (Below.refl _ _).alloc (Nat.le_refl _) _
          have HIb : Hid ((w4.alloc (.cells #[.int .u8 (bits .xor .u8 0 92)] 5)).ownsRow w.heap.size 5 1 (.slice a4 (i + 1) c4) (i + 1) (cellsU8 ((padL bs K 54).take (i + 1)))) := owns_kept HI4.out hBb
          have HUb : Hid ((w4.alloc (.cells #[.int .u8 (bits .xor .u8 0 92)] 5)).ownsRow w.heap.size 5 1 (.slice a2 i c2) i (cellsU8 ((padL bs K 92).take i))) := owns_kept HU4.out hBb
          have HSb : Hid (w.heap.size ≤ (w4.alloc (.cells #[.int .u8 (bits .xor .u8 0 92)] 5)).heap.size) := Nat.le_trans HB4.out.size hBb.size
          have HBb : Hid (Below w.heap.size w (w4.alloc (.cells #[.int .u8 (bits .xor .u8 0 92)] 5))) := HB4.out.trans (hBb.mono HB4.out.size)
          clear hBb
          go_wp2_with (first | (at_builtin; go_must (refine wpList_append_own_at _ rfl (.tmp 44) (.tmp 47) 22 rfl w.heap.size 5 i0 (.int .u8 0) 1 1 Tryd.underlying22 hi hz0 hz1 hz2 rfl (by decide) _ i (cellsU8 ((padL bs K 92).take i)) rfl HUb.out ⟨w4.heap.size, 0, none⟩ 1 1 [.int .u8 (bits .xor .u8 0 92)] rfl rfl (one_cell w4 _ _) (one_one _) (by unfold maxLen; omega) (by omega) HSb.out ?_)))
          intro v6 w6 hown6 hgrow6 hnil6 hat6
          have HB6 : Hid (Below w.heap.size w w6) := HBb.out.grown hgrow6 HSb.out (fun q hq => (HUb.out.lt q hq).1)
          have HI6 : Hid (w6.ownsRow w.heap.size 5 1 (.slice a4 (i + 1) c4) (i + 1) (cellsU8 ((padL bs K 54).take (i + 1)))) := owns_other HIb.out hgrow6 HA4.out.symm
          have HA6 : Hid (RowsApart (.slice a4 (i + 1) c4) v6) := (apart_step HIb.out HA4.out.symm hat6 (by first | exact Nat.le_refl _ | (rw [size_alloc]; omega))).symm
          have ho6 : w6.ownsRow w.heap.size 5 1 v6 (i + 1) (cellsU8 ((padL bs K 92).take (i + 1))) := by
            rw [List.take_add_one, padL_at bs K 92 i hlt, cellsU8_append, ← HX.out]
            exact hown6
          obtain ⟨a6, c6, rfl⟩ := owns_slice ho6
          have HU6 : Hid (w6.ownsRow w.heap.size 5 1 (.slice a6 (i + 1) c6) (i + 1) (cellsU8 ((padL bs K 92).take (i + 1)))) := ho6
          clear hown6 hgrow6 hnil6 hat6 ho6 HIb HUb HSb HBb HI4 HU4 HB4 HA4
          go_wp2
          go_roundw
          case rel => exact ⟨i + 1, c4, c6, a4, a6, by omega, by go_num, rfl, rfl, HI6, HU6, HA6, HB6⟩
          case measure => simp [intOf]; omega
      · obtain rfl : i = bs := by omega
        have HI3 : Hid (wr.ownsRow w.heap.size 5 1 (.slice a1 i c1) i (cellsU8 (padL i K 54))) := by
          have q := HI.out
          rw [List.take_of_length_le (by rw [padL_length]; exact Nat.le_refl _)] at q
          exact q
        have HU3 : Hid (wr.ownsRow w.heap.size 5 1 (.slice a2 i c2) i (cellsU8 (padL i K 92))) := by
          have q := HU.out
          rw [List.take_of_length_le (by rw [padL_length]; exact Nat.le_refl _)] at q
          exact q
        clear HI HU
        rcases view_cases (hb.out.kept fun b hb => HB3.out.block b hb) HZl.out with ⟨rfl, rfl, rfl, hYn⟩ | ⟨ad, rfl, hc⟩
        · have HZn : Hid (zs = []) := hYn
          clear hYn
          go_wp2_with (first | (at_builtin; go_must (refine wpList_append_own_none rfl (.tmp 49) (.tmp 50) 22 rfl w.heap.size 5 i0 1 Tryd.underlying22 hi _ i (cellsU8 (padL i K 54)) rfl HI3.out rfl ?_)))
          have HI7 : Hid (wr.ownsRow w.heap.size 5 1 (.slice a1 i c1) i (cellsU8 (padL i K 54 ++ zs))) := by
            rw [HZn.out, List.append_nil]
            exact HI3.out
          have HB07 : Hid (Below w.heap.size w wr) := HB3.out
          have HD : Hid (Calls Tryd.prog 41 #[.int .i64 h, .slice a1 i c1] wr fun e w' => Hid (∃ v', e = .returned v' ∧ w'.ownsRow wr.heap.size 5 1 v' (szOf h) (cellsU8 (sumD h (padL i K 54 ++ zs))) ∧ Below wr.heap.size wr w')) := rsum_ok k.out _ _ wr (hR.out.below HB07.out hR2) (viewOwns HI7.out (by rw [List.length_append, padL_length, HZl.out]; try rfl)) (by rw [List.length_append, padL_length, HZl.out]; omega)
          go_upto_region 19 with (go_at_call 41; refine HD.out.mono ?_)
          intro e8 w8 hh
          obtain ⟨v8, rfl, ho8, hb8⟩ := hh.out
          have hsp := szOf_pos k.out
          obtain ⟨g8, c8, rfl⟩ := owns_some ho8 (by omega)
          have HU8 : Hid (w8.ownsRow w.heap.size 5 1 (.slice a2 i c2) i (cellsU8 (padL i K 92))) := owns_kept HU3.out hb8
          have HO8 : Hid (w8.ownsRow wr.heap.size 5 1 (.slice (some ⟨g8, 0, none⟩) (szOf h) c8) (szOf h) (cellsU8 (sumD h (padL i K 54 ++ zs)))) := ho8
          have HC8 : Hid (∀ j u, (cellsU8 (sumD h (padL i K 54 ++ zs)))[j]? = some u → w8.cell? ((⟨g8, 0, none⟩ : Addr).add j) = some u) := fun j u hj => ho8.cells (g := g8) rfl j u hj
          have HB8 : Hid (Below w.heap.size w w8) := HB3.out.trans (hb8.mono HB3.out.size)
          have HL8 : Hid ((sumD h (padL i K 54 ++ zs)).length = szOf h) := sumD_length h k.out _
          clear hh ho8 hb8 HD HU3 HI7
          go_wp2_with (first | (at_builtin; go_must (refine wpList_append_own _ rfl (.tmp 55) (.tmp 56) 22 rfl w.heap.size 5 i0 (.int .u8 0) 1 1 Tryd.underlying22 hi hz0 hz1 hz2 rfl (by decide) _ i (cellsU8 (padL i K 92)) rfl HU8.out ⟨g8, 0, none⟩ (szOf h) c8 (cellsU8 (sumD h (padL i K 54 ++ zs))) rfl (by rw [cellsU8_length, HL8.out, Nat.mul_one]) HC8.out (cellsU8_one _) (by unfold maxLen; omega) (by omega) HB8.out.size ?_)))
          intro v9 w9 hown9 hgrow9 hnil9
          have HB9 : Hid (Below w.heap.size w w9) := HB8.out.grown hgrow9 HB8.out.size (fun q hq => (HU8.out.lt q hq).1)
          have HB09 : Hid (Below w.heap.size w w9) := HB9.out
          have HO9 : Hid (w9.ownsRow w.heap.size 5 1 v9 (i + szOf h) (cellsU8 (padL i K 92 ++ sumD h (padL i K 54 ++ zs)))) := by
            rw [cellsU8_append]
            exact hown9
          clear hown9 hgrow9 hnil9 HU8 HO8 HC8 HB8
          have HE : Hid (Calls Tryd.prog 41 #[.int .i64 h, v9] w9 fun e w' => Hid (∃ v', e = .returned v' ∧ w'.ownsRow w9.heap.size 5 1 v' (szOf h) (cellsU8 (sumD h (padL i K 92 ++ sumD h (padL i K 54 ++ zs)))) ∧ Below w9.heap.size w9 w')) := rsum_ok k.out _ _ w9 (hR.out.below HB09.out hR2) (viewOwns HO9.out (by rw [List.length_append, padL_length, HL8.out])) (by rw [List.length_append, padL_length, HL8.out]; omega)
          go_wp2_with (go_at_call 41; refine HE.out.mono ?_)
          intro e10 w10 hh
          obtain ⟨v10, rfl, ho10, hb10⟩ := hh.out
          have HO10 : Hid (w10.ownsRow w.heap.size 5 1 v10 (szOf h) (cellsU8 (hmac h key zs))) := by
            rw [hmac_eq, ← HBs.out, ← HKe.out]
            exact owns_base ho10 HB09.out.size
          have HB010 : Hid (Below w.heap.size w w10) := HB09.out.trans (hb10.mono HB09.out.size)
          clear hh ho10 hb10 HE HO9
          go_wp2
          go_ret
          exact ⟨_, rfl, HO10.out, HB010.out⟩
        · have HC : Hid (∀ j u, (cellsU8 zs)[j]? = some u → wr.cell? (ad.add j) = some u) := hc
          clear hc
          go_wp2_with (first | (at_builtin; go_must (refine wpList_append_own_at _ rfl (.tmp 49) (.tmp 50) 22 rfl w.heap.size 5 i0 (.int .u8 0) 1 1 Tryd.underlying22 hi hz0 hz1 hz2 rfl (by decide) _ i (cellsU8 (padL i K 54)) rfl HI3.out ad zn zc (cellsU8 zs) rfl (by rw [cellsU8_length, HZl.out, Nat.mul_one]) HC.out (cellsU8_one _) (by unfold maxLen; omega) (by omega) HB3.out.size ?_)))
          intro v7 w7 hown7 hgrow7 hnil7 hat7
          obtain ⟨a7, c7, rfl⟩ := owns_slice hown7
          have HB7 : Hid (Below w.heap.size w w7) := HB3.out.grown hgrow7 HB3.out.size (fun q hq => (HI3.out.lt q hq).1)
          have HB07 : Hid (Below w.heap.size w w7) := HB7.out
          have HU7 : Hid (w7.ownsRow w.heap.size 5 1 (.slice a2 i c2) i (cellsU8 (padL i K 92))) := owns_other HU3.out hgrow7 HA.out
          have HI7 : Hid (w7.ownsRow w.heap.size 5 1 (.slice a7 (i + zn) c7) (i + zn) (cellsU8 (padL i K 54 ++ zs))) := by
            rw [cellsU8_append]
            exact hown7
          clear hown7 hgrow7 hnil7 hat7 HC HI3 HU3 HA HB3
          have HD : Hid (Calls Tryd.prog 41 #[.int .i64 h, .slice a7 (i + zn) c7] w7 fun e w' => Hid (∃ v', e = .returned v' ∧ w'.ownsRow w7.heap.size 5 1 v' (szOf h) (cellsU8 (sumD h (padL i K 54 ++ zs))) ∧ Below w7.heap.size w7 w')) := rsum_ok k.out _ _ w7 (hR.out.below HB07.out hR2) (viewOwns HI7.out (by rw [List.length_append, padL_length, HZl.out]; try rfl)) (by rw [List.length_append, padL_length, HZl.out]; omega)
          go_upto_region 19 with (go_at_call 41; refine HD.out.mono ?_)
          intro e8 w8 hh
          obtain ⟨v8, rfl, ho8, hb8⟩ := hh.out
          have hsp := szOf_pos k.out
          obtain ⟨g8, c8, rfl⟩ := owns_some ho8 (by omega)
          have HU8 : Hid (w8.ownsRow w.heap.size 5 1 (.slice a2 i c2) i (cellsU8 (padL i K 92))) := owns_kept HU7.out hb8
          have HO8 : Hid (w8.ownsRow w7.heap.size 5 1 (.slice (some ⟨g8, 0, none⟩) (szOf h) c8) (szOf h) (cellsU8 (sumD h (padL i K 54 ++ zs)))) := ho8
          have HC8 : Hid (∀ j u, (cellsU8 (sumD h (padL i K 54 ++ zs)))[j]? = some u → w8.cell? ((⟨g8, 0, none⟩ : Addr).add j) = some u) := fun j u hj => ho8.cells (g := g8) rfl j u hj
          have HB8 : Hid (Below w.heap.size w w8) := HB7.out.trans (hb8.mono HB7.out.size)
          have HL8 : Hid ((sumD h (padL i K 54 ++ zs)).length = szOf h) := sumD_length h k.out _
          clear hh ho8 hb8 HD HU7 HI7
          go_wp2_with (first | (at_builtin; go_must (refine wpList_append_own _ rfl (.tmp 55) (.tmp 56) 22 rfl w.heap.size 5 i0 (.int .u8 0) 1 1 Tryd.underlying22 hi hz0 hz1 hz2 rfl (by decide) _ i (cellsU8 (padL i K 92)) rfl HU8.out ⟨g8, 0, none⟩ (szOf h) c8 (cellsU8 (sumD h (padL i K 54 ++ zs))) rfl (by rw [cellsU8_length, HL8.out, Nat.mul_one]) HC8.out (cellsU8_one _) (by unfold maxLen; omega) (by omega) HB8.out.size ?_)))
          intro v9 w9 hown9 hgrow9 hnil9
          have HB9 : Hid (Below w.heap.size w w9) := HB8.out.grown hgrow9 HB8.out.size (fun q hq => (HU8.out.lt q hq).1)
          have HB09 : Hid (Below w.heap.size w w9) := HB9.out
          have HO9 : Hid (w9.ownsRow w.heap.size 5 1 v9 (i + szOf h) (cellsU8 (padL i K 92 ++ sumD h (padL i K 54 ++ zs)))) := by
            rw [cellsU8_append]
            exact hown9
          clear hown9 hgrow9 hnil9 HU8 HO8 HC8 HB8
          have HE : Hid (Calls Tryd.prog 41 #[.int .i64 h, v9] w9 fun e w' => Hid (∃ v', e = .returned v' ∧ w'.ownsRow w9.heap.size 5 1 v' (szOf h) (cellsU8 (sumD h (padL i K 92 ++ sumD h (padL i K 54 ++ zs)))) ∧ Below w9.heap.size w9 w')) := rsum_ok k.out _ _ w9 (hR.out.below HB09.out hR2) (viewOwns HO9.out (by rw [List.length_append, padL_length, HL8.out])) (by rw [List.length_append, padL_length, HL8.out]; omega)
          go_wp2_with (go_at_call 41; refine HE.out.mono ?_)
          intro e10 w10 hh
          obtain ⟨v10, rfl, ho10, hb10⟩ := hh.out
          have HO10 : Hid (w10.ownsRow w.heap.size 5 1 v10 (szOf h) (cellsU8 (hmac h key zs))) := by
            rw [hmac_eq, ← HBs.out, ← HKe.out]
            exact owns_base ho10 HB09.out.size
          have HB010 : Hid (Below w.heap.size w w10) := HB09.out.trans (hb10.mono HB09.out.size)
          clear hh ho10 hb10 HE HO9
          go_wp2
          go_ret
          exact ⟨_, rfl, HO10.out, HB010.out⟩
  · obtain ⟨K, HKe⟩ : ∃ K, Hid (K = keyOf h key) := ⟨_, rfl⟩
    have HKk : Hid (K = sumD h key) := by show _ = _; rw [HKe.out]; exact keyOf_long (by rw [hkn.out, ← HBs.out]; exact hlong)
    have d2 : ((bs : Nat) : Int) < (kn : Nat) := by omega
    have HS1 : Hid (Calls Tryd.prog 41 #[.int .i64 h, .slice ka0 kn kc0] w fun e w' => Hid (∃ v', e = .returned v' ∧ w'.ownsRow w.heap.size 5 1 v' (szOf h) (cellsU8 (sumD h key)) ∧ Below w.heap.size w w')) := rsum_ok k.out _ _ w hR.out hk.out (by rw [hkn.out]; exact hkl0)
    go_upto_region 7 with (first | (go_at_call 40; refine (HBk.out _).mono ?_; rintro e1 wx ⟨rfl, hwx⟩; obtain rfl := hwx.symm) | (go_at_call 41; refine HS1.out.mono ?_))
    intro e1 w1 hh
    obtain ⟨v1, rfl, ho1, hb1⟩ := hh.out
    obtain ⟨ka, kc, rfl⟩ := owns_slice ho1
    have hsz := szOf_pos k.out
    obtain ⟨kl, hkl⟩ : ∃ kl, kl = szOf h := ⟨_, rfl⟩
    rw [← hkl] at ho1 hsz ⊢
    have HK : Hid (View w1 (.slice ka kl kc) K) := by rw [HKk.out]; exact viewOwns ho1 (by rw [hkl]; exact sumD_length h k.out _)
    have HKl : Hid (K.length = kl) := by rw [HKk.out, hkl]; exact sumD_length h k.out _
    have HB1 : Hid (Below w.heap.size w w1) := hb1
    clear hh ho1 hb1 hkl HS1 d0 d2
    go_wp2
    go_loopw [9, 10, 11] (fun v9 v10 vi wr => ∃ i c1 c2 : Nat, ∃ a1 a2 : Option Addr, i ≤ bs ∧ vi = .int .i64 i ∧ v9 = .slice a1 i c1 ∧ v10 = .slice a2 i c2 ∧ Hid (wr.ownsRow w1.heap.size 5 1 (.slice a1 i c1) i (cellsU8 ((padL bs K 54).take i))) ∧ Hid (wr.ownsRow w1.heap.size 5 1 (.slice a2 i c2) i (cellsU8 ((padL bs K 92).take i))) ∧ Hid (RowsApart (.slice a1 i c1) (.slice a2 i c2)) ∧ Hid (Below w1.heap.size w1 wr)) (fun _ _ vi _ => bs - (intOf vi).toNat)
    case atStart => exact ⟨0, 0, 0, none, none, by omega, rfl, rfl, rfl, World.ownsRow_nil _ _ _ _, World.ownsRow_nil _ _ _ _, (fun b hb => by cases hb), Below.refl _ _⟩
    case round =>
      obtain ⟨i, c1, c2, a1, a2, hle, rfl, rfl, rfl, HI, HU, HA, HB3⟩ := hrel
      by_cases hlt : i < bs
      · by_cases hik : i < kl
        · obtain ⟨b, o, hab, hcb⟩ := view_block HK.out HKl.out (by omega)
          subst hab
          obtain ⟨x, HX⟩ : ∃ x, Hid (x = fnz K i) := ⟨_, rfl⟩
          have f0 : wr.cell? ⟨b, o + i, none⟩ = some (.int .u8 x) := by
            rw [HB3.out.cell (p := ⟨b, o + i, none⟩) (lt_of_cell (hcb i hik)), HX.out]
            exact hcb i hik
          clear hcb
          have hBa : Below wr.heap.size wr (wr.alloc (.cells #[.int .u8 (bits .xor .u8 x 54)] 5)) := (Below.refl _ _).alloc (Nat.le_refl _) _
          have HIa : Hid ((wr.alloc (.cells #[.int .u8 (bits .xor .u8 x 54)] 5)).ownsRow w1.heap.size 5 1 (.slice a1 i c1) i (cellsU8 ((padL bs K 54).take i))) := owns_kept HI.out hBa
          have HUa : Hid ((wr.alloc (.cells #[.int .u8 (bits .xor .u8 x 54)] 5)).ownsRow w1.heap.size 5 1 (.slice a2 i c2) i (cellsU8 ((padL bs K 92).take i))) := owns_kept HU.out hBa
          have HSa : Hid (w1.heap.size ≤ (wr.alloc (.cells #[.int .u8 (bits .xor .u8 x 54)] 5)).heap.size) := Nat.le_trans HB3.out.size hBa.size
          have HBa : Hid (Below w1.heap.size w1 (wr.alloc (.cells #[.int .u8 (bits .xor .u8 x 54)] 5))) := HB3.out.trans (hBa.mono HB3.out.size)
          clear hBa
          go_wp2_with (first | (at_builtin; go_must (refine wpList_append_own_at _ rfl (.tmp 39) (.tmp 42) 22 rfl w1.heap.size 5 i0 (.int .u8 0) 1 1 Tryd.underlying22 hi hz0 hz1 hz2 rfl (by decide) _ i (cellsU8 ((padL bs K 54).take i)) rfl HIa.out ⟨wr.heap.size, 0, none⟩ 1 1 [.int .u8 (bits .xor .u8 x 54)] rfl rfl (one_cell wr _ _) (one_one _) (by unfold maxLen; omega) (by omega) HSa.out ?_)))
          intro v4 w4 hown4 hgrow4 hnil4 hat4
          have HB4 : Hid (Below w1.heap.size w1 w4) := HBa.out.grown hgrow4 HSa.out (fun q hq => (HIa.out.lt q hq).1)
          have HU4 : Hid (w4.ownsRow w1.heap.size 5 1 (.slice a2 i c2) i (cellsU8 ((padL bs K 92).take i))) := owns_other HUa.out hgrow4 HA.out
          have HA4 : Hid (RowsApart v4 (.slice a2 i c2)) := apart_step HUa.out HA.out hat4 (by rw [size_alloc]; omega)
          have ho4 : w4.ownsRow w1.heap.size 5 1 v4 (i + 1) (cellsU8 ((padL bs K 54).take (i + 1))) := by
            rw [List.take_add_one, padL_at bs K 54 i hlt, cellsU8_append, ← HX.out]
            exact hown4
          obtain ⟨a4, c4, rfl⟩ := owns_slice ho4
          have HI4 : Hid (w4.ownsRow w1.heap.size 5 1 (.slice a4 (i + 1) c4) (i + 1) (cellsU8 ((padL bs K 54).take (i + 1)))) := ho4
          clear hown4 hgrow4 hnil4 hat4 ho4 HIa HUa HSa HBa HI HU HB3 HA
          have hBb : Below w4.heap.size w4 (w4.alloc (.cells #[.int .u8 (bits .xor .u8 x 92)] 5)) := (Below.refl _ _).alloc (Nat.le_refl _) _
          have HIb : Hid ((w4.alloc (.cells #[.int .u8 (bits .xor .u8 x 92)] 5)).ownsRow w1.heap.size 5 1 (.slice a4 (i + 1) c4) (i + 1) (cellsU8 ((padL bs K 54).take (i + 1)))) := owns_kept HI4.out hBb
          have HUb : Hid ((w4.alloc (.cells #[.int .u8 (bits .xor .u8 x 92)] 5)).ownsRow w1.heap.size 5 1 (.slice a2 i c2) i (cellsU8 ((padL bs K 92).take i))) := owns_kept HU4.out hBb
          have HSb : Hid (w1.heap.size ≤ (w4.alloc (.cells #[.int .u8 (bits .xor .u8 x 92)] 5)).heap.size) := Nat.le_trans HB4.out.size hBb.size
          have HBb : Hid (Below w1.heap.size w1 (w4.alloc (.cells #[.int .u8 (bits .xor .u8 x 92)] 5))) := HB4.out.trans (hBb.mono HB4.out.size)
          clear hBb
          go_wp2_with (first | (at_builtin; go_must (refine wpList_append_own_at _ rfl (.tmp 44) (.tmp 47) 22 rfl w1.heap.size 5 i0 (.int .u8 0) 1 1 Tryd.underlying22 hi hz0 hz1 hz2 rfl (by decide) _ i (cellsU8 ((padL bs K 92).take i)) rfl HUb.out ⟨w4.heap.size, 0, none⟩ 1 1 [.int .u8 (bits .xor .u8 x 92)] rfl rfl (one_cell w4 _ _) (one_one _) (by unfold maxLen; omega) (by omega) HSb.out ?_)))
          intro v6 w6 hown6 hgrow6 hnil6 hat6
          have HB6 : Hid (Below w1.heap.size w1 w6) := HBb.out.grown hgrow6 HSb.out (fun q hq => (HUb.out.lt q hq).1)
          have HI6 : Hid (w6.ownsRow w1.heap.size 5 1 (.slice a4 (i + 1) c4) (i + 1) (cellsU8 ((padL bs K 54).take (i + 1)))) := owns_other HIb.out hgrow6 HA4.out.symm
          have HA6 : Hid (RowsApart (.slice a4 (i + 1) c4) v6) := (apart_step HIb.out HA4.out.symm hat6 (by first | exact Nat.le_refl _ | (rw [size_alloc]; omega))).symm
          have ho6 : w6.ownsRow w1.heap.size 5 1 v6 (i + 1) (cellsU8 ((padL bs K 92).take (i + 1))) := by
            rw [List.take_add_one, padL_at bs K 92 i hlt, cellsU8_append, ← HX.out]
            exact hown6
          obtain ⟨a6, c6, rfl⟩ := owns_slice ho6
          have HU6 : Hid (w6.ownsRow w1.heap.size 5 1 (.slice a6 (i + 1) c6) (i + 1) (cellsU8 ((padL bs K 92).take (i + 1)))) := ho6
          clear hown6 hgrow6 hnil6 hat6 ho6 HIb HUb HSb HBb HI4 HU4 HB4 HA4
          go_wp2
          go_roundw
          case rel => exact ⟨i + 1, c4, c6, a4, a6, by omega, by go_num, rfl, rfl, HI6, HU6, HA6, HB6⟩
          case measure => simp [intOf]; omega
        · have HX : Hid ((0 : Int) = fnz K i) := by
            show _ = _
            rw [fnz, List.getD_eq_getElem?_getD, List.getElem?_eq_none (by rw [HKl.out]; omega)]
            rfl
          have d1 : ¬ ((i : Nat) : Int) < (kl : Nat) := by omega
          have hBa : Below wr.heap.size wr (wr.alloc (.cells #[.int .u8 (bits .xor .u8 0 54)] 5)) := (Below.refl _ _).alloc (Nat.le_refl _) _
          have HIa : Hid ((wr.alloc (.cells #[.int .u8 (bits .xor .u8 0 54)] 5)).ownsRow w1.heap.size 5 1 (.slice a1 i c1) i (cellsU8 ((padL bs K 54).take i))) := owns_kept HI.out hBa
          have HUa : Hid ((wr.alloc (.cells #[.int .u8 (bits .xor .u8 0 54)] 5)).ownsRow w1.heap.size 5 1 (.slice a2 i c2) i (cellsU8 ((padL bs K 92).take i))) := owns_kept HU.out hBa
          have HSa : Hid (w1.heap.size ≤ (wr.alloc (.cells #[.int .u8 (bits .xor .u8 0 54)] 5)).heap.size) := Nat.le_trans HB3.out.size hBa.size
          have HBa : Hid (Below w1.heap.size w1 (wr.alloc (.cells #[.int .u8 (bits .xor .u8 0 54)] 5))) := HB3.out.trans (hBa.mono HB3.out.size)
          clear hBa
          go_wp2_with (first | (at_builtin; go_must (refine wpList_append_own_at _ rfl (.tmp 39) (.tmp 42) 22 rfl w1.heap.size 5 i0 (.int .u8 0) 1 1 Tryd.underlying22 hi hz0 hz1 hz2 rfl (by decide) _ i (cellsU8 ((padL bs K 54).take i)) rfl HIa.out ⟨wr.heap.size, 0, none⟩ 1 1 [.int .u8 (bits .xor .u8 0 54)] rfl rfl (one_cell wr _ _) (one_one _) (by unfold maxLen; omega) (by omega) HSa.out ?_)))
          intro v4 w4 hown4 hgrow4 hnil4 hat4
          have HB4 : Hid (Below w1.heap.size w1 w4) := HBa.out.grown hgrow4 HSa.out (fun q hq => (HIa.out.lt q hq).1)
          have HU4 : Hid (w4.ownsRow w1.heap.size 5 1 (.slice a2 i c2) i (cellsU8 ((padL bs K 92).take i))) := owns_other HUa.out hgrow4 HA.out
          have HA4 : Hid (RowsApart v4 (.slice a2 i c2)) := apart_step HUa.out HA.out hat4 (by rw [size_alloc]; omega)
          have ho4 : w4.ownsRow w1.heap.size 5 1 v4 (i + 1) (cellsU8 ((padL bs K 54).take (i + 1))) := by
            rw [List.take_add_one, padL_at bs K 54 i hlt, cellsU8_append, ← HX.out]
            exact hown4
          obtain ⟨a4, c4, rfl⟩ := owns_slice ho4
          have HI4 : Hid (w4.ownsRow w1.heap.size 5 1 (.slice a4 (i + 1) c4) (i + 1) (cellsU8 ((padL bs K 54).take (i + 1)))) := ho4
          clear hown4 hgrow4 hnil4 hat4 ho4 HIa HUa HSa HBa HI HU HB3 HA
          have hBb : Below w4.heap.size w4 (w4.alloc (.cells #[.int .u8 (bits .xor .u8 0 92)] 5)) := (Below.refl _ _).alloc (Nat.le_refl _) _
          have HIb : Hid ((w4.alloc (.cells #[.int .u8 (bits .xor .u8 0 92)] 5)).ownsRow w1.heap.size 5 1 (.slice a4 (i + 1) c4) (i + 1) (cellsU8 ((padL bs K 54).take (i + 1)))) := owns_kept HI4.out hBb
          have HUb : Hid ((w4.alloc (.cells #[.int .u8 (bits .xor .u8 0 92)] 5)).ownsRow w1.heap.size 5 1 (.slice a2 i c2) i (cellsU8 ((padL bs K 92).take i))) := owns_kept HU4.out hBb
          have HSb : Hid (w1.heap.size ≤ (w4.alloc (.cells #[.int .u8 (bits .xor .u8 0 92)] 5)).heap.size) := Nat.le_trans HB4.out.size hBb.size
          have HBb : Hid (Below w1.heap.size w1 (w4.alloc (.cells #[.int .u8 (bits .xor .u8 0 92)] 5))) := HB4.out.trans (hBb.mono HB4.out.size)
          clear hBb
          go_wp2_with (first | (at_builtin; go_must (refine wpList_append_own_at _ rfl (.tmp 44) (.tmp 47) 22 rfl w1.heap.size 5 i0 (.int .u8 0) 1 1 Tryd.underlying22 hi hz0 hz1 hz2 rfl (by decide) _ i (cellsU8 ((padL bs K 92).take i)) rfl HUb.out ⟨w4.heap.size, 0, none⟩ 1 1 [.int .u8 (bits .xor .u8 0 92)] rfl rfl (one_cell w4 _ _) (one_one _) (by unfold maxLen; omega) (by omega) HSb.out ?_)))
          intro v6 w6 hown6 hgrow6 hnil6 hat6
          have HB6 : Hid (Below w1.heap.size w1 w6) := HBb.out.grown hgrow6 HSb.out (fun q hq => (HUb.out.lt q hq).1)
          have HI6 : Hid (w6.ownsRow w1.heap.size 5 1 (.slice a4 (i + 1) c4) (i + 1) (cellsU8 ((padL bs K 54).take (i + 1)))) := owns_other HIb.out hgrow6 HA4.out.symm
          have HA6 : Hid (RowsApart (.slice a4 (i + 1) c4) v6) := (apart_step HIb.out HA4.out.symm hat6 (by first | exact Nat.le_refl _ | (rw [size_alloc]; omega))).symm
          have ho6 : w6.ownsRow w1.heap.size 5 1 v6 (i + 1) (cellsU8 ((padL bs K 92).take (i + 1))) := by
            rw [List.take_add_one, padL_at bs K 92 i hlt, cellsU8_append, ← HX.out]
            exact hown6
          obtain ⟨a6, c6, rfl⟩ := owns_slice ho6
          have HU6 : Hid (w6.ownsRow w1.heap.size 5 1 (.slice a6 (i + 1) c6) (i + 1) (cellsU8 ((padL bs K 92).take (i + 1)))) := ho6
          clear hown6 hgrow6 hnil6 hat6 ho6 HIb HUb HSb HBb HI4 HU4 HB4 HA4
          go_wp2
          go_roundw
          case rel => exact ⟨i + 1, c4, c6, a4, a6, by omega, by go_num, rfl, rfl, HI6, HU6, HA6, HB6⟩
          case measure => simp [intOf]; omega
      · obtain rfl : i = bs := by omega
        have HI3 : Hid (wr.ownsRow w1.heap.size 5 1 (.slice a1 i c1) i (cellsU8 (padL i K 54))) := by
          have q := HI.out
          rw [List.take_of_length_le (by rw [padL_length]; exact Nat.le_refl _)] at q
          exact q
        have HU3 : Hid (wr.ownsRow w1.heap.size 5 1 (.slice a2 i c2) i (cellsU8 (padL i K 92))) := by
          have q := HU.out
          rw [List.take_of_length_le (by rw [padL_length]; exact Nat.le_refl _)] at q
          exact q
        clear HI HU
        rcases view_cases (hb.out.kept fun b hb => (HB1.out.trans (HB3.out.mono HB1.out.size)).block b hb) HZl.out with ⟨rfl, rfl, rfl, hYn⟩ | ⟨ad, rfl, hc⟩
        · have HZn : Hid (zs = []) := hYn
          clear hYn
          go_wp2_with (first | (at_builtin; go_must (refine wpList_append_own_none rfl (.tmp 49) (.tmp 50) 22 rfl w1.heap.size 5 i0 1 Tryd.underlying22 hi _ i (cellsU8 (padL i K 54)) rfl HI3.out rfl ?_)))
          have HI7 : Hid (wr.ownsRow w1.heap.size 5 1 (.slice a1 i c1) i (cellsU8 (padL i K 54 ++ zs))) := by
            rw [HZn.out, List.append_nil]
            exact HI3.out
          have HB07 : Hid (Below w.heap.size w wr) := HB1.out.trans (HB3.out.mono HB1.out.size)
          have HD : Hid (Calls Tryd.prog 41 #[.int .i64 h, .slice a1 i c1] wr fun e w' => Hid (∃ v', e = .returned v' ∧ w'.ownsRow wr.heap.size 5 1 v' (szOf h) (cellsU8 (sumD h (padL i K 54 ++ zs))) ∧ Below wr.heap.size wr w')) := rsum_ok k.out _ _ wr (hR.out.below HB07.out hR2) (viewOwns HI7.out (by rw [List.length_append, padL_length, HZl.out]; try rfl)) (by rw [List.length_append, padL_length, HZl.out]; omega)
          go_upto_region 19 with (go_at_call 41; refine HD.out.mono ?_)
          intro e8 w8 hh
          obtain ⟨v8, rfl, ho8, hb8⟩ := hh.out
          have hsp := szOf_pos k.out
          obtain ⟨g8, c8, rfl⟩ := owns_some ho8 (by omega)
          have HU8 : Hid (w8.ownsRow w1.heap.size 5 1 (.slice a2 i c2) i (cellsU8 (padL i K 92))) := owns_kept HU3.out hb8
          have HO8 : Hid (w8.ownsRow wr.heap.size 5 1 (.slice (some ⟨g8, 0, none⟩) (szOf h) c8) (szOf h) (cellsU8 (sumD h (padL i K 54 ++ zs)))) := ho8
          have HC8 : Hid (∀ j u, (cellsU8 (sumD h (padL i K 54 ++ zs)))[j]? = some u → w8.cell? ((⟨g8, 0, none⟩ : Addr).add j) = some u) := fun j u hj => ho8.cells (g := g8) rfl j u hj
          have HB8 : Hid (Below w1.heap.size w1 w8) := HB3.out.trans (hb8.mono HB3.out.size)
          have HL8 : Hid ((sumD h (padL i K 54 ++ zs)).length = szOf h) := sumD_length h k.out _
          clear hh ho8 hb8 HD HU3 HI7
          go_wp2_with (first | (at_builtin; go_must (refine wpList_append_own _ rfl (.tmp 55) (.tmp 56) 22 rfl w1.heap.size 5 i0 (.int .u8 0) 1 1 Tryd.underlying22 hi hz0 hz1 hz2 rfl (by decide) _ i (cellsU8 (padL i K 92)) rfl HU8.out ⟨g8, 0, none⟩ (szOf h) c8 (cellsU8 (sumD h (padL i K 54 ++ zs))) rfl (by rw [cellsU8_length, HL8.out, Nat.mul_one]) HC8.out (cellsU8_one _) (by unfold maxLen; omega) (by omega) HB8.out.size ?_)))
          intro v9 w9 hown9 hgrow9 hnil9
          have HB9 : Hid (Below w1.heap.size w1 w9) := HB8.out.grown hgrow9 HB8.out.size (fun q hq => (HU8.out.lt q hq).1)
          have HB09 : Hid (Below w.heap.size w w9) := HB1.out.trans (HB9.out.mono HB1.out.size)
          have HO9 : Hid (w9.ownsRow w1.heap.size 5 1 v9 (i + szOf h) (cellsU8 (padL i K 92 ++ sumD h (padL i K 54 ++ zs)))) := by
            rw [cellsU8_append]
            exact hown9
          clear hown9 hgrow9 hnil9 HU8 HO8 HC8 HB8
          have HE : Hid (Calls Tryd.prog 41 #[.int .i64 h, v9] w9 fun e w' => Hid (∃ v', e = .returned v' ∧ w'.ownsRow w9.heap.size 5 1 v' (szOf h) (cellsU8 (sumD h (padL i K 92 ++ sumD h (padL i K 54 ++ zs)))) ∧ Below w9.heap.size w9 w')) := rsum_ok k.out _ _ w9 (hR.out.below HB09.out hR2) (viewOwns HO9.out (by rw [List.length_append, padL_length, HL8.out])) (by rw [List.length_append, padL_length, HL8.out]; omega)
          go_wp2_with (go_at_call 41; refine HE.out.mono ?_)
          intro e10 w10 hh
          obtain ⟨v10, rfl, ho10, hb10⟩ := hh.out
          have HO10 : Hid (w10.ownsRow w.heap.size 5 1 v10 (szOf h) (cellsU8 (hmac h key zs))) := by
            rw [hmac_eq, ← HBs.out, ← HKe.out]
            exact owns_base ho10 HB09.out.size
          have HB010 : Hid (Below w.heap.size w w10) := HB09.out.trans (hb10.mono HB09.out.size)
          clear hh ho10 hb10 HE HO9
          go_wp2
          go_ret
          exact ⟨_, rfl, HO10.out, HB010.out⟩
        · have HC : Hid (∀ j u, (cellsU8 zs)[j]? = some u → wr.cell? (ad.add j) = some u) := hc
          clear hc
          go_wp2_with (first | (at_builtin; go_must (refine wpList_append_own_at _ rfl (.tmp 49) (.tmp 50) 22 rfl w1.heap.size 5 i0 (.int .u8 0) 1 1 Tryd.underlying22 hi hz0 hz1 hz2 rfl (by decide) _ i (cellsU8 (padL i K 54)) rfl HI3.out ad zn zc (cellsU8 zs) rfl (by rw [cellsU8_length, HZl.out, Nat.mul_one]) HC.out (cellsU8_one _) (by unfold maxLen; omega) (by omega) HB3.out.size ?_)))
          intro v7 w7 hown7 hgrow7 hnil7 hat7
          obtain ⟨a7, c7, rfl⟩ := owns_slice hown7
          have HB7 : Hid (Below w1.heap.size w1 w7) := HB3.out.grown hgrow7 HB3.out.size (fun q hq => (HI3.out.lt q hq).1)
          have HB07 : Hid (Below w.heap.size w w7) := HB1.out.trans (HB7.out.mono HB1.out.size)
          have HU7 : Hid (w7.ownsRow w1.heap.size 5 1 (.slice a2 i c2) i (cellsU8 (padL i K 92))) := owns_other HU3.out hgrow7 HA.out
          have HI7 : Hid (w7.ownsRow w1.heap.size 5 1 (.slice a7 (i + zn) c7) (i + zn) (cellsU8 (padL i K 54 ++ zs))) := by
            rw [cellsU8_append]
            exact hown7
          clear hown7 hgrow7 hnil7 hat7 HC HI3 HU3 HA HB3
          have HD : Hid (Calls Tryd.prog 41 #[.int .i64 h, .slice a7 (i + zn) c7] w7 fun e w' => Hid (∃ v', e = .returned v' ∧ w'.ownsRow w7.heap.size 5 1 v' (szOf h) (cellsU8 (sumD h (padL i K 54 ++ zs))) ∧ Below w7.heap.size w7 w')) := rsum_ok k.out _ _ w7 (hR.out.below HB07.out hR2) (viewOwns HI7.out (by rw [List.length_append, padL_length, HZl.out]; try rfl)) (by rw [List.length_append, padL_length, HZl.out]; omega)
          go_upto_region 19 with (go_at_call 41; refine HD.out.mono ?_)
          intro e8 w8 hh
          obtain ⟨v8, rfl, ho8, hb8⟩ := hh.out
          have hsp := szOf_pos k.out
          obtain ⟨g8, c8, rfl⟩ := owns_some ho8 (by omega)
          have HU8 : Hid (w8.ownsRow w1.heap.size 5 1 (.slice a2 i c2) i (cellsU8 (padL i K 92))) := owns_kept HU7.out hb8
          have HO8 : Hid (w8.ownsRow w7.heap.size 5 1 (.slice (some ⟨g8, 0, none⟩) (szOf h) c8) (szOf h) (cellsU8 (sumD h (padL i K 54 ++ zs)))) := ho8
          have HC8 : Hid (∀ j u, (cellsU8 (sumD h (padL i K 54 ++ zs)))[j]? = some u → w8.cell? ((⟨g8, 0, none⟩ : Addr).add j) = some u) := fun j u hj => ho8.cells (g := g8) rfl j u hj
          have HB8 : Hid (Below w1.heap.size w1 w8) := HB7.out.trans (hb8.mono HB7.out.size)
          have HL8 : Hid ((sumD h (padL i K 54 ++ zs)).length = szOf h) := sumD_length h k.out _
          clear hh ho8 hb8 HD HU7 HI7
          go_wp2_with (first | (at_builtin; go_must (refine wpList_append_own _ rfl (.tmp 55) (.tmp 56) 22 rfl w1.heap.size 5 i0 (.int .u8 0) 1 1 Tryd.underlying22 hi hz0 hz1 hz2 rfl (by decide) _ i (cellsU8 (padL i K 92)) rfl HU8.out ⟨g8, 0, none⟩ (szOf h) c8 (cellsU8 (sumD h (padL i K 54 ++ zs))) rfl (by rw [cellsU8_length, HL8.out, Nat.mul_one]) HC8.out (cellsU8_one _) (by unfold maxLen; omega) (by omega) HB8.out.size ?_)))
          intro v9 w9 hown9 hgrow9 hnil9
          have HB9 : Hid (Below w1.heap.size w1 w9) := HB8.out.grown hgrow9 HB8.out.size (fun q hq => (HU8.out.lt q hq).1)
          have HB09 : Hid (Below w.heap.size w w9) := HB1.out.trans (HB9.out.mono HB1.out.size)
          have HO9 : Hid (w9.ownsRow w1.heap.size 5 1 v9 (i + szOf h) (cellsU8 (padL i K 92 ++ sumD h (padL i K 54 ++ zs)))) := by
            rw [cellsU8_append]
            exact hown9
          clear hown9 hgrow9 hnil9 HU8 HO8 HC8 HB8
          have HE : Hid (Calls Tryd.prog 41 #[.int .i64 h, v9] w9 fun e w' => Hid (∃ v', e = .returned v' ∧ w'.ownsRow w9.heap.size 5 1 v' (szOf h) (cellsU8 (sumD h (padL i K 92 ++ sumD h (padL i K 54 ++ zs)))) ∧ Below w9.heap.size w9 w')) := rsum_ok k.out _ _ w9 (hR.out.below HB09.out hR2) (viewOwns HO9.out (by rw [List.length_append, padL_length, HL8.out])) (by rw [List.length_append, padL_length, HL8.out]; omega)
          go_wp2_with (go_at_call 41; refine HE.out.mono ?_)
          intro e10 w10 hh
          obtain ⟨v10, rfl, ho10, hb10⟩ := hh.out
          have HO10 : Hid (w10.ownsRow w.heap.size 5 1 v10 (szOf h) (cellsU8 (hmac h key zs))) := by
            rw [hmac_eq, ← HBs.out, ← HKe.out]
            exact owns_base ho10 HB09.out.size
          have HB010 : Hid (Below w.heap.size w w10) := HB09.out.trans (hb10.mono HB09.out.size)
          clear hh ho10 hb10 HE HO9
          go_wp2
          go_ret
          exact ⟨_, rfl, HO10.out, HB010.out⟩
end Go.Proofs.YtioggmjocelolacDoor
namespace Go.Proofs.YtioggmjocelolacDoor
open Go.RowKit
set_option linter.unusedVariables false
set_option linter.unusedSimpArgs false
theorem ownsRow_base' {w : World} {B B' e s n : Nat} {v : Value} {cs : List Value} (h : w.ownsRow B e s v n cs) (hB : B' ≤ B) : w.ownsRow B' e s v n cs := by
  obtain ⟨h1, h2⟩ := h
  refine ⟨h1, ?_⟩
  rcases h2 with h2 | ⟨g, c, cur, e, q1, q⟩
  · exact .inl h2
  · exact .inr ⟨g, c, cur, e, Nat.le_trans hB q1, q⟩
theorem Tryd.info22 : (Tryd.prog.info? 22).map (fun i => (i.zero, i.size, i.bytes)) = some (some (.slice none 0 0), 1, 24) := by kernel_rfl
theorem owns_off {w w' : World} {B B2 n m s : Nat} {v r : Value} {xs rs : List Value} (h : w.ownsRow B 5 1 v n xs) (hr : w.ownsRow B2 22 s r m rs) (hg : w.grownBy w' r.ownBlock) : w'.ownsRow B 5 1 v n xs := by
  obtain ⟨h1, h2⟩ := h
  refine ⟨h1, ?_⟩
  rcases h2 with h2 | ⟨g, c, cur, e, q1, q2, q⟩
  · exact .inl h2
  · refine .inr ⟨g, c, cur, e, q1, ?_, q⟩
    rw [hg.block g (Array.getElem?_eq_some_iff.1 q2).1 (fun e2 => ?_)]
    · exact q2
    · rcases hr.2 with ⟨hrn, _⟩ | ⟨g', c', cur', er, _, p2, _⟩
      · rw [hrn] at e2
        cases e2
      · rw [er] at e2
        injection e2 with e2
        subst e2
        rw [q2] at p2
        injection p2 with p2
        injection p2 with p3 p4
        cases p4
theorem Marked.off {w w' : World} {B B2 m s : Nat} {v r : Value} {zs : List Int} {rs : List Value} (h : Marked B w v zs) (hr : w.ownsRow B2 22 s r m rs) (hg : w.grownBy w' r.ownBlock) : Marked B w' v zs := by
  obtain ⟨g, c, e, ho⟩ := h
  exact ⟨g, c, e, owns_off ho hr hg⟩
/-- The copies so far. -/
def Lent (B : Nat) (w : World) (vs : List Value) (yss : List (List Int)) : Prop := ∀ i x, vs[i]? = some x → Marked B w x (yss.getD i [])
set_option maxHeartbeats 1600000 in
set_option maxRecDepth 100000 in
theorem lent_ok (a : Option Addr) (n c : Nat) (xs : List Value) (yss : List (List Int)) (w : World) (hP : Hid (PV w (.slice a n c) xs yss)) (hxn : Hid (xs.length = n)) (hs : Hid (yss.flatten.length ≤ 1048576)) (hn : n ≤ 1048576) :
    Calls Tryd.prog 23 #[.slice a n c] w fun e w' => Hid (∃ v', e = .returned v' ∧ ∃ vs, vs.length = n ∧ w'.ownsRow w.heap.size 22 1 v' n vs ∧ Lent w.heap.size w' vs yss ∧ Below w.heap.size w w') := by
  obtain ⟨i0, hi, hz0, hz1, hz2⟩ := info_parts Tryd.info22
  have hyn : Hid (yss.length = n) := by
    obtain ⟨_, _, _, _, _, h3, _⟩ := hP.out
    show _ = _
    rw [← h3, hxn.out]
  go_enter Tryd.func23, Tryd.ntmps23
  go_wp2
  go_loopw [3, 4] (fun v vi wr => ∃ i : Nat, ∃ vs : List Value, i ≤ n ∧ vi = .int .i64 i ∧ Hid (vs.length = i) ∧ Hid (wr.ownsRow w.heap.size 22 1 v i vs) ∧ Hid (Lent w.heap.size wr vs yss) ∧ Hid (Below w.heap.size w wr)) (fun _ vi _ => n - (intOf vi).toNat)
  case atStart => exact ⟨0, [], by omega, rfl, rfl, World.ownsRow_nil _ _ _ _, fun i x hx => by simp at hx, Below.refl _ _⟩
  case round =>
    obtain ⟨i, vs, hin, rfl, HVL, HO3, HLn, HB3⟩ := hrel
    by_cases hlt : i < n
    · have hii : i < xs.length := by rw [hxn.out]; exact hlt
      obtain ⟨x, hx⟩ : ∃ x, xs[i]? = some x := ⟨_, List.getElem?_eq_getElem hii⟩
      obtain ⟨b, p, hab⟩ : ∃ b p, a = some ⟨b, p, none⟩ := by
        obtain ⟨a', c', e, h1, h2, h3, h4, h5⟩ := hP.out
        injection e with e1 e2 e3
        rcases h5 with h5 | ⟨b, p, e5, _⟩
        · rw [h5] at hii; simp at hii
        · exact ⟨b, p, by rw [e1, e5]⟩
      subst hab
      have hcell : w.cell? ⟨b, p + i, none⟩ = some x ∧ View w x (yss.getD i []) := by
        obtain ⟨a', c', e, h1, h2, h3, h4, h5⟩ := hP.out
        injection e with e1 e2 e3
        rcases h5 with h5 | ⟨b', p', e5, h6⟩
        · rw [h5] at hii; simp at hii
        · rw [e5] at e1
          injection e1 with e1
          injection e1 with e6 e7
          subst e6 e7
          exact ⟨h6 i x hx, h4 i x hx⟩
      have hYl : (yss.getD i []).length ≤ 1048576 := by
        have h1 := sum_le yss (i + 1)
        rw [flat_step yss i (by rw [hyn.out]; exact hlt), List.length_append] at h1
        have h3 := hs.out
        omega
      have f0 : wr.cell? ⟨b, p + i, none⟩ = some x := by rw [HB3.out.cell (p := ⟨b, p + i, none⟩) (lt_of_cell hcell.1)]; exact hcell.1
      have H23 : Hid (Calls Tryd.prog 17 #[x] wr fun e w' => Hid (∃ v', e = .returned v' ∧ Marked wr.heap.size w' v' (yss.getD i []) ∧ Below wr.heap.size wr w')) := copy_any x (yss.getD i []) wr (by omega) (hcell.2.kept fun b hb => HB3.out.block b hb)
      clear hcell hx
      go_upto_region 6 with (go_at_call 17; refine H23.out.mono ?_)
      intro e1 w1 hh
      obtain ⟨vc, rfl, hm1, hb1⟩ := hh.out
      obtain ⟨gc, cc, L, HLL, hvc⟩ : ∃ g c L, Hid (L = (yss.getD i []).length) ∧ vc = .slice (some ⟨g, 0, none⟩) L c := by
        obtain ⟨g, c, e, _⟩ := hm1
        exact ⟨g, c, _, rfl, e⟩
      subst hvc
      have HM1 : Hid (Marked w.heap.size w1 (Value.slice (some ⟨gc, 0, none⟩) L cc) (yss.getD i [])) := by
        obtain ⟨g, c, e, ho⟩ := hm1
        exact ⟨g, c, e, ownsRow_base' ho HB3.out.size⟩
      have HO4 : Hid (w1.ownsRow w.heap.size 22 1 u3 i vs) := owns_kept HO3.out hb1
      have HL4 : Hid (Lent w.heap.size w1 vs yss) := fun j y hy => (HLn.out j y hy).kept fun b hb => hb1.block b hb
      have HB4 : Hid (Below w.heap.size w w1) := HB3.out.trans (hb1.mono HB3.out.size)
      have ho5 : (w1.alloc (.cells #[.slice (some ⟨gc, 0, none⟩) L cc] 22)).ownsRow w.heap.size 22 1 u3 i vs := owns_kept HO4.out ((Below.refl _ _).alloc (Nat.le_refl _) _)
      have HO5 : Hid ((w1.alloc (.cells #[.slice (some ⟨gc, 0, none⟩) L cc] 22)).ownsRow w.heap.size 22 1 u3 i vs) := ho5
      have HM5 : Hid (Marked w.heap.size (w1.alloc (.cells #[.slice (some ⟨gc, 0, none⟩) L cc] 22)) (Value.slice (some ⟨gc, 0, none⟩) L cc) (yss.getD i [])) := HM1.out.kept fun b hb => Below.heap_alloc _ _ b hb
      have HL5 : Hid (Lent w.heap.size (w1.alloc (.cells #[.slice (some ⟨gc, 0, none⟩) L cc] 22)) vs yss) := fun j y hy => (HL4.out j y hy).kept fun b hb => Below.heap_alloc _ _ b hb
      have HB5 : Hid (Below w.heap.size w (w1.alloc (.cells #[.slice (some ⟨gc, 0, none⟩) L cc] 22))) := HB4.out.alloc HB4.out.size _
      have HN5 : Hid (∀ j u, [(Value.slice (some ⟨gc, 0, none⟩) L cc)][j]? = some u → (w1.alloc (.cells #[.slice (some ⟨gc, 0, none⟩) L cc] 22)).cell? ((⟨w1.heap.size, 0, none⟩ : Addr).add j) = some u) := fun j u hj => by
        match j, hj with
        | 0, hj => simp at hj; subst hj; simp [Addr.add]
      have HC5 : Hid (∀ u ∈ [(Value.slice (some ⟨gc, 0, none⟩) L cc)], u.oneCell' = true) := fun u hu => by
        simp at hu
        subst hu
        rfl
      clear hh hm1 hb1 H23 ho5 HO3 HLn HB3 HO4 HL4 HM1
      go_wp2_with (first
        | (at_builtin; go_must (refine wpList_append_own _ rfl (.tmp 17) (.tmp 19) 40 rfl w.heap.size 22 i0 (.slice none 0 0) 1 24 Tryd.underlying40 hi hz0 hz1 hz2 rfl (by decide) _ _ _ rfl HO5.out ⟨w1.heap.size, 0, none⟩ 1 1 [(Value.slice (some ⟨gc, 0, none⟩) L cc)] rfl rfl HN5.out HC5.out (by unfold maxLen; omega) (by omega) HB5.out.size ?_)))
      intro v6 w6 hown6 hgrow6 hnil6
      have HB6 : Hid (Below w.heap.size w w6) := HB5.out.grown hgrow6 HB5.out.size (fun q hq => (HO5.out.lt q hq).1)
      have HO6 : Hid (w6.ownsRow w.heap.size 22 1 v6 (i + 1) (vs ++ [(Value.slice (some ⟨gc, 0, none⟩) L cc)])) := hown6
      have HL6 : Hid (Lent w.heap.size w6 (vs ++ [(Value.slice (some ⟨gc, 0, none⟩) L cc)]) yss) := fun j y hy => by
        by_cases hj : j < vs.length
        · rw [List.getElem?_append_left hj] at hy
          exact (HL5.out j y hy).off HO5.out hgrow6
        · have hj2 : j < (vs ++ [(Value.slice (some ⟨gc, 0, none⟩) L cc)]).length := (List.getElem?_eq_some_iff.1 hy).1
          simp at hj2
          obtain rfl : j = vs.length := by omega
          simp at hy
          subst hy
          rw [HVL.out]
          exact HM5.out.off HO5.out hgrow6
      clear hown6 hgrow6 hnil6 HO5 HL5 HM5 HB5 HN5 HC5
      go_wp2
      go_roundw
      case rel => exact ⟨i + 1, vs ++ [(Value.slice (some ⟨gc, 0, none⟩) L cc)], by omega, by go_num, (by rw [List.length_append, HVL.out]; rfl : (vs ++ [(Value.slice (some ⟨gc, 0, none⟩) L cc)]).length = i + 1), HO6, HL6, HB6⟩
      case measure => simp [intOf]; omega
    · obtain rfl : i = n := by omega
      go_wp2
      go_ret
      exact ⟨_, rfl, vs, HVL.out, HO3.out, HLn.out, HB3.out⟩
/-- The copies, as a list of lists. -/
theorem lent_pv {w : World} {B n : Nat} {v : Value} {vs : List Value} {yss : List (List Int)} (ho : w.ownsRow B 22 1 v n vs) (hl : vs.length = n) (hy : yss.length = n) (hL : Lent B w vs yss) : PV w v vs yss := by
  have h0 := ho
  rcases ho.2 with ⟨rfl, e⟩ | ⟨g, c, cur, rfl, q1, q2, q3, q4, q5, q6⟩
  · refine ⟨none, 0, by rw [hl, e], by omega, by simp [maxLen], by omega, fun i x hx => (hL i x hx).view, .inl (List.eq_nil_of_length_eq_zero (by omega))⟩
  · refine ⟨_, c, by rw [hl], by omega, q4, by omega, fun i x hx => (hL i x hx).view, .inr ⟨g, 0, rfl, fun i x hx => ?_⟩⟩
    have := h0.cells (g := g) rfl i x hx
    rw [Addr.add_lit] at this
    exact this
end Go.Proofs.YtioggmjocelolacDoor
namespace Go.Proofs.YtioggmjocelolacDoor
open Go.RowKit
set_option linter.unusedVariables false
set_option linter.unusedSimpArgs false
set_option maxHeartbeats 1600000 in
set_option maxRecDepth 100000 in
theorem wholes_core (b1 p1 c1 b2 p2 c2 n B : Nat) (vs xs : List Value) (yss : List (List Int)) (w : World) (hn : n ≤ 1048576) (hvl : Hid (vs.length = n)) (hxl : Hid (xs.length = n)) (h1 : Hid (∀ i x, vs[i]? = some x → w.cell? ⟨b1, p1 + i, none⟩ = some x)) (h2 : Hid (∀ i x, xs[i]? = some x → w.cell? ⟨b2, p2 + i, none⟩ = some x)) (hL : Hid (Lent B w vs yss)) (hV : Hid (∀ i x, xs[i]? = some x → View w x (yss.getD i []))) :
    Calls Tryd.prog 25 #[.slice (some ⟨b1, p1, none⟩) n c1, .slice (some ⟨b2, p2, none⟩) n c2] w fun e w' => e = .returned (.bool true) ∧ ∃ m, w' = w.drewN m := by
  go_enter Tryd.func25, Tryd.ntmps25
  go_wp2
  go_loopw [5] (fun vi wr => ∃ i : Nat, i ≤ n ∧ vi = .int .i64 i ∧ Hid (∃ m, wr = w.drewN m)) (fun vi _ => n - (intOf vi).toNat)
  case atStart => exact ⟨0, by omega, rfl, 0, rfl⟩
  case round =>
    obtain ⟨i, hin, rfl, HD⟩ := hrel
    by_cases hlt : i < n
    · obtain ⟨x, hx⟩ : ∃ x, vs[i]? = some x := ⟨_, List.getElem?_eq_getElem (by rw [hvl.out]; exact hlt)⟩
      obtain ⟨y, hy⟩ : ∃ y, xs[i]? = some y := ⟨_, List.getElem?_eq_getElem (by rw [hxl.out]; exact hlt)⟩
      have hwh : wr.heap = w.heap := by
        obtain ⟨m, rfl⟩ := HD.out
        rfl
      have F0 : Hid (∀ u : World, u.heap = wr.heap → u.cell? ⟨b1, p1 + i, none⟩ = some x) := fun u hu => by
        rw [World.cell?_of_block (w := w) (by rw [hu, hwh])]
        exact h1.out i x hx
      have F1 : Hid (∀ u : World, u.heap = wr.heap → u.cell? ⟨b2, p2 + i, none⟩ = some y) := fun u hu => by
        rw [World.cell?_of_block (w := w) (by rw [hu, hwh])]
        exact h2.out i y hy
      have HCall : Hid (∀ u : World, u.heap = wr.heap → Calls Tryd.prog 18 #[x, y] u fun e w' => e = .returned (.bool true) ∧ ∃ m, w' = u.drewN m) := fun u hu =>
        whole_any x y (yss.getD i []) B u ((hL.out i x hx).kept fun b _ => by rw [hu, hwh]) ((hV.out i y hy).kept fun b _ => by rw [hu, hwh])
      have hS0 : wr.drew.heap = wr.heap := rfl
      have HW : Hid (∀ w1, (∃ m, w1 = wr.drew.drewN m) → ∃ m, w1 = w.drewN m) := fun w1 h => by
        obtain ⟨m, rfl⟩ := h
        obtain ⟨k, rfl⟩ := HD.out
        exact ⟨k + 1 + m, by simp [World.drewN, World.drew, Nat.add_assoc]⟩
      clear hwh hx hy
      go_wp2
      refine wp_region_noPanic ?_
      refine wp_region_till (fun u => u.heap = wr.heap) 8 (by kernel_rfl) (by decide) (by decide +kernel) (by decide +kernel) (by decide +kernel) (fun inv => ?_)
      refine till_at 0 17 (.slice (some ⟨b1, p1, none⟩) n c1) inv rfl rfl (by decide) (by decide +kernel) (by decide +kernel) (fun _ _ _ h => h) (hS0) (Or.inl ⟨by rfl, fun w' hS' => by go_simp⟩) (fun inv' => ?_)
      clear inv; have inv := inv'; clear inv'
      simp only [List.setIfInBounds_toArray, List.set_cons_zero, List.set_cons_succ]
      refine till_at 1 18 (.int .i64 (i : Nat)) inv rfl rfl (by decide) (by decide +kernel) (by decide +kernel) (fun _ _ _ h => h) (hS0) (Or.inl ⟨by rfl, fun w' hS' => by go_simp⟩) (fun inv' => ?_)
      clear inv; have inv := inv'; clear inv'
      simp only [List.setIfInBounds_toArray, List.set_cons_zero, List.set_cons_succ]
      refine till_at 2 19 (.pointer (some ⟨b1, p1 + i, none⟩)) inv rfl rfl (by decide) (by decide +kernel) (by decide +kernel) (fun _ _ _ h => h) (hS0) (Or.inl ⟨by rfl, fun w' hS' => by go_simp⟩) (fun inv' => ?_)
      clear inv; have inv := inv'; clear inv'
      simp only [List.setIfInBounds_toArray, List.set_cons_zero, List.set_cons_succ]
      refine till_at 3 20 (x) inv rfl rfl (by decide) (by decide +kernel) (by decide +kernel) (fun _ _ _ h => h) (hS0) (Or.inl ⟨by rfl, fun w' hS' => by have q := F0.out w' hS'; go_simp⟩) (fun inv' => ?_)
      clear inv; have inv := inv'; clear inv'
      simp only [List.setIfInBounds_toArray, List.set_cons_zero, List.set_cons_succ]
      refine till_at 4 21 (.slice (some ⟨b2, p2, none⟩) n c2) inv rfl rfl (by decide) (by decide +kernel) (by decide +kernel) (fun _ _ _ h => h) (hS0) (Or.inl ⟨by rfl, fun w' hS' => by go_simp⟩) (fun inv' => ?_)
      clear inv; have inv := inv'; clear inv'
      simp only [List.setIfInBounds_toArray, List.set_cons_zero, List.set_cons_succ]
      refine till_at 5 22 (.int .i64 (i : Nat)) inv rfl rfl (by decide) (by decide +kernel) (by decide +kernel) (fun _ _ _ h => h) (hS0) (Or.inl ⟨by rfl, fun w' hS' => by go_simp⟩) (fun inv' => ?_)
      clear inv; have inv := inv'; clear inv'
      simp only [List.setIfInBounds_toArray, List.set_cons_zero, List.set_cons_succ]
      refine till_at 6 23 (.pointer (some ⟨b2, p2 + i, none⟩)) inv rfl rfl (by decide) (by decide +kernel) (by decide +kernel) (fun _ _ _ h => h) (hS0) (Or.inl ⟨by rfl, fun w' hS' => by go_simp⟩) (fun inv' => ?_)
      clear inv; have inv := inv'; clear inv'
      simp only [List.setIfInBounds_toArray, List.set_cons_zero, List.set_cons_succ]
      refine till_at 7 24 (y) inv rfl rfl (by decide) (by decide +kernel) (by decide +kernel) (fun _ _ _ h => h) (hS0) (Or.inl ⟨by rfl, fun w' hS' => by have q := F1.out w' hS'; go_simp⟩) (fun inv' => ?_)
      clear inv; have inv := inv'; clear inv'
      simp only [List.setIfInBounds_toArray, List.set_cons_zero, List.set_cons_succ]
      refine till_tail (i := 8) (by decide +kernel) (by decide) rfl (fun K hK => ?_)
      go_simp
      refine (HCall.out _ hS0).mono ?_
      rintro e1 w1 ⟨rfl, hw1⟩
      go_wp2_with fail
      refine hK.out _ _ ?_
      clear hK K
      try simp only [List.setIfInBounds_toArray, List.set_cons_zero, List.set_cons_succ]
      refine till_tail (i := 9) (by decide +kernel) (by decide) rfl (fun K hK => ?_)
      go_simp
      refine hK.out _ _ ?_
      clear hK K
      try simp only [List.setIfInBounds_toArray, List.set_cons_zero, List.set_cons_succ]
      refine till_done (by decide +kernel) ?_ _
      refine NoPanic.normal ?_
      have HD1 : Hid (∃ m, w1 = w.drewN m) := HW.out w1 hw1
      clear hw1 HW F0 F1 HCall HD
      go_wp2
      go_roundw
      case rel => exact ⟨i + 1, by omega, by go_num, HD1⟩
      case measure => simp [intOf]; omega
    · have d1 : ¬ ((i : Nat) : Int) < (n : Nat) := by omega
      go_wp2
      go_ret
      exact ⟨rfl, HD.out⟩
set_option maxHeartbeats 400000 in
theorem wholes_zero (a1 a2 : Option Addr) (c1 c2 : Nat) (w : World) :
    Calls Tryd.prog 25 #[.slice a1 0 c1, .slice a2 0 c2] w fun e w' => e = .returned (.bool true) ∧ ∃ m, w' = w.drewN m := by
  go_enter Tryd.func25, Tryd.ntmps25
  go_wp2
  go_loop [5] (fun v => v = .int .i64 0) (fun _ => 0)
  case atStart => exact rfl
  case round =>
    obtain rfl := hrel
    go_wp2
    go_ret
    exact ⟨rfl, 0, rfl⟩
theorem wholes_ok (v1 v2 : Value) (vs xs : List Value) (yss : List (List Int)) (B : Nat) (w : World) (hP1 : PV w v1 vs yss) (hP2 : PV w v2 xs yss) (hL : Lent B w vs yss) (hn : xs.length ≤ 1048576) :
    Calls Tryd.prog 25 #[v1, v2] w fun e w' => e = .returned (.bool true) ∧ ∃ m, w' = w.drewN m := by
  obtain ⟨a1, c1, rfl, p1, p2, p3, p4, p5⟩ := hP1
  obtain ⟨a2, c2, rfl, q1, q2, q3, q4, q5⟩ := hP2
  have hl : vs.length = xs.length := by rw [p3, q3]
  by_cases h0 : xs.length = 0
  · rw [hl, h0]
    exact wholes_zero a1 a2 c1 c2 w
  · rcases p5 with p5 | ⟨b1, o1, rfl, p6⟩
    · rw [p5] at hl; simp at hl; omega
    · rcases q5 with q5 | ⟨b2, o2, rfl, q6⟩
      · rw [q5] at h0; simp at h0
      · rw [hl]
        exact wholes_core b1 o1 c1 b2 o2 c2 xs.length B vs xs yss w hn hl rfl p6 q6 hL q4
end Go.Proofs.YtioggmjocelolacDoor
namespace Go.Proofs.YtioggmjocelolacDoor
open Go.RowKit

set_option maxHeartbeats 400000 in
set_option maxRecDepth 100000 in
theorem new_bad (h : Int) (w : World) (h1 : (h == 224) = false) (h2 : (h == 256) = false) (h3 : (h == 384) = false) (h4 : (h == 512) = false) :
    Calls Tryd.prog 29 #[.int .i64 h] w fun e w' => e = .returned (.tuple #[.pointer none, .int .i64 10]) ∧ Below w.heap.size w w' := by
  go_enter Tryd.func29, Tryd.ntmps29
  go_wp2_with fail
  refine (begin_bad h _ h1 h2 h3 h4).mono ?_
  rintro e w1 ⟨rfl, hb⟩
  have HT : Hid ((w1.alloc (.cells Tryd.zeroCells69 69)).there w1.heap.size 0 139) := there_new w1 Tryd.zeroCells69 69 139 (by rw [cells71z, size71z]; exact Nat.le_refl _)
  have HB : Hid (Below w.heap.size w w1) := hb
  clear hb
  go_wp2_with (first
    | (refine wpList_store_mid (by rfl) 69 (.tmp 4) (.tmp 9) (by rfl) w1.heap.size 0 tkZero.toArray (by rfl) (by rfl) (by rw [size71z]; exact HT.out) (by rw [size71z]; exact size71) tkZero_one ?_)
    | fail)
  go_ret2
  exact ⟨rfl, below_setCells _ HB.out.size _ _ _ (HB.out.alloc HB.out.size _)⟩

set_option maxHeartbeats 400000 in
set_option maxRecDepth 100000 in
theorem newMac_bad (h : Int) (v : Value) (w : World) (h1 : (h == 224) = false) (h2 : (h == 256) = false) (h3 : (h == 384) = false) (h4 : (h == 512) = false) :
    Calls Tryd.prog 32 #[.int .i64 h, v] w fun e w' => e = .returned (.tuple #[.pointer none, .int .i64 10]) ∧ Below w.heap.size w w' := by
  go_enter Tryd.func32, Tryd.ntmps32
  go_wp2_with fail
  refine (begin_bad h _ h1 h2 h3 h4).mono ?_
  rintro e w1 ⟨rfl, hb⟩
  have HT : Hid ((w1.alloc (.cells Tryd.zeroCells69 69)).there w1.heap.size 0 139) := there_new w1 Tryd.zeroCells69 69 139 (by rw [cells71z, size71z]; exact Nat.le_refl _)
  have HB : Hid (Below w.heap.size w w1) := hb
  clear hb
  go_wp2_with (first
    | (refine wpList_store_mid (by rfl) 69 (.tmp 6) (.tmp 13) (by rfl) w1.heap.size 0 tkZero.toArray (by rfl) (by rfl) (by rw [size71z]; exact HT.out) (by rw [size71z]; exact size71) tkZero_one ?_)
    | fail)
  go_ret2
  exact ⟨rfl, below_setCells _ HB.out.size _ _ _ (HB.out.alloc HB.out.size _)⟩
end Go.Proofs.YtioggmjocelolacDoor
namespace Go.Proofs.YtioggmjocelolacDoor
open Go.RowKit
set_option linter.unusedVariables false
set_option linter.unusedSimpArgs false

theorem below_alloc1 (u : World) (o : Obj) : Below u.heap.size u (u.alloc o) := (Below.refl _ _).alloc (Nat.le_refl _) o
theorem size_alloc1 (u : World) (o : Obj) : (u.alloc o).heap.size = u.heap.size + 1 := by simp
theorem owns_lt {w : World} {B n : Nat} {b : Nat} {l c : Nat} {xs : List Value} (h : w.ownsRow B 5 1 (.slice (some ⟨b, 0, none⟩) l c) n xs) : B ≤ b ∧ b < w.heap.size := by
  rcases h.2 with ⟨h, _⟩ | ⟨g', c', cur, he, h1, h2, _⟩
  · cases h
  · injection he with e1 e2 e3
    injection e1 with e1
    injection e1 with e4 _
    subst e4
    exact ⟨h1, (Array.getElem?_eq_some_iff.1 h2).1⟩
theorem dig_length {h : Int} (k : Known h) (zs : List Int) : (dig h zs).length = szOf h := by have := szOf_le k; simp [dig, spellL_length]; omega
theorem macL_length {h : Int} (k : Known h) (si so : Eight) (zs : List Int) : (macL h si so zs).length = szOf h := by have := szOf_le k; simp [macL, spellL_length]; omega
/-- digest.Sum of one part. -/
theorem dsum1 {h : Int} (k : Known h) (u : World) (t : TypeId) (x : Value) (ys : List Int) (hx : View u x ys) (hT : Tables u) (hl : ys.length ≤ 33554432) :
    Calls Tryd.prog 34 #[.int .i64 h, .slice (some ⟨u.heap.size, 0, none⟩) 1 1] (u.alloc (.cells #[x] t)) fun e w' => ∃ b, e = .returned (.tuple #[.slice (some ⟨b, 0, none⟩) (szOf h) (szOf h), .int .i64 0]) ∧ u.heap.size ≤ b ∧ b < w'.heap.size ∧ View w' (.slice (some ⟨b, 0, none⟩) (szOf h) (szOf h)) (dig h ys) ∧ Below u.heap.size u w' := by
  refine (dsum h [ys] _ _ k (fun v g hb hg => ?_) (hT.below (below_alloc1 u _) hT.size) (by show _ ≤ _; simpa using hl)).mono ?_
  · rw [size_alloc1] at hg
    exact parts_keep (parts1_alloc t x ys g hx (by omega) (fun h0 b off l c e => by have := view_lt hx h0 b off l c e; omega)) (fun q hq => hb.block q hq)
  · rintro e w' ⟨b, rfl, ho, hb⟩
    rw [size_alloc1] at ho hb
    have h1 := owns_lt ho
    refine ⟨b, rfl, by omega, h1.2, ?_, (below_alloc1 u _).trans (hb.mono (by omega))⟩
    have := owns_view (by rw [← dig, dig_length k]) ho
    simpa [dig] using this
/-- digest.Code of one part. -/
theorem dcode1 {h : Int} (k : Known h) (u : World) (t : TypeId) (kv : Value) (key : List Int) (x : Value) (ys : List Int) (hkv : View u kv key) (hkl : key.length ≤ 33554432) (hx : View u x ys) (hT : Tables u) (hl : ys.length ≤ 33554432) :
    Calls Tryd.prog 10 #[.int .i64 h, kv, .slice (some ⟨u.heap.size, 0, none⟩) 1 1] (u.alloc (.cells #[x] t)) fun e w' => ∃ b, e = .returned (.tuple #[.slice (some ⟨b, 0, none⟩) (szOf h) (szOf h), .int .i64 0]) ∧ u.heap.size ≤ b ∧ b < w'.heap.size ∧ View w' (.slice (some ⟨b, 0, none⟩) (szOf h) (szOf h)) (hmac h key ys) ∧ Below u.heap.size u w' := by
  refine (dcode h kv key [ys] _ _ k (hkv.kept (fun q hq => Below.heap_alloc u _ q hq)) hkl (fun v g hb hg => ?_) (hT.below (below_alloc1 u _) hT.size) (by show _ ≤ _; simpa using hl)).mono ?_
  · rw [size_alloc1] at hg
    exact parts_keep (parts1_alloc t x ys g hx (by omega) (fun h0 b off l c e => by have := view_lt hx h0 b off l c e; omega)) (fun q hq => hb.block q hq)
  · rintro e w' ⟨b, rfl, ho, hb⟩
    rw [size_alloc1] at ho hb
    have h1 := owns_lt ho
    refine ⟨b, rfl, by omega, h1.2, ?_, (below_alloc1 u _).trans (hb.mono (by omega))⟩
    have := owns_view (by rw [hmac, macL_length k]) ho
    simpa using this
section
variable {w w4 u : World} {s0 m0 gs gm : Nat} {h : Int} {si so : Eight} {zs zm : List Int}
/-- Stream.Write of one part. -/
theorem Run.write1 (r : Run w w4 u s0 m0 gs gm h si so zs zm) (k : Known h) (hT : Tables w) (t : TypeId) (x : Value) (ys : List Int) (hx : View u x ys) (hox : ys ≠ [] → ∀ b off l c, x = .slice (some ⟨b, off, none⟩) l c → b ≠ gs) (hl : zs.length + ys.length ≤ 33554432) :
    Calls Tryd.prog 52 #[.pointer (some ⟨gs, 0, none⟩), .slice (some ⟨u.heap.size, 0, none⟩) 1 1] (u.alloc (.cells #[x] t)) fun e w' => e = .returned (.int .i64 0) ∧ Run w w4 w' s0 m0 gs gm h si so (zs ++ ys) zm ∧ (∀ q, q < u.heap.size → q ≠ gs → w'.heap[q]? = u.heap[q]?) := by
  have ra := r.below (below_alloc1 u (.cells #[x] t))
  have hlt := r.sr.lt
  refine (swrite gs h (firstE h) zs [ys] _ _ k ra.sr (parts1_alloc t x ys gs hx (by omega) hox) (ra.tables hT) (Nat.le_trans hT.size r.sB) (by show _ ≤ _; simpa using hl)).mono ?_
  rintro e w' ⟨rfl, ht, hr⟩
  refine ⟨rfl, ra.touchS ht (by simpa using hr), fun q hq hne => ?_⟩
  rw [ht.block q (by rw [size_alloc1]; omega) hne]
  exact Below.heap_alloc u _ q hq
/-- Mac.Write of one part. -/
theorem Run.mwrite1 (r : Run w w4 u s0 m0 gs gm h si so zs zm) (k : Known h) (hT : Tables w) (t : TypeId) (x : Value) (ys : List Int) (hx : View u x ys) (hox : ys ≠ [] → ∀ b off l c, x = .slice (some ⟨b, off, none⟩) l c → b ≠ gm) (hl : zm.length + ys.length ≤ 33554432) :
    Calls Tryd.prog 35 #[.pointer (some ⟨gm, 0, none⟩), .slice (some ⟨u.heap.size, 0, none⟩) 1 1] (u.alloc (.cells #[x] t)) fun e w' => e = .returned (.int .i64 0) ∧ Run w w4 w' s0 m0 gs gm h si so zs (zm ++ ys) ∧ (∀ q, q < u.heap.size → q ≠ gm → w'.heap[q]? = u.heap[q]?) := by
  have ra := r.below (below_alloc1 u (.cells #[x] t))
  have hlt := r.mr.1.lt
  refine (mwrite gm h si so zm [ys] _ _ k ra.mr (parts1_alloc t x ys gm hx (by omega) hox) (ra.tables hT) (Nat.le_trans hT.size r.mB) (by show _ ≤ _; simpa using hl)).mono ?_
  rintro e w' ⟨rfl, ht, hr⟩
  refine ⟨rfl, ra.touchM ht (by simpa using hr), fun q hq hne => ?_⟩
  rw [ht.block q (by rw [size_alloc1]; omega) hne]
  exact Below.heap_alloc u _ q hq
/-- Stream.Write of two parts. -/
theorem Run.write2 (r : Run w w4 u s0 m0 gs gm h si so zs zm) (k : Known h) (hT : Tables w) (t : TypeId) (x y : Value) (ys ys2 : List Int) (hx : View u x ys) (hy : View u y ys2) (hox : ys ≠ [] → ∀ b off l c, x = .slice (some ⟨b, off, none⟩) l c → b ≠ gs) (hoy : ys2 ≠ [] → ∀ b off l c, y = .slice (some ⟨b, off, none⟩) l c → b ≠ gs) (hl : zs.length + (ys ++ ys2).length ≤ 33554432) :
    Calls Tryd.prog 52 #[.pointer (some ⟨gs, 0, none⟩), .slice (some ⟨u.heap.size, 0, none⟩) 2 2] (u.alloc (.cells #[x, y] t)) fun e w' => e = .returned (.int .i64 0) ∧ Run w w4 w' s0 m0 gs gm h si so (zs ++ (ys ++ ys2)) zm ∧ (∀ q, q < u.heap.size → q ≠ gs → w'.heap[q]? = u.heap[q]?) := by
  have ra := r.below (below_alloc1 u (.cells #[x, y] t))
  have hlt := r.sr.lt
  refine (swrite gs h (firstE h) zs [ys, ys2] _ _ k ra.sr (parts2_alloc t x y ys ys2 gs hx hy (by omega) hox hoy) (ra.tables hT) (Nat.le_trans hT.size r.sB) (by show _ ≤ _; simpa using hl)).mono ?_
  rintro e w' ⟨rfl, ht, hr⟩
  refine ⟨rfl, ra.touchS ht (by simpa using hr), fun q hq hne => ?_⟩
  rw [ht.block q (by rw [size_alloc1]; omega) hne]
  exact Below.heap_alloc u _ q hq
theorem Run.mwrite2 (r : Run w w4 u s0 m0 gs gm h si so zs zm) (k : Known h) (hT : Tables w) (t : TypeId) (x y : Value) (ys ys2 : List Int) (hx : View u x ys) (hy : View u y ys2) (hox : ys ≠ [] → ∀ b off l c, x = .slice (some ⟨b, off, none⟩) l c → b ≠ gm) (hoy : ys2 ≠ [] → ∀ b off l c, y = .slice (some ⟨b, off, none⟩) l c → b ≠ gm) (hl : zm.length + (ys ++ ys2).length ≤ 33554432) :
    Calls Tryd.prog 35 #[.pointer (some ⟨gm, 0, none⟩), .slice (some ⟨u.heap.size, 0, none⟩) 2 2] (u.alloc (.cells #[x, y] t)) fun e w' => e = .returned (.int .i64 0) ∧ Run w w4 w' s0 m0 gs gm h si so zs (zm ++ (ys ++ ys2)) ∧ (∀ q, q < u.heap.size → q ≠ gm → w'.heap[q]? = u.heap[q]?) := by
  have ra := r.below (below_alloc1 u (.cells #[x, y] t))
  have hlt := r.mr.1.lt
  refine (mwrite gm h si so zm [ys, ys2] _ _ k ra.mr (parts2_alloc t x y ys ys2 gm hx hy (by omega) hox hoy) (ra.tables hT) (Nat.le_trans hT.size r.mB) (by show _ ≤ _; simpa using hl)).mono ?_
  rintro e w' ⟨rfl, ht, hr⟩
  refine ⟨rfl, ra.touchM ht (by simpa using hr), fun q hq hne => ?_⟩
  rw [ht.block q (by rw [size_alloc1]; omega) hne]
  exact Below.heap_alloc u _ q hq
/-- Stream.Sum. -/
theorem Run.sum (r : Run w w4 u s0 m0 gs gm h si so zs zm) (k : Known h) (hT : Tables w) (hl : zs.length ≤ 33554432) :
    Calls Tryd.prog 53 #[.pointer (some ⟨gs, 0, none⟩)] u fun e w' => ∃ b, e = .returned (.slice (some ⟨b, 0, none⟩) (szOf h) (szOf h)) ∧ View w' (.slice (some ⟨b, 0, none⟩) (szOf h) (szOf h)) (dig h zs) ∧ Run w w4 w' s0 m0 gs gm h si so zs zm ∧ Below u.heap.size u w' := by
  refine (ssum gs h (firstE h) zs u k r.sr (r.tables hT) (by show _ ≤ _; omega)).mono ?_
  rintro e w' ⟨b, rfl, ho, hb⟩
  exact ⟨b, rfl, owns_view (by rw [dig_length k]) ho, r.below hb, hb⟩
/-- Mac.Sum. -/
theorem Run.msum (r : Run w w4 u s0 m0 gs gm h si so zs zm) (k : Known h) (hT : Tables w) (hl : zm.length ≤ 33554432) :
    Calls Tryd.prog 36 #[.pointer (some ⟨gm, 0, none⟩)] u fun e w' => ∃ b, e = .returned (.slice (some ⟨b, 0, none⟩) (szOf h) (szOf h)) ∧ View w' (.slice (some ⟨b, 0, none⟩) (szOf h) (szOf h)) (macL h si so zm) ∧ Run w w4 w' s0 m0 gs gm h si so zs zm ∧ Below u.heap.size u w' := by
  refine (Go.Proofs.YtioggmjocelolacDoor.msum gm h si so zm u k r.mr (r.tables hT) (by show _ ≤ _; omega)).mono ?_
  rintro e w' ⟨b, rfl, ho, hb⟩
  exact ⟨b, rfl, owns_view (by rw [macL_length k]) ho, r.below hb, hb⟩
/-- Both are copied. -/
theorem Run.copyS (r : Run w w4 u s0 m0 gs gm h si so zs zm) :
    Calls Tryd.prog 73 #[.pointer (some ⟨gs, 0, none⟩)] u fun e w' => ∃ g', e = .returned (.pointer (some ⟨g', 0, none⟩)) ∧ Run w w4 w' s0 m0 g' gm h si so zs zm := by
  refine (scopy gs h (firstE h) zs u r.sr).mono ?_
  rintro e w' ⟨g', rfl, hg, hr, hb⟩
  have ra := r.below hb
  have := r.mr.1.lt
  exact ⟨g', rfl, ra.bel, ra.size, ra.kept, .inr (Nat.le_trans r.size hg), ra.gmW, by omega, Nat.le_trans r.bel.size hg, ra.mB, hr, ra.mr⟩
theorem Run.copyM (r : Run w w4 u s0 m0 gs gm h si so zs zm) :
    Calls Tryd.prog 56 #[.pointer (some ⟨gm, 0, none⟩)] u fun e w' => ∃ g', e = .returned (.pointer (some ⟨g', 0, none⟩)) ∧ Run w w4 w' s0 m0 gs g' h si so zs zm := by
  refine (mcopy gm h si so zm u r.mr).mono ?_
  rintro e w' ⟨g', rfl, hg, hr, hb⟩
  have ra := r.below hb
  have := r.sr.lt
  exact ⟨g', rfl, ra.bel, ra.size, ra.kept, ra.gsW, .inr (Nat.le_trans r.size hg), by omega, ra.sB, Nat.le_trans r.bel.size hg, ra.sr, hr⟩
end
theorem same_yes (v1 v2 : Value) (xs : List Int) (w : World) (h1 : View w v1 xs) (h2 : View w v2 xs) : Calls Tryd.prog 20 #[v1, v2] w fun e w' => e = .returned (.bool true) ∧ Sm w w' := by
  refine (same_any v1 v2 xs xs w h1 h2).mono ?_
  rintro e w' ⟨rfl, m, rfl⟩
  exact ⟨by rw [decide_eq_true rfl], (Sm.refl w).drewN m⟩
end Go.Proofs.YtioggmjocelolacDoor
namespace Go.Proofs.YtioggmjocelolacDoor
open Go.RowKit
set_option linter.unusedVariables false
theorem cell_other2 (w : World) (g i j : Nat) (v : Value) (h : i ≠ j) : (w.setCell ⟨g, i, none⟩ v).cell? ⟨g, j, none⟩ = w.cell? ⟨g, j, none⟩ :=
  World.cell?_setCell_other w ⟨g, i, none⟩ ⟨g, j, none⟩ v (fun e => h (by cases e; rfl))
theorem ownsRow_base {w : World} {b b' e size n : Nat} {v : Value} {xs : List Value} (h : w.ownsRow b e size v n xs) (hb : b' ≤ b) : w.ownsRow b' e size v n xs := by
  obtain ⟨h1, h2 | ⟨g, c, cur, q1, q2, q3⟩⟩ := h
  · exact ⟨h1, Or.inl h2⟩
  · exact ⟨h1, Or.inr ⟨g, c, cur, q1, Nat.le_trans hb q2, q3⟩⟩
theorem Touch.grown {w w' : World} {g o n : Nat} (h : Touch w w' g o n) : w.grownBy w' (some g) := ⟨h.os, h.tape, h.output, h.size, fun k hk hne => h.block k hk (fun e => hne (by rw [e]))⟩
set_option maxHeartbeats 1600000 in
set_option maxRecDepth 100000 in
/-- A list without spare room. -/
theorem spoil_full (n g : Nat) (ys : Nat → Int) (w : World) (hn : n ≤ 200000) (hg : g < w.heap.size) (hc : ∀ j, j < n → w.cell? ⟨g, j, none⟩ = some (.int .u8 (ys j))) (hr : w.there g 0 n) :
    Calls Tryd.prog 21 #[.slice (some ⟨g, 0, none⟩) n n] w fun e w' => e = .returned (.tuple #[]) ∧ w.grownBy w' (some g) := by
  obtain ⟨i0, hi, hz0, hz1, hz2⟩ := info_parts Tryd.info5
  have HR : Hid (w.there g 0 n) := hr
  have HC : Hid (∀ j, j < n → w.cell? ⟨g, j, none⟩ = some (.int .u8 (ys j))) := hc
  clear hr hc
  go_enter Tryd.func21, Tryd.ntmps21
  go_wp2
  go_loopw [2] (fun i wr => ∃ k : Nat, k ≤ n ∧ i = .int .i64 k ∧ Hid (Touch w wr g 0 n ∧ ∃ zs : Nat → Int, ∀ j, j < n → wr.cell? ⟨g, j, none⟩ = some (.int .u8 (zs j)))) (fun i _ => n - (intOf i).toNat)
  case atStart => exact ⟨0, by omega, rfl, Touch.refl _ _ _ _, ys, HC.out⟩
  case round =>
    obtain ⟨k, hk, rfl, HT⟩ := hrel
    by_cases hlt : k < n
    · obtain ⟨ht, zs, hz⟩ := HT.out
      have hcell := hz k hlt
      have hfr : wr.frozen? ⟨g, k, none⟩ = false := by have := (ht.there _ _ HR.out k hlt).2; rwa [Nat.zero_add] at this
      have HT2 : Hid (Touch w wr g 0 n ∧ ∀ j, j < n → wr.cell? ⟨g, j, none⟩ = some (.int .u8 (zs j))) := ⟨ht, hz⟩
      clear hz ht HT
      go_wp2
      refine ⟨⟨k + 1, by omega, rfl, HT2.out.1.setCell k _ (by omega) (by omega), fun j => if j = k then bits .xor .u8 (zs k) 165 else zs j, fun j hj => ?_⟩, ?_⟩
      · by_cases hjk : j = k
        · subst hjk
          simp only [if_pos]
          exact World.cell?_setCell_same' _ _ _ (by rw [hcell]; rfl)
        · simp only [if_neg hjk]
          rw [cell_other2 _ _ _ _ _ (Ne.symm hjk)]
          exact HT2.out.2 j hj
      · simp only [intOf]; omega
    · obtain rfl : k = n := by omega
      obtain ⟨ht, zs, hz⟩ := HT.out
      obtain ⟨OL, HOL⟩ : ∃ OL, Hid (OL = (List.range k).map fun j => Value.int .u8 (zs j)) := ⟨_, rfl⟩
      have HG : Hid (w.grownBy wr (some g)) := ht.grown
      have hgw : g < wr.heap.size := Nat.lt_of_lt_of_le hg ht.size
      go_wp2_with (first | (at_builtin; go_must (refine wpList_append_grows _ rfl (.tmp 18) (.tmp 19) 22 rfl 5 i0 (.int .u8 0) 1 1 Tryd.underlying22 hi hz0 hz1 hz2 rfl (by decide) _ k k OL rfl (fun h => by cases h) ?_ ?_ ⟨wr.heap.size, 0, none⟩ 1 1 (cellsU8 [1]) rfl rfl (World.news_of_block (heap_alloc_new wr _)) (cellsU8_one _) (by omega) (by unfold maxLen; omega) (by omega) ?_)))
      · rw [HOL.out]; simp
      · intro b hb j u hu
        cases hb
        rw [HOL.out] at hu
        have hj : j < k := by have := (List.getElem?_eq_some_iff.1 hu).1; simpa using this
        rw [List.getElem?_map, List.getElem?_range hj] at hu
        cases hu
        rw [Addr.add_lit, World.cell?_alloc_past _ _ _ hgw, Nat.zero_add]
        exact hz j hj
      intro v1 w1 own1 hgr1
      have hlen : ∃ g1 cp1, v1 = .slice (some ⟨g1, 0, none⟩) (k + 1) cp1 ∧ Hid (w.heap.size ≤ g1 ∧ w1.ownsRow w.heap.size 5 1 (.slice (some ⟨g1, 0, none⟩) (k + 1) cp1) (k + 1) (cellsU8 ((List.range k).map zs ++ [1]))) := by
        have hsz := ht.size
        have hb : w.heap.size ≤ wr.heap.size + 1 := by omega
        have own2 := ownsRow_base own1 hb
        rcases own1.2 with ⟨_, h0⟩ | ⟨g1, cp1, cur, rfl, q2, _⟩
        · omega
        · refine ⟨g1, cp1, rfl, by omega, ?_⟩
          have e1 : cellsU8 ((List.range k).map zs ++ [1]) = OL ++ cellsU8 [1] := by rw [cellsU8_append, HOL.out]; simp [cellsU8]
          rw [e1]
          exact own2
      obtain ⟨g1, cp1, rfl, HO⟩ := hlen
      have HG1 : Hid (w.grownBy w1 (some g)) := grown_trans (grown_trans HG.out (World.grownBy_alloc wr _ none) (fun _ _ _ => by simp)) hgr1 (fun q _ hq => by simp)
      have HA1 : Hid (w.heap.size ≤ g1) := HO.out.1
      have HO1 : Hid (w1.ownsRow w.heap.size 5 1 (.slice (some ⟨g1, 0, none⟩) (k + 1) cp1) (k + 1) (cellsU8 ((List.range k).map zs ++ [1]))) := HO.out.2
      clear own1 hgr1 HO hz ht HT HG hgw hlt hk HOL HC HR
      go_wp2
      go_loopw [0, 3] (fun l i wr => ∃ j : Nat, j ≤ 70 ∧ i = .int .i64 j ∧ Hid (w.grownBy wr (some g)) ∧ ∃ g2 c2 ys2, l = .slice (some ⟨g2, 0, none⟩) (k + 1 + j) c2 ∧ wr.ownsRow w.heap.size 5 1 (.slice (some ⟨g2, 0, none⟩) (k + 1 + j) c2) (k + 1 + j) (cellsU8 ys2) ∧ Hid (w.heap.size ≤ g2)) (fun _ i _ => 70 - (intOf i).toNat)
      case atStart => exact ⟨0, by omega, rfl, HG1, g1, cp1, _, rfl, HO1, HA1⟩
      case round =>
        obtain ⟨j, hj, rfl, HG2, g2, c2, ys2, rfl, own2, HA2⟩ := hrel
        clear HG1 HA1 HO1
        by_cases hlt : j < 70
        · go_wp2_with (first | (at_builtin; go_must (refine wpList_append_lies _ rfl (.tmp 25) (.tmp 30) 22 rfl w.heap.size 5 i0 (.int .u8 0) 1 1 Tryd.underlying22 hi hz0 hz1 hz2 rfl (by decide) _ _ _ rfl (own2.alloc _) ⟨wr.heap.size, 0, none⟩ 1 1 (cellsU8 [IntKind.u8.wrap (7 * (j : Int) + 3)]) rfl rfl (World.news_of_block (heap_alloc_new wr _)) (cellsU8_one _) (by decide) (by unfold maxLen; omega) (by omega) (by have := HG2.out.size; simp; omega) (wr.heap.size + 1) (by simp) ?_)))
          intro g3 cp3 w3 own3 hgr3 hat3 hlt3
          have HG3 : Hid (w.grownBy w3 (some g)) := grown_trans (grown_trans HG2.out (World.grownBy_alloc wr _ none) (fun _ _ _ => by simp)) hgr3 (fun q hq hne => by
            intro h
            simp only [Value.ownBlock, Option.some.injEq] at h
            have e := HA2.out
            omega)
          have HA3 : Hid (w.heap.size ≤ g3) := by
            rcases hat3 with h | h
            · simp only [Value.ownBlock, Option.some.injEq] at h
              rw [← h]
              exact HA2
            · have := HG2.out.size
              show _ ≤ _
              omega
          have HO3 : Hid (w3.ownsRow w.heap.size 5 1 (.slice (some ⟨g3, 0, none⟩) (k + 1 + (j + 1)) cp3) (k + 1 + (j + 1)) (cellsU8 (ys2 ++ [IntKind.u8.wrap (7 * (j : Int) + 3)]))) := by
            rw [cellsU8_append]
            exact own3
          clear own3 hgr3 hat3 hlt3 own2 HG2 HA2
          go_wp2
          go_roundw
          case rel => exact ⟨j + 1, by omega, by go_num, HG3, g3, cp3, _, rfl, HO3, HA3⟩
          case measure => simp [intOf]; omega
        · obtain rfl : j = 70 := by omega
          have hcell : wr.cell? ⟨g2, k + 70, none⟩ = some (.int .u8 (ys2.getD (k + 70) 0)) := by
            have hl2 : ys2.length = k + 1 + 70 := by have := own2.1; rw [cellsU8_length] at this; omega
            rw [own2.cellAt (k + 70) (by omega), cellsU8, List.getElem?_map, List.getElem?_eq_getElem (show k + 70 < ys2.length by omega)]
            simp [List.getD, List.getElem?_eq_getElem (show k + 70 < ys2.length by omega)]
          have hfr : wr.frozen? ⟨g2, k + 70, none⟩ = false := own2.frozenAt _
          have HO : Hid (wr.ownsRow w.heap.size 5 1 (.slice (some ⟨g2, 0, none⟩) (k + 1 + 70) c2) (k + 1 + 70) (cellsU8 ys2)) := own2
          clear own2 hlt
          go_wp2
          go_end0
          have hst := HO.out.stored (k + 70) (.int .u8 77)
          refine ⟨rfl, grown_trans HG2.out hst.2 (fun q hq hne => ?_)⟩
          intro h
          simp only [Option.some.injEq] at h
          have e := HA2.out
          omega
end Go.Proofs.YtioggmjocelolacDoor
