import Derived.Test.YtkeklmkaleomkaaDoorPart06
import Derived.Test.YtkeklmkaleomkaaDoorPart04
import Derived.Maps.AppendAt
import Derived.Deep.AppendLies
import Derived.Deep.RegionWith
namespace Go.Proofs.YtkeklmkaleomkaaDoor
open Go.RowKit
set_option linter.unusedVariables false
set_option linter.unusedSimpArgs false
/-- The key, filled up and masked. -/
def padL (bs : Nat) (K : List Int) (m : Int) : List Int := (List.range bs).map fun i => bits .xor .u8 (fnz K i) m
theorem padL_length (bs : Nat) (K : List Int) (m : Int) : (padL bs K m).length = bs := by simp [padL]
theorem padL_at (bs : Nat) (K : List Int) (m : Int) (i : Nat) (hi : i < bs) : (padL bs K m)[i]? = some (bits .xor .u8 (fnz K i) m) := by simp [padL, hi]
theorem fnz_padL (bs : Nat) (K : List Int) (m : Int) (i : Nat) (hi : i < bs) : fnz (padL bs K m) i = maskF K m i := by
  rw [fnz, List.getD_eq_getElem?_getD, padL_at bs K m i hi]
  rfl
/-- A whole block ahead. -/
theorem endW_block (wd : Bool) (s0 : Eight) (X zs : List Int) (hX : X.length = bsz wd) : endW wd s0 0 (X ++ zs) = endW wd (TT wd (fnz X) s0 1) (bsz wd) zs := by
  have hb := bsz_pos wd
  have e1 : (X ++ zs).length / bsz wd = 1 + zs.length / bsz wd := by
    rw [List.length_append, hX, Nat.add_div_left _ hb]
    omega
  have e2 : ∀ i, fnz (X ++ zs) (bsz wd + i) = fnz zs i := fun i => by rw [← hX]; exact fnz_right X zs i
  unfold endW
  rw [e1, List.length_append, hX, Nat.zero_add, TT_add]
  have e3 : TT wd (fnz (X ++ zs)) s0 1 = TT wd (fnz X) s0 1 := TT_congr wd s0 1 fun j hj => fnz_left X zs j (by omega)
  rw [e3]
  have e4 : (fun k => fnz (X ++ zs) (bsz wd * 1 + k)) = fnz zs := funext fun k => by rw [Nat.mul_one]; exact e2 k
  have e5 : (fun i => fnz (X ++ zs) (bsz wd * (1 + zs.length / bsz wd) + i)) = fun i => fnz zs (bsz wd * (zs.length / bsz wd) + i) := funext fun i => by
    rw [Nat.mul_add, Nat.mul_one, Nat.add_assoc]
    exact e2 _
  rw [e4, e5]
theorem state_pad (h : Int) (key : List Int) (m : Int) : TT (wdOf h) (fnz (padL (bsz (wdOf h)) (keyOf h key) m)) (firstE h) 1 = stateOf h key m :=
  TT_congr _ _ 1 fun j hj => fnz_padL _ _ _ _ (by omega)
/-- HMAC, as two digests. -/
theorem hmac_eq (h : Int) (key zs : List Int) : hmac h key zs = sumD h (padL (bsz (wdOf h)) (keyOf h key) 92 ++ sumD h (padL (bsz (wdOf h)) (keyOf h key) 54 ++ zs)) := by
  unfold hmac macL macE sumD
  rw [endW_block _ _ _ _ (padL_length _ _ _), endW_block _ _ _ _ (padL_length _ _ _), state_pad, state_pad]
/-- Two rows in different blocks. -/
def RowsApart (v u : Value) : Prop := ∀ b, v.ownBlock = some b → u.ownBlock ≠ some b
theorem owns_other {w w' : World} {B e s n : Nat} {v u : Value} {xs : List Value} (h : w.ownsRow B e s u n xs) (hg : w.grownBy w' v.ownBlock) (ha : RowsApart v u) : w'.ownsRow B e s u n xs := by
  have h0 := h
  obtain ⟨h1, h2⟩ := h
  refine ⟨h1, ?_⟩
  rcases h2 with h2 | ⟨g, c, cur, rfl, q1, q2, q⟩
  · exact .inl h2
  · exact .inr ⟨g, c, cur, rfl, q1, by rw [hg.block g (Array.getElem?_eq_some_iff.1 q2).1 (fun hh => ha g hh.symm rfl)]; exact q2, q⟩
theorem apart_step {w : World} {B e s n m : Nat} {v v' u : Value} {xs : List Value} (hu : w.ownsRow B e s u n xs) (ha : RowsApart v u) (hat : v'.ownBlock = v.ownBlock ∨ v'.ownBlock = some m) (hm : w.heap.size ≤ m) : RowsApart v' u := by
  intro b hb hb2
  rcases hat with e1 | e1
  · exact ha b (by rw [← e1]; exact hb) hb2
  · have := (hu.lt b hb2).2
    rw [e1] at hb
    injection hb with hb
    omega
theorem RowsApart.symm {v u : Value} (h : RowsApart v u) : RowsApart u v := fun b hb hb2 => h b hb2 hb
theorem keyOf_short {h : Int} {key : List Int} (hl : key.length ≤ bsz (wdOf h)) : keyOf h key = key := by unfold keyOf; rw [if_pos hl]
theorem keyOf_long {h : Int} {key : List Int} (hl : ¬ key.length ≤ bsz (wdOf h)) : keyOf h key = sumD h key := by unfold keyOf; rw [if_neg hl]; rfl
theorem bsz_le (wd : Bool) : 64 ≤ bsz wd ∧ bsz wd ≤ 128 := by cases wd <;> decide
theorem view_block {w : World} {a : Option Addr} {l c : Nat} {zs : List Int} (h : View w (.slice a l c) zs) (hl : zs.length = l) (h0 : 0 < l) : ∃ b o, a = some ⟨b, o, none⟩ ∧ ∀ j, j < l → w.cell? ⟨b, o + j, none⟩ = some (.int .u8 (fnz zs j)) := by
  obtain ⟨a', c', e, q1, q2, q3, q4⟩ := h
  injection e with e1 e2 e3
  rcases q4 with q4 | ⟨b, o, e5, q5⟩
  · rw [q4] at hl; simp at hl; omega
  · exact ⟨b, o, by rw [e1, e5], fun j hj => q5 j (by omega)⟩
set_option maxHeartbeats 6400000 in
set_option maxRecDepth 100000 in
theorem rcode_walk (h : Int) (ka0 : Option Addr) (kn kc0 : Nat) (za : Option Addr) (zn zc : Nat) (key zs : List Int) (w : World) (k : Hid (Known h)) (hR : Hid (RTab w)) (hk : Hid (View w (.slice ka0 kn kc0) key)) (hkn : Hid (key.length = kn)) (hb : Hid (View w (.slice za zn zc) zs)) (HZl : Hid (zs.length = zn)) (hkl0 : kn ≤ 1099511627776) (hzl : zn ≤ 1099511627000) :
    Calls Tryd.prog 32 #[.int .i64 h, .slice ka0 kn kc0, .slice za zn zc] w fun e w' => ∃ v', e = .returned v' ∧ w'.ownsRow w.heap.size 5 1 v' (szOf h) (cellsU8 (hmac h key zs)) ∧ Below w.heap.size w w' := by
  obtain ⟨i0, hi, hz0, hz1, hz2⟩ := info_parts Tryd.info5
  have hR2 := hR.out.size
  obtain ⟨bs, HBs⟩ : ∃ bs, Hid (bs = bsz (wdOf h)) := ⟨_, rfl⟩
  have hbl : 64 ≤ bs ∧ bs ≤ 128 := by rw [HBs.out]; exact bsz_le _
  have HBk : Hid (∀ u, Calls Tryd.prog 43 #[.int .i64 h] u fun e w' => e = .returned (.int .i64 (bs : Nat)) ∧ w' = u) := fun u => by
    rw [HBs.out]
    exact rblock_ok h k.out u
  have d0 : (((bs : Nat) : Int) == 0) = false := by rw [beq_eq_false_iff_ne]; omega
  go_enter Tryd.func32, Tryd.ntmps32
  by_cases hlong : kn ≤ bs
  · obtain ⟨K, HKe⟩ : ∃ K, Hid (K = keyOf h key) := ⟨_, rfl⟩
    have HKk : Hid (K = key) := by show _ = _; rw [HKe.out]; exact keyOf_short (by rw [hkn.out, ← HBs.out]; exact hlong)
    obtain ⟨ka, hka⟩ : ∃ ka, ka = ka0 := ⟨_, rfl⟩
    obtain ⟨kl, hkl⟩ : ∃ kl, kl = kn := ⟨_, rfl⟩
    subst hka hkl
    have HK : Hid (View w (.slice ka kl kc0) K) := by rw [HKk.out]; exact hk.out
    have HKl : Hid (K.length = kl) := by rw [HKk.out]; exact hkn.out
    have d2 : ¬ ((bs : Nat) : Int) < (kl : Nat) := by omega
    go_wp2_with (go_at_call 43; refine (HBk.out _).mono ?_; rintro e1 wx ⟨rfl, hwx⟩; obtain rfl := hwx.symm)
    clear d0 d2
    generalize decide (bs < kl) = bq
    go_loopw [9, 10, 11] (fun v9 v10 vi wr => ∃ i c1 c2 : Nat, ∃ a1 a2 : Option Addr, i ≤ bs ∧ vi = .int .i64 i ∧ v9 = .slice a1 i c1 ∧ v10 = .slice a2 i c2 ∧ Hid (wr.ownsRow w.heap.size 5 1 (.slice a1 i c1) i (cellsU8 ((padL bs K 54).take i))) ∧ Hid (wr.ownsRow w.heap.size 5 1 (.slice a2 i c2) i (cellsU8 ((padL bs K 92).take i))) ∧ Hid (RowsApart (.slice a1 i c1) (.slice a2 i c2)) ∧ Hid (Below w.heap.size w wr)) (fun _ _ vi _ => bs - (intOf vi).toNat)
    case atStart => exact ⟨0, 0, 0, none, none, by omega, rfl, rfl, rfl, World.ownsRow_nil _ _ _ _, World.ownsRow_nil _ _ _ _, (fun b hb => by cases hb), Below.refl _ _⟩
    case round =>
      obtain ⟨i, c1, c2, a1, a2, hle, rfl, rfl, rfl, HI, HU, HA, HB3⟩ := hrel
      by_cases hlt : i < bs
      · by_cases hik : i < kl
        · obtain ⟨b, o, hab, hcb⟩ := view_block HK.out HKl.out (by omega)
          subst hab
          obtain ⟨x, HX⟩ : ∃ x, Hid (x = fnz K i) := ⟨_, rfl⟩
          have f0 : wr.cell? ⟨b, o + i, none⟩ = some (.int .u8 x) := by
            rw [HB3.out.cell (p := ⟨b, o + i, none⟩) (lt_of_cell (hcb i hik)), HX.out]
            exact hcb i hik
          clear hcb
          have hBa : Below wr.heap.size wr (wr.alloc (.cells #[.int .u8 (bits .xor .u8 x 54)] 5)) := (Below.refl _ _).alloc (Nat.le_refl _) _
          have HIa : Hid ((wr.alloc (.cells #[.int .u8 (bits .xor .u8 x 54)] 5)).ownsRow w.heap.size 5 1 (.slice a1 i c1) i (cellsU8 ((padL bs K 54).take i))) := owns_kept HI.out hBa
          have HUa : Hid ((wr.alloc (.cells #[.int .u8 (bits .xor .u8 x 54)] 5)).ownsRow w.heap.size 5 1 (.slice a2 i c2) i (cellsU8 ((padL bs K 92).take i))) := owns_kept HU.out hBa
          have HSa : Hid (w.heap.size ≤ (wr.alloc (.cells #[.int .u8 (bits .xor .u8 x 54)] 5)).heap.size) := Nat.le_trans HB3.out.size hBa.size
          have HBa : Hid (Below w.heap.size w (wr.alloc (.cells #[.int .u8 (bits .xor .u8 x 54)] 5))) := HB3.out.trans (hBa.mono HB3.out.size)
          clear hBa
          go_wp2_with (first | (at_builtin; go_must (refine wpList_append_own_at _ rfl (.tmp 39) (.tmp 42) 22 rfl w.heap.size 5 i0 (.int .u8 0) 1 1 Tryd.underlying22 hi hz0 hz1 hz2 rfl (by decide) _ i (cellsU8 ((padL bs K 54).take i)) rfl HIa.out ⟨wr.heap.size, 0, none⟩ 1 1 [.int .u8 (bits .xor .u8 x 54)] rfl rfl (one_cell wr _ _) (one_one _) (by unfold maxLen; omega) (by omega) HSa.out ?_)))
          intro v4 w4 hown4 hgrow4 hnil4 hat4
          have HB4 : Hid (Below w.heap.size w w4) := HBa.out.grown hgrow4 HSa.out (fun q hq => (HIa.out.lt q hq).1)
          have HU4 : Hid (w4.ownsRow w.heap.size 5 1 (.slice a2 i c2) i (cellsU8 ((padL bs K 92).take i))) := owns_other HUa.out hgrow4 HA.out
          have HA4 : Hid (RowsApart v4 (.slice a2 i c2)) := apart_step HUa.out HA.out hat4 (by rw [size_alloc]; omega)
          have ho4 : w4.ownsRow w.heap.size 5 1 v4 (i + 1) (cellsU8 ((padL bs K 54).take (i + 1))) := by
            rw [List.take_add_one, padL_at bs K 54 i hlt, cellsU8_append, ← HX.out]
            exact hown4
          obtain ⟨a4, c4, rfl⟩ := owns_slice ho4
          have HI4 : Hid (w4.ownsRow w.heap.size 5 1 (.slice a4 (i + 1) c4) (i + 1) (cellsU8 ((padL bs K 54).take (i + 1)))) := ho4
          clear hown4 hgrow4 hnil4 hat4 ho4 HIa HUa HSa HBa HI HU HB3 HA
          have hBb : Below w4.heap.size w4 (w4.alloc (.cells #[.int .u8 (bits .xor .u8 x 92)] 5)) := (Below.refl _ _).alloc (Nat.le_refl _) _
          have HIb : Hid ((w4.alloc (.cells #[.int .u8 (bits .xor .u8 x 92)] 5)).ownsRow w.heap.size 5 1 (.slice a4 (i + 1) c4) (i + 1) (cellsU8 ((padL bs K 54).take (i + 1)))) := owns_kept HI4.out hBb
          have HUb : Hid ((w4.alloc (.cells #[.int .u8 (bits .xor .u8 x 92)] 5)).ownsRow w.heap.size 5 1 (.slice a2 i c2) i (cellsU8 ((padL bs K 92).take i))) := owns_kept HU4.out hBb
          have HSb : Hid (w.heap.size ≤ (w4.alloc (.cells #[.int .u8 (bits .xor .u8 x 92)] 5)).heap.size) := Nat.le_trans HB4.out.size hBb.size
          have HBb : Hid (Below w.heap.size w (w4.alloc (.cells #[.int .u8 (bits .xor .u8 x 92)] 5))) := HB4.out.trans (hBb.mono HB4.out.size)
          clear hBb
          go_wp2_with (first | (at_builtin; go_must (refine wpList_append_own_at _ rfl (.tmp 44) (.tmp 47) 22 rfl w.heap.size 5 i0 (.int .u8 0) 1 1 Tryd.underlying22 hi hz0 hz1 hz2 rfl (by decide) _ i (cellsU8 ((padL bs K 92).take i)) rfl HUb.out ⟨w4.heap.size, 0, none⟩ 1 1 [.int .u8 (bits .xor .u8 x 92)] rfl rfl (one_cell w4 _ _) (one_one _) (by unfold maxLen; omega) (by omega) HSb.out ?_)))
          intro v6 w6 hown6 hgrow6 hnil6 hat6
          have HB6 : Hid (Below w.heap.size w w6) := HBb.out.grown hgrow6 HSb.out (fun q hq => (HUb.out.lt q hq).1)
          have HI6 : Hid (w6.ownsRow w.heap.size 5 1 (.slice a4 (i + 1) c4) (i + 1) (cellsU8 ((padL bs K 54).take (i + 1)))) := owns_other HIb.out hgrow6 HA4.out.symm
          have HA6 : Hid (RowsApart (.slice a4 (i + 1) c4) v6) := (apart_step HIb.out HA4.out.symm hat6 (by first | exact Nat.le_refl _ | (rw [size_alloc]; omega))).symm
          have ho6 : w6.ownsRow w.heap.size 5 1 v6 (i + 1) (cellsU8 ((padL bs K 92).take (i + 1))) := by
            rw [List.take_add_one, padL_at bs K 92 i hlt, cellsU8_append, ← HX.out]
            exact hown6
          obtain ⟨a6, c6, rfl⟩ := owns_slice ho6
          have HU6 : Hid (w6.ownsRow w.heap.size 5 1 (.slice a6 (i + 1) c6) (i + 1) (cellsU8 ((padL bs K 92).take (i + 1)))) := ho6
          clear hown6 hgrow6 hnil6 hat6 ho6 HIb HUb HSb HBb HI4 HU4 HB4 HA4
          go_wp2
          go_roundw
          case rel => exact ⟨i + 1, c4, c6, a4, a6, by omega, by go_num, rfl, rfl, HI6, HU6, HA6, HB6⟩
          case measure => simp [intOf]; omega
        · have HX : Hid ((0 : Int) = fnz K i) := by
            show _ = _
            rw [fnz, List.getD_eq_getElem?_getD, List.getElem?_eq_none (by rw [HKl.out]; omega)]
            rfl
          have d1 : ¬ ((i : Nat) : Int) < (kl : Nat) := by omega
          have hBa : Below wr.heap.size wr (wr.alloc (.cells #[.int .u8 (bits .xor .u8 0 54)] 5)) := (Below.refl _ _).alloc (Nat.le_refl _) _
          have HIa : Hid ((wr.alloc (.cells #[.int .u8 (bits .xor .u8 0 54)] 5)).ownsRow w.heap.size 5 1 (.slice a1 i c1) i (cellsU8 ((padL bs K 54).take i))) := owns_kept HI.out hBa
          have HUa : Hid ((wr.alloc (.cells #[.int .u8 (bits .xor .u8 0 54)] 5)).ownsRow w.heap.size 5 1 (.slice a2 i c2) i (cellsU8 ((padL bs K 92).take i))) := owns_kept HU.out hBa
          have HSa : Hid (w.heap.size ≤ (wr.alloc (.cells #[.int .u8 (bits .xor .u8 0 54)] 5)).heap.size) := Nat.le_trans HB3.out.size hBa.size
          have HBa : Hid (Below w.heap.size w (wr.alloc (.cells #[.int .u8 (bits .xor .u8 0 54)] 5))) := HB3.out.trans (hBa.mono HB3.out.size)
          clear hBa
          go_wp2_with (first | (at_builtin; go_must (refine wpList_append_own_at _ rfl (.tmp 39) (.tmp 42) 22 rfl w.heap.size 5 i0 (.int .u8 0) 1 1 Tryd.underlying22 hi hz0 hz1 hz2 rfl (by decide) _ i (cellsU8 ((padL bs K 54).take i)) rfl HIa.out ⟨wr.heap.size, 0, none⟩ 1 1 [.int .u8 (bits .xor .u8 0 54)] rfl rfl (one_cell wr _ _) (one_one _) (by unfold maxLen; omega) (by omega) HSa.out ?_)))
          intro v4 w4 hown4 hgrow4 hnil4 hat4
          have HB4 : Hid (Below w.heap.size w w4) := HBa.out.grown hgrow4 HSa.out (fun q hq => (HIa.out.lt q hq).1)
          have HU4 : Hid (w4.ownsRow w.heap.size 5 1 (.slice a2 i c2) i (cellsU8 ((padL bs K 92).take i))) := owns_other HUa.out hgrow4 HA.out
          have HA4 : Hid (RowsApart v4 (.slice a2 i c2)) := apart_step HUa.out HA.out hat4 (by rw [size_alloc]; omega)
          have ho4 : w4.ownsRow w.heap.size 5 1 v4 (i + 1) (cellsU8 ((padL bs K 54).take (i + 1))) := by
            rw [List.take_add_one, padL_at bs K 54 i hlt, cellsU8_append, ← HX.out]
            exact hown4
          obtain ⟨a4, c4, rfl⟩ := owns_slice ho4
          have HI4 : Hid (w4.ownsRow w.heap.size 5 1 (.slice a4 (i + 1) c4) (i + 1) (cellsU8 ((padL bs K 54).take (i + 1)))) := ho4
          clear hown4 hgrow4 hnil4 hat4 ho4 HIa HUa HSa HBa HI HU HB3 HA
          have hBb : Below w4.heap.size w4 (w4.alloc (.cells #[.int .u8 (bits .xor .u8 0 92)] 5)) := (Below.refl _ _).alloc (Nat.le_refl _) _
          have HIb : Hid ((w4.alloc (.cells #[.int .u8 (bits .xor .u8 0 92)] 5)).ownsRow w.heap.size 5 1 (.slice a4 (i + 1) c4) (i + 1) (cellsU8 ((padL bs K 54).take (i + 1)))) := owns_kept HI4.out hBb
          have HUb : Hid ((w4.alloc (.cells #[.int .u8 (bits .xor .u8 0 92)] 5)).ownsRow w.heap.size 5 1 (.slice a2 i c2) i (cellsU8 ((padL bs K 92).take i))) := owns_kept HU4.out hBb
          have HSb : Hid (w.heap.size ≤ (w4.alloc (.cells #[.int .u8 (bits .xor .u8 0 92)] 5)).heap.size) := Nat.le_trans HB4.out.size hBb.size
          have HBb : Hid (Below w.heap.size w (w4.alloc (.cells #[.int .u8 (bits .xor .u8 0 92)] 5))) := HB4.out.trans (hBb.mono HB4.out.size)
          clear hBb
          go_wp2_with (first | (at_builtin; go_must (refine wpList_append_own_at _ rfl (.tmp 44) (.tmp 47) 22 rfl w.heap.size 5 i0 (.int .u8 0) 1 1 Tryd.underlying22 hi hz0 hz1 hz2 rfl (by decide) _ i (cellsU8 ((padL bs K 92).take i)) rfl HUb.out ⟨w4.heap.size, 0, none⟩ 1 1 [.int .u8 (bits .xor .u8 0 92)] rfl rfl (one_cell w4 _ _) (one_one _) (by unfold maxLen; omega) (by omega) HSb.out ?_)))
          intro v6 w6 hown6 hgrow6 hnil6 hat6
          have HB6 : Hid (Below w.heap.size w w6) := HBb.out.grown hgrow6 HSb.out (fun q hq => (HUb.out.lt q hq).1)
          have HI6 : Hid (w6.ownsRow w.heap.size 5 1 (.slice a4 (i + 1) c4) (i + 1) (cellsU8 ((padL bs K 54).take (i + 1)))) := owns_other HIb.out hgrow6 HA4.out.symm
          have HA6 : Hid (RowsApart (.slice a4 (i + 1) c4) v6) := (apart_step HIb.out HA4.out.symm hat6 (by first | exact Nat.le_refl _ | (rw [size_alloc]; omega))).symm
          have ho6 : w6.ownsRow w.heap.size 5 1 v6 (i + 1) (cellsU8 ((padL bs K 92).take (i + 1))) := by
            rw [List.take_add_one, padL_at bs K 92 i hlt, cellsU8_append, ← HX.out]
            exact hown6
          obtain ⟨a6, c6, rfl⟩ := owns_slice ho6
          have HU6 : Hid (w6.ownsRow w.heap.size 5 1 (.slice a6 (i + 1) c6) (i + 1) (cellsU8 ((padL bs K 92).take (i + 1)))) := ho6
          clear hown6 hgrow6 hnil6 hat6 ho6 HIb HUb HSb HBb HI4 HU4 HB4 HA4
          go_wp2
          go_roundw
          case rel => exact ⟨i + 1, c4, c6, a4, a6, by omega, by go_num, rfl, rfl, HI6, HU6, HA6, HB6⟩
          case measure => simp [intOf]; omega
      · obtain rfl : i = bs := by omega
        have HI3 : Hid (wr.ownsRow w.heap.size 5 1 (.slice a1 i c1) i (cellsU8 (padL i K 54))) := by
          have q := HI.out
          rw [List.take_of_length_le (by rw [padL_length]; exact Nat.le_refl _)] at q
          exact q
        have HU3 : Hid (wr.ownsRow w.heap.size 5 1 (.slice a2 i c2) i (cellsU8 (padL i K 92))) := by
          have q := HU.out
          rw [List.take_of_length_le (by rw [padL_length]; exact Nat.le_refl _)] at q
          exact q
        clear HI HU
        rcases view_cases (hb.out.kept fun b hb => HB3.out.block b hb) HZl.out with ⟨rfl, rfl, rfl, hYn⟩ | ⟨ad, rfl, hc⟩
        · have HZn : Hid (zs = []) := hYn
          clear hYn
          go_wp2_with (first | (at_builtin; go_must (refine wpList_append_own_none rfl (.tmp 49) (.tmp 50) 22 rfl w.heap.size 5 i0 1 Tryd.underlying22 hi _ i (cellsU8 (padL i K 54)) rfl HI3.out rfl ?_)))
          have HI7 : Hid (wr.ownsRow w.heap.size 5 1 (.slice a1 i c1) i (cellsU8 (padL i K 54 ++ zs))) := by
            rw [HZn.out, List.append_nil]
            exact HI3.out
          have HB07 : Hid (Below w.heap.size w wr) := HB3.out
          have HD : Hid (Calls Tryd.prog 44 #[.int .i64 h, .slice a1 i c1] wr fun e w' => Hid (∃ v', e = .returned v' ∧ w'.ownsRow wr.heap.size 5 1 v' (szOf h) (cellsU8 (sumD h (padL i K 54 ++ zs))) ∧ Below wr.heap.size wr w')) := rsum_ok k.out _ _ wr (hR.out.below HB07.out hR2) (viewOwns HI7.out (by rw [List.length_append, padL_length, HZl.out]; try rfl)) (by rw [List.length_append, padL_length, HZl.out]; omega)
          go_upto_region 19 with (go_at_call 44; refine HD.out.mono ?_)
          intro e8 w8 hh
          obtain ⟨v8, rfl, ho8, hb8⟩ := hh.out
          have hsp := szOf_pos k.out
          obtain ⟨g8, c8, rfl⟩ := owns_some ho8 (by omega)
          have HU8 : Hid (w8.ownsRow w.heap.size 5 1 (.slice a2 i c2) i (cellsU8 (padL i K 92))) := owns_kept HU3.out hb8
          have HO8 : Hid (w8.ownsRow wr.heap.size 5 1 (.slice (some ⟨g8, 0, none⟩) (szOf h) c8) (szOf h) (cellsU8 (sumD h (padL i K 54 ++ zs)))) := ho8
          have HC8 : Hid (∀ j u, (cellsU8 (sumD h (padL i K 54 ++ zs)))[j]? = some u → w8.cell? ((⟨g8, 0, none⟩ : Addr).add j) = some u) := fun j u hj => ho8.cells (g := g8) rfl j u hj
          have HB8 : Hid (Below w.heap.size w w8) := HB3.out.trans (hb8.mono HB3.out.size)
          have HL8 : Hid ((sumD h (padL i K 54 ++ zs)).length = szOf h) := sumD_length h k.out _
          clear hh ho8 hb8 HD HU3 HI7
          go_wp2_with (first | (at_builtin; go_must (refine wpList_append_own _ rfl (.tmp 55) (.tmp 56) 22 rfl w.heap.size 5 i0 (.int .u8 0) 1 1 Tryd.underlying22 hi hz0 hz1 hz2 rfl (by decide) _ i (cellsU8 (padL i K 92)) rfl HU8.out ⟨g8, 0, none⟩ (szOf h) c8 (cellsU8 (sumD h (padL i K 54 ++ zs))) rfl (by rw [cellsU8_length, HL8.out, Nat.mul_one]) HC8.out (cellsU8_one _) (by unfold maxLen; omega) (by omega) HB8.out.size ?_)))
          intro v9 w9 hown9 hgrow9 hnil9
          have HB9 : Hid (Below w.heap.size w w9) := HB8.out.grown hgrow9 HB8.out.size (fun q hq => (HU8.out.lt q hq).1)
          have HB09 : Hid (Below w.heap.size w w9) := HB9.out
          have HO9 : Hid (w9.ownsRow w.heap.size 5 1 v9 (i + szOf h) (cellsU8 (padL i K 92 ++ sumD h (padL i K 54 ++ zs)))) := by
            rw [cellsU8_append]
            exact hown9
          clear hown9 hgrow9 hnil9 HU8 HO8 HC8 HB8
          have HE : Hid (Calls Tryd.prog 44 #[.int .i64 h, v9] w9 fun e w' => Hid (∃ v', e = .returned v' ∧ w'.ownsRow w9.heap.size 5 1 v' (szOf h) (cellsU8 (sumD h (padL i K 92 ++ sumD h (padL i K 54 ++ zs)))) ∧ Below w9.heap.size w9 w')) := rsum_ok k.out _ _ w9 (hR.out.below HB09.out hR2) (viewOwns HO9.out (by rw [List.length_append, padL_length, HL8.out])) (by rw [List.length_append, padL_length, HL8.out]; omega)
          go_wp2_with (go_at_call 44; refine HE.out.mono ?_)
          intro e10 w10 hh
          obtain ⟨v10, rfl, ho10, hb10⟩ := hh.out
          have HO10 : Hid (w10.ownsRow w.heap.size 5 1 v10 (szOf h) (cellsU8 (hmac h key zs))) := by
            rw [hmac_eq, ← HBs.out, ← HKe.out]
            exact owns_base ho10 HB09.out.size
          have HB010 : Hid (Below w.heap.size w w10) := HB09.out.trans (hb10.mono HB09.out.size)
          clear hh ho10 hb10 HE HO9
          go_wp2
          go_ret
          exact ⟨_, rfl, HO10.out, HB010.out⟩
        · have HC : Hid (∀ j u, (cellsU8 zs)[j]? = some u → wr.cell? (ad.add j) = some u) := hc
          clear hc
          go_wp2_with (first | (at_builtin; go_must (refine wpList_append_own_at _ rfl (.tmp 49) (.tmp 50) 22 rfl w.heap.size 5 i0 (.int .u8 0) 1 1 Tryd.underlying22 hi hz0 hz1 hz2 rfl (by decide) _ i (cellsU8 (padL i K 54)) rfl HI3.out ad zn zc (cellsU8 zs) rfl (by rw [cellsU8_length, HZl.out, Nat.mul_one]) HC.out (cellsU8_one _) (by unfold maxLen; omega) (by omega) HB3.out.size ?_)))
          intro v7 w7 hown7 hgrow7 hnil7 hat7
          obtain ⟨a7, c7, rfl⟩ := owns_slice hown7
          have HB7 : Hid (Below w.heap.size w w7) := HB3.out.grown hgrow7 HB3.out.size (fun q hq => (HI3.out.lt q hq).1)
          have HB07 : Hid (Below w.heap.size w w7) := HB7.out
          have HU7 : Hid (w7.ownsRow w.heap.size 5 1 (.slice a2 i c2) i (cellsU8 (padL i K 92))) := owns_other HU3.out hgrow7 HA.out
          have HI7 : Hid (w7.ownsRow w.heap.size 5 1 (.slice a7 (i + zn) c7) (i + zn) (cellsU8 (padL i K 54 ++ zs))) := by
            rw [cellsU8_append]
            exact hown7
          clear hown7 hgrow7 hnil7 hat7 HC HI3 HU3 HA HB3
          have HD : Hid (Calls Tryd.prog 44 #[.int .i64 h, .slice a7 (i + zn) c7] w7 fun e w' => Hid (∃ v', e = .returned v' ∧ w'.ownsRow w7.heap.size 5 1 v' (szOf h) (cellsU8 (sumD h (padL i K 54 ++ zs))) ∧ Below w7.heap.size w7 w')) := rsum_ok k.out _ _ w7 (hR.out.below HB07.out hR2) (viewOwns HI7.out (by rw [List.length_append, padL_length, HZl.out]; try rfl)) (by rw [List.length_append, padL_length, HZl.out]; omega)
          go_upto_region 19 with (go_at_call 44; refine HD.out.mono ?_)
          intro e8 w8 hh
          obtain ⟨v8, rfl, ho8, hb8⟩ := hh.out
          have hsp := szOf_pos k.out
          obtain ⟨g8, c8, rfl⟩ := owns_some ho8 (by omega)
          have HU8 : Hid (w8.ownsRow w.heap.size 5 1 (.slice a2 i c2) i (cellsU8 (padL i K 92))) := owns_kept HU7.out hb8
          have HO8 : Hid (w8.ownsRow w7.heap.size 5 1 (.slice (some ⟨g8, 0, none⟩) (szOf h) c8) (szOf h) (cellsU8 (sumD h (padL i K 54 ++ zs)))) := ho8
          have HC8 : Hid (∀ j u, (cellsU8 (sumD h (padL i K 54 ++ zs)))[j]? = some u → w8.cell? ((⟨g8, 0, none⟩ : Addr).add j) = some u) := fun j u hj => ho8.cells (g := g8) rfl j u hj
          have HB8 : Hid (Below w.heap.size w w8) := HB7.out.trans (hb8.mono HB7.out.size)
          have HL8 : Hid ((sumD h (padL i K 54 ++ zs)).length = szOf h) := sumD_length h k.out _
          clear hh ho8 hb8 HD HU7 HI7
          go_wp2_with (first | (at_builtin; go_must (refine wpList_append_own _ rfl (.tmp 55) (.tmp 56) 22 rfl w.heap.size 5 i0 (.int .u8 0) 1 1 Tryd.underlying22 hi hz0 hz1 hz2 rfl (by decide) _ i (cellsU8 (padL i K 92)) rfl HU8.out ⟨g8, 0, none⟩ (szOf h) c8 (cellsU8 (sumD h (padL i K 54 ++ zs))) rfl (by rw [cellsU8_length, HL8.out, Nat.mul_one]) HC8.out (cellsU8_one _) (by unfold maxLen; omega) (by omega) HB8.out.size ?_)))
          intro v9 w9 hown9 hgrow9 hnil9
          have HB9 : Hid (Below w.heap.size w w9) := HB8.out.grown hgrow9 HB8.out.size (fun q hq => (HU8.out.lt q hq).1)
          have HB09 : Hid (Below w.heap.size w w9) := HB9.out
          have HO9 : Hid (w9.ownsRow w.heap.size 5 1 v9 (i + szOf h) (cellsU8 (padL i K 92 ++ sumD h (padL i K 54 ++ zs)))) := by
            rw [cellsU8_append]
            exact hown9
          clear hown9 hgrow9 hnil9 HU8 HO8 HC8 HB8
          have HE : Hid (Calls Tryd.prog 44 #[.int .i64 h, v9] w9 fun e w' => Hid (∃ v', e = .returned v' ∧ w'.ownsRow w9.heap.size 5 1 v' (szOf h) (cellsU8 (sumD h (padL i K 92 ++ sumD h (padL i K 54 ++ zs)))) ∧ Below w9.heap.size w9 w')) := rsum_ok k.out _ _ w9 (hR.out.below HB09.out hR2) (viewOwns HO9.out (by rw [List.length_append, padL_length, HL8.out])) (by rw [List.length_append, padL_length, HL8.out]; omega)
          go_wp2_with (go_at_call 44; refine HE.out.mono ?_)
          intro e10 w10 hh
          obtain ⟨v10, rfl, ho10, hb10⟩ := hh.out
          have HO10 : Hid (w10.ownsRow w.heap.size 5 1 v10 (szOf h) (cellsU8 (hmac h key zs))) := by
            rw [hmac_eq, ← HBs.out, ← HKe.out]
            exact owns_base ho10 HB09.out.size
          have HB010 : Hid (Below w.heap.size w w10) := HB09.out.trans (hb10.mono HB09.out.size)
          clear hh ho10 hb10 HE HO9
          go_wp2
          go_ret
          exact ⟨_, rfl, HO10.out, HB010.out⟩
  · obtain ⟨K, HKe⟩ : ∃ K, Hid (K = keyOf h key) := ⟨_, rfl⟩
    have HKk : Hid (K = sumD h key) := by show _ = _; rw [HKe.out]; exact keyOf_long (by rw [hkn.out, ← HBs.out]; exact hlong)
    have d2 : ((bs : Nat) : Int) < (kn : Nat) := by omega
    have HS1 : Hid (Calls Tryd.prog 44 #[.int .i64 h, .slice ka0 kn kc0] w fun e w' => Hid (∃ v', e = .returned v' ∧ w'.ownsRow w.heap.size 5 1 v' (szOf h) (cellsU8 (sumD h key)) ∧ Below w.heap.size w w')) := rsum_ok k.out _ _ w hR.out hk.out (by rw [hkn.out]; exact hkl0)
    go_upto_region 7 with (first | (go_at_call 43; refine (HBk.out _).mono ?_; rintro e1 wx ⟨rfl, hwx⟩; obtain rfl := hwx.symm) | (go_at_call 44; refine HS1.out.mono ?_))
    intro e1 w1 hh
    obtain ⟨v1, rfl, ho1, hb1⟩ := hh.out
    obtain ⟨ka, kc, rfl⟩ := owns_slice ho1
    have hsz := szOf_pos k.out
    obtain ⟨kl, hkl⟩ : ∃ kl, kl = szOf h := ⟨_, rfl⟩
    rw [← hkl] at ho1 hsz ⊢
    have HK : Hid (View w1 (.slice ka kl kc) K) := by rw [HKk.out]; exact viewOwns ho1 (by rw [hkl]; exact sumD_length h k.out _)
    have HKl : Hid (K.length = kl) := by rw [HKk.out, hkl]; exact sumD_length h k.out _
    have HB1 : Hid (Below w.heap.size w w1) := hb1
    clear hh ho1 hb1 hkl HS1 d0 d2
    go_wp2
    go_loopw [9, 10, 11] (fun v9 v10 vi wr => ∃ i c1 c2 : Nat, ∃ a1 a2 : Option Addr, i ≤ bs ∧ vi = .int .i64 i ∧ v9 = .slice a1 i c1 ∧ v10 = .slice a2 i c2 ∧ Hid (wr.ownsRow w1.heap.size 5 1 (.slice a1 i c1) i (cellsU8 ((padL bs K 54).take i))) ∧ Hid (wr.ownsRow w1.heap.size 5 1 (.slice a2 i c2) i (cellsU8 ((padL bs K 92).take i))) ∧ Hid (RowsApart (.slice a1 i c1) (.slice a2 i c2)) ∧ Hid (Below w1.heap.size w1 wr)) (fun _ _ vi _ => bs - (intOf vi).toNat)
    case atStart => exact ⟨0, 0, 0, none, none, by omega, rfl, rfl, rfl, World.ownsRow_nil _ _ _ _, World.ownsRow_nil _ _ _ _, (fun b hb => by cases hb), Below.refl _ _⟩
    case round =>
      obtain ⟨i, c1, c2, a1, a2, hle, rfl, rfl, rfl, HI, HU, HA, HB3⟩ := hrel
      by_cases hlt : i < bs
      · by_cases hik : i < kl
        · obtain ⟨b, o, hab, hcb⟩ := view_block HK.out HKl.out (by omega)
          subst hab
          obtain ⟨x, HX⟩ : ∃ x, Hid (x = fnz K i) := ⟨_, rfl⟩
          have f0 : wr.cell? ⟨b, o + i, none⟩ = some (.int .u8 x) := by
            rw [HB3.out.cell (p := ⟨b, o + i, none⟩) (lt_of_cell (hcb i hik)), HX.out]
            exact hcb i hik
          clear hcb
          have hBa : Below wr.heap.size wr (wr.alloc (.cells #[.int .u8 (bits .xor .u8 x 54)] 5)) := (Below.refl _ _).alloc (Nat.le_refl _) _
          have HIa : Hid ((wr.alloc (.cells #[.int .u8 (bits .xor .u8 x 54)] 5)).ownsRow w1.heap.size 5 1 (.slice a1 i c1) i (cellsU8 ((padL bs K 54).take i))) := owns_kept HI.out hBa
          have HUa : Hid ((wr.alloc (.cells #[.int .u8 (bits .xor .u8 x 54)] 5)).ownsRow w1.heap.size 5 1 (.slice a2 i c2) i (cellsU8 ((padL bs K 92).take i))) := owns_kept HU.out hBa
          have HSa : Hid (w1.heap.size ≤ (wr.alloc (.cells #[.int .u8 (bits .xor .u8 x 54)] 5)).heap.size) := Nat.le_trans HB3.out.size hBa.size
          have HBa : Hid (Below w1.heap.size w1 (wr.alloc (.cells #[.int .u8 (bits .xor .u8 x 54)] 5))) := HB3.out.trans (hBa.mono HB3.out.size)
          clear hBa
          go_wp2_with (first | (at_builtin; go_must (refine wpList_append_own_at _ rfl (.tmp 39) (.tmp 42) 22 rfl w1.heap.size 5 i0 (.int .u8 0) 1 1 Tryd.underlying22 hi hz0 hz1 hz2 rfl (by decide) _ i (cellsU8 ((padL bs K 54).take i)) rfl HIa.out ⟨wr.heap.size, 0, none⟩ 1 1 [.int .u8 (bits .xor .u8 x 54)] rfl rfl (one_cell wr _ _) (one_one _) (by unfold maxLen; omega) (by omega) HSa.out ?_)))
          intro v4 w4 hown4 hgrow4 hnil4 hat4
          have HB4 : Hid (Below w1.heap.size w1 w4) := HBa.out.grown hgrow4 HSa.out (fun q hq => (HIa.out.lt q hq).1)
          have HU4 : Hid (w4.ownsRow w1.heap.size 5 1 (.slice a2 i c2) i (cellsU8 ((padL bs K 92).take i))) := owns_other HUa.out hgrow4 HA.out
          have HA4 : Hid (RowsApart v4 (.slice a2 i c2)) := apart_step HUa.out HA.out hat4 (by rw [size_alloc]; omega)
          have ho4 : w4.ownsRow w1.heap.size 5 1 v4 (i + 1) (cellsU8 ((padL bs K 54).take (i + 1))) := by
            rw [List.take_add_one, padL_at bs K 54 i hlt, cellsU8_append, ← HX.out]
            exact hown4
          obtain ⟨a4, c4, rfl⟩ := owns_slice ho4
          have HI4 : Hid (w4.ownsRow w1.heap.size 5 1 (.slice a4 (i + 1) c4) (i + 1) (cellsU8 ((padL bs K 54).take (i + 1)))) := ho4
          clear hown4 hgrow4 hnil4 hat4 ho4 HIa HUa HSa HBa HI HU HB3 HA
          have hBb : Below w4.heap.size w4 (w4.alloc (.cells #[.int .u8 (bits .xor .u8 x 92)] 5)) := (Below.refl _ _).alloc (Nat.le_refl _) _
          have HIb : Hid ((w4.alloc (.cells #[.int .u8 (bits .xor .u8 x 92)] 5)).ownsRow w1.heap.size 5 1 (.slice a4 (i + 1) c4) (i + 1) (cellsU8 ((padL bs K 54).take (i + 1)))) := owns_kept HI4.out hBb
          have HUb : Hid ((w4.alloc (.cells #[.int .u8 (bits .xor .u8 x 92)] 5)).ownsRow w1.heap.size 5 1 (.slice a2 i c2) i (cellsU8 ((padL bs K 92).take i))) := owns_kept HU4.out hBb
          have HSb : Hid (w1.heap.size ≤ (w4.alloc (.cells #[.int .u8 (bits .xor .u8 x 92)] 5)).heap.size) := Nat.le_trans HB4.out.size hBb.size
          have HBb : Hid (Below w1.heap.size w1 (w4.alloc (.cells #[.int .u8 (bits .xor .u8 x 92)] 5))) := HB4.out.trans (hBb.mono HB4.out.size)
          clear hBb
          go_wp2_with (first | (at_builtin; go_must (refine wpList_append_own_at _ rfl (.tmp 44) (.tmp 47) 22 rfl w1.heap.size 5 i0 (.int .u8 0) 1 1 Tryd.underlying22 hi hz0 hz1 hz2 rfl (by decide) _ i (cellsU8 ((padL bs K 92).take i)) rfl HUb.out ⟨w4.heap.size, 0, none⟩ 1 1 [.int .u8 (bits .xor .u8 x 92)] rfl rfl (one_cell w4 _ _) (one_one _) (by unfold maxLen; omega) (by omega) HSb.out ?_)))
          intro v6 w6 hown6 hgrow6 hnil6 hat6
          have HB6 : Hid (Below w1.heap.size w1 w6) := HBb.out.grown hgrow6 HSb.out (fun q hq => (HUb.out.lt q hq).1)
          have HI6 : Hid (w6.ownsRow w1.heap.size 5 1 (.slice a4 (i + 1) c4) (i + 1) (cellsU8 ((padL bs K 54).take (i + 1)))) := owns_other HIb.out hgrow6 HA4.out.symm
          have HA6 : Hid (RowsApart (.slice a4 (i + 1) c4) v6) := (apart_step HIb.out HA4.out.symm hat6 (by first | exact Nat.le_refl _ | (rw [size_alloc]; omega))).symm
          have ho6 : w6.ownsRow w1.heap.size 5 1 v6 (i + 1) (cellsU8 ((padL bs K 92).take (i + 1))) := by
            rw [List.take_add_one, padL_at bs K 92 i hlt, cellsU8_append, ← HX.out]
            exact hown6
          obtain ⟨a6, c6, rfl⟩ := owns_slice ho6
          have HU6 : Hid (w6.ownsRow w1.heap.size 5 1 (.slice a6 (i + 1) c6) (i + 1) (cellsU8 ((padL bs K 92).take (i + 1)))) := ho6
          clear hown6 hgrow6 hnil6 hat6 ho6 HIb HUb HSb HBb HI4 HU4 HB4 HA4
          go_wp2
          go_roundw
          case rel => exact ⟨i + 1, c4, c6, a4, a6, by omega, by go_num, rfl, rfl, HI6, HU6, HA6, HB6⟩
          case measure => simp [intOf]; omega
        · have HX : Hid ((0 : Int) = fnz K i) := by
            show _ = _
            rw [fnz, List.getD_eq_getElem?_getD, List.getElem?_eq_none (by rw [HKl.out]; omega)]
            rfl
          have d1 : ¬ ((i : Nat) : Int) < (kl : Nat) := by omega
          have hBa : Below wr.heap.size wr (wr.alloc (.cells #[.int .u8 (bits .xor .u8 0 54)] 5)) := (Below.refl _ _).alloc (Nat.le_refl _) _
          have HIa : Hid ((wr.alloc (.cells #[.int .u8 (bits .xor .u8 0 54)] 5)).ownsRow w1.heap.size 5 1 (.slice a1 i c1) i (cellsU8 ((padL bs K 54).take i))) := owns_kept HI.out hBa
          have HUa : Hid ((wr.alloc (.cells #[.int .u8 (bits .xor .u8 0 54)] 5)).ownsRow w1.heap.size 5 1 (.slice a2 i c2) i (cellsU8 ((padL bs K 92).take i))) := owns_kept HU.out hBa
          have HSa : Hid (w1.heap.size ≤ (wr.alloc (.cells #[.int .u8 (bits .xor .u8 0 54)] 5)).heap.size) := Nat.le_trans HB3.out.size hBa.size
          have HBa : Hid (Below w1.heap.size w1 (wr.alloc (.cells #[.int .u8 (bits .xor .u8 0 54)] 5))) := HB3.out.trans (hBa.mono HB3.out.size)
          clear hBa
          go_wp2_with (first | (at_builtin; go_must (refine wpList_append_own_at _ rfl (.tmp 39) (.tmp 42) 22 rfl w1.heap.size 5 i0 (.int .u8 0) 1 1 Tryd.underlying22 hi hz0 hz1 hz2 rfl (by decide) _ i (cellsU8 ((padL bs K 54).take i)) rfl HIa.out ⟨wr.heap.size, 0, none⟩ 1 1 [.int .u8 (bits .xor .u8 0 54)] rfl rfl (one_cell wr _ _) (one_one _) (by unfold maxLen; omega) (by omega) HSa.out ?_)))
          intro v4 w4 hown4 hgrow4 hnil4 hat4
          have HB4 : Hid (Below w1.heap.size w1 w4) := HBa.out.grown hgrow4 HSa.out (fun q hq => (HIa.out.lt q hq).1)
          have HU4 : Hid (w4.ownsRow w1.heap.size 5 1 (.slice a2 i c2) i (cellsU8 ((padL bs K 92).take i))) := owns_other HUa.out hgrow4 HA.out
          have HA4 : Hid (RowsApart v4 (.slice a2 i c2)) := apart_step HUa.out HA.out hat4 (by rw [size_alloc]; omega)
          have ho4 : w4.ownsRow w1.heap.size 5 1 v4 (i + 1) (cellsU8 ((padL bs K 54).take (i + 1))) := by
            rw [List.take_add_one, padL_at bs K 54 i hlt, cellsU8_append, ← HX.out]
            exact hown4
          obtain ⟨a4, c4, rfl⟩ := owns_slice ho4
          have HI4 : Hid (w4.ownsRow w1.heap.size 5 1 (.slice a4 (i + 1) c4) (i + 1) (cellsU8 ((padL bs K 54).take (i + 1)))) := ho4
          clear hown4 hgrow4 hnil4 hat4 ho4 HIa HUa HSa HBa HI HU HB3 HA
          have hBb : Below w4.heap.size w4 (w4.alloc (.cells #[.int .u8 (bits .xor .u8 0 92)] 5)) := (Below.refl _ _).alloc (Nat.le_refl _) _
          have HIb : Hid ((w4.alloc (.cells #[.int .u8 (bits .xor .u8 0 92)] 5)).ownsRow w1.heap.size 5 1 (.slice a4 (i + 1) c4) (i + 1) (cellsU8 ((padL bs K 54).take (i + 1)))) := owns_kept HI4.out hBb
          have HUb : Hid ((w4.alloc (.cells #[.int .u8 (bits .xor .u8 0 92)] 5)).ownsRow w1.heap.size 5 1 (.slice a2 i c2) i (cellsU8 ((padL bs K 92).take i))) := owns_kept HU4.out hBb
          have HSb : Hid (w1.heap.size ≤ (w4.alloc (.cells #[.int .u8 (bits .xor .u8 0 92)] 5)).heap.size) := Nat.le_trans HB4.out.size hBb.size
          have HBb : Hid (Below w1.heap.size w1 (w4.alloc (.cells #[.int .u8 (bits .xor .u8 0 92)] 5))) := HB4.out.trans (hBb.mono HB4.out.size)
          clear hBb
          go_wp2_with (first | (at_builtin; go_must (refine wpList_append_own_at _ rfl (.tmp 44) (.tmp 47) 22 rfl w1.heap.size 5 i0 (.int .u8 0) 1 1 Tryd.underlying22 hi hz0 hz1 hz2 rfl (by decide) _ i (cellsU8 ((padL bs K 92).take i)) rfl HUb.out ⟨w4.heap.size, 0, none⟩ 1 1 [.int .u8 (bits .xor .u8 0 92)] rfl rfl (one_cell w4 _ _) (one_one _) (by unfold maxLen; omega) (by omega) HSb.out ?_)))
          intro v6 w6 hown6 hgrow6 hnil6 hat6
          have HB6 : Hid (Below w1.heap.size w1 w6) := HBb.out.grown hgrow6 HSb.out (fun q hq => (HUb.out.lt q hq).1)
          have HI6 : Hid (w6.ownsRow w1.heap.size 5 1 (.slice a4 (i + 1) c4) (i + 1) (cellsU8 ((padL bs K 54).take (i + 1)))) := owns_other HIb.out hgrow6 HA4.out.symm
          have HA6 : Hid (RowsApart (.slice a4 (i + 1) c4) v6) := (apart_step HIb.out HA4.out.symm hat6 (by first | exact Nat.le_refl _ | (rw [size_alloc]; omega))).symm
          have ho6 : w6.ownsRow w1.heap.size 5 1 v6 (i + 1) (cellsU8 ((padL bs K 92).take (i + 1))) := by
            rw [List.take_add_one, padL_at bs K 92 i hlt, cellsU8_append, ← HX.out]
            exact hown6
          obtain ⟨a6, c6, rfl⟩ := owns_slice ho6
          have HU6 : Hid (w6.ownsRow w1.heap.size 5 1 (.slice a6 (i + 1) c6) (i + 1) (cellsU8 ((padL bs K 92).take (i + 1)))) := ho6
          clear hown6 hgrow6 hnil6 hat6 ho6 HIb HUb HSb HBb HI4 HU4 HB4 HA4
          go_wp2
          go_roundw
          case rel => exact ⟨i + 1, c4, c6, a4, a6, by omega, by go_num, rfl, rfl, HI6, HU6, HA6, HB6⟩
          case measure => simp [intOf]; omega
      · obtain rfl : i = bs := by omega
        have HI3 : Hid (wr.ownsRow w1.heap.size 5 1 (.slice a1 i c1) i (cellsU8 (padL i K 54))) := by
          have q := HI.out
          rw [List.take_of_length_le (by rw [padL_length]; exact Nat.le_refl _)] at q
          exact q
        have HU3 : Hid (wr.ownsRow w1.heap.size 5 1 (.slice a2 i c2) i (cellsU8 (padL i K 92))) := by
          have q := HU.out
          rw [List.take_of_length_le (by rw [padL_length]; exact Nat.le_refl _)] at q
          exact q
        clear HI HU
        rcases view_cases (hb.out.kept fun b hb => (HB1.out.trans (HB3.out.mono HB1.out.size)).block b hb) HZl.out with ⟨rfl, rfl, rfl, hYn⟩ | ⟨ad, rfl, hc⟩
        · have HZn : Hid (zs = []) := hYn
          clear hYn
          go_wp2_with (first | (at_builtin; go_must (refine wpList_append_own_none rfl (.tmp 49) (.tmp 50) 22 rfl w1.heap.size 5 i0 1 Tryd.underlying22 hi _ i (cellsU8 (padL i K 54)) rfl HI3.out rfl ?_)))
          have HI7 : Hid (wr.ownsRow w1.heap.size 5 1 (.slice a1 i c1) i (cellsU8 (padL i K 54 ++ zs))) := by
            rw [HZn.out, List.append_nil]
            exact HI3.out
          have HB07 : Hid (Below w.heap.size w wr) := HB1.out.trans (HB3.out.mono HB1.out.size)
          have HD : Hid (Calls Tryd.prog 44 #[.int .i64 h, .slice a1 i c1] wr fun e w' => Hid (∃ v', e = .returned v' ∧ w'.ownsRow wr.heap.size 5 1 v' (szOf h) (cellsU8 (sumD h (padL i K 54 ++ zs))) ∧ Below wr.heap.size wr w')) := rsum_ok k.out _ _ wr (hR.out.below HB07.out hR2) (viewOwns HI7.out (by rw [List.length_append, padL_length, HZl.out]; try rfl)) (by rw [List.length_append, padL_length, HZl.out]; omega)
          go_upto_region 19 with (go_at_call 44; refine HD.out.mono ?_)
          intro e8 w8 hh
          obtain ⟨v8, rfl, ho8, hb8⟩ := hh.out
          have hsp := szOf_pos k.out
          obtain ⟨g8, c8, rfl⟩ := owns_some ho8 (by omega)
          have HU8 : Hid (w8.ownsRow w1.heap.size 5 1 (.slice a2 i c2) i (cellsU8 (padL i K 92))) := owns_kept HU3.out hb8
          have HO8 : Hid (w8.ownsRow wr.heap.size 5 1 (.slice (some ⟨g8, 0, none⟩) (szOf h) c8) (szOf h) (cellsU8 (sumD h (padL i K 54 ++ zs)))) := ho8
          have HC8 : Hid (∀ j u, (cellsU8 (sumD h (padL i K 54 ++ zs)))[j]? = some u → w8.cell? ((⟨g8, 0, none⟩ : Addr).add j) = some u) := fun j u hj => ho8.cells (g := g8) rfl j u hj
          have HB8 : Hid (Below w1.heap.size w1 w8) := HB3.out.trans (hb8.mono HB3.out.size)
          have HL8 : Hid ((sumD h (padL i K 54 ++ zs)).length = szOf h) := sumD_length h k.out _
          clear hh ho8 hb8 HD HU3 HI7
          go_wp2_with (first | (at_builtin; go_must (refine wpList_append_own _ rfl (.tmp 55) (.tmp 56) 22 rfl w1.heap.size 5 i0 (.int .u8 0) 1 1 Tryd.underlying22 hi hz0 hz1 hz2 rfl (by decide) _ i (cellsU8 (padL i K 92)) rfl HU8.out ⟨g8, 0, none⟩ (szOf h) c8 (cellsU8 (sumD h (padL i K 54 ++ zs))) rfl (by rw [cellsU8_length, HL8.out, Nat.mul_one]) HC8.out (cellsU8_one _) (by unfold maxLen; omega) (by omega) HB8.out.size ?_)))
          intro v9 w9 hown9 hgrow9 hnil9
          have HB9 : Hid (Below w1.heap.size w1 w9) := HB8.out.grown hgrow9 HB8.out.size (fun q hq => (HU8.out.lt q hq).1)
          have HB09 : Hid (Below w.heap.size w w9) := HB1.out.trans (HB9.out.mono HB1.out.size)
          have HO9 : Hid (w9.ownsRow w1.heap.size 5 1 v9 (i + szOf h) (cellsU8 (padL i K 92 ++ sumD h (padL i K 54 ++ zs)))) := by
            rw [cellsU8_append]
            exact hown9
          clear hown9 hgrow9 hnil9 HU8 HO8 HC8 HB8
          have HE : Hid (Calls Tryd.prog 44 #[.int .i64 h, v9] w9 fun e w' => Hid (∃ v', e = .returned v' ∧ w'.ownsRow w9.heap.size 5 1 v' (szOf h) (cellsU8 (sumD h (padL i K 92 ++ sumD h (padL i K 54 ++ zs)))) ∧ Below w9.heap.size w9 w')) := rsum_ok k.out _ _ w9 (hR.out.below HB09.out hR2) (viewOwns HO9.out (by rw [List.length_append, padL_length, HL8.out])) (by rw [List.length_append, padL_length, HL8.out]; omega)
          go_wp2_with (go_at_call 44; refine HE.out.mono ?_)
          intro e10 w10 hh
          obtain ⟨v10, rfl, ho10, hb10⟩ := hh.out
          have HO10 : Hid (w10.ownsRow w.heap.size 5 1 v10 (szOf h) (cellsU8 (hmac h key zs))) := by
            rw [hmac_eq, ← HBs.out, ← HKe.out]
            exact owns_base ho10 HB09.out.size
          have HB010 : Hid (Below w.heap.size w w10) := HB09.out.trans (hb10.mono HB09.out.size)
          clear hh ho10 hb10 HE HO9
          go_wp2
          go_ret
          exact ⟨_, rfl, HO10.out, HB010.out⟩
        · have HC : Hid (∀ j u, (cellsU8 zs)[j]? = some u → wr.cell? (ad.add j) = some u) := hc
          clear hc
          go_wp2_with (first | (at_builtin; go_must (refine wpList_append_own_at _ rfl (.tmp 49) (.tmp 50) 22 rfl w1.heap.size 5 i0 (.int .u8 0) 1 1 Tryd.underlying22 hi hz0 hz1 hz2 rfl (by decide) _ i (cellsU8 (padL i K 54)) rfl HI3.out ad zn zc (cellsU8 zs) rfl (by rw [cellsU8_length, HZl.out, Nat.mul_one]) HC.out (cellsU8_one _) (by unfold maxLen; omega) (by omega) HB3.out.size ?_)))
          intro v7 w7 hown7 hgrow7 hnil7 hat7
          obtain ⟨a7, c7, rfl⟩ := owns_slice hown7
          have HB7 : Hid (Below w1.heap.size w1 w7) := HB3.out.grown hgrow7 HB3.out.size (fun q hq => (HI3.out.lt q hq).1)
          have HB07 : Hid (Below w.heap.size w w7) := HB1.out.trans (HB7.out.mono HB1.out.size)
          have HU7 : Hid (w7.ownsRow w1.heap.size 5 1 (.slice a2 i c2) i (cellsU8 (padL i K 92))) := owns_other HU3.out hgrow7 HA.out
          have HI7 : Hid (w7.ownsRow w1.heap.size 5 1 (.slice a7 (i + zn) c7) (i + zn) (cellsU8 (padL i K 54 ++ zs))) := by
            rw [cellsU8_append]
            exact hown7
          clear hown7 hgrow7 hnil7 hat7 HC HI3 HU3 HA HB3
          have HD : Hid (Calls Tryd.prog 44 #[.int .i64 h, .slice a7 (i + zn) c7] w7 fun e w' => Hid (∃ v', e = .returned v' ∧ w'.ownsRow w7.heap.size 5 1 v' (szOf h) (cellsU8 (sumD h (padL i K 54 ++ zs))) ∧ Below w7.heap.size w7 w')) := rsum_ok k.out _ _ w7 (hR.out.below HB07.out hR2) (viewOwns HI7.out (by rw [List.length_append, padL_length, HZl.out]; try rfl)) (by rw [List.length_append, padL_length, HZl.out]; omega)
          go_upto_region 19 with (go_at_call 44; refine HD.out.mono ?_)
          intro e8 w8 hh
          obtain ⟨v8, rfl, ho8, hb8⟩ := hh.out
          have hsp := szOf_pos k.out
          obtain ⟨g8, c8, rfl⟩ := owns_some ho8 (by omega)
          have HU8 : Hid (w8.ownsRow w1.heap.size 5 1 (.slice a2 i c2) i (cellsU8 (padL i K 92))) := owns_kept HU7.out hb8
          have HO8 : Hid (w8.ownsRow w7.heap.size 5 1 (.slice (some ⟨g8, 0, none⟩) (szOf h) c8) (szOf h) (cellsU8 (sumD h (padL i K 54 ++ zs)))) := ho8
          have HC8 : Hid (∀ j u, (cellsU8 (sumD h (padL i K 54 ++ zs)))[j]? = some u → w8.cell? ((⟨g8, 0, none⟩ : Addr).add j) = some u) := fun j u hj => ho8.cells (g := g8) rfl j u hj
          have HB8 : Hid (Below w1.heap.size w1 w8) := HB7.out.trans (hb8.mono HB7.out.size)
          have HL8 : Hid ((sumD h (padL i K 54 ++ zs)).length = szOf h) := sumD_length h k.out _
          clear hh ho8 hb8 HD HU7 HI7
          go_wp2_with (first | (at_builtin; go_must (refine wpList_append_own _ rfl (.tmp 55) (.tmp 56) 22 rfl w1.heap.size 5 i0 (.int .u8 0) 1 1 Tryd.underlying22 hi hz0 hz1 hz2 rfl (by decide) _ i (cellsU8 (padL i K 92)) rfl HU8.out ⟨g8, 0, none⟩ (szOf h) c8 (cellsU8 (sumD h (padL i K 54 ++ zs))) rfl (by rw [cellsU8_length, HL8.out, Nat.mul_one]) HC8.out (cellsU8_one _) (by unfold maxLen; omega) (by omega) HB8.out.size ?_)))
          intro v9 w9 hown9 hgrow9 hnil9
          have HB9 : Hid (Below w1.heap.size w1 w9) := HB8.out.grown hgrow9 HB8.out.size (fun q hq => (HU8.out.lt q hq).1)
          have HB09 : Hid (Below w.heap.size w w9) := HB1.out.trans (HB9.out.mono HB1.out.size)
          have HO9 : Hid (w9.ownsRow w1.heap.size 5 1 v9 (i + szOf h) (cellsU8 (padL i K 92 ++ sumD h (padL i K 54 ++ zs)))) := by
            rw [cellsU8_append]
            exact hown9
          clear hown9 hgrow9 hnil9 HU8 HO8 HC8 HB8
          have HE : Hid (Calls Tryd.prog 44 #[.int .i64 h, v9] w9 fun e w' => Hid (∃ v', e = .returned v' ∧ w'.ownsRow w9.heap.size 5 1 v' (szOf h) (cellsU8 (sumD h (padL i K 92 ++ sumD h (padL i K 54 ++ zs)))) ∧ Below w9.heap.size w9 w')) := rsum_ok k.out _ _ w9 (hR.out.below HB09.out hR2) (viewOwns HO9.out (by rw [List.length_append, padL_length, HL8.out])) (by rw [List.length_append, padL_length, HL8.out]; omega)
          go_wp2_with (go_at_call 44; refine HE.out.mono ?_)
          intro e10 w10 hh
          obtain ⟨v10, rfl, ho10, hb10⟩ := hh.out
          have HO10 : Hid (w10.ownsRow w.heap.size 5 1 v10 (szOf h) (cellsU8 (hmac h key zs))) := by
            rw [hmac_eq, ← HBs.out, ← HKe.out]
            exact owns_base ho10 HB09.out.size
          have HB010 : Hid (Below w.heap.size w w10) := HB09.out.trans (hb10.mono HB09.out.size)
          clear hh ho10 hb10 HE HO9
          go_wp2
          go_ret
          exact ⟨_, rfl, HO10.out, HB010.out⟩
end Go.Proofs.YtkeklmkaleomkaaDoor
namespace Go.Proofs.YtkeklmkaleomkaaDoor
open Go.RowKit
set_option linter.unusedVariables false
set_option linter.unusedSimpArgs false

theorem below_alloc1 (u : World) (o : Obj) : Below u.heap.size u (u.alloc o) := (Below.refl _ _).alloc (Nat.le_refl _) o
theorem size_alloc1 (u : World) (o : Obj) : (u.alloc o).heap.size = u.heap.size + 1 := by simp
theorem owns_lt {w : World} {B n : Nat} {b : Nat} {l c : Nat} {xs : List Value} (h : w.ownsRow B 5 1 (.slice (some ⟨b, 0, none⟩) l c) n xs) : B ≤ b ∧ b < w.heap.size := by
  rcases h.2 with ⟨h, _⟩ | ⟨g', c', cur, he, h1, h2, _⟩
  · cases h
  · injection he with e1 e2 e3
    injection e1 with e1
    injection e1 with e4 _
    subst e4
    exact ⟨h1, (Array.getElem?_eq_some_iff.1 h2).1⟩
theorem dig_length {h : Int} (k : Known h) (zs : List Int) : (dig h zs).length = szOf h := by have := szOf_le k; simp [dig, spellL_length]; omega
theorem macL_length {h : Int} (k : Known h) (si so : Eight) (zs : List Int) : (macL h si so zs).length = szOf h := by have := szOf_le k; simp [macL, spellL_length]; omega
/-- digest.Code of one part. -/
theorem dcode1 {h : Int} (k : Known h) (u : World) (t : TypeId) (kv : Value) (key : List Int) (x : Value) (ys : List Int) (hkv : View u kv key) (hkl : key.length ≤ 33554432) (hx : View u x ys) (hT : Tables u) (hl : ys.length ≤ 33554432) :
    Calls Tryd.prog 51 #[.int .i64 h, kv, .slice (some ⟨u.heap.size, 0, none⟩) 1 1] (u.alloc (.cells #[x] t)) fun e w' => ∃ b, e = .returned (.tuple #[.slice (some ⟨b, 0, none⟩) (szOf h) (szOf h), .int .i64 0]) ∧ u.heap.size ≤ b ∧ b < w'.heap.size ∧ View w' (.slice (some ⟨b, 0, none⟩) (szOf h) (szOf h)) (hmac h key ys) ∧ Below u.heap.size u w' := by
  refine (dcode h kv key [ys] _ _ k (hkv.kept (fun q hq => Below.heap_alloc u _ q hq)) hkl (fun v g hb hg => ?_) (hT.below (below_alloc1 u _) hT.size) (by show _ ≤ _; simpa using hl)).mono ?_
  · rw [size_alloc1] at hg
    exact parts_keep (parts1_alloc t x ys g hx (by omega) (fun h0 b off l c e => by have := view_lt hx h0 b off l c e; omega)) (fun q hq => hb.block q hq)
  · rintro e w' ⟨b, rfl, ho, hb⟩
    rw [size_alloc1] at ho hb
    have h1 := owns_lt ho
    refine ⟨b, rfl, by omega, h1.2, ?_, (below_alloc1 u _).trans (hb.mono (by omega))⟩
    have := owns_view (by rw [hmac, macL_length k]) ho
    simpa using this
section
variable {w w4 u : World} {s0 m0 gs gm : Nat} {h : Int} {si so : Eight} {zs zm : List Int}
/-- Mac.Write of one part. -/
theorem Run.mwrite1 (r : Run w w4 u s0 m0 gs gm h si so zs zm) (k : Known h) (hT : Tables w) (t : TypeId) (x : Value) (ys : List Int) (hx : View u x ys) (hox : ys ≠ [] → ∀ b off l c, x = .slice (some ⟨b, off, none⟩) l c → b ≠ gm) (hl : zm.length + ys.length ≤ 33554432) :
    Calls Tryd.prog 54 #[.pointer (some ⟨gm, 0, none⟩), .slice (some ⟨u.heap.size, 0, none⟩) 1 1] (u.alloc (.cells #[x] t)) fun e w' => e = .returned (.int .i64 0) ∧ Run w w4 w' s0 m0 gs gm h si so zs (zm ++ ys) ∧ (∀ q, q < u.heap.size → q ≠ gm → w'.heap[q]? = u.heap[q]?) := by
  have ra := r.below (below_alloc1 u (.cells #[x] t))
  have hlt := r.mr.1.lt
  refine (mwrite gm h si so zm [ys] _ _ k ra.mr (parts1_alloc t x ys gm hx (by omega) hox) (ra.tables hT) (Nat.le_trans hT.size r.mB) (by show _ ≤ _; simpa using hl)).mono ?_
  rintro e w' ⟨rfl, ht, hr⟩
  refine ⟨rfl, ra.touchM ht (by simpa using hr), fun q hq hne => ?_⟩
  rw [ht.block q (by rw [size_alloc1]; omega) hne]
  exact Below.heap_alloc u _ q hq
theorem Run.mwrite2 (r : Run w w4 u s0 m0 gs gm h si so zs zm) (k : Known h) (hT : Tables w) (t : TypeId) (x y : Value) (ys ys2 : List Int) (hx : View u x ys) (hy : View u y ys2) (hox : ys ≠ [] → ∀ b off l c, x = .slice (some ⟨b, off, none⟩) l c → b ≠ gm) (hoy : ys2 ≠ [] → ∀ b off l c, y = .slice (some ⟨b, off, none⟩) l c → b ≠ gm) (hl : zm.length + (ys ++ ys2).length ≤ 33554432) :
    Calls Tryd.prog 54 #[.pointer (some ⟨gm, 0, none⟩), .slice (some ⟨u.heap.size, 0, none⟩) 2 2] (u.alloc (.cells #[x, y] t)) fun e w' => e = .returned (.int .i64 0) ∧ Run w w4 w' s0 m0 gs gm h si so zs (zm ++ (ys ++ ys2)) ∧ (∀ q, q < u.heap.size → q ≠ gm → w'.heap[q]? = u.heap[q]?) := by
  have ra := r.below (below_alloc1 u (.cells #[x, y] t))
  have hlt := r.mr.1.lt
  refine (mwrite gm h si so zm [ys, ys2] _ _ k ra.mr (parts2_alloc t x y ys ys2 gm hx hy (by omega) hox hoy) (ra.tables hT) (Nat.le_trans hT.size r.mB) (by show _ ≤ _; simpa using hl)).mono ?_
  rintro e w' ⟨rfl, ht, hr⟩
  refine ⟨rfl, ra.touchM ht (by simpa using hr), fun q hq hne => ?_⟩
  rw [ht.block q (by rw [size_alloc1]; omega) hne]
  exact Below.heap_alloc u _ q hq
/-- Mac.Sum. -/
theorem Run.msum (r : Run w w4 u s0 m0 gs gm h si so zs zm) (k : Known h) (hT : Tables w) (hl : zm.length ≤ 33554432) :
    Calls Tryd.prog 55 #[.pointer (some ⟨gm, 0, none⟩)] u fun e w' => ∃ b, e = .returned (.slice (some ⟨b, 0, none⟩) (szOf h) (szOf h)) ∧ View w' (.slice (some ⟨b, 0, none⟩) (szOf h) (szOf h)) (macL h si so zm) ∧ Run w w4 w' s0 m0 gs gm h si so zs zm ∧ Below u.heap.size u w' := by
  refine (Go.Proofs.YtkeklmkaleomkaaDoor.msum gm h si so zm u k r.mr (r.tables hT) (by show _ ≤ _; omega)).mono ?_
  rintro e w' ⟨b, rfl, ho, hb⟩
  exact ⟨b, rfl, owns_view (by rw [macL_length k]) ho, r.below hb, hb⟩
theorem Run.copyM (r : Run w w4 u s0 m0 gs gm h si so zs zm) :
    Calls Tryd.prog 61 #[.pointer (some ⟨gm, 0, none⟩)] u fun e w' => ∃ g', e = .returned (.pointer (some ⟨g', 0, none⟩)) ∧ Run w w4 w' s0 m0 gs g' h si so zs zm := by
  refine (mcopy gm h si so zm u r.mr).mono ?_
  rintro e w' ⟨g', rfl, hg, hr, hb⟩
  have ra := r.below hb
  have := r.sr.lt
  exact ⟨g', rfl, ra.bel, ra.size, ra.kept, ra.gsW, .inr (Nat.le_trans r.size hg), by omega, ra.sB, Nat.le_trans r.bel.size hg, ra.sr, hr⟩
end
theorem same_yes (v1 v2 : Value) (xs : List Int) (w : World) (h1 : View w v1 xs) (h2 : View w v2 xs) : Calls Tryd.prog 13 #[v1, v2] w fun e w' => e = .returned (.bool true) ∧ Sm w w' := by
  refine (same_any v1 v2 xs xs w h1 h2).mono ?_
  rintro e w' ⟨rfl, m, rfl⟩
  exact ⟨by rw [decide_eq_true rfl], (Sm.refl w).drewN m⟩
end Go.Proofs.YtkeklmkaleomkaaDoor
namespace Go.Proofs.YtkeklmkaleomkaaDoor
open Go.RowKit
set_option linter.unusedVariables false
set_option linter.unusedSimpArgs false
/-- The first n of a row of numbers. -/
def fL (f : Nat → Int) (n : Nat) : List Int := (List.range n).map f
theorem fL_length (f : Nat → Int) (n : Nat) : (fL f n).length = n := by simp [fL]
theorem fL_get (f : Nat → Int) (n i : Nat) (h : i < n) : (fL f n).getD i 0 = f i := by simp [fL, List.getD, h]
theorem fL_take (f : Nat → Int) (n m : Nat) (h : n ≤ m) : (fL f m).take n = fL f n := by
  refine ext_getD (n := n) (by simp [fL_length]; omega) (fL_length _ _) (fun j hj => ?_)
  rw [fL_get f n j hj]
  have h1 := fL_get f m j (by omega)
  rw [List.getD_eq_getElem?_getD] at h1 ⊢
  rw [List.getElem?_take, if_pos hj]
  exact h1
/-- A list laid over a row. -/
def over (f : Nat → Int) (z : List Int) (i : Nat) : Int := if i < z.length then z.getD i 0 else f i
/-- A state, and the rest of a spring. -/
structure SpAt (w : World) (g : Nat) (h : Int) (K V : Nat → Int) (L c : Int) : Prop where
  hash : w.cell? ⟨g, 0, none⟩ = some (.int .i64 h)
  key : ∀ i, i < 64 → w.cell? ⟨g, 1 + i, none⟩ = some (.int .u8 (K i))
  val : ∀ i, i < 64 → w.cell? ⟨g, 65 + i, none⟩ = some (.int .u8 (V i))
  lim : w.cell? ⟨g, 129, none⟩ = some (.int .i64 L)
  cnt : w.cell? ⟨g, 130, none⟩ = some (.int .i64 c)
  there : w.there g 0 131
theorem SpAt.lt {w : World} {g : Nat} {h : Int} {K V : Nat → Int} {L c : Int} (s : SpAt w g h K V L c) : g < w.heap.size := lt_of_cell s.hash
theorem SpAt.block {w v : World} {g : Nat} {h : Int} {K V : Nat → Int} {L c : Int} (s : SpAt w g h K V L c) (hb : v.heap[g]? = w.heap[g]?) : SpAt v g h K V L c := by
  have hc : ∀ j, v.cell? ⟨g, j, none⟩ = w.cell? ⟨g, j, none⟩ := fun j => World.cell?_of_block (a := ⟨g, j, none⟩) hb
  have hf : ∀ j, v.frozen? ⟨g, j, none⟩ = w.frozen? ⟨g, j, none⟩ := fun j => World.frozen?_of_block (a := ⟨g, j, none⟩) hb
  exact ⟨by rw [hc]; exact s.hash, fun i hi => by rw [hc]; exact s.key i hi, fun i hi => by rw [hc]; exact s.val i hi, by rw [hc]; exact s.lim, by rw [hc]; exact s.cnt, fun j hj => by rw [hc, hf]; exact s.there j hj⟩
theorem SpAt.below {w v : World} {g : Nat} {h : Int} {K V : Nat → Int} {L c : Int} (s : SpAt w g h K V L c) (b : Below w.heap.size w v) : SpAt v g h K V L c := s.block (b.block g s.lt)
theorem over_lt {f : Nat → Int} {z : List Int} {i : Nat} (h : i < z.length) : over f z i = z.getD i 0 := by simp [over, h]
theorem over_ge {f : Nat → Int} {z : List Int} {i : Nat} (h : ¬ i < z.length) : over f z i = f i := by simp [over, h]
theorem cellU8_at {zs : List Int} {j : Nat} (h : j < zs.length) : (cellsU8 zs)[j]? = some (.int .u8 (zs.getD j 0)) := by simp [cellsU8, List.getD, List.getElem?_eq_getElem h]
/-- Bytes laid over the key. -/
theorem SpAt.setK {w : World} {g : Nat} {h : Int} {K V : Nat → Int} {L c : Int} (s : SpAt w g h K V L c) (z : List Int) (hz : z.length ≤ 64) : SpAt (w.setCells g 1 (cellsU8 z)) g h (over K z) V L c := by
  have hl : (cellsU8 z).length = z.length := cellsU8_length z
  have out : ∀ j, (j < 1 ∨ 1 + z.length ≤ j) → (w.setCells g 1 (cellsU8 z)).cell? ⟨g, j, none⟩ = w.cell? ⟨g, j, none⟩ := fun j hj => World.cell?_setCells_out g _ 1 w ⟨g, j, none⟩ (fun _ _ => by rw [hl]; exact hj)
  refine ⟨by rw [out 0 (by omega)]; exact s.hash, fun i hi => ?_, fun i hi => by rw [out _ (by omega)]; exact s.val i hi, by rw [out _ (by omega)]; exact s.lim, by rw [out _ (by omega)]; exact s.cnt, World.there_setCells s.there _ _ _⟩
  by_cases hc : i < z.length
  · rw [over_lt hc]
    have hth : w.there g 1 (cellsU8 z).length := fun j hj => by
      have q := s.there (1 + j) (by rw [hl] at hj; omega)
      rwa [Nat.zero_add] at q
    exact World.rangeAt_setCells_same w g 1 (cellsU8 z) hth i _ (cellU8_at hc)
  · rw [over_ge hc, out _ (by omega)]
    exact s.key i hi
/-- Bytes laid over the value. -/
theorem SpAt.setV {w : World} {g : Nat} {h : Int} {K V : Nat → Int} {L c : Int} (s : SpAt w g h K V L c) (z : List Int) (hz : z.length ≤ 64) : SpAt (w.setCells g 65 (cellsU8 z)) g h K (over V z) L c := by
  have hl : (cellsU8 z).length = z.length := cellsU8_length z
  have out : ∀ j, (j < 65 ∨ 65 + z.length ≤ j) → (w.setCells g 65 (cellsU8 z)).cell? ⟨g, j, none⟩ = w.cell? ⟨g, j, none⟩ := fun j hj => World.cell?_setCells_out g _ 65 w ⟨g, j, none⟩ (fun _ _ => by rw [hl]; exact hj)
  refine ⟨by rw [out 0 (by omega)]; exact s.hash, fun i hi => by rw [out _ (by omega)]; exact s.key i hi, fun i hi => ?_, by rw [out _ (by omega)]; exact s.lim, by rw [out _ (by omega)]; exact s.cnt, World.there_setCells s.there _ _ _⟩
  by_cases hc : i < z.length
  · rw [over_lt hc]
    have hth : w.there g 65 (cellsU8 z).length := fun j hj => by
      have q := s.there (65 + j) (by rw [hl] at hj; omega)
      rwa [Nat.zero_add] at q
    exact World.rangeAt_setCells_same w g 65 (cellsU8 z) hth i _ (cellU8_at hc)
  · rw [over_ge hc, out _ (by omega)]
    exact s.val i hi
theorem SpAt.viewK {w : World} {g : Nat} {h : Int} {K V : Nat → Int} {L c : Int} (s : SpAt w g h K V L c) (n : Nat) (hn : n ≤ 64) : View w (.slice (some ⟨g, 1, none⟩) n 64) (fL K n) := by
  refine ⟨_, 64, by rw [fL_length], by rw [fL_length]; omega, by simp [maxLen], (fun e => by cases e), .inr ⟨g, 1, rfl, fun i hi => ?_⟩⟩
  rw [fL_length] at hi
  rw [fL_get K n i hi]
  exact s.key i (by omega)
theorem SpAt.viewV {w : World} {g : Nat} {h : Int} {K V : Nat → Int} {L c : Int} (s : SpAt w g h K V L c) (n : Nat) (hn : n ≤ 64) : View w (.slice (some ⟨g, 65, none⟩) n 64) (fL V n) := by
  refine ⟨_, 64, by rw [fL_length], by rw [fL_length]; omega, by simp [maxLen], (fun e => by cases e), .inr ⟨g, 65, rfl, fun i hi => ?_⟩⟩
  rw [fL_length] at hi
  rw [fL_get V n i hi]
  exact s.val i (by omega)
set_option maxHeartbeats 800000 in
set_option maxRecDepth 100000 in
/-- state.code. -/
theorem spcode (g : Nat) (h : Int) (K V : Nat → Int) (L c : Int) (yss : List (List Int)) (v : Value) (w : World) (k : Hid (Known h)) (hs : Hid (SpAt w g h K V L c)) (hp : Hid (∀ u g', Below w.heap.size w u → w.heap.size ≤ g' → Parts u g' v yss)) (hT : Hid (Tables w)) (hl : Hid (yss.flatten.length ≤ 33554432)) :
    Calls Tryd.prog 46 #[.pointer (some ⟨g, 0, none⟩), v] w fun e w' => ∃ b, e = .returned (.slice (some ⟨b, 0, none⟩) (szOf h) (szOf h)) ∧ w'.ownsRow w.heap.size 5 1 (.slice (some ⟨b, 0, none⟩) (szOf h) (szOf h)) (szOf h) (cellsU8 (hmac h (fL K (szOf h)) yss.flatten)) ∧ Below w.heap.size w w' := by
  obtain ⟨n, HN⟩ : ∃ n : Nat, Hid (n = szOf h) := ⟨_, (show _ = _ from rfl)⟩
  have hn : (n : Int) ≤ 64 := by rw [HN.out]; have := szOf_le k.out; omega
  have hn0 : (0 : Int) ≤ (n : Int) := by omega
  have c0 : w.cell? ⟨g, 0, none⟩ = some (.int .i64 h) := hs.out.hash
  have HC : Hid (∀ u, Sm w u → Calls Tryd.prog 51 #[.int .i64 h, .slice (some ⟨g, 1, none⟩) n 64, v] u fun e w' => Hid (∃ b, e = .returned (.tuple #[.slice (some ⟨b, 0, none⟩) n n, .int .i64 0]) ∧ w'.ownsRow w.heap.size 5 1 (.slice (some ⟨b, 0, none⟩) n n) n (cellsU8 (hmac h (fL K n) yss.flatten)) ∧ Below w.heap.size w w')) := by
    intro u hsm
    have hwu : w.heap.size = u.heap.size := by rw [hsm.heap]
    have hbu : Below w.heap.size w u := ⟨hsm.os, hsm.tape, hsm.output, Nat.le_of_eq hwu, fun q hq => by rw [hsm.heap]⟩
    have q := dcode h (.slice (some ⟨g, 1, none⟩) n 64) (fL K n) yss v u k (hsm.view (hs.out.viewK n (by omega))) (by show _ ≤ _; rw [fL_length]; omega) (fun x g' hx hg' => hp.out x g' (hbu.trans (by rw [hwu]; exact hx)) (by omega)) (hsm.tables hT.out) hl
    rw [← HN.out, ← hwu] at q
    refine q.mono ?_
    rintro e w' ⟨b, q1, q2, q3⟩
    exact ⟨b, q1, q2, hbu.trans q3⟩
  rw [← HN.out]
  go_enter Tryd.func46, Tryd.ntmps46
  go_upto_region 1 with fail
  go_region_held3 (fun u => u.cell? ⟨g, 0, none⟩ = some (.int .i64 h)) (first | exact c0 | exact hS6 | go_keep) (first
    | (go_at_call 39; refine (size_known k.out _).mono ?_; rintro e5 w5 ⟨rfl, hw5⟩; obtain rfl := hw5.symm; rw [← HN.out])
    | (go_at_call 51; refine (HC.out w.drew (Sm.refl w).drew).mono ?_; intro e6 w6 hh; obtain ⟨b, rfl, ho6, hb6⟩ := hh.out; have hS6 : w6.cell? ⟨g, 0, none⟩ = some (.int .i64 h) := by rw [hb6.cell (p := ⟨g, 0, none⟩) hs.out.lt]; exact c0))
  have HO : Hid (w6.ownsRow w.heap.size 5 1 (.slice (some ⟨b, 0, none⟩) n n) n (cellsU8 (hmac h (fL K n) yss.flatten)) ∧ Below w.heap.size w w6) := ⟨ho6, hb6⟩
  clear hh ho6 hb6 hS6 HC
  go_wp2
  go_ret
  exact ⟨b, rfl, HO.out.1, HO.out.2⟩
/-- What a slice of slices is asked for. -/
theorem parts_slice {w : World} {g : Nat} {v : Value} {yss : List (List Int)} (h : Parts w g v yss) : ∃ a c, v = .slice a yss.length c ∧ c ≤ maxLen := by
  obtain ⟨a, c, e, _, h2, _⟩ := h
  exact ⟨a, c, e, h2⟩
set_option maxHeartbeats 800000 in
set_option maxRecDepth 100000 in
/-- joined. -/
theorem joined_ok (g : Nat) (v : Value) (yss : List (List Int)) (w : World) (hp : Hid (Parts w g v yss)) (hl : Hid (yss.flatten.length ≤ 140737488355328)) :
    Calls Tryd.prog 25 #[v] w fun e w' => e = .returned (.int .i64 (yss.flatten.length : Nat)) ∧ w' = w := by
  obtain ⟨N, HNN⟩ : ∃ N, Hid (N = yss.flatten.length) := ⟨_, rfl⟩
  rw [← HNN.out]
  obtain ⟨a, c, rfl, h1, h2, h3⟩ := hp.out
  obtain ⟨n, hn⟩ : ∃ n, n = yss.length := ⟨_, rfl⟩
  rw [← hn] at h1
  have HN : Hid (yss.length = n) := hn.symm
  rw [← hn]
  have h2b : c ≤ 9223372036854775807 := by unfold maxLen at h2; omega
  clear h2
  by_cases h0 : n = 0
  · subst h0
    have e0 : yss = [] := List.eq_nil_of_length_eq_zero hn.symm
    subst e0
    obtain rfl : N = 0 := HNN.out
    clear hn HN h1 HNN
    go_enter Tryd.func25, Tryd.ntmps25
    go_wp2
    go_loop [8, 3] (fun i l => i = .int .i64 0 ∧ l = .int .i64 0) (fun _ _ => 0)
    case atStart => exact ⟨rfl, rfl⟩
    case round =>
      obtain ⟨rfl, rfl⟩ := hrel
      go_wp2
      go_ret
      exact ⟨rfl, rfl⟩
  · obtain ⟨b, p, rfl, hb, hc⟩ : ∃ b p, a = some ⟨b, p, none⟩ ∧ b ≠ g ∧ ∀ i, i < yss.length → ∃ x, w.cell? ⟨b, p + i, none⟩ = some x ∧ View w x (yss.getD i []) ∧ (yss.getD i [] ≠ [] → ∀ b' off l c', x = .slice (some ⟨b', off, none⟩) l c' → b' ≠ g) := by
      rcases h3 with h3 | h3
      · have h5 := HN.out; rw [h3] at h5; simp at h5; omega
      · exact h3
    have HC : Hid (∀ i, i < n → ∃ a l c, w.cell? ⟨b, p + i, none⟩ = some (.slice a l c) ∧ l = (yss.getD i []).length ∧ l ≤ c ∧ c ≤ 9223372036854775807) := fun i hi => by
      obtain ⟨x, q1, ⟨a, c, q2, q3, q4, _⟩, _⟩ := hc i (by rw [HN.out]; exact hi)
      exact ⟨a, _, c, by rw [q1, q2], rfl, q3, by unfold maxLen at q4; omega⟩
    clear h3 hc hn
    go_enter Tryd.func25, Tryd.ntmps25
    go_wp2
    go_loop [8, 3] (fun i l => ∃ k r : Nat, k ≤ n ∧ i = .int .i64 k ∧ l = .int .i64 r ∧ Hid (r = (yss.take k).flatten.length)) (fun i _ => n - (intOf i).toNat)
    case atStart => exact ⟨0, 0, Nat.zero_le _, rfl, rfl, rfl⟩
    case round =>
      obtain ⟨k, r, hk, rfl, rfl, HR⟩ := hrel
      by_cases hlt : k < n
      · obtain ⟨xa, xl, xc, hcell, hxl, hxc, hxc2⟩ := HC.out k hlt
        have hst := sum_step yss k (by rw [HN.out]; exact hlt)
        have hle := sum_le yss (k + 1)
        have hsum : (yss.take (k + 1)).flatten.length = r + xl := by rw [hst, List.length_append, ← HR.out, hxl]
        have hrx : ((r + xl : Nat) : Int) ≤ 140737488355328 := by have := hl.out; omega
        have HS : Hid (r + xl = (yss.take (k + 1)).flatten.length) := hsum.symm
        clear hst hle hsum hxl HR
        go_wp2
        all_goals go_roundw
        all_goals first
          | (simp [intOf]; omega)
          | exact ⟨k + 1, r + xl, by omega, by go_num, by go_num, HS⟩
      · obtain rfl : k = n := by omega
        have HF : Hid (r = N) := by show _ = _; rw [HR.out, ← HN.out, List.take_length, HNN.out]
        clear HR HNN hl
        obtain rfl : r = N := HF.out
        go_wp2
        go_ret
        exact ⟨rfl, rfl⟩
end Go.Proofs.YtkeklmkaleomkaaDoor
namespace Go.Proofs.YtkeklmkaleomkaaDoor
open Go.RowKit
set_option linter.unusedVariables false
set_option linter.unusedSimpArgs false
def turnV (h : Int) (K V : Nat → Int) : Nat → Int := over V (hmac h (fL K (szOf h)) (fL V (szOf h)))
theorem hmac_len {h : Int} (k : Known h) (key zs : List Int) : (hmac h key zs).length = szOf h := macL_length k _ _ _
theorem Below.ofSm {w u v : World} (h : Below w.heap.size w u) (s : Sm u v) : Below w.heap.size w v := ⟨s.os.trans h.os, s.tape.trans h.tape, s.output.trans h.output, by rw [s.heap]; exact h.size, fun q hq => by rw [s.heap]; exact h.block q hq⟩
set_option maxHeartbeats 800000 in
set_option maxRecDepth 100000 in
/-- state.turn. -/
theorem turn_ok (g : Nat) (h : Int) (K V : Nat → Int) (L c : Int) (w : World) (k : Hid (Known h)) (hs : Hid (SpAt w g h K V L c)) (hT : Hid (Tables w)) :
    Calls Tryd.prog 41 #[.pointer (some ⟨g, 0, none⟩)] w fun e w' => e = .returned (.tuple #[]) ∧ SpAt w' g h K (turnV h K V) L c ∧ Touch w w' g 0 131 := by
  obtain ⟨n, HN⟩ : ∃ n : Nat, Hid (n = szOf h) := ⟨_, (show _ = _ from rfl)⟩
  have hn : (n : Int) ≤ 64 := by rw [HN.out]; have := szOf_le k.out; omega
  have hn0 : (0 : Int) ≤ (n : Int) := by omega
  have c0 : w.cell? ⟨g, 0, none⟩ = some (.int .i64 h) := hs.out.hash
  obtain ⟨Z, HZ⟩ : ∃ Z, Hid (Z = hmac h (fL K n) (fL V n)) := ⟨_, rfl⟩
  have HZl : Hid (Z.length = n) := by show _ = _; rw [HZ.out, hmac_len k.out, HN.out]
  have H46 : Hid (∀ u, Sm (w.alloc (.cells #[.slice (some ⟨g, 65, none⟩) n 64] 22)) u → Calls Tryd.prog 46 #[.pointer (some ⟨g, 0, none⟩), .slice (some ⟨w.heap.size, 0, none⟩) 1 1] u fun e w' => Hid (∃ b, e = .returned (.slice (some ⟨b, 0, none⟩) n n) ∧ View w' (.slice (some ⟨b, 0, none⟩) n n) Z ∧ Below w.heap.size w w')) := by
    intro u hsm
    have ba := below_alloc1 w (.cells #[.slice (some ⟨g, 65, none⟩) n 64] 22)
    have hbu := Below.ofSm ba hsm
    have hsz : u.heap.size = w.heap.size + 1 := by rw [hsm.heap]; exact size_alloc1 _ _
    have hx := hs.out.viewV n (by omega)
    have q := spcode g h K V L c [fL V n] (.slice (some ⟨w.heap.size, 0, none⟩) 1 1) u k (hs.out.below hbu) (fun x g' hxb hg' => by
      have hp := parts1_alloc (u := w) 22 (.slice (some ⟨g, 65, none⟩) n 64) (fL V n) g' hx (by omega) (fun _ b off l c e => by injection e with e1 _ _; injection e1 with e1; injection e1 with e2 _; have := hs.out.lt; omega)
      refine parts_keep hp (fun q hq => ?_)
      rw [hxb.block q (by rw [hsz]; rw [size_alloc1] at hq; exact hq), hsm.heap]) (hT.out.below hbu hT.out.size) (by show _ ≤ _; simp [fL_length]; omega)
    rw [← HN.out] at q
    refine q.mono ?_
    rintro e w' ⟨b, q1, q2, q3⟩
    have e1 : hmac h (fL K n) ([fL V n] : List (List Int)).flatten = Z := by rw [HZ.out]; simp
    rw [e1] at q2
    exact ⟨b, q1, viewOwns q2 HZl.out, hbu.trans (q3.mono hbu.size)⟩
  go_enter Tryd.func41, Tryd.ntmps41
  go_region_with (first
    | (go_at_call 39; refine (size_known k.out _).mono ?_; rintro e5 w5 ⟨rfl, hw5⟩; obtain rfl := hw5.symm; rw [← HN.out])
    | (go_at_call 46; refine (H46.out _ ?_).mono ?_; exact ⟨rfl, rfl, rfl, rfl⟩; intro e6 w6 hh; obtain ⟨b, rfl, hv6, hb6⟩ := hh.out; have hcp := copy_eq w6 g 65 64 64 (some ⟨b, 0, none⟩) n n n Z (by omega) hv6 (fun j hj => by have q := (hs.out.below hb6).there (65 + j) (by omega); rwa [Nat.zero_add] at q)))
  have hfin : SpAt (w6.setCells g 65 (cellsU8 (List.take n Z))) g h K (turnV h K V) L c ∧ Touch w (w6.setCells g 65 (cellsU8 (List.take n Z))) g 0 131 := by
    have ez : List.take n Z = Z := List.take_of_length_le (by rw [HZl.out]; exact Nat.le_refl _)
    rw [ez]
    refine ⟨?_, ((Touch.refl w g 0 131).below hb6 hs.out.lt).setCells 65 _ (by omega) (by rw [cellsU8_length, HZl.out]; omega)⟩
    have q := (hs.out.below hb6).setV Z (by rw [HZl.out]; omega)
    unfold turnV
    rw [← HN.out, ← HZ.out]
    exact q
  go_end0
  exact ⟨rfl, hfin⟩
/-- Lists that are handed on: none, or some. -/
def PL (w : World) (g : Nat) (v : Value) (yss : List (List Int)) : Prop := (v = .slice none 0 0 ∧ yss = []) ∨ (∃ ad m c, v = .slice (some ad) m c) ∧ Parts w g v yss
theorem PL.parts {w : World} {g : Nat} {v : Value} {yss : List (List Int)} (h : PL w g v yss) : Parts w g v yss := by
  rcases h with ⟨rfl, rfl⟩ | h
  · exact ⟨none, 0, rfl, by simp, by simp [maxLen], .inl rfl⟩
  · exact h.2
theorem Tryd.info22' : (Tryd.prog.info? 22).map (fun i => (i.zero, i.size, i.bytes)) = some (some (.slice none 0 0), 1, 24) := by kernel_rfl
theorem info22_parts : ∃ i, Tryd.prog.info? 22 = some i ∧ i.zero = some (.slice none 0 0) ∧ i.size = 1 ∧ i.bytes = 24 := by
  have q := Tryd.info22'
  cases hi : Tryd.prog.info? 22 with
  | none => rw [hi] at q; cases q
  | some i =>
    rw [hi] at q
    simp at q
    exact ⟨i, rfl, q.1, q.2.1, q.2.2⟩
/-- append of lists to a row that is owned. -/
theorem append_run (w0 w : World) (hk : ∀ q, q < w0.heap.size → w.heap[q]? = w0.heap[q]?) (base : Nat) (v0 : Value) (xs : List Value) (hown : w.ownsRow base 22 1 v0 xs.length xs) (v : Value) (yss : List (List Int)) (g : Nat) (hp : PL w0 g v yss) (hbase : base ≤ w.heap.size) (hb : (xs.length + yss.length) * 24 ≤ 140737488355328) (ty : TypeId) :
    ∃ v' ws w', (Builtin.append_ #[37, 37] ty #[v0, v]).run Tryd.prog w = .ok v' w' ∧ w'.ownsRow base 22 1 v' (xs.length + yss.length) (xs ++ ws) ∧ w.grownBy w' v0.ownBlock ∧ ws.length = yss.length ∧ (∀ i x, ws[i]? = some x → View w0 x (yss.getD i []) ∧ (yss.getD i [] ≠ [] → ∀ b' off l c', x = .slice (some ⟨b', off, none⟩) l c' → b' ≠ g)) := by
  obtain ⟨i, hi, hz0, hz1, hz2⟩ := info22_parts
  rcases hp with ⟨rfl, rfl⟩ | ⟨⟨ad, m, c, rfl⟩, hp⟩
  · refine ⟨v0, [], w, run_append_owned_none (P := Tryd.prog) (w := w) base 37 ty 22 i 1 Tryd.underlying37 hi v0 xs.length xs hown, by simpa using hown, ⟨rfl, rfl, rfl, Nat.le_refl _, fun _ _ _ => rfl⟩, rfl, fun i x hx => by simp at hx⟩
  · obtain ⟨a, c', e, h1, h2, h3⟩ := hp
    injection e with e1 e2 e3
    subst e1 e2 e3
    have hws : ∃ ws : List Value, ws.length = yss.length ∧ ∀ j u, ws[j]? = some u → w.cell? (ad.add j) = some u ∧ View w0 u (yss.getD j []) ∧ (yss.getD j [] ≠ [] → ∀ b' off l c', u = .slice (some ⟨b', off, none⟩) l c' → b' ≠ g) := by
      rcases h3 with rfl | ⟨b, p, e, _, hc⟩
      · exact ⟨[], rfl, fun j u hu => by simp at hu⟩
      · injection e with e
        subst e
        refine ⟨(List.range yss.length).map fun i => (w0.cell? ⟨b, p + i, none⟩).getD undef, by simp, fun j u hu => ?_⟩
        have hj : j < yss.length := by
          rcases Nat.lt_or_ge j yss.length with hlt | hge
          · exact hlt
          · rw [List.getElem?_eq_none (by simpa using hge)] at hu; cases hu
        obtain ⟨x, q1, q2, q3⟩ := hc j hj
        have hux : u = x := by simpa [List.getElem?_map, List.getElem?_range hj, q1] using hu.symm
        subst hux
        rw [Addr.add_lit, World.cell?_of_block (a := ⟨b, p + j, none⟩) (hk b (lt_of_cell q1))]
        exact ⟨q1, q2, q3⟩
    obtain ⟨ws, hwl, hw⟩ := hws
    obtain ⟨v', w', r1, r2, r3, _, _⟩ := run_append_own_at (P := Tryd.prog) w base 37 ty 22 i (.slice none 0 0) 1 24 Tryd.underlying37 hi hz0 hz1 hz2 rfl (by decide) v0 xs.length xs hown ad yss.length c ws (by rw [hwl, Nat.mul_one]) (fun j u hu => (hw j u hu).1) (fun u hu => by
      obtain ⟨j, hj⟩ := List.getElem?_of_mem hu
      obtain ⟨_, _, e, _⟩ := (hw j u hj).2.1
      rw [e]
      rfl) (by unfold maxLen; omega) hb hbase
    exact ⟨v', ws, w', r1, r2, r3, hwl, fun j x hx => (hw j x hx).2⟩
theorem wp_append_parts {w w' : World} {v0 v v' : Value} {o : Oper} {a : Act} {K : Act → World → Prop} {Q : Exit → Act → World → Prop} (s x : Operand) (ho : o.op = .call { callee := .builtin .append, args := #[s, x], argTypes := #[37, 37] }) (hs : a.eval s = v0) (hx : a.eval x = v) (hrun : (Builtin.append_ #[37, 37] o.type #[v0, v]).run Tryd.prog w = .ok v' w') (h : K (a.put o.dst v') w') : o.wp Tryd.prog a w K Q := by
  unfold Oper.wp execOp
  simp only [ho, resolve, invoke, builtin, Sem.run_bind, Sem.run_pure, Result.andThen_ok, List.map_toArray, List.map_cons, List.map_nil, hs, hx, hrun]
  exact h
def mixK (h : Int) (K V : Nat → Int) (mk : Int) (ys : List Int) : Nat → Int := over K (hmac h (fL K (szOf h)) (fL V (szOf h) ++ (mk :: ys)))
set_option maxHeartbeats 800000 in
set_option maxRecDepth 100000 in
/-- state.mix. -/
theorem mix_ok (g : Nat) (h : Int) (K V : Nat → Int) (L c mk : Int) (v : Value) (yss : List (List Int)) (w : World) (k : Hid (Known h)) (hs : Hid (SpAt w g h K V L c)) (hT : Hid (Tables w)) (hp : Hid (PL w g v yss)) (hl : Hid (yss.flatten.length ≤ 33554000)) (hlb : Hid ((2 + yss.length) * 24 ≤ 140737488355328)) (hg : 4 ≤ g) :
    Calls Tryd.prog 40 #[.pointer (some ⟨g, 0, none⟩), .int .u8 mk, v] w fun e w' => e = .returned (.tuple #[]) ∧ SpAt w' g h (mixK h K V mk yss.flatten) (turnV h (mixK h K V mk yss.flatten) V) L c ∧ Touch w w' g 0 131 := by
  obtain ⟨n, HN⟩ : ∃ n : Nat, Hid (n = szOf h) := ⟨_, (show _ = _ from rfl)⟩
  have hn : (n : Int) ≤ 64 := by rw [HN.out]; have := szOf_le k.out; omega
  have hn0 : (0 : Int) ≤ (n : Int) := by omega
  have c0 : w.cell? ⟨g, 0, none⟩ = some (.int .i64 h) := hs.out.hash
  go_enter Tryd.func40, Tryd.ntmps40
  go_upto_region 1 with (go_at_call 39; refine (size_known k.out _).mono ?_; rintro e5 w5 ⟨rfl, hw5⟩; obtain rfl := hw5.symm; rw [← HN.out])
  obtain ⟨W, hW⟩ : ∃ W, W = (w.alloc (.cells #[.int .u8 mk] 5)).alloc (.cells #[.slice (some ⟨g, 65, none⟩) n 64, .slice (some ⟨w.heap.size, 0, none⟩) 1 1] 22) := ⟨_, rfl⟩
  have b1 := below_alloc1 w (.cells #[.int .u8 mk] 5)
  have b2 := below_alloc1 (w.alloc (.cells #[.int .u8 mk] 5)) (.cells #[.slice (some ⟨g, 65, none⟩) n 64, .slice (some ⟨w.heap.size, 0, none⟩) 1 1] 22)
  have hs1 : (w.alloc (.cells #[.int .u8 mk] 5)).heap.size = w.heap.size + 1 := size_alloc1 _ _
  have hsW : W.heap.size = w.heap.size + 1 + 1 := by rw [hW]; simp
  have HBW : Hid (Below w.heap.size w W) := by rw [hW]; exact b1.trans (b2.mono (by omega))
  have howW : W.ownsRow (w.heap.size + 1) 22 1 (.slice (some ⟨w.heap.size + 1, 0, none⟩) 2 2) 2 [.slice (some ⟨g, 65, none⟩) n 64, .slice (some ⟨w.heap.size, 0, none⟩) 1 1] := by
    have q := World.ownsRow_lit (base := w.heap.size + 1) (e := 22) (size := 1) (w.alloc (.cells #[.int .u8 mk] 5)) #[.slice (some ⟨g, 65, none⟩) n 64, .slice (some ⟨w.heap.size, 0, none⟩) 1 1] 2 (by omega) (by decide) rfl
    rw [hs1, ← hW] at q
    exact q
  obtain ⟨v', ws, w', hap, hown, hgrow, hwl, hws⟩ := append_run w W.drew (fun q hq => HBW.out.block q hq) (w.heap.size + 1) _ [.slice (some ⟨g, 65, none⟩) n 64, .slice (some ⟨w.heap.size, 0, none⟩) 1 1] howW.drew v yss g hp.out (by show _ ≤ W.heap.size; omega) hlb.out 37
  rw [hW] at hap
  have HOW : Hid (w'.ownsRow (w.heap.size + 1) 22 1 v' (2 + yss.length) (.slice (some ⟨g, 65, none⟩) n 64 :: .slice (some ⟨w.heap.size, 0, none⟩) 1 1 :: ws)) := hown
  have HBw : Hid (Below w.heap.size w w') := by
    have q : Below w.heap.size w W.drew := ⟨HBW.out.os, HBW.out.tape, HBW.out.output, HBW.out.size, HBW.out.block⟩
    exact q.grown hgrow q.size (fun b hb => by have hb' : some (w.heap.size + 1) = some b := hb; injection hb' with hb'; omega)
  have HBl : Hid (∀ q, q < w.heap.size + 1 → w'.heap[q]? = W.heap[q]?) := fun q hq => hgrow.block q (by show q < W.heap.size; omega) (fun e => by have e' : some q = some (w.heap.size + 1) := e; injection e' with e'; omega)
  obtain ⟨Z, HZ⟩ : ∃ Z, Hid (Z = hmac h (fL K n) (fL V n ++ (mk :: yss.flatten))) := ⟨_, rfl⟩
  have HZl : Hid (Z.length = n) := by show _ = _; rw [HZ.out, hmac_len k.out, HN.out]
  have H46 : Hid (Calls Tryd.prog 46 #[.pointer (some ⟨g, 0, none⟩), v'] w' fun e w'' => Hid (∃ b, e = .returned (.slice (some ⟨b, 0, none⟩) n n) ∧ View w'' (.slice (some ⟨b, 0, none⟩) n n) Z ∧ Below w.heap.size w w'')) := by
    have hpv : PV w' v' (.slice (some ⟨g, 65, none⟩) n 64 :: .slice (some ⟨w.heap.size, 0, none⟩) 1 1 :: ws) (fL V n :: [mk] :: yss) := by
      have hvV : View w' (.slice (some ⟨g, 65, none⟩) n 64) (fL V n) := (hs.out.below HBw.out).viewV n (by omega)
      have hv1 : View w' (.slice (some ⟨w.heap.size, 0, none⟩) 1 1) [mk] := by
        have q1 : View (w.alloc (.cells #[.int .u8 mk] 5)) (.slice (some ⟨w.heap.size, 0, none⟩) 1 1) [mk] := by
          refine ⟨_, 1, rfl, by simp, by simp [maxLen], (fun e => by cases e), .inr ⟨w.heap.size, 0, rfl, fun i hi => ?_⟩⟩
          obtain rfl : i = 0 := by simpa using hi
          rw [World.cell?_alloc_at _ _ _ _ rfl]
          rfl
        refine q1.kept (fun q hq => ?_)
        rw [hs1] at hq
        rw [HBl.out q hq, hW]
        exact b2.block q (by rw [hs1]; exact hq)
      rcases HOW.out.2 with ⟨_, e0⟩ | ⟨gp, cp, cur, e, q1, q2, q3, q4, q5, q6⟩
      · omega
      · refine ⟨some ⟨gp, 0, none⟩, cp, by rw [e]; simp [hwl]; omega, by simp [hwl]; omega, q4, by simp [hwl], fun i x hx => ?_, .inr ⟨gp, 0, rfl, fun i x hx => ?_⟩⟩
        · match i, hx with
          | 0, hx => simp at hx; subst hx; exact hvV
          | 1, hx => simp at hx; subst hx; exact hv1
          | i + 2, hx =>
            simp at hx
            have q := (hws i x hx).1
            have e2 : (fL V n :: [mk] :: yss).getD (i + 2) [] = yss.getD i [] := by simp [List.getD]
            rw [e2]
            exact q.kept (fun j hj => HBw.out.block j hj)
        · have hc := HOW.out.cells (g := gp) (by rw [e]; rfl) i x hx
          rw [Addr.add_lit] at hc
          exact hc
    have q := spcode g h K V L c (fL V n :: [mk] :: yss) v' w' k (hs.out.below HBw.out) (fun x g' hxb hg' => parts_keep (hpv.parts g' hg') (fun q hq => hxb.block q hq)) (hT.out.below HBw.out hT.out.size) (by show _ ≤ _; have := hl.out; simp [fL_length] at this ⊢; omega)
    rw [← HN.out] at q
    refine q.mono ?_
    rintro e w'' ⟨b, q1, q2, q3⟩
    have e1 : hmac h (fL K n) (fL V n :: [mk] :: yss).flatten = Z := by rw [HZ.out]; simp
    rw [e1] at q2
    exact ⟨b, q1, viewOwns q2 HZl.out, HBw.out.trans (q3.mono HBw.out.size)⟩
  have hS0 : Touch w w.drew g 0 131 := (Touch.refl _ _ _ _).drew
  refine wp_region_noPanic ?_
  refine wp_region_held_drew (S := fun u => Touch w u g 0 131) (by kernel_rfl) (hS0) (fun _ => ?_)
  refine takeH_at 0 12 (.pointer (some ⟨g, 0, none⟩)) rfl rfl (by kernel_rfl) (by kernel_rfl) (by kernel_rfl) (fun _ _ _ h => h) (hS0) (Or.inl ⟨by kernel_rfl, fun w' hS' => by go_simp⟩) ?_
  simp only [List.setIfInBounds_toArray, List.set_cons_zero, List.set_cons_succ]
  refine takeH_at 1 13 (.pointer (some ⟨g, 0, none⟩)) rfl rfl (by kernel_rfl) (by kernel_rfl) (by kernel_rfl) (fun _ _ _ h => h) (hS0) (Or.inl ⟨by kernel_rfl, fun w' hS' => by go_simp⟩) ?_
  simp only [List.setIfInBounds_toArray, List.set_cons_zero, List.set_cons_succ]
  refine takeH_at 2 14 (.pointer (some ⟨g, 1, none⟩)) rfl rfl (by kernel_rfl) (by kernel_rfl) (by kernel_rfl) (fun _ _ _ h => h) (hS0) (Or.inl ⟨by kernel_rfl, fun w' hS' => by go_simp⟩) ?_
  simp only [List.setIfInBounds_toArray, List.set_cons_zero, List.set_cons_succ]
  refine takeH_at 3 15 (.slice (some ⟨g, 1, none⟩) 64 64) rfl rfl (by kernel_rfl) (by kernel_rfl) (by kernel_rfl) (fun _ _ _ h => h) (hS0) (Or.inl ⟨by kernel_rfl, fun w' hS' => by go_simp⟩) ?_
  simp only [List.setIfInBounds_toArray, List.set_cons_zero, List.set_cons_succ]
  refine takeH_at 4 16 (.pointer (some ⟨g, 0, none⟩)) rfl rfl (by kernel_rfl) (by kernel_rfl) (by kernel_rfl) (fun _ _ _ h => h) (hS0) (Or.inl ⟨by kernel_rfl, fun w' hS' => by go_simp⟩) ?_
  simp only [List.setIfInBounds_toArray, List.set_cons_zero, List.set_cons_succ]
  refine takeH_at 5 17 (.pointer (some ⟨g, 0, none⟩)) rfl rfl (by kernel_rfl) (by kernel_rfl) (by kernel_rfl) (fun _ _ _ h => h) (hS0) (Or.inl ⟨by kernel_rfl, fun w' hS' => by go_simp⟩) ?_
  simp only [List.setIfInBounds_toArray, List.set_cons_zero, List.set_cons_succ]
  refine takeH_at 6 18 (.pointer (some ⟨g, 0, none⟩)) rfl rfl (by kernel_rfl) (by kernel_rfl) (by kernel_rfl) (fun _ _ _ h => h) (hS0) (Or.inl ⟨by kernel_rfl, fun w' hS' => by go_simp⟩) ?_
  simp only [List.setIfInBounds_toArray, List.set_cons_zero, List.set_cons_succ]
  refine takeH_at 7 19 (.pointer (some ⟨g, 65, none⟩)) rfl rfl (by kernel_rfl) (by kernel_rfl) (by kernel_rfl) (fun _ _ _ h => h) (hS0) (Or.inl ⟨by kernel_rfl, fun w' hS' => by go_simp⟩) ?_
  simp only [List.setIfInBounds_toArray, List.set_cons_zero, List.set_cons_succ]
  refine takeH_at 8 20 (.int .i64 (n : Nat)) rfl rfl (by kernel_rfl) (by kernel_rfl) (by kernel_rfl) (fun _ _ _ h => h) (hS0) (Or.inl ⟨by kernel_rfl, fun w' hS' => by go_simp⟩) ?_
  simp only [List.setIfInBounds_toArray, List.set_cons_zero, List.set_cons_succ]
  refine takeH_at 9 21 (.slice (some ⟨g, 65, none⟩) n 64) rfl rfl (by kernel_rfl) (by kernel_rfl) (by kernel_rfl) (fun _ _ _ h => h) (hS0) (Or.inl ⟨by kernel_rfl, fun w' hS' => by go_simp⟩) ?_
  simp only [List.setIfInBounds_toArray, List.set_cons_zero, List.set_cons_succ]
  refine takeH_at 10 22 (.int .u8 mk) rfl rfl (by kernel_rfl) (by kernel_rfl) (by kernel_rfl) (fun _ _ _ h => h) (hS0) (Or.inl ⟨by kernel_rfl, fun w' hS' => by go_simp⟩) ?_
  simp only [List.setIfInBounds_toArray, List.set_cons_zero, List.set_cons_succ]
  refine takeH_at 13 25 (v) rfl rfl (by kernel_rfl) (by kernel_rfl) (by kernel_rfl) (fun _ _ _ h => h) (hS0) (Or.inl ⟨by kernel_rfl, fun w' hS' => by go_simp⟩) ?_
  simp only [List.setIfInBounds_toArray, List.set_cons_zero, List.set_cons_succ]
  refine wpAnyH_ready (rs := [11]) (by kernel_rfl) (by simp) ?_
  refine AllReadyH.cons rfl (fun Kc hK => ?_) AllReadyH.nil
  go_simp
  refine hK.out _ _ ((hS0).alloc _ hs.out.lt) (fun _ => ?_)
  clear hK Kc
  try simp only [List.setIfInBounds_toArray, List.set_cons_zero, List.set_cons_succ]
  refine wpAnyH_ready (rs := [12]) (by kernel_rfl) (by simp) ?_
  refine AllReadyH.cons rfl (fun Kc hK => ?_) AllReadyH.nil
  go_simp
  refine hK.out _ _ (((hS0).alloc _ hs.out.lt).alloc _ hs.out.lt) (fun _ => ?_)
  clear hK Kc
  try simp only [List.setIfInBounds_toArray, List.set_cons_zero, List.set_cons_succ]
  refine wpAnyH_ready (rs := [14]) (by kernel_rfl) (by simp) ?_
  refine AllReadyH.cons rfl (fun Kc hK => ?_) AllReadyH.nil
  refine wp_append_parts (.tmp 24) (.tmp 25) rfl rfl rfl hap ?_
  refine hK.out _ _ ((Touch.refl w g 0 131).below HBw.out hs.out.lt) (fun _ => ?_)
  clear hK Kc
  try simp only [List.setIfInBounds_toArray, List.set_cons_zero, List.set_cons_succ]
  refine wpAnyH_ready (rs := [15]) (by kernel_rfl) (by simp) ?_
  refine AllReadyH.cons rfl (fun Kc hK => ?_) AllReadyH.nil
  go_simp
  refine H46.out.mono ?_
  intro e6 w6 hh
  obtain ⟨b, rfl, hv6, hb6⟩ := hh.out
  go_wp2_with fail
  refine hK.out _ _ ((Touch.refl w g 0 131).below hb6 hs.out.lt) (fun _ => ?_)
  clear hK Kc
  try simp only [List.setIfInBounds_toArray, List.set_cons_zero, List.set_cons_succ]
  refine wpAnyH_ready (rs := [16]) (by kernel_rfl) (by simp) ?_
  refine AllReadyH.cons rfl (fun Kc hK => ?_) AllReadyH.nil
  have hcp := copy_eq w6 g 1 64 64 (some ⟨b, 0, none⟩) n n n Z (by omega) hv6 (fun j hj => by have q := (hs.out.below hb6).there (1 + j) (by omega); rwa [Nat.zero_add] at q)
  go_simp
  have HT7 : Hid (Touch w (w6.setCells g 1 (cellsU8 (List.take n Z))) g 0 131) := by
    refine ((Touch.refl w g 0 131).below hb6 hs.out.lt).setCells 1 _ (by omega) ?_
    rw [cellsU8_length, List.length_take, HZl.out]
    omega
  have HS7 : Hid (SpAt (w6.setCells g 1 (cellsU8 (List.take n Z))) g h (mixK h K V mk yss.flatten) V L c) := by
    have ez : List.take n Z = Z := List.take_of_length_le (by rw [HZl.out]; exact Nat.le_refl _)
    show SpAt _ _ _ _ _ _ _
    rw [ez]
    have q := (hs.out.below hb6).setK Z (by rw [HZl.out]; omega)
    unfold mixK
    rw [← HN.out, ← HZ.out]
    exact q
  refine hK.out _ _ HT7.out (fun _ => ?_)
  clear hK Kc
  refine wpAnyH_done (by kernel_rfl) ?_ _
  refine NoPanic.normal ?_
  clear hcp hv6 hb6 hh hap hown hgrow hws howW b1 b2 hS0 H46 HOW
  generalize w6.setCells g 1 (cellsU8 (List.take n Z)) = w7 at HT7 HS7 ⊢
  have HTT7 : Hid (Tables w7) := hT.out.touch HT7.out hg
  go_wp2_with (go_at_call 41; refine (turn_ok g h (mixK h K V mk yss.flatten) V L c w7 k HS7 HTT7).mono ?_)
  first | (rintro e8 w8 rfl hs8 ht8) | (rintro e8 w8 ⟨rfl, hs8, ht8⟩)
  have HF : Hid (SpAt w8 g h (mixK h K V mk yss.flatten) (turnV h (mixK h K V mk yss.flatten) V) L c ∧ Touch w w8 g 0 131) := ⟨hs8, HT7.out.trans ht8⟩
  clear hs8 ht8
  go_wp2
  go_end0
  exact ⟨rfl, HF.out⟩
/-- The chapter's Update. -/
def updK (h : Int) (K V : Nat → Int) (ys : List Int) : Nat → Int := if ys = [] then mixK h K V 0 ys else mixK h (mixK h K V 0 ys) (turnV h (mixK h K V 0 ys) V) 1 ys
def updV (h : Int) (K V : Nat → Int) (ys : List Int) : Nat → Int := turnV h (updK h K V ys) (if ys = [] then V else turnV h (mixK h K V 0 ys) V)
theorem Parts.touch {w w' : World} {g o n : Nat} {v : Value} {yss : List (List Int)} (h : Parts w g v yss) (t : Touch w w' g o n) : Parts w' g v yss := by
  obtain ⟨a, c, e, h1, h2, h3⟩ := h
  refine ⟨a, c, e, h1, h2, ?_⟩
  rcases h3 with h3 | ⟨b, p, e2, hb, hc⟩
  · exact .inl h3
  · refine .inr ⟨b, p, e2, hb, fun i hi => ?_⟩
    obtain ⟨x, q1, q2, q3⟩ := hc i hi
    refine ⟨x, by rw [t.far (p := ⟨b, p + i, none⟩) (lt_of_cell q1) hb]; exact q1, ?_, q3⟩
    by_cases h0 : yss.getD i [] = []
    · rw [h0] at q2 ⊢
      obtain ⟨a', c', e', r1, r2, r3, r4⟩ := q2
      exact ⟨a', c', e', r1, r2, r3, .inl rfl⟩
    · exact t.view q2 (fun b' off l c' e' => .inl (q3 h0 b' off l c' e'))
theorem PL.touch {w w' : World} {g o n : Nat} {v : Value} {yss : List (List Int)} (h : PL w g v yss) (t : Touch w w' g o n) : PL w' g v yss := by
  rcases h with h | ⟨h1, h2⟩
  · exact .inl h
  · exact .inr ⟨h1, h2.touch t⟩
set_option maxHeartbeats 800000 in
set_option maxRecDepth 100000 in
/-- state.update. -/
theorem update_ok (g : Nat) (h : Int) (K V : Nat → Int) (L c : Int) (v : Value) (yss : List (List Int)) (w : World) (k : Hid (Known h)) (hs : Hid (SpAt w g h K V L c)) (hT : Hid (Tables w)) (hp : Hid (PL w g v yss)) (hl : Hid (yss.flatten.length ≤ 33554000)) (hlb : Hid ((2 + yss.length) * 24 ≤ 140737488355328)) (hg : 4 ≤ g) :
    Calls Tryd.prog 24 #[.pointer (some ⟨g, 0, none⟩), v] w fun e w' => e = .returned (.tuple #[]) ∧ SpAt w' g h (updK h K V yss.flatten) (updV h K V yss.flatten) L c ∧ Touch w w' g 0 131 := by
  obtain ⟨N, HNN⟩ : ∃ N, Hid (N = yss.flatten.length) := ⟨_, rfl⟩
  obtain ⟨ys, HY⟩ : ∃ ys, Hid (ys = yss.flatten) := ⟨_, rfl⟩
  have HM : Hid (∀ (u : World) (K V : Nat → Int) (mk : Int), SpAt u g h K V L c → Tables u → PL u g v yss → Calls Tryd.prog 40 #[.pointer (some ⟨g, 0, none⟩), .int .u8 mk, v] u fun e w' => Hid (e = .returned (.tuple #[]) ∧ SpAt w' g h (mixK h K V mk ys) (turnV h (mixK h K V mk ys) V) L c ∧ Touch u w' g 0 131)) := fun u K V mk h1 h2 h3 => by
    have q := mix_ok g h K V L c mk v yss u k h1 h2 h3 hl hlb hg
    rw [← HY.out] at q
    exact q
  have HJ : Hid (∀ u, PL u g v yss → Calls Tryd.prog 25 #[v] u fun e w' => e = .returned (.int .i64 (N : Nat)) ∧ w' = u) := fun u hu => by
    have q := joined_ok g v yss u hu.parts (by show _ ≤ _; have := hl.out; omega)
    rw [← HNN.out] at q
    exact q
  rw [← HY.out]
  go_enter Tryd.func24, Tryd.ntmps24
  go_wp2_with (go_at_call 40; refine (HM.out _ K V 0 hs.out hT.out hp.out).mono ?_)
  intro e1 w1 hh
  obtain ⟨rfl, hs1, ht1⟩ := hh.out
  have HS1 : Hid (SpAt w1 g h (mixK h K V 0 ys) (turnV h (mixK h K V 0 ys) V) L c) := hs1
  have HT1 : Hid (Touch w w1 g 0 131) := ht1
  have HP1 : Hid (PL w1 g v yss) := hp.out.touch ht1
  have HTT1 : Hid (Tables w1) := hT.out.touch ht1 hg
  clear hh hs1 ht1
  by_cases h0 : N = 0
  · subst h0
    have HE : Hid (ys = []) := List.eq_nil_of_length_eq_zero (by rw [HY.out]; exact HNN.out.symm)
    have HU : Hid (SpAt w1 g h (updK h K V ys) (updV h K V ys) L c) := by
      show SpAt _ _ _ _ _ _ _
      have q := HS1.out
      unfold updV updK
      rw [if_pos HE.out, if_pos HE.out]
      exact q
    clear HS1
    go_wp2_with (go_at_call 25; refine (HJ.out _ HP1.out).mono ?_; rintro e5 w5 ⟨rfl, hw5⟩; obtain rfl := hw5.symm)
    go_end0
    exact ⟨rfl, HU.out, HT1.out⟩
  · have h1 : (0 : Int) < (N : Nat) := by omega
    have HE : Hid (ys ≠ []) := fun e => h0 (by rw [HNN.out, ← HY.out, e]; rfl)
    go_wp2_with (first
      | (go_at_call 25; refine (HJ.out _ HP1.out).mono ?_; rintro e5 w5 ⟨rfl, hw5⟩; obtain rfl := hw5.symm)
      | (go_at_call 40; refine (HM.out _ _ _ 1 HS1.out HTT1.out HP1.out).mono ?_))
    intro e2 w2 hh
    obtain ⟨rfl, hs2, ht2⟩ := hh.out
    have HU : Hid (SpAt w2 g h (updK h K V ys) (updV h K V ys) L c) := by
      show SpAt _ _ _ _ _ _ _
      unfold updV updK
      rw [if_neg HE.out, if_neg HE.out]
      exact hs2
    have HT2 : Hid (Touch w w2 g 0 131) := HT1.out.trans ht2
    clear hh hs2 ht2 HS1
    go_wp2
    go_end0
    exact ⟨rfl, HU.out, HT2.out⟩
end Go.Proofs.YtkeklmkaleomkaaDoor
namespace Go.Proofs.YtkeklmkaleomkaaDoor
open Go.RowKit
set_option linter.unusedVariables false
set_option linter.unusedSimpArgs false
theorem parts3_alloc {u : World} (t : TypeId) (x y z : Value) (xs ys zs : List Int) (g : Nat) (hx : View u x xs) (hy : View u y ys) (hz : View u z zs) (hg : u.heap.size ≠ g) (hox : xs ≠ [] → ∀ b off l c, x = .slice (some ⟨b, off, none⟩) l c → b ≠ g) (hoy : ys ≠ [] → ∀ b off l c, y = .slice (some ⟨b, off, none⟩) l c → b ≠ g) (hoz : zs ≠ [] → ∀ b off l c, z = .slice (some ⟨b, off, none⟩) l c → b ≠ g) : Parts (u.alloc (.cells #[x, y, z] t)) g (.slice (some ⟨u.heap.size, 0, none⟩) 3 3) [xs, ys, zs] := by
  refine ⟨_, 3, rfl, by simp, by simp [maxLen], .inr ⟨u.heap.size, 0, rfl, hg, fun i hi => ?_⟩⟩
  have hi' : i < 3 := by simpa using hi
  match i, hi' with
  | 0, _ => exact ⟨x, World.cell?_alloc_at _ _ _ _ rfl, hx.kept (fun q hq => Below.heap_alloc u _ q hq), hox⟩
  | 1, _ => exact ⟨y, World.cell?_alloc_at _ _ _ _ rfl, hy.kept (fun q hq => Below.heap_alloc u _ q hq), hoy⟩
  | 2, _ => exact ⟨z, World.cell?_alloc_at _ _ _ _ rfl, hz.kept (fun q hq => Below.heap_alloc u _ q hq), hoz⟩

/-- A state's cells. -/
def stL (h : Int) (K V : Nat → Int) : List Value := .int .i64 h :: ((List.range 64).map (fun i => Value.int .u8 (K i)) ++ (List.range 64).map (fun i => Value.int .u8 (V i)))
def ones (n i : Nat) : Int := if i < n then 1 else 0
theorem stL_length (h : Int) (K V : Nat → Int) : (stL h K V).length = 129 := by simp [stL]
theorem stL_one (h : Int) (K V : Nat → Int) : (stL h K V).toArray.all (·.oneCell') = true := by kernel_rfl
theorem cells60 (h : Int) : Tryd.zeroCells60.setIfInBounds 0 (.int .i64 h) = (stL h (fun _ => 0) (fun _ => 0)).toArray := by kernel_rfl
theorem zero60 : Tryd.zeroCells60.size = 129 := by kernel_rfl
theorem size60 : (Tryd.prog.info? 60).map (·.size) = some 129 := by kernel_rfl
structure StAt (w : World) (g : Nat) (h : Int) (K V : Nat → Int) : Prop where
  hash : w.cell? ⟨g, 0, none⟩ = some (.int .i64 h)
  key : ∀ i, i < 64 → w.cell? ⟨g, 1 + i, none⟩ = some (.int .u8 (K i))
  val : ∀ i, i < 64 → w.cell? ⟨g, 65 + i, none⟩ = some (.int .u8 (V i))
  there : w.there g 0 129
theorem stL_get {h : Int} {K V : Nat → Int} (j : Nat) (v : Value) (hv : (stL h K V)[j]? = some v) : (j = 0 ∧ v = .int .i64 h) ∨ (∃ i, i < 64 ∧ j = 1 + i ∧ v = .int .u8 (K i)) ∨ (∃ i, i < 64 ∧ j = 65 + i ∧ v = .int .u8 (V i)) := by
  match j, hv with
  | 0, hv => simp [stL] at hv; exact .inl ⟨rfl, hv.symm⟩
  | j + 1, hv =>
    right
    simp only [stL, List.getElem?_cons_succ] at hv
    by_cases h1 : j < 64
    · left
      rw [List.getElem?_append_left (by simpa using h1)] at hv
      simp [List.getElem?_map, List.getElem?_range h1] at hv
      exact ⟨j, h1, by omega, hv.symm⟩
    · right
      rw [List.getElem?_append_right (by simp; omega)] at hv
      by_cases h2 : j - 64 < 64
      · simp [List.getElem?_map, List.getElem?_range h2] at hv
        exact ⟨j - 64, h2, by omega, hv.symm⟩
      · rw [List.getElem?_eq_none (by simp; omega)] at hv; cases hv
theorem StAt.range {w : World} {g : Nat} {h : Int} {K V : Nat → Int} (s : StAt w g h K V) : w.rangeAt g 0 (stL h K V) := fun j v hv => by
  rw [Nat.zero_add]
  rcases stL_get j v hv with ⟨rfl, rfl⟩ | ⟨i, hi, rfl, rfl⟩ | ⟨i, hi, rfl, rfl⟩
  · exact s.hash
  · exact s.key i hi
  · exact s.val i hi
theorem StAt.of {w : World} {g : Nat} {h : Int} {K V : Nat → Int} (hr : w.rangeAt g 0 (stL h K V)) (ht : w.there g 0 129) : StAt w g h K V := by
  refine ⟨by have q := hr 0 _ rfl; rwa [Nat.zero_add] at q, fun i hi => ?_, fun i hi => ?_, ht⟩
  · have q := hr (1 + i) (.int .u8 (K i)) (by
      rw [Nat.add_comm]
      simp only [stL, List.getElem?_cons_succ]
      rw [List.getElem?_append_left (by simpa using hi)]
      simp [List.getElem?_map, List.getElem?_range hi])
    rwa [Nat.zero_add] at q
  · have q := hr (65 + i) (.int .u8 (V i)) (by
      rw [show 65 + i = (64 + i) + 1 by omega]
      simp only [stL, List.getElem?_cons_succ]
      rw [List.getElem?_append_right (by simp)]
      simp [List.getElem?_map, List.getElem?_range hi])
    rwa [Nat.zero_add] at q
theorem StAt.put {w : World} {g : Nat} {h : Int} {K V V' : Nat → Int} (s : StAt w g h K V) (i : Nat) (hi : i < 64) (x : Int) (hx : V' i = x) (hV : ∀ j, j < 64 → j ≠ i → V' j = V j) : StAt (w.setCell ⟨g, 65 + i, none⟩ (.int .u8 x)) g h K V' := by
  refine ⟨?_, fun j hj => ?_, fun j hj => ?_, World.there_setCells s.there g (65 + i) [.int .u8 x]⟩
  · rw [World.cell?_setCell_other _ _ _ _ (by intro q; injection q with _ q2; omega)]; exact s.hash
  · rw [World.cell?_setCell_other _ _ _ _ (by intro q; injection q with _ q2; omega)]; exact s.key j hj
  · by_cases e : j = i
    · subst e
      rw [hx]
      exact World.cell?_setCell_same' _ _ _ (by rw [s.val j hj]; rfl)
    · rw [World.cell?_setCell_other _ _ _ _ (by intro q; injection q with _ q2; omega), hV j hj e]; exact s.val j hj
set_option maxHeartbeats 1600000 in
set_option maxRecDepth 100000 in
/-- firstState, of a digest that there is. -/
theorem firstState_ok (h : Int) (w : World) (k : Hid (Known h)) :
    Calls Tryd.prog 22 #[.int .i64 h] w fun e w' => e = .returned (.tuple #[.agg (stL h (fun _ => 0) (ones (szOf h))).toArray, .int .i64 0]) ∧ Below w.heap.size w w' := by
  obtain ⟨n, HN⟩ : ∃ n : Nat, Hid (n = szOf h) := ⟨_, (show _ = _ from rfl)⟩
  have hn : 1 ≤ n ∧ n ≤ 64 := by rw [HN.out]; exact szOf_pos k.out
  have hn4 : (((n : Nat) : Int) == 0) = false := by simp; omega
  have e60 := cells60 h
  obtain ⟨C, HC⟩ : ∃ C : List Value, Hid (C = stL h (fun _ => 0) (fun _ => 0)) := ⟨_, rfl⟩
  rw [← HC.out] at e60
  have HCl : Hid (C.length = 129) := by show _ = _; rw [HC.out]; exact stL_length _ _ _
  have HCs : Hid (C.toArray.size = 129) := by show _ = _; simpa using HCl.out
  have HCo : Hid (C.toArray.all (·.oneCell') = true) := by show _ = _; rw [HC.out]; exact stL_one _ _ _
  have HT : Hid (((w.alloc (.cells Tryd.zeroCells60 60)).alloc (.cells Tryd.zeroCells60 60)).there (w.heap.size + 1) 0 129 ∧ (w.alloc (.cells Tryd.zeroCells60 60)).there w.heap.size 0 129) := by
    refine ⟨?_, there_new w Tryd.zeroCells60 60 129 (by rw [zero60]; exact Nat.le_refl _)⟩
    simpa using there_new (w.alloc (.cells Tryd.zeroCells60 60)) Tryd.zeroCells60 60 129 (by rw [zero60]; exact Nat.le_refl _)
  rw [← HN.out]
  go_enter Tryd.func22, Tryd.ntmps22
  go_upto_region 5 with (first
    | (go_at_call 39; refine (size_known k.out _).mono ?_; rintro e5 w5 ⟨rfl, hw5⟩; obtain rfl := hw5.symm; rw [← HN.out])
    | (refine wpList_store_mid (by rfl) 60 (.tmp 5) (.tmp 13) (by rfl) (w.heap.size + 1) 0 C.toArray (by rfl) (by rfl) (by rw [HCs.out]; exact HT.out.1) (by rw [HCs.out]; exact size60) HCo.out ?_)
    | fail)
  have HW : Hid (Below w.heap.size w (((w.alloc (.cells Tryd.zeroCells60 60)).alloc (.cells Tryd.zeroCells60 60)).setCells (w.heap.size + 1) 0 C) ∧ (((w.alloc (.cells Tryd.zeroCells60 60)).alloc (.cells Tryd.zeroCells60 60)).setCells (w.heap.size + 1) 0 C).there w.heap.size 0 129 ∧ StAt (((w.alloc (.cells Tryd.zeroCells60 60)).alloc (.cells Tryd.zeroCells60 60)).setCells (w.heap.size + 1) 0 C) (w.heap.size + 1) h (fun _ => 0) (ones 0)) := by
    refine ⟨below_setCells _ (by omega) _ _ _ (((Below.refl _ _).alloc (Nat.le_refl _) _).alloc (by simp) _), World.there_setCells (World.there_alloc HT.out.2 _) _ _ _, StAt.of ?_ (World.there_setCells HT.out.1 _ _ _)⟩
    have q := World.rangeAt_setCells_same ((w.alloc (.cells Tryd.zeroCells60 60)).alloc (.cells Tryd.zeroCells60 60)) (w.heap.size + 1) 0 C (by rw [HCl.out]; exact HT.out.1)
    have e : stL h (fun _ => 0) (ones 0) = C := by rw [HC.out]; rfl
    rw [e]
    exact q
  generalize (((w.alloc (.cells Tryd.zeroCells60 60)).alloc (.cells Tryd.zeroCells60 60)).setCells (w.heap.size + 1) 0 C) = W at HW ⊢
  clear HT e60
  go_wp2
  go_loopw [15] (fun vi wr => ∃ i : Nat, i ≤ n ∧ vi = .int .i64 (i : Nat) ∧ Hid (Below w.heap.size w wr ∧ wr.there w.heap.size 0 129 ∧ StAt wr (w.heap.size + 1) h (fun _ => 0) (ones i))) (fun vi _ => n - (intOf vi).toNat)
  case atStart => exact ⟨0, Nat.zero_le _, rfl, HW⟩
  case round =>
    obtain ⟨i, hi, rfl, HR⟩ := hrel
    clear HW
    by_cases hlt : i < n
    · have g2 : wr.cell? ⟨w.heap.size + 1, 65 + i, none⟩ = some (.int .u8 0) := by rw [HR.out.2.2.val i (by omega)]; simp [ones]
      have g3 : wr.frozen? ⟨w.heap.size + 1, 65 + i, none⟩ = false := by have := (HR.out.2.2.there (65 + i) (by omega)).2; simpa using this
      have HX : Hid (Below w.heap.size w (wr.setCell ⟨w.heap.size + 1, 65 + i, none⟩ (.int .u8 1)) ∧ (wr.setCell ⟨w.heap.size + 1, 65 + i, none⟩ (.int .u8 1)).there w.heap.size 0 129 ∧ StAt (wr.setCell ⟨w.heap.size + 1, 65 + i, none⟩ (.int .u8 1)) (w.heap.size + 1) h (fun _ => 0) (ones (i + 1))) := by
        refine ⟨HR.out.1.setCell (p := ⟨w.heap.size + 1, 65 + i, none⟩) (by simp) _, World.there_setCells HR.out.2.1 (w.heap.size + 1) (65 + i) [.int .u8 1], HR.out.2.2.put i (by omega) 1 (by simp [ones]) (fun j _ hne => ?_)⟩
        unfold ones
        by_cases h1 : j < i
        · rw [if_pos (by omega), if_pos h1]
        · rw [if_neg (by omega), if_neg h1]
      go_wp2
      go_roundw
      case rel => exact ⟨i + 1, by omega, by go_num, HX⟩
      case measure => simp [intOf]; omega
    · obtain rfl : i = n := by omega
      obtain ⟨D, HD⟩ : ∃ D : List Value, Hid (D = stL h (fun _ => 0) (ones i)) := ⟨_, rfl⟩
      have HDl : Hid (D.length = 129) := by show _ = _; rw [HD.out]; exact stL_length _ _ _
      have HDs : Hid (D.toArray.size = 129) := by show _ = _; simpa using HDl.out
      have HDo : Hid (D.toArray.all (·.oneCell') = true) := by show _ = _; rw [HD.out]; exact stL_one _ _ _
      have HRD : Hid (wr.rangeAt (w.heap.size + 1) 0 D) := by show World.rangeAt _ _ _ _; rw [HD.out]; exact HR.out.2.2.range
      go_wp2_with (first
        | (refine wpList_load_mid (by rfl) 60 (.tmp 5) (by rfl) (w.heap.size + 1) 0 (by rfl) D _ HRD.out Tryd.underlying60 rfl (by rw [HDl.out]; exact size60) ?_)
        | (refine wpList_store_mid (by rfl) 60 (.tmp 2) (.tmp 22) (by rfl) w.heap.size 0 D.toArray (by rfl) (by rfl) (by rw [HDs.out]; exact HR.out.2.1) (by rw [HDs.out]; exact size60) HDo.out ?_)
        | fail)
      have hl := run_loadVar_mid (P := Tryd.prog) (wr.setCells w.heap.size 0 D) w.heap.size 0 60 D _ (World.rangeAt_setCells_same wr w.heap.size 0 D (by rw [HDl.out]; exact HR.out.2.1)) Tryd.underlying60 rfl (by rw [HDl.out]; exact size60)
      refine bodyPost_ret (v := .tuple #[.agg D.toArray, .int .i64 0]) ?_ rfl ⟨by rw [HD.out], below_setCells _ (Nat.le_refl _) _ _ _ HR.out.1⟩
      rw [results_cell_tmp Tryd.results22]
      simp [asAddr, hl]
end Go.Proofs.YtkeklmkaleomkaaDoor
namespace Go.Proofs.YtkeklmkaleomkaaDoor
open Go.RowKit
set_option linter.unusedVariables false
set_option linter.unusedSimpArgs false
def spL (h : Int) (K V : Nat → Int) (L c : Int) : List Value := stL h K V ++ [.int .i64 L, .int .i64 c]
theorem spL_length (h : Int) (K V : Nat → Int) (L c : Int) : (spL h K V L c).length = 131 := by simp [spL, stL_length]
theorem spL_one (h : Int) (K V : Nat → Int) (L c : Int) : (spL h K V L c).toArray.all (·.oneCell') = true := by kernel_rfl
theorem built65 (h : Int) (K V : Nat → Int) (L : Int) : Tryd.prog.built 65 [(0, .agg (stL h K V).toArray), (1, .int .i64 L)] = some (spL h K V L 0).toArray := by kernel_rfl
theorem fold65 (h : Int) (K V : Nat → Int) (L : Int) : (List.foldl (fun (cs : Array Value) x => cs.setIfInBounds x.snd x.fst) Tryd.zeroCells65 (stL h K V).zipIdx).setIfInBounds 129 (.int .i64 L) = (spL h K V L 0).toArray := by kernel_rfl
theorem fold65s (h : Int) (K V : Nat → Int) : (List.foldl (fun (cs : Array Value) x => cs.setIfInBounds x.snd x.fst) Tryd.zeroCells65 (stL h K V).zipIdx).size = 131 := by kernel_rfl
theorem size65 : (Tryd.prog.info? 65).map (·.size) = some 131 := by kernel_rfl
theorem zero65 : Tryd.zeroCells65.size = 131 := by kernel_rfl
theorem SpAt.of {w : World} {g : Nat} {h : Int} {K V : Nat → Int} {L c : Int} (hr : w.rangeAt g 0 (spL h K V L c)) (ht : w.there g 0 131) : SpAt w g h K V L c := by
  have h1 : w.rangeAt g 0 (stL h K V) := fun j v hv => hr j v (by
    have hj : j < (stL h K V).length := by
      rcases Nat.lt_or_ge j (stL h K V).length with q | q
      · exact q
      · rw [List.getElem?_eq_none q] at hv; cases hv
    rw [spL, List.getElem?_append_left hj]
    exact hv)
  have s := StAt.of h1 (fun j hj => ht j (by omega))
  refine ⟨s.hash, s.key, s.val, ?_, ?_, ht⟩
  · have q := hr 129 (.int .i64 L) (by rw [spL, List.getElem?_append_right (by rw [stL_length]; omega), stL_length]; rfl)
    rwa [Nat.zero_add] at q
  · have q := hr 130 (.int .i64 c) (by rw [spL, List.getElem?_append_right (by rw [stL_length]; omega), stL_length]; rfl)
    rwa [Nat.zero_add] at q
theorem SpAt.range {w : World} {g : Nat} {h : Int} {K V : Nat → Int} {L c : Int} (s : SpAt w g h K V L c) : w.rangeAt g 0 (spL h K V L c) := fun j v hv => by
  have st : StAt w g h K V := ⟨s.hash, s.key, s.val, fun j hj => s.there j (by omega)⟩
  by_cases hj : j < 129
  · rw [spL, List.getElem?_append_left (by rw [stL_length]; exact hj)] at hv
    exact st.range j v hv
  · rw [spL, List.getElem?_append_right (by rw [stL_length]; omega), stL_length] at hv
    rw [Nat.zero_add]
    match hq : j - 129, hv with
    | 0, hv =>
      obtain rfl : j = 129 := by omega
      simp at hv
      rw [← hv]
      exact s.lim
    | 1, hv =>
      obtain rfl : j = 130 := by omega
      simp at hv
      rw [← hv]
      exact s.cnt
    | q + 2, hv => simp at hv
set_option maxHeartbeats 400000 in
theorem feeds_ok (a : Option Addr) (n c : Nat) (w : World) (h1 : 16 ≤ n) (h2 : n ≤ 65536) : Calls Tryd.prog 23 #[.slice a n c] w fun e w' => e = .returned (.bool true) ∧ w' = w := by
  have d1 : (16 : Int) ≤ (n : Nat) := by omega
  have d2 : ((n : Nat) : Int) ≤ 65536 := by omega
  go_enter Tryd.func23, Tryd.ntmps23
  go_wp2
  go_ret
  exact ⟨rfl, rfl⟩
set_option maxHeartbeats 1600000 in
set_option maxRecDepth 100000 in
/-- Copy. -/
theorem spcopy (g : Nat) (h : Int) (K V : Nat → Int) (L c : Int) (w : World) (hs : Hid (SpAt w g h K V L c)) :
    Calls Tryd.prog 11 #[.pointer (some ⟨g, 0, none⟩)] w fun e w' => ∃ g', e = .returned (.pointer (some ⟨g', 0, none⟩)) ∧ w.heap.size ≤ g' ∧ SpAt w' g' h K V L c ∧ Below w.heap.size w w' := by
  obtain ⟨C, HC⟩ : ∃ C : List Value, Hid (C = spL h K V L c) := ⟨_, rfl⟩
  have HCl : Hid (C.length = 131) := by show _ = _; rw [HC.out]; exact spL_length _ _ _ _ _
  have HCs : Hid (C.toArray.size = 131) := by show _ = _; simpa using HCl.out
  have HCo : Hid (C.toArray.all (·.oneCell') = true) := by show _ = _; rw [HC.out]; exact spL_one _ _ _ _ _
  have HR : Hid (w.rangeAt g 0 C) := by show World.rangeAt _ _ _ _; rw [HC.out]; exact hs.out.range
  have HX : Hid ((w.alloc (.cells Tryd.zeroCells65 65)).there w.heap.size 0 131) := there_new w Tryd.zeroCells65 65 131 (by rw [zero65]; exact Nat.le_refl _)
  go_enter Tryd.func11, Tryd.ntmps11
  go_upto_region 4 with (first
    | (refine wpList_load_mid (by rfl) 65 (.tmp 7) (by rfl) g 0 (by rfl) C _ HR.out Tryd.underlying65 rfl (by rw [HCl.out]; exact size65) ?_)
    | (refine wpList_store_mid (by rfl) 65 (.tmp 3) (.tmp 8) (by rfl) w.heap.size 0 C.toArray (by rfl) (by rfl) (by rw [HCs.out]; exact HX.out) (by rw [HCs.out]; exact size65) HCo.out ?_)
    | fail)
  have HF : Hid (SpAt ((w.alloc (.cells Tryd.zeroCells65 65)).setCells w.heap.size 0 C) w.heap.size h K V L c ∧ Below w.heap.size w ((w.alloc (.cells Tryd.zeroCells65 65)).setCells w.heap.size 0 C)) := by
    refine ⟨SpAt.of ?_ (World.there_setCells HX.out _ _ _), below_setCells _ (Nat.le_refl _) _ _ _ ((Below.refl _ _).alloc (Nat.le_refl _) _)⟩
    rw [← HC.out]
    exact World.rangeAt_setCells_same _ _ _ _ (by rw [HCl.out]; exact HX.out)
  generalize (w.alloc (.cells Tryd.zeroCells65 65)).setCells w.heap.size 0 C = w2 at HF ⊢
  go_wp2
  go_ret
  exact ⟨w.heap.size, rfl, Nat.le_refl _, HF.out.1, HF.out.2⟩
set_option maxHeartbeats 1600000 in
set_option maxRecDepth 100000 in
/-- New, of what must be taken. -/
theorem spnew (h L : Int) (ea na pa : Option Addr) (en ec nn nc pn pc : Nat) (E N P : List Int) (w : World) (k : Hid (Known h)) (hT : Hid (Tables w)) (hL1 : 1 ≤ L) (hL2 : L ≤ 16777216) (he : Hid (View w (.slice ea en ec) E)) (hel : Hid (E.length = en)) (hn : Hid (View w (.slice na nn nc) N)) (hnl : Hid (N.length = nn)) (hp : Hid (View w (.slice pa pn pc) P)) (hpl : Hid (P.length = pn)) (he1 : 16 ≤ en) (he2 : en ≤ 65536) (hn2 : nn ≤ 65536) (hp2 : pn ≤ 65536) :
    Calls Tryd.prog 9 #[.int .i64 h, .int .i64 L, .slice ea en ec, .slice na nn nc, .slice pa pn pc] w fun e w' => ∃ g, e = .returned (.tuple #[.pointer (some ⟨g, 0, none⟩), .int .i64 0]) ∧ w.heap.size ≤ g ∧ SpAt w' g h (updK h (fun _ => 0) (ones (szOf h)) (E ++ (N ++ P))) (updV h (fun _ => 0) (ones (szOf h)) (E ++ (N ++ P))) L 0 ∧ Below w.heap.size w w' := by
  have d1 : ¬ (65536 : Int) < (nn : Nat) := by omega
  have d2 : ¬ (65536 : Int) < (pn : Nat) := by omega
  have d3 : ¬ L < 1 := by omega
  have d4 : ¬ 16777216 < L := by omega
  have hT4 := hT.out.size
  obtain ⟨V, HV⟩ : ∃ V, Hid (V = ones (szOf h)) := ⟨_, rfl⟩
  obtain ⟨C, HC⟩ : ∃ C : List Value, Hid (C = stL h (fun _ => 0) V) := ⟨_, rfl⟩
  have HCl : Hid (C.length = 129) := by show _ = _; rw [HC.out]; exact stL_length _ _ _
  have HCs : Hid (C.toArray.size = 129) := by show _ = _; simpa using HCl.out
  have HCo : Hid (C.toArray.all (·.oneCell') = true) := by show _ = _; rw [HC.out]; exact stL_one _ _ _
  have H22 : Hid (Calls Tryd.prog 22 #[.int .i64 h] w fun e w' => Hid (e = .returned (.tuple #[.agg C.toArray, .int .i64 0]) ∧ Below w.heap.size w w')) := by
    have q := firstState_ok h w k
    rw [← HV.out, ← HC.out] at q
    exact q
  go_enter Tryd.func9, Tryd.ntmps9
  go_wp2_with (go_at_call 22; refine H22.out.mono ?_)
  intro e1 w1 hh
  obtain ⟨rfl, hb1⟩ := hh.out
  have HB1 : Hid (Below w.heap.size w w1) := hb1
  have HX1 : Hid ((w1.alloc (.cells Tryd.zeroCells60 60)).there w1.heap.size 0 129) := there_new w1 Tryd.zeroCells60 60 129 (by rw [zero60]; exact Nat.le_refl _)
  clear hh hb1 H22
  go_upto_region 2 with (first
    | (refine wpList_store_mid (by rfl) 60 (.tmp 12) (.tmp 18) (by rfl) w1.heap.size 0 C.toArray (by rfl) (by rfl) (by rw [HCs.out]; exact HX1.out) (by rw [HCs.out]; exact size60) HCo.out ?_)
    | fail)
  have HW2 : Hid (Below w.heap.size w ((w1.alloc (.cells Tryd.zeroCells60 60)).setCells w1.heap.size 0 C) ∧ ((w1.alloc (.cells Tryd.zeroCells60 60)).setCells w1.heap.size 0 C).rangeAt w1.heap.size 0 C) := ⟨below_setCells _ HB1.out.size _ _ _ (HB1.out.alloc HB1.out.size _), World.rangeAt_setCells_same _ _ _ _ (by rw [HCl.out]; exact HX1.out)⟩
  generalize (w1.alloc (.cells Tryd.zeroCells60 60)).setCells w1.heap.size 0 C = w2 at HW2 ⊢
  clear HX1
  obtain ⟨D, HD⟩ : ∃ D : List Value, Hid (D = spL h (fun _ => 0) V L 0) := ⟨_, rfl⟩
  have e65 : (List.foldl (fun (cs : Array Value) x => cs.setIfInBounds x.snd x.fst) Tryd.zeroCells65 C.zipIdx).setIfInBounds 129 (.int .i64 L) = D.toArray := by rw [HC.out, HD.out]; exact fold65 h _ V L
  have e65s : (List.foldl (fun (cs : Array Value) x => cs.setIfInBounds x.snd x.fst) Tryd.zeroCells65 C.zipIdx).size = 131 := by rw [HC.out]; exact fold65s h _ V
  have q1 : decide (L < 1) = false := by simp; omega
  have q2 : decide (16777216 < L) = false := by simp; omega
  have q3 : decide ((65536 : Int) < (nn : Nat)) = false := by simp; omega
  have q4 : decide ((65536 : Int) < (pn : Nat)) = false := by simp; omega
  go_upto_region 10 with (go_at_call 23; refine (feeds_ok ea en ec _ he1 he2).mono ?_; rintro e5 w5 ⟨rfl, hw5⟩; obtain rfl := hw5.symm)
  have hCl : C.length = 129 := HCl.out
  go_upto_region 11 with (first
    | (refine wpList_load_mid (by rfl) 60 (.tmp 12) (by rfl) w1.heap.size 0 (by rfl) C _ HW2.out.2 Tryd.underlying60 rfl (by rw [HCl.out]; exact size60) ?_)
    | fail)
  clear hCl
  have HDl : Hid (D.length = 131) := by show _ = _; rw [HD.out]; exact spL_length _ _ _ _ _
  have HW3 : Hid (Below w.heap.size w (w2.alloc (.cells D.toArray 65)) ∧ (w2.alloc (.cells D.toArray 65)).heap.size = w2.heap.size + 1 ∧ SpAt (w2.alloc (.cells D.toArray 65)) w2.heap.size h (fun _ => 0) V L 0) := by
    refine ⟨HW2.out.1.alloc HW2.out.1.size _, size_alloc1 _ _, SpAt.of ?_ (there_new w2 D.toArray 65 131 (by rw [show D.toArray.size = 131 by simpa using HDl.out]; exact Nat.le_refl _))⟩
    have q := rangeAt_new w2 D.toArray 65
    rw [← HD.out]
    exact q
  generalize w2.alloc (.cells D.toArray 65) = w3 at HW3 ⊢
  have hg2 : 4 ≤ w2.heap.size := Nat.le_trans hT4 HW2.out.1.size
  have HU : Hid (∀ t, Calls Tryd.prog 24 #[.pointer (some ⟨w2.heap.size, 0, none⟩), .slice (some ⟨w3.heap.size, 0, none⟩) 3 3] (w3.alloc (.cells #[.slice ea en ec, .slice na nn nc, .slice pa pn pc] t)) fun e w' => Hid (e = .returned (.tuple #[]) ∧ SpAt w' w2.heap.size h (updK h (fun _ => 0) V (E ++ (N ++ P))) (updV h (fun _ => 0) V (E ++ (N ++ P))) L 0 ∧ Below w.heap.size w w')) := by
    intro t
    have b4 := below_alloc1 w3 (.cells #[.slice ea en ec, .slice na nn nc, .slice pa pn pc] t)
    have b04 := HW3.out.1.trans (b4.mono HW3.out.1.size)
    have hsz := HW2.out.1.size
    have hpt := parts3_alloc (u := w3) t _ _ _ E N P w2.heap.size (he.out.kept (fun q hq => HW3.out.1.block q hq)) (hn.out.kept (fun q hq => HW3.out.1.block q hq)) (hp.out.kept (fun q hq => HW3.out.1.block q hq)) (by have := HW3.out.2.1; omega) (fun h0 b off l c e => by have := view_lt he.out h0 b off l c e; omega) (fun h0 b off l c e => by have := view_lt hn.out h0 b off l c e; omega) (fun h0 b off l c e => by have := view_lt hp.out h0 b off l c e; omega)
    have q := update_ok w2.heap.size h (fun _ => 0) V L 0 (.slice (some ⟨w3.heap.size, 0, none⟩) 3 3) [E, N, P] (w3.alloc (.cells #[.slice ea en ec, .slice na nn nc, .slice pa pn pc] t)) k (HW3.out.2.2.below b4) (hT.out.below b04 hT4) (.inr ⟨⟨_, _, _, rfl⟩, hpt⟩) (by show _ ≤ _; have h1 := hel.out; have h2 := hnl.out; have h3 := hpl.out; simp; omega) (by show (2 + 3) * 24 ≤ 140737488355328; decide) hg2
    have ef : ([E, N, P] : List (List Int)).flatten = E ++ (N ++ P) := by simp
    rw [ef] at q
    refine q.mono ?_
    rintro e w' ⟨r1, r2, r3⟩
    exact ⟨r1, r2, b04.trans (r3.toBelow hsz b04.size)⟩
  clear e65 e65s
  go_wp2_with (go_at_call 24; refine (HU.out _).mono ?_)
  intro e4 w4 hh
  obtain ⟨rfl, hs4, hb4⟩ := hh.out
  rw [HV.out] at hs4
  have HF : Hid (SpAt w4 w2.heap.size h (updK h (fun _ => 0) (ones (szOf h)) (E ++ (N ++ P))) (updV h (fun _ => 0) (ones (szOf h)) (E ++ (N ++ P))) L 0 ∧ Below w.heap.size w w4) := ⟨hs4, hb4⟩
  clear hh hs4 hb4 HU
  go_wp2
  go_ret2
  exact ⟨_, rfl, HW2.out.1.size, HF.out.1, HF.out.2⟩
end Go.Proofs.YtkeklmkaleomkaaDoor
namespace Go.Proofs.YtkeklmkaleomkaaDoor
open Go.RowKit
set_option linter.unusedVariables false
set_option linter.unusedSimpArgs false
/-- The document's spring at g. -/
structure RSp (w : World) (g : Nat) (dg L c : Int) (ka : Option Addr) (kc : Nat) (va : Option Addr) (vc : Nat) (KL VL : List Int) : Prop where
  c0 : w.cell? ⟨g, 0, none⟩ = some (.int .i64 dg)
  c1 : w.cell? ⟨g, 1, none⟩ = some (.int .i64 L)
  c2 : w.cell? ⟨g, 2, none⟩ = some (.int .i64 c)
  c3 : w.cell? ⟨g, 3, none⟩ = some (.slice ka (szOf dg) kc)
  c4 : w.cell? ⟨g, 4, none⟩ = some (.slice va (szOf dg) vc)
  there : w.there g 0 5
  vK : View w (.slice ka (szOf dg) kc) KL
  lK : KL.length = szOf dg
  vV : View w (.slice va (szOf dg) vc) VL
  lV : VL.length = szOf dg
  aK : ∀ b off, ka = some ⟨b, off, none⟩ → b ≠ g
  aV : ∀ b off, va = some ⟨b, off, none⟩ → b ≠ g
theorem RSp.lt {w : World} {g : Nat} {dg L c : Int} {ka va : Option Addr} {kc vc : Nat} {KL VL : List Int} (s : RSp w g dg L c ka kc va vc KL VL) : g < w.heap.size := lt_of_cell s.c0
theorem RSp.below {w v : World} {g : Nat} {dg L c : Int} {ka va : Option Addr} {kc vc : Nat} {KL VL : List Int} (s : RSp w g dg L c ka kc va vc KL VL) (b : Below w.heap.size w v) : RSp v g dg L c ka kc va vc KL VL := by
  have hb := b.block g s.lt
  have hc : ∀ j, v.cell? ⟨g, j, none⟩ = w.cell? ⟨g, j, none⟩ := fun j => World.cell?_of_block (a := ⟨g, j, none⟩) hb
  have hf : ∀ j, v.frozen? ⟨g, j, none⟩ = w.frozen? ⟨g, j, none⟩ := fun j => World.frozen?_of_block (a := ⟨g, j, none⟩) hb
  exact ⟨by rw [hc]; exact s.c0, by rw [hc]; exact s.c1, by rw [hc]; exact s.c2, by rw [hc]; exact s.c3, by rw [hc]; exact s.c4, fun j hj => by rw [hc, hf]; exact s.there j hj, s.vK.kept (fun q hq => b.block q hq), s.lK, s.vV.kept (fun q hq => b.block q hq), s.lV, s.aK, s.aV⟩
theorem RSp.setK {w : World} {g : Nat} {dg L c : Int} {ka va : Option Addr} {kc vc : Nat} {KL VL : List Int} (s : RSp w g dg L c ka kc va vc KL VL) (xa : Option Addr) (xc : Nat) (X : List Int) (hx : View w (.slice xa (szOf dg) xc) X) (hl : X.length = szOf dg) (ha : ∀ b off, xa = some ⟨b, off, none⟩ → b ≠ g) :
    RSp (w.setCell ⟨g, 3, none⟩ (.slice xa (szOf dg) xc)) g dg L c xa xc va vc X VL := by
  have out : ∀ j, j ≠ 3 → (w.setCell ⟨g, 3, none⟩ (.slice xa (szOf dg) xc)).cell? ⟨g, j, none⟩ = w.cell? ⟨g, j, none⟩ := fun j hj => World.cell?_setCell_other _ _ _ _ (by intro q; injection q with _ q2; omega)
  have t : Touch w (w.setCell ⟨g, 3, none⟩ (.slice xa (szOf dg) xc)) g 0 5 := (Touch.refl w g 0 5).setCell 3 _ (by omega) (by omega)
  exact ⟨by rw [out 0 (by omega)]; exact s.c0, by rw [out 1 (by omega)]; exact s.c1, by rw [out 2 (by omega)]; exact s.c2, World.cell?_setCell_same' _ _ _ (by rw [s.c3]; rfl), by rw [out 4 (by omega)]; exact s.c4, World.there_setCells s.there g 3 [.slice xa (szOf dg) xc], t.view hx (fun b off l c' e => .inl (by injection e with e1 _ _; exact ha b off e1)), hl, t.view s.vV (fun b off l c' e => .inl (by injection e with e1 _ _; exact s.aV b off e1)), s.lV, ha, s.aV⟩
theorem RSp.setV {w : World} {g : Nat} {dg L c : Int} {ka va : Option Addr} {kc vc : Nat} {KL VL : List Int} (s : RSp w g dg L c ka kc va vc KL VL) (xa : Option Addr) (xc : Nat) (X : List Int) (hx : View w (.slice xa (szOf dg) xc) X) (hl : X.length = szOf dg) (ha : ∀ b off, xa = some ⟨b, off, none⟩ → b ≠ g) :
    RSp (w.setCell ⟨g, 4, none⟩ (.slice xa (szOf dg) xc)) g dg L c ka kc xa xc KL X := by
  have out : ∀ j, j ≠ 4 → (w.setCell ⟨g, 4, none⟩ (.slice xa (szOf dg) xc)).cell? ⟨g, j, none⟩ = w.cell? ⟨g, j, none⟩ := fun j hj => World.cell?_setCell_other _ _ _ _ (by intro q; injection q with _ q2; omega)
  have t : Touch w (w.setCell ⟨g, 4, none⟩ (.slice xa (szOf dg) xc)) g 0 5 := (Touch.refl w g 0 5).setCell 4 _ (by omega) (by omega)
  exact ⟨by rw [out 0 (by omega)]; exact s.c0, by rw [out 1 (by omega)]; exact s.c1, by rw [out 2 (by omega)]; exact s.c2, by rw [out 3 (by omega)]; exact s.c3, World.cell?_setCell_same' _ _ _ (by rw [s.c4]; rfl), World.there_setCells s.there g 4 [.slice xa (szOf dg) xc], t.view s.vK (fun b off l c' e => .inl (by injection e with e1 _ _; exact s.aK b off e1)), s.lK, t.view hx (fun b off l c' e => .inl (by injection e with e1 _ _; exact ha b off e1)), hl, s.aK, ha⟩
/-- The state behind q steps of update. -/
def rst (dg : Int) (KL VL xs : List Int) : Nat → List Int × List Int
  | 0 => (KL, VL)
  | q + 1 => (hmac dg (rst dg KL VL xs q).1 ((rst dg KL VL xs q).2 ++ ((q : Nat) : Int) :: xs), hmac dg (hmac dg (rst dg KL VL xs q).1 ((rst dg KL VL xs q).2 ++ ((q : Nat) : Int) :: xs)) (rst dg KL VL xs q).2)
theorem RTab.touch {w w' : World} {g o n : Nat} (h : RTab w) (t : Touch w w' g o n) (hg : 4 ≤ g) : RTab w' := h.kept fun k hk => t.block k (by have := h.size; omega) (by omega)
end Go.Proofs.YtkeklmkaleomkaaDoor
