import Derived.Test.YtioggmjocelolabDoorCutsW
import Derived.Laws.AppendOwnNone
import Derived.Deep.DeepMust
namespace Go.Proofs.YtioggmjocelolabDoor
open Go.RowKit
set_option linter.unusedVariables false
set_option linter.unusedSimpArgs false

theorem fnz_zeros (zs : List Int) (n : Nat) : fnz (zs ++ List.replicate n 0) = fnz zs := by
  funext i
  by_cases h : i < zs.length
  · exact fnz_left zs _ i h
  · obtain ⟨j, rfl⟩ : ∃ j, i = zs.length + j := ⟨i - zs.length, by omega⟩
    rw [fnz_right]
    simp only [fnz, List.getD, List.getElem?_replicate]
    rw [List.getElem?_eq_none (by omega)]
    split <;> rfl
/-- A key with zeros behind it, not more than a block, makes the same states. -/
theorem stateOf_zeros (h : Int) (key : List Int) (n : Nat) (hn : key.length + n ≤ bsz (wdOf h)) (mask : Int) : stateOf h (key ++ List.replicate n 0) mask = stateOf h key mask := by
  have e1 : keyOf h (key ++ List.replicate n 0) = key ++ List.replicate n 0 := by rw [keyOf, if_pos (by simp; omega)]
  have e2 : keyOf h key = key := by rw [keyOf, if_pos (by omega)]
  have e3 : maskF (key ++ List.replicate n 0) mask = maskF key mask := by
    funext i
    rw [maskF, maskF, fnz_zeros]
  rw [stateOf, stateOf, e1, e2, e3]
/-- A key that is longer than a block, and its digest. -/
theorem stateOf_dig {h : Int} (k : Known h) (key : List Int) (hn : bsz (wdOf h) < key.length) (mask : Int) : stateOf h (dig h key) mask = stateOf h key mask := by
  have hs := szOf_le k
  have hb : 64 ≤ bsz (wdOf h) := by cases wdOf h <;> decide
  have e1 : keyOf h (dig h key) = dig h key := by rw [keyOf, if_pos (by rw [dig_length k]; omega)]
  have e2 : keyOf h key = dig h key := by rw [keyOf, if_neg (by omega)]
  rw [stateOf, stateOf, e1, e2]
theorem owns_form {w : World} {B n : Nat} {v : Value} {xs : List Value} (h : w.ownsRow B 5 1 v n xs) : ∃ a c, v = .slice a n c ∧ n ≤ c ∧ c ≤ maxLen := by
  rcases h.2 with ⟨rfl, rfl⟩ | ⟨g, c, cur, rfl, _, _, h1, h2, _⟩
  · exact ⟨none, 0, rfl, Nat.le_refl _, by simp [maxLen]⟩
  · exact ⟨_, c, rfl, h1, h2⟩
theorem view_cellsU8 {w : World} {x : Addr} {n cap : Nat} {zs : List Int} (hv : View w (.slice (some x) n cap) zs) : ∀ j u, (cellsU8 zs)[j]? = some u → w.cell? (x.add j) = some u := by
  obtain ⟨a, c, e, h1, h2, h3, h4⟩ := hv
  rcases h4 with rfl | ⟨b, off, ea, hc⟩
  · intro j u hu; simp [cellsU8] at hu
  · rw [ea] at e
    injection e with e1 _ _
    injection e1 with e1
    subst e1
    exact cellsU8_at zs w b off hc
theorem view3 (u : World) (t : TypeId) : View (u.alloc (.cells #[.int .u8 1, .int .u8 2, .int .u8 3] t)) (.slice (some ⟨u.heap.size, 0, none⟩) 3 3) [1, 2, 3] := by
  refine ⟨_, 3, rfl, by simp, by simp [maxLen], (fun e => by cases e), .inr ⟨u.heap.size, 0, rfl, fun i hi => ?_⟩⟩
  have hi' : i < 3 := by simpa using hi
  rw [World.cell?_alloc_at _ _ _ _ rfl]
  match i, hi' with
  | 0, _ => rfl
  | 1, _ => rfl
  | 2, _ => rfl

set_option maxHeartbeats 3200000 in
set_option maxRecDepth 100000 in
theorem keys64_some (h z : Int) (x : Addr) (ba ca : Option Addr) (kn kc bn bc cn cc : Nat) (key bs : List Int) (w : World) (k : Hid (Known h)) (hkv : Hid (View w (.slice (some x) kn kc) key)) (hbv : Hid (View w (.slice ba bn bc) bs))
    (hT : Hid (Tables w)) (hb : (bn : Int) ≤ 65536) (hkn : (kn : Int) ≤ 65536) (hbl : Hid (blockOf h = 64 ∧ bsz (wdOf h) = 64)) :
    Calls Tryd.prog 4 #[.agg #[.int .i64 h, .slice (some x) kn kc, .slice ba bn bc, .slice ca cn cc, .int .i64 z]] w fun e w' => e = .returned (.bool true) ∧ Below w.heap.size w w' := by
  have HBL : Hid (bs.length = bn) := (view_bounds hbv.out).1
  have HKL : Hid (key.length = kn) := (view_bounds hkv.out).1
  obtain ⟨i0, hi, hz0, hz1, hz2⟩ := info_parts Tryd.info5
  go_enter Tryd.func4, Tryd.ntmps4
  go_upto_region 8 with (first
    | (go_at_call 9; refine (known_any h _ k.out).mono ?_; rintro e1 w1 ⟨rfl, hw1⟩; obtain rfl := hw1.symm)
    | (go_at_call 15; refine (block_any h _).mono ?_; rintro e1 w1 ⟨rfl, hw1⟩; obtain rfl := hw1.symm; rw [hbl.out.1])
    | fail)
  have HB0 : Hid (Below w.heap.size w (w.alloc (.cells #[.int .i64 h, .slice (some x) kn kc, .slice ba bn bc, .slice ca cn cc, .int .i64 z] 36))) := below_alloc1 w _
  generalize w.alloc (.cells #[.int .i64 h, .slice (some x) kn kc, .slice ba bn bc, .slice ca cn cc, .int .i64 z] 36) = w1 at HB0 ⊢
  have HV1 : Hid (View w1 (.slice ba bn bc) bs ∧ View w1 (.slice (some x) kn kc) key ∧ Tables w1) := ⟨hbv.out.kept (fun q hq => HB0.out.block q hq), hkv.out.kept (fun q hq => HB0.out.block q hq), hT.out.below HB0.out hT.out.size⟩
  go_wp2_with (first | (go_at_call 16; refine (dcode1 k.out w1 _ _ key _ bs HV1.out.2.1 (by have := HKL.out; omega) HV1.out.1 HV1.out.2.2 (by have := HBL.out; omega)).mono ?_))
  rintro e2 w2 ⟨bd, rfl, hbd1, hbd2, hvd, hb2⟩
  have HB2 : Hid (Below w.heap.size w w2 ∧ bd < w2.heap.size ∧ View w2 (.slice (some ⟨bd, 0, none⟩) (szOf h) (szOf h)) (hmac h key bs)) := ⟨HB0.out.trans (hb2.mono HB0.out.size), hbd2, hvd⟩
  clear hbd1 hbd2 hvd hb2 HV1 HB0
  have hq8 := quo8 k.out
  obtain ⟨sz, HSZ⟩ : ∃ sz : Nat, Hid (sz = szOf h) := ⟨_, (show _ = _ from rfl)⟩
  rw [← HSZ.out] at hq8 HB2
  rw [← HSZ.out]
  have hsz : (sz : Int) ≤ 64 := by rw [HSZ.out]; have := szOf_le k.out; omega
  go_upto_if 68 with (first | (go_at_call 11; refine (num0 _).mono ?_; rintro e9 w9 ⟨rfl, hw9⟩; obtain rfl := hw9.symm; clear hw9) | fail)
  clear hq8
  go_cut [9, 10] from 65 (fun v9 v10 wx => v9 = .int .i64 0 ∧ ∃ other : List Int, ∃ oa on oc, v10 = .slice oa on oc ∧ Hid (View wx (.slice oa on oc) other) ∧ Hid (other.length ≤ 65536) ∧ Hid (∀ m, stateOf h other m = stateOf h key m) ∧ Hid (Below w2.heap.size w2 wx))
  case first =>
    have HV2 : Hid (View w2 (.slice (some x) kn kc) key ∧ Tables w2) := ⟨hkv.out.kept (fun q hq => HB2.out.1.block q hq), hT.out.below HB2.out.1 hT.out.size⟩
    by_cases hlong : (64 : Int) < kn
    · go_wp2_with (first | (go_at_call 17; refine (dsum1 k.out w2 _ _ key HV2.out.1 HV2.out.2 (by have := HKL.out; omega)).mono ?_))
      rintro e3 w3 ⟨bo, rfl, hbo1, hbo2, hvo, hb3⟩
      have HQ : Hid (View w3 (.slice (some ⟨bo, 0, none⟩) (szOf h) (szOf h)) (dig h key) ∧ Below w2.heap.size w2 w3) := ⟨hvo, hb3⟩
      clear hbo1 hbo2 hvo hb3
      go_wp2
      go_meet
      case rel => exact ⟨rfl, dig h key, _, _, _, rfl, HQ.out.1, (by show _ ≤ _; rw [dig_length k.out]; have := szOf_le k.out; omega), (fun m => stateOf_dig k.out key (by rw [hbl.out.2]; have := HKL.out; omega) m), HQ.out.2⟩
    · have h1 : Hid (∀ j u, (cellsU8 key)[j]? = some u → w2.cell? (x.add j) = some u) := view_cellsU8 HV2.out.1
      go_wp2_with (first
        | (at_builtin; go_must (refine wpList_append_own _ rfl (.tmp 76) (.tmp 77) 22 rfl w2.heap.size 5 i0 (.int .u8 0) 1 1 Tryd.underlying22 hi hz0 hz1 hz2 rfl (by decide) _ 0 [] rfl (World.ownsRow_nil _ _ _ _) x kn kc (cellsU8 key) rfl ?_ h1.out (cellsU8_one key) ?_ ?_ (Nat.le_refl _) ?_)))
      · rw [cellsU8_length, HKL.out]
      · unfold maxLen; omega
      · omega
      intro v1 w3 hown hgrow hnil
      have HO3 : Hid (w3.ownsRow w2.heap.size 5 1 v1 kn (cellsU8 key)) := by show World.ownsRow _ _ _ _ _ _ _; simpa using hown
      have HB3 : Hid (Below w2.heap.size w2 w3) := (Below.refl _ _).grown hgrow (Nat.le_refl _) (by intro k hk; cases hk)
      clear hown hgrow hnil
      go_wp2
      go_loopw [10, 11] (fun v i wr => ∃ q : Nat, i = .int .i64 q ∧ kn + q ≤ 64 ∧ Hid (wr.ownsRow w2.heap.size 5 1 v (kn + q) (cellsU8 (key ++ List.replicate q 0))) ∧ Hid (Below w2.heap.size w2 wr)) (fun _ i _ => 64 - (intOf i).toNat)
      case atStart => exact ⟨0, rfl, by omega, by show World.ownsRow _ _ _ _ _ _ _; simpa using HO3.out, HB3⟩
      case round =>
        obtain ⟨q, rfl, hq, HO, HB⟩ := hrel
        clear HO3 HB3
        obtain ⟨oa, oc, rfl, ho1, ho2⟩ := owns_form HO.out
        unfold maxLen at ho2
        obtain ⟨l, hl⟩ : ∃ l, l = kn + q := ⟨_, rfl⟩
        have HL : Hid (l = kn + q) := hl
        rw [← hl] at HO ho1 hq ⊢
        clear hl
        by_cases hz : (q : Int) < z
        · by_cases hlt : (l : Int) < 64
          · go_wp2_with (first
              | (at_builtin; go_must (refine wpList_append_own _ rfl (.tmp 90) (.tmp 91) 22 rfl w2.heap.size 5 i0 (.int .u8 0) 1 1 Tryd.underlying22 hi hz0 hz1 hz2 rfl (by decide) _ _ _ rfl (HO.out.alloc _) ⟨wr.heap.size, 0, none⟩ 1 1 [.int .u8 0] rfl rfl ?_ ?_ ?_ ?_ ?_ ?_)))
            · intro j u hj
              match j, hj with
              | 0, hj => simp at hj; subst hj; simp [Addr.add]
            · intro u hu; simp at hu; subst hu; rfl
            · unfold maxLen; omega
            · omega
            · have := HB.out.size; simp; omega
            intro v2 w4 hown4 hgrow4 hnil4
            have HB5 : Hid (Below w2.heap.size w2 w4) := (HB.out.alloc HB.out.size _).grown hgrow4 (by have := HB.out.size; simp; omega) (fun p hp => (HO.out.lt p hp).1)
            have HO5 : Hid (w4.ownsRow w2.heap.size 5 1 v2 (kn + (q + 1)) (cellsU8 (key ++ List.replicate (q + 1) 0))) := by
              show World.ownsRow _ _ _ _ _ _ _
              rw [List.replicate_succ', ← List.append_assoc, cellsU8_append, ← Nat.add_assoc, ← HL.out]
              simpa [cellsU8] using hown4
            clear hown4 hgrow4 hnil4
            have hqb : (q : Int) < 128 := by have := HL.out; omega
            go_wp2
            go_roundw
            case rel => exact ⟨q + 1, by go_num, by have := HL.out; omega, HO5, HB5⟩
            case measure => have := HL.out; simp [intOf]; omega
          · go_wp2
            go_meet
            case rel => exact ⟨rfl, key ++ List.replicate q 0, oa, l, oc, rfl, owns_view (by have := HL.out; have := HKL.out; simp; omega) HO.out, (by show _ ≤ _; have := HL.out; have := HKL.out; simp; omega), (fun m => stateOf_zeros h key q (by rw [hbl.out.2]; have := HL.out; have := HKL.out; omega) m), HB⟩
        · go_wp2
          go_meet
          case rel => exact ⟨rfl, key ++ List.replicate q 0, oa, l, oc, rfl, owns_view (by have := HL.out; have := HKL.out; simp; omega) HO.out, (by show _ ≤ _; have := HL.out; have := HKL.out; simp; omega), (fun m => stateOf_zeros h key q (by rw [hbl.out.2]; have := HL.out; have := HKL.out; omega) m), HB⟩
  case rest =>
    obtain ⟨rfl, other, oa, on, oc, rfl, HOV, HOL, HST, HBX⟩ := hcut
    obtain ⟨si, HSI⟩ : ∃ E : Eight, Hid (E = stateOf h key 54) := ⟨_, (show _ = _ from rfl)⟩
    obtain ⟨so, HSO⟩ : ∃ E : Eight, Hid (E = stateOf h key 92) := ⟨_, (show _ = _ from rfl)⟩
    have HBC : Hid (Below w.heap.size w wc) := HB2.out.1.trans (HBX.out.mono HB2.out.1.size)
    have HVC : Hid (View wc (.slice ba bn bc) bs ∧ Tables wc) := ⟨hbv.out.kept (fun q hq => HBC.out.block q hq), hT.out.below HBC.out hT.out.size⟩
    go_wp2_with (first | (go_at_call 16; refine (dcode1 k.out wc _ _ other _ bs HOV.out (by have := HOL.out; omega) HVC.out.1 HVC.out.2 (by have := HBL.out; omega)).mono ?_))
    rintro e3 w3 ⟨be, rfl, hbe1, hbe2, hve, hb3⟩
    rw [← HSZ.out] at hve
    rw [← HSZ.out]
    have HB3 : Hid (Below w.heap.size w w3 ∧ Below wc.heap.size wc w3 ∧ View w3 (.slice (some ⟨be, 0, none⟩) sz sz) (hmac h key bs)) := by
      refine ⟨HBC.out.trans (hb3.mono HBC.out.size), hb3, ?_⟩
      rw [hmac, ← HST.out 54, ← HST.out 92]
      exact hve
    clear hbe1 hbe2 hve hb3 HVC
    have HN : Hid (Calls Tryd.prog 18 #[.int .i64 h, .slice oa on oc] w3 fun e w' => ∃ g, e = .returned (.tuple #[.pointer (some ⟨g, 0, none⟩), .int .i64 0]) ∧ w3.heap.size ≤ g ∧ MRep w' g h si so [] ∧ Below w3.heap.size w3 w') := by
      show Calls _ _ _ _ _
      rw [HSI.out, HSO.out, ← HST.out 54, ← HST.out 92]
      exact newMac_any h _ other w3 k.out (HOV.out.kept (fun q hq => HB3.out.2.1.block q hq)) (by have := HOL.out; omega) (hT.out.below HB3.out.1 hT.out.size)
    go_wp2_with (first | (go_at_call 18; refine HN.out.mono ?_))
    rintro e4 w4 ⟨gm, rfl, hm4, hr4, hb4⟩
    have HB4 : Hid (Below w.heap.size w w4 ∧ w.heap.size ≤ gm ∧ MRep w4 gm h si so []) := ⟨HB3.out.1.trans (hb4.mono HB3.out.1.size), Nat.le_trans HB3.out.1.size hm4, hr4⟩
    have HCD : Hid (View w4 (.slice (some ⟨bd, 0, none⟩) sz sz) (hmac h key bs) ∧ View w4 (.slice (some ⟨be, 0, none⟩) sz sz) (hmac h key bs) ∧ bd ≠ gm ∧ bd < w4.heap.size) := by
      have q1 := HB2.out.2.1
      have q2 := HBX.out.size
      have q3 := HB3.out.2.1.size
      have q4 := hb4.size
      exact ⟨((HB2.out.2.2.kept (fun q hq => HBX.out.block q hq)).kept (fun q hq => HB3.out.2.1.block q hq)).kept (fun q hq => hb4.block q hq), HB3.out.2.2.kept (fun q hq => hb4.block q hq), by omega, by omega⟩
    clear hm4 hr4 hb4 HN HB3 HOV HBX
    have HS4 : Hid (Calls Tryd.prog 12 #[.slice (some ⟨bd, 0, none⟩) sz sz, .slice (some ⟨be, 0, none⟩) sz sz] w4 fun e w' => e = .returned (.bool true) ∧ Sm w4 w') := same_yes _ _ _ w4 HCD.out.1 HCD.out.2.1
    go_wp2_with (first | (go_at_call 11; refine (num0 _).mono ?_; rintro e9 w9 ⟨rfl, hw9⟩; obtain rfl := hw9.symm; clear hw9) | (go_at_call 12; refine HS4.out.mono ?_))
    rintro e5 w5 ⟨rfl, hsm5⟩
    have h45 : Below w4.heap.size w4 w5 := ⟨hsm5.os, hsm5.tape, hsm5.output, by rw [hsm5.heap]; exact Nat.le_refl _, fun q _ => by rw [hsm5.heap]⟩
    have HB5 : Hid (Below w.heap.size w w5 ∧ MRep w5 gm h si so [] ∧ View w5 (.slice (some ⟨bd, 0, none⟩) sz sz) (hmac h key bs)) := ⟨HB4.out.1.trans (h45.mono HB4.out.1.size), HB4.out.2.2.below h45, HCD.out.1.kept (fun q hq => h45.block q hq)⟩
    have hg4 : 4 ≤ gm := Nat.le_trans hT.out.size HB4.out.2.1
    have HW6 : Hid (∀ t t', Calls Tryd.prog 19 #[.pointer (some ⟨gm, 0, none⟩), .slice (some ⟨w5.heap.size + 1, 0, none⟩) 1 1] ((w5.alloc (.cells #[.int .u8 1, .int .u8 2, .int .u8 3] t)).alloc (.cells #[.slice (some ⟨w5.heap.size, 0, none⟩) 3 3] t')) fun e w' => e = .returned (.int .i64 0) ∧ Below w.heap.size w w' ∧ MRep w' gm h si so [1, 2, 3] ∧ View w' (.slice (some ⟨bd, 0, none⟩) sz sz) (hmac h key bs)) := by
      intro t t'
      have ha := below_alloc1 w5 (.cells #[.int .u8 1, .int .u8 2, .int .u8 3] t)
      have hb := below_alloc1 (w5.alloc (.cells #[.int .u8 1, .int .u8 2, .int .u8 3] t)) (.cells #[.slice (some ⟨w5.heap.size, 0, none⟩) 3 3] t')
      have hab := ha.trans (hb.mono ha.size)
      have hlt := HB5.out.2.1.1.lt
      have hs1 : (w5.alloc (.cells #[.int .u8 1, .int .u8 2, .int .u8 3] t)).heap.size = w5.heap.size + 1 := size_alloc1 _ _
      have hp := parts1_alloc (u := w5.alloc (.cells #[.int .u8 1, .int .u8 2, .int .u8 3] t)) t' _ [1, 2, 3] gm (view3 w5 t) (by omega) (fun _ b off l c e => by injection e with e1 _ _; injection e1 with e1; injection e1 with e2 _; omega)
      rw [hs1] at hp
      have hB := HB5.out.1.trans (hab.mono HB5.out.1.size)
      refine (mwrite gm h si so [] [[1, 2, 3]] _ _ k (HB5.out.2.1.below hab) hp (hT.out.below hB hT.out.size) hg4 (by show _ ≤ _; simp)).mono ?_
      rintro e w' ⟨rfl, ht, hr⟩
      exact ⟨rfl, hB.trans (ht.toBelow HB4.out.2.1 hB.size), by simpa using hr, ht.view (HB5.out.2.2.kept (fun q hq => hab.block q hq)) (fun b off l c e => .inl (by injection e with e1 _ _; injection e1 with e1; injection e1 with e2 _; have := HCD.out.2.2.1; omega))⟩
    clear hsm5 h45 HS4
    go_wp2_with (first | (go_at_call 11; refine (num0 _).mono ?_; rintro e9 w9 ⟨rfl, hw9⟩; obtain rfl := hw9.symm; clear hw9) | (go_at_call 19; refine (HW6.out _ _).mono ?_))
    rintro e6 w6 ⟨rfl, hb6, hm6, hv6⟩
    have HB6 : Hid (Below w.heap.size w w6 ∧ MRep w6 gm h si so [1, 2, 3] ∧ View w6 (.slice (some ⟨bd, 0, none⟩) sz sz) (hmac h key bs)) := ⟨hb6, hm6, hv6⟩
    clear hb6 hm6 hv6 HW6 HB5
    go_wp2_with (first | (go_at_call 11; refine (num0 _).mono ?_; rintro e9 w9 ⟨rfl, hw9⟩; obtain rfl := hw9.symm; clear hw9) | (go_at_call 20; refine (mreset gm h si so [1, 2, 3] w6 k HB6.out.2.1).mono ?_))
    rintro e7 w7 ⟨rfl, ht7, hm7⟩
    have HB7 : Hid (Below w.heap.size w w7 ∧ MRep w7 gm h si so [] ∧ View w7 (.slice (some ⟨bd, 0, none⟩) sz sz) (hmac h key bs)) := ⟨HB6.out.1.trans (ht7.toBelow HB4.out.2.1 HB6.out.1.size), hm7, ht7.view HB6.out.2.2 (fun b off l c e => .inl (by injection e with e1 _ _; injection e1 with e1; injection e1 with e2 _; have := HCD.out.2.2.1; omega))⟩
    have HW8 : Hid (∀ t, Calls Tryd.prog 19 #[.pointer (some ⟨gm, 0, none⟩), .slice (some ⟨w7.heap.size, 0, none⟩) 1 1] (w7.alloc (.cells #[.slice ba bn bc] t)) fun e w' => e = .returned (.int .i64 0) ∧ Below w.heap.size w w' ∧ MRep w' gm h si so bs ∧ View w' (.slice (some ⟨bd, 0, none⟩) sz sz) (hmac h key bs)) := by
      intro t
      have ha := below_alloc1 w7 (.cells #[.slice ba bn bc] t)
      have hlt := HB7.out.2.1.1.lt
      have hvb : View w7 (.slice ba bn bc) bs := hbv.out.kept (fun q hq => HB7.out.1.block q hq)
      have hp := parts1_alloc (u := w7) t _ bs gm hvb (by omega) (fun h0 b off l c e => by have := view_lt hbv.out h0 b off l c e; have := HB4.out.2.1; omega)
      have hB := HB7.out.1.trans (ha.mono HB7.out.1.size)
      refine (mwrite gm h si so [] [bs] _ _ k (HB7.out.2.1.below ha) hp (hT.out.below hB hT.out.size) hg4 (by show _ ≤ _; have := HBL.out; simp; omega)).mono ?_
      rintro e w' ⟨rfl, ht, hr⟩
      exact ⟨rfl, hB.trans (ht.toBelow HB4.out.2.1 hB.size), by simpa using hr, ht.view (HB7.out.2.2.kept (fun q hq => ha.block q hq)) (fun b off l c e => .inl (by injection e with e1 _ _; injection e1 with e1; injection e1 with e2 _; have := HCD.out.2.2.1; omega))⟩
    clear ht7 hm7 HB6
    go_wp2_with (first | (go_at_call 11; refine (num0 _).mono ?_; rintro e9 w9 ⟨rfl, hw9⟩; obtain rfl := hw9.symm; clear hw9) | (go_at_call 19; refine (HW8.out _).mono ?_))
    rintro e8 w8 ⟨rfl, hb8, hm8, hv8⟩
    have HB8 : Hid (Below w.heap.size w w8 ∧ MRep w8 gm h si so bs ∧ View w8 (.slice (some ⟨bd, 0, none⟩) sz sz) (hmac h key bs)) := ⟨hb8, hm8, hv8⟩
    have HT8 : Hid (Tables w8) := hT.out.below hb8 hT.out.size
    clear hb8 hm8 hv8 HW8 HB7
    go_wp2_with (first | (go_at_call 11; refine (num0 _).mono ?_; rintro e9 w9 ⟨rfl, hw9⟩; obtain rfl := hw9.symm; clear hw9) | (go_at_call 21; refine (msum gm h si so bs w8 k HB8.out.2.1 HT8 (by show _ ≤ _; have := HBL.out; omega)).mono ?_))
    rintro e9 w9 ⟨br, rfl, ho9, hb9⟩
    rw [← HSZ.out] at ho9
    rw [← HSZ.out]
    have HB9 : Hid (Below w.heap.size w w9) := HB8.out.1.trans (hb9.mono HB8.out.1.size)
    have HS9 : Hid (Calls Tryd.prog 12 #[.slice (some ⟨br, 0, none⟩) sz sz, .slice (some ⟨bd, 0, none⟩) sz sz] w9 fun e w' => e = .returned (.bool true) ∧ Sm w9 w') := same_yes _ _ (hmac h key bs) w9 (by rw [hmac, ← HSI.out, ← HSO.out]; exact owns_view (by rw [macL_length k.out, HSZ.out]) ho9) (HB8.out.2.2.kept (fun q hq => hb9.block q hq))
    clear ho9 hb9
    go_wp2_with (first | (go_at_call 12; refine HS9.out.mono ?_))
    rintro e10 w10 ⟨rfl, hsm10⟩
    have HB10 : Hid (Below w.heap.size w w10) := HB9.out.trans ⟨hsm10.os, hsm10.tape, hsm10.output, by rw [hsm10.heap]; exact Nat.le_refl _, fun q _ => by rw [hsm10.heap]⟩
    clear hsm10 HS9
    go_wp2
    go_ret
    exact ⟨rfl, HB10.out⟩

set_option maxHeartbeats 3200000 in
set_option maxRecDepth 100000 in
theorem keys64_none (h z : Int) (ba ca : Option Addr) (bn bc cn cc : Nat) (key bs : List Int) (w : World) (k : Hid (Known h)) (hkv : Hid (View w (.slice none 0 0) key)) (hbv : Hid (View w (.slice ba bn bc) bs))
    (hT : Hid (Tables w)) (hb : (bn : Int) ≤ 65536) (hbl : Hid (blockOf h = 64 ∧ bsz (wdOf h) = 64)) :
    Calls Tryd.prog 4 #[.agg #[.int .i64 h, .slice none 0 0, .slice ba bn bc, .slice ca cn cc, .int .i64 z]] w fun e w' => e = .returned (.bool true) ∧ Below w.heap.size w w' := by
  have HBL : Hid (bs.length = bn) := (view_bounds hbv.out).1
  have HKL : Hid (key.length = 0) := (view_bounds hkv.out).1
  obtain ⟨i0, hi, hz0, hz1, hz2⟩ := info_parts Tryd.info5
  go_enter Tryd.func4, Tryd.ntmps4
  go_upto_region 8 with (first
    | (go_at_call 9; refine (known_any h _ k.out).mono ?_; rintro e1 w1 ⟨rfl, hw1⟩; obtain rfl := hw1.symm)
    | (go_at_call 15; refine (block_any h _).mono ?_; rintro e1 w1 ⟨rfl, hw1⟩; obtain rfl := hw1.symm; rw [hbl.out.1])
    | fail)
  have HB0 : Hid (Below w.heap.size w (w.alloc (.cells #[.int .i64 h, .slice none 0 0, .slice ba bn bc, .slice ca cn cc, .int .i64 z] 36))) := below_alloc1 w _
  generalize w.alloc (.cells #[.int .i64 h, .slice none 0 0, .slice ba bn bc, .slice ca cn cc, .int .i64 z] 36) = w1 at HB0 ⊢
  have HV1 : Hid (View w1 (.slice ba bn bc) bs ∧ View w1 (.slice none 0 0) key ∧ Tables w1) := ⟨hbv.out.kept (fun q hq => HB0.out.block q hq), hkv.out.kept (fun q hq => HB0.out.block q hq), hT.out.below HB0.out hT.out.size⟩
  go_wp2_with (first | (go_at_call 16; refine (dcode1 k.out w1 _ _ key _ bs HV1.out.2.1 (by have := HKL.out; omega) HV1.out.1 HV1.out.2.2 (by have := HBL.out; omega)).mono ?_))
  rintro e2 w2 ⟨bd, rfl, hbd1, hbd2, hvd, hb2⟩
  have HB2 : Hid (Below w.heap.size w w2 ∧ bd < w2.heap.size ∧ View w2 (.slice (some ⟨bd, 0, none⟩) (szOf h) (szOf h)) (hmac h key bs)) := ⟨HB0.out.trans (hb2.mono HB0.out.size), hbd2, hvd⟩
  clear hbd1 hbd2 hvd hb2 HV1 HB0
  have hq8 := quo8 k.out
  obtain ⟨sz, HSZ⟩ : ∃ sz : Nat, Hid (sz = szOf h) := ⟨_, (show _ = _ from rfl)⟩
  rw [← HSZ.out] at hq8 HB2
  rw [← HSZ.out]
  have hsz : (sz : Int) ≤ 64 := by rw [HSZ.out]; have := szOf_le k.out; omega
  go_upto_if 68 with (first | (go_at_call 11; refine (num0 _).mono ?_; rintro e9 w9 ⟨rfl, hw9⟩; obtain rfl := hw9.symm; clear hw9) | fail)
  clear hq8
  go_cut [9, 10] from 65 (fun v9 v10 wx => v9 = .int .i64 0 ∧ ∃ other : List Int, ∃ oa on oc, v10 = .slice oa on oc ∧ Hid (View wx (.slice oa on oc) other) ∧ Hid (other.length ≤ 65536) ∧ Hid (∀ m, stateOf h other m = stateOf h key m) ∧ Hid (Below w2.heap.size w2 wx))
  case first =>
    have HV2 : Hid (View w2 (.slice none 0 0) key ∧ Tables w2) := ⟨hkv.out.kept (fun q hq => HB2.out.1.block q hq), hT.out.below HB2.out.1 hT.out.size⟩
    go_wp2_with (first
      | (at_builtin; go_must (refine wpList_append_own_none rfl (.tmp 76) (.tmp 77) 22 rfl w2.heap.size 5 i0 1 Tryd.underlying22 hi _ 0 [] rfl (World.ownsRow_nil _ _ _ _) rfl ?_)))
    have HO3 : Hid (w2.ownsRow w2.heap.size 5 1 (.slice none 0 0) 0 (cellsU8 key)) := by show World.ownsRow _ _ _ _ _ _ _; have e0 : key = [] := List.length_eq_zero_iff.1 HKL.out; rw [e0]; exact World.ownsRow_nil _ _ _ _
    have HB3 : Hid (Below w2.heap.size w2 w2) := Below.refl _ _
    go_wp2
    go_loopw [10, 11] (fun v i wr => ∃ q : Nat, i = .int .i64 q ∧ 0 + q ≤ 64 ∧ Hid (wr.ownsRow w2.heap.size 5 1 v (0 + q) (cellsU8 (key ++ List.replicate q 0))) ∧ Hid (Below w2.heap.size w2 wr)) (fun _ i _ => 64 - (intOf i).toNat)
    case atStart => exact ⟨0, rfl, by omega, by show World.ownsRow _ _ _ _ _ _ _; simpa using HO3.out, HB3⟩
    case round =>
      obtain ⟨q, rfl, hq, HO, HB⟩ := hrel
      clear HO3 HB3
      obtain ⟨oa, oc, rfl, ho1, ho2⟩ := owns_form HO.out
      unfold maxLen at ho2
      obtain ⟨l, hl⟩ : ∃ l, l = 0 + q := ⟨_, rfl⟩
      have HL : Hid (l = 0 + q) := hl
      rw [← hl] at HO ho1 hq ⊢
      clear hl
      by_cases hz : (q : Int) < z
      · by_cases hlt : (l : Int) < 64
        · go_wp2_with (first
            | (at_builtin; go_must (refine wpList_append_own _ rfl (.tmp 90) (.tmp 91) 22 rfl w2.heap.size 5 i0 (.int .u8 0) 1 1 Tryd.underlying22 hi hz0 hz1 hz2 rfl (by decide) _ _ _ rfl (HO.out.alloc _) ⟨wr.heap.size, 0, none⟩ 1 1 [.int .u8 0] rfl rfl ?_ ?_ ?_ ?_ ?_ ?_)))
          · intro j u hj
            match j, hj with
            | 0, hj => simp at hj; subst hj; simp [Addr.add]
          · intro u hu; simp at hu; subst hu; rfl
          · unfold maxLen; omega
          · omega
          · have := HB.out.size; simp; omega
          intro v2 w4 hown4 hgrow4 hnil4
          have HB5 : Hid (Below w2.heap.size w2 w4) := (HB.out.alloc HB.out.size _).grown hgrow4 (by have := HB.out.size; simp; omega) (fun p hp => (HO.out.lt p hp).1)
          have HO5 : Hid (w4.ownsRow w2.heap.size 5 1 v2 (0 + (q + 1)) (cellsU8 (key ++ List.replicate (q + 1) 0))) := by
            show World.ownsRow _ _ _ _ _ _ _
            rw [List.replicate_succ', ← List.append_assoc, cellsU8_append, ← Nat.add_assoc, ← HL.out]
            simpa [cellsU8] using hown4
          clear hown4 hgrow4 hnil4
          have hqb : (q : Int) < 128 := by have := HL.out; omega
          go_wp2
          go_roundw
          case rel => exact ⟨q + 1, by go_num, by have := HL.out; omega, HO5, HB5⟩
          case measure => have := HL.out; simp [intOf]; omega
        · go_wp2
          go_meet
          case rel => exact ⟨rfl, key ++ List.replicate q 0, oa, l, oc, rfl, owns_view (by have := HL.out; have := HKL.out; simp; omega) HO.out, (by show _ ≤ _; have := HL.out; have := HKL.out; simp; omega), (fun m => stateOf_zeros h key q (by rw [hbl.out.2]; have := HL.out; have := HKL.out; omega) m), HB⟩
      · go_wp2
        go_meet
        case rel => exact ⟨rfl, key ++ List.replicate q 0, oa, l, oc, rfl, owns_view (by have := HL.out; have := HKL.out; simp; omega) HO.out, (by show _ ≤ _; have := HL.out; have := HKL.out; simp; omega), (fun m => stateOf_zeros h key q (by rw [hbl.out.2]; have := HL.out; have := HKL.out; omega) m), HB⟩
  case rest =>
    obtain ⟨rfl, other, oa, on, oc, rfl, HOV, HOL, HST, HBX⟩ := hcut
    obtain ⟨si, HSI⟩ : ∃ E : Eight, Hid (E = stateOf h key 54) := ⟨_, (show _ = _ from rfl)⟩
    obtain ⟨so, HSO⟩ : ∃ E : Eight, Hid (E = stateOf h key 92) := ⟨_, (show _ = _ from rfl)⟩
    have HBC : Hid (Below w.heap.size w wc) := HB2.out.1.trans (HBX.out.mono HB2.out.1.size)
    have HVC : Hid (View wc (.slice ba bn bc) bs ∧ Tables wc) := ⟨hbv.out.kept (fun q hq => HBC.out.block q hq), hT.out.below HBC.out hT.out.size⟩
    go_wp2_with (first | (go_at_call 16; refine (dcode1 k.out wc _ _ other _ bs HOV.out (by have := HOL.out; omega) HVC.out.1 HVC.out.2 (by have := HBL.out; omega)).mono ?_))
    rintro e3 w3 ⟨be, rfl, hbe1, hbe2, hve, hb3⟩
    rw [← HSZ.out] at hve
    rw [← HSZ.out]
    have HB3 : Hid (Below w.heap.size w w3 ∧ Below wc.heap.size wc w3 ∧ View w3 (.slice (some ⟨be, 0, none⟩) sz sz) (hmac h key bs)) := by
      refine ⟨HBC.out.trans (hb3.mono HBC.out.size), hb3, ?_⟩
      rw [hmac, ← HST.out 54, ← HST.out 92]
      exact hve
    clear hbe1 hbe2 hve hb3 HVC
    have HN : Hid (Calls Tryd.prog 18 #[.int .i64 h, .slice oa on oc] w3 fun e w' => ∃ g, e = .returned (.tuple #[.pointer (some ⟨g, 0, none⟩), .int .i64 0]) ∧ w3.heap.size ≤ g ∧ MRep w' g h si so [] ∧ Below w3.heap.size w3 w') := by
      show Calls _ _ _ _ _
      rw [HSI.out, HSO.out, ← HST.out 54, ← HST.out 92]
      exact newMac_any h _ other w3 k.out (HOV.out.kept (fun q hq => HB3.out.2.1.block q hq)) (by have := HOL.out; omega) (hT.out.below HB3.out.1 hT.out.size)
    go_wp2_with (first | (go_at_call 18; refine HN.out.mono ?_))
    rintro e4 w4 ⟨gm, rfl, hm4, hr4, hb4⟩
    have HB4 : Hid (Below w.heap.size w w4 ∧ w.heap.size ≤ gm ∧ MRep w4 gm h si so []) := ⟨HB3.out.1.trans (hb4.mono HB3.out.1.size), Nat.le_trans HB3.out.1.size hm4, hr4⟩
    have HCD : Hid (View w4 (.slice (some ⟨bd, 0, none⟩) sz sz) (hmac h key bs) ∧ View w4 (.slice (some ⟨be, 0, none⟩) sz sz) (hmac h key bs) ∧ bd ≠ gm ∧ bd < w4.heap.size) := by
      have q1 := HB2.out.2.1
      have q2 := HBX.out.size
      have q3 := HB3.out.2.1.size
      have q4 := hb4.size
      exact ⟨((HB2.out.2.2.kept (fun q hq => HBX.out.block q hq)).kept (fun q hq => HB3.out.2.1.block q hq)).kept (fun q hq => hb4.block q hq), HB3.out.2.2.kept (fun q hq => hb4.block q hq), by omega, by omega⟩
    clear hm4 hr4 hb4 HN HB3 HOV HBX
    have HS4 : Hid (Calls Tryd.prog 12 #[.slice (some ⟨bd, 0, none⟩) sz sz, .slice (some ⟨be, 0, none⟩) sz sz] w4 fun e w' => e = .returned (.bool true) ∧ Sm w4 w') := same_yes _ _ _ w4 HCD.out.1 HCD.out.2.1
    go_wp2_with (first | (go_at_call 11; refine (num0 _).mono ?_; rintro e9 w9 ⟨rfl, hw9⟩; obtain rfl := hw9.symm; clear hw9) | (go_at_call 12; refine HS4.out.mono ?_))
    rintro e5 w5 ⟨rfl, hsm5⟩
    have h45 : Below w4.heap.size w4 w5 := ⟨hsm5.os, hsm5.tape, hsm5.output, by rw [hsm5.heap]; exact Nat.le_refl _, fun q _ => by rw [hsm5.heap]⟩
    have HB5 : Hid (Below w.heap.size w w5 ∧ MRep w5 gm h si so [] ∧ View w5 (.slice (some ⟨bd, 0, none⟩) sz sz) (hmac h key bs)) := ⟨HB4.out.1.trans (h45.mono HB4.out.1.size), HB4.out.2.2.below h45, HCD.out.1.kept (fun q hq => h45.block q hq)⟩
    have hg4 : 4 ≤ gm := Nat.le_trans hT.out.size HB4.out.2.1
    have HW6 : Hid (∀ t t', Calls Tryd.prog 19 #[.pointer (some ⟨gm, 0, none⟩), .slice (some ⟨w5.heap.size + 1, 0, none⟩) 1 1] ((w5.alloc (.cells #[.int .u8 1, .int .u8 2, .int .u8 3] t)).alloc (.cells #[.slice (some ⟨w5.heap.size, 0, none⟩) 3 3] t')) fun e w' => e = .returned (.int .i64 0) ∧ Below w.heap.size w w' ∧ MRep w' gm h si so [1, 2, 3] ∧ View w' (.slice (some ⟨bd, 0, none⟩) sz sz) (hmac h key bs)) := by
      intro t t'
      have ha := below_alloc1 w5 (.cells #[.int .u8 1, .int .u8 2, .int .u8 3] t)
      have hb := below_alloc1 (w5.alloc (.cells #[.int .u8 1, .int .u8 2, .int .u8 3] t)) (.cells #[.slice (some ⟨w5.heap.size, 0, none⟩) 3 3] t')
      have hab := ha.trans (hb.mono ha.size)
      have hlt := HB5.out.2.1.1.lt
      have hs1 : (w5.alloc (.cells #[.int .u8 1, .int .u8 2, .int .u8 3] t)).heap.size = w5.heap.size + 1 := size_alloc1 _ _
      have hp := parts1_alloc (u := w5.alloc (.cells #[.int .u8 1, .int .u8 2, .int .u8 3] t)) t' _ [1, 2, 3] gm (view3 w5 t) (by omega) (fun _ b off l c e => by injection e with e1 _ _; injection e1 with e1; injection e1 with e2 _; omega)
      rw [hs1] at hp
      have hB := HB5.out.1.trans (hab.mono HB5.out.1.size)
      refine (mwrite gm h si so [] [[1, 2, 3]] _ _ k (HB5.out.2.1.below hab) hp (hT.out.below hB hT.out.size) hg4 (by show _ ≤ _; simp)).mono ?_
      rintro e w' ⟨rfl, ht, hr⟩
      exact ⟨rfl, hB.trans (ht.toBelow HB4.out.2.1 hB.size), by simpa using hr, ht.view (HB5.out.2.2.kept (fun q hq => hab.block q hq)) (fun b off l c e => .inl (by injection e with e1 _ _; injection e1 with e1; injection e1 with e2 _; have := HCD.out.2.2.1; omega))⟩
    clear hsm5 h45 HS4
    go_wp2_with (first | (go_at_call 11; refine (num0 _).mono ?_; rintro e9 w9 ⟨rfl, hw9⟩; obtain rfl := hw9.symm; clear hw9) | (go_at_call 19; refine (HW6.out _ _).mono ?_))
    rintro e6 w6 ⟨rfl, hb6, hm6, hv6⟩
    have HB6 : Hid (Below w.heap.size w w6 ∧ MRep w6 gm h si so [1, 2, 3] ∧ View w6 (.slice (some ⟨bd, 0, none⟩) sz sz) (hmac h key bs)) := ⟨hb6, hm6, hv6⟩
    clear hb6 hm6 hv6 HW6 HB5
    go_wp2_with (first | (go_at_call 11; refine (num0 _).mono ?_; rintro e9 w9 ⟨rfl, hw9⟩; obtain rfl := hw9.symm; clear hw9) | (go_at_call 20; refine (mreset gm h si so [1, 2, 3] w6 k HB6.out.2.1).mono ?_))
    rintro e7 w7 ⟨rfl, ht7, hm7⟩
    have HB7 : Hid (Below w.heap.size w w7 ∧ MRep w7 gm h si so [] ∧ View w7 (.slice (some ⟨bd, 0, none⟩) sz sz) (hmac h key bs)) := ⟨HB6.out.1.trans (ht7.toBelow HB4.out.2.1 HB6.out.1.size), hm7, ht7.view HB6.out.2.2 (fun b off l c e => .inl (by injection e with e1 _ _; injection e1 with e1; injection e1 with e2 _; have := HCD.out.2.2.1; omega))⟩
    have HW8 : Hid (∀ t, Calls Tryd.prog 19 #[.pointer (some ⟨gm, 0, none⟩), .slice (some ⟨w7.heap.size, 0, none⟩) 1 1] (w7.alloc (.cells #[.slice ba bn bc] t)) fun e w' => e = .returned (.int .i64 0) ∧ Below w.heap.size w w' ∧ MRep w' gm h si so bs ∧ View w' (.slice (some ⟨bd, 0, none⟩) sz sz) (hmac h key bs)) := by
      intro t
      have ha := below_alloc1 w7 (.cells #[.slice ba bn bc] t)
      have hlt := HB7.out.2.1.1.lt
      have hvb : View w7 (.slice ba bn bc) bs := hbv.out.kept (fun q hq => HB7.out.1.block q hq)
      have hp := parts1_alloc (u := w7) t _ bs gm hvb (by omega) (fun h0 b off l c e => by have := view_lt hbv.out h0 b off l c e; have := HB4.out.2.1; omega)
      have hB := HB7.out.1.trans (ha.mono HB7.out.1.size)
      refine (mwrite gm h si so [] [bs] _ _ k (HB7.out.2.1.below ha) hp (hT.out.below hB hT.out.size) hg4 (by show _ ≤ _; have := HBL.out; simp; omega)).mono ?_
      rintro e w' ⟨rfl, ht, hr⟩
      exact ⟨rfl, hB.trans (ht.toBelow HB4.out.2.1 hB.size), by simpa using hr, ht.view (HB7.out.2.2.kept (fun q hq => ha.block q hq)) (fun b off l c e => .inl (by injection e with e1 _ _; injection e1 with e1; injection e1 with e2 _; have := HCD.out.2.2.1; omega))⟩
    clear ht7 hm7 HB6
    go_wp2_with (first | (go_at_call 11; refine (num0 _).mono ?_; rintro e9 w9 ⟨rfl, hw9⟩; obtain rfl := hw9.symm; clear hw9) | (go_at_call 19; refine (HW8.out _).mono ?_))
    rintro e8 w8 ⟨rfl, hb8, hm8, hv8⟩
    have HB8 : Hid (Below w.heap.size w w8 ∧ MRep w8 gm h si so bs ∧ View w8 (.slice (some ⟨bd, 0, none⟩) sz sz) (hmac h key bs)) := ⟨hb8, hm8, hv8⟩
    have HT8 : Hid (Tables w8) := hT.out.below hb8 hT.out.size
    clear hb8 hm8 hv8 HW8 HB7
    go_wp2_with (first | (go_at_call 11; refine (num0 _).mono ?_; rintro e9 w9 ⟨rfl, hw9⟩; obtain rfl := hw9.symm; clear hw9) | (go_at_call 21; refine (msum gm h si so bs w8 k HB8.out.2.1 HT8 (by show _ ≤ _; have := HBL.out; omega)).mono ?_))
    rintro e9 w9 ⟨br, rfl, ho9, hb9⟩
    rw [← HSZ.out] at ho9
    rw [← HSZ.out]
    have HB9 : Hid (Below w.heap.size w w9) := HB8.out.1.trans (hb9.mono HB8.out.1.size)
    have HS9 : Hid (Calls Tryd.prog 12 #[.slice (some ⟨br, 0, none⟩) sz sz, .slice (some ⟨bd, 0, none⟩) sz sz] w9 fun e w' => e = .returned (.bool true) ∧ Sm w9 w') := same_yes _ _ (hmac h key bs) w9 (by rw [hmac, ← HSI.out, ← HSO.out]; exact owns_view (by rw [macL_length k.out, HSZ.out]) ho9) (HB8.out.2.2.kept (fun q hq => hb9.block q hq))
    clear ho9 hb9
    go_wp2_with (first | (go_at_call 12; refine HS9.out.mono ?_))
    rintro e10 w10 ⟨rfl, hsm10⟩
    have HB10 : Hid (Below w.heap.size w w10) := HB9.out.trans ⟨hsm10.os, hsm10.tape, hsm10.output, by rw [hsm10.heap]; exact Nat.le_refl _, fun q _ => by rw [hsm10.heap]⟩
    clear hsm10 HS9
    go_wp2
    go_ret
    exact ⟨rfl, HB10.out⟩

set_option maxHeartbeats 3200000 in
set_option maxRecDepth 100000 in
theorem keys128_some (h z : Int) (x : Addr) (ba ca : Option Addr) (kn kc bn bc cn cc : Nat) (key bs : List Int) (w : World) (k : Hid (Known h)) (hkv : Hid (View w (.slice (some x) kn kc) key)) (hbv : Hid (View w (.slice ba bn bc) bs))
    (hT : Hid (Tables w)) (hb : (bn : Int) ≤ 65536) (hkn : (kn : Int) ≤ 65536) (hbl : Hid (blockOf h = 128 ∧ bsz (wdOf h) = 128)) :
    Calls Tryd.prog 4 #[.agg #[.int .i64 h, .slice (some x) kn kc, .slice ba bn bc, .slice ca cn cc, .int .i64 z]] w fun e w' => e = .returned (.bool true) ∧ Below w.heap.size w w' := by
  have HBL : Hid (bs.length = bn) := (view_bounds hbv.out).1
  have HKL : Hid (key.length = kn) := (view_bounds hkv.out).1
  obtain ⟨i0, hi, hz0, hz1, hz2⟩ := info_parts Tryd.info5
  go_enter Tryd.func4, Tryd.ntmps4
  go_upto_region 8 with (first
    | (go_at_call 9; refine (known_any h _ k.out).mono ?_; rintro e1 w1 ⟨rfl, hw1⟩; obtain rfl := hw1.symm)
    | (go_at_call 15; refine (block_any h _).mono ?_; rintro e1 w1 ⟨rfl, hw1⟩; obtain rfl := hw1.symm; rw [hbl.out.1])
    | fail)
  have HB0 : Hid (Below w.heap.size w (w.alloc (.cells #[.int .i64 h, .slice (some x) kn kc, .slice ba bn bc, .slice ca cn cc, .int .i64 z] 36))) := below_alloc1 w _
  generalize w.alloc (.cells #[.int .i64 h, .slice (some x) kn kc, .slice ba bn bc, .slice ca cn cc, .int .i64 z] 36) = w1 at HB0 ⊢
  have HV1 : Hid (View w1 (.slice ba bn bc) bs ∧ View w1 (.slice (some x) kn kc) key ∧ Tables w1) := ⟨hbv.out.kept (fun q hq => HB0.out.block q hq), hkv.out.kept (fun q hq => HB0.out.block q hq), hT.out.below HB0.out hT.out.size⟩
  go_wp2_with (first | (go_at_call 16; refine (dcode1 k.out w1 _ _ key _ bs HV1.out.2.1 (by have := HKL.out; omega) HV1.out.1 HV1.out.2.2 (by have := HBL.out; omega)).mono ?_))
  rintro e2 w2 ⟨bd, rfl, hbd1, hbd2, hvd, hb2⟩
  have HB2 : Hid (Below w.heap.size w w2 ∧ bd < w2.heap.size ∧ View w2 (.slice (some ⟨bd, 0, none⟩) (szOf h) (szOf h)) (hmac h key bs)) := ⟨HB0.out.trans (hb2.mono HB0.out.size), hbd2, hvd⟩
  clear hbd1 hbd2 hvd hb2 HV1 HB0
  have hq8 := quo8 k.out
  obtain ⟨sz, HSZ⟩ : ∃ sz : Nat, Hid (sz = szOf h) := ⟨_, (show _ = _ from rfl)⟩
  rw [← HSZ.out] at hq8 HB2
  rw [← HSZ.out]
  have hsz : (sz : Int) ≤ 64 := by rw [HSZ.out]; have := szOf_le k.out; omega
  go_upto_if 68 with (first | (go_at_call 11; refine (num0 _).mono ?_; rintro e9 w9 ⟨rfl, hw9⟩; obtain rfl := hw9.symm; clear hw9) | fail)
  clear hq8
  go_cut [9, 10] from 65 (fun v9 v10 wx => v9 = .int .i64 0 ∧ ∃ other : List Int, ∃ oa on oc, v10 = .slice oa on oc ∧ Hid (View wx (.slice oa on oc) other) ∧ Hid (other.length ≤ 65536) ∧ Hid (∀ m, stateOf h other m = stateOf h key m) ∧ Hid (Below w2.heap.size w2 wx))
  case first =>
    have HV2 : Hid (View w2 (.slice (some x) kn kc) key ∧ Tables w2) := ⟨hkv.out.kept (fun q hq => HB2.out.1.block q hq), hT.out.below HB2.out.1 hT.out.size⟩
    by_cases hlong : (128 : Int) < kn
    · go_wp2_with (first | (go_at_call 17; refine (dsum1 k.out w2 _ _ key HV2.out.1 HV2.out.2 (by have := HKL.out; omega)).mono ?_))
      rintro e3 w3 ⟨bo, rfl, hbo1, hbo2, hvo, hb3⟩
      have HQ : Hid (View w3 (.slice (some ⟨bo, 0, none⟩) (szOf h) (szOf h)) (dig h key) ∧ Below w2.heap.size w2 w3) := ⟨hvo, hb3⟩
      clear hbo1 hbo2 hvo hb3
      go_wp2
      go_meet
      case rel => exact ⟨rfl, dig h key, _, _, _, rfl, HQ.out.1, (by show _ ≤ _; rw [dig_length k.out]; have := szOf_le k.out; omega), (fun m => stateOf_dig k.out key (by rw [hbl.out.2]; have := HKL.out; omega) m), HQ.out.2⟩
    · have h1 : Hid (∀ j u, (cellsU8 key)[j]? = some u → w2.cell? (x.add j) = some u) := view_cellsU8 HV2.out.1
      go_wp2_with (first
        | (at_builtin; go_must (refine wpList_append_own _ rfl (.tmp 76) (.tmp 77) 22 rfl w2.heap.size 5 i0 (.int .u8 0) 1 1 Tryd.underlying22 hi hz0 hz1 hz2 rfl (by decide) _ 0 [] rfl (World.ownsRow_nil _ _ _ _) x kn kc (cellsU8 key) rfl ?_ h1.out (cellsU8_one key) ?_ ?_ (Nat.le_refl _) ?_)))
      · rw [cellsU8_length, HKL.out]
      · unfold maxLen; omega
      · omega
      intro v1 w3 hown hgrow hnil
      have HO3 : Hid (w3.ownsRow w2.heap.size 5 1 v1 kn (cellsU8 key)) := by show World.ownsRow _ _ _ _ _ _ _; simpa using hown
      have HB3 : Hid (Below w2.heap.size w2 w3) := (Below.refl _ _).grown hgrow (Nat.le_refl _) (by intro k hk; cases hk)
      clear hown hgrow hnil
      go_wp2
      go_loopw [10, 11] (fun v i wr => ∃ q : Nat, i = .int .i64 q ∧ kn + q ≤ 128 ∧ Hid (wr.ownsRow w2.heap.size 5 1 v (kn + q) (cellsU8 (key ++ List.replicate q 0))) ∧ Hid (Below w2.heap.size w2 wr)) (fun _ i _ => 128 - (intOf i).toNat)
      case atStart => exact ⟨0, rfl, by omega, by show World.ownsRow _ _ _ _ _ _ _; simpa using HO3.out, HB3⟩
      case round =>
        obtain ⟨q, rfl, hq, HO, HB⟩ := hrel
        clear HO3 HB3
        obtain ⟨oa, oc, rfl, ho1, ho2⟩ := owns_form HO.out
        unfold maxLen at ho2
        obtain ⟨l, hl⟩ : ∃ l, l = kn + q := ⟨_, rfl⟩
        have HL : Hid (l = kn + q) := hl
        rw [← hl] at HO ho1 hq ⊢
        clear hl
        by_cases hz : (q : Int) < z
        · by_cases hlt : (l : Int) < 128
          · go_wp2_with (first
              | (at_builtin; go_must (refine wpList_append_own _ rfl (.tmp 90) (.tmp 91) 22 rfl w2.heap.size 5 i0 (.int .u8 0) 1 1 Tryd.underlying22 hi hz0 hz1 hz2 rfl (by decide) _ _ _ rfl (HO.out.alloc _) ⟨wr.heap.size, 0, none⟩ 1 1 [.int .u8 0] rfl rfl ?_ ?_ ?_ ?_ ?_ ?_)))
            · intro j u hj
              match j, hj with
              | 0, hj => simp at hj; subst hj; simp [Addr.add]
            · intro u hu; simp at hu; subst hu; rfl
            · unfold maxLen; omega
            · omega
            · have := HB.out.size; simp; omega
            intro v2 w4 hown4 hgrow4 hnil4
            have HB5 : Hid (Below w2.heap.size w2 w4) := (HB.out.alloc HB.out.size _).grown hgrow4 (by have := HB.out.size; simp; omega) (fun p hp => (HO.out.lt p hp).1)
            have HO5 : Hid (w4.ownsRow w2.heap.size 5 1 v2 (kn + (q + 1)) (cellsU8 (key ++ List.replicate (q + 1) 0))) := by
              show World.ownsRow _ _ _ _ _ _ _
              rw [List.replicate_succ', ← List.append_assoc, cellsU8_append, ← Nat.add_assoc, ← HL.out]
              simpa [cellsU8] using hown4
            clear hown4 hgrow4 hnil4
            have hqb : (q : Int) < 128 := by have := HL.out; omega
            go_wp2
            go_roundw
            case rel => exact ⟨q + 1, by go_num, by have := HL.out; omega, HO5, HB5⟩
            case measure => have := HL.out; simp [intOf]; omega
          · go_wp2
            go_meet
            case rel => exact ⟨rfl, key ++ List.replicate q 0, oa, l, oc, rfl, owns_view (by have := HL.out; have := HKL.out; simp; omega) HO.out, (by show _ ≤ _; have := HL.out; have := HKL.out; simp; omega), (fun m => stateOf_zeros h key q (by rw [hbl.out.2]; have := HL.out; have := HKL.out; omega) m), HB⟩
        · go_wp2
          go_meet
          case rel => exact ⟨rfl, key ++ List.replicate q 0, oa, l, oc, rfl, owns_view (by have := HL.out; have := HKL.out; simp; omega) HO.out, (by show _ ≤ _; have := HL.out; have := HKL.out; simp; omega), (fun m => stateOf_zeros h key q (by rw [hbl.out.2]; have := HL.out; have := HKL.out; omega) m), HB⟩
  case rest =>
    obtain ⟨rfl, other, oa, on, oc, rfl, HOV, HOL, HST, HBX⟩ := hcut
    obtain ⟨si, HSI⟩ : ∃ E : Eight, Hid (E = stateOf h key 54) := ⟨_, (show _ = _ from rfl)⟩
    obtain ⟨so, HSO⟩ : ∃ E : Eight, Hid (E = stateOf h key 92) := ⟨_, (show _ = _ from rfl)⟩
    have HBC : Hid (Below w.heap.size w wc) := HB2.out.1.trans (HBX.out.mono HB2.out.1.size)
    have HVC : Hid (View wc (.slice ba bn bc) bs ∧ Tables wc) := ⟨hbv.out.kept (fun q hq => HBC.out.block q hq), hT.out.below HBC.out hT.out.size⟩
    go_wp2_with (first | (go_at_call 16; refine (dcode1 k.out wc _ _ other _ bs HOV.out (by have := HOL.out; omega) HVC.out.1 HVC.out.2 (by have := HBL.out; omega)).mono ?_))
    rintro e3 w3 ⟨be, rfl, hbe1, hbe2, hve, hb3⟩
    rw [← HSZ.out] at hve
    rw [← HSZ.out]
    have HB3 : Hid (Below w.heap.size w w3 ∧ Below wc.heap.size wc w3 ∧ View w3 (.slice (some ⟨be, 0, none⟩) sz sz) (hmac h key bs)) := by
      refine ⟨HBC.out.trans (hb3.mono HBC.out.size), hb3, ?_⟩
      rw [hmac, ← HST.out 54, ← HST.out 92]
      exact hve
    clear hbe1 hbe2 hve hb3 HVC
    have HN : Hid (Calls Tryd.prog 18 #[.int .i64 h, .slice oa on oc] w3 fun e w' => ∃ g, e = .returned (.tuple #[.pointer (some ⟨g, 0, none⟩), .int .i64 0]) ∧ w3.heap.size ≤ g ∧ MRep w' g h si so [] ∧ Below w3.heap.size w3 w') := by
      show Calls _ _ _ _ _
      rw [HSI.out, HSO.out, ← HST.out 54, ← HST.out 92]
      exact newMac_any h _ other w3 k.out (HOV.out.kept (fun q hq => HB3.out.2.1.block q hq)) (by have := HOL.out; omega) (hT.out.below HB3.out.1 hT.out.size)
    go_wp2_with (first | (go_at_call 18; refine HN.out.mono ?_))
    rintro e4 w4 ⟨gm, rfl, hm4, hr4, hb4⟩
    have HB4 : Hid (Below w.heap.size w w4 ∧ w.heap.size ≤ gm ∧ MRep w4 gm h si so []) := ⟨HB3.out.1.trans (hb4.mono HB3.out.1.size), Nat.le_trans HB3.out.1.size hm4, hr4⟩
    have HCD : Hid (View w4 (.slice (some ⟨bd, 0, none⟩) sz sz) (hmac h key bs) ∧ View w4 (.slice (some ⟨be, 0, none⟩) sz sz) (hmac h key bs) ∧ bd ≠ gm ∧ bd < w4.heap.size) := by
      have q1 := HB2.out.2.1
      have q2 := HBX.out.size
      have q3 := HB3.out.2.1.size
      have q4 := hb4.size
      exact ⟨((HB2.out.2.2.kept (fun q hq => HBX.out.block q hq)).kept (fun q hq => HB3.out.2.1.block q hq)).kept (fun q hq => hb4.block q hq), HB3.out.2.2.kept (fun q hq => hb4.block q hq), by omega, by omega⟩
    clear hm4 hr4 hb4 HN HB3 HOV HBX
    have HS4 : Hid (Calls Tryd.prog 12 #[.slice (some ⟨bd, 0, none⟩) sz sz, .slice (some ⟨be, 0, none⟩) sz sz] w4 fun e w' => e = .returned (.bool true) ∧ Sm w4 w') := same_yes _ _ _ w4 HCD.out.1 HCD.out.2.1
    go_wp2_with (first | (go_at_call 11; refine (num0 _).mono ?_; rintro e9 w9 ⟨rfl, hw9⟩; obtain rfl := hw9.symm; clear hw9) | (go_at_call 12; refine HS4.out.mono ?_))
    rintro e5 w5 ⟨rfl, hsm5⟩
    have h45 : Below w4.heap.size w4 w5 := ⟨hsm5.os, hsm5.tape, hsm5.output, by rw [hsm5.heap]; exact Nat.le_refl _, fun q _ => by rw [hsm5.heap]⟩
    have HB5 : Hid (Below w.heap.size w w5 ∧ MRep w5 gm h si so [] ∧ View w5 (.slice (some ⟨bd, 0, none⟩) sz sz) (hmac h key bs)) := ⟨HB4.out.1.trans (h45.mono HB4.out.1.size), HB4.out.2.2.below h45, HCD.out.1.kept (fun q hq => h45.block q hq)⟩
    have hg4 : 4 ≤ gm := Nat.le_trans hT.out.size HB4.out.2.1
    have HW6 : Hid (∀ t t', Calls Tryd.prog 19 #[.pointer (some ⟨gm, 0, none⟩), .slice (some ⟨w5.heap.size + 1, 0, none⟩) 1 1] ((w5.alloc (.cells #[.int .u8 1, .int .u8 2, .int .u8 3] t)).alloc (.cells #[.slice (some ⟨w5.heap.size, 0, none⟩) 3 3] t')) fun e w' => e = .returned (.int .i64 0) ∧ Below w.heap.size w w' ∧ MRep w' gm h si so [1, 2, 3] ∧ View w' (.slice (some ⟨bd, 0, none⟩) sz sz) (hmac h key bs)) := by
      intro t t'
      have ha := below_alloc1 w5 (.cells #[.int .u8 1, .int .u8 2, .int .u8 3] t)
      have hb := below_alloc1 (w5.alloc (.cells #[.int .u8 1, .int .u8 2, .int .u8 3] t)) (.cells #[.slice (some ⟨w5.heap.size, 0, none⟩) 3 3] t')
      have hab := ha.trans (hb.mono ha.size)
      have hlt := HB5.out.2.1.1.lt
      have hs1 : (w5.alloc (.cells #[.int .u8 1, .int .u8 2, .int .u8 3] t)).heap.size = w5.heap.size + 1 := size_alloc1 _ _
      have hp := parts1_alloc (u := w5.alloc (.cells #[.int .u8 1, .int .u8 2, .int .u8 3] t)) t' _ [1, 2, 3] gm (view3 w5 t) (by omega) (fun _ b off l c e => by injection e with e1 _ _; injection e1 with e1; injection e1 with e2 _; omega)
      rw [hs1] at hp
      have hB := HB5.out.1.trans (hab.mono HB5.out.1.size)
      refine (mwrite gm h si so [] [[1, 2, 3]] _ _ k (HB5.out.2.1.below hab) hp (hT.out.below hB hT.out.size) hg4 (by show _ ≤ _; simp)).mono ?_
      rintro e w' ⟨rfl, ht, hr⟩
      exact ⟨rfl, hB.trans (ht.toBelow HB4.out.2.1 hB.size), by simpa using hr, ht.view (HB5.out.2.2.kept (fun q hq => hab.block q hq)) (fun b off l c e => .inl (by injection e with e1 _ _; injection e1 with e1; injection e1 with e2 _; have := HCD.out.2.2.1; omega))⟩
    clear hsm5 h45 HS4
    go_wp2_with (first | (go_at_call 11; refine (num0 _).mono ?_; rintro e9 w9 ⟨rfl, hw9⟩; obtain rfl := hw9.symm; clear hw9) | (go_at_call 19; refine (HW6.out _ _).mono ?_))
    rintro e6 w6 ⟨rfl, hb6, hm6, hv6⟩
    have HB6 : Hid (Below w.heap.size w w6 ∧ MRep w6 gm h si so [1, 2, 3] ∧ View w6 (.slice (some ⟨bd, 0, none⟩) sz sz) (hmac h key bs)) := ⟨hb6, hm6, hv6⟩
    clear hb6 hm6 hv6 HW6 HB5
    go_wp2_with (first | (go_at_call 11; refine (num0 _).mono ?_; rintro e9 w9 ⟨rfl, hw9⟩; obtain rfl := hw9.symm; clear hw9) | (go_at_call 20; refine (mreset gm h si so [1, 2, 3] w6 k HB6.out.2.1).mono ?_))
    rintro e7 w7 ⟨rfl, ht7, hm7⟩
    have HB7 : Hid (Below w.heap.size w w7 ∧ MRep w7 gm h si so [] ∧ View w7 (.slice (some ⟨bd, 0, none⟩) sz sz) (hmac h key bs)) := ⟨HB6.out.1.trans (ht7.toBelow HB4.out.2.1 HB6.out.1.size), hm7, ht7.view HB6.out.2.2 (fun b off l c e => .inl (by injection e with e1 _ _; injection e1 with e1; injection e1 with e2 _; have := HCD.out.2.2.1; omega))⟩
    have HW8 : Hid (∀ t, Calls Tryd.prog 19 #[.pointer (some ⟨gm, 0, none⟩), .slice (some ⟨w7.heap.size, 0, none⟩) 1 1] (w7.alloc (.cells #[.slice ba bn bc] t)) fun e w' => e = .returned (.int .i64 0) ∧ Below w.heap.size w w' ∧ MRep w' gm h si so bs ∧ View w' (.slice (some ⟨bd, 0, none⟩) sz sz) (hmac h key bs)) := by
      intro t
      have ha := below_alloc1 w7 (.cells #[.slice ba bn bc] t)
      have hlt := HB7.out.2.1.1.lt
      have hvb : View w7 (.slice ba bn bc) bs := hbv.out.kept (fun q hq => HB7.out.1.block q hq)
      have hp := parts1_alloc (u := w7) t _ bs gm hvb (by omega) (fun h0 b off l c e => by have := view_lt hbv.out h0 b off l c e; have := HB4.out.2.1; omega)
      have hB := HB7.out.1.trans (ha.mono HB7.out.1.size)
      refine (mwrite gm h si so [] [bs] _ _ k (HB7.out.2.1.below ha) hp (hT.out.below hB hT.out.size) hg4 (by show _ ≤ _; have := HBL.out; simp; omega)).mono ?_
      rintro e w' ⟨rfl, ht, hr⟩
      exact ⟨rfl, hB.trans (ht.toBelow HB4.out.2.1 hB.size), by simpa using hr, ht.view (HB7.out.2.2.kept (fun q hq => ha.block q hq)) (fun b off l c e => .inl (by injection e with e1 _ _; injection e1 with e1; injection e1 with e2 _; have := HCD.out.2.2.1; omega))⟩
    clear ht7 hm7 HB6
    go_wp2_with (first | (go_at_call 11; refine (num0 _).mono ?_; rintro e9 w9 ⟨rfl, hw9⟩; obtain rfl := hw9.symm; clear hw9) | (go_at_call 19; refine (HW8.out _).mono ?_))
    rintro e8 w8 ⟨rfl, hb8, hm8, hv8⟩
    have HB8 : Hid (Below w.heap.size w w8 ∧ MRep w8 gm h si so bs ∧ View w8 (.slice (some ⟨bd, 0, none⟩) sz sz) (hmac h key bs)) := ⟨hb8, hm8, hv8⟩
    have HT8 : Hid (Tables w8) := hT.out.below hb8 hT.out.size
    clear hb8 hm8 hv8 HW8 HB7
    go_wp2_with (first | (go_at_call 11; refine (num0 _).mono ?_; rintro e9 w9 ⟨rfl, hw9⟩; obtain rfl := hw9.symm; clear hw9) | (go_at_call 21; refine (msum gm h si so bs w8 k HB8.out.2.1 HT8 (by show _ ≤ _; have := HBL.out; omega)).mono ?_))
    rintro e9 w9 ⟨br, rfl, ho9, hb9⟩
    rw [← HSZ.out] at ho9
    rw [← HSZ.out]
    have HB9 : Hid (Below w.heap.size w w9) := HB8.out.1.trans (hb9.mono HB8.out.1.size)
    have HS9 : Hid (Calls Tryd.prog 12 #[.slice (some ⟨br, 0, none⟩) sz sz, .slice (some ⟨bd, 0, none⟩) sz sz] w9 fun e w' => e = .returned (.bool true) ∧ Sm w9 w') := same_yes _ _ (hmac h key bs) w9 (by rw [hmac, ← HSI.out, ← HSO.out]; exact owns_view (by rw [macL_length k.out, HSZ.out]) ho9) (HB8.out.2.2.kept (fun q hq => hb9.block q hq))
    clear ho9 hb9
    go_wp2_with (first | (go_at_call 12; refine HS9.out.mono ?_))
    rintro e10 w10 ⟨rfl, hsm10⟩
    have HB10 : Hid (Below w.heap.size w w10) := HB9.out.trans ⟨hsm10.os, hsm10.tape, hsm10.output, by rw [hsm10.heap]; exact Nat.le_refl _, fun q _ => by rw [hsm10.heap]⟩
    clear hsm10 HS9
    go_wp2
    go_ret
    exact ⟨rfl, HB10.out⟩

set_option maxHeartbeats 3200000 in
set_option maxRecDepth 100000 in
theorem keys128_none (h z : Int) (ba ca : Option Addr) (bn bc cn cc : Nat) (key bs : List Int) (w : World) (k : Hid (Known h)) (hkv : Hid (View w (.slice none 0 0) key)) (hbv : Hid (View w (.slice ba bn bc) bs))
    (hT : Hid (Tables w)) (hb : (bn : Int) ≤ 65536) (hbl : Hid (blockOf h = 128 ∧ bsz (wdOf h) = 128)) :
    Calls Tryd.prog 4 #[.agg #[.int .i64 h, .slice none 0 0, .slice ba bn bc, .slice ca cn cc, .int .i64 z]] w fun e w' => e = .returned (.bool true) ∧ Below w.heap.size w w' := by
  have HBL : Hid (bs.length = bn) := (view_bounds hbv.out).1
  have HKL : Hid (key.length = 0) := (view_bounds hkv.out).1
  obtain ⟨i0, hi, hz0, hz1, hz2⟩ := info_parts Tryd.info5
  go_enter Tryd.func4, Tryd.ntmps4
  go_upto_region 8 with (first
    | (go_at_call 9; refine (known_any h _ k.out).mono ?_; rintro e1 w1 ⟨rfl, hw1⟩; obtain rfl := hw1.symm)
    | (go_at_call 15; refine (block_any h _).mono ?_; rintro e1 w1 ⟨rfl, hw1⟩; obtain rfl := hw1.symm; rw [hbl.out.1])
    | fail)
  have HB0 : Hid (Below w.heap.size w (w.alloc (.cells #[.int .i64 h, .slice none 0 0, .slice ba bn bc, .slice ca cn cc, .int .i64 z] 36))) := below_alloc1 w _
  generalize w.alloc (.cells #[.int .i64 h, .slice none 0 0, .slice ba bn bc, .slice ca cn cc, .int .i64 z] 36) = w1 at HB0 ⊢
  have HV1 : Hid (View w1 (.slice ba bn bc) bs ∧ View w1 (.slice none 0 0) key ∧ Tables w1) := ⟨hbv.out.kept (fun q hq => HB0.out.block q hq), hkv.out.kept (fun q hq => HB0.out.block q hq), hT.out.below HB0.out hT.out.size⟩
  go_wp2_with (first | (go_at_call 16; refine (dcode1 k.out w1 _ _ key _ bs HV1.out.2.1 (by have := HKL.out; omega) HV1.out.1 HV1.out.2.2 (by have := HBL.out; omega)).mono ?_))
  rintro e2 w2 ⟨bd, rfl, hbd1, hbd2, hvd, hb2⟩
  have HB2 : Hid (Below w.heap.size w w2 ∧ bd < w2.heap.size ∧ View w2 (.slice (some ⟨bd, 0, none⟩) (szOf h) (szOf h)) (hmac h key bs)) := ⟨HB0.out.trans (hb2.mono HB0.out.size), hbd2, hvd⟩
  clear hbd1 hbd2 hvd hb2 HV1 HB0
  have hq8 := quo8 k.out
  obtain ⟨sz, HSZ⟩ : ∃ sz : Nat, Hid (sz = szOf h) := ⟨_, (show _ = _ from rfl)⟩
  rw [← HSZ.out] at hq8 HB2
  rw [← HSZ.out]
  have hsz : (sz : Int) ≤ 64 := by rw [HSZ.out]; have := szOf_le k.out; omega
  go_upto_if 68 with (first | (go_at_call 11; refine (num0 _).mono ?_; rintro e9 w9 ⟨rfl, hw9⟩; obtain rfl := hw9.symm; clear hw9) | fail)
  clear hq8
  go_cut [9, 10] from 65 (fun v9 v10 wx => v9 = .int .i64 0 ∧ ∃ other : List Int, ∃ oa on oc, v10 = .slice oa on oc ∧ Hid (View wx (.slice oa on oc) other) ∧ Hid (other.length ≤ 65536) ∧ Hid (∀ m, stateOf h other m = stateOf h key m) ∧ Hid (Below w2.heap.size w2 wx))
  case first =>
    have HV2 : Hid (View w2 (.slice none 0 0) key ∧ Tables w2) := ⟨hkv.out.kept (fun q hq => HB2.out.1.block q hq), hT.out.below HB2.out.1 hT.out.size⟩
    go_wp2_with (first
      | (at_builtin; go_must (refine wpList_append_own_none rfl (.tmp 76) (.tmp 77) 22 rfl w2.heap.size 5 i0 1 Tryd.underlying22 hi _ 0 [] rfl (World.ownsRow_nil _ _ _ _) rfl ?_)))
    have HO3 : Hid (w2.ownsRow w2.heap.size 5 1 (.slice none 0 0) 0 (cellsU8 key)) := by show World.ownsRow _ _ _ _ _ _ _; have e0 : key = [] := List.length_eq_zero_iff.1 HKL.out; rw [e0]; exact World.ownsRow_nil _ _ _ _
    have HB3 : Hid (Below w2.heap.size w2 w2) := Below.refl _ _
    go_wp2
    go_loopw [10, 11] (fun v i wr => ∃ q : Nat, i = .int .i64 q ∧ 0 + q ≤ 128 ∧ Hid (wr.ownsRow w2.heap.size 5 1 v (0 + q) (cellsU8 (key ++ List.replicate q 0))) ∧ Hid (Below w2.heap.size w2 wr)) (fun _ i _ => 128 - (intOf i).toNat)
    case atStart => exact ⟨0, rfl, by omega, by show World.ownsRow _ _ _ _ _ _ _; simpa using HO3.out, HB3⟩
    case round =>
      obtain ⟨q, rfl, hq, HO, HB⟩ := hrel
      clear HO3 HB3
      obtain ⟨oa, oc, rfl, ho1, ho2⟩ := owns_form HO.out
      unfold maxLen at ho2
      obtain ⟨l, hl⟩ : ∃ l, l = 0 + q := ⟨_, rfl⟩
      have HL : Hid (l = 0 + q) := hl
      rw [← hl] at HO ho1 hq ⊢
      clear hl
      by_cases hz : (q : Int) < z
      · by_cases hlt : (l : Int) < 128
        · go_wp2_with (first
            | (at_builtin; go_must (refine wpList_append_own _ rfl (.tmp 90) (.tmp 91) 22 rfl w2.heap.size 5 i0 (.int .u8 0) 1 1 Tryd.underlying22 hi hz0 hz1 hz2 rfl (by decide) _ _ _ rfl (HO.out.alloc _) ⟨wr.heap.size, 0, none⟩ 1 1 [.int .u8 0] rfl rfl ?_ ?_ ?_ ?_ ?_ ?_)))
          · intro j u hj
            match j, hj with
            | 0, hj => simp at hj; subst hj; simp [Addr.add]
          · intro u hu; simp at hu; subst hu; rfl
          · unfold maxLen; omega
          · omega
          · have := HB.out.size; simp; omega
          intro v2 w4 hown4 hgrow4 hnil4
          have HB5 : Hid (Below w2.heap.size w2 w4) := (HB.out.alloc HB.out.size _).grown hgrow4 (by have := HB.out.size; simp; omega) (fun p hp => (HO.out.lt p hp).1)
          have HO5 : Hid (w4.ownsRow w2.heap.size 5 1 v2 (0 + (q + 1)) (cellsU8 (key ++ List.replicate (q + 1) 0))) := by
            show World.ownsRow _ _ _ _ _ _ _
            rw [List.replicate_succ', ← List.append_assoc, cellsU8_append, ← Nat.add_assoc, ← HL.out]
            simpa [cellsU8] using hown4
          clear hown4 hgrow4 hnil4
          have hqb : (q : Int) < 128 := by have := HL.out; omega
          go_wp2
          go_roundw
          case rel => exact ⟨q + 1, by go_num, by have := HL.out; omega, HO5, HB5⟩
          case measure => have := HL.out; simp [intOf]; omega
        · go_wp2
          go_meet
          case rel => exact ⟨rfl, key ++ List.replicate q 0, oa, l, oc, rfl, owns_view (by have := HL.out; have := HKL.out; simp; omega) HO.out, (by show _ ≤ _; have := HL.out; have := HKL.out; simp; omega), (fun m => stateOf_zeros h key q (by rw [hbl.out.2]; have := HL.out; have := HKL.out; omega) m), HB⟩
      · go_wp2
        go_meet
        case rel => exact ⟨rfl, key ++ List.replicate q 0, oa, l, oc, rfl, owns_view (by have := HL.out; have := HKL.out; simp; omega) HO.out, (by show _ ≤ _; have := HL.out; have := HKL.out; simp; omega), (fun m => stateOf_zeros h key q (by rw [hbl.out.2]; have := HL.out; have := HKL.out; omega) m), HB⟩
  case rest =>
    obtain ⟨rfl, other, oa, on, oc, rfl, HOV, HOL, HST, HBX⟩ := hcut
    obtain ⟨si, HSI⟩ : ∃ E : Eight, Hid (E = stateOf h key 54) := ⟨_, (show _ = _ from rfl)⟩
    obtain ⟨so, HSO⟩ : ∃ E : Eight, Hid (E = stateOf h key 92) := ⟨_, (show _ = _ from rfl)⟩
    have HBC : Hid (Below w.heap.size w wc) := HB2.out.1.trans (HBX.out.mono HB2.out.1.size)
    have HVC : Hid (View wc (.slice ba bn bc) bs ∧ Tables wc) := ⟨hbv.out.kept (fun q hq => HBC.out.block q hq), hT.out.below HBC.out hT.out.size⟩
    go_wp2_with (first | (go_at_call 16; refine (dcode1 k.out wc _ _ other _ bs HOV.out (by have := HOL.out; omega) HVC.out.1 HVC.out.2 (by have := HBL.out; omega)).mono ?_))
    rintro e3 w3 ⟨be, rfl, hbe1, hbe2, hve, hb3⟩
    rw [← HSZ.out] at hve
    rw [← HSZ.out]
    have HB3 : Hid (Below w.heap.size w w3 ∧ Below wc.heap.size wc w3 ∧ View w3 (.slice (some ⟨be, 0, none⟩) sz sz) (hmac h key bs)) := by
      refine ⟨HBC.out.trans (hb3.mono HBC.out.size), hb3, ?_⟩
      rw [hmac, ← HST.out 54, ← HST.out 92]
      exact hve
    clear hbe1 hbe2 hve hb3 HVC
    have HN : Hid (Calls Tryd.prog 18 #[.int .i64 h, .slice oa on oc] w3 fun e w' => ∃ g, e = .returned (.tuple #[.pointer (some ⟨g, 0, none⟩), .int .i64 0]) ∧ w3.heap.size ≤ g ∧ MRep w' g h si so [] ∧ Below w3.heap.size w3 w') := by
      show Calls _ _ _ _ _
      rw [HSI.out, HSO.out, ← HST.out 54, ← HST.out 92]
      exact newMac_any h _ other w3 k.out (HOV.out.kept (fun q hq => HB3.out.2.1.block q hq)) (by have := HOL.out; omega) (hT.out.below HB3.out.1 hT.out.size)
    go_wp2_with (first | (go_at_call 18; refine HN.out.mono ?_))
    rintro e4 w4 ⟨gm, rfl, hm4, hr4, hb4⟩
    have HB4 : Hid (Below w.heap.size w w4 ∧ w.heap.size ≤ gm ∧ MRep w4 gm h si so []) := ⟨HB3.out.1.trans (hb4.mono HB3.out.1.size), Nat.le_trans HB3.out.1.size hm4, hr4⟩
    have HCD : Hid (View w4 (.slice (some ⟨bd, 0, none⟩) sz sz) (hmac h key bs) ∧ View w4 (.slice (some ⟨be, 0, none⟩) sz sz) (hmac h key bs) ∧ bd ≠ gm ∧ bd < w4.heap.size) := by
      have q1 := HB2.out.2.1
      have q2 := HBX.out.size
      have q3 := HB3.out.2.1.size
      have q4 := hb4.size
      exact ⟨((HB2.out.2.2.kept (fun q hq => HBX.out.block q hq)).kept (fun q hq => HB3.out.2.1.block q hq)).kept (fun q hq => hb4.block q hq), HB3.out.2.2.kept (fun q hq => hb4.block q hq), by omega, by omega⟩
    clear hm4 hr4 hb4 HN HB3 HOV HBX
    have HS4 : Hid (Calls Tryd.prog 12 #[.slice (some ⟨bd, 0, none⟩) sz sz, .slice (some ⟨be, 0, none⟩) sz sz] w4 fun e w' => e = .returned (.bool true) ∧ Sm w4 w') := same_yes _ _ _ w4 HCD.out.1 HCD.out.2.1
    go_wp2_with (first | (go_at_call 11; refine (num0 _).mono ?_; rintro e9 w9 ⟨rfl, hw9⟩; obtain rfl := hw9.symm; clear hw9) | (go_at_call 12; refine HS4.out.mono ?_))
    rintro e5 w5 ⟨rfl, hsm5⟩
    have h45 : Below w4.heap.size w4 w5 := ⟨hsm5.os, hsm5.tape, hsm5.output, by rw [hsm5.heap]; exact Nat.le_refl _, fun q _ => by rw [hsm5.heap]⟩
    have HB5 : Hid (Below w.heap.size w w5 ∧ MRep w5 gm h si so [] ∧ View w5 (.slice (some ⟨bd, 0, none⟩) sz sz) (hmac h key bs)) := ⟨HB4.out.1.trans (h45.mono HB4.out.1.size), HB4.out.2.2.below h45, HCD.out.1.kept (fun q hq => h45.block q hq)⟩
    have hg4 : 4 ≤ gm := Nat.le_trans hT.out.size HB4.out.2.1
    have HW6 : Hid (∀ t t', Calls Tryd.prog 19 #[.pointer (some ⟨gm, 0, none⟩), .slice (some ⟨w5.heap.size + 1, 0, none⟩) 1 1] ((w5.alloc (.cells #[.int .u8 1, .int .u8 2, .int .u8 3] t)).alloc (.cells #[.slice (some ⟨w5.heap.size, 0, none⟩) 3 3] t')) fun e w' => e = .returned (.int .i64 0) ∧ Below w.heap.size w w' ∧ MRep w' gm h si so [1, 2, 3] ∧ View w' (.slice (some ⟨bd, 0, none⟩) sz sz) (hmac h key bs)) := by
      intro t t'
      have ha := below_alloc1 w5 (.cells #[.int .u8 1, .int .u8 2, .int .u8 3] t)
      have hb := below_alloc1 (w5.alloc (.cells #[.int .u8 1, .int .u8 2, .int .u8 3] t)) (.cells #[.slice (some ⟨w5.heap.size, 0, none⟩) 3 3] t')
      have hab := ha.trans (hb.mono ha.size)
      have hlt := HB5.out.2.1.1.lt
      have hs1 : (w5.alloc (.cells #[.int .u8 1, .int .u8 2, .int .u8 3] t)).heap.size = w5.heap.size + 1 := size_alloc1 _ _
      have hp := parts1_alloc (u := w5.alloc (.cells #[.int .u8 1, .int .u8 2, .int .u8 3] t)) t' _ [1, 2, 3] gm (view3 w5 t) (by omega) (fun _ b off l c e => by injection e with e1 _ _; injection e1 with e1; injection e1 with e2 _; omega)
      rw [hs1] at hp
      have hB := HB5.out.1.trans (hab.mono HB5.out.1.size)
      refine (mwrite gm h si so [] [[1, 2, 3]] _ _ k (HB5.out.2.1.below hab) hp (hT.out.below hB hT.out.size) hg4 (by show _ ≤ _; simp)).mono ?_
      rintro e w' ⟨rfl, ht, hr⟩
      exact ⟨rfl, hB.trans (ht.toBelow HB4.out.2.1 hB.size), by simpa using hr, ht.view (HB5.out.2.2.kept (fun q hq => hab.block q hq)) (fun b off l c e => .inl (by injection e with e1 _ _; injection e1 with e1; injection e1 with e2 _; have := HCD.out.2.2.1; omega))⟩
    clear hsm5 h45 HS4
    go_wp2_with (first | (go_at_call 11; refine (num0 _).mono ?_; rintro e9 w9 ⟨rfl, hw9⟩; obtain rfl := hw9.symm; clear hw9) | (go_at_call 19; refine (HW6.out _ _).mono ?_))
    rintro e6 w6 ⟨rfl, hb6, hm6, hv6⟩
    have HB6 : Hid (Below w.heap.size w w6 ∧ MRep w6 gm h si so [1, 2, 3] ∧ View w6 (.slice (some ⟨bd, 0, none⟩) sz sz) (hmac h key bs)) := ⟨hb6, hm6, hv6⟩
    clear hb6 hm6 hv6 HW6 HB5
    go_wp2_with (first | (go_at_call 11; refine (num0 _).mono ?_; rintro e9 w9 ⟨rfl, hw9⟩; obtain rfl := hw9.symm; clear hw9) | (go_at_call 20; refine (mreset gm h si so [1, 2, 3] w6 k HB6.out.2.1).mono ?_))
    rintro e7 w7 ⟨rfl, ht7, hm7⟩
    have HB7 : Hid (Below w.heap.size w w7 ∧ MRep w7 gm h si so [] ∧ View w7 (.slice (some ⟨bd, 0, none⟩) sz sz) (hmac h key bs)) := ⟨HB6.out.1.trans (ht7.toBelow HB4.out.2.1 HB6.out.1.size), hm7, ht7.view HB6.out.2.2 (fun b off l c e => .inl (by injection e with e1 _ _; injection e1 with e1; injection e1 with e2 _; have := HCD.out.2.2.1; omega))⟩
    have HW8 : Hid (∀ t, Calls Tryd.prog 19 #[.pointer (some ⟨gm, 0, none⟩), .slice (some ⟨w7.heap.size, 0, none⟩) 1 1] (w7.alloc (.cells #[.slice ba bn bc] t)) fun e w' => e = .returned (.int .i64 0) ∧ Below w.heap.size w w' ∧ MRep w' gm h si so bs ∧ View w' (.slice (some ⟨bd, 0, none⟩) sz sz) (hmac h key bs)) := by
      intro t
      have ha := below_alloc1 w7 (.cells #[.slice ba bn bc] t)
      have hlt := HB7.out.2.1.1.lt
      have hvb : View w7 (.slice ba bn bc) bs := hbv.out.kept (fun q hq => HB7.out.1.block q hq)
      have hp := parts1_alloc (u := w7) t _ bs gm hvb (by omega) (fun h0 b off l c e => by have := view_lt hbv.out h0 b off l c e; have := HB4.out.2.1; omega)
      have hB := HB7.out.1.trans (ha.mono HB7.out.1.size)
      refine (mwrite gm h si so [] [bs] _ _ k (HB7.out.2.1.below ha) hp (hT.out.below hB hT.out.size) hg4 (by show _ ≤ _; have := HBL.out; simp; omega)).mono ?_
      rintro e w' ⟨rfl, ht, hr⟩
      exact ⟨rfl, hB.trans (ht.toBelow HB4.out.2.1 hB.size), by simpa using hr, ht.view (HB7.out.2.2.kept (fun q hq => ha.block q hq)) (fun b off l c e => .inl (by injection e with e1 _ _; injection e1 with e1; injection e1 with e2 _; have := HCD.out.2.2.1; omega))⟩
    clear ht7 hm7 HB6
    go_wp2_with (first | (go_at_call 11; refine (num0 _).mono ?_; rintro e9 w9 ⟨rfl, hw9⟩; obtain rfl := hw9.symm; clear hw9) | (go_at_call 19; refine (HW8.out _).mono ?_))
    rintro e8 w8 ⟨rfl, hb8, hm8, hv8⟩
    have HB8 : Hid (Below w.heap.size w w8 ∧ MRep w8 gm h si so bs ∧ View w8 (.slice (some ⟨bd, 0, none⟩) sz sz) (hmac h key bs)) := ⟨hb8, hm8, hv8⟩
    have HT8 : Hid (Tables w8) := hT.out.below hb8 hT.out.size
    clear hb8 hm8 hv8 HW8 HB7
    go_wp2_with (first | (go_at_call 11; refine (num0 _).mono ?_; rintro e9 w9 ⟨rfl, hw9⟩; obtain rfl := hw9.symm; clear hw9) | (go_at_call 21; refine (msum gm h si so bs w8 k HB8.out.2.1 HT8 (by show _ ≤ _; have := HBL.out; omega)).mono ?_))
    rintro e9 w9 ⟨br, rfl, ho9, hb9⟩
    rw [← HSZ.out] at ho9
    rw [← HSZ.out]
    have HB9 : Hid (Below w.heap.size w w9) := HB8.out.1.trans (hb9.mono HB8.out.1.size)
    have HS9 : Hid (Calls Tryd.prog 12 #[.slice (some ⟨br, 0, none⟩) sz sz, .slice (some ⟨bd, 0, none⟩) sz sz] w9 fun e w' => e = .returned (.bool true) ∧ Sm w9 w') := same_yes _ _ (hmac h key bs) w9 (by rw [hmac, ← HSI.out, ← HSO.out]; exact owns_view (by rw [macL_length k.out, HSZ.out]) ho9) (HB8.out.2.2.kept (fun q hq => hb9.block q hq))
    clear ho9 hb9
    go_wp2_with (first | (go_at_call 12; refine HS9.out.mono ?_))
    rintro e10 w10 ⟨rfl, hsm10⟩
    have HB10 : Hid (Below w.heap.size w w10) := HB9.out.trans ⟨hsm10.os, hsm10.tape, hsm10.output, by rw [hsm10.heap]; exact Nat.le_refl _, fun q _ => by rw [hsm10.heap]⟩
    clear hsm10 HS9
    go_wp2
    go_ret
    exact ⟨rfl, HB10.out⟩
end Go.Proofs.YtioggmjocelolabDoor
