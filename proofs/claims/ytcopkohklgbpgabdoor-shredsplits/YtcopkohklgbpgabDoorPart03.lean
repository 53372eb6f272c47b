import Derived.Test.YtcopkohklgbpgabDoorPart02
import Derived.Test.YtcopkohklgbpgabDoorPart01
import Derived.Deep.Cut
import Derived.Deep.QuietTactic
import Derived.BigQuiet
import Derived.Test.YtcopkohklgbpgabDoorPart00
import Derived.WalkKit
import Derived.Deep.RegionHeld3
import Derived.StillTail
import Derived.Test.YtcopkohklgbpgabDoorProg
import Derived.RangeFuncNested
import Derived.RangeFuncBound
import Derived.RangeFuncCalls
import Derived.RangeFuncLeaves
import Derived.Shelf.Abstract
import Derived.Shelf.RegionOpen
import Derived.OwnWalkIn
import Derived.TacticsInMore
import Derived.LoopNIn
import Derived.LoopIn
import Derived.Laws.BitsLemmas
namespace Go.Proofs.YtcopkohklgbpgabDoor
open Go.RowKit
set_option linter.unusedVariables false
set_option linter.unusedSimpArgs false

set_option maxHeartbeats 3200000 in
set_option maxRecDepth 100000 in
theorem finish128_C (g o : Nat) (h : Int) (s : Eight) (half : Nat → Int) (fed : Nat) (w : World) (hblk : blockOf h = 128) (HK : Hid (TK w g o h true s half fed)) (hfed : fed ≤ 1152921504606846976) (hT : Hid (Tables w)) (hg : 4 ≤ g) (h0 : Hid (fed % 128 = 127)) :
    Calls Tryd.prog 43 #[.pointer (some ⟨g, o, none⟩)] w fun e w' => e = .returned (.agg (spellCells 8 (TT true (padF 128 half fed) s (padN 128 fed))).toArray) ∧ Touch w w' g o 139 ∧ ∃ half', TK w' g o h true (TT true (padF 128 half fed) s (padN 128 fed)) half' fed := by
  have c0 := HK.out.hash
  have c138 := HK.out.fed
  have hgw : g < w.heap.size := lt_of_cell c0
  have r0 : ((fed : Int) % 128) = 127 := by have := h0.out; omega
  go_enter Tryd.func43, Tryd.ntmps43
  go_upto_region 3 with (first | (go_at_call 36; refine (block_any _ _).mono ?_; rintro e1 w1 ⟨rfl, hw1⟩; obtain rfl := hw1.symm; rw [hblk]))
  have HB0 : Hid (Below w.heap.size w (w.alloc (.cells #[.int .u8 0, .int .u8 0, .int .u8 0, .int .u8 0, .int .u8 0, .int .u8 0, .int .u8 0, .int .u8 0, .int .u8 0, .int .u8 0, .int .u8 0, .int .u8 0, .int .u8 0, .int .u8 0, .int .u8 0, .int .u8 0, .int .u8 0, .int .u8 0, .int .u8 0, .int .u8 0, .int .u8 0, .int .u8 0, .int .u8 0, .int .u8 0, .int .u8 0, .int .u8 0, .int .u8 0, .int .u8 0, .int .u8 0, .int .u8 0, .int .u8 0, .int .u8 0, .int .u8 0, .int .u8 0, .int .u8 0, .int .u8 0, .int .u8 0, .int .u8 0, .int .u8 0, .int .u8 0, .int .u8 0, .int .u8 0, .int .u8 0, .int .u8 0, .int .u8 0, .int .u8 0, .int .u8 0, .int .u8 0, .int .u8 0, .int .u8 0, .int .u8 0, .int .u8 0, .int .u8 0, .int .u8 0, .int .u8 0, .int .u8 0, .int .u8 0, .int .u8 0, .int .u8 0, .int .u8 0, .int .u8 0, .int .u8 0, .int .u8 0, .int .u8 0] 80)) ∧ (w.alloc (.cells #[.int .u8 0, .int .u8 0, .int .u8 0, .int .u8 0, .int .u8 0, .int .u8 0, .int .u8 0, .int .u8 0, .int .u8 0, .int .u8 0, .int .u8 0, .int .u8 0, .int .u8 0, .int .u8 0, .int .u8 0, .int .u8 0, .int .u8 0, .int .u8 0, .int .u8 0, .int .u8 0, .int .u8 0, .int .u8 0, .int .u8 0, .int .u8 0, .int .u8 0, .int .u8 0, .int .u8 0, .int .u8 0, .int .u8 0, .int .u8 0, .int .u8 0, .int .u8 0, .int .u8 0, .int .u8 0, .int .u8 0, .int .u8 0, .int .u8 0, .int .u8 0, .int .u8 0, .int .u8 0, .int .u8 0, .int .u8 0, .int .u8 0, .int .u8 0, .int .u8 0, .int .u8 0, .int .u8 0, .int .u8 0, .int .u8 0, .int .u8 0, .int .u8 0, .int .u8 0, .int .u8 0, .int .u8 0, .int .u8 0, .int .u8 0, .int .u8 0, .int .u8 0, .int .u8 0, .int .u8 0, .int .u8 0, .int .u8 0, .int .u8 0, .int .u8 0] 80)).there w.heap.size 0 64 ∧ w.heap.size < (w.alloc (.cells #[.int .u8 0, .int .u8 0, .int .u8 0, .int .u8 0, .int .u8 0, .int .u8 0, .int .u8 0, .int .u8 0, .int .u8 0, .int .u8 0, .int .u8 0, .int .u8 0, .int .u8 0, .int .u8 0, .int .u8 0, .int .u8 0, .int .u8 0, .int .u8 0, .int .u8 0, .int .u8 0, .int .u8 0, .int .u8 0, .int .u8 0, .int .u8 0, .int .u8 0, .int .u8 0, .int .u8 0, .int .u8 0, .int .u8 0, .int .u8 0, .int .u8 0, .int .u8 0, .int .u8 0, .int .u8 0, .int .u8 0, .int .u8 0, .int .u8 0, .int .u8 0, .int .u8 0, .int .u8 0, .int .u8 0, .int .u8 0, .int .u8 0, .int .u8 0, .int .u8 0, .int .u8 0, .int .u8 0, .int .u8 0, .int .u8 0, .int .u8 0, .int .u8 0, .int .u8 0, .int .u8 0, .int .u8 0, .int .u8 0, .int .u8 0, .int .u8 0, .int .u8 0, .int .u8 0, .int .u8 0, .int .u8 0, .int .u8 0, .int .u8 0, .int .u8 0] 80)).heap.size) := ⟨(Below.refl _ _).alloc (Nat.le_refl _) _, there_new w _ 80 64 (by decide), by simp⟩
  generalize w.alloc (.cells #[.int .u8 0, .int .u8 0, .int .u8 0, .int .u8 0, .int .u8 0, .int .u8 0, .int .u8 0, .int .u8 0, .int .u8 0, .int .u8 0, .int .u8 0, .int .u8 0, .int .u8 0, .int .u8 0, .int .u8 0, .int .u8 0, .int .u8 0, .int .u8 0, .int .u8 0, .int .u8 0, .int .u8 0, .int .u8 0, .int .u8 0, .int .u8 0, .int .u8 0, .int .u8 0, .int .u8 0, .int .u8 0, .int .u8 0, .int .u8 0, .int .u8 0, .int .u8 0, .int .u8 0, .int .u8 0, .int .u8 0, .int .u8 0, .int .u8 0, .int .u8 0, .int .u8 0, .int .u8 0, .int .u8 0, .int .u8 0, .int .u8 0, .int .u8 0, .int .u8 0, .int .u8 0, .int .u8 0, .int .u8 0, .int .u8 0, .int .u8 0, .int .u8 0, .int .u8 0, .int .u8 0, .int .u8 0, .int .u8 0, .int .u8 0, .int .u8 0, .int .u8 0, .int .u8 0, .int .u8 0, .int .u8 0, .int .u8 0, .int .u8 0, .int .u8 0] 80) = w0 at HB0 ⊢
  have HK0 : Hid (TK w0 g o h true s half fed) := HK.out.below HB0.out.1
  have fu : w0.cell? ⟨g, o + 10 + 127, none⟩ = some (.int .u8 (half 127)) := HK0.out.half 127 (by omega)
  have ff : w0.frozen? ⟨g, o + 10 + 127, none⟩ = false := by
    have := (HK0.out.there (10 + 127) (by omega)).2
    rw [← Nat.add_assoc] at this
    exact this
  have hx1 := HK0.out.setByte 127 128 (by omega)
  have hcl : ∀ ty, (Builtin.clear_ #[22] ty #[.slice (some ⟨g, o + 10, none⟩) 0 0]).run Tryd.prog (w0.setCell ⟨g, o + 10 + 127, none⟩ (.int .u8 128)) = .ok (.tuple #[]) (w0.setCell ⟨g, o + 10 + 127, none⟩ (.int .u8 128)) := fun ty => clear_eq _ ty g _ 0 0 (fun j hj => by omega)
  have HT1 : Hid (Touch w (w0.setCell ⟨g, o + 10 + 127, none⟩ (.int .u8 128)) g o 139) := ((Touch.refl w g o 139).below HB0.out.1 hgw).trans hx1.2
  have HK1 : Hid (TK (w0.setCell ⟨g, o + 10 + 127, none⟩ (.int .u8 128)) g o h true s (fun i => if i = 127 then 128 else half i) fed) := hx1.1
  have HR1 : Hid ((w0.setCell ⟨g, o + 10 + 127, none⟩ (.int .u8 128)).there w.heap.size 0 64 ∧ w.heap.size < (w0.setCell ⟨g, o + 10 + 127, none⟩ (.int .u8 128)).heap.size) := ⟨World.there_setCells HB0.out.2.1 g _ [_], by simpa [World.setCell] using HB0.out.2.2⟩
  clear hx1
  go_upto_region 6 with fail
  generalize w0.setCell ⟨g, o + 10 + 127, none⟩ (.int .u8 128) = w2 at HT1 HK1 HR1 hcl ⊢
  have c1' : w2.cell? ⟨g, o + 1, none⟩ = some (.func (.func 38) #[] #[]) := HK1.out.fn
  obtain ⟨H0, HH0⟩ : ∃ H0 : Nat → Int, Hid ((fun i => if i = 127 then (128 : Int) else half i) = H0) := ⟨_, (show _ = _ from rfl)⟩
  rw [HH0.out] at HK1
  obtain ⟨s1, HS1⟩ : ∃ s1 : Eight, Hid (s1 = TT true H0 s 1) := ⟨_, (show _ = _ from rfl)⟩
  have HA : Hid (∀ v, Sm w2 v → Calls Tryd.prog 38 #[.pointer (some ⟨g, o + 2, none⟩), .slice (some ⟨g, o + 10, none⟩) 128 128] v fun e w' => e = .returned (.tuple #[]) ∧ Touch w2 w' g o 139 ∧ TK w' g o h true s1 H0 fed) := by
    intro v hsm
    have hs1 := HT1.out.size
    have hk' := HK1.out.sm hsm
    refine (take_any true g (o + 2) _ ((List.range 128).map H0) s v (by rw [hsm.heap]; omega) hk'.st (fun j hj => by have := hk'.there (2 + j) (by omega); rw [← Nat.add_assoc] at this; exact this) (view_half hk' 128 (by omega)) (fun _ _ _ _ e => by injection e with e1 e2 e3; injection e1 with e1; injection e1 with e4 e5; omega) (hsm.tables (hT.out.touch HT1.out hg)) hg).mono ?_
    rintro e w' ⟨rfl, ht', hr'⟩
    rw [show ((List.range 128).map H0).length / bsz true = 1 by simp [bsz], TT_congr true (B' := H0) s 1 (fun j hj => by simp [bsz] at hj; simp [List.getD, hj]), ← HS1.out] at hr'
    exact ⟨rfl, (hsm.touch g o 139).trans (ht'.mono o 139 (by omega) (by omega)), hk'.words ht' hr'⟩
  clear hcl fu ff HK0 HB0 c0 c138
  go_wp2
  go_region_held3 (fun v => v.cell? ⟨g, o + 1, none⟩ = some (.func (.func 38) #[] #[])) (first | go_keep | exact hk3.fn) ((go_at_call 38; refine (HA.out w2.drew (Sm.refl w2).drew).mono ?_; rintro e3 w3 ⟨rfl, ht3, hk3⟩))
  have hx3 := hk3.clear 0 128 (by omega)
  have hcl3 : ∀ ty, (Builtin.clear_ #[22] ty #[.slice (some ⟨g, o + 10, none⟩) 128 128]).run Tryd.prog w3 = .ok (.tuple #[]) (w3.setCells g (o + 10) (List.replicate 128 (.int .u8 0))) := fun ty => clear_eq _ ty g _ _ _ (fun j hj => by
    have := hk3.there (10 + j) (by omega)
    rw [← Nat.add_assoc] at this
    exact this)
  rw [Nat.add_zero] at hx3
  have HR2 : Hid ((w3.setCells g (o + 10) (List.replicate 128 (.int .u8 0))).there w.heap.size 0 64 ∧ w.heap.size < (w3.setCells g (o + 10) (List.replicate 128 (.int .u8 0))).heap.size) := ⟨World.there_setCells (ht3.thereFar HR1.out.1 HR1.out.2 (by omega)) g _ _, by rw [size_setCells]; exact Nat.lt_of_lt_of_le HR1.out.2 ht3.size⟩
  have HT2 : Hid (Touch w (w3.setCells g (o + 10) (List.replicate 128 (.int .u8 0))) g o 139) := (HT1.out.trans ht3).trans hx3.2
  have HK2 : Hid (TK (w3.setCells g (o + 10) (List.replicate 128 (.int .u8 0))) g o h true s1 (fun i => if 0 ≤ i ∧ i < 0 + 128 then 0 else H0 i) fed) := hx3.1
  clear hx3 ht3 hk3 HT1 HK1 HR1 HA c1'
  generalize w3.setCells g (o + 10) (List.replicate 128 (.int .u8 0)) = w4 at HT2 HK2 HR2 hcl3
  go_upto_region 8 with fail
  have HT1 := HT2; have HR1 := HR2
  have c138' : w4.cell? ⟨g, o + 138, none⟩ = some (.int .u64 fed) := HK2.out.fed
  obtain ⟨H1, HH1⟩ : ∃ H1 : Nat → Int, Hid ((fun i => if 0 ≤ i ∧ i < 0 + 128 then 0 else H0 i) = H1) := ⟨_, (show _ = _ from rfl)⟩
  rw [HH1.out] at HK2
  have HK1 := HK2
  obtain ⟨P, HPP⟩ : ∃ P : Nat → Int, Hid (P = fun i => padF 128 half fed (128 + i)) := ⟨_, (show _ = _ from rfl)⟩
  have hpn : padN 128 fed = 2 := by rw [padN, if_neg (by have := h0.out; omega)]
  have HP1 : Hid (∀ k, k < 128 - 8 → H1 k = P k) := by
    intro k hk
    have h00 := h0.out
    rw [← HH1.out, HPP.out]
    simp only [padF, hpn, h00]
    rw [if_pos ⟨by omega, by omega⟩, if_neg (by omega), if_neg (by omega), if_pos (by omega)]
  have HPL : Hid (∀ k, 128 - 8 ≤ k → k < 128 → P k = ((fed : Int) * 8) / 2 ^ (8 * (128 - 1 - k)) % 256) := by
    intro k k1 hk
    have h00 := h0.out
    rw [HPP.out]
    simp only [padF, hpn, h00]
    rw [if_neg (by omega), if_neg (by omega), if_neg (by omega), show 2 * 128 - 1 - (128 + k) = 128 - 1 - k by omega]
  have HE : Hid (TT true P s1 1 = TT true (padF 128 half fed) s (padN 128 fed)) := by
    show _ = _
    rw [HPP.out, HS1.out, hpn, show (2 : Nat) = 1 + 1 from rfl, TT_add true _ s 1 1, TT_congr true (B := H0) (B' := padF 128 half fed) s 1]
    · simp [bsz]
    · intro k hk
      have hk' : k < 128 := by simpa [bsz] using hk
      have h00 := h0.out
      rw [← HH0.out]
      simp only [padF, hpn, h00]
      by_cases k3 : k = 127
      · rw [if_pos k3, if_neg (by omega), if_pos k3]
      · rw [if_neg k3, if_pos (by omega)]
  clear hcl3 hpn HH1 HPP HS1 HT2 HK2 HR2 HH0
  go_wp2
  clear c138'
  go_loopw [62] (fun v wr => ∃ i : Nat, i ≤ 8 ∧ v = .int .i64 i ∧ Hid (Touch w wr g o 139) ∧ Hid (TK wr g o h true s1 (fun k => if 128 - i ≤ k ∧ k < 128 then ((fed : Int) * 8) / 2 ^ (8 * (128 - 1 - k)) % 256 else H1 k) fed) ∧ Hid (wr.there w.heap.size 0 64 ∧ w.heap.size < wr.heap.size)) (fun v _ => 8 - (intOf v).toNat)
  case atStart => exact ⟨0, by omega, rfl, HT1, HK1.out.fun_eq (fun i hi => by rw [if_neg (by omega)]), HR1⟩
  case round =>
    obtain ⟨i, hi, rfl, HT2, HK2, HR2⟩ := hrel
    clear HT1 HK1 HR1
    by_cases h8 : i < 8
    · obtain ⟨j, hj⟩ : ∃ j, j = 128 - 1 - i := ⟨_, rfl⟩
      have e2 : (127 : Int) - (i : Int) = (j : Int) := by omega
      have e3 : (8 * (i : Int)).toNat = 8 * i := by omega
      have e4 : min (8 * i) 64 = 8 * i := by omega
      have e5 : (0 : Int) ≤ 8 * (i : Int) := by omega
      have e6 : (j : Int) < 128 := by omega
      have HJ : Hid (j = 128 - 1 - i) := hj
      have fc := HK2.out.half j (by omega)
      have ff : wr.frozen? ⟨g, o + 10 + j, none⟩ = false := by
        have := (HK2.out.there (10 + j) (by omega)).2
        rw [← Nat.add_assoc] at this
        exact this
      clear hj
      go_wp2
      go_region
      go_wp2
      go_roundw
      case rel =>
        have hx := HK2.out.setByte j ((fed : Int) * 8 / 2 ^ (8 * i) % 256) (by omega)
        refine ⟨i + 1, by omega, by go_num, (HT2.out.trans hx.2).drew, (hx.1.sm (Sm.refl _).drew).fun_eq (fun k hk => ?_), ⟨World.there_setCells HR2.out.1 g _ [_], by simpa [World.setCell] using HR2.out.2⟩⟩
        have hj := HJ.out
        by_cases hkj : k = j
        · subst hkj
          rw [if_pos rfl, if_pos (by omega), show 128 - 1 - k = i by omega]
        · rw [if_neg hkj]
          by_cases hc : 128 - i ≤ k ∧ k < 128
          · rw [if_pos hc, if_pos (by omega)]
          · rw [if_neg hc, if_neg (by omega)]
      case measure => simp [intOf]; omega
    · obtain rfl : i = 8 := by omega
      have c1' : wr.cell? ⟨g, o + 1, none⟩ = some (.func (.func 38) #[] #[]) := HK2.out.fn
      obtain ⟨H2, HH2⟩ : ∃ H2 : Nat → Int, Hid ((fun k => if 128 - 8 ≤ k ∧ k < 128 then ((fed : Int) * 8) / 2 ^ (8 * (128 - 1 - k)) % 256 else H1 k) = H2) := ⟨_, (show _ = _ from rfl)⟩
      rw [HH2.out] at HK2
      have HP : Hid (∀ k, k < 128 → H2 k = P k) := by
        intro k hk
        rw [← HH2.out]
        dsimp only
        by_cases k1 : 128 - 8 ≤ k
        · rw [if_pos ⟨k1, hk⟩, HPL.out k k1 hk]
        · rw [if_neg (by omega), HP1.out k (by omega)]
      obtain ⟨s', HS'⟩ : ∃ s' : Eight, Hid (s' = TT true (padF 128 half fed) s (padN 128 fed)) := ⟨_, (show _ = _ from rfl)⟩
      have HA : Hid (∀ v, Sm wr v → Calls Tryd.prog 38 #[.pointer (some ⟨g, o + 2, none⟩), .slice (some ⟨g, o + 10, none⟩) 128 128] v fun e w' => e = .returned (.tuple #[]) ∧ Touch wr w' g o 139 ∧ TK w' g o h true s' H2 fed) := by
        intro v hsm
        have hs1 := HT2.out.size
        have hk' := HK2.out.sm hsm
        refine (take_any true g (o + 2) _ ((List.range 128).map H2) s1 v (by rw [hsm.heap]; omega) hk'.st (fun j hj => by have := hk'.there (2 + j) (by omega); rw [← Nat.add_assoc] at this; exact this) (view_half hk' 128 (by omega)) (fun _ _ _ _ e => by injection e with e1 e2 e3; injection e1 with e1; injection e1 with e4 e5; omega) (hsm.tables (hT.out.touch HT2.out hg)) hg).mono ?_
        rintro e w' ⟨rfl, ht', hr'⟩
        rw [show ((List.range 128).map H2).length / bsz true = 1 by simp [bsz], TT_congr true (B' := P) s1 1 (fun j hj => by simp [bsz] at hj; simp [List.getD, hj]; exact HP.out j (by omega)), HE.out, ← HS'.out] at hr'
        exact ⟨rfl, (hsm.touch g o 139).trans (ht'.mono o 139 (by omega) (by omega)), hk'.words ht' hr'⟩
      clear HH2 h8 HP HPL HP1 HE
      go_wp2
      go_region_held3 (fun v => v.cell? ⟨g, o + 1, none⟩ = some (.func (.func 38) #[] #[])) (first | go_keep | exact hk3.fn) ((go_at_call 38; refine (HA.out wr.drew (Sm.refl wr).drew).mono ?_; rintro e3 w3 ⟨rfl, ht3, hk3⟩))
      have HT3 : Hid (Touch w w3 g o 139) := HT2.out.trans ht3
      have HR3 : Hid (w3.there w.heap.size 0 64 ∧ w.heap.size < w3.heap.size) := ⟨ht3.thereFar HR2.out.1 HR2.out.2 (by omega), Nat.lt_of_lt_of_le HR2.out.2 ht3.size⟩
      have HK3 : Hid (TK w3 g o h true s' H2 fed) := hk3
      clear ht3 hk3 HA c1' HT2 HR2 HK2
      go_wp2_with (first | (go_at_call 55; refine (spell128 g o h s' H2 fed _ hblk HK3).mono ?_))
      rintro e4 w4 ⟨rfl, hb4⟩
      have hs3 := HT3.out.size
      have HT4 : Hid (Touch w w4 g o 139) := HT3.out.below hb4 hgw
      have HK4 : Hid (TK w4 g o h true s' H2 fed) := HK3.out.below hb4
      have HR4 : Hid (w4.there w.heap.size 0 64) := fun j hj => by rw [hb4.cell (p := ⟨w.heap.size, 0 + j, none⟩) HR3.out.2, hb4.frozen (p := ⟨w.heap.size, 0 + j, none⟩) HR3.out.2]; exact HR3.out.1 j hj
      have HY : Hid (w4.there w.heap.size 0 (spellCells 8 s').toArray.size) := by rw [spellArr_size]; exact HR4.out
      have HZ : Hid ((Tryd.prog.info? 80).map (·.size) = some (spellCells 8 s').toArray.size) := by rw [spellArr_size]; exact size75
      clear HT3 HK3 HR3 hb4
      go_wp2_with (first
        | (refine wpList_store_mid (by rfl) 80 (.tmp 2) (.tmp 93) (by rfl) w.heap.size 0 (spellCells 8 s').toArray (by rfl) (by rfl) HY.out HZ.out (spellCells_one 8 s') ?_)
        | fail)
      have hl := run_loadVar_mid (P := Tryd.prog) (w4.setCells w.heap.size 0 (spellCells 8 s')) w.heap.size 0 80 (spellCells 8 s') _ (World.rangeAt_setCells_same w4 w.heap.size 0 (spellCells 8 s') (by rw [spellCells_length]; exact HR4.out)) Tryd.underlying80 rfl (by rw [spellCells_length]; exact size75)
      have hn := touch_new HT4.out (Nat.le_refl _) (spellCells 8 s') 0 hgw
      have hs' := HS'.out
      refine bodyPost_ret (v := .agg (spellCells 8 s').toArray) ?_ rfl ⟨by rw [hs'], hn, H2, by rw [← hs']; exact HK4.out.newer (by omega) _ _⟩
      rw [results_cell1 Tryd.results43]
      simp [Act.put, asAddr, hl]
end Go.Proofs.YtcopkohklgbpgabDoor
namespace Go.Proofs.YtcopkohklgbpgabDoor
open Go.RowKit
set_option linter.unusedVariables false
set_option linter.unusedSimpArgs false

theorem padF_congr (bs fed : Nat) {half half' : Nat → Int} (h : ∀ i, i < fed % bs → half i = half' i) : padF bs half fed = padF bs half' fed := by
  funext i
  unfold padF
  by_cases hi : i < fed % bs
  · rw [if_pos hi, if_pos hi, h i hi]
  · rw [if_neg hi, if_neg hi]
def wsz (wd : Bool) : Nat := if wd then 8 else 4
/-- The words behind all that was fed, and the padding. -/
def endW (wd : Bool) (s0 : Eight) (f0 : Nat) (zs : List Int) : Eight :=
  TT wd (padF (bsz wd) (fun i => fnz zs (bsz wd * (zs.length / bsz wd) + i)) (f0 + zs.length)) (TT wd (fnz zs) s0 (zs.length / bsz wd)) (padN (bsz wd) (f0 + zs.length))
/-- taken.finish. -/
theorem finish_any (wd : Bool) (g o : Nat) (h : Int) (s : Eight) (half : Nat → Int) (fed : Nat) (w : World) (hblk : blockOf h = bsz wd) (HK : TK w g o h wd s half fed) (hfed : fed ≤ 1152921504606846976) (hT : Tables w) (hg : 4 ≤ g) :
    Calls Tryd.prog 43 #[.pointer (some ⟨g, o, none⟩)] w fun e w' => e = .returned (.agg (spellCells (wsz wd) (TT wd (padF (bsz wd) half fed) s (padN (bsz wd) fed))).toArray) ∧ Touch w w' g o 139 ∧ ∃ half', TK w' g o h wd (TT wd (padF (bsz wd) half fed) s (padN (bsz wd) fed)) half' fed := by
  cases wd
  · have hm : fed % 64 < 64 := Nat.mod_lt _ (by omega)
    by_cases hu : fed % 64 + 1 ≤ 56
    · exact finish64_A g o h s half fed (fed % 64) (fed % 64 + 1) w hblk HK hfed hT hg rfl rfl hu
    · exact finish64_B g o h s half fed (fed % 64) (fed % 64 + 1) w hblk HK hfed hT hg rfl rfl (by omega) (by omega)
  · have hm : fed % 128 < 128 := Nat.mod_lt _ (by omega)
    by_cases hu : fed % 128 + 1 ≤ 112
    · exact finish128_A g o h s half fed (fed % 128) (fed % 128 + 1) w hblk HK hfed hT hg rfl rfl hu
    · by_cases hu2 : fed % 128 = 127
      · exact finish128_C g o h s half fed w hblk HK hfed hT hg hu2
      · exact finish128_B g o h s half fed (fed % 128) (fed % 128 + 1) w hblk HK hfed hT hg rfl rfl (by omega) (by omega)
theorem finish_rep (wd : Bool) (g o : Nat) (h : Int) (s0 : Eight) (f0 : Nat) (zs : List Int) (w : World) (hblk : blockOf h = bsz wd) (hr : Rep w g o h wd s0 f0 zs) (hfed : f0 + zs.length ≤ 1152921504606846976) (hT : Tables w) (hg : 4 ≤ g) :
    Calls Tryd.prog 43 #[.pointer (some ⟨g, o, none⟩)] w fun e w' => e = .returned (.agg (spellCells (wsz wd) (endW wd s0 f0 zs)).toArray) ∧ Touch w w' g o 139 ∧ ∃ half', TK w' g o h wd (endW wd s0 f0 zs) half' (f0 + zs.length) := by
  obtain ⟨half, hk, hh, hf⟩ := hr
  have hp : padF (bsz wd) half (f0 + zs.length) = padF (bsz wd) (fun i => fnz zs (bsz wd * (zs.length / bsz wd) + i)) (f0 + zs.length) := padF_congr _ _ (fun i hi => by
    obtain ⟨c, hc⟩ : ∃ c, f0 = bsz wd * c := ⟨f0 / bsz wd, by have := Nat.div_add_mod f0 (bsz wd); omega⟩
    rw [hc, Nat.mul_add_mod] at hi
    exact hh i hi)
  have := finish_any wd g o h _ half _ w hblk hk hfed hT hg
  rw [hp] at this
  exact this
end Go.Proofs.YtcopkohklgbpgabDoor
namespace Go.Proofs.YtcopkohklgbpgabDoor
open Go.RowKit
set_option linter.unusedVariables false
set_option linter.unusedSimpArgs false

/-- A slice of slices of bytes that lie outside block g. -/
def Parts (w : World) (g : Nat) (v : Value) (yss : List (List Int)) : Prop :=
  ∃ a c, v = .slice a yss.length c ∧ yss.length ≤ c ∧ c ≤ maxLen ∧ (yss = [] ∨ ∃ b p, a = some ⟨b, p, none⟩ ∧ b ≠ g ∧ ∀ i, i < yss.length → ∃ x, w.cell? ⟨b, p + i, none⟩ = some x ∧ View w x (yss.getD i []) ∧ (yss.getD i [] ≠ [] → ∀ b' off l c', x = .slice (some ⟨b', off, none⟩) l c' → b' ≠ g))
theorem sum_step (yss : List (List Int)) (k : Nat) (hk : k < yss.length) : (yss.take (k + 1)).flatten = (yss.take k).flatten ++ yss.getD k [] := by
  rw [List.take_add_one, List.flatten_append]
  simp [List.getD, hk]
theorem sum_le (yss : List (List Int)) (k : Nat) : (yss.take k).flatten.length ≤ yss.flatten.length := by
  have := congrArg List.length (congrArg List.flatten (List.take_append_drop k yss))
  rw [List.flatten_append, List.length_append] at this
  omega

/-- taken.add, where bytes that are none may lie anywhere. -/
theorem add_rep2 (wd : Bool) (g o : Nat) (h : Int) (s0 : Eight) (f0 : Nat) (zs ys : List Int) (v : Value) (w : World) (hblk : blockOf h = bsz wd) (hr : Rep w g o h wd s0 f0 zs) (hv : View w v ys) (hap : ys ≠ [] → Apart v g o 139) (hT : Tables w) (hg : 4 ≤ g) (hfn : f0 + zs.length + ys.length ≤ 4611686018427387904) :
    Calls Tryd.prog 54 #[.pointer (some ⟨g, o, none⟩), v] w fun e w' => e = .returned (.tuple #[]) ∧ Touch w w' g o 139 ∧ Rep w' g o h wd s0 f0 (zs ++ ys) := by
  by_cases hys : ys = []
  · subst hys
    obtain ⟨half, hk, hh, hf⟩ := hr
    obtain ⟨a, cap, rfl, h1, h2, h3, h4⟩ := hv
    refine (add_empty_any wd g o h _ half _ cap a w hblk hk (by simpa using hfn) (by unfold maxLen at h2; omega) h3).mono ?_
    rintro e w' ⟨rfl, ht, hk'⟩
    rw [List.append_nil]
    exact ⟨rfl, ht, half, hk', hh, hf⟩
  · exact add_rep wd g o h s0 f0 zs ys v w hblk hr hv (hap hys) hT hg hfn

set_option maxHeartbeats 1600000 in
set_option maxRecDepth 100000 in
theorem write_none (g o : Nat) (fed left c : Nat) (a : Option Addr) (most : Int) (w : World) (c1 : w.cell? ⟨g, o + 138, none⟩ = some (.int .u64 fed)) (hm : most - (fed : Int) = (left : Int)) (hmm : fed + left ≤ 4611686018427387904) (hc : c ≤ 9223372036854775807) :
    Calls Tryd.prog 42 #[.pointer (some ⟨g, o, none⟩), .int .u64 most, .slice a 0 c] w fun e w' => e = .returned (.int .i64 0) ∧ w' = w := by
  have hl2 : (left : Int) < 18446744073709551616 := by omega
  go_enter Tryd.func42, Tryd.ntmps42
  go_wp2
  go_loop [20, 7] (fun i l => i = .int .i64 0 ∧ l = .int .u64 left) (fun _ _ => 0)
  case atStart => exact ⟨rfl, rfl⟩
  case round =>
    obtain ⟨rfl, rfl⟩ := hrel
    go_wp2
    go_loop [37] (fun i => i = .int .i64 0) (fun _ => 0)
    case atStart => exact rfl
    case round =>
      obtain rfl := hrel
      go_wp2
      go_ret
      exact ⟨rfl, rfl⟩

set_option maxHeartbeats 3200000 in
set_option maxRecDepth 100000 in
theorem write_some (wd : Bool) (g o : Nat) (h : Int) (s0 : Eight) (f0 n c b p : Nat) (zs : List Int) (yss : List (List Int)) (fed left : Nat) (most : Int) (w : World) (hblk : blockOf h = bsz wd) (hr : Hid (Rep w g o h wd s0 f0 zs)) (hT : Hid (Tables w)) (hg : 4 ≤ g)
    (c1 : w.cell? ⟨g, o + 138, none⟩ = some (.int .u64 fed)) (hfed : Hid (fed = f0 + zs.length)) (hm : most - (fed : Int) = (left : Int)) (hmm : fed + left ≤ 4611686018427387904) (hn : Hid (yss.length = n)) (hnc : n ≤ c) (hc : c ≤ 9223372036854775807) (hbg : Hid (b ≠ g))
    (hx : Hid (∀ i, i < n → ∃ x, w.cell? ⟨b, p + i, none⟩ = some x ∧ View w x (yss.getD i []) ∧ (yss.getD i [] ≠ [] → ∀ b' off l c', x = .slice (some ⟨b', off, none⟩) l c' → b' ≠ g))) (hs : Hid (yss.flatten.length ≤ left)) :
    Calls Tryd.prog 42 #[.pointer (some ⟨g, o, none⟩), .int .u64 most, .slice (some ⟨b, p, none⟩) n c] w fun e w' => e = .returned (.int .i64 0) ∧ Touch w w' g o 139 ∧ Rep w' g o h wd s0 f0 (zs ++ yss.flatten) := by
  have hl2 : (left : Int) < 18446744073709551616 := by omega
  go_enter Tryd.func42, Tryd.ntmps42
  go_wp2
  go_loop [20, 7] (fun i l => ∃ k r : Nat, k ≤ n ∧ i = .int .i64 k ∧ l = .int .u64 r ∧ Hid (r + (yss.take k).flatten.length = left)) (fun i _ => n - (intOf i).toNat)
  case atStart => exact ⟨0, left, by omega, rfl, rfl, (by show _ = _; simp)⟩
  case round =>
    obtain ⟨k, r, hk, rfl, rfl, HR⟩ := hrel
    by_cases hlt : k < n
    · obtain ⟨x, hcx, hvx, hax⟩ := hx.out k hlt
      obtain ⟨a, cap, rfl, h1, h2, h3, h4⟩ := hvx
      have hst := sum_step yss k (by rw [hn.out]; exact hlt)
      have hle := sum_le yss (k + 1)
      obtain ⟨l, hl⟩ : ∃ l, (yss.getD k []).length = l := ⟨_, rfl⟩
      rw [hl] at hcx h1
      obtain ⟨r2, hr2⟩ : ∃ r2, r = r2 + l := ⟨r - l, by
        have h5 := HR.out
        have h6 := hs.out
        rw [hst, List.length_append, hl] at hle
        omega⟩
      have HR2 : Hid (r2 + (yss.take (k + 1)).flatten.length = left) := by
        show _ = _
        rw [hst, List.length_append, hl]
        have := HR.out
        omega
      have hrl : (r : Int) < 18446744073709551616 := by have := HR.out; omega
      have e1 : (r : Int) - (l : Int) = (r2 : Int) := by omega
      have e2 : (l : Int) ≤ (r : Int) := by omega
      have e3 : (r2 : Int) < 18446744073709551616 := by omega
      have e4 : (l : Int) < 18446744073709551616 := by omega
      unfold maxLen at h2
      have e5 : (k : Int) < n := by omega
      clear hst hle hr2 HR h3 h4 hl hax
      go_upto_region 4 with fail
      go_upto_region 5 with fail
      have e2' : ¬ ((r : Int) < (l : Int)) := by omega
      have HE1 : Hid ((r : Int) - (l : Int) = (r2 : Int)) := e1
      have hkb : (k : Int) < 9223372036854775807 := by omega
      clear hc hmm hl2 c1 hcx hnc hm hg h1 h2 hblk e2 e1
      go_wp2
      go_round
      case rel => exact ⟨k + 1, r2, by omega, by go_num, by rw [HE1.out], HR2⟩
      case measure => simp [intOf]; omega
    · obtain rfl : k = n := by omega
      clear hlt HR
      go_wp2
      go_loopw [37] (fun i wr => ∃ q : Nat, q ≤ k ∧ i = .int .i64 q ∧ Hid (Touch w wr g o 139) ∧ Hid (Rep wr g o h wd s0 f0 (zs ++ (yss.take q).flatten))) (fun i _ => k - (intOf i).toNat)
      case atStart => exact ⟨0, by omega, rfl, Touch.refl _ _ _ _, (by show Rep _ _ _ _ _ _ _ _; simpa using hr.out)⟩
      case round =>
        obtain ⟨q, hq, rfl, HT, HP⟩ := hrel
        by_cases hlt : q < k
        · obtain ⟨x, hcx, hvx, hax⟩ := hx.out q hlt
          have hst := sum_step yss q (by rw [hn.out]; exact hlt)
          have hle := sum_le yss (q + 1)
          have hbw : b < w.heap.size := lt_of_cell hcx
          have hcx' : wr.cell? ⟨b, p + q, none⟩ = some x := by rw [HT.out.far (p := ⟨b, p + q, none⟩) hbw hbg.out]; exact hcx
          have hap : yss.getD q [] ≠ [] → Apart x g o 139 := fun h0 b' off l c' e => .inl (hax h0 b' off l c' e)
          have hvw : View wr x (yss.getD q []) := by
            by_cases h0 : yss.getD q [] = []
            · obtain ⟨a, cap, e, h1, h2, h3, h4⟩ := hvx
              exact ⟨a, cap, e, h1, h2, h3, .inl h0⟩
            · exact HT.out.view hvx (hap h0)
          have HA : Hid (Calls Tryd.prog 54 #[.pointer (some ⟨g, o, none⟩), x] wr fun e w' => e = .returned (.tuple #[]) ∧ Touch wr w' g o 139 ∧ Rep w' g o h wd s0 f0 (zs ++ (yss.take (q + 1)).flatten)) := by
            have := add_rep2 wd g o h s0 f0 (zs ++ (yss.take q).flatten) (yss.getD q []) x wr hblk HP.out hvw hap (hT.out.touch HT.out hg) hg (by
              rw [hst] at hle
              have h5 := hfed.out
              have h6 := hs.out
              simp only [List.length_append] at hle ⊢
              omega)
            rw [List.append_assoc, ← hst] at this
            exact this
          have e5 : (q : Int) < k := by omega
          clear hvx hst hle hcx hap hax hvw
          go_wp2_with (first | (go_at_call 54; refine HA.out.mono ?_; rintro e3 w3 ⟨rfl, ht3, hp3⟩) | fail)
          have HT3 : Hid (Touch w w3 g o 139) := HT.out.trans ht3
          have HP3 : Hid (Rep w3 g o h wd s0 f0 (zs ++ (yss.take (q + 1)).flatten)) := hp3
          clear ht3 hp3 HA HT HP
          go_wp2
          go_roundw
          case rel => exact ⟨q + 1, by omega, by go_num, HT3, HP3⟩
          case measure => simp [intOf]; omega
        · obtain rfl : q = k := by omega
          go_wp2
          go_ret
          refine ⟨rfl, HT, ?_⟩
          have := HP.out
          rw [List.take_of_length_le (by rw [hn.out]; exact Nat.le_refl _)] at this
          exact this

/-- taken.write of what fits. -/
theorem write_rep (wd : Bool) (g o : Nat) (h : Int) (s0 : Eight) (f0 : Nat) (zs : List Int) (yss : List (List Int)) (v : Value) (left : Nat) (most : Int) (w : World) (hblk : blockOf h = bsz wd) (hr : Rep w g o h wd s0 f0 zs) (hp : Parts w g v yss) (hT : Tables w) (hg : 4 ≤ g)
    (hm : most = ((f0 + zs.length + left : Nat) : Int)) (hmm : f0 + zs.length + left ≤ 4611686018427387904) (hs : yss.flatten.length ≤ left) :
    Calls Tryd.prog 42 #[.pointer (some ⟨g, o, none⟩), .int .u64 most, v] w fun e w' => e = .returned (.int .i64 0) ∧ Touch w w' g o 139 ∧ Rep w' g o h wd s0 f0 (zs ++ yss.flatten) := by
  obtain ⟨a, c, rfl, hn, hc, hx⟩ := hp
  unfold maxLen at hc
  have hc1 : w.cell? ⟨g, o + 138, none⟩ = some (.int .u64 ((f0 + zs.length : Nat) : Int)) := by obtain ⟨_, hk, _⟩ := hr; exact hk.fed
  rcases hx with rfl | ⟨b, p, rfl, hb, hx⟩
  · refine (write_none g o (f0 + zs.length) left c a most w hc1 (by omega) hmm hc).mono ?_
    rintro e w' ⟨rfl, rfl⟩
    exact ⟨rfl, Touch.refl _ _ _ _, by simpa using hr⟩
  · exact write_some wd g o h s0 f0 yss.length c b p zs yss (f0 + zs.length) left most w hblk hr hT hg hc1 rfl (by omega) hmm rfl hn hc hb hx hs
end Go.Proofs.YtcopkohklgbpgabDoor
namespace Go.Proofs.YtcopkohklgbpgabDoor
open Go.RowKit
set_option linter.unusedVariables false
set_option linter.unusedSimpArgs false

/-- The digests that there are. -/
def Known (h : Int) : Prop := h = 224 ∨ h = 256 ∨ h = 384 ∨ h = 512
def wdOf (h : Int) : Bool := decide (h = 384 ∨ h = 512)
def szOf (h : Int) : Nat := (h / 8).toNat
theorem Known.block {h : Int} (k : Known h) : blockOf h = bsz (wdOf h) := by rcases k with rfl | rfl | rfl | rfl <;> rfl
theorem firstWords_any {h : Int} (k : Known h) (w : World) (hT : Tables w) :
    Calls Tryd.prog 39 #[.int .i64 h] w fun e w' => e = .returned (.agg (firstE h).cells.toArray) ∧ Below w.heap.size w w' := by
  rcases k with rfl | rfl | rfl | rfl
  · exact firstWords224 w hT
  · exact firstWords256 w hT
  · exact firstWords384 w hT
  · exact firstWords512 w hT
/-- begin, of a digest that there is. -/
theorem begin_any {h : Int} (k : Known h) (w : World) (hT : Tables w) :
    Calls Tryd.prog 29 #[.int .i64 h] w fun e w' => e = .returned (.tuple #[.agg (tkL h (wdOf h) (firstE h) (fun _ => 0) 0).toArray, .int .i64 0]) ∧ Below w.heap.size w w' := by
  have hb := k.block
  cases hw : wdOf h
  · rw [hw] at hb
    exact begin_good64 h w hb (fun v hv => firstWords_any k v hv) hT
  · rw [hw] at hb
    exact begin_good128 h w hb (fun v hv => firstWords_any k v hv) hT
theorem rep_nil {w : World} {g o : Nat} {h : Int} {wd : Bool} {s : Eight} {half : Nat → Int} {f0 : Nat} (k : TK w g o h wd s half f0) (hf : f0 % bsz wd = 0) : Rep w g o h wd s f0 [] :=
  ⟨half, by simpa [TT_zero] using k, fun i hi => by simp at hi, hf⟩
theorem Rep.below {w v : World} {g o : Nat} {h : Int} {wd : Bool} {s : Eight} {f0 : Nat} {zs : List Int} (k : Rep w g o h wd s f0 zs) (b : Below w.heap.size w v) : Rep v g o h wd s f0 zs := by
  obtain ⟨half, hk, h1, h2⟩ := k
  exact ⟨half, hk.below b, h1, h2⟩
theorem Rep.far {w v : World} {g o g' o' n : Nat} {h : Int} {wd : Bool} {s : Eight} {f0 : Nat} {zs : List Int} (k : Rep w g o h wd s f0 zs) (b : Touch w v g' o' n) (hne : g ≠ g') : Rep v g o h wd s f0 zs := by
  obtain ⟨half, hk, h1, h2⟩ := k
  have hg : g < w.heap.size := lt_of_cell hk.hash
  exact ⟨half, ⟨by rw [b.far hg hne]; exact hk.hash, by rw [b.far (p := ⟨g, o + 1, none⟩) hg hne]; exact hk.fn, fun j x hx => by rw [b.far (p := ⟨g, o + 2 + j, none⟩) hg hne]; exact hk.st j x hx, fun i hi => by rw [b.far (p := ⟨g, o + 10 + i, none⟩) hg hne]; exact hk.half i hi, by rw [b.far (p := ⟨g, o + 138, none⟩) hg hne]; exact hk.fed, b.thereFar hk.there hg hne⟩, h1, h2⟩
theorem fold87 (h : Int) (wd : Bool) (E : Eight) (half : Nat → Int) (fed : Nat) : List.foldl (fun (cs : Array Value) x => cs.setIfInBounds x.snd x.fst) Tryd.zeroCells72 (tkL h wd E half fed).zipIdx = (tkL h wd E half fed).toArray := by kernel_rfl
theorem size87 : (Tryd.prog.info? 72).map (·.size) = some 139 := by kernel_rfl
/-- What a taken's cells are, as a value. -/
structure TkBig (T : List Value) : Prop where
  len : T.length = 139
  one : T.toArray.all (·.oneCell') = true
  built : List.foldl (fun (cs : Array Value) x => cs.setIfInBounds x.snd x.fst) Tryd.zeroCells72 T.zipIdx = T.toArray
theorem TkBig.size {T : List Value} (h : TkBig T) : T.toArray.size = 139 := by simpa using h.len
theorem TkBig.info {T : List Value} (h : TkBig T) : (Tryd.prog.info? 68).map (·.size) = some T.toArray.size := by rw [h.size]; exact size71
theorem TkBig.info87 {T : List Value} (h : TkBig T) : (Tryd.prog.info? 72).map (·.size) = some T.toArray.size := by rw [h.size]; exact size87
theorem tkBig (h : Int) (wd : Bool) (E : Eight) (half : Nat → Int) (fed : Nat) : TkBig (tkL h wd E half fed) := ⟨tkL_length _ _ _ _ _, tkL_one _ _ _ _ _, fold87 _ _ _ _ _⟩

set_option maxHeartbeats 1600000 in
set_option maxRecDepth 100000 in
/-- New, of a digest that there is. -/
theorem new_good (h : Int) (w : World) (k : Hid (Known h)) (hT : Hid (Tables w)) :
    Calls Tryd.prog 20 #[.int .i64 h] w fun e w' => ∃ g, e = .returned (.tuple #[.pointer (some ⟨g, 0, none⟩), .int .i64 0]) ∧ w.heap.size ≤ g ∧ Rep w' g 0 h (wdOf h) (firstE h) 0 [] ∧ Below w.heap.size w w' := by
  go_enter Tryd.func20, Tryd.ntmps20
  go_wp2_with (first | (go_at_call 29; refine (begin_any k.out w hT.out).mono ?_))
  rintro e1 w1 ⟨rfl, hb1⟩
  obtain ⟨T, HTT⟩ : ∃ T : List Value, Hid (T = tkL h (wdOf h) (firstE h) (fun _ => 0) 0) := ⟨_, rfl⟩
  rw [← HTT.out]
  have HG : Hid (TkBig T) := by show TkBig T; rw [HTT.out]; exact tkBig _ _ _ _ _
  have HB1 : Hid (Below w.heap.size w w1) := hb1
  have HX : Hid ((w1.alloc (.cells Tryd.zeroCells68 68)).there w1.heap.size 0 139) := there_new w1 Tryd.zeroCells68 68 139 (by rw [cells71z, size71z]; exact Nat.le_refl _)
  clear hb1
  go_upto_region 4 with (first
    | (refine wpList_store_mid (by rfl) 68 (.tmp 4) (.tmp 9) (by rfl) w1.heap.size 0 T.toArray (by rfl) (by rfl) (by rw [HG.out.size]; exact HX.out) HG.out.info HG.out.one ?_)
    | fail)
  have HR2 : Hid (((w1.alloc (.cells Tryd.zeroCells68 68)).setCells w1.heap.size 0 T).rangeAt w1.heap.size 0 T) := World.rangeAt_setCells_same _ _ _ _ (by rw [HG.out.len]; exact HX.out)
  have HB2 : Hid (Below w.heap.size w ((w1.alloc (.cells Tryd.zeroCells68 68)).setCells w1.heap.size 0 T)) := below_setCells _ HB1.out.size _ _ _ (HB1.out.alloc HB1.out.size _)
  generalize (w1.alloc (.cells Tryd.zeroCells68 68)).setCells w1.heap.size 0 T = w2 at HR2 HB2 ⊢
  clear HX
  have hlen := HG.out.len
  have hfold := HG.out.built
  go_wp2_with (first
    | (refine wpList_load_mid (by rfl) 68 (.tmp 4) (by rfl) w1.heap.size 0 (by rfl) T _ HR2.out Tryd.underlying68 rfl (by rw [HG.out.len]; exact size71) ?_)
    | fail)
  go_ret2
  have hr := rangeAt_new w2 T.toArray 72
  have ht := there_new w2 T.toArray 72 139 (by rw [HG.out.size]; exact Nat.le_refl _)
  have hT' : T = tkL h (wdOf h) (firstE h) (fun _ => 0) 0 := HTT.out
  refine ⟨w2.heap.size, rfl, HB2.out.size, rep_nil (TK.of (half := fun _ => 0) ?_ ht) (Nat.zero_mod _), HB2.out.alloc HB2.out.size _⟩
  rw [hT'] at hr ⊢
  exact hr

set_option maxHeartbeats 400000 in
theorem size_known {h : Int} (k : Known h) (w : World) : Calls Tryd.prog 40 #[.int .i64 h] w fun e w' => e = .returned (.int .i64 (szOf h)) ∧ w' = w := by
  rcases k with rfl | rfl | rfl | rfl
  · go_enter Tryd.func40, Tryd.ntmps40
    go_wp2_with (first | (go_at_call 36; refine (block_any _ _).mono ?_; rintro e1 w1 ⟨rfl, hw1⟩; obtain rfl := hw1.symm; rw [show blockOf 224 = 64 from rfl]))
    go_ret
    exact ⟨rfl, rfl⟩
  · go_enter Tryd.func40, Tryd.ntmps40
    go_wp2_with (first | (go_at_call 36; refine (block_any _ _).mono ?_; rintro e1 w1 ⟨rfl, hw1⟩; obtain rfl := hw1.symm; rw [show blockOf 256 = 64 from rfl]))
    go_ret
    exact ⟨rfl, rfl⟩
  · go_enter Tryd.func40, Tryd.ntmps40
    go_wp2_with (first | (go_at_call 36; refine (block_any _ _).mono ?_; rintro e1 w1 ⟨rfl, hw1⟩; obtain rfl := hw1.symm; rw [show blockOf 384 = 128 from rfl]))
    go_ret
    exact ⟨rfl, rfl⟩
  · go_enter Tryd.func40, Tryd.ntmps40
    go_wp2_with (first | (go_at_call 36; refine (block_any _ _).mono ?_; rintro e1 w1 ⟨rfl, hw1⟩; obtain rfl := hw1.symm; rw [show blockOf 512 = 128 from rfl]))
    go_ret
    exact ⟨rfl, rfl⟩
set_option maxHeartbeats 400000 in
theorem shash (g : Nat) (h : Int) (w : World) (c : w.cell? ⟨g, 0, none⟩ = some (.int .i64 h)) : Calls Tryd.prog 41 #[.pointer (some ⟨g, 0, none⟩)] w fun e w' => e = .returned (.int .i64 h) ∧ w' = w := by
  go_enter Tryd.func41, Tryd.ntmps41
  go_wp2
  go_ret
  exact ⟨rfl, rfl⟩
set_option maxHeartbeats 400000 in
theorem ssize (g : Nat) (h : Int) (w : World) (k : Hid (Known h)) (c : Hid (w.cell? ⟨g, 0, none⟩ = some (.int .i64 h))) : Calls Tryd.prog 32 #[.pointer (some ⟨g, 0, none⟩)] w fun e w' => e = .returned (.int .i64 (szOf h)) ∧ w' = w := by
  go_enter Tryd.func32, Tryd.ntmps32
  go_wp2_with (first
    | (go_at_call 41; refine (shash g h w c.out).mono ?_; rintro e1 w1 ⟨rfl, hw1⟩; obtain rfl := hw1.symm)
    | (go_at_call 40; refine (size_known k.out _).mono ?_; rintro e1 w1 ⟨rfl, hw1⟩; obtain rfl := hw1.symm))
  go_ret
  exact ⟨rfl, rfl⟩
set_option maxHeartbeats 800000 in
/-- Stream.Write of what fits. -/
theorem swrite (g : Nat) (h : Int) (s0 : Eight) (zs : List Int) (yss : List (List Int)) (v : Value) (w : World) (k : Hid (Known h)) (hr : Hid (Rep w g 0 h (wdOf h) s0 0 zs)) (hp : Hid (Parts w g v yss)) (hT : Hid (Tables w)) (hg : 4 ≤ g) (hs : Hid (zs.length + yss.flatten.length ≤ 33554432)) :
    Calls Tryd.prog 33 #[.pointer (some ⟨g, 0, none⟩), v] w fun e w' => e = .returned (.int .i64 0) ∧ Touch w w' g 0 139 ∧ Rep w' g 0 h (wdOf h) s0 0 (zs ++ yss.flatten) := by
  have HA : Hid (Calls Tryd.prog 42 #[.pointer (some ⟨g, 0, none⟩), .int .u64 33554432, v] w fun e w' => e = .returned (.int .i64 0) ∧ Touch w w' g 0 139 ∧ Rep w' g 0 h (wdOf h) s0 0 (zs ++ yss.flatten)) :=
    write_rep (wdOf h) g 0 h s0 0 zs yss v (33554432 - zs.length) 33554432 w k.out.block hr.out hp.out hT.out hg (by have := hs.out; omega) (by have := hs.out; omega) (by have := hs.out; omega)
  go_enter Tryd.func33, Tryd.ntmps33
  go_wp2_with (first | (go_at_call 42; refine HA.out.mono ?_; rintro e1 w1 ⟨rfl, ht1, hr1⟩))
  have HQ : Hid (Touch w w1 g 0 139 ∧ Rep w1 g 0 h (wdOf h) s0 0 (zs ++ yss.flatten)) := ⟨ht1, hr1⟩
  clear ht1 hr1
  go_wp2
  go_ret
  exact ⟨rfl, HQ.out.1, HQ.out.2⟩
end Go.Proofs.YtcopkohklgbpgabDoor
namespace Go.Proofs.YtcopkohklgbpgabDoor
open Go.RowKit
set_option linter.unusedVariables false
set_option linter.unusedSimpArgs false
/-- The two tables of the document's answer. -/
structure RTab (w : World) : Prop where
  cubes : ∀ t, t < 80 → w.cell? ⟨2, t, none⟩ = some (.int .u64 (cubeAt t))
  roots : ∀ t, t < 16 → w.cell? ⟨1, t, none⟩ = some (.int .u64 (rootAt t))
theorem RTab.kept {w w' : World} (h : RTab w) (hb : ∀ k, k < 3 → w'.heap[k]? = w.heap[k]?) : RTab w' :=
  ⟨fun t ht => by rw [World.cell?_of_block (w := w) (hb 2 (by omega))]; exact h.cubes t ht, fun t ht => by rw [World.cell?_of_block (w := w) (hb 1 (by omega))]; exact h.roots t ht⟩
theorem RTab.size {w : World} (h : RTab w) : 3 ≤ w.heap.size := lt_of_cell (h.cubes 0 (by omega))
theorem RTab.below {w w' : World} {B : Nat} (h : RTab w) (b : Below B w w') (hB : 3 ≤ B) : RTab w' := h.kept fun k hk => b.block k (by omega)
theorem first224_mod : ∀ q, q < 8 → (rootAt (8 + q)).tmod 4294967296 = firstAt 224 q := by decide +kernel
set_option maxHeartbeats 1600000 in
set_option maxRecDepth 100000 in
theorem rfirst224 (w : World) (hT : Hid (RTab w)) :
    Calls Tryd.prog 46 #[.int .i64 224] w fun e w' => e = .returned (.agg (firstE 224).cells.toArray) ∧ Below w.heap.size w w' := by
  have HB0 : Hid (Below w.heap.size w ((w.alloc (.cells #[.int .u64 0, .int .u64 0, .int .u64 0, .int .u64 0, .int .u64 0, .int .u64 0, .int .u64 0, .int .u64 0] 64)).alloc (.cells #[.int .u64 0, .int .u64 0, .int .u64 0, .int .u64 0, .int .u64 0, .int .u64 0, .int .u64 0, .int .u64 0] 64)) ∧ ((w.alloc (.cells #[.int .u64 0, .int .u64 0, .int .u64 0, .int .u64 0, .int .u64 0, .int .u64 0, .int .u64 0, .int .u64 0] 64)).alloc (.cells #[.int .u64 0, .int .u64 0, .int .u64 0, .int .u64 0, .int .u64 0, .int .u64 0, .int .u64 0, .int .u64 0] 64)).there (w.heap.size + 1) 0 8 ∧ ((w.alloc (.cells #[.int .u64 0, .int .u64 0, .int .u64 0, .int .u64 0, .int .u64 0, .int .u64 0, .int .u64 0, .int .u64 0] 64)).alloc (.cells #[.int .u64 0, .int .u64 0, .int .u64 0, .int .u64 0, .int .u64 0, .int .u64 0, .int .u64 0, .int .u64 0] 64)).there w.heap.size 0 8) := ⟨((Below.refl _ _).alloc (Nat.le_refl _) _).alloc (by simp) _, two_there w _ _ 64 64 8 (by decide), World.there_alloc (there_new w _ 64 8 (by decide)) _⟩
  go_enter Tryd.func46, Tryd.ntmps46
  go_wp2
  go_loopw [4] (fun v wr => ∃ q : Nat, q ≤ 8 ∧ v = .int .i64 q ∧ Hid (Below w.heap.size w wr) ∧ Hid (wr.there (w.heap.size + 1) 0 8 ∧ wr.there w.heap.size 0 8) ∧ Hid (∀ j, j < q → wr.cell? ⟨w.heap.size + 1, j, none⟩ = some (.int .u64 (firstAt 224 j)))) (fun v _ => 8 - (intOf v).toNat)
  case atStart => exact ⟨0, by omega, rfl, HB0.out.1, HB0.out.2, fun j hj => by omega⟩
  case round =>
    obtain ⟨q, hq, rfl, HB, HT, HF⟩ := hrel
    clear HB0
    by_cases hlt : q < 8
    · obtain ⟨jj, hjj⟩ : ∃ jj, jj = 8 + q := ⟨_, rfl⟩
      have hTr := hT.out.below HB.out hT.out.size
      have c1 := hTr.roots (jj) (by omega)
      have hql : (q : Int) < 8 := by omega
      have hq0 : (0 : Int) ≤ (q : Int) := by omega
      have e8 : (8 : Int) + (q : Int) = (jj : Int) := by omega
      have e9 : (jj : Int) < 16 := by omega
      have HJ : Hid (jj = 8 + q) := hjj
      clear hjj
      have ff : wr.frozen? ⟨w.heap.size + 1, q, none⟩ = false := by have := (HT.out.1 q hlt).2; rw [Nat.zero_add] at this; exact this
      have fs : (wr.cell? ⟨w.heap.size + 1, q, none⟩).isSome = true := by have := (HT.out.1 q hlt).1; rw [Nat.zero_add] at this; exact this
      obtain ⟨z, hz⟩ := Option.isSome_iff_exists.1 fs
      clear fs hTr
      go_wp2
      go_roundw
      case rel =>
        have hf := fill_step (F := fun j => .int .u64 (firstAt 224 j)) HF.out HT.out.1 hlt (.int .u64 (firstAt 224 q)) rfl
        obtain rfl := HJ.out
        rw [first224_mod q hlt]
        refine ⟨q + 1, by omega, by go_num, HB.out.setCell (by simp) _, ⟨World.there_setCells HT.out.1 _ q [_], World.there_setCells HT.out.2 _ q [_]⟩, hf.1⟩
      case measure => simp [intOf]; omega
    · obtain rfl : q = 8 := by omega
      have HR : Hid (wr.rangeAt (w.heap.size + 1) 0 (firstE 224).cells) := fun j v hv => by
        obtain ⟨hj, rfl⟩ := eightOf_at _ j v hv
        rw [Nat.zero_add]
        exact HF.out j hj
      have HY : Hid (wr.there w.heap.size 0 (firstE 224).cells.toArray.size) := HT.out.2
      have HZ : Hid ((Tryd.prog.info? 64).map (·.size) = some (firstE 224).cells.toArray.size) := size70
      obtain ⟨E, HE⟩ : ∃ E : Eight, Hid (E = firstE 224) := ⟨_, rfl⟩
      rw [← HE.out] at HR HY HZ
      clear HF
      go_wp2_with (first
        | (refine wpList_load_mid (by rfl) 64 (.tmp 3) (by rfl) (w.heap.size + 1) 0 (by rfl) E.cells _ HR.out Tryd.underlying64 rfl size70 ?_)
        | (refine wpList_store_mid (by rfl) 64 (.tmp 2) (.tmp 42) (by rfl) w.heap.size 0 E.cells.toArray (by rfl) (by rfl) HY.out HZ.out (cellsE_one E) ?_)
        | fail)
      have hl := run_loadVar_mid (P := Tryd.prog) (wr.setCells w.heap.size 0 E.cells) w.heap.size 0 64 E.cells _ (World.rangeAt_setCells_same wr w.heap.size 0 E.cells HT.out.2) Tryd.underlying64 rfl size70
      refine bodyPost_ret (v := .agg E.cells.toArray) ?_ rfl ⟨by rw [HE.out], below_setCells _ (Nat.le_refl _) _ _ _ HB.out⟩
      rw [results_cell1 Tryd.results46]
      simp [Act.put, asAddr, hl]

set_option maxHeartbeats 1600000 in
set_option maxRecDepth 100000 in
theorem rfirst256 (w : World) (hT : Hid (RTab w)) :
    Calls Tryd.prog 46 #[.int .i64 256] w fun e w' => e = .returned (.agg (firstE 256).cells.toArray) ∧ Below w.heap.size w w' := by
  have HB0 : Hid (Below w.heap.size w ((w.alloc (.cells #[.int .u64 0, .int .u64 0, .int .u64 0, .int .u64 0, .int .u64 0, .int .u64 0, .int .u64 0, .int .u64 0] 64)).alloc (.cells #[.int .u64 0, .int .u64 0, .int .u64 0, .int .u64 0, .int .u64 0, .int .u64 0, .int .u64 0, .int .u64 0] 64)) ∧ ((w.alloc (.cells #[.int .u64 0, .int .u64 0, .int .u64 0, .int .u64 0, .int .u64 0, .int .u64 0, .int .u64 0, .int .u64 0] 64)).alloc (.cells #[.int .u64 0, .int .u64 0, .int .u64 0, .int .u64 0, .int .u64 0, .int .u64 0, .int .u64 0, .int .u64 0] 64)).there (w.heap.size + 1) 0 8 ∧ ((w.alloc (.cells #[.int .u64 0, .int .u64 0, .int .u64 0, .int .u64 0, .int .u64 0, .int .u64 0, .int .u64 0, .int .u64 0] 64)).alloc (.cells #[.int .u64 0, .int .u64 0, .int .u64 0, .int .u64 0, .int .u64 0, .int .u64 0, .int .u64 0, .int .u64 0] 64)).there w.heap.size 0 8) := ⟨((Below.refl _ _).alloc (Nat.le_refl _) _).alloc (by simp) _, two_there w _ _ 64 64 8 (by decide), World.there_alloc (there_new w _ 64 8 (by decide)) _⟩
  go_enter Tryd.func46, Tryd.ntmps46
  go_wp2
  go_loopw [4] (fun v wr => ∃ q : Nat, q ≤ 8 ∧ v = .int .i64 q ∧ Hid (Below w.heap.size w wr) ∧ Hid (wr.there (w.heap.size + 1) 0 8 ∧ wr.there w.heap.size 0 8) ∧ Hid (∀ j, j < q → wr.cell? ⟨w.heap.size + 1, j, none⟩ = some (.int .u64 (firstAt 256 j)))) (fun v _ => 8 - (intOf v).toNat)
  case atStart => exact ⟨0, by omega, rfl, HB0.out.1, HB0.out.2, fun j hj => by omega⟩
  case round =>
    obtain ⟨q, hq, rfl, HB, HT, HF⟩ := hrel
    clear HB0
    by_cases hlt : q < 8
    · obtain ⟨jj, hjj⟩ : ∃ jj, jj = 8 + q := ⟨_, rfl⟩
      have hTr := hT.out.below HB.out hT.out.size
      have c1 := hTr.roots (q) (by omega)
      have hql : (q : Int) < 8 := by omega
      have hq0 : (0 : Int) ≤ (q : Int) := by omega
      skip
      have ff : wr.frozen? ⟨w.heap.size + 1, q, none⟩ = false := by have := (HT.out.1 q hlt).2; rw [Nat.zero_add] at this; exact this
      have fs : (wr.cell? ⟨w.heap.size + 1, q, none⟩).isSome = true := by have := (HT.out.1 q hlt).1; rw [Nat.zero_add] at this; exact this
      obtain ⟨z, hz⟩ := Option.isSome_iff_exists.1 fs
      clear fs hTr
      go_wp2
      go_roundw
      case rel =>
        have hf := fill_step (F := fun j => .int .u64 (firstAt 256 j)) HF.out HT.out.1 hlt (.int .u64 (firstAt 256 q)) rfl
        skip
        refine ⟨q + 1, by omega, by go_num, HB.out.setCell (by simp) _, ⟨World.there_setCells HT.out.1 _ q [_], World.there_setCells HT.out.2 _ q [_]⟩, hf.1⟩
      case measure => simp [intOf]; omega
    · obtain rfl : q = 8 := by omega
      have HR : Hid (wr.rangeAt (w.heap.size + 1) 0 (firstE 256).cells) := fun j v hv => by
        obtain ⟨hj, rfl⟩ := eightOf_at _ j v hv
        rw [Nat.zero_add]
        exact HF.out j hj
      have HY : Hid (wr.there w.heap.size 0 (firstE 256).cells.toArray.size) := HT.out.2
      have HZ : Hid ((Tryd.prog.info? 64).map (·.size) = some (firstE 256).cells.toArray.size) := size70
      obtain ⟨E, HE⟩ : ∃ E : Eight, Hid (E = firstE 256) := ⟨_, rfl⟩
      rw [← HE.out] at HR HY HZ
      clear HF
      go_wp2_with (first
        | (refine wpList_load_mid (by rfl) 64 (.tmp 3) (by rfl) (w.heap.size + 1) 0 (by rfl) E.cells _ HR.out Tryd.underlying64 rfl size70 ?_)
        | (refine wpList_store_mid (by rfl) 64 (.tmp 2) (.tmp 42) (by rfl) w.heap.size 0 E.cells.toArray (by rfl) (by rfl) HY.out HZ.out (cellsE_one E) ?_)
        | fail)
      have hl := run_loadVar_mid (P := Tryd.prog) (wr.setCells w.heap.size 0 E.cells) w.heap.size 0 64 E.cells _ (World.rangeAt_setCells_same wr w.heap.size 0 E.cells HT.out.2) Tryd.underlying64 rfl size70
      refine bodyPost_ret (v := .agg E.cells.toArray) ?_ rfl ⟨by rw [HE.out], below_setCells _ (Nat.le_refl _) _ _ _ HB.out⟩
      rw [results_cell1 Tryd.results46]
      simp [Act.put, asAddr, hl]

set_option maxHeartbeats 1600000 in
set_option maxRecDepth 100000 in
theorem rfirst384 (w : World) (hT : Hid (RTab w)) :
    Calls Tryd.prog 46 #[.int .i64 384] w fun e w' => e = .returned (.agg (firstE 384).cells.toArray) ∧ Below w.heap.size w w' := by
  have HB0 : Hid (Below w.heap.size w ((w.alloc (.cells #[.int .u64 0, .int .u64 0, .int .u64 0, .int .u64 0, .int .u64 0, .int .u64 0, .int .u64 0, .int .u64 0] 64)).alloc (.cells #[.int .u64 0, .int .u64 0, .int .u64 0, .int .u64 0, .int .u64 0, .int .u64 0, .int .u64 0, .int .u64 0] 64)) ∧ ((w.alloc (.cells #[.int .u64 0, .int .u64 0, .int .u64 0, .int .u64 0, .int .u64 0, .int .u64 0, .int .u64 0, .int .u64 0] 64)).alloc (.cells #[.int .u64 0, .int .u64 0, .int .u64 0, .int .u64 0, .int .u64 0, .int .u64 0, .int .u64 0, .int .u64 0] 64)).there (w.heap.size + 1) 0 8 ∧ ((w.alloc (.cells #[.int .u64 0, .int .u64 0, .int .u64 0, .int .u64 0, .int .u64 0, .int .u64 0, .int .u64 0, .int .u64 0] 64)).alloc (.cells #[.int .u64 0, .int .u64 0, .int .u64 0, .int .u64 0, .int .u64 0, .int .u64 0, .int .u64 0, .int .u64 0] 64)).there w.heap.size 0 8) := ⟨((Below.refl _ _).alloc (Nat.le_refl _) _).alloc (by simp) _, two_there w _ _ 64 64 8 (by decide), World.there_alloc (there_new w _ 64 8 (by decide)) _⟩
  go_enter Tryd.func46, Tryd.ntmps46
  go_wp2
  go_loopw [4] (fun v wr => ∃ q : Nat, q ≤ 8 ∧ v = .int .i64 q ∧ Hid (Below w.heap.size w wr) ∧ Hid (wr.there (w.heap.size + 1) 0 8 ∧ wr.there w.heap.size 0 8) ∧ Hid (∀ j, j < q → wr.cell? ⟨w.heap.size + 1, j, none⟩ = some (.int .u64 (firstAt 384 j)))) (fun v _ => 8 - (intOf v).toNat)
  case atStart => exact ⟨0, by omega, rfl, HB0.out.1, HB0.out.2, fun j hj => by omega⟩
  case round =>
    obtain ⟨q, hq, rfl, HB, HT, HF⟩ := hrel
    clear HB0
    by_cases hlt : q < 8
    · obtain ⟨jj, hjj⟩ : ∃ jj, jj = 8 + q := ⟨_, rfl⟩
      have hTr := hT.out.below HB.out hT.out.size
      have c1 := hTr.roots (jj) (by omega)
      have hql : (q : Int) < 8 := by omega
      have hq0 : (0 : Int) ≤ (q : Int) := by omega
      have e8 : (8 : Int) + (q : Int) = (jj : Int) := by omega
      have e9 : (jj : Int) < 16 := by omega
      have HJ : Hid (jj = 8 + q) := hjj
      clear hjj
      have ff : wr.frozen? ⟨w.heap.size + 1, q, none⟩ = false := by have := (HT.out.1 q hlt).2; rw [Nat.zero_add] at this; exact this
      have fs : (wr.cell? ⟨w.heap.size + 1, q, none⟩).isSome = true := by have := (HT.out.1 q hlt).1; rw [Nat.zero_add] at this; exact this
      obtain ⟨z, hz⟩ := Option.isSome_iff_exists.1 fs
      clear fs hTr
      go_wp2
      go_roundw
      case rel =>
        have hf := fill_step (F := fun j => .int .u64 (firstAt 384 j)) HF.out HT.out.1 hlt (.int .u64 (firstAt 384 q)) rfl
        obtain rfl := HJ.out
        refine ⟨q + 1, by omega, by go_num, HB.out.setCell (by simp) _, ⟨World.there_setCells HT.out.1 _ q [_], World.there_setCells HT.out.2 _ q [_]⟩, hf.1⟩
      case measure => simp [intOf]; omega
    · obtain rfl : q = 8 := by omega
      have HR : Hid (wr.rangeAt (w.heap.size + 1) 0 (firstE 384).cells) := fun j v hv => by
        obtain ⟨hj, rfl⟩ := eightOf_at _ j v hv
        rw [Nat.zero_add]
        exact HF.out j hj
      have HY : Hid (wr.there w.heap.size 0 (firstE 384).cells.toArray.size) := HT.out.2
      have HZ : Hid ((Tryd.prog.info? 64).map (·.size) = some (firstE 384).cells.toArray.size) := size70
      obtain ⟨E, HE⟩ : ∃ E : Eight, Hid (E = firstE 384) := ⟨_, rfl⟩
      rw [← HE.out] at HR HY HZ
      clear HF
      go_wp2_with (first
        | (refine wpList_load_mid (by rfl) 64 (.tmp 3) (by rfl) (w.heap.size + 1) 0 (by rfl) E.cells _ HR.out Tryd.underlying64 rfl size70 ?_)
        | (refine wpList_store_mid (by rfl) 64 (.tmp 2) (.tmp 42) (by rfl) w.heap.size 0 E.cells.toArray (by rfl) (by rfl) HY.out HZ.out (cellsE_one E) ?_)
        | fail)
      have hl := run_loadVar_mid (P := Tryd.prog) (wr.setCells w.heap.size 0 E.cells) w.heap.size 0 64 E.cells _ (World.rangeAt_setCells_same wr w.heap.size 0 E.cells HT.out.2) Tryd.underlying64 rfl size70
      refine bodyPost_ret (v := .agg E.cells.toArray) ?_ rfl ⟨by rw [HE.out], below_setCells _ (Nat.le_refl _) _ _ _ HB.out⟩
      rw [results_cell1 Tryd.results46]
      simp [Act.put, asAddr, hl]

set_option maxHeartbeats 1600000 in
set_option maxRecDepth 100000 in
theorem rfirst512 (w : World) (hT : Hid (RTab w)) :
    Calls Tryd.prog 46 #[.int .i64 512] w fun e w' => e = .returned (.agg (firstE 512).cells.toArray) ∧ Below w.heap.size w w' := by
  have HB0 : Hid (Below w.heap.size w ((w.alloc (.cells #[.int .u64 0, .int .u64 0, .int .u64 0, .int .u64 0, .int .u64 0, .int .u64 0, .int .u64 0, .int .u64 0] 64)).alloc (.cells #[.int .u64 0, .int .u64 0, .int .u64 0, .int .u64 0, .int .u64 0, .int .u64 0, .int .u64 0, .int .u64 0] 64)) ∧ ((w.alloc (.cells #[.int .u64 0, .int .u64 0, .int .u64 0, .int .u64 0, .int .u64 0, .int .u64 0, .int .u64 0, .int .u64 0] 64)).alloc (.cells #[.int .u64 0, .int .u64 0, .int .u64 0, .int .u64 0, .int .u64 0, .int .u64 0, .int .u64 0, .int .u64 0] 64)).there (w.heap.size + 1) 0 8 ∧ ((w.alloc (.cells #[.int .u64 0, .int .u64 0, .int .u64 0, .int .u64 0, .int .u64 0, .int .u64 0, .int .u64 0, .int .u64 0] 64)).alloc (.cells #[.int .u64 0, .int .u64 0, .int .u64 0, .int .u64 0, .int .u64 0, .int .u64 0, .int .u64 0, .int .u64 0] 64)).there w.heap.size 0 8) := ⟨((Below.refl _ _).alloc (Nat.le_refl _) _).alloc (by simp) _, two_there w _ _ 64 64 8 (by decide), World.there_alloc (there_new w _ 64 8 (by decide)) _⟩
  go_enter Tryd.func46, Tryd.ntmps46
  go_wp2
  go_loopw [4] (fun v wr => ∃ q : Nat, q ≤ 8 ∧ v = .int .i64 q ∧ Hid (Below w.heap.size w wr) ∧ Hid (wr.there (w.heap.size + 1) 0 8 ∧ wr.there w.heap.size 0 8) ∧ Hid (∀ j, j < q → wr.cell? ⟨w.heap.size + 1, j, none⟩ = some (.int .u64 (firstAt 512 j)))) (fun v _ => 8 - (intOf v).toNat)
  case atStart => exact ⟨0, by omega, rfl, HB0.out.1, HB0.out.2, fun j hj => by omega⟩
  case round =>
    obtain ⟨q, hq, rfl, HB, HT, HF⟩ := hrel
    clear HB0
    by_cases hlt : q < 8
    · obtain ⟨jj, hjj⟩ : ∃ jj, jj = 8 + q := ⟨_, rfl⟩
      have hTr := hT.out.below HB.out hT.out.size
      have c1 := hTr.roots (q) (by omega)
      have hql : (q : Int) < 8 := by omega
      have hq0 : (0 : Int) ≤ (q : Int) := by omega
      skip
      have ff : wr.frozen? ⟨w.heap.size + 1, q, none⟩ = false := by have := (HT.out.1 q hlt).2; rw [Nat.zero_add] at this; exact this
      have fs : (wr.cell? ⟨w.heap.size + 1, q, none⟩).isSome = true := by have := (HT.out.1 q hlt).1; rw [Nat.zero_add] at this; exact this
      obtain ⟨z, hz⟩ := Option.isSome_iff_exists.1 fs
      clear fs hTr
      go_wp2
      go_roundw
      case rel =>
        have hf := fill_step (F := fun j => .int .u64 (firstAt 512 j)) HF.out HT.out.1 hlt (.int .u64 (firstAt 512 q)) rfl
        skip
        refine ⟨q + 1, by omega, by go_num, HB.out.setCell (by simp) _, ⟨World.there_setCells HT.out.1 _ q [_], World.there_setCells HT.out.2 _ q [_]⟩, hf.1⟩
      case measure => simp [intOf]; omega
    · obtain rfl : q = 8 := by omega
      have HR : Hid (wr.rangeAt (w.heap.size + 1) 0 (firstE 512).cells) := fun j v hv => by
        obtain ⟨hj, rfl⟩ := eightOf_at _ j v hv
        rw [Nat.zero_add]
        exact HF.out j hj
      have HY : Hid (wr.there w.heap.size 0 (firstE 512).cells.toArray.size) := HT.out.2
      have HZ : Hid ((Tryd.prog.info? 64).map (·.size) = some (firstE 512).cells.toArray.size) := size70
      obtain ⟨E, HE⟩ : ∃ E : Eight, Hid (E = firstE 512) := ⟨_, rfl⟩
      rw [← HE.out] at HR HY HZ
      clear HF
      go_wp2_with (first
        | (refine wpList_load_mid (by rfl) 64 (.tmp 3) (by rfl) (w.heap.size + 1) 0 (by rfl) E.cells _ HR.out Tryd.underlying64 rfl size70 ?_)
        | (refine wpList_store_mid (by rfl) 64 (.tmp 2) (.tmp 42) (by rfl) w.heap.size 0 E.cells.toArray (by rfl) (by rfl) HY.out HZ.out (cellsE_one E) ?_)
        | fail)
      have hl := run_loadVar_mid (P := Tryd.prog) (wr.setCells w.heap.size 0 E.cells) w.heap.size 0 64 E.cells _ (World.rangeAt_setCells_same wr w.heap.size 0 E.cells HT.out.2) Tryd.underlying64 rfl size70
      refine bodyPost_ret (v := .agg E.cells.toArray) ?_ rfl ⟨by rw [HE.out], below_setCells _ (Nat.le_refl _) _ _ _ HB.out⟩
      rw [results_cell1 Tryd.results46]
      simp [Act.put, asAddr, hl]


/-- first. -/
theorem rfirst_any {h : Int} (k : Known h) (w : World) (hT : Hid (RTab w)) : Calls Tryd.prog 46 #[.int .i64 h] w fun e w' => e = .returned (.agg (firstE h).cells.toArray) ∧ Below w.heap.size w w' := by
  rcases k with rfl | rfl | rfl | rfl
  · exact rfirst224 w hT
  · exact rfirst256 w hT
  · exact rfirst384 w hT
  · exact rfirst512 w hT
theorem rblock_ok (h : Int) (k : Known h) (w : World) : Calls Tryd.prog 45 #[.int .i64 h] w fun e w' => e = .returned (.int .i64 (bsz (wdOf h))) ∧ w' = w := by
  rcases k with rfl | rfl | rfl | rfl
  all_goals
    go_enter Tryd.func45, Tryd.ntmps45
    go_wp2
    go_ret
    exact ⟨rfl, rfl⟩
theorem rsize_ok (h : Int) (k : Known h) (w : World) : Calls Tryd.prog 16 #[.int .i64 h] w fun e w' => e = .returned (.int .i64 (szOf h)) ∧ w' = w := by
  rcases k with rfl | rfl | rfl | rfl
  all_goals
    go_enter Tryd.func16, Tryd.ntmps16
    go_wp2
    go_ret
    exact ⟨rfl, rfl⟩
theorem rsize_bad (h : Int) (k : ¬ Known h) (w : World) : Calls Tryd.prog 16 #[.int .i64 h] w fun e w' => e = .returned (.int .i64 0) ∧ w' = w := by
  have d1 : ¬ h = 224 := fun e => k (.inl e)
  have d2 : ¬ h = 256 := fun e => k (.inr (.inl e))
  have d3 : ¬ h = 384 := fun e => k (.inr (.inr (.inl e)))
  have d4 : ¬ h = 512 := fun e => k (.inr (.inr (.inr e)))
  clear k
  go_enter Tryd.func16, Tryd.ntmps16
  go_wp2
  go_ret
  exact ⟨rfl, rfl⟩
end Go.Proofs.YtcopkohklgbpgabDoor
namespace Go.Proofs.YtcopkohklgbpgabDoor
open Go.RowKit
set_option linter.unusedVariables false
set_option linter.unusedSimpArgs false
theorem zero_arr {n : Nat} {Z : Array Value} {v : Value} (h : Z = Array.replicate n v) (j : Nat) (hj : j < n) : Z[j]? = some v := by
  rw [h]
  simp [hj]
def Kof (C : Nat → Int) (t : Nat) : Option Value := if t < 64 then some (.int .u32 (C t / 4294967296)) else none
theorem rot_or32 (x : Int) (a b s : Nat) (hb : b = 32 - s) (ha : a = s) : bits .or .u32 (x / 2 ^ b) (x * 2 ^ a % 4294967296) = rotl32 x s := by
  subst hb ha
  rw [rotl32, or_comm32]
/-- The step of the schedule, and of the rounds, as the document's answer writes them. -/
theorem lo0_or32 (x : Int) : bits .xor .u32 (bits .xor .u32 (bits .or .u32 (x / 128) (x * 33554432 % 4294967296)) (bits .or .u32 (x / 262144) (x * 16384 % 4294967296))) (x / 8) = lo0_32 x := by
  have h1 := rot_or32 x 25 7 25 rfl rfl
  have h2 := rot_or32 x 14 18 14 rfl rfl
  simp only [Int.reducePow] at h1 h2
  rw [h1, h2, lo0_32]
theorem lo1_or32 (x : Int) : bits .xor .u32 (bits .xor .u32 (bits .or .u32 (x / 131072) (x * 32768 % 4294967296)) (bits .or .u32 (x / 524288) (x * 8192 % 4294967296))) (x / 1024) = lo1_32 x := by
  have h1 := rot_or32 x 15 17 15 rfl rfl
  have h2 := rot_or32 x 13 19 13 rfl rfl
  simp only [Int.reducePow] at h1 h2
  rw [h1, h2, lo1_32]
theorem S1_or32 (x : Int) : bits .xor .u32 (bits .xor .u32 (bits .or .u32 (x / 64) (x * 67108864 % 4294967296)) (bits .or .u32 (x / 2048) (x * 2097152 % 4294967296))) (bits .or .u32 (x / 33554432) (x * 128 % 4294967296)) = bits .xor .u32 (bits .xor .u32 (rotl32 x 26) (rotl32 x 21)) (rotl32 x 7) := by
  have h1 := rot_or32 x 26 6 26 rfl rfl
  have h2 := rot_or32 x 21 11 21 rfl rfl
  have h3 := rot_or32 x 7 25 7 rfl rfl
  simp only [Int.reducePow] at h1 h2 h3
  rw [h1, h2, h3]
theorem S0_or32 (x : Int) : bits .xor .u32 (bits .xor .u32 (bits .or .u32 (x / 4) (x * 1073741824 % 4294967296)) (bits .or .u32 (x / 8192) (x * 524288 % 4294967296))) (bits .or .u32 (x / 4194304) (x * 1024 % 4294967296)) = bits .xor .u32 (bits .xor .u32 (rotl32 x 30) (rotl32 x 19)) (rotl32 x 10) := by
  have h1 := rot_or32 x 30 2 30 rfl rfl
  have h2 := rot_or32 x 19 13 19 rfl rfl
  have h3 := rot_or32 x 10 22 10 rfl rfl
  simp only [Int.reducePow] at h1 h2 h3
  rw [h1, h2, h3]
def Eight.cells32 (s : Eight) : List Value := s.list.map (Value.int .u32)
theorem cells32_one (s : Eight) : s.cells32.toArray.all (·.oneCell') = true := all_oneCell_toArray (by
  intro v hv
  simp only [Eight.cells32, List.mem_map] at hv
  obtain ⟨x, _, rfl⟩ := hv
  rfl)
theorem size94 : (Tryd.prog.info? 98).map (·.size) = some 8 := by kernel_rfl
set_option maxHeartbeats 3200000 in
set_option maxRecDepth 100000 in
theorem taken32_walk (h0 h1 h2 h3 h4 h5 h6 h7 : Int) (Kc : Array Value) (C B : Nat → Int) (b p cap : Nat) (w : World) (hK : ∀ t, t < 64 → Kc[t]? = some (.int .u32 (C t / 4294967296)))
    (hcap : 64 ≤ cap) (hcm : cap ≤ 9223372036854775807) (hB : ∀ i, i < 64 → w.cell? ⟨b, p + i, none⟩ = some (.int .u8 (B i))) :
    Calls Tryd.prog 56 #[.agg #[.int .u32 h0, .int .u32 h1, .int .u32 h2, .int .u32 h3, .int .u32 h4, .int .u32 h5, .int .u32 h6, .int .u32 h7], .slice (some ⟨b, p, none⟩) 64 cap, .agg Kc] w fun e w' =>
      e = .returned (.agg (Eight.cells32 (Eight.zip (fun h x => (h + x) % 4294967296) ⟨h0, h1, h2, h3, h4, h5, h6, h7⟩ (rounds32 C (sched32 B) 64 ⟨h0, h1, h2, h3, h4, h5, h6, h7⟩))).toArray) ∧ Below w.heap.size w w' := by
  have hbw : b < w.heap.size := lt_of_cell (hB 0 (by omega))
  have HB : Hid (∀ i, i < 64 → w.cell? ⟨b, p + i, none⟩ = some (.int .u8 (B i))) := hB
  have HK : Hid (∀ t v, Kof C t = some v → Kc[t]? = some v) := fun t v hv => by
    unfold Kof at hv
    split at hv
    · rename_i ht
      rw [hK t ht]
      exact hv
    · cases hv
  clear hB hK
  go_enter Tryd.func56, Tryd.ntmps56
  go_wp2
  go_loopw [8] (fun v wr => ∃ t : Nat, t ≤ 16 ∧ v = .int .i64 t ∧ Hid (TX w wr [.int .u32 h0, .int .u32 h1, .int .u32 h2, .int .u32 h3, .int .u32 h4, .int .u32 h5, .int .u32 h6, .int .u32 h7] (Kof C) (w.heap.size + 2) (w.heap.size + 3) 64 (fun j => .int .u32 (if j < t then sched32 B j else 0)))) (fun v _ => 16 - (intOf v).toNat)
  case atStart => exact ⟨0, by omega, rfl, tx_new4 w _ _ _ _ _ _ _ _ _ _ _ (by rfl) (by rfl) HK.out (fun j hj => by rw [if_neg (by omega)]; exact zero_arr (by rfl) j hj)⟩
  case round =>
    obtain ⟨t, ht, rfl, HX⟩ := hrel
    by_cases h16 : t < 16
    · have f0 : wr.cell? ⟨b, p + 4 * t, none⟩ = some (.int .u8 (B (4 * t))) := by rw [HX.out.below.cell hbw]; exact HB.out (4 * t) (by omega)
      have f1 : wr.cell? ⟨b, p + (4 * t + 1), none⟩ = some (.int .u8 (B (4 * t + 1))) := by rw [HX.out.below.cell hbw]; exact HB.out (4 * t + 1) (by omega)
      have f2 : wr.cell? ⟨b, p + (4 * t + 2), none⟩ = some (.int .u8 (B (4 * t + 2))) := by rw [HX.out.below.cell hbw]; exact HB.out (4 * t + 2) (by omega)
      have f3 : wr.cell? ⟨b, p + (4 * t + 3), none⟩ = some (.int .u8 (B (4 * t + 3))) := by rw [HX.out.below.cell hbw]; exact HB.out (4 * t + 3) (by omega)
      have fw : wr.frozen? ⟨w.heap.size + 3, t, none⟩ = false := by simpa using (HX.out.wth t (by omega)).2
      obtain ⟨u, fu⟩ : ∃ u, wr.cell? ⟨w.heap.size + 3, t, none⟩ = some u := ⟨_, HX.out.fill t (by omega)⟩
      go_wp2
      go_region
      go_wp2
      go_roundw
      case rel =>
        refine ⟨t + 1, by omega, by go_num, ((HX.out.put t (by omega) (.int .u32 (word32 B t))).drew).congr fun j hj => ?_⟩
        by_cases e : j = t
        · subst e
          rw [if_pos rfl, if_pos (by omega), sched32, if_pos h16]
        · rw [if_neg e]
          by_cases e2 : j < t
          · rw [if_pos e2, if_pos (by omega)]
          · rw [if_neg e2, if_neg (by omega)]
      case measure => simp [intOf]; omega
    · obtain rfl : t = 16 := by omega
      clear h16 ht HB
      go_wp2
      go_loopw [9] (fun v wr => ∃ t : Nat, t ≤ 48 ∧ v = .int .i64 (16 + (t : Int)) ∧ Hid (TX w wr [.int .u32 h0, .int .u32 h1, .int .u32 h2, .int .u32 h3, .int .u32 h4, .int .u32 h5, .int .u32 h6, .int .u32 h7] (Kof C) (w.heap.size + 2) (w.heap.size + 3) 64 (fun j => .int .u32 (if j < 16 + t then sched32 B j else 0)))) (fun v _ => 64 - (intOf v).toNat)
      case atStart => exact ⟨0, by omega, rfl, HX⟩
      case round =>
        obtain ⟨t, ht, rfl, HX2⟩ := hrel
        clear HX
        by_cases h48 : t < 48
        · have f2 : wr.cell? ⟨w.heap.size + 3, t + 14, none⟩ = some (.int .u32 (sched32 B (t + 14))) := by rw [HX2.out.fill _ (by omega), if_pos (by omega)]
          have f15 : wr.cell? ⟨w.heap.size + 3, t + 1, none⟩ = some (.int .u32 (sched32 B (t + 1))) := by rw [HX2.out.fill _ (by omega), if_pos (by omega)]
          have f7 : wr.cell? ⟨w.heap.size + 3, t + 9, none⟩ = some (.int .u32 (sched32 B (t + 9))) := by rw [HX2.out.fill _ (by omega), if_pos (by omega)]
          have f16 : wr.cell? ⟨w.heap.size + 3, t, none⟩ = some (.int .u32 (sched32 B t)) := by rw [HX2.out.fill _ (by omega), if_pos (by omega)]
          have fw : wr.frozen? ⟨w.heap.size + 3, t + 16, none⟩ = false := by simpa using (HX2.out.wth (t + 16) (by omega)).2
          obtain ⟨u, fu⟩ : ∃ u, wr.cell? ⟨w.heap.size + 3, t + 16, none⟩ = some u := ⟨_, HX2.out.fill (t + 16) (by omega)⟩
          have e2 : (16 + (t : Int) - 2).toNat = t + 14 := by omega
          have e15 : (16 + (t : Int) - 15).toNat = t + 1 := by omega
          have e7 : (16 + (t : Int) - 7).toNat = t + 9 := by omega
          have e16 : (16 + (t : Int) - 16).toNat = t := by omega
          have e0 : (16 + (t : Int)).toNat = t + 16 := by omega
          go_wp2
          go_region
          go_wp2
          go_roundw
          case rel =>
            have hv : sched32 B (t + 16) = (lo1_32 (sched32 B (t + 14)) + sched32 B (t + 9) + lo0_32 (sched32 B (t + 1)) + sched32 B t) % 4294967296 := by
              rw [sched32, if_neg (by omega)]
              rw [show t + 16 - 2 = t + 14 by omega, show t + 16 - 7 = t + 9 by omega, show t + 16 - 15 = t + 1 by omega, show t + 16 - 16 = t by omega]
            rw [lo0_or32, lo1_or32]
            refine ⟨t + 1, by omega, by go_num, ((HX2.out.put (t + 16) (by omega) _).drew).congr fun j hj => ?_⟩
            by_cases e : j = t + 16
            · subst e
              rw [if_pos rfl, if_pos (by omega), hv]
            · rw [if_neg e]
              by_cases e2 : j < 16 + t
              · rw [if_pos e2, if_pos (by omega)]
              · rw [if_neg e2, if_neg (by omega)]
          case measure => simp [intOf]; omega
        · obtain rfl : t = 48 := by omega
          clear h48 ht
          have HX3 : Hid (TX w wr [.int .u32 h0, .int .u32 h1, .int .u32 h2, .int .u32 h3, .int .u32 h4, .int .u32 h5, .int .u32 h6, .int .u32 h7] (Kof C) (w.heap.size + 2) (w.heap.size + 3) 64 (fun j => .int .u32 (sched32 B j))) := HX2.out.congr fun j hj => by rw [if_pos (by omega)]
          clear HX2
          have c0 : wr.cell? ⟨w.heap.size, 0, none⟩ = some (.int .u32 h0) := by simpa using HX3.out.h 0 _ rfl
          have c1 : wr.cell? ⟨w.heap.size, 1, none⟩ = some (.int .u32 h1) := by simpa using HX3.out.h 1 _ rfl
          have c2 : wr.cell? ⟨w.heap.size, 2, none⟩ = some (.int .u32 h2) := by simpa using HX3.out.h 2 _ rfl
          have c3 : wr.cell? ⟨w.heap.size, 3, none⟩ = some (.int .u32 h3) := by simpa using HX3.out.h 3 _ rfl
          have c4 : wr.cell? ⟨w.heap.size, 4, none⟩ = some (.int .u32 h4) := by simpa using HX3.out.h 4 _ rfl
          have c5 : wr.cell? ⟨w.heap.size, 5, none⟩ = some (.int .u32 h5) := by simpa using HX3.out.h 5 _ rfl
          have c6 : wr.cell? ⟨w.heap.size, 6, none⟩ = some (.int .u32 h6) := by simpa using HX3.out.h 6 _ rfl
          have c7 : wr.cell? ⟨w.heap.size, 7, none⟩ = some (.int .u32 h7) := by simpa using HX3.out.h 7 _ rfl
          go_wp2
          go_quiet (fail)
          go_wp2
          go_quiet (fail)
          go_wp2
          clear c0 c1 c2 c3 c4 c5 c6 c7
          go_loopw [14, 15, 16, 17, 18, 19, 20, 21, 22] (fun va vb vc vd ve vf vg vk i wr => ∃ t : Nat, ∃ s : Eight, t ≤ 64 ∧ i = .int .i64 t ∧ va = .int .u32 s.a ∧ vb = .int .u32 s.b ∧ vc = .int .u32 s.c ∧ vd = .int .u32 s.d ∧ ve = .int .u32 s.e ∧ vf = .int .u32 s.f ∧ vg = .int .u32 s.g ∧ vk = .int .u32 s.k ∧ Hid (s = rounds32 C (sched32 B) t ⟨h0, h1, h2, h3, h4, h5, h6, h7⟩) ∧ Hid (TX w wr [.int .u32 h0, .int .u32 h1, .int .u32 h2, .int .u32 h3, .int .u32 h4, .int .u32 h5, .int .u32 h6, .int .u32 h7] (Kof C) (w.heap.size + 2) (w.heap.size + 3) 64 (fun j => .int .u32 (sched32 B j)))) (fun _ _ _ _ _ _ _ _ i _ => 64 - (intOf i).toNat)
          case atStart => exact ⟨0, ⟨h0, h1, h2, h3, h4, h5, h6, h7⟩, by omega, rfl, rfl, rfl, rfl, rfl, rfl, rfl, rfl, rfl, rfl, (HX3.out.drewN _).drewN _⟩
          case round =>
            obtain ⟨t, ⟨a, b, c, d, e, f, g1, k⟩, ht, rfl, rfl, rfl, rfl, rfl, rfl, rfl, rfl, rfl, HS, HX4⟩ := hrel
            clear HX3
            by_cases hlt : t < 64
            · have hw : wr.cell? ⟨w.heap.size + 3, t, none⟩ = some (.int .u32 (sched32 B t)) := HX4.out.fill t hlt
              have hc : wr.cell? ⟨w.heap.size + 1, t, none⟩ = some (.int .u32 (C t / 4294967296)) := HX4.out.k t _ (by rw [Kof, if_pos hlt])
              go_wp2
              go_quiet (fail)
              go_wp2
              go_roundw
              case rel =>
                rw [S1_or32, S0_or32, ch32, maj32]
                refine ⟨t + 1, round32 ⟨a, b, c, d, e, f, g1, k⟩ (C t) (sched32 B t), by omega, by go_num, rfl, rfl, rfl, rfl, rfl, rfl, rfl, rfl, ?_, HX4.out.drewN _⟩
                have := HS.out
                rw [this]
                exact rfl
              case measure => simp [intOf]; omega
            · obtain rfl : t = 64 := by omega
              clear hlt ht
              obtain ⟨E, HE⟩ : ∃ E : Eight, E = ⟨((h0 + a) % 4294967296), ((h1 + b) % 4294967296), ((h2 + c) % 4294967296), ((h3 + d) % 4294967296), ((h4 + e) % 4294967296), ((h5 + f) % 4294967296), ((h6 + g1) % 4294967296), ((h7 + k) % 4294967296)⟩ := ⟨_, rfl⟩
              have HEE : Hid (Eight.zip (fun h x => (h + x) % 4294967296) ⟨h0, h1, h2, h3, h4, h5, h6, h7⟩ (rounds32 C (sched32 B) 64 ⟨h0, h1, h2, h3, h4, h5, h6, h7⟩) = ⟨((h0 + a) % 4294967296), ((h1 + b) % 4294967296), ((h2 + c) % 4294967296), ((h3 + d) % 4294967296), ((h4 + e) % 4294967296), ((h5 + f) % 4294967296), ((h6 + g1) % 4294967296), ((h7 + k) % 4294967296)⟩) := by
                rw [← HS.out]
                exact rfl
              clear HS HE E
              have c0 : wr.cell? ⟨w.heap.size, 0, none⟩ = some (.int .u32 h0) := by simpa using HX4.out.h 0 _ rfl
              have c1 : wr.cell? ⟨w.heap.size, 1, none⟩ = some (.int .u32 h1) := by simpa using HX4.out.h 1 _ rfl
              have c2 : wr.cell? ⟨w.heap.size, 2, none⟩ = some (.int .u32 h2) := by simpa using HX4.out.h 2 _ rfl
              have c3 : wr.cell? ⟨w.heap.size, 3, none⟩ = some (.int .u32 h3) := by simpa using HX4.out.h 3 _ rfl
              have c4 : wr.cell? ⟨w.heap.size, 4, none⟩ = some (.int .u32 h4) := by simpa using HX4.out.h 4 _ rfl
              have c5 : wr.cell? ⟨w.heap.size, 5, none⟩ = some (.int .u32 h5) := by simpa using HX4.out.h 5 _ rfl
              have c6 : wr.cell? ⟨w.heap.size, 6, none⟩ = some (.int .u32 h6) := by simpa using HX4.out.h 6 _ rfl
              have c7 : wr.cell? ⟨w.heap.size, 7, none⟩ = some (.int .u32 h7) := by simpa using HX4.out.h 7 _ rfl
              go_wp2_with (first
                | (refine wpList_store_mid (by rfl) 98 (.tmp 6) (.tmp 252) (by rfl) (w.heap.size + 2) 0 (Eight.cells32 ⟨((h0 + a) % 4294967296), ((h1 + b) % 4294967296), ((h2 + c) % 4294967296), ((h3 + d) % 4294967296), ((h4 + e) % 4294967296), ((h5 + f) % 4294967296), ((h6 + g1) % 4294967296), ((h7 + k) % 4294967296)⟩).toArray (by rfl) (by rfl) HX4.out.res size94 (cells32_one _) ?_)
                | fail)
              have hl := run_loadVar_mid (P := Tryd.prog) (wr.setCells (w.heap.size + 2) 0 (Eight.cells32 ⟨((h0 + a) % 4294967296), ((h1 + b) % 4294967296), ((h2 + c) % 4294967296), ((h3 + d) % 4294967296), ((h4 + e) % 4294967296), ((h5 + f) % 4294967296), ((h6 + g1) % 4294967296), ((h7 + k) % 4294967296)⟩)) (w.heap.size + 2) 0 98 (Eight.cells32 ⟨((h0 + a) % 4294967296), ((h1 + b) % 4294967296), ((h2 + c) % 4294967296), ((h3 + d) % 4294967296), ((h4 + e) % 4294967296), ((h5 + f) % 4294967296), ((h6 + g1) % 4294967296), ((h7 + k) % 4294967296)⟩) _ (World.rangeAt_setCells_same wr (w.heap.size + 2) 0 _ HX4.out.res) Tryd.underlying98 rfl size94
              refine bodyPost_ret (v := .agg (Eight.cells32 ⟨((h0 + a) % 4294967296), ((h1 + b) % 4294967296), ((h2 + c) % 4294967296), ((h3 + d) % 4294967296), ((h4 + e) % 4294967296), ((h5 + f) % 4294967296), ((h6 + g1) % 4294967296), ((h7 + k) % 4294967296)⟩).toArray) ?_ rfl ⟨by rw [HEE.out], below_setCells _ (by omega) _ _ _ HX4.out.below⟩
              rw [results_cell1 Tryd.results56]
              simp [Act.put, asAddr, hl]
end Go.Proofs.YtcopkohklgbpgabDoor
namespace Go.Proofs.YtcopkohklgbpgabDoor
set_option linter.unusedVariables false
variable {P : Program} {ops : Array Oper} {Q : Exit → Act → World → Prop} {md : Region.Mode} {S : World → Prop} {n : Nat}

/-- Whatever order is picked; S holds behind every operation of the head (the first n); the tail may do as it likes. -/
def wpTill (P : Program) (md : Region.Mode) (ops : Array Oper) (Q : Exit → Act → World → Prop) (S : World → Prop) (n : Nat) : Nat → Array Bool → Act → World → Prop
  | 0, l, a, w => Region.ready md ops l = [] ∧ Q .normal a w
  | f + 1, l, a, w =>
    (Region.ready md ops l = [] → Q .normal a w) ∧
    ∀ i, i ∈ Region.ready md ops l → wpOp P ops Q i (fun b u => (i < n → S u) ∧ wpTill P md ops Q S n f (l.setIfInBounds i true) b u) a w

theorem any_of_till (f : Nat) : ∀ (l : Array Bool) (a : Act) (w : World), wpTill P md ops Q S n f l a w → wpAny P md ops Q f l a w := by
  induction f with
  | zero => exact fun _ _ _ h => h
  | succ f ih => exact fun l a w h => ⟨h.1, fun i hi => wpOp_mono (fun b u k => ih _ b u k.2) (h.2 i hi)⟩

theorem till_first {i : Nat} {oi : Oper} {v : Value} (hi : ops[i]? = some oi) (hin : i < n) (hn : n < ops.size) (hsk : Region.sinkB md ops n = true) (hch : Region.chainB md ops n = true)
    (hsel : ∀ (j : Nat) (o : Oper) cs b, ops[j]? = some o → o.op ≠ .select cs b) (hQ : ∀ c a w, Q (.panic c) (a.put oi.dst v) w → Q (.panic c) a w) (f : Nat) :
    ∀ (l : Array Bool) (a : Act) (w : World), HeadInv md ops n l →
      (∀ j oj, ops[j]? = some oj → j ≠ i → l.getD j true = false → (∀ e ∈ oj.after, Region.binds md e = true → e.on ≠ i) → oi.apart ops oj = true) →
      i ∈ Region.ready md ops l → YieldsIf P ops S oi v a → S w → wpTill P md ops Q S n f (l.setIfInBounds i true) (a.put oi.dst v) w → wpTill P md ops Q S n (f + 1) l a w := by
  induction f with
  | zero =>
    intro l a w inv _ hr hy hS H
    refine ⟨fun h => (by rw [h] at hr; cases hr), fun j hj => ?_⟩
    by_cases hji : j = i
    · subst hji
      exact hy.wpOp hi hS ⟨fun _ => hS, H⟩
    · have h := ready_mono hj hji
      rw [H.1] at h
      cases h
  | succ f ih =>
    intro l a w inv hfree hr hy hS H
    refine ⟨fun h => (by rw [h] at hr; cases hr), fun j hj => ?_⟩
    by_cases hji : j = i
    · subst hji
      exact hy.wpOp hi hS ⟨fun _ => hS, H⟩
    have hun := (mem_ready.1 hr).1
    have hjn : j < n := by
      rcases Nat.lt_or_ge j n with h | h
      · exact h
      · exact absurd hj (tail_waits hsk hch hn inv _ i rfl hin hun j h)
    have h1 := H.2 j (ready_mono hj hji)
    obtain ⟨hjun, oj, hoj, hall⟩ := mem_ready.1 hj
    have hnot : ∀ e ∈ oj.after, Region.binds md e = true → e.on ≠ i := fun e he hb heq => by
      have h2 := hall e he hb
      rw [heq] at h2
      rw [getD_both hun] at h2
      cases h2
    have h2 := wpOp_putIf hoj (hfree j oj hoj hji hjun hnot) (fun cs b => hsel i oi cs b hi) (fun cs b => hsel j oj cs b hoj) hQ hy h1
    refine wpOp_mono (fun b u h3 => ?_) h2
    have hSu := h3.2.1 hjn
    refine ⟨fun _ => hSu, ih (l.setIfInBounds j true) b u (inv.set hj hjn) (fun k ok hk hki hku hno => ?_) (ready_mono hr (Ne.symm hji)) h3.1 hSu ?_⟩
    · refine hfree k ok hk hki ?_ hno
      by_cases hjk : j = k
      · subst hjk; exact hjun
      · rw [getD_set_ne true hjk] at hku; exact hku
    · rw [Array.setIfInBounds_comm _ _ hji]
      exact h3.2.2

/-- What is carried along: the head's invariant, and what the region's form gives once. -/
structure Inv (md : Region.Mode) (ops : Array Oper) (n : Nat) (l : Array Bool) : Prop where
  head : HeadInv md ops n l
  lt : n < ops.size
  sink : Region.sinkB md ops n = true
  chain : Region.chainB md ops n = true
  sel : Region.noSelect ops = true
theorem Inv.set {l : Array Bool} {i : Nat} (inv : Inv md ops n l) (hi : i ∈ Region.ready md ops l) (hin : i < n) : Inv md ops n (l.setIfInBounds i true) := ⟨inv.head.set hi hin, inv.lt, inv.sink, inv.chain, inv.sel⟩

/-- An operation of the head that yields under S is taken first. -/
theorem till_at (i d : Nat) (v : Value) {oi : Oper} {f : Nat} {l : Array Bool} {tmps : Array Value} {ds : List Deferred} {w : World} (inv : Inv md ops n l) (hi : ops[i]? = some oi) (hd : oi.dst = some d)
    (hin : i < n) (hf : Region.free md ops l i = true) (hr : (Region.ready md ops l).contains i = true)
    (hQ : ∀ c a w, Q (.panic c) (a.put oi.dst v) w → Q (.panic c) a w) (hS : S w) (hy : YieldsIf P ops S oi v ⟨tmps, ds⟩)
    (h : Inv md ops n (l.setIfInBounds i true) → wpTill P md ops Q S n f (l.setIfInBounds i true) ⟨tmps.setIfInBounds d v, ds⟩ w) : wpTill P md ops Q S n (f + 1) l ⟨tmps, ds⟩ w := by
  have hr' : i ∈ Region.ready md ops l := by simpa using hr
  refine till_first hi hin inv.lt inv.sink inv.chain (Region.noSelect_spec inv.sel) hQ f l _ w inv.head (Region.free_spec hi hf) hr' hy hS ?_
  rw [hd]
  exact h (inv.set hr' hin)

/-- A lone operation of the head comes up. -/
theorem till_head {i : Nat} {o : Oper} {f : Nat} {l : Array Bool} {a : Act} {w : World} (inv : Inv md ops n l) (hr : Region.ready md ops l = [i]) (hin : i < n) (ho : ops[i]? = some o)
    (h : ∀ K' : Act → World → Prop, Shut (∀ a w, S w → (Inv md ops n (l.setIfInBounds i true) → wpTill P md ops Q S n f (l.setIfInBounds i true) a w) → K' a w) → if Region.wanted o (yielded ops a.tmps) = true then Oper.wp P o a w K' Q else K' (a.put o.dst undef) w) :
    wpTill P md ops Q S n (f + 1) l a w := by
  have hi : i ∈ Region.ready md ops l := by rw [hr]; simp
  refine ⟨fun h0 => (by rw [hr] at h0; cases h0), fun j hj => ?_⟩
  rw [hr] at hj
  obtain rfl : j = i := by simpa using hj
  exact wpOp_step ho (fun K' hK => h K' (fun a w hS hW => hK a w ⟨fun _ => hS, hW (inv.set hi hin)⟩))

/-- A lone operation of the tail comes up. -/
theorem till_tail {i : Nat} {o : Oper} {f : Nat} {l : Array Bool} {a : Act} {w : World} (hr : Region.ready md ops l = [i]) (hin : n ≤ i) (ho : ops[i]? = some o)
    (h : ∀ K' : Act → World → Prop, Shut (∀ a w, wpTill P md ops Q S n f (l.setIfInBounds i true) a w → K' a w) → if Region.wanted o (yielded ops a.tmps) = true then Oper.wp P o a w K' Q else K' (a.put o.dst undef) w) :
    wpTill P md ops Q S n (f + 1) l a w := by
  refine ⟨fun h0 => (by rw [hr] at h0; cases h0), fun j hj => ?_⟩
  rw [hr] at hj
  obtain rfl : j = i := by simpa using hj
  exact wpOp_step ho (fun K' hK => h K' (fun a w hW => hK a w ⟨fun h => by omega, hW⟩))

theorem till_done {l : Array Bool} {a : Act} {w : World} (hr : Region.ready md ops l = []) (h : Q .normal a w) : ∀ f, wpTill P md ops Q S n f l a w
  | 0 => ⟨hr, h⟩
  | _ + 1 => ⟨fun _ => h, fun i hi => by rw [hr] at hi; cases hi⟩

theorem wp_region_till {id : Nat} {a : Act} {w : World} (S : World → Prop) (n : Nat) (hm : P.follows .mixedOrders = true) (hn : n < ops.size) (hsk : Region.sinkB .any ops n = true) (hch : Region.chainB .any ops n = true) (hs : Region.noSelect ops = true)
    (h : Inv .any ops n (Array.replicate ops.size false) → wpTill P .any ops Q S n ops.size (Array.replicate ops.size false) a w.drew) : (Code.region id ops true).wp P Q a w := by
  refine wp_region_any hm (any_of_till _ _ _ _ (h ⟨⟨by simp, fun j oj _ hl => ?_, fun t _ ht => ?_⟩, hn, hsk, hch, hs⟩))
  · rw [getD_replicate_false] at hl; cases hl
  · simp [ht]
end Go.Proofs.YtcopkohklgbpgabDoor
namespace Go.Proofs.YtcopkohklgbpgabDoor
variable {P : Program} {ops : Array Oper} {Q : Exit → Act → World → Prop} {md : Region.Mode}

/-- An operation that yields in whatever world is taken first; its slot is written out. -/
theorem take_at (i d : Nat) (v : Value) {oi : Oper} {fuel : Nat} {listed : Array Bool} {tmps : Array Value} {ds : List Deferred} {w : World} (hi : ops[i]? = some oi) (hd : oi.dst = some d)
    (hs : Region.noSelect ops = true) (hf : Region.free md ops listed i = true) (hr : (Region.ready md ops listed).contains i = true)
    (hQ : ∀ c a w, Q (.panic c) (a.put oi.dst v) w → Q (.panic c) a w) (hy : Yields P ops oi v ⟨tmps, ds⟩)
    (h : wpAny P md ops Q fuel (listed.setIfInBounds i true) ⟨tmps.setIfInBounds d v, ds⟩ w) : wpAny P md ops Q (fuel + 1) listed ⟨tmps, ds⟩ w := by
  refine wpAny_take hi hs hf hr hQ hy ?_
  rw [hd]
  exact h
variable {S : World → Prop}
/-- The same under what every world of the region meets. -/
theorem takeH_at (i d : Nat) (v : Value) {oi : Oper} {fuel : Nat} {listed : Array Bool} {tmps : Array Value} {ds : List Deferred} {w : World} (hi : ops[i]? = some oi) (hd : oi.dst = some d)
    (hs : Region.noSelect ops = true) (hf : Region.free md ops listed i = true) (hr : (Region.ready md ops listed).contains i = true)
    (hQ : ∀ c a w, Q (.panic c) (a.put oi.dst v) w → Q (.panic c) a w) (hS : S w) (hy : YieldsIf P ops S oi v ⟨tmps, ds⟩)
    (h : wpAnyH P md ops Q S fuel (listed.setIfInBounds i true) ⟨tmps.setIfInBounds d v, ds⟩ w) : wpAnyH P md ops Q S (fuel + 1) listed ⟨tmps, ds⟩ w := by
  refine wpAnyH_take hi hs hf hr hQ hy hS ?_
  rw [hd]
  exact h
end Go.Proofs.YtcopkohklgbpgabDoor
namespace Go.Proofs.YtcopkohklgbpgabDoor
open Go.RowKit Go.Shelf
attribute [local go_sem] Oper.semAt_some
set_option linter.unusedVariables false
set_option linter.unusedSimpArgs false
/-- A piece's number, the first one's where there is no such piece. -/
def clp (sz len x : Nat) : Nat := if x * sz < len then x else 0
/-- How long it is. -/
def pcl (sz len x : Nat) : Nat := min ((clp sz len x + 1) * sz) len - clp sz len x * sz
/-- What a round keeps: the two boxes. -/
def Kbx (Bl Bs : Nat) (W W' : World) : Prop := W'.cell? ⟨Bl, 0, none⟩ = W.cell? ⟨Bl, 0, none⟩ ∧ W'.cell? ⟨Bs, 0, none⟩ = W.cell? ⟨Bs, 0, none⟩
theorem Kbx.t {Bl Bs : Nat} {A B C : World} (h : Kbx Bl Bs A B) (k : Kbx Bl Bs B C) : Kbx Bl Bs A C := ⟨k.1.trans h.1, k.2.trans h.2⟩
theorem Kbx.b {Bl Bs : Nat} {w : World} (h1 : Bl < w.heap.size) (h2 : Bs < w.heap.size) (W : World) (l : Nat) (o o' : Obj) (hl : w.heap.size ≤ l) (_ : W.heap[l]? = some o) (_ : o.isCells = false) (_ : o.isWalk = false) : Kbx Bl Bs W (W.putObj l o') :=
  ⟨World.cell?_of_block (World.putObj_heap_other (by show Bl ≠ l; omega)), World.cell?_of_block (World.putObj_heap_other (by show Bs ≠ l; omega))⟩
theorem wrap64_small {x : Int} (h0 : 0 ≤ x) (h1 : x ≤ 9223372036854775807) : IntKind.i64.wrap x = x := by
  rw [IntKind.wrap_i64]
  omega
theorem elem22p : Tryd.prog.elem 22 = 5 := by kernel_rfl
theorem und22p : Tryd.prog.underlying 22 = some (.slice (Tryd.prog.elem 22)) := by kernel_rfl
theorem sizeOf5p (w : World) : (Go.sizeOf 5).run Tryd.prog w = .ok 1 w := by kernel_rfl
set_option maxRecDepth 100000 in
set_option maxHeartbeats 2000000 in
theorem pieces1_in (n : Nat) (hn : 1 ≤ n) (l Bl Bs b off len cap sz cnt : Nat) (hsz : 1 ≤ sz) (hbig : len + sz ≤ 281474976710656) (hlc : len ≤ cap) (hcnt : Hid (∀ j, j < cnt ↔ j * sz < len)) (J Jx : List Nat → World → Prop) (hJd : Hid (∀ s W, J s W → J s W.drew))
    (hY : Hid (∀ pre x W, J pre W → pre.length < cnt → YieldAt Fence.wide (n - 1) Tryd.prog l #[.int .i64 (clp sz len x : Nat), .slice (some ⟨b, off + clp sz len x * sz, none⟩) (pcl sz len x) (pcl sz len x)] W fun e W' =>
      (e = .returned (.bool true) ∧ J (pre ++ [x]) W' ∧ Kbx Bl Bs W W') ∨ (e = .returned (.bool false) ∧ Jx (pre ++ [x]) W')))
    (W : World) (hBl : W.cell? ⟨Bl, 0, none⟩ = some (.slice (some ⟨b, off, none⟩) len cap)) (hBs : W.cell? ⟨Bs, 0, none⟩ = some (.int .i64 (sz : Nat))) (h0 : J [] W) :
    CallsIn Fence.wide n Tryd.prog 31 #[.func (.yield l) #[] #[], .pointer (some ⟨Bl, 0, none⟩), .pointer (some ⟨Bs, 0, none⟩)] W fun e W' => (∃ v, e = .returned v) ∧
      ((∃ ys, ys = List.range cnt ∧ J ys W') ∨ (∃ pre, (∃ k, k ≤ cnt ∧ pre = List.range k) ∧ Jx pre W')) := by
  refine callsIn_of_wp Tryd.func31 rfl trivial ?_ rfl
  simp only [Tryd.ntmps31, List.size_toArray, List.length_cons, List.length_nil, Nat.reduceAdd, Nat.reduceSub, Array.replicate_succ, Array.replicate_zero, List.push_toArray, List.append_toArray, List.nil_append, List.cons_append]
  gi_wp2
  gi_loopw [4] (fun i wr => ∃ k : Nat, k ≤ cnt ∧ i = .int .i64 (k : Nat) ∧ Hid (J (List.range k) wr) ∧ wr.cell? ⟨Bl, 0, none⟩ = some (.slice (some ⟨b, off, none⟩) len cap) ∧ wr.cell? ⟨Bs, 0, none⟩ = some (.int .i64 (sz : Nat)))
    (fun i _ => cnt - (intOf i).toNat)
  case atStart => exact ⟨0, Nat.zero_le _, rfl, h0, hBl, hBs⟩
  case round =>
    obtain ⟨k, hk, rfl, hJs, c1, c2⟩ := hrel
    clear hBl hBs h0
    obtain ⟨p, hp⟩ : ∃ p, p = k * sz := ⟨_, rfl⟩
    have hpl : p ≤ len + sz := by
      rcases Nat.eq_zero_or_pos k with h | h
      · subst h; simp at hp; omega
      · have h1 := (hcnt.out (k - 1)).1 (by omega)
        have h2 : k * sz = (k - 1) * sz + sz := by rw [← Nat.succ_mul]; congr 1; omega
        omega
    have hkp : k ≤ p := by rw [hp]; exact Nat.le_mul_of_pos_right k hsz
    have hm1 : ((k : Nat) : Int) * ((sz : Nat) : Int) = ((p : Nat) : Int) := by rw [hp]; simp
    have hm2 : (((k : Nat) : Int) + 1) * ((sz : Nat) : Int) = ((p + sz : Nat) : Int) := by rw [Int.add_mul, hm1]; simp
    by_cases hlt : k < cnt
    · have hlt' : p < len := by rw [hp]; exact (hcnt.out k).1 hlt
      obtain ⟨t, ht⟩ : ∃ t : Nat, t = min (p + sz) len := ⟨_, rfl⟩
      have hts : t ≤ len ∧ p < t := by omega
      have hw0 : IntKind.i64.wrap (p : Int) = (p : Int) := wrap64_small (by omega) (by omega)
      have hw1 : IntKind.i64.wrap ((k : Int) + 1) = (k : Int) + 1 := wrap64_small (by omega) (by omega)
      have hw2 : IntKind.i64.wrap ((p : Int) + (sz : Int)) = (p : Int) + (sz : Int) := wrap64_small (by omega) (by omega)
      have hmi : (if (len : Int) < (p : Int) + (sz : Int) then (len : Int) else (p : Int) + (sz : Int)) = (t : Int) := by split <;> omega
      have hmin : min ((p : Int) + (sz : Int)) (len : Int) = (t : Int) := by omega
      have hsl : ∀ u, (Instr.slice 22 (.slice (some ⟨b, off, none⟩) len cap) (some (.int .i64 (p : Nat))) (some (.int .i64 (t : Nat))) (some (.int .i64 (t : Nat)))).run Tryd.prog u = .ok (.slice (some ⟨b, off + p, none⟩) (t - p) (t - p)) u := fun u => by
        rw [run_slice_lhm u 22 (some ⟨b, off, none⟩) len cap und22p .i64 .i64 .i64 p t t (by omega) (by omega) (by omega) (by omega), elem22p, sizeOf5p]
        simp [Result.andThen, sliced, Addr.add, show ¬ t = p by omega]
      obtain ⟨fn, tmps, assign, body, hy, hR⟩ := hY.out _ k wr.drew (hJd.out _ _ hJs.out) (by simpa using hlt)
      have e1 : clp sz len k = k := by rw [clp, if_pos (by rw [← hp]; exact hlt')]
      have e2 : pcl sz len k = t - p := by rw [pcl, e1, ← hp, Nat.succ_mul, ← hp, ht]
      rw [e1, e2, ← hp] at hy
      have HRR : Hid (List.range k ++ [k] = List.range (k + 1)) := by show _ = _; rw [List.range_succ]
      clear e1 e2 hp ht hY hcnt hJs
      gi_wp2
      refine wpIn_wide.2 ?_
      have hS0 : wr.drew.cell? ⟨Bl, 0, none⟩ = some (.slice (some ⟨b, off, none⟩) len cap) ∧ wr.drew.cell? ⟨Bs, 0, none⟩ = some (.int .i64 (sz : Nat)) := ⟨c1, c2⟩
      refine wp_region_noPanic ?_
      refine wp_region_held_drew (S := fun u => u.cell? ⟨Bl, 0, none⟩ = some (.slice (some ⟨b, off, none⟩) len cap) ∧ u.cell? ⟨Bs, 0, none⟩ = some (.int .i64 (sz : Nat))) (by kernel_rfl) (hS0) (fun _ => ?_)
      refine takeH_at 0 15 (.int .i64 (k : Nat)) rfl rfl (by kernel_rfl) (by kernel_rfl) (by kernel_rfl) (fun _ _ _ h => h) hS0 (Or.inl ⟨by kernel_rfl, fun w' hS' => by go_simp⟩) ?_
      simp only [List.setIfInBounds_toArray, List.set_cons_zero, List.set_cons_succ]
      refine takeH_at 1 16 (.int .i64 (sz : Nat)) rfl rfl (by kernel_rfl) (by kernel_rfl) (by kernel_rfl) (fun _ _ _ h => h) hS0 (Or.inl ⟨by kernel_rfl, fun w' hS' => by have q := hS'.2; go_simp⟩) ?_
      simp only [List.setIfInBounds_toArray, List.set_cons_zero, List.set_cons_succ]
      refine takeH_at 2 17 (.int .i64 (p : Nat)) rfl rfl (by kernel_rfl) (by kernel_rfl) (by kernel_rfl) (fun _ _ _ h => h) hS0 (Or.inl ⟨by kernel_rfl, fun w' hS' => by go_simp⟩) ?_
      simp only [List.setIfInBounds_toArray, List.set_cons_zero, List.set_cons_succ]
      refine takeH_at 3 18 (.int .i64 (k : Nat)) rfl rfl (by kernel_rfl) (by kernel_rfl) (by kernel_rfl) (fun _ _ _ h => h) hS0 (Or.inl ⟨by kernel_rfl, fun w' hS' => by go_simp⟩) ?_
      simp only [List.setIfInBounds_toArray, List.set_cons_zero, List.set_cons_succ]
      refine takeH_at 4 19 (.int .i64 ((k : Int) + 1)) rfl rfl (by kernel_rfl) (by kernel_rfl) (by kernel_rfl) (fun _ _ _ h => h) hS0 (Or.inl ⟨by kernel_rfl, fun w' hS' => by go_simp⟩) ?_
      simp only [List.setIfInBounds_toArray, List.set_cons_zero, List.set_cons_succ]
      refine takeH_at 5 20 (.int .i64 (sz : Nat)) rfl rfl (by kernel_rfl) (by kernel_rfl) (by kernel_rfl) (fun _ _ _ h => h) hS0 (Or.inl ⟨by kernel_rfl, fun w' hS' => by have q := hS'.2; go_simp⟩) ?_
      simp only [List.setIfInBounds_toArray, List.set_cons_zero, List.set_cons_succ]
      refine takeH_at 6 21 (.int .i64 ((p : Int) + (sz : Int))) rfl rfl (by kernel_rfl) (by kernel_rfl) (by kernel_rfl) (fun _ _ _ h => h) hS0 (Or.inl ⟨by kernel_rfl, fun w' hS' => by go_simp⟩) ?_
      simp only [List.setIfInBounds_toArray, List.set_cons_zero, List.set_cons_succ]
      refine takeH_at 7 22 (.slice (some ⟨b, off, none⟩) len cap) rfl rfl (by kernel_rfl) (by kernel_rfl) (by kernel_rfl) (fun _ _ _ h => h) hS0 (Or.inl ⟨by kernel_rfl, fun w' hS' => by have q := hS'.1; go_simp⟩) ?_
      simp only [List.setIfInBounds_toArray, List.set_cons_zero, List.set_cons_succ]
      refine takeH_at 8 23 (.int .i64 (len : Nat)) rfl rfl (by kernel_rfl) (by kernel_rfl) (by kernel_rfl) (fun _ _ _ h => h) hS0 (Or.inl ⟨by kernel_rfl, fun w' hS' => by go_simp⟩) ?_
      simp only [List.setIfInBounds_toArray, List.set_cons_zero, List.set_cons_succ]
      refine takeH_at 9 24 (.int .i64 (t : Nat)) rfl rfl (by kernel_rfl) (by kernel_rfl) (by kernel_rfl) (fun _ _ _ h => h) hS0 (Or.inl ⟨by kernel_rfl, fun w' hS' => by go_simp⟩) ?_
      simp only [List.setIfInBounds_toArray, List.set_cons_zero, List.set_cons_succ]
      refine takeH_at 10 5 (.int .i64 (p : Nat)) rfl rfl (by kernel_rfl) (by kernel_rfl) (by kernel_rfl) (fun _ _ _ h => h) hS0 (Or.inl ⟨by kernel_rfl, fun w' hS' => by go_simp⟩) ?_
      simp only [List.setIfInBounds_toArray, List.set_cons_zero, List.set_cons_succ]
      refine takeH_at 11 6 (.int .i64 (t : Nat)) rfl rfl (by kernel_rfl) (by kernel_rfl) (by kernel_rfl) (fun _ _ _ h => h) hS0 (Or.inl ⟨by kernel_rfl, fun w' hS' => by go_simp⟩) ?_
      simp only [List.setIfInBounds_toArray, List.set_cons_zero, List.set_cons_succ]
      refine wpAnyH_done (by kernel_rfl) ?_ _
      refine NoPanic.normal ?_
      gi_wp2
      refine hR.mono ?_
      rintro e W3 (⟨rfl, hJ3, hk3⟩ | ⟨rfl, hJx3⟩)
      · have d1 := hk3.1.trans c1
        have d2 := hk3.2.trans c2
        rw [HRR.out] at hJ3
        have HJ3 : Hid (J (List.range (k + 1)) W3) := hJ3
        clear hJ3 hk3
        gi_wp2
        go_roundw
        case rel => exact ⟨k + 1, by omega, by go_num, HJ3, d1, d2⟩
        case measure => simp [intOf]; omega
      · gi_wp2
        refine bodyPost_ret (results_none rfl _ _ _) rfl ?_
        exact ⟨⟨_, rfl⟩, .inr ⟨_, ⟨k + 1, by omega, HRR.out⟩, hJx3⟩⟩
    · have hlt' : len ≤ p := by
        have := hcnt.out k
        rw [← hp] at this
        omega
      obtain rfl : k = cnt := by omega
      clear hp
      gi_wp2
      go_end0
      exact ⟨⟨_, rfl⟩, .inl ⟨_, rfl, hJs.out⟩⟩
set_option maxRecDepth 100000 in
set_option maxHeartbeats 1000000 in
theorem pieces1_nil (n : Nat) (l Bl Bs cap sz : Nat) (a : Option Addr) (J : List Nat → World → Prop) (W : World) (hBl : W.cell? ⟨Bl, 0, none⟩ = some (.slice a 0 cap)) (hBs : W.cell? ⟨Bs, 0, none⟩ = some (.int .i64 (sz : Nat))) (h0 : J [] W) :
    CallsIn Fence.wide n Tryd.prog 31 #[.func (.yield l) #[] #[], .pointer (some ⟨Bl, 0, none⟩), .pointer (some ⟨Bs, 0, none⟩)] W fun e W' => (∃ v, e = .returned v) ∧ J [] W' := by
  have hz : IntKind.i64.wrap (0 * (sz : Int)) = 0 := by rw [Int.zero_mul]; rfl
  refine callsIn_of_wp Tryd.func31 rfl trivial ?_ rfl
  simp only [Tryd.ntmps31, List.size_toArray, List.length_cons, List.length_nil, Nat.reduceAdd, Nat.reduceSub, Array.replicate_succ, Array.replicate_zero, List.push_toArray, List.append_toArray, List.nil_append, List.cons_append]
  gi_wp2
  gi_loopw [4] (fun i wr => i = .int .i64 0 ∧ wr = W) (fun _ _ => 0)
  case atStart => exact ⟨rfl, rfl⟩
  case round =>
    obtain ⟨rfl, rfl⟩ := hrel
    gi_wp2
    go_end0
    exact ⟨⟨_, rfl⟩, h0⟩
theorem drew_grown (W : World) : W.grownBy W.drew none := ⟨rfl, rfl, rfl, Nat.le_refl _, fun _ _ _ => rfl⟩
/-- The pieces of a list that is there. -/
theorem pieces_stops (n : Nat) (hn : 1 ≤ n) (Bl Bs b off len cap sz cnt : Nat) (hsz : 1 ≤ sz) (hbig : len + sz ≤ 281474976710656) (hlc : len ≤ cap) (hcnt : ∀ j, j < cnt ↔ j * sz < len) (w : World) (hBl : w.cell? ⟨Bl, 0, none⟩ = some (.slice (some ⟨b, off, none⟩) len cap)) (hBs : w.cell? ⟨Bs, 0, none⟩ = some (.int .i64 (sz : Nat))) :
    SeqStopsK Fence.wide n Tryd.prog 31 #[.pointer (some ⟨Bl, 0, none⟩), .pointer (some ⟨Bs, 0, none⟩)] (fun x : Nat => #[Value.int .i64 (clp sz len x : Nat), .slice (some ⟨b, off + clp sz len x * sz, none⟩) (pcl sz len x) (pcl sz len x)]) (Kbx Bl Bs) (fun ys => ys = List.range cnt) (fun _ => True) cnt w := fun l J Jx W hW hJ _ hY h0 => by
  have b1 : Bl < w.heap.size := by have := World.block_lt_of_cell? w _ hBl; simpa using this
  have b2 : Bs < w.heap.size := by have := World.block_lt_of_cell? w _ hBs; simpa using this
  have c1 := (World.cell?_of_block (w := w) (a := ⟨Bl, 0, none⟩) (hW.block Bl b1)).trans hBl
  have c2 := (World.cell?_of_block (w := w) (a := ⟨Bs, 0, none⟩) (hW.block Bs b2)).trans hBs
  refine (pieces1_in n hn l Bl Bs b off len cap sz cnt hsz hbig hlc hcnt J Jx (fun s V hs => hJ s V V.drew none hs (drew_grown V) (fun r e => by cases e)) hY W c1 c2 h0).mono ?_
  rintro e W' ⟨he, ⟨ys, rfl, hj⟩ | ⟨pre, _, hj⟩⟩
  · exact ⟨he, .inl ⟨_, rfl, hj⟩⟩
  · exact ⟨he, .inr ⟨_, trivial, hj⟩⟩
theorem pieces_stops_nil (n : Nat) (Bl Bs cap sz : Nat) (a : Option Addr) (encs : Nat → Array Value) (w : World) (hBl : w.cell? ⟨Bl, 0, none⟩ = some (.slice a 0 cap)) (hBs : w.cell? ⟨Bs, 0, none⟩ = some (.int .i64 (sz : Nat))) :
    SeqStopsK Fence.wide n Tryd.prog 31 #[.pointer (some ⟨Bl, 0, none⟩), .pointer (some ⟨Bs, 0, none⟩)] encs (Kbx Bl Bs) (fun ys => ys = []) (fun _ => True) 0 w := fun l J Jx W hW hJ _ hY h0 => by
  have b1 : Bl < w.heap.size := by have := World.block_lt_of_cell? w _ hBl; simpa using this
  have b2 : Bs < w.heap.size := by have := World.block_lt_of_cell? w _ hBs; simpa using this
  have c1 := (World.cell?_of_block (w := w) (a := ⟨Bl, 0, none⟩) (hW.block Bl b1)).trans hBl
  have c2 := (World.cell?_of_block (w := w) (a := ⟨Bs, 0, none⟩) (hW.block Bs b2)).trans hBs
  refine (pieces1_nil n l Bl Bs cap sz a J W c1 c2 h0).mono ?_
  rintro e W' ⟨he, hj⟩
  exact ⟨he, .inl ⟨_, rfl, hj⟩⟩
set_option maxHeartbeats 400000 in
/-- pieces: the list and the size are boxed. -/
theorem pieces_ok (v : Value) (a : Option Addr) (len cap sz : Nat) (hv : v = .slice a len cap) (w : World) :
    Calls Tryd.prog 24 #[v, .int .i64 (sz : Nat)] w fun e w' => e = .returned (.func (.func 31) #[] #[.pointer (some ⟨w.heap.size, 0, none⟩), .pointer (some ⟨w.heap.size + 1, 0, none⟩)]) ∧ w' = (w.alloc (.cells #[.slice a len cap] 22)).alloc (.cells #[.int .i64 (sz : Nat)] 3) := by
  subst hv
  go_enter Tryd.func24, Tryd.ntmps24
  go_wp2
  go_ret
  exact ⟨rfl, rfl⟩
end Go.Proofs.YtcopkohklgbpgabDoor
namespace Go.Proofs.YtcopkohklgbpgabDoor
open Go.RowKit
set_option linter.unusedVariables false
set_option linter.unusedSimpArgs false
theorem cube_hi : ∀ t, t < 80 → IntKind.u32.wrap (cubeAt t / 4294967296) = cubeAt t / 4294967296 := by decide +kernel
theorem size92 : (Tryd.prog.info? 88).map (·.size) = some (Cl 64 (fun j => .int .u32 (cubeAt j / 4294967296))).length := by rw [Cl_length]; kernel_rfl
theorem sz_set {wr : World} {a : Addr} {u : Value} {k : Nat} (h : wr.heap.size = k) : Hid ((wr.setCell a u).heap.size = k) := by
  show (wr.setCell a u).heap.size = k
  simpa [World.setCell] using h
theorem cells32_Cl (s : Eight) : s.cells32 = Cl 8 (fun j => .int .u32 (fnz s.list j)) := rfl
theorem cells_Cl (s : Eight) : s.cells = Cl 8 (fun j => .int .u64 (fnz s.list j)) := rfl
def Eight.low (s : Eight) : Eight := s.map (· % 4294967296)
theorem low_at (s : Eight) (j : Nat) (hj : j < 8) : fnz s.low.list j = fnz s.list j % 4294967296 := by
  match j, hj with
  | 0, _ | 1, _ | 2, _ | 3, _ | 4, _ | 5, _ | 6, _ | 7, _ => rfl
theorem low_block (C B : Nat → Int) (s : Eight) : Eight.zip (fun h x => (h + x) % 4294967296) s.low (rounds32 C (sched32 B) 64 s.low) = block32 C B s := by
  unfold block32
  generalize hr : rounds32 C (sched32 B) 64 s.low = r
  have hr' : rounds32 C (sched32 B) 64 ⟨s.a % 4294967296, s.b % 4294967296, s.c % 4294967296, s.d % 4294967296, s.e % 4294967296, s.f % 4294967296, s.g % 4294967296, s.k % 4294967296⟩ = r := hr
  rw [hr']
  simp only [Eight.zip, Eight.low, Eight.map, Int.emod_add_emod]
theorem low_low (C B : Nat → Int) (s : Eight) : (block32 C B s).low = block32 C B s := by
  unfold block32 Eight.zip Eight.low Eight.map
  simp only [Int.emod_emod]
theorem slice22 (u : World) (b p n cap q k : Nat) (kk : Int) (hk : kk = (k : Nat)) (h0 : 0 < k) (h1 : q + k ≤ cap) : (Instr.slice 22 (.slice (some ⟨b, p, none⟩) n cap) (some (.int .i64 (q : Nat))) (some (.int .i64 ((q : Int) + kk))) none).run Tryd.prog u = .ok (.slice (some ⟨b, p + q, none⟩) k (cap - q)) u := by
  subst hk
  rw [run_slice_lh u 22 (some ⟨b, p, none⟩) n cap und22p .i64 .i64 q ((q : Int) + (k : Nat)) (by omega) (by omega) (by omega), elem22p, sizeOf5p]
  have e1 : ((q : Int) + (k : Nat)).toNat - q = k := by omega
  simp only [Result.andThen, sliced, Int.toNat_natCast, e1]
  rw [if_neg (by omega), Option.map_some, Nat.mul_one, Addr.add_mid]
set_option maxHeartbeats 3200000 in
set_option maxRecDepth 100000 in
theorem rnarrow_walk (h0 h1 h2 h3 h4 h5 h6 h7 : Int) (B : Nat → Int) (b p n m cap : Nat) (w : World) (hT : RTab w) (hn : n = 64 * m)
    (hcap : n ≤ cap) (hcm : cap ≤ 9223372036854775807) (hbw : b < w.heap.size) (hB : ∀ i, i < n → w.cell? ⟨b, p + i, none⟩ = some (.int .u8 (B i))) :
    Calls Tryd.prog 48 #[.agg #[.int .u64 h0, .int .u64 h1, .int .u64 h2, .int .u64 h3, .int .u64 h4, .int .u64 h5, .int .u64 h6, .int .u64 h7], .slice (some ⟨b, p, none⟩) n cap] w fun e w' =>
      e = .returned (.agg (Eight.cells (takes32 cubeAt B ⟨h0, h1, h2, h3, h4, h5, h6, h7⟩ m).low).toArray) ∧ Below w.heap.size w w' := by
  have hw1 := hT.size
  have HB : Hid (∀ i, i < n → w.cell? ⟨b, p + i, none⟩ = some (.int .u8 (B i))) := hB
  have HT : Hid (RTab w) := hT
  have HN : Hid (n = 64 * m) := hn
  clear hB hT hn
  go_enter Tryd.func48, Tryd.ntmps48
  go_wp2
  go_loopw [6] (fun v wr => ∃ t : Nat, t ≤ 64 ∧ v = .int .i64 t ∧ Hid (wr.heap.size = w.heap.size + 3) ∧ Hid (Mem w wr [(Cl 8 (fun j => .int .u64 (fnz (Eight.list ⟨h0, h1, h2, h3, h4, h5, h6, h7⟩) j))), (Cl 8 (fun _ => .int .u64 0)), Cl 64 (fun j => .int .u32 (if j < t then cubeAt j / 4294967296 else 0))])) (fun v _ => 64 - (intOf v).toNat)
  case atStart =>
    refine ⟨0, by omega, rfl, (by simp : _ = _), ?_⟩
    exact ((((Mem.nil w).alloc (by simp) _ _).alloc (by simp) _ _).alloc (by simp) _ _).congr rfl
  case round =>
    obtain ⟨t, ht, rfl, HS, HM⟩ := hrel
    by_cases h64 : t < 64
    · have f0 : wr.cell? ⟨2, t, none⟩ = some (.int .u64 (cubeAt t)) := (HT.out.below HM.out.below hw1).cubes t (by omega)
      have fw : wr.frozen? ⟨w.heap.size + 2, t, none⟩ = false := HM.out.frozen 2 rfl t (by rw [Cl_length]; exact h64)
      obtain ⟨u, fu⟩ : ∃ u, wr.cell? ⟨w.heap.size + 2, t, none⟩ = some u := ⟨_, HM.out.cell 2 rfl t _ (Cl_at _ _ t h64)⟩
      have hu32 : IntKind.u32.wrap (cubeAt t / 4294967296) = cubeAt t / 4294967296 := cube_hi t (by omega)
      go_wp2
      go_roundw
      case rel =>
        refine ⟨t + 1, by omega, by go_num, sz_set HS.out, (HM.out.put 2 rfl t (by rw [Cl_length]; exact h64) (.int .u32 (cubeAt t / 4294967296))).congr ?_⟩
        rw [Cl_set]
        show [_, _, _] = [_, _, _]
        congr 3
        refine Cl_congr fun j hj => ?_
        by_cases e : j = t
        · subst e
          rw [if_pos rfl, if_pos (by omega)]
        · rw [if_neg e]
          by_cases e2 : j < t
          · rw [if_pos e2, if_pos (by omega)]
          · rw [if_neg e2, if_neg (by omega)]
      case measure => simp [intOf]; omega
    · obtain rfl : t = 64 := by omega
      clear h64 ht
      have HM2 : Hid (Mem w (wr.alloc (.cells #[.int .u32 0, .int .u32 0, .int .u32 0, .int .u32 0, .int .u32 0, .int .u32 0, .int .u32 0, .int .u32 0] 98)) [(Cl 8 (fun j => .int .u64 (fnz (Eight.list ⟨h0, h1, h2, h3, h4, h5, h6, h7⟩) j))), (Cl 8 (fun _ => .int .u64 0)), (Cl 64 (fun j => .int .u32 (cubeAt j / 4294967296))), Cl 8 (fun j => .int .u32 0)]) := (HM.out.alloc (by rw [HS.out]; rfl) _ _).congr (by
        show [_, _, _, _] = [_, _, _, _]
        congr 3)
      have hsz := HS.out
      clear HM HS
      go_wp2
      generalize wr.alloc (.cells #[.int .u32 0, .int .u32 0, .int .u32 0, .int .u32 0, .int .u32 0, .int .u32 0, .int .u32 0, .int .u32 0] 98) = wa at HM2 ⊢
      clear hsz
      rw [show ((64 : Nat) : Int) = 64 from rfl]
      go_loopw [8] (fun v wr => ∃ t : Nat, t ≤ 8 ∧ v = .int .i64 t ∧ Hid (Mem w wr [(Cl 8 (fun j => .int .u64 (fnz (Eight.list ⟨h0, h1, h2, h3, h4, h5, h6, h7⟩) j))), (Cl 8 (fun _ => .int .u64 0)), (Cl 64 (fun j => .int .u32 (cubeAt j / 4294967296))), Cl 8 (fun j => .int .u32 (if j < t then fnz (Eight.list ⟨h0, h1, h2, h3, h4, h5, h6, h7⟩) j % 4294967296 else 0))])) (fun v _ => 8 - (intOf v).toNat)
      case atStart => exact ⟨0, by omega, rfl, HM2⟩
      case round =>
        obtain ⟨t, ht, rfl, HM⟩ := hrel
        clear HM2
        by_cases h8 : t < 8
        · have f0 : wr.cell? ⟨w.heap.size, t, none⟩ = some (.int .u64 (fnz (Eight.list ⟨h0, h1, h2, h3, h4, h5, h6, h7⟩) t)) := HM.out.cell 0 rfl t _ (Cl_at _ _ t h8)
          have fw : wr.frozen? ⟨w.heap.size + 3, t, none⟩ = false := HM.out.frozen 3 rfl t (by rw [Cl_length]; exact h8)
          obtain ⟨u, fu⟩ : ∃ u, wr.cell? ⟨w.heap.size + 3, t, none⟩ = some u := ⟨_, HM.out.cell 3 rfl t _ (Cl_at _ _ t h8)⟩
          obtain ⟨x, hx⟩ : ∃ x, Hid (x = fnz (Eight.list ⟨h0, h1, h2, h3, h4, h5, h6, h7⟩) t) := ⟨_, rfl⟩
          rw [← hx.out] at f0
          go_wp2
          go_roundw
          case rel =>
            refine ⟨t + 1, by omega, by go_num, (HM.out.put 3 rfl t (by rw [Cl_length]; exact h8) (.int .u32 (x % 4294967296))).congr ?_⟩
            rw [Cl_set]
            show [_, _, _, _] = [_, _, _, _]
            congr 4
            refine Cl_congr fun j hj => ?_
            by_cases e : j = t
            · subst e
              rw [if_pos rfl, if_pos (by omega), hx.out]
            · rw [if_neg e]
              by_cases e2 : j < t
              · rw [if_pos e2, if_pos (by omega)]
              · rw [if_neg e2, if_neg (by omega)]
          case measure => simp [intOf]; omega
        · obtain rfl : t = 8 := by omega
          clear h8 ht
          have HM3 : Hid (Mem w wr [(Cl 8 (fun j => .int .u64 (fnz (Eight.list ⟨h0, h1, h2, h3, h4, h5, h6, h7⟩) j))), (Cl 8 (fun _ => .int .u64 0)), (Cl 64 (fun j => .int .u32 (cubeAt j / 4294967296))), (takes32 cubeAt B ⟨h0, h1, h2, h3, h4, h5, h6, h7⟩ 0).low.cells32]) := HM.out.congr (by
            show [_, _, _, _] = [_, _, _, _]
            congr 4)
          clear HM
          go_wp2
          rw [show ((8 : Nat) : Int) = 8 from rfl]
          go_loopw [9] (fun v wr => ∃ i : Nat, i ≤ m ∧ v = .int .i64 ((64 * i : Nat) : Int) ∧ Hid (Mem w wr [(Cl 8 (fun j => .int .u64 (fnz (Eight.list ⟨h0, h1, h2, h3, h4, h5, h6, h7⟩) j))), (Cl 8 (fun _ => .int .u64 0)), (Cl 64 (fun j => .int .u32 (cubeAt j / 4294967296))), (takes32 cubeAt B ⟨h0, h1, h2, h3, h4, h5, h6, h7⟩ i).low.cells32])) (fun v _ => n - (intOf v).toNat)
          case atStart => exact ⟨0, by omega, rfl, HM3⟩
          case round =>
            obtain ⟨i, hi, rfl, HM⟩ := hrel
            clear HM3
            obtain ⟨q, hq⟩ : ∃ q, q = 64 * i := ⟨_, rfl⟩
            obtain ⟨E, HE⟩ : ∃ E : Eight, Hid (E = (takes32 cubeAt B ⟨h0, h1, h2, h3, h4, h5, h6, h7⟩ i).low) := ⟨_, rfl⟩
            rw [← HE.out] at HM
            rw [← hq]
            have HQ : Hid (q = 64 * i) := hq
            clear hq
            by_cases hlt : i < m
            · have hqn : q < n := by have := HQ.out; have := HN.out; omega
              have hq64 : IntKind.i64.wrap ((q : Int) + 64) = (q : Int) + 64 := by
                have := HQ.out; have := HN.out
                rw [IntKind.wrap_i64]
                omega
              have HSl : Hid (∀ u, (Instr.slice 22 (.slice (some ⟨b, p, none⟩) n cap) (some (.int .i64 (q : Nat))) (some (.int .i64 ((q : Int) + 64))) none).run Tryd.prog u = .ok (.slice (some ⟨b, p + q, none⟩) 64 (cap - q)) u) := fun u => slice22 u b p n cap q 64 64 rfl (by omega) (by have := HQ.out; have := HN.out; omega)
              obtain ⟨E2, HE2⟩ : ∃ E2 : Eight, Hid (E2 = takes32 cubeAt B ⟨h0, h1, h2, h3, h4, h5, h6, h7⟩ (i + 1)) := ⟨_, rfl⟩
              have HCall : Hid (∀ u, Below wr.heap.size wr u → Calls Tryd.prog 56 #[.agg E.cells32.toArray, .slice (some ⟨b, p + q, none⟩) 64 (cap - q), .agg (Cl 64 (fun j => .int .u32 (cubeAt j / 4294967296))).toArray] u fun e w' => e = .returned (.agg E2.cells32.toArray) ∧ Below wr.heap.size wr w') := fun u hu => by
                have hbu : b < wr.heap.size := Nat.lt_of_lt_of_le hbw HM.out.below.size
                refine (taken32_walk E.a E.b E.c E.d E.e E.f E.g E.k (Cl 64 (fun j => .int .u32 (cubeAt j / 4294967296))).toArray cubeAt (fun j => B (64 * i + j)) b (p + q) (cap - q) u (fun t ht => by rw [List.getElem?_toArray]; exact Cl_at _ _ t ht) (by have := HQ.out; have := HN.out; omega) (by omega) (fun j hj => ?_)).mono fun e w' h => ⟨?_, hu.trans (h.2.mono hu.size)⟩
                · rw [hu.cell hbu, HM.out.below.cell hbw, Nat.add_assoc, HB.out (q + j) (by have := HQ.out; have := HN.out; omega), HQ.out]
                · rw [h.1, HE2.out]
                  have e1 : takes32 cubeAt B ⟨h0, h1, h2, h3, h4, h5, h6, h7⟩ (i + 1) = block32 cubeAt (fun j => B (64 * i + j)) (takes32 cubeAt B ⟨h0, h1, h2, h3, h4, h5, h6, h7⟩ i) := rfl
                  rw [e1, ← low_block, ← HE.out]
              have hS0 : Below wr.heap.size wr wr.drew := (Below.refl _ _).drew
              clear HE
              go_wp2
              refine wp_region_noPanic ?_
              refine wp_region_till (fun u => Below wr.heap.size wr u) 7 (by kernel_rfl) (by decide) (by decide +kernel) (by decide +kernel) (by decide +kernel) (fun inv => ?_)
              refine till_at 0 38 (.agg (E.cells32).toArray) inv rfl rfl (by decide) (by decide +kernel) (by decide +kernel) (fun _ _ _ h => h) (hS0) (yieldsIf_load_mid (by kernel_rfl) 98 (.tmp 7) rfl (w.heap.size + 3) 0 rfl E.cells32 _ (fun u hu => ((HM.out.later hu).holds 3 _ rfl).1) Tryd.underlying98 rfl size94) (fun inv' => ?_)
              clear inv; have inv := inv'; clear inv'
              simp only [List.setIfInBounds_toArray, List.set_cons_zero, List.set_cons_succ]
              refine till_at 1 39 (.slice (some ⟨b, p, none⟩) n cap) inv rfl rfl (by decide) (by decide +kernel) (by decide +kernel) (fun _ _ _ h => h) (hS0) (Or.inl ⟨by rfl, fun w' hS' => by go_simp⟩) (fun inv' => ?_)
              clear inv; have inv := inv'; clear inv'
              simp only [List.setIfInBounds_toArray, List.set_cons_zero, List.set_cons_succ]
              refine till_at 2 40 (.int .i64 (q : Nat)) inv rfl rfl (by decide) (by decide +kernel) (by decide +kernel) (fun _ _ _ h => h) (hS0) (Or.inl ⟨by rfl, fun w' hS' => by go_simp⟩) (fun inv' => ?_)
              clear inv; have inv := inv'; clear inv'
              simp only [List.setIfInBounds_toArray, List.set_cons_zero, List.set_cons_succ]
              refine till_at 3 41 (.int .i64 (q : Nat)) inv rfl rfl (by decide) (by decide +kernel) (by decide +kernel) (fun _ _ _ h => h) (hS0) (Or.inl ⟨by rfl, fun w' hS' => by go_simp⟩) (fun inv' => ?_)
              clear inv; have inv := inv'; clear inv'
              simp only [List.setIfInBounds_toArray, List.set_cons_zero, List.set_cons_succ]
              refine till_at 4 42 (.int .i64 ((q : Int) + 64)) inv rfl rfl (by decide) (by decide +kernel) (by decide +kernel) (fun _ _ _ h => h) (hS0) (Or.inl ⟨by rfl, fun w' hS' => by go_simp⟩) (fun inv' => ?_)
              clear inv; have inv := inv'; clear inv'
              simp only [List.setIfInBounds_toArray, List.set_cons_zero, List.set_cons_succ]
              refine till_at 5 43 (.slice (some ⟨b, p + q, none⟩) 64 (cap - q)) inv rfl rfl (by decide) (by decide +kernel) (by decide +kernel) (fun _ _ _ h => h) (hS0) (Or.inl ⟨by rfl, fun w' hS' => by have q := HSl.out w'; go_simp⟩) (fun inv' => ?_)
              clear inv; have inv := inv'; clear inv'
              simp only [List.setIfInBounds_toArray, List.set_cons_zero, List.set_cons_succ]
              refine till_at 6 44 (.agg ((Cl 64 (fun j => .int .u32 (cubeAt j / 4294967296)))).toArray) inv rfl rfl (by decide) (by decide +kernel) (by decide +kernel) (fun _ _ _ h => h) (hS0) (yieldsIf_load_mid (by kernel_rfl) 88 (.tmp 5) rfl (w.heap.size + 2) 0 rfl (Cl 64 (fun j => .int .u32 (cubeAt j / 4294967296))) _ (fun u hu => ((HM.out.later hu).holds 2 _ rfl).1) Tryd.underlying88 rfl size92) (fun inv' => ?_)
              clear inv; have inv := inv'; clear inv'
              simp only [List.setIfInBounds_toArray, List.set_cons_zero, List.set_cons_succ]
              refine till_tail (i := 7) (by decide +kernel) (by decide) rfl (fun K hK => ?_)
              go_simp
              refine (HCall.out _ hS0).mono ?_
              rintro e1 w1 ⟨rfl, hw1⟩
              go_wp2_with fail
              refine hK.out _ _ ?_
              clear hK K
              try simp only [List.setIfInBounds_toArray, List.set_cons_zero, List.set_cons_succ]
              refine till_tail (i := 8) (by decide +kernel) (by decide) rfl (fun K hK => ?_)
              rw [if_pos (by rfl)]
              refine wp_store_mid 98 (.tmp 7) (.tmp 45) rfl (w.heap.size + 3) 0 (Eight.cells32 E2).toArray rfl rfl (((HM.out.later hw1).holds 3 _ rfl).2) (size94) (cells32_one _) ?_
              refine hK.out _ _ ?_
              clear hK K
              try simp only [List.setIfInBounds_toArray, List.set_cons_zero, List.set_cons_succ]
              refine till_done (by decide +kernel) ?_ _
              refine NoPanic.normal ?_
              go_wp2
              go_roundw
              case rel =>
                refine ⟨i + 1, by omega, val_eq (by have := HQ.out; omega), ((HM.out.later hw1).store 3 rfl E2.cells32 rfl).congr ?_⟩
                show [_, _, _, _] = [_, _, _, _]
                have e1 : takes32 cubeAt B ⟨h0, h1, h2, h3, h4, h5, h6, h7⟩ (i + 1) = block32 cubeAt (fun j => B (64 * i + j)) (takes32 cubeAt B ⟨h0, h1, h2, h3, h4, h5, h6, h7⟩ i) := rfl
                rw [HE2.out, e1, low_low]
              case measure => simp [intOf]; omega
            · have hqn : ¬ q < n := by have := HQ.out; have := HN.out; omega
              have him : i = m := by omega
              go_wp2
              go_loopw [10] (fun v wr => ∃ t : Nat, t ≤ 8 ∧ v = .int .i64 t ∧ Hid (Mem w wr [Cl 8 (fun j => .int .u64 (if j < t then fnz E.list j else fnz (Eight.list ⟨h0, h1, h2, h3, h4, h5, h6, h7⟩) j)), (Cl 8 (fun _ => .int .u64 0)), (Cl 64 (fun j => .int .u32 (cubeAt j / 4294967296))), Cl 8 (fun j => .int .u32 (fnz E.list j))])) (fun v _ => 8 - (intOf v).toNat)
              case atStart => exact ⟨0, by omega, rfl, HM⟩
              case round =>
                obtain ⟨t, ht, rfl, HM4⟩ := hrel
                clear HM
                by_cases h8 : t < 8
                · have f0 : wr.cell? ⟨w.heap.size + 3, t, none⟩ = some (.int .u32 (fnz E.list t)) := HM4.out.cell 3 rfl t _ (Cl_at _ _ t h8)
                  have fw : wr.frozen? ⟨w.heap.size, t, none⟩ = false := HM4.out.frozen 0 rfl t (by rw [Cl_length]; exact h8)
                  obtain ⟨u, fu⟩ : ∃ u, wr.cell? ⟨w.heap.size, t, none⟩ = some u := ⟨_, HM4.out.cell 0 rfl t _ (Cl_at _ _ t h8)⟩
                  obtain ⟨x, hx⟩ : ∃ x, Hid (x = fnz E.list t) := ⟨_, rfl⟩
                  rw [← hx.out] at f0
                  have hxw : IntKind.u64.wrap x = x := by
                    rw [IntKind.wrap_u64, hx.out, HE.out, low_at _ t h8]
                    omega
                  go_wp2
                  go_roundw
                  case rel =>
                    refine ⟨t + 1, by omega, by go_num, (HM4.out.put 0 rfl t (by rw [Cl_length]; exact h8) (.int .u64 x)).congr ?_⟩
                    rw [Cl_set]
                    show [_, _, _, _] = [_, _, _, _]
                    congr 1
                    refine Cl_congr fun j hj => ?_
                    by_cases e : j = t
                    · subst e
                      rw [if_pos rfl, if_pos (by omega), hx.out]
                    · rw [if_neg e]
                      by_cases e2 : j < t
                      · rw [if_pos e2, if_pos (by omega)]
                      · rw [if_neg e2, if_neg (by omega)]
                  case measure => simp [intOf]; omega
                · obtain rfl : t = 8 := by omega
                  have HM5 : Hid (Mem w wr [E.cells, (Cl 8 (fun _ => .int .u64 0)), (Cl 64 (fun j => .int .u32 (cubeAt j / 4294967296))), Cl 8 (fun j => .int .u32 (fnz E.list j))]) := HM4.out.congr (by
                    show [_, _, _, _] = [_, _, _, _]
                    congr 1)
                  clear HM4 h8 ht
                  have HY : Hid (wr.there (w.heap.size + 1) 0 E.cells.toArray.size) := (HM5.out.holds 1 _ rfl).2
                  have HR : Hid (wr.rangeAt w.heap.size 0 E.cells) := (HM5.out.holds 0 _ rfl).1
                  go_wp2_with (first
                    | (refine wpList_load_mid (by rfl) 64 (.tmp 2) (by rfl) w.heap.size 0 (by rfl) E.cells _ HR.out Tryd.underlying64 rfl size70 ?_)
                    | (refine wpList_store_mid (by rfl) 64 (.tmp 4) (.tmp 56) (by rfl) (w.heap.size + 1) 0 E.cells.toArray (by rfl) (by rfl) HY.out size70 (cellsE_one E) ?_)
                    | fail)
                  have hl := run_loadVar_mid (P := Tryd.prog) (wr.setCells (w.heap.size + 1) 0 E.cells) (w.heap.size + 1) 0 64 E.cells _ (World.rangeAt_setCells_same wr (w.heap.size + 1) 0 E.cells HY.out) Tryd.underlying64 rfl size70
                  refine bodyPost_ret (v := .agg E.cells.toArray) ?_ rfl ⟨by rw [HE.out, him], below_setCells _ (by omega) _ _ _ HM5.out.below⟩
                  rw [results_cell1 Tryd.results48]
                  simp [Act.put, asAddr, hl]
end Go.Proofs.YtcopkohklgbpgabDoor
