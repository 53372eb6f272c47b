import Derived.Test.YtioggmjocelolacDoorPart02
import Derived.Test.YtioggmjocelolacDoorPart01
import Derived.Deep.Cut
import Derived.Deep.QuietTactic
import Derived.BigQuiet
import Derived.Test.YtioggmjocelolacDoorPart00
import Derived.WalkKit
import Derived.Deep.RegionHeld3
import Derived.StillTail
namespace Go.Proofs.YtioggmjocelolacDoor
open Go.RowKit
set_option linter.unusedVariables false
set_option linter.unusedSimpArgs false

set_option maxHeartbeats 3200000 in
set_option maxRecDepth 100000 in
theorem finish128_C (g o : Nat) (h : Int) (s : Eight) (half : Nat → Int) (fed : Nat) (w : World) (hblk : blockOf h = 128) (HK : Hid (TK w g o h true s half fed)) (hfed : fed ≤ 1152921504606846976) (hT : Hid (Tables w)) (hg : 4 ≤ g) (h0 : Hid (fed % 128 = 127)) :
    Calls Tryd.prog 75 #[.pointer (some ⟨g, o, none⟩)] w fun e w' => e = .returned (.agg (spellCells 8 (TT true (padF 128 half fed) s (padN 128 fed))).toArray) ∧ Touch w w' g o 139 ∧ ∃ half', TK w' g o h true (TT true (padF 128 half fed) s (padN 128 fed)) half' fed := by
  have c0 := HK.out.hash
  have c138 := HK.out.fed
  have hgw : g < w.heap.size := lt_of_cell c0
  have r0 : ((fed : Int) % 128) = 127 := by have := h0.out; omega
  go_enter Tryd.func75, Tryd.ntmps75
  go_upto_region 3 with (first | (go_at_call 55; refine (block_any _ _).mono ?_; rintro e1 w1 ⟨rfl, hw1⟩; obtain rfl := hw1.symm; rw [hblk]))
  have HB0 : Hid (Below w.heap.size w (w.alloc (.cells #[.int .u8 0, .int .u8 0, .int .u8 0, .int .u8 0, .int .u8 0, .int .u8 0, .int .u8 0, .int .u8 0, .int .u8 0, .int .u8 0, .int .u8 0, .int .u8 0, .int .u8 0, .int .u8 0, .int .u8 0, .int .u8 0, .int .u8 0, .int .u8 0, .int .u8 0, .int .u8 0, .int .u8 0, .int .u8 0, .int .u8 0, .int .u8 0, .int .u8 0, .int .u8 0, .int .u8 0, .int .u8 0, .int .u8 0, .int .u8 0, .int .u8 0, .int .u8 0, .int .u8 0, .int .u8 0, .int .u8 0, .int .u8 0, .int .u8 0, .int .u8 0, .int .u8 0, .int .u8 0, .int .u8 0, .int .u8 0, .int .u8 0, .int .u8 0, .int .u8 0, .int .u8 0, .int .u8 0, .int .u8 0, .int .u8 0, .int .u8 0, .int .u8 0, .int .u8 0, .int .u8 0, .int .u8 0, .int .u8 0, .int .u8 0, .int .u8 0, .int .u8 0, .int .u8 0, .int .u8 0, .int .u8 0, .int .u8 0, .int .u8 0, .int .u8 0] 72)) ∧ (w.alloc (.cells #[.int .u8 0, .int .u8 0, .int .u8 0, .int .u8 0, .int .u8 0, .int .u8 0, .int .u8 0, .int .u8 0, .int .u8 0, .int .u8 0, .int .u8 0, .int .u8 0, .int .u8 0, .int .u8 0, .int .u8 0, .int .u8 0, .int .u8 0, .int .u8 0, .int .u8 0, .int .u8 0, .int .u8 0, .int .u8 0, .int .u8 0, .int .u8 0, .int .u8 0, .int .u8 0, .int .u8 0, .int .u8 0, .int .u8 0, .int .u8 0, .int .u8 0, .int .u8 0, .int .u8 0, .int .u8 0, .int .u8 0, .int .u8 0, .int .u8 0, .int .u8 0, .int .u8 0, .int .u8 0, .int .u8 0, .int .u8 0, .int .u8 0, .int .u8 0, .int .u8 0, .int .u8 0, .int .u8 0, .int .u8 0, .int .u8 0, .int .u8 0, .int .u8 0, .int .u8 0, .int .u8 0, .int .u8 0, .int .u8 0, .int .u8 0, .int .u8 0, .int .u8 0, .int .u8 0, .int .u8 0, .int .u8 0, .int .u8 0, .int .u8 0, .int .u8 0] 72)).there w.heap.size 0 64 ∧ w.heap.size < (w.alloc (.cells #[.int .u8 0, .int .u8 0, .int .u8 0, .int .u8 0, .int .u8 0, .int .u8 0, .int .u8 0, .int .u8 0, .int .u8 0, .int .u8 0, .int .u8 0, .int .u8 0, .int .u8 0, .int .u8 0, .int .u8 0, .int .u8 0, .int .u8 0, .int .u8 0, .int .u8 0, .int .u8 0, .int .u8 0, .int .u8 0, .int .u8 0, .int .u8 0, .int .u8 0, .int .u8 0, .int .u8 0, .int .u8 0, .int .u8 0, .int .u8 0, .int .u8 0, .int .u8 0, .int .u8 0, .int .u8 0, .int .u8 0, .int .u8 0, .int .u8 0, .int .u8 0, .int .u8 0, .int .u8 0, .int .u8 0, .int .u8 0, .int .u8 0, .int .u8 0, .int .u8 0, .int .u8 0, .int .u8 0, .int .u8 0, .int .u8 0, .int .u8 0, .int .u8 0, .int .u8 0, .int .u8 0, .int .u8 0, .int .u8 0, .int .u8 0, .int .u8 0, .int .u8 0, .int .u8 0, .int .u8 0, .int .u8 0, .int .u8 0, .int .u8 0, .int .u8 0] 72)).heap.size) := ⟨(Below.refl _ _).alloc (Nat.le_refl _) _, there_new w _ 72 64 (by decide), by simp⟩
  generalize w.alloc (.cells #[.int .u8 0, .int .u8 0, .int .u8 0, .int .u8 0, .int .u8 0, .int .u8 0, .int .u8 0, .int .u8 0, .int .u8 0, .int .u8 0, .int .u8 0, .int .u8 0, .int .u8 0, .int .u8 0, .int .u8 0, .int .u8 0, .int .u8 0, .int .u8 0, .int .u8 0, .int .u8 0, .int .u8 0, .int .u8 0, .int .u8 0, .int .u8 0, .int .u8 0, .int .u8 0, .int .u8 0, .int .u8 0, .int .u8 0, .int .u8 0, .int .u8 0, .int .u8 0, .int .u8 0, .int .u8 0, .int .u8 0, .int .u8 0, .int .u8 0, .int .u8 0, .int .u8 0, .int .u8 0, .int .u8 0, .int .u8 0, .int .u8 0, .int .u8 0, .int .u8 0, .int .u8 0, .int .u8 0, .int .u8 0, .int .u8 0, .int .u8 0, .int .u8 0, .int .u8 0, .int .u8 0, .int .u8 0, .int .u8 0, .int .u8 0, .int .u8 0, .int .u8 0, .int .u8 0, .int .u8 0, .int .u8 0, .int .u8 0, .int .u8 0, .int .u8 0] 72) = w0 at HB0 ⊢
  have HK0 : Hid (TK w0 g o h true s half fed) := HK.out.below HB0.out.1
  have fu : w0.cell? ⟨g, o + 10 + 127, none⟩ = some (.int .u8 (half 127)) := HK0.out.half 127 (by omega)
  have ff : w0.frozen? ⟨g, o + 10 + 127, none⟩ = false := by
    have := (HK0.out.there (10 + 127) (by omega)).2
    rw [← Nat.add_assoc] at this
    exact this
  have hx1 := HK0.out.setByte 127 128 (by omega)
  have hcl : ∀ ty, (Builtin.clear_ #[22] ty #[.slice (some ⟨g, o + 10, none⟩) 0 0]).run Tryd.prog (w0.setCell ⟨g, o + 10 + 127, none⟩ (.int .u8 128)) = .ok (.tuple #[]) (w0.setCell ⟨g, o + 10 + 127, none⟩ (.int .u8 128)) := fun ty => clear_eq _ ty g _ 0 0 (fun j hj => by omega)
  have HT1 : Hid (Touch w (w0.setCell ⟨g, o + 10 + 127, none⟩ (.int .u8 128)) g o 139) := ((Touch.refl w g o 139).below HB0.out.1 hgw).trans hx1.2
  have HK1 : Hid (TK (w0.setCell ⟨g, o + 10 + 127, none⟩ (.int .u8 128)) g o h true s (fun i => if i = 127 then 128 else half i) fed) := hx1.1
  have HR1 : Hid ((w0.setCell ⟨g, o + 10 + 127, none⟩ (.int .u8 128)).there w.heap.size 0 64 ∧ w.heap.size < (w0.setCell ⟨g, o + 10 + 127, none⟩ (.int .u8 128)).heap.size) := ⟨World.there_setCells HB0.out.2.1 g _ [_], by simpa [World.setCell] using HB0.out.2.2⟩
  clear hx1
  go_upto_region 6 with fail
  generalize w0.setCell ⟨g, o + 10 + 127, none⟩ (.int .u8 128) = w2 at HT1 HK1 HR1 hcl ⊢
  have c1' : w2.cell? ⟨g, o + 1, none⟩ = some (.func (.func 65) #[] #[]) := HK1.out.fn
  obtain ⟨H0, HH0⟩ : ∃ H0 : Nat → Int, Hid ((fun i => if i = 127 then (128 : Int) else half i) = H0) := ⟨_, (show _ = _ from rfl)⟩
  rw [HH0.out] at HK1
  obtain ⟨s1, HS1⟩ : ∃ s1 : Eight, Hid (s1 = TT true H0 s 1) := ⟨_, (show _ = _ from rfl)⟩
  have HA : Hid (∀ v, Sm w2 v → Calls Tryd.prog 65 #[.pointer (some ⟨g, o + 2, none⟩), .slice (some ⟨g, o + 10, none⟩) 128 128] v fun e w' => e = .returned (.tuple #[]) ∧ Touch w2 w' g o 139 ∧ TK w' g o h true s1 H0 fed) := by
    intro v hsm
    have hs1 := HT1.out.size
    have hk' := HK1.out.sm hsm
    refine (take_any true g (o + 2) _ ((List.range 128).map H0) s v (by rw [hsm.heap]; omega) hk'.st (fun j hj => by have := hk'.there (2 + j) (by omega); rw [← Nat.add_assoc] at this; exact this) (view_half hk' 128 (by omega)) (fun _ _ _ _ e => by injection e with e1 e2 e3; injection e1 with e1; injection e1 with e4 e5; omega) (hsm.tables (hT.out.touch HT1.out hg)) hg).mono ?_
    rintro e w' ⟨rfl, ht', hr'⟩
    rw [show ((List.range 128).map H0).length / bsz true = 1 by simp [bsz], TT_congr true (B' := H0) s 1 (fun j hj => by simp [bsz] at hj; simp [List.getD, hj]), ← HS1.out] at hr'
    exact ⟨rfl, (hsm.touch g o 139).trans (ht'.mono o 139 (by omega) (by omega)), hk'.words ht' hr'⟩
  clear hcl fu ff HK0 HB0 c0 c138
  go_wp2
  go_region_held3 (fun v => v.cell? ⟨g, o + 1, none⟩ = some (.func (.func 65) #[] #[])) (first | go_keep | exact hk3.fn) ((go_at_call 65; refine (HA.out w2.drew (Sm.refl w2).drew).mono ?_; rintro e3 w3 ⟨rfl, ht3, hk3⟩))
  have hx3 := hk3.clear 0 128 (by omega)
  have hcl3 : ∀ ty, (Builtin.clear_ #[22] ty #[.slice (some ⟨g, o + 10, none⟩) 128 128]).run Tryd.prog w3 = .ok (.tuple #[]) (w3.setCells g (o + 10) (List.replicate 128 (.int .u8 0))) := fun ty => clear_eq _ ty g _ _ _ (fun j hj => by
    have := hk3.there (10 + j) (by omega)
    rw [← Nat.add_assoc] at this
    exact this)
  rw [Nat.add_zero] at hx3
  have HR2 : Hid ((w3.setCells g (o + 10) (List.replicate 128 (.int .u8 0))).there w.heap.size 0 64 ∧ w.heap.size < (w3.setCells g (o + 10) (List.replicate 128 (.int .u8 0))).heap.size) := ⟨World.there_setCells (ht3.thereFar HR1.out.1 HR1.out.2 (by omega)) g _ _, by rw [size_setCells]; exact Nat.lt_of_lt_of_le HR1.out.2 ht3.size⟩
  have HT2 : Hid (Touch w (w3.setCells g (o + 10) (List.replicate 128 (.int .u8 0))) g o 139) := (HT1.out.trans ht3).trans hx3.2
  have HK2 : Hid (TK (w3.setCells g (o + 10) (List.replicate 128 (.int .u8 0))) g o h true s1 (fun i => if 0 ≤ i ∧ i < 0 + 128 then 0 else H0 i) fed) := hx3.1
  clear hx3 ht3 hk3 HT1 HK1 HR1 HA c1'
  generalize w3.setCells g (o + 10) (List.replicate 128 (.int .u8 0)) = w4 at HT2 HK2 HR2 hcl3
  go_upto_region 8 with fail
  have HT1 := HT2; have HR1 := HR2
  have c138' : w4.cell? ⟨g, o + 138, none⟩ = some (.int .u64 fed) := HK2.out.fed
  obtain ⟨H1, HH1⟩ : ∃ H1 : Nat → Int, Hid ((fun i => if 0 ≤ i ∧ i < 0 + 128 then 0 else H0 i) = H1) := ⟨_, (show _ = _ from rfl)⟩
  rw [HH1.out] at HK2
  have HK1 := HK2
  obtain ⟨P, HPP⟩ : ∃ P : Nat → Int, Hid (P = fun i => padF 128 half fed (128 + i)) := ⟨_, (show _ = _ from rfl)⟩
  have hpn : padN 128 fed = 2 := by rw [padN, if_neg (by have := h0.out; omega)]
  have HP1 : Hid (∀ k, k < 128 - 8 → H1 k = P k) := by
    intro k hk
    have h00 := h0.out
    rw [← HH1.out, HPP.out]
    simp only [padF, hpn, h00]
    rw [if_pos ⟨by omega, by omega⟩, if_neg (by omega), if_neg (by omega), if_pos (by omega)]
  have HPL : Hid (∀ k, 128 - 8 ≤ k → k < 128 → P k = ((fed : Int) * 8) / 2 ^ (8 * (128 - 1 - k)) % 256) := by
    intro k k1 hk
    have h00 := h0.out
    rw [HPP.out]
    simp only [padF, hpn, h00]
    rw [if_neg (by omega), if_neg (by omega), if_neg (by omega), show 2 * 128 - 1 - (128 + k) = 128 - 1 - k by omega]
  have HE : Hid (TT true P s1 1 = TT true (padF 128 half fed) s (padN 128 fed)) := by
    show _ = _
    rw [HPP.out, HS1.out, hpn, show (2 : Nat) = 1 + 1 from rfl, TT_add true _ s 1 1, TT_congr true (B := H0) (B' := padF 128 half fed) s 1]
    · simp [bsz]
    · intro k hk
      have hk' : k < 128 := by simpa [bsz] using hk
      have h00 := h0.out
      rw [← HH0.out]
      simp only [padF, hpn, h00]
      by_cases k3 : k = 127
      · rw [if_pos k3, if_neg (by omega), if_pos k3]
      · rw [if_neg k3, if_pos (by omega)]
  clear hcl3 hpn HH1 HPP HS1 HT2 HK2 HR2 HH0
  go_wp2
  clear c138'
  go_loopw [62] (fun v wr => ∃ i : Nat, i ≤ 8 ∧ v = .int .i64 i ∧ Hid (Touch w wr g o 139) ∧ Hid (TK wr g o h true s1 (fun k => if 128 - i ≤ k ∧ k < 128 then ((fed : Int) * 8) / 2 ^ (8 * (128 - 1 - k)) % 256 else H1 k) fed) ∧ Hid (wr.there w.heap.size 0 64 ∧ w.heap.size < wr.heap.size)) (fun v _ => 8 - (intOf v).toNat)
  case atStart => exact ⟨0, by omega, rfl, HT1, HK1.out.fun_eq (fun i hi => by rw [if_neg (by omega)]), HR1⟩
  case round =>
    obtain ⟨i, hi, rfl, HT2, HK2, HR2⟩ := hrel
    clear HT1 HK1 HR1
    by_cases h8 : i < 8
    · obtain ⟨j, hj⟩ : ∃ j, j = 128 - 1 - i := ⟨_, rfl⟩
      have e2 : (127 : Int) - (i : Int) = (j : Int) := by omega
      have e3 : (8 * (i : Int)).toNat = 8 * i := by omega
      have e4 : min (8 * i) 64 = 8 * i := by omega
      have e5 : (0 : Int) ≤ 8 * (i : Int) := by omega
      have e6 : (j : Int) < 128 := by omega
      have HJ : Hid (j = 128 - 1 - i) := hj
      have fc := HK2.out.half j (by omega)
      have ff : wr.frozen? ⟨g, o + 10 + j, none⟩ = false := by
        have := (HK2.out.there (10 + j) (by omega)).2
        rw [← Nat.add_assoc] at this
        exact this
      clear hj
      go_wp2
      go_region
      go_wp2
      go_roundw
      case rel =>
        have hx := HK2.out.setByte j ((fed : Int) * 8 / 2 ^ (8 * i) % 256) (by omega)
        refine ⟨i + 1, by omega, by go_num, (HT2.out.trans hx.2).drew, (hx.1.sm (Sm.refl _).drew).fun_eq (fun k hk => ?_), ⟨World.there_setCells HR2.out.1 g _ [_], by simpa [World.setCell] using HR2.out.2⟩⟩
        have hj := HJ.out
        by_cases hkj : k = j
        · subst hkj
          rw [if_pos rfl, if_pos (by omega), show 128 - 1 - k = i by omega]
        · rw [if_neg hkj]
          by_cases hc : 128 - i ≤ k ∧ k < 128
          · rw [if_pos hc, if_pos (by omega)]
          · rw [if_neg hc, if_neg (by omega)]
      case measure => simp [intOf]; omega
    · obtain rfl : i = 8 := by omega
      have c1' : wr.cell? ⟨g, o + 1, none⟩ = some (.func (.func 65) #[] #[]) := HK2.out.fn
      obtain ⟨H2, HH2⟩ : ∃ H2 : Nat → Int, Hid ((fun k => if 128 - 8 ≤ k ∧ k < 128 then ((fed : Int) * 8) / 2 ^ (8 * (128 - 1 - k)) % 256 else H1 k) = H2) := ⟨_, (show _ = _ from rfl)⟩
      rw [HH2.out] at HK2
      have HP : Hid (∀ k, k < 128 → H2 k = P k) := by
        intro k hk
        rw [← HH2.out]
        dsimp only
        by_cases k1 : 128 - 8 ≤ k
        · rw [if_pos ⟨k1, hk⟩, HPL.out k k1 hk]
        · rw [if_neg (by omega), HP1.out k (by omega)]
      obtain ⟨s', HS'⟩ : ∃ s' : Eight, Hid (s' = TT true (padF 128 half fed) s (padN 128 fed)) := ⟨_, (show _ = _ from rfl)⟩
      have HA : Hid (∀ v, Sm wr v → Calls Tryd.prog 65 #[.pointer (some ⟨g, o + 2, none⟩), .slice (some ⟨g, o + 10, none⟩) 128 128] v fun e w' => e = .returned (.tuple #[]) ∧ Touch wr w' g o 139 ∧ TK w' g o h true s' H2 fed) := by
        intro v hsm
        have hs1 := HT2.out.size
        have hk' := HK2.out.sm hsm
        refine (take_any true g (o + 2) _ ((List.range 128).map H2) s1 v (by rw [hsm.heap]; omega) hk'.st (fun j hj => by have := hk'.there (2 + j) (by omega); rw [← Nat.add_assoc] at this; exact this) (view_half hk' 128 (by omega)) (fun _ _ _ _ e => by injection e with e1 e2 e3; injection e1 with e1; injection e1 with e4 e5; omega) (hsm.tables (hT.out.touch HT2.out hg)) hg).mono ?_
        rintro e w' ⟨rfl, ht', hr'⟩
        rw [show ((List.range 128).map H2).length / bsz true = 1 by simp [bsz], TT_congr true (B' := P) s1 1 (fun j hj => by simp [bsz] at hj; simp [List.getD, hj]; exact HP.out j (by omega)), HE.out, ← HS'.out] at hr'
        exact ⟨rfl, (hsm.touch g o 139).trans (ht'.mono o 139 (by omega) (by omega)), hk'.words ht' hr'⟩
      clear HH2 h8 HP HPL HP1 HE
      go_wp2
      go_region_held3 (fun v => v.cell? ⟨g, o + 1, none⟩ = some (.func (.func 65) #[] #[])) (first | go_keep | exact hk3.fn) ((go_at_call 65; refine (HA.out wr.drew (Sm.refl wr).drew).mono ?_; rintro e3 w3 ⟨rfl, ht3, hk3⟩))
      have HT3 : Hid (Touch w w3 g o 139) := HT2.out.trans ht3
      have HR3 : Hid (w3.there w.heap.size 0 64 ∧ w.heap.size < w3.heap.size) := ⟨ht3.thereFar HR2.out.1 HR2.out.2 (by omega), Nat.lt_of_lt_of_le HR2.out.2 ht3.size⟩
      have HK3 : Hid (TK w3 g o h true s' H2 fed) := hk3
      clear ht3 hk3 HA c1' HT2 HR2 HK2
      go_wp2_with (first | (go_at_call 86; refine (spell128 g o h s' H2 fed _ hblk HK3).mono ?_))
      rintro e4 w4 ⟨rfl, hb4⟩
      have hs3 := HT3.out.size
      have HT4 : Hid (Touch w w4 g o 139) := HT3.out.below hb4 hgw
      have HK4 : Hid (TK w4 g o h true s' H2 fed) := HK3.out.below hb4
      have HR4 : Hid (w4.there w.heap.size 0 64) := fun j hj => by rw [hb4.cell (p := ⟨w.heap.size, 0 + j, none⟩) HR3.out.2, hb4.frozen (p := ⟨w.heap.size, 0 + j, none⟩) HR3.out.2]; exact HR3.out.1 j hj
      have HY : Hid (w4.there w.heap.size 0 (spellCells 8 s').toArray.size) := by rw [spellArr_size]; exact HR4.out
      have HZ : Hid ((Tryd.prog.info? 72).map (·.size) = some (spellCells 8 s').toArray.size) := by rw [spellArr_size]; exact size75
      clear HT3 HK3 HR3 hb4
      go_wp2_with (first
        | (refine wpList_store_mid (by rfl) 72 (.tmp 2) (.tmp 93) (by rfl) w.heap.size 0 (spellCells 8 s').toArray (by rfl) (by rfl) HY.out HZ.out (spellCells_one 8 s') ?_)
        | fail)
      have hl := run_loadVar_mid (P := Tryd.prog) (w4.setCells w.heap.size 0 (spellCells 8 s')) w.heap.size 0 72 (spellCells 8 s') _ (World.rangeAt_setCells_same w4 w.heap.size 0 (spellCells 8 s') (by rw [spellCells_length]; exact HR4.out)) Tryd.underlying72 rfl (by rw [spellCells_length]; exact size75)
      have hn := touch_new HT4.out (Nat.le_refl _) (spellCells 8 s') 0 hgw
      have hs' := HS'.out
      refine bodyPost_ret (v := .agg (spellCells 8 s').toArray) ?_ rfl ⟨by rw [hs'], hn, H2, by rw [← hs']; exact HK4.out.newer (by omega) _ _⟩
      rw [results_cell1 Tryd.results75]
      simp [Act.put, asAddr, hl]
end Go.Proofs.YtioggmjocelolacDoor
namespace Go.Proofs.YtioggmjocelolacDoor
open Go.RowKit
set_option linter.unusedVariables false
set_option linter.unusedSimpArgs false

theorem padF_congr (bs fed : Nat) {half half' : Nat → Int} (h : ∀ i, i < fed % bs → half i = half' i) : padF bs half fed = padF bs half' fed := by
  funext i
  unfold padF
  by_cases hi : i < fed % bs
  · rw [if_pos hi, if_pos hi, h i hi]
  · rw [if_neg hi, if_neg hi]
def wsz (wd : Bool) : Nat := if wd then 8 else 4
/-- The words behind all that was fed, and the padding. -/
def endW (wd : Bool) (s0 : Eight) (f0 : Nat) (zs : List Int) : Eight :=
  TT wd (padF (bsz wd) (fun i => fnz zs (bsz wd * (zs.length / bsz wd) + i)) (f0 + zs.length)) (TT wd (fnz zs) s0 (zs.length / bsz wd)) (padN (bsz wd) (f0 + zs.length))
/-- taken.finish. -/
theorem finish_any (wd : Bool) (g o : Nat) (h : Int) (s : Eight) (half : Nat → Int) (fed : Nat) (w : World) (hblk : blockOf h = bsz wd) (HK : TK w g o h wd s half fed) (hfed : fed ≤ 1152921504606846976) (hT : Tables w) (hg : 4 ≤ g) :
    Calls Tryd.prog 75 #[.pointer (some ⟨g, o, none⟩)] w fun e w' => e = .returned (.agg (spellCells (wsz wd) (TT wd (padF (bsz wd) half fed) s (padN (bsz wd) fed))).toArray) ∧ Touch w w' g o 139 ∧ ∃ half', TK w' g o h wd (TT wd (padF (bsz wd) half fed) s (padN (bsz wd) fed)) half' fed := by
  cases wd
  · have hm : fed % 64 < 64 := Nat.mod_lt _ (by omega)
    by_cases hu : fed % 64 + 1 ≤ 56
    · exact finish64_A g o h s half fed (fed % 64) (fed % 64 + 1) w hblk HK hfed hT hg rfl rfl hu
    · exact finish64_B g o h s half fed (fed % 64) (fed % 64 + 1) w hblk HK hfed hT hg rfl rfl (by omega) (by omega)
  · have hm : fed % 128 < 128 := Nat.mod_lt _ (by omega)
    by_cases hu : fed % 128 + 1 ≤ 112
    · exact finish128_A g o h s half fed (fed % 128) (fed % 128 + 1) w hblk HK hfed hT hg rfl rfl hu
    · by_cases hu2 : fed % 128 = 127
      · exact finish128_C g o h s half fed w hblk HK hfed hT hg hu2
      · exact finish128_B g o h s half fed (fed % 128) (fed % 128 + 1) w hblk HK hfed hT hg rfl rfl (by omega) (by omega)
theorem finish_rep (wd : Bool) (g o : Nat) (h : Int) (s0 : Eight) (f0 : Nat) (zs : List Int) (w : World) (hblk : blockOf h = bsz wd) (hr : Rep w g o h wd s0 f0 zs) (hfed : f0 + zs.length ≤ 1152921504606846976) (hT : Tables w) (hg : 4 ≤ g) :
    Calls Tryd.prog 75 #[.pointer (some ⟨g, o, none⟩)] w fun e w' => e = .returned (.agg (spellCells (wsz wd) (endW wd s0 f0 zs)).toArray) ∧ Touch w w' g o 139 ∧ ∃ half', TK w' g o h wd (endW wd s0 f0 zs) half' (f0 + zs.length) := by
  obtain ⟨half, hk, hh, hf⟩ := hr
  have hp : padF (bsz wd) half (f0 + zs.length) = padF (bsz wd) (fun i => fnz zs (bsz wd * (zs.length / bsz wd) + i)) (f0 + zs.length) := padF_congr _ _ (fun i hi => by
    obtain ⟨c, hc⟩ : ∃ c, f0 = bsz wd * c := ⟨f0 / bsz wd, by have := Nat.div_add_mod f0 (bsz wd); omega⟩
    rw [hc, Nat.mul_add_mod] at hi
    exact hh i hi)
  have := finish_any wd g o h _ half _ w hblk hk hfed hT hg
  rw [hp] at this
  exact this
end Go.Proofs.YtioggmjocelolacDoor
namespace Go.Proofs.YtioggmjocelolacDoor
open Go.RowKit
set_option linter.unusedVariables false
set_option linter.unusedSimpArgs false

/-- A slice of slices of bytes that lie outside block g. -/
def Parts (w : World) (g : Nat) (v : Value) (yss : List (List Int)) : Prop :=
  ∃ a c, v = .slice a yss.length c ∧ yss.length ≤ c ∧ c ≤ maxLen ∧ (yss = [] ∨ ∃ b p, a = some ⟨b, p, none⟩ ∧ b ≠ g ∧ ∀ i, i < yss.length → ∃ x, w.cell? ⟨b, p + i, none⟩ = some x ∧ View w x (yss.getD i []) ∧ (yss.getD i [] ≠ [] → ∀ b' off l c', x = .slice (some ⟨b', off, none⟩) l c' → b' ≠ g))
theorem sum_step (yss : List (List Int)) (k : Nat) (hk : k < yss.length) : (yss.take (k + 1)).flatten = (yss.take k).flatten ++ yss.getD k [] := by
  rw [List.take_add_one, List.flatten_append]
  simp [List.getD, hk]
theorem sum_le (yss : List (List Int)) (k : Nat) : (yss.take k).flatten.length ≤ yss.flatten.length := by
  have := congrArg List.length (congrArg List.flatten (List.take_append_drop k yss))
  rw [List.flatten_append, List.length_append] at this
  omega

/-- taken.add, where bytes that are none may lie anywhere. -/
theorem add_rep2 (wd : Bool) (g o : Nat) (h : Int) (s0 : Eight) (f0 : Nat) (zs ys : List Int) (v : Value) (w : World) (hblk : blockOf h = bsz wd) (hr : Rep w g o h wd s0 f0 zs) (hv : View w v ys) (hap : ys ≠ [] → Apart v g o 139) (hT : Tables w) (hg : 4 ≤ g) (hfn : f0 + zs.length + ys.length ≤ 4611686018427387904) :
    Calls Tryd.prog 38 #[.pointer (some ⟨g, o, none⟩), v] w fun e w' => e = .returned (.tuple #[]) ∧ Touch w w' g o 139 ∧ Rep w' g o h wd s0 f0 (zs ++ ys) := by
  by_cases hys : ys = []
  · subst hys
    obtain ⟨half, hk, hh, hf⟩ := hr
    obtain ⟨a, cap, rfl, h1, h2, h3, h4⟩ := hv
    refine (add_empty_any wd g o h _ half _ cap a w hblk hk (by simpa using hfn) (by unfold maxLen at h2; omega) h3).mono ?_
    rintro e w' ⟨rfl, ht, hk'⟩
    rw [List.append_nil]
    exact ⟨rfl, ht, half, hk', hh, hf⟩
  · exact add_rep wd g o h s0 f0 zs ys v w hblk hr hv (hap hys) hT hg hfn

set_option maxHeartbeats 1600000 in
set_option maxRecDepth 100000 in
theorem write_none (g o : Nat) (fed left c : Nat) (a : Option Addr) (most : Int) (w : World) (c1 : w.cell? ⟨g, o + 138, none⟩ = some (.int .u64 fed)) (hm : most - (fed : Int) = (left : Int)) (hmm : fed + left ≤ 4611686018427387904) (hc : c ≤ 9223372036854775807) :
    Calls Tryd.prog 54 #[.pointer (some ⟨g, o, none⟩), .int .u64 most, .slice a 0 c] w fun e w' => e = .returned (.int .i64 0) ∧ w' = w := by
  have hl2 : (left : Int) < 18446744073709551616 := by omega
  go_enter Tryd.func54, Tryd.ntmps54
  go_wp2
  go_loop [20, 7] (fun i l => i = .int .i64 0 ∧ l = .int .u64 left) (fun _ _ => 0)
  case atStart => exact ⟨rfl, rfl⟩
  case round =>
    obtain ⟨rfl, rfl⟩ := hrel
    go_wp2
    go_loop [37] (fun i => i = .int .i64 0) (fun _ => 0)
    case atStart => exact rfl
    case round =>
      obtain rfl := hrel
      go_wp2
      go_ret
      exact ⟨rfl, rfl⟩

set_option maxHeartbeats 3200000 in
set_option maxRecDepth 100000 in
theorem write_some (wd : Bool) (g o : Nat) (h : Int) (s0 : Eight) (f0 n c b p : Nat) (zs : List Int) (yss : List (List Int)) (fed left : Nat) (most : Int) (w : World) (hblk : blockOf h = bsz wd) (hr : Hid (Rep w g o h wd s0 f0 zs)) (hT : Hid (Tables w)) (hg : 4 ≤ g)
    (c1 : w.cell? ⟨g, o + 138, none⟩ = some (.int .u64 fed)) (hfed : Hid (fed = f0 + zs.length)) (hm : most - (fed : Int) = (left : Int)) (hmm : fed + left ≤ 4611686018427387904) (hn : Hid (yss.length = n)) (hnc : n ≤ c) (hc : c ≤ 9223372036854775807) (hbg : Hid (b ≠ g))
    (hx : Hid (∀ i, i < n → ∃ x, w.cell? ⟨b, p + i, none⟩ = some x ∧ View w x (yss.getD i []) ∧ (yss.getD i [] ≠ [] → ∀ b' off l c', x = .slice (some ⟨b', off, none⟩) l c' → b' ≠ g))) (hs : Hid (yss.flatten.length ≤ left)) :
    Calls Tryd.prog 54 #[.pointer (some ⟨g, o, none⟩), .int .u64 most, .slice (some ⟨b, p, none⟩) n c] w fun e w' => e = .returned (.int .i64 0) ∧ Touch w w' g o 139 ∧ Rep w' g o h wd s0 f0 (zs ++ yss.flatten) := by
  have hl2 : (left : Int) < 18446744073709551616 := by omega
  go_enter Tryd.func54, Tryd.ntmps54
  go_wp2
  go_loop [20, 7] (fun i l => ∃ k r : Nat, k ≤ n ∧ i = .int .i64 k ∧ l = .int .u64 r ∧ Hid (r + (yss.take k).flatten.length = left)) (fun i _ => n - (intOf i).toNat)
  case atStart => exact ⟨0, left, by omega, rfl, rfl, (by show _ = _; simp)⟩
  case round =>
    obtain ⟨k, r, hk, rfl, rfl, HR⟩ := hrel
    by_cases hlt : k < n
    · obtain ⟨x, hcx, hvx, hax⟩ := hx.out k hlt
      obtain ⟨a, cap, rfl, h1, h2, h3, h4⟩ := hvx
      have hst := sum_step yss k (by rw [hn.out]; exact hlt)
      have hle := sum_le yss (k + 1)
      obtain ⟨l, hl⟩ : ∃ l, (yss.getD k []).length = l := ⟨_, rfl⟩
      rw [hl] at hcx h1
      obtain ⟨r2, hr2⟩ : ∃ r2, r = r2 + l := ⟨r - l, by
        have h5 := HR.out
        have h6 := hs.out
        rw [hst, List.length_append, hl] at hle
        omega⟩
      have HR2 : Hid (r2 + (yss.take (k + 1)).flatten.length = left) := by
        show _ = _
        rw [hst, List.length_append, hl]
        have := HR.out
        omega
      have hrl : (r : Int) < 18446744073709551616 := by have := HR.out; omega
      have e1 : (r : Int) - (l : Int) = (r2 : Int) := by omega
      have e2 : (l : Int) ≤ (r : Int) := by omega
      have e3 : (r2 : Int) < 18446744073709551616 := by omega
      have e4 : (l : Int) < 18446744073709551616 := by omega
      unfold maxLen at h2
      have e5 : (k : Int) < n := by omega
      clear hst hle hr2 HR h3 h4 hl hax
      go_upto_region 4 with fail
      go_upto_region 5 with fail
      have e2' : ¬ ((r : Int) < (l : Int)) := by omega
      have HE1 : Hid ((r : Int) - (l : Int) = (r2 : Int)) := e1
      have hkb : (k : Int) < 9223372036854775807 := by omega
      clear hc hmm hl2 c1 hcx hnc hm hg h1 h2 hblk e2 e1
      go_wp2
      go_round
      case rel => exact ⟨k + 1, r2, by omega, by go_num, by rw [HE1.out], HR2⟩
      case measure => simp [intOf]; omega
    · obtain rfl : k = n := by omega
      clear hlt HR
      go_wp2
      go_loopw [37] (fun i wr => ∃ q : Nat, q ≤ k ∧ i = .int .i64 q ∧ Hid (Touch w wr g o 139) ∧ Hid (Rep wr g o h wd s0 f0 (zs ++ (yss.take q).flatten))) (fun i _ => k - (intOf i).toNat)
      case atStart => exact ⟨0, by omega, rfl, Touch.refl _ _ _ _, (by show Rep _ _ _ _ _ _ _ _; simpa using hr.out)⟩
      case round =>
        obtain ⟨q, hq, rfl, HT, HP⟩ := hrel
        by_cases hlt : q < k
        · obtain ⟨x, hcx, hvx, hax⟩ := hx.out q hlt
          have hst := sum_step yss q (by rw [hn.out]; exact hlt)
          have hle := sum_le yss (q + 1)
          have hbw : b < w.heap.size := lt_of_cell hcx
          have hcx' : wr.cell? ⟨b, p + q, none⟩ = some x := by rw [HT.out.far (p := ⟨b, p + q, none⟩) hbw hbg.out]; exact hcx
          have hap : yss.getD q [] ≠ [] → Apart x g o 139 := fun h0 b' off l c' e => .inl (hax h0 b' off l c' e)
          have hvw : View wr x (yss.getD q []) := by
            by_cases h0 : yss.getD q [] = []
            · obtain ⟨a, cap, e, h1, h2, h3, h4⟩ := hvx
              exact ⟨a, cap, e, h1, h2, h3, .inl h0⟩
            · exact HT.out.view hvx (hap h0)
          have HA : Hid (Calls Tryd.prog 38 #[.pointer (some ⟨g, o, none⟩), x] wr fun e w' => e = .returned (.tuple #[]) ∧ Touch wr w' g o 139 ∧ Rep w' g o h wd s0 f0 (zs ++ (yss.take (q + 1)).flatten)) := by
            have := add_rep2 wd g o h s0 f0 (zs ++ (yss.take q).flatten) (yss.getD q []) x wr hblk HP.out hvw hap (hT.out.touch HT.out hg) hg (by
              rw [hst] at hle
              have h5 := hfed.out
              have h6 := hs.out
              simp only [List.length_append] at hle ⊢
              omega)
            rw [List.append_assoc, ← hst] at this
            exact this
          have e5 : (q : Int) < k := by omega
          clear hvx hst hle hcx hap hax hvw
          go_wp2_with (first | (go_at_call 38; refine HA.out.mono ?_; rintro e3 w3 ⟨rfl, ht3, hp3⟩) | fail)
          have HT3 : Hid (Touch w w3 g o 139) := HT.out.trans ht3
          have HP3 : Hid (Rep w3 g o h wd s0 f0 (zs ++ (yss.take (q + 1)).flatten)) := hp3
          clear ht3 hp3 HA HT HP
          go_wp2
          go_roundw
          case rel => exact ⟨q + 1, by omega, by go_num, HT3, HP3⟩
          case measure => simp [intOf]; omega
        · obtain rfl : q = k := by omega
          go_wp2
          go_ret
          refine ⟨rfl, HT, ?_⟩
          have := HP.out
          rw [List.take_of_length_le (by rw [hn.out]; exact Nat.le_refl _)] at this
          exact this

/-- taken.write of what fits. -/
theorem write_rep (wd : Bool) (g o : Nat) (h : Int) (s0 : Eight) (f0 : Nat) (zs : List Int) (yss : List (List Int)) (v : Value) (left : Nat) (most : Int) (w : World) (hblk : blockOf h = bsz wd) (hr : Rep w g o h wd s0 f0 zs) (hp : Parts w g v yss) (hT : Tables w) (hg : 4 ≤ g)
    (hm : most = ((f0 + zs.length + left : Nat) : Int)) (hmm : f0 + zs.length + left ≤ 4611686018427387904) (hs : yss.flatten.length ≤ left) :
    Calls Tryd.prog 54 #[.pointer (some ⟨g, o, none⟩), .int .u64 most, v] w fun e w' => e = .returned (.int .i64 0) ∧ Touch w w' g o 139 ∧ Rep w' g o h wd s0 f0 (zs ++ yss.flatten) := by
  obtain ⟨a, c, rfl, hn, hc, hx⟩ := hp
  unfold maxLen at hc
  have hc1 : w.cell? ⟨g, o + 138, none⟩ = some (.int .u64 ((f0 + zs.length : Nat) : Int)) := by obtain ⟨_, hk, _⟩ := hr; exact hk.fed
  rcases hx with rfl | ⟨b, p, rfl, hb, hx⟩
  · refine (write_none g o (f0 + zs.length) left c a most w hc1 (by omega) hmm hc).mono ?_
    rintro e w' ⟨rfl, rfl⟩
    exact ⟨rfl, Touch.refl _ _ _ _, by simpa using hr⟩
  · exact write_some wd g o h s0 f0 yss.length c b p zs yss (f0 + zs.length) left most w hblk hr hT hg hc1 rfl (by omega) hmm rfl hn hc hb hx hs
end Go.Proofs.YtioggmjocelolacDoor
namespace Go.Proofs.YtioggmjocelolacDoor
open Go.RowKit
set_option linter.unusedVariables false
set_option linter.unusedSimpArgs false

/-- The digests that there are. -/
def Known (h : Int) : Prop := h = 224 ∨ h = 256 ∨ h = 384 ∨ h = 512
def wdOf (h : Int) : Bool := decide (h = 384 ∨ h = 512)
def szOf (h : Int) : Nat := (h / 8).toNat
theorem Known.block {h : Int} (k : Known h) : blockOf h = bsz (wdOf h) := by rcases k with rfl | rfl | rfl | rfl <;> rfl
theorem firstWords_any {h : Int} (k : Known h) (w : World) (hT : Tables w) :
    Calls Tryd.prog 66 #[.int .i64 h] w fun e w' => e = .returned (.agg (firstE h).cells.toArray) ∧ Below w.heap.size w w' := by
  rcases k with rfl | rfl | rfl | rfl
  · exact firstWords224 w hT
  · exact firstWords256 w hT
  · exact firstWords384 w hT
  · exact firstWords512 w hT
/-- begin, of a digest that there is. -/
theorem begin_any {h : Int} (k : Known h) (w : World) (hT : Tables w) :
    Calls Tryd.prog 45 #[.int .i64 h] w fun e w' => e = .returned (.tuple #[.agg (tkL h (wdOf h) (firstE h) (fun _ => 0) 0).toArray, .int .i64 0]) ∧ Below w.heap.size w w' := by
  have hb := k.block
  cases hw : wdOf h
  · rw [hw] at hb
    exact begin_good64 h w hb (fun v hv => firstWords_any k v hv) hT
  · rw [hw] at hb
    exact begin_good128 h w hb (fun v hv => firstWords_any k v hv) hT
theorem rep_nil {w : World} {g o : Nat} {h : Int} {wd : Bool} {s : Eight} {half : Nat → Int} {f0 : Nat} (k : TK w g o h wd s half f0) (hf : f0 % bsz wd = 0) : Rep w g o h wd s f0 [] :=
  ⟨half, by simpa [TT_zero] using k, fun i hi => by simp at hi, hf⟩
theorem Rep.below {w v : World} {g o : Nat} {h : Int} {wd : Bool} {s : Eight} {f0 : Nat} {zs : List Int} (k : Rep w g o h wd s f0 zs) (b : Below w.heap.size w v) : Rep v g o h wd s f0 zs := by
  obtain ⟨half, hk, h1, h2⟩ := k
  exact ⟨half, hk.below b, h1, h2⟩
theorem Rep.far {w v : World} {g o g' o' n : Nat} {h : Int} {wd : Bool} {s : Eight} {f0 : Nat} {zs : List Int} (k : Rep w g o h wd s f0 zs) (b : Touch w v g' o' n) (hne : g ≠ g') : Rep v g o h wd s f0 zs := by
  obtain ⟨half, hk, h1, h2⟩ := k
  have hg : g < w.heap.size := lt_of_cell hk.hash
  exact ⟨half, ⟨by rw [b.far hg hne]; exact hk.hash, by rw [b.far (p := ⟨g, o + 1, none⟩) hg hne]; exact hk.fn, fun j x hx => by rw [b.far (p := ⟨g, o + 2 + j, none⟩) hg hne]; exact hk.st j x hx, fun i hi => by rw [b.far (p := ⟨g, o + 10 + i, none⟩) hg hne]; exact hk.half i hi, by rw [b.far (p := ⟨g, o + 138, none⟩) hg hne]; exact hk.fed, b.thereFar hk.there hg hne⟩, h1, h2⟩
theorem fold87 (h : Int) (wd : Bool) (E : Eight) (half : Nat → Int) (fed : Nat) : List.foldl (fun (cs : Array Value) x => cs.setIfInBounds x.snd x.fst) Tryd.zeroCells81 (tkL h wd E half fed).zipIdx = (tkL h wd E half fed).toArray := by kernel_rfl
theorem size87 : (Tryd.prog.info? 81).map (·.size) = some 139 := by kernel_rfl
/-- What a taken's cells are, as a value. -/
structure TkBig (T : List Value) : Prop where
  len : T.length = 139
  one : T.toArray.all (·.oneCell') = true
  built : List.foldl (fun (cs : Array Value) x => cs.setIfInBounds x.snd x.fst) Tryd.zeroCells81 T.zipIdx = T.toArray
theorem TkBig.size {T : List Value} (h : TkBig T) : T.toArray.size = 139 := by simpa using h.len
theorem TkBig.info {T : List Value} (h : TkBig T) : (Tryd.prog.info? 69).map (·.size) = some T.toArray.size := by rw [h.size]; exact size71
theorem TkBig.info87 {T : List Value} (h : TkBig T) : (Tryd.prog.info? 81).map (·.size) = some T.toArray.size := by rw [h.size]; exact size87
theorem tkBig (h : Int) (wd : Bool) (E : Eight) (half : Nat → Int) (fed : Nat) : TkBig (tkL h wd E half fed) := ⟨tkL_length _ _ _ _ _, tkL_one _ _ _ _ _, fold87 _ _ _ _ _⟩

set_option maxHeartbeats 1600000 in
set_option maxRecDepth 100000 in
/-- New, of a digest that there is. -/
theorem new_good (h : Int) (w : World) (k : Hid (Known h)) (hT : Hid (Tables w)) :
    Calls Tryd.prog 29 #[.int .i64 h] w fun e w' => ∃ g, e = .returned (.tuple #[.pointer (some ⟨g, 0, none⟩), .int .i64 0]) ∧ w.heap.size ≤ g ∧ Rep w' g 0 h (wdOf h) (firstE h) 0 [] ∧ Below w.heap.size w w' := by
  go_enter Tryd.func29, Tryd.ntmps29
  go_wp2_with (first | (go_at_call 45; refine (begin_any k.out w hT.out).mono ?_))
  rintro e1 w1 ⟨rfl, hb1⟩
  obtain ⟨T, HTT⟩ : ∃ T : List Value, Hid (T = tkL h (wdOf h) (firstE h) (fun _ => 0) 0) := ⟨_, rfl⟩
  rw [← HTT.out]
  have HG : Hid (TkBig T) := by show TkBig T; rw [HTT.out]; exact tkBig _ _ _ _ _
  have HB1 : Hid (Below w.heap.size w w1) := hb1
  have HX : Hid ((w1.alloc (.cells Tryd.zeroCells69 69)).there w1.heap.size 0 139) := there_new w1 Tryd.zeroCells69 69 139 (by rw [cells71z, size71z]; exact Nat.le_refl _)
  clear hb1
  go_upto_region 4 with (first
    | (refine wpList_store_mid (by rfl) 69 (.tmp 4) (.tmp 9) (by rfl) w1.heap.size 0 T.toArray (by rfl) (by rfl) (by rw [HG.out.size]; exact HX.out) HG.out.info HG.out.one ?_)
    | fail)
  have HR2 : Hid (((w1.alloc (.cells Tryd.zeroCells69 69)).setCells w1.heap.size 0 T).rangeAt w1.heap.size 0 T) := World.rangeAt_setCells_same _ _ _ _ (by rw [HG.out.len]; exact HX.out)
  have HB2 : Hid (Below w.heap.size w ((w1.alloc (.cells Tryd.zeroCells69 69)).setCells w1.heap.size 0 T)) := below_setCells _ HB1.out.size _ _ _ (HB1.out.alloc HB1.out.size _)
  generalize (w1.alloc (.cells Tryd.zeroCells69 69)).setCells w1.heap.size 0 T = w2 at HR2 HB2 ⊢
  clear HX
  have hlen := HG.out.len
  have hfold := HG.out.built
  go_wp2_with (first
    | (refine wpList_load_mid (by rfl) 69 (.tmp 4) (by rfl) w1.heap.size 0 (by rfl) T _ HR2.out Tryd.underlying69 rfl (by rw [HG.out.len]; exact size71) ?_)
    | fail)
  go_ret2
  have hr := rangeAt_new w2 T.toArray 81
  have ht := there_new w2 T.toArray 81 139 (by rw [HG.out.size]; exact Nat.le_refl _)
  have hT' : T = tkL h (wdOf h) (firstE h) (fun _ => 0) 0 := HTT.out
  refine ⟨w2.heap.size, rfl, HB2.out.size, rep_nil (TK.of (half := fun _ => 0) ?_ ht) (Nat.zero_mod _), HB2.out.alloc HB2.out.size _⟩
  rw [hT'] at hr ⊢
  exact hr

set_option maxHeartbeats 400000 in
theorem size_known {h : Int} (k : Known h) (w : World) : Calls Tryd.prog 46 #[.int .i64 h] w fun e w' => e = .returned (.int .i64 (szOf h)) ∧ w' = w := by
  rcases k with rfl | rfl | rfl | rfl
  · go_enter Tryd.func46, Tryd.ntmps46
    go_wp2_with (first | (go_at_call 55; refine (block_any _ _).mono ?_; rintro e1 w1 ⟨rfl, hw1⟩; obtain rfl := hw1.symm; rw [show blockOf 224 = 64 from rfl]))
    go_ret
    exact ⟨rfl, rfl⟩
  · go_enter Tryd.func46, Tryd.ntmps46
    go_wp2_with (first | (go_at_call 55; refine (block_any _ _).mono ?_; rintro e1 w1 ⟨rfl, hw1⟩; obtain rfl := hw1.symm; rw [show blockOf 256 = 64 from rfl]))
    go_ret
    exact ⟨rfl, rfl⟩
  · go_enter Tryd.func46, Tryd.ntmps46
    go_wp2_with (first | (go_at_call 55; refine (block_any _ _).mono ?_; rintro e1 w1 ⟨rfl, hw1⟩; obtain rfl := hw1.symm; rw [show blockOf 384 = 128 from rfl]))
    go_ret
    exact ⟨rfl, rfl⟩
  · go_enter Tryd.func46, Tryd.ntmps46
    go_wp2_with (first | (go_at_call 55; refine (block_any _ _).mono ?_; rintro e1 w1 ⟨rfl, hw1⟩; obtain rfl := hw1.symm; rw [show blockOf 512 = 128 from rfl]))
    go_ret
    exact ⟨rfl, rfl⟩
set_option maxHeartbeats 400000 in
theorem shash (g : Nat) (h : Int) (w : World) (c : w.cell? ⟨g, 0, none⟩ = some (.int .i64 h)) : Calls Tryd.prog 47 #[.pointer (some ⟨g, 0, none⟩)] w fun e w' => e = .returned (.int .i64 h) ∧ w' = w := by
  go_enter Tryd.func47, Tryd.ntmps47
  go_wp2
  go_ret
  exact ⟨rfl, rfl⟩
set_option maxHeartbeats 400000 in
theorem ssize (g : Nat) (h : Int) (w : World) (k : Hid (Known h)) (c : Hid (w.cell? ⟨g, 0, none⟩ = some (.int .i64 h))) : Calls Tryd.prog 30 #[.pointer (some ⟨g, 0, none⟩)] w fun e w' => e = .returned (.int .i64 (szOf h)) ∧ w' = w := by
  go_enter Tryd.func30, Tryd.ntmps30
  go_wp2_with (first
    | (go_at_call 47; refine (shash g h w c.out).mono ?_; rintro e1 w1 ⟨rfl, hw1⟩; obtain rfl := hw1.symm)
    | (go_at_call 46; refine (size_known k.out _).mono ?_; rintro e1 w1 ⟨rfl, hw1⟩; obtain rfl := hw1.symm))
  go_ret
  exact ⟨rfl, rfl⟩
set_option maxHeartbeats 400000 in
theorem scount (g : Nat) (n : Nat) (w : World) (c : w.cell? ⟨g, 0 + 138, none⟩ = some (.int .u64 n)) : Calls Tryd.prog 85 #[.pointer (some ⟨g, 0, none⟩)] w fun e w' => e = .returned (.int .u64 n) ∧ w' = w := by
  rw [Nat.zero_add] at c
  go_enter Tryd.func85, Tryd.ntmps85
  go_wp2
  go_ret
  exact ⟨rfl, rfl⟩
set_option maxHeartbeats 800000 in
/-- Stream.Write of what fits. -/
theorem swrite (g : Nat) (h : Int) (s0 : Eight) (zs : List Int) (yss : List (List Int)) (v : Value) (w : World) (k : Hid (Known h)) (hr : Hid (Rep w g 0 h (wdOf h) s0 0 zs)) (hp : Hid (Parts w g v yss)) (hT : Hid (Tables w)) (hg : 4 ≤ g) (hs : Hid (zs.length + yss.flatten.length ≤ 33554432)) :
    Calls Tryd.prog 52 #[.pointer (some ⟨g, 0, none⟩), v] w fun e w' => e = .returned (.int .i64 0) ∧ Touch w w' g 0 139 ∧ Rep w' g 0 h (wdOf h) s0 0 (zs ++ yss.flatten) := by
  have HA : Hid (Calls Tryd.prog 54 #[.pointer (some ⟨g, 0, none⟩), .int .u64 33554432, v] w fun e w' => e = .returned (.int .i64 0) ∧ Touch w w' g 0 139 ∧ Rep w' g 0 h (wdOf h) s0 0 (zs ++ yss.flatten)) :=
    write_rep (wdOf h) g 0 h s0 0 zs yss v (33554432 - zs.length) 33554432 w k.out.block hr.out hp.out hT.out hg (by have := hs.out; omega) (by have := hs.out; omega) (by have := hs.out; omega)
  go_enter Tryd.func52, Tryd.ntmps52
  go_wp2_with (first | (go_at_call 54; refine HA.out.mono ?_; rintro e1 w1 ⟨rfl, ht1, hr1⟩))
  have HQ : Hid (Touch w w1 g 0 139 ∧ Rep w1 g 0 h (wdOf h) s0 0 (zs ++ yss.flatten)) := ⟨ht1, hr1⟩
  clear ht1 hr1
  go_wp2
  go_ret
  exact ⟨rfl, HQ.out.1, HQ.out.2⟩
set_option maxHeartbeats 800000 in
set_option maxRecDepth 100000 in
/-- Stream.Copy. -/
theorem scopy (g : Nat) (h : Int) (s0 : Eight) (zs : List Int) (w : World) (hr : Hid (Rep w g 0 h (wdOf h) s0 0 zs)) :
    Calls Tryd.prog 73 #[.pointer (some ⟨g, 0, none⟩)] w fun e w' => ∃ g', e = .returned (.pointer (some ⟨g', 0, none⟩)) ∧ w.heap.size ≤ g' ∧ Rep w' g' 0 h (wdOf h) s0 0 zs ∧ Below w.heap.size w w' := by
  obtain ⟨half, hk, hh, hf⟩ := hr.out
  obtain ⟨T, HTT⟩ : ∃ T : List Value, Hid (T = tkL h (wdOf h) (TT (wdOf h) (fnz zs) s0 (zs.length / bsz (wdOf h))) half (0 + zs.length)) := ⟨_, rfl⟩
  have HG : Hid (TkBig T) := by show TkBig T; rw [HTT.out]; exact tkBig _ _ _ _ _
  have HR : Hid (w.rangeAt g 0 T) := by show w.rangeAt g 0 T; rw [HTT.out]; exact hk.range
  have HH : Hid ((∀ i, i < zs.length % bsz (wdOf h) → half i = fnz zs (bsz (wdOf h) * (zs.length / bsz (wdOf h)) + i)) ∧ 0 % bsz (wdOf h) = 0) := ⟨hh, hf⟩
  have HX : Hid ((w.alloc (.cells Tryd.zeroCells81 81)).there w.heap.size 0 139) := there_new w Tryd.zeroCells81 81 139 (by decide)
  clear hk hh hf
  go_enter Tryd.func73, Tryd.ntmps73
  go_upto_region 4 with (first
    | (refine wpList_load_mid (by rfl) 81 (.tmp 7) (by rfl) g 0 (by rfl) T _ HR.out Tryd.underlying81 rfl (by rw [HG.out.len]; exact size87) ?_)
    | (refine wpList_store_mid (by rfl) 81 (.tmp 3) (.tmp 8) (by rfl) w.heap.size 0 T.toArray (by rfl) (by rfl) (by rw [HG.out.size]; exact HX.out) HG.out.info87 HG.out.one ?_)
    | fail)
  have HR2 : Hid (((w.alloc (.cells Tryd.zeroCells81 81)).setCells w.heap.size 0 T).rangeAt w.heap.size 0 T) := World.rangeAt_setCells_same _ _ _ _ (by rw [HG.out.len]; exact HX.out)
  have HB2 : Hid (Below w.heap.size w ((w.alloc (.cells Tryd.zeroCells81 81)).setCells w.heap.size 0 T) ∧ ((w.alloc (.cells Tryd.zeroCells81 81)).setCells w.heap.size 0 T).there w.heap.size 0 139) := ⟨below_setCells _ (Nat.le_refl _) _ _ _ ((Below.refl _ _).alloc (Nat.le_refl _) _), World.there_setCells HX.out _ _ _⟩
  generalize (w.alloc (.cells Tryd.zeroCells81 81)).setCells w.heap.size 0 T = w2 at HR2 HB2 ⊢
  clear HX
  go_wp2
  go_ret
  refine ⟨w.heap.size, rfl, Nat.le_refl _, ⟨half, TK.of ?_ HB2.out.2, HH.out.1, HH.out.2⟩, HB2.out.1⟩
  rw [← HTT.out]
  exact HR2.out
end Go.Proofs.YtioggmjocelolacDoor
namespace Go.Proofs.YtioggmjocelolacDoor
open Go.RowKit
set_option linter.unusedVariables false
set_option linter.unusedSimpArgs false
/-- The two tables of the document's answer. -/
structure RTab (w : World) : Prop where
  cubes : ∀ t, t < 80 → w.cell? ⟨1, t, none⟩ = some (.int .u64 (cubeAt t))
  roots : ∀ t, t < 16 → w.cell? ⟨0, t, none⟩ = some (.int .u64 (rootAt t))
theorem RTab.kept {w w' : World} (h : RTab w) (hb : ∀ k, k < 2 → w'.heap[k]? = w.heap[k]?) : RTab w' :=
  ⟨fun t ht => by rw [World.cell?_of_block (w := w) (hb 1 (by omega))]; exact h.cubes t ht, fun t ht => by rw [World.cell?_of_block (w := w) (hb 0 (by omega))]; exact h.roots t ht⟩
theorem RTab.size {w : World} (h : RTab w) : 2 ≤ w.heap.size := lt_of_cell (h.cubes 0 (by omega))
theorem RTab.below {w w' : World} {B : Nat} (h : RTab w) (b : Below B w w') (hB : 2 ≤ B) : RTab w' := h.kept fun k hk => b.block k (by omega)
theorem first224_mod : ∀ q, q < 8 → (rootAt (8 + q)).tmod 4294967296 = firstAt 224 q := by decide +kernel
set_option maxHeartbeats 1600000 in
set_option maxRecDepth 100000 in
theorem rfirst224 (w : World) (hT : Hid (RTab w)) :
    Calls Tryd.prog 59 #[.int .i64 224] w fun e w' => e = .returned (.agg (firstE 224).cells.toArray) ∧ Below w.heap.size w w' := by
  have HB0 : Hid (Below w.heap.size w ((w.alloc (.cells #[.int .u64 0, .int .u64 0, .int .u64 0, .int .u64 0, .int .u64 0, .int .u64 0, .int .u64 0, .int .u64 0] 65)).alloc (.cells #[.int .u64 0, .int .u64 0, .int .u64 0, .int .u64 0, .int .u64 0, .int .u64 0, .int .u64 0, .int .u64 0] 65)) ∧ ((w.alloc (.cells #[.int .u64 0, .int .u64 0, .int .u64 0, .int .u64 0, .int .u64 0, .int .u64 0, .int .u64 0, .int .u64 0] 65)).alloc (.cells #[.int .u64 0, .int .u64 0, .int .u64 0, .int .u64 0, .int .u64 0, .int .u64 0, .int .u64 0, .int .u64 0] 65)).there (w.heap.size + 1) 0 8 ∧ ((w.alloc (.cells #[.int .u64 0, .int .u64 0, .int .u64 0, .int .u64 0, .int .u64 0, .int .u64 0, .int .u64 0, .int .u64 0] 65)).alloc (.cells #[.int .u64 0, .int .u64 0, .int .u64 0, .int .u64 0, .int .u64 0, .int .u64 0, .int .u64 0, .int .u64 0] 65)).there w.heap.size 0 8) := ⟨((Below.refl _ _).alloc (Nat.le_refl _) _).alloc (by simp) _, two_there w _ _ 65 65 8 (by decide), World.there_alloc (there_new w _ 65 8 (by decide)) _⟩
  go_enter Tryd.func59, Tryd.ntmps59
  go_wp2
  go_loopw [4] (fun v wr => ∃ q : Nat, q ≤ 8 ∧ v = .int .i64 q ∧ Hid (Below w.heap.size w wr) ∧ Hid (wr.there (w.heap.size + 1) 0 8 ∧ wr.there w.heap.size 0 8) ∧ Hid (∀ j, j < q → wr.cell? ⟨w.heap.size + 1, j, none⟩ = some (.int .u64 (firstAt 224 j)))) (fun v _ => 8 - (intOf v).toNat)
  case atStart => exact ⟨0, by omega, rfl, HB0.out.1, HB0.out.2, fun j hj => by omega⟩
  case round =>
    obtain ⟨q, hq, rfl, HB, HT, HF⟩ := hrel
    clear HB0
    by_cases hlt : q < 8
    · obtain ⟨jj, hjj⟩ : ∃ jj, jj = 8 + q := ⟨_, rfl⟩
      have hTr := hT.out.below HB.out hT.out.size
      have c1 := hTr.roots (jj) (by omega)
      have hql : (q : Int) < 8 := by omega
      have hq0 : (0 : Int) ≤ (q : Int) := by omega
      have e8 : (8 : Int) + (q : Int) = (jj : Int) := by omega
      have e9 : (jj : Int) < 16 := by omega
      have HJ : Hid (jj = 8 + q) := hjj
      clear hjj
      have ff : wr.frozen? ⟨w.heap.size + 1, q, none⟩ = false := by have := (HT.out.1 q hlt).2; rw [Nat.zero_add] at this; exact this
      have fs : (wr.cell? ⟨w.heap.size + 1, q, none⟩).isSome = true := by have := (HT.out.1 q hlt).1; rw [Nat.zero_add] at this; exact this
      obtain ⟨z, hz⟩ := Option.isSome_iff_exists.1 fs
      clear fs hTr
      go_wp2
      go_roundw
      case rel =>
        have hf := fill_step (F := fun j => .int .u64 (firstAt 224 j)) HF.out HT.out.1 hlt (.int .u64 (firstAt 224 q)) rfl
        obtain rfl := HJ.out
        rw [first224_mod q hlt]
        refine ⟨q + 1, by omega, by go_num, HB.out.setCell (by simp) _, ⟨World.there_setCells HT.out.1 _ q [_], World.there_setCells HT.out.2 _ q [_]⟩, hf.1⟩
      case measure => simp [intOf]; omega
    · obtain rfl : q = 8 := by omega
      have HR : Hid (wr.rangeAt (w.heap.size + 1) 0 (firstE 224).cells) := fun j v hv => by
        obtain ⟨hj, rfl⟩ := eightOf_at _ j v hv
        rw [Nat.zero_add]
        exact HF.out j hj
      have HY : Hid (wr.there w.heap.size 0 (firstE 224).cells.toArray.size) := HT.out.2
      have HZ : Hid ((Tryd.prog.info? 65).map (·.size) = some (firstE 224).cells.toArray.size) := size70
      obtain ⟨E, HE⟩ : ∃ E : Eight, Hid (E = firstE 224) := ⟨_, rfl⟩
      rw [← HE.out] at HR HY HZ
      clear HF
      go_wp2_with (first
        | (refine wpList_load_mid (by rfl) 65 (.tmp 3) (by rfl) (w.heap.size + 1) 0 (by rfl) E.cells _ HR.out Tryd.underlying65 rfl size70 ?_)
        | (refine wpList_store_mid (by rfl) 65 (.tmp 2) (.tmp 42) (by rfl) w.heap.size 0 E.cells.toArray (by rfl) (by rfl) HY.out HZ.out (cellsE_one E) ?_)
        | fail)
      have hl := run_loadVar_mid (P := Tryd.prog) (wr.setCells w.heap.size 0 E.cells) w.heap.size 0 65 E.cells _ (World.rangeAt_setCells_same wr w.heap.size 0 E.cells HT.out.2) Tryd.underlying65 rfl size70
      refine bodyPost_ret (v := .agg E.cells.toArray) ?_ rfl ⟨by rw [HE.out], below_setCells _ (Nat.le_refl _) _ _ _ HB.out⟩
      rw [results_cell1 Tryd.results59]
      simp [Act.put, asAddr, hl]

set_option maxHeartbeats 1600000 in
set_option maxRecDepth 100000 in
theorem rfirst256 (w : World) (hT : Hid (RTab w)) :
    Calls Tryd.prog 59 #[.int .i64 256] w fun e w' => e = .returned (.agg (firstE 256).cells.toArray) ∧ Below w.heap.size w w' := by
  have HB0 : Hid (Below w.heap.size w ((w.alloc (.cells #[.int .u64 0, .int .u64 0, .int .u64 0, .int .u64 0, .int .u64 0, .int .u64 0, .int .u64 0, .int .u64 0] 65)).alloc (.cells #[.int .u64 0, .int .u64 0, .int .u64 0, .int .u64 0, .int .u64 0, .int .u64 0, .int .u64 0, .int .u64 0] 65)) ∧ ((w.alloc (.cells #[.int .u64 0, .int .u64 0, .int .u64 0, .int .u64 0, .int .u64 0, .int .u64 0, .int .u64 0, .int .u64 0] 65)).alloc (.cells #[.int .u64 0, .int .u64 0, .int .u64 0, .int .u64 0, .int .u64 0, .int .u64 0, .int .u64 0, .int .u64 0] 65)).there (w.heap.size + 1) 0 8 ∧ ((w.alloc (.cells #[.int .u64 0, .int .u64 0, .int .u64 0, .int .u64 0, .int .u64 0, .int .u64 0, .int .u64 0, .int .u64 0] 65)).alloc (.cells #[.int .u64 0, .int .u64 0, .int .u64 0, .int .u64 0, .int .u64 0, .int .u64 0, .int .u64 0, .int .u64 0] 65)).there w.heap.size 0 8) := ⟨((Below.refl _ _).alloc (Nat.le_refl _) _).alloc (by simp) _, two_there w _ _ 65 65 8 (by decide), World.there_alloc (there_new w _ 65 8 (by decide)) _⟩
  go_enter Tryd.func59, Tryd.ntmps59
  go_wp2
  go_loopw [4] (fun v wr => ∃ q : Nat, q ≤ 8 ∧ v = .int .i64 q ∧ Hid (Below w.heap.size w wr) ∧ Hid (wr.there (w.heap.size + 1) 0 8 ∧ wr.there w.heap.size 0 8) ∧ Hid (∀ j, j < q → wr.cell? ⟨w.heap.size + 1, j, none⟩ = some (.int .u64 (firstAt 256 j)))) (fun v _ => 8 - (intOf v).toNat)
  case atStart => exact ⟨0, by omega, rfl, HB0.out.1, HB0.out.2, fun j hj => by omega⟩
  case round =>
    obtain ⟨q, hq, rfl, HB, HT, HF⟩ := hrel
    clear HB0
    by_cases hlt : q < 8
    · obtain ⟨jj, hjj⟩ : ∃ jj, jj = 8 + q := ⟨_, rfl⟩
      have hTr := hT.out.below HB.out hT.out.size
      have c1 := hTr.roots (q) (by omega)
      have hql : (q : Int) < 8 := by omega
      have hq0 : (0 : Int) ≤ (q : Int) := by omega
      skip
      have ff : wr.frozen? ⟨w.heap.size + 1, q, none⟩ = false := by have := (HT.out.1 q hlt).2; rw [Nat.zero_add] at this; exact this
      have fs : (wr.cell? ⟨w.heap.size + 1, q, none⟩).isSome = true := by have := (HT.out.1 q hlt).1; rw [Nat.zero_add] at this; exact this
      obtain ⟨z, hz⟩ := Option.isSome_iff_exists.1 fs
      clear fs hTr
      go_wp2
      go_roundw
      case rel =>
        have hf := fill_step (F := fun j => .int .u64 (firstAt 256 j)) HF.out HT.out.1 hlt (.int .u64 (firstAt 256 q)) rfl
        skip
        refine ⟨q + 1, by omega, by go_num, HB.out.setCell (by simp) _, ⟨World.there_setCells HT.out.1 _ q [_], World.there_setCells HT.out.2 _ q [_]⟩, hf.1⟩
      case measure => simp [intOf]; omega
    · obtain rfl : q = 8 := by omega
      have HR : Hid (wr.rangeAt (w.heap.size + 1) 0 (firstE 256).cells) := fun j v hv => by
        obtain ⟨hj, rfl⟩ := eightOf_at _ j v hv
        rw [Nat.zero_add]
        exact HF.out j hj
      have HY : Hid (wr.there w.heap.size 0 (firstE 256).cells.toArray.size) := HT.out.2
      have HZ : Hid ((Tryd.prog.info? 65).map (·.size) = some (firstE 256).cells.toArray.size) := size70
      obtain ⟨E, HE⟩ : ∃ E : Eight, Hid (E = firstE 256) := ⟨_, rfl⟩
      rw [← HE.out] at HR HY HZ
      clear HF
      go_wp2_with (first
        | (refine wpList_load_mid (by rfl) 65 (.tmp 3) (by rfl) (w.heap.size + 1) 0 (by rfl) E.cells _ HR.out Tryd.underlying65 rfl size70 ?_)
        | (refine wpList_store_mid (by rfl) 65 (.tmp 2) (.tmp 42) (by rfl) w.heap.size 0 E.cells.toArray (by rfl) (by rfl) HY.out HZ.out (cellsE_one E) ?_)
        | fail)
      have hl := run_loadVar_mid (P := Tryd.prog) (wr.setCells w.heap.size 0 E.cells) w.heap.size 0 65 E.cells _ (World.rangeAt_setCells_same wr w.heap.size 0 E.cells HT.out.2) Tryd.underlying65 rfl size70
      refine bodyPost_ret (v := .agg E.cells.toArray) ?_ rfl ⟨by rw [HE.out], below_setCells _ (Nat.le_refl _) _ _ _ HB.out⟩
      rw [results_cell1 Tryd.results59]
      simp [Act.put, asAddr, hl]

set_option maxHeartbeats 1600000 in
set_option maxRecDepth 100000 in
theorem rfirst384 (w : World) (hT : Hid (RTab w)) :
    Calls Tryd.prog 59 #[.int .i64 384] w fun e w' => e = .returned (.agg (firstE 384).cells.toArray) ∧ Below w.heap.size w w' := by
  have HB0 : Hid (Below w.heap.size w ((w.alloc (.cells #[.int .u64 0, .int .u64 0, .int .u64 0, .int .u64 0, .int .u64 0, .int .u64 0, .int .u64 0, .int .u64 0] 65)).alloc (.cells #[.int .u64 0, .int .u64 0, .int .u64 0, .int .u64 0, .int .u64 0, .int .u64 0, .int .u64 0, .int .u64 0] 65)) ∧ ((w.alloc (.cells #[.int .u64 0, .int .u64 0, .int .u64 0, .int .u64 0, .int .u64 0, .int .u64 0, .int .u64 0, .int .u64 0] 65)).alloc (.cells #[.int .u64 0, .int .u64 0, .int .u64 0, .int .u64 0, .int .u64 0, .int .u64 0, .int .u64 0, .int .u64 0] 65)).there (w.heap.size + 1) 0 8 ∧ ((w.alloc (.cells #[.int .u64 0, .int .u64 0, .int .u64 0, .int .u64 0, .int .u64 0, .int .u64 0, .int .u64 0, .int .u64 0] 65)).alloc (.cells #[.int .u64 0, .int .u64 0, .int .u64 0, .int .u64 0, .int .u64 0, .int .u64 0, .int .u64 0, .int .u64 0] 65)).there w.heap.size 0 8) := ⟨((Below.refl _ _).alloc (Nat.le_refl _) _).alloc (by simp) _, two_there w _ _ 65 65 8 (by decide), World.there_alloc (there_new w _ 65 8 (by decide)) _⟩
  go_enter Tryd.func59, Tryd.ntmps59
  go_wp2
  go_loopw [4] (fun v wr => ∃ q : Nat, q ≤ 8 ∧ v = .int .i64 q ∧ Hid (Below w.heap.size w wr) ∧ Hid (wr.there (w.heap.size + 1) 0 8 ∧ wr.there w.heap.size 0 8) ∧ Hid (∀ j, j < q → wr.cell? ⟨w.heap.size + 1, j, none⟩ = some (.int .u64 (firstAt 384 j)))) (fun v _ => 8 - (intOf v).toNat)
  case atStart => exact ⟨0, by omega, rfl, HB0.out.1, HB0.out.2, fun j hj => by omega⟩
  case round =>
    obtain ⟨q, hq, rfl, HB, HT, HF⟩ := hrel
    clear HB0
    by_cases hlt : q < 8
    · obtain ⟨jj, hjj⟩ : ∃ jj, jj = 8 + q := ⟨_, rfl⟩
      have hTr := hT.out.below HB.out hT.out.size
      have c1 := hTr.roots (jj) (by omega)
      have hql : (q : Int) < 8 := by omega
      have hq0 : (0 : Int) ≤ (q : Int) := by omega
      have e8 : (8 : Int) + (q : Int) = (jj : Int) := by omega
      have e9 : (jj : Int) < 16 := by omega
      have HJ : Hid (jj = 8 + q) := hjj
      clear hjj
      have ff : wr.frozen? ⟨w.heap.size + 1, q, none⟩ = false := by have := (HT.out.1 q hlt).2; rw [Nat.zero_add] at this; exact this
      have fs : (wr.cell? ⟨w.heap.size + 1, q, none⟩).isSome = true := by have := (HT.out.1 q hlt).1; rw [Nat.zero_add] at this; exact this
      obtain ⟨z, hz⟩ := Option.isSome_iff_exists.1 fs
      clear fs hTr
      go_wp2
      go_roundw
      case rel =>
        have hf := fill_step (F := fun j => .int .u64 (firstAt 384 j)) HF.out HT.out.1 hlt (.int .u64 (firstAt 384 q)) rfl
        obtain rfl := HJ.out
        refine ⟨q + 1, by omega, by go_num, HB.out.setCell (by simp) _, ⟨World.there_setCells HT.out.1 _ q [_], World.there_setCells HT.out.2 _ q [_]⟩, hf.1⟩
      case measure => simp [intOf]; omega
    · obtain rfl : q = 8 := by omega
      have HR : Hid (wr.rangeAt (w.heap.size + 1) 0 (firstE 384).cells) := fun j v hv => by
        obtain ⟨hj, rfl⟩ := eightOf_at _ j v hv
        rw [Nat.zero_add]
        exact HF.out j hj
      have HY : Hid (wr.there w.heap.size 0 (firstE 384).cells.toArray.size) := HT.out.2
      have HZ : Hid ((Tryd.prog.info? 65).map (·.size) = some (firstE 384).cells.toArray.size) := size70
      obtain ⟨E, HE⟩ : ∃ E : Eight, Hid (E = firstE 384) := ⟨_, rfl⟩
      rw [← HE.out] at HR HY HZ
      clear HF
      go_wp2_with (first
        | (refine wpList_load_mid (by rfl) 65 (.tmp 3) (by rfl) (w.heap.size + 1) 0 (by rfl) E.cells _ HR.out Tryd.underlying65 rfl size70 ?_)
        | (refine wpList_store_mid (by rfl) 65 (.tmp 2) (.tmp 42) (by rfl) w.heap.size 0 E.cells.toArray (by rfl) (by rfl) HY.out HZ.out (cellsE_one E) ?_)
        | fail)
      have hl := run_loadVar_mid (P := Tryd.prog) (wr.setCells w.heap.size 0 E.cells) w.heap.size 0 65 E.cells _ (World.rangeAt_setCells_same wr w.heap.size 0 E.cells HT.out.2) Tryd.underlying65 rfl size70
      refine bodyPost_ret (v := .agg E.cells.toArray) ?_ rfl ⟨by rw [HE.out], below_setCells _ (Nat.le_refl _) _ _ _ HB.out⟩
      rw [results_cell1 Tryd.results59]
      simp [Act.put, asAddr, hl]

set_option maxHeartbeats 1600000 in
set_option maxRecDepth 100000 in
theorem rfirst512 (w : World) (hT : Hid (RTab w)) :
    Calls Tryd.prog 59 #[.int .i64 512] w fun e w' => e = .returned (.agg (firstE 512).cells.toArray) ∧ Below w.heap.size w w' := by
  have HB0 : Hid (Below w.heap.size w ((w.alloc (.cells #[.int .u64 0, .int .u64 0, .int .u64 0, .int .u64 0, .int .u64 0, .int .u64 0, .int .u64 0, .int .u64 0] 65)).alloc (.cells #[.int .u64 0, .int .u64 0, .int .u64 0, .int .u64 0, .int .u64 0, .int .u64 0, .int .u64 0, .int .u64 0] 65)) ∧ ((w.alloc (.cells #[.int .u64 0, .int .u64 0, .int .u64 0, .int .u64 0, .int .u64 0, .int .u64 0, .int .u64 0, .int .u64 0] 65)).alloc (.cells #[.int .u64 0, .int .u64 0, .int .u64 0, .int .u64 0, .int .u64 0, .int .u64 0, .int .u64 0, .int .u64 0] 65)).there (w.heap.size + 1) 0 8 ∧ ((w.alloc (.cells #[.int .u64 0, .int .u64 0, .int .u64 0, .int .u64 0, .int .u64 0, .int .u64 0, .int .u64 0, .int .u64 0] 65)).alloc (.cells #[.int .u64 0, .int .u64 0, .int .u64 0, .int .u64 0, .int .u64 0, .int .u64 0, .int .u64 0, .int .u64 0] 65)).there w.heap.size 0 8) := ⟨((Below.refl _ _).alloc (Nat.le_refl _) _).alloc (by simp) _, two_there w _ _ 65 65 8 (by decide), World.there_alloc (there_new w _ 65 8 (by decide)) _⟩
  go_enter Tryd.func59, Tryd.ntmps59
  go_wp2
  go_loopw [4] (fun v wr => ∃ q : Nat, q ≤ 8 ∧ v = .int .i64 q ∧ Hid (Below w.heap.size w wr) ∧ Hid (wr.there (w.heap.size + 1) 0 8 ∧ wr.there w.heap.size 0 8) ∧ Hid (∀ j, j < q → wr.cell? ⟨w.heap.size + 1, j, none⟩ = some (.int .u64 (firstAt 512 j)))) (fun v _ => 8 - (intOf v).toNat)
  case atStart => exact ⟨0, by omega, rfl, HB0.out.1, HB0.out.2, fun j hj => by omega⟩
  case round =>
    obtain ⟨q, hq, rfl, HB, HT, HF⟩ := hrel
    clear HB0
    by_cases hlt : q < 8
    · obtain ⟨jj, hjj⟩ : ∃ jj, jj = 8 + q := ⟨_, rfl⟩
      have hTr := hT.out.below HB.out hT.out.size
      have c1 := hTr.roots (q) (by omega)
      have hql : (q : Int) < 8 := by omega
      have hq0 : (0 : Int) ≤ (q : Int) := by omega
      skip
      have ff : wr.frozen? ⟨w.heap.size + 1, q, none⟩ = false := by have := (HT.out.1 q hlt).2; rw [Nat.zero_add] at this; exact this
      have fs : (wr.cell? ⟨w.heap.size + 1, q, none⟩).isSome = true := by have := (HT.out.1 q hlt).1; rw [Nat.zero_add] at this; exact this
      obtain ⟨z, hz⟩ := Option.isSome_iff_exists.1 fs
      clear fs hTr
      go_wp2
      go_roundw
      case rel =>
        have hf := fill_step (F := fun j => .int .u64 (firstAt 512 j)) HF.out HT.out.1 hlt (.int .u64 (firstAt 512 q)) rfl
        skip
        refine ⟨q + 1, by omega, by go_num, HB.out.setCell (by simp) _, ⟨World.there_setCells HT.out.1 _ q [_], World.there_setCells HT.out.2 _ q [_]⟩, hf.1⟩
      case measure => simp [intOf]; omega
    · obtain rfl : q = 8 := by omega
      have HR : Hid (wr.rangeAt (w.heap.size + 1) 0 (firstE 512).cells) := fun j v hv => by
        obtain ⟨hj, rfl⟩ := eightOf_at _ j v hv
        rw [Nat.zero_add]
        exact HF.out j hj
      have HY : Hid (wr.there w.heap.size 0 (firstE 512).cells.toArray.size) := HT.out.2
      have HZ : Hid ((Tryd.prog.info? 65).map (·.size) = some (firstE 512).cells.toArray.size) := size70
      obtain ⟨E, HE⟩ : ∃ E : Eight, Hid (E = firstE 512) := ⟨_, rfl⟩
      rw [← HE.out] at HR HY HZ
      clear HF
      go_wp2_with (first
        | (refine wpList_load_mid (by rfl) 65 (.tmp 3) (by rfl) (w.heap.size + 1) 0 (by rfl) E.cells _ HR.out Tryd.underlying65 rfl size70 ?_)
        | (refine wpList_store_mid (by rfl) 65 (.tmp 2) (.tmp 42) (by rfl) w.heap.size 0 E.cells.toArray (by rfl) (by rfl) HY.out HZ.out (cellsE_one E) ?_)
        | fail)
      have hl := run_loadVar_mid (P := Tryd.prog) (wr.setCells w.heap.size 0 E.cells) w.heap.size 0 65 E.cells _ (World.rangeAt_setCells_same wr w.heap.size 0 E.cells HT.out.2) Tryd.underlying65 rfl size70
      refine bodyPost_ret (v := .agg E.cells.toArray) ?_ rfl ⟨by rw [HE.out], below_setCells _ (Nat.le_refl _) _ _ _ HB.out⟩
      rw [results_cell1 Tryd.results59]
      simp [Act.put, asAddr, hl]


/-- first. -/
theorem rfirst_any {h : Int} (k : Known h) (w : World) (hT : Hid (RTab w)) : Calls Tryd.prog 59 #[.int .i64 h] w fun e w' => e = .returned (.agg (firstE h).cells.toArray) ∧ Below w.heap.size w w' := by
  rcases k with rfl | rfl | rfl | rfl
  · exact rfirst224 w hT
  · exact rfirst256 w hT
  · exact rfirst384 w hT
  · exact rfirst512 w hT
theorem rblock_ok (h : Int) (k : Known h) (w : World) : Calls Tryd.prog 40 #[.int .i64 h] w fun e w' => e = .returned (.int .i64 (bsz (wdOf h))) ∧ w' = w := by
  rcases k with rfl | rfl | rfl | rfl
  all_goals
    go_enter Tryd.func40, Tryd.ntmps40
    go_wp2
    go_ret
    exact ⟨rfl, rfl⟩
theorem rsize_ok (h : Int) (k : Known h) (w : World) : Calls Tryd.prog 16 #[.int .i64 h] w fun e w' => e = .returned (.int .i64 (szOf h)) ∧ w' = w := by
  rcases k with rfl | rfl | rfl | rfl
  all_goals
    go_enter Tryd.func16, Tryd.ntmps16
    go_wp2
    go_ret
    exact ⟨rfl, rfl⟩
theorem rsize_bad (h : Int) (k : ¬ Known h) (w : World) : Calls Tryd.prog 16 #[.int .i64 h] w fun e w' => e = .returned (.int .i64 0) ∧ w' = w := by
  have d1 : ¬ h = 224 := fun e => k (.inl e)
  have d2 : ¬ h = 256 := fun e => k (.inr (.inl e))
  have d3 : ¬ h = 384 := fun e => k (.inr (.inr (.inl e)))
  have d4 : ¬ h = 512 := fun e => k (.inr (.inr (.inr e)))
  clear k
  go_enter Tryd.func16, Tryd.ntmps16
  go_wp2
  go_ret
  exact ⟨rfl, rfl⟩
end Go.Proofs.YtioggmjocelolacDoor
namespace Go.Proofs.YtioggmjocelolacDoor
open Go.RowKit
set_option linter.unusedVariables false
set_option linter.unusedSimpArgs false
theorem zero_arr {n : Nat} {Z : Array Value} {v : Value} (h : Z = Array.replicate n v) (j : Nat) (hj : j < n) : Z[j]? = some v := by
  rw [h]
  simp [hj]
def Kof (C : Nat → Int) (t : Nat) : Option Value := if t < 64 then some (.int .u32 (C t / 4294967296)) else none
theorem rot_or32 (x : Int) (a b s : Nat) (hb : b = 32 - s) (ha : a = s) : bits .or .u32 (x / 2 ^ b) (x * 2 ^ a % 4294967296) = rotl32 x s := by
  subst hb ha
  rw [rotl32, or_comm32]
/-- The step of the schedule, and of the rounds, as the document's answer writes them. -/
theorem lo0_or32 (x : Int) : bits .xor .u32 (bits .xor .u32 (bits .or .u32 (x / 128) (x * 33554432 % 4294967296)) (bits .or .u32 (x / 262144) (x * 16384 % 4294967296))) (x / 8) = lo0_32 x := by
  have h1 := rot_or32 x 25 7 25 rfl rfl
  have h2 := rot_or32 x 14 18 14 rfl rfl
  simp only [Int.reducePow] at h1 h2
  rw [h1, h2, lo0_32]
theorem lo1_or32 (x : Int) : bits .xor .u32 (bits .xor .u32 (bits .or .u32 (x / 131072) (x * 32768 % 4294967296)) (bits .or .u32 (x / 524288) (x * 8192 % 4294967296))) (x / 1024) = lo1_32 x := by
  have h1 := rot_or32 x 15 17 15 rfl rfl
  have h2 := rot_or32 x 13 19 13 rfl rfl
  simp only [Int.reducePow] at h1 h2
  rw [h1, h2, lo1_32]
theorem S1_or32 (x : Int) : bits .xor .u32 (bits .xor .u32 (bits .or .u32 (x / 64) (x * 67108864 % 4294967296)) (bits .or .u32 (x / 2048) (x * 2097152 % 4294967296))) (bits .or .u32 (x / 33554432) (x * 128 % 4294967296)) = bits .xor .u32 (bits .xor .u32 (rotl32 x 26) (rotl32 x 21)) (rotl32 x 7) := by
  have h1 := rot_or32 x 26 6 26 rfl rfl
  have h2 := rot_or32 x 21 11 21 rfl rfl
  have h3 := rot_or32 x 7 25 7 rfl rfl
  simp only [Int.reducePow] at h1 h2 h3
  rw [h1, h2, h3]
theorem S0_or32 (x : Int) : bits .xor .u32 (bits .xor .u32 (bits .or .u32 (x / 4) (x * 1073741824 % 4294967296)) (bits .or .u32 (x / 8192) (x * 524288 % 4294967296))) (bits .or .u32 (x / 4194304) (x * 1024 % 4294967296)) = bits .xor .u32 (bits .xor .u32 (rotl32 x 30) (rotl32 x 19)) (rotl32 x 10) := by
  have h1 := rot_or32 x 30 2 30 rfl rfl
  have h2 := rot_or32 x 19 13 19 rfl rfl
  have h3 := rot_or32 x 10 22 10 rfl rfl
  simp only [Int.reducePow] at h1 h2 h3
  rw [h1, h2, h3]
def Eight.cells32 (s : Eight) : List Value := s.list.map (Value.int .u32)
theorem cells32_one (s : Eight) : s.cells32.toArray.all (·.oneCell') = true := all_oneCell_toArray (by
  intro v hv
  simp only [Eight.cells32, List.mem_map] at hv
  obtain ⟨x, _, rfl⟩ := hv
  rfl)
theorem size94 : (Tryd.prog.info? 117).map (·.size) = some 8 := by kernel_rfl
set_option maxHeartbeats 3200000 in
set_option maxRecDepth 100000 in
theorem taken32_walk (h0 h1 h2 h3 h4 h5 h6 h7 : Int) (Kc : Array Value) (C B : Nat → Int) (b p cap : Nat) (w : World) (hK : ∀ t, t < 64 → Kc[t]? = some (.int .u32 (C t / 4294967296)))
    (hcap : 64 ≤ cap) (hcm : cap ≤ 9223372036854775807) (hB : ∀ i, i < 64 → w.cell? ⟨b, p + i, none⟩ = some (.int .u8 (B i))) :
    Calls Tryd.prog 76 #[.agg #[.int .u32 h0, .int .u32 h1, .int .u32 h2, .int .u32 h3, .int .u32 h4, .int .u32 h5, .int .u32 h6, .int .u32 h7], .slice (some ⟨b, p, none⟩) 64 cap, .agg Kc] w fun e w' =>
      e = .returned (.agg (Eight.cells32 (Eight.zip (fun h x => (h + x) % 4294967296) ⟨h0, h1, h2, h3, h4, h5, h6, h7⟩ (rounds32 C (sched32 B) 64 ⟨h0, h1, h2, h3, h4, h5, h6, h7⟩))).toArray) ∧ Below w.heap.size w w' := by
  have hbw : b < w.heap.size := lt_of_cell (hB 0 (by omega))
  have HB : Hid (∀ i, i < 64 → w.cell? ⟨b, p + i, none⟩ = some (.int .u8 (B i))) := hB
  have HK : Hid (∀ t v, Kof C t = some v → Kc[t]? = some v) := fun t v hv => by
    unfold Kof at hv
    split at hv
    · rename_i ht
      rw [hK t ht]
      exact hv
    · cases hv
  clear hB hK
  go_enter Tryd.func76, Tryd.ntmps76
  go_wp2
  go_loopw [8] (fun v wr => ∃ t : Nat, t ≤ 16 ∧ v = .int .i64 t ∧ Hid (TX w wr [.int .u32 h0, .int .u32 h1, .int .u32 h2, .int .u32 h3, .int .u32 h4, .int .u32 h5, .int .u32 h6, .int .u32 h7] (Kof C) (w.heap.size + 2) (w.heap.size + 3) 64 (fun j => .int .u32 (if j < t then sched32 B j else 0)))) (fun v _ => 16 - (intOf v).toNat)
  case atStart => exact ⟨0, by omega, rfl, tx_new4 w _ _ _ _ _ _ _ _ _ _ _ (by rfl) (by rfl) HK.out (fun j hj => by rw [if_neg (by omega)]; exact zero_arr (by rfl) j hj)⟩
  case round =>
    obtain ⟨t, ht, rfl, HX⟩ := hrel
    by_cases h16 : t < 16
    · have f0 : wr.cell? ⟨b, p + 4 * t, none⟩ = some (.int .u8 (B (4 * t))) := by rw [HX.out.below.cell hbw]; exact HB.out (4 * t) (by omega)
      have f1 : wr.cell? ⟨b, p + (4 * t + 1), none⟩ = some (.int .u8 (B (4 * t + 1))) := by rw [HX.out.below.cell hbw]; exact HB.out (4 * t + 1) (by omega)
      have f2 : wr.cell? ⟨b, p + (4 * t + 2), none⟩ = some (.int .u8 (B (4 * t + 2))) := by rw [HX.out.below.cell hbw]; exact HB.out (4 * t + 2) (by omega)
      have f3 : wr.cell? ⟨b, p + (4 * t + 3), none⟩ = some (.int .u8 (B (4 * t + 3))) := by rw [HX.out.below.cell hbw]; exact HB.out (4 * t + 3) (by omega)
      have fw : wr.frozen? ⟨w.heap.size + 3, t, none⟩ = false := by simpa using (HX.out.wth t (by omega)).2
      obtain ⟨u, fu⟩ : ∃ u, wr.cell? ⟨w.heap.size + 3, t, none⟩ = some u := ⟨_, HX.out.fill t (by omega)⟩
      go_wp2
      go_region
      go_wp2
      go_roundw
      case rel =>
        refine ⟨t + 1, by omega, by go_num, ((HX.out.put t (by omega) (.int .u32 (word32 B t))).drew).congr fun j hj => ?_⟩
        by_cases e : j = t
        · subst e
          rw [if_pos rfl, if_pos (by omega), sched32, if_pos h16]
        · rw [if_neg e]
          by_cases e2 : j < t
          · rw [if_pos e2, if_pos (by omega)]
          · rw [if_neg e2, if_neg (by omega)]
      case measure => simp [intOf]; omega
    · obtain rfl : t = 16 := by omega
      clear h16 ht HB
      go_wp2
      go_loopw [9] (fun v wr => ∃ t : Nat, t ≤ 48 ∧ v = .int .i64 (16 + (t : Int)) ∧ Hid (TX w wr [.int .u32 h0, .int .u32 h1, .int .u32 h2, .int .u32 h3, .int .u32 h4, .int .u32 h5, .int .u32 h6, .int .u32 h7] (Kof C) (w.heap.size + 2) (w.heap.size + 3) 64 (fun j => .int .u32 (if j < 16 + t then sched32 B j else 0)))) (fun v _ => 64 - (intOf v).toNat)
      case atStart => exact ⟨0, by omega, rfl, HX⟩
      case round =>
        obtain ⟨t, ht, rfl, HX2⟩ := hrel
        clear HX
        by_cases h48 : t < 48
        · have f2 : wr.cell? ⟨w.heap.size + 3, t + 14, none⟩ = some (.int .u32 (sched32 B (t + 14))) := by rw [HX2.out.fill _ (by omega), if_pos (by omega)]
          have f15 : wr.cell? ⟨w.heap.size + 3, t + 1, none⟩ = some (.int .u32 (sched32 B (t + 1))) := by rw [HX2.out.fill _ (by omega), if_pos (by omega)]
          have f7 : wr.cell? ⟨w.heap.size + 3, t + 9, none⟩ = some (.int .u32 (sched32 B (t + 9))) := by rw [HX2.out.fill _ (by omega), if_pos (by omega)]
          have f16 : wr.cell? ⟨w.heap.size + 3, t, none⟩ = some (.int .u32 (sched32 B t)) := by rw [HX2.out.fill _ (by omega), if_pos (by omega)]
          have fw : wr.frozen? ⟨w.heap.size + 3, t + 16, none⟩ = false := by simpa using (HX2.out.wth (t + 16) (by omega)).2
          obtain ⟨u, fu⟩ : ∃ u, wr.cell? ⟨w.heap.size + 3, t + 16, none⟩ = some u := ⟨_, HX2.out.fill (t + 16) (by omega)⟩
          have e2 : (16 + (t : Int) - 2).toNat = t + 14 := by omega
          have e15 : (16 + (t : Int) - 15).toNat = t + 1 := by omega
          have e7 : (16 + (t : Int) - 7).toNat = t + 9 := by omega
          have e16 : (16 + (t : Int) - 16).toNat = t := by omega
          have e0 : (16 + (t : Int)).toNat = t + 16 := by omega
          go_wp2
          go_region
          go_wp2
          go_roundw
          case rel =>
            have hv : sched32 B (t + 16) = (lo1_32 (sched32 B (t + 14)) + sched32 B (t + 9) + lo0_32 (sched32 B (t + 1)) + sched32 B t) % 4294967296 := by
              rw [sched32, if_neg (by omega)]
              rw [show t + 16 - 2 = t + 14 by omega, show t + 16 - 7 = t + 9 by omega, show t + 16 - 15 = t + 1 by omega, show t + 16 - 16 = t by omega]
            rw [lo0_or32, lo1_or32]
            refine ⟨t + 1, by omega, by go_num, ((HX2.out.put (t + 16) (by omega) _).drew).congr fun j hj => ?_⟩
            by_cases e : j = t + 16
            · subst e
              rw [if_pos rfl, if_pos (by omega), hv]
            · rw [if_neg e]
              by_cases e2 : j < 16 + t
              · rw [if_pos e2, if_pos (by omega)]
              · rw [if_neg e2, if_neg (by omega)]
          case measure => simp [intOf]; omega
        · obtain rfl : t = 48 := by omega
          clear h48 ht
          have HX3 : Hid (TX w wr [.int .u32 h0, .int .u32 h1, .int .u32 h2, .int .u32 h3, .int .u32 h4, .int .u32 h5, .int .u32 h6, .int .u32 h7] (Kof C) (w.heap.size + 2) (w.heap.size + 3) 64 (fun j => .int .u32 (sched32 B j))) := HX2.out.congr fun j hj => by rw [if_pos (by omega)]
          clear HX2
          have c0 : wr.cell? ⟨w.heap.size, 0, none⟩ = some (.int .u32 h0) := by simpa using HX3.out.h 0 _ rfl
          have c1 : wr.cell? ⟨w.heap.size, 1, none⟩ = some (.int .u32 h1) := by simpa using HX3.out.h 1 _ rfl
          have c2 : wr.cell? ⟨w.heap.size, 2, none⟩ = some (.int .u32 h2) := by simpa using HX3.out.h 2 _ rfl
          have c3 : wr.cell? ⟨w.heap.size, 3, none⟩ = some (.int .u32 h3) := by simpa using HX3.out.h 3 _ rfl
          have c4 : wr.cell? ⟨w.heap.size, 4, none⟩ = some (.int .u32 h4) := by simpa using HX3.out.h 4 _ rfl
          have c5 : wr.cell? ⟨w.heap.size, 5, none⟩ = some (.int .u32 h5) := by simpa using HX3.out.h 5 _ rfl
          have c6 : wr.cell? ⟨w.heap.size, 6, none⟩ = some (.int .u32 h6) := by simpa using HX3.out.h 6 _ rfl
          have c7 : wr.cell? ⟨w.heap.size, 7, none⟩ = some (.int .u32 h7) := by simpa using HX3.out.h 7 _ rfl
          go_wp2
          go_quiet (fail)
          go_wp2
          go_quiet (fail)
          go_wp2
          clear c0 c1 c2 c3 c4 c5 c6 c7
          go_loopw [14, 15, 16, 17, 18, 19, 20, 21, 22] (fun va vb vc vd ve vf vg vk i wr => ∃ t : Nat, ∃ s : Eight, t ≤ 64 ∧ i = .int .i64 t ∧ va = .int .u32 s.a ∧ vb = .int .u32 s.b ∧ vc = .int .u32 s.c ∧ vd = .int .u32 s.d ∧ ve = .int .u32 s.e ∧ vf = .int .u32 s.f ∧ vg = .int .u32 s.g ∧ vk = .int .u32 s.k ∧ Hid (s = rounds32 C (sched32 B) t ⟨h0, h1, h2, h3, h4, h5, h6, h7⟩) ∧ Hid (TX w wr [.int .u32 h0, .int .u32 h1, .int .u32 h2, .int .u32 h3, .int .u32 h4, .int .u32 h5, .int .u32 h6, .int .u32 h7] (Kof C) (w.heap.size + 2) (w.heap.size + 3) 64 (fun j => .int .u32 (sched32 B j)))) (fun _ _ _ _ _ _ _ _ i _ => 64 - (intOf i).toNat)
          case atStart => exact ⟨0, ⟨h0, h1, h2, h3, h4, h5, h6, h7⟩, by omega, rfl, rfl, rfl, rfl, rfl, rfl, rfl, rfl, rfl, rfl, (HX3.out.drewN _).drewN _⟩
          case round =>
            obtain ⟨t, ⟨a, b, c, d, e, f, g1, k⟩, ht, rfl, rfl, rfl, rfl, rfl, rfl, rfl, rfl, rfl, HS, HX4⟩ := hrel
            clear HX3
            by_cases hlt : t < 64
            · have hw : wr.cell? ⟨w.heap.size + 3, t, none⟩ = some (.int .u32 (sched32 B t)) := HX4.out.fill t hlt
              have hc : wr.cell? ⟨w.heap.size + 1, t, none⟩ = some (.int .u32 (C t / 4294967296)) := HX4.out.k t _ (by rw [Kof, if_pos hlt])
              go_wp2
              go_quiet (fail)
              go_wp2
              go_roundw
              case rel =>
                rw [S1_or32, S0_or32, ch32, maj32]
                refine ⟨t + 1, round32 ⟨a, b, c, d, e, f, g1, k⟩ (C t) (sched32 B t), by omega, by go_num, rfl, rfl, rfl, rfl, rfl, rfl, rfl, rfl, ?_, HX4.out.drewN _⟩
                have := HS.out
                rw [this]
                exact rfl
              case measure => simp [intOf]; omega
            · obtain rfl : t = 64 := by omega
              clear hlt ht
              obtain ⟨E, HE⟩ : ∃ E : Eight, E = ⟨((h0 + a) % 4294967296), ((h1 + b) % 4294967296), ((h2 + c) % 4294967296), ((h3 + d) % 4294967296), ((h4 + e) % 4294967296), ((h5 + f) % 4294967296), ((h6 + g1) % 4294967296), ((h7 + k) % 4294967296)⟩ := ⟨_, rfl⟩
              have HEE : Hid (Eight.zip (fun h x => (h + x) % 4294967296) ⟨h0, h1, h2, h3, h4, h5, h6, h7⟩ (rounds32 C (sched32 B) 64 ⟨h0, h1, h2, h3, h4, h5, h6, h7⟩) = ⟨((h0 + a) % 4294967296), ((h1 + b) % 4294967296), ((h2 + c) % 4294967296), ((h3 + d) % 4294967296), ((h4 + e) % 4294967296), ((h5 + f) % 4294967296), ((h6 + g1) % 4294967296), ((h7 + k) % 4294967296)⟩) := by
                rw [← HS.out]
                exact rfl
              clear HS HE E
              have c0 : wr.cell? ⟨w.heap.size, 0, none⟩ = some (.int .u32 h0) := by simpa using HX4.out.h 0 _ rfl
              have c1 : wr.cell? ⟨w.heap.size, 1, none⟩ = some (.int .u32 h1) := by simpa using HX4.out.h 1 _ rfl
              have c2 : wr.cell? ⟨w.heap.size, 2, none⟩ = some (.int .u32 h2) := by simpa using HX4.out.h 2 _ rfl
              have c3 : wr.cell? ⟨w.heap.size, 3, none⟩ = some (.int .u32 h3) := by simpa using HX4.out.h 3 _ rfl
              have c4 : wr.cell? ⟨w.heap.size, 4, none⟩ = some (.int .u32 h4) := by simpa using HX4.out.h 4 _ rfl
              have c5 : wr.cell? ⟨w.heap.size, 5, none⟩ = some (.int .u32 h5) := by simpa using HX4.out.h 5 _ rfl
              have c6 : wr.cell? ⟨w.heap.size, 6, none⟩ = some (.int .u32 h6) := by simpa using HX4.out.h 6 _ rfl
              have c7 : wr.cell? ⟨w.heap.size, 7, none⟩ = some (.int .u32 h7) := by simpa using HX4.out.h 7 _ rfl
              go_wp2_with (first
                | (refine wpList_store_mid (by rfl) 117 (.tmp 6) (.tmp 252) (by rfl) (w.heap.size + 2) 0 (Eight.cells32 ⟨((h0 + a) % 4294967296), ((h1 + b) % 4294967296), ((h2 + c) % 4294967296), ((h3 + d) % 4294967296), ((h4 + e) % 4294967296), ((h5 + f) % 4294967296), ((h6 + g1) % 4294967296), ((h7 + k) % 4294967296)⟩).toArray (by rfl) (by rfl) HX4.out.res size94 (cells32_one _) ?_)
                | fail)
              have hl := run_loadVar_mid (P := Tryd.prog) (wr.setCells (w.heap.size + 2) 0 (Eight.cells32 ⟨((h0 + a) % 4294967296), ((h1 + b) % 4294967296), ((h2 + c) % 4294967296), ((h3 + d) % 4294967296), ((h4 + e) % 4294967296), ((h5 + f) % 4294967296), ((h6 + g1) % 4294967296), ((h7 + k) % 4294967296)⟩)) (w.heap.size + 2) 0 117 (Eight.cells32 ⟨((h0 + a) % 4294967296), ((h1 + b) % 4294967296), ((h2 + c) % 4294967296), ((h3 + d) % 4294967296), ((h4 + e) % 4294967296), ((h5 + f) % 4294967296), ((h6 + g1) % 4294967296), ((h7 + k) % 4294967296)⟩) _ (World.rangeAt_setCells_same wr (w.heap.size + 2) 0 _ HX4.out.res) Tryd.underlying117 rfl size94
              refine bodyPost_ret (v := .agg (Eight.cells32 ⟨((h0 + a) % 4294967296), ((h1 + b) % 4294967296), ((h2 + c) % 4294967296), ((h3 + d) % 4294967296), ((h4 + e) % 4294967296), ((h5 + f) % 4294967296), ((h6 + g1) % 4294967296), ((h7 + k) % 4294967296)⟩).toArray) ?_ rfl ⟨by rw [HEE.out], below_setCells _ (by omega) _ _ _ HX4.out.below⟩
              rw [results_cell1 Tryd.results76]
              simp [Act.put, asAddr, hl]
end Go.Proofs.YtioggmjocelolacDoor
namespace Go.Proofs.YtioggmjocelolacDoor
set_option linter.unusedVariables false
variable {P : Program} {ops : Array Oper} {Q : Exit → Act → World → Prop} {md : Region.Mode} {S : World → Prop} {n : Nat}

/-- Whatever order is picked; S holds behind every operation of the head (the first n); the tail may do as it likes. -/
def wpTill (P : Program) (md : Region.Mode) (ops : Array Oper) (Q : Exit → Act → World → Prop) (S : World → Prop) (n : Nat) : Nat → Array Bool → Act → World → Prop
  | 0, l, a, w => Region.ready md ops l = [] ∧ Q .normal a w
  | f + 1, l, a, w =>
    (Region.ready md ops l = [] → Q .normal a w) ∧
    ∀ i, i ∈ Region.ready md ops l → wpOp P ops Q i (fun b u => (i < n → S u) ∧ wpTill P md ops Q S n f (l.setIfInBounds i true) b u) a w

theorem any_of_till (f : Nat) : ∀ (l : Array Bool) (a : Act) (w : World), wpTill P md ops Q S n f l a w → wpAny P md ops Q f l a w := by
  induction f with
  | zero => exact fun _ _ _ h => h
  | succ f ih => exact fun l a w h => ⟨h.1, fun i hi => wpOp_mono (fun b u k => ih _ b u k.2) (h.2 i hi)⟩

theorem till_first {i : Nat} {oi : Oper} {v : Value} (hi : ops[i]? = some oi) (hin : i < n) (hn : n < ops.size) (hsk : Region.sinkB md ops n = true) (hch : Region.chainB md ops n = true)
    (hsel : ∀ (j : Nat) (o : Oper) cs b, ops[j]? = some o → o.op ≠ .select cs b) (hQ : ∀ c a w, Q (.panic c) (a.put oi.dst v) w → Q (.panic c) a w) (f : Nat) :
    ∀ (l : Array Bool) (a : Act) (w : World), HeadInv md ops n l →
      (∀ j oj, ops[j]? = some oj → j ≠ i → l.getD j true = false → (∀ e ∈ oj.after, Region.binds md e = true → e.on ≠ i) → oi.apart ops oj = true) →
      i ∈ Region.ready md ops l → YieldsIf P ops S oi v a → S w → wpTill P md ops Q S n f (l.setIfInBounds i true) (a.put oi.dst v) w → wpTill P md ops Q S n (f + 1) l a w := by
  induction f with
  | zero =>
    intro l a w inv _ hr hy hS H
    refine ⟨fun h => (by rw [h] at hr; cases hr), fun j hj => ?_⟩
    by_cases hji : j = i
    · subst hji
      exact hy.wpOp hi hS ⟨fun _ => hS, H⟩
    · have h := ready_mono hj hji
      rw [H.1] at h
      cases h
  | succ f ih =>
    intro l a w inv hfree hr hy hS H
    refine ⟨fun h => (by rw [h] at hr; cases hr), fun j hj => ?_⟩
    by_cases hji : j = i
    · subst hji
      exact hy.wpOp hi hS ⟨fun _ => hS, H⟩
    have hun := (mem_ready.1 hr).1
    have hjn : j < n := by
      rcases Nat.lt_or_ge j n with h | h
      · exact h
      · exact absurd hj (tail_waits hsk hch hn inv _ i rfl hin hun j h)
    have h1 := H.2 j (ready_mono hj hji)
    obtain ⟨hjun, oj, hoj, hall⟩ := mem_ready.1 hj
    have hnot : ∀ e ∈ oj.after, Region.binds md e = true → e.on ≠ i := fun e he hb heq => by
      have h2 := hall e he hb
      rw [heq] at h2
      rw [getD_both hun] at h2
      cases h2
    have h2 := wpOp_putIf hoj (hfree j oj hoj hji hjun hnot) (fun cs b => hsel i oi cs b hi) (fun cs b => hsel j oj cs b hoj) hQ hy h1
    refine wpOp_mono (fun b u h3 => ?_) h2
    have hSu := h3.2.1 hjn
    refine ⟨fun _ => hSu, ih (l.setIfInBounds j true) b u (inv.set hj hjn) (fun k ok hk hki hku hno => ?_) (ready_mono hr (Ne.symm hji)) h3.1 hSu ?_⟩
    · refine hfree k ok hk hki ?_ hno
      by_cases hjk : j = k
      · subst hjk; exact hjun
      · rw [getD_set_ne true hjk] at hku; exact hku
    · rw [Array.setIfInBounds_comm _ _ hji]
      exact h3.2.2

/-- What is carried along: the head's invariant, and what the region's form gives once. -/
structure Inv (md : Region.Mode) (ops : Array Oper) (n : Nat) (l : Array Bool) : Prop where
  head : HeadInv md ops n l
  lt : n < ops.size
  sink : Region.sinkB md ops n = true
  chain : Region.chainB md ops n = true
  sel : Region.noSelect ops = true
theorem Inv.set {l : Array Bool} {i : Nat} (inv : Inv md ops n l) (hi : i ∈ Region.ready md ops l) (hin : i < n) : Inv md ops n (l.setIfInBounds i true) := ⟨inv.head.set hi hin, inv.lt, inv.sink, inv.chain, inv.sel⟩

/-- An operation of the head that yields under S is taken first. -/
theorem till_at (i d : Nat) (v : Value) {oi : Oper} {f : Nat} {l : Array Bool} {tmps : Array Value} {ds : List Deferred} {w : World} (inv : Inv md ops n l) (hi : ops[i]? = some oi) (hd : oi.dst = some d)
    (hin : i < n) (hf : Region.free md ops l i = true) (hr : (Region.ready md ops l).contains i = true)
    (hQ : ∀ c a w, Q (.panic c) (a.put oi.dst v) w → Q (.panic c) a w) (hS : S w) (hy : YieldsIf P ops S oi v ⟨tmps, ds⟩)
    (h : Inv md ops n (l.setIfInBounds i true) → wpTill P md ops Q S n f (l.setIfInBounds i true) ⟨tmps.setIfInBounds d v, ds⟩ w) : wpTill P md ops Q S n (f + 1) l ⟨tmps, ds⟩ w := by
  have hr' : i ∈ Region.ready md ops l := by simpa using hr
  refine till_first hi hin inv.lt inv.sink inv.chain (Region.noSelect_spec inv.sel) hQ f l _ w inv.head (Region.free_spec hi hf) hr' hy hS ?_
  rw [hd]
  exact h (inv.set hr' hin)

/-- A lone operation of the head comes up. -/
theorem till_head {i : Nat} {o : Oper} {f : Nat} {l : Array Bool} {a : Act} {w : World} (inv : Inv md ops n l) (hr : Region.ready md ops l = [i]) (hin : i < n) (ho : ops[i]? = some o)
    (h : ∀ K' : Act → World → Prop, Shut (∀ a w, S w → (Inv md ops n (l.setIfInBounds i true) → wpTill P md ops Q S n f (l.setIfInBounds i true) a w) → K' a w) → if Region.wanted o (yielded ops a.tmps) = true then Oper.wp P o a w K' Q else K' (a.put o.dst undef) w) :
    wpTill P md ops Q S n (f + 1) l a w := by
  have hi : i ∈ Region.ready md ops l := by rw [hr]; simp
  refine ⟨fun h0 => (by rw [hr] at h0; cases h0), fun j hj => ?_⟩
  rw [hr] at hj
  obtain rfl : j = i := by simpa using hj
  exact wpOp_step ho (fun K' hK => h K' (fun a w hS hW => hK a w ⟨fun _ => hS, hW (inv.set hi hin)⟩))

/-- A lone operation of the tail comes up. -/
theorem till_tail {i : Nat} {o : Oper} {f : Nat} {l : Array Bool} {a : Act} {w : World} (hr : Region.ready md ops l = [i]) (hin : n ≤ i) (ho : ops[i]? = some o)
    (h : ∀ K' : Act → World → Prop, Shut (∀ a w, wpTill P md ops Q S n f (l.setIfInBounds i true) a w → K' a w) → if Region.wanted o (yielded ops a.tmps) = true then Oper.wp P o a w K' Q else K' (a.put o.dst undef) w) :
    wpTill P md ops Q S n (f + 1) l a w := by
  refine ⟨fun h0 => (by rw [hr] at h0; cases h0), fun j hj => ?_⟩
  rw [hr] at hj
  obtain rfl : j = i := by simpa using hj
  exact wpOp_step ho (fun K' hK => h K' (fun a w hW => hK a w ⟨fun h => by omega, hW⟩))

theorem till_done {l : Array Bool} {a : Act} {w : World} (hr : Region.ready md ops l = []) (h : Q .normal a w) : ∀ f, wpTill P md ops Q S n f l a w
  | 0 => ⟨hr, h⟩
  | _ + 1 => ⟨fun _ => h, fun i hi => by rw [hr] at hi; cases hi⟩

theorem wp_region_till {id : Nat} {a : Act} {w : World} (S : World → Prop) (n : Nat) (hm : P.follows .mixedOrders = true) (hn : n < ops.size) (hsk : Region.sinkB .any ops n = true) (hch : Region.chainB .any ops n = true) (hs : Region.noSelect ops = true)
    (h : Inv .any ops n (Array.replicate ops.size false) → wpTill P .any ops Q S n ops.size (Array.replicate ops.size false) a w.drew) : (Code.region id ops true).wp P Q a w := by
  refine wp_region_any hm (any_of_till _ _ _ _ (h ⟨⟨by simp, fun j oj _ hl => ?_, fun t _ ht => ?_⟩, hn, hsk, hch, hs⟩))
  · rw [getD_replicate_false] at hl; cases hl
  · simp [ht]
end Go.Proofs.YtioggmjocelolacDoor
namespace Go.Proofs.YtioggmjocelolacDoor
open Go.RowKit
set_option linter.unusedVariables false
set_option linter.unusedSimpArgs false

/-- The bytes of eight words, of which a digest is the beginning. -/
def spellL (wd : Bool) (s : Eight) : List Int := (List.range 64).map (spellAt (wsz wd) s)
theorem spellL_length (wd : Bool) (s : Eight) : (spellL wd s).length = 64 := by simp [spellL]
theorem spellCells_eq (wd : Bool) (s : Eight) : spellCells (wsz wd) s = cellsU8 (spellL wd s) := by simp [spellCells, cellsU8, spellL]
theorem owns_mono {w : World} {B B' : Nat} {e : TypeId} {s n : Nat} {v : Value} {xs : List Value} (h : w.ownsRow B e s v n xs) (hB : B' ≤ B) : w.ownsRow B' e s v n xs := by
  obtain ⟨h1, h2⟩ := h
  rcases h2 with h2 | ⟨g, c, cur, e1, e2, e3⟩
  · exact ⟨h1, .inl h2⟩
  · exact ⟨h1, .inr ⟨g, c, cur, e1, by omega, e3⟩⟩
theorem szOf_known {h : Int} (k : Known h) : szOf h = 28 ∨ szOf h = 32 ∨ szOf h = 48 ∨ szOf h = 64 := by
  rcases k with rfl | rfl | rfl | rfl
  · exact .inl rfl
  · exact .inr (.inl rfl)
  · exact .inr (.inr (.inl rfl))
  · exact .inr (.inr (.inr rfl))
theorem first_any {h : Int} (k : Known h) (C : List Value) (zs : List Int) (w : World) (hC : C = cellsU8 zs) (hz : zs.length = 64) :
    Calls Tryd.prog 58 #[.agg C.toArray, .int .i64 (szOf h)] w fun e w' => ∃ g, e = .returned (.slice (some ⟨g, 0, none⟩) (szOf h) (szOf h)) ∧ w'.ownsRow w.heap.size 5 1 (.slice (some ⟨g, 0, none⟩) (szOf h) (szOf h)) (szOf h) (cellsU8 (zs.take (szOf h))) ∧ Below w.heap.size w w' := by
  rcases k with rfl | rfl | rfl | rfl
  · exact first28 C zs w hC hz
  · exact first32 C zs w hC hz
  · exact first48 C zs w hC hz
  · exact first64 C zs w hC hz

set_option maxHeartbeats 1600000 in
set_option maxRecDepth 100000 in
/-- Stream.Sum. -/
theorem ssum (g : Nat) (h : Int) (s0 : Eight) (zs : List Int) (w : World) (k : Hid (Known h)) (hr : Hid (Rep w g 0 h (wdOf h) s0 0 zs)) (hT : Hid (Tables w)) (hfed : Hid (zs.length ≤ 1152921504606846976)) :
    Calls Tryd.prog 53 #[.pointer (some ⟨g, 0, none⟩)] w fun e w' => ∃ b, e = .returned (.slice (some ⟨b, 0, none⟩) (szOf h) (szOf h)) ∧ w'.ownsRow w.heap.size 5 1 (.slice (some ⟨b, 0, none⟩) (szOf h) (szOf h)) (szOf h) (cellsU8 ((spellL (wdOf h) (endW (wdOf h) s0 0 zs)).take (szOf h))) ∧ Below w.heap.size w w' := by
  obtain ⟨half, hk, hh, hf⟩ := hr.out
  obtain ⟨T, HTT⟩ : ∃ T : List Value, Hid (T = tkL h (wdOf h) (TT (wdOf h) (fnz zs) s0 (zs.length / bsz (wdOf h))) half (0 + zs.length)) := ⟨_, rfl⟩
  have HG : Hid (TkBig T) := by show TkBig T; rw [HTT.out]; exact tkBig _ _ _ _ _
  have HR : Hid (w.rangeAt g 0 T) := by show w.rangeAt g 0 T; rw [HTT.out]; exact hk.range
  have HX : Hid ((w.alloc (.cells Tryd.zeroCells69 69)).there w.heap.size 0 139) := there_new w Tryd.zeroCells69 69 139 (by rw [cells71z, size71z]; exact Nat.le_refl _)
  have HC0 : Hid (g < w.heap.size ∧ w.cell? ⟨g, 0, none⟩ = some (.int .i64 h)) := ⟨lt_of_cell hk.hash, hk.hash⟩
  have HREP : Hid (∀ v, v.rangeAt w.heap.size 0 T → v.there w.heap.size 0 139 → Rep v w.heap.size 0 h (wdOf h) s0 0 zs) := fun v hr ht => ⟨half, TK.of (by rw [← HTT.out]; exact hr) ht, hh, hf⟩
  clear hk hh hf
  go_enter Tryd.func53, Tryd.ntmps53
  go_upto_region 4 with (first
    | (refine wpList_load_mid (by rfl) 69 (.tmp 9) (by rfl) g 0 (by rfl) T _ HR.out Tryd.underlying69 rfl (by rw [HG.out.len]; exact size71) ?_)
    | (refine wpList_store_mid (by rfl) 69 (.tmp 3) (.tmp 10) (by rfl) w.heap.size 0 T.toArray (by rfl) (by rfl) (by rw [HG.out.size]; exact HX.out) HG.out.info HG.out.one ?_)
    | fail)
  have HR2 : Hid (((w.alloc (.cells Tryd.zeroCells69 69)).setCells w.heap.size 0 T).rangeAt w.heap.size 0 T) := World.rangeAt_setCells_same _ _ _ _ (by rw [HG.out.len]; exact HX.out)
  have HB2 : Hid (Below w.heap.size w ((w.alloc (.cells Tryd.zeroCells69 69)).setCells w.heap.size 0 T) ∧ ((w.alloc (.cells Tryd.zeroCells69 69)).setCells w.heap.size 0 T).there w.heap.size 0 139 ∧ ((w.alloc (.cells Tryd.zeroCells69 69)).setCells w.heap.size 0 T).heap.size = w.heap.size + 1) := ⟨below_setCells _ (Nat.le_refl _) _ _ _ ((Below.refl _ _).alloc (Nat.le_refl _) _), World.there_setCells HX.out _ _ _, by rw [size_setCells]; simp⟩
  generalize (w.alloc (.cells Tryd.zeroCells69 69)).setCells w.heap.size 0 T = w2 at HR2 HB2 ⊢
  clear HX HR
  go_wp2_with (first | (go_at_call 75; refine (finish_rep (wdOf h) w.heap.size 0 h s0 0 zs w2 k.out.block (HREP.out w2 HR2.out HB2.out.2.1) (by have := hfed.out; omega) (hT.out.below HB2.out.1 hT.out.size) hT.out.size).mono ?_))
  rintro e3 w3 ⟨rfl, ht3, _⟩
  obtain ⟨C, HC⟩ : ∃ C : List Value, Hid (C = cellsU8 (spellL (wdOf h) (endW (wdOf h) s0 0 zs))) := ⟨_, (show _ = _ from rfl)⟩
  rw [spellCells_eq, ← HC.out]
  have HL : Hid (C.length = 64) := by show C.length = 64; rw [HC.out, cellsU8_length, spellL_length]
  have HLA : Hid (C.toArray.size = 64) := by show C.toArray.size = 64; simpa using HL.out
  have HO : Hid (C.toArray.all (·.oneCell') = true) := all_oneCell_toArray (by rw [HC.out]; exact cellsU8_one _)
  have HB3 : Hid (Below w.heap.size w w3) := HB2.out.1.trans (ht3.toBelow (Nat.le_refl _) (by have := HB2.out.2.2; omega))
  have HX : Hid ((w3.alloc (.cells #[.int .u8 0, .int .u8 0, .int .u8 0, .int .u8 0, .int .u8 0, .int .u8 0, .int .u8 0, .int .u8 0, .int .u8 0, .int .u8 0, .int .u8 0, .int .u8 0, .int .u8 0, .int .u8 0, .int .u8 0, .int .u8 0, .int .u8 0, .int .u8 0, .int .u8 0, .int .u8 0, .int .u8 0, .int .u8 0, .int .u8 0, .int .u8 0, .int .u8 0, .int .u8 0, .int .u8 0, .int .u8 0, .int .u8 0, .int .u8 0, .int .u8 0, .int .u8 0, .int .u8 0, .int .u8 0, .int .u8 0, .int .u8 0, .int .u8 0, .int .u8 0, .int .u8 0, .int .u8 0, .int .u8 0, .int .u8 0, .int .u8 0, .int .u8 0, .int .u8 0, .int .u8 0, .int .u8 0, .int .u8 0, .int .u8 0, .int .u8 0, .int .u8 0, .int .u8 0, .int .u8 0, .int .u8 0, .int .u8 0, .int .u8 0, .int .u8 0, .int .u8 0, .int .u8 0, .int .u8 0, .int .u8 0, .int .u8 0, .int .u8 0, .int .u8 0] 72)).there w3.heap.size 0 64) := there_new w3 _ 72 64 (by decide)
  clear ht3
  go_upto_region 5 with (first
    | (refine wpList_store_mid (by rfl) 72 (.tmp 4) (.tmp 11) (by rfl) w3.heap.size 0 C.toArray (by rfl) (by rfl) (by rw [HLA.out]; exact HX.out) (by rw [HLA.out]; exact size75) HO.out ?_)
    | fail)
  have HR4 : Hid (((w3.alloc (.cells #[.int .u8 0, .int .u8 0, .int .u8 0, .int .u8 0, .int .u8 0, .int .u8 0, .int .u8 0, .int .u8 0, .int .u8 0, .int .u8 0, .int .u8 0, .int .u8 0, .int .u8 0, .int .u8 0, .int .u8 0, .int .u8 0, .int .u8 0, .int .u8 0, .int .u8 0, .int .u8 0, .int .u8 0, .int .u8 0, .int .u8 0, .int .u8 0, .int .u8 0, .int .u8 0, .int .u8 0, .int .u8 0, .int .u8 0, .int .u8 0, .int .u8 0, .int .u8 0, .int .u8 0, .int .u8 0, .int .u8 0, .int .u8 0, .int .u8 0, .int .u8 0, .int .u8 0, .int .u8 0, .int .u8 0, .int .u8 0, .int .u8 0, .int .u8 0, .int .u8 0, .int .u8 0, .int .u8 0, .int .u8 0, .int .u8 0, .int .u8 0, .int .u8 0, .int .u8 0, .int .u8 0, .int .u8 0, .int .u8 0, .int .u8 0, .int .u8 0, .int .u8 0, .int .u8 0, .int .u8 0, .int .u8 0, .int .u8 0, .int .u8 0, .int .u8 0] 72)).setCells w3.heap.size 0 C).rangeAt w3.heap.size 0 C) := World.rangeAt_setCells_same _ _ _ _ (by rw [HL.out]; exact HX.out)
  have HB4 : Hid (Below w.heap.size w ((w3.alloc (.cells #[.int .u8 0, .int .u8 0, .int .u8 0, .int .u8 0, .int .u8 0, .int .u8 0, .int .u8 0, .int .u8 0, .int .u8 0, .int .u8 0, .int .u8 0, .int .u8 0, .int .u8 0, .int .u8 0, .int .u8 0, .int .u8 0, .int .u8 0, .int .u8 0, .int .u8 0, .int .u8 0, .int .u8 0, .int .u8 0, .int .u8 0, .int .u8 0, .int .u8 0, .int .u8 0, .int .u8 0, .int .u8 0, .int .u8 0, .int .u8 0, .int .u8 0, .int .u8 0, .int .u8 0, .int .u8 0, .int .u8 0, .int .u8 0, .int .u8 0, .int .u8 0, .int .u8 0, .int .u8 0, .int .u8 0, .int .u8 0, .int .u8 0, .int .u8 0, .int .u8 0, .int .u8 0, .int .u8 0, .int .u8 0, .int .u8 0, .int .u8 0, .int .u8 0, .int .u8 0, .int .u8 0, .int .u8 0, .int .u8 0, .int .u8 0, .int .u8 0, .int .u8 0, .int .u8 0, .int .u8 0, .int .u8 0, .int .u8 0, .int .u8 0, .int .u8 0] 72)).setCells w3.heap.size 0 C)) := below_setCells _ HB3.out.size _ _ _ (HB3.out.alloc HB3.out.size _)
  have HS4 : Hid (((w3.alloc (.cells #[.int .u8 0, .int .u8 0, .int .u8 0, .int .u8 0, .int .u8 0, .int .u8 0, .int .u8 0, .int .u8 0, .int .u8 0, .int .u8 0, .int .u8 0, .int .u8 0, .int .u8 0, .int .u8 0, .int .u8 0, .int .u8 0, .int .u8 0, .int .u8 0, .int .u8 0, .int .u8 0, .int .u8 0, .int .u8 0, .int .u8 0, .int .u8 0, .int .u8 0, .int .u8 0, .int .u8 0, .int .u8 0, .int .u8 0, .int .u8 0, .int .u8 0, .int .u8 0, .int .u8 0, .int .u8 0, .int .u8 0, .int .u8 0, .int .u8 0, .int .u8 0, .int .u8 0, .int .u8 0, .int .u8 0, .int .u8 0, .int .u8 0, .int .u8 0, .int .u8 0, .int .u8 0, .int .u8 0, .int .u8 0, .int .u8 0, .int .u8 0, .int .u8 0, .int .u8 0, .int .u8 0, .int .u8 0, .int .u8 0, .int .u8 0, .int .u8 0, .int .u8 0, .int .u8 0, .int .u8 0, .int .u8 0, .int .u8 0, .int .u8 0, .int .u8 0] 72)).setCells w3.heap.size 0 C).heap.size = w3.heap.size + 1) := by show _ = _; rw [size_setCells]; simp
  generalize (w3.alloc (.cells #[.int .u8 0, .int .u8 0, .int .u8 0, .int .u8 0, .int .u8 0, .int .u8 0, .int .u8 0, .int .u8 0, .int .u8 0, .int .u8 0, .int .u8 0, .int .u8 0, .int .u8 0, .int .u8 0, .int .u8 0, .int .u8 0, .int .u8 0, .int .u8 0, .int .u8 0, .int .u8 0, .int .u8 0, .int .u8 0, .int .u8 0, .int .u8 0, .int .u8 0, .int .u8 0, .int .u8 0, .int .u8 0, .int .u8 0, .int .u8 0, .int .u8 0, .int .u8 0, .int .u8 0, .int .u8 0, .int .u8 0, .int .u8 0, .int .u8 0, .int .u8 0, .int .u8 0, .int .u8 0, .int .u8 0, .int .u8 0, .int .u8 0, .int .u8 0, .int .u8 0, .int .u8 0, .int .u8 0, .int .u8 0, .int .u8 0, .int .u8 0, .int .u8 0, .int .u8 0, .int .u8 0, .int .u8 0, .int .u8 0, .int .u8 0, .int .u8 0, .int .u8 0, .int .u8 0, .int .u8 0, .int .u8 0, .int .u8 0, .int .u8 0, .int .u8 0] 72)).setCells w3.heap.size 0 C = w4 at HR4 HB4 HS4 ⊢
  have HC4 : Hid (w4.cell? ⟨g, 0, none⟩ = some (.int .i64 h)) := by rw [HB4.out.cell (p := ⟨g, 0, none⟩) HC0.out.1]; exact HC0.out.2
  clear HX HB3 HB2 HR2 HREP HC0
  have HZ : Hid ((spellL (wdOf h) (endW (wdOf h) s0 0 zs)).length = 64) := spellL_length _ _
  have hu75 := Tryd.underlying72
  have hi75 : (Tryd.prog.info? 72).map (·.size) = some C.length := by rw [HL.out]; exact size75
  go_region_held3 (fun v => v.rangeAt w3.heap.size 0 C ∧ v.cell? ⟨g, 0, none⟩ = some (.int .i64 h)) (first | exact ⟨HR4.out, HC4.out⟩ | go_keep | exact hS6) (first
    | (go_at_call 30; refine (ssize g h w4.drew k (show Hid (w4.drew.cell? ⟨g, 0, none⟩ = some (.int .i64 h)) from HC4)).mono ?_; rintro e5 w5 ⟨rfl, hw5⟩; obtain rfl := hw5.symm)
    | (go_at_call 58; refine (first_any k.out C _ w4.drew HC.out HZ.out).mono ?_; rintro e6 w6 ⟨b, rfl, ho6, hb6⟩; have hS6 : w6.rangeAt w3.heap.size 0 C ∧ w6.cell? ⟨g, 0, none⟩ = some (.int .i64 h) := ⟨fun j v hv => by rw [hb6.cell (p := ⟨w3.heap.size, 0 + j, none⟩) (show w3.heap.size < w4.heap.size by have := HS4.out; omega)]; exact HR4.out j v hv, by rw [hb6.cell (p := ⟨g, 0, none⟩) (show g < w4.heap.size from lt_of_cell HC4.out)]; exact HC4.out⟩))
  have HQ : Hid (w6.ownsRow w.heap.size 5 1 (.slice (some ⟨b, 0, none⟩) (szOf h) (szOf h)) (szOf h) (cellsU8 ((spellL (wdOf h) (endW (wdOf h) s0 0 zs)).take (szOf h))) ∧ Below w.heap.size w w6) := ⟨owns_mono ho6 HB4.out.size, HB4.out.drew.trans (hb6.mono HB4.out.size)⟩
  clear ho6 hb6 hS6
  go_wp2
  go_ret
  exact ⟨b, rfl, HQ.out.1, HQ.out.2⟩

set_option maxHeartbeats 800000 in
/-- digest.Sum of what fits. -/
theorem dsum (h : Int) (yss : List (List Int)) (v : Value) (w : World) (k : Hid (Known h)) (hp : Hid (∀ u g, Below w.heap.size w u → w.heap.size ≤ g → Parts u g v yss)) (hT : Hid (Tables w)) (hs : Hid (yss.flatten.length ≤ 33554432)) :
    Calls Tryd.prog 34 #[.int .i64 h, v] w fun e w' => ∃ b, e = .returned (.tuple #[.slice (some ⟨b, 0, none⟩) (szOf h) (szOf h), .int .i64 0]) ∧ w'.ownsRow w.heap.size 5 1 (.slice (some ⟨b, 0, none⟩) (szOf h) (szOf h)) (szOf h) (cellsU8 ((spellL (wdOf h) (endW (wdOf h) (firstE h) 0 yss.flatten)).take (szOf h))) ∧ Below w.heap.size w w' := by
  go_enter Tryd.func34, Tryd.ntmps34
  go_wp2_with (first | (go_at_call 29; refine (new_good h w k hT).mono ?_))
  rintro e1 w1 ⟨g, rfl, hg, hr1, hb1⟩
  have HR1 : Hid (Rep w1 g 0 h (wdOf h) (firstE h) 0 [] ∧ Below w.heap.size w w1 ∧ w.heap.size ≤ g) := ⟨hr1, hb1, hg⟩
  have HP1 : Hid (Parts w1 g v yss) := hp.out w1 g hb1 hg
  have HT1 : Hid (Tables w1) := hT.out.below hb1 hT.out.size
  have hg4 : 4 ≤ g := Nat.le_trans hT.out.size hg
  clear hr1 hb1 hg
  go_wp2_with (first | (go_at_call 52; refine (swrite g h (firstE h) [] yss v w1 k HR1.out.1 HP1 HT1 hg4 (by show _ ≤ _; have := hs.out; simpa using this)).mono ?_))
  rintro e2 w2 ⟨rfl, ht2, hr2⟩
  have HR2 : Hid (Rep w2 g 0 h (wdOf h) (firstE h) 0 yss.flatten ∧ Below w.heap.size w w2) := ⟨hr2, HR1.out.2.1.trans (ht2.toBelow HR1.out.2.2 HR1.out.2.1.size)⟩
  have HT2 : Hid (Tables w2) := HT1.out.touch ht2 hg4
  clear ht2 hr2 HR1 HP1
  go_wp2_with (first | (go_at_call 53; refine (ssum g h (firstE h) yss.flatten w2 k HR2.out.1 HT2 (by show _ ≤ _; have := hs.out; omega)).mono ?_))
  rintro e3 w3 ⟨b, rfl, ho3, hb3⟩
  have HQ : Hid (w3.ownsRow w.heap.size 5 1 (.slice (some ⟨b, 0, none⟩) (szOf h) (szOf h)) (szOf h) (cellsU8 ((spellL (wdOf h) (endW (wdOf h) (firstE h) 0 yss.flatten)).take (szOf h))) ∧ Below w.heap.size w w3) := ⟨owns_mono ho3 HR2.out.2.size, HR2.out.2.trans (hb3.mono HR2.out.2.size)⟩
  clear ho3 hb3
  go_wp2
  go_ret2
  exact ⟨b, rfl, HQ.out.1, HQ.out.2⟩
end Go.Proofs.YtioggmjocelolacDoor
namespace Go.Proofs.YtioggmjocelolacDoor
open Go.RowKit
set_option linter.unusedVariables false
set_option linter.unusedSimpArgs false

theorem chain71 (h : Int) (wd : Bool) (a0 a1 a2 a3 a4 a5 a6 a7 : Int) (n : Nat) : ((((((((((Tryd.zeroCells69.toList.set 0 (Value.int .i64 h)).set 1 (Value.func (.func (fnOf wd)) #[] #[])).set 2 (Value.int .u64 a0)).set 3 (Value.int .u64 a1)).set 4 (Value.int .u64 a2)).set 5 (Value.int .u64 a3)).set 6 (Value.int .u64 a4)).set 7 (Value.int .u64 a5)).set 8 (Value.int .u64 a6)).set 9 (Value.int .u64 a7)).set 138 (Value.int .u64 (n : Int)) = tkL h wd ⟨a0, a1, a2, a3, a4, a5, a6, a7⟩ (fun _ => 0) n := by kernel_rfl
theorem store_run (g : Nat) (T : List Value) (w : World) (hT : TkBig T) (ht : w.there g 0 139) : (storeCells ⟨g, 0, none⟩ T).run Tryd.prog w = .ok () (w.setCells g 0 T) :=
  run_storeCells_cells (P := Tryd.prog) g 0 T 0 w (fun j hj => by have := (ht j (by have := hT.len; omega)).1; simpa using this) (fun j hj => by have := (ht j (by have := hT.len; omega)).2; simpa using this) (fun v hv => (Array.all_eq_true_iff_forall_mem.1 hT.one) v (by simpa using hv))

set_option maxHeartbeats 400000 in
set_option maxRecDepth 100000 in
theorem restart_any (g : Nat) (h : Int) (s st : Eight) (half : Nat → Int) (fed : Nat) (w : World) (k : Hid (Known h)) (HK : Hid (TK w g 0 h (wdOf h) s half fed)) :
    Calls Tryd.prog 51 #[.pointer (some ⟨g, 0, none⟩), .agg st.cells.toArray] w fun e w' => e = .returned (.tuple #[]) ∧ Touch w w' g 0 139 ∧ TK w' g 0 h (wdOf h) st (fun _ => 0) (bsz (wdOf h)) := by
  have hgw : g < w.heap.size := lt_of_cell HK.out.hash
  obtain ⟨F, HF⟩ : ∃ F : FuncId, Hid (F = fnOf (wdOf h)) := ⟨_, (show _ = _ from rfl)⟩
  obtain ⟨n, HN⟩ : ∃ n : Nat, Hid (n = bsz (wdOf h)) := ⟨_, (show _ = _ from rfl)⟩
  have hn : (n : Int) ≤ 128 := by rw [HN.out]; cases wdOf h <;> decide
  go_enter Tryd.func51, Tryd.ntmps51
  go_upto_region 1 with fail
  have HR1 : Hid ((w.alloc (.cells st.cells.toArray 66)).rangeAt w.heap.size 0 st.cells) := rangeAt_new w st.cells.toArray 66
  have HK1 : Hid (TK (w.alloc (.cells st.cells.toArray 66)) g 0 h (wdOf h) s half fed) := HK.out.below ((Below.refl _ _).alloc (Nat.le_refl _) _)
  have HT1 : Hid (Touch w (w.alloc (.cells st.cells.toArray 66)) g 0 139) := (Touch.refl _ _ _ _).alloc _ hgw
  generalize w.alloc (.cells st.cells.toArray 66) = w1 at HR1 HK1 HT1 ⊢
  obtain ⟨a0, a1, a2, a3, a4, a5, a6, a7⟩ := st
  have d0 : w1.cell? ⟨w.heap.size, 0, none⟩ = some (.int .u64 a0) := HR1.out 0 _ rfl
  have d1 : w1.cell? ⟨w.heap.size, 1, none⟩ = some (.int .u64 a1) := HR1.out 1 _ rfl
  have d2 : w1.cell? ⟨w.heap.size, 2, none⟩ = some (.int .u64 a2) := HR1.out 2 _ rfl
  have d3 : w1.cell? ⟨w.heap.size, 3, none⟩ = some (.int .u64 a3) := HR1.out 3 _ rfl
  have d4 : w1.cell? ⟨w.heap.size, 4, none⟩ = some (.int .u64 a4) := HR1.out 4 _ rfl
  have d5 : w1.cell? ⟨w.heap.size, 5, none⟩ = some (.int .u64 a5) := HR1.out 5 _ rfl
  have d6 : w1.cell? ⟨w.heap.size, 6, none⟩ = some (.int .u64 a6) := HR1.out 6 _ rfl
  have d7 : w1.cell? ⟨w.heap.size, 7, none⟩ = some (.int .u64 a7) := HR1.out 7 _ rfl
  have c0 : w1.cell? ⟨g, 0, none⟩ = some (.int .i64 h) := HK1.out.hash
  have c1 : w1.cell? ⟨g, 1, none⟩ = some (.func (.func F) #[] #[]) := by rw [HF.out]; exact HK1.out.fn
  have ht : w1.there g 0 139 := HK1.out.there
  have hblk : Hid (blockOf h = n) := by show blockOf h = n; rw [HN.out]; exact k.out.block
  obtain ⟨T, HTT⟩ : ∃ T : List Value, Hid (T = tkL h (wdOf h) ⟨a0, a1, a2, a3, a4, a5, a6, a7⟩ (fun _ => 0) n) := ⟨_, (show _ = _ from rfl)⟩
  have HG : Hid (TkBig T) := by show TkBig T; rw [HTT.out]; exact tkBig _ _ _ _ _
  have hst : (storeCells ⟨g, 0, none⟩ (((((((((((Tryd.zeroCells69.toList.set 0 (Value.int .i64 h)).set 1 (Value.func (.func F) #[] #[])).set 2 (Value.int .u64 a0)).set 3 (Value.int .u64 a1)).set 4 (Value.int .u64 a2)).set 5 (Value.int .u64 a3)).set 6 (Value.int .u64 a4)).set 7 (Value.int .u64 a5)).set 8 (Value.int .u64 a6)).set 9 (Value.int .u64 a7)).set 138 (Value.int .u64 (n : Int)))).run Tryd.prog w1.drew = .ok () (w1.drew.setCells g 0 T) := by
    rw [HF.out, chain71 h (wdOf h) a0 a1 a2 a3 a4 a5 a6 a7 n, ← HTT.out]
    exact store_run g T w1.drew HG.out ht
  have hwr : IntKind.u64.wrap (n : Int) = (n : Int) := by simp [IntKind.wrap, IntKind.bits, IntKind.signed]; omega
  have hS2 : (fun v : World => v.cell? ⟨g, 0, none⟩ = some (.int .i64 h) ∧ v.cell? ⟨g, 1, none⟩ = some (.func (.func F) #[] #[]) ∧ v.cell? ⟨w.heap.size, 0, none⟩ = some (.int .u64 a0) ∧ v.cell? ⟨w.heap.size, 1, none⟩ = some (.int .u64 a1) ∧ v.cell? ⟨w.heap.size, 2, none⟩ = some (.int .u64 a2) ∧ v.cell? ⟨w.heap.size, 3, none⟩ = some (.int .u64 a3) ∧ v.cell? ⟨w.heap.size, 4, none⟩ = some (.int .u64 a4) ∧ v.cell? ⟨w.heap.size, 5, none⟩ = some (.int .u64 a5) ∧ v.cell? ⟨w.heap.size, 6, none⟩ = some (.int .u64 a6) ∧ v.cell? ⟨w.heap.size, 7, none⟩ = some (.int .u64 a7) ∧ v.there g 0 139) (w1.drew.setCells g 0 T) := by
    have hr := World.rangeAt_setCells_same w1.drew g 0 T (by rw [HG.out.len]; exact ht)
    have hat := tkL_at h (wdOf h) ⟨a0, a1, a2, a3, a4, a5, a6, a7⟩ (fun _ => 0) n
    rw [← HTT.out] at hat
    have ho : ∀ i, (w1.drew.setCells g 0 T).cell? ⟨w.heap.size, i, none⟩ = w1.cell? ⟨w.heap.size, i, none⟩ := fun i => World.cell?_setCells_out g T 0 w1.drew ⟨w.heap.size, i, none⟩ (fun e _ => absurd e (by show w.heap.size ≠ g; omega))
    exact ⟨hr 0 _ hat.1, by rw [HF.out]; exact hr 1 _ hat.2.1, (ho 0).trans d0, (ho 1).trans d1, (ho 2).trans d2, (ho 3).trans d3, (ho 4).trans d4, (ho 5).trans d5, (ho 6).trans d6, (ho 7).trans d7, World.there_setCells (w := w1.drew) ht g 0 T⟩
  go_region_held3 (fun v => v.cell? ⟨g, 0, none⟩ = some (.int .i64 h) ∧ v.cell? ⟨g, 1, none⟩ = some (.func (.func F) #[] #[]) ∧ v.cell? ⟨w.heap.size, 0, none⟩ = some (.int .u64 a0) ∧ v.cell? ⟨w.heap.size, 1, none⟩ = some (.int .u64 a1) ∧ v.cell? ⟨w.heap.size, 2, none⟩ = some (.int .u64 a2) ∧ v.cell? ⟨w.heap.size, 3, none⟩ = some (.int .u64 a3) ∧ v.cell? ⟨w.heap.size, 4, none⟩ = some (.int .u64 a4) ∧ v.cell? ⟨w.heap.size, 5, none⟩ = some (.int .u64 a5) ∧ v.cell? ⟨w.heap.size, 6, none⟩ = some (.int .u64 a6) ∧ v.cell? ⟨w.heap.size, 7, none⟩ = some (.int .u64 a7) ∧ v.there g 0 139) (first | exact hS2 | exact ⟨c0, c1, d0, d1, d2, d3, d4, d5, d6, d7, ht⟩ | go_keep) (first
    | (go_at_call 55; refine (block_any h _).mono ?_; rintro e5 w5 ⟨rfl, hw5⟩; obtain rfl := hw5.symm; rw [hblk.out]))
  have HQ : Hid (Touch w (w1.drew.setCells g 0 T) g 0 139 ∧ TK (w1.drew.setCells g 0 T) g 0 h (wdOf h) ⟨a0, a1, a2, a3, a4, a5, a6, a7⟩ (fun _ => 0) n) := ⟨HT1.out.drew.setCells 0 T (by omega) (by rw [HG.out.len]; omega), TK.of (by rw [← HTT.out]; exact World.rangeAt_setCells_same w1.drew g 0 T (by rw [HG.out.len]; exact ht)) (World.there_setCells (w := w1.drew) ht g 0 T)⟩
  go_end0
  refine ⟨rfl, HQ.out.1, ?_⟩
  rw [← HN.out]
  exact HQ.out.2

/-- A Mac's two other states, behind its taken. -/
structure MacAt (w : World) (g : Nat) (si so : Eight) : Prop where
  inner : w.rangeAt g 139 si.cells
  outer : w.rangeAt g 147 so.cells
  there : w.there g 0 155
theorem MacAt.touch {w v : World} {g : Nat} {si so : Eight} (m : MacAt w g si so) (t : Touch w v g 0 139) : MacAt v g si so :=
  ⟨fun j x hx => by rw [t.cell _ (by omega)]; exact m.inner j x hx, fun j x hx => by rw [t.cell _ (by omega)]; exact m.outer j x hx, t.there _ _ m.there⟩
theorem MacAt.lt {w : World} {g : Nat} {si so : Eight} (m : MacAt w g si so) : g < w.heap.size := by
  obtain ⟨x, hx⟩ := Option.isSome_iff_exists.1 (m.there 0 (by omega)).1
  exact lt_of_cell hx
theorem MacAt.below {w v : World} {g : Nat} {si so : Eight} (m : MacAt w g si so) (b : Below w.heap.size w v) : MacAt v g si so :=
  ⟨range_below m.inner b m.lt, range_below m.outer b m.lt, fun j hj => by rw [b.cell (p := ⟨g, 0 + j, none⟩) m.lt, b.frozen (p := ⟨g, 0 + j, none⟩) m.lt]; exact m.there j hj⟩
theorem MacAt.far {w v : World} {g g' o' n : Nat} {si so : Eight} (m : MacAt w g si so) (b : Touch w v g' o' n) (hne : g ≠ g') : MacAt v g si so :=
  ⟨fun j x hx => by rw [b.far (p := ⟨g, 139 + j, none⟩) m.lt hne]; exact m.inner j x hx, fun j x hx => by rw [b.far (p := ⟨g, 147 + j, none⟩) m.lt hne]; exact m.outer j x hx, b.thereFar m.there m.lt hne⟩
/-- A Mac of a digest, with its two states, that was fed zs. -/
def MRep (w : World) (g : Nat) (h : Int) (si so : Eight) (zs : List Int) : Prop := Rep w g 0 h (wdOf h) si (bsz (wdOf h)) zs ∧ MacAt w g si so

set_option maxHeartbeats 400000 in
theorem msize (g : Nat) (h : Int) (w : World) (k : Hid (Known h)) (c : w.cell? ⟨g, 0, none⟩ = some (.int .i64 h)) : Calls Tryd.prog 33 #[.pointer (some ⟨g, 0, none⟩)] w fun e w' => e = .returned (.int .i64 (szOf h)) ∧ w' = w := by
  go_enter Tryd.func33, Tryd.ntmps33
  go_wp2_with (first
    | (go_at_call 46; refine (size_known k.out _).mono ?_; rintro e1 w1 ⟨rfl, hw1⟩; obtain rfl := hw1.symm))
  go_ret
  exact ⟨rfl, rfl⟩
set_option maxHeartbeats 400000 in
/-- Mac.Reset. -/
theorem mreset (g : Nat) (h : Int) (si so : Eight) (zs : List Int) (w : World) (k : Hid (Known h)) (hm : Hid (MRep w g h si so zs)) :
    Calls Tryd.prog 82 #[.pointer (some ⟨g, 0, none⟩)] w fun e w' => e = .returned (.int .i64 0) ∧ Touch w w' g 0 139 ∧ MRep w' g h si so [] := by
  obtain ⟨half, hk, _, _⟩ := hm.out.1
  have HA : Hid (Calls Tryd.prog 51 #[.pointer (some ⟨g, 0, none⟩), .agg si.cells.toArray] w fun e w' => e = .returned (.tuple #[]) ∧ Touch w w' g 0 139 ∧ TK w' g 0 h (wdOf h) si (fun _ => 0) (bsz (wdOf h))) := restart_any g h _ si half _ w k hk
  clear hk
  go_enter Tryd.func82, Tryd.ntmps82
  go_wp2_with (first
    | (refine wpList_load_mid (by rfl) 66 (.tmp 8) (by rfl) g 139 (by rfl) si.cells _ hm.out.2.inner Tryd.underlying66 rfl size68 ?_)
    | (go_at_call 51; refine HA.out.mono ?_; rintro e1 w1 ⟨rfl, ht1, hk1⟩)
    | fail)
  go_ret
  exact ⟨rfl, ht1, rep_nil hk1 (Nat.mod_self _), hm.out.2.touch ht1⟩
end Go.Proofs.YtioggmjocelolacDoor
namespace Go.Proofs.YtioggmjocelolacDoor
open Go.RowKit
set_option linter.unusedVariables false
set_option linter.unusedSimpArgs false

theorem range_app {w : World} {g o : Nat} {a b : List Value} (h1 : w.rangeAt g o a) (h2 : w.rangeAt g (o + a.length) b) : w.rangeAt g o (a ++ b) := fun j v hv => by
  by_cases hj : j < a.length
  · rw [List.getElem?_append_left hj] at hv
    exact h1 j v hv
  · rw [List.getElem?_append_right (by omega)] at hv
    have := h2 _ v hv
    rw [show o + a.length + (j - a.length) = o + j by omega] at this
    exact this
theorem range_left {w : World} {g o : Nat} {a b : List Value} (h : w.rangeAt g o (a ++ b)) : w.rangeAt g o a := fun j v hv => h j v (by
  rw [List.getElem?_append_left (by
    by_cases hj : j < a.length
    · exact hj
    · rw [List.getElem?_eq_none (by omega)] at hv; cases hv)]
  exact hv)
theorem range_right {w : World} {g o : Nat} {a b : List Value} (h : w.rangeAt g o (a ++ b)) : w.rangeAt g (o + a.length) b := fun j v hv => by
  have := h (a.length + j) v (by rw [List.getElem?_append_right (by omega), show a.length + j - a.length = j by omega]; exact hv)
  rw [← Nat.add_assoc] at this
  exact this
theorem there_part {w : World} {g o n o' n' : Nat} (h : w.there g o n) (h1 : o ≤ o') (h2 : o' + n' ≤ o + n) : w.there g o' n' := fun j hj => by
  have := h (o' - o + j) (by omega)
  rw [show o + (o' - o + j) = o' + j by omega] at this
  exact this
theorem size73 : (Tryd.prog.info? 71).map (·.size) = some 155 := by kernel_rfl
theorem zero73 : Tryd.zeroCells71.size = 155 := by kernel_rfl
/-- A Mac's cells, as a value. -/
structure McBig (T : List Value) : Prop where
  len : T.length = 155
  one : T.toArray.all (·.oneCell') = true
theorem McBig.size {T : List Value} (h : McBig T) : T.toArray.size = 155 := by simpa using h.len
theorem McBig.info {T : List Value} (h : McBig T) : (Tryd.prog.info? 71).map (·.size) = some T.toArray.size := by rw [h.size]; exact size73
def mkL (h : Int) (wd : Bool) (s : Eight) (half : Nat → Int) (fed : Nat) (si so : Eight) : List Value := tkL h wd s half fed ++ (si.cells ++ so.cells)
theorem mcBig (h : Int) (wd : Bool) (s : Eight) (half : Nat → Int) (fed : Nat) (si so : Eight) : McBig (mkL h wd s half fed si so) := by
  refine ⟨by simp [mkL, tkL_length, Eight.cells_length], all_oneCell_toArray ?_⟩
  intro v hv
  simp only [mkL, List.mem_append] at hv
  rcases hv with hv | hv | hv
  · exact (Array.all_eq_true_iff_forall_mem.1 (tkL_one h wd s half fed)) v (by simpa using hv)
  · exact cells_oneE si v hv
  · exact cells_oneE so v hv
theorem mk_range {w : World} {g : Nat} {h : Int} {wd : Bool} {s si so : Eight} {half : Nat → Int} {fed : Nat} (k : TK w g 0 h wd s half fed) (m : MacAt w g si so) : w.rangeAt g 0 (mkL h wd s half fed si so) := by
  refine range_app k.range ?_
  rw [tkL_length]
  exact range_app m.inner (by rw [Eight.cells_length]; exact m.outer)
theorem mk_of {w : World} {g : Nat} {h : Int} {wd : Bool} {s si so : Eight} {half : Nat → Int} {fed : Nat} (hr : w.rangeAt g 0 (mkL h wd s half fed si so)) (ht : w.there g 0 155) : TK w g 0 h wd s half fed ∧ MacAt w g si so := by
  have h1 := range_right hr
  rw [tkL_length] at h1
  have h2 := range_right h1
  rw [Eight.cells_length] at h2
  exact ⟨TK.of (range_left hr) (there_part ht (by omega) (by omega)), ⟨range_left h1, h2, ht⟩⟩

set_option maxHeartbeats 400000 in
set_option maxRecDepth 100000 in
/-- Mac.Copy. -/
theorem mcopy (g : Nat) (h : Int) (si so : Eight) (zs : List Int) (w : World) (hm : Hid (MRep w g h si so zs)) :
    Calls Tryd.prog 56 #[.pointer (some ⟨g, 0, none⟩)] w fun e w' => ∃ g', e = .returned (.pointer (some ⟨g', 0, none⟩)) ∧ w.heap.size ≤ g' ∧ MRep w' g' h si so zs ∧ Below w.heap.size w w' := by
  obtain ⟨half, hk, hh, hf⟩ := hm.out.1
  obtain ⟨T, HTT⟩ : ∃ T : List Value, Hid (T = mkL h (wdOf h) (TT (wdOf h) (fnz zs) si (zs.length / bsz (wdOf h))) half (bsz (wdOf h) + zs.length) si so) := ⟨_, (show _ = _ from rfl)⟩
  have HG : Hid (McBig T) := by show McBig T; rw [HTT.out]; exact mcBig _ _ _ _ _ _ _
  have HR : Hid (w.rangeAt g 0 T) := by show w.rangeAt g 0 T; rw [HTT.out]; exact mk_range hk hm.out.2
  have HH : Hid ((∀ i, i < zs.length % bsz (wdOf h) → half i = fnz zs (bsz (wdOf h) * (zs.length / bsz (wdOf h)) + i)) ∧ bsz (wdOf h) % bsz (wdOf h) = 0) := ⟨hh, hf⟩
  have HX : Hid ((w.alloc (.cells Tryd.zeroCells71 71)).there w.heap.size 0 155) := there_new w Tryd.zeroCells71 71 155 (by rw [zero73]; exact Nat.le_refl _)
  clear hk hh hf
  go_enter Tryd.func56, Tryd.ntmps56
  go_upto_region 4 with (first
    | (refine wpList_load_mid (by rfl) 71 (.tmp 7) (by rfl) g 0 (by rfl) T _ HR.out Tryd.underlying71 rfl (by rw [HG.out.len]; exact size73) ?_)
    | (refine wpList_store_mid (by rfl) 71 (.tmp 3) (.tmp 8) (by rfl) w.heap.size 0 T.toArray (by rfl) (by rfl) (by rw [HG.out.size]; exact HX.out) HG.out.info HG.out.one ?_)
    | fail)
  have HR2 : Hid (((w.alloc (.cells Tryd.zeroCells71 71)).setCells w.heap.size 0 T).rangeAt w.heap.size 0 T) := World.rangeAt_setCells_same _ _ _ _ (by rw [HG.out.len]; exact HX.out)
  have HB2 : Hid (Below w.heap.size w ((w.alloc (.cells Tryd.zeroCells71 71)).setCells w.heap.size 0 T) ∧ ((w.alloc (.cells Tryd.zeroCells71 71)).setCells w.heap.size 0 T).there w.heap.size 0 155) := ⟨below_setCells _ (Nat.le_refl _) _ _ _ ((Below.refl _ _).alloc (Nat.le_refl _) _), World.there_setCells HX.out _ _ _⟩
  generalize (w.alloc (.cells Tryd.zeroCells71 71)).setCells w.heap.size 0 T = w2 at HR2 HB2 ⊢
  clear HX
  go_wp2
  go_ret
  have hm2 := mk_of (by rw [← HTT.out]; exact HR2.out) HB2.out.2
  exact ⟨w.heap.size, rfl, Nat.le_refl _, ⟨⟨half, hm2.1, HH.out.1, HH.out.2⟩, hm2.2⟩, HB2.out.1⟩

set_option maxHeartbeats 800000 in
set_option maxRecDepth 100000 in
/-- Mac.Write of what fits. -/
theorem mwrite (g : Nat) (h : Int) (si so : Eight) (zs : List Int) (yss : List (List Int)) (v : Value) (w : World) (k : Hid (Known h)) (hm : Hid (MRep w g h si so zs)) (hp : Hid (Parts w g v yss)) (hT : Hid (Tables w)) (hg : 4 ≤ g) (hs : Hid (zs.length + yss.flatten.length ≤ 33554432)) :
    Calls Tryd.prog 35 #[.pointer (some ⟨g, 0, none⟩), v] w fun e w' => e = .returned (.int .i64 0) ∧ Touch w w' g 0 139 ∧ MRep w' g h si so (zs ++ yss.flatten) := by
  obtain ⟨n, HN⟩ : ∃ n : Nat, Hid (n = bsz (wdOf h)) := ⟨_, (show _ = _ from rfl)⟩
  have hn : (n : Int) ≤ 128 := by rw [HN.out]; cases wdOf h <;> decide
  have hblk : Hid (blockOf h = n) := by show blockOf h = n; rw [HN.out]; exact k.out.block
  obtain ⟨m, hm1⟩ : ∃ m : Nat, m = 33554432 + n := ⟨_, rfl⟩
  have e1 : (33554432 : Int) + (n : Int) = (m : Int) := by omega
  have e2 : (m : Int) ≤ 33554560 := by omega
  have hw1 : IntKind.i64.wrap ((33554432 : Int) + (n : Int)) = (m : Int) := by rw [e1]; simp [IntKind.wrap, IntKind.bits, IntKind.signed]; omega
  have hw2 : IntKind.u64.wrap (m : Int) = (m : Int) := by simp [IntKind.wrap, IntKind.bits, IntKind.signed]; omega
  have c0 : w.cell? ⟨g, 0, none⟩ = some (.int .i64 h) := by obtain ⟨half, hk, _, _⟩ := hm.out.1; exact hk.hash
  have HA : Hid (∀ u, Sm w u → Calls Tryd.prog 54 #[.pointer (some ⟨g, 0, none⟩), .int .u64 (m : Int), v] u fun e w' => e = .returned (.int .i64 0) ∧ Touch w w' g 0 139 ∧ MRep w' g h si so (zs ++ yss.flatten)) := by
    intro u hsm
    have hr : Rep u g 0 h (wdOf h) si (bsz (wdOf h)) zs := by obtain ⟨half, hk, h1, h2⟩ := hm.out.1; exact ⟨half, hk.sm hsm, h1, h2⟩
    have hp' : Parts u g v yss := by
      obtain ⟨a, c, e, h1, h2, h3⟩ := hp.out
      refine ⟨a, c, e, h1, h2, ?_⟩
      rcases h3 with h3 | ⟨b, p, e2, h4, h5⟩
      · exact .inl h3
      · refine .inr ⟨b, p, e2, h4, fun i hi => ?_⟩
        obtain ⟨x, hx1, hx2, hx3⟩ := h5 i hi
        exact ⟨x, by rw [hsm.cell]; exact hx1, hsm.view hx2, hx3⟩
    refine (write_rep (wdOf h) g 0 h si (bsz (wdOf h)) zs yss v (33554432 - zs.length) m u k.out.block hr hp' (hsm.tables hT.out) hg (by have := hs.out; have := HN.out; omega) (by have := hs.out; have := HN.out; omega) (by have := hs.out; omega)).mono ?_
    rintro e w' ⟨rfl, ht, hr'⟩
    have ht' := (hsm.touch g 0 139).trans ht
    exact ⟨rfl, ht', hr', hm.out.2.touch ht'⟩
  clear e1 hm1
  go_enter Tryd.func35, Tryd.ntmps35
  go_upto_region 3 with fail
  go_region_held3 (fun u => u.cell? ⟨g, 0, none⟩ = some (.int .i64 h)) (first | exact c0 | exact hS6 | go_keep) (first
    | (go_at_call 55; refine (block_any h _).mono ?_; rintro e5 w5 ⟨rfl, hw5⟩; obtain rfl := hw5.symm; rw [hblk.out])
    | (go_at_call 54; refine (HA.out w.drew (Sm.refl w).drew).mono ?_; rintro e6 w6 ⟨rfl, ht6, hm6⟩; have hS6 : w6.cell? ⟨g, 0, none⟩ = some (.int .i64 h) := hm6.1.elim (fun _ q => q.1.hash)))
  have HQ : Hid (Touch w w6 g 0 139 ∧ MRep w6 g h si so (zs ++ yss.flatten)) := ⟨ht6, hm6⟩
  clear ht6 hm6 hS6
  go_wp2
  go_ret
  exact ⟨rfl, HQ.out.1, HQ.out.2⟩
end Go.Proofs.YtioggmjocelolacDoor
