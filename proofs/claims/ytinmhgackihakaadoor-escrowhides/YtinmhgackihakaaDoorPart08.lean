import Derived.Test.YtinmhgackihakaaDoorPart07
import Derived.Test.YtinmhgackihakaaDoorPart06
import Derived.Deep.Cut
import Derived.Deep.QuietTactic
import Derived.BigQuiet
import Derived.Deep.RegionHeld3
import Derived.Test.YtinmhgackihakaaDoorPart05
import Derived.Deep.AppendLies
import Derived.Test.YtinmhgackihakaaDoorPart02
namespace Go.Proofs.YtinmhgackihakaaDoor
open Go.RowKit
set_option linter.unusedVariables false
set_option linter.unusedSimpArgs false

set_option maxHeartbeats 3200000 in
set_option maxRecDepth 100000 in
theorem finish64_B (g o : Nat) (h : Int) (s : Eight) (half : Nat → Int) (fed used u1 : Nat) (w : World) (hblk : blockOf h = 64) (HK : Hid (TK w g o h false s half fed)) (hfed : fed ≤ 1152921504606846976) (hT : Hid (Tables w)) (hg : 2 ≤ g) (h0 : Hid (fed % 64 = used)) (hu1 : Hid (u1 = used + 1)) (hu : 56 < u1) (hu9 : u1 ≤ 64) :
    Calls Tryd.prog 72 #[.pointer (some ⟨g, o, none⟩)] w fun e w' => e = .returned (.agg (spellCells 4 (TT false (padF 64 half fed) s (padN 64 fed))).toArray) ∧ Touch w w' g o 139 ∧ ∃ half', TK w' g o h false (TT false (padF 64 half fed) s (padN 64 fed)) half' fed := by
  have c0 := HK.out.hash
  have c138 := HK.out.fed
  have hgw : g < w.heap.size := lt_of_cell c0
  have e1 : (used : Int) + 1 = (u1 : Int) := by have := hu1.out; omega
  have hu' : (u1 : Int) ≤ 64 := by omega
  have hu'' : (0 : Int) ≤ (u1 : Int) := by omega
  have hul : used < u1 := by have := hu1.out; omega
  have hlim : (56 : Int) < (u1 : Int) := by omega
  have r0 : ((fed : Int) % 64) = (used : Int) := by have := h0.out; omega
  go_enter Tryd.func72, Tryd.ntmps72
  go_upto_region 3 with (first | (go_at_call 83; refine (block_any _ _).mono ?_; rintro e1 w1 ⟨rfl, hw1⟩; obtain rfl := hw1.symm; rw [hblk]))
  have HB0 : Hid (Below w.heap.size w (w.alloc (.cells #[.int .u8 0, .int .u8 0, .int .u8 0, .int .u8 0, .int .u8 0, .int .u8 0, .int .u8 0, .int .u8 0, .int .u8 0, .int .u8 0, .int .u8 0, .int .u8 0, .int .u8 0, .int .u8 0, .int .u8 0, .int .u8 0, .int .u8 0, .int .u8 0, .int .u8 0, .int .u8 0, .int .u8 0, .int .u8 0, .int .u8 0, .int .u8 0, .int .u8 0, .int .u8 0, .int .u8 0, .int .u8 0, .int .u8 0, .int .u8 0, .int .u8 0, .int .u8 0, .int .u8 0, .int .u8 0, .int .u8 0, .int .u8 0, .int .u8 0, .int .u8 0, .int .u8 0, .int .u8 0, .int .u8 0, .int .u8 0, .int .u8 0, .int .u8 0, .int .u8 0, .int .u8 0, .int .u8 0, .int .u8 0, .int .u8 0, .int .u8 0, .int .u8 0, .int .u8 0, .int .u8 0, .int .u8 0, .int .u8 0, .int .u8 0, .int .u8 0, .int .u8 0, .int .u8 0, .int .u8 0, .int .u8 0, .int .u8 0, .int .u8 0, .int .u8 0] 123)) ∧ (w.alloc (.cells #[.int .u8 0, .int .u8 0, .int .u8 0, .int .u8 0, .int .u8 0, .int .u8 0, .int .u8 0, .int .u8 0, .int .u8 0, .int .u8 0, .int .u8 0, .int .u8 0, .int .u8 0, .int .u8 0, .int .u8 0, .int .u8 0, .int .u8 0, .int .u8 0, .int .u8 0, .int .u8 0, .int .u8 0, .int .u8 0, .int .u8 0, .int .u8 0, .int .u8 0, .int .u8 0, .int .u8 0, .int .u8 0, .int .u8 0, .int .u8 0, .int .u8 0, .int .u8 0, .int .u8 0, .int .u8 0, .int .u8 0, .int .u8 0, .int .u8 0, .int .u8 0, .int .u8 0, .int .u8 0, .int .u8 0, .int .u8 0, .int .u8 0, .int .u8 0, .int .u8 0, .int .u8 0, .int .u8 0, .int .u8 0, .int .u8 0, .int .u8 0, .int .u8 0, .int .u8 0, .int .u8 0, .int .u8 0, .int .u8 0, .int .u8 0, .int .u8 0, .int .u8 0, .int .u8 0, .int .u8 0, .int .u8 0, .int .u8 0, .int .u8 0, .int .u8 0] 123)).there w.heap.size 0 64 ∧ w.heap.size < (w.alloc (.cells #[.int .u8 0, .int .u8 0, .int .u8 0, .int .u8 0, .int .u8 0, .int .u8 0, .int .u8 0, .int .u8 0, .int .u8 0, .int .u8 0, .int .u8 0, .int .u8 0, .int .u8 0, .int .u8 0, .int .u8 0, .int .u8 0, .int .u8 0, .int .u8 0, .int .u8 0, .int .u8 0, .int .u8 0, .int .u8 0, .int .u8 0, .int .u8 0, .int .u8 0, .int .u8 0, .int .u8 0, .int .u8 0, .int .u8 0, .int .u8 0, .int .u8 0, .int .u8 0, .int .u8 0, .int .u8 0, .int .u8 0, .int .u8 0, .int .u8 0, .int .u8 0, .int .u8 0, .int .u8 0, .int .u8 0, .int .u8 0, .int .u8 0, .int .u8 0, .int .u8 0, .int .u8 0, .int .u8 0, .int .u8 0, .int .u8 0, .int .u8 0, .int .u8 0, .int .u8 0, .int .u8 0, .int .u8 0, .int .u8 0, .int .u8 0, .int .u8 0, .int .u8 0, .int .u8 0, .int .u8 0, .int .u8 0, .int .u8 0, .int .u8 0, .int .u8 0] 123)).heap.size) := ⟨(Below.refl _ _).alloc (Nat.le_refl _) _, there_new w _ 123 64 (by decide), by simp⟩
  generalize w.alloc (.cells #[.int .u8 0, .int .u8 0, .int .u8 0, .int .u8 0, .int .u8 0, .int .u8 0, .int .u8 0, .int .u8 0, .int .u8 0, .int .u8 0, .int .u8 0, .int .u8 0, .int .u8 0, .int .u8 0, .int .u8 0, .int .u8 0, .int .u8 0, .int .u8 0, .int .u8 0, .int .u8 0, .int .u8 0, .int .u8 0, .int .u8 0, .int .u8 0, .int .u8 0, .int .u8 0, .int .u8 0, .int .u8 0, .int .u8 0, .int .u8 0, .int .u8 0, .int .u8 0, .int .u8 0, .int .u8 0, .int .u8 0, .int .u8 0, .int .u8 0, .int .u8 0, .int .u8 0, .int .u8 0, .int .u8 0, .int .u8 0, .int .u8 0, .int .u8 0, .int .u8 0, .int .u8 0, .int .u8 0, .int .u8 0, .int .u8 0, .int .u8 0, .int .u8 0, .int .u8 0, .int .u8 0, .int .u8 0, .int .u8 0, .int .u8 0, .int .u8 0, .int .u8 0, .int .u8 0, .int .u8 0, .int .u8 0, .int .u8 0, .int .u8 0, .int .u8 0] 123) = w0 at HB0 ⊢
  have HK0 : Hid (TK w0 g o h false s half fed) := HK.out.below HB0.out.1
  have fu : w0.cell? ⟨g, o + 10 + used, none⟩ = some (.int .u8 (half used)) := HK0.out.half used (by omega)
  have ff : w0.frozen? ⟨g, o + 10 + used, none⟩ = false := by
    have := (HK0.out.there (10 + used) (by omega)).2
    rw [← Nat.add_assoc] at this
    exact this
  have hx1 := HK0.out.setByte used 128 (by omega)
  have hcl : ∀ ty, (Builtin.clear_ #[23] ty #[.slice (some ⟨g, o + 10 + u1, none⟩) (64 - u1) (128 - u1)]).run Tryd.prog (w0.setCell ⟨g, o + 10 + used, none⟩ (.int .u8 128)) = .ok (.tuple #[]) ((w0.setCell ⟨g, o + 10 + used, none⟩ (.int .u8 128)).setCells g (o + 10 + u1) (List.replicate (64 - u1) (.int .u8 0))) := fun ty => clear_eq _ ty g _ _ _ (fun j hj => by
    have := hx1.1.there (10 + u1 + j) (by omega)
    rw [← Nat.add_assoc, ← Nat.add_assoc] at this
    exact this)
  have hx2 := hx1.1.clear u1 (64 - u1) (by omega)
  have HT1 : Hid (Touch w ((w0.setCell ⟨g, o + 10 + used, none⟩ (.int .u8 128)).setCells g (o + 10 + u1) (List.replicate (64 - u1) (.int .u8 0))) g o 139) := (((Touch.refl w g o 139).below HB0.out.1 hgw).trans hx1.2).trans hx2.2
  have HK1 : Hid (TK ((w0.setCell ⟨g, o + 10 + used, none⟩ (.int .u8 128)).setCells g (o + 10 + u1) (List.replicate (64 - u1) (.int .u8 0))) g o h false s (fun i => if u1 ≤ i ∧ i < u1 + (64 - u1) then 0 else (fun i => if i = used then 128 else half i) i) fed) := hx2.1
  have HR1 : Hid (((w0.setCell ⟨g, o + 10 + used, none⟩ (.int .u8 128)).setCells g (o + 10 + u1) (List.replicate (64 - u1) (.int .u8 0))).there w.heap.size 0 64 ∧ w.heap.size < ((w0.setCell ⟨g, o + 10 + used, none⟩ (.int .u8 128)).setCells g (o + 10 + u1) (List.replicate (64 - u1) (.int .u8 0))).heap.size) := ⟨World.there_setCells (World.there_setCells HB0.out.2.1 g _ [_]) g _ _, by rw [size_setCells]; simpa [World.setCell] using HB0.out.2.2⟩
  clear hx1 hx2
  go_upto_region 6 with fail
  generalize (w0.setCell ⟨g, o + 10 + used, none⟩ (.int .u8 128)).setCells g (o + 10 + u1) (List.replicate (64 - u1) (.int .u8 0)) = w2 at HT1 HK1 HR1 hcl ⊢
  have c1' : w2.cell? ⟨g, o + 1, none⟩ = some (.func (.func 84) #[] #[]) := HK1.out.fn
  obtain ⟨H0, HH0⟩ : ∃ H0 : Nat → Int, Hid ((fun i => if u1 ≤ i ∧ i < u1 + (64 - u1) then (0 : Int) else (fun i => if i = used then 128 else half i) i) = H0) := ⟨_, (show _ = _ from rfl)⟩
  rw [HH0.out] at HK1
  obtain ⟨s1, HS1⟩ : ∃ s1 : Eight, Hid (s1 = TT false H0 s 1) := ⟨_, (show _ = _ from rfl)⟩
  have HA : Hid (∀ v, Sm w2 v → Calls Tryd.prog 84 #[.pointer (some ⟨g, o + 2, none⟩), .slice (some ⟨g, o + 10, none⟩) 64 128] v fun e w' => e = .returned (.tuple #[]) ∧ Touch w2 w' g o 139 ∧ TK w' g o h false s1 H0 fed) := by
    intro v hsm
    have hs1 := HT1.out.size
    have hk' := HK1.out.sm hsm
    refine (take_any false g (o + 2) _ ((List.range 64).map H0) s v (by rw [hsm.heap]; omega) hk'.st (fun j hj => by have := hk'.there (2 + j) (by omega); rw [← Nat.add_assoc] at this; exact this) (view_half hk' 64 (by omega)) (fun _ _ _ _ e => by injection e with e1 e2 e3; injection e1 with e1; injection e1 with e4 e5; omega) (hsm.tables (hT.out.touch HT1.out hg)) hg).mono ?_
    rintro e w' ⟨rfl, ht', hr'⟩
    rw [show ((List.range 64).map H0).length / bsz false = 1 by simp [bsz], TT_congr false (B' := H0) s 1 (fun j hj => by simp [bsz] at hj; simp [List.getD, hj]), ← HS1.out] at hr'
    exact ⟨rfl, (hsm.touch g o 139).trans (ht'.mono o 139 (by omega) (by omega)), hk'.words ht' hr'⟩
  clear hcl fu ff HK0 HB0 c0 c138
  go_wp2
  go_region_held3 (fun v => v.cell? ⟨g, o + 1, none⟩ = some (.func (.func 84) #[] #[])) (first | go_keep | exact hk3.fn) ((go_at_call 84; refine (HA.out w2.drew (Sm.refl w2).drew).mono ?_; rintro e3 w3 ⟨rfl, ht3, hk3⟩))
  have hx3 := hk3.clear 0 64 (by omega)
  have hcl3 : ∀ ty, (Builtin.clear_ #[23] ty #[.slice (some ⟨g, o + 10, none⟩) 64 128]).run Tryd.prog w3 = .ok (.tuple #[]) (w3.setCells g (o + 10) (List.replicate 64 (.int .u8 0))) := fun ty => clear_eq _ ty g _ _ _ (fun j hj => by
    have := hk3.there (10 + j) (by omega)
    rw [← Nat.add_assoc] at this
    exact this)
  rw [Nat.add_zero] at hx3
  have HR2 : Hid ((w3.setCells g (o + 10) (List.replicate 64 (.int .u8 0))).there w.heap.size 0 64 ∧ w.heap.size < (w3.setCells g (o + 10) (List.replicate 64 (.int .u8 0))).heap.size) := ⟨World.there_setCells (ht3.thereFar HR1.out.1 HR1.out.2 (by omega)) g _ _, by rw [size_setCells]; exact Nat.lt_of_lt_of_le HR1.out.2 ht3.size⟩
  have HT2 : Hid (Touch w (w3.setCells g (o + 10) (List.replicate 64 (.int .u8 0))) g o 139) := (HT1.out.trans ht3).trans hx3.2
  have HK2 : Hid (TK (w3.setCells g (o + 10) (List.replicate 64 (.int .u8 0))) g o h false s1 (fun i => if 0 ≤ i ∧ i < 0 + 64 then 0 else H0 i) fed) := hx3.1
  clear hx3 ht3 hk3 HT1 HK1 HR1 HA c1'
  generalize w3.setCells g (o + 10) (List.replicate 64 (.int .u8 0)) = w4 at HT2 HK2 HR2 hcl3
  go_upto_region 8 with fail
  have HT1 := HT2; have HR1 := HR2
  have c138' : w4.cell? ⟨g, o + 138, none⟩ = some (.int .u64 fed) := HK2.out.fed
  obtain ⟨H1, HH1⟩ : ∃ H1 : Nat → Int, Hid ((fun i => if 0 ≤ i ∧ i < 0 + 64 then 0 else H0 i) = H1) := ⟨_, (show _ = _ from rfl)⟩
  rw [HH1.out] at HK2
  have HK1 := HK2
  obtain ⟨P, HPP⟩ : ∃ P : Nat → Int, Hid (P = fun i => padF 64 half fed (64 + i)) := ⟨_, (show _ = _ from rfl)⟩
  have hpn : padN 64 fed = 2 := by rw [padN, if_neg (by have := h0.out; have := hu1.out; omega)]
  have HP1 : Hid (∀ k, k < 64 - 8 → H1 k = P k) := by
    intro k hk
    have hu := hu1.out
    have h00 := h0.out
    rw [← HH1.out, HPP.out]
    simp only [padF, hpn, h00]
    rw [if_pos ⟨by omega, by omega⟩, if_neg (by omega), if_neg (by omega), if_pos (by omega)]
  have HPL : Hid (∀ k, 64 - 8 ≤ k → k < 64 → P k = ((fed : Int) * 8) / 2 ^ (8 * (64 - 1 - k)) % 256) := by
    intro k k1 hk
    have hu := hu1.out
    have h00 := h0.out
    rw [HPP.out]
    simp only [padF, hpn, h00]
    rw [if_neg (by omega), if_neg (by omega), if_neg (by omega), show 2 * 64 - 1 - (64 + k) = 64 - 1 - k by omega]
  have HE : Hid (TT false P s1 1 = TT false (padF 64 half fed) s (padN 64 fed)) := by
    show _ = _
    rw [HPP.out, HS1.out, hpn, show (2 : Nat) = 1 + 1 from rfl, TT_add false _ s 1 1, TT_congr false (B := H0) (B' := padF 64 half fed) s 1]
    · simp [bsz]
    · intro k hk
      have hk' : k < 64 := by simpa [bsz] using hk
      have hu := hu1.out
      have h00 := h0.out
      rw [← HH0.out]
      simp only [padF, hpn, h00]
      by_cases k2 : u1 ≤ k
      · rw [if_pos ⟨k2, by omega⟩, if_neg (by omega), if_neg (by omega), if_pos (by omega)]
      · rw [if_neg (by omega)]
        by_cases k3 : k = used
        · rw [if_pos k3, if_neg (by omega), if_pos k3]
        · rw [if_neg k3, if_pos (by omega)]
  clear hcl3 hpn HH1 HPP HS1 HT2 HK2 HR2 HH0
  go_wp2
  clear c138'
  go_loopw [62] (fun v wr => ∃ i : Nat, i ≤ 8 ∧ v = .int .i64 i ∧ Hid (Touch w wr g o 139) ∧ Hid (TK wr g o h false s1 (fun k => if 64 - i ≤ k ∧ k < 64 then ((fed : Int) * 8) / 2 ^ (8 * (64 - 1 - k)) % 256 else H1 k) fed) ∧ Hid (wr.there w.heap.size 0 64 ∧ w.heap.size < wr.heap.size)) (fun v _ => 8 - (intOf v).toNat)
  case atStart => exact ⟨0, by omega, rfl, HT1, HK1.out.fun_eq (fun i hi => by rw [if_neg (by omega)]), HR1⟩
  case round =>
    obtain ⟨i, hi, rfl, HT2, HK2, HR2⟩ := hrel
    clear HT1 HK1 HR1
    by_cases h8 : i < 8
    · obtain ⟨j, hj⟩ : ∃ j, j = 64 - 1 - i := ⟨_, rfl⟩
      have e2 : (63 : Int) - (i : Int) = (j : Int) := by omega
      have e3 : (8 * (i : Int)).toNat = 8 * i := by omega
      have e4 : min (8 * i) 64 = 8 * i := by omega
      have e5 : (0 : Int) ≤ 8 * (i : Int) := by omega
      have e6 : (j : Int) < 128 := by omega
      have HJ : Hid (j = 64 - 1 - i) := hj
      have fc := HK2.out.half j (by omega)
      have ff : wr.frozen? ⟨g, o + 10 + j, none⟩ = false := by
        have := (HK2.out.there (10 + j) (by omega)).2
        rw [← Nat.add_assoc] at this
        exact this
      clear hj
      go_wp2
      go_region
      go_wp2
      go_roundw
      case rel =>
        have hx := HK2.out.setByte j ((fed : Int) * 8 / 2 ^ (8 * i) % 256) (by omega)
        refine ⟨i + 1, by omega, by go_num, (HT2.out.trans hx.2).drew, (hx.1.sm (Sm.refl _).drew).fun_eq (fun k hk => ?_), ⟨World.there_setCells HR2.out.1 g _ [_], by simpa [World.setCell] using HR2.out.2⟩⟩
        have hj := HJ.out
        by_cases hkj : k = j
        · subst hkj
          rw [if_pos rfl, if_pos (by omega), show 64 - 1 - k = i by omega]
        · rw [if_neg hkj]
          by_cases hc : 64 - i ≤ k ∧ k < 64
          · rw [if_pos hc, if_pos (by omega)]
          · rw [if_neg hc, if_neg (by omega)]
      case measure => simp [intOf]; omega
    · obtain rfl : i = 8 := by omega
      have c1' : wr.cell? ⟨g, o + 1, none⟩ = some (.func (.func 84) #[] #[]) := HK2.out.fn
      obtain ⟨H2, HH2⟩ : ∃ H2 : Nat → Int, Hid ((fun k => if 64 - 8 ≤ k ∧ k < 64 then ((fed : Int) * 8) / 2 ^ (8 * (64 - 1 - k)) % 256 else H1 k) = H2) := ⟨_, (show _ = _ from rfl)⟩
      rw [HH2.out] at HK2
      have HP : Hid (∀ k, k < 64 → H2 k = P k) := by
        intro k hk
        rw [← HH2.out]
        dsimp only
        by_cases k1 : 64 - 8 ≤ k
        · rw [if_pos ⟨k1, hk⟩, HPL.out k k1 hk]
        · rw [if_neg (by omega), HP1.out k (by omega)]
      obtain ⟨s', HS'⟩ : ∃ s' : Eight, Hid (s' = TT false (padF 64 half fed) s (padN 64 fed)) := ⟨_, (show _ = _ from rfl)⟩
      have HA : Hid (∀ v, Sm wr v → Calls Tryd.prog 84 #[.pointer (some ⟨g, o + 2, none⟩), .slice (some ⟨g, o + 10, none⟩) 64 128] v fun e w' => e = .returned (.tuple #[]) ∧ Touch wr w' g o 139 ∧ TK w' g o h false s' H2 fed) := by
        intro v hsm
        have hs1 := HT2.out.size
        have hk' := HK2.out.sm hsm
        refine (take_any false g (o + 2) _ ((List.range 64).map H2) s1 v (by rw [hsm.heap]; omega) hk'.st (fun j hj => by have := hk'.there (2 + j) (by omega); rw [← Nat.add_assoc] at this; exact this) (view_half hk' 64 (by omega)) (fun _ _ _ _ e => by injection e with e1 e2 e3; injection e1 with e1; injection e1 with e4 e5; omega) (hsm.tables (hT.out.touch HT2.out hg)) hg).mono ?_
        rintro e w' ⟨rfl, ht', hr'⟩
        rw [show ((List.range 64).map H2).length / bsz false = 1 by simp [bsz], TT_congr false (B' := P) s1 1 (fun j hj => by simp [bsz] at hj; simp [List.getD, hj]; exact HP.out j (by omega)), HE.out, ← HS'.out] at hr'
        exact ⟨rfl, (hsm.touch g o 139).trans (ht'.mono o 139 (by omega) (by omega)), hk'.words ht' hr'⟩
      clear HH2 h8 HP HPL HP1 HE
      go_wp2
      go_region_held3 (fun v => v.cell? ⟨g, o + 1, none⟩ = some (.func (.func 84) #[] #[])) (first | go_keep | exact hk3.fn) ((go_at_call 84; refine (HA.out wr.drew (Sm.refl wr).drew).mono ?_; rintro e3 w3 ⟨rfl, ht3, hk3⟩))
      have HT3 : Hid (Touch w w3 g o 139) := HT2.out.trans ht3
      have HR3 : Hid (w3.there w.heap.size 0 64 ∧ w.heap.size < w3.heap.size) := ⟨ht3.thereFar HR2.out.1 HR2.out.2 (by omega), Nat.lt_of_lt_of_le HR2.out.2 ht3.size⟩
      have HK3 : Hid (TK w3 g o h false s' H2 fed) := hk3
      clear ht3 hk3 HA c1' HT2 HR2 HK2
      go_wp2_with (first | (go_at_call 88; refine (spell64 g o h s' H2 fed _ hblk HK3).mono ?_))
      rintro e4 w4 ⟨rfl, hb4⟩
      have hs3 := HT3.out.size
      have HT4 : Hid (Touch w w4 g o 139) := HT3.out.below hb4 hgw
      have HK4 : Hid (TK w4 g o h false s' H2 fed) := HK3.out.below hb4
      have HR4 : Hid (w4.there w.heap.size 0 64) := fun j hj => by rw [hb4.cell (p := ⟨w.heap.size, 0 + j, none⟩) HR3.out.2, hb4.frozen (p := ⟨w.heap.size, 0 + j, none⟩) HR3.out.2]; exact HR3.out.1 j hj
      have HY : Hid (w4.there w.heap.size 0 (spellCells 4 s').toArray.size) := by rw [spellArr_size]; exact HR4.out
      have HZ : Hid ((Tryd.prog.info? 123).map (·.size) = some (spellCells 4 s').toArray.size) := by rw [spellArr_size]; exact size75
      clear HT3 HK3 HR3 hb4
      go_wp2_with (first
        | (refine wpList_store_mid (by rfl) 123 (.tmp 2) (.tmp 93) (by rfl) w.heap.size 0 (spellCells 4 s').toArray (by rfl) (by rfl) HY.out HZ.out (spellCells_one 4 s') ?_)
        | fail)
      have hl := run_loadVar_mid (P := Tryd.prog) (w4.setCells w.heap.size 0 (spellCells 4 s')) w.heap.size 0 123 (spellCells 4 s') _ (World.rangeAt_setCells_same w4 w.heap.size 0 (spellCells 4 s') (by rw [spellCells_length]; exact HR4.out)) Tryd.underlying123 rfl (by rw [spellCells_length]; exact size75)
      have hn := touch_new HT4.out (Nat.le_refl _) (spellCells 4 s') 0 hgw
      have hs' := HS'.out
      refine bodyPost_ret (v := .agg (spellCells 4 s').toArray) ?_ rfl ⟨by rw [hs'], hn, H2, by rw [← hs']; exact HK4.out.newer (by omega) _ _⟩
      rw [results_cell1D Tryd.results72]
      simp [Act.put, asAddr, hl]
end Go.Proofs.YtinmhgackihakaaDoor
namespace Go.Proofs.YtinmhgackihakaaDoor
open Go.RowKit
set_option linter.unusedVariables false
set_option linter.unusedSimpArgs false

set_option maxHeartbeats 3200000 in
set_option maxRecDepth 100000 in
theorem finish128_B (g o : Nat) (h : Int) (s : Eight) (half : Nat → Int) (fed used u1 : Nat) (w : World) (hblk : blockOf h = 128) (HK : Hid (TK w g o h true s half fed)) (hfed : fed ≤ 1152921504606846976) (hT : Hid (Tables w)) (hg : 2 ≤ g) (h0 : Hid (fed % 128 = used)) (hu1 : Hid (u1 = used + 1)) (hu : 112 < u1) (hu9 : u1 ≤ 127) :
    Calls Tryd.prog 72 #[.pointer (some ⟨g, o, none⟩)] w fun e w' => e = .returned (.agg (spellCells 8 (TT true (padF 128 half fed) s (padN 128 fed))).toArray) ∧ Touch w w' g o 139 ∧ ∃ half', TK w' g o h true (TT true (padF 128 half fed) s (padN 128 fed)) half' fed := by
  have c0 := HK.out.hash
  have c138 := HK.out.fed
  have hgw : g < w.heap.size := lt_of_cell c0
  have e1 : (used : Int) + 1 = (u1 : Int) := by have := hu1.out; omega
  have hu' : (u1 : Int) ≤ 128 := by omega
  have hu'' : (0 : Int) ≤ (u1 : Int) := by omega
  have hul : used < u1 := by have := hu1.out; omega
  have hlim : (112 : Int) < (u1 : Int) := by omega
  have r0 : ((fed : Int) % 128) = (used : Int) := by have := h0.out; omega
  go_enter Tryd.func72, Tryd.ntmps72
  go_upto_region 3 with (first | (go_at_call 83; refine (block_any _ _).mono ?_; rintro e1 w1 ⟨rfl, hw1⟩; obtain rfl := hw1.symm; rw [hblk]))
  have HB0 : Hid (Below w.heap.size w (w.alloc (.cells #[.int .u8 0, .int .u8 0, .int .u8 0, .int .u8 0, .int .u8 0, .int .u8 0, .int .u8 0, .int .u8 0, .int .u8 0, .int .u8 0, .int .u8 0, .int .u8 0, .int .u8 0, .int .u8 0, .int .u8 0, .int .u8 0, .int .u8 0, .int .u8 0, .int .u8 0, .int .u8 0, .int .u8 0, .int .u8 0, .int .u8 0, .int .u8 0, .int .u8 0, .int .u8 0, .int .u8 0, .int .u8 0, .int .u8 0, .int .u8 0, .int .u8 0, .int .u8 0, .int .u8 0, .int .u8 0, .int .u8 0, .int .u8 0, .int .u8 0, .int .u8 0, .int .u8 0, .int .u8 0, .int .u8 0, .int .u8 0, .int .u8 0, .int .u8 0, .int .u8 0, .int .u8 0, .int .u8 0, .int .u8 0, .int .u8 0, .int .u8 0, .int .u8 0, .int .u8 0, .int .u8 0, .int .u8 0, .int .u8 0, .int .u8 0, .int .u8 0, .int .u8 0, .int .u8 0, .int .u8 0, .int .u8 0, .int .u8 0, .int .u8 0, .int .u8 0] 123)) ∧ (w.alloc (.cells #[.int .u8 0, .int .u8 0, .int .u8 0, .int .u8 0, .int .u8 0, .int .u8 0, .int .u8 0, .int .u8 0, .int .u8 0, .int .u8 0, .int .u8 0, .int .u8 0, .int .u8 0, .int .u8 0, .int .u8 0, .int .u8 0, .int .u8 0, .int .u8 0, .int .u8 0, .int .u8 0, .int .u8 0, .int .u8 0, .int .u8 0, .int .u8 0, .int .u8 0, .int .u8 0, .int .u8 0, .int .u8 0, .int .u8 0, .int .u8 0, .int .u8 0, .int .u8 0, .int .u8 0, .int .u8 0, .int .u8 0, .int .u8 0, .int .u8 0, .int .u8 0, .int .u8 0, .int .u8 0, .int .u8 0, .int .u8 0, .int .u8 0, .int .u8 0, .int .u8 0, .int .u8 0, .int .u8 0, .int .u8 0, .int .u8 0, .int .u8 0, .int .u8 0, .int .u8 0, .int .u8 0, .int .u8 0, .int .u8 0, .int .u8 0, .int .u8 0, .int .u8 0, .int .u8 0, .int .u8 0, .int .u8 0, .int .u8 0, .int .u8 0, .int .u8 0] 123)).there w.heap.size 0 64 ∧ w.heap.size < (w.alloc (.cells #[.int .u8 0, .int .u8 0, .int .u8 0, .int .u8 0, .int .u8 0, .int .u8 0, .int .u8 0, .int .u8 0, .int .u8 0, .int .u8 0, .int .u8 0, .int .u8 0, .int .u8 0, .int .u8 0, .int .u8 0, .int .u8 0, .int .u8 0, .int .u8 0, .int .u8 0, .int .u8 0, .int .u8 0, .int .u8 0, .int .u8 0, .int .u8 0, .int .u8 0, .int .u8 0, .int .u8 0, .int .u8 0, .int .u8 0, .int .u8 0, .int .u8 0, .int .u8 0, .int .u8 0, .int .u8 0, .int .u8 0, .int .u8 0, .int .u8 0, .int .u8 0, .int .u8 0, .int .u8 0, .int .u8 0, .int .u8 0, .int .u8 0, .int .u8 0, .int .u8 0, .int .u8 0, .int .u8 0, .int .u8 0, .int .u8 0, .int .u8 0, .int .u8 0, .int .u8 0, .int .u8 0, .int .u8 0, .int .u8 0, .int .u8 0, .int .u8 0, .int .u8 0, .int .u8 0, .int .u8 0, .int .u8 0, .int .u8 0, .int .u8 0, .int .u8 0] 123)).heap.size) := ⟨(Below.refl _ _).alloc (Nat.le_refl _) _, there_new w _ 123 64 (by decide), by simp⟩
  generalize w.alloc (.cells #[.int .u8 0, .int .u8 0, .int .u8 0, .int .u8 0, .int .u8 0, .int .u8 0, .int .u8 0, .int .u8 0, .int .u8 0, .int .u8 0, .int .u8 0, .int .u8 0, .int .u8 0, .int .u8 0, .int .u8 0, .int .u8 0, .int .u8 0, .int .u8 0, .int .u8 0, .int .u8 0, .int .u8 0, .int .u8 0, .int .u8 0, .int .u8 0, .int .u8 0, .int .u8 0, .int .u8 0, .int .u8 0, .int .u8 0, .int .u8 0, .int .u8 0, .int .u8 0, .int .u8 0, .int .u8 0, .int .u8 0, .int .u8 0, .int .u8 0, .int .u8 0, .int .u8 0, .int .u8 0, .int .u8 0, .int .u8 0, .int .u8 0, .int .u8 0, .int .u8 0, .int .u8 0, .int .u8 0, .int .u8 0, .int .u8 0, .int .u8 0, .int .u8 0, .int .u8 0, .int .u8 0, .int .u8 0, .int .u8 0, .int .u8 0, .int .u8 0, .int .u8 0, .int .u8 0, .int .u8 0, .int .u8 0, .int .u8 0, .int .u8 0, .int .u8 0] 123) = w0 at HB0 ⊢
  have HK0 : Hid (TK w0 g o h true s half fed) := HK.out.below HB0.out.1
  have fu : w0.cell? ⟨g, o + 10 + used, none⟩ = some (.int .u8 (half used)) := HK0.out.half used (by omega)
  have ff : w0.frozen? ⟨g, o + 10 + used, none⟩ = false := by
    have := (HK0.out.there (10 + used) (by omega)).2
    rw [← Nat.add_assoc] at this
    exact this
  have hx1 := HK0.out.setByte used 128 (by omega)
  have hcl : ∀ ty, (Builtin.clear_ #[23] ty #[.slice (some ⟨g, o + 10 + u1, none⟩) (128 - u1) (128 - u1)]).run Tryd.prog (w0.setCell ⟨g, o + 10 + used, none⟩ (.int .u8 128)) = .ok (.tuple #[]) ((w0.setCell ⟨g, o + 10 + used, none⟩ (.int .u8 128)).setCells g (o + 10 + u1) (List.replicate (128 - u1) (.int .u8 0))) := fun ty => clear_eq _ ty g _ _ _ (fun j hj => by
    have := hx1.1.there (10 + u1 + j) (by omega)
    rw [← Nat.add_assoc, ← Nat.add_assoc] at this
    exact this)
  have hx2 := hx1.1.clear u1 (128 - u1) (by omega)
  have HT1 : Hid (Touch w ((w0.setCell ⟨g, o + 10 + used, none⟩ (.int .u8 128)).setCells g (o + 10 + u1) (List.replicate (128 - u1) (.int .u8 0))) g o 139) := (((Touch.refl w g o 139).below HB0.out.1 hgw).trans hx1.2).trans hx2.2
  have HK1 : Hid (TK ((w0.setCell ⟨g, o + 10 + used, none⟩ (.int .u8 128)).setCells g (o + 10 + u1) (List.replicate (128 - u1) (.int .u8 0))) g o h true s (fun i => if u1 ≤ i ∧ i < u1 + (128 - u1) then 0 else (fun i => if i = used then 128 else half i) i) fed) := hx2.1
  have HR1 : Hid (((w0.setCell ⟨g, o + 10 + used, none⟩ (.int .u8 128)).setCells g (o + 10 + u1) (List.replicate (128 - u1) (.int .u8 0))).there w.heap.size 0 64 ∧ w.heap.size < ((w0.setCell ⟨g, o + 10 + used, none⟩ (.int .u8 128)).setCells g (o + 10 + u1) (List.replicate (128 - u1) (.int .u8 0))).heap.size) := ⟨World.there_setCells (World.there_setCells HB0.out.2.1 g _ [_]) g _ _, by rw [size_setCells]; simpa [World.setCell] using HB0.out.2.2⟩
  clear hx1 hx2
  go_upto_region 6 with fail
  generalize (w0.setCell ⟨g, o + 10 + used, none⟩ (.int .u8 128)).setCells g (o + 10 + u1) (List.replicate (128 - u1) (.int .u8 0)) = w2 at HT1 HK1 HR1 hcl ⊢
  have c1' : w2.cell? ⟨g, o + 1, none⟩ = some (.func (.func 85) #[] #[]) := HK1.out.fn
  obtain ⟨H0, HH0⟩ : ∃ H0 : Nat → Int, Hid ((fun i => if u1 ≤ i ∧ i < u1 + (128 - u1) then (0 : Int) else (fun i => if i = used then 128 else half i) i) = H0) := ⟨_, (show _ = _ from rfl)⟩
  rw [HH0.out] at HK1
  obtain ⟨s1, HS1⟩ : ∃ s1 : Eight, Hid (s1 = TT true H0 s 1) := ⟨_, (show _ = _ from rfl)⟩
  have HA : Hid (∀ v, Sm w2 v → Calls Tryd.prog 85 #[.pointer (some ⟨g, o + 2, none⟩), .slice (some ⟨g, o + 10, none⟩) 128 128] v fun e w' => e = .returned (.tuple #[]) ∧ Touch w2 w' g o 139 ∧ TK w' g o h true s1 H0 fed) := by
    intro v hsm
    have hs1 := HT1.out.size
    have hk' := HK1.out.sm hsm
    refine (take_any true g (o + 2) _ ((List.range 128).map H0) s v (by rw [hsm.heap]; omega) hk'.st (fun j hj => by have := hk'.there (2 + j) (by omega); rw [← Nat.add_assoc] at this; exact this) (view_half hk' 128 (by omega)) (fun _ _ _ _ e => by injection e with e1 e2 e3; injection e1 with e1; injection e1 with e4 e5; omega) (hsm.tables (hT.out.touch HT1.out hg)) hg).mono ?_
    rintro e w' ⟨rfl, ht', hr'⟩
    rw [show ((List.range 128).map H0).length / bsz true = 1 by simp [bsz], TT_congr true (B' := H0) s 1 (fun j hj => by simp [bsz] at hj; simp [List.getD, hj]), ← HS1.out] at hr'
    exact ⟨rfl, (hsm.touch g o 139).trans (ht'.mono o 139 (by omega) (by omega)), hk'.words ht' hr'⟩
  clear hcl fu ff HK0 HB0 c0 c138
  go_wp2
  go_region_held3 (fun v => v.cell? ⟨g, o + 1, none⟩ = some (.func (.func 85) #[] #[])) (first | go_keep | exact hk3.fn) ((go_at_call 85; refine (HA.out w2.drew (Sm.refl w2).drew).mono ?_; rintro e3 w3 ⟨rfl, ht3, hk3⟩))
  have hx3 := hk3.clear 0 128 (by omega)
  have hcl3 : ∀ ty, (Builtin.clear_ #[23] ty #[.slice (some ⟨g, o + 10, none⟩) 128 128]).run Tryd.prog w3 = .ok (.tuple #[]) (w3.setCells g (o + 10) (List.replicate 128 (.int .u8 0))) := fun ty => clear_eq _ ty g _ _ _ (fun j hj => by
    have := hk3.there (10 + j) (by omega)
    rw [← Nat.add_assoc] at this
    exact this)
  rw [Nat.add_zero] at hx3
  have HR2 : Hid ((w3.setCells g (o + 10) (List.replicate 128 (.int .u8 0))).there w.heap.size 0 64 ∧ w.heap.size < (w3.setCells g (o + 10) (List.replicate 128 (.int .u8 0))).heap.size) := ⟨World.there_setCells (ht3.thereFar HR1.out.1 HR1.out.2 (by omega)) g _ _, by rw [size_setCells]; exact Nat.lt_of_lt_of_le HR1.out.2 ht3.size⟩
  have HT2 : Hid (Touch w (w3.setCells g (o + 10) (List.replicate 128 (.int .u8 0))) g o 139) := (HT1.out.trans ht3).trans hx3.2
  have HK2 : Hid (TK (w3.setCells g (o + 10) (List.replicate 128 (.int .u8 0))) g o h true s1 (fun i => if 0 ≤ i ∧ i < 0 + 128 then 0 else H0 i) fed) := hx3.1
  clear hx3 ht3 hk3 HT1 HK1 HR1 HA c1'
  generalize w3.setCells g (o + 10) (List.replicate 128 (.int .u8 0)) = w4 at HT2 HK2 HR2 hcl3
  go_upto_region 8 with fail
  have HT1 := HT2; have HR1 := HR2
  have c138' : w4.cell? ⟨g, o + 138, none⟩ = some (.int .u64 fed) := HK2.out.fed
  obtain ⟨H1, HH1⟩ : ∃ H1 : Nat → Int, Hid ((fun i => if 0 ≤ i ∧ i < 0 + 128 then 0 else H0 i) = H1) := ⟨_, (show _ = _ from rfl)⟩
  rw [HH1.out] at HK2
  have HK1 := HK2
  obtain ⟨P, HPP⟩ : ∃ P : Nat → Int, Hid (P = fun i => padF 128 half fed (128 + i)) := ⟨_, (show _ = _ from rfl)⟩
  have hpn : padN 128 fed = 2 := by rw [padN, if_neg (by have := h0.out; have := hu1.out; omega)]
  have HP1 : Hid (∀ k, k < 128 - 8 → H1 k = P k) := by
    intro k hk
    have hu := hu1.out
    have h00 := h0.out
    rw [← HH1.out, HPP.out]
    simp only [padF, hpn, h00]
    rw [if_pos ⟨by omega, by omega⟩, if_neg (by omega), if_neg (by omega), if_pos (by omega)]
  have HPL : Hid (∀ k, 128 - 8 ≤ k → k < 128 → P k = ((fed : Int) * 8) / 2 ^ (8 * (128 - 1 - k)) % 256) := by
    intro k k1 hk
    have hu := hu1.out
    have h00 := h0.out
    rw [HPP.out]
    simp only [padF, hpn, h00]
    rw [if_neg (by omega), if_neg (by omega), if_neg (by omega), show 2 * 128 - 1 - (128 + k) = 128 - 1 - k by omega]
  have HE : Hid (TT true P s1 1 = TT true (padF 128 half fed) s (padN 128 fed)) := by
    show _ = _
    rw [HPP.out, HS1.out, hpn, show (2 : Nat) = 1 + 1 from rfl, TT_add true _ s 1 1, TT_congr true (B := H0) (B' := padF 128 half fed) s 1]
    · simp [bsz]
    · intro k hk
      have hk' : k < 128 := by simpa [bsz] using hk
      have hu := hu1.out
      have h00 := h0.out
      rw [← HH0.out]
      simp only [padF, hpn, h00]
      by_cases k2 : u1 ≤ k
      · rw [if_pos ⟨k2, by omega⟩, if_neg (by omega), if_neg (by omega), if_pos (by omega)]
      · rw [if_neg (by omega)]
        by_cases k3 : k = used
        · rw [if_pos k3, if_neg (by omega), if_pos k3]
        · rw [if_neg k3, if_pos (by omega)]
  clear hcl3 hpn HH1 HPP HS1 HT2 HK2 HR2 HH0
  go_wp2
  clear c138'
  go_loopw [62] (fun v wr => ∃ i : Nat, i ≤ 8 ∧ v = .int .i64 i ∧ Hid (Touch w wr g o 139) ∧ Hid (TK wr g o h true s1 (fun k => if 128 - i ≤ k ∧ k < 128 then ((fed : Int) * 8) / 2 ^ (8 * (128 - 1 - k)) % 256 else H1 k) fed) ∧ Hid (wr.there w.heap.size 0 64 ∧ w.heap.size < wr.heap.size)) (fun v _ => 8 - (intOf v).toNat)
  case atStart => exact ⟨0, by omega, rfl, HT1, HK1.out.fun_eq (fun i hi => by rw [if_neg (by omega)]), HR1⟩
  case round =>
    obtain ⟨i, hi, rfl, HT2, HK2, HR2⟩ := hrel
    clear HT1 HK1 HR1
    by_cases h8 : i < 8
    · obtain ⟨j, hj⟩ : ∃ j, j = 128 - 1 - i := ⟨_, rfl⟩
      have e2 : (127 : Int) - (i : Int) = (j : Int) := by omega
      have e3 : (8 * (i : Int)).toNat = 8 * i := by omega
      have e4 : min (8 * i) 64 = 8 * i := by omega
      have e5 : (0 : Int) ≤ 8 * (i : Int) := by omega
      have e6 : (j : Int) < 128 := by omega
      have HJ : Hid (j = 128 - 1 - i) := hj
      have fc := HK2.out.half j (by omega)
      have ff : wr.frozen? ⟨g, o + 10 + j, none⟩ = false := by
        have := (HK2.out.there (10 + j) (by omega)).2
        rw [← Nat.add_assoc] at this
        exact this
      clear hj
      go_wp2
      go_region
      go_wp2
      go_roundw
      case rel =>
        have hx := HK2.out.setByte j ((fed : Int) * 8 / 2 ^ (8 * i) % 256) (by omega)
        refine ⟨i + 1, by omega, by go_num, (HT2.out.trans hx.2).drew, (hx.1.sm (Sm.refl _).drew).fun_eq (fun k hk => ?_), ⟨World.there_setCells HR2.out.1 g _ [_], by simpa [World.setCell] using HR2.out.2⟩⟩
        have hj := HJ.out
        by_cases hkj : k = j
        · subst hkj
          rw [if_pos rfl, if_pos (by omega), show 128 - 1 - k = i by omega]
        · rw [if_neg hkj]
          by_cases hc : 128 - i ≤ k ∧ k < 128
          · rw [if_pos hc, if_pos (by omega)]
          · rw [if_neg hc, if_neg (by omega)]
      case measure => simp [intOf]; omega
    · obtain rfl : i = 8 := by omega
      have c1' : wr.cell? ⟨g, o + 1, none⟩ = some (.func (.func 85) #[] #[]) := HK2.out.fn
      obtain ⟨H2, HH2⟩ : ∃ H2 : Nat → Int, Hid ((fun k => if 128 - 8 ≤ k ∧ k < 128 then ((fed : Int) * 8) / 2 ^ (8 * (128 - 1 - k)) % 256 else H1 k) = H2) := ⟨_, (show _ = _ from rfl)⟩
      rw [HH2.out] at HK2
      have HP : Hid (∀ k, k < 128 → H2 k = P k) := by
        intro k hk
        rw [← HH2.out]
        dsimp only
        by_cases k1 : 128 - 8 ≤ k
        · rw [if_pos ⟨k1, hk⟩, HPL.out k k1 hk]
        · rw [if_neg (by omega), HP1.out k (by omega)]
      obtain ⟨s', HS'⟩ : ∃ s' : Eight, Hid (s' = TT true (padF 128 half fed) s (padN 128 fed)) := ⟨_, (show _ = _ from rfl)⟩
      have HA : Hid (∀ v, Sm wr v → Calls Tryd.prog 85 #[.pointer (some ⟨g, o + 2, none⟩), .slice (some ⟨g, o + 10, none⟩) 128 128] v fun e w' => e = .returned (.tuple #[]) ∧ Touch wr w' g o 139 ∧ TK w' g o h true s' H2 fed) := by
        intro v hsm
        have hs1 := HT2.out.size
        have hk' := HK2.out.sm hsm
        refine (take_any true g (o + 2) _ ((List.range 128).map H2) s1 v (by rw [hsm.heap]; omega) hk'.st (fun j hj => by have := hk'.there (2 + j) (by omega); rw [← Nat.add_assoc] at this; exact this) (view_half hk' 128 (by omega)) (fun _ _ _ _ e => by injection e with e1 e2 e3; injection e1 with e1; injection e1 with e4 e5; omega) (hsm.tables (hT.out.touch HT2.out hg)) hg).mono ?_
        rintro e w' ⟨rfl, ht', hr'⟩
        rw [show ((List.range 128).map H2).length / bsz true = 1 by simp [bsz], TT_congr true (B' := P) s1 1 (fun j hj => by simp [bsz] at hj; simp [List.getD, hj]; exact HP.out j (by omega)), HE.out, ← HS'.out] at hr'
        exact ⟨rfl, (hsm.touch g o 139).trans (ht'.mono o 139 (by omega) (by omega)), hk'.words ht' hr'⟩
      clear HH2 h8 HP HPL HP1 HE
      go_wp2
      go_region_held3 (fun v => v.cell? ⟨g, o + 1, none⟩ = some (.func (.func 85) #[] #[])) (first | go_keep | exact hk3.fn) ((go_at_call 85; refine (HA.out wr.drew (Sm.refl wr).drew).mono ?_; rintro e3 w3 ⟨rfl, ht3, hk3⟩))
      have HT3 : Hid (Touch w w3 g o 139) := HT2.out.trans ht3
      have HR3 : Hid (w3.there w.heap.size 0 64 ∧ w.heap.size < w3.heap.size) := ⟨ht3.thereFar HR2.out.1 HR2.out.2 (by omega), Nat.lt_of_lt_of_le HR2.out.2 ht3.size⟩
      have HK3 : Hid (TK w3 g o h true s' H2 fed) := hk3
      clear ht3 hk3 HA c1' HT2 HR2 HK2
      go_wp2_with (first | (go_at_call 88; refine (spell128 g o h s' H2 fed _ hblk HK3).mono ?_))
      rintro e4 w4 ⟨rfl, hb4⟩
      have hs3 := HT3.out.size
      have HT4 : Hid (Touch w w4 g o 139) := HT3.out.below hb4 hgw
      have HK4 : Hid (TK w4 g o h true s' H2 fed) := HK3.out.below hb4
      have HR4 : Hid (w4.there w.heap.size 0 64) := fun j hj => by rw [hb4.cell (p := ⟨w.heap.size, 0 + j, none⟩) HR3.out.2, hb4.frozen (p := ⟨w.heap.size, 0 + j, none⟩) HR3.out.2]; exact HR3.out.1 j hj
      have HY : Hid (w4.there w.heap.size 0 (spellCells 8 s').toArray.size) := by rw [spellArr_size]; exact HR4.out
      have HZ : Hid ((Tryd.prog.info? 123).map (·.size) = some (spellCells 8 s').toArray.size) := by rw [spellArr_size]; exact size75
      clear HT3 HK3 HR3 hb4
      go_wp2_with (first
        | (refine wpList_store_mid (by rfl) 123 (.tmp 2) (.tmp 93) (by rfl) w.heap.size 0 (spellCells 8 s').toArray (by rfl) (by rfl) HY.out HZ.out (spellCells_one 8 s') ?_)
        | fail)
      have hl := run_loadVar_mid (P := Tryd.prog) (w4.setCells w.heap.size 0 (spellCells 8 s')) w.heap.size 0 123 (spellCells 8 s') _ (World.rangeAt_setCells_same w4 w.heap.size 0 (spellCells 8 s') (by rw [spellCells_length]; exact HR4.out)) Tryd.underlying123 rfl (by rw [spellCells_length]; exact size75)
      have hn := touch_new HT4.out (Nat.le_refl _) (spellCells 8 s') 0 hgw
      have hs' := HS'.out
      refine bodyPost_ret (v := .agg (spellCells 8 s').toArray) ?_ rfl ⟨by rw [hs'], hn, H2, by rw [← hs']; exact HK4.out.newer (by omega) _ _⟩
      rw [results_cell1D Tryd.results72]
      simp [Act.put, asAddr, hl]
end Go.Proofs.YtinmhgackihakaaDoor
namespace Go.Proofs.YtinmhgackihakaaDoor
open Go.RowKit
set_option linter.unusedVariables false
set_option linter.unusedSimpArgs false

set_option maxHeartbeats 3200000 in
set_option maxRecDepth 100000 in
theorem finish128_C (g o : Nat) (h : Int) (s : Eight) (half : Nat → Int) (fed : Nat) (w : World) (hblk : blockOf h = 128) (HK : Hid (TK w g o h true s half fed)) (hfed : fed ≤ 1152921504606846976) (hT : Hid (Tables w)) (hg : 2 ≤ g) (h0 : Hid (fed % 128 = 127)) :
    Calls Tryd.prog 72 #[.pointer (some ⟨g, o, none⟩)] w fun e w' => e = .returned (.agg (spellCells 8 (TT true (padF 128 half fed) s (padN 128 fed))).toArray) ∧ Touch w w' g o 139 ∧ ∃ half', TK w' g o h true (TT true (padF 128 half fed) s (padN 128 fed)) half' fed := by
  have c0 := HK.out.hash
  have c138 := HK.out.fed
  have hgw : g < w.heap.size := lt_of_cell c0
  have r0 : ((fed : Int) % 128) = 127 := by have := h0.out; omega
  go_enter Tryd.func72, Tryd.ntmps72
  go_upto_region 3 with (first | (go_at_call 83; refine (block_any _ _).mono ?_; rintro e1 w1 ⟨rfl, hw1⟩; obtain rfl := hw1.symm; rw [hblk]))
  have HB0 : Hid (Below w.heap.size w (w.alloc (.cells #[.int .u8 0, .int .u8 0, .int .u8 0, .int .u8 0, .int .u8 0, .int .u8 0, .int .u8 0, .int .u8 0, .int .u8 0, .int .u8 0, .int .u8 0, .int .u8 0, .int .u8 0, .int .u8 0, .int .u8 0, .int .u8 0, .int .u8 0, .int .u8 0, .int .u8 0, .int .u8 0, .int .u8 0, .int .u8 0, .int .u8 0, .int .u8 0, .int .u8 0, .int .u8 0, .int .u8 0, .int .u8 0, .int .u8 0, .int .u8 0, .int .u8 0, .int .u8 0, .int .u8 0, .int .u8 0, .int .u8 0, .int .u8 0, .int .u8 0, .int .u8 0, .int .u8 0, .int .u8 0, .int .u8 0, .int .u8 0, .int .u8 0, .int .u8 0, .int .u8 0, .int .u8 0, .int .u8 0, .int .u8 0, .int .u8 0, .int .u8 0, .int .u8 0, .int .u8 0, .int .u8 0, .int .u8 0, .int .u8 0, .int .u8 0, .int .u8 0, .int .u8 0, .int .u8 0, .int .u8 0, .int .u8 0, .int .u8 0, .int .u8 0, .int .u8 0] 123)) ∧ (w.alloc (.cells #[.int .u8 0, .int .u8 0, .int .u8 0, .int .u8 0, .int .u8 0, .int .u8 0, .int .u8 0, .int .u8 0, .int .u8 0, .int .u8 0, .int .u8 0, .int .u8 0, .int .u8 0, .int .u8 0, .int .u8 0, .int .u8 0, .int .u8 0, .int .u8 0, .int .u8 0, .int .u8 0, .int .u8 0, .int .u8 0, .int .u8 0, .int .u8 0, .int .u8 0, .int .u8 0, .int .u8 0, .int .u8 0, .int .u8 0, .int .u8 0, .int .u8 0, .int .u8 0, .int .u8 0, .int .u8 0, .int .u8 0, .int .u8 0, .int .u8 0, .int .u8 0, .int .u8 0, .int .u8 0, .int .u8 0, .int .u8 0, .int .u8 0, .int .u8 0, .int .u8 0, .int .u8 0, .int .u8 0, .int .u8 0, .int .u8 0, .int .u8 0, .int .u8 0, .int .u8 0, .int .u8 0, .int .u8 0, .int .u8 0, .int .u8 0, .int .u8 0, .int .u8 0, .int .u8 0, .int .u8 0, .int .u8 0, .int .u8 0, .int .u8 0, .int .u8 0] 123)).there w.heap.size 0 64 ∧ w.heap.size < (w.alloc (.cells #[.int .u8 0, .int .u8 0, .int .u8 0, .int .u8 0, .int .u8 0, .int .u8 0, .int .u8 0, .int .u8 0, .int .u8 0, .int .u8 0, .int .u8 0, .int .u8 0, .int .u8 0, .int .u8 0, .int .u8 0, .int .u8 0, .int .u8 0, .int .u8 0, .int .u8 0, .int .u8 0, .int .u8 0, .int .u8 0, .int .u8 0, .int .u8 0, .int .u8 0, .int .u8 0, .int .u8 0, .int .u8 0, .int .u8 0, .int .u8 0, .int .u8 0, .int .u8 0, .int .u8 0, .int .u8 0, .int .u8 0, .int .u8 0, .int .u8 0, .int .u8 0, .int .u8 0, .int .u8 0, .int .u8 0, .int .u8 0, .int .u8 0, .int .u8 0, .int .u8 0, .int .u8 0, .int .u8 0, .int .u8 0, .int .u8 0, .int .u8 0, .int .u8 0, .int .u8 0, .int .u8 0, .int .u8 0, .int .u8 0, .int .u8 0, .int .u8 0, .int .u8 0, .int .u8 0, .int .u8 0, .int .u8 0, .int .u8 0, .int .u8 0, .int .u8 0] 123)).heap.size) := ⟨(Below.refl _ _).alloc (Nat.le_refl _) _, there_new w _ 123 64 (by decide), by simp⟩
  generalize w.alloc (.cells #[.int .u8 0, .int .u8 0, .int .u8 0, .int .u8 0, .int .u8 0, .int .u8 0, .int .u8 0, .int .u8 0, .int .u8 0, .int .u8 0, .int .u8 0, .int .u8 0, .int .u8 0, .int .u8 0, .int .u8 0, .int .u8 0, .int .u8 0, .int .u8 0, .int .u8 0, .int .u8 0, .int .u8 0, .int .u8 0, .int .u8 0, .int .u8 0, .int .u8 0, .int .u8 0, .int .u8 0, .int .u8 0, .int .u8 0, .int .u8 0, .int .u8 0, .int .u8 0, .int .u8 0, .int .u8 0, .int .u8 0, .int .u8 0, .int .u8 0, .int .u8 0, .int .u8 0, .int .u8 0, .int .u8 0, .int .u8 0, .int .u8 0, .int .u8 0, .int .u8 0, .int .u8 0, .int .u8 0, .int .u8 0, .int .u8 0, .int .u8 0, .int .u8 0, .int .u8 0, .int .u8 0, .int .u8 0, .int .u8 0, .int .u8 0, .int .u8 0, .int .u8 0, .int .u8 0, .int .u8 0, .int .u8 0, .int .u8 0, .int .u8 0, .int .u8 0] 123) = w0 at HB0 ⊢
  have HK0 : Hid (TK w0 g o h true s half fed) := HK.out.below HB0.out.1
  have fu : w0.cell? ⟨g, o + 10 + 127, none⟩ = some (.int .u8 (half 127)) := HK0.out.half 127 (by omega)
  have ff : w0.frozen? ⟨g, o + 10 + 127, none⟩ = false := by
    have := (HK0.out.there (10 + 127) (by omega)).2
    rw [← Nat.add_assoc] at this
    exact this
  have hx1 := HK0.out.setByte 127 128 (by omega)
  have hcl : ∀ ty, (Builtin.clear_ #[23] ty #[.slice (some ⟨g, o + 10, none⟩) 0 0]).run Tryd.prog (w0.setCell ⟨g, o + 10 + 127, none⟩ (.int .u8 128)) = .ok (.tuple #[]) (w0.setCell ⟨g, o + 10 + 127, none⟩ (.int .u8 128)) := fun ty => clear_eq _ ty g _ 0 0 (fun j hj => by omega)
  have HT1 : Hid (Touch w (w0.setCell ⟨g, o + 10 + 127, none⟩ (.int .u8 128)) g o 139) := ((Touch.refl w g o 139).below HB0.out.1 hgw).trans hx1.2
  have HK1 : Hid (TK (w0.setCell ⟨g, o + 10 + 127, none⟩ (.int .u8 128)) g o h true s (fun i => if i = 127 then 128 else half i) fed) := hx1.1
  have HR1 : Hid ((w0.setCell ⟨g, o + 10 + 127, none⟩ (.int .u8 128)).there w.heap.size 0 64 ∧ w.heap.size < (w0.setCell ⟨g, o + 10 + 127, none⟩ (.int .u8 128)).heap.size) := ⟨World.there_setCells HB0.out.2.1 g _ [_], by simpa [World.setCell] using HB0.out.2.2⟩
  clear hx1
  go_upto_region 6 with fail
  generalize w0.setCell ⟨g, o + 10 + 127, none⟩ (.int .u8 128) = w2 at HT1 HK1 HR1 hcl ⊢
  have c1' : w2.cell? ⟨g, o + 1, none⟩ = some (.func (.func 85) #[] #[]) := HK1.out.fn
  obtain ⟨H0, HH0⟩ : ∃ H0 : Nat → Int, Hid ((fun i => if i = 127 then (128 : Int) else half i) = H0) := ⟨_, (show _ = _ from rfl)⟩
  rw [HH0.out] at HK1
  obtain ⟨s1, HS1⟩ : ∃ s1 : Eight, Hid (s1 = TT true H0 s 1) := ⟨_, (show _ = _ from rfl)⟩
  have HA : Hid (∀ v, Sm w2 v → Calls Tryd.prog 85 #[.pointer (some ⟨g, o + 2, none⟩), .slice (some ⟨g, o + 10, none⟩) 128 128] v fun e w' => e = .returned (.tuple #[]) ∧ Touch w2 w' g o 139 ∧ TK w' g o h true s1 H0 fed) := by
    intro v hsm
    have hs1 := HT1.out.size
    have hk' := HK1.out.sm hsm
    refine (take_any true g (o + 2) _ ((List.range 128).map H0) s v (by rw [hsm.heap]; omega) hk'.st (fun j hj => by have := hk'.there (2 + j) (by omega); rw [← Nat.add_assoc] at this; exact this) (view_half hk' 128 (by omega)) (fun _ _ _ _ e => by injection e with e1 e2 e3; injection e1 with e1; injection e1 with e4 e5; omega) (hsm.tables (hT.out.touch HT1.out hg)) hg).mono ?_
    rintro e w' ⟨rfl, ht', hr'⟩
    rw [show ((List.range 128).map H0).length / bsz true = 1 by simp [bsz], TT_congr true (B' := H0) s 1 (fun j hj => by simp [bsz] at hj; simp [List.getD, hj]), ← HS1.out] at hr'
    exact ⟨rfl, (hsm.touch g o 139).trans (ht'.mono o 139 (by omega) (by omega)), hk'.words ht' hr'⟩
  clear hcl fu ff HK0 HB0 c0 c138
  go_wp2
  go_region_held3 (fun v => v.cell? ⟨g, o + 1, none⟩ = some (.func (.func 85) #[] #[])) (first | go_keep | exact hk3.fn) ((go_at_call 85; refine (HA.out w2.drew (Sm.refl w2).drew).mono ?_; rintro e3 w3 ⟨rfl, ht3, hk3⟩))
  have hx3 := hk3.clear 0 128 (by omega)
  have hcl3 : ∀ ty, (Builtin.clear_ #[23] ty #[.slice (some ⟨g, o + 10, none⟩) 128 128]).run Tryd.prog w3 = .ok (.tuple #[]) (w3.setCells g (o + 10) (List.replicate 128 (.int .u8 0))) := fun ty => clear_eq _ ty g _ _ _ (fun j hj => by
    have := hk3.there (10 + j) (by omega)
    rw [← Nat.add_assoc] at this
    exact this)
  rw [Nat.add_zero] at hx3
  have HR2 : Hid ((w3.setCells g (o + 10) (List.replicate 128 (.int .u8 0))).there w.heap.size 0 64 ∧ w.heap.size < (w3.setCells g (o + 10) (List.replicate 128 (.int .u8 0))).heap.size) := ⟨World.there_setCells (ht3.thereFar HR1.out.1 HR1.out.2 (by omega)) g _ _, by rw [size_setCells]; exact Nat.lt_of_lt_of_le HR1.out.2 ht3.size⟩
  have HT2 : Hid (Touch w (w3.setCells g (o + 10) (List.replicate 128 (.int .u8 0))) g o 139) := (HT1.out.trans ht3).trans hx3.2
  have HK2 : Hid (TK (w3.setCells g (o + 10) (List.replicate 128 (.int .u8 0))) g o h true s1 (fun i => if 0 ≤ i ∧ i < 0 + 128 then 0 else H0 i) fed) := hx3.1
  clear hx3 ht3 hk3 HT1 HK1 HR1 HA c1'
  generalize w3.setCells g (o + 10) (List.replicate 128 (.int .u8 0)) = w4 at HT2 HK2 HR2 hcl3
  go_upto_region 8 with fail
  have HT1 := HT2; have HR1 := HR2
  have c138' : w4.cell? ⟨g, o + 138, none⟩ = some (.int .u64 fed) := HK2.out.fed
  obtain ⟨H1, HH1⟩ : ∃ H1 : Nat → Int, Hid ((fun i => if 0 ≤ i ∧ i < 0 + 128 then 0 else H0 i) = H1) := ⟨_, (show _ = _ from rfl)⟩
  rw [HH1.out] at HK2
  have HK1 := HK2
  obtain ⟨P, HPP⟩ : ∃ P : Nat → Int, Hid (P = fun i => padF 128 half fed (128 + i)) := ⟨_, (show _ = _ from rfl)⟩
  have hpn : padN 128 fed = 2 := by rw [padN, if_neg (by have := h0.out; omega)]
  have HP1 : Hid (∀ k, k < 128 - 8 → H1 k = P k) := by
    intro k hk
    have h00 := h0.out
    rw [← HH1.out, HPP.out]
    simp only [padF, hpn, h00]
    rw [if_pos ⟨by omega, by omega⟩, if_neg (by omega), if_neg (by omega), if_pos (by omega)]
  have HPL : Hid (∀ k, 128 - 8 ≤ k → k < 128 → P k = ((fed : Int) * 8) / 2 ^ (8 * (128 - 1 - k)) % 256) := by
    intro k k1 hk
    have h00 := h0.out
    rw [HPP.out]
    simp only [padF, hpn, h00]
    rw [if_neg (by omega), if_neg (by omega), if_neg (by omega), show 2 * 128 - 1 - (128 + k) = 128 - 1 - k by omega]
  have HE : Hid (TT true P s1 1 = TT true (padF 128 half fed) s (padN 128 fed)) := by
    show _ = _
    rw [HPP.out, HS1.out, hpn, show (2 : Nat) = 1 + 1 from rfl, TT_add true _ s 1 1, TT_congr true (B := H0) (B' := padF 128 half fed) s 1]
    · simp [bsz]
    · intro k hk
      have hk' : k < 128 := by simpa [bsz] using hk
      have h00 := h0.out
      rw [← HH0.out]
      simp only [padF, hpn, h00]
      by_cases k3 : k = 127
      · rw [if_pos k3, if_neg (by omega), if_pos k3]
      · rw [if_neg k3, if_pos (by omega)]
  clear hcl3 hpn HH1 HPP HS1 HT2 HK2 HR2 HH0
  go_wp2
  clear c138'
  go_loopw [62] (fun v wr => ∃ i : Nat, i ≤ 8 ∧ v = .int .i64 i ∧ Hid (Touch w wr g o 139) ∧ Hid (TK wr g o h true s1 (fun k => if 128 - i ≤ k ∧ k < 128 then ((fed : Int) * 8) / 2 ^ (8 * (128 - 1 - k)) % 256 else H1 k) fed) ∧ Hid (wr.there w.heap.size 0 64 ∧ w.heap.size < wr.heap.size)) (fun v _ => 8 - (intOf v).toNat)
  case atStart => exact ⟨0, by omega, rfl, HT1, HK1.out.fun_eq (fun i hi => by rw [if_neg (by omega)]), HR1⟩
  case round =>
    obtain ⟨i, hi, rfl, HT2, HK2, HR2⟩ := hrel
    clear HT1 HK1 HR1
    by_cases h8 : i < 8
    · obtain ⟨j, hj⟩ : ∃ j, j = 128 - 1 - i := ⟨_, rfl⟩
      have e2 : (127 : Int) - (i : Int) = (j : Int) := by omega
      have e3 : (8 * (i : Int)).toNat = 8 * i := by omega
      have e4 : min (8 * i) 64 = 8 * i := by omega
      have e5 : (0 : Int) ≤ 8 * (i : Int) := by omega
      have e6 : (j : Int) < 128 := by omega
      have HJ : Hid (j = 128 - 1 - i) := hj
      have fc := HK2.out.half j (by omega)
      have ff : wr.frozen? ⟨g, o + 10 + j, none⟩ = false := by
        have := (HK2.out.there (10 + j) (by omega)).2
        rw [← Nat.add_assoc] at this
        exact this
      clear hj
      go_wp2
      go_region
      go_wp2
      go_roundw
      case rel =>
        have hx := HK2.out.setByte j ((fed : Int) * 8 / 2 ^ (8 * i) % 256) (by omega)
        refine ⟨i + 1, by omega, by go_num, (HT2.out.trans hx.2).drew, (hx.1.sm (Sm.refl _).drew).fun_eq (fun k hk => ?_), ⟨World.there_setCells HR2.out.1 g _ [_], by simpa [World.setCell] using HR2.out.2⟩⟩
        have hj := HJ.out
        by_cases hkj : k = j
        · subst hkj
          rw [if_pos rfl, if_pos (by omega), show 128 - 1 - k = i by omega]
        · rw [if_neg hkj]
          by_cases hc : 128 - i ≤ k ∧ k < 128
          · rw [if_pos hc, if_pos (by omega)]
          · rw [if_neg hc, if_neg (by omega)]
      case measure => simp [intOf]; omega
    · obtain rfl : i = 8 := by omega
      have c1' : wr.cell? ⟨g, o + 1, none⟩ = some (.func (.func 85) #[] #[]) := HK2.out.fn
      obtain ⟨H2, HH2⟩ : ∃ H2 : Nat → Int, Hid ((fun k => if 128 - 8 ≤ k ∧ k < 128 then ((fed : Int) * 8) / 2 ^ (8 * (128 - 1 - k)) % 256 else H1 k) = H2) := ⟨_, (show _ = _ from rfl)⟩
      rw [HH2.out] at HK2
      have HP : Hid (∀ k, k < 128 → H2 k = P k) := by
        intro k hk
        rw [← HH2.out]
        dsimp only
        by_cases k1 : 128 - 8 ≤ k
        · rw [if_pos ⟨k1, hk⟩, HPL.out k k1 hk]
        · rw [if_neg (by omega), HP1.out k (by omega)]
      obtain ⟨s', HS'⟩ : ∃ s' : Eight, Hid (s' = TT true (padF 128 half fed) s (padN 128 fed)) := ⟨_, (show _ = _ from rfl)⟩
      have HA : Hid (∀ v, Sm wr v → Calls Tryd.prog 85 #[.pointer (some ⟨g, o + 2, none⟩), .slice (some ⟨g, o + 10, none⟩) 128 128] v fun e w' => e = .returned (.tuple #[]) ∧ Touch wr w' g o 139 ∧ TK w' g o h true s' H2 fed) := by
        intro v hsm
        have hs1 := HT2.out.size
        have hk' := HK2.out.sm hsm
        refine (take_any true g (o + 2) _ ((List.range 128).map H2) s1 v (by rw [hsm.heap]; omega) hk'.st (fun j hj => by have := hk'.there (2 + j) (by omega); rw [← Nat.add_assoc] at this; exact this) (view_half hk' 128 (by omega)) (fun _ _ _ _ e => by injection e with e1 e2 e3; injection e1 with e1; injection e1 with e4 e5; omega) (hsm.tables (hT.out.touch HT2.out hg)) hg).mono ?_
        rintro e w' ⟨rfl, ht', hr'⟩
        rw [show ((List.range 128).map H2).length / bsz true = 1 by simp [bsz], TT_congr true (B' := P) s1 1 (fun j hj => by simp [bsz] at hj; simp [List.getD, hj]; exact HP.out j (by omega)), HE.out, ← HS'.out] at hr'
        exact ⟨rfl, (hsm.touch g o 139).trans (ht'.mono o 139 (by omega) (by omega)), hk'.words ht' hr'⟩
      clear HH2 h8 HP HPL HP1 HE
      go_wp2
      go_region_held3 (fun v => v.cell? ⟨g, o + 1, none⟩ = some (.func (.func 85) #[] #[])) (first | go_keep | exact hk3.fn) ((go_at_call 85; refine (HA.out wr.drew (Sm.refl wr).drew).mono ?_; rintro e3 w3 ⟨rfl, ht3, hk3⟩))
      have HT3 : Hid (Touch w w3 g o 139) := HT2.out.trans ht3
      have HR3 : Hid (w3.there w.heap.size 0 64 ∧ w.heap.size < w3.heap.size) := ⟨ht3.thereFar HR2.out.1 HR2.out.2 (by omega), Nat.lt_of_lt_of_le HR2.out.2 ht3.size⟩
      have HK3 : Hid (TK w3 g o h true s' H2 fed) := hk3
      clear ht3 hk3 HA c1' HT2 HR2 HK2
      go_wp2_with (first | (go_at_call 88; refine (spell128 g o h s' H2 fed _ hblk HK3).mono ?_))
      rintro e4 w4 ⟨rfl, hb4⟩
      have hs3 := HT3.out.size
      have HT4 : Hid (Touch w w4 g o 139) := HT3.out.below hb4 hgw
      have HK4 : Hid (TK w4 g o h true s' H2 fed) := HK3.out.below hb4
      have HR4 : Hid (w4.there w.heap.size 0 64) := fun j hj => by rw [hb4.cell (p := ⟨w.heap.size, 0 + j, none⟩) HR3.out.2, hb4.frozen (p := ⟨w.heap.size, 0 + j, none⟩) HR3.out.2]; exact HR3.out.1 j hj
      have HY : Hid (w4.there w.heap.size 0 (spellCells 8 s').toArray.size) := by rw [spellArr_size]; exact HR4.out
      have HZ : Hid ((Tryd.prog.info? 123).map (·.size) = some (spellCells 8 s').toArray.size) := by rw [spellArr_size]; exact size75
      clear HT3 HK3 HR3 hb4
      go_wp2_with (first
        | (refine wpList_store_mid (by rfl) 123 (.tmp 2) (.tmp 93) (by rfl) w.heap.size 0 (spellCells 8 s').toArray (by rfl) (by rfl) HY.out HZ.out (spellCells_one 8 s') ?_)
        | fail)
      have hl := run_loadVar_mid (P := Tryd.prog) (w4.setCells w.heap.size 0 (spellCells 8 s')) w.heap.size 0 123 (spellCells 8 s') _ (World.rangeAt_setCells_same w4 w.heap.size 0 (spellCells 8 s') (by rw [spellCells_length]; exact HR4.out)) Tryd.underlying123 rfl (by rw [spellCells_length]; exact size75)
      have hn := touch_new HT4.out (Nat.le_refl _) (spellCells 8 s') 0 hgw
      have hs' := HS'.out
      refine bodyPost_ret (v := .agg (spellCells 8 s').toArray) ?_ rfl ⟨by rw [hs'], hn, H2, by rw [← hs']; exact HK4.out.newer (by omega) _ _⟩
      rw [results_cell1D Tryd.results72]
      simp [Act.put, asAddr, hl]
end Go.Proofs.YtinmhgackihakaaDoor
namespace Go.Proofs.YtinmhgackihakaaDoor
open Go.RowKit
set_option linter.unusedVariables false
set_option linter.unusedSimpArgs false

theorem padF_congr (bs fed : Nat) {half half' : Nat → Int} (h : ∀ i, i < fed % bs → half i = half' i) : padF bs half fed = padF bs half' fed := by
  funext i
  unfold padF
  by_cases hi : i < fed % bs
  · rw [if_pos hi, if_pos hi, h i hi]
  · rw [if_neg hi, if_neg hi]
def wsz (wd : Bool) : Nat := if wd then 8 else 4
/-- The words behind all that was fed, and the padding. -/
def endW (wd : Bool) (s0 : Eight) (f0 : Nat) (zs : List Int) : Eight :=
  TT wd (padF (bsz wd) (fun i => fnz zs (bsz wd * (zs.length / bsz wd) + i)) (f0 + zs.length)) (TT wd (fnz zs) s0 (zs.length / bsz wd)) (padN (bsz wd) (f0 + zs.length))
/-- taken.finish. -/
theorem finish_any (wd : Bool) (g o : Nat) (h : Int) (s : Eight) (half : Nat → Int) (fed : Nat) (w : World) (hblk : blockOf h = bsz wd) (HK : TK w g o h wd s half fed) (hfed : fed ≤ 1152921504606846976) (hT : Tables w) (hg : 2 ≤ g) :
    Calls Tryd.prog 72 #[.pointer (some ⟨g, o, none⟩)] w fun e w' => e = .returned (.agg (spellCells (wsz wd) (TT wd (padF (bsz wd) half fed) s (padN (bsz wd) fed))).toArray) ∧ Touch w w' g o 139 ∧ ∃ half', TK w' g o h wd (TT wd (padF (bsz wd) half fed) s (padN (bsz wd) fed)) half' fed := by
  cases wd
  · have hm : fed % 64 < 64 := Nat.mod_lt _ (by omega)
    by_cases hu : fed % 64 + 1 ≤ 56
    · exact finish64_A g o h s half fed (fed % 64) (fed % 64 + 1) w hblk HK hfed hT hg rfl rfl hu
    · exact finish64_B g o h s half fed (fed % 64) (fed % 64 + 1) w hblk HK hfed hT hg rfl rfl (by omega) (by omega)
  · have hm : fed % 128 < 128 := Nat.mod_lt _ (by omega)
    by_cases hu : fed % 128 + 1 ≤ 112
    · exact finish128_A g o h s half fed (fed % 128) (fed % 128 + 1) w hblk HK hfed hT hg rfl rfl hu
    · by_cases hu2 : fed % 128 = 127
      · exact finish128_C g o h s half fed w hblk HK hfed hT hg hu2
      · exact finish128_B g o h s half fed (fed % 128) (fed % 128 + 1) w hblk HK hfed hT hg rfl rfl (by omega) (by omega)
theorem finish_rep (wd : Bool) (g o : Nat) (h : Int) (s0 : Eight) (f0 : Nat) (zs : List Int) (w : World) (hblk : blockOf h = bsz wd) (hr : Rep w g o h wd s0 f0 zs) (hfed : f0 + zs.length ≤ 1152921504606846976) (hT : Tables w) (hg : 2 ≤ g) :
    Calls Tryd.prog 72 #[.pointer (some ⟨g, o, none⟩)] w fun e w' => e = .returned (.agg (spellCells (wsz wd) (endW wd s0 f0 zs)).toArray) ∧ Touch w w' g o 139 ∧ ∃ half', TK w' g o h wd (endW wd s0 f0 zs) half' (f0 + zs.length) := by
  obtain ⟨half, hk, hh, hf⟩ := hr
  have hp : padF (bsz wd) half (f0 + zs.length) = padF (bsz wd) (fun i => fnz zs (bsz wd * (zs.length / bsz wd) + i)) (f0 + zs.length) := padF_congr _ _ (fun i hi => by
    obtain ⟨c, hc⟩ : ∃ c, f0 = bsz wd * c := ⟨f0 / bsz wd, by have := Nat.div_add_mod f0 (bsz wd); omega⟩
    rw [hc, Nat.mul_add_mod] at hi
    exact hh i hi)
  have := finish_any wd g o h _ half _ w hblk hk hfed hT hg
  rw [hp] at this
  exact this
end Go.Proofs.YtinmhgackihakaaDoor
namespace Go.Proofs.YtinmhgackihakaaDoor
open Go.RowKit
set_option linter.unusedVariables false
set_option linter.unusedSimpArgs false

/-- A slice of slices of bytes that lie outside block g. -/
def Parts (w : World) (g : Nat) (v : Value) (yss : List (List Int)) : Prop :=
  ∃ a c, v = .slice a yss.length c ∧ yss.length ≤ c ∧ c ≤ maxLen ∧ (yss = [] ∨ ∃ b p, a = some ⟨b, p, none⟩ ∧ b ≠ g ∧ ∀ i, i < yss.length → ∃ x, w.cell? ⟨b, p + i, none⟩ = some x ∧ View w x (yss.getD i []) ∧ (yss.getD i [] ≠ [] → ∀ b' off l c', x = .slice (some ⟨b', off, none⟩) l c' → b' ≠ g))
theorem sum_step (yss : List (List Int)) (k : Nat) (hk : k < yss.length) : (yss.take (k + 1)).flatten = (yss.take k).flatten ++ yss.getD k [] := by
  rw [List.take_add_one, List.flatten_append]
  simp [List.getD, hk]
theorem sum_le (yss : List (List Int)) (k : Nat) : (yss.take k).flatten.length ≤ yss.flatten.length := by
  have := congrArg List.length (congrArg List.flatten (List.take_append_drop k yss))
  rw [List.flatten_append, List.length_append] at this
  omega

/-- taken.add, where bytes that are none may lie anywhere. -/
theorem add_rep2 (wd : Bool) (g o : Nat) (h : Int) (s0 : Eight) (f0 : Nat) (zs ys : List Int) (v : Value) (w : World) (hblk : blockOf h = bsz wd) (hr : Rep w g o h wd s0 f0 zs) (hv : View w v ys) (hap : ys ≠ [] → Apart v g o 139) (hT : Tables w) (hg : 2 ≤ g) (hfn : f0 + zs.length + ys.length ≤ 4611686018427387904) :
    Calls Tryd.prog 87 #[.pointer (some ⟨g, o, none⟩), v] w fun e w' => e = .returned (.tuple #[]) ∧ Touch w w' g o 139 ∧ Rep w' g o h wd s0 f0 (zs ++ ys) := by
  by_cases hys : ys = []
  · subst hys
    obtain ⟨half, hk, hh, hf⟩ := hr
    obtain ⟨a, cap, rfl, h1, h2, h3, h4⟩ := hv
    refine (add_empty_any wd g o h _ half _ cap a w hblk hk (by simpa using hfn) (by unfold maxLen at h2; omega) h3).mono ?_
    rintro e w' ⟨rfl, ht, hk'⟩
    rw [List.append_nil]
    exact ⟨rfl, ht, half, hk', hh, hf⟩
  · exact add_rep wd g o h s0 f0 zs ys v w hblk hr hv (hap hys) hT hg hfn

set_option maxHeartbeats 1600000 in
set_option maxRecDepth 100000 in
theorem write_none (g o : Nat) (fed left c : Nat) (a : Option Addr) (most : Int) (w : World) (c1 : w.cell? ⟨g, o + 138, none⟩ = some (.int .u64 fed)) (hm : most - (fed : Int) = (left : Int)) (hmm : fed + left ≤ 4611686018427387904) (hc : c ≤ 9223372036854775807) :
    Calls Tryd.prog 71 #[.pointer (some ⟨g, o, none⟩), .int .u64 most, .slice a 0 c] w fun e w' => e = .returned (.int .i64 0) ∧ w' = w := by
  have hl2 : (left : Int) < 18446744073709551616 := by omega
  go_enter Tryd.func71, Tryd.ntmps71
  go_wp2
  go_loop [20, 7] (fun i l => i = .int .i64 0 ∧ l = .int .u64 left) (fun _ _ => 0)
  case atStart => exact ⟨rfl, rfl⟩
  case round =>
    obtain ⟨rfl, rfl⟩ := hrel
    go_wp2
    go_loop [37] (fun i => i = .int .i64 0) (fun _ => 0)
    case atStart => exact rfl
    case round =>
      obtain rfl := hrel
      go_wp2
      go_ret
      exact ⟨rfl, rfl⟩

set_option maxHeartbeats 3200000 in
set_option maxRecDepth 100000 in
theorem write_some (wd : Bool) (g o : Nat) (h : Int) (s0 : Eight) (f0 n c b p : Nat) (zs : List Int) (yss : List (List Int)) (fed left : Nat) (most : Int) (w : World) (hblk : blockOf h = bsz wd) (hr : Hid (Rep w g o h wd s0 f0 zs)) (hT : Hid (Tables w)) (hg : 2 ≤ g)
    (c1 : w.cell? ⟨g, o + 138, none⟩ = some (.int .u64 fed)) (hfed : Hid (fed = f0 + zs.length)) (hm : most - (fed : Int) = (left : Int)) (hmm : fed + left ≤ 4611686018427387904) (hn : Hid (yss.length = n)) (hnc : n ≤ c) (hc : c ≤ 9223372036854775807) (hbg : Hid (b ≠ g))
    (hx : Hid (∀ i, i < n → ∃ x, w.cell? ⟨b, p + i, none⟩ = some x ∧ View w x (yss.getD i []) ∧ (yss.getD i [] ≠ [] → ∀ b' off l c', x = .slice (some ⟨b', off, none⟩) l c' → b' ≠ g))) (hs : Hid (yss.flatten.length ≤ left)) :
    Calls Tryd.prog 71 #[.pointer (some ⟨g, o, none⟩), .int .u64 most, .slice (some ⟨b, p, none⟩) n c] w fun e w' => e = .returned (.int .i64 0) ∧ Touch w w' g o 139 ∧ Rep w' g o h wd s0 f0 (zs ++ yss.flatten) := by
  have hl2 : (left : Int) < 18446744073709551616 := by omega
  go_enter Tryd.func71, Tryd.ntmps71
  go_wp2
  go_loop [20, 7] (fun i l => ∃ k r : Nat, k ≤ n ∧ i = .int .i64 k ∧ l = .int .u64 r ∧ Hid (r + (yss.take k).flatten.length = left)) (fun i _ => n - (intOf i).toNat)
  case atStart => exact ⟨0, left, by omega, rfl, rfl, (by show _ = _; simp)⟩
  case round =>
    obtain ⟨k, r, hk, rfl, rfl, HR⟩ := hrel
    by_cases hlt : k < n
    · obtain ⟨x, hcx, hvx, hax⟩ := hx.out k hlt
      obtain ⟨a, cap, rfl, h1, h2, h3, h4⟩ := hvx
      have hst := sum_step yss k (by rw [hn.out]; exact hlt)
      have hle := sum_le yss (k + 1)
      obtain ⟨l, hl⟩ : ∃ l, (yss.getD k []).length = l := ⟨_, rfl⟩
      rw [hl] at hcx h1
      obtain ⟨r2, hr2⟩ : ∃ r2, r = r2 + l := ⟨r - l, by
        have h5 := HR.out
        have h6 := hs.out
        rw [hst, List.length_append, hl] at hle
        omega⟩
      have HR2 : Hid (r2 + (yss.take (k + 1)).flatten.length = left) := by
        show _ = _
        rw [hst, List.length_append, hl]
        have := HR.out
        omega
      have hrl : (r : Int) < 18446744073709551616 := by have := HR.out; omega
      have e1 : (r : Int) - (l : Int) = (r2 : Int) := by omega
      have e2 : (l : Int) ≤ (r : Int) := by omega
      have e3 : (r2 : Int) < 18446744073709551616 := by omega
      have e4 : (l : Int) < 18446744073709551616 := by omega
      unfold maxLen at h2
      have e5 : (k : Int) < n := by omega
      clear hst hle hr2 HR h3 h4 hl hax
      go_upto_region 4 with fail
      go_upto_region 5 with fail
      have e2' : ¬ ((r : Int) < (l : Int)) := by omega
      have HE1 : Hid ((r : Int) - (l : Int) = (r2 : Int)) := e1
      have hkb : (k : Int) < 9223372036854775807 := by omega
      clear hc hmm hl2 c1 hcx hnc hm hg h1 h2 hblk e2 e1
      go_wp2
      go_round
      case rel => exact ⟨k + 1, r2, by omega, by go_num, by rw [HE1.out], HR2⟩
      case measure => simp [intOf]; omega
    · obtain rfl : k = n := by omega
      clear hlt HR
      go_wp2
      go_loopw [37] (fun i wr => ∃ q : Nat, q ≤ k ∧ i = .int .i64 q ∧ Hid (Touch w wr g o 139) ∧ Hid (Rep wr g o h wd s0 f0 (zs ++ (yss.take q).flatten))) (fun i _ => k - (intOf i).toNat)
      case atStart => exact ⟨0, by omega, rfl, Touch.refl _ _ _ _, (by show Rep _ _ _ _ _ _ _ _; simpa using hr.out)⟩
      case round =>
        obtain ⟨q, hq, rfl, HT, HP⟩ := hrel
        by_cases hlt : q < k
        · obtain ⟨x, hcx, hvx, hax⟩ := hx.out q hlt
          have hst := sum_step yss q (by rw [hn.out]; exact hlt)
          have hle := sum_le yss (q + 1)
          have hbw : b < w.heap.size := lt_of_cell hcx
          have hcx' : wr.cell? ⟨b, p + q, none⟩ = some x := by rw [HT.out.far (p := ⟨b, p + q, none⟩) hbw hbg.out]; exact hcx
          have hap : yss.getD q [] ≠ [] → Apart x g o 139 := fun h0 b' off l c' e => .inl (hax h0 b' off l c' e)
          have hvw : View wr x (yss.getD q []) := by
            by_cases h0 : yss.getD q [] = []
            · obtain ⟨a, cap, e, h1, h2, h3, h4⟩ := hvx
              exact ⟨a, cap, e, h1, h2, h3, .inl h0⟩
            · exact HT.out.view hvx (hap h0)
          have HA : Hid (Calls Tryd.prog 87 #[.pointer (some ⟨g, o, none⟩), x] wr fun e w' => e = .returned (.tuple #[]) ∧ Touch wr w' g o 139 ∧ Rep w' g o h wd s0 f0 (zs ++ (yss.take (q + 1)).flatten)) := by
            have := add_rep2 wd g o h s0 f0 (zs ++ (yss.take q).flatten) (yss.getD q []) x wr hblk HP.out hvw hap (hT.out.touch HT.out hg) hg (by
              rw [hst] at hle
              have h5 := hfed.out
              have h6 := hs.out
              simp only [List.length_append] at hle ⊢
              omega)
            rw [List.append_assoc, ← hst] at this
            exact this
          have e5 : (q : Int) < k := by omega
          clear hvx hst hle hcx hap hax hvw
          go_wp2_with (first | (go_at_call 87; refine HA.out.mono ?_; rintro e3 w3 ⟨rfl, ht3, hp3⟩) | fail)
          have HT3 : Hid (Touch w w3 g o 139) := HT.out.trans ht3
          have HP3 : Hid (Rep w3 g o h wd s0 f0 (zs ++ (yss.take (q + 1)).flatten)) := hp3
          clear ht3 hp3 HA HT HP
          go_wp2
          go_roundw
          case rel => exact ⟨q + 1, by omega, by go_num, HT3, HP3⟩
          case measure => simp [intOf]; omega
        · obtain rfl : q = k := by omega
          go_wp2
          go_ret
          refine ⟨rfl, HT, ?_⟩
          have := HP.out
          rw [List.take_of_length_le (by rw [hn.out]; exact Nat.le_refl _)] at this
          exact this

/-- taken.write of what fits. -/
theorem write_rep (wd : Bool) (g o : Nat) (h : Int) (s0 : Eight) (f0 : Nat) (zs : List Int) (yss : List (List Int)) (v : Value) (left : Nat) (most : Int) (w : World) (hblk : blockOf h = bsz wd) (hr : Rep w g o h wd s0 f0 zs) (hp : Parts w g v yss) (hT : Tables w) (hg : 2 ≤ g)
    (hm : most = ((f0 + zs.length + left : Nat) : Int)) (hmm : f0 + zs.length + left ≤ 4611686018427387904) (hs : yss.flatten.length ≤ left) :
    Calls Tryd.prog 71 #[.pointer (some ⟨g, o, none⟩), .int .u64 most, v] w fun e w' => e = .returned (.int .i64 0) ∧ Touch w w' g o 139 ∧ Rep w' g o h wd s0 f0 (zs ++ yss.flatten) := by
  obtain ⟨a, c, rfl, hn, hc, hx⟩ := hp
  unfold maxLen at hc
  have hc1 : w.cell? ⟨g, o + 138, none⟩ = some (.int .u64 ((f0 + zs.length : Nat) : Int)) := by obtain ⟨_, hk, _⟩ := hr; exact hk.fed
  rcases hx with rfl | ⟨b, p, rfl, hb, hx⟩
  · refine (write_none g o (f0 + zs.length) left c a most w hc1 (by omega) hmm hc).mono ?_
    rintro e w' ⟨rfl, rfl⟩
    exact ⟨rfl, Touch.refl _ _ _ _, by simpa using hr⟩
  · exact write_some wd g o h s0 f0 yss.length c b p zs yss (f0 + zs.length) left most w hblk hr hT hg hc1 rfl (by omega) hmm rfl hn hc hb hx hs
end Go.Proofs.YtinmhgackihakaaDoor
namespace Go.Proofs.YtinmhgackihakaaDoor
open Go.RowKit
set_option linter.unusedVariables false
set_option linter.unusedSimpArgs false

/-- The digests that there are. -/
def Known (h : Int) : Prop := h = 224 ∨ h = 256 ∨ h = 384 ∨ h = 512
def wdOf (h : Int) : Bool := decide (h = 384 ∨ h = 512)
def szOf (h : Int) : Nat := (h / 8).toNat
theorem Known.block {h : Int} (k : Known h) : blockOf h = bsz (wdOf h) := by rcases k with rfl | rfl | rfl | rfl <;> rfl
theorem firstWords_any {h : Int} (k : Known h) (w : World) (hT : Tables w) :
    Calls Tryd.prog 86 #[.int .i64 h] w fun e w' => e = .returned (.agg (firstE h).cells.toArray) ∧ Below w.heap.size w w' := by
  rcases k with rfl | rfl | rfl | rfl
  · exact firstWords224 w hT
  · exact firstWords256 w hT
  · exact firstWords384 w hT
  · exact firstWords512 w hT
/-- begin, of a digest that there is. -/
theorem begin_any {h : Int} (k : Known h) (w : World) (hT : Tables w) :
    Calls Tryd.prog 70 #[.int .i64 h] w fun e w' => e = .returned (.tuple #[.agg (tkL h (wdOf h) (firstE h) (fun _ => 0) 0).toArray, .int .i64 0]) ∧ Below w.heap.size w w' := by
  have hb := k.block
  cases hw : wdOf h
  · rw [hw] at hb
    exact begin_good64 h w hb (fun v hv => firstWords_any k v hv) hT
  · rw [hw] at hb
    exact begin_good128 h w hb (fun v hv => firstWords_any k v hv) hT
theorem rep_nil {w : World} {g o : Nat} {h : Int} {wd : Bool} {s : Eight} {half : Nat → Int} {f0 : Nat} (k : TK w g o h wd s half f0) (hf : f0 % bsz wd = 0) : Rep w g o h wd s f0 [] :=
  ⟨half, by simpa [TT_zero] using k, fun i hi => by simp at hi, hf⟩
theorem Rep.below {w v : World} {g o : Nat} {h : Int} {wd : Bool} {s : Eight} {f0 : Nat} {zs : List Int} (k : Rep w g o h wd s f0 zs) (b : Below w.heap.size w v) : Rep v g o h wd s f0 zs := by
  obtain ⟨half, hk, h1, h2⟩ := k
  exact ⟨half, hk.below b, h1, h2⟩
theorem Rep.far {w v : World} {g o g' o' n : Nat} {h : Int} {wd : Bool} {s : Eight} {f0 : Nat} {zs : List Int} (k : Rep w g o h wd s f0 zs) (b : Touch w v g' o' n) (hne : g ≠ g') : Rep v g o h wd s f0 zs := by
  obtain ⟨half, hk, h1, h2⟩ := k
  have hg : g < w.heap.size := lt_of_cell hk.hash
  exact ⟨half, ⟨by rw [b.far hg hne]; exact hk.hash, by rw [b.far (p := ⟨g, o + 1, none⟩) hg hne]; exact hk.fn, fun j x hx => by rw [b.far (p := ⟨g, o + 2 + j, none⟩) hg hne]; exact hk.st j x hx, fun i hi => by rw [b.far (p := ⟨g, o + 10 + i, none⟩) hg hne]; exact hk.half i hi, by rw [b.far (p := ⟨g, o + 138, none⟩) hg hne]; exact hk.fed, b.thereFar hk.there hg hne⟩, h1, h2⟩
theorem fold87 (h : Int) (wd : Bool) (E : Eight) (half : Nat → Int) (fed : Nat) : List.foldl (fun (cs : Array Value) x => cs.setIfInBounds x.snd x.fst) Tryd.zeroCells121 (tkL h wd E half fed).zipIdx = (tkL h wd E half fed).toArray := by kernel_rfl
theorem size87 : (Tryd.prog.info? 121).map (·.size) = some 139 := by kernel_rfl
/-- What a taken's cells are, as a value. -/
structure TkBig (T : List Value) : Prop where
  len : T.length = 139
  one : T.toArray.all (·.oneCell') = true
  built : List.foldl (fun (cs : Array Value) x => cs.setIfInBounds x.snd x.fst) Tryd.zeroCells121 T.zipIdx = T.toArray
theorem TkBig.size {T : List Value} (h : TkBig T) : T.toArray.size = 139 := by simpa using h.len
theorem TkBig.info {T : List Value} (h : TkBig T) : (Tryd.prog.info? 117).map (·.size) = some T.toArray.size := by rw [h.size]; exact size71
theorem TkBig.info87 {T : List Value} (h : TkBig T) : (Tryd.prog.info? 121).map (·.size) = some T.toArray.size := by rw [h.size]; exact size87
theorem tkBig (h : Int) (wd : Bool) (E : Eight) (half : Nat → Int) (fed : Nat) : TkBig (tkL h wd E half fed) := ⟨tkL_length _ _ _ _ _, tkL_one _ _ _ _ _, fold87 _ _ _ _ _⟩

set_option maxHeartbeats 1600000 in
set_option maxRecDepth 100000 in
/-- New, of a digest that there is. -/
theorem new_good (h : Int) (w : World) (k : Hid (Known h)) (hT : Hid (Tables w)) :
    Calls Tryd.prog 56 #[.int .i64 h] w fun e w' => ∃ g, e = .returned (.tuple #[.pointer (some ⟨g, 0, none⟩), .int .i64 0]) ∧ w.heap.size ≤ g ∧ Rep w' g 0 h (wdOf h) (firstE h) 0 [] ∧ Below w.heap.size w w' := by
  go_enter Tryd.func56, Tryd.ntmps56
  go_wp2_with (first | (go_at_call 70; refine (begin_any k.out w hT.out).mono ?_))
  rintro e1 w1 ⟨rfl, hb1⟩
  obtain ⟨T, HTT⟩ : ∃ T : List Value, Hid (T = tkL h (wdOf h) (firstE h) (fun _ => 0) 0) := ⟨_, rfl⟩
  rw [← HTT.out]
  have HG : Hid (TkBig T) := by show TkBig T; rw [HTT.out]; exact tkBig _ _ _ _ _
  have HB1 : Hid (Below w.heap.size w w1) := hb1
  have HX : Hid ((w1.alloc (.cells Tryd.zeroCells117 117)).there w1.heap.size 0 139) := there_new w1 Tryd.zeroCells117 117 139 (by rw [cells71z, size71z]; exact Nat.le_refl _)
  clear hb1
  go_upto_region 4 with (first
    | (refine wpList_store_mid (by rfl) 117 (.tmp 4) (.tmp 9) (by rfl) w1.heap.size 0 T.toArray (by rfl) (by rfl) (by rw [HG.out.size]; exact HX.out) HG.out.info HG.out.one ?_)
    | fail)
  have HR2 : Hid (((w1.alloc (.cells Tryd.zeroCells117 117)).setCells w1.heap.size 0 T).rangeAt w1.heap.size 0 T) := World.rangeAt_setCells_same _ _ _ _ (by rw [HG.out.len]; exact HX.out)
  have HB2 : Hid (Below w.heap.size w ((w1.alloc (.cells Tryd.zeroCells117 117)).setCells w1.heap.size 0 T)) := below_setCells _ HB1.out.size _ _ _ (HB1.out.alloc HB1.out.size _)
  generalize (w1.alloc (.cells Tryd.zeroCells117 117)).setCells w1.heap.size 0 T = w2 at HR2 HB2 ⊢
  clear HX
  have hlen := HG.out.len
  have hfold := HG.out.built
  go_wp2_with (first
    | (refine wpList_load_mid (by rfl) 117 (.tmp 4) (by rfl) w1.heap.size 0 (by rfl) T _ HR2.out Tryd.underlying117 rfl (by rw [HG.out.len]; exact size71) ?_)
    | fail)
  go_ret2
  have hr := rangeAt_new w2 T.toArray 121
  have ht := there_new w2 T.toArray 121 139 (by rw [HG.out.size]; exact Nat.le_refl _)
  have hT' : T = tkL h (wdOf h) (firstE h) (fun _ => 0) 0 := HTT.out
  refine ⟨w2.heap.size, rfl, HB2.out.size, rep_nil (TK.of (half := fun _ => 0) ?_ ht) (Nat.zero_mod _), HB2.out.alloc HB2.out.size _⟩
  rw [hT'] at hr ⊢
  exact hr

set_option maxHeartbeats 400000 in
theorem size_known {h : Int} (k : Known h) (w : World) : Calls Tryd.prog 89 #[.int .i64 h] w fun e w' => e = .returned (.int .i64 (szOf h)) ∧ w' = w := by
  rcases k with rfl | rfl | rfl | rfl
  · go_enter Tryd.func89, Tryd.ntmps89
    go_wp2_with (first | (go_at_call 83; refine (block_any _ _).mono ?_; rintro e1 w1 ⟨rfl, hw1⟩; obtain rfl := hw1.symm; rw [show blockOf 224 = 64 from rfl]))
    go_ret
    exact ⟨rfl, rfl⟩
  · go_enter Tryd.func89, Tryd.ntmps89
    go_wp2_with (first | (go_at_call 83; refine (block_any _ _).mono ?_; rintro e1 w1 ⟨rfl, hw1⟩; obtain rfl := hw1.symm; rw [show blockOf 256 = 64 from rfl]))
    go_ret
    exact ⟨rfl, rfl⟩
  · go_enter Tryd.func89, Tryd.ntmps89
    go_wp2_with (first | (go_at_call 83; refine (block_any _ _).mono ?_; rintro e1 w1 ⟨rfl, hw1⟩; obtain rfl := hw1.symm; rw [show blockOf 384 = 128 from rfl]))
    go_ret
    exact ⟨rfl, rfl⟩
  · go_enter Tryd.func89, Tryd.ntmps89
    go_wp2_with (first | (go_at_call 83; refine (block_any _ _).mono ?_; rintro e1 w1 ⟨rfl, hw1⟩; obtain rfl := hw1.symm; rw [show blockOf 512 = 128 from rfl]))
    go_ret
    exact ⟨rfl, rfl⟩
set_option maxHeartbeats 400000 in
theorem shash (g : Nat) (h : Int) (w : World) (c : w.cell? ⟨g, 0, none⟩ = some (.int .i64 h)) : Calls Tryd.prog 90 #[.pointer (some ⟨g, 0, none⟩)] w fun e w' => e = .returned (.int .i64 h) ∧ w' = w := by
  go_enter Tryd.func90, Tryd.ntmps90
  go_wp2
  go_ret
  exact ⟨rfl, rfl⟩
set_option maxHeartbeats 400000 in
theorem ssize (g : Nat) (h : Int) (w : World) (k : Hid (Known h)) (c : Hid (w.cell? ⟨g, 0, none⟩ = some (.int .i64 h))) : Calls Tryd.prog 74 #[.pointer (some ⟨g, 0, none⟩)] w fun e w' => e = .returned (.int .i64 (szOf h)) ∧ w' = w := by
  go_enter Tryd.func74, Tryd.ntmps74
  go_wp2_with (first
    | (go_at_call 90; refine (shash g h w c.out).mono ?_; rintro e1 w1 ⟨rfl, hw1⟩; obtain rfl := hw1.symm)
    | (go_at_call 89; refine (size_known k.out _).mono ?_; rintro e1 w1 ⟨rfl, hw1⟩; obtain rfl := hw1.symm))
  go_ret
  exact ⟨rfl, rfl⟩
set_option maxHeartbeats 800000 in
/-- Stream.Write of what fits. -/
theorem swrite (g : Nat) (h : Int) (s0 : Eight) (zs : List Int) (yss : List (List Int)) (v : Value) (w : World) (k : Hid (Known h)) (hr : Hid (Rep w g 0 h (wdOf h) s0 0 zs)) (hp : Hid (Parts w g v yss)) (hT : Hid (Tables w)) (hg : 2 ≤ g) (hs : Hid (zs.length + yss.flatten.length ≤ 33554432)) :
    Calls Tryd.prog 57 #[.pointer (some ⟨g, 0, none⟩), v] w fun e w' => e = .returned (.int .i64 0) ∧ Touch w w' g 0 139 ∧ Rep w' g 0 h (wdOf h) s0 0 (zs ++ yss.flatten) := by
  have HA : Hid (Calls Tryd.prog 71 #[.pointer (some ⟨g, 0, none⟩), .int .u64 33554432, v] w fun e w' => e = .returned (.int .i64 0) ∧ Touch w w' g 0 139 ∧ Rep w' g 0 h (wdOf h) s0 0 (zs ++ yss.flatten)) :=
    write_rep (wdOf h) g 0 h s0 0 zs yss v (33554432 - zs.length) 33554432 w k.out.block hr.out hp.out hT.out hg (by have := hs.out; omega) (by have := hs.out; omega) (by have := hs.out; omega)
  go_enter Tryd.func57, Tryd.ntmps57
  go_wp2_with (first | (go_at_call 71; refine HA.out.mono ?_; rintro e1 w1 ⟨rfl, ht1, hr1⟩))
  have HQ : Hid (Touch w w1 g 0 139 ∧ Rep w1 g 0 h (wdOf h) s0 0 (zs ++ yss.flatten)) := ⟨ht1, hr1⟩
  clear ht1 hr1
  go_wp2
  go_ret
  exact ⟨rfl, HQ.out.1, HQ.out.2⟩
end Go.Proofs.YtinmhgackihakaaDoor
namespace Go.Proofs.YtinmhgackihakaaDoor
open Go.RowKit
set_option linter.unusedVariables false
set_option linter.unusedSimpArgs false

/-- The bytes of eight words, of which a digest is the beginning. -/
def spellL (wd : Bool) (s : Eight) : List Int := (List.range 64).map (spellAt (wsz wd) s)
theorem spellL_length (wd : Bool) (s : Eight) : (spellL wd s).length = 64 := by simp [spellL]
theorem spellCells_eq (wd : Bool) (s : Eight) : spellCells (wsz wd) s = cellsU8 (spellL wd s) := by simp [spellCells, cellsU8, spellL]
theorem owns_mono {w : World} {B B' : Nat} {e : TypeId} {s n : Nat} {v : Value} {xs : List Value} (h : w.ownsRow B e s v n xs) (hB : B' ≤ B) : w.ownsRow B' e s v n xs := by
  obtain ⟨h1, h2⟩ := h
  rcases h2 with h2 | ⟨g, c, cur, e1, e2, e3⟩
  · exact ⟨h1, .inl h2⟩
  · exact ⟨h1, .inr ⟨g, c, cur, e1, by omega, e3⟩⟩
theorem szOf_known {h : Int} (k : Known h) : szOf h = 28 ∨ szOf h = 32 ∨ szOf h = 48 ∨ szOf h = 64 := by
  rcases k with rfl | rfl | rfl | rfl
  · exact .inl rfl
  · exact .inr (.inl rfl)
  · exact .inr (.inr (.inl rfl))
  · exact .inr (.inr (.inr rfl))
theorem first_any {h : Int} (k : Known h) (C : List Value) (zs : List Int) (w : World) (hC : C = cellsU8 zs) (hz : zs.length = 64) :
    Calls Tryd.prog 73 #[.agg C.toArray, .int .i64 (szOf h)] w fun e w' => ∃ g, e = .returned (.slice (some ⟨g, 0, none⟩) (szOf h) (szOf h)) ∧ w'.ownsRow w.heap.size 5 1 (.slice (some ⟨g, 0, none⟩) (szOf h) (szOf h)) (szOf h) (cellsU8 (zs.take (szOf h))) ∧ Below w.heap.size w w' := by
  rcases k with rfl | rfl | rfl | rfl
  · exact first28 C zs w hC hz
  · exact first32 C zs w hC hz
  · exact first48 C zs w hC hz
  · exact first64 C zs w hC hz

set_option maxHeartbeats 1600000 in
set_option maxRecDepth 100000 in
/-- Stream.Sum. -/
theorem ssum (g : Nat) (h : Int) (s0 : Eight) (zs : List Int) (w : World) (k : Hid (Known h)) (hr : Hid (Rep w g 0 h (wdOf h) s0 0 zs)) (hT : Hid (Tables w)) (hfed : Hid (zs.length ≤ 1152921504606846976)) :
    Calls Tryd.prog 58 #[.pointer (some ⟨g, 0, none⟩)] w fun e w' => ∃ b, e = .returned (.slice (some ⟨b, 0, none⟩) (szOf h) (szOf h)) ∧ w'.ownsRow w.heap.size 5 1 (.slice (some ⟨b, 0, none⟩) (szOf h) (szOf h)) (szOf h) (cellsU8 ((spellL (wdOf h) (endW (wdOf h) s0 0 zs)).take (szOf h))) ∧ Below w.heap.size w w' := by
  obtain ⟨half, hk, hh, hf⟩ := hr.out
  obtain ⟨T, HTT⟩ : ∃ T : List Value, Hid (T = tkL h (wdOf h) (TT (wdOf h) (fnz zs) s0 (zs.length / bsz (wdOf h))) half (0 + zs.length)) := ⟨_, rfl⟩
  have HG : Hid (TkBig T) := by show TkBig T; rw [HTT.out]; exact tkBig _ _ _ _ _
  have HR : Hid (w.rangeAt g 0 T) := by show w.rangeAt g 0 T; rw [HTT.out]; exact hk.range
  have HX : Hid ((w.alloc (.cells Tryd.zeroCells117 117)).there w.heap.size 0 139) := there_new w Tryd.zeroCells117 117 139 (by rw [cells71z, size71z]; exact Nat.le_refl _)
  have HC0 : Hid (g < w.heap.size ∧ w.cell? ⟨g, 0, none⟩ = some (.int .i64 h)) := ⟨lt_of_cell hk.hash, hk.hash⟩
  have HREP : Hid (∀ v, v.rangeAt w.heap.size 0 T → v.there w.heap.size 0 139 → Rep v w.heap.size 0 h (wdOf h) s0 0 zs) := fun v hr ht => ⟨half, TK.of (by rw [← HTT.out]; exact hr) ht, hh, hf⟩
  clear hk hh hf
  go_enter Tryd.func58, Tryd.ntmps58
  go_upto_region 4 with (first
    | (refine wpList_load_mid (by rfl) 117 (.tmp 9) (by rfl) g 0 (by rfl) T _ HR.out Tryd.underlying117 rfl (by rw [HG.out.len]; exact size71) ?_)
    | (refine wpList_store_mid (by rfl) 117 (.tmp 3) (.tmp 10) (by rfl) w.heap.size 0 T.toArray (by rfl) (by rfl) (by rw [HG.out.size]; exact HX.out) HG.out.info HG.out.one ?_)
    | fail)
  have HR2 : Hid (((w.alloc (.cells Tryd.zeroCells117 117)).setCells w.heap.size 0 T).rangeAt w.heap.size 0 T) := World.rangeAt_setCells_same _ _ _ _ (by rw [HG.out.len]; exact HX.out)
  have HB2 : Hid (Below w.heap.size w ((w.alloc (.cells Tryd.zeroCells117 117)).setCells w.heap.size 0 T) ∧ ((w.alloc (.cells Tryd.zeroCells117 117)).setCells w.heap.size 0 T).there w.heap.size 0 139 ∧ ((w.alloc (.cells Tryd.zeroCells117 117)).setCells w.heap.size 0 T).heap.size = w.heap.size + 1) := ⟨below_setCells _ (Nat.le_refl _) _ _ _ ((Below.refl _ _).alloc (Nat.le_refl _) _), World.there_setCells HX.out _ _ _, by rw [size_setCells]; simp⟩
  generalize (w.alloc (.cells Tryd.zeroCells117 117)).setCells w.heap.size 0 T = w2 at HR2 HB2 ⊢
  clear HX HR
  go_wp2_with (first | (go_at_call 72; refine (finish_rep (wdOf h) w.heap.size 0 h s0 0 zs w2 k.out.block (HREP.out w2 HR2.out HB2.out.2.1) (by have := hfed.out; omega) (hT.out.below HB2.out.1 hT.out.size) hT.out.size).mono ?_))
  rintro e3 w3 ⟨rfl, ht3, _⟩
  obtain ⟨C, HC⟩ : ∃ C : List Value, Hid (C = cellsU8 (spellL (wdOf h) (endW (wdOf h) s0 0 zs))) := ⟨_, (show _ = _ from rfl)⟩
  rw [spellCells_eq, ← HC.out]
  have HL : Hid (C.length = 64) := by show C.length = 64; rw [HC.out, cellsU8_length, spellL_length]
  have HLA : Hid (C.toArray.size = 64) := by show C.toArray.size = 64; simpa using HL.out
  have HO : Hid (C.toArray.all (·.oneCell') = true) := all_oneCell_toArray (by rw [HC.out]; exact cellsU8_one _)
  have HB3 : Hid (Below w.heap.size w w3) := HB2.out.1.trans (ht3.toBelow (Nat.le_refl _) (by have := HB2.out.2.2; omega))
  have HX : Hid ((w3.alloc (.cells #[.int .u8 0, .int .u8 0, .int .u8 0, .int .u8 0, .int .u8 0, .int .u8 0, .int .u8 0, .int .u8 0, .int .u8 0, .int .u8 0, .int .u8 0, .int .u8 0, .int .u8 0, .int .u8 0, .int .u8 0, .int .u8 0, .int .u8 0, .int .u8 0, .int .u8 0, .int .u8 0, .int .u8 0, .int .u8 0, .int .u8 0, .int .u8 0, .int .u8 0, .int .u8 0, .int .u8 0, .int .u8 0, .int .u8 0, .int .u8 0, .int .u8 0, .int .u8 0, .int .u8 0, .int .u8 0, .int .u8 0, .int .u8 0, .int .u8 0, .int .u8 0, .int .u8 0, .int .u8 0, .int .u8 0, .int .u8 0, .int .u8 0, .int .u8 0, .int .u8 0, .int .u8 0, .int .u8 0, .int .u8 0, .int .u8 0, .int .u8 0, .int .u8 0, .int .u8 0, .int .u8 0, .int .u8 0, .int .u8 0, .int .u8 0, .int .u8 0, .int .u8 0, .int .u8 0, .int .u8 0, .int .u8 0, .int .u8 0, .int .u8 0, .int .u8 0] 123)).there w3.heap.size 0 64) := there_new w3 _ 123 64 (by decide)
  clear ht3
  go_upto_region 5 with (first
    | (refine wpList_store_mid (by rfl) 123 (.tmp 4) (.tmp 11) (by rfl) w3.heap.size 0 C.toArray (by rfl) (by rfl) (by rw [HLA.out]; exact HX.out) (by rw [HLA.out]; exact size75) HO.out ?_)
    | fail)
  have HR4 : Hid (((w3.alloc (.cells #[.int .u8 0, .int .u8 0, .int .u8 0, .int .u8 0, .int .u8 0, .int .u8 0, .int .u8 0, .int .u8 0, .int .u8 0, .int .u8 0, .int .u8 0, .int .u8 0, .int .u8 0, .int .u8 0, .int .u8 0, .int .u8 0, .int .u8 0, .int .u8 0, .int .u8 0, .int .u8 0, .int .u8 0, .int .u8 0, .int .u8 0, .int .u8 0, .int .u8 0, .int .u8 0, .int .u8 0, .int .u8 0, .int .u8 0, .int .u8 0, .int .u8 0, .int .u8 0, .int .u8 0, .int .u8 0, .int .u8 0, .int .u8 0, .int .u8 0, .int .u8 0, .int .u8 0, .int .u8 0, .int .u8 0, .int .u8 0, .int .u8 0, .int .u8 0, .int .u8 0, .int .u8 0, .int .u8 0, .int .u8 0, .int .u8 0, .int .u8 0, .int .u8 0, .int .u8 0, .int .u8 0, .int .u8 0, .int .u8 0, .int .u8 0, .int .u8 0, .int .u8 0, .int .u8 0, .int .u8 0, .int .u8 0, .int .u8 0, .int .u8 0, .int .u8 0] 123)).setCells w3.heap.size 0 C).rangeAt w3.heap.size 0 C) := World.rangeAt_setCells_same _ _ _ _ (by rw [HL.out]; exact HX.out)
  have HB4 : Hid (Below w.heap.size w ((w3.alloc (.cells #[.int .u8 0, .int .u8 0, .int .u8 0, .int .u8 0, .int .u8 0, .int .u8 0, .int .u8 0, .int .u8 0, .int .u8 0, .int .u8 0, .int .u8 0, .int .u8 0, .int .u8 0, .int .u8 0, .int .u8 0, .int .u8 0, .int .u8 0, .int .u8 0, .int .u8 0, .int .u8 0, .int .u8 0, .int .u8 0, .int .u8 0, .int .u8 0, .int .u8 0, .int .u8 0, .int .u8 0, .int .u8 0, .int .u8 0, .int .u8 0, .int .u8 0, .int .u8 0, .int .u8 0, .int .u8 0, .int .u8 0, .int .u8 0, .int .u8 0, .int .u8 0, .int .u8 0, .int .u8 0, .int .u8 0, .int .u8 0, .int .u8 0, .int .u8 0, .int .u8 0, .int .u8 0, .int .u8 0, .int .u8 0, .int .u8 0, .int .u8 0, .int .u8 0, .int .u8 0, .int .u8 0, .int .u8 0, .int .u8 0, .int .u8 0, .int .u8 0, .int .u8 0, .int .u8 0, .int .u8 0, .int .u8 0, .int .u8 0, .int .u8 0, .int .u8 0] 123)).setCells w3.heap.size 0 C)) := below_setCells _ HB3.out.size _ _ _ (HB3.out.alloc HB3.out.size _)
  have HS4 : Hid (((w3.alloc (.cells #[.int .u8 0, .int .u8 0, .int .u8 0, .int .u8 0, .int .u8 0, .int .u8 0, .int .u8 0, .int .u8 0, .int .u8 0, .int .u8 0, .int .u8 0, .int .u8 0, .int .u8 0, .int .u8 0, .int .u8 0, .int .u8 0, .int .u8 0, .int .u8 0, .int .u8 0, .int .u8 0, .int .u8 0, .int .u8 0, .int .u8 0, .int .u8 0, .int .u8 0, .int .u8 0, .int .u8 0, .int .u8 0, .int .u8 0, .int .u8 0, .int .u8 0, .int .u8 0, .int .u8 0, .int .u8 0, .int .u8 0, .int .u8 0, .int .u8 0, .int .u8 0, .int .u8 0, .int .u8 0, .int .u8 0, .int .u8 0, .int .u8 0, .int .u8 0, .int .u8 0, .int .u8 0, .int .u8 0, .int .u8 0, .int .u8 0, .int .u8 0, .int .u8 0, .int .u8 0, .int .u8 0, .int .u8 0, .int .u8 0, .int .u8 0, .int .u8 0, .int .u8 0, .int .u8 0, .int .u8 0, .int .u8 0, .int .u8 0, .int .u8 0, .int .u8 0] 123)).setCells w3.heap.size 0 C).heap.size = w3.heap.size + 1) := by show _ = _; rw [size_setCells]; simp
  generalize (w3.alloc (.cells #[.int .u8 0, .int .u8 0, .int .u8 0, .int .u8 0, .int .u8 0, .int .u8 0, .int .u8 0, .int .u8 0, .int .u8 0, .int .u8 0, .int .u8 0, .int .u8 0, .int .u8 0, .int .u8 0, .int .u8 0, .int .u8 0, .int .u8 0, .int .u8 0, .int .u8 0, .int .u8 0, .int .u8 0, .int .u8 0, .int .u8 0, .int .u8 0, .int .u8 0, .int .u8 0, .int .u8 0, .int .u8 0, .int .u8 0, .int .u8 0, .int .u8 0, .int .u8 0, .int .u8 0, .int .u8 0, .int .u8 0, .int .u8 0, .int .u8 0, .int .u8 0, .int .u8 0, .int .u8 0, .int .u8 0, .int .u8 0, .int .u8 0, .int .u8 0, .int .u8 0, .int .u8 0, .int .u8 0, .int .u8 0, .int .u8 0, .int .u8 0, .int .u8 0, .int .u8 0, .int .u8 0, .int .u8 0, .int .u8 0, .int .u8 0, .int .u8 0, .int .u8 0, .int .u8 0, .int .u8 0, .int .u8 0, .int .u8 0, .int .u8 0, .int .u8 0] 123)).setCells w3.heap.size 0 C = w4 at HR4 HB4 HS4 ⊢
  have HC4 : Hid (w4.cell? ⟨g, 0, none⟩ = some (.int .i64 h)) := by rw [HB4.out.cell (p := ⟨g, 0, none⟩) HC0.out.1]; exact HC0.out.2
  clear HX HB3 HB2 HR2 HREP HC0
  have HZ : Hid ((spellL (wdOf h) (endW (wdOf h) s0 0 zs)).length = 64) := spellL_length _ _
  have hu75 := Tryd.underlying123
  have hi75 : (Tryd.prog.info? 123).map (·.size) = some C.length := by rw [HL.out]; exact size75
  go_region_held3 (fun v => v.rangeAt w3.heap.size 0 C ∧ v.cell? ⟨g, 0, none⟩ = some (.int .i64 h)) (first | exact ⟨HR4.out, HC4.out⟩ | go_keep | exact hS6) (first
    | (go_at_call 74; refine (ssize g h w4.drew k (show Hid (w4.drew.cell? ⟨g, 0, none⟩ = some (.int .i64 h)) from HC4)).mono ?_; rintro e5 w5 ⟨rfl, hw5⟩; obtain rfl := hw5.symm)
    | (go_at_call 73; refine (first_any k.out C _ w4.drew HC.out HZ.out).mono ?_; rintro e6 w6 ⟨b, rfl, ho6, hb6⟩; have hS6 : w6.rangeAt w3.heap.size 0 C ∧ w6.cell? ⟨g, 0, none⟩ = some (.int .i64 h) := ⟨fun j v hv => by rw [hb6.cell (p := ⟨w3.heap.size, 0 + j, none⟩) (show w3.heap.size < w4.heap.size by have := HS4.out; omega)]; exact HR4.out j v hv, by rw [hb6.cell (p := ⟨g, 0, none⟩) (show g < w4.heap.size from lt_of_cell HC4.out)]; exact HC4.out⟩))
  have HQ : Hid (w6.ownsRow w.heap.size 5 1 (.slice (some ⟨b, 0, none⟩) (szOf h) (szOf h)) (szOf h) (cellsU8 ((spellL (wdOf h) (endW (wdOf h) s0 0 zs)).take (szOf h))) ∧ Below w.heap.size w w6) := ⟨owns_mono ho6 HB4.out.size, HB4.out.drew.trans (hb6.mono HB4.out.size)⟩
  clear ho6 hb6 hS6
  go_wp2
  go_ret
  exact ⟨b, rfl, HQ.out.1, HQ.out.2⟩

set_option maxHeartbeats 800000 in
/-- digest.Sum of what fits. -/
theorem dsum (h : Int) (yss : List (List Int)) (v : Value) (w : World) (k : Hid (Known h)) (hp : Hid (∀ u g, Below w.heap.size w u → w.heap.size ≤ g → Parts u g v yss)) (hT : Hid (Tables w)) (hs : Hid (yss.flatten.length ≤ 33554432)) :
    Calls Tryd.prog 38 #[.int .i64 h, v] w fun e w' => ∃ b, e = .returned (.tuple #[.slice (some ⟨b, 0, none⟩) (szOf h) (szOf h), .int .i64 0]) ∧ w'.ownsRow w.heap.size 5 1 (.slice (some ⟨b, 0, none⟩) (szOf h) (szOf h)) (szOf h) (cellsU8 ((spellL (wdOf h) (endW (wdOf h) (firstE h) 0 yss.flatten)).take (szOf h))) ∧ Below w.heap.size w w' := by
  go_enter Tryd.func38, Tryd.ntmps38
  go_wp2_with (first | (go_at_call 56; refine (new_good h w k hT).mono ?_))
  rintro e1 w1 ⟨g, rfl, hg, hr1, hb1⟩
  have HR1 : Hid (Rep w1 g 0 h (wdOf h) (firstE h) 0 [] ∧ Below w.heap.size w w1 ∧ w.heap.size ≤ g) := ⟨hr1, hb1, hg⟩
  have HP1 : Hid (Parts w1 g v yss) := hp.out w1 g hb1 hg
  have HT1 : Hid (Tables w1) := hT.out.below hb1 hT.out.size
  have hg4 : 2 ≤ g := Nat.le_trans hT.out.size hg
  clear hr1 hb1 hg
  go_wp2_with (first | (go_at_call 57; refine (swrite g h (firstE h) [] yss v w1 k HR1.out.1 HP1 HT1 hg4 (by show _ ≤ _; have := hs.out; simpa using this)).mono ?_))
  rintro e2 w2 ⟨rfl, ht2, hr2⟩
  have HR2 : Hid (Rep w2 g 0 h (wdOf h) (firstE h) 0 yss.flatten ∧ Below w.heap.size w w2) := ⟨hr2, HR1.out.2.1.trans (ht2.toBelow HR1.out.2.2 HR1.out.2.1.size)⟩
  have HT2 : Hid (Tables w2) := HT1.out.touch ht2 hg4
  clear ht2 hr2 HR1 HP1
  go_wp2_with (first | (go_at_call 58; refine (ssum g h (firstE h) yss.flatten w2 k HR2.out.1 HT2 (by show _ ≤ _; have := hs.out; omega)).mono ?_))
  rintro e3 w3 ⟨b, rfl, ho3, hb3⟩
  have HQ : Hid (w3.ownsRow w.heap.size 5 1 (.slice (some ⟨b, 0, none⟩) (szOf h) (szOf h)) (szOf h) (cellsU8 ((spellL (wdOf h) (endW (wdOf h) (firstE h) 0 yss.flatten)).take (szOf h))) ∧ Below w.heap.size w w3) := ⟨owns_mono ho3 HR2.out.2.size, HR2.out.2.trans (hb3.mono HR2.out.2.size)⟩
  clear ho3 hb3
  go_wp2
  go_ret2
  exact ⟨b, rfl, HQ.out.1, HQ.out.2⟩
end Go.Proofs.YtinmhgackihakaaDoor
namespace Go.Proofs.YtinmhgackihakaaDoor
open Go.RowKit

theorem grown_trans {w w1 w2 : World} {g g' : Option Nat} (h1 : w.grownBy w1 g) (h2 : w1.grownBy w2 g') (hg : ∀ k, k < w.heap.size → some k ≠ g → some k ≠ g') : w.grownBy w2 g :=
  ⟨h2.os.trans h1.os, h2.tape.trans h1.tape, h2.output.trans h1.output, Nat.le_trans h1.size h2.size, fun k hk hne => (h2.block k (Nat.lt_of_lt_of_le hk h1.size) (hg k hk hne)).trans (h1.block k hk hne)⟩
theorem grown_refl (w : World) (g : Option Nat) : w.grownBy w g := ⟨rfl, rfl, rfl, Nat.le_refl _, fun _ _ _ => rfl⟩

end Go.Proofs.YtinmhgackihakaaDoor
namespace Go.Proofs.YtinmhgackihakaaDoor
open Go.RowKit

end Go.Proofs.YtinmhgackihakaaDoor
namespace Go.Proofs.YtinmhgackihakaaDoor
open Go.RowKit
set_option linter.unusedVariables false
set_option linter.unusedSimpArgs false

theorem view_lt {w : World} {v : Value} {zs : List Int} (hv : View w v zs) (h0 : zs ≠ []) : ∀ b off l c, v = .slice (some ⟨b, off, none⟩) l c → b < w.heap.size := fun b off l c e => by
  obtain ⟨a, cap, e1, h1, h2, h3, h4⟩ := hv
  rcases h4 with h4 | ⟨b', p', e2, hc⟩
  · exact absurd h4 h0
  · rw [e] at e1
    injection e1 with e3 _ _
    rw [e2] at e3
    injection e3 with e3
    injection e3 with e4 _
    have := lt_of_cell (hc 0 (by cases zs with | nil => exact absurd rfl h0 | cons _ _ => simp))
    simp at this
    omega
theorem view_sliced {w : World} {a : Option Addr} {n cap : Nat} {zs : List Int} (hv : View w (.slice a n cap) zs) (i j : Nat) (hij : i ≤ j) (hj : j ≤ n) : View w (sliced a i j cap 1) ((zs.drop i).take (j - i)) := by
  obtain ⟨a', c, he, h1, h2, h3, h4⟩ := hv
  injection he with e1 e2 e3
  subst e1 e2 e3
  have hl : ((zs.drop i).take (j - i)).length = j - i := by simp; omega
  refine ⟨if cap = i then a else a.map (·.add (i * 1)), cap - i, by rw [sliced, hl], by omega, by omega, ?_, ?_⟩
  · intro e
    split at e
    · omega
    · have : a = none := by cases a with | none => rfl | some x => cases e
      have := h3 this
      omega
  · by_cases hz : (zs.drop i).take (j - i) = []
    · exact .inl hz
    · right
      have hlt : i < j := by
        by_cases hlt : i < j
        · exact hlt
        · exact absurd (by rw [show j - i = 0 by omega, List.take_zero]) hz
      rcases h4 with rfl | ⟨b, off, rfl, hc⟩
      · simp at hj; omega
      · refine ⟨b, off + i, ?_, fun k hk => ?_⟩
        · rw [if_neg (by omega), Option.map_some, Nat.mul_one, Addr.add_mid]
        · rw [hl] at hk
          rw [Nat.add_assoc, hc (i + k) (by omega)]
          simp [List.getD, List.getElem?_take, hk]
theorem elem22 : Tryd.prog.elem 23 = 5 := by kernel_rfl
theorem und22 : Tryd.prog.underlying 23 = some (.slice (Tryd.prog.elem 23)) := by kernel_rfl
theorem sizeOf5 (w : World) : (Go.sizeOf 5).run Tryd.prog w = .ok 1 w := by kernel_rfl
theorem slice_lh (w : World) (a : Option Addr) (n cap i j : Nat) (hij : i ≤ j) (hj : j ≤ cap) : (Instr.slice 23 (.slice a n cap) (some (.int .i64 i)) (some (.int .i64 j)) none).run Tryd.prog w = .ok (sliced a i j cap 1) w := by
  rw [run_slice_lh w 23 a n cap und22 .i64 .i64 i j (by omega) (by omega) (by omega), elem22, sizeOf5]
  simp [Result.andThen]
theorem slice_h (w : World) (a : Option Addr) (n cap j : Nat) (hj : j ≤ cap) : (Instr.slice 23 (.slice a n cap) none (some (.int .i64 j)) none).run Tryd.prog w = .ok (sliced a 0 j cap 1) w := by
  rw [run_slice_h w 23 a n cap und22 .i64 j (by omega) (by omega), elem22, sizeOf5]
  simp [Result.andThen]
theorem slice_l (w : World) (a : Option Addr) (n cap i : Nat) (hi : i ≤ n) (hn : n ≤ cap) : (Instr.slice 23 (.slice a n cap) (some (.int .i64 i)) none none).run Tryd.prog w = .ok (sliced a i n cap 1) w := by
  rw [run_slice_l w 23 a n cap und22 .i64 i (by omega) (by omega), elem22, sizeOf5]
  simp [Result.andThen]

/-- Slices of slices that are built. -/
theorem parts1_alloc {u : World} (t : TypeId) (x : Value) (ys : List Int) (g : Nat) (hx : View u x ys) (hg : u.heap.size ≠ g) (hox : ys ≠ [] → ∀ b off l c, x = .slice (some ⟨b, off, none⟩) l c → b ≠ g) : Parts (u.alloc (.cells #[x] t)) g (.slice (some ⟨u.heap.size, 0, none⟩) 1 1) [ys] := by
  refine ⟨_, 1, rfl, by simp, by simp [maxLen], .inr ⟨u.heap.size, 0, rfl, hg, fun i hi => ?_⟩⟩
  obtain rfl : i = 0 := by simpa using hi
  exact ⟨x, World.cell?_alloc_at _ _ _ _ rfl, hx.kept (fun q hq => Below.heap_alloc u _ q hq), hox⟩
theorem parts2_alloc {u : World} (t : TypeId) (x y : Value) (ys zs : List Int) (g : Nat) (hx : View u x ys) (hy : View u y zs) (hg : u.heap.size ≠ g) (hox : ys ≠ [] → ∀ b off l c, x = .slice (some ⟨b, off, none⟩) l c → b ≠ g) (hoy : zs ≠ [] → ∀ b off l c, y = .slice (some ⟨b, off, none⟩) l c → b ≠ g) : Parts (u.alloc (.cells #[x, y] t)) g (.slice (some ⟨u.heap.size, 0, none⟩) 2 2) [ys, zs] := by
  refine ⟨_, 2, rfl, by simp, by simp [maxLen], .inr ⟨u.heap.size, 0, rfl, hg, fun i hi => ?_⟩⟩
  have hi' : i < 2 := by simpa using hi
  match i, hi' with
  | 0, _ => exact ⟨x, World.cell?_alloc_at _ _ _ _ rfl, hx.kept (fun q hq => Below.heap_alloc u _ q hq), hox⟩
  | 1, _ => exact ⟨y, World.cell?_alloc_at _ _ _ _ rfl, hy.kept (fun q hq => Below.heap_alloc u _ q hq), hoy⟩
theorem view_nil (w : World) : View w (.slice none 0 0) [] := ⟨none, 0, rfl, by simp, by simp [maxLen], fun _ => rfl, .inl rfl⟩
/-- A Marked copy's own row, without its marks. -/
theorem marked_owns {B : Nat} {w : World} {v : Value} {zs : List Int} (h : Marked B w v zs) : ∃ g c, v = .slice (some ⟨g, 0, none⟩) zs.length c ∧ B ≤ g ∧ g < w.heap.size ∧ w.ownsRow B 5 1 v zs.length (cellsU8 zs) := by
  obtain ⟨g, c, rfl, hl, ho⟩ := h
  rcases ho with ⟨h, _⟩ | ⟨g', c', cur, he, h1, h2, h3, h4, h5, h6⟩
  · cases h
  · injection he with e1 e2 e3
    injection e1 with e1
    injection e1 with e4 _
    subst e4 e3
    refine ⟨g, c, rfl, h1, (Array.getElem?_eq_some_iff.1 h2).1, by rw [cellsU8_length]; omega, .inr ⟨g, c, cur, rfl, h1, h2, by omega, h4, h5, ?_⟩⟩
    have e1 : cur.toList.take (zs.length * 1) = (cur.toList.take ((zs.length + 70) * 1)).take zs.length := by
      rw [List.take_take]
      congr 1
      omega
    rw [e1, h6, cellsU8_append, List.take_append_of_le_length (by rw [cellsU8_length]; exact Nat.le_refl _), List.take_of_length_le (by rw [cellsU8_length]; exact Nat.le_refl _)]

end Go.Proofs.YtinmhgackihakaaDoor
namespace Go.Proofs.YtinmhgackihakaaDoor
open Go.RowKit
set_option linter.unusedVariables false
theorem elem22p : Tryd.prog.elem 23 = 5 := by kernel_rfl
theorem und22p : Tryd.prog.underlying 23 = some (.slice (Tryd.prog.elem 23)) := by kernel_rfl
theorem sizeOf5p (w : World) : (Go.sizeOf 5).run Tryd.prog w = .ok 1 w := by kernel_rfl
/-- A digest, as bytes. -/
def sumD (h : Int) (zs : List Int) : List Int := (spellL (wdOf h) (endW (wdOf h) (firstE h) 0 zs)).take (szOf h)
theorem szOf_pos {h : Int} (k : Known h) : 1 ≤ szOf h ∧ szOf h ≤ 64 := by rcases k with rfl | rfl | rfl | rfl <;> decide
theorem viewOwns {w : World} {B n : Nat} {v : Value} {zs : List Int} (h : w.ownsRow B 5 1 v n (cellsU8 zs)) (hn : zs.length = n) : View w v zs := by
  have h0 := h
  rcases h.2 with ⟨rfl, e0⟩ | ⟨g, c, cur, rfl, q1, q2, q3, q4, q5, q6⟩
  · refine ⟨none, 0, by rw [hn, e0], by omega, by simp [maxLen], fun _ => rfl, Or.inl (List.eq_nil_of_length_eq_zero (by omega))⟩
  · refine ⟨some ⟨g, 0, none⟩, c, by rw [hn], by omega, q4, (fun e => by cases e), Or.inr ⟨g, 0, rfl, fun i hi => ?_⟩⟩
    have hc := h0.cells (g := g) rfl i (.int .u8 (zs.getD i 0)) (by simp [cellsU8, List.getD, List.getElem?_eq_getElem hi])
    rw [Addr.add_lit] at hc
    exact hc
theorem sumD_length (h : Int) (k : Known h) (X : List Int) : (sumD h X).length = szOf h := by
  have := szOf_pos k
  simp [sumD, spellL]
  omega
theorem owns_kept {w w' : World} {B n e s : Nat} {v : Value} {xs : List Value} (h : w.ownsRow B e s v n xs) (hb : Below w.heap.size w w') : w'.ownsRow B e s v n xs := by
  obtain ⟨h1, h2⟩ := h
  refine ⟨h1, ?_⟩
  rcases h2 with h2 | ⟨g, c, cur, e, q1, q2, q⟩
  · exact .inl h2
  · exact .inr ⟨g, c, cur, e, q1, by rw [hb.block g (Array.getElem?_eq_some_iff.1 q2).1]; exact q2, q⟩
/-- A list of lists of bytes: its cells, and what they hold. -/
def PV (w : World) (v : Value) (xs : List Value) (yss : List (List Int)) : Prop :=
  ∃ a c, v = .slice a xs.length c ∧ xs.length ≤ c ∧ c ≤ maxLen ∧ xs.length = yss.length ∧ (∀ i x, xs[i]? = some x → View w x (yss.getD i [])) ∧ (xs = [] ∨ ∃ b p, a = some ⟨b, p, none⟩ ∧ ∀ i x, xs[i]? = some x → w.cell? ⟨b, p + i, none⟩ = some x)
theorem PV.kept {w w' : World} {v : Value} {xs : List Value} {yss : List (List Int)} (h : PV w v xs yss) (hb : ∀ b, b < w.heap.size → w'.heap[b]? = w.heap[b]?) : PV w' v xs yss := by
  obtain ⟨a, c, e, h1, h2, h3, h4, h5⟩ := h
  refine ⟨a, c, e, h1, h2, h3, fun i x hx => (h4 i x hx).kept hb, ?_⟩
  rcases h5 with h5 | ⟨b, p, e5, h6⟩
  · exact .inl h5
  · refine .inr ⟨b, p, e5, fun i x hx => ?_⟩
    have q := h6 i x hx
    rw [World.cell?_of_block (w := w) (hb b (lt_of_cell q))]
    exact q
theorem PV.parts {w : World} {v : Value} {xs : List Value} {yss : List (List Int)} (h : PV w v xs yss) (g : Nat) (hg : w.heap.size ≤ g) : Parts w g v yss := by
  obtain ⟨a, c, e, h1, h2, h3, h4, h5⟩ := h
  refine ⟨a, c, by rw [← h3]; exact e, by omega, h2, ?_⟩
  rcases h5 with h5 | ⟨b, p, e5, h6⟩
  · left
    rw [h5] at h3
    exact List.eq_nil_of_length_eq_zero h3.symm
  · by_cases h0 : yss = []
    · exact .inl h0
    · right
      have hl : 0 < xs.length := by rw [h3]; exact List.length_pos_iff.2 h0
      have hb := lt_of_cell (h6 0 _ (List.getElem?_eq_getElem hl))
      refine ⟨b, p, e5, (by simp at hb; omega), fun i hi => ?_⟩
      have hi' : i < xs.length := by omega
      have hx := List.getElem?_eq_getElem hi'
      refine ⟨_, h6 i _ hx, h4 i _ hx, fun hne b' off l c' ex => ?_⟩
      have := view_lt (h4 i _ hx) hne b' off l c' ex
      omega
end Go.Proofs.YtinmhgackihakaaDoor
