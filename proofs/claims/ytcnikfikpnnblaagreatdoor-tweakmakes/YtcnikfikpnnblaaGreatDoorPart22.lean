import Derived.Test.YtcnikfikpnnblaaGreatDoorPart20
import Derived.Test.YtcnikfikpnnblaaGreatDoorRkb
import Derived.Test.YtcnikfikpnnblaaGreatDoorPart01
import Derived.Test.YtcnikfikpnnblaaGreatDoorPart04
import Derived.Test.YtcnikfikpnnblaaGreatDoorPart03
import Derived.Laws.OwnMore
namespace Go.Proofs.YtcnikfikpnnblaaGreatDoor.Dg
open Go.RowKit
set_option linter.unusedVariables false
set_option linter.unusedSimpArgs false

set_option maxHeartbeats 3200000 in
set_option maxRecDepth 100000 in
theorem finish64_A (g o : Nat) (h : Int) (s : Eight) (half : Nat → Int) (fed used u1 : Nat) (w : World) (hblk : blockOf h = 64) (HK : Hid (TK w g o h false s half fed)) (hfed : fed ≤ 1152921504606846976) (hT : Hid (Tables w)) (hg : 9 ≤ g) (h0 : Hid (fed % 64 = used)) (hu1 : Hid (u1 = used + 1)) (hu : u1 ≤ 56) :
  Calls Tryz.prog 238 #[.pointer (some ⟨g, o, none⟩)] w fun e w' => e = .returned (.agg (spellCells 4 (TT false (padF 64 half fed) s (padN 64 fed))).toArray) ∧ Touch w w' g o 139 ∧ ∃ half', TK w' g o h false (TT false (padF 64 half fed) s (padN 64 fed)) half' fed := by
 have c0 := HK.out.hash
 have c138 := HK.out.fed
 have hgw : g < w.heap.size := lt_of_cell c0
 have e1 : (used : Int) + 1 = (u1 : Int) := by have := hu1.out; omega
 have hu' : (u1 : Int) ≤ 64 := by omega
 have hu'' : (0 : Int) ≤ (u1 : Int) := by omega
 have hul : used < u1 := by have := hu1.out; omega
 have hlim : (u1 : Int) ≤ 56 := by omega
 have r0 : ((fed : Int) % 64) = (used : Int) := by have := h0.out; omega
 go_enter Tryz.func238, Tryz.ntmps238
 go_upto_region 3 with (first | (go_at_call 260; refine (block_any _ _).mono ?_; rintro e1 w1 ⟨rfl, hw1⟩; obtain rfl := hw1.symm; rw [hblk]))
 have HB0 : Hid (Below w.heap.size w (w.alloc (.cells #[.int .u8 0, .int .u8 0, .int .u8 0, .int .u8 0, .int .u8 0, .int .u8 0, .int .u8 0, .int .u8 0, .int .u8 0, .int .u8 0, .int .u8 0, .int .u8 0, .int .u8 0, .int .u8 0, .int .u8 0, .int .u8 0, .int .u8 0, .int .u8 0, .int .u8 0, .int .u8 0, .int .u8 0, .int .u8 0, .int .u8 0, .int .u8 0, .int .u8 0, .int .u8 0, .int .u8 0, .int .u8 0, .int .u8 0, .int .u8 0, .int .u8 0, .int .u8 0, .int .u8 0, .int .u8 0, .int .u8 0, .int .u8 0, .int .u8 0, .int .u8 0, .int .u8 0, .int .u8 0, .int .u8 0, .int .u8 0, .int .u8 0, .int .u8 0, .int .u8 0, .int .u8 0, .int .u8 0, .int .u8 0, .int .u8 0, .int .u8 0, .int .u8 0, .int .u8 0, .int .u8 0, .int .u8 0, .int .u8 0, .int .u8 0, .int .u8 0, .int .u8 0, .int .u8 0, .int .u8 0, .int .u8 0, .int .u8 0, .int .u8 0, .int .u8 0] 280)) ∧ (w.alloc (.cells #[.int .u8 0, .int .u8 0, .int .u8 0, .int .u8 0, .int .u8 0, .int .u8 0, .int .u8 0, .int .u8 0, .int .u8 0, .int .u8 0, .int .u8 0, .int .u8 0, .int .u8 0, .int .u8 0, .int .u8 0, .int .u8 0, .int .u8 0, .int .u8 0, .int .u8 0, .int .u8 0, .int .u8 0, .int .u8 0, .int .u8 0, .int .u8 0, .int .u8 0, .int .u8 0, .int .u8 0, .int .u8 0, .int .u8 0, .int .u8 0, .int .u8 0, .int .u8 0, .int .u8 0, .int .u8 0, .int .u8 0, .int .u8 0, .int .u8 0, .int .u8 0, .int .u8 0, .int .u8 0, .int .u8 0, .int .u8 0, .int .u8 0, .int .u8 0, .int .u8 0, .int .u8 0, .int .u8 0, .int .u8 0, .int .u8 0, .int .u8 0, .int .u8 0, .int .u8 0, .int .u8 0, .int .u8 0, .int .u8 0, .int .u8 0, .int .u8 0, .int .u8 0, .int .u8 0, .int .u8 0, .int .u8 0, .int .u8 0, .int .u8 0, .int .u8 0] 280)).there w.heap.size 0 64 ∧ w.heap.size < (w.alloc (.cells #[.int .u8 0, .int .u8 0, .int .u8 0, .int .u8 0, .int .u8 0, .int .u8 0, .int .u8 0, .int .u8 0, .int .u8 0, .int .u8 0, .int .u8 0, .int .u8 0, .int .u8 0, .int .u8 0, .int .u8 0, .int .u8 0, .int .u8 0, .int .u8 0, .int .u8 0, .int .u8 0, .int .u8 0, .int .u8 0, .int .u8 0, .int .u8 0, .int .u8 0, .int .u8 0, .int .u8 0, .int .u8 0, .int .u8 0, .int .u8 0, .int .u8 0, .int .u8 0, .int .u8 0, .int .u8 0, .int .u8 0, .int .u8 0, .int .u8 0, .int .u8 0, .int .u8 0, .int .u8 0, .int .u8 0, .int .u8 0, .int .u8 0, .int .u8 0, .int .u8 0, .int .u8 0, .int .u8 0, .int .u8 0, .int .u8 0, .int .u8 0, .int .u8 0, .int .u8 0, .int .u8 0, .int .u8 0, .int .u8 0, .int .u8 0, .int .u8 0, .int .u8 0, .int .u8 0, .int .u8 0, .int .u8 0, .int .u8 0, .int .u8 0, .int .u8 0] 280)).heap.size) := ⟨(Below.refl _ _).alloc (Nat.le_refl _) _, there_new w _ 280 64 (by decide), by simp⟩
 generalize w.alloc (.cells #[.int .u8 0, .int .u8 0, .int .u8 0, .int .u8 0, .int .u8 0, .int .u8 0, .int .u8 0, .int .u8 0, .int .u8 0, .int .u8 0, .int .u8 0, .int .u8 0, .int .u8 0, .int .u8 0, .int .u8 0, .int .u8 0, .int .u8 0, .int .u8 0, .int .u8 0, .int .u8 0, .int .u8 0, .int .u8 0, .int .u8 0, .int .u8 0, .int .u8 0, .int .u8 0, .int .u8 0, .int .u8 0, .int .u8 0, .int .u8 0, .int .u8 0, .int .u8 0, .int .u8 0, .int .u8 0, .int .u8 0, .int .u8 0, .int .u8 0, .int .u8 0, .int .u8 0, .int .u8 0, .int .u8 0, .int .u8 0, .int .u8 0, .int .u8 0, .int .u8 0, .int .u8 0, .int .u8 0, .int .u8 0, .int .u8 0, .int .u8 0, .int .u8 0, .int .u8 0, .int .u8 0, .int .u8 0, .int .u8 0, .int .u8 0, .int .u8 0, .int .u8 0, .int .u8 0, .int .u8 0, .int .u8 0, .int .u8 0, .int .u8 0, .int .u8 0] 280) = w0 at HB0 ⊢
 have HK0 : Hid (TK w0 g o h false s half fed) := HK.out.below HB0.out.1
 have fu : w0.cell? ⟨g, o + 10 + used, none⟩ = some (.int .u8 (half used)) := HK0.out.half used (by omega)
 have ff : w0.frozen? ⟨g, o + 10 + used, none⟩ = false := by
  have := (HK0.out.there (10 + used) (by omega)).2
  rw [← Nat.add_assoc] at this
  exact this
 have hx1 := HK0.out.setByte used 128 (by omega)
 have hcl : ∀ ty, (Builtin.clear_ #[24] ty #[.slice (some ⟨g, o + 10 + u1, none⟩) (64 - u1) (128 - u1)]).run Tryz.prog (w0.setCell ⟨g, o + 10 + used, none⟩ (.int .u8 128)) = .ok (.tuple #[]) ((w0.setCell ⟨g, o + 10 + used, none⟩ (.int .u8 128)).setCells g (o + 10 + u1) (List.replicate (64 - u1) (.int .u8 0))) := fun ty => clear_eq _ ty g _ _ _ (fun j hj => by
  have := hx1.1.there (10 + u1 + j) (by omega)
  rw [← Nat.add_assoc, ← Nat.add_assoc] at this
  exact this)
 have hx2 := hx1.1.clear u1 (64 - u1) (by omega)
 have HT1 : Hid (Touch w ((w0.setCell ⟨g, o + 10 + used, none⟩ (.int .u8 128)).setCells g (o + 10 + u1) (List.replicate (64 - u1) (.int .u8 0))) g o 139) := (((Touch.refl w g o 139).below HB0.out.1 hgw).trans hx1.2).trans hx2.2
 have HK1 : Hid (TK ((w0.setCell ⟨g, o + 10 + used, none⟩ (.int .u8 128)).setCells g (o + 10 + u1) (List.replicate (64 - u1) (.int .u8 0))) g o h false s (fun i => if u1 ≤ i ∧ i < u1 + (64 - u1) then 0 else (fun i => if i = used then 128 else half i) i) fed) := hx2.1
 have HR1 : Hid (((w0.setCell ⟨g, o + 10 + used, none⟩ (.int .u8 128)).setCells g (o + 10 + u1) (List.replicate (64 - u1) (.int .u8 0))).there w.heap.size 0 64 ∧ w.heap.size < ((w0.setCell ⟨g, o + 10 + used, none⟩ (.int .u8 128)).setCells g (o + 10 + u1) (List.replicate (64 - u1) (.int .u8 0))).heap.size) := ⟨World.there_setCells (World.there_setCells HB0.out.2.1 g _ [_]) g _ _, by rw [size_setCells]; simpa [World.setCell] using HB0.out.2.2⟩
 clear hx1 hx2
 go_upto_region 8 with fail
 rw [show decide ((56 : Int) < (u1 : Int)) = false by simp; omega]
 generalize (w0.setCell ⟨g, o + 10 + used, none⟩ (.int .u8 128)).setCells g (o + 10 + u1) (List.replicate (64 - u1) (.int .u8 0)) = w2 at HT1 HK1 HR1 hcl ⊢
 have c138' : w2.cell? ⟨g, o + 138, none⟩ = some (.int .u64 fed) := HK1.out.fed
 obtain ⟨H1, HH1⟩ : ∃ H1 : Nat → Int, Hid ((fun i => if u1 ≤ i ∧ i < u1 + (64 - u1) then (0 : Int) else (fun i => if i = used then 128 else half i) i) = H1) := ⟨_, (show _ = _ from rfl)⟩
 rw [HH1.out] at HK1
 obtain ⟨P, HPP⟩ : ∃ P : Nat → Int, Hid (P = padF 64 half fed) := ⟨_, (show _ = _ from rfl)⟩
 obtain ⟨s1, HS1⟩ : ∃ s1 : Eight, Hid (s1 = s) := ⟨_, (show _ = _ from rfl)⟩
 rw [← HS1.out] at HK1
 have hpn : padN 64 fed = 1 := by rw [padN, if_pos (by have := h0.out; have := hu1.out; omega)]
 have HP1 : Hid (∀ k, k < 64 - 8 → H1 k = P k) := by
  intro k hk
  have hu := hu1.out
  have h00 := h0.out
  rw [← HH1.out, HPP.out]
  simp only [padF, hpn, h00]
  by_cases k2 : u1 ≤ k
  ·rw [if_pos ⟨k2, by omega⟩, if_neg (by omega), if_neg (by omega), if_pos (by omega)]
  ·rw [if_neg (by omega)]
   by_cases k3 : k = used
   ·rw [if_pos k3, if_neg (by omega), if_pos k3]
   ·rw [if_neg k3, if_pos (by omega)]
 have HPL : Hid (∀ k, 64 - 8 ≤ k → k < 64 → P k = ((fed : Int) * 8) / 2 ^ (8 * (64 - 1 - k)) % 256) := by
  intro k k1 hk
  have hu := hu1.out
  have h00 := h0.out
  rw [HPP.out]
  simp only [padF, hpn, h00]
  rw [if_neg (by omega), if_neg (by omega), if_neg (by omega)]
 have HE : Hid (TT false P s1 1 = TT false (padF 64 half fed) s (padN 64 fed)) := by show _ = _; rw [HPP.out, HS1.out, hpn]
 clear hcl fu ff HK0 HB0 c0 c138 hpn HH1 HPP HS1
 go_wp2
 clear c138'
 go_loopw [62] (fun v wr => ∃ i : Nat, i ≤ 8 ∧ v = .int .i64 i ∧ Hid (Touch w wr g o 139) ∧ Hid (TK wr g o h false s1 (fun k => if 64 - i ≤ k ∧ k < 64 then ((fed : Int) * 8) / 2 ^ (8 * (64 - 1 - k)) % 256 else H1 k) fed) ∧ Hid (wr.there w.heap.size 0 64 ∧ w.heap.size < wr.heap.size)) (fun v _ => 8 - (intOf v).toNat)
 case atStart => exact ⟨0, by omega, rfl, HT1, HK1.out.fun_eq (fun i hi => by rw [if_neg (by omega)]), HR1⟩
 case round =>
  obtain ⟨i, hi, rfl, HT2, HK2, HR2⟩ := hrel
  clear HT1 HK1 HR1
  by_cases h8 : i < 8
  ·obtain ⟨j, hj⟩ : ∃ j, j = 64 - 1 - i := ⟨_, rfl⟩
   have e2 : (63 : Int) - (i : Int) = (j : Int) := by omega
   have e3 : (8 * (i : Int)).toNat = 8 * i := by omega
   have e4 : min (8 * i) 64 = 8 * i := by omega
   have e5 : (0 : Int) ≤ 8 * (i : Int) := by omega
   have e6 : (j : Int) < 128 := by omega
   have HJ : Hid (j = 64 - 1 - i) := hj
   have fc := HK2.out.half j (by omega)
   have ff : wr.frozen? ⟨g, o + 10 + j, none⟩ = false := by
    have := (HK2.out.there (10 + j) (by omega)).2
    rw [← Nat.add_assoc] at this
    exact this
   clear hj
   go_wp2
   go_region
   go_wp2
   go_roundw
   case rel =>
    have hx := HK2.out.setByte j ((fed : Int) * 8 / 2 ^ (8 * i) % 256) (by omega)
    refine ⟨i + 1, by omega, by go_num, (HT2.out.trans hx.2).drew, (hx.1.sm (Sm.refl _).drew).fun_eq (fun k hk => ?_), ⟨World.there_setCells HR2.out.1 g _ [_], by simpa [World.setCell] using HR2.out.2⟩⟩
    have hj := HJ.out
    by_cases hkj : k = j
    ·subst hkj
     rw [if_pos rfl, if_pos (by omega), show 64 - 1 - k = i by omega]
    ·rw [if_neg hkj]
     by_cases hc : 64 - i ≤ k ∧ k < 64
     ·rw [if_pos hc, if_pos (by omega)]
     ·rw [if_neg hc, if_neg (by omega)]
   case measure => simp [intOf]; omega
  ·obtain rfl : i = 8 := by omega
   have c1' : wr.cell? ⟨g, o + 1, none⟩ = some (.func (.func 261) #[] #[]) := HK2.out.fn
   obtain ⟨H2, HH2⟩ : ∃ H2 : Nat → Int, Hid ((fun k => if 64 - 8 ≤ k ∧ k < 64 then ((fed : Int) * 8) / 2 ^ (8 * (64 - 1 - k)) % 256 else H1 k) = H2) := ⟨_, (show _ = _ from rfl)⟩
   rw [HH2.out] at HK2
   have HP : Hid (∀ k, k < 64 → H2 k = P k) := by
    intro k hk
    rw [← HH2.out]
    dsimp only
    by_cases k1 : 64 - 8 ≤ k
    ·rw [if_pos ⟨k1, hk⟩, HPL.out k k1 hk]
    ·rw [if_neg (by omega), HP1.out k (by omega)]
   obtain ⟨s', HS'⟩ : ∃ s' : Eight, Hid (s' = TT false (padF 64 half fed) s (padN 64 fed)) := ⟨_, (show _ = _ from rfl)⟩
   have HA : Hid (∀ v, Sm wr v → Calls Tryz.prog 261 #[.pointer (some ⟨g, o + 2, none⟩), .slice (some ⟨g, o + 10, none⟩) 64 128] v fun e w' => e = .returned (.tuple #[]) ∧ Touch wr w' g o 139 ∧ TK w' g o h false s' H2 fed) := by
    intro v hsm
    have hs1 := HT2.out.size
    have hk' := HK2.out.sm hsm
    refine (take_any false g (o + 2) _ ((List.range 64).map H2) s1 v (by rw [hsm.heap]; omega) hk'.st (fun j hj => by have := hk'.there (2 + j) (by omega); rw [← Nat.add_assoc] at this; exact this) (view_half hk' 64 (by omega)) (fun _ _ _ _ e => by injection e with e1 e2 e3; injection e1 with e1; injection e1 with e4 e5; omega) (hsm.tables (hT.out.touch HT2.out hg)) hg).mono ?_
    rintro e w' ⟨rfl, ht', hr'⟩
    rw [show ((List.range 64).map H2).length / bsz false = 1 by simp [bsz], TT_congr false (B' := P) s1 1 (fun j hj => by simp [bsz] at hj; simp [List.getD, hj]; exact HP.out j (by omega)), HE.out, ← HS'.out] at hr'
    exact ⟨rfl, (hsm.touch g o 139).trans (ht'.mono o 139 (by omega) (by omega)), hk'.words ht' hr'⟩
   clear HH2 h8 HP HPL HP1 HE
   go_wp2
   go_region_held3 (fun v => v.cell? ⟨g, o + 1, none⟩ = some (.func (.func 261) #[] #[])) (first | go_keep | exact hk3.fn) ((go_at_call 261; refine (HA.out wr.drew (Sm.refl wr).drew).mono ?_; rintro e3 w3 ⟨rfl, ht3, hk3⟩))
   have HT3 : Hid (Touch w w3 g o 139) := HT2.out.trans ht3
   have HR3 : Hid (w3.there w.heap.size 0 64 ∧ w.heap.size < w3.heap.size) := ⟨ht3.thereFar HR2.out.1 HR2.out.2 (by omega), Nat.lt_of_lt_of_le HR2.out.2 ht3.size⟩
   have HK3 : Hid (TK w3 g o h false s' H2 fed) := hk3
   clear ht3 hk3 HA c1' HT2 HR2 HK2
   go_wp2_with (first | (go_at_call 265; refine (spell64 g o h s' H2 fed _ hblk HK3).mono ?_))
   rintro e4 w4 ⟨rfl, hb4⟩
   have hs3 := HT3.out.size
   have HT4 : Hid (Touch w w4 g o 139) := HT3.out.below hb4 hgw
   have HK4 : Hid (TK w4 g o h false s' H2 fed) := HK3.out.below hb4
   have HR4 : Hid (w4.there w.heap.size 0 64) := fun j hj => by rw [hb4.cell (p := ⟨w.heap.size, 0 + j, none⟩) HR3.out.2, hb4.frozen (p := ⟨w.heap.size, 0 + j, none⟩) HR3.out.2]; exact HR3.out.1 j hj
   have HY : Hid (w4.there w.heap.size 0 (spellCells 4 s').toArray.size) := by rw [spellArr_size]; exact HR4.out
   have HZ : Hid ((Tryz.prog.info? 280).map (·.size) = some (spellCells 4 s').toArray.size) := by rw [spellArr_size]; exact size75
   clear HT3 HK3 HR3 hb4
   go_wp2_with (first
    | (refine wpList_store_mid (by rfl) 280 (.tmp 2) (.tmp 93) (by rfl) w.heap.size 0 (spellCells 4 s').toArray (by rfl) (by rfl) HY.out HZ.out (spellCells_one 4 s') ?_)
    | fail)
   have hl := run_loadVar_mid (P := Tryz.prog) (w4.setCells w.heap.size 0 (spellCells 4 s')) w.heap.size 0 280 (spellCells 4 s') _ (World.rangeAt_setCells_same w4 w.heap.size 0 (spellCells 4 s') (by rw [spellCells_length]; exact HR4.out)) Tryz.underlying280 rfl (by rw [spellCells_length]; exact size75)
   have hn := touch_new HT4.out (Nat.le_refl _) (spellCells 4 s') 0 hgw
   have hs' := HS'.out
   refine bodyPost_ret (v := .agg (spellCells 4 s').toArray) ?_ rfl ⟨by rw [hs'], hn, H2, by rw [← hs']; exact HK4.out.newer (by omega) _ _⟩
   rw [results_cell1 Tryz.results238]
   simp [Act.put, asAddr, hl]
end Go.Proofs.YtcnikfikpnnblaaGreatDoor.Dg
namespace Go.Proofs.YtcnikfikpnnblaaGreatDoor
open Go.RowKit
set_option linter.unusedVariables false
theorem zsize85 : Tryz.zeroCells168.size = 4611 := by kernel_rfl
theorem zb85 : Tryz.prog.built 168 [] = some Tryz.zeroCells168 := by kernel_rfl
theorem zhead85 : Tryz.zeroCells168.toList.take 2 = [.slice none 0 0, .slice none 0 0] := by kernel_rfl
theorem zlast85 : Tryz.zeroCells168.toList.drop 4610 = [.bool false] := by kernel_rfl
theorem dbl_tms : ∀ a : Fin 256, tmsN 8 0 a.1 2 = dblN a.1 := by decide +kernel
/-- The rows of products. -/
def byF : Nat → Nat → Nat
 | 1, j => j
 | 2, j => x2 j
 | 3, j => x3 j
 | 9, j => x9 j
 | 11, j => x11 j
 | 13, j => x13 j
 | _, j => x14 j
def byR (r : Nat) : Prop := r = 1 ∨ r = 2 ∨ r = 3 ∨ r = 9 ∨ r = 11 ∨ r = 13 ∨ r = 14
/-- The reference's key while it is made at g: tables, and the products of the first m bytes. -/
structure RkT (w : World) (g m : Nat) (v : World) : Prop where
 old : Below g w v
 room : v.there g 0 4611
 lt : g < v.heap.size
 s : ∀ j, j < 256 → v.cell? ⟨g, 2 + j, none⟩ = some (.int .u8 (SB j : Nat))
 u : ∀ j, j < 256 → v.cell? ⟨g, 258 + j, none⟩ = some (.int .u8 (UB j : Nat))
 by' : ∀ r, byR r → ∀ j, j < m → v.cell? ⟨g, 514 + 256 * r + j, none⟩ = some (.int .u8 (byF r j : Nat))
 wiped : v.cell? ⟨g, 4610, none⟩ = some (.bool false)
theorem RkT.keep {w v v' : World} {g m : Nat} (h : RkT w g m v) (hb : v'.heap[g]? = v.heap[g]?) (ho : Below g w v') (hs : v.heap.size ≤ v'.heap.size) : RkT w g m v' := by
 have hc : ∀ j, v'.cell? ⟨g, j, none⟩ = v.cell? ⟨g, j, none⟩ := fun j => World.cell?_of_block (a := ⟨g, j, none⟩) hb
 have hf : ∀ j, v'.frozen? ⟨g, j, none⟩ = v.frozen? ⟨g, j, none⟩ := fun j => World.frozen?_of_block (a := ⟨g, j, none⟩) hb
 exact ⟨ho, fun j hj => by rw [hc, hf]; exact h.room j hj, Nat.lt_of_lt_of_le h.lt hs, fun j hj => (hc _).trans (h.s j hj), fun j hj => (hc _).trans (h.u j hj), fun r hr j hj => (hc _).trans (h.by' r hr j hj), (hc _).trans h.wiped⟩
theorem RkT.set {w v : World} {g m : Nat} (h : RkT w g m v) (j : Nat) (x : Value) (hj : j < 2) : RkT w g m (v.setCell ⟨g, j, none⟩ x) :=
 ⟨h.old.setCell (Nat.le_refl _) _, World.there_setCells h.room _ _ [_], by have := h.lt; simpa [World.setCell] using this, fun i hi => (cell_other _ _ _ _ _ (by omega)).trans (h.s i hi), fun i hi => (cell_other _ _ _ _ _ (by omega)).trans (h.u i hi), fun r hr i hi => (cell_other _ _ _ _ _ (by omega)).trans (h.by' r hr i hi), (cell_other _ _ _ _ _ (by omega)).trans h.wiped⟩
/-- Seven cells more. -/
def bySet (v : World) (g k : Nat) : World :=
 ((((((v.setCell ⟨g, 770 + k, none⟩ (.int .u8 (k : Nat))).setCell ⟨g, 1026 + k, none⟩ (.int .u8 (x2 k : Nat))).setCell ⟨g, 1282 + k, none⟩ (.int .u8 (x3 k : Nat))).setCell ⟨g, 2818 + k, none⟩ (.int .u8 (x9 k : Nat))).setCell ⟨g, 3330 + k, none⟩ (.int .u8 (x11 k : Nat))).setCell ⟨g, 3842 + k, none⟩ (.int .u8 (x13 k : Nat))).setCell ⟨g, 4098 + k, none⟩ (.int .u8 (x14 k : Nat))
theorem bySet_out (v : World) (g k j : Nat) (h : j ≠ 770 + k ∧ j ≠ 1026 + k ∧ j ≠ 1282 + k ∧ j ≠ 2818 + k ∧ j ≠ 3330 + k ∧ j ≠ 3842 + k ∧ j ≠ 4098 + k) : (bySet v g k).cell? ⟨g, j, none⟩ = v.cell? ⟨g, j, none⟩ := by
 unfold bySet
 rw [cell_other _ _ _ _ _ (by omega), cell_other _ _ _ _ _ (by omega), cell_other _ _ _ _ _ (by omega), cell_other _ _ _ _ _ (by omega), cell_other _ _ _ _ _ (by omega), cell_other _ _ _ _ _ (by omega), cell_other _ _ _ _ _ (by omega)]
theorem bySet_there {v : World} {g o n : Nat} (k : Nat) (h : v.there g o n) : (bySet v g k).there g o n :=
 World.there_setCells (World.there_setCells (World.there_setCells (World.there_setCells (World.there_setCells (World.there_setCells (World.there_setCells h _ _ [_]) _ _ [_]) _ _ [_]) _ _ [_]) _ _ [_]) _ _ [_]) _ _ [_]
theorem bySet_below {w v : World} {g : Nat} (k : Nat) (h : Below g w v) : Below g w (bySet v g k) :=
 ((((((h.setCell (Nat.le_refl _) _).setCell (Nat.le_refl _) _).setCell (Nat.le_refl _) _).setCell (Nat.le_refl _) _).setCell (Nat.le_refl _) _).setCell (Nat.le_refl _) _).setCell (Nat.le_refl _) _
theorem bySet_size (v : World) (g k : Nat) : (bySet v g k).heap.size = v.heap.size := by simp [bySet, World.setCell]
theorem bySet_in {v : World} {g k : Nat} (ht : v.there g 0 4611) (hk : k < 256) (r : Nat) (hr : byR r) : (bySet v g k).cell? ⟨g, 514 + 256 * r + k, none⟩ = some (.int .u8 (byF r k : Nat)) := by
 unfold bySet
 rcases hr with rfl | rfl | rfl | rfl | rfl | rfl | rfl
 ·show World.cell? _ ⟨g, 770 + k, none⟩ = _
  rw [cell_other _ _ _ _ _ (by omega), cell_other _ _ _ _ _ (by omega), cell_other _ _ _ _ _ (by omega), cell_other _ _ _ _ _ (by omega), cell_other _ _ _ _ _ (by omega), cell_other _ _ _ _ _ (by omega)]
  exact set_same _ ht (by omega)
 ·show World.cell? _ ⟨g, 1026 + k, none⟩ = _
  rw [cell_other _ _ _ _ _ (by omega), cell_other _ _ _ _ _ (by omega), cell_other _ _ _ _ _ (by omega), cell_other _ _ _ _ _ (by omega), cell_other _ _ _ _ _ (by omega)]
  exact set_same _ (World.there_setCells ht _ _ [_]) (by omega)
 ·show World.cell? _ ⟨g, 1282 + k, none⟩ = _
  rw [cell_other _ _ _ _ _ (by omega), cell_other _ _ _ _ _ (by omega), cell_other _ _ _ _ _ (by omega), cell_other _ _ _ _ _ (by omega)]
  exact set_same _ (World.there_setCells (World.there_setCells ht _ _ [_]) _ _ [_]) (by omega)
 ·show World.cell? _ ⟨g, 2818 + k, none⟩ = _
  rw [cell_other _ _ _ _ _ (by omega), cell_other _ _ _ _ _ (by omega), cell_other _ _ _ _ _ (by omega)]
  exact set_same _ (World.there_setCells (World.there_setCells (World.there_setCells ht _ _ [_]) _ _ [_]) _ _ [_]) (by omega)
 ·show World.cell? _ ⟨g, 3330 + k, none⟩ = _
  rw [cell_other _ _ _ _ _ (by omega), cell_other _ _ _ _ _ (by omega)]
  exact set_same _ (World.there_setCells (World.there_setCells (World.there_setCells (World.there_setCells ht _ _ [_]) _ _ [_]) _ _ [_]) _ _ [_]) (by omega)
 ·show World.cell? _ ⟨g, 3842 + k, none⟩ = _
  rw [cell_other _ _ _ _ _ (by omega)]
  exact set_same _ (World.there_setCells (World.there_setCells (World.there_setCells (World.there_setCells (World.there_setCells ht _ _ [_]) _ _ [_]) _ _ [_]) _ _ [_]) _ _ [_]) (by omega)
 ·show World.cell? _ ⟨g, 4098 + k, none⟩ = _
  exact set_same _ (World.there_setCells (World.there_setCells (World.there_setCells (World.there_setCells (World.there_setCells (World.there_setCells ht _ _ [_]) _ _ [_]) _ _ [_]) _ _ [_]) _ _ [_]) _ _ [_]) (by omega)
theorem RkT.more {w v : World} {g k : Nat} (h : RkT w g k v) (hk : k < 256) : RkT w g (k + 1) (bySet v g k) := by
 refine ⟨bySet_below k h.old, bySet_there k h.room, by rw [bySet_size]; exact h.lt, fun j hj => (bySet_out _ _ _ _ (by omega)).trans (h.s j hj), fun j hj => (bySet_out _ _ _ _ (by omega)).trans (h.u j hj), fun r hr j hj => ?_, (bySet_out _ _ _ _ (by omega)).trans h.wiped⟩
 by_cases hjk : j = k
 ·subst hjk; exact bySet_in h.room hk r hr
 ·rw [bySet_out _ _ _ _ (by rcases hr with rfl | rfl | rfl | rfl | rfl | rfl | rfl <;> omega)]
  exact h.by' r hr j (by omega)
/-- A list of bytes. -/
def rbL (K : Nat → Nat) (m : Nat) : List Value := (List.range m).map fun j => .int .u8 (rb K j : Nat)
theorem rbL_succ (K : Nat → Nat) (m : Nat) : rbL K (m + 1) = rbL K m ++ [.int .u8 (rb K m : Nat)] := by simp [rbL, List.range_succ]
theorem rbL_len (K : Nat → Nat) (m : Nat) : (rbL K m).length = m := by simp [rbL]
theorem rbL_at (K : Nat → Nat) (m j : Nat) (h : j < m) : (rbL K m)[j]? = some (.int .u8 (rb K j : Nat)) := by simp [rbL, h]
theorem own_set {w : World} {base e sz n g o : Nat} {v x : Value} {xs : List Value} (h : w.ownsRow base e sz v n xs) (hg : g < base) : (w.setCell ⟨g, o, none⟩ x).ownsRow base e sz v n xs :=
 h.kept (row := some g) ⟨rfl, rfl, rfl, by simp [World.setCell], fun k hk hne => World.heap_setCells_other w g o [x] hk (fun q => hne (by rw [q]))⟩ (by
  cases hv : v.ownBlock with
  | none => exact .inl rfl
  | some k => right; intro q; have := (h.lt k hv).1; simp at q; omega)
/-- The reference's key at g, its round keys at gr. -/
structure RefAt (w : World) (g gr nk : Nat) (K : Nat → Nat) : Prop where
 lt : g < w.heap.size
 gt : g < gr
 ltr : gr < w.heap.size
 s : ∀ j, j < 256 → w.cell? ⟨g, 2 + j, none⟩ = some (.int .u8 (SB j : Nat))
 u : ∀ j, j < 256 → w.cell? ⟨g, 258 + j, none⟩ = some (.int .u8 (UB j : Nat))
 by' : ∀ r, byR r → ∀ j, j < 256 → w.cell? ⟨g, 514 + 256 * r + j, none⟩ = some (.int .u8 (byF r j : Nat))
 wiped : w.cell? ⟨g, 4610, none⟩ = some (.bool false)
 bytes : ∃ p c, w.cell? ⟨g, 0, none⟩ = some (.slice p (4 * nk) c)
 round : ∃ c, w.cell? ⟨g, 1, none⟩ = some (.slice (some ⟨gr, 0, none⟩) (16 * (nk + 7)) c)
 cells : ∀ j, j < 16 * (nk + 7) → w.cell? ⟨gr, j, none⟩ = some (.int .u8 (rb K j : Nat))
 room : w.there g 0 4611
theorem RefAt.keep {w w' : World} {g gr nk : Nat} {K : Nat → Nat} (h : RefAt w g gr nk K) (h1 : w'.heap[g]? = w.heap[g]?) (h2 : w'.heap[gr]? = w.heap[gr]?) (hs : w.heap.size ≤ w'.heap.size) : RefAt w' g gr nk K := by
 have hc : ∀ j, w'.cell? ⟨g, j, none⟩ = w.cell? ⟨g, j, none⟩ := fun j => World.cell?_of_block (a := ⟨g, j, none⟩) h1
 have hd : ∀ j, w'.cell? ⟨gr, j, none⟩ = w.cell? ⟨gr, j, none⟩ := fun j => World.cell?_of_block (a := ⟨gr, j, none⟩) h2
 obtain ⟨p, c, hp⟩ := h.bytes
 obtain ⟨d, hq⟩ := h.round
 exact ⟨Nat.lt_of_lt_of_le h.lt hs, h.gt, Nat.lt_of_lt_of_le h.ltr hs, fun j hj => (hc _).trans (h.s j hj), fun j hj => (hc _).trans (h.u j hj), fun r hr j hj => (hc _).trans (h.by' r hr j hj), (hc _).trans h.wiped, ⟨p, c, (hc _).trans hp⟩, ⟨d, (hc _).trans hq⟩, fun j hj => (hd _).trans (h.cells j hj), fun j hj => (by rw [World.cell?_of_block (a := ⟨g, 0 + j, none⟩) h1, World.frozen?_of_block (a := ⟨g, 0 + j, none⟩) h1]; exact h.room j hj)⟩
end Go.Proofs.YtcnikfikpnnblaaGreatDoor
