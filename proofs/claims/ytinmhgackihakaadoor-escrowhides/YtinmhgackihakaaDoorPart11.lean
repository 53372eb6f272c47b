import Derived.Test.YtinmhgackihakaaDoorPart10
import Derived.Deep.DeepMust
import Derived.Test.YtinmhgackihakaaDoorPart09
namespace Go.Proofs.YtinmhgackihakaaDoor
open Go.RowKit
set_option linter.unusedVariables false
set_option linter.unusedSimpArgs false
set_option maxRecDepth 100000
/-- What the polynomials are at 0, those from o on. -/
def at0 (C : Nat → List F) (o n : Nat) : List F := (List.range n).map fun i => pv 0 (C (o + i))
set_option maxHeartbeats 1600000 in
/-- secret. -/
theorem secret_ok (sn nd LB n c s m : Nat) (C : Nat → List F) (p q : Nat → Nat) (w : World) (hs : Hid (n = s + 4 ∧ n ≤ 1000 ∧ n ≤ c ∧ m ≤ 4000)) (hp : Hid (PolI LB n m C p q w)) :
    Calls Tryd.prog 23 #[.agg #[.int .u16 (sn : Nat), .int .i64 (nd : Nat), .slice (some ⟨LB, 0, none⟩) n c]] w fun e w' => Hid (∃ g, e = .returned (.slice (some ⟨g, 0, none⟩) s s) ∧ w.heap.size ≤ g ∧ Bx w' g 5 (fc (at0 C 0 s)) ∧ Below w.heap.size w w') := by
  obtain ⟨M, HMM⟩ : ∃ M, Hid (w.heap.size = M) := ⟨_, rfl⟩
  obtain ⟨SD, HSD⟩ : ∃ q : List Value, Hid ([.int .u16 (sn : Nat), .int .i64 (nd : Nat), .slice (some ⟨LB, 0, none⟩) n c] = q) := ⟨_, rfl⟩
  have hi63 : (Tryd.prog.info? 50).map (·.size) = some SD.length := by rw [← HSD.out]; kernel_rfl
  obtain ⟨w1, hw1⟩ : ∃ w1, w1 = w.alloc (.cells #[.int .u16 (sn : Nat), .int .i64 (nd : Nat), .slice (some ⟨LB, 0, none⟩) n c] 50) := ⟨_, rfl⟩
  have HS0 : Hid (Bx w1 M 50 SD ∧ Below M w w1) := by
    have hb0 : Below w.heap.size w w1 := by rw [hw1]; exact (Below.refl _ _).alloc (Nat.le_refl _) _
    rw [← HMM.out, ← HSD.out]
    exact ⟨by rw [hw1]; exact Bx.new w 50 _, hb0⟩
  have HSC : Hid (∀ u, Bx u M 50 SD → u.cell? ⟨M, 0, none⟩ = some (.int .u16 (sn : Nat)) ∧ u.cell? ⟨M, 1, none⟩ = some (.int .i64 (nd : Nat)) ∧ u.cell? ⟨M, 2, none⟩ = some (.slice (some ⟨LB, 0, none⟩) n c)) := fun u h => by
    rw [← HSD.out] at h
    exact ⟨h.cell 0 _ rfl, h.cell 1 _ rfl, h.cell 2 _ rfl⟩
  have H36 : Hid (∀ u, Calls Tryd.prog 29 #[.agg SD.toArray] u fun e w' => Hid (e = .returned (.int .i64 (s : Nat)) ∧ Below u.heap.size u w')) := fun u => by
    rw [← HSD.out]
    exact size_ok sn nd LB n c s (show n = s + 4 ∧ n ≤ 1000 from ⟨hs.out.1, hs.out.2.1⟩) u
  obtain ⟨VS, HVS⟩ : ∃ z : List F, Hid (at0 C 0 s = z) := ⟨_, rfl⟩
  have H35 : Hid (∀ u, Below M w u → Calls Tryd.prog 32 #[.int .u8 0, .slice (some ⟨LB, 0, none⟩) s c] u fun e w' => Hid (∃ g, e = .returned (.slice (some ⟨g, 0, none⟩) s s) ∧ u.heap.size ≤ g ∧ Bx w' g 5 (fc VS) ∧ Below u.heap.size u w')) := fun u hu => by
    have hp2 : PolO LB 0 s m (fun i => C (0 + i)) (fun i => p (0 + i)) (fun i => q (0 + i)) u := (hp.out.below (Nat.le_of_eq HMM.out) hu).off (by have := hs.out; omega)
    have z := valuesO_ok LB 0 s m c 0 _ _ _ u (by have := hs.out; omega) hs.out.2.2.2 hp2
    rw [← HVS.out]
    exact z
  have g2 : (0 : Int) ≤ (s : Int) := by omega
  have g3 : ((s : Int)) ≤ (c : Int) := by have := hs.out; omega
  have g4 : (s : Int).toNat = s := rfl
  rw [HVS.out]
  go_enter Tryd.func23, Tryd.ntmps23
  go_upto_region 1 with fail
  rw [← hw1, HMM.out]
  clear hw1
  have hS0 : Bx w1.drew M 50 SD ∧ Below M w w1.drew := ⟨HS0.out.1.keep rfl, HS0.out.2.drew⟩
  refine wp_region_noPanic ?_
  refine wp_region_held_drew (S := (fun u => Bx u M 50 SD ∧ Below M w u)) (by kernel_rfl) (hS0) (fun _ => ?_)
  refine takeH_at 0 3 (.pointer (some ⟨M, 2, none⟩)) rfl rfl (by kernel_rfl) (by kernel_rfl) (by kernel_rfl) (fun _ _ _ h => h) (hS0) (Or.inl ⟨by rfl, fun w' hS' => by obtain ⟨k0, k1, k2⟩ := HSC.out _ hS'.1; go_simp⟩) ?_
  try simp only [List.setIfInBounds_toArray, List.set_cons_zero, List.set_cons_succ]
  refine takeH_at 1 4 (.slice (some ⟨LB, 0, none⟩) n c) rfl rfl (by kernel_rfl) (by kernel_rfl) (by kernel_rfl) (fun _ _ _ h => h) (hS0) (Or.inl ⟨by rfl, fun w' hS' => by obtain ⟨k0, k1, k2⟩ := HSC.out _ hS'.1; go_simp⟩) ?_
  try simp only [List.setIfInBounds_toArray, List.set_cons_zero, List.set_cons_succ]
  refine takeH_at 2 5 (.agg SD.toArray) rfl rfl (by kernel_rfl) (by kernel_rfl) (by kernel_rfl) (fun _ _ _ h => h) (hS0) (yieldsIf_load_mid (by rfl) 50 (.tmp 1) rfl M 0 rfl SD _ (fun u hu => hu.1.range) Tryd.underlying50 rfl hi63) ?_
  try simp only [List.setIfInBounds_toArray, List.set_cons_zero, List.set_cons_succ]
  refine wpAnyH_ready (rs := [3]) (by kernel_rfl) (by simp) ?_
  refine AllReadyH.cons rfl (fun KK hK => ?_) AllReadyH.nil
  go_simp
  refine (H36.out _).mono ?_
  intro e q1 hh
  obtain ⟨rfl, hb⟩ := hh.out
  have HQ1 : Hid (Bx q1 M 50 SD ∧ Below M w q1) := ⟨hS0.1.below hb, hS0.2.trans (hb.mono (Nat.le_of_lt hS0.1.lt))⟩
  clear hh hb
  go_wp2_with fail
  refine hK.out _ _ (HQ1.out) (fun _ => ?_)
  clear hK KK
  try simp only [List.setIfInBounds_toArray, List.set_cons_zero, List.set_cons_succ]
  refine takeH_at 4 7 (.slice (some ⟨LB, 0, none⟩) s c) rfl rfl (by kernel_rfl) (by kernel_rfl) (by kernel_rfl) (fun _ _ _ h => h) (HQ1.out) (Or.inl ⟨by rfl, fun w' hS' => by go_simp⟩) ?_
  try simp only [List.setIfInBounds_toArray, List.set_cons_zero, List.set_cons_succ]
  refine wpAnyH_ready (rs := [5]) (by kernel_rfl) (by simp) ?_
  refine AllReadyH.cons rfl (fun KK hK => ?_) AllReadyH.nil
  go_simp
  refine (H35.out _ HQ1.out.2).mono ?_
  intro e q2 hh
  obtain ⟨vg, rfl, hge, hv, hb⟩ := hh.out
  have HQ2 : Hid (Bx q2 M 50 SD ∧ Below M w q2) := ⟨HQ1.out.1.below hb, HQ1.out.2.trans (hb.mono (Nat.le_of_lt HQ1.out.1.lt))⟩
  have HV : Hid (Bx q2 vg 5 (fc VS) ∧ M ≤ vg) := ⟨hv, Nat.le_trans (Nat.le_of_lt HQ1.out.1.lt) hge⟩
  clear hh hb hv hge
  go_wp2_with fail
  refine hK.out _ _ (HQ2.out) (fun _ => ?_)
  clear hK KK
  try simp only [List.setIfInBounds_toArray, List.set_cons_zero, List.set_cons_succ]
  refine wpAnyH_ready (rs := [6]) (by kernel_rfl) (by simp) ?_
  refine AllReadyH.cons rfl (fun KK hK => ?_) AllReadyH.nil
  go_simp
  refine hK.out _ _ (HQ2.out) (fun _ => ?_)
  clear hK KK
  try simp only [List.setIfInBounds_toArray, List.set_cons_zero, List.set_cons_succ]
  refine wpAnyH_done (by kernel_rfl) ?_ _
  refine NoPanic.normal ?_
  go_wp2
  go_ret
  exact ⟨vg, rfl, by rw [HMM.out]; exact HV.out.2, HV.out.1, by rw [HMM.out]; exact HQ2.out.2⟩
end Go.Proofs.YtinmhgackihakaaDoor
namespace Go.Proofs.YtinmhgackihakaaDoor
open Go.RowKit
set_option linter.unusedVariables false
set_option linter.unusedSimpArgs false
set_option maxRecDepth 100000
set_option maxHeartbeats 3200000 in
/-- isRight. -/
theorem isRight_ok (sn nd LB n c s m : Nat) (b0 b1 : F) (C : Nat → List F) (p q : Nat → Nat) (w : World) (hsn : Hid (b0.1 * 256 + b1.1 = sn)) (hs : Hid (n = s + 4 ∧ n ≤ 1000 ∧ n ≤ c ∧ m ≤ 4000)) (hp : Hid (PolI LB n m C p q w)) (hT : Hid (Tables w)) :
    Calls Tryd.prog 37 #[.agg #[.int .u16 (sn : Nat), .int .i64 (nd : Nat), .slice (some ⟨LB, 0, none⟩) n c]] w fun e w' => Hid (e = .returned (.bool (decide (at0 C s 4 = ckL b0 b1 (at0 C 0 s)))) ∧ Below w.heap.size w w') := by
  obtain ⟨M, HMM⟩ : ∃ M, Hid (w.heap.size = M) := ⟨_, rfl⟩
  obtain ⟨SD, HSD⟩ : ∃ q : List Value, Hid ([.int .u16 (sn : Nat), .int .i64 (nd : Nat), .slice (some ⟨LB, 0, none⟩) n c] = q) := ⟨_, rfl⟩
  have hi63 : (Tryd.prog.info? 50).map (·.size) = some SD.length := by rw [← HSD.out]; kernel_rfl
  obtain ⟨w1, hw1⟩ : ∃ w1, w1 = w.alloc (.cells #[.int .u16 (sn : Nat), .int .i64 (nd : Nat), .slice (some ⟨LB, 0, none⟩) n c] 50) := ⟨_, rfl⟩
  have HS0 : Hid (Bx w1 M 50 SD ∧ Below M w w1) := by
    have hb0 : Below w.heap.size w w1 := by rw [hw1]; exact (Below.refl _ _).alloc (Nat.le_refl _) _
    rw [← HMM.out, ← HSD.out]
    exact ⟨by rw [hw1]; exact Bx.new w 50 _, hb0⟩
  have HSC : Hid (∀ u, Bx u M 50 SD → u.cell? ⟨M, 0, none⟩ = some (.int .u16 (sn : Nat)) ∧ u.cell? ⟨M, 1, none⟩ = some (.int .i64 (nd : Nat)) ∧ u.cell? ⟨M, 2, none⟩ = some (.slice (some ⟨LB, 0, none⟩) n c)) := fun u h => by
    rw [← HSD.out] at h
    exact ⟨h.cell 0 _ rfl, h.cell 1 _ rfl, h.cell 2 _ rfl⟩
  have H36 : Hid (∀ u, Calls Tryd.prog 29 #[.agg SD.toArray] u fun e w' => Hid (e = .returned (.int .i64 (s : Nat)) ∧ Below u.heap.size u w')) := fun u => by
    rw [← HSD.out]
    exact size_ok sn nd LB n c s (show n = s + 4 ∧ n ≤ 1000 from ⟨hs.out.1, hs.out.2.1⟩) u
  obtain ⟨VS, HVS⟩ : ∃ z : List F, Hid (at0 C 0 s = z) := ⟨_, rfl⟩
  obtain ⟨VK, HVK⟩ : ∃ z : List F, Hid (at0 C s 4 = z) := ⟨_, rfl⟩
  have HVL : Hid (VS.length = s ∧ VK.length = 4) := by rw [← HVS.out, ← HVK.out]; exact ⟨by simp [at0], by simp [at0]⟩
  have H35 : Hid (∀ u, Below M w u → Calls Tryd.prog 32 #[.int .u8 0, .slice (some ⟨LB, s, none⟩) 4 (c - s)] u fun e w' => Hid (∃ g, e = .returned (.slice (some ⟨g, 0, none⟩) 4 4) ∧ u.heap.size ≤ g ∧ Bx w' g 5 (fc VK) ∧ Below u.heap.size u w')) := fun u hu => by
    have hp2 : PolO LB s 4 m (fun i => C (s + i)) (fun i => p (s + i)) (fun i => q (s + i)) u := (hp.out.below (Nat.le_of_eq HMM.out) hu).off (by have := hs.out; omega)
    have z := valuesO_ok LB s 4 m (c - s) 0 _ _ _ u (by omega) hs.out.2.2.2 hp2
    rw [← HVK.out]
    exact z
  have H22 : Hid (∀ u, Below M w u → Calls Tryd.prog 23 #[.agg SD.toArray] u fun e w' => Hid (∃ g, e = .returned (.slice (some ⟨g, 0, none⟩) s s) ∧ u.heap.size ≤ g ∧ Bx w' g 5 (fc VS) ∧ Below u.heap.size u w')) := fun u hu => by
    rw [← HVS.out, ← HSD.out]
    exact secret_ok sn nd LB n c s m C p q u hs (hp.out.below (Nat.le_of_eq HMM.out) hu)
  have H40 : Hid (∀ u vs, Below M w u → Bx u vs 5 (fc VS) → Calls Tryd.prog 27 #[.int .u16 (sn : Nat), .slice (some ⟨vs, 0, none⟩) s s] u fun e w' => Hid (∃ g, e = .returned (.slice (some ⟨g, 0, none⟩) 4 32) ∧ u.heap.size ≤ g ∧ Rw w' g 0 (ckL b0 b1 VS) ∧ Below u.heap.size u w')) := fun u vs hu hb => check_ok sn vs 0 s s b0 b1 VS u hsn HVL.out.1 (by have := hs.out; omega) ⟨Nat.le_refl _, by have := hs.out; unfold maxLen; omega⟩ (bx_rw hb) (hT.out.below hu (by rw [← HMM.out]; exact hT.out.size))
  obtain ⟨KL, HKL⟩ : ∃ z : List F, Hid (ckL b0 b1 VS = z) := ⟨_, rfl⟩
  have HKN : Hid (KL.length = 4) := by rw [← HKL.out]; exact ck_len _ _ _
  rw [HKL.out] at H40
  obtain ⟨BB, HBB⟩ : ∃ z : Bool, Hid (decide (VK = KL) = z) := ⟨_, rfl⟩
  have H58 : Hid (∀ u vk kb, Bx u vk 5 (fc VK) → Rw u kb 0 KL → Calls Tryd.prog 55 #[.slice (some ⟨vk, 0, none⟩) 4 4, .slice (some ⟨kb, 0, none⟩) 4 32] u fun e w' => e = .returned (.bool BB) ∧ ∃ k, w' = u.drewN k) := fun u vk kb h1 h2 => by
    rw [← HBB.out]
    exact dequal_ok vk 0 4 kb 0 32 4 VK KL u HVL.out.2 HKN.out (by omega) (bx_rw h1) h2
  have g2 : (0 : Int) ≤ (s : Int) := by omega
  have g3 : ((s : Int)) ≤ (n : Int) := by have := hs.out; omega
  have g5 : ((n : Int)) ≤ (c : Int) := by have := hs.out; omega
  have g4 : (s : Int).toNat = s := rfl
  have g6 : (n : Int).toNat = n := rfl
  have g8 : ¬ c = s := by have := hs.out; omega
  have g7 : n - s = 4 := by have := hs.out; omega
  rw [HVK.out, HVS.out, HKL.out, HBB.out]
  go_enter Tryd.func37, Tryd.ntmps37
  go_upto_region 1 with fail
  rw [← hw1, HMM.out]
  clear hw1
  have hS0 : Bx w1.drew M 50 SD ∧ Below M w w1.drew := ⟨HS0.out.1.keep rfl, HS0.out.2.drew⟩
  refine wp_region_noPanic ?_
  refine wp_region_held_drew (S := (fun u => Bx u M 50 SD ∧ Below M w u)) (by kernel_rfl) (hS0) (fun _ => ?_)
  refine takeH_at 0 3 (.pointer (some ⟨M, 2, none⟩)) rfl rfl (by kernel_rfl) (by kernel_rfl) (by kernel_rfl) (fun _ _ _ h => h) (hS0) (Or.inl ⟨by rfl, fun w' hS' => by obtain ⟨k0, k1, k2⟩ := HSC.out _ hS'.1; go_simp⟩) ?_
  try simp only [List.setIfInBounds_toArray, List.set_cons_zero, List.set_cons_succ]
  refine takeH_at 1 4 (.slice (some ⟨LB, 0, none⟩) n c) rfl rfl (by kernel_rfl) (by kernel_rfl) (by kernel_rfl) (fun _ _ _ h => h) (hS0) (Or.inl ⟨by rfl, fun w' hS' => by obtain ⟨k0, k1, k2⟩ := HSC.out _ hS'.1; go_simp⟩) ?_
  try simp only [List.setIfInBounds_toArray, List.set_cons_zero, List.set_cons_succ]
  refine takeH_at 2 5 (.agg SD.toArray) rfl rfl (by kernel_rfl) (by kernel_rfl) (by kernel_rfl) (fun _ _ _ h => h) (hS0) (yieldsIf_load_mid (by rfl) 50 (.tmp 1) rfl M 0 rfl SD _ (fun u hu => hu.1.range) Tryd.underlying50 rfl hi63) ?_
  try simp only [List.setIfInBounds_toArray, List.set_cons_zero, List.set_cons_succ]
  refine takeH_at 6 9 (.pointer (some ⟨M, 0, none⟩)) rfl rfl (by kernel_rfl) (by kernel_rfl) (by kernel_rfl) (fun _ _ _ h => h) (hS0) (Or.inl ⟨by rfl, fun w' hS' => by obtain ⟨k0, k1, k2⟩ := HSC.out _ hS'.1; go_simp⟩) ?_
  try simp only [List.setIfInBounds_toArray, List.set_cons_zero, List.set_cons_succ]
  refine takeH_at 7 10 (.int .u16 (sn : Nat)) rfl rfl (by kernel_rfl) (by kernel_rfl) (by kernel_rfl) (fun _ _ _ h => h) (hS0) (Or.inl ⟨by rfl, fun w' hS' => by obtain ⟨k0, k1, k2⟩ := HSC.out _ hS'.1; go_simp⟩) ?_
  try simp only [List.setIfInBounds_toArray, List.set_cons_zero, List.set_cons_succ]
  refine takeH_at 8 11 (.agg SD.toArray) rfl rfl (by kernel_rfl) (by kernel_rfl) (by kernel_rfl) (fun _ _ _ h => h) (hS0) (yieldsIf_load_mid (by rfl) 50 (.tmp 1) rfl M 0 rfl SD _ (fun u hu => hu.1.range) Tryd.underlying50 rfl hi63) ?_
  try simp only [List.setIfInBounds_toArray, List.set_cons_zero, List.set_cons_succ]
  refine wpAnyH_ready (rs := [3]) (by kernel_rfl) (by simp) ?_
  refine AllReadyH.cons rfl (fun KK hK => ?_) AllReadyH.nil
  go_simp
  refine (H36.out _).mono ?_
  intro e q1 hh
  obtain ⟨rfl, hb⟩ := hh.out
  have HQ1 : Hid (Bx q1 M 50 SD ∧ Below M w q1) := ⟨hS0.1.below hb, hS0.2.trans (hb.mono (Nat.le_of_lt hS0.1.lt))⟩
  clear hh hb
  go_wp2_with fail
  refine hK.out _ _ (HQ1.out) (fun _ => ?_)
  clear hK KK
  try simp only [List.setIfInBounds_toArray, List.set_cons_zero, List.set_cons_succ]
  refine takeH_at 4 7 (.slice (some ⟨LB, s, none⟩) 4 (c - s)) rfl rfl (by kernel_rfl) (by kernel_rfl) (by kernel_rfl) (fun _ _ _ h => h) (HQ1.out) (Or.inl ⟨by rfl, fun w' hS' => by go_simp⟩) ?_
  try simp only [List.setIfInBounds_toArray, List.set_cons_zero, List.set_cons_succ]
  refine wpAnyH_ready (rs := [5]) (by kernel_rfl) (by simp) ?_
  refine AllReadyH.cons rfl (fun KK hK => ?_) AllReadyH.nil
  go_simp
  refine (H35.out _ HQ1.out.2).mono ?_
  intro e q2 hh
  obtain ⟨vk2, rfl, hge, hv, hb⟩ := hh.out
  have HQ2 : Hid (Bx q2 M 50 SD ∧ Below M w q2) := ⟨HQ1.out.1.below hb, HQ1.out.2.trans (hb.mono (Nat.le_of_lt HQ1.out.1.lt))⟩
  have HK2 : Hid (Bx q2 vk2 5 (fc VK)) := hv
  clear hh hb hv hge
  go_wp2_with fail
  refine hK.out _ _ (HQ2.out) (fun _ => ?_)
  clear hK KK
  try simp only [List.setIfInBounds_toArray, List.set_cons_zero, List.set_cons_succ]
  refine wpAnyH_ready (rs := [9]) (by kernel_rfl) (by simp) ?_
  refine AllReadyH.cons rfl (fun KK hK => ?_) AllReadyH.nil
  go_simp
  refine (H22.out _ HQ2.out.2).mono ?_
  intro e q3 hh
  obtain ⟨vs3, rfl, hge, hv, hb⟩ := hh.out
  have HQ3 : Hid (Bx q3 M 50 SD ∧ Below M w q3) := ⟨HQ2.out.1.below hb, HQ2.out.2.trans (hb.mono (Nat.le_of_lt HQ2.out.1.lt))⟩
  have HK3 : Hid (Bx q3 vk2 5 (fc VK)) := HK2.out.below hb
  have HV3 : Hid (Bx q3 vs3 5 (fc VS)) := hv
  clear hh hb hv hge
  go_wp2_with fail
  refine hK.out _ _ (HQ3.out) (fun _ => ?_)
  clear hK KK
  try simp only [List.setIfInBounds_toArray, List.set_cons_zero, List.set_cons_succ]
  refine wpAnyH_ready (rs := [10]) (by kernel_rfl) (by simp) ?_
  refine AllReadyH.cons rfl (fun KK hK => ?_) AllReadyH.nil
  go_simp
  refine (H40.out _ _ HQ3.out.2 HV3.out).mono ?_
  intro e q4 hh
  obtain ⟨kb4, rfl, hge, hv, hb⟩ := hh.out
  have HQ4 : Hid (Bx q4 M 50 SD ∧ Below M w q4) := ⟨HQ3.out.1.below hb, HQ3.out.2.trans (hb.mono (Nat.le_of_lt HQ3.out.1.lt))⟩
  have HK4 : Hid (Bx q4 vk2 5 (fc VK)) := HK3.out.below hb
  have HV4 : Hid (Bx q4 vs3 5 (fc VS)) := HV3.out.below hb
  have HC4 : Hid (Rw q4 kb4 0 KL) := hv
  clear hh hb hv hge
  go_wp2_with fail
  refine hK.out _ _ (HQ4.out) (fun _ => ?_)
  clear hK KK
  try simp only [List.setIfInBounds_toArray, List.set_cons_zero, List.set_cons_succ]
  refine wpAnyH_ready (rs := [11]) (by kernel_rfl) (by simp) ?_
  refine AllReadyH.cons rfl (fun KK hK => ?_) AllReadyH.nil
  go_simp
  refine (H58.out _ _ _ HK4.out HC4.out).mono ?_
  rintro e q5 ⟨rfl, kk, hw⟩
  have HQ5 : Hid (Bx q5 M 50 SD ∧ Below M w q5) := by rw [hw]; exact ⟨HQ4.out.1.keep rfl, below_drewN0 HQ4.out.2 kk⟩
  clear hw
  go_wp2_with fail
  refine hK.out _ _ (HQ5.out) (fun _ => ?_)
  clear hK KK
  try simp only [List.setIfInBounds_toArray, List.set_cons_zero, List.set_cons_succ]
  refine wpAnyH_ready (rs := [12]) (by kernel_rfl) (by simp) ?_
  refine AllReadyH.cons rfl (fun KK hK => ?_) AllReadyH.nil
  go_simp
  refine hK.out _ _ (HQ5.out) (fun _ => ?_)
  clear hK KK
  try simp only [List.setIfInBounds_toArray, List.set_cons_zero, List.set_cons_succ]
  refine wpAnyH_done (by kernel_rfl) ?_ _
  refine NoPanic.normal ?_
  go_wp2
  go_ret
  exact ⟨rfl, by rw [HMM.out]; exact HQ5.out.2⟩
end Go.Proofs.YtinmhgackihakaaDoor
namespace Go.Proofs.YtinmhgackihakaaDoor
open Go.RowKit
set_option linter.unusedVariables false
set_option linter.unusedSimpArgs false
set_option maxRecDepth 100000
/-- The letters of one sharing. -/
def AlkP (R : Nat → List F) (n : Nat) : Prop := ∀ i, i < n → setN (R i) = setN (R 0) ∧ ((R i).getD 2 0).1 = ((R 0).getD 2 0).1 ∧ ((R i).getD 4 0).1 = ((R 0).getD 4 0).1
/-- One share of each index, by rising index. -/
def onR (R : Nat → List F) (n : Nat) : Nat → List F := fun i => R ((ordL R n 255).getD i 0)
def onN (R : Nat → List F) (n : Nat) : Nat := (ordL R n 255).length
def FitA (R : Nat → List F) (nd s m : Nat) : Prop := ∀ i, nd ≤ i → i < m → fitV R nd (s + 4) i
def RightP (b0 b1 : F) (R : Nat → List F) (nd s : Nat) : Prop := at0 (ftC R nd) s 4 = ckL b0 b1 (at0 (ftC R nd) 0 s)
/-- Why shares that were read are no sharing's. -/
def JnP (R : Nat → List F) (n k : Nat) : Prop :=
  (n = 0 ∧ k = 114) ∨ (¬ AlkP R n ∧ k = 115) ∨ (AlkP R n ∧ TwiceP R n ∧ k = 116) ∨ (0 < n ∧ AlkP R n ∧ ¬ TwiceP R n ∧ onN R n < ((R 0).getD 2 0).1 ∧ k = 114) ∨
  (0 < n ∧ AlkP R n ∧ ¬ TwiceP R n ∧ ((R 0).getD 2 0).1 ≤ onN R n ∧ ¬ (FitA (onR R n) ((R 0).getD 2 0).1 ((R 0).getD 4 0).1 (onN R n) ∧ RightP ((R 0).getD 0 0) ((R 0).getD 1 0) (onR R n) ((R 0).getD 2 0).1 ((R 0).getD 4 0).1) ∧ k = 117)
/-- Why lines give nothing. -/
def JrP (T : Nat → ByteArray) (n k : Nat) : Prop := (∃ b, b < n ∧ (∀ i, i < b → ∃ d, MGood (T i) (gR (T i)) d) ∧ MBad (T b) k) ∨ ((∀ i, i < n → ∃ d, MGood (T i) (gR (T i)) d) ∧ JnP (fun i => gR (T i)) n k)
/-- They are shares of one sharing. -/
def JgP (R : Nat → List F) (n : Nat) : Prop := 0 < n ∧ AlkP R n ∧ ¬ TwiceP R n ∧ ((R 0).getD 2 0).1 ≤ onN R n ∧ FitA (onR R n) ((R 0).getD 2 0).1 ((R 0).getD 4 0).1 (onN R n) ∧ RightP ((R 0).getD 0 0) ((R 0).getD 1 0) (onR R n) ((R 0).getD 2 0).1 ((R 0).getD 4 0).1
def JnQ (T : Nat → ByteArray) (n M : Nat) (e : Ending) (w w' : World) : Prop :=
  ((∃ k : Nat, JrP T n k ∧ e = .returned (.tuple #[.agg Z52.toArray, .int .i64 (k : Nat)])) ∨ ((∀ i, i < n → ∃ d, MGood (T i) (gR (T i)) d) ∧ JgP (fun i => gR (T i)) n ∧ ∃ LB lc p q, e = .returned (.tuple #[.agg #[.int .u16 (setN (gR (T 0)) : Nat), .int .i64 (((gR (T 0)).getD 2 0).1 : Nat), .slice (some ⟨LB, 0, none⟩) (((gR (T 0)).getD 4 0).1 + 4) lc], .int .i64 0]) ∧ ((gR (T 0)).getD 4 0).1 + 4 ≤ lc ∧ PolI LB (((gR (T 0)).getD 4 0).1 + 4) ((gR (T 0)).getD 2 0).1 (ftC (onR (fun i => gR (T i)) n) ((gR (T 0)).getD 2 0).1) p q w')) ∧ Below M w w'
theorem mbad_code {s : ByteArray} {k : Nat} (h : MBad s k) : k = 4 ∨ k = 112 ∨ k = 113 := by
  rcases h with ⟨_, h⟩ | ⟨_, ⟨_, h⟩ | ⟨_, h, _⟩⟩ <;> omega
/-- A share that is left lies among those that came in. -/
theorem on_lt {R : Nat → List F} {n i : Nat} (hi : i < onN R n) : (ordL R n 255).getD i 0 < n := by
  have h : (ordL R n 255).getD i 0 ∈ ordL R n 255 := by
    rw [List.getD_eq_getElem?_getD, List.getElem?_eq_getElem hi]
    exact List.getElem_mem _
  exact (ordL_mem h).1
theorem wpList_load_gd {P : Program} {ops : Array Oper} {rest : List Oper} {op : Oper} {a : Act} {w : World} {Q : Exit → Act → World → Prop} (hw : Region.wanted op (yielded ops a.tmps) = true) (ty : TypeId) (x : Operand) (ho : op.op = .load ty x)
    (b o : Nat) (hx : a.eval x = .pointer (some ⟨b, o, none⟩)) (cs : List Value) (d : TypeDesc) (hc : w.rangeAt b o cs)
    (hu : P.underlying ty = some d) (hd : d.isRow = true) (hi : (P.info? ty).map (·.size) = some cs.length)
    (h : wpList P ops Q rest (a.put op.dst (.agg cs.toArray)) w) : wpList P ops Q (op :: rest) a w :=
  wpList_step fun K hK => by
    rw [if_pos hw]
    exact wp_load_mid ty x ho b o hx cs d hc hu hd hi (hK _ _ h)
set_option maxHeartbeats 3200000 in
/-- joined. -/
theorem joined_ok (a : Option Addr) (n cp : Nat) (T : Nat → ByteArray) (w : World) (hn : Hid (n ≤ 100000)) (hT : Hid (∀ i, i < n → ∃ b off, a = some ⟨b, off, none⟩ ∧ w.cell? ⟨b, off + i, none⟩ = some (.string (T i)))) (hTb : Hid (Tables w)) :
    Calls Tryd.prog 22 #[.slice a n cp] w fun e w' => JnQ T n w.heap.size e w w' := by
  obtain ⟨M, HMM⟩ : ∃ M, Hid (w.heap.size = M) := ⟨_, rfl⟩
  have hi63 : (Tryd.prog.info? 50).map (·.size) = some 3 := by kernel_rfl
  have HZ1 : Hid (∀ v ∈ Z52, v.oneCell' = true) := by intro v hv; simp [Z52] at hv; rcases hv with rfl | rfl | rfl <;> rfl
  obtain ⟨w1, hw1⟩ : ∃ u, u = w.alloc (.cells Z52.toArray 50) := ⟨_, rfl⟩
  have H1 : Hid (Bx w1 M 50 Z52 ∧ Below M w w1 ∧ w1.heap.size = M + 1) := by
    rw [hw1, ← HMM.out]
    exact ⟨Bx.new w 50 Z52, (Below.refl _ _).alloc (Nat.le_refl _) _, by simp⟩
  have H31 : Hid (Calls Tryd.prog 34 #[.slice a n cp] w1 fun e w' => RshQ T n w1.heap.size e w1 w') := readShares_ok a n cp T w1 hn (by
    show ∀ i, i < n → _
    intro i hi
    obtain ⟨b, off, e1, e2⟩ := hT.out i hi
    exact ⟨b, off, e1, (H1.out.2.1.cell (by rw [← HMM.out]; exact World.block_lt_of_cell? _ _ e2)).trans e2⟩)
  obtain ⟨R, HR⟩ : ∃ z : Nat → List F, Hid ((fun i => gR (T i)) = z) := ⟨_, rfl⟩
  have HR0 : Hid (∀ i, gR (T i) = R i) := fun i => by rw [← HR.out]
  rw [HMM.out]
  go_enter Tryd.func22, Tryd.ntmps22
  go_upto_region 1 with fail
  rw [show w.alloc (.cells #[.int .u16 0, .int .i64 0, .slice none 0 0] 50) = w1 from hw1.symm, HMM.out]
  clear hw1
  go_upto_region 2 with (first
    | (go_at_call 34; refine H31.out.mono ?_; intro e2 w2 h2; obtain ⟨⟨hg, v, rfl, hv⟩ | ⟨b, k, hb, hg, hk, rfl⟩, hbl⟩ := h2)
    | fail)
  rotate_left
  · -- a line that cannot be read
    have H2 : Hid (JrP T n k ∧ (k = 4 ∨ k = 112 ∨ k = 113) ∧ Bx w2 M 50 Z52 ∧ Below M w w2) := ⟨.inl ⟨b, hb, hg, hk⟩, mbad_code hk, H1.out.1.below hbl, H1.out.2.1.trans (hbl.mono (Nat.le_of_lt H1.out.1.lt))⟩
    have g0 : ¬ ((k : Int) = 0) := by have := H2.out.2.1; omega
    clear hb hg hk hbl H31 H1
    go_wp2_with (first
      | (refine wpList_store_bx (by rfl) 50 (.tmp 2) (.tmp 19) (by rfl) Z52 Z52 M (by rfl) (by rfl) H2.out.2.2.1 (by rfl) hi63 HZ1.out ?_; intro w9 h9 h10)
      | fail)
    refine ret_agg_tmp (b := M) Z52 _ rfl rfl rfl h9.range Tryd.underlying50 rfl hi63 ?_
    exact ⟨.inl ⟨k, H2.out.1, rfl⟩, H2.out.2.2.2.trans (below_gb h10 (Nat.le_of_lt H2.out.2.2.1.lt) (Nat.le_refl _))⟩
  have H2 : Hid ((∀ i, i < n → ∃ d, MGood (T i) (gR (T i)) d) ∧ Bx w2 M 50 Z52 ∧ Below M w w2) := ⟨hg, H1.out.1.below hbl, H1.out.2.1.trans (hbl.mono (Nat.le_of_lt H1.out.1.lt))⟩
  clear hg hbl H31 H1
  rcases hv with ⟨rfl, a2, c2, rfl⟩ | ⟨g, cp2, q, c, rfl, hv⟩
  · have HF : Hid (JrP T 0 114) := .inr ⟨H2.out.1, .inl ⟨rfl, rfl⟩⟩
    go_wp2_with (first
      | (refine wpList_store_bx (by rfl) 50 (.tmp 2) (.tmp 24) (by rfl) Z52 Z52 M (by rfl) (by rfl) H2.out.2.1 (by rfl) hi63 HZ1.out ?_; intro w9 h9 h10)
      | fail)
    refine ret_agg_tmp (b := M) Z52 _ rfl rfl rfl h9.range Tryd.underlying50 rfl hi63 ?_
    exact ⟨.inl ⟨114, HF.out, rfl⟩, H2.out.2.2.trans (below_gb h10 (Nat.le_of_lt H2.out.2.1.lt) (Nat.le_refl _))⟩
  have HV : Hid (n ≤ cp2 ∧ cp2 ≤ maxLen ∧ ShI w2 g 0 n R q c) := by rw [← HR.out]; exact hv
  clear hv
  by_cases hn0 : n = 0
  · subst hn0
    have HF : Hid (JrP T 0 114) := .inr ⟨H2.out.1, .inl ⟨rfl, rfl⟩⟩
    go_wp2_with (first
      | (refine wpList_store_bx (by rfl) 50 (.tmp 2) (.tmp 24) (by rfl) Z52 Z52 M (by rfl) (by rfl) H2.out.2.1 (by rfl) hi63 HZ1.out ?_; intro w9 h9 h10)
      | fail)
    refine ret_agg_tmp (b := M) Z52 _ rfl rfl rfl h9.range Tryd.underlying50 rfl hi63 ?_
    exact ⟨.inl ⟨114, HF.out, rfl⟩, H2.out.2.2.trans (below_gb h10 (Nat.le_of_lt H2.out.2.1.lt) (Nat.le_refl _))⟩
  obtain ⟨L0, HL0⟩ : ∃ z : List Value, Hid (shV (R 0) (q 0) (c 0) = z) := ⟨_, rfl⟩
  have HL5 : Hid (L0.length = 5 ∧ ∀ v ∈ L0, v.oneCell' = true) := by rw [← HL0.out]; exact ⟨shV_len _ _ _, shV_one _ _ _⟩
  have hiL : (Tryd.prog.info? 72).map (·.size) = some L0.length := by rw [HL5.out.1]; exact hi78
  have HRG : Hid (w2.rangeAt g 0 L0) := by rw [← HL0.out]; exact HV.out.2.2.cells 0 (by omega)
  have g1 : (0 : Int) < (n : Int) := by omega
  have g2 : ¬ ((n : Int) = 0) := by omega
  obtain ⟨FB, HFB⟩ : ∃ z, Hid (w2.heap.size = z) := ⟨_, rfl⟩
  have HN0 : Hid (0 < n) := by show _ < _; omega
  clear hn0
  go_upto_region 7 with (first
    | (refine wpList_load_mid (by rfl) 72 (.tmp 26) (by rfl) g 0 (by rfl) L0 _ HRG.out Tryd.underlying72 rfl hiL ?_)
    | (refine wpList_store_bx (by rfl) 72 (.tmp 6) (.tmp 27) (by rfl) Zsh L0 w2.heap.size (by rfl) (by rfl) (Bx.new w2 72 Zsh) (by rw [HL5.out.1]; rfl) hiL HL5.out.2 ?_; intro w3 h5 h6; have H3 : Hid (Bx w3 FB 72 L0 ∧ Bx w3 M 50 Z52 ∧ ShI w3 g 0 n R q c ∧ Below M w w3) := (by
        have hb : Below w2.heap.size w2 w3 := ((Below.refl _ _).alloc (Nat.le_refl _) _).trans (below_gb h6 (by simp) (Nat.le_refl _))
        exact ⟨by rw [← HFB.out]; exact h5, H2.out.2.1.below hb, HV.out.2.2.below hb, H2.out.2.2.trans (hb.mono (Nat.le_of_lt H2.out.2.1.lt))⟩); clear h5 h6)
    | fail)
  rw [HFB.out]
  clear HRG HFB
  obtain ⟨sn, HSN⟩ : ∃ z, Hid (setN (R 0) = z) := ⟨_, rfl⟩
  obtain ⟨nd, HND⟩ : ∃ z, Hid (((R 0).getD 2 0).1 = z) := ⟨_, rfl⟩
  obtain ⟨s, HSZ⟩ : ∃ z, Hid (((R 0).getD 4 0).1 = z) := ⟨_, rfl⟩
  have HFC : Hid (∀ u, Bx u FB 72 L0 → u.cell? ⟨FB, 0, none⟩ = some (.int .u16 (sn : Nat)) ∧ u.cell? ⟨FB, 1, none⟩ = some (.int .i64 (nd : Nat)) ∧ u.cell? ⟨FB, 3, none⟩ = some (.int .i64 (s : Nat))) := fun u hu => by
    refine ⟨hu.cell 0 _ ?_, hu.cell 1 _ ?_, hu.cell 3 _ ?_⟩
    · rw [← HL0.out, ← HSN.out]; rfl
    · rw [← HL0.out, ← HND.out]; rfl
    · rw [← HL0.out, ← HSZ.out]; rfl
  try simp only [Act.put]
  go_upto_region 8 with fail
  go_loopw [30] (fun vi wr => ∃ i : Nat, i ≤ n ∧ vi = .int .i64 (i : Nat) ∧ Hid (AlkP R i ∧ Below w3.heap.size w3 wr)) (fun vi _ => n - (intOf vi).toNat)
  case atStart => exact ⟨0, by omega, rfl, fun i hi => absurd hi (Nat.not_lt_zero i), Below.refl _ _⟩
  case round =>
    obtain ⟨i, hi, rfl, HI⟩ := hrel
    rename World => wo
    by_cases hlt : i < n
    · have HLT : Hid (i < n) := hlt
      have g3 : (0 : Int) ≤ (i : Int) := by omega
      have g4 : (i : Int) < (n : Int) := by omega
      have gi : IntKind.i64.wrap ((i : Int) + 1) = ((i + 1 : Nat) : Int) := by rw [IntKind.wrap_i64]; have := hn.out; omega
      obtain ⟨LL, HLL⟩ : ∃ z : List Value, Hid (shV (R i) (q i) (c i) = z) := ⟨_, rfl⟩
      have HLL5 : Hid (LL.length = 5 ∧ ∀ v ∈ LL, v.oneCell' = true) := by rw [← HLL.out]; exact ⟨shV_len _ _ _, shV_one _ _ _⟩
      have hiLL : (Tryd.prog.info? 72).map (·.size) = some LL.length := by rw [HLL5.out.1]; exact hi78
      have HRI : Hid (wo.rangeAt g (i * 5) LL) := by
        rw [← HLL.out, Nat.mul_comm i 5]
        have z := (H3.out.2.2.1.below HI.out.2).cells i hlt
        rwa [Nat.zero_add] at z
      obtain ⟨P, HP⟩ : ∃ z, Hid (wo.heap.size = z) := ⟨_, rfl⟩
      clear hlt hi
      go_upto_region 10 with (first
        | (refine wpList_load_mid (by rfl) 72 (.tmp 32) (by rfl) g (i * 5) (by rfl) LL _ HRI.out Tryd.underlying72 rfl hiLL ?_)
        | (refine wpList_store_bx (by rfl) 72 (.tmp 8) (.tmp 33) (by rfl) Zsh LL wo.heap.size (by rfl) (by rfl) (Bx.new wo 72 Zsh) (by rw [HLL5.out.1]; rfl) hiLL HLL5.out.2 ?_; intro w5 h5 h6; have H5 : Hid (Bx w5 P 72 LL ∧ Bx w5 FB 72 L0 ∧ Bx w5 M 50 Z52 ∧ Below w3.heap.size w3 w5) := (by
            have hb : Below wo.heap.size wo w5 := ((Below.refl _ _).alloc (Nat.le_refl _) _).trans (below_gb h6 (by simp) (Nat.le_refl _))
            have hbz : Below w3.heap.size w3 w5 := HI.out.2.trans (hb.mono HI.out.2.size)
            exact ⟨by rw [← HP.out]; exact h5, H3.out.1.below hbz, H3.out.2.1.below hbz, hbz⟩); clear h5 h6)
        | fail)
      rw [HP.out]
      clear HRI
      obtain ⟨x0, HX0⟩ : ∃ z, Hid (setN (R i) = z) := ⟨_, rfl⟩
      obtain ⟨x1, HX1⟩ : ∃ z, Hid (((R i).getD 2 0).1 = z) := ⟨_, rfl⟩
      obtain ⟨x3, HX3⟩ : ∃ z, Hid (((R i).getD 4 0).1 = z) := ⟨_, rfl⟩
      obtain ⟨k0, k1, k3⟩ := HFC.out w5 H5.out.2.1
      have m0 : w5.cell? ⟨P, 0, none⟩ = some (.int .u16 (x0 : Nat)) := H5.out.1.cell 0 _ (by rw [← HLL.out, ← HX0.out]; rfl)
      have m1 : w5.cell? ⟨P, 1, none⟩ = some (.int .i64 (x1 : Nat)) := H5.out.1.cell 1 _ (by rw [← HLL.out, ← HX1.out]; rfl)
      have m3 : w5.cell? ⟨P, 3, none⟩ = some (.int .i64 (x3 : Nat)) := H5.out.1.cell 3 _ (by rw [← HLL.out, ← HX3.out]; rfl)
      try simp only [Act.put]
      by_cases e0 : x0 = sn ∧ x1 = nd ∧ x3 = s
      · obtain ⟨rfl, rfl, rfl⟩ := e0
        have HN : Hid (AlkP R (i + 1)) := fun k hk => by
          by_cases hki : k = i
          · subst hki; exact ⟨HX0.out.trans HSN.out.symm, HX1.out.trans HND.out.symm, HX3.out.trans HSZ.out.symm⟩
          · exact HI.out.1 k (by omega)
        go_wp2
        go_roundw
        case rel => exact ⟨i + 1, by have := HLT.out; omega, by go_num, HN.out, H5.out.2.2.2⟩
        case measure => simp [intOf]; have := HLT.out; omega
      · have HF : Hid (JrP T n 115) := by
          refine .inr ⟨H2.out.1, ?_⟩
          rw [HR.out]
          refine .inr (.inl ⟨fun h => e0 ?_, rfl⟩)
          have z := h i HLT.out
          rw [HX0.out, HX1.out, HX3.out, HSN.out, HND.out, HSZ.out] at z
          exact z
        have HBM : Hid (Below M w w5) := H3.out.2.2.2.trans (H5.out.2.2.2.mono (Nat.le_of_lt H3.out.2.1.lt))
        by_cases e1 : x0 = sn
        · subst e1
          by_cases e2 : x1 = nd
          · subst e2
            have e3 : ¬ ((x3 : Nat) : Int) = ((s : Nat) : Int) := by
              intro e; exact e0 ⟨rfl, rfl, by omega⟩
            clear e0
            go_wp2_with (first
              | (refine wpList_store_bx (by rfl) 50 (.tmp 2) (.tmp 59) (by rfl) Z52 Z52 M (by rfl) (by rfl) H5.out.2.2.1 (by rfl) hi63 HZ1.out ?_; intro w9 h9 h10)
              | fail)
            refine ret_agg_tmp (b := M) Z52 _ rfl rfl rfl h9.range Tryd.underlying50 rfl hi63 ?_
            exact ⟨.inl ⟨115, HF.out, rfl⟩, HBM.out.trans (below_gb h10 (Nat.le_of_lt H5.out.2.2.1.lt) (Nat.le_refl _))⟩
          · have e3 : ¬ ((x1 : Nat) : Int) = ((nd : Nat) : Int) := by omega
            clear e0 e2
            go_wp2_with (first
              | (refine wpList_store_bx (by rfl) 50 (.tmp 2) (.tmp 59) (by rfl) Z52 Z52 M (by rfl) (by rfl) H5.out.2.2.1 (by rfl) hi63 HZ1.out ?_; intro w9 h9 h10)
              | fail)
            refine ret_agg_tmp (b := M) Z52 _ rfl rfl rfl h9.range Tryd.underlying50 rfl hi63 ?_
            exact ⟨.inl ⟨115, HF.out, rfl⟩, HBM.out.trans (below_gb h10 (Nat.le_of_lt H5.out.2.2.1.lt) (Nat.le_refl _))⟩
        · have e3 : ¬ ((x0 : Nat) : Int) = ((sn : Nat) : Int) := by omega
          clear e0 e1
          go_wp2_with (first
            | (refine wpList_store_bx (by rfl) 50 (.tmp 2) (.tmp 59) (by rfl) Z52 Z52 M (by rfl) (by rfl) H5.out.2.2.1 (by rfl) hi63 HZ1.out ?_; intro w9 h9 h10)
            | fail)
          refine ret_agg_tmp (b := M) Z52 _ rfl rfl rfl h9.range Tryd.underlying50 rfl hi63 ?_
          exact ⟨.inl ⟨115, HF.out, rfl⟩, HBM.out.trans (below_gb h10 (Nat.le_of_lt H5.out.2.2.1.lt) (Nat.le_refl _))⟩
    · have hin : i = n := by omega
      subst hin
      have g3 : ¬ (i : Int) < (i : Int) := by omega
      have HWO : Hid (AlkP R i ∧ Below M w wo ∧ Bx wo FB 72 L0 ∧ Bx wo M 50 Z52 ∧ ShI wo g 0 i R q c) := ⟨HI.out.1, H3.out.2.2.2.trans (HI.out.2.mono (Nat.le_of_lt H3.out.2.1.lt)), H3.out.1.below HI.out.2, H3.out.2.1.below HI.out.2, H3.out.2.2.1.below HI.out.2⟩
      clear HI hi hlt H3
      go_upto_region 14 with (first
        | (go_at_call 35; refine (byIndex_ok g 0 i cp2 R q c wo hn HWO.out.2.2.2.2).mono ?_; intro e5 w5 h5; obtain ⟨⟨htw, rfl⟩ | ⟨htw, v, rfl, hv⟩, hbl⟩ := h5)
        | fail)
      · have HF : Hid (JrP T i 116) := by
          refine .inr ⟨H2.out.1, ?_⟩
          rw [HR.out]
          exact .inr (.inr (.inl ⟨HWO.out.1, htw, rfl⟩))
        have H5 : Hid (Bx w5 M 50 Z52 ∧ Below M w w5) := ⟨HWO.out.2.2.2.1.below hbl, HWO.out.2.1.trans (hbl.mono (Nat.le_of_lt HWO.out.2.2.2.1.lt))⟩
        clear htw hbl
        go_wp2_with (first
          | (refine wpList_store_bx (by rfl) 50 (.tmp 2) (.tmp 68) (by rfl) Z52 Z52 M (by rfl) (by rfl) H5.out.1 (by rfl) hi63 HZ1.out ?_; intro w9 h9 h10)
          | fail)
        refine ret_agg_tmp (b := M) Z52 _ rfl rfl rfl h9.range Tryd.underlying50 rfl hi63 ?_
        exact ⟨.inl ⟨116, HF.out, rfl⟩, H5.out.2.trans (below_gb h10 (Nat.le_of_lt H5.out.1.lt) (Nat.le_refl _))⟩
      obtain ⟨m, HM⟩ : ∃ z, Hid (onN R i = z) := ⟨_, rfl⟩
      have HM2 : Hid (m ≤ 255) := by show _ ≤ _; rw [← HM.out]; exact ordL_few R i 255
      have H5 : Hid (¬ TwiceP R i ∧ Bx w5 FB 72 L0 ∧ Bx w5 M 50 Z52 ∧ Below M w w5) := ⟨htw, HWO.out.2.2.1.below hbl, HWO.out.2.2.2.1.below hbl, HWO.out.2.1.trans (hbl.mono (Nat.le_of_lt HWO.out.2.2.2.1.lt))⟩
      have HOK : Hid (okF (R 0)) := (HWO.out.2.2.2.2.row 0 HN0.out).2.1
      have HBO : Hid (1 ≤ nd ∧ nd ≤ 16 ∧ 1 ≤ s ∧ s ≤ 64) := by
        obtain ⟨⟨a1, a2⟩, _, ⟨a3, a4⟩, _⟩ := HOK.out
        rw [HND.out] at a1 a2
        rw [HSZ.out] at a3 a4
        exact ⟨a1, a2, a3, a4⟩
      obtain ⟨A, L, cc, rfl, HVV⟩ : ∃ A L cc, v = .slice A L cc ∧ Hid (L = m ∧ (0 < m → ∃ g2, A = some ⟨g2, 0, none⟩ ∧ m ≤ cc ∧ cc ≤ maxLen ∧ ShI w5 g2 0 m (onR R i) (fun k => q ((ordL R i 255).getD k 0)) (fun k => c ((ordL R i 255).getD k 0)))) := by
        rw [← HM.out]
        rcases hv with ⟨h0, a3, c3, rfl⟩ | ⟨g2, cp3, rfl, z1, z2, z3⟩
        · exact ⟨a3, 0, c3, rfl, h0.symm, fun hp => absurd hp (by unfold onN; omega)⟩
        · exact ⟨_, _, _, rfl, rfl, fun _ => ⟨g2, rfl, z1, z2, z3⟩⟩
      have hLm : L = m := HVV.out.1
      subst hLm
      clear htw hv hbl
      obtain ⟨k0, k1, k3⟩ := HFC.out w5 H5.out.2.1
      by_cases hfew : L < nd
      · have e3 : (L : Int) < (nd : Int) := by omega
        have HF : Hid (JrP T i 114) := by
          refine .inr ⟨H2.out.1, ?_⟩
          rw [HR.out]
          exact .inr (.inr (.inr (.inl ⟨HN0.out, HWO.out.1, H5.out.1, by rw [HND.out, HM.out]; exact hfew, rfl⟩)))
        clear hfew
        go_wp2_with (first
          | (refine wpList_store_bx (by rfl) 50 (.tmp 2) (.tmp 76) (by rfl) Z52 Z52 M (by rfl) (by rfl) H5.out.2.2.1 (by rfl) hi63 HZ1.out ?_; intro w9 h9 h10)
          | fail)
        refine ret_agg_tmp (b := M) Z52 _ rfl rfl rfl h9.range Tryd.underlying50 rfl hi63 ?_
        exact ⟨.inl ⟨114, HF.out, rfl⟩, H5.out.2.2.2.trans (below_gb h10 (Nat.le_of_lt H5.out.2.2.1.lt) (Nat.le_refl _))⟩
      obtain ⟨g2, rfl, HG⟩ : ∃ g2, A = some ⟨g2, 0, none⟩ ∧ Hid (L ≤ cc ∧ cc ≤ maxLen ∧ ShI w5 g2 0 L (onR R i) (fun k => q ((ordL R i 255).getD k 0)) (fun k => c ((ordL R i 255).getD k 0))) := by
        obtain ⟨g2, e, z⟩ := HVV.out.2 (by have := HBO.out; omega)
        exact ⟨g2, e, z⟩
      have e3 : ¬ (L : Int) < (nd : Int) := by omega
      have HGE : Hid (nd ≤ L) := by show _ ≤ _; omega
      clear hfew HVV
      obtain ⟨R2, HR2⟩ : ∃ z : Nat → List F, Hid (onR R i = z) := ⟨_, rfl⟩
      have HLET : Hid (∀ k, k < L → setN (R2 k) = sn ∧ ((R2 k).getD 2 0).1 = nd ∧ ((R2 k).getD 4 0).1 = s) := fun k hk => by
        have hlt := on_lt (R := R) (n := i) (i := k) (by rw [HM.out]; exact hk)
        have z := HWO.out.1 _ hlt
        rw [← HR2.out, ← HSN.out, ← HND.out, ← HSZ.out]
        exact z
      have HFT : Hid (Calls Tryd.prog 36 #[.slice (some ⟨g2, 0, none⟩) L cc] w5 fun e w' => ((¬ FitA R2 nd s L ∧ e = .returned (.tuple #[.agg Z52.toArray, .bool false])) ∨ (FitA R2 nd s L ∧ ∃ LB lc p q, e = .returned (.tuple #[.agg #[.int .u16 (sn : Nat), .int .i64 (nd : Nat), .slice (some ⟨LB, 0, none⟩) (s + 4 : Nat) lc], .bool true]) ∧ Hid (s + 4 ≤ lc ∧ PolI LB (s + 4) nd (ftC R2 nd) p q w'))) ∧ Below w5.heap.size w5 w') := by
        have z := HG.out.2.2
        rw [HR2.out] at z
        refine (fitted_ok g2 cc L sn nd s (s + 4) R2 _ _ w5 (show _ ∧ _ from ⟨HBO.out.1, HBO.out.2.1, HGE.out, HM2.out, rfl, HBO.out.2.2.2, HG.out.1, HG.out.2.1⟩) z HLET).mono ?_
        rintro e w' ⟨⟨⟨j, h1, h2, h3⟩, he⟩ | ⟨h1, LB, lc, p, q, he, h3, h4⟩, hb⟩
        · exact ⟨.inl ⟨fun hf => h3 (hf j h1 h2), he⟩, hb⟩
        · exact ⟨.inr ⟨h1, LB, lc, p, q, he, h3, h4⟩, hb⟩
      go_upto_region 18 with fail
      obtain ⟨b0, HB0⟩ : ∃ z : F, Hid ((R 0).getD 0 0 = z) := ⟨_, rfl⟩
      obtain ⟨b1, HB1⟩ : ∃ z : F, Hid ((R 0).getD 1 0 = z) := ⟨_, rfl⟩
      have HB : Hid (b0.1 * 256 + b1.1 = sn) := by show _ = _; rw [← HB0.out, ← HB1.out, ← HSN.out]; rfl
      obtain ⟨C, HC⟩ : ∃ z : Nat → List F, Hid (ftC R2 nd = z) := ⟨_, rfl⟩
      rw [HC.out] at HFT
      have HTB : Hid (∀ u, Below M w u → Tables u) := fun u hu => hTb.out.below hu (by rw [← HMM.out]; exact hTb.out.size)
      go_upto_region 19 with (first
        | (go_at_call 36; refine HFT.out.mono ?_; intro e6 w6 h6; obtain ⟨⟨hnf, rfl⟩ | ⟨hf, LB, lc, p, q2, rfl, hp⟩, hbl⟩ := h6)
        | (refine wpList_store_bx (by rfl) 50 (.tmp 10) (.tmp 80) (by rfl) Z52 Z52 w6.heap.size (by rfl) (by rfl) (Bx.new w6 50 Z52) (by rfl) hi63 HZ1.out ?_; intro w7 h7 h8; have H7 : Hid (¬ FitA R2 nd s L ∧ Bx w7 M 50 Z52 ∧ Below M w w7) := (by
            have hb : Below w6.heap.size w6 w7 := ((Below.refl _ _).alloc (Nat.le_refl _) _).trans (below_gb h8 (by simp) (Nat.le_refl _))
            have hb5 : Below w5.heap.size w5 w7 := hbl.trans (hb.mono hbl.size)
            exact ⟨hnf, H5.out.2.2.1.below hb5, H5.out.2.2.2.trans (hb5.mono (Nat.le_of_lt H5.out.2.2.1.lt))⟩); clear h7 h8 hbl hnf)
        | (refine wpList_store_bx (by rfl) 50 (.tmp 10) (.tmp 80) (by rfl) Z52 [.int .u16 (sn : Nat), .int .i64 (nd : Nat), .slice (some ⟨LB, 0, none⟩) (s + 4 : Nat) lc] w6.heap.size (by rfl) (by rfl) (Bx.new w6 50 Z52) (by rfl) hi63 (by intro v hv; simp at hv; rcases hv with rfl | rfl | rfl <;> rfl) ?_; intro w7 h7 h8; obtain ⟨SB, HSB⟩ : ∃ z, Hid (w6.heap.size = z) := ⟨_, rfl⟩; have H7 : Hid (FitA R2 nd s L ∧ Bx w7 M 50 Z52 ∧ Below M w w7 ∧ Bx w7 SB 50 [.int .u16 (sn : Nat), .int .i64 (nd : Nat), .slice (some ⟨LB, 0, none⟩) (s + 4 : Nat) lc] ∧ s + 4 ≤ lc ∧ PolI LB (s + 4) nd C p q2 w7) := (by
            have hb : Below w6.heap.size w6 w7 := ((Below.refl _ _).alloc (Nat.le_refl _) _).trans (below_gb h8 (by simp) (Nat.le_refl _))
            have hb5 : Below w5.heap.size w5 w7 := hbl.trans (hb.mono hbl.size)
            exact ⟨hf, H5.out.2.2.1.below hb5, H5.out.2.2.2.trans (hb5.mono (Nat.le_of_lt H5.out.2.2.1.lt)), by rw [← HSB.out]; exact h7, hp.out.1, hp.out.2.below (Nat.le_refl _) hb⟩); clear h7 h8 hbl hf hp)
        | fail)
      · have HF : Hid (JrP T i 117) := by
          refine .inr ⟨H2.out.1, ?_⟩
          rw [HR.out]
          refine .inr (.inr (.inr (.inr ⟨HN0.out, HWO.out.1, H5.out.1, by rw [HND.out, HM.out]; exact HGE.out, fun hz => H7.out.1 ?_, rfl⟩)))
          have z := hz.1
          rw [HND.out, HSZ.out, HM.out, HR2.out] at z
          exact z
        try simp only [Act.put]
        go_wp2_with (first
          | (refine wpList_store_bx (by rfl) 50 (.tmp 2) (.tmp 89) (by rfl) Z52 Z52 M (by rfl) (by rfl) H7.out.2.1 (by rfl) hi63 HZ1.out ?_; intro w9 h9 h10)
          | fail)
        refine ret_agg_tmp (b := M) Z52 _ rfl rfl rfl h9.range Tryd.underlying50 rfl hi63 ?_
        exact ⟨.inl ⟨117, HF.out, rfl⟩, H7.out.2.2.trans (below_gb h10 (Nat.le_of_lt H7.out.2.1.lt) (Nat.le_refl _))⟩
      · rw [HSB.out]
        obtain ⟨BB, HBB⟩ : ∃ z : Bool, Hid (decide (at0 C s 4 = ckL b0 b1 (at0 C 0 s)) = z) := ⟨_, rfl⟩
        have H34 : Hid (Calls Tryd.prog 37 #[.agg #[.int .u16 (sn : Nat), .int .i64 (nd : Nat), .slice (some ⟨LB, 0, none⟩) (s + 4 : Nat) lc]] w7 fun e w' => Hid (e = .returned (.bool BB) ∧ Below w7.heap.size w7 w')) := by
          rw [← HBB.out]
          exact isRight_ok sn nd LB (s + 4) lc s nd b0 b1 C p q2 w7 HB (show _ ∧ _ from ⟨rfl, by have := HBO.out; omega, H7.out.2.2.2.2.1, by have := HBO.out; omega⟩) H7.out.2.2.2.2.2 (HTB.out _ H7.out.2.2.1)
        have HRG9 := H7.out.2.2.2.1.range
        have HRP : Hid (BB = true ↔ RightP b0 b1 R2 nd s) := by
          show _ ↔ _
          rw [← HBB.out, decide_eq_true_eq]
          unfold RightP
          rw [HC.out]
        clear HBB
        try simp only [Act.put]
        cases BB with
        | false =>
          have HF : Hid (JrP T i 117) := by
            refine .inr ⟨H2.out.1, ?_⟩
            rw [HR.out]
            refine .inr (.inr (.inr (.inr ⟨HN0.out, HWO.out.1, H5.out.1, by rw [HND.out, HM.out]; exact HGE.out, fun hz => ?_, rfl⟩)))
            have z := hz.2
            rw [HND.out, HSZ.out, HR2.out, HB0.out, HB1.out] at z
            have z2 := HRP.out.2 z
            cases z2
          clear HRP
          go_wp2_with (first
            | (refine wpList_load_gd (by rfl) 50 (.tmp 10) (by rfl) SB 0 (by rfl) [.int .u16 (sn : Nat), .int .i64 (nd : Nat), .slice (some ⟨LB, 0, none⟩) (s + 4 : Nat) lc] _ HRG9 Tryd.underlying50 rfl hi63 ?_)
            | (go_at_call 37; refine H34.out.mono ?_; intro e8 w8 hx; obtain ⟨rfl, hy⟩ := hx.out; have H8 : Hid (Bx w8 M 50 Z52 ∧ Below M w w8) := ⟨H7.out.2.1.below hy, H7.out.2.2.1.trans (hy.mono (Nat.le_of_lt H7.out.2.1.lt))⟩; clear hx hy)
            | (refine wpList_store_bx (by rfl) 50 (.tmp 2) (.tmp 89) (by rfl) Z52 Z52 M (by rfl) (by rfl) H8.out.1 (by rfl) hi63 HZ1.out ?_; intro w9 h9 h10)
            | fail)
          refine ret_agg_tmp (b := M) Z52 _ rfl rfl rfl h9.range Tryd.underlying50 rfl hi63 ?_
          exact ⟨.inl ⟨117, HF.out, rfl⟩, H8.out.2.trans (below_gb h10 (Nat.le_of_lt H8.out.1.lt) (Nat.le_refl _))⟩
        | true =>
          have HF : Hid (∀ w9, Below M w w9 → PolI LB (s + 4) nd C p q2 w9 → JnQ T i M (.returned (.tuple #[.agg #[.int .u16 (sn : Nat), .int .i64 (nd : Nat), .slice (some ⟨LB, 0, none⟩) (s + 4 : Nat) lc], .int .i64 0])) w w9) := fun w9 hb9 hp9 => by
            refine ⟨.inr ⟨H2.out.1, ?_, LB, lc, p, q2, ?_, ?_, ?_⟩, hb9⟩
            · rw [HR.out]
              refine ⟨HN0.out, HWO.out.1, H5.out.1, by rw [HND.out, HM.out]; exact HGE.out, ?_, ?_⟩
              · rw [HND.out, HSZ.out, HM.out, HR2.out]; exact H7.out.1
              · rw [HND.out, HSZ.out, HR2.out, HB0.out, HB1.out]; exact HRP.out.1 rfl
            · rw [HR0.out 0, HSN.out, HND.out, HSZ.out]
            · rw [HR0.out 0, HSZ.out]; exact H7.out.2.2.2.2.1
            · rw [HR.out, HR0.out 0, HSZ.out, HND.out, HR2.out, HC.out]; exact hp9
          clear HRP
          go_wp2_with (first
            | (refine wpList_load_gd (by rfl) 50 (.tmp 10) (by rfl) SB 0 (by rfl) [.int .u16 (sn : Nat), .int .i64 (nd : Nat), .slice (some ⟨LB, 0, none⟩) (s + 4 : Nat) lc] _ HRG9 Tryd.underlying50 rfl hi63 ?_)
            | (go_at_call 37; refine H34.out.mono ?_; intro e8 w8 hx; obtain ⟨rfl, hy⟩ := hx.out; have H8 : Hid (Bx w8 M 50 Z52 ∧ Below M w w8 ∧ PolI LB (s + 4) nd C p q2 w8) := ⟨H7.out.2.1.below hy, H7.out.2.2.1.trans (hy.mono (Nat.le_of_lt H7.out.2.1.lt)), H7.out.2.2.2.2.2.below (Nat.le_refl _) hy⟩; have HRG8 := (H7.out.2.2.2.1.below hy).range; clear hx hy HRG9)
            | (refine wpList_load_mid (by rfl) 50 (.tmp 10) (by rfl) SB 0 (by rfl) [.int .u16 (sn : Nat), .int .i64 (nd : Nat), .slice (some ⟨LB, 0, none⟩) (s + 4 : Nat) lc] _ HRG8 Tryd.underlying50 rfl hi63 ?_)
            | (refine wpList_store_bx (by rfl) 50 (.tmp 2) (.tmp 90) (by rfl) Z52 [.int .u16 (sn : Nat), .int .i64 (nd : Nat), .slice (some ⟨LB, 0, none⟩) (s + 4 : Nat) lc] M (by rfl) (by rfl) H8.out.1 (by rfl) hi63 (by intro v hv; simp at hv; rcases hv with rfl | rfl | rfl <;> rfl) ?_; intro w9 h9 h10)
            | fail)
          refine ret_agg_tmp (b := M) [.int .u16 (sn : Nat), .int .i64 (nd : Nat), .slice (some ⟨LB, 0, none⟩) (s + 4 : Nat) lc] _ rfl rfl rfl h9.range Tryd.underlying50 rfl hi63 ?_
          exact HF.out w9 (H8.out.2.1.trans (below_gb h10 (Nat.le_of_lt H8.out.1.lt) (Nat.le_refl _))) (H8.out.2.2.other h10 H8.out.1)
end Go.Proofs.YtinmhgackihakaaDoor
namespace Go.Proofs.YtinmhgackihakaaDoor
open Go.RowKit
set_option linter.unusedVariables false
set_option linter.unusedSimpArgs false
set_option maxRecDepth 100000
theorem jr_code {T : Nat → ByteArray} {n k : Nat} (h : JrP T n k) : k ≠ 0 := by
  rcases h with ⟨b, _, _, h⟩ | ⟨_, h | h | h | h | h⟩
  · have := mbad_code h; omega
  · have := h.2; omega
  · have := h.2; omega
  · have := h.2.2; omega
  · have := h.2.2.2.2; omega
  · have := h.2.2.2.2.2; omega
/-- What Join gives. -/
def JoQ (T : Nat → ByteArray) (n M : Nat) (e : Ending) (w w' : World) : Prop :=
  ((∃ k : Nat, JrP T n k ∧ e = .returned (.tuple #[.slice none 0 0, .int .i64 (k : Nat)])) ∨ ((∀ i, i < n → ∃ d, MGood (T i) (gR (T i)) d) ∧ JgP (fun i => gR (T i)) n ∧ ∃ g, e = .returned (.tuple #[.slice (some ⟨g, 0, none⟩) ((gR (T 0)).getD 4 0).1 ((gR (T 0)).getD 4 0).1, .int .i64 0]) ∧ M ≤ g ∧ Bx w' g 5 (fc (at0 (ftC (onR (fun i => gR (T i)) n) ((gR (T 0)).getD 2 0).1) 0 ((gR (T 0)).getD 4 0).1)))) ∧ Below M w w'
set_option maxHeartbeats 1600000 in
/-- Join. -/
theorem Join_ok (a : Option Addr) (n cp : Nat) (T : Nat → ByteArray) (w : World) (hn : Hid (n ≤ 100000)) (hT : Hid (∀ i, i < n → ∃ b off, a = some ⟨b, off, none⟩ ∧ w.cell? ⟨b, off + i, none⟩ = some (.string (T i)))) (hTb : Hid (Tables w)) :
    Calls Tryd.prog 13 #[.slice a n cp] w fun e w' => JoQ T n w.heap.size e w w' := by
  obtain ⟨M, HMM⟩ : ∃ M, Hid (w.heap.size = M) := ⟨_, rfl⟩
  have hi63 : (Tryd.prog.info? 50).map (·.size) = some 3 := by kernel_rfl
  have HZ1 : Hid (∀ v ∈ Z52, v.oneCell' = true) := by intro v hv; simp [Z52] at hv; rcases hv with rfl | rfl | rfl <;> rfl
  have H21 : Hid (Calls Tryd.prog 22 #[.slice a n cp] w fun e w' => JnQ T n w.heap.size e w w') := joined_ok a n cp T w hn hT hTb
  rw [HMM.out] at H21 ⊢
  go_enter Tryd.func13, Tryd.ntmps13
  go_upto_region 1 with fail
  go_upto_region 2 with (first
    | (go_at_call 22; refine H21.out.mono ?_; intro e2 w2 h2; obtain ⟨⟨k, hk, rfl⟩ | ⟨hg, hj, LB, lc, p, q, rfl, hlc, hp⟩, hbl⟩ := h2)
    | (refine wpList_store_bx (by rfl) 50 (.tmp 4) (.tmp 9) (by rfl) Z52 Z52 w2.heap.size (by rfl) (by rfl) (Bx.new w2 50 Z52) (by rfl) hi63 HZ1.out ?_; intro w3 h7 h8; have H3 : Hid (Below M w w3 ∧ k ≠ 0 ∧ JrP T n k) := (by
        have hb : Below w2.heap.size w2 w3 := ((Below.refl _ _).alloc (Nat.le_refl _) _).trans (below_gb h8 (by simp) (Nat.le_refl _))
        exact ⟨hbl.trans (hb.mono (by rw [← HMM.out]; exact hbl.size)), jr_code hk, hk⟩); clear h7 h8 hbl hk)
    | (refine wpList_store_bx (by rfl) 50 (.tmp 4) (.tmp 9) (by rfl) Z52 [.int .u16 (setN (gR (T 0)) : Nat), .int .i64 (((gR (T 0)).getD 2 0).1 : Nat), .slice (some ⟨LB, 0, none⟩) (((gR (T 0)).getD 4 0).1 + 4) lc] w2.heap.size (by rfl) (by rfl) (Bx.new w2 50 Z52) (by rfl) hi63 (by intro v hv; simp at hv; rcases hv with rfl | rfl | rfl <;> rfl) ?_; intro w3 h7 h8; have H3 : Hid (Bx w3 w2.heap.size 50 [.int .u16 (setN (gR (T 0)) : Nat), .int .i64 (((gR (T 0)).getD 2 0).1 : Nat), .slice (some ⟨LB, 0, none⟩) (((gR (T 0)).getD 4 0).1 + 4) lc] ∧ Below M w w3 ∧ PolI LB (((gR (T 0)).getD 4 0).1 + 4) ((gR (T 0)).getD 2 0).1 (ftC (onR (fun i => gR (T i)) n) ((gR (T 0)).getD 2 0).1) p q w3 ∧ ((gR (T 0)).getD 4 0).1 + 4 ≤ lc ∧ M ≤ w3.heap.size) := (by
        have hb : Below w2.heap.size w2 w3 := ((Below.refl _ _).alloc (Nat.le_refl _) _).trans (below_gb h8 (by simp) (Nat.le_refl _))
        have h0 : M ≤ w2.heap.size := by rw [← HMM.out]; exact hbl.size
        exact ⟨h7, hbl.trans (hb.mono h0), hp.below (Nat.le_refl _) hb, hlc, Nat.le_trans h0 hb.size⟩); have HG : Hid ((∀ i, i < n → ∃ d, MGood (T i) (gR (T i)) d) ∧ JgP (fun i => gR (T i)) n) := ⟨hg, hj⟩; clear h7 h8 hbl hp hg hj hlc)
    | fail)
  · have g0 : ¬ ((k : Int) = 0) := by have := H3.out.2.1; omega
    try simp only [Act.put]
    go_wp2
    go_ret2
    exact ⟨.inl ⟨k, H3.out.2.2, rfl⟩, H3.out.1⟩
  · obtain ⟨SB, HSB⟩ : ∃ z, Hid (w2.heap.size = z) := ⟨_, rfl⟩
    rw [HSB.out] at H3 ⊢
    obtain ⟨s, HS⟩ : ∃ z, Hid (((gR (T 0)).getD 4 0).1 = z) := ⟨_, rfl⟩
    obtain ⟨nd, HND⟩ : ∃ z, Hid (((gR (T 0)).getD 2 0).1 = z) := ⟨_, rfl⟩
    have HB2 : Hid (s < 256 ∧ nd < 256) := by rw [← HS.out, ← HND.out]; exact ⟨((gR (T 0)).getD 4 0).2, ((gR (T 0)).getD 2 0).2⟩
    obtain ⟨C, HC⟩ : ∃ z : Nat → List F, Hid (ftC (onR (fun i => gR (T i)) n) nd = z) := ⟨_, rfl⟩
    have HF : Hid (∀ g w', M ≤ g → Bx w' g 5 (fc (at0 C 0 s)) → Below M w w' → JoQ T n M (.returned (.tuple #[.slice (some ⟨g, 0, none⟩) s s, .int .i64 0])) w w') := fun g w' h1 h2 h3 => by
      refine ⟨.inr ⟨HG.out.1, HG.out.2, g, ?_, h1, ?_⟩, h3⟩
      · rw [HS.out]
      · rw [HS.out, HND.out, HC.out]; exact h2
    rw [HS.out, HND.out, HC.out] at H3
    try simp only [Act.put]
    have HRG := H3.out.1.range
    have H22 : Hid (Calls Tryd.prog 23 #[.agg #[.int .u16 (setN (gR (T 0)) : Nat), .int .i64 (nd : Nat), .slice (some ⟨LB, 0, none⟩) (s + 4) lc]] w3 fun e w' => Hid (∃ g, e = .returned (.slice (some ⟨g, 0, none⟩) s s) ∧ w3.heap.size ≤ g ∧ Bx w' g 5 (fc (at0 C 0 s)) ∧ Below w3.heap.size w3 w')) := secret_ok (setN (gR (T 0))) nd LB (s + 4) lc s nd C p q w3 (show _ ∧ _ from ⟨rfl, by have := HB2.out; omega, H3.out.2.2.2.1, by have := HB2.out; omega⟩) H3.out.2.2.1
    go_wp2_with (first
      | (refine wpList_load_mid (by rfl) 50 (.tmp 4) (by rfl) SB 0 (by rfl) [.int .u16 (setN (gR (T 0)) : Nat), .int .i64 (nd : Nat), .slice (some ⟨LB, 0, none⟩) (s + 4) lc] _ HRG Tryd.underlying50 rfl hi63 ?_)
      | (go_at_call 23; refine H22.out.mono ?_; intro e8 w8 hx; obtain ⟨g, rfl, h1, h2, h3⟩ := hx.out; have HZ := HF.out g w8 (Nat.le_trans H3.out.2.2.2.2 h1) h2 (H3.out.2.1.trans (h3.mono H3.out.2.2.2.2)); have HZ2 : Hid (JoQ T n M (.returned (.tuple #[.slice (some ⟨g, 0, none⟩) s s, .int .i64 0])) w w8) := HZ; clear hx h1 h2 h3 HZ)
      | fail)
    go_ret2
    exact HZ2.out
end Go.Proofs.YtinmhgackihakaaDoor
namespace Go.Proofs.YtinmhgackihakaaDoor
open Go.RowKit
set_option linter.unusedVariables false
set_option linter.unusedSimpArgs false
set_option maxRecDepth 100000
/-- The line of index x of what the shares lie on. -/
def exL (R : Nat → List F) (n : Nat) (x : F) : List F :=
  fullL ((R 0).getD 0 0) ((R 0).getD 1 0) ((R 0).getD 2 0) x ((R 0).getD 4 0) ((R 0).getD 4 0).1 ((List.range (((R 0).getD 4 0).1 + 4)).map fun i => pv x (ftC (onR R n) ((R 0).getD 2 0).1 i))
/-- What Extend gives. -/
def ExQ (x : Int) (T : Nat → ByteArray) (n M : Nat) (e : Ending) (w w' : World) : Prop :=
  (((x < 1 ∨ 255 < x) ∧ e = .returned (.tuple #[.string ⟨#[]⟩, .int .i64 110])) ∨ (1 ≤ x ∧ x ≤ 255 ∧ ∃ k : Nat, JrP T n k ∧ e = .returned (.tuple #[.string ⟨#[]⟩, .int .i64 (k : Nat)])) ∨ ((∀ i, i < n → ∃ d, MGood (T i) (gR (T i)) d) ∧ JgP (fun i => gR (T i)) n ∧ ∃ X : F, (X.1 : Int) = x ∧ e = .returned (.tuple #[.string (WLs (exL (fun i => gR (T i)) n X)), .int .i64 0]))) ∧ Below M w w'
end Go.Proofs.YtinmhgackihakaaDoor
namespace Go.Proofs.YtinmhgackihakaaDoor
open Go.RowKit
set_option linter.unusedVariables false
set_option linter.unusedSimpArgs false
set_option maxRecDepth 100000
theorem full_eq (b0 b1 bn bi bs : F) (s : Nat) (vs : List F) : fullL b0 b1 bn bi bs s vs = b0 :: b1 :: bn :: bi :: bs :: (vs ++ (List.replicate ((9 + s) % 2) 0 ++ codeL (headL b0 b1 bn bi bs s vs))) := by simp [fullL, headL]
theorem full_len (b0 b1 bn bi bs : F) (s : Nat) (vs : List F) (hv : vs.length = s + 4) : (fullL b0 b1 bn bi bs s vs).length = unc s + 4 := by
  rw [full_eq]
  simp [codeL_len, hv, unc]
  omega
theorem full_mid (b0 b1 bn bi bs : F) (s : Nat) (vs : List F) (hv : vs.length = s + 4) : ((fullL b0 b1 bn bi bs s vs).drop 5).take (s + 4) = vs := by
  rw [full_eq]
  show (vs ++ _).take (s + 4) = vs
  rw [← hv, List.take_left']
  rfl
theorem full_okF (b0 b1 bn bi bs : F) (s : Nat) (vs : List F) (hv : vs.length = s + 4) (hs : bs.1 = s) (h1 : 1 ≤ s ∧ s ≤ 64) (h2 : 1 ≤ bn.1 ∧ bn.1 ≤ 16) (h3 : 1 ≤ bi.1) : okF (fullL b0 b1 bn bi bs s vs) := by
  have e2 : (fullL b0 b1 bn bi bs s vs).getD 2 0 = bn := by rw [full_eq]; rfl
  have e3 : (fullL b0 b1 bn bi bs s vs).getD 3 0 = bi := by rw [full_eq]; rfl
  have e4 : (fullL b0 b1 bn bi bs s vs).getD 4 0 = bs := by rw [full_eq]; rfl
  unfold okF
  rw [e2, e3, e4, hs]
  refine ⟨h2, h3, h1, full_len _ _ _ _ _ _ _ hv, fun j hj => ?_⟩
  rw [full_eq, show 9 + s + j = (s + 4 + j) + 5 by omega]
  simp only [List.getD_cons_succ]
  rw [List.getD_eq_getElem?_getD, List.getElem?_append_right (by omega), List.getElem?_append_left (by simp; omega), List.getElem?_replicate, if_pos (by omega)]
  rfl
theorem full_zero (b0 b1 bn bi bs : F) (s : Nat) (vs : List F) : sumL (fullL b0 b1 bn bi bs s vs) = [0, 0, 0, 0] := code_zero _
theorem full_tds (b0 b1 bn bi bs : F) (s : Nat) (vs : List F) : tds (fullL b0 b1 bn bi bs s vs) = [.int .u16 ((b0.1 * 256 + b1.1 : Nat) : Int), .int .i64 (bn.1 : Nat), .int .i64 (bi.1 : Nat), .int .i64 (bs.1 : Nat)] := by
  have e0 : (fullL b0 b1 bn bi bs s vs).getD 0 0 = b0 := by rw [full_eq]; rfl
  have e1 : (fullL b0 b1 bn bi bs s vs).getD 1 0 = b1 := by rw [full_eq]; rfl
  have e2 : (fullL b0 b1 bn bi bs s vs).getD 2 0 = bn := by rw [full_eq]; rfl
  have e3 : (fullL b0 b1 bn bi bs s vs).getD 3 0 = bi := by rw [full_eq]; rfl
  have e4 : (fullL b0 b1 bn bi bs s vs).getD 4 0 = bs := by rw [full_eq]; rfl
  unfold tds setN
  rw [e0, e1, e2, e3, e4]
theorem rx_len {w : World} {g : Nat} {l : List F} (h : Rx w g l) : ∃ sp, Bx w g 5 (fc l ++ sp) := h
/-- The values as far as number i. -/
def vals (R row : List F) (n nd : Nat) (x : F) (i : Nat) : List F := (List.range i).map fun q => pv x (cfL R row n nd q)
theorem vals_succ (R row : List F) (n nd : Nat) (x : F) (i : Nat) : vals R row n nd x (i + 1) = vals R row n nd x i ++ [pv x (cfL R row n nd i)] := by simp [vals, List.range_succ]
theorem vals_len (R row : List F) (n nd : Nat) (x : F) (i : Nat) : (vals R row n nd x i).length = i := by simp [vals]
theorem vals_all (R row : List F) (n nd : Nat) (x : F) : vals R row n nd x n = valsL R row n nd x := rfl
theorem rx_apart {u v : World} {rv : Value} {M t2 n : Nat} {xs : List Value} {b : Nat} {l : List F} (ho : u.ownsRow M t2 1 rv n xs) (hg : u.grownBy v rv.ownBlock) (ht : 5 ≠ t2) (hb : Rx u b l) : Rx v b l := by
  obtain ⟨sp, h⟩ := hb
  exact ⟨sp, bx_apart ho hg ht h⟩
end Go.Proofs.YtinmhgackihakaaDoor
namespace Go.Proofs.YtinmhgackihakaaDoor
open Go.RowKit
set_option linter.unusedVariables false
set_option linter.unusedSimpArgs false
set_option maxRecDepth 100000
theorem gap_con (n : Nat) : gapU (conU n) = false := by
  by_cases h : n < 16
  · exact (show ∀ i : Fin 16, gapU (conU i.1) = false by decide +kernel) ⟨n, h⟩
  · unfold conU; rw [List.getD_eq_getElem?_getD, List.getElem?_eq_none (by simp; omega)]; rfl
theorem gap_vow (n : Nat) : gapU (vowU n) = false := by
  by_cases h : n < 4
  · exact (show ∀ i : Fin 4, gapU (vowU i.1) = false by decide +kernel) ⟨n, h⟩
  · unfold vowU; rw [List.getD_eq_getElem?_getD, List.getElem?_eq_none (by simp; omega)]; rfl
theorem word_nogap (v : Int) : ∀ c ∈ word v, gapU c = false := by
  intro c hc
  simp only [word, List.mem_cons, List.not_mem_nil, or_false] at hc
  rcases hc with rfl | rfl | rfl | rfl | rfl
  · exact gap_con _
  · exact gap_vow _
  · exact gap_con _
  · exact gap_vow _
  · exact gap_con _
theorem wordsL_nil (cur : List UInt8) : wordsL cur [] = if cur = [] then [] else [cur] := by unfold wordsL; rfl
theorem wordsL_cons (cur : List UInt8) (c : UInt8) (t : List UInt8) : wordsL cur (c :: t) = if gapU c then (if cur = [] then wordsL [] t else cur :: wordsL [] t) else wordsL (cur ++ [c]) t := by rw [wordsL]
theorem wordsL_gap : ∀ (a cur b : List UInt8), wordsL cur (a ++ 32 :: b) = wordsL cur a ++ wordsL [] b
  | [], cur, b => by
    rw [List.nil_append, wordsL_cons, wordsL_nil, show gapU 32 = true by decide +kernel, if_pos rfl]
    by_cases h : cur = []
    · rw [if_pos h, if_pos h]; rfl
    · rw [if_neg h, if_neg h]; rfl
  | c :: a, cur, b => by
    rw [List.cons_append, wordsL_cons, wordsL_cons]
    by_cases h : gapU c = true
    · rw [if_pos h, if_pos h]
      by_cases h2 : cur = []
      · rw [if_pos h2, if_pos h2, wordsL_gap a [] b]
      · rw [if_neg h2, if_neg h2, wordsL_gap a [] b]; rfl
    · rw [if_neg h, if_neg h, wordsL_gap a (cur ++ [c]) b]
theorem wordsL_one : ∀ (a cur : List UInt8), (∀ c ∈ a, gapU c = false) → wordsL cur a = if cur ++ a = [] then [] else [cur ++ a]
  | [], cur, _ => by rw [wordsL_nil, List.append_nil]
  | c :: a, cur, h => by
    rw [wordsL_cons, h c (by simp), if_neg (by decide), wordsL_one a (cur ++ [c]) (fun d hd => h d (by simp [hd])), List.append_assoc]
    rfl
theorem wordsL_wl (xs : List Int) : ∀ k, wordsL [] (wl xs k) = (List.range k).map fun i => word (xs.getD (2 * i) 0 * 256 + xs.getD (2 * i + 1) 0)
  | 0 => by simp [wl, wordsL]
  | k + 1 => by
    have e1 : wordsL [] (word (xs.getD (2 * k) 0 * 256 + xs.getD (2 * k + 1) 0)) = [word (xs.getD (2 * k) 0 * 256 + xs.getD (2 * k + 1) 0)] := by
      rw [wordsL_one _ _ (word_nogap _), if_neg (by simp [word])]
      rfl
    rw [List.range_succ, List.map_append, List.map_cons, List.map_nil, ← wordsL_wl xs k, ← e1]
    show wordsL [] (wl xs k ++ _) = _
    by_cases hk : k = 0
    · subst hk
      simp [wl, wordsL]
    · rw [if_neg hk, List.cons_append, List.nil_append, wordsL_gap]
theorem idx_conW : ∀ i : Fin 16, ∀ k : Fin 5, k.1 % 2 = 0 → idxN (letL k.1) (smallN (conU i.1).toNat) = i.1 := by decide +kernel
theorem idx_vowW : ∀ i : Fin 4, ∀ k : Fin 5, k.1 % 2 = 1 → idxN (letL k.1) (smallN (vowU i.1).toNat) = i.1 := by decide +kernel
theorem wnum_c (w : List UInt8) (k i v : Nat) (hk : k < 5) (h2 : k % 2 = 0) (hi : i < 16) (hw : w.getD k 0 = conU i) (hv : wnum w k = some v) : wnum w (k + 1) = some (v * 16 + i) := by
  have e := idx_conW ⟨i, hi⟩ ⟨k, hk⟩ h2
  simp only at e
  unfold wnum
  rw [hv, hw]
  simp only [e, letL_len, if_neg (show ¬ k % 2 = 1 by omega), if_pos hi]
theorem wnum_v (w : List UInt8) (k i v : Nat) (hk : k < 5) (h2 : k % 2 = 1) (hi : i < 4) (hw : w.getD k 0 = vowU i) (hv : wnum w k = some v) : wnum w (k + 1) = some (v * 4 + i) := by
  have e := idx_vowW ⟨i, hi⟩ ⟨k, hk⟩ h2
  simp only at e
  unfold wnum
  rw [hv, hw]
  simp only [e, letL_len, if_pos h2, if_pos hi]
theorem wordN_word (v : Nat) (h : v < 65536) : wordN (word (v : Int)) = v := by
  unfold wordN
  have e0 : wnum (word (v : Int)) 0 = some 0 := rfl
  have e1 := wnum_c _ 0 ((v : Int) / 4096).toNat 0 (by omega) rfl (by omega) rfl e0
  have e2 := wnum_v _ 1 ((v : Int) / 1024 % 4).toNat _ (by omega) rfl (by omega) rfl e1
  have e3 := wnum_c _ 2 ((v : Int) / 64 % 16).toNat _ (by omega) rfl (by omega) rfl e2
  have e4 := wnum_v _ 3 ((v : Int) / 16 % 4).toNat _ (by omega) rfl (by omega) rfl e3
  have e5 := wnum_c _ 4 ((v : Int) % 16).toNat _ (by omega) rfl (by omega) rfl e4
  rw [e5, Option.getD_some]
  omega
/-- What the words of a row say. -/
theorem said_words (l : List F) : ∀ k, 2 * k ≤ l.length → saidW ((List.range k).map fun i => word ((l.map fun a => (a.1 : Int)).getD (2 * i) 0 * 256 + (l.map fun a => (a.1 : Int)).getD (2 * i + 1) 0)) = l.take (2 * k)
  | 0, _ => rfl
  | k + 1, h => by
    rw [List.range_succ, List.map_append, saidW_append, said_words l k (by omega), List.map_cons, List.map_nil]
    have ha := (l.getD (2 * k) 0).2
    have hb := (l.getD (2 * k + 1) 0).2
    have e1 : ((l.getD (2 * k) 0).1 : Int) * 256 + ((l.getD (2 * k + 1) 0).1 : Int) = (((l.getD (2 * k) 0).1 * 256 + (l.getD (2 * k + 1) 0).1 : Nat) : Int) := by omega
    rw [mapI_at, mapI_at, e1]
    show _ ++ (twoF (wordN _) ++ []) = _
    rw [wordN_word _ (by omega), List.append_nil]
    have e2 : twoF ((l.getD (2 * k) 0).1 * 256 + (l.getD (2 * k + 1) 0).1) = [l.getD (2 * k) 0, l.getD (2 * k + 1) 0] := by
      unfold twoF
      congr 1
      · exact Fin.ext (by show _ / 256 % 256 = _; omega)
      · congr 1
        exact Fin.ext (by show _ % 256 = _; omega)
    rw [e2, show 2 * (k + 1) = 2 * k + 1 + 1 by omega, List.getD_eq_getElem?_getD, List.getD_eq_getElem?_getD, List.getElem?_eq_getElem (show 2 * k < l.length by omega), List.getElem?_eq_getElem (show 2 * k + 1 < l.length by omega), Option.getD_some, Option.getD_some]
    rw [show [l[2 * k]'(by omega), l[2 * k + 1]'(by omega)] = [l[2 * k]'(by omega)] ++ [l[2 * k + 1]'(by omega)] from rfl, ← List.append_assoc, List.take_append_getElem, List.take_append_getElem]
theorem txL_words (l : List F) : txL (WLs l) = (List.range (l.length / 2)).map fun i => word ((l.map fun a => (a.1 : Int)).getD (2 * i) 0 * 256 + (l.map fun a => (a.1 : Int)).getD (2 * i + 1) 0) := by
  unfold txL WLs
  exact wordsL_wl _ _
theorem words_all5 (l : List F) : all5 (txL (WLs l)) := by
  rw [txL_words]
  intro w hw
  obtain ⟨i, _, rfl⟩ := List.mem_map.1 hw
  rfl
theorem words_tx (l : List F) (h : l.length % 2 = 0) : tx (WLs l) = l := by
  unfold tx
  rw [txL_words, said_words l (l.length / 2) (by omega), show 2 * (l.length / 2) = l.length by omega, List.take_length]
theorem words_size (l : List F) (h : l.length ≤ 78) : (WLs l).size ≤ 1024 := by
  have h2 : (WLs l).size ≤ 6 * (l.length / 2) := by
    have z := wl_length (l.map fun a => (a.1 : Int)) (l.length / 2)
    unfold WLs
    simpa [ByteArray.size] using z
  omega
theorem dif_same (l : List F) : ∀ n, dif l l n = 0
  | 0 => rfl
  | n + 1 => by unfold dif; rw [if_pos rfl, dif_same l n]
theorem okF_size {m : List F} (h : okF m) : 14 ≤ m.length ∧ m.length ≤ 78 ∧ m.length % 2 = 0 := by
  obtain ⟨_, _, ⟨a, b⟩, c, _⟩ := h
  rw [c]
  unfold unc
  omega
/-- A line near a row is mended to it. -/
theorem near_good (l m : List F) (hm : okF m) (h : Nr l m) : MGood (WLs l) m (dif m l l.length) := by
  have hl := h.len
  have hs := okF_size hm
  rw [hl] at hs
  have e := words_tx l hs.2.2
  refine ⟨words_size l hs.2.1, words_all5 l, ?_, ?_, ?_, hm, ?_⟩
  · rw [e]; exact hs.1
  · rw [e]; exact hs.2.1
  · rw [e]; exact h
  · rw [e]
theorem nr_self (m : List F) (h2 : 2 ≤ m.length) (hz : sumL m = [0, 0, 0, 0]) : Nr m m := ⟨hz, 0, 1, rfl, by omega, by omega, by omega, fun _ _ _ _ => rfl⟩
theorem self_good (m : List F) (hm : okF m) (hz : sumL m = [0, 0, 0, 0]) : MGood (WLs m) m 0 := by
  have z := near_good m m hm (nr_self m (by have := okF_size hm; omega) hz)
  rwa [dif_same] at z
end Go.Proofs.YtinmhgackihakaaDoor
namespace Go.Proofs.YtinmhgackihakaaDoor
open Go.RowKit
set_option linter.unusedVariables false
set_option linter.unusedSimpArgs false
set_option maxRecDepth 100000
theorem sub_len : ∀ (L K : List Nat), L.Nodup → (∀ j ∈ L, j ∈ K) → L.length ≤ K.length
  | [], K, _, _ => Nat.zero_le _
  | a :: L, K, h, hs => by
    obtain ⟨h1, h2⟩ := List.nodup_cons.1 h
    have ha := hs a (by simp)
    have z := sub_len L (K.erase a) h2 fun j hj => (List.mem_erase_of_ne (fun e => h1 (by rw [← e]; exact hj))).2 (hs j (by simp [hj]))
    rw [List.length_erase_of_mem ha] at z
    have := List.length_pos_of_mem ha
    simp only [List.length_cons]
    omega
/-- The indices of the shares that are left. -/
def ixN (R : Nat → List F) (n t : Nat) : List Nat := (ordL R n t).map fun k => ((R k).getD 3 0).1
theorem ixN_le (R : Nat → List F) (n : Nat) : ∀ t, (∀ j ∈ ixN R n t, 1 ≤ j ∧ j ≤ t) ∧ (ixN R n t).Nodup
  | 0 => by simp [ixN, ordL]
  | t + 1 => by
    obtain ⟨h1, h2⟩ := ixN_le R n t
    unfold ixN at h1 h2 ⊢
    rw [ordL_succ, List.map_append]
    cases h : lastIx R (t + 1) n with
    | none => simp only [Option.toList_none, List.map_nil, List.append_nil]; exact ⟨fun j hj => ⟨(h1 j hj).1, by have := (h1 j hj).2; omega⟩, h2⟩
    | some k =>
      have hk := (lastIx_some R (t + 1) n k h).2
      simp only [Option.toList_some, List.map_cons, List.map_nil, hk]
      refine ⟨fun j hj => ?_, ?_⟩
      · rcases List.mem_append.1 hj with hj | hj
        · exact ⟨(h1 j hj).1, by have := (h1 j hj).2; omega⟩
        · simp at hj; omega
      · rw [List.nodup_append]
        refine ⟨h2, by simp, fun a ha b hb => ?_⟩
        simp at hb
        have := (h1 a ha).2
        omega
theorem ixN_mem {R : Nat → List F} {n t j : Nat} (h : 1 ≤ j) (ht : j ≤ t) (hk : ∃ k, k < n ∧ ((R k).getD 3 0).1 = j) : j ∈ ixN R n t := by
  obtain ⟨k, hk, hj⟩ := hk
  unfold ixN ordL
  cases e : lastIx R j n with
  | none => exact absurd hj (lastIx_none R j n e k hk)
  | some q =>
    refine List.mem_map.2 ⟨q, List.mem_filterMap.2 ⟨j - 1, List.mem_range.2 (by omega), ?_⟩, (lastIx_some R j n q e).2⟩
    rw [show j - 1 + 1 = j by omega]
    exact e
theorem ixN_len (R : Nat → List F) (n t : Nat) : (ixN R n t).length = (ordL R n t).length := by simp [ixN]
/-- As many as the indices among them. -/
theorem onN_ge {R : Nat → List F} {n : Nat} (L : List Nat) (h : L.Nodup) (hL : ∀ j ∈ L, 1 ≤ j ∧ j ≤ 255 ∧ ∃ k, k < n ∧ ((R k).getD 3 0).1 = j) : L.length ≤ onN R n := by
  unfold onN
  rw [← ixN_len]
  exact sub_len _ _ h fun j hj => ixN_mem (hL j hj).1 (hL j hj).2.1 (hL j hj).2.2
theorem onN_le {R : Nat → List F} {n : Nat} (L : List Nat) (hL : ∀ k, k < n → ((R k).getD 3 0).1 ∈ L) : onN R n ≤ L.length := by
  unfold onN
  rw [← ixN_len]
  refine sub_len _ _ (ixN_le R n 255).2 fun j hj => ?_
  obtain ⟨k, hk, rfl⟩ := List.mem_map.1 hj
  exact hL k (ordL_mem hk).1
/-- No two of those that are left are of one index. -/
theorem on_apart (R : Nat → List F) (n m : Nat) (hm : m ≤ onN R n) : ApartP (ixsL (onR R n) m) := by
  intro i k hi hk h
  have hl : (ixsL (onR R n) m).length = m := by simp [ixsL]
  rw [hl] at hi hk
  have hg : ∀ q, q < m → (ixsL (onR R n) m).getD q 0 = (onR R n q).getD 3 0 := fun q hq => by
    simp [ixsL, List.getD_eq_getElem?_getD, List.getElem?_map, List.getElem?_range hq]
  rw [hg i hi, hg k hk] at h
  have hnd := (ixN_le R n 255).2
  have ho : onN R n = (ixN R n 255).length := (ixN_len R n 255).symm
  have hx : ∀ q (hq : q < m), (ixN R n 255)[q]'(by omega) = ((onR R n q).getD 3 0).1 := fun q hq => by
    have hq2 : q < (ordL R n 255).length := by have := hm; unfold onN at this; omega
    unfold onR
    simp only [ixN, List.getElem_map, List.getD_eq_getElem?_getD, List.getElem?_eq_getElem hq2, Option.getD_some]
  exact (List.getElem_inj (h₀ := by omega) (h₁ := by omega) hnd).1 (by rw [hx i hi, hx k hk, h])
/-- The row of a share of a sharing. -/
structure Shg where
  b0 : F
  b1 : F
  bn : F
  bs : F
  l : List F
  R : List F
namespace Shg
def row (z : Shg) : List F := rowS z.b0 z.b1 z.l
def cf (z : Shg) (v : Nat) : List F := cfL z.R z.row (z.l.length + 4) z.bn.1 v
def at' (z : Shg) (x : F) : List F := fullL z.b0 z.b1 z.bn x z.bs z.l.length (valsL z.R z.row (z.l.length + 4) z.bn.1 x)
structure ok (z : Shg) : Prop where
  size : z.bs.1 = z.l.length
  lo : 1 ≤ z.l.length
  hi : z.l.length ≤ 64
  need : 1 ≤ z.bn.1
  most : z.bn.1 ≤ 16
theorem at_0 (z : Shg) (x : F) : (z.at' x).getD 0 0 = z.b0 := by unfold at'; rw [full_eq]; rfl
theorem at_1 (z : Shg) (x : F) : (z.at' x).getD 1 0 = z.b1 := by unfold at'; rw [full_eq]; rfl
theorem at_2 (z : Shg) (x : F) : (z.at' x).getD 2 0 = z.bn := by unfold at'; rw [full_eq]; rfl
theorem at_3 (z : Shg) (x : F) : (z.at' x).getD 3 0 = x := by unfold at'; rw [full_eq]; rfl
theorem at_4 (z : Shg) (x : F) : (z.at' x).getD 4 0 = z.bs := by unfold at'; rw [full_eq]; rfl
theorem at_v (z : Shg) (x : F) (v : Nat) (hv : v < z.l.length + 4) : (z.at' x).getD (5 + v) 0 = pv x (z.cf v) := by
  unfold at'
  rw [full_eq, show 5 + v = v + 5 from Nat.add_comm _ _]
  show (valsL z.R z.row (z.l.length + 4) z.bn.1 x ++ _).getD v 0 = _
  rw [List.getD_eq_getElem?_getD, List.getElem?_append_left (by rw [valsL_len]; exact hv)]
  simp [valsL, List.getElem?_map, List.getElem?_range hv]
  rfl
theorem vl {z : Shg} (h : z.ok) (x : F) : vlF (z.at' x) = valsL z.R z.row (z.l.length + 4) z.bn.1 x := by
  unfold vlF
  rw [z.at_4 x, h.size]
  exact full_mid _ _ _ _ _ _ _ (valsL_len _ _ _ _ _)
theorem okR {z : Shg} (h : z.ok) (x : F) (hx : 1 ≤ x.1) : okF (z.at' x) := full_okF _ _ _ _ _ _ _ (valsL_len _ _ _ _ _) h.size ⟨h.lo, h.hi⟩ ⟨h.need, h.most⟩ hx
theorem zero (z : Shg) (x : F) : sumL (z.at' x) = [0, 0, 0, 0] := full_zero _ _ _ _ _ _ _
theorem row_len (z : Shg) : z.row.length = z.l.length + 4 := rowS_len _ _ _
theorem cf_len (z : Shg) (v : Nat) : (z.cf v).length = z.bn.1 := cfL_len _ _ _ _ _
theorem cf_0 {z : Shg} (h : z.ok) (v : Nat) : pv 0 (z.cf v) = z.row.getD v 0 := by
  obtain ⟨k, hk⟩ : ∃ k, z.bn.1 = k + 1 := ⟨z.bn.1 - 1, by have := h.need; omega⟩
  unfold cf cfL
  rw [hk, List.range_succ, List.map_append, List.map_cons, List.map_nil, pv_snoc, fm_zero, zero_fa, if_neg (by omega)]
end Shg
/-- These are shares of that sharing. -/
structure Ofs (z : Shg) (R : Nat → List F) (n : Nat) (X : Nat → F) : Prop where
  ok : z.ok
  at' : ∀ i, i < n → R i = z.at' (X i)
  lo : ∀ i, i < n → 1 ≤ (X i).1
theorem Ofs.alk {z : Shg} {R : Nat → List F} {n : Nat} {X : Nat → F} (h : Ofs z R n X) : AlkP R n := by
  intro i hi
  rw [h.at' i hi, h.at' 0 (by omega)]
  unfold setN
  rw [z.at_0, z.at_0, z.at_1, z.at_1, z.at_2, z.at_2, z.at_4, z.at_4]
  exact ⟨rfl, rfl, rfl⟩
theorem Ofs.once {z : Shg} {R : Nat → List F} {n : Nat} {X : Nat → F} (h : Ofs z R n X) : ¬ TwiceP R n := by
  rintro ⟨a, b, hab, hb, e, hne⟩
  rw [h.at' a (by omega), h.at' b hb, z.at_3, z.at_3] at e
  rw [h.at' a (by omega), h.at' b hb, e] at hne
  exact hne rfl
theorem Ofs.on {z : Shg} {R : Nat → List F} {n : Nat} {X : Nat → F} (h : Ofs z R n X) (i : Nat) (hi : i < onN R n) : onR R n i = z.at' (X ((ordL R n 255).getD i 0)) := h.at' _ (on_lt hi)
/-- The polynomials are found again. -/
theorem Ofs.ft {z : Shg} {R : Nat → List F} {n : Nat} {X : Nat → F} (h : Ofs z R n X) (hn : z.bn.1 ≤ onN R n) (v : Nat) (hv : v < z.l.length + 4) : ftC (onR R n) z.bn.1 v = z.cf v := by
  have hl : (ixsL (onR R n) z.bn.1).length = z.bn.1 := by simp [ixsL]
  have hap := on_apart R n z.bn.1 hn
  refine poly_only z.bn.1 _ _ (ixsL (onR R n) z.bn.1) (by unfold ftC; rw [thruL_len, hl]) (z.cf_len v) hl hap fun i hi => ?_
  have e := thru_at (ixsL (onR R n) z.bn.1) (colL (onR R n) z.bn.1 v) hap i (by rw [hl]; exact hi)
  rw [hl] at e
  unfold ftC
  rw [e]
  have e1 : (ixsL (onR R n) z.bn.1).getD i 0 = (onR R n i).getD 3 0 := by simp [ixsL, List.getD_eq_getElem?_getD, List.getElem?_map, List.getElem?_range hi]
  have e2 : (colL (onR R n) z.bn.1 v).getD i 0 = (onR R n i).getD (5 + v) 0 := by simp [colL, List.getD_eq_getElem?_getD, List.getElem?_map, List.getElem?_range hi]
  rw [e1, e2, h.on i (by omega), z.at_3, z.at_v _ v hv]
theorem Ofs.fit {z : Shg} {R : Nat → List F} {n : Nat} {X : Nat → F} (h : Ofs z R n X) (hn : z.bn.1 ≤ onN R n) : FitA (onR R n) z.bn.1 z.l.length (onN R n) := by
  intro i h1 h2
  unfold fitV
  rw [h.on i h2, z.at_3, Shg.vl h.ok]
  unfold valsL
  refine List.map_congr_left fun v hv => ?_
  rw [h.ft hn v (List.mem_range.1 hv)]
  rfl
theorem Ofs.at0 {z : Shg} {R : Nat → List F} {n : Nat} {X : Nat → F} (h : Ofs z R n X) (hn : z.bn.1 ≤ onN R n) (o m : Nat) (hm : o + m ≤ z.l.length + 4) : at0 (ftC (onR R n) z.bn.1) o m = (z.row.drop o).take m := by
  refine list_same ?_ fun q hq => ?_
  · rw [List.length_take, List.length_drop, z.row_len]
    unfold Go.Proofs.YtinmhgackihakaaDoor.at0
    rw [List.length_map, List.length_range]
    omega
  · have hq2 : q < m := by rw [List.length_take] at hq; omega
    unfold Go.Proofs.YtinmhgackihakaaDoor.at0
    rw [List.getD_eq_getElem?_getD, List.getElem?_map, List.getElem?_range hq2, Option.map_some, Option.getD_some, h.ft hn (o + q) (by omega), Shg.cf_0 h.ok, List.getD_eq_getElem?_getD, List.getD_eq_getElem?_getD, List.getElem?_take_of_lt hq2, List.getElem?_drop]
theorem Ofs.gives {z : Shg} {R : Nat → List F} {n : Nat} {X : Nat → F} (h : Ofs z R n X) (hn : z.bn.1 ≤ onN R n) : Go.Proofs.YtinmhgackihakaaDoor.at0 (ftC (onR R n) z.bn.1) 0 z.l.length = z.l := by
  rw [h.at0 hn 0 z.l.length (by omega)]
  unfold Shg.row rowS
  simp
theorem Ofs.right {z : Shg} {R : Nat → List F} {n : Nat} {X : Nat → F} (h : Ofs z R n X) (hn : z.bn.1 ≤ onN R n) : RightP z.b0 z.b1 (onR R n) z.bn.1 z.l.length := by
  unfold RightP
  rw [h.gives hn, h.at0 hn z.l.length 4 (by omega)]
  unfold Shg.row rowS
  rw [List.drop_left, List.take_of_length_le (Nat.le_of_eq (ck_len _ _ _))]
theorem Ofs.pos {z : Shg} {R : Nat → List F} {n : Nat} {X : Nat → F} (h : Ofs z R n X) (hn : z.bn.1 ≤ onN R n) : 0 < n := by
  have := on_lt (R := R) (n := n) (i := 0) (by have := h.ok.need; omega)
  omega
/-- They are of one sharing. -/
theorem Ofs.good {z : Shg} {R : Nat → List F} {n : Nat} {X : Nat → F} (h : Ofs z R n X) (hn : z.bn.1 ≤ onN R n) : JgP R n := by
  have h0 := h.pos hn
  unfold JgP
  rw [h.at' 0 h0, z.at_0, z.at_1, z.at_2, z.at_4, h.ok.size]
  exact ⟨h0, h.alk, h.once, hn, h.fit hn, h.right hn⟩
theorem Ofs.few {z : Shg} {R : Nat → List F} {n : Nat} {X : Nat → F} (h : Ofs z R n X) (hn : onN R n < z.bn.1) : ¬ JgP R n ∧ ∀ k, JnP R n k → k = 114 := by
  refine ⟨fun ⟨h0, _, _, h1, _⟩ => ?_, fun k hk => ?_⟩
  · rw [h.at' 0 h0, z.at_2] at h1; omega
  · rcases hk with hk | hk | hk | hk | hk
    · exact hk.2
    · exact absurd h.alk hk.1
    · exact absurd hk.2.1 h.once
    · exact hk.2.2.2.2
    · have h1 := hk.2.2.2.1
      rw [h.at' 0 hk.1, z.at_2] at h1
      omega
end Go.Proofs.YtinmhgackihakaaDoor
namespace Go.Proofs.YtinmhgackihakaaDoor
open Go.RowKit
set_option linter.unusedVariables false
set_option linter.unusedSimpArgs false
set_option maxRecDepth 100000
theorem one_str (T : ByteArray) : ∀ u ∈ [Value.string T], u.oneCell' = true := by intro u hu; simp at hu; subst hu; rfl
/-- Texts that are answered, with no error. -/
def TxQ (T : Nat → ByteArray) (n M : Nat) (e : Ending) (w w' : World) : Prop := ∃ g cg, e = .returned (.tuple #[.slice (some ⟨g, 0, none⟩) n cg, .int .i64 0]) ∧ (∀ i, i < n → w'.cell? ⟨g, i, none⟩ = some (.string (T i))) ∧ M ≤ g ∧ Below M w w'
end Go.Proofs.YtinmhgackihakaaDoor
namespace Go.Proofs.YtinmhgackihakaaDoor
open Go.RowKit
set_option linter.unusedVariables false
set_option linter.unusedSimpArgs false
set_option maxRecDepth 100000
theorem own_zi {w : World} {B : Nat} {v : Value} {n : Nat} {l : List F} (h : w.ownsRow B 5 1 v n (fc l)) (hl : l.length = n) : View w v (zi l) := by
  have q := viewOwns (zs := zi l) (by rw [zi_cells]; exact h) (by rw [zi_len]; exact hl)
  exact q
/-- Bytes that are seen. -/
def Vf (w : World) (v : Value) (l : List F) : Prop := View w v (zi l)
theorem Vf.parts {w : World} {v : Value} {l : List F} (h : Vf w v l) : ∃ a c, v = .slice a l.length c ∧ l.length ≤ c ∧ c ≤ maxLen ∧ (a = none → c = 0) ∧ (l = [] ∨ ∃ b off, a = some ⟨b, off, none⟩ ∧ Rw w b off l) := by
  obtain ⟨a, c, e, h1, h2, h3, h4⟩ := h
  rw [zi_len] at e h1
  refine ⟨a, c, e, h1, h2, h3, ?_⟩
  rcases h4 with h4 | ⟨b, off, e2, h5⟩
  · left
    have q := congrArg List.length h4
    rw [zi_len] at q
    exact List.eq_nil_of_length_eq_zero q
  · refine .inr ⟨b, off, e2, fun i hi => ?_⟩
    rw [zi_len] at h5
    rw [h5 i hi, zi_getD l i hi]
theorem vf_mk {w : World} {a : Option Addr} {n c : Nat} {l : List F} (hn : n = l.length) (hc : n ≤ c) (hm : c ≤ maxLen) (h0 : a = none → c = 0) (h : l = [] ∨ ∃ b off, a = some ⟨b, off, none⟩ ∧ Rw w b off l) : Vf w (.slice a n c) l := by
  refine ⟨a, c, by rw [zi_len, hn], by rw [zi_len, ← hn]; exact hc, hm, h0, ?_⟩
  rcases h with h | ⟨b, off, e, h⟩
  · left; rw [h]; rfl
  · refine .inr ⟨b, off, e, fun i hi => ?_⟩
    rw [zi_len] at hi
    rw [zi_getD l i hi]
    exact h i hi
theorem Vf.below {w w' : World} {v : Value} {l : List F} (h : Vf w v l) (hb : Below w.heap.size w w') : Vf w' v l := View.kept h fun k hk => hb.block k hk
theorem rw_take {w : World} {b off : Nat} {l : List F} (h : Rw w b off l) (m : Nat) : Rw w b off (l.take m) := fun i hi => by
  rw [List.length_take] at hi
  rw [h i (by omega)]
  simp [List.getD_eq_getElem?_getD, List.getElem?_take, show i < m by omega]
theorem cut_le (a : Option Addr) (n c m : Nat) (h : n ≤ m) (w : World) : Calls Tryd.prog 6 #[.slice a n c, .int .i64 (m : Nat)] w fun e w' => e = .returned (.slice a n c) ∧ w' = w := by
  have h1 : ¬ (m : Int) < (n : Int) := by omega
  go_enter Tryd.func6, Tryd.ntmps6
  go_wp2
  go_ret
  exact ⟨rfl, rfl⟩
def CutQ (l : List F) (m : Nat) (e : Ending) (w w' : World) : Prop := ∃ v, e = .returned v ∧ Vf w v (l.take m) ∧ w' = w
theorem cut_any (v : Value) (l : List F) (m : Nat) (hm : m ≤ 3000) (w : World) (h : Vf w v l) : Calls Tryd.prog 6 #[v, .int .i64 (m : Nat)] w fun e w' => CutQ l m e w w' := by
  obtain ⟨a, c, rfl, h1, h2, h3, h4⟩ := h.parts
  by_cases hl : l.length ≤ m
  · refine (cut_le a l.length c m hl w).mono fun e w' hh => ⟨_, hh.1, ?_, hh.2⟩
    rw [List.take_of_length_le hl]
    exact h
  · rcases h4 with h4 | ⟨b, off, rfl, h5⟩
    · rw [h4] at hl; simp at hl
    · refine (cut_ok b off l.length c m hm h1 w).mono fun e w' hh => ⟨_, hh.1, ?_, hh.2⟩
      rw [Nat.min_eq_right (by omega)]
      exact vf_mk (by rw [List.length_take]; omega) (by omega) h2 (fun e => by cases e) (.inr ⟨b, off, rfl, rw_take h5 m⟩)
/-- Deal's refusals, and the reference's. -/
theorem deal_bad (sv : Value) (a ra : Option Addr) (s c rn rc : Nat) (nd ct : Int) (hb : Hid (mayN s nd ct ≠ 0)) (w : World) : Calls Tryd.prog 9 #[sv, .slice a s c, .int .i64 nd, .int .i64 ct, .slice ra rn rc] w fun e w' => e = .returned (.tuple #[.slice none 0 0, .int .i64 (mayN s nd ct)]) ∧ w' = w := by
  have H21 : Hid (∀ u, Calls Tryd.prog 15 #[.slice a s c, .int .i64 nd, .int .i64 ct] u fun e w' => e = .returned (.int .i64 (mayN s nd ct)) ∧ w' = u) := fun u => refusal_ok a s c nd ct u
  obtain ⟨z, HZ⟩ : ∃ z, Hid (mayN s nd ct = z) := ⟨_, rfl⟩
  rw [HZ.out] at H21 hb ⊢
  have g1 : (z != 0) = true := bne_iff_ne.2 hb.out
  go_enter Tryd.func9, Tryd.ntmps9
  go_wp2_with (go_at_call 15; refine (H21.out _).mono ?_; rintro e1 w1 ⟨rfl, hw1⟩; obtain rfl := hw1.symm; clear hw1)
  go_ret2
  exact ⟨rfl, rfl⟩
theorem deal_short (sv : Value) (a ra : Option Addr) (s c rn rc : Nat) (nd ct : Int) (hb : Hid (mayN s nd ct = 0 ∧ (rn : Int) ≠ rnd nd s)) (w : World) : Calls Tryd.prog 9 #[sv, .slice a s c, .int .i64 nd, .int .i64 ct, .slice ra rn rc] w fun e w' => e = .returned (.tuple #[.slice none 0 0, .int .i64 5]) ∧ w' = w := by
  have H21 : Hid (∀ u, Calls Tryd.prog 15 #[.slice a s c, .int .i64 nd, .int .i64 ct] u fun e w' => e = .returned (.int .i64 0) ∧ w' = u) := fun u => by
    have q := refusal_ok a s c nd ct u
    rw [hb.out.1] at q
    exact q
  obtain ⟨z, HZ⟩ : ∃ z, Hid (rnd nd s = z) := ⟨_, rfl⟩
  have H9 : Hid (∀ u, Calls Tryd.prog 16 #[.int .i64 nd, .int .i64 (s : Nat)] u fun e w' => e = .returned (.int .i64 z) ∧ w' = u) := fun u => by
    have q := random_ok nd (s : Int) u
    rw [HZ.out] at q
    exact q
  have g1 : ((rn : Int) != z) = true := bne_iff_ne.2 (by rw [← HZ.out]; exact hb.out.2)
  go_enter Tryd.func9, Tryd.ntmps9
  go_wp2_with (first
    | (go_at_call 15; refine (H21.out _).mono ?_; rintro e1 w1 ⟨rfl, hw1⟩; obtain rfl := hw1.symm; clear hw1)
    | (go_at_call 16; refine (H9.out _).mono ?_; rintro e1 w1 ⟨rfl, hw1⟩; obtain rfl := hw1.symm; clear hw1)
    | fail)
  go_ret2
  exact ⟨rfl, rfl⟩
end Go.Proofs.YtinmhgackihakaaDoor
