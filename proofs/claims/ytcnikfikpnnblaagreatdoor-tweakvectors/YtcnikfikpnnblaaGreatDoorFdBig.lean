import Derived.Test.YtcnikfikpnnblaaGreatDoorFdTurn
namespace Go.Proofs.YtcnikfikpnnblaaGreatDoor.Fd
open Go.RowKit Go.Proofs.YtcnikfikpnnblaaGreatDoor.Fld
set_option linter.unusedVariables false
set_option linter.unusedSimpArgs false
set_option maxHeartbeats 1600000 in
set_option maxRecDepth 100000 in
theorem fromBig_ok (v : BitVec 128) (w : World) : Calls Tryz.prog 246 #[BV v] w fun e w' => e = .returned (.tuple #[.int .u64 (hiV (rv v) : Nat), .int .u64 (loV (rv v) : Nat)]) ∧ Below w.heap.size w w' := by
  have HA : Hid (Below w.heap.size w (w.alloc (.cells #[.int .u8 (byV v 0 : Nat), .int .u8 (byV v 1 : Nat), .int .u8 (byV v 2 : Nat), .int .u8 (byV v 3 : Nat), .int .u8 (byV v 4 : Nat), .int .u8 (byV v 5 : Nat), .int .u8 (byV v 6 : Nat), .int .u8 (byV v 7 : Nat), .int .u8 (byV v 8 : Nat), .int .u8 (byV v 9 : Nat), .int .u8 (byV v 10 : Nat), .int .u8 (byV v 11 : Nat), .int .u8 (byV v 12 : Nat), .int .u8 (byV v 13 : Nat), .int .u8 (byV v 14 : Nat), .int .u8 (byV v 15 : Nat)] 29)) ∧ (w.alloc (.cells #[.int .u8 (byV v 0 : Nat), .int .u8 (byV v 1 : Nat), .int .u8 (byV v 2 : Nat), .int .u8 (byV v 3 : Nat), .int .u8 (byV v 4 : Nat), .int .u8 (byV v 5 : Nat), .int .u8 (byV v 6 : Nat), .int .u8 (byV v 7 : Nat), .int .u8 (byV v 8 : Nat), .int .u8 (byV v 9 : Nat), .int .u8 (byV v 10 : Nat), .int .u8 (byV v 11 : Nat), .int .u8 (byV v 12 : Nat), .int .u8 (byV v 13 : Nat), .int .u8 (byV v 14 : Nat), .int .u8 (byV v 15 : Nat)] 29)).rangeAt w.heap.size 0 (BL v)) := ⟨(Below.refl _ _).alloc (Nat.le_refl _) _, rangeAt_new w #[.int .u8 (byV v 0 : Nat), .int .u8 (byV v 1 : Nat), .int .u8 (byV v 2 : Nat), .int .u8 (byV v 3 : Nat), .int .u8 (byV v 4 : Nat), .int .u8 (byV v 5 : Nat), .int .u8 (byV v 6 : Nat), .int .u8 (byV v 7 : Nat), .int .u8 (byV v 8 : Nat), .int .u8 (byV v 9 : Nat), .int .u8 (byV v 10 : Nat), .int .u8 (byV v 11 : Nat), .int .u8 (byV v 12 : Nat), .int .u8 (byV v 13 : Nat), .int .u8 (byV v 14 : Nat), .int .u8 (byV v 15 : Nat)] 29⟩
  have KT : Hid (∀ u, Calls Tryz.prog 199 #[.agg (BL v).toArray] u fun e w' => e = .returned (.agg (BL (rv v)).toArray) ∧ Below u.heap.size u w') := fun u => turned_ok v u
  have KF : Hid (∀ u, Calls Tryz.prog 84 #[.agg (BL (rv v)).toArray] u fun e w' => e = .returned (.tuple #[.int .u64 (hiV (rv v) : Nat), .int .u64 (loV (rv v) : Nat)]) ∧ Below u.heap.size u w') := fun u => fromLittle_ok (rv v) u
  show Calls Tryz.prog 246 #[.agg #[.int .u8 (byV v 0 : Nat), .int .u8 (byV v 1 : Nat), .int .u8 (byV v 2 : Nat), .int .u8 (byV v 3 : Nat), .int .u8 (byV v 4 : Nat), .int .u8 (byV v 5 : Nat), .int .u8 (byV v 6 : Nat), .int .u8 (byV v 7 : Nat), .int .u8 (byV v 8 : Nat), .int .u8 (byV v 9 : Nat), .int .u8 (byV v 10 : Nat), .int .u8 (byV v 11 : Nat), .int .u8 (byV v 12 : Nat), .int .u8 (byV v 13 : Nat), .int .u8 (byV v 14 : Nat), .int .u8 (byV v 15 : Nat)]] w _
  go_enter Tryz.func246, Tryz.ntmps246
  go_upto_region 1 with fail
  generalize w.alloc (.cells #[.int .u8 (byV v 0 : Nat), .int .u8 (byV v 1 : Nat), .int .u8 (byV v 2 : Nat), .int .u8 (byV v 3 : Nat), .int .u8 (byV v 4 : Nat), .int .u8 (byV v 5 : Nat), .int .u8 (byV v 6 : Nat), .int .u8 (byV v 7 : Nat), .int .u8 (byV v 8 : Nat), .int .u8 (byV v 9 : Nat), .int .u8 (byV v 10 : Nat), .int .u8 (byV v 11 : Nat), .int .u8 (byV v 12 : Nat), .int .u8 (byV v 13 : Nat), .int .u8 (byV v 14 : Nat), .int .u8 (byV v 15 : Nat)] 29) = w2 at HA ⊢
  obtain ⟨L, HL⟩ : ∃ L, Hid (L = BL v) := ⟨_, rfl⟩
  obtain ⟨L2, HL2⟩ : ∃ L, Hid (L = BL (rv v)) := ⟨_, rfl⟩
  obtain ⟨hi, HH⟩ : ∃ x, Hid (x = hiV (rv v)) := ⟨_, rfl⟩
  obtain ⟨lo, HLo⟩ : ∃ x, Hid (x = loV (rv v)) := ⟨_, rfl⟩
  rw [← HL.out] at HA
  rw [← HL.out, ← HL2.out] at KT
  rw [← HL2.out, ← HH.out, ← HLo.out] at KF
  have HLl : Hid (L.length = 16) := by show _ = _; rw [HL.out]; rfl
  go_wp2_with (first
    | (refine wpList_load_mid (by rfl) 29 (.tmp 1) (by rfl) w.heap.size 0 (by rfl) L _ HA.out.2 Tryz.underlying29 rfl (by rw [HLl.out]; exact size23) ?_)
    | (go_at_call 199; refine (KT.out _).mono ?_; rintro e w3 ⟨rfl, hb3⟩)
    | (go_at_call 84; refine (KF.out _).mono ?_; rintro e w4 ⟨rfl, hb4⟩))
  have HB : Hid (Below w.heap.size w w4) := by
    have h3 := HA.out.1.trans (hb3.mono HA.out.1.size)
    exact h3.trans (hb4.mono h3.size)
  go_ret2
  exact ⟨by rw [HH.out, HLo.out]; rfl, HB.out⟩
set_option maxHeartbeats 1600000 in
set_option maxRecDepth 100000 in
theorem polyBig_ok (v : BitVec 128) (w : World) : Calls Tryz.prog 271 #[BV v] w fun e w' => e = .returned (PV (rv v)) ∧ Below w.heap.size w w' := by
  have HA : Hid (Below w.heap.size w ((w.alloc (.cells #[.int .u8 (byV v 0 : Nat), .int .u8 (byV v 1 : Nat), .int .u8 (byV v 2 : Nat), .int .u8 (byV v 3 : Nat), .int .u8 (byV v 4 : Nat), .int .u8 (byV v 5 : Nat), .int .u8 (byV v 6 : Nat), .int .u8 (byV v 7 : Nat), .int .u8 (byV v 8 : Nat), .int .u8 (byV v 9 : Nat), .int .u8 (byV v 10 : Nat), .int .u8 (byV v 11 : Nat), .int .u8 (byV v 12 : Nat), .int .u8 (byV v 13 : Nat), .int .u8 (byV v 14 : Nat), .int .u8 (byV v 15 : Nat)] 29)).alloc (.cells #[.int .u64 0, .int .u64 0] 122)) ∧ ((w.alloc (.cells #[.int .u8 (byV v 0 : Nat), .int .u8 (byV v 1 : Nat), .int .u8 (byV v 2 : Nat), .int .u8 (byV v 3 : Nat), .int .u8 (byV v 4 : Nat), .int .u8 (byV v 5 : Nat), .int .u8 (byV v 6 : Nat), .int .u8 (byV v 7 : Nat), .int .u8 (byV v 8 : Nat), .int .u8 (byV v 9 : Nat), .int .u8 (byV v 10 : Nat), .int .u8 (byV v 11 : Nat), .int .u8 (byV v 12 : Nat), .int .u8 (byV v 13 : Nat), .int .u8 (byV v 14 : Nat), .int .u8 (byV v 15 : Nat)] 29)).alloc (.cells #[.int .u64 0, .int .u64 0] 122)).rangeAt w.heap.size 0 (BL v) ∧ ((w.alloc (.cells #[.int .u8 (byV v 0 : Nat), .int .u8 (byV v 1 : Nat), .int .u8 (byV v 2 : Nat), .int .u8 (byV v 3 : Nat), .int .u8 (byV v 4 : Nat), .int .u8 (byV v 5 : Nat), .int .u8 (byV v 6 : Nat), .int .u8 (byV v 7 : Nat), .int .u8 (byV v 8 : Nat), .int .u8 (byV v 9 : Nat), .int .u8 (byV v 10 : Nat), .int .u8 (byV v 11 : Nat), .int .u8 (byV v 12 : Nat), .int .u8 (byV v 13 : Nat), .int .u8 (byV v 14 : Nat), .int .u8 (byV v 15 : Nat)] 29)).alloc (.cells #[.int .u64 0, .int .u64 0] 122)).there (w.heap.size + 1) 0 2 ∧ ((w.alloc (.cells #[.int .u8 (byV v 0 : Nat), .int .u8 (byV v 1 : Nat), .int .u8 (byV v 2 : Nat), .int .u8 (byV v 3 : Nat), .int .u8 (byV v 4 : Nat), .int .u8 (byV v 5 : Nat), .int .u8 (byV v 6 : Nat), .int .u8 (byV v 7 : Nat), .int .u8 (byV v 8 : Nat), .int .u8 (byV v 9 : Nat), .int .u8 (byV v 10 : Nat), .int .u8 (byV v 11 : Nat), .int .u8 (byV v 12 : Nat), .int .u8 (byV v 13 : Nat), .int .u8 (byV v 14 : Nat), .int .u8 (byV v 15 : Nat)] 29)).alloc (.cells #[.int .u64 0, .int .u64 0] 122)).heap.size = w.heap.size + 2) := by
    refine ⟨below2 w _ _, range_below (rangeAt_new w #[.int .u8 (byV v 0 : Nat), .int .u8 (byV v 1 : Nat), .int .u8 (byV v 2 : Nat), .int .u8 (byV v 3 : Nat), .int .u8 (byV v 4 : Nat), .int .u8 (byV v 5 : Nat), .int .u8 (byV v 6 : Nat), .int .u8 (byV v 7 : Nat), .int .u8 (byV v 8 : Nat), .int .u8 (byV v 9 : Nat), .int .u8 (byV v 10 : Nat), .int .u8 (byV v 11 : Nat), .int .u8 (byV v 12 : Nat), .int .u8 (byV v 13 : Nat), .int .u8 (byV v 14 : Nat), .int .u8 (byV v 15 : Nat)] 29) ((Below.refl _ _).alloc (Nat.le_refl _) _) (by simp), ?_, by simp⟩
    have h := there_new (w.alloc (.cells #[.int .u8 (byV v 0 : Nat), .int .u8 (byV v 1 : Nat), .int .u8 (byV v 2 : Nat), .int .u8 (byV v 3 : Nat), .int .u8 (byV v 4 : Nat), .int .u8 (byV v 5 : Nat), .int .u8 (byV v 6 : Nat), .int .u8 (byV v 7 : Nat), .int .u8 (byV v 8 : Nat), .int .u8 (byV v 9 : Nat), .int .u8 (byV v 10 : Nat), .int .u8 (byV v 11 : Nat), .int .u8 (byV v 12 : Nat), .int .u8 (byV v 13 : Nat), .int .u8 (byV v 14 : Nat), .int .u8 (byV v 15 : Nat)] 29)) #[.int .u64 0, .int .u64 0] 122 2 (Nat.le_refl _)
    simpa using h
  have KF : Hid (∀ u, Calls Tryz.prog 246 #[.agg (BL v).toArray] u fun e w' => e = .returned (.tuple #[.int .u64 (hiV (rv v) : Nat), .int .u64 (loV (rv v) : Nat)]) ∧ Below u.heap.size u w') := fun u => fromBig_ok v u
  show Calls Tryz.prog 271 #[.agg #[.int .u8 (byV v 0 : Nat), .int .u8 (byV v 1 : Nat), .int .u8 (byV v 2 : Nat), .int .u8 (byV v 3 : Nat), .int .u8 (byV v 4 : Nat), .int .u8 (byV v 5 : Nat), .int .u8 (byV v 6 : Nat), .int .u8 (byV v 7 : Nat), .int .u8 (byV v 8 : Nat), .int .u8 (byV v 9 : Nat), .int .u8 (byV v 10 : Nat), .int .u8 (byV v 11 : Nat), .int .u8 (byV v 12 : Nat), .int .u8 (byV v 13 : Nat), .int .u8 (byV v 14 : Nat), .int .u8 (byV v 15 : Nat)]] w _
  go_enter Tryz.func271, Tryz.ntmps271
  go_upto_region 1 with fail
  generalize (w.alloc (.cells #[.int .u8 (byV v 0 : Nat), .int .u8 (byV v 1 : Nat), .int .u8 (byV v 2 : Nat), .int .u8 (byV v 3 : Nat), .int .u8 (byV v 4 : Nat), .int .u8 (byV v 5 : Nat), .int .u8 (byV v 6 : Nat), .int .u8 (byV v 7 : Nat), .int .u8 (byV v 8 : Nat), .int .u8 (byV v 9 : Nat), .int .u8 (byV v 10 : Nat), .int .u8 (byV v 11 : Nat), .int .u8 (byV v 12 : Nat), .int .u8 (byV v 13 : Nat), .int .u8 (byV v 14 : Nat), .int .u8 (byV v 15 : Nat)] 29)).alloc (.cells #[.int .u64 0, .int .u64 0] 122) = w2 at HA ⊢
  obtain ⟨L, HL⟩ : ∃ L, Hid (L = BL v) := ⟨_, rfl⟩
  rw [← HL.out] at HA KF
  have HLl : Hid (L.length = 16) := by show _ = _; rw [HL.out]; rfl
  go_wp2_with (first
    | (refine wpList_load_mid (by rfl) 29 (.tmp 1) (by rfl) w.heap.size 0 (by rfl) L _ HA.out.2.1 Tryz.underlying29 rfl (by rw [HLl.out]; exact size23) ?_)
    | (go_at_call 246; refine (KF.out _).mono ?_))
  rintro e w3 ⟨rfl, hb3⟩
  have H3 : Hid (w3.there (w.heap.size + 1) 0 2 ∧ Below w.heap.size w w3) := by
    obtain ⟨p1, p2, p3, p4⟩ := HA.out
    exact ⟨there_below p3 hb3 (by omega), p1.trans (hb3.mono (by omega))⟩
  clear hb3 KF
  obtain ⟨hi, HH⟩ : ∃ x, Hid (x = hiV (rv v)) := ⟨_, rfl⟩
  obtain ⟨lo, HLo⟩ : ∃ x, Hid (x = loV (rv v)) := ⟨_, rfl⟩
  rw [← HH.out, ← HLo.out]
  go_wp2_with (first
    | (refine wpList_store_mid (by rfl) 122 (.tmp 2) (.tmp 12) (by rfl) (w.heap.size + 1) 0 #[.int .u64 (hi : Nat), .int .u64 (lo : Nat)] (by rfl) (by rfl) H3.out.1 size35 (by kernel_rfl) ?_))
  refine ret_array [.int .u64 (hi : Nat), .int .u64 (lo : Nat)] Tryz.results271 rfl (World.rangeAt_setCells_same _ _ _ _ H3.out.1) Tryz.underlying122 rfl size35 ⟨?_, belowB_setCells _ (by omega) _ _ _ H3.out.2⟩
  rw [HH.out, HLo.out]
  rfl
set_option maxHeartbeats 1600000 in
set_option maxRecDepth 100000 in
theorem big_ok (v : BitVec 128) (w : World) : Calls Tryz.prog 139 #[.int .u64 (hiV v : Nat), .int .u64 (loV v : Nat)] w fun e w' => e = .returned (BV (rv v)) ∧ Below w.heap.size w w' := by
  have HA : Hid (Below w.heap.size w (w.alloc (.cells #[.int .u8 0, .int .u8 0, .int .u8 0, .int .u8 0, .int .u8 0, .int .u8 0, .int .u8 0, .int .u8 0, .int .u8 0, .int .u8 0, .int .u8 0, .int .u8 0, .int .u8 0, .int .u8 0, .int .u8 0, .int .u8 0] 29)) ∧ (w.alloc (.cells #[.int .u8 0, .int .u8 0, .int .u8 0, .int .u8 0, .int .u8 0, .int .u8 0, .int .u8 0, .int .u8 0, .int .u8 0, .int .u8 0, .int .u8 0, .int .u8 0, .int .u8 0, .int .u8 0, .int .u8 0, .int .u8 0] 29)).there w.heap.size 0 16 ∧ (w.alloc (.cells #[.int .u8 0, .int .u8 0, .int .u8 0, .int .u8 0, .int .u8 0, .int .u8 0, .int .u8 0, .int .u8 0, .int .u8 0, .int .u8 0, .int .u8 0, .int .u8 0, .int .u8 0, .int .u8 0, .int .u8 0, .int .u8 0] 29)).heap.size = w.heap.size + 1) := ⟨(Below.refl _ _).alloc (Nat.le_refl _) _, there_new w _ 29 16 (Nat.le_refl _), by simp⟩
  have KL : Hid (∀ u, Calls Tryz.prog 64 #[.int .u64 (hiV v : Nat), .int .u64 (loV v : Nat)] u fun e w' => e = .returned (.agg (BL v).toArray) ∧ Below u.heap.size u w') := fun u => little_ok v u
  have KT : Hid (∀ u, Calls Tryz.prog 199 #[.agg (BL v).toArray] u fun e w' => e = .returned (.agg (BL (rv v)).toArray) ∧ Below u.heap.size u w') := fun u => turned_ok v u
  obtain ⟨hi, HH⟩ : ∃ x, Hid (x = hiV v) := ⟨_, rfl⟩
  obtain ⟨lo, HLo⟩ : ∃ x, Hid (x = loV v) := ⟨_, rfl⟩
  obtain ⟨L, HL⟩ : ∃ L, Hid (L = BL v) := ⟨_, rfl⟩
  obtain ⟨LR, HLR⟩ : ∃ L, Hid (L = BL (rv v)) := ⟨_, rfl⟩
  rw [← HH.out, ← HLo.out, ← HL.out] at KL
  rw [← HL.out, ← HLR.out] at KT
  rw [← HH.out, ← HLo.out]
  go_enter Tryz.func139, Tryz.ntmps139
  go_upto_region 1 with fail
  generalize w.alloc (.cells #[.int .u8 0, .int .u8 0, .int .u8 0, .int .u8 0, .int .u8 0, .int .u8 0, .int .u8 0, .int .u8 0, .int .u8 0, .int .u8 0, .int .u8 0, .int .u8 0, .int .u8 0, .int .u8 0, .int .u8 0, .int .u8 0] 29) = w2 at HA ⊢
  have hlr : Hid (LR.length = 16) := by show _ = _; rw [HLR.out]; rfl
  have hor : Hid (LR.toArray.all (·.oneCell') = true) := by show _ = _; rw [HLR.out]; exact BL_one _
  go_wp2_with (first
    | (go_at_call 64; refine (KL.out _).mono ?_; rintro e w3 ⟨rfl, hb3⟩)
    | (go_at_call 199; refine (KT.out _).mono ?_))
  rintro e w4 ⟨rfl, hb4⟩
  have HW : Hid (w4.there w.heap.size 0 LR.length ∧ Below w.heap.size w w4) := by
    obtain ⟨p1, p2, p3⟩ := HA.out
    have h3 := p1.trans (hb3.mono p1.size)
    have z3 := hb3.size
    have z4 := h3.size
    exact ⟨by rw [hlr.out]; exact there_below (there_below p2 hb3 (by omega)) hb4 (by omega), h3.trans (hb4.mono (by omega))⟩
  clear hb3 hb4
  have hTH := HW.out.1
  go_wp2_with (first
    | (refine wpList_store_mid (by rfl) 29 (.tmp 4) (.tmp 8) (by rfl) w.heap.size 0 LR.toArray (by rfl) (by rfl) (by simpa using hTH) (by rw [List.size_toArray, hlr.out]; exact size23) hor.out ?_))
  refine ret_array LR Tryz.results139 rfl (World.rangeAt_setCells_same _ _ _ _ hTH) Tryz.underlying29 rfl (by rw [hlr.out]; exact size23) ⟨?_, belowB_setCells _ (Nat.le_refl _) _ _ _ HW.out.2⟩
  rw [HLR.out]
  rfl
end Go.Proofs.YtcnikfikpnnblaaGreatDoor.Fd
