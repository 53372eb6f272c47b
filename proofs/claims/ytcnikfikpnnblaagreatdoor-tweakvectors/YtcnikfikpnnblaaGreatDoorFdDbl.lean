import Derived.Test.YtcnikfikpnnblaaGreatDoorFdTimes
namespace Go.Proofs.YtcnikfikpnnblaaGreatDoor.Fd
open Go.RowKit Go.Proofs.YtcnikfikpnnblaaGreatDoor.Fld
set_option linter.unusedVariables false
set_option linter.unusedSimpArgs false
set_option maxHeartbeats 1600000 in
set_option maxRecDepth 100000 in
theorem double_ok (v : BitVec 128) (w : World) : Calls Tryz.prog 245 #[BV v] w fun e w' => e = .returned (BV (TX v)) ∧ Below w.heap.size w w' := by
  have HA : Hid (Below w.heap.size w ((w.alloc (.cells #[.int .u8 (byV v 0 : Nat), .int .u8 (byV v 1 : Nat), .int .u8 (byV v 2 : Nat), .int .u8 (byV v 3 : Nat), .int .u8 (byV v 4 : Nat), .int .u8 (byV v 5 : Nat), .int .u8 (byV v 6 : Nat), .int .u8 (byV v 7 : Nat), .int .u8 (byV v 8 : Nat), .int .u8 (byV v 9 : Nat), .int .u8 (byV v 10 : Nat), .int .u8 (byV v 11 : Nat), .int .u8 (byV v 12 : Nat), .int .u8 (byV v 13 : Nat), .int .u8 (byV v 14 : Nat), .int .u8 (byV v 15 : Nat)] 29)).alloc (.cells #[.int .u8 0, .int .u8 0, .int .u8 0, .int .u8 0, .int .u8 0, .int .u8 0, .int .u8 0, .int .u8 0, .int .u8 0, .int .u8 0, .int .u8 0, .int .u8 0, .int .u8 0, .int .u8 0, .int .u8 0, .int .u8 0] 29)) ∧ ((w.alloc (.cells #[.int .u8 (byV v 0 : Nat), .int .u8 (byV v 1 : Nat), .int .u8 (byV v 2 : Nat), .int .u8 (byV v 3 : Nat), .int .u8 (byV v 4 : Nat), .int .u8 (byV v 5 : Nat), .int .u8 (byV v 6 : Nat), .int .u8 (byV v 7 : Nat), .int .u8 (byV v 8 : Nat), .int .u8 (byV v 9 : Nat), .int .u8 (byV v 10 : Nat), .int .u8 (byV v 11 : Nat), .int .u8 (byV v 12 : Nat), .int .u8 (byV v 13 : Nat), .int .u8 (byV v 14 : Nat), .int .u8 (byV v 15 : Nat)] 29)).alloc (.cells #[.int .u8 0, .int .u8 0, .int .u8 0, .int .u8 0, .int .u8 0, .int .u8 0, .int .u8 0, .int .u8 0, .int .u8 0, .int .u8 0, .int .u8 0, .int .u8 0, .int .u8 0, .int .u8 0, .int .u8 0, .int .u8 0] 29)).rangeAt w.heap.size 0 (BL v) ∧ ((w.alloc (.cells #[.int .u8 (byV v 0 : Nat), .int .u8 (byV v 1 : Nat), .int .u8 (byV v 2 : Nat), .int .u8 (byV v 3 : Nat), .int .u8 (byV v 4 : Nat), .int .u8 (byV v 5 : Nat), .int .u8 (byV v 6 : Nat), .int .u8 (byV v 7 : Nat), .int .u8 (byV v 8 : Nat), .int .u8 (byV v 9 : Nat), .int .u8 (byV v 10 : Nat), .int .u8 (byV v 11 : Nat), .int .u8 (byV v 12 : Nat), .int .u8 (byV v 13 : Nat), .int .u8 (byV v 14 : Nat), .int .u8 (byV v 15 : Nat)] 29)).alloc (.cells #[.int .u8 0, .int .u8 0, .int .u8 0, .int .u8 0, .int .u8 0, .int .u8 0, .int .u8 0, .int .u8 0, .int .u8 0, .int .u8 0, .int .u8 0, .int .u8 0, .int .u8 0, .int .u8 0, .int .u8 0, .int .u8 0] 29)).there (w.heap.size + 1) 0 16 ∧ ((w.alloc (.cells #[.int .u8 (byV v 0 : Nat), .int .u8 (byV v 1 : Nat), .int .u8 (byV v 2 : Nat), .int .u8 (byV v 3 : Nat), .int .u8 (byV v 4 : Nat), .int .u8 (byV v 5 : Nat), .int .u8 (byV v 6 : Nat), .int .u8 (byV v 7 : Nat), .int .u8 (byV v 8 : Nat), .int .u8 (byV v 9 : Nat), .int .u8 (byV v 10 : Nat), .int .u8 (byV v 11 : Nat), .int .u8 (byV v 12 : Nat), .int .u8 (byV v 13 : Nat), .int .u8 (byV v 14 : Nat), .int .u8 (byV v 15 : Nat)] 29)).alloc (.cells #[.int .u8 0, .int .u8 0, .int .u8 0, .int .u8 0, .int .u8 0, .int .u8 0, .int .u8 0, .int .u8 0, .int .u8 0, .int .u8 0, .int .u8 0, .int .u8 0, .int .u8 0, .int .u8 0, .int .u8 0, .int .u8 0] 29)).heap.size = w.heap.size + 2) := by
    refine ⟨below2 w _ _, range_below (rangeAt_new w #[.int .u8 (byV v 0 : Nat), .int .u8 (byV v 1 : Nat), .int .u8 (byV v 2 : Nat), .int .u8 (byV v 3 : Nat), .int .u8 (byV v 4 : Nat), .int .u8 (byV v 5 : Nat), .int .u8 (byV v 6 : Nat), .int .u8 (byV v 7 : Nat), .int .u8 (byV v 8 : Nat), .int .u8 (byV v 9 : Nat), .int .u8 (byV v 10 : Nat), .int .u8 (byV v 11 : Nat), .int .u8 (byV v 12 : Nat), .int .u8 (byV v 13 : Nat), .int .u8 (byV v 14 : Nat), .int .u8 (byV v 15 : Nat)] 29) ((Below.refl _ _).alloc (Nat.le_refl _) _) (by simp), ?_, by simp⟩
    have h := there_new (w.alloc (.cells #[.int .u8 (byV v 0 : Nat), .int .u8 (byV v 1 : Nat), .int .u8 (byV v 2 : Nat), .int .u8 (byV v 3 : Nat), .int .u8 (byV v 4 : Nat), .int .u8 (byV v 5 : Nat), .int .u8 (byV v 6 : Nat), .int .u8 (byV v 7 : Nat), .int .u8 (byV v 8 : Nat), .int .u8 (byV v 9 : Nat), .int .u8 (byV v 10 : Nat), .int .u8 (byV v 11 : Nat), .int .u8 (byV v 12 : Nat), .int .u8 (byV v 13 : Nat), .int .u8 (byV v 14 : Nat), .int .u8 (byV v 15 : Nat)] 29)) #[.int .u8 0, .int .u8 0, .int .u8 0, .int .u8 0, .int .u8 0, .int .u8 0, .int .u8 0, .int .u8 0, .int .u8 0, .int .u8 0, .int .u8 0, .int .u8 0, .int .u8 0, .int .u8 0, .int .u8 0, .int .u8 0] 29 16 (Nat.le_refl _)
    simpa using h
  have KP : Hid (∀ u, Calls Tryz.prog 60 #[.agg (BL v).toArray] u fun e w' => e = .returned (.agg (PL v).toArray) ∧ Below u.heap.size u w') := fun u => polyLittle_ok v u
  have KX : Hid (∀ u, Calls Tryz.prog 270 #[.agg (PL v).toArray] u fun e w' => e = .returned (.agg (PL (TX v)).toArray) ∧ Below u.heap.size u w') := fun u => timesX_ok v u
  have KL : Hid (∀ u, Calls Tryz.prog 64 #[.int .u64 (hiV (TX v) : Nat), .int .u64 (loV (TX v) : Nat)] u fun e w' => e = .returned (.agg (BL (TX v)).toArray) ∧ Below u.heap.size u w') := fun u => little_ok (TX v) u
  show Calls Tryz.prog 245 #[.agg #[.int .u8 (byV v 0 : Nat), .int .u8 (byV v 1 : Nat), .int .u8 (byV v 2 : Nat), .int .u8 (byV v 3 : Nat), .int .u8 (byV v 4 : Nat), .int .u8 (byV v 5 : Nat), .int .u8 (byV v 6 : Nat), .int .u8 (byV v 7 : Nat), .int .u8 (byV v 8 : Nat), .int .u8 (byV v 9 : Nat), .int .u8 (byV v 10 : Nat), .int .u8 (byV v 11 : Nat), .int .u8 (byV v 12 : Nat), .int .u8 (byV v 13 : Nat), .int .u8 (byV v 14 : Nat), .int .u8 (byV v 15 : Nat)]] w _
  go_enter Tryz.func245, Tryz.ntmps245
  go_upto_region 1 with fail
  generalize (w.alloc (.cells #[.int .u8 (byV v 0 : Nat), .int .u8 (byV v 1 : Nat), .int .u8 (byV v 2 : Nat), .int .u8 (byV v 3 : Nat), .int .u8 (byV v 4 : Nat), .int .u8 (byV v 5 : Nat), .int .u8 (byV v 6 : Nat), .int .u8 (byV v 7 : Nat), .int .u8 (byV v 8 : Nat), .int .u8 (byV v 9 : Nat), .int .u8 (byV v 10 : Nat), .int .u8 (byV v 11 : Nat), .int .u8 (byV v 12 : Nat), .int .u8 (byV v 13 : Nat), .int .u8 (byV v 14 : Nat), .int .u8 (byV v 15 : Nat)] 29)).alloc (.cells #[.int .u8 0, .int .u8 0, .int .u8 0, .int .u8 0, .int .u8 0, .int .u8 0, .int .u8 0, .int .u8 0, .int .u8 0, .int .u8 0, .int .u8 0, .int .u8 0, .int .u8 0, .int .u8 0, .int .u8 0, .int .u8 0] 29) = w2 at HA ⊢
  obtain ⟨L, HL⟩ : ∃ L, Hid (L = BL v) := ⟨_, rfl⟩
  obtain ⟨P0, HP0⟩ : ∃ L, Hid (L = PL v) := ⟨_, rfl⟩
  obtain ⟨P1, HP1⟩ : ∃ L, Hid (L = PL (TX v)) := ⟨_, rfl⟩
  obtain ⟨LR, HLR⟩ : ∃ L, Hid (L = BL (TX v)) := ⟨_, rfl⟩
  obtain ⟨hi, HH⟩ : ∃ x, Hid (x = hiV (TX v)) := ⟨_, rfl⟩
  obtain ⟨lo, HLo⟩ : ∃ x, Hid (x = loV (TX v)) := ⟨_, rfl⟩
  rw [← HL.out] at HA
  rw [← HL.out, ← HP0.out] at KP
  rw [← HP0.out, ← HP1.out] at KX
  rw [← HH.out, ← HLo.out, ← HLR.out] at KL
  have HLl : Hid (L.length = 16) := by show _ = _; rw [HL.out]; rfl
  have hlp : Hid (P1.length = 2) := by show _ = _; rw [HP1.out]; rfl
  have hop : Hid (P1.toArray.all (·.oneCell') = true) := by show _ = _; rw [HP1.out]; kernel_rfl
  have hlr : Hid (LR.length = 16) := by show _ = _; rw [HLR.out]; rfl
  have hor : Hid (LR.toArray.all (·.oneCell') = true) := by show _ = _; rw [HLR.out]; exact BL_one _
  go_wp2_with (first
    | (refine wpList_load_mid (by rfl) 29 (.tmp 1) (by rfl) w.heap.size 0 (by rfl) L _ HA.out.2.1 Tryz.underlying29 rfl (by rw [HLl.out]; exact size23) ?_)
    | (go_at_call 60; refine (KP.out _).mono ?_; rintro e w3 ⟨rfl, hb3⟩)
    | (go_at_call 270; refine (KX.out _).mono ?_))
  rintro e w4 ⟨rfl, hb4⟩
  have H4 : Hid (Below w.heap.size w w4 ∧ w4.there (w.heap.size + 1) 0 16 ∧ w.heap.size + 2 ≤ w4.heap.size) := by
    obtain ⟨p1, p2, p3, p4⟩ := HA.out
    have h3 := p1.trans (hb3.mono p1.size)
    have z3 := hb3.size
    have z4 := hb4.size
    exact ⟨h3.trans (hb4.mono h3.size), there_below (there_below p3 hb3 (by omega)) hb4 (by omega), by omega⟩
  clear hb3 hb4 KP KX
  have hTN : (w4.alloc (.cells #[.int .u64 0, .int .u64 0] 122)).there w4.heap.size 0 P1.length := by rw [hlp.out]; exact there_new w4 _ 122 2 (Nat.le_refl _)
  go_upto_region 2 with (first
    | (refine wpList_store_mid (by rfl) 122 (.tmp 3) (.tmp 6) (by rfl) w4.heap.size 0 P1.toArray (by rfl) (by rfl) (by simpa using hTN) (by rw [List.size_toArray, hlp.out]; exact size35) hop.out ?_))
  have H5 : Hid (Below w.heap.size w ((w4.alloc (.cells #[.int .u64 0, .int .u64 0] 122)).setCells w4.heap.size 0 P1) ∧ ((w4.alloc (.cells #[.int .u64 0, .int .u64 0] 122)).setCells w4.heap.size 0 P1).there (w.heap.size + 1) 0 16 ∧ ((w4.alloc (.cells #[.int .u64 0, .int .u64 0] 122)).setCells w4.heap.size 0 P1).cell? ⟨w4.heap.size, 0, none⟩ = some (.int .u64 (hi : Nat)) ∧ ((w4.alloc (.cells #[.int .u64 0, .int .u64 0] 122)).setCells w4.heap.size 0 P1).cell? ⟨w4.heap.size, 1, none⟩ = some (.int .u64 (lo : Nat)) ∧ w.heap.size + 2 ≤ ((w4.alloc (.cells #[.int .u64 0, .int .u64 0] 122)).setCells w4.heap.size 0 P1).heap.size) := by
    obtain ⟨p1, p2, p3⟩ := H4.out
    have q := World.rangeAt_setCells_same _ _ _ _ hTN
    have hP : P1 = [.int .u64 (hi : Nat), .int .u64 (lo : Nat)] := by rw [HP1.out, HH.out, HLo.out]; rfl
    refine ⟨belowB_setCells _ p1.size _ _ _ (p1.alloc p1.size _), World.there_setCells (there_below p2 ((Below.refl w4.heap.size w4).alloc (Nat.le_refl _) _) (by omega)) _ _ _, q 0 _ (by rw [hP]; rfl), q 1 _ (by rw [hP]; rfl), by rw [size_setCells]; simp; omega⟩
  generalize (w4.alloc (.cells #[.int .u64 0, .int .u64 0] 122)).setCells w4.heap.size 0 P1 = w5 at H5 ⊢
  generalize w4.heap.size = C at H5 ⊢
  clear hTN H4
  have c0 := H5.out.2.2.1
  have c1 := H5.out.2.2.2.1
  go_wp2_with (first | (go_at_call 64; refine (KL.out _).mono ?_))
  rintro e w6 ⟨rfl, hb6⟩
  have HW : Hid (w6.there (w.heap.size + 1) 0 LR.length ∧ Below w.heap.size w w6) := by
    obtain ⟨p1, p2, p3, p4, p5⟩ := H5.out
    exact ⟨by rw [hlr.out]; exact there_below p2 hb6 (by omega), p1.trans (hb6.mono (by omega))⟩
  clear hb6 KL c0 c1
  have hTH := HW.out.1
  go_wp2_with (first
    | (refine wpList_store_mid (by rfl) 29 (.tmp 2) (.tmp 11) (by rfl) (w.heap.size + 1) 0 LR.toArray (by rfl) (by rfl) (by simpa using hTH) (by rw [List.size_toArray, hlr.out]; exact size23) hor.out ?_))
  refine ret_array LR Tryz.results245 rfl (World.rangeAt_setCells_same _ _ _ _ hTH) Tryz.underlying29 rfl (by rw [hlr.out]; exact size23) ⟨?_, belowB_setCells _ (by omega) _ _ _ HW.out.2⟩
  rw [HLR.out]
  rfl
end Go.Proofs.YtcnikfikpnnblaaGreatDoor.Fd
