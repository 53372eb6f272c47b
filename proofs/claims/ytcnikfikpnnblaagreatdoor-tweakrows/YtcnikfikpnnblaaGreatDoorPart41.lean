import Derived.Test.YtcnikfikpnnblaaGreatDoorPart18
namespace Go.Proofs.YtcnikfikpnnblaaGreatDoor.Fd
open Go.RowKit Go.Proofs.YtcnikfikpnnblaaGreatDoor.Fld
set_option linter.unusedVariables false
set_option linter.unusedSimpArgs false
/-- A block, its bytes turned round. -/
def rv (v : BitVec 128) : BitVec 128 := BitVec.ofNat 128 (pk (fun i => byV v (15 - i)) 16)
theorem byV_rv (v : BitVec 128) (i : Nat) (hi : i < 16) : byV (rv v) i = byV v (15 - i) := byV_pk _ (fun _ => byV_lt _ _) i hi
theorem zeros_at (j : Nat) (hj : j < 16) : (#[.int .u8 0, .int .u8 0, .int .u8 0, .int .u8 0, .int .u8 0, .int .u8 0, .int .u8 0, .int .u8 0, .int .u8 0, .int .u8 0, .int .u8 0, .int .u8 0, .int .u8 0, .int .u8 0, .int .u8 0, .int .u8 0] : Array Value).toList[j]? = some (.int .u8 0) := by
  have h16 : j = 0 ∨ j = 1 ∨ j = 2 ∨ j = 3 ∨ j = 4 ∨ j = 5 ∨ j = 6 ∨ j = 7 ∨ j = 8 ∨ j = 9 ∨ j = 10 ∨ j = 11 ∨ j = 12 ∨ j = 13 ∨ j = 14 ∨ j = 15 := by omega
  rcases h16 with rfl | rfl | rfl | rfl | rfl | rfl | rfl | rfl | rfl | rfl | rfl | rfl | rfl | rfl | rfl | rfl <;> rfl
theorem ext_bytes {a b : BitVec 128} (h : ∀ i, i < 16 → byV a i = byV b i) : a = b := by
  have e : a ^^^ b = 0#128 := (zero_bytes _).2 fun j hj => by rw [byV_xor, h j hj]; exact Nat.xor_self _
  have q := congrArg (· ^^^ b) e
  simpa [BitVec.xor_assoc] using q
theorem rv_rv (v : BitVec 128) : rv (rv v) = v := ext_bytes fun i hi => by
  rw [byV_rv _ i hi, byV_rv _ _ (by omega)]
  congr 1
  omega
theorem rv_xor (a b : BitVec 128) : rv (a ^^^ b) = rv a ^^^ rv b := ext_bytes fun i hi => by
  rw [byV_rv _ i hi, byV_xor, byV_xor, byV_rv _ i hi, byV_rv _ i hi]
set_option maxHeartbeats 1600000 in
set_option maxRecDepth 100000 in
theorem turned_ok (v : BitVec 128) (w : World) : Calls Tryz.prog 199 #[BV v] w fun e w' => e = .returned (BV (rv v)) ∧ Below w.heap.size w w' := by
  have HC : Hid (Below w.heap.size w (((w.alloc (.cells #[.int .u8 (byV v 0 : Nat), .int .u8 (byV v 1 : Nat), .int .u8 (byV v 2 : Nat), .int .u8 (byV v 3 : Nat), .int .u8 (byV v 4 : Nat), .int .u8 (byV v 5 : Nat), .int .u8 (byV v 6 : Nat), .int .u8 (byV v 7 : Nat), .int .u8 (byV v 8 : Nat), .int .u8 (byV v 9 : Nat), .int .u8 (byV v 10 : Nat), .int .u8 (byV v 11 : Nat), .int .u8 (byV v 12 : Nat), .int .u8 (byV v 13 : Nat), .int .u8 (byV v 14 : Nat), .int .u8 (byV v 15 : Nat)] 29)).alloc (.cells #[.int .u8 0, .int .u8 0, .int .u8 0, .int .u8 0, .int .u8 0, .int .u8 0, .int .u8 0, .int .u8 0, .int .u8 0, .int .u8 0, .int .u8 0, .int .u8 0, .int .u8 0, .int .u8 0, .int .u8 0, .int .u8 0] 29)).alloc (.cells #[.int .u8 0, .int .u8 0, .int .u8 0, .int .u8 0, .int .u8 0, .int .u8 0, .int .u8 0, .int .u8 0, .int .u8 0, .int .u8 0, .int .u8 0, .int .u8 0, .int .u8 0, .int .u8 0, .int .u8 0, .int .u8 0] 29)) ∧ (∀ j, j < 16 → (((w.alloc (.cells #[.int .u8 (byV v 0 : Nat), .int .u8 (byV v 1 : Nat), .int .u8 (byV v 2 : Nat), .int .u8 (byV v 3 : Nat), .int .u8 (byV v 4 : Nat), .int .u8 (byV v 5 : Nat), .int .u8 (byV v 6 : Nat), .int .u8 (byV v 7 : Nat), .int .u8 (byV v 8 : Nat), .int .u8 (byV v 9 : Nat), .int .u8 (byV v 10 : Nat), .int .u8 (byV v 11 : Nat), .int .u8 (byV v 12 : Nat), .int .u8 (byV v 13 : Nat), .int .u8 (byV v 14 : Nat), .int .u8 (byV v 15 : Nat)] 29)).alloc (.cells #[.int .u8 0, .int .u8 0, .int .u8 0, .int .u8 0, .int .u8 0, .int .u8 0, .int .u8 0, .int .u8 0, .int .u8 0, .int .u8 0, .int .u8 0, .int .u8 0, .int .u8 0, .int .u8 0, .int .u8 0, .int .u8 0] 29)).alloc (.cells #[.int .u8 0, .int .u8 0, .int .u8 0, .int .u8 0, .int .u8 0, .int .u8 0, .int .u8 0, .int .u8 0, .int .u8 0, .int .u8 0, .int .u8 0, .int .u8 0, .int .u8 0, .int .u8 0, .int .u8 0, .int .u8 0] 29)).cell? ⟨w.heap.size, j, none⟩ = some (.int .u8 (byV v j : Nat))) ∧ (((w.alloc (.cells #[.int .u8 (byV v 0 : Nat), .int .u8 (byV v 1 : Nat), .int .u8 (byV v 2 : Nat), .int .u8 (byV v 3 : Nat), .int .u8 (byV v 4 : Nat), .int .u8 (byV v 5 : Nat), .int .u8 (byV v 6 : Nat), .int .u8 (byV v 7 : Nat), .int .u8 (byV v 8 : Nat), .int .u8 (byV v 9 : Nat), .int .u8 (byV v 10 : Nat), .int .u8 (byV v 11 : Nat), .int .u8 (byV v 12 : Nat), .int .u8 (byV v 13 : Nat), .int .u8 (byV v 14 : Nat), .int .u8 (byV v 15 : Nat)] 29)).alloc (.cells #[.int .u8 0, .int .u8 0, .int .u8 0, .int .u8 0, .int .u8 0, .int .u8 0, .int .u8 0, .int .u8 0, .int .u8 0, .int .u8 0, .int .u8 0, .int .u8 0, .int .u8 0, .int .u8 0, .int .u8 0, .int .u8 0] 29)).alloc (.cells #[.int .u8 0, .int .u8 0, .int .u8 0, .int .u8 0, .int .u8 0, .int .u8 0, .int .u8 0, .int .u8 0, .int .u8 0, .int .u8 0, .int .u8 0, .int .u8 0, .int .u8 0, .int .u8 0, .int .u8 0, .int .u8 0] 29)).there (w.heap.size + 1) 0 16 ∧ (((w.alloc (.cells #[.int .u8 (byV v 0 : Nat), .int .u8 (byV v 1 : Nat), .int .u8 (byV v 2 : Nat), .int .u8 (byV v 3 : Nat), .int .u8 (byV v 4 : Nat), .int .u8 (byV v 5 : Nat), .int .u8 (byV v 6 : Nat), .int .u8 (byV v 7 : Nat), .int .u8 (byV v 8 : Nat), .int .u8 (byV v 9 : Nat), .int .u8 (byV v 10 : Nat), .int .u8 (byV v 11 : Nat), .int .u8 (byV v 12 : Nat), .int .u8 (byV v 13 : Nat), .int .u8 (byV v 14 : Nat), .int .u8 (byV v 15 : Nat)] 29)).alloc (.cells #[.int .u8 0, .int .u8 0, .int .u8 0, .int .u8 0, .int .u8 0, .int .u8 0, .int .u8 0, .int .u8 0, .int .u8 0, .int .u8 0, .int .u8 0, .int .u8 0, .int .u8 0, .int .u8 0, .int .u8 0, .int .u8 0] 29)).alloc (.cells #[.int .u8 0, .int .u8 0, .int .u8 0, .int .u8 0, .int .u8 0, .int .u8 0, .int .u8 0, .int .u8 0, .int .u8 0, .int .u8 0, .int .u8 0, .int .u8 0, .int .u8 0, .int .u8 0, .int .u8 0, .int .u8 0] 29)).there (w.heap.size + 2) 0 16 ∧ (∀ j, j < 16 → (((w.alloc (.cells #[.int .u8 (byV v 0 : Nat), .int .u8 (byV v 1 : Nat), .int .u8 (byV v 2 : Nat), .int .u8 (byV v 3 : Nat), .int .u8 (byV v 4 : Nat), .int .u8 (byV v 5 : Nat), .int .u8 (byV v 6 : Nat), .int .u8 (byV v 7 : Nat), .int .u8 (byV v 8 : Nat), .int .u8 (byV v 9 : Nat), .int .u8 (byV v 10 : Nat), .int .u8 (byV v 11 : Nat), .int .u8 (byV v 12 : Nat), .int .u8 (byV v 13 : Nat), .int .u8 (byV v 14 : Nat), .int .u8 (byV v 15 : Nat)] 29)).alloc (.cells #[.int .u8 0, .int .u8 0, .int .u8 0, .int .u8 0, .int .u8 0, .int .u8 0, .int .u8 0, .int .u8 0, .int .u8 0, .int .u8 0, .int .u8 0, .int .u8 0, .int .u8 0, .int .u8 0, .int .u8 0, .int .u8 0] 29)).alloc (.cells #[.int .u8 0, .int .u8 0, .int .u8 0, .int .u8 0, .int .u8 0, .int .u8 0, .int .u8 0, .int .u8 0, .int .u8 0, .int .u8 0, .int .u8 0, .int .u8 0, .int .u8 0, .int .u8 0, .int .u8 0, .int .u8 0] 29)).cell? ⟨w.heap.size + 2, j, none⟩ = some (.int .u8 0)) ∧ (((w.alloc (.cells #[.int .u8 (byV v 0 : Nat), .int .u8 (byV v 1 : Nat), .int .u8 (byV v 2 : Nat), .int .u8 (byV v 3 : Nat), .int .u8 (byV v 4 : Nat), .int .u8 (byV v 5 : Nat), .int .u8 (byV v 6 : Nat), .int .u8 (byV v 7 : Nat), .int .u8 (byV v 8 : Nat), .int .u8 (byV v 9 : Nat), .int .u8 (byV v 10 : Nat), .int .u8 (byV v 11 : Nat), .int .u8 (byV v 12 : Nat), .int .u8 (byV v 13 : Nat), .int .u8 (byV v 14 : Nat), .int .u8 (byV v 15 : Nat)] 29)).alloc (.cells #[.int .u8 0, .int .u8 0, .int .u8 0, .int .u8 0, .int .u8 0, .int .u8 0, .int .u8 0, .int .u8 0, .int .u8 0, .int .u8 0, .int .u8 0, .int .u8 0, .int .u8 0, .int .u8 0, .int .u8 0, .int .u8 0] 29)).alloc (.cells #[.int .u8 0, .int .u8 0, .int .u8 0, .int .u8 0, .int .u8 0, .int .u8 0, .int .u8 0, .int .u8 0, .int .u8 0, .int .u8 0, .int .u8 0, .int .u8 0, .int .u8 0, .int .u8 0, .int .u8 0, .int .u8 0] 29)).heap.size = w.heap.size + 3) := by
    refine ⟨below3 w _ _ _, fun j hj => ?_, ?_, ?_, fun j hj => ?_, by simp⟩
    · have h := rangeAt_new w #[.int .u8 (byV v 0 : Nat), .int .u8 (byV v 1 : Nat), .int .u8 (byV v 2 : Nat), .int .u8 (byV v 3 : Nat), .int .u8 (byV v 4 : Nat), .int .u8 (byV v 5 : Nat), .int .u8 (byV v 6 : Nat), .int .u8 (byV v 7 : Nat), .int .u8 (byV v 8 : Nat), .int .u8 (byV v 9 : Nat), .int .u8 (byV v 10 : Nat), .int .u8 (byV v 11 : Nat), .int .u8 (byV v 12 : Nat), .int .u8 (byV v 13 : Nat), .int .u8 (byV v 14 : Nat), .int .u8 (byV v 15 : Nat)] 29 j _ (BL_at v j hj)
      rw [Nat.zero_add] at h
      rw [World.cell?_alloc_lt _ _ _ (show w.heap.size < _ by simp; omega), World.cell?_alloc_lt _ _ _ (show w.heap.size < _ by simp)]
      exact h
    · have h := there_new (w.alloc (.cells #[.int .u8 (byV v 0 : Nat), .int .u8 (byV v 1 : Nat), .int .u8 (byV v 2 : Nat), .int .u8 (byV v 3 : Nat), .int .u8 (byV v 4 : Nat), .int .u8 (byV v 5 : Nat), .int .u8 (byV v 6 : Nat), .int .u8 (byV v 7 : Nat), .int .u8 (byV v 8 : Nat), .int .u8 (byV v 9 : Nat), .int .u8 (byV v 10 : Nat), .int .u8 (byV v 11 : Nat), .int .u8 (byV v 12 : Nat), .int .u8 (byV v 13 : Nat), .int .u8 (byV v 14 : Nat), .int .u8 (byV v 15 : Nat)] 29)) #[.int .u8 0, .int .u8 0, .int .u8 0, .int .u8 0, .int .u8 0, .int .u8 0, .int .u8 0, .int .u8 0, .int .u8 0, .int .u8 0, .int .u8 0, .int .u8 0, .int .u8 0, .int .u8 0, .int .u8 0, .int .u8 0] 29 16 (Nat.le_refl _)
      have q := World.there_alloc h (.cells #[.int .u8 0, .int .u8 0, .int .u8 0, .int .u8 0, .int .u8 0, .int .u8 0, .int .u8 0, .int .u8 0, .int .u8 0, .int .u8 0, .int .u8 0, .int .u8 0, .int .u8 0, .int .u8 0, .int .u8 0, .int .u8 0] 29)
      simpa using q
    · have h := there_new ((w.alloc (.cells #[.int .u8 (byV v 0 : Nat), .int .u8 (byV v 1 : Nat), .int .u8 (byV v 2 : Nat), .int .u8 (byV v 3 : Nat), .int .u8 (byV v 4 : Nat), .int .u8 (byV v 5 : Nat), .int .u8 (byV v 6 : Nat), .int .u8 (byV v 7 : Nat), .int .u8 (byV v 8 : Nat), .int .u8 (byV v 9 : Nat), .int .u8 (byV v 10 : Nat), .int .u8 (byV v 11 : Nat), .int .u8 (byV v 12 : Nat), .int .u8 (byV v 13 : Nat), .int .u8 (byV v 14 : Nat), .int .u8 (byV v 15 : Nat)] 29)).alloc (.cells #[.int .u8 0, .int .u8 0, .int .u8 0, .int .u8 0, .int .u8 0, .int .u8 0, .int .u8 0, .int .u8 0, .int .u8 0, .int .u8 0, .int .u8 0, .int .u8 0, .int .u8 0, .int .u8 0, .int .u8 0, .int .u8 0] 29)) #[.int .u8 0, .int .u8 0, .int .u8 0, .int .u8 0, .int .u8 0, .int .u8 0, .int .u8 0, .int .u8 0, .int .u8 0, .int .u8 0, .int .u8 0, .int .u8 0, .int .u8 0, .int .u8 0, .int .u8 0, .int .u8 0] 29 16 (Nat.le_refl _)
      simpa using h
    · have h := range3 w (.cells #[.int .u8 (byV v 0 : Nat), .int .u8 (byV v 1 : Nat), .int .u8 (byV v 2 : Nat), .int .u8 (byV v 3 : Nat), .int .u8 (byV v 4 : Nat), .int .u8 (byV v 5 : Nat), .int .u8 (byV v 6 : Nat), .int .u8 (byV v 7 : Nat), .int .u8 (byV v 8 : Nat), .int .u8 (byV v 9 : Nat), .int .u8 (byV v 10 : Nat), .int .u8 (byV v 11 : Nat), .int .u8 (byV v 12 : Nat), .int .u8 (byV v 13 : Nat), .int .u8 (byV v 14 : Nat), .int .u8 (byV v 15 : Nat)] 29) (.cells #[.int .u8 0, .int .u8 0, .int .u8 0, .int .u8 0, .int .u8 0, .int .u8 0, .int .u8 0, .int .u8 0, .int .u8 0, .int .u8 0, .int .u8 0, .int .u8 0, .int .u8 0, .int .u8 0, .int .u8 0, .int .u8 0] 29) #[.int .u8 0, .int .u8 0, .int .u8 0, .int .u8 0, .int .u8 0, .int .u8 0, .int .u8 0, .int .u8 0, .int .u8 0, .int .u8 0, .int .u8 0, .int .u8 0, .int .u8 0, .int .u8 0, .int .u8 0, .int .u8 0] 29 j (.int .u8 0) (zeros_at j hj)
      rw [Nat.zero_add] at h
      exact h
  unfold BV
  show Calls Tryz.prog 199 #[.agg #[.int .u8 (byV v 0 : Nat), .int .u8 (byV v 1 : Nat), .int .u8 (byV v 2 : Nat), .int .u8 (byV v 3 : Nat), .int .u8 (byV v 4 : Nat), .int .u8 (byV v 5 : Nat), .int .u8 (byV v 6 : Nat), .int .u8 (byV v 7 : Nat), .int .u8 (byV v 8 : Nat), .int .u8 (byV v 9 : Nat), .int .u8 (byV v 10 : Nat), .int .u8 (byV v 11 : Nat), .int .u8 (byV v 12 : Nat), .int .u8 (byV v 13 : Nat), .int .u8 (byV v 14 : Nat), .int .u8 (byV v 15 : Nat)]] w _
  go_enter Tryz.func199, Tryz.ntmps199
  go_upto_region 2 with fail
  generalize ((w.alloc (.cells #[.int .u8 (byV v 0 : Nat), .int .u8 (byV v 1 : Nat), .int .u8 (byV v 2 : Nat), .int .u8 (byV v 3 : Nat), .int .u8 (byV v 4 : Nat), .int .u8 (byV v 5 : Nat), .int .u8 (byV v 6 : Nat), .int .u8 (byV v 7 : Nat), .int .u8 (byV v 8 : Nat), .int .u8 (byV v 9 : Nat), .int .u8 (byV v 10 : Nat), .int .u8 (byV v 11 : Nat), .int .u8 (byV v 12 : Nat), .int .u8 (byV v 13 : Nat), .int .u8 (byV v 14 : Nat), .int .u8 (byV v 15 : Nat)] 29)).alloc (.cells #[.int .u8 0, .int .u8 0, .int .u8 0, .int .u8 0, .int .u8 0, .int .u8 0, .int .u8 0, .int .u8 0, .int .u8 0, .int .u8 0, .int .u8 0, .int .u8 0, .int .u8 0, .int .u8 0, .int .u8 0, .int .u8 0] 29)).alloc (.cells #[.int .u8 0, .int .u8 0, .int .u8 0, .int .u8 0, .int .u8 0, .int .u8 0, .int .u8 0, .int .u8 0, .int .u8 0, .int .u8 0, .int .u8 0, .int .u8 0, .int .u8 0, .int .u8 0, .int .u8 0, .int .u8 0] 29) = w2 at HC ⊢
  go_wp2
  go_loopw [4, 5] (fun s4 i wr => ∃ k : Nat, k ≤ 16 ∧ i = .int .i64 (k : Nat) ∧ Hid (Touch w2 wr (w.heap.size + 2) 0 16 ∧ ∀ j, j < 16 → wr.cell? ⟨w.heap.size + 2, j, none⟩ = some (.int .u8 ((if 15 - j < k then byV v (15 - j) else 0 : Nat) : Int)))) (fun s4 i _ => 16 - (intOf i).toNat)
  case atStart => exact ⟨0, by omega, rfl, Touch.refl _ _ _ _, fun j hj => by rw [if_neg (by omega)]; exact HC.out.2.2.2.2.1 j hj⟩
  case round =>
    obtain ⟨k, hk, rfl, HR⟩ := hrel
    by_cases hlt : k < 16
    · obtain ⟨r, hr⟩ : ∃ r, r + k = 15 := ⟨15 - k, by omega⟩
      have c1 : wr.cell? ⟨w.heap.size, k, none⟩ = some (.int .u8 (byV v k : Nat)) := by
        have hz := HC.out.2.2.2.2.2
        rw [HR.out.1.far (p := ⟨w.heap.size, k, none⟩) (show w.heap.size < _ by omega) (show w.heap.size ≠ _ by omega)]
        exact HC.out.2.1 k (by omega)
      have c2 := HR.out.2 r (by omega)
      rw [if_neg (by omega)] at c2
      have f1 := (HR.out.1.there _ _ HC.out.2.2.2.1 r (by omega)).2
      rw [Nat.zero_add] at f1
      obtain ⟨x1, HX1⟩ : ∃ x, Hid (x = byV v k) := ⟨_, rfl⟩
      rw [← HX1.out] at c1
      have hki : ((k : Nat) : Int) < 16 := by omega
      have hri : (15 : Int) - ((k : Nat) : Int) = (r : Nat) := by omega
      have hrw : IntKind.i64.wrap ((r : Nat) : Int) = (r : Nat) := by simp [IntKind.wrap, IntKind.bits, IntKind.signed]; omega
      have hr16 : ((r : Nat) : Int) < 16 := by omega
      go_wp2
      refine ⟨⟨k + 1, by omega, rfl, (HR.out.1.setCell r _ (by omega) (by omega)), fun j hj => ?_⟩, by simp only [intOf]; omega⟩
      by_cases hjk : j = r
      · subst hjk
        rw [if_pos (by omega), World.cell?_setCell_same' _ _ _ (by rw [c2]; rfl), HX1.out, show k = 15 - j by omega]
      · rw [cell_other2 _ _ _ _ _ (by omega), HR.out.2 j hj]
        congr 3
        by_cases h : 15 - j < k
        · rw [if_pos h, if_pos (by omega)]
        · rw [if_neg h, if_neg (by omega)]
    · obtain rfl : k = 16 := by omega
      have H4 : Hid (wr.rangeAt (w.heap.size + 2) 0 (BL (rv v)) ∧ wr.there (w.heap.size + 1) 0 16 ∧ Below w.heap.size w wr) := by
        obtain ⟨t1, t2, t3, t4, t5, t6⟩ := HC.out
        obtain ⟨p1, p2⟩ := HR.out
        refine ⟨BL_range (fun j hj => ?_), fun j hj => ?_, t1.trans (p1.toBelow (by omega) (by omega))⟩
        · have h := p2 j hj
          rw [if_pos (by omega)] at h
          rw [h, byV_rv v j hj]
        · rw [p1.far (p := ⟨w.heap.size + 1, 0 + j, none⟩) (show w.heap.size + 1 < _ by omega) (show w.heap.size + 1 ≠ _ by omega), p1.farFrozen (p := ⟨w.heap.size + 1, 0 + j, none⟩) (show w.heap.size + 1 < _ by omega) (show w.heap.size + 1 ≠ _ by omega)]
          exact t3 j hj
      clear HR hlt hk
      obtain ⟨L, HLL⟩ : ∃ L, Hid (L = BL (rv v)) := ⟨_, rfl⟩
      rw [← HLL.out] at H4
      have HLl : Hid (L.length = 16) := by show _ = _; rw [HLL.out]; rfl
      have HLo : Hid (L.toArray.all (·.oneCell') = true) := by show _ = _; rw [HLL.out]; exact BL_one _
      have hTH : wr.there (w.heap.size + 1) 0 L.length := by rw [HLl.out]; exact H4.out.2.1
      go_wp2_with (first
        | (refine wpList_load_mid (by rfl) 29 (.tmp 3) (by rfl) (w.heap.size + 2) 0 (by rfl) L _ H4.out.1 Tryz.underlying29 rfl (by rw [HLl.out]; exact size23) ?_)
        | (refine wpList_store_mid (by rfl) 29 (.tmp 2) (.tmp 15) (by rfl) (w.heap.size + 1) 0 L.toArray (by rfl) (by rfl) (by simpa using hTH) (by rw [List.size_toArray, HLl.out]; exact size23) HLo.out ?_))
      refine ret_array L Tryz.results199 rfl (World.rangeAt_setCells_same _ _ _ _ hTH) Tryz.underlying29 rfl (by rw [HLl.out]; exact size23) ⟨?_, belowB_setCells _ (by omega) _ _ _ H4.out.2.2⟩
      rw [HLL.out]
      rfl
end Go.Proofs.YtcnikfikpnnblaaGreatDoor.Fd
namespace Go.Proofs.YtcnikfikpnnblaaGreatDoor.Fd
open Go.RowKit Go.Proofs.YtcnikfikpnnblaaGreatDoor.Fld
set_option linter.unusedVariables false
set_option linter.unusedSimpArgs false
set_option maxHeartbeats 1600000 in
set_option maxRecDepth 100000 in
theorem fromBig_ok (v : BitVec 128) (w : World) : Calls Tryz.prog 246 #[BV v] w fun e w' => e = .returned (.tuple #[.int .u64 (hiV (rv v) : Nat), .int .u64 (loV (rv v) : Nat)]) ∧ Below w.heap.size w w' := by
  have HA : Hid (Below w.heap.size w (w.alloc (.cells #[.int .u8 (byV v 0 : Nat), .int .u8 (byV v 1 : Nat), .int .u8 (byV v 2 : Nat), .int .u8 (byV v 3 : Nat), .int .u8 (byV v 4 : Nat), .int .u8 (byV v 5 : Nat), .int .u8 (byV v 6 : Nat), .int .u8 (byV v 7 : Nat), .int .u8 (byV v 8 : Nat), .int .u8 (byV v 9 : Nat), .int .u8 (byV v 10 : Nat), .int .u8 (byV v 11 : Nat), .int .u8 (byV v 12 : Nat), .int .u8 (byV v 13 : Nat), .int .u8 (byV v 14 : Nat), .int .u8 (byV v 15 : Nat)] 29)) ∧ (w.alloc (.cells #[.int .u8 (byV v 0 : Nat), .int .u8 (byV v 1 : Nat), .int .u8 (byV v 2 : Nat), .int .u8 (byV v 3 : Nat), .int .u8 (byV v 4 : Nat), .int .u8 (byV v 5 : Nat), .int .u8 (byV v 6 : Nat), .int .u8 (byV v 7 : Nat), .int .u8 (byV v 8 : Nat), .int .u8 (byV v 9 : Nat), .int .u8 (byV v 10 : Nat), .int .u8 (byV v 11 : Nat), .int .u8 (byV v 12 : Nat), .int .u8 (byV v 13 : Nat), .int .u8 (byV v 14 : Nat), .int .u8 (byV v 15 : Nat)] 29)).rangeAt w.heap.size 0 (BL v)) := ⟨(Below.refl _ _).alloc (Nat.le_refl _) _, rangeAt_new w #[.int .u8 (byV v 0 : Nat), .int .u8 (byV v 1 : Nat), .int .u8 (byV v 2 : Nat), .int .u8 (byV v 3 : Nat), .int .u8 (byV v 4 : Nat), .int .u8 (byV v 5 : Nat), .int .u8 (byV v 6 : Nat), .int .u8 (byV v 7 : Nat), .int .u8 (byV v 8 : Nat), .int .u8 (byV v 9 : Nat), .int .u8 (byV v 10 : Nat), .int .u8 (byV v 11 : Nat), .int .u8 (byV v 12 : Nat), .int .u8 (byV v 13 : Nat), .int .u8 (byV v 14 : Nat), .int .u8 (byV v 15 : Nat)] 29⟩
  have KT : Hid (∀ u, Calls Tryz.prog 199 #[.agg (BL v).toArray] u fun e w' => e = .returned (.agg (BL (rv v)).toArray) ∧ Below u.heap.size u w') := fun u => turned_ok v u
  have KF : Hid (∀ u, Calls Tryz.prog 84 #[.agg (BL (rv v)).toArray] u fun e w' => e = .returned (.tuple #[.int .u64 (hiV (rv v) : Nat), .int .u64 (loV (rv v) : Nat)]) ∧ Below u.heap.size u w') := fun u => fromLittle_ok (rv v) u
  show Calls Tryz.prog 246 #[.agg #[.int .u8 (byV v 0 : Nat), .int .u8 (byV v 1 : Nat), .int .u8 (byV v 2 : Nat), .int .u8 (byV v 3 : Nat), .int .u8 (byV v 4 : Nat), .int .u8 (byV v 5 : Nat), .int .u8 (byV v 6 : Nat), .int .u8 (byV v 7 : Nat), .int .u8 (byV v 8 : Nat), .int .u8 (byV v 9 : Nat), .int .u8 (byV v 10 : Nat), .int .u8 (byV v 11 : Nat), .int .u8 (byV v 12 : Nat), .int .u8 (byV v 13 : Nat), .int .u8 (byV v 14 : Nat), .int .u8 (byV v 15 : Nat)]] w _
  go_enter Tryz.func246, Tryz.ntmps246
  go_upto_region 1 with fail
  generalize w.alloc (.cells #[.int .u8 (byV v 0 : Nat), .int .u8 (byV v 1 : Nat), .int .u8 (byV v 2 : Nat), .int .u8 (byV v 3 : Nat), .int .u8 (byV v 4 : Nat), .int .u8 (byV v 5 : Nat), .int .u8 (byV v 6 : Nat), .int .u8 (byV v 7 : Nat), .int .u8 (byV v 8 : Nat), .int .u8 (byV v 9 : Nat), .int .u8 (byV v 10 : Nat), .int .u8 (byV v 11 : Nat), .int .u8 (byV v 12 : Nat), .int .u8 (byV v 13 : Nat), .int .u8 (byV v 14 : Nat), .int .u8 (byV v 15 : Nat)] 29) = w2 at HA ⊢
  obtain ⟨L, HL⟩ : ∃ L, Hid (L = BL v) := ⟨_, rfl⟩
  obtain ⟨L2, HL2⟩ : ∃ L, Hid (L = BL (rv v)) := ⟨_, rfl⟩
  obtain ⟨hi, HH⟩ : ∃ x, Hid (x = hiV (rv v)) := ⟨_, rfl⟩
  obtain ⟨lo, HLo⟩ : ∃ x, Hid (x = loV (rv v)) := ⟨_, rfl⟩
  rw [← HL.out] at HA
  rw [← HL.out, ← HL2.out] at KT
  rw [← HL2.out, ← HH.out, ← HLo.out] at KF
  have HLl : Hid (L.length = 16) := by show _ = _; rw [HL.out]; rfl
  go_wp2_with (first
    | (refine wpList_load_mid (by rfl) 29 (.tmp 1) (by rfl) w.heap.size 0 (by rfl) L _ HA.out.2 Tryz.underlying29 rfl (by rw [HLl.out]; exact size23) ?_)
    | (go_at_call 199; refine (KT.out _).mono ?_; rintro e w3 ⟨rfl, hb3⟩)
    | (go_at_call 84; refine (KF.out _).mono ?_; rintro e w4 ⟨rfl, hb4⟩))
  have HB : Hid (Below w.heap.size w w4) := by
    have h3 := HA.out.1.trans (hb3.mono HA.out.1.size)
    exact h3.trans (hb4.mono h3.size)
  go_ret2
  exact ⟨by rw [HH.out, HLo.out]; rfl, HB.out⟩
set_option maxHeartbeats 1600000 in
set_option maxRecDepth 100000 in
theorem polyBig_ok (v : BitVec 128) (w : World) : Calls Tryz.prog 271 #[BV v] w fun e w' => e = .returned (PV (rv v)) ∧ Below w.heap.size w w' := by
  have HA : Hid (Below w.heap.size w ((w.alloc (.cells #[.int .u8 (byV v 0 : Nat), .int .u8 (byV v 1 : Nat), .int .u8 (byV v 2 : Nat), .int .u8 (byV v 3 : Nat), .int .u8 (byV v 4 : Nat), .int .u8 (byV v 5 : Nat), .int .u8 (byV v 6 : Nat), .int .u8 (byV v 7 : Nat), .int .u8 (byV v 8 : Nat), .int .u8 (byV v 9 : Nat), .int .u8 (byV v 10 : Nat), .int .u8 (byV v 11 : Nat), .int .u8 (byV v 12 : Nat), .int .u8 (byV v 13 : Nat), .int .u8 (byV v 14 : Nat), .int .u8 (byV v 15 : Nat)] 29)).alloc (.cells #[.int .u64 0, .int .u64 0] 122)) ∧ ((w.alloc (.cells #[.int .u8 (byV v 0 : Nat), .int .u8 (byV v 1 : Nat), .int .u8 (byV v 2 : Nat), .int .u8 (byV v 3 : Nat), .int .u8 (byV v 4 : Nat), .int .u8 (byV v 5 : Nat), .int .u8 (byV v 6 : Nat), .int .u8 (byV v 7 : Nat), .int .u8 (byV v 8 : Nat), .int .u8 (byV v 9 : Nat), .int .u8 (byV v 10 : Nat), .int .u8 (byV v 11 : Nat), .int .u8 (byV v 12 : Nat), .int .u8 (byV v 13 : Nat), .int .u8 (byV v 14 : Nat), .int .u8 (byV v 15 : Nat)] 29)).alloc (.cells #[.int .u64 0, .int .u64 0] 122)).rangeAt w.heap.size 0 (BL v) ∧ ((w.alloc (.cells #[.int .u8 (byV v 0 : Nat), .int .u8 (byV v 1 : Nat), .int .u8 (byV v 2 : Nat), .int .u8 (byV v 3 : Nat), .int .u8 (byV v 4 : Nat), .int .u8 (byV v 5 : Nat), .int .u8 (byV v 6 : Nat), .int .u8 (byV v 7 : Nat), .int .u8 (byV v 8 : Nat), .int .u8 (byV v 9 : Nat), .int .u8 (byV v 10 : Nat), .int .u8 (byV v 11 : Nat), .int .u8 (byV v 12 : Nat), .int .u8 (byV v 13 : Nat), .int .u8 (byV v 14 : Nat), .int .u8 (byV v 15 : Nat)] 29)).alloc (.cells #[.int .u64 0, .int .u64 0] 122)).there (w.heap.size + 1) 0 2 ∧ ((w.alloc (.cells #[.int .u8 (byV v 0 : Nat), .int .u8 (byV v 1 : Nat), .int .u8 (byV v 2 : Nat), .int .u8 (byV v 3 : Nat), .int .u8 (byV v 4 : Nat), .int .u8 (byV v 5 : Nat), .int .u8 (byV v 6 : Nat), .int .u8 (byV v 7 : Nat), .int .u8 (byV v 8 : Nat), .int .u8 (byV v 9 : Nat), .int .u8 (byV v 10 : Nat), .int .u8 (byV v 11 : Nat), .int .u8 (byV v 12 : Nat), .int .u8 (byV v 13 : Nat), .int .u8 (byV v 14 : Nat), .int .u8 (byV v 15 : Nat)] 29)).alloc (.cells #[.int .u64 0, .int .u64 0] 122)).heap.size = w.heap.size + 2) := by
    refine ⟨below2 w _ _, range_below (rangeAt_new w #[.int .u8 (byV v 0 : Nat), .int .u8 (byV v 1 : Nat), .int .u8 (byV v 2 : Nat), .int .u8 (byV v 3 : Nat), .int .u8 (byV v 4 : Nat), .int .u8 (byV v 5 : Nat), .int .u8 (byV v 6 : Nat), .int .u8 (byV v 7 : Nat), .int .u8 (byV v 8 : Nat), .int .u8 (byV v 9 : Nat), .int .u8 (byV v 10 : Nat), .int .u8 (byV v 11 : Nat), .int .u8 (byV v 12 : Nat), .int .u8 (byV v 13 : Nat), .int .u8 (byV v 14 : Nat), .int .u8 (byV v 15 : Nat)] 29) ((Below.refl _ _).alloc (Nat.le_refl _) _) (by simp), ?_, by simp⟩
    have h := there_new (w.alloc (.cells #[.int .u8 (byV v 0 : Nat), .int .u8 (byV v 1 : Nat), .int .u8 (byV v 2 : Nat), .int .u8 (byV v 3 : Nat), .int .u8 (byV v 4 : Nat), .int .u8 (byV v 5 : Nat), .int .u8 (byV v 6 : Nat), .int .u8 (byV v 7 : Nat), .int .u8 (byV v 8 : Nat), .int .u8 (byV v 9 : Nat), .int .u8 (byV v 10 : Nat), .int .u8 (byV v 11 : Nat), .int .u8 (byV v 12 : Nat), .int .u8 (byV v 13 : Nat), .int .u8 (byV v 14 : Nat), .int .u8 (byV v 15 : Nat)] 29)) #[.int .u64 0, .int .u64 0] 122 2 (Nat.le_refl _)
    simpa using h
  have KF : Hid (∀ u, Calls Tryz.prog 246 #[.agg (BL v).toArray] u fun e w' => e = .returned (.tuple #[.int .u64 (hiV (rv v) : Nat), .int .u64 (loV (rv v) : Nat)]) ∧ Below u.heap.size u w') := fun u => fromBig_ok v u
  show Calls Tryz.prog 271 #[.agg #[.int .u8 (byV v 0 : Nat), .int .u8 (byV v 1 : Nat), .int .u8 (byV v 2 : Nat), .int .u8 (byV v 3 : Nat), .int .u8 (byV v 4 : Nat), .int .u8 (byV v 5 : Nat), .int .u8 (byV v 6 : Nat), .int .u8 (byV v 7 : Nat), .int .u8 (byV v 8 : Nat), .int .u8 (byV v 9 : Nat), .int .u8 (byV v 10 : Nat), .int .u8 (byV v 11 : Nat), .int .u8 (byV v 12 : Nat), .int .u8 (byV v 13 : Nat), .int .u8 (byV v 14 : Nat), .int .u8 (byV v 15 : Nat)]] w _
  go_enter Tryz.func271, Tryz.ntmps271
  go_upto_region 1 with fail
  generalize (w.alloc (.cells #[.int .u8 (byV v 0 : Nat), .int .u8 (byV v 1 : Nat), .int .u8 (byV v 2 : Nat), .int .u8 (byV v 3 : Nat), .int .u8 (byV v 4 : Nat), .int .u8 (byV v 5 : Nat), .int .u8 (byV v 6 : Nat), .int .u8 (byV v 7 : Nat), .int .u8 (byV v 8 : Nat), .int .u8 (byV v 9 : Nat), .int .u8 (byV v 10 : Nat), .int .u8 (byV v 11 : Nat), .int .u8 (byV v 12 : Nat), .int .u8 (byV v 13 : Nat), .int .u8 (byV v 14 : Nat), .int .u8 (byV v 15 : Nat)] 29)).alloc (.cells #[.int .u64 0, .int .u64 0] 122) = w2 at HA ⊢
  obtain ⟨L, HL⟩ : ∃ L, Hid (L = BL v) := ⟨_, rfl⟩
  rw [← HL.out] at HA KF
  have HLl : Hid (L.length = 16) := by show _ = _; rw [HL.out]; rfl
  go_wp2_with (first
    | (refine wpList_load_mid (by rfl) 29 (.tmp 1) (by rfl) w.heap.size 0 (by rfl) L _ HA.out.2.1 Tryz.underlying29 rfl (by rw [HLl.out]; exact size23) ?_)
    | (go_at_call 246; refine (KF.out _).mono ?_))
  rintro e w3 ⟨rfl, hb3⟩
  have H3 : Hid (w3.there (w.heap.size + 1) 0 2 ∧ Below w.heap.size w w3) := by
    obtain ⟨p1, p2, p3, p4⟩ := HA.out
    exact ⟨there_below p3 hb3 (by omega), p1.trans (hb3.mono (by omega))⟩
  clear hb3 KF
  obtain ⟨hi, HH⟩ : ∃ x, Hid (x = hiV (rv v)) := ⟨_, rfl⟩
  obtain ⟨lo, HLo⟩ : ∃ x, Hid (x = loV (rv v)) := ⟨_, rfl⟩
  rw [← HH.out, ← HLo.out]
  go_wp2_with (first
    | (refine wpList_store_mid (by rfl) 122 (.tmp 2) (.tmp 12) (by rfl) (w.heap.size + 1) 0 #[.int .u64 (hi : Nat), .int .u64 (lo : Nat)] (by rfl) (by rfl) H3.out.1 size35 (by kernel_rfl) ?_))
  refine ret_array [.int .u64 (hi : Nat), .int .u64 (lo : Nat)] Tryz.results271 rfl (World.rangeAt_setCells_same _ _ _ _ H3.out.1) Tryz.underlying122 rfl size35 ⟨?_, belowB_setCells _ (by omega) _ _ _ H3.out.2⟩
  rw [HH.out, HLo.out]
  rfl
set_option maxHeartbeats 1600000 in
set_option maxRecDepth 100000 in
theorem big_ok (v : BitVec 128) (w : World) : Calls Tryz.prog 139 #[.int .u64 (hiV v : Nat), .int .u64 (loV v : Nat)] w fun e w' => e = .returned (BV (rv v)) ∧ Below w.heap.size w w' := by
  have HA : Hid (Below w.heap.size w (w.alloc (.cells #[.int .u8 0, .int .u8 0, .int .u8 0, .int .u8 0, .int .u8 0, .int .u8 0, .int .u8 0, .int .u8 0, .int .u8 0, .int .u8 0, .int .u8 0, .int .u8 0, .int .u8 0, .int .u8 0, .int .u8 0, .int .u8 0] 29)) ∧ (w.alloc (.cells #[.int .u8 0, .int .u8 0, .int .u8 0, .int .u8 0, .int .u8 0, .int .u8 0, .int .u8 0, .int .u8 0, .int .u8 0, .int .u8 0, .int .u8 0, .int .u8 0, .int .u8 0, .int .u8 0, .int .u8 0, .int .u8 0] 29)).there w.heap.size 0 16 ∧ (w.alloc (.cells #[.int .u8 0, .int .u8 0, .int .u8 0, .int .u8 0, .int .u8 0, .int .u8 0, .int .u8 0, .int .u8 0, .int .u8 0, .int .u8 0, .int .u8 0, .int .u8 0, .int .u8 0, .int .u8 0, .int .u8 0, .int .u8 0] 29)).heap.size = w.heap.size + 1) := ⟨(Below.refl _ _).alloc (Nat.le_refl _) _, there_new w _ 29 16 (Nat.le_refl _), by simp⟩
  have KL : Hid (∀ u, Calls Tryz.prog 64 #[.int .u64 (hiV v : Nat), .int .u64 (loV v : Nat)] u fun e w' => e = .returned (.agg (BL v).toArray) ∧ Below u.heap.size u w') := fun u => little_ok v u
  have KT : Hid (∀ u, Calls Tryz.prog 199 #[.agg (BL v).toArray] u fun e w' => e = .returned (.agg (BL (rv v)).toArray) ∧ Below u.heap.size u w') := fun u => turned_ok v u
  obtain ⟨hi, HH⟩ : ∃ x, Hid (x = hiV v) := ⟨_, rfl⟩
  obtain ⟨lo, HLo⟩ : ∃ x, Hid (x = loV v) := ⟨_, rfl⟩
  obtain ⟨L, HL⟩ : ∃ L, Hid (L = BL v) := ⟨_, rfl⟩
  obtain ⟨LR, HLR⟩ : ∃ L, Hid (L = BL (rv v)) := ⟨_, rfl⟩
  rw [← HH.out, ← HLo.out, ← HL.out] at KL
  rw [← HL.out, ← HLR.out] at KT
  rw [← HH.out, ← HLo.out]
  go_enter Tryz.func139, Tryz.ntmps139
  go_upto_region 1 with fail
  generalize w.alloc (.cells #[.int .u8 0, .int .u8 0, .int .u8 0, .int .u8 0, .int .u8 0, .int .u8 0, .int .u8 0, .int .u8 0, .int .u8 0, .int .u8 0, .int .u8 0, .int .u8 0, .int .u8 0, .int .u8 0, .int .u8 0, .int .u8 0] 29) = w2 at HA ⊢
  have hlr : Hid (LR.length = 16) := by show _ = _; rw [HLR.out]; rfl
  have hor : Hid (LR.toArray.all (·.oneCell') = true) := by show _ = _; rw [HLR.out]; exact BL_one _
  go_wp2_with (first
    | (go_at_call 64; refine (KL.out _).mono ?_; rintro e w3 ⟨rfl, hb3⟩)
    | (go_at_call 199; refine (KT.out _).mono ?_))
  rintro e w4 ⟨rfl, hb4⟩
  have HW : Hid (w4.there w.heap.size 0 LR.length ∧ Below w.heap.size w w4) := by
    obtain ⟨p1, p2, p3⟩ := HA.out
    have h3 := p1.trans (hb3.mono p1.size)
    have z3 := hb3.size
    have z4 := h3.size
    exact ⟨by rw [hlr.out]; exact there_below (there_below p2 hb3 (by omega)) hb4 (by omega), h3.trans (hb4.mono (by omega))⟩
  clear hb3 hb4
  have hTH := HW.out.1
  go_wp2_with (first
    | (refine wpList_store_mid (by rfl) 29 (.tmp 4) (.tmp 8) (by rfl) w.heap.size 0 LR.toArray (by rfl) (by rfl) (by simpa using hTH) (by rw [List.size_toArray, hlr.out]; exact size23) hor.out ?_))
  refine ret_array LR Tryz.results139 rfl (World.rangeAt_setCells_same _ _ _ _ hTH) Tryz.underlying29 rfl (by rw [hlr.out]; exact size23) ⟨?_, belowB_setCells _ (Nat.le_refl _) _ _ _ HW.out.2⟩
  rw [HLR.out]
  rfl
end Go.Proofs.YtcnikfikpnnblaaGreatDoor.Fd
