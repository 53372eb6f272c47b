import Derived.Test.YtogpkphnkbebeaaDbl
import Derived.Test.YtogpkphnkbebeaaHash
namespace Go.Proofs.Ytogpkphnkbebeaa
open Go.RowKit Go.Proofs.Ytogpkphnkbebeaa.Fld
set_option linter.unusedVariables false
set_option linter.unusedSimpArgs false
set_option maxHeartbeats 12800000 in
set_option maxRecDepth 100000 in
theorem field_ok (a b c : BitVec 128) (w : World) : Calls Try.prog 4 #[BV a, BV b, BV c] w fun e w' => e = .returned (.bool true) ∧ Below w.heap.size w w' := by
  have HA : Hid (Below w.heap.size w (((w.alloc (.cells #[.int .u8 (byV a 0 : Nat), .int .u8 (byV a 1 : Nat), .int .u8 (byV a 2 : Nat), .int .u8 (byV a 3 : Nat), .int .u8 (byV a 4 : Nat), .int .u8 (byV a 5 : Nat), .int .u8 (byV a 6 : Nat), .int .u8 (byV a 7 : Nat), .int .u8 (byV a 8 : Nat), .int .u8 (byV a 9 : Nat), .int .u8 (byV a 10 : Nat), .int .u8 (byV a 11 : Nat), .int .u8 (byV a 12 : Nat), .int .u8 (byV a 13 : Nat), .int .u8 (byV a 14 : Nat), .int .u8 (byV a 15 : Nat)] 23)).alloc (.cells #[.int .u8 (byV b 0 : Nat), .int .u8 (byV b 1 : Nat), .int .u8 (byV b 2 : Nat), .int .u8 (byV b 3 : Nat), .int .u8 (byV b 4 : Nat), .int .u8 (byV b 5 : Nat), .int .u8 (byV b 6 : Nat), .int .u8 (byV b 7 : Nat), .int .u8 (byV b 8 : Nat), .int .u8 (byV b 9 : Nat), .int .u8 (byV b 10 : Nat), .int .u8 (byV b 11 : Nat), .int .u8 (byV b 12 : Nat), .int .u8 (byV b 13 : Nat), .int .u8 (byV b 14 : Nat), .int .u8 (byV b 15 : Nat)] 23)).alloc (.cells #[.int .u8 (byV c 0 : Nat), .int .u8 (byV c 1 : Nat), .int .u8 (byV c 2 : Nat), .int .u8 (byV c 3 : Nat), .int .u8 (byV c 4 : Nat), .int .u8 (byV c 5 : Nat), .int .u8 (byV c 6 : Nat), .int .u8 (byV c 7 : Nat), .int .u8 (byV c 8 : Nat), .int .u8 (byV c 9 : Nat), .int .u8 (byV c 10 : Nat), .int .u8 (byV c 11 : Nat), .int .u8 (byV c 12 : Nat), .int .u8 (byV c 13 : Nat), .int .u8 (byV c 14 : Nat), .int .u8 (byV c 15 : Nat)] 23)) ∧ (((w.alloc (.cells #[.int .u8 (byV a 0 : Nat), .int .u8 (byV a 1 : Nat), .int .u8 (byV a 2 : Nat), .int .u8 (byV a 3 : Nat), .int .u8 (byV a 4 : Nat), .int .u8 (byV a 5 : Nat), .int .u8 (byV a 6 : Nat), .int .u8 (byV a 7 : Nat), .int .u8 (byV a 8 : Nat), .int .u8 (byV a 9 : Nat), .int .u8 (byV a 10 : Nat), .int .u8 (byV a 11 : Nat), .int .u8 (byV a 12 : Nat), .int .u8 (byV a 13 : Nat), .int .u8 (byV a 14 : Nat), .int .u8 (byV a 15 : Nat)] 23)).alloc (.cells #[.int .u8 (byV b 0 : Nat), .int .u8 (byV b 1 : Nat), .int .u8 (byV b 2 : Nat), .int .u8 (byV b 3 : Nat), .int .u8 (byV b 4 : Nat), .int .u8 (byV b 5 : Nat), .int .u8 (byV b 6 : Nat), .int .u8 (byV b 7 : Nat), .int .u8 (byV b 8 : Nat), .int .u8 (byV b 9 : Nat), .int .u8 (byV b 10 : Nat), .int .u8 (byV b 11 : Nat), .int .u8 (byV b 12 : Nat), .int .u8 (byV b 13 : Nat), .int .u8 (byV b 14 : Nat), .int .u8 (byV b 15 : Nat)] 23)).alloc (.cells #[.int .u8 (byV c 0 : Nat), .int .u8 (byV c 1 : Nat), .int .u8 (byV c 2 : Nat), .int .u8 (byV c 3 : Nat), .int .u8 (byV c 4 : Nat), .int .u8 (byV c 5 : Nat), .int .u8 (byV c 6 : Nat), .int .u8 (byV c 7 : Nat), .int .u8 (byV c 8 : Nat), .int .u8 (byV c 9 : Nat), .int .u8 (byV c 10 : Nat), .int .u8 (byV c 11 : Nat), .int .u8 (byV c 12 : Nat), .int .u8 (byV c 13 : Nat), .int .u8 (byV c 14 : Nat), .int .u8 (byV c 15 : Nat)] 23)).rangeAt w.heap.size 0 (BL a) ∧ (((w.alloc (.cells #[.int .u8 (byV a 0 : Nat), .int .u8 (byV a 1 : Nat), .int .u8 (byV a 2 : Nat), .int .u8 (byV a 3 : Nat), .int .u8 (byV a 4 : Nat), .int .u8 (byV a 5 : Nat), .int .u8 (byV a 6 : Nat), .int .u8 (byV a 7 : Nat), .int .u8 (byV a 8 : Nat), .int .u8 (byV a 9 : Nat), .int .u8 (byV a 10 : Nat), .int .u8 (byV a 11 : Nat), .int .u8 (byV a 12 : Nat), .int .u8 (byV a 13 : Nat), .int .u8 (byV a 14 : Nat), .int .u8 (byV a 15 : Nat)] 23)).alloc (.cells #[.int .u8 (byV b 0 : Nat), .int .u8 (byV b 1 : Nat), .int .u8 (byV b 2 : Nat), .int .u8 (byV b 3 : Nat), .int .u8 (byV b 4 : Nat), .int .u8 (byV b 5 : Nat), .int .u8 (byV b 6 : Nat), .int .u8 (byV b 7 : Nat), .int .u8 (byV b 8 : Nat), .int .u8 (byV b 9 : Nat), .int .u8 (byV b 10 : Nat), .int .u8 (byV b 11 : Nat), .int .u8 (byV b 12 : Nat), .int .u8 (byV b 13 : Nat), .int .u8 (byV b 14 : Nat), .int .u8 (byV b 15 : Nat)] 23)).alloc (.cells #[.int .u8 (byV c 0 : Nat), .int .u8 (byV c 1 : Nat), .int .u8 (byV c 2 : Nat), .int .u8 (byV c 3 : Nat), .int .u8 (byV c 4 : Nat), .int .u8 (byV c 5 : Nat), .int .u8 (byV c 6 : Nat), .int .u8 (byV c 7 : Nat), .int .u8 (byV c 8 : Nat), .int .u8 (byV c 9 : Nat), .int .u8 (byV c 10 : Nat), .int .u8 (byV c 11 : Nat), .int .u8 (byV c 12 : Nat), .int .u8 (byV c 13 : Nat), .int .u8 (byV c 14 : Nat), .int .u8 (byV c 15 : Nat)] 23)).rangeAt (w.heap.size + 1) 0 (BL b) ∧ (((w.alloc (.cells #[.int .u8 (byV a 0 : Nat), .int .u8 (byV a 1 : Nat), .int .u8 (byV a 2 : Nat), .int .u8 (byV a 3 : Nat), .int .u8 (byV a 4 : Nat), .int .u8 (byV a 5 : Nat), .int .u8 (byV a 6 : Nat), .int .u8 (byV a 7 : Nat), .int .u8 (byV a 8 : Nat), .int .u8 (byV a 9 : Nat), .int .u8 (byV a 10 : Nat), .int .u8 (byV a 11 : Nat), .int .u8 (byV a 12 : Nat), .int .u8 (byV a 13 : Nat), .int .u8 (byV a 14 : Nat), .int .u8 (byV a 15 : Nat)] 23)).alloc (.cells #[.int .u8 (byV b 0 : Nat), .int .u8 (byV b 1 : Nat), .int .u8 (byV b 2 : Nat), .int .u8 (byV b 3 : Nat), .int .u8 (byV b 4 : Nat), .int .u8 (byV b 5 : Nat), .int .u8 (byV b 6 : Nat), .int .u8 (byV b 7 : Nat), .int .u8 (byV b 8 : Nat), .int .u8 (byV b 9 : Nat), .int .u8 (byV b 10 : Nat), .int .u8 (byV b 11 : Nat), .int .u8 (byV b 12 : Nat), .int .u8 (byV b 13 : Nat), .int .u8 (byV b 14 : Nat), .int .u8 (byV b 15 : Nat)] 23)).alloc (.cells #[.int .u8 (byV c 0 : Nat), .int .u8 (byV c 1 : Nat), .int .u8 (byV c 2 : Nat), .int .u8 (byV c 3 : Nat), .int .u8 (byV c 4 : Nat), .int .u8 (byV c 5 : Nat), .int .u8 (byV c 6 : Nat), .int .u8 (byV c 7 : Nat), .int .u8 (byV c 8 : Nat), .int .u8 (byV c 9 : Nat), .int .u8 (byV c 10 : Nat), .int .u8 (byV c 11 : Nat), .int .u8 (byV c 12 : Nat), .int .u8 (byV c 13 : Nat), .int .u8 (byV c 14 : Nat), .int .u8 (byV c 15 : Nat)] 23)).rangeAt (w.heap.size + 2) 0 (BL c) ∧ (((w.alloc (.cells #[.int .u8 (byV a 0 : Nat), .int .u8 (byV a 1 : Nat), .int .u8 (byV a 2 : Nat), .int .u8 (byV a 3 : Nat), .int .u8 (byV a 4 : Nat), .int .u8 (byV a 5 : Nat), .int .u8 (byV a 6 : Nat), .int .u8 (byV a 7 : Nat), .int .u8 (byV a 8 : Nat), .int .u8 (byV a 9 : Nat), .int .u8 (byV a 10 : Nat), .int .u8 (byV a 11 : Nat), .int .u8 (byV a 12 : Nat), .int .u8 (byV a 13 : Nat), .int .u8 (byV a 14 : Nat), .int .u8 (byV a 15 : Nat)] 23)).alloc (.cells #[.int .u8 (byV b 0 : Nat), .int .u8 (byV b 1 : Nat), .int .u8 (byV b 2 : Nat), .int .u8 (byV b 3 : Nat), .int .u8 (byV b 4 : Nat), .int .u8 (byV b 5 : Nat), .int .u8 (byV b 6 : Nat), .int .u8 (byV b 7 : Nat), .int .u8 (byV b 8 : Nat), .int .u8 (byV b 9 : Nat), .int .u8 (byV b 10 : Nat), .int .u8 (byV b 11 : Nat), .int .u8 (byV b 12 : Nat), .int .u8 (byV b 13 : Nat), .int .u8 (byV b 14 : Nat), .int .u8 (byV b 15 : Nat)] 23)).alloc (.cells #[.int .u8 (byV c 0 : Nat), .int .u8 (byV c 1 : Nat), .int .u8 (byV c 2 : Nat), .int .u8 (byV c 3 : Nat), .int .u8 (byV c 4 : Nat), .int .u8 (byV c 5 : Nat), .int .u8 (byV c 6 : Nat), .int .u8 (byV c 7 : Nat), .int .u8 (byV c 8 : Nat), .int .u8 (byV c 9 : Nat), .int .u8 (byV c 10 : Nat), .int .u8 (byV c 11 : Nat), .int .u8 (byV c 12 : Nat), .int .u8 (byV c 13 : Nat), .int .u8 (byV c 14 : Nat), .int .u8 (byV c 15 : Nat)] 23)).heap.size = w.heap.size + 3) := by
    have e1 : Below (w.heap.size + 1) (w.alloc (.cells #[.int .u8 (byV a 0 : Nat), .int .u8 (byV a 1 : Nat), .int .u8 (byV a 2 : Nat), .int .u8 (byV a 3 : Nat), .int .u8 (byV a 4 : Nat), .int .u8 (byV a 5 : Nat), .int .u8 (byV a 6 : Nat), .int .u8 (byV a 7 : Nat), .int .u8 (byV a 8 : Nat), .int .u8 (byV a 9 : Nat), .int .u8 (byV a 10 : Nat), .int .u8 (byV a 11 : Nat), .int .u8 (byV a 12 : Nat), .int .u8 (byV a 13 : Nat), .int .u8 (byV a 14 : Nat), .int .u8 (byV a 15 : Nat)] 23)) (((w.alloc (.cells #[.int .u8 (byV a 0 : Nat), .int .u8 (byV a 1 : Nat), .int .u8 (byV a 2 : Nat), .int .u8 (byV a 3 : Nat), .int .u8 (byV a 4 : Nat), .int .u8 (byV a 5 : Nat), .int .u8 (byV a 6 : Nat), .int .u8 (byV a 7 : Nat), .int .u8 (byV a 8 : Nat), .int .u8 (byV a 9 : Nat), .int .u8 (byV a 10 : Nat), .int .u8 (byV a 11 : Nat), .int .u8 (byV a 12 : Nat), .int .u8 (byV a 13 : Nat), .int .u8 (byV a 14 : Nat), .int .u8 (byV a 15 : Nat)] 23)).alloc (.cells #[.int .u8 (byV b 0 : Nat), .int .u8 (byV b 1 : Nat), .int .u8 (byV b 2 : Nat), .int .u8 (byV b 3 : Nat), .int .u8 (byV b 4 : Nat), .int .u8 (byV b 5 : Nat), .int .u8 (byV b 6 : Nat), .int .u8 (byV b 7 : Nat), .int .u8 (byV b 8 : Nat), .int .u8 (byV b 9 : Nat), .int .u8 (byV b 10 : Nat), .int .u8 (byV b 11 : Nat), .int .u8 (byV b 12 : Nat), .int .u8 (byV b 13 : Nat), .int .u8 (byV b 14 : Nat), .int .u8 (byV b 15 : Nat)] 23)).alloc (.cells #[.int .u8 (byV c 0 : Nat), .int .u8 (byV c 1 : Nat), .int .u8 (byV c 2 : Nat), .int .u8 (byV c 3 : Nat), .int .u8 (byV c 4 : Nat), .int .u8 (byV c 5 : Nat), .int .u8 (byV c 6 : Nat), .int .u8 (byV c 7 : Nat), .int .u8 (byV c 8 : Nat), .int .u8 (byV c 9 : Nat), .int .u8 (byV c 10 : Nat), .int .u8 (byV c 11 : Nat), .int .u8 (byV c 12 : Nat), .int .u8 (byV c 13 : Nat), .int .u8 (byV c 14 : Nat), .int .u8 (byV c 15 : Nat)] 23)) := ((Below.refl _ _).alloc (by simp) _).alloc (by simp) _
    have e2 : Below (w.heap.size + 2) ((w.alloc (.cells #[.int .u8 (byV a 0 : Nat), .int .u8 (byV a 1 : Nat), .int .u8 (byV a 2 : Nat), .int .u8 (byV a 3 : Nat), .int .u8 (byV a 4 : Nat), .int .u8 (byV a 5 : Nat), .int .u8 (byV a 6 : Nat), .int .u8 (byV a 7 : Nat), .int .u8 (byV a 8 : Nat), .int .u8 (byV a 9 : Nat), .int .u8 (byV a 10 : Nat), .int .u8 (byV a 11 : Nat), .int .u8 (byV a 12 : Nat), .int .u8 (byV a 13 : Nat), .int .u8 (byV a 14 : Nat), .int .u8 (byV a 15 : Nat)] 23)).alloc (.cells #[.int .u8 (byV b 0 : Nat), .int .u8 (byV b 1 : Nat), .int .u8 (byV b 2 : Nat), .int .u8 (byV b 3 : Nat), .int .u8 (byV b 4 : Nat), .int .u8 (byV b 5 : Nat), .int .u8 (byV b 6 : Nat), .int .u8 (byV b 7 : Nat), .int .u8 (byV b 8 : Nat), .int .u8 (byV b 9 : Nat), .int .u8 (byV b 10 : Nat), .int .u8 (byV b 11 : Nat), .int .u8 (byV b 12 : Nat), .int .u8 (byV b 13 : Nat), .int .u8 (byV b 14 : Nat), .int .u8 (byV b 15 : Nat)] 23)) (((w.alloc (.cells #[.int .u8 (byV a 0 : Nat), .int .u8 (byV a 1 : Nat), .int .u8 (byV a 2 : Nat), .int .u8 (byV a 3 : Nat), .int .u8 (byV a 4 : Nat), .int .u8 (byV a 5 : Nat), .int .u8 (byV a 6 : Nat), .int .u8 (byV a 7 : Nat), .int .u8 (byV a 8 : Nat), .int .u8 (byV a 9 : Nat), .int .u8 (byV a 10 : Nat), .int .u8 (byV a 11 : Nat), .int .u8 (byV a 12 : Nat), .int .u8 (byV a 13 : Nat), .int .u8 (byV a 14 : Nat), .int .u8 (byV a 15 : Nat)] 23)).alloc (.cells #[.int .u8 (byV b 0 : Nat), .int .u8 (byV b 1 : Nat), .int .u8 (byV b 2 : Nat), .int .u8 (byV b 3 : Nat), .int .u8 (byV b 4 : Nat), .int .u8 (byV b 5 : Nat), .int .u8 (byV b 6 : Nat), .int .u8 (byV b 7 : Nat), .int .u8 (byV b 8 : Nat), .int .u8 (byV b 9 : Nat), .int .u8 (byV b 10 : Nat), .int .u8 (byV b 11 : Nat), .int .u8 (byV b 12 : Nat), .int .u8 (byV b 13 : Nat), .int .u8 (byV b 14 : Nat), .int .u8 (byV b 15 : Nat)] 23)).alloc (.cells #[.int .u8 (byV c 0 : Nat), .int .u8 (byV c 1 : Nat), .int .u8 (byV c 2 : Nat), .int .u8 (byV c 3 : Nat), .int .u8 (byV c 4 : Nat), .int .u8 (byV c 5 : Nat), .int .u8 (byV c 6 : Nat), .int .u8 (byV c 7 : Nat), .int .u8 (byV c 8 : Nat), .int .u8 (byV c 9 : Nat), .int .u8 (byV c 10 : Nat), .int .u8 (byV c 11 : Nat), .int .u8 (byV c 12 : Nat), .int .u8 (byV c 13 : Nat), .int .u8 (byV c 14 : Nat), .int .u8 (byV c 15 : Nat)] 23)) := (Below.refl _ _).alloc (by simp) _
    exact ⟨below3 w _ _ _, range_below (rangeAt_new w #[.int .u8 (byV a 0 : Nat), .int .u8 (byV a 1 : Nat), .int .u8 (byV a 2 : Nat), .int .u8 (byV a 3 : Nat), .int .u8 (byV a 4 : Nat), .int .u8 (byV a 5 : Nat), .int .u8 (byV a 6 : Nat), .int .u8 (byV a 7 : Nat), .int .u8 (byV a 8 : Nat), .int .u8 (byV a 9 : Nat), .int .u8 (byV a 10 : Nat), .int .u8 (byV a 11 : Nat), .int .u8 (byV a 12 : Nat), .int .u8 (byV a 13 : Nat), .int .u8 (byV a 14 : Nat), .int .u8 (byV a 15 : Nat)] 23) e1 (by omega), range_below (range2 w _ #[.int .u8 (byV b 0 : Nat), .int .u8 (byV b 1 : Nat), .int .u8 (byV b 2 : Nat), .int .u8 (byV b 3 : Nat), .int .u8 (byV b 4 : Nat), .int .u8 (byV b 5 : Nat), .int .u8 (byV b 6 : Nat), .int .u8 (byV b 7 : Nat), .int .u8 (byV b 8 : Nat), .int .u8 (byV b 9 : Nat), .int .u8 (byV b 10 : Nat), .int .u8 (byV b 11 : Nat), .int .u8 (byV b 12 : Nat), .int .u8 (byV b 13 : Nat), .int .u8 (byV b 14 : Nat), .int .u8 (byV b 15 : Nat)] 23) e2 (by omega), range3 w _ _ #[.int .u8 (byV c 0 : Nat), .int .u8 (byV c 1 : Nat), .int .u8 (byV c 2 : Nat), .int .u8 (byV c 3 : Nat), .int .u8 (byV c 4 : Nat), .int .u8 (byV c 5 : Nat), .int .u8 (byV c 6 : Nat), .int .u8 (byV c 7 : Nat), .int .u8 (byV c 8 : Nat), .int .u8 (byV c 9 : Nat), .int .u8 (byV c 10 : Nat), .int .u8 (byV c 11 : Nat), .int .u8 (byV c 12 : Nat), .int .u8 (byV c 13 : Nat), .int .u8 (byV c 14 : Nat), .int .u8 (byV c 15 : Nat)] 23, by simp⟩
  obtain ⟨La, HLa⟩ : ∃ L, Hid (L = BL (a)) := ⟨_, rfl⟩
  obtain ⟨Lb, HLb⟩ : ∃ L, Hid (L = BL (b)) := ⟨_, rfl⟩
  obtain ⟨Lc, HLc⟩ : ∃ L, Hid (L = BL (c)) := ⟨_, rfl⟩
  obtain ⟨Lo, HLo⟩ : ∃ L, Hid (L = BL (rv (e 0))) := ⟨_, rfl⟩
  obtain ⟨D1, HD1⟩ : ∃ L, Hid (L = BL (TB a b)) := ⟨_, rfl⟩
  obtain ⟨P1, HP1⟩ : ∃ L, Hid (L = BL (b ^^^ c)) := ⟨_, rfl⟩
  obtain ⟨E1, HE1⟩ : ∃ L, Hid (L = BL (TB a (b ^^^ c))) := ⟨_, rfl⟩
  obtain ⟨D2, HD2⟩ : ∃ L, Hid (L = BL (TB a c)) := ⟨_, rfl⟩
  obtain ⟨F1, HF1⟩ : ∃ L, Hid (L = BL (TB (TB a b) c)) := ⟨_, rfl⟩
  obtain ⟨D3, HD3⟩ : ∃ L, Hid (L = BL (TB b c)) := ⟨_, rfl⟩
  obtain ⟨Ld, HLd⟩ : ∃ L, Hid (L = BL (TX a)) := ⟨_, rfl⟩
  obtain ⟨Lr, HLr⟩ : ∃ L, Hid (L = BL (rv (TX a))) := ⟨_, rfl⟩
  obtain ⟨Lt, HLt⟩ : ∃ L, Hid (L = BL (rv a)) := ⟨_, rfl⟩
  have Kab : Hid (∀ u, Calls Try.prog 9 #[.agg La.toArray, .agg Lb.toArray] u fun e w' => e = .returned (.agg D1.toArray) ∧ Below u.heap.size u w') := fun u => by rw [HLa.out, HLb.out, HD1.out]; exact times_ok a b u
  have Kba : Hid (∀ u, Calls Try.prog 9 #[.agg Lb.toArray, .agg La.toArray] u fun e w' => e = .returned (.agg D1.toArray) ∧ Below u.heap.size u w') := fun u => by rw [HLb.out, HLa.out, HD1.out, TB_comm a b]; exact times_ok b a u
  have Ka1 : Hid (∀ u, Calls Try.prog 9 #[.agg La.toArray, .agg Lo.toArray] u fun e w' => e = .returned (.agg La.toArray) ∧ Below u.heap.size u w') := fun u => by have q := times_ok a (rv (e 0)) u; rw [TB_one] at q; rw [HLa.out, HLo.out]; exact q
  have Ka0 : Hid (∀ u, Calls Try.prog 9 #[.agg La.toArray, .agg #[.int .u8 0, .int .u8 0, .int .u8 0, .int .u8 0, .int .u8 0, .int .u8 0, .int .u8 0, .int .u8 0, .int .u8 0, .int .u8 0, .int .u8 0, .int .u8 0, .int .u8 0, .int .u8 0, .int .u8 0, .int .u8 0]] u fun e w' => e = .returned (.agg #[.int .u8 0, .int .u8 0, .int .u8 0, .int .u8 0, .int .u8 0, .int .u8 0, .int .u8 0, .int .u8 0, .int .u8 0, .int .u8 0, .int .u8 0, .int .u8 0, .int .u8 0, .int .u8 0, .int .u8 0, .int .u8 0]) ∧ Below u.heap.size u w') := fun u => by have q := times_ok a 0#128 u; rw [TB_zero_right] at q; have z : BV 0#128 = .agg #[.int .u8 0, .int .u8 0, .int .u8 0, .int .u8 0, .int .u8 0, .int .u8 0, .int .u8 0, .int .u8 0, .int .u8 0, .int .u8 0, .int .u8 0, .int .u8 0, .int .u8 0, .int .u8 0, .int .u8 0, .int .u8 0] := (by show Value.agg (BL 0#128).toArray = _; rw [BL_zero]); rw [z] at q; rw [HLa.out]; exact q
  have KDc : Hid (∀ u, Calls Try.prog 9 #[.agg D1.toArray, .agg Lc.toArray] u fun e w' => e = .returned (.agg F1.toArray) ∧ Below u.heap.size u w') := fun u => by rw [HD1.out, HLc.out, HF1.out]; exact times_ok _ c u
  have Kbc : Hid (∀ u, Calls Try.prog 9 #[.agg Lb.toArray, .agg Lc.toArray] u fun e w' => e = .returned (.agg D3.toArray) ∧ Below u.heap.size u w') := fun u => by rw [HLb.out, HLc.out, HD3.out]; exact times_ok b c u
  have KaD : Hid (∀ u, Calls Try.prog 9 #[.agg La.toArray, .agg D3.toArray] u fun e w' => e = .returned (.agg F1.toArray) ∧ Below u.heap.size u w') := fun u => by rw [HLa.out, HD3.out, HF1.out, TB_assoc a b c]; exact times_ok a _ u
  have Kpbc : Hid (∀ u, Calls Try.prog 7 #[.agg Lb.toArray, .agg Lc.toArray] u fun e w' => e = .returned (.agg P1.toArray) ∧ Below u.heap.size u w') := fun u => by rw [HLb.out, HLc.out, HP1.out]; exact plusB_ok b c u
  have KaP : Hid (∀ u, Calls Try.prog 9 #[.agg La.toArray, .agg P1.toArray] u fun e w' => e = .returned (.agg E1.toArray) ∧ Below u.heap.size u w') := fun u => by rw [HLa.out, HP1.out, HE1.out]; exact times_ok a _ u
  have Kac : Hid (∀ u, Calls Try.prog 9 #[.agg La.toArray, .agg Lc.toArray] u fun e w' => e = .returned (.agg D2.toArray) ∧ Below u.heap.size u w') := fun u => by rw [HLa.out, HLc.out, HD2.out]; exact times_ok a c u
  have KpDD : Hid (∀ u, Calls Try.prog 7 #[.agg D1.toArray, .agg D2.toArray] u fun e w' => e = .returned (.agg E1.toArray) ∧ Below u.heap.size u w') := fun u => by rw [HD1.out, HD2.out, HE1.out, TB_add a b c]; exact plusB_ok _ _ u
  have Kdb : Hid (∀ u, Calls Try.prog 11 #[.agg La.toArray] u fun e w' => e = .returned (.agg Ld.toArray) ∧ Below u.heap.size u w') := fun u => by rw [HLa.out, HLd.out]; exact double_ok a u
  have Ktd : Hid (∀ u, Calls Try.prog 10 #[.agg Ld.toArray] u fun e w' => e = .returned (.agg Lr.toArray) ∧ Below u.heap.size u w') := fun u => by rw [HLd.out, HLr.out]; exact lturned_ok _ u
  have Kta : Hid (∀ u, Calls Try.prog 10 #[.agg La.toArray] u fun e w' => e = .returned (.agg Lt.toArray) ∧ Below u.heap.size u w') := fun u => by rw [HLa.out, HLt.out]; exact lturned_ok a u
  have K2 : Hid (∀ u, Calls Try.prog 9 #[.agg Lt.toArray, .agg #[.int .u8 0, .int .u8 0, .int .u8 0, .int .u8 0, .int .u8 0, .int .u8 0, .int .u8 0, .int .u8 0, .int .u8 0, .int .u8 0, .int .u8 0, .int .u8 0, .int .u8 0, .int .u8 0, .int .u8 0, .int .u8 2]] u fun e w' => e = .returned (.agg Lr.toArray) ∧ Below u.heap.size u w') := fun u => by have q := times_ok (rv a) (rv (e 1)) u; rw [TB_two] at q; have z : BV (rv (e 1)) = .agg #[.int .u8 0, .int .u8 0, .int .u8 0, .int .u8 0, .int .u8 0, .int .u8 0, .int .u8 0, .int .u8 0, .int .u8 0, .int .u8 0, .int .u8 0, .int .u8 0, .int .u8 0, .int .u8 0, .int .u8 0, .int .u8 2] := (by show Value.agg (BL (rv (e 1))).toArray = _; rw [BL_two]); rw [z] at q; rw [HLt.out, HLr.out]; exact q
  have hD1 : ∀ u, (binOp .neq 23 (.agg D1.toArray) (.agg D1.toArray)).run Try.prog u = .ok (.bool false) u := fun u => by rw [HD1.out]; exact neq_same _ u
  have hA1 : ∀ u, (binOp .neq 23 (.agg La.toArray) (.agg La.toArray)).run Try.prog u = .ok (.bool false) u := fun u => by rw [HLa.out]; exact neq_same _ u
  have hE1 : ∀ u, (binOp .neq 23 (.agg E1.toArray) (.agg E1.toArray)).run Try.prog u = .ok (.bool false) u := fun u => by rw [HE1.out]; exact neq_same _ u
  have hF1 : ∀ u, (binOp .neq 23 (.agg F1.toArray) (.agg F1.toArray)).run Try.prog u = .ok (.bool false) u := fun u => by rw [HF1.out]; exact neq_same _ u
  have hO1 : ∀ u, (binOp .neq 23 (.agg Lo.toArray) (.agg Lo.toArray)).run Try.prog u = .ok (.bool false) u := fun u => by rw [HLo.out]; exact neq_same _ u
  have hZ1 : ∀ u, (binOp .neq 23 (.agg #[.int .u8 0, .int .u8 0, .int .u8 0, .int .u8 0, .int .u8 0, .int .u8 0, .int .u8 0, .int .u8 0, .int .u8 0, .int .u8 0, .int .u8 0, .int .u8 0, .int .u8 0, .int .u8 0, .int .u8 0, .int .u8 0]) (.agg #[.int .u8 0, .int .u8 0, .int .u8 0, .int .u8 0, .int .u8 0, .int .u8 0, .int .u8 0, .int .u8 0, .int .u8 0, .int .u8 0, .int .u8 0, .int .u8 0, .int .u8 0, .int .u8 0, .int .u8 0, .int .u8 0])).run Try.prog u = .ok (.bool false) u := fun u => by have q := neq_same 0#128 u; rw [BL_zero] at q; exact q
  have hQ1 : ∀ u, (binOp .eql 23 (.agg Lr.toArray) (.agg Lr.toArray)).run Try.prog u = .ok (.bool true) u := fun u => by rw [HLr.out]; exact eql_same _ u
  have hN1 : ∀ u, (binOp .neq 23 (.agg La.toArray) (.agg #[.int .u8 0, .int .u8 0, .int .u8 0, .int .u8 0, .int .u8 0, .int .u8 0, .int .u8 0, .int .u8 0, .int .u8 0, .int .u8 0, .int .u8 0, .int .u8 0, .int .u8 0, .int .u8 0, .int .u8 0, .int .u8 0])).run Try.prog u = .ok (.bool (!decide (a = 0#128))) u := fun u => by rw [HLa.out]; exact neq_zero a u
  have hla : Hid (La.length = 16) := by show _ = _; rw [HLa.out]; rfl
  have hoa : Hid (La.toArray.all (·.oneCell') = true) := by show _ = _; rw [HLa.out]; exact BL_one _
  have hlb : Hid (Lb.length = 16) := by show _ = _; rw [HLb.out]; rfl
  have hob : Hid (Lb.toArray.all (·.oneCell') = true) := by show _ = _; rw [HLb.out]; exact BL_one _
  have hlc : Hid (Lc.length = 16) := by show _ = _; rw [HLc.out]; rfl
  have hoc : Hid (Lc.toArray.all (·.oneCell') = true) := by show _ = _; rw [HLc.out]; exact BL_one _
  have hlo : Hid (Lo.length = 16) := by show _ = _; rw [HLo.out]; rfl
  have hoo : Hid (Lo.toArray.all (·.oneCell') = true) := by show _ = _; rw [HLo.out]; exact BL_one _
  show Calls Try.prog 4 #[.agg #[.int .u8 (byV a 0 : Nat), .int .u8 (byV a 1 : Nat), .int .u8 (byV a 2 : Nat), .int .u8 (byV a 3 : Nat), .int .u8 (byV a 4 : Nat), .int .u8 (byV a 5 : Nat), .int .u8 (byV a 6 : Nat), .int .u8 (byV a 7 : Nat), .int .u8 (byV a 8 : Nat), .int .u8 (byV a 9 : Nat), .int .u8 (byV a 10 : Nat), .int .u8 (byV a 11 : Nat), .int .u8 (byV a 12 : Nat), .int .u8 (byV a 13 : Nat), .int .u8 (byV a 14 : Nat), .int .u8 (byV a 15 : Nat)], .agg #[.int .u8 (byV b 0 : Nat), .int .u8 (byV b 1 : Nat), .int .u8 (byV b 2 : Nat), .int .u8 (byV b 3 : Nat), .int .u8 (byV b 4 : Nat), .int .u8 (byV b 5 : Nat), .int .u8 (byV b 6 : Nat), .int .u8 (byV b 7 : Nat), .int .u8 (byV b 8 : Nat), .int .u8 (byV b 9 : Nat), .int .u8 (byV b 10 : Nat), .int .u8 (byV b 11 : Nat), .int .u8 (byV b 12 : Nat), .int .u8 (byV b 13 : Nat), .int .u8 (byV b 14 : Nat), .int .u8 (byV b 15 : Nat)], .agg #[.int .u8 (byV c 0 : Nat), .int .u8 (byV c 1 : Nat), .int .u8 (byV c 2 : Nat), .int .u8 (byV c 3 : Nat), .int .u8 (byV c 4 : Nat), .int .u8 (byV c 5 : Nat), .int .u8 (byV c 6 : Nat), .int .u8 (byV c 7 : Nat), .int .u8 (byV c 8 : Nat), .int .u8 (byV c 9 : Nat), .int .u8 (byV c 10 : Nat), .int .u8 (byV c 11 : Nat), .int .u8 (byV c 12 : Nat), .int .u8 (byV c 13 : Nat), .int .u8 (byV c 14 : Nat), .int .u8 (byV c 15 : Nat)]] w _
  go_enter Try.func4, Try.ntmps4
  go_upto_region 1 with fail
  generalize ((w.alloc (.cells #[.int .u8 (byV a 0 : Nat), .int .u8 (byV a 1 : Nat), .int .u8 (byV a 2 : Nat), .int .u8 (byV a 3 : Nat), .int .u8 (byV a 4 : Nat), .int .u8 (byV a 5 : Nat), .int .u8 (byV a 6 : Nat), .int .u8 (byV a 7 : Nat), .int .u8 (byV a 8 : Nat), .int .u8 (byV a 9 : Nat), .int .u8 (byV a 10 : Nat), .int .u8 (byV a 11 : Nat), .int .u8 (byV a 12 : Nat), .int .u8 (byV a 13 : Nat), .int .u8 (byV a 14 : Nat), .int .u8 (byV a 15 : Nat)] 23)).alloc (.cells #[.int .u8 (byV b 0 : Nat), .int .u8 (byV b 1 : Nat), .int .u8 (byV b 2 : Nat), .int .u8 (byV b 3 : Nat), .int .u8 (byV b 4 : Nat), .int .u8 (byV b 5 : Nat), .int .u8 (byV b 6 : Nat), .int .u8 (byV b 7 : Nat), .int .u8 (byV b 8 : Nat), .int .u8 (byV b 9 : Nat), .int .u8 (byV b 10 : Nat), .int .u8 (byV b 11 : Nat), .int .u8 (byV b 12 : Nat), .int .u8 (byV b 13 : Nat), .int .u8 (byV b 14 : Nat), .int .u8 (byV b 15 : Nat)] 23)).alloc (.cells #[.int .u8 (byV c 0 : Nat), .int .u8 (byV c 1 : Nat), .int .u8 (byV c 2 : Nat), .int .u8 (byV c 3 : Nat), .int .u8 (byV c 4 : Nat), .int .u8 (byV c 5 : Nat), .int .u8 (byV c 6 : Nat), .int .u8 (byV c 7 : Nat), .int .u8 (byV c 8 : Nat), .int .u8 (byV c 9 : Nat), .int .u8 (byV c 10 : Nat), .int .u8 (byV c 11 : Nat), .int .u8 (byV c 12 : Nat), .int .u8 (byV c 13 : Nat), .int .u8 (byV c 14 : Nat), .int .u8 (byV c 15 : Nat)] 23) = w0 at HA ⊢
  rw [← HLa.out, ← HLb.out, ← HLc.out] at HA
  have hTN : (w0.alloc (.cells #[.int .u8 0, .int .u8 0, .int .u8 0, .int .u8 0, .int .u8 0, .int .u8 0, .int .u8 0, .int .u8 0, .int .u8 0, .int .u8 0, .int .u8 0, .int .u8 0, .int .u8 0, .int .u8 0, .int .u8 0, .int .u8 0] 23)).there w0.heap.size 0 16 := there_new w0 _ 23 16 (Nat.le_refl _)
  go_upto_region 2 with (first
    | (refine wpList_store_mid (by rfl) 23 (.tmp 7) (.tmp 11) (by rfl) w0.heap.size 0 #[.int .u8 0, .int .u8 0, .int .u8 0, .int .u8 0, .int .u8 0, .int .u8 0, .int .u8 0, .int .u8 0, .int .u8 0, .int .u8 0, .int .u8 0, .int .u8 0, .int .u8 0, .int .u8 0, .int .u8 0, .int .u8 1] (by rfl) (by rfl) (by simpa using hTN) size23 (by kernel_rfl) ?_))
  have HW : Hid (Below w.heap.size w ((w0.alloc (.cells #[.int .u8 0, .int .u8 0, .int .u8 0, .int .u8 0, .int .u8 0, .int .u8 0, .int .u8 0, .int .u8 0, .int .u8 0, .int .u8 0, .int .u8 0, .int .u8 0, .int .u8 0, .int .u8 0, .int .u8 0, .int .u8 0] 23)).setCells w0.heap.size 0 [.int .u8 0, .int .u8 0, .int .u8 0, .int .u8 0, .int .u8 0, .int .u8 0, .int .u8 0, .int .u8 0, .int .u8 0, .int .u8 0, .int .u8 0, .int .u8 0, .int .u8 0, .int .u8 0, .int .u8 0, .int .u8 1]) ∧ ((w0.alloc (.cells #[.int .u8 0, .int .u8 0, .int .u8 0, .int .u8 0, .int .u8 0, .int .u8 0, .int .u8 0, .int .u8 0, .int .u8 0, .int .u8 0, .int .u8 0, .int .u8 0, .int .u8 0, .int .u8 0, .int .u8 0, .int .u8 0] 23)).setCells w0.heap.size 0 [.int .u8 0, .int .u8 0, .int .u8 0, .int .u8 0, .int .u8 0, .int .u8 0, .int .u8 0, .int .u8 0, .int .u8 0, .int .u8 0, .int .u8 0, .int .u8 0, .int .u8 0, .int .u8 0, .int .u8 0, .int .u8 1]).rangeAt w.heap.size 0 La ∧ ((w0.alloc (.cells #[.int .u8 0, .int .u8 0, .int .u8 0, .int .u8 0, .int .u8 0, .int .u8 0, .int .u8 0, .int .u8 0, .int .u8 0, .int .u8 0, .int .u8 0, .int .u8 0, .int .u8 0, .int .u8 0, .int .u8 0, .int .u8 0] 23)).setCells w0.heap.size 0 [.int .u8 0, .int .u8 0, .int .u8 0, .int .u8 0, .int .u8 0, .int .u8 0, .int .u8 0, .int .u8 0, .int .u8 0, .int .u8 0, .int .u8 0, .int .u8 0, .int .u8 0, .int .u8 0, .int .u8 0, .int .u8 1]).rangeAt (w.heap.size + 1) 0 Lb ∧ ((w0.alloc (.cells #[.int .u8 0, .int .u8 0, .int .u8 0, .int .u8 0, .int .u8 0, .int .u8 0, .int .u8 0, .int .u8 0, .int .u8 0, .int .u8 0, .int .u8 0, .int .u8 0, .int .u8 0, .int .u8 0, .int .u8 0, .int .u8 0] 23)).setCells w0.heap.size 0 [.int .u8 0, .int .u8 0, .int .u8 0, .int .u8 0, .int .u8 0, .int .u8 0, .int .u8 0, .int .u8 0, .int .u8 0, .int .u8 0, .int .u8 0, .int .u8 0, .int .u8 0, .int .u8 0, .int .u8 0, .int .u8 1]).rangeAt (w.heap.size + 2) 0 Lc ∧ ((w0.alloc (.cells #[.int .u8 0, .int .u8 0, .int .u8 0, .int .u8 0, .int .u8 0, .int .u8 0, .int .u8 0, .int .u8 0, .int .u8 0, .int .u8 0, .int .u8 0, .int .u8 0, .int .u8 0, .int .u8 0, .int .u8 0, .int .u8 0] 23)).setCells w0.heap.size 0 [.int .u8 0, .int .u8 0, .int .u8 0, .int .u8 0, .int .u8 0, .int .u8 0, .int .u8 0, .int .u8 0, .int .u8 0, .int .u8 0, .int .u8 0, .int .u8 0, .int .u8 0, .int .u8 0, .int .u8 0, .int .u8 1]).rangeAt w0.heap.size 0 Lo ∧ w.heap.size + 3 ≤ ((w0.alloc (.cells #[.int .u8 0, .int .u8 0, .int .u8 0, .int .u8 0, .int .u8 0, .int .u8 0, .int .u8 0, .int .u8 0, .int .u8 0, .int .u8 0, .int .u8 0, .int .u8 0, .int .u8 0, .int .u8 0, .int .u8 0, .int .u8 0] 23)).setCells w0.heap.size 0 [.int .u8 0, .int .u8 0, .int .u8 0, .int .u8 0, .int .u8 0, .int .u8 0, .int .u8 0, .int .u8 0, .int .u8 0, .int .u8 0, .int .u8 0, .int .u8 0, .int .u8 0, .int .u8 0, .int .u8 0, .int .u8 1]).heap.size ∧ w0.heap.size < ((w0.alloc (.cells #[.int .u8 0, .int .u8 0, .int .u8 0, .int .u8 0, .int .u8 0, .int .u8 0, .int .u8 0, .int .u8 0, .int .u8 0, .int .u8 0, .int .u8 0, .int .u8 0, .int .u8 0, .int .u8 0, .int .u8 0, .int .u8 0] 23)).setCells w0.heap.size 0 [.int .u8 0, .int .u8 0, .int .u8 0, .int .u8 0, .int .u8 0, .int .u8 0, .int .u8 0, .int .u8 0, .int .u8 0, .int .u8 0, .int .u8 0, .int .u8 0, .int .u8 0, .int .u8 0, .int .u8 0, .int .u8 1]).heap.size) := by
    obtain ⟨p1, p2, p3, p4, p5⟩ := HA.out
    have hb : Below w0.heap.size w0 ((w0.alloc (.cells #[.int .u8 0, .int .u8 0, .int .u8 0, .int .u8 0, .int .u8 0, .int .u8 0, .int .u8 0, .int .u8 0, .int .u8 0, .int .u8 0, .int .u8 0, .int .u8 0, .int .u8 0, .int .u8 0, .int .u8 0, .int .u8 0] 23)).setCells w0.heap.size 0 [.int .u8 0, .int .u8 0, .int .u8 0, .int .u8 0, .int .u8 0, .int .u8 0, .int .u8 0, .int .u8 0, .int .u8 0, .int .u8 0, .int .u8 0, .int .u8 0, .int .u8 0, .int .u8 0, .int .u8 0, .int .u8 1]) := belowB_setCells _ (Nat.le_refl _) _ _ _ ((Below.refl _ w0).alloc (Nat.le_refl _) _)
    have q := World.rangeAt_setCells_same (w0.alloc (.cells #[.int .u8 0, .int .u8 0, .int .u8 0, .int .u8 0, .int .u8 0, .int .u8 0, .int .u8 0, .int .u8 0, .int .u8 0, .int .u8 0, .int .u8 0, .int .u8 0, .int .u8 0, .int .u8 0, .int .u8 0, .int .u8 0] 23)) w0.heap.size 0 [.int .u8 0, .int .u8 0, .int .u8 0, .int .u8 0, .int .u8 0, .int .u8 0, .int .u8 0, .int .u8 0, .int .u8 0, .int .u8 0, .int .u8 0, .int .u8 0, .int .u8 0, .int .u8 0, .int .u8 0, .int .u8 1] (by simpa using hTN)
    refine ⟨p1.trans (hb.mono p1.size), range_below p2 hb (by omega), range_below p3 hb (by omega), range_below p4 hb (by omega), by rw [HLo.out, BL_one1]; exact q, by have := hb.size; omega, by rw [size_setCells]; simp⟩
  generalize (w0.alloc (.cells #[.int .u8 0, .int .u8 0, .int .u8 0, .int .u8 0, .int .u8 0, .int .u8 0, .int .u8 0, .int .u8 0, .int .u8 0, .int .u8 0, .int .u8 0, .int .u8 0, .int .u8 0, .int .u8 0, .int .u8 0, .int .u8 0] 23)).setCells w0.heap.size 0 [.int .u8 0, .int .u8 0, .int .u8 0, .int .u8 0, .int .u8 0, .int .u8 0, .int .u8 0, .int .u8 0, .int .u8 0, .int .u8 0, .int .u8 0, .int .u8 0, .int .u8 0, .int .u8 0, .int .u8 0, .int .u8 1] = w1 at HW ⊢
  generalize w0.heap.size = T7 at HW ⊢
  clear HA hTN
  have ga : Hid (∀ u, Below w1.heap.size w1 u → u.rangeAt w.heap.size 0 La) := fun u hu => range_below HW.out.2.1 hu (by have := HW.out.2.2.2.2.2.1; omega)
  have gb : Hid (∀ u, Below w1.heap.size w1 u → u.rangeAt (w.heap.size + 1) 0 Lb) := fun u hu => range_below HW.out.2.2.1 hu (by have := HW.out.2.2.2.2.2.1; omega)
  have gc : Hid (∀ u, Below w1.heap.size w1 u → u.rangeAt (w.heap.size + 2) 0 Lc) := fun u hu => range_below HW.out.2.2.2.1 hu (by have := HW.out.2.2.2.2.2.1; omega)
  have g7 : Hid (∀ u, Below w1.heap.size w1 u → u.rangeAt T7 0 Lo) := fun u hu => range_below HW.out.2.2.2.2.1 hu HW.out.2.2.2.2.2.2
  simp only [Act.put]
  go_cut [32] from 12 to 32 (fun c wx => c = .bool false ∧ Hid (Below w1.heap.size w1 wx))
  case first =>
    have hS0 : Below w1.heap.size w1 w1.drew := (Below.refl _ _).drew
    refine wp_region_noPanic ?_
    refine wp_region_held_drew (S := fun u => Below w1.heap.size w1 u) (by kernel_rfl) (hS0) (fun _ => ?_)
    refine takeH_at 0 12 (.agg La.toArray) rfl rfl (by kernel_rfl) (by kernel_rfl) (by kernel_rfl) (fun _ _ _ h => h) (hS0) (yieldsIf_load_mid (by kernel_rfl) 23 (.tmp 3) rfl w.heap.size 0 rfl La _ (fun u hu => ga.out u hu) Try.underlying23 rfl (by rw [hla.out]; exact size23)) ?_
    simp only [List.setIfInBounds_toArray, List.set_cons_zero, List.set_cons_succ]
    refine takeH_at 1 13 (.agg Lb.toArray) rfl rfl (by kernel_rfl) (by kernel_rfl) (by kernel_rfl) (fun _ _ _ h => h) (hS0) (yieldsIf_load_mid (by kernel_rfl) 23 (.tmp 4) rfl (w.heap.size + 1) 0 rfl Lb _ (fun u hu => gb.out u hu) Try.underlying23 rfl (by rw [hlb.out]; exact size23)) ?_
    simp only [List.setIfInBounds_toArray, List.set_cons_zero, List.set_cons_succ]
    refine takeH_at 3 15 (.agg Lb.toArray) rfl rfl (by kernel_rfl) (by kernel_rfl) (by kernel_rfl) (fun _ _ _ h => h) (hS0) (yieldsIf_load_mid (by kernel_rfl) 23 (.tmp 4) rfl (w.heap.size + 1) 0 rfl Lb _ (fun u hu => gb.out u hu) Try.underlying23 rfl (by rw [hlb.out]; exact size23)) ?_
    simp only [List.setIfInBounds_toArray, List.set_cons_zero, List.set_cons_succ]
    refine takeH_at 4 16 (.agg La.toArray) rfl rfl (by kernel_rfl) (by kernel_rfl) (by kernel_rfl) (fun _ _ _ h => h) (hS0) (yieldsIf_load_mid (by kernel_rfl) 23 (.tmp 3) rfl w.heap.size 0 rfl La _ (fun u hu => ga.out u hu) Try.underlying23 rfl (by rw [hla.out]; exact size23)) ?_
    simp only [List.setIfInBounds_toArray, List.set_cons_zero, List.set_cons_succ]
    refine wpAnyH_ready (rs := [2]) (by kernel_rfl) (by simp) ?_
    refine AllReadyH.cons rfl (fun K hK => ?_) AllReadyH.nil
    go_simp
    refine (Kab.out _).mono ?_
    rintro e1 q1 ⟨rfl, hbq1⟩
    have hSq1 : Below w1.heap.size w1 q1 := (hS0).trans (hbq1.mono (hS0).size)
    go_wp2_with fail
    refine hK.out _ _ hSq1 (fun _ => ?_)
    clear hK K
    try simp only [List.setIfInBounds_toArray, List.set_cons_zero, List.set_cons_succ]
    refine wpAnyH_ready (rs := [5]) (by kernel_rfl) (by simp) ?_
    refine AllReadyH.cons rfl (fun K hK => ?_) AllReadyH.nil
    go_simp
    refine (Kba.out _).mono ?_
    rintro e1 q2 ⟨rfl, hbq2⟩
    have hSq2 : Below w1.heap.size w1 q2 := (hSq1).trans (hbq2.mono (hSq1).size)
    go_wp2_with fail
    refine hK.out _ _ hSq2 (fun _ => ?_)
    clear hK K
    try simp only [List.setIfInBounds_toArray, List.set_cons_zero, List.set_cons_succ]
    refine takeH_at 6 18 (.bool false) rfl rfl (by kernel_rfl) (by kernel_rfl) (by kernel_rfl) (fun _ _ _ h => h) (hSq2) (Or.inl ⟨by kernel_rfl, fun w' hS' => by have q := hD1 w'; go_simp⟩) ?_
    simp only [List.setIfInBounds_toArray, List.set_cons_zero, List.set_cons_succ]
    refine takeH_at 7 19 (.bool false) rfl rfl (by kernel_rfl) (by kernel_rfl) (by kernel_rfl) (fun _ _ _ h => h) (hSq2) (Or.inl ⟨by kernel_rfl, fun w' hS' => by go_simp⟩) ?_
    simp only [List.setIfInBounds_toArray, List.set_cons_zero, List.set_cons_succ]
    refine takeH_at 8 20 (.agg La.toArray) rfl rfl (by kernel_rfl) (by kernel_rfl) (by kernel_rfl) (fun _ _ _ h => h) (hSq2) (yieldsIf_load_mid (by kernel_rfl) 23 (.tmp 3) rfl w.heap.size 0 rfl La _ (fun u hu => ga.out u hu) Try.underlying23 rfl (by rw [hla.out]; exact size23)) ?_
    simp only [List.setIfInBounds_toArray, List.set_cons_zero, List.set_cons_succ]
    refine takeH_at 9 21 (.agg Lo.toArray) rfl rfl (by kernel_rfl) (by kernel_rfl) (by kernel_rfl) (fun _ _ _ h => h) (hSq2) (yieldsIf_load_mid (by kernel_rfl) 23 (.tmp 7) rfl T7 0 rfl Lo _ (fun u hu => g7.out u hu) Try.underlying23 rfl (by rw [hlo.out]; exact size23)) ?_
    simp only [List.setIfInBounds_toArray, List.set_cons_zero, List.set_cons_succ]
    refine takeH_at 11 23 (.agg La.toArray) rfl rfl (by kernel_rfl) (by kernel_rfl) (by kernel_rfl) (fun _ _ _ h => h) (hSq2) (yieldsIf_load_mid (by kernel_rfl) 23 (.tmp 3) rfl w.heap.size 0 rfl La _ (fun u hu => ga.out u hu) Try.underlying23 rfl (by rw [hla.out]; exact size23)) ?_
    simp only [List.setIfInBounds_toArray, List.set_cons_zero, List.set_cons_succ]
    refine wpAnyH_ready (rs := [10]) (by kernel_rfl) (by simp) ?_
    refine AllReadyH.cons rfl (fun K hK => ?_) AllReadyH.nil
    rw [if_pos (by kernel_rfl)]
    go_simp
    refine (Ka1.out _).mono ?_
    rintro e1 q3 ⟨rfl, hbq3⟩
    have hSq3 : Below w1.heap.size w1 q3 := (hSq2).trans (hbq3.mono (hSq2).size)
    go_wp2_with fail
    refine hK.out _ _ hSq3 (fun _ => ?_)
    clear hK K
    try simp only [List.setIfInBounds_toArray, List.set_cons_zero, List.set_cons_succ]
    refine takeH_at 12 24 (.bool false) rfl rfl (by kernel_rfl) (by kernel_rfl) (by kernel_rfl) (fun _ _ _ h => h) (hSq3) (Or.inl ⟨by kernel_rfl, fun w' hS' => by have q := hA1 w'; go_simp⟩) ?_
    simp only [List.setIfInBounds_toArray, List.set_cons_zero, List.set_cons_succ]
    refine takeH_at 13 25 (.bool false) rfl rfl (by kernel_rfl) (by kernel_rfl) (by kernel_rfl) (fun _ _ _ h => h) (hSq3) (Or.inl ⟨by kernel_rfl, fun w' hS' => by go_simp⟩) ?_
    simp only [List.setIfInBounds_toArray, List.set_cons_zero, List.set_cons_succ]
    refine takeH_at 14 26 (.bool false) rfl rfl (by kernel_rfl) (by kernel_rfl) (by kernel_rfl) (fun _ _ _ h => h) (hSq3) (Or.inl ⟨by kernel_rfl, fun w' hS' => by go_simp⟩) ?_
    simp only [List.setIfInBounds_toArray, List.set_cons_zero, List.set_cons_succ]
    refine takeH_at 15 27 (.agg La.toArray) rfl rfl (by kernel_rfl) (by kernel_rfl) (by kernel_rfl) (fun _ _ _ h => h) (hSq3) (yieldsIf_load_mid (by kernel_rfl) 23 (.tmp 3) rfl w.heap.size 0 rfl La _ (fun u hu => ga.out u hu) Try.underlying23 rfl (by rw [hla.out]; exact size23)) ?_
    simp only [List.setIfInBounds_toArray, List.set_cons_zero, List.set_cons_succ]
    refine takeH_at 16 28 (.agg #[.int .u8 0, .int .u8 0, .int .u8 0, .int .u8 0, .int .u8 0, .int .u8 0, .int .u8 0, .int .u8 0, .int .u8 0, .int .u8 0, .int .u8 0, .int .u8 0, .int .u8 0, .int .u8 0, .int .u8 0, .int .u8 0]) rfl rfl (by kernel_rfl) (by kernel_rfl) (by kernel_rfl) (fun _ _ _ h => h) (hSq3) (yieldsIf_build (by kernel_rfl) 23 #[] rfl _ (by simp only [List.map_toArray, List.map_cons, List.map_nil]; kernel_rfl)) ?_
    simp only [List.setIfInBounds_toArray, List.set_cons_zero, List.set_cons_succ]
    refine takeH_at 18 30 (.agg #[.int .u8 0, .int .u8 0, .int .u8 0, .int .u8 0, .int .u8 0, .int .u8 0, .int .u8 0, .int .u8 0, .int .u8 0, .int .u8 0, .int .u8 0, .int .u8 0, .int .u8 0, .int .u8 0, .int .u8 0, .int .u8 0]) rfl rfl (by kernel_rfl) (by kernel_rfl) (by kernel_rfl) (fun _ _ _ h => h) (hSq3) (yieldsIf_build (by kernel_rfl) 23 #[] rfl _ (by simp only [List.map_toArray, List.map_cons, List.map_nil]; kernel_rfl)) ?_
    simp only [List.setIfInBounds_toArray, List.set_cons_zero, List.set_cons_succ]
    refine wpAnyH_ready (rs := [17]) (by kernel_rfl) (by simp) ?_
    refine AllReadyH.cons rfl (fun K hK => ?_) AllReadyH.nil
    rw [if_pos (by kernel_rfl)]
    go_simp
    refine (Ka0.out _).mono ?_
    rintro e1 q4 ⟨rfl, hbq4⟩
    have hSq4 : Below w1.heap.size w1 q4 := (hSq3).trans (hbq4.mono (hSq3).size)
    go_wp2_with fail
    refine hK.out _ _ hSq4 (fun _ => ?_)
    clear hK K
    try simp only [List.setIfInBounds_toArray, List.set_cons_zero, List.set_cons_succ]
    refine takeH_at 19 31 (.bool false) rfl rfl (by kernel_rfl) (by kernel_rfl) (by kernel_rfl) (fun _ _ _ h => h) (hSq4) (Or.inl ⟨by kernel_rfl, fun w' hS' => by have q := hZ1 w'; go_simp⟩) ?_
    simp only [List.setIfInBounds_toArray, List.set_cons_zero, List.set_cons_succ]
    refine takeH_at 20 32 (.bool false) rfl rfl (by kernel_rfl) (by kernel_rfl) (by kernel_rfl) (fun _ _ _ h => h) (hSq4) (Or.inl ⟨by kernel_rfl, fun w' hS' => by go_simp⟩) ?_
    simp only [List.setIfInBounds_toArray, List.set_cons_zero, List.set_cons_succ]
    refine wpAnyH_done (by kernel_rfl) ?_ _
    refine NoPanic.normal ?_
    go_wp2_with fail
    go_meet
    exact ⟨rfl, hSq4⟩
  case rest =>
  obtain ⟨rfl, HB2⟩ := hcut
  go_upto_region 4 with fail
  go_cut [58] from 33 to 58 (fun c wx => c = .bool false ∧ Hid (Below w1.heap.size w1 wx))
  case first =>
    have hS0 : Below w1.heap.size w1 wc.drew := HB2.out.drew
    refine wp_region_noPanic ?_
    refine wp_region_held_drew (S := fun u => Below w1.heap.size w1 u) (by kernel_rfl) (hS0) (fun _ => ?_)
    refine takeH_at 0 33 (.agg La.toArray) rfl rfl (by kernel_rfl) (by kernel_rfl) (by kernel_rfl) (fun _ _ _ h => h) (hS0) (yieldsIf_load_mid (by kernel_rfl) 23 (.tmp 3) rfl w.heap.size 0 rfl La _ (fun u hu => ga.out u hu) Try.underlying23 rfl (by rw [hla.out]; exact size23)) ?_
    simp only [List.setIfInBounds_toArray, List.set_cons_zero, List.set_cons_succ]
    refine takeH_at 1 34 (.agg Lb.toArray) rfl rfl (by kernel_rfl) (by kernel_rfl) (by kernel_rfl) (fun _ _ _ h => h) (hS0) (yieldsIf_load_mid (by kernel_rfl) 23 (.tmp 4) rfl (w.heap.size + 1) 0 rfl Lb _ (fun u hu => gb.out u hu) Try.underlying23 rfl (by rw [hlb.out]; exact size23)) ?_
    simp only [List.setIfInBounds_toArray, List.set_cons_zero, List.set_cons_succ]
    refine takeH_at 3 36 (.agg Lc.toArray) rfl rfl (by kernel_rfl) (by kernel_rfl) (by kernel_rfl) (fun _ _ _ h => h) (hS0) (yieldsIf_load_mid (by kernel_rfl) 23 (.tmp 5) rfl (w.heap.size + 2) 0 rfl Lc _ (fun u hu => gc.out u hu) Try.underlying23 rfl (by rw [hlc.out]; exact size23)) ?_
    simp only [List.setIfInBounds_toArray, List.set_cons_zero, List.set_cons_succ]
    refine takeH_at 5 38 (.agg La.toArray) rfl rfl (by kernel_rfl) (by kernel_rfl) (by kernel_rfl) (fun _ _ _ h => h) (hS0) (yieldsIf_load_mid (by kernel_rfl) 23 (.tmp 3) rfl w.heap.size 0 rfl La _ (fun u hu => ga.out u hu) Try.underlying23 rfl (by rw [hla.out]; exact size23)) ?_
    simp only [List.setIfInBounds_toArray, List.set_cons_zero, List.set_cons_succ]
    refine takeH_at 6 39 (.agg Lb.toArray) rfl rfl (by kernel_rfl) (by kernel_rfl) (by kernel_rfl) (fun _ _ _ h => h) (hS0) (yieldsIf_load_mid (by kernel_rfl) 23 (.tmp 4) rfl (w.heap.size + 1) 0 rfl Lb _ (fun u hu => gb.out u hu) Try.underlying23 rfl (by rw [hlb.out]; exact size23)) ?_
    simp only [List.setIfInBounds_toArray, List.set_cons_zero, List.set_cons_succ]
    refine takeH_at 7 40 (.agg Lc.toArray) rfl rfl (by kernel_rfl) (by kernel_rfl) (by kernel_rfl) (fun _ _ _ h => h) (hS0) (yieldsIf_load_mid (by kernel_rfl) 23 (.tmp 5) rfl (w.heap.size + 2) 0 rfl Lc _ (fun u hu => gc.out u hu) Try.underlying23 rfl (by rw [hlc.out]; exact size23)) ?_
    simp only [List.setIfInBounds_toArray, List.set_cons_zero, List.set_cons_succ]
    refine wpAnyH_ready (rs := [2]) (by kernel_rfl) (by simp) ?_
    refine AllReadyH.cons rfl (fun K hK => ?_) AllReadyH.nil
    go_simp
    refine (Kab.out _).mono ?_
    rintro e1 q1 ⟨rfl, hbq1⟩
    have hSq1 : Below w1.heap.size w1 q1 := (hS0).trans (hbq1.mono (hS0).size)
    go_wp2_with fail
    refine hK.out _ _ hSq1 (fun _ => ?_)
    clear hK K
    try simp only [List.setIfInBounds_toArray, List.set_cons_zero, List.set_cons_succ]
    refine wpAnyH_ready (rs := [4]) (by kernel_rfl) (by simp) ?_
    refine AllReadyH.cons rfl (fun K hK => ?_) AllReadyH.nil
    go_simp
    refine (KDc.out _).mono ?_
    rintro e1 q2 ⟨rfl, hbq2⟩
    have hSq2 : Below w1.heap.size w1 q2 := (hSq1).trans (hbq2.mono (hSq1).size)
    go_wp2_with fail
    refine hK.out _ _ hSq2 (fun _ => ?_)
    clear hK K
    try simp only [List.setIfInBounds_toArray, List.set_cons_zero, List.set_cons_succ]
    refine wpAnyH_ready (rs := [8]) (by kernel_rfl) (by simp) ?_
    refine AllReadyH.cons rfl (fun K hK => ?_) AllReadyH.nil
    go_simp
    refine (Kbc.out _).mono ?_
    rintro e1 q3 ⟨rfl, hbq3⟩
    have hSq3 : Below w1.heap.size w1 q3 := (hSq2).trans (hbq3.mono (hSq2).size)
    go_wp2_with fail
    refine hK.out _ _ hSq3 (fun _ => ?_)
    clear hK K
    try simp only [List.setIfInBounds_toArray, List.set_cons_zero, List.set_cons_succ]
    refine wpAnyH_ready (rs := [9]) (by kernel_rfl) (by simp) ?_
    refine AllReadyH.cons rfl (fun K hK => ?_) AllReadyH.nil
    go_simp
    refine (KaD.out _).mono ?_
    rintro e1 q4 ⟨rfl, hbq4⟩
    have hSq4 : Below w1.heap.size w1 q4 := (hSq3).trans (hbq4.mono (hSq3).size)
    go_wp2_with fail
    refine hK.out _ _ hSq4 (fun _ => ?_)
    clear hK K
    try simp only [List.setIfInBounds_toArray, List.set_cons_zero, List.set_cons_succ]
    refine takeH_at 10 43 (.bool false) rfl rfl (by kernel_rfl) (by kernel_rfl) (by kernel_rfl) (fun _ _ _ h => h) (hSq4) (Or.inl ⟨by kernel_rfl, fun w' hS' => by have q := hF1 w'; go_simp⟩) ?_
    simp only [List.setIfInBounds_toArray, List.set_cons_zero, List.set_cons_succ]
    refine takeH_at 11 44 (.bool false) rfl rfl (by kernel_rfl) (by kernel_rfl) (by kernel_rfl) (fun _ _ _ h => h) (hSq4) (Or.inl ⟨by kernel_rfl, fun w' hS' => by go_simp⟩) ?_
    simp only [List.setIfInBounds_toArray, List.set_cons_zero, List.set_cons_succ]
    refine takeH_at 12 45 (.agg La.toArray) rfl rfl (by kernel_rfl) (by kernel_rfl) (by kernel_rfl) (fun _ _ _ h => h) (hSq4) (yieldsIf_load_mid (by kernel_rfl) 23 (.tmp 3) rfl w.heap.size 0 rfl La _ (fun u hu => ga.out u hu) Try.underlying23 rfl (by rw [hla.out]; exact size23)) ?_
    simp only [List.setIfInBounds_toArray, List.set_cons_zero, List.set_cons_succ]
    refine takeH_at 13 46 (.agg Lb.toArray) rfl rfl (by kernel_rfl) (by kernel_rfl) (by kernel_rfl) (fun _ _ _ h => h) (hSq4) (yieldsIf_load_mid (by kernel_rfl) 23 (.tmp 4) rfl (w.heap.size + 1) 0 rfl Lb _ (fun u hu => gb.out u hu) Try.underlying23 rfl (by rw [hlb.out]; exact size23)) ?_
    simp only [List.setIfInBounds_toArray, List.set_cons_zero, List.set_cons_succ]
    refine takeH_at 14 47 (.agg Lc.toArray) rfl rfl (by kernel_rfl) (by kernel_rfl) (by kernel_rfl) (fun _ _ _ h => h) (hSq4) (yieldsIf_load_mid (by kernel_rfl) 23 (.tmp 5) rfl (w.heap.size + 2) 0 rfl Lc _ (fun u hu => gc.out u hu) Try.underlying23 rfl (by rw [hlc.out]; exact size23)) ?_
    simp only [List.setIfInBounds_toArray, List.set_cons_zero, List.set_cons_succ]
    refine takeH_at 17 50 (.agg La.toArray) rfl rfl (by kernel_rfl) (by kernel_rfl) (by kernel_rfl) (fun _ _ _ h => h) (hSq4) (yieldsIf_load_mid (by kernel_rfl) 23 (.tmp 3) rfl w.heap.size 0 rfl La _ (fun u hu => ga.out u hu) Try.underlying23 rfl (by rw [hla.out]; exact size23)) ?_
    simp only [List.setIfInBounds_toArray, List.set_cons_zero, List.set_cons_succ]
    refine takeH_at 18 51 (.agg Lb.toArray) rfl rfl (by kernel_rfl) (by kernel_rfl) (by kernel_rfl) (fun _ _ _ h => h) (hSq4) (yieldsIf_load_mid (by kernel_rfl) 23 (.tmp 4) rfl (w.heap.size + 1) 0 rfl Lb _ (fun u hu => gb.out u hu) Try.underlying23 rfl (by rw [hlb.out]; exact size23)) ?_
    simp only [List.setIfInBounds_toArray, List.set_cons_zero, List.set_cons_succ]
    refine takeH_at 20 53 (.agg La.toArray) rfl rfl (by kernel_rfl) (by kernel_rfl) (by kernel_rfl) (fun _ _ _ h => h) (hSq4) (yieldsIf_load_mid (by kernel_rfl) 23 (.tmp 3) rfl w.heap.size 0 rfl La _ (fun u hu => ga.out u hu) Try.underlying23 rfl (by rw [hla.out]; exact size23)) ?_
    simp only [List.setIfInBounds_toArray, List.set_cons_zero, List.set_cons_succ]
    refine takeH_at 21 54 (.agg Lc.toArray) rfl rfl (by kernel_rfl) (by kernel_rfl) (by kernel_rfl) (fun _ _ _ h => h) (hSq4) (yieldsIf_load_mid (by kernel_rfl) 23 (.tmp 5) rfl (w.heap.size + 2) 0 rfl Lc _ (fun u hu => gc.out u hu) Try.underlying23 rfl (by rw [hlc.out]; exact size23)) ?_
    simp only [List.setIfInBounds_toArray, List.set_cons_zero, List.set_cons_succ]
    refine wpAnyH_ready (rs := [15]) (by kernel_rfl) (by simp) ?_
    refine AllReadyH.cons rfl (fun K hK => ?_) AllReadyH.nil
    rw [if_pos (by kernel_rfl)]
    go_simp
    refine (Kpbc.out _).mono ?_
    rintro e1 q5 ⟨rfl, hbq5⟩
    have hSq5 : Below w1.heap.size w1 q5 := (hSq4).trans (hbq5.mono (hSq4).size)
    go_wp2_with fail
    refine hK.out _ _ hSq5 (fun _ => ?_)
    clear hK K
    try simp only [List.setIfInBounds_toArray, List.set_cons_zero, List.set_cons_succ]
    refine wpAnyH_ready (rs := [16]) (by kernel_rfl) (by simp) ?_
    refine AllReadyH.cons rfl (fun K hK => ?_) AllReadyH.nil
    rw [if_pos (by kernel_rfl)]
    go_simp
    refine (KaP.out _).mono ?_
    rintro e1 q6 ⟨rfl, hbq6⟩
    have hSq6 : Below w1.heap.size w1 q6 := (hSq5).trans (hbq6.mono (hSq5).size)
    go_wp2_with fail
    refine hK.out _ _ hSq6 (fun _ => ?_)
    clear hK K
    try simp only [List.setIfInBounds_toArray, List.set_cons_zero, List.set_cons_succ]
    refine wpAnyH_ready (rs := [19]) (by kernel_rfl) (by simp) ?_
    refine AllReadyH.cons rfl (fun K hK => ?_) AllReadyH.nil
    rw [if_pos (by kernel_rfl)]
    go_simp
    refine (Kab.out _).mono ?_
    rintro e1 q7 ⟨rfl, hbq7⟩
    have hSq7 : Below w1.heap.size w1 q7 := (hSq6).trans (hbq7.mono (hSq6).size)
    go_wp2_with fail
    refine hK.out _ _ hSq7 (fun _ => ?_)
    clear hK K
    try simp only [List.setIfInBounds_toArray, List.set_cons_zero, List.set_cons_succ]
    refine wpAnyH_ready (rs := [22]) (by kernel_rfl) (by simp) ?_
    refine AllReadyH.cons rfl (fun K hK => ?_) AllReadyH.nil
    rw [if_pos (by kernel_rfl)]
    go_simp
    refine (Kac.out _).mono ?_
    rintro e1 q8 ⟨rfl, hbq8⟩
    have hSq8 : Below w1.heap.size w1 q8 := (hSq7).trans (hbq8.mono (hSq7).size)
    go_wp2_with fail
    refine hK.out _ _ hSq8 (fun _ => ?_)
    clear hK K
    try simp only [List.setIfInBounds_toArray, List.set_cons_zero, List.set_cons_succ]
    refine wpAnyH_ready (rs := [23]) (by kernel_rfl) (by simp) ?_
    refine AllReadyH.cons rfl (fun K hK => ?_) AllReadyH.nil
    rw [if_pos (by kernel_rfl)]
    go_simp
    refine (KpDD.out _).mono ?_
    rintro e1 q9 ⟨rfl, hbq9⟩
    have hSq9 : Below w1.heap.size w1 q9 := (hSq8).trans (hbq9.mono (hSq8).size)
    go_wp2_with fail
    refine hK.out _ _ hSq9 (fun _ => ?_)
    clear hK K
    try simp only [List.setIfInBounds_toArray, List.set_cons_zero, List.set_cons_succ]
    refine takeH_at 24 57 (.bool false) rfl rfl (by kernel_rfl) (by kernel_rfl) (by kernel_rfl) (fun _ _ _ h => h) (hSq9) (Or.inl ⟨by kernel_rfl, fun w' hS' => by have q := hE1 w'; go_simp⟩) ?_
    simp only [List.setIfInBounds_toArray, List.set_cons_zero, List.set_cons_succ]
    refine takeH_at 25 58 (.bool false) rfl rfl (by kernel_rfl) (by kernel_rfl) (by kernel_rfl) (fun _ _ _ h => h) (hSq9) (Or.inl ⟨by kernel_rfl, fun w' hS' => by go_simp⟩) ?_
    simp only [List.setIfInBounds_toArray, List.set_cons_zero, List.set_cons_succ]
    refine wpAnyH_done (by kernel_rfl) ?_ _
    refine NoPanic.normal ?_
    go_wp2_with fail
    go_meet
    exact ⟨rfl, hSq9⟩
  case rest =>
  clear HB2
  obtain ⟨rfl, HB2⟩ := hcut
  clear Kab Kba Ka1 Ka0 KDc Kbc KaD Kpbc KaP Kac KpDD hD1 hE1 hF1 hZ1
  have hT8 : (wc.alloc (.cells #[.int .u8 0, .int .u8 0, .int .u8 0, .int .u8 0, .int .u8 0, .int .u8 0, .int .u8 0, .int .u8 0, .int .u8 0, .int .u8 0, .int .u8 0, .int .u8 0, .int .u8 0, .int .u8 0, .int .u8 0, .int .u8 0] 23)).there wc.heap.size 0 Lo.length := by rw [hlo.out]; exact there_new wc _ 23 16 (Nat.le_refl _)
  go_upto_region 7 with (first
    | (refine wpList_load_mid (by rfl) 23 (.tmp 7) (by rfl) T7 0 (by rfl) Lo _ (g7.out _ HB2.out) Try.underlying23 rfl (by rw [hlo.out]; exact size23) ?_)
    | (refine wpList_store_mid (by rfl) 23 (.tmp 8) (.tmp 59) (by rfl) wc.heap.size 0 Lo.toArray (by rfl) (by rfl) (by simpa using hT8) (by rw [List.size_toArray, hlo.out]; exact size23) hoo.out ?_))
  have H6 : Hid (Below w1.heap.size w1 ((wc.alloc (.cells #[.int .u8 0, .int .u8 0, .int .u8 0, .int .u8 0, .int .u8 0, .int .u8 0, .int .u8 0, .int .u8 0, .int .u8 0, .int .u8 0, .int .u8 0, .int .u8 0, .int .u8 0, .int .u8 0, .int .u8 0, .int .u8 0] 23)).setCells wc.heap.size 0 Lo) ∧ ((wc.alloc (.cells #[.int .u8 0, .int .u8 0, .int .u8 0, .int .u8 0, .int .u8 0, .int .u8 0, .int .u8 0, .int .u8 0, .int .u8 0, .int .u8 0, .int .u8 0, .int .u8 0, .int .u8 0, .int .u8 0, .int .u8 0, .int .u8 0] 23)).setCells wc.heap.size 0 Lo).rangeAt wc.heap.size 0 Lo ∧ ((wc.alloc (.cells #[.int .u8 0, .int .u8 0, .int .u8 0, .int .u8 0, .int .u8 0, .int .u8 0, .int .u8 0, .int .u8 0, .int .u8 0, .int .u8 0, .int .u8 0, .int .u8 0, .int .u8 0, .int .u8 0, .int .u8 0, .int .u8 0] 23)).setCells wc.heap.size 0 Lo).there wc.heap.size 0 16 ∧ w1.heap.size ≤ wc.heap.size ∧ wc.heap.size < ((wc.alloc (.cells #[.int .u8 0, .int .u8 0, .int .u8 0, .int .u8 0, .int .u8 0, .int .u8 0, .int .u8 0, .int .u8 0, .int .u8 0, .int .u8 0, .int .u8 0, .int .u8 0, .int .u8 0, .int .u8 0, .int .u8 0, .int .u8 0] 23)).setCells wc.heap.size 0 Lo).heap.size) :=
    ⟨belowB_setCells _ HB2.out.size _ _ _ (HB2.out.alloc HB2.out.size _), World.rangeAt_setCells_same _ _ _ _ hT8, World.there_setCells (by rw [hlo.out] at hT8; exact hT8) _ _ _, HB2.out.size, by rw [size_setCells]; simp⟩
  generalize (wc.alloc (.cells #[.int .u8 0, .int .u8 0, .int .u8 0, .int .u8 0, .int .u8 0, .int .u8 0, .int .u8 0, .int .u8 0, .int .u8 0, .int .u8 0, .int .u8 0, .int .u8 0, .int .u8 0, .int .u8 0, .int .u8 0, .int .u8 0] 23)).setCells wc.heap.size 0 Lo = w6 at H6 ⊢
  generalize wc.heap.size = T8 at H6 ⊢
  clear hT8
  have hT9 : (w6.alloc (.cells #[.int .u8 0, .int .u8 0, .int .u8 0, .int .u8 0, .int .u8 0, .int .u8 0, .int .u8 0, .int .u8 0, .int .u8 0, .int .u8 0, .int .u8 0, .int .u8 0, .int .u8 0, .int .u8 0, .int .u8 0, .int .u8 0] 23)).there w6.heap.size 0 La.length := by rw [hla.out]; exact there_new w6 _ 23 16 (Nat.le_refl _)
  go_upto_region 8 with (first
    | (refine wpList_load_mid (by rfl) 23 (.tmp 3) (by rfl) w.heap.size 0 (by rfl) La _ (ga.out _ H6.out.1) Try.underlying23 rfl (by rw [hla.out]; exact size23) ?_)
    | (refine wpList_store_mid (by rfl) 23 (.tmp 9) (.tmp 60) (by rfl) w6.heap.size 0 La.toArray (by rfl) (by rfl) (by simpa using hT9) (by rw [List.size_toArray, hla.out]; exact size23) hoa.out ?_))
  have H7 : Hid (Below w1.heap.size w1 ((w6.alloc (.cells #[.int .u8 0, .int .u8 0, .int .u8 0, .int .u8 0, .int .u8 0, .int .u8 0, .int .u8 0, .int .u8 0, .int .u8 0, .int .u8 0, .int .u8 0, .int .u8 0, .int .u8 0, .int .u8 0, .int .u8 0, .int .u8 0] 23)).setCells w6.heap.size 0 La) ∧ ((w6.alloc (.cells #[.int .u8 0, .int .u8 0, .int .u8 0, .int .u8 0, .int .u8 0, .int .u8 0, .int .u8 0, .int .u8 0, .int .u8 0, .int .u8 0, .int .u8 0, .int .u8 0, .int .u8 0, .int .u8 0, .int .u8 0, .int .u8 0] 23)).setCells w6.heap.size 0 La).rangeAt T8 0 (BL (xk a 0)) ∧ ((w6.alloc (.cells #[.int .u8 0, .int .u8 0, .int .u8 0, .int .u8 0, .int .u8 0, .int .u8 0, .int .u8 0, .int .u8 0, .int .u8 0, .int .u8 0, .int .u8 0, .int .u8 0, .int .u8 0, .int .u8 0, .int .u8 0, .int .u8 0] 23)).setCells w6.heap.size 0 La).there T8 0 16 ∧ ((w6.alloc (.cells #[.int .u8 0, .int .u8 0, .int .u8 0, .int .u8 0, .int .u8 0, .int .u8 0, .int .u8 0, .int .u8 0, .int .u8 0, .int .u8 0, .int .u8 0, .int .u8 0, .int .u8 0, .int .u8 0, .int .u8 0, .int .u8 0] 23)).setCells w6.heap.size 0 La).rangeAt w6.heap.size 0 (BL (yk a 0)) ∧ ((w6.alloc (.cells #[.int .u8 0, .int .u8 0, .int .u8 0, .int .u8 0, .int .u8 0, .int .u8 0, .int .u8 0, .int .u8 0, .int .u8 0, .int .u8 0, .int .u8 0, .int .u8 0, .int .u8 0, .int .u8 0, .int .u8 0, .int .u8 0] 23)).setCells w6.heap.size 0 La).there w6.heap.size 0 16 ∧ w1.heap.size ≤ T8 ∧ T8 < w6.heap.size ∧ w6.heap.size < ((w6.alloc (.cells #[.int .u8 0, .int .u8 0, .int .u8 0, .int .u8 0, .int .u8 0, .int .u8 0, .int .u8 0, .int .u8 0, .int .u8 0, .int .u8 0, .int .u8 0, .int .u8 0, .int .u8 0, .int .u8 0, .int .u8 0, .int .u8 0] 23)).setCells w6.heap.size 0 La).heap.size) := by
    obtain ⟨p1, p2, p3, p4, p5⟩ := H6.out
    have hb : Below w6.heap.size w6 ((w6.alloc (.cells #[.int .u8 0, .int .u8 0, .int .u8 0, .int .u8 0, .int .u8 0, .int .u8 0, .int .u8 0, .int .u8 0, .int .u8 0, .int .u8 0, .int .u8 0, .int .u8 0, .int .u8 0, .int .u8 0, .int .u8 0, .int .u8 0] 23)).setCells w6.heap.size 0 La) := belowB_setCells _ (Nat.le_refl _) _ _ _ ((Below.refl _ w6).alloc (Nat.le_refl _) _)
    refine ⟨p1.trans (hb.mono p1.size), ?_, there_below p3 hb p5, ?_, World.there_setCells (by rw [hla.out] at hT9; exact hT9) _ _ _, p4, p5, by rw [size_setCells]; simp⟩
    · have e : BL (xk a 0) = Lo := by rw [HLo.out]; rfl
      rw [e]
      exact range_below p2 hb p5
    · rw [yk_zero, ← HLa.out]
      exact World.rangeAt_setCells_same _ _ _ _ hT9
  generalize (w6.alloc (.cells #[.int .u8 0, .int .u8 0, .int .u8 0, .int .u8 0, .int .u8 0, .int .u8 0, .int .u8 0, .int .u8 0, .int .u8 0, .int .u8 0, .int .u8 0, .int .u8 0, .int .u8 0, .int .u8 0, .int .u8 0, .int .u8 0] 23)).setCells w6.heap.size 0 La = w7 at H7 ⊢
  generalize w6.heap.size = T9 at H7 ⊢
  clear hT9 H6
  go_wp2_with fail
  go_loopw [10] (fun i wr => ∃ k : Nat, k ≤ 128 ∧ i = .int .i64 (k : Nat) ∧ Hid (Below T8 w7 wr ∧ wr.rangeAt T8 0 (BL (xk a k)) ∧ wr.there T8 0 16 ∧ wr.rangeAt T9 0 (BL (yk a k)) ∧ wr.there T9 0 16 ∧ T9 < wr.heap.size)) (fun i _ => 128 - (intOf i).toNat)
  case atStart => exact ⟨0, by omega, rfl, Below.refl _ _, H7.out.2.1, H7.out.2.2.1, H7.out.2.2.2.1, H7.out.2.2.2.2.1, H7.out.2.2.2.2.2.2.2⟩
  case round =>
    obtain ⟨k, hk, rfl, HR⟩ := hrel
    have H89 : Hid (T8 < T9 ∧ T8 < wr.heap.size) := ⟨H7.out.2.2.2.2.2.2.1, by have h1 := H7.out.2.2.2.2.2.2.1; have h2 := HR.out.2.2.2.2.2; omega⟩
    by_cases hlt : k < 128
    · obtain ⟨Lx, HLx⟩ : ∃ L, Hid (L = BL (xk a k)) := ⟨_, rfl⟩
      obtain ⟨Ly, HLy⟩ : ∃ L, Hid (L = BL (yk a k)) := ⟨_, rfl⟩
      obtain ⟨Lx2, HLx2⟩ : ∃ L, Hid (L = BL (xk a (k + 1))) := ⟨_, rfl⟩
      obtain ⟨Ly2, HLy2⟩ : ∃ L, Hid (L = BL (yk a (k + 1))) := ⟨_, rfl⟩
      have Kxy : Hid (∀ u, Calls Try.prog 9 #[.agg Lx.toArray, .agg Ly.toArray] u fun e w' => e = .returned (.agg Lx2.toArray) ∧ Below u.heap.size u w') := fun u => by rw [HLx.out, HLy.out, HLx2.out, ← xk_succ]; exact times_ok _ _ u
      have Kyy : Hid (∀ u, Calls Try.prog 9 #[.agg Ly.toArray, .agg Ly.toArray] u fun e w' => e = .returned (.agg Ly2.toArray) ∧ Below u.heap.size u w') := fun u => by rw [HLy.out, HLy2.out, ← yk_succ]; exact times_ok _ _ u
      have hlx : Hid (Lx.length = 16) := by show _ = _; rw [HLx.out]; rfl
      have hly : Hid (Ly.length = 16) := by show _ = _; rw [HLy.out]; rfl
      have hlx2 : Hid (Lx2.length = 16) := by show _ = _; rw [HLx2.out]; rfl
      have hly2 : Hid (Ly2.length = 16) := by show _ = _; rw [HLy2.out]; rfl
      have hox2 : Hid (Lx2.toArray.all (·.oneCell') = true) := by show _ = _; rw [HLx2.out]; exact BL_one _
      have hoy2 : Hid (Ly2.toArray.all (·.oneCell') = true) := by show _ = _; rw [HLy2.out]; exact BL_one _
      rw [← HLx.out, ← HLy.out] at HR
      have hki : ((k : Nat) : Int) < 128 := by omega
      go_upto_region 12 with (first
        | (refine wpList_load_mid (by rfl) 23 (.tmp 8) (by rfl) T8 0 (by rfl) Lx _ HR.out.2.1 Try.underlying23 rfl (by rw [hlx.out]; exact size23) ?_)
        | (refine wpList_load_mid (by rfl) 23 (.tmp 9) (by rfl) T9 0 (by rfl) Ly _ HR.out.2.2.2.1 Try.underlying23 rfl (by rw [hly.out]; exact size23) ?_)
        | (go_at_call 9; refine (Kxy.out _).mono ?_; rintro e1 w11 ⟨rfl, hb11⟩)
        | (refine wpList_store_mid (by rfl) 23 (.tmp 8) (.tmp 67) (by rfl) T8 0 Lx2.toArray (by rfl) (by rfl) (by rw [List.size_toArray, hlx2.out]; exact there_below HR.out.2.2.1 hb11 H89.out.2) (by rw [List.size_toArray, hlx2.out]; exact size23) hox2.out ?_))
      have H12 : Hid (Below T8 w7 (w11.setCells T8 0 Lx2) ∧ (w11.setCells T8 0 Lx2).rangeAt T8 0 Lx2 ∧ (w11.setCells T8 0 Lx2).there T8 0 16 ∧ (w11.setCells T8 0 Lx2).rangeAt T9 0 Ly ∧ (w11.setCells T8 0 Lx2).there T9 0 16 ∧ T9 < (w11.setCells T8 0 Lx2).heap.size) := by
        obtain ⟨p1, p2, p3, p4, p5, p6⟩ := HR.out
        obtain ⟨n1, n2⟩ := H89.out
        have t8 := there_below p3 hb11 n2
        have hz := hb11.size
        refine ⟨belowB_setCells _ (Nat.le_refl _) _ _ _ (p1.trans (hb11.mono (by omega))), World.rangeAt_setCells_same _ _ _ _ (by rw [hlx2.out]; exact t8), World.there_setCells t8 _ _ _, World.rangeAt_setCells_apart (range_below p4 hb11 p6) _ _ _ (Or.inl (by omega)), World.there_setCells (there_below p5 hb11 p6) _ _ _, by rw [size_setCells]; omega⟩
      generalize w11.setCells T8 0 Lx2 = w12 at H12 ⊢
      clear hb11 Kxy
      go_wp2_with (first
        | (refine wpList_load_mid (by rfl) 23 (.tmp 9) (by rfl) T9 0 (by rfl) Ly _ H12.out.2.2.2.1 Try.underlying23 rfl (by rw [hly.out]; exact size23) ?_)
        | (go_at_call 9; refine (Kyy.out _).mono ?_; rintro e1 w13 ⟨rfl, hb13⟩)
        | (refine wpList_store_mid (by rfl) 23 (.tmp 9) (.tmp 70) (by rfl) T9 0 Ly2.toArray (by rfl) (by rfl) (by rw [List.size_toArray, hly2.out]; exact there_below H12.out.2.2.2.2.1 hb13 H12.out.2.2.2.2.2) (by rw [List.size_toArray, hly2.out]; exact size23) hoy2.out ?_))
      refine ⟨⟨k + 1, by omega, rfl, ?_⟩, by simp only [intOf]; omega⟩
      rw [← HLx2.out, ← HLy2.out]
      obtain ⟨p1, p2, p3, p4, p5, p6⟩ := H12.out
      obtain ⟨n1, n2⟩ := H89.out
      have hz := hb13.size
      have t9 := there_below p5 hb13 p6
      exact ⟨belowB_setCells _ (by omega) _ _ _ (p1.trans (hb13.mono (by omega))), World.rangeAt_setCells_apart (range_below p2 hb13 (by omega)) _ _ _ (Or.inl (by omega)), World.there_setCells (there_below p3 hb13 (by omega)) _ _ _, World.rangeAt_setCells_same _ _ _ _ (by rw [hly2.out]; exact t9), World.there_setCells t9 _ _ _, by rw [size_setCells]; omega⟩
    · obtain rfl : k = 128 := by omega
      have HV : Hid (Below w1.heap.size w1 wr ∧ wr.rangeAt T8 0 (BL (xk a 128)) ∧ wr.rangeAt T9 0 La) := by
        obtain ⟨p1, p2, p3, p4, p5, p6⟩ := HR.out
        refine ⟨H7.out.1.trans (p1.mono H7.out.2.2.2.2.2.1), p2, ?_⟩
        rw [yk_end, ← HLa.out] at p4
        exact p4
      have ga15 : Hid (∀ u, Below wr.heap.size wr u → u.rangeAt w.heap.size 0 La) := fun u hu => ga.out u (HV.out.1.trans (hu.mono HV.out.1.size))
      go_upto_region 13 with fail
      go_cut [83] from 71 to 83 (fun c wx => c = .bool false ∧ wx = wr)
      case first =>
        by_cases h0 : a = 0#128
        · have hN2 : ∀ u, (binOp .neq 23 (.agg La.toArray) (.agg #[.int .u8 0, .int .u8 0, .int .u8 0, .int .u8 0, .int .u8 0, .int .u8 0, .int .u8 0, .int .u8 0, .int .u8 0, .int .u8 0, .int .u8 0, .int .u8 0, .int .u8 0, .int .u8 0, .int .u8 0, .int .u8 0])).run Try.prog u = .ok (.bool false) u := fun u => by rw [hN1 u, decide_eq_true h0]; rfl
          clear h0 hN1
          go_wp2_with (first
            | (refine wpList_load_mid (by rfl) 23 (.tmp 3) (by rfl) w.heap.size 0 (by rfl) La _ (ga.out _ HV.out.1) Try.underlying23 rfl (by rw [hla.out]; exact size23) ?_)
            | (refine load_wanted 23 (.tmp 9) (by rfl) (by simp [Region.wanted, yielded, Act.put]) T9 0 (by rfl) La _ HV.out.2.2 Try.underlying23 rfl (by rw [hla.out]; exact size23) ?_)
            | (refine load_wanted 23 (.tmp 3) (by rfl) (by simp [Region.wanted, yielded, Act.put]) w.heap.size 0 (by rfl) La _ (ga.out _ HV.out.1) Try.underlying23 rfl (by rw [hla.out]; exact size23) ?_))
          go_meet
          exact ⟨rfl, rfl⟩
        · have hN2 : ∀ u, (binOp .neq 23 (.agg La.toArray) (.agg #[.int .u8 0, .int .u8 0, .int .u8 0, .int .u8 0, .int .u8 0, .int .u8 0, .int .u8 0, .int .u8 0, .int .u8 0, .int .u8 0, .int .u8 0, .int .u8 0, .int .u8 0, .int .u8 0, .int .u8 0, .int .u8 0])).run Try.prog u = .ok (.bool true) u := fun u => by rw [hN1 u, decide_eq_false h0]; rfl
          have HX : Hid (wr.rangeAt T8 0 Lo) := by show World.rangeAt _ _ _ _; rw [HLo.out, ← xk_end h0]; exact HV.out.2.1
          clear h0 hN1
          go_wp2_with (first
            | (refine wpList_load_mid (by rfl) 23 (.tmp 3) (by rfl) w.heap.size 0 (by rfl) La _ (ga.out _ HV.out.1) Try.underlying23 rfl (by rw [hla.out]; exact size23) ?_)
            | (refine load_wanted 23 (.tmp 8) (by rfl) (by simp [Region.wanted, yielded, Act.put]) T8 0 (by rfl) Lo _ HX.out Try.underlying23 rfl (by rw [hlo.out]; exact size23) ?_)
            | (refine load_wanted 23 (.tmp 7) (by rfl) (by simp [Region.wanted, yielded, Act.put]) T7 0 (by rfl) Lo _ (g7.out _ HV.out.1) Try.underlying23 rfl (by rw [hlo.out]; exact size23) ?_)
            | (refine load_wanted 23 (.tmp 9) (by rfl) (by simp [Region.wanted, yielded, Act.put]) T9 0 (by rfl) La _ HV.out.2.2 Try.underlying23 rfl (by rw [hla.out]; exact size23) ?_)
            | (refine load_wanted 23 (.tmp 3) (by rfl) (by simp [Region.wanted, yielded, Act.put]) w.heap.size 0 (by rfl) La _ (ga.out _ HV.out.1) Try.underlying23 rfl (by rw [hla.out]; exact size23) ?_))
          go_meet
          exact ⟨rfl, rfl⟩
      case rest =>
      obtain ⟨rfl, hwc⟩ := hcut
      have hwc' := hwc.symm
      subst hwc'
      go_upto_region 15 with fail
      have hS0 : Below wr.heap.size wr wr.drew := (Below.refl _ _).drew
      refine wp_region_noPanic ?_
      refine wp_region_held_drew (S := fun u => Below wr.heap.size wr u) (by kernel_rfl) (hS0) (fun _ => ?_)
      refine takeH_at 0 84 (.agg La.toArray) rfl rfl (by kernel_rfl) (by kernel_rfl) (by kernel_rfl) (fun _ _ _ h => h) (hS0) (yieldsIf_load_mid (by kernel_rfl) 23 (.tmp 3) rfl w.heap.size 0 rfl La _ (fun u hu => ga15.out u hu) Try.underlying23 rfl (by rw [hla.out]; exact size23)) ?_
      simp only [List.setIfInBounds_toArray, List.set_cons_zero, List.set_cons_succ]
      refine takeH_at 3 87 (.agg La.toArray) rfl rfl (by kernel_rfl) (by kernel_rfl) (by kernel_rfl) (fun _ _ _ h => h) (hS0) (yieldsIf_load_mid (by kernel_rfl) 23 (.tmp 3) rfl w.heap.size 0 rfl La _ (fun u hu => ga15.out u hu) Try.underlying23 rfl (by rw [hla.out]; exact size23)) ?_
      simp only [List.setIfInBounds_toArray, List.set_cons_zero, List.set_cons_succ]
      refine takeH_at 5 89 (.agg #[.int .u8 0, .int .u8 0, .int .u8 0, .int .u8 0, .int .u8 0, .int .u8 0, .int .u8 0, .int .u8 0, .int .u8 0, .int .u8 0, .int .u8 0, .int .u8 0, .int .u8 0, .int .u8 0, .int .u8 0, .int .u8 2]) rfl rfl (by kernel_rfl) (by kernel_rfl) (by kernel_rfl) (fun _ _ _ h => h) (hS0) (yieldsIf_build (by kernel_rfl) 23 #[(15, .const (.int .u8 2))] rfl _ (by simp only [List.map_toArray, List.map_cons, List.map_nil]; kernel_rfl)) ?_
      simp only [List.setIfInBounds_toArray, List.set_cons_zero, List.set_cons_succ]
      refine wpAnyH_ready (rs := [1]) (by kernel_rfl) (by simp) ?_
      refine AllReadyH.cons rfl (fun K hK => ?_) AllReadyH.nil
      go_simp
      refine (Kdb.out _).mono ?_
      rintro e1 q1 ⟨rfl, hbq1⟩
      have hSq1 : Below wr.heap.size wr q1 := (hS0).trans (hbq1.mono (hS0).size)
      go_wp2_with fail
      refine hK.out _ _ hSq1 (fun _ => ?_)
      clear hK K
      try simp only [List.setIfInBounds_toArray, List.set_cons_zero, List.set_cons_succ]
      refine wpAnyH_ready (rs := [2]) (by kernel_rfl) (by simp) ?_
      refine AllReadyH.cons rfl (fun K hK => ?_) AllReadyH.nil
      go_simp
      refine (Ktd.out _).mono ?_
      rintro e1 q2 ⟨rfl, hbq2⟩
      have hSq2 : Below wr.heap.size wr q2 := (hSq1).trans (hbq2.mono (hSq1).size)
      go_wp2_with fail
      refine hK.out _ _ hSq2 (fun _ => ?_)
      clear hK K
      try simp only [List.setIfInBounds_toArray, List.set_cons_zero, List.set_cons_succ]
      refine wpAnyH_ready (rs := [4]) (by kernel_rfl) (by simp) ?_
      refine AllReadyH.cons rfl (fun K hK => ?_) AllReadyH.nil
      go_simp
      refine (Kta.out _).mono ?_
      rintro e1 q3 ⟨rfl, hbq3⟩
      have hSq3 : Below wr.heap.size wr q3 := (hSq2).trans (hbq3.mono (hSq2).size)
      go_wp2_with fail
      refine hK.out _ _ hSq3 (fun _ => ?_)
      clear hK K
      try simp only [List.setIfInBounds_toArray, List.set_cons_zero, List.set_cons_succ]
      refine wpAnyH_ready (rs := [6]) (by kernel_rfl) (by simp) ?_
      refine AllReadyH.cons rfl (fun K hK => ?_) AllReadyH.nil
      go_simp
      refine (K2.out _).mono ?_
      rintro e1 q4 ⟨rfl, hbq4⟩
      have hSq4 : Below wr.heap.size wr q4 := (hSq3).trans (hbq4.mono (hSq3).size)
      go_wp2_with fail
      refine hK.out _ _ hSq4 (fun _ => ?_)
      clear hK K
      try simp only [List.setIfInBounds_toArray, List.set_cons_zero, List.set_cons_succ]
      refine takeH_at 7 91 (.bool true) rfl rfl (by kernel_rfl) (by kernel_rfl) (by kernel_rfl) (fun _ _ _ h => h) (hSq4) (Or.inl ⟨by kernel_rfl, fun w' hS' => by have q := hQ1 w'; go_simp⟩) ?_
      simp only [List.setIfInBounds_toArray, List.set_cons_zero, List.set_cons_succ]
      refine takeH_at 8 6 (.bool true) rfl rfl (by kernel_rfl) (by kernel_rfl) (by kernel_rfl) (fun _ _ _ h => h) (hSq4) (Or.inl ⟨by kernel_rfl, fun w' hS' => by go_simp⟩) ?_
      simp only [List.setIfInBounds_toArray, List.set_cons_zero, List.set_cons_succ]
      refine wpAnyH_done (by kernel_rfl) ?_ _
      refine NoPanic.normal ?_
      have HF : Hid (Below w.heap.size w q4) := HW.out.1.trans ((HV.out.1.trans (Below.mono hSq4 HV.out.1.size)).mono HW.out.1.size)
      go_wp2_with fail
      go_ret
      exact ⟨rfl, HF.out⟩
end Go.Proofs.Ytogpkphnkbebeaa
