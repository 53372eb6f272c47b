import Derived.Test.YtcnikfikpnnblaaGreatDoorFdDot
namespace Go.Proofs.YtcnikfikpnnblaaGreatDoor.Fd
open Go.RowKit Go.Proofs.YtcnikfikpnnblaaGreatDoor.Fld
set_option linter.unusedVariables false
set_option linter.unusedSimpArgs false
/-- The hash of k blocks. -/
def pvF (h : BitVec 128) (f : Nat → BitVec 128) : Nat → BitVec 128
  | 0 => 0#128
  | k + 1 => D UP (pvF h f k ^^^ f k) h
/-- n blocks at b from off on. -/
def Blks (w : World) (ao : Option Addr) (n : Nat) (f : Nat → BitVec 128) : Prop := n = 0 ∨ ∃ b off, ao = some ⟨b, off, none⟩ ∧ b < w.heap.size ∧ ∀ i, i < n → w.rangeAt b (off + i * 16) (BL (f i))
theorem range_same {w w' : World} {g o : Nat} {L : List Value} (h : w.rangeAt g o L) (e : w'.heap[g]? = w.heap[g]?) : w'.rangeAt g o L := fun j v hv => (World.cell?_of_block (a := ⟨g, o + j, none⟩) e).trans (h j v hv)
theorem Blks.below {w w' : World} {ao : Option Addr} {n : Nat} {f : Nat → BitVec 128} (h : Blks w ao n f) (hb : Below w.heap.size w w') : Blks w' ao n f := by
  rcases h with h | ⟨b, off, e, hlt, hc⟩
  · exact Or.inl h
  · exact Or.inr ⟨b, off, e, Nat.lt_of_lt_of_le hlt hb.size, fun i hi => range_same (hc i hi) (hb.block b hlt)⟩
theorem BL_zero : BL 0#128 = [.int .u8 0, .int .u8 0, .int .u8 0, .int .u8 0, .int .u8 0, .int .u8 0, .int .u8 0, .int .u8 0, .int .u8 0, .int .u8 0, .int .u8 0, .int .u8 0, .int .u8 0, .int .u8 0, .int .u8 0, .int .u8 0] := by simp [BL, byV]
theorem range_zero16 (w : World) : (w.alloc (.cells #[.int .u8 0, .int .u8 0, .int .u8 0, .int .u8 0, .int .u8 0, .int .u8 0, .int .u8 0, .int .u8 0, .int .u8 0, .int .u8 0, .int .u8 0, .int .u8 0, .int .u8 0, .int .u8 0, .int .u8 0, .int .u8 0] 29)).rangeAt w.heap.size 0 (BL 0#128) := by rw [BL_zero]; exact rangeAt_new w #[.int .u8 0, .int .u8 0, .int .u8 0, .int .u8 0, .int .u8 0, .int .u8 0, .int .u8 0, .int .u8 0, .int .u8 0, .int .u8 0, .int .u8 0, .int .u8 0, .int .u8 0, .int .u8 0, .int .u8 0, .int .u8 0] 29
set_option maxHeartbeats 3200000 in
set_option maxRecDepth 100000 in
theorem polyval_ok (h : BitVec 128) (ao : Option Addr) (n cap : Nat) (f : Nat → BitVec 128) (w : World) (hB : Blks w ao n f) (hn : n ≤ cap) (hc : cap ≤ 9223372036854775807) : Calls Tryz.prog 11 #[BV h, .slice ao n cap] w fun e w' => e = .returned (BV (pvF h f n)) ∧ Below w.heap.size w w' := by
  have HB : Hid (Blks w ao n f) := hB
  have HA : Hid (Below w.heap.size w (((w.alloc (.cells #[.int .u8 (byV h 0 : Nat), .int .u8 (byV h 1 : Nat), .int .u8 (byV h 2 : Nat), .int .u8 (byV h 3 : Nat), .int .u8 (byV h 4 : Nat), .int .u8 (byV h 5 : Nat), .int .u8 (byV h 6 : Nat), .int .u8 (byV h 7 : Nat), .int .u8 (byV h 8 : Nat), .int .u8 (byV h 9 : Nat), .int .u8 (byV h 10 : Nat), .int .u8 (byV h 11 : Nat), .int .u8 (byV h 12 : Nat), .int .u8 (byV h 13 : Nat), .int .u8 (byV h 14 : Nat), .int .u8 (byV h 15 : Nat)] 29)).alloc (.cells #[.int .u8 0, .int .u8 0, .int .u8 0, .int .u8 0, .int .u8 0, .int .u8 0, .int .u8 0, .int .u8 0, .int .u8 0, .int .u8 0, .int .u8 0, .int .u8 0, .int .u8 0, .int .u8 0, .int .u8 0, .int .u8 0] 29)).alloc (.cells #[.int .u8 0, .int .u8 0, .int .u8 0, .int .u8 0, .int .u8 0, .int .u8 0, .int .u8 0, .int .u8 0, .int .u8 0, .int .u8 0, .int .u8 0, .int .u8 0, .int .u8 0, .int .u8 0, .int .u8 0, .int .u8 0] 29)) ∧ (((w.alloc (.cells #[.int .u8 (byV h 0 : Nat), .int .u8 (byV h 1 : Nat), .int .u8 (byV h 2 : Nat), .int .u8 (byV h 3 : Nat), .int .u8 (byV h 4 : Nat), .int .u8 (byV h 5 : Nat), .int .u8 (byV h 6 : Nat), .int .u8 (byV h 7 : Nat), .int .u8 (byV h 8 : Nat), .int .u8 (byV h 9 : Nat), .int .u8 (byV h 10 : Nat), .int .u8 (byV h 11 : Nat), .int .u8 (byV h 12 : Nat), .int .u8 (byV h 13 : Nat), .int .u8 (byV h 14 : Nat), .int .u8 (byV h 15 : Nat)] 29)).alloc (.cells #[.int .u8 0, .int .u8 0, .int .u8 0, .int .u8 0, .int .u8 0, .int .u8 0, .int .u8 0, .int .u8 0, .int .u8 0, .int .u8 0, .int .u8 0, .int .u8 0, .int .u8 0, .int .u8 0, .int .u8 0, .int .u8 0] 29)).alloc (.cells #[.int .u8 0, .int .u8 0, .int .u8 0, .int .u8 0, .int .u8 0, .int .u8 0, .int .u8 0, .int .u8 0, .int .u8 0, .int .u8 0, .int .u8 0, .int .u8 0, .int .u8 0, .int .u8 0, .int .u8 0, .int .u8 0] 29)).rangeAt w.heap.size 0 (BL h) ∧ (((w.alloc (.cells #[.int .u8 (byV h 0 : Nat), .int .u8 (byV h 1 : Nat), .int .u8 (byV h 2 : Nat), .int .u8 (byV h 3 : Nat), .int .u8 (byV h 4 : Nat), .int .u8 (byV h 5 : Nat), .int .u8 (byV h 6 : Nat), .int .u8 (byV h 7 : Nat), .int .u8 (byV h 8 : Nat), .int .u8 (byV h 9 : Nat), .int .u8 (byV h 10 : Nat), .int .u8 (byV h 11 : Nat), .int .u8 (byV h 12 : Nat), .int .u8 (byV h 13 : Nat), .int .u8 (byV h 14 : Nat), .int .u8 (byV h 15 : Nat)] 29)).alloc (.cells #[.int .u8 0, .int .u8 0, .int .u8 0, .int .u8 0, .int .u8 0, .int .u8 0, .int .u8 0, .int .u8 0, .int .u8 0, .int .u8 0, .int .u8 0, .int .u8 0, .int .u8 0, .int .u8 0, .int .u8 0, .int .u8 0] 29)).alloc (.cells #[.int .u8 0, .int .u8 0, .int .u8 0, .int .u8 0, .int .u8 0, .int .u8 0, .int .u8 0, .int .u8 0, .int .u8 0, .int .u8 0, .int .u8 0, .int .u8 0, .int .u8 0, .int .u8 0, .int .u8 0, .int .u8 0] 29)).there (w.heap.size + 1) 0 16 ∧ (((w.alloc (.cells #[.int .u8 (byV h 0 : Nat), .int .u8 (byV h 1 : Nat), .int .u8 (byV h 2 : Nat), .int .u8 (byV h 3 : Nat), .int .u8 (byV h 4 : Nat), .int .u8 (byV h 5 : Nat), .int .u8 (byV h 6 : Nat), .int .u8 (byV h 7 : Nat), .int .u8 (byV h 8 : Nat), .int .u8 (byV h 9 : Nat), .int .u8 (byV h 10 : Nat), .int .u8 (byV h 11 : Nat), .int .u8 (byV h 12 : Nat), .int .u8 (byV h 13 : Nat), .int .u8 (byV h 14 : Nat), .int .u8 (byV h 15 : Nat)] 29)).alloc (.cells #[.int .u8 0, .int .u8 0, .int .u8 0, .int .u8 0, .int .u8 0, .int .u8 0, .int .u8 0, .int .u8 0, .int .u8 0, .int .u8 0, .int .u8 0, .int .u8 0, .int .u8 0, .int .u8 0, .int .u8 0, .int .u8 0] 29)).alloc (.cells #[.int .u8 0, .int .u8 0, .int .u8 0, .int .u8 0, .int .u8 0, .int .u8 0, .int .u8 0, .int .u8 0, .int .u8 0, .int .u8 0, .int .u8 0, .int .u8 0, .int .u8 0, .int .u8 0, .int .u8 0, .int .u8 0] 29)).rangeAt (w.heap.size + 2) 0 (BL 0#128) ∧ (((w.alloc (.cells #[.int .u8 (byV h 0 : Nat), .int .u8 (byV h 1 : Nat), .int .u8 (byV h 2 : Nat), .int .u8 (byV h 3 : Nat), .int .u8 (byV h 4 : Nat), .int .u8 (byV h 5 : Nat), .int .u8 (byV h 6 : Nat), .int .u8 (byV h 7 : Nat), .int .u8 (byV h 8 : Nat), .int .u8 (byV h 9 : Nat), .int .u8 (byV h 10 : Nat), .int .u8 (byV h 11 : Nat), .int .u8 (byV h 12 : Nat), .int .u8 (byV h 13 : Nat), .int .u8 (byV h 14 : Nat), .int .u8 (byV h 15 : Nat)] 29)).alloc (.cells #[.int .u8 0, .int .u8 0, .int .u8 0, .int .u8 0, .int .u8 0, .int .u8 0, .int .u8 0, .int .u8 0, .int .u8 0, .int .u8 0, .int .u8 0, .int .u8 0, .int .u8 0, .int .u8 0, .int .u8 0, .int .u8 0] 29)).alloc (.cells #[.int .u8 0, .int .u8 0, .int .u8 0, .int .u8 0, .int .u8 0, .int .u8 0, .int .u8 0, .int .u8 0, .int .u8 0, .int .u8 0, .int .u8 0, .int .u8 0, .int .u8 0, .int .u8 0, .int .u8 0, .int .u8 0] 29)).there (w.heap.size + 2) 0 16 ∧ (((w.alloc (.cells #[.int .u8 (byV h 0 : Nat), .int .u8 (byV h 1 : Nat), .int .u8 (byV h 2 : Nat), .int .u8 (byV h 3 : Nat), .int .u8 (byV h 4 : Nat), .int .u8 (byV h 5 : Nat), .int .u8 (byV h 6 : Nat), .int .u8 (byV h 7 : Nat), .int .u8 (byV h 8 : Nat), .int .u8 (byV h 9 : Nat), .int .u8 (byV h 10 : Nat), .int .u8 (byV h 11 : Nat), .int .u8 (byV h 12 : Nat), .int .u8 (byV h 13 : Nat), .int .u8 (byV h 14 : Nat), .int .u8 (byV h 15 : Nat)] 29)).alloc (.cells #[.int .u8 0, .int .u8 0, .int .u8 0, .int .u8 0, .int .u8 0, .int .u8 0, .int .u8 0, .int .u8 0, .int .u8 0, .int .u8 0, .int .u8 0, .int .u8 0, .int .u8 0, .int .u8 0, .int .u8 0, .int .u8 0] 29)).alloc (.cells #[.int .u8 0, .int .u8 0, .int .u8 0, .int .u8 0, .int .u8 0, .int .u8 0, .int .u8 0, .int .u8 0, .int .u8 0, .int .u8 0, .int .u8 0, .int .u8 0, .int .u8 0, .int .u8 0, .int .u8 0, .int .u8 0] 29)).heap.size = w.heap.size + 3) := by
    have e1 : Below (w.heap.size + 1) (w.alloc (.cells #[.int .u8 (byV h 0 : Nat), .int .u8 (byV h 1 : Nat), .int .u8 (byV h 2 : Nat), .int .u8 (byV h 3 : Nat), .int .u8 (byV h 4 : Nat), .int .u8 (byV h 5 : Nat), .int .u8 (byV h 6 : Nat), .int .u8 (byV h 7 : Nat), .int .u8 (byV h 8 : Nat), .int .u8 (byV h 9 : Nat), .int .u8 (byV h 10 : Nat), .int .u8 (byV h 11 : Nat), .int .u8 (byV h 12 : Nat), .int .u8 (byV h 13 : Nat), .int .u8 (byV h 14 : Nat), .int .u8 (byV h 15 : Nat)] 29)) (((w.alloc (.cells #[.int .u8 (byV h 0 : Nat), .int .u8 (byV h 1 : Nat), .int .u8 (byV h 2 : Nat), .int .u8 (byV h 3 : Nat), .int .u8 (byV h 4 : Nat), .int .u8 (byV h 5 : Nat), .int .u8 (byV h 6 : Nat), .int .u8 (byV h 7 : Nat), .int .u8 (byV h 8 : Nat), .int .u8 (byV h 9 : Nat), .int .u8 (byV h 10 : Nat), .int .u8 (byV h 11 : Nat), .int .u8 (byV h 12 : Nat), .int .u8 (byV h 13 : Nat), .int .u8 (byV h 14 : Nat), .int .u8 (byV h 15 : Nat)] 29)).alloc (.cells #[.int .u8 0, .int .u8 0, .int .u8 0, .int .u8 0, .int .u8 0, .int .u8 0, .int .u8 0, .int .u8 0, .int .u8 0, .int .u8 0, .int .u8 0, .int .u8 0, .int .u8 0, .int .u8 0, .int .u8 0, .int .u8 0] 29)).alloc (.cells #[.int .u8 0, .int .u8 0, .int .u8 0, .int .u8 0, .int .u8 0, .int .u8 0, .int .u8 0, .int .u8 0, .int .u8 0, .int .u8 0, .int .u8 0, .int .u8 0, .int .u8 0, .int .u8 0, .int .u8 0, .int .u8 0] 29)) := ((Below.refl _ _).alloc (by simp) _).alloc (by simp) _
    refine ⟨below3 w _ _ _, range_below (rangeAt_new w #[.int .u8 (byV h 0 : Nat), .int .u8 (byV h 1 : Nat), .int .u8 (byV h 2 : Nat), .int .u8 (byV h 3 : Nat), .int .u8 (byV h 4 : Nat), .int .u8 (byV h 5 : Nat), .int .u8 (byV h 6 : Nat), .int .u8 (byV h 7 : Nat), .int .u8 (byV h 8 : Nat), .int .u8 (byV h 9 : Nat), .int .u8 (byV h 10 : Nat), .int .u8 (byV h 11 : Nat), .int .u8 (byV h 12 : Nat), .int .u8 (byV h 13 : Nat), .int .u8 (byV h 14 : Nat), .int .u8 (byV h 15 : Nat)] 29) e1 (by omega), ?_, ?_, ?_, by simp⟩
    · have q := there_new (w.alloc (.cells #[.int .u8 (byV h 0 : Nat), .int .u8 (byV h 1 : Nat), .int .u8 (byV h 2 : Nat), .int .u8 (byV h 3 : Nat), .int .u8 (byV h 4 : Nat), .int .u8 (byV h 5 : Nat), .int .u8 (byV h 6 : Nat), .int .u8 (byV h 7 : Nat), .int .u8 (byV h 8 : Nat), .int .u8 (byV h 9 : Nat), .int .u8 (byV h 10 : Nat), .int .u8 (byV h 11 : Nat), .int .u8 (byV h 12 : Nat), .int .u8 (byV h 13 : Nat), .int .u8 (byV h 14 : Nat), .int .u8 (byV h 15 : Nat)] 29)) #[.int .u8 0, .int .u8 0, .int .u8 0, .int .u8 0, .int .u8 0, .int .u8 0, .int .u8 0, .int .u8 0, .int .u8 0, .int .u8 0, .int .u8 0, .int .u8 0, .int .u8 0, .int .u8 0, .int .u8 0, .int .u8 0] 29 16 (Nat.le_refl _)
      have q2 := World.there_alloc q (.cells #[.int .u8 0, .int .u8 0, .int .u8 0, .int .u8 0, .int .u8 0, .int .u8 0, .int .u8 0, .int .u8 0, .int .u8 0, .int .u8 0, .int .u8 0, .int .u8 0, .int .u8 0, .int .u8 0, .int .u8 0, .int .u8 0] 29)
      simpa using q2
    · have q := range_zero16 ((w.alloc (.cells #[.int .u8 (byV h 0 : Nat), .int .u8 (byV h 1 : Nat), .int .u8 (byV h 2 : Nat), .int .u8 (byV h 3 : Nat), .int .u8 (byV h 4 : Nat), .int .u8 (byV h 5 : Nat), .int .u8 (byV h 6 : Nat), .int .u8 (byV h 7 : Nat), .int .u8 (byV h 8 : Nat), .int .u8 (byV h 9 : Nat), .int .u8 (byV h 10 : Nat), .int .u8 (byV h 11 : Nat), .int .u8 (byV h 12 : Nat), .int .u8 (byV h 13 : Nat), .int .u8 (byV h 14 : Nat), .int .u8 (byV h 15 : Nat)] 29)).alloc (.cells #[.int .u8 0, .int .u8 0, .int .u8 0, .int .u8 0, .int .u8 0, .int .u8 0, .int .u8 0, .int .u8 0, .int .u8 0, .int .u8 0, .int .u8 0, .int .u8 0, .int .u8 0, .int .u8 0, .int .u8 0, .int .u8 0] 29))
      simpa using q
    · have q := there_new ((w.alloc (.cells #[.int .u8 (byV h 0 : Nat), .int .u8 (byV h 1 : Nat), .int .u8 (byV h 2 : Nat), .int .u8 (byV h 3 : Nat), .int .u8 (byV h 4 : Nat), .int .u8 (byV h 5 : Nat), .int .u8 (byV h 6 : Nat), .int .u8 (byV h 7 : Nat), .int .u8 (byV h 8 : Nat), .int .u8 (byV h 9 : Nat), .int .u8 (byV h 10 : Nat), .int .u8 (byV h 11 : Nat), .int .u8 (byV h 12 : Nat), .int .u8 (byV h 13 : Nat), .int .u8 (byV h 14 : Nat), .int .u8 (byV h 15 : Nat)] 29)).alloc (.cells #[.int .u8 0, .int .u8 0, .int .u8 0, .int .u8 0, .int .u8 0, .int .u8 0, .int .u8 0, .int .u8 0, .int .u8 0, .int .u8 0, .int .u8 0, .int .u8 0, .int .u8 0, .int .u8 0, .int .u8 0, .int .u8 0] 29)) #[.int .u8 0, .int .u8 0, .int .u8 0, .int .u8 0, .int .u8 0, .int .u8 0, .int .u8 0, .int .u8 0, .int .u8 0, .int .u8 0, .int .u8 0, .int .u8 0, .int .u8 0, .int .u8 0, .int .u8 0, .int .u8 0] 29 16 (Nat.le_refl _)
      simpa using q
  clear hB
  have hni : ((n : Nat) : Int) ≤ (cap : Nat) := by omega
  have hci : ((cap : Nat) : Int) ≤ 9223372036854775807 := by omega
  obtain ⟨Lh, HLh⟩ : ∃ L, Hid (L = BL h) := ⟨_, rfl⟩
  have hlh : Hid (Lh.length = 16) := by show _ = _; rw [HLh.out]; rfl
  show Calls Tryz.prog 11 #[.agg #[.int .u8 (byV h 0 : Nat), .int .u8 (byV h 1 : Nat), .int .u8 (byV h 2 : Nat), .int .u8 (byV h 3 : Nat), .int .u8 (byV h 4 : Nat), .int .u8 (byV h 5 : Nat), .int .u8 (byV h 6 : Nat), .int .u8 (byV h 7 : Nat), .int .u8 (byV h 8 : Nat), .int .u8 (byV h 9 : Nat), .int .u8 (byV h 10 : Nat), .int .u8 (byV h 11 : Nat), .int .u8 (byV h 12 : Nat), .int .u8 (byV h 13 : Nat), .int .u8 (byV h 14 : Nat), .int .u8 (byV h 15 : Nat)], .slice ao n cap] w _
  go_enter Tryz.func11, Tryz.ntmps11
  go_upto_region 2 with fail
  generalize ((w.alloc (.cells #[.int .u8 (byV h 0 : Nat), .int .u8 (byV h 1 : Nat), .int .u8 (byV h 2 : Nat), .int .u8 (byV h 3 : Nat), .int .u8 (byV h 4 : Nat), .int .u8 (byV h 5 : Nat), .int .u8 (byV h 6 : Nat), .int .u8 (byV h 7 : Nat), .int .u8 (byV h 8 : Nat), .int .u8 (byV h 9 : Nat), .int .u8 (byV h 10 : Nat), .int .u8 (byV h 11 : Nat), .int .u8 (byV h 12 : Nat), .int .u8 (byV h 13 : Nat), .int .u8 (byV h 14 : Nat), .int .u8 (byV h 15 : Nat)] 29)).alloc (.cells #[.int .u8 0, .int .u8 0, .int .u8 0, .int .u8 0, .int .u8 0, .int .u8 0, .int .u8 0, .int .u8 0, .int .u8 0, .int .u8 0, .int .u8 0, .int .u8 0, .int .u8 0, .int .u8 0, .int .u8 0, .int .u8 0] 29)).alloc (.cells #[.int .u8 0, .int .u8 0, .int .u8 0, .int .u8 0, .int .u8 0, .int .u8 0, .int .u8 0, .int .u8 0, .int .u8 0, .int .u8 0, .int .u8 0, .int .u8 0, .int .u8 0, .int .u8 0, .int .u8 0, .int .u8 0] 29) = w3 at HA ⊢
  rw [← HLh.out] at HA
  go_wp2
  go_loopw [10] (fun i wr => ∃ k : Nat, k ≤ n ∧ i = .int .i64 (k : Nat) ∧ Hid (Below (w.heap.size + 2) w3 wr ∧ wr.rangeAt (w.heap.size + 2) 0 (BL (pvF h f k)) ∧ wr.there (w.heap.size + 2) 0 16 ∧ w.heap.size + 3 ≤ wr.heap.size)) (fun i _ => n - (intOf i).toNat)
  case atStart => exact ⟨0, by omega, rfl, Below.refl _ _, HA.out.2.2.2.1, HA.out.2.2.2.2.1, by rw [HA.out.2.2.2.2.2]; exact Nat.le_refl _⟩
  case round =>
    obtain ⟨k, hk, rfl, HR⟩ := hrel
    by_cases hlt : k < n
    · obtain ⟨b, off, hao, HBK⟩ : ∃ b off, ao = some ⟨b, off, none⟩ ∧ Hid (b < w.heap.size ∧ ∀ i, i < n → w.rangeAt b (off + i * 16) (BL (f i))) := by
        rcases HB.out with h0 | ⟨b, off, e, q⟩
        · omega
        · exact ⟨b, off, e, q⟩
      subst hao
      have KX : Hid (∀ u, Calls Tryz.prog 41 #[.agg (BL (pvF h f k)).toArray, .agg (BL (f k)).toArray] u fun e w' => e = .returned (.agg (BL (pvF h f k ^^^ f k)).toArray) ∧ Below u.heap.size u w') := fun u => xor_ok _ _ u
      have KD : Hid (∀ u, Calls Tryz.prog 40 #[.agg (BL (pvF h f k ^^^ f k)).toArray, .agg Lh.toArray] u fun e w' => e = .returned (.agg (BL (pvF h f (k + 1))).toArray) ∧ Below u.heap.size u w') := fun u => by rw [HLh.out]; exact dot_ok _ h u
      obtain ⟨L0, HL0⟩ : ∃ L, Hid (L = BL (pvF h f k)) := ⟨_, rfl⟩
      obtain ⟨Lf, HLf⟩ : ∃ L, Hid (L = BL (f k)) := ⟨_, rfl⟩
      obtain ⟨L1, HL1⟩ : ∃ L, Hid (L = BL (pvF h f k ^^^ f k)) := ⟨_, rfl⟩
      obtain ⟨L2, HL2⟩ : ∃ L, Hid (L = BL (pvF h f (k + 1))) := ⟨_, rfl⟩
      rw [← HL0.out, ← HLf.out, ← HL1.out] at KX
      rw [← HL1.out, ← HL2.out] at KD
      have hl0 : Hid (L0.length = 16) := by show _ = _; rw [HL0.out]; rfl
      have hlf : Hid (Lf.length = 16) := by show _ = _; rw [HLf.out]; rfl
      have hl2 : Hid (L2.length = 16) := by show _ = _; rw [HL2.out]; rfl
      have hof : Hid (Lf.toArray.all (·.oneCell') = true) := by show _ = _; rw [HLf.out]; exact BL_one _
      have ho2 : Hid (L2.toArray.all (·.oneCell') = true) := by show _ = _; rw [HL2.out]; exact BL_one _
      have GF : Hid (wr.rangeAt b (off + k * 16) Lf) := by
        obtain ⟨p1, p2, p3, p4, p5, p6⟩ := HA.out
        have hb0 := HBK.out.1
        show World.rangeAt _ _ _ _
        rw [HLf.out]
        exact range_same (range_same (HBK.out.2 k hlt) (p1.block b hb0)) (HR.out.1.block b (by omega))
      have hki : ((k : Nat) : Int) < (n : Nat) := by omega
      have hTN : (wr.alloc (.cells #[.int .u8 0, .int .u8 0, .int .u8 0, .int .u8 0, .int .u8 0, .int .u8 0, .int .u8 0, .int .u8 0, .int .u8 0, .int .u8 0, .int .u8 0, .int .u8 0, .int .u8 0, .int .u8 0, .int .u8 0, .int .u8 0] 29)).there wr.heap.size 0 Lf.length := by rw [hlf.out]; exact there_new wr _ 29 16 (Nat.le_refl _)
      go_upto_region 5 with (first
        | (refine wpList_load_mid (by rfl) 29 (.tmp 12) (by rfl) b (off + k * 16) (by rfl) Lf _ GF.out Tryz.underlying29 rfl (by rw [hlf.out]; exact size23) ?_)
        | (refine wpList_store_mid (by rfl) 29 (.tmp 7) (.tmp 13) (by rfl) wr.heap.size 0 Lf.toArray (by rfl) (by rfl) (by simpa using hTN) (by rw [List.size_toArray, hlf.out]; exact size23) hof.out ?_))
      have H5 : Hid (Below wr.heap.size wr ((wr.alloc (.cells #[.int .u8 0, .int .u8 0, .int .u8 0, .int .u8 0, .int .u8 0, .int .u8 0, .int .u8 0, .int .u8 0, .int .u8 0, .int .u8 0, .int .u8 0, .int .u8 0, .int .u8 0, .int .u8 0, .int .u8 0, .int .u8 0] 29)).setCells wr.heap.size 0 Lf) ∧ ((wr.alloc (.cells #[.int .u8 0, .int .u8 0, .int .u8 0, .int .u8 0, .int .u8 0, .int .u8 0, .int .u8 0, .int .u8 0, .int .u8 0, .int .u8 0, .int .u8 0, .int .u8 0, .int .u8 0, .int .u8 0, .int .u8 0, .int .u8 0] 29)).setCells wr.heap.size 0 Lf).rangeAt wr.heap.size 0 Lf ∧ wr.heap.size < ((wr.alloc (.cells #[.int .u8 0, .int .u8 0, .int .u8 0, .int .u8 0, .int .u8 0, .int .u8 0, .int .u8 0, .int .u8 0, .int .u8 0, .int .u8 0, .int .u8 0, .int .u8 0, .int .u8 0, .int .u8 0, .int .u8 0, .int .u8 0] 29)).setCells wr.heap.size 0 Lf).heap.size) :=
        ⟨belowB_setCells _ (Nat.le_refl _) _ _ _ ((Below.refl _ wr).alloc (Nat.le_refl _) _), World.rangeAt_setCells_same _ _ _ _ hTN, by rw [size_setCells]; simp⟩
      generalize (wr.alloc (.cells #[.int .u8 0, .int .u8 0, .int .u8 0, .int .u8 0, .int .u8 0, .int .u8 0, .int .u8 0, .int .u8 0, .int .u8 0, .int .u8 0, .int .u8 0, .int .u8 0, .int .u8 0, .int .u8 0, .int .u8 0, .int .u8 0] 29)).setCells wr.heap.size 0 Lf = w5 at H5 ⊢
      clear hTN GF
      obtain ⟨T7, hT7⟩ : ∃ t, t = wr.heap.size := ⟨_, rfl⟩
      have H6 : Hid (Below (w.heap.size + 2) w3 w5 ∧ w5.rangeAt (w.heap.size + 2) 0 L0 ∧ w5.there (w.heap.size + 2) 0 16 ∧ w.heap.size + 3 ≤ w5.heap.size ∧ w5.rangeAt T7 0 Lf ∧ T7 < w5.heap.size ∧ w5.rangeAt w.heap.size 0 Lh) := by
        obtain ⟨q1, q2, q3, q4⟩ := HR.out
        obtain ⟨r1, r2, r3⟩ := H5.out
        obtain ⟨p1, p2, p3, p4, p5, p6⟩ := HA.out
        have hs := r1.size
        have hb : Below (w.heap.size + 2) w3 w5 := q1.trans (r1.mono (by omega))
        rw [hT7]
        exact ⟨hb, by rw [HL0.out]; exact range_below q2 r1 (by omega), there_below q3 r1 (by omega), by omega, r2, r3, range_below p2 hb (by omega)⟩
      rw [← hT7]
      clear hT7 H5
      have g0 : Hid (∀ u, Below w5.heap.size w5 u → u.rangeAt (w.heap.size + 2) 0 L0) := fun u hu => range_below H6.out.2.1 hu (by have := H6.out.2.2.2.1; omega)
      have gf : Hid (∀ u, Below w5.heap.size w5 u → u.rangeAt T7 0 Lf) := fun u hu => range_below H6.out.2.2.2.2.1 hu H6.out.2.2.2.2.2.1
      have gh : Hid (∀ u, Below w5.heap.size w5 u → u.rangeAt w.heap.size 0 Lh) := fun u hu => range_below H6.out.2.2.2.2.2.2 hu (by have := H6.out.2.2.2.1; omega)
      have hS0 : Below w5.heap.size w5 w5.drew := (Below.refl _ _).drew
      refine wp_region_noPanic ?_
      refine wp_region_till (fun u => Below (w5.heap.size) w5 u) 5 (by kernel_rfl) (by decide) (by decide +kernel) (by decide +kernel) (by decide +kernel) (fun inv => ?_)
      refine till_at 0 14 (.agg L0.toArray) inv rfl rfl (by decide) (by decide +kernel) (by decide +kernel) (fun _ _ _ h => h) (hS0) (yieldsIf_load_mid (by rfl) 29 (.tmp 5) rfl (w.heap.size + 2) 0 rfl L0 _ (fun u hu => g0.out u hu) Tryz.underlying29 rfl (by rw [hl0.out]; exact size23)) (fun inv' => ?_)
      clear inv; have inv := inv'; clear inv'
      simp only [List.setIfInBounds_toArray, List.set_cons_zero, List.set_cons_succ]
      refine till_at 1 15 (.agg Lf.toArray) inv rfl rfl (by decide) (by decide +kernel) (by decide +kernel) (fun _ _ _ h => h) (hS0) (yieldsIf_load_mid (by rfl) 29 (.tmp 7) rfl T7 0 rfl Lf _ (fun u hu => gf.out u hu) Tryz.underlying29 rfl (by rw [hlf.out]; exact size23)) (fun inv' => ?_)
      clear inv; have inv := inv'; clear inv'
      simp only [List.setIfInBounds_toArray, List.set_cons_zero, List.set_cons_succ]
      refine till_at 3 17 (.agg Lh.toArray) inv rfl rfl (by decide) (by decide +kernel) (by decide +kernel) (fun _ _ _ h => h) (hS0) (yieldsIf_load_mid (by rfl) 29 (.tmp 2) rfl w.heap.size 0 rfl Lh _ (fun u hu => gh.out u hu) Tryz.underlying29 rfl (by rw [hlh.out]; exact size23)) (fun inv' => ?_)
      clear inv; have inv := inv'; clear inv'
      simp only [List.setIfInBounds_toArray, List.set_cons_zero, List.set_cons_succ]
      refine till_head (i := 2) inv (by decide +kernel) (by decide) rfl (fun K hK => ?_)
      go_simp
      refine (KX.out _).mono ?_
      rintro e1 u1 ⟨rfl, hbu1⟩
      have hSu1 : Below w5.heap.size w5 u1 := (hS0).trans (hbu1.mono (hS0).size)
      go_wp2_with fail
      refine hK.out _ _ hSu1 (fun inv' => ?_)
      clear hK K inv; have inv := inv'; clear inv'
      try simp only [List.setIfInBounds_toArray, List.set_cons_zero, List.set_cons_succ]
      refine till_head (i := 4) inv (by decide +kernel) (by decide) rfl (fun K hK => ?_)
      go_simp
      refine (KD.out _).mono ?_
      rintro e1 u2 ⟨rfl, hbu2⟩
      have hSu2 : Below w5.heap.size w5 u2 := (hSu1).trans (hbu2.mono (hSu1).size)
      go_wp2_with fail
      refine hK.out _ _ hSu2 (fun inv' => ?_)
      clear hK K inv; have inv := inv'; clear inv'
      try simp only [List.setIfInBounds_toArray, List.set_cons_zero, List.set_cons_succ]
      have HW : Hid (u2.there (w.heap.size + 2) 0 L2.length ∧ Below w5.heap.size w5 u2) := ⟨by rw [hl2.out]; exact there_below H6.out.2.2.1 hSu2 (by have := H6.out.2.2.2.1; omega), hSu2⟩
      refine till_tail (i := 5) (by decide +kernel) (by decide) rfl (fun K hK => ?_)
      rw [if_pos (by rfl)]
      refine wp_store_mid 29 (.tmp 5) (.tmp 18) rfl (w.heap.size + 2) 0 L2.toArray rfl rfl (by simpa using HW.out.1) (by rw [List.size_toArray, hl2.out]; exact size23) ho2.out ?_
      refine hK.out _ _ ?_
      clear hK K
      try simp only [List.setIfInBounds_toArray, List.set_cons_zero, List.set_cons_succ]
      refine till_done (by decide +kernel) ?_ _
      refine NoPanic.normal ?_
      go_wp2
      refine ⟨⟨k + 1, by omega, rfl, ?_⟩, by simp only [intOf]; omega⟩
      have hsz := HW.out.2.size
      have h4 := H6.out.2.2.2.1
      refine ⟨belowB_setCells _ (Nat.le_refl _) _ _ _ (H6.out.1.trans (HW.out.2.mono (by omega))), ?_, ?_, by rw [size_setCells]; omega⟩
      · rw [← HL2.out]; exact World.rangeAt_setCells_same _ _ _ _ HW.out.1
      · refine World.there_setCells ?_ _ _ _
        have q := HW.out.1
        rw [hl2.out] at q
        exact q
    · obtain rfl : k = n := by omega
      have H9 : Hid (Below w.heap.size w wr ∧ wr.there (w.heap.size + 1) 0 16 ∧ wr.rangeAt (w.heap.size + 2) 0 (BL (pvF h f k)) ∧ w.heap.size + 3 ≤ wr.heap.size) := by
        obtain ⟨p1, p2, p3, p4, p5, p6⟩ := HA.out
        obtain ⟨q1, q2, q3, q4⟩ := HR.out
        exact ⟨p1.trans (q1.mono (by omega)), there_below p3 q1 (by omega), q2, q4⟩
      obtain ⟨LR, HLR⟩ : ∃ L, Hid (L = BL (pvF h f k)) := ⟨_, rfl⟩
      rw [← HLR.out] at H9
      have hlr : Hid (LR.length = 16) := by show _ = _; rw [HLR.out]; rfl
      have hor : Hid (LR.toArray.all (·.oneCell') = true) := by show _ = _; rw [HLR.out]; exact BL_one _
      clear HR hlt hk
      have hTH : wr.there (w.heap.size + 1) 0 LR.length := by rw [hlr.out]; exact H9.out.2.1
      go_wp2_with (first
        | (refine wpList_load_mid (by rfl) 29 (.tmp 5) (by rfl) (w.heap.size + 2) 0 (by rfl) LR _ H9.out.2.2.1 Tryz.underlying29 rfl (by rw [hlr.out]; exact size23) ?_)
        | (refine wpList_store_mid (by rfl) 29 (.tmp 4) (.tmp 20) (by rfl) (w.heap.size + 1) 0 LR.toArray (by rfl) (by rfl) (by simpa using hTH) (by rw [List.size_toArray, hlr.out]; exact size23) hor.out ?_))
      refine ret_array LR Tryz.results11 rfl (World.rangeAt_setCells_same _ _ _ _ hTH) Tryz.underlying29 rfl (by rw [hlr.out]; exact size23) ⟨?_, belowB_setCells _ (by omega) _ _ _ H9.out.1⟩
      rw [HLR.out]
      rfl
end Go.Proofs.YtcnikfikpnnblaaGreatDoor.Fd
