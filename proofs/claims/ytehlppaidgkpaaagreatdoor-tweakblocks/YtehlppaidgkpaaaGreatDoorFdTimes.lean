import Derived.Test.YtehlppaidgkpaaaGreatDoorPart00
import Derived.Test.YtehlppaidgkpaaaGreatDoorPart23
namespace Go.Proofs.YtehlppaidgkpaaaGreatDoor.Fd
open Go.RowKit Go.Proofs.YtehlppaidgkpaaaGreatDoor.Fld
set_option linter.unusedVariables false
set_option linter.unusedSimpArgs false
def TB (a b:BitVec 128):BitVec 128:=rv (M TX (rv b) (rv a))
theorem Gx:rv 0#128=0#128:=by decide +kernel
theorem Bm (b:BitVec 128):TB 0#128 b=0#128:=by
 unfold TB
 rw[Gx,(Zfb Iy (rv b)).zero,Gx]
theorem Di (a:BitVec 128):TB a 0#128=0#128:=by
 unfold TB
 rw[Gx]
 have h:=(Zdw TX (rv a)).zero
 rw[h,Gx]
set_option maxHeartbeats 6400000 in
set_option maxRecDepth 100000 in
theorem Vv (a b : BitVec 128) (w : World) : Calls Tryz.prog 245 #[BV a, BV b] w fun e w' => e = .returned (BV (TB a b)) ∧ Below w.heap.size w w' := by
  have HC : Hid (Below w.heap.size w (((w.alloc (.cells #[.int .u8 (byV a 0 : Nat), .int .u8 (byV a 1 : Nat), .int .u8 (byV a 2 : Nat), .int .u8 (byV a 3 : Nat), .int .u8 (byV a 4 : Nat), .int .u8 (byV a 5 : Nat), .int .u8 (byV a 6 : Nat), .int .u8 (byV a 7 : Nat), .int .u8 (byV a 8 : Nat), .int .u8 (byV a 9 : Nat), .int .u8 (byV a 10 : Nat), .int .u8 (byV a 11 : Nat), .int .u8 (byV a 12 : Nat), .int .u8 (byV a 13 : Nat), .int .u8 (byV a 14 : Nat), .int .u8 (byV a 15 : Nat)] 27)).alloc (.cells #[.int .u8 (byV b 0 : Nat), .int .u8 (byV b 1 : Nat), .int .u8 (byV b 2 : Nat), .int .u8 (byV b 3 : Nat), .int .u8 (byV b 4 : Nat), .int .u8 (byV b 5 : Nat), .int .u8 (byV b 6 : Nat), .int .u8 (byV b 7 : Nat), .int .u8 (byV b 8 : Nat), .int .u8 (byV b 9 : Nat), .int .u8 (byV b 10 : Nat), .int .u8 (byV b 11 : Nat), .int .u8 (byV b 12 : Nat), .int .u8 (byV b 13 : Nat), .int .u8 (byV b 14 : Nat), .int .u8 (byV b 15 : Nat)] 27)).alloc (.cells #[.int .u8 0, .int .u8 0, .int .u8 0, .int .u8 0, .int .u8 0, .int .u8 0, .int .u8 0, .int .u8 0, .int .u8 0, .int .u8 0, .int .u8 0, .int .u8 0, .int .u8 0, .int .u8 0, .int .u8 0, .int .u8 0] 27)) ∧ (((w.alloc (.cells #[.int .u8 (byV a 0 : Nat), .int .u8 (byV a 1 : Nat), .int .u8 (byV a 2 : Nat), .int .u8 (byV a 3 : Nat), .int .u8 (byV a 4 : Nat), .int .u8 (byV a 5 : Nat), .int .u8 (byV a 6 : Nat), .int .u8 (byV a 7 : Nat), .int .u8 (byV a 8 : Nat), .int .u8 (byV a 9 : Nat), .int .u8 (byV a 10 : Nat), .int .u8 (byV a 11 : Nat), .int .u8 (byV a 12 : Nat), .int .u8 (byV a 13 : Nat), .int .u8 (byV a 14 : Nat), .int .u8 (byV a 15 : Nat)] 27)).alloc (.cells #[.int .u8 (byV b 0 : Nat), .int .u8 (byV b 1 : Nat), .int .u8 (byV b 2 : Nat), .int .u8 (byV b 3 : Nat), .int .u8 (byV b 4 : Nat), .int .u8 (byV b 5 : Nat), .int .u8 (byV b 6 : Nat), .int .u8 (byV b 7 : Nat), .int .u8 (byV b 8 : Nat), .int .u8 (byV b 9 : Nat), .int .u8 (byV b 10 : Nat), .int .u8 (byV b 11 : Nat), .int .u8 (byV b 12 : Nat), .int .u8 (byV b 13 : Nat), .int .u8 (byV b 14 : Nat), .int .u8 (byV b 15 : Nat)] 27)).alloc (.cells #[.int .u8 0, .int .u8 0, .int .u8 0, .int .u8 0, .int .u8 0, .int .u8 0, .int .u8 0, .int .u8 0, .int .u8 0, .int .u8 0, .int .u8 0, .int .u8 0, .int .u8 0, .int .u8 0, .int .u8 0, .int .u8 0] 27)).rangeAt w.heap.size 0 (BL a) ∧ (((w.alloc (.cells #[.int .u8 (byV a 0 : Nat), .int .u8 (byV a 1 : Nat), .int .u8 (byV a 2 : Nat), .int .u8 (byV a 3 : Nat), .int .u8 (byV a 4 : Nat), .int .u8 (byV a 5 : Nat), .int .u8 (byV a 6 : Nat), .int .u8 (byV a 7 : Nat), .int .u8 (byV a 8 : Nat), .int .u8 (byV a 9 : Nat), .int .u8 (byV a 10 : Nat), .int .u8 (byV a 11 : Nat), .int .u8 (byV a 12 : Nat), .int .u8 (byV a 13 : Nat), .int .u8 (byV a 14 : Nat), .int .u8 (byV a 15 : Nat)] 27)).alloc (.cells #[.int .u8 (byV b 0 : Nat), .int .u8 (byV b 1 : Nat), .int .u8 (byV b 2 : Nat), .int .u8 (byV b 3 : Nat), .int .u8 (byV b 4 : Nat), .int .u8 (byV b 5 : Nat), .int .u8 (byV b 6 : Nat), .int .u8 (byV b 7 : Nat), .int .u8 (byV b 8 : Nat), .int .u8 (byV b 9 : Nat), .int .u8 (byV b 10 : Nat), .int .u8 (byV b 11 : Nat), .int .u8 (byV b 12 : Nat), .int .u8 (byV b 13 : Nat), .int .u8 (byV b 14 : Nat), .int .u8 (byV b 15 : Nat)] 27)).alloc (.cells #[.int .u8 0, .int .u8 0, .int .u8 0, .int .u8 0, .int .u8 0, .int .u8 0, .int .u8 0, .int .u8 0, .int .u8 0, .int .u8 0, .int .u8 0, .int .u8 0, .int .u8 0, .int .u8 0, .int .u8 0, .int .u8 0] 27)).rangeAt (w.heap.size + 1) 0 (BL b) ∧ (((w.alloc (.cells #[.int .u8 (byV a 0 : Nat), .int .u8 (byV a 1 : Nat), .int .u8 (byV a 2 : Nat), .int .u8 (byV a 3 : Nat), .int .u8 (byV a 4 : Nat), .int .u8 (byV a 5 : Nat), .int .u8 (byV a 6 : Nat), .int .u8 (byV a 7 : Nat), .int .u8 (byV a 8 : Nat), .int .u8 (byV a 9 : Nat), .int .u8 (byV a 10 : Nat), .int .u8 (byV a 11 : Nat), .int .u8 (byV a 12 : Nat), .int .u8 (byV a 13 : Nat), .int .u8 (byV a 14 : Nat), .int .u8 (byV a 15 : Nat)] 27)).alloc (.cells #[.int .u8 (byV b 0 : Nat), .int .u8 (byV b 1 : Nat), .int .u8 (byV b 2 : Nat), .int .u8 (byV b 3 : Nat), .int .u8 (byV b 4 : Nat), .int .u8 (byV b 5 : Nat), .int .u8 (byV b 6 : Nat), .int .u8 (byV b 7 : Nat), .int .u8 (byV b 8 : Nat), .int .u8 (byV b 9 : Nat), .int .u8 (byV b 10 : Nat), .int .u8 (byV b 11 : Nat), .int .u8 (byV b 12 : Nat), .int .u8 (byV b 13 : Nat), .int .u8 (byV b 14 : Nat), .int .u8 (byV b 15 : Nat)] 27)).alloc (.cells #[.int .u8 0, .int .u8 0, .int .u8 0, .int .u8 0, .int .u8 0, .int .u8 0, .int .u8 0, .int .u8 0, .int .u8 0, .int .u8 0, .int .u8 0, .int .u8 0, .int .u8 0, .int .u8 0, .int .u8 0, .int .u8 0] 27)).there (w.heap.size + 2) 0 16 ∧ (((w.alloc (.cells #[.int .u8 (byV a 0 : Nat), .int .u8 (byV a 1 : Nat), .int .u8 (byV a 2 : Nat), .int .u8 (byV a 3 : Nat), .int .u8 (byV a 4 : Nat), .int .u8 (byV a 5 : Nat), .int .u8 (byV a 6 : Nat), .int .u8 (byV a 7 : Nat), .int .u8 (byV a 8 : Nat), .int .u8 (byV a 9 : Nat), .int .u8 (byV a 10 : Nat), .int .u8 (byV a 11 : Nat), .int .u8 (byV a 12 : Nat), .int .u8 (byV a 13 : Nat), .int .u8 (byV a 14 : Nat), .int .u8 (byV a 15 : Nat)] 27)).alloc (.cells #[.int .u8 (byV b 0 : Nat), .int .u8 (byV b 1 : Nat), .int .u8 (byV b 2 : Nat), .int .u8 (byV b 3 : Nat), .int .u8 (byV b 4 : Nat), .int .u8 (byV b 5 : Nat), .int .u8 (byV b 6 : Nat), .int .u8 (byV b 7 : Nat), .int .u8 (byV b 8 : Nat), .int .u8 (byV b 9 : Nat), .int .u8 (byV b 10 : Nat), .int .u8 (byV b 11 : Nat), .int .u8 (byV b 12 : Nat), .int .u8 (byV b 13 : Nat), .int .u8 (byV b 14 : Nat), .int .u8 (byV b 15 : Nat)] 27)).alloc (.cells #[.int .u8 0, .int .u8 0, .int .u8 0, .int .u8 0, .int .u8 0, .int .u8 0, .int .u8 0, .int .u8 0, .int .u8 0, .int .u8 0, .int .u8 0, .int .u8 0, .int .u8 0, .int .u8 0, .int .u8 0, .int .u8 0] 27)).heap.size = w.heap.size + 3) := by
    have e1 : Below (w.heap.size + 1) (w.alloc (.cells #[.int .u8 (byV a 0 : Nat), .int .u8 (byV a 1 : Nat), .int .u8 (byV a 2 : Nat), .int .u8 (byV a 3 : Nat), .int .u8 (byV a 4 : Nat), .int .u8 (byV a 5 : Nat), .int .u8 (byV a 6 : Nat), .int .u8 (byV a 7 : Nat), .int .u8 (byV a 8 : Nat), .int .u8 (byV a 9 : Nat), .int .u8 (byV a 10 : Nat), .int .u8 (byV a 11 : Nat), .int .u8 (byV a 12 : Nat), .int .u8 (byV a 13 : Nat), .int .u8 (byV a 14 : Nat), .int .u8 (byV a 15 : Nat)] 27)) (((w.alloc (.cells #[.int .u8 (byV a 0 : Nat), .int .u8 (byV a 1 : Nat), .int .u8 (byV a 2 : Nat), .int .u8 (byV a 3 : Nat), .int .u8 (byV a 4 : Nat), .int .u8 (byV a 5 : Nat), .int .u8 (byV a 6 : Nat), .int .u8 (byV a 7 : Nat), .int .u8 (byV a 8 : Nat), .int .u8 (byV a 9 : Nat), .int .u8 (byV a 10 : Nat), .int .u8 (byV a 11 : Nat), .int .u8 (byV a 12 : Nat), .int .u8 (byV a 13 : Nat), .int .u8 (byV a 14 : Nat), .int .u8 (byV a 15 : Nat)] 27)).alloc (.cells #[.int .u8 (byV b 0 : Nat), .int .u8 (byV b 1 : Nat), .int .u8 (byV b 2 : Nat), .int .u8 (byV b 3 : Nat), .int .u8 (byV b 4 : Nat), .int .u8 (byV b 5 : Nat), .int .u8 (byV b 6 : Nat), .int .u8 (byV b 7 : Nat), .int .u8 (byV b 8 : Nat), .int .u8 (byV b 9 : Nat), .int .u8 (byV b 10 : Nat), .int .u8 (byV b 11 : Nat), .int .u8 (byV b 12 : Nat), .int .u8 (byV b 13 : Nat), .int .u8 (byV b 14 : Nat), .int .u8 (byV b 15 : Nat)] 27)).alloc (.cells #[.int .u8 0, .int .u8 0, .int .u8 0, .int .u8 0, .int .u8 0, .int .u8 0, .int .u8 0, .int .u8 0, .int .u8 0, .int .u8 0, .int .u8 0, .int .u8 0, .int .u8 0, .int .u8 0, .int .u8 0, .int .u8 0] 27)) := ((Below.refl _ _).alloc (by simp) _).alloc (by simp) _
    have e2 : Below (w.heap.size + 2) ((w.alloc (.cells #[.int .u8 (byV a 0 : Nat), .int .u8 (byV a 1 : Nat), .int .u8 (byV a 2 : Nat), .int .u8 (byV a 3 : Nat), .int .u8 (byV a 4 : Nat), .int .u8 (byV a 5 : Nat), .int .u8 (byV a 6 : Nat), .int .u8 (byV a 7 : Nat), .int .u8 (byV a 8 : Nat), .int .u8 (byV a 9 : Nat), .int .u8 (byV a 10 : Nat), .int .u8 (byV a 11 : Nat), .int .u8 (byV a 12 : Nat), .int .u8 (byV a 13 : Nat), .int .u8 (byV a 14 : Nat), .int .u8 (byV a 15 : Nat)] 27)).alloc (.cells #[.int .u8 (byV b 0 : Nat), .int .u8 (byV b 1 : Nat), .int .u8 (byV b 2 : Nat), .int .u8 (byV b 3 : Nat), .int .u8 (byV b 4 : Nat), .int .u8 (byV b 5 : Nat), .int .u8 (byV b 6 : Nat), .int .u8 (byV b 7 : Nat), .int .u8 (byV b 8 : Nat), .int .u8 (byV b 9 : Nat), .int .u8 (byV b 10 : Nat), .int .u8 (byV b 11 : Nat), .int .u8 (byV b 12 : Nat), .int .u8 (byV b 13 : Nat), .int .u8 (byV b 14 : Nat), .int .u8 (byV b 15 : Nat)] 27)) (((w.alloc (.cells #[.int .u8 (byV a 0 : Nat), .int .u8 (byV a 1 : Nat), .int .u8 (byV a 2 : Nat), .int .u8 (byV a 3 : Nat), .int .u8 (byV a 4 : Nat), .int .u8 (byV a 5 : Nat), .int .u8 (byV a 6 : Nat), .int .u8 (byV a 7 : Nat), .int .u8 (byV a 8 : Nat), .int .u8 (byV a 9 : Nat), .int .u8 (byV a 10 : Nat), .int .u8 (byV a 11 : Nat), .int .u8 (byV a 12 : Nat), .int .u8 (byV a 13 : Nat), .int .u8 (byV a 14 : Nat), .int .u8 (byV a 15 : Nat)] 27)).alloc (.cells #[.int .u8 (byV b 0 : Nat), .int .u8 (byV b 1 : Nat), .int .u8 (byV b 2 : Nat), .int .u8 (byV b 3 : Nat), .int .u8 (byV b 4 : Nat), .int .u8 (byV b 5 : Nat), .int .u8 (byV b 6 : Nat), .int .u8 (byV b 7 : Nat), .int .u8 (byV b 8 : Nat), .int .u8 (byV b 9 : Nat), .int .u8 (byV b 10 : Nat), .int .u8 (byV b 11 : Nat), .int .u8 (byV b 12 : Nat), .int .u8 (byV b 13 : Nat), .int .u8 (byV b 14 : Nat), .int .u8 (byV b 15 : Nat)] 27)).alloc (.cells #[.int .u8 0, .int .u8 0, .int .u8 0, .int .u8 0, .int .u8 0, .int .u8 0, .int .u8 0, .int .u8 0, .int .u8 0, .int .u8 0, .int .u8 0, .int .u8 0, .int .u8 0, .int .u8 0, .int .u8 0, .int .u8 0] 27)) := (Below.refl _ _).alloc (by simp) _
    refine ⟨Bi w _ _ _, Zn (Zt w #[.int .u8 (byV a 0 : Nat), .int .u8 (byV a 1 : Nat), .int .u8 (byV a 2 : Nat), .int .u8 (byV a 3 : Nat), .int .u8 (byV a 4 : Nat), .int .u8 (byV a 5 : Nat), .int .u8 (byV a 6 : Nat), .int .u8 (byV a 7 : Nat), .int .u8 (byV a 8 : Nat), .int .u8 (byV a 9 : Nat), .int .u8 (byV a 10 : Nat), .int .u8 (byV a 11 : Nat), .int .u8 (byV a 12 : Nat), .int .u8 (byV a 13 : Nat), .int .u8 (byV a 14 : Nat), .int .u8 (byV a 15 : Nat)] 27) e1 (by omega), Zn ?_ e2 (by omega), ?_, by simp⟩
    · exact Pk w _ #[.int .u8 (byV b 0 : Nat), .int .u8 (byV b 1 : Nat), .int .u8 (byV b 2 : Nat), .int .u8 (byV b 3 : Nat), .int .u8 (byV b 4 : Nat), .int .u8 (byV b 5 : Nat), .int .u8 (byV b 6 : Nat), .int .u8 (byV b 7 : Nat), .int .u8 (byV b 8 : Nat), .int .u8 (byV b 9 : Nat), .int .u8 (byV b 10 : Nat), .int .u8 (byV b 11 : Nat), .int .u8 (byV b 12 : Nat), .int .u8 (byV b 13 : Nat), .int .u8 (byV b 14 : Nat), .int .u8 (byV b 15 : Nat)] 27
    · have h := Zf ((w.alloc (.cells #[.int .u8 (byV a 0 : Nat), .int .u8 (byV a 1 : Nat), .int .u8 (byV a 2 : Nat), .int .u8 (byV a 3 : Nat), .int .u8 (byV a 4 : Nat), .int .u8 (byV a 5 : Nat), .int .u8 (byV a 6 : Nat), .int .u8 (byV a 7 : Nat), .int .u8 (byV a 8 : Nat), .int .u8 (byV a 9 : Nat), .int .u8 (byV a 10 : Nat), .int .u8 (byV a 11 : Nat), .int .u8 (byV a 12 : Nat), .int .u8 (byV a 13 : Nat), .int .u8 (byV a 14 : Nat), .int .u8 (byV a 15 : Nat)] 27)).alloc (.cells #[.int .u8 (byV b 0 : Nat), .int .u8 (byV b 1 : Nat), .int .u8 (byV b 2 : Nat), .int .u8 (byV b 3 : Nat), .int .u8 (byV b 4 : Nat), .int .u8 (byV b 5 : Nat), .int .u8 (byV b 6 : Nat), .int .u8 (byV b 7 : Nat), .int .u8 (byV b 8 : Nat), .int .u8 (byV b 9 : Nat), .int .u8 (byV b 10 : Nat), .int .u8 (byV b 11 : Nat), .int .u8 (byV b 12 : Nat), .int .u8 (byV b 13 : Nat), .int .u8 (byV b 14 : Nat), .int .u8 (byV b 15 : Nat)] 27)) #[.int .u8 0, .int .u8 0, .int .u8 0, .int .u8 0, .int .u8 0, .int .u8 0, .int .u8 0, .int .u8 0, .int .u8 0, .int .u8 0, .int .u8 0, .int .u8 0, .int .u8 0, .int .u8 0, .int .u8 0, .int .u8 0] 27 16 (Nat.le_refl _)
      simpa using h
  have KZA : Hid (∀ u, Calls Tryz.prog 258 #[.agg (BL a).toArray] u fun e w' => e = .returned (.bool (decide (a = 0#128))) ∧ Below u.heap.size u w') := fun u => Du a u
  have KZB : Hid (∀ u, Calls Tryz.prog 258 #[.agg (BL b).toArray] u fun e w' => e = .returned (.bool (decide (b = 0#128))) ∧ Below u.heap.size u w') := fun u => Du b u
  obtain ⟨ra, Hra⟩ : ∃ x, Hid (x = rv a) := ⟨_, rfl⟩
  obtain ⟨rb, Hrb⟩ : ∃ x, Hid (x = rv b) := ⟨_, rfl⟩
  have KA : Hid (∀ u, Calls Tryz.prog 259 #[.agg (BL a).toArray] u fun e w' => e = .returned (.agg (PL ra).toArray) ∧ Below u.heap.size u w') := fun u => by rw [Hra.out]; exact Fq a u
  have KB : Hid (∀ u, Calls Tryz.prog 259 #[.agg (BL b).toArray] u fun e w' => e = .returned (.agg (PL rb).toArray) ∧ Below u.heap.size u w') := fun u => by rw [Hrb.out]; exact Fq b u
  obtain ⟨LA, HLA⟩ : ∃ L, Hid (L = BL a) := ⟨_, rfl⟩
  obtain ⟨LB, HLB⟩ : ∃ L, Hid (L = BL b) := ⟨_, rfl⟩
  have HLAl : Hid (LA.length = 16) := by show _ = _; rw [HLA.out]; rfl
  have HLBl : Hid (LB.length = 16) := by show _ = _; rw [HLB.out]; rfl
  obtain ⟨za, HZA⟩ : ∃ z, Hid (z = decide (a = 0#128)) := ⟨_, rfl⟩
  obtain ⟨zb, HZB⟩ : ∃ z, Hid (z = decide (b = 0#128)) := ⟨_, rfl⟩
  show Calls Tryz.prog 245 #[.agg #[.int .u8 (byV a 0 : Nat), .int .u8 (byV a 1 : Nat), .int .u8 (byV a 2 : Nat), .int .u8 (byV a 3 : Nat), .int .u8 (byV a 4 : Nat), .int .u8 (byV a 5 : Nat), .int .u8 (byV a 6 : Nat), .int .u8 (byV a 7 : Nat), .int .u8 (byV a 8 : Nat), .int .u8 (byV a 9 : Nat), .int .u8 (byV a 10 : Nat), .int .u8 (byV a 11 : Nat), .int .u8 (byV a 12 : Nat), .int .u8 (byV a 13 : Nat), .int .u8 (byV a 14 : Nat), .int .u8 (byV a 15 : Nat)], .agg #[.int .u8 (byV b 0 : Nat), .int .u8 (byV b 1 : Nat), .int .u8 (byV b 2 : Nat), .int .u8 (byV b 3 : Nat), .int .u8 (byV b 4 : Nat), .int .u8 (byV b 5 : Nat), .int .u8 (byV b 6 : Nat), .int .u8 (byV b 7 : Nat), .int .u8 (byV b 8 : Nat), .int .u8 (byV b 9 : Nat), .int .u8 (byV b 10 : Nat), .int .u8 (byV b 11 : Nat), .int .u8 (byV b 12 : Nat), .int .u8 (byV b 13 : Nat), .int .u8 (byV b 14 : Nat), .int .u8 (byV b 15 : Nat)]] w _
  go_enter Tryz.func245, Tryz.ntmps245
  go_upto_region 1 with fail
  generalize ((w.alloc (.cells #[.int .u8 (byV a 0 : Nat), .int .u8 (byV a 1 : Nat), .int .u8 (byV a 2 : Nat), .int .u8 (byV a 3 : Nat), .int .u8 (byV a 4 : Nat), .int .u8 (byV a 5 : Nat), .int .u8 (byV a 6 : Nat), .int .u8 (byV a 7 : Nat), .int .u8 (byV a 8 : Nat), .int .u8 (byV a 9 : Nat), .int .u8 (byV a 10 : Nat), .int .u8 (byV a 11 : Nat), .int .u8 (byV a 12 : Nat), .int .u8 (byV a 13 : Nat), .int .u8 (byV a 14 : Nat), .int .u8 (byV a 15 : Nat)] 27)).alloc (.cells #[.int .u8 (byV b 0 : Nat), .int .u8 (byV b 1 : Nat), .int .u8 (byV b 2 : Nat), .int .u8 (byV b 3 : Nat), .int .u8 (byV b 4 : Nat), .int .u8 (byV b 5 : Nat), .int .u8 (byV b 6 : Nat), .int .u8 (byV b 7 : Nat), .int .u8 (byV b 8 : Nat), .int .u8 (byV b 9 : Nat), .int .u8 (byV b 10 : Nat), .int .u8 (byV b 11 : Nat), .int .u8 (byV b 12 : Nat), .int .u8 (byV b 13 : Nat), .int .u8 (byV b 14 : Nat), .int .u8 (byV b 15 : Nat)] 27)).alloc (.cells #[.int .u8 0, .int .u8 0, .int .u8 0, .int .u8 0, .int .u8 0, .int .u8 0, .int .u8 0, .int .u8 0, .int .u8 0, .int .u8 0, .int .u8 0, .int .u8 0, .int .u8 0, .int .u8 0, .int .u8 0, .int .u8 0] 27) = w2 at HC ⊢
  rw [← HLA.out, ← HLB.out] at HC
  rw [← HLA.out, ← HZA.out] at KZA
  rw [← HLB.out, ← HZB.out] at KZB
  rw [← HLA.out] at KA
  rw [← HLB.out] at KB
  go_cut [14] from 9 to 14 (fun c wx => c = .bool (za || zb) ∧ Hid (Below w2.heap.size w2 wx))
  case first =>
    go_wp2_with (first
      | (refine wpList_load_mid (by rfl) 27 (.tmp 2) (by rfl) w.heap.size 0 (by rfl) LA _ HC.out.2.1 Tryz.underlying27 rfl (by rw [HLAl.out]; exact Yl) ?_)
      | (go_at_call 258; refine (KZA.out _).mono ?_))
    rintro e1 w3 ⟨rfl, hb3⟩
    have HB3 : Hid (Below w2.heap.size w2 w3 ∧ w3.rangeAt (w.heap.size + 1) 0 LB) := ⟨hb3, Zn HC.out.2.2.1 hb3 (by have := HC.out.2.2.2.2; omega)⟩
    clear hb3
    cases za with
    | true =>
      go_wp2
      go_meet
      exact ⟨rfl, HB3.out.1⟩
    | false =>
      go_wp2_with (first
        | (refine Nc 27 (.tmp 3) (by rfl) (by simp [Region.wanted, yielded, Act.put]) (w.heap.size + 1) 0 (by rfl) LB _ HB3.out.2 Tryz.underlying27 rfl (by rw [HLBl.out]; exact Yl) ?_)
        | (go_at_call 258; refine (KZB.out _).mono ?_))
      rintro e1 w4 ⟨rfl, hb4⟩
      have HB4 : Hid (Below w2.heap.size w2 w4) := HB3.out.1.trans (hb4.mono HB3.out.1.size)
      clear hb4
      go_wp2
      go_meet
      exact ⟨rfl, HB4⟩
  case rest =>
  obtain ⟨rfl, HB3⟩ := hcut
  generalize wc = w3 at HB3 ⊢
  have HD : Hid (Below w.heap.size w w3 ∧ w3.rangeAt w.heap.size 0 LA ∧ w3.rangeAt (w.heap.size + 1) 0 LB ∧ w3.there (w.heap.size + 2) 0 16 ∧ w.heap.size + 3 ≤ w3.heap.size) := by
    obtain ⟨p1, p2, p3, p4, p5⟩ := HC.out
    have hb := HB3.out
    have := hb.size
    exact ⟨p1.trans (hb.mono (by omega)), Zn p2 hb (by omega), Zn p3 hb (by omega), Zc p4 hb (by omega), by omega⟩
  clear HC HB3 KZA KZB
  cases hzz : (za || zb) with
  | true =>
    have HE : Hid (TB a b = 0#128) := by
      show _ = _
      have h1 := HZA.out
      have h2 := HZB.out
      cases za with
      | true => rw [of_decide_eq_true h1.symm]; exact Bm b
      | false =>
        cases zb with
        | true => rw [of_decide_eq_true h2.symm]; exact Di a
        | false => cases hzz
    clear hzz
    have hTH := HD.out.2.2.2.1
    go_wp2_with (first
      | (refine wpList_store_mid (by rfl) 27 (.tmp 4) (.tmp 15) (by rfl) (w.heap.size + 2) 0 #[.int .u8 0, .int .u8 0, .int .u8 0, .int .u8 0, .int .u8 0, .int .u8 0, .int .u8 0, .int .u8 0, .int .u8 0, .int .u8 0, .int .u8 0, .int .u8 0, .int .u8 0, .int .u8 0, .int .u8 0, .int .u8 0] (by rfl) (by rfl) hTH Yl (by kernel_rfl) ?_))
    refine Z4 [.int .u8 0, .int .u8 0, .int .u8 0, .int .u8 0, .int .u8 0, .int .u8 0, .int .u8 0, .int .u8 0, .int .u8 0, .int .u8 0, .int .u8 0, .int .u8 0, .int .u8 0, .int .u8 0, .int .u8 0, .int .u8 0] Tryz.results245 rfl (World.rangeAt_setCells_same _ _ _ _ hTH) Tryz.underlying27 rfl Yl ⟨?_, Zb _ (by omega) _ _ _ HD.out.1⟩
    rw [HE.out]
    exact rfl
  | false =>
  clear hzz
  have glA : Hid (∀ u, Below w3.heap.size w3 u → u.rangeAt w.heap.size 0 LA) := fun u hu => Zn HD.out.2.1 hu (by have := HD.out.2.2.2.2; omega)
  have glB : Hid (∀ u, Below w3.heap.size w3 u → u.rangeAt (w.heap.size + 1) 0 LB) := fun u hu => Zn HD.out.2.2.1 hu (by have := HD.out.2.2.2.2; omega)
  go_upto_region 3 with fail
  go_cut [5, 6] from 16 to 19 (fun p q wx => ∃ A1 A2, p = .pointer (some ⟨A1, 0, none⟩) ∧ q = .pointer (some ⟨A2, 0, none⟩) ∧ Hid (Qz w3 A1 A2 ra rb wx))
  case first =>
    have hS0 : Below w3.heap.size w3 w3.drew := (Below.refl _ _).drew
    refine wp_region_noPanic ?_
    refine wp_region_held_drew (S := fun u => Below w3.heap.size w3 u) (by kernel_rfl) (hS0) (fun _ => ?_)
    refine Vw 0 16 (.agg LA.toArray) rfl rfl (by kernel_rfl) (by kernel_rfl) (by kernel_rfl) (fun _ _ _ h => h) (hS0) (yieldsIf_load_mid (by rfl) 27 (.tmp 2) rfl w.heap.size 0 rfl LA _ (fun u hu => glA.out u hu) Tryz.underlying27 rfl (by rw [HLAl.out]; exact Yl)) ?_
    simp only [pU]
    refine Vw 2 18 (.agg LB.toArray) rfl rfl (by kernel_rfl) (by kernel_rfl) (by kernel_rfl) (fun _ _ _ h => h) (hS0) (yieldsIf_load_mid (by rfl) 27 (.tmp 3) rfl (w.heap.size + 1) 0 rfl LB _ (fun u hu => glB.out u hu) Tryz.underlying27 rfl (by rw [HLBl.out]; exact Yl)) ?_
    simp only [pU]
    generalize w3.drew = u0' at hS0 ⊢
    refine wpAnyH_ready (rs := [1, 4, 5]) (by kernel_rfl) (by simp) ?_
    refine AllReadyH.cons rfl (fun K hK => ?_) (AllReadyH.cons rfl (fun K hK => ?_) (AllReadyH.cons rfl (fun K hK => ?_) AllReadyH.nil))
    · skip
      go_simp
      refine (KA.out _).mono ?_
      rintro e1 u1' ⟨rfl, hb1⟩
      have hS1 : Below w3.heap.size w3 u1' := (hS0).trans (hb1.mono (hS0).size)
      go_wp2_with fail
      refine hK.out _ _ hS1 (fun _ => ?_)
      clear hK K
      try simp only [pU]
      refine wpAnyH_ready (rs := [3, 4, 5]) (by kernel_rfl) (by simp) ?_
      refine AllReadyH.cons rfl (fun K hK => ?_) (AllReadyH.cons rfl (fun K hK => ?_) (AllReadyH.cons rfl (fun K hK => ?_) AllReadyH.nil))
      · skip
        go_simp
        refine (KB.out _).mono ?_
        rintro e1 u2' ⟨rfl, hb2⟩
        have hS2 : Below w3.heap.size w3 u2' := (hS1).trans (hb2.mono (hS1).size)
        go_wp2_with fail
        refine hK.out _ _ hS2 (fun _ => ?_)
        clear hK K
        try simp only [pU]
        refine wpAnyH_ready (rs := [4, 5]) (by kernel_rfl) (by simp) ?_
        refine AllReadyH.cons rfl (fun K hK => ?_) (AllReadyH.cons rfl (fun K hK => ?_) AllReadyH.nil)
        · skip
          go_simp
          have hS3 : Below w3.heap.size w3 (World.alloc u2' (.cells #[.int .u64 0, .int .u64 0] 82)) := (hS2).alloc (hS2).size _
          have hbl3 : Below (World.heap u2').size u2' (World.alloc u2' (.cells #[.int .u64 0, .int .u64 0] 82)) := (Below.refl _ _).alloc (Nat.le_refl _) _
          have t4_3 := Zf u2' #[.int .u64 0, .int .u64 0] 82 2 (Nat.le_refl _)
          have g4_3 : w3.heap.size ≤ (World.heap u2').size ∧ (World.heap u2').size < (World.alloc u2' (.cells #[.int .u64 0, .int .u64 0] 82)).heap.size := ⟨(hS2).size, by simp⟩
          refine hK.out _ _ hS3 (fun _ => ?_)
          clear hK K
          try simp only [pU]
          generalize World.alloc u2' (.cells #[.int .u64 0, .int .u64 0] 82) = u3' at *
          refine wpAnyH_ready (rs := [5]) (by kernel_rfl) (by simp) ?_
          refine AllReadyH.cons rfl (fun K hK => ?_) AllReadyH.nil
          go_simp
          have hS4 : Below w3.heap.size w3 (World.alloc u3' (.cells #[.int .u64 0, .int .u64 0] 82)) := (hS3).alloc (hS3).size _
          have hbl4 : Below (World.heap u3').size u3' (World.alloc u3' (.cells #[.int .u64 0, .int .u64 0] 82)) := (Below.refl _ _).alloc (Nat.le_refl _) _
          have t5_4 := Zf u3' #[.int .u64 0, .int .u64 0] 82 2 (Nat.le_refl _)
          have g5_4 : w3.heap.size ≤ (World.heap u3').size ∧ (World.heap u3').size < (World.alloc u3' (.cells #[.int .u64 0, .int .u64 0] 82)).heap.size := ⟨(hS3).size, by simp⟩
          have t4_4 := Zc t4_3 hbl4 g4_3.2
          have g4_4 := And.intro g4_3.1 (Nat.lt_of_lt_of_le g4_3.2 hbl4.size)
          have hne := Nat.ne_of_lt g4_3.2
          refine hK.out _ _ hS4 (fun _ => ?_)
          clear hK K
          try simp only [pU]
          generalize World.alloc u3' (.cells #[.int .u64 0, .int .u64 0] 82) = u4' at *
          refine wpAnyH_ready (rs := [6]) (by kernel_rfl) (by simp) ?_
          refine AllReadyH.cons rfl (fun K hK => ?_) AllReadyH.nil
          rw [if_pos (by rfl)]
          refine wp_store_mid 82 (.tmp 5) (.tmp 17) rfl _ 0 (PL ra).toArray rfl rfl t4_4 Z3 (by kernel_rfl) ?_
          refine hK.out _ _ (Zb _ g4_4.1 _ _ _ hS4) (fun _ => ?_)
          clear hK K
          try simp only [pU]
          refine wpAnyH_ready (rs := [7]) (by kernel_rfl) (by simp) ?_
          refine AllReadyH.cons rfl (fun K hK => ?_) AllReadyH.nil
          rw [if_pos (by rfl)]
          refine wp_store_mid 82 (.tmp 6) (.tmp 19) rfl _ 0 (PL rb).toArray rfl rfl (World.there_setCells t5_4 _ _ _) Z3 (by kernel_rfl) ?_
          refine hK.out _ _ (Zb _ g5_4.1 _ _ _ (Zb _ g4_4.1 _ _ _ hS4)) (fun _ => ?_)
          clear hK K
          refine wpAnyH_done (by kernel_rfl) ?_ _
          refine NoPanic.normal ?_
          go_wp2_with fail
          go_meet
          exact ⟨_, _, rfl, rfl, Qz.mk' hS4 g4_4 g5_4 hne t4_4 t5_4⟩
        · skip
          go_simp
          have hS5 : Below w3.heap.size w3 (World.alloc u2' (.cells #[.int .u64 0, .int .u64 0] 82)) := (hS2).alloc (hS2).size _
          have hbl5 : Below (World.heap u2').size u2' (World.alloc u2' (.cells #[.int .u64 0, .int .u64 0] 82)) := (Below.refl _ _).alloc (Nat.le_refl _) _
          have t5_5 := Zf u2' #[.int .u64 0, .int .u64 0] 82 2 (Nat.le_refl _)
          have g5_5 : w3.heap.size ≤ (World.heap u2').size ∧ (World.heap u2').size < (World.alloc u2' (.cells #[.int .u64 0, .int .u64 0] 82)).heap.size := ⟨(hS2).size, by simp⟩
          refine hK.out _ _ hS5 (fun _ => ?_)
          clear hK K
          try simp only [pU]
          generalize World.alloc u2' (.cells #[.int .u64 0, .int .u64 0] 82) = u5' at *
          refine wpAnyH_ready (rs := [4]) (by kernel_rfl) (by simp) ?_
          refine AllReadyH.cons rfl (fun K hK => ?_) AllReadyH.nil
          go_simp
          have hS6 : Below w3.heap.size w3 (World.alloc u5' (.cells #[.int .u64 0, .int .u64 0] 82)) := (hS5).alloc (hS5).size _
          have hbl6 : Below (World.heap u5').size u5' (World.alloc u5' (.cells #[.int .u64 0, .int .u64 0] 82)) := (Below.refl _ _).alloc (Nat.le_refl _) _
          have t4_6 := Zf u5' #[.int .u64 0, .int .u64 0] 82 2 (Nat.le_refl _)
          have g4_6 : w3.heap.size ≤ (World.heap u5').size ∧ (World.heap u5').size < (World.alloc u5' (.cells #[.int .u64 0, .int .u64 0] 82)).heap.size := ⟨(hS5).size, by simp⟩
          have t5_6 := Zc t5_5 hbl6 g5_5.2
          have g5_6 := And.intro g5_5.1 (Nat.lt_of_lt_of_le g5_5.2 hbl6.size)
          have hne := (Nat.ne_of_lt g5_5.2).symm
          refine hK.out _ _ hS6 (fun _ => ?_)
          clear hK K
          try simp only [pU]
          generalize World.alloc u5' (.cells #[.int .u64 0, .int .u64 0] 82) = u6' at *
          refine wpAnyH_ready (rs := [6]) (by kernel_rfl) (by simp) ?_
          refine AllReadyH.cons rfl (fun K hK => ?_) AllReadyH.nil
          rw [if_pos (by rfl)]
          refine wp_store_mid 82 (.tmp 5) (.tmp 17) rfl _ 0 (PL ra).toArray rfl rfl t4_6 Z3 (by kernel_rfl) ?_
          refine hK.out _ _ (Zb _ g4_6.1 _ _ _ hS6) (fun _ => ?_)
          clear hK K
          try simp only [pU]
          refine wpAnyH_ready (rs := [7]) (by kernel_rfl) (by simp) ?_
          refine AllReadyH.cons rfl (fun K hK => ?_) AllReadyH.nil
          rw [if_pos (by rfl)]
          refine wp_store_mid 82 (.tmp 6) (.tmp 19) rfl _ 0 (PL rb).toArray rfl rfl (World.there_setCells t5_6 _ _ _) Z3 (by kernel_rfl) ?_
          refine hK.out _ _ (Zb _ g5_6.1 _ _ _ (Zb _ g4_6.1 _ _ _ hS6)) (fun _ => ?_)
          clear hK K
          refine wpAnyH_done (by kernel_rfl) ?_ _
          refine NoPanic.normal ?_
          go_wp2_with fail
          go_meet
          exact ⟨_, _, rfl, rfl, Qz.mk' hS6 g4_6 g5_6 hne t4_6 t5_6⟩
      · skip
        go_simp
        have hS7 : Below w3.heap.size w3 (World.alloc u1' (.cells #[.int .u64 0, .int .u64 0] 82)) := (hS1).alloc (hS1).size _
        have hbl7 : Below (World.heap u1').size u1' (World.alloc u1' (.cells #[.int .u64 0, .int .u64 0] 82)) := (Below.refl _ _).alloc (Nat.le_refl _) _
        have t4_7 := Zf u1' #[.int .u64 0, .int .u64 0] 82 2 (Nat.le_refl _)
        have g4_7 : w3.heap.size ≤ (World.heap u1').size ∧ (World.heap u1').size < (World.alloc u1' (.cells #[.int .u64 0, .int .u64 0] 82)).heap.size := ⟨(hS1).size, by simp⟩
        refine hK.out _ _ hS7 (fun _ => ?_)
        clear hK K
        try simp only [pU]
        generalize World.alloc u1' (.cells #[.int .u64 0, .int .u64 0] 82) = u7' at *
        refine wpAnyH_ready (rs := [3, 5]) (by kernel_rfl) (by simp) ?_
        refine AllReadyH.cons rfl (fun K hK => ?_) (AllReadyH.cons rfl (fun K hK => ?_) AllReadyH.nil)
        · skip
          go_simp
          refine (KB.out _).mono ?_
          rintro e1 u8' ⟨rfl, hb8⟩
          have hS8 : Below w3.heap.size w3 u8' := (hS7).trans (hb8.mono (hS7).size)
          have t4_8 := Zc t4_7 hb8 g4_7.2
          have g4_8 : w3.heap.size ≤ _ ∧ _ < u8'.heap.size := ⟨g4_7.1, Nat.lt_of_lt_of_le g4_7.2 hb8.size⟩
          go_wp2_with fail
          refine hK.out _ _ hS8 (fun _ => ?_)
          clear hK K
          try simp only [pU]
          refine wpAnyH_ready (rs := [5]) (by kernel_rfl) (by simp) ?_
          refine AllReadyH.cons rfl (fun K hK => ?_) AllReadyH.nil
          go_simp
          have hS9 : Below w3.heap.size w3 (World.alloc u8' (.cells #[.int .u64 0, .int .u64 0] 82)) := (hS8).alloc (hS8).size _
          have hbl9 : Below (World.heap u8').size u8' (World.alloc u8' (.cells #[.int .u64 0, .int .u64 0] 82)) := (Below.refl _ _).alloc (Nat.le_refl _) _
          have t5_9 := Zf u8' #[.int .u64 0, .int .u64 0] 82 2 (Nat.le_refl _)
          have g5_9 : w3.heap.size ≤ (World.heap u8').size ∧ (World.heap u8').size < (World.alloc u8' (.cells #[.int .u64 0, .int .u64 0] 82)).heap.size := ⟨(hS8).size, by simp⟩
          have t4_9 := Zc t4_8 hbl9 g4_8.2
          have g4_9 := And.intro g4_8.1 (Nat.lt_of_lt_of_le g4_8.2 hbl9.size)
          have hne := Nat.ne_of_lt g4_8.2
          refine hK.out _ _ hS9 (fun _ => ?_)
          clear hK K
          try simp only [pU]
          generalize World.alloc u8' (.cells #[.int .u64 0, .int .u64 0] 82) = u9' at *
          refine wpAnyH_ready (rs := [6]) (by kernel_rfl) (by simp) ?_
          refine AllReadyH.cons rfl (fun K hK => ?_) AllReadyH.nil
          rw [if_pos (by rfl)]
          refine wp_store_mid 82 (.tmp 5) (.tmp 17) rfl _ 0 (PL ra).toArray rfl rfl t4_9 Z3 (by kernel_rfl) ?_
          refine hK.out _ _ (Zb _ g4_9.1 _ _ _ hS9) (fun _ => ?_)
          clear hK K
          try simp only [pU]
          refine wpAnyH_ready (rs := [7]) (by kernel_rfl) (by simp) ?_
          refine AllReadyH.cons rfl (fun K hK => ?_) AllReadyH.nil
          rw [if_pos (by rfl)]
          refine wp_store_mid 82 (.tmp 6) (.tmp 19) rfl _ 0 (PL rb).toArray rfl rfl (World.there_setCells t5_9 _ _ _) Z3 (by kernel_rfl) ?_
          refine hK.out _ _ (Zb _ g5_9.1 _ _ _ (Zb _ g4_9.1 _ _ _ hS9)) (fun _ => ?_)
          clear hK K
          refine wpAnyH_done (by kernel_rfl) ?_ _
          refine NoPanic.normal ?_
          go_wp2_with fail
          go_meet
          exact ⟨_, _, rfl, rfl, Qz.mk' hS9 g4_9 g5_9 hne t4_9 t5_9⟩
        · skip
          go_simp
          have hS10 : Below w3.heap.size w3 (World.alloc u7' (.cells #[.int .u64 0, .int .u64 0] 82)) := (hS7).alloc (hS7).size _
          have hbl10 : Below (World.heap u7').size u7' (World.alloc u7' (.cells #[.int .u64 0, .int .u64 0] 82)) := (Below.refl _ _).alloc (Nat.le_refl _) _
          have t5_10 := Zf u7' #[.int .u64 0, .int .u64 0] 82 2 (Nat.le_refl _)
          have g5_10 : w3.heap.size ≤ (World.heap u7').size ∧ (World.heap u7').size < (World.alloc u7' (.cells #[.int .u64 0, .int .u64 0] 82)).heap.size := ⟨(hS7).size, by simp⟩
          have t4_10 := Zc t4_7 hbl10 g4_7.2
          have g4_10 := And.intro g4_7.1 (Nat.lt_of_lt_of_le g4_7.2 hbl10.size)
          have hne := Nat.ne_of_lt g4_7.2
          refine hK.out _ _ hS10 (fun _ => ?_)
          clear hK K
          try simp only [pU]
          generalize World.alloc u7' (.cells #[.int .u64 0, .int .u64 0] 82) = u10' at *
          refine wpAnyH_ready (rs := [3]) (by kernel_rfl) (by simp) ?_
          refine AllReadyH.cons rfl (fun K hK => ?_) AllReadyH.nil
          go_simp
          refine (KB.out _).mono ?_
          rintro e1 u11' ⟨rfl, hb11⟩
          have hS11 : Below w3.heap.size w3 u11' := (hS10).trans (hb11.mono (hS10).size)
          have t5_11 := Zc t5_10 hb11 g5_10.2
          have g5_11 : w3.heap.size ≤ _ ∧ _ < u11'.heap.size := ⟨g5_10.1, Nat.lt_of_lt_of_le g5_10.2 hb11.size⟩
          have t4_11 := Zc t4_10 hb11 g4_10.2
          have g4_11 : w3.heap.size ≤ _ ∧ _ < u11'.heap.size := ⟨g4_10.1, Nat.lt_of_lt_of_le g4_10.2 hb11.size⟩
          go_wp2_with fail
          refine hK.out _ _ hS11 (fun _ => ?_)
          clear hK K
          try simp only [pU]
          refine wpAnyH_ready (rs := [6]) (by kernel_rfl) (by simp) ?_
          refine AllReadyH.cons rfl (fun K hK => ?_) AllReadyH.nil
          rw [if_pos (by rfl)]
          refine wp_store_mid 82 (.tmp 5) (.tmp 17) rfl _ 0 (PL ra).toArray rfl rfl t4_11 Z3 (by kernel_rfl) ?_
          refine hK.out _ _ (Zb _ g4_11.1 _ _ _ hS11) (fun _ => ?_)
          clear hK K
          try simp only [pU]
          refine wpAnyH_ready (rs := [7]) (by kernel_rfl) (by simp) ?_
          refine AllReadyH.cons rfl (fun K hK => ?_) AllReadyH.nil
          rw [if_pos (by rfl)]
          refine wp_store_mid 82 (.tmp 6) (.tmp 19) rfl _ 0 (PL rb).toArray rfl rfl (World.there_setCells t5_11 _ _ _) Z3 (by kernel_rfl) ?_
          refine hK.out _ _ (Zb _ g5_11.1 _ _ _ (Zb _ g4_11.1 _ _ _ hS11)) (fun _ => ?_)
          clear hK K
          refine wpAnyH_done (by kernel_rfl) ?_ _
          refine NoPanic.normal ?_
          go_wp2_with fail
          go_meet
          exact ⟨_, _, rfl, rfl, Qz.mk' hS11 g4_11 g5_11 hne t4_11 t5_11⟩
      · skip
        go_simp
        have hS12 : Below w3.heap.size w3 (World.alloc u1' (.cells #[.int .u64 0, .int .u64 0] 82)) := (hS1).alloc (hS1).size _
        have hbl12 : Below (World.heap u1').size u1' (World.alloc u1' (.cells #[.int .u64 0, .int .u64 0] 82)) := (Below.refl _ _).alloc (Nat.le_refl _) _
        have t5_12 := Zf u1' #[.int .u64 0, .int .u64 0] 82 2 (Nat.le_refl _)
        have g5_12 : w3.heap.size ≤ (World.heap u1').size ∧ (World.heap u1').size < (World.alloc u1' (.cells #[.int .u64 0, .int .u64 0] 82)).heap.size := ⟨(hS1).size, by simp⟩
        refine hK.out _ _ hS12 (fun _ => ?_)
        clear hK K
        try simp only [pU]
        generalize World.alloc u1' (.cells #[.int .u64 0, .int .u64 0] 82) = u12' at *
        refine wpAnyH_ready (rs := [3, 4]) (by kernel_rfl) (by simp) ?_
        refine AllReadyH.cons rfl (fun K hK => ?_) (AllReadyH.cons rfl (fun K hK => ?_) AllReadyH.nil)
        · skip
          go_simp
          refine (KB.out _).mono ?_
          rintro e1 u13' ⟨rfl, hb13⟩
          have hS13 : Below w3.heap.size w3 u13' := (hS12).trans (hb13.mono (hS12).size)
          have t5_13 := Zc t5_12 hb13 g5_12.2
          have g5_13 : w3.heap.size ≤ _ ∧ _ < u13'.heap.size := ⟨g5_12.1, Nat.lt_of_lt_of_le g5_12.2 hb13.size⟩
          go_wp2_with fail
          refine hK.out _ _ hS13 (fun _ => ?_)
          clear hK K
          try simp only [pU]
          refine wpAnyH_ready (rs := [4]) (by kernel_rfl) (by simp) ?_
          refine AllReadyH.cons rfl (fun K hK => ?_) AllReadyH.nil
          go_simp
          have hS14 : Below w3.heap.size w3 (World.alloc u13' (.cells #[.int .u64 0, .int .u64 0] 82)) := (hS13).alloc (hS13).size _
          have hbl14 : Below (World.heap u13').size u13' (World.alloc u13' (.cells #[.int .u64 0, .int .u64 0] 82)) := (Below.refl _ _).alloc (Nat.le_refl _) _
          have t4_14 := Zf u13' #[.int .u64 0, .int .u64 0] 82 2 (Nat.le_refl _)
          have g4_14 : w3.heap.size ≤ (World.heap u13').size ∧ (World.heap u13').size < (World.alloc u13' (.cells #[.int .u64 0, .int .u64 0] 82)).heap.size := ⟨(hS13).size, by simp⟩
          have t5_14 := Zc t5_13 hbl14 g5_13.2
          have g5_14 := And.intro g5_13.1 (Nat.lt_of_lt_of_le g5_13.2 hbl14.size)
          have hne := (Nat.ne_of_lt g5_13.2).symm
          refine hK.out _ _ hS14 (fun _ => ?_)
          clear hK K
          try simp only [pU]
          generalize World.alloc u13' (.cells #[.int .u64 0, .int .u64 0] 82) = u14' at *
          refine wpAnyH_ready (rs := [6]) (by kernel_rfl) (by simp) ?_
          refine AllReadyH.cons rfl (fun K hK => ?_) AllReadyH.nil
          rw [if_pos (by rfl)]
          refine wp_store_mid 82 (.tmp 5) (.tmp 17) rfl _ 0 (PL ra).toArray rfl rfl t4_14 Z3 (by kernel_rfl) ?_
          refine hK.out _ _ (Zb _ g4_14.1 _ _ _ hS14) (fun _ => ?_)
          clear hK K
          try simp only [pU]
          refine wpAnyH_ready (rs := [7]) (by kernel_rfl) (by simp) ?_
          refine AllReadyH.cons rfl (fun K hK => ?_) AllReadyH.nil
          rw [if_pos (by rfl)]
          refine wp_store_mid 82 (.tmp 6) (.tmp 19) rfl _ 0 (PL rb).toArray rfl rfl (World.there_setCells t5_14 _ _ _) Z3 (by kernel_rfl) ?_
          refine hK.out _ _ (Zb _ g5_14.1 _ _ _ (Zb _ g4_14.1 _ _ _ hS14)) (fun _ => ?_)
          clear hK K
          refine wpAnyH_done (by kernel_rfl) ?_ _
          refine NoPanic.normal ?_
          go_wp2_with fail
          go_meet
          exact ⟨_, _, rfl, rfl, Qz.mk' hS14 g4_14 g5_14 hne t4_14 t5_14⟩
        · skip
          go_simp
          have hS15 : Below w3.heap.size w3 (World.alloc u12' (.cells #[.int .u64 0, .int .u64 0] 82)) := (hS12).alloc (hS12).size _
          have hbl15 : Below (World.heap u12').size u12' (World.alloc u12' (.cells #[.int .u64 0, .int .u64 0] 82)) := (Below.refl _ _).alloc (Nat.le_refl _) _
          have t4_15 := Zf u12' #[.int .u64 0, .int .u64 0] 82 2 (Nat.le_refl _)
          have g4_15 : w3.heap.size ≤ (World.heap u12').size ∧ (World.heap u12').size < (World.alloc u12' (.cells #[.int .u64 0, .int .u64 0] 82)).heap.size := ⟨(hS12).size, by simp⟩
          have t5_15 := Zc t5_12 hbl15 g5_12.2
          have g5_15 := And.intro g5_12.1 (Nat.lt_of_lt_of_le g5_12.2 hbl15.size)
          have hne := (Nat.ne_of_lt g5_12.2).symm
          refine hK.out _ _ hS15 (fun _ => ?_)
          clear hK K
          try simp only [pU]
          generalize World.alloc u12' (.cells #[.int .u64 0, .int .u64 0] 82) = u15' at *
          refine wpAnyH_ready (rs := [3]) (by kernel_rfl) (by simp) ?_
          refine AllReadyH.cons rfl (fun K hK => ?_) AllReadyH.nil
          go_simp
          refine (KB.out _).mono ?_
          rintro e1 u16' ⟨rfl, hb16⟩
          have hS16 : Below w3.heap.size w3 u16' := (hS15).trans (hb16.mono (hS15).size)
          have t4_16 := Zc t4_15 hb16 g4_15.2
          have g4_16 : w3.heap.size ≤ _ ∧ _ < u16'.heap.size := ⟨g4_15.1, Nat.lt_of_lt_of_le g4_15.2 hb16.size⟩
          have t5_16 := Zc t5_15 hb16 g5_15.2
          have g5_16 : w3.heap.size ≤ _ ∧ _ < u16'.heap.size := ⟨g5_15.1, Nat.lt_of_lt_of_le g5_15.2 hb16.size⟩
          go_wp2_with fail
          refine hK.out _ _ hS16 (fun _ => ?_)
          clear hK K
          try simp only [pU]
          refine wpAnyH_ready (rs := [6]) (by kernel_rfl) (by simp) ?_
          refine AllReadyH.cons rfl (fun K hK => ?_) AllReadyH.nil
          rw [if_pos (by rfl)]
          refine wp_store_mid 82 (.tmp 5) (.tmp 17) rfl _ 0 (PL ra).toArray rfl rfl t4_16 Z3 (by kernel_rfl) ?_
          refine hK.out _ _ (Zb _ g4_16.1 _ _ _ hS16) (fun _ => ?_)
          clear hK K
          try simp only [pU]
          refine wpAnyH_ready (rs := [7]) (by kernel_rfl) (by simp) ?_
          refine AllReadyH.cons rfl (fun K hK => ?_) AllReadyH.nil
          rw [if_pos (by rfl)]
          refine wp_store_mid 82 (.tmp 6) (.tmp 19) rfl _ 0 (PL rb).toArray rfl rfl (World.there_setCells t5_16 _ _ _) Z3 (by kernel_rfl) ?_
          refine hK.out _ _ (Zb _ g5_16.1 _ _ _ (Zb _ g4_16.1 _ _ _ hS16)) (fun _ => ?_)
          clear hK K
          refine wpAnyH_done (by kernel_rfl) ?_ _
          refine NoPanic.normal ?_
          go_wp2_with fail
          go_meet
          exact ⟨_, _, rfl, rfl, Qz.mk' hS16 g4_16 g5_16 hne t4_16 t5_16⟩
    · skip
      go_simp
      have hS17 : Below w3.heap.size w3 (World.alloc u0' (.cells #[.int .u64 0, .int .u64 0] 82)) := (hS0).alloc (hS0).size _
      have hbl17 : Below (World.heap u0').size u0' (World.alloc u0' (.cells #[.int .u64 0, .int .u64 0] 82)) := (Below.refl _ _).alloc (Nat.le_refl _) _
      have t4_17 := Zf u0' #[.int .u64 0, .int .u64 0] 82 2 (Nat.le_refl _)
      have g4_17 : w3.heap.size ≤ (World.heap u0').size ∧ (World.heap u0').size < (World.alloc u0' (.cells #[.int .u64 0, .int .u64 0] 82)).heap.size := ⟨(hS0).size, by simp⟩
      refine hK.out _ _ hS17 (fun _ => ?_)
      clear hK K
      try simp only [pU]
      generalize World.alloc u0' (.cells #[.int .u64 0, .int .u64 0] 82) = u17' at *
      refine wpAnyH_ready (rs := [1, 5]) (by kernel_rfl) (by simp) ?_
      refine AllReadyH.cons rfl (fun K hK => ?_) (AllReadyH.cons rfl (fun K hK => ?_) AllReadyH.nil)
      · skip
        go_simp
        refine (KA.out _).mono ?_
        rintro e1 u18' ⟨rfl, hb18⟩
        have hS18 : Below w3.heap.size w3 u18' := (hS17).trans (hb18.mono (hS17).size)
        have t4_18 := Zc t4_17 hb18 g4_17.2
        have g4_18 : w3.heap.size ≤ _ ∧ _ < u18'.heap.size := ⟨g4_17.1, Nat.lt_of_lt_of_le g4_17.2 hb18.size⟩
        go_wp2_with fail
        refine hK.out _ _ hS18 (fun _ => ?_)
        clear hK K
        try simp only [pU]
        refine wpAnyH_ready (rs := [3, 5]) (by kernel_rfl) (by simp) ?_
        refine AllReadyH.cons rfl (fun K hK => ?_) (AllReadyH.cons rfl (fun K hK => ?_) AllReadyH.nil)
        · skip
          go_simp
          refine (KB.out _).mono ?_
          rintro e1 u19' ⟨rfl, hb19⟩
          have hS19 : Below w3.heap.size w3 u19' := (hS18).trans (hb19.mono (hS18).size)
          have t4_19 := Zc t4_18 hb19 g4_18.2
          have g4_19 : w3.heap.size ≤ _ ∧ _ < u19'.heap.size := ⟨g4_18.1, Nat.lt_of_lt_of_le g4_18.2 hb19.size⟩
          go_wp2_with fail
          refine hK.out _ _ hS19 (fun _ => ?_)
          clear hK K
          try simp only [pU]
          refine wpAnyH_ready (rs := [5]) (by kernel_rfl) (by simp) ?_
          refine AllReadyH.cons rfl (fun K hK => ?_) AllReadyH.nil
          go_simp
          have hS20 : Below w3.heap.size w3 (World.alloc u19' (.cells #[.int .u64 0, .int .u64 0] 82)) := (hS19).alloc (hS19).size _
          have hbl20 : Below (World.heap u19').size u19' (World.alloc u19' (.cells #[.int .u64 0, .int .u64 0] 82)) := (Below.refl _ _).alloc (Nat.le_refl _) _
          have t5_20 := Zf u19' #[.int .u64 0, .int .u64 0] 82 2 (Nat.le_refl _)
          have g5_20 : w3.heap.size ≤ (World.heap u19').size ∧ (World.heap u19').size < (World.alloc u19' (.cells #[.int .u64 0, .int .u64 0] 82)).heap.size := ⟨(hS19).size, by simp⟩
          have t4_20 := Zc t4_19 hbl20 g4_19.2
          have g4_20 := And.intro g4_19.1 (Nat.lt_of_lt_of_le g4_19.2 hbl20.size)
          have hne := Nat.ne_of_lt g4_19.2
          refine hK.out _ _ hS20 (fun _ => ?_)
          clear hK K
          try simp only [pU]
          generalize World.alloc u19' (.cells #[.int .u64 0, .int .u64 0] 82) = u20' at *
          refine wpAnyH_ready (rs := [6]) (by kernel_rfl) (by simp) ?_
          refine AllReadyH.cons rfl (fun K hK => ?_) AllReadyH.nil
          rw [if_pos (by rfl)]
          refine wp_store_mid 82 (.tmp 5) (.tmp 17) rfl _ 0 (PL ra).toArray rfl rfl t4_20 Z3 (by kernel_rfl) ?_
          refine hK.out _ _ (Zb _ g4_20.1 _ _ _ hS20) (fun _ => ?_)
          clear hK K
          try simp only [pU]
          refine wpAnyH_ready (rs := [7]) (by kernel_rfl) (by simp) ?_
          refine AllReadyH.cons rfl (fun K hK => ?_) AllReadyH.nil
          rw [if_pos (by rfl)]
          refine wp_store_mid 82 (.tmp 6) (.tmp 19) rfl _ 0 (PL rb).toArray rfl rfl (World.there_setCells t5_20 _ _ _) Z3 (by kernel_rfl) ?_
          refine hK.out _ _ (Zb _ g5_20.1 _ _ _ (Zb _ g4_20.1 _ _ _ hS20)) (fun _ => ?_)
          clear hK K
          refine wpAnyH_done (by kernel_rfl) ?_ _
          refine NoPanic.normal ?_
          go_wp2_with fail
          go_meet
          exact ⟨_, _, rfl, rfl, Qz.mk' hS20 g4_20 g5_20 hne t4_20 t5_20⟩
        · skip
          go_simp
          have hS21 : Below w3.heap.size w3 (World.alloc u18' (.cells #[.int .u64 0, .int .u64 0] 82)) := (hS18).alloc (hS18).size _
          have hbl21 : Below (World.heap u18').size u18' (World.alloc u18' (.cells #[.int .u64 0, .int .u64 0] 82)) := (Below.refl _ _).alloc (Nat.le_refl _) _
          have t5_21 := Zf u18' #[.int .u64 0, .int .u64 0] 82 2 (Nat.le_refl _)
          have g5_21 : w3.heap.size ≤ (World.heap u18').size ∧ (World.heap u18').size < (World.alloc u18' (.cells #[.int .u64 0, .int .u64 0] 82)).heap.size := ⟨(hS18).size, by simp⟩
          have t4_21 := Zc t4_18 hbl21 g4_18.2
          have g4_21 := And.intro g4_18.1 (Nat.lt_of_lt_of_le g4_18.2 hbl21.size)
          have hne := Nat.ne_of_lt g4_18.2
          refine hK.out _ _ hS21 (fun _ => ?_)
          clear hK K
          try simp only [pU]
          generalize World.alloc u18' (.cells #[.int .u64 0, .int .u64 0] 82) = u21' at *
          refine wpAnyH_ready (rs := [3]) (by kernel_rfl) (by simp) ?_
          refine AllReadyH.cons rfl (fun K hK => ?_) AllReadyH.nil
          go_simp
          refine (KB.out _).mono ?_
          rintro e1 u22' ⟨rfl, hb22⟩
          have hS22 : Below w3.heap.size w3 u22' := (hS21).trans (hb22.mono (hS21).size)
          have t5_22 := Zc t5_21 hb22 g5_21.2
          have g5_22 : w3.heap.size ≤ _ ∧ _ < u22'.heap.size := ⟨g5_21.1, Nat.lt_of_lt_of_le g5_21.2 hb22.size⟩
          have t4_22 := Zc t4_21 hb22 g4_21.2
          have g4_22 : w3.heap.size ≤ _ ∧ _ < u22'.heap.size := ⟨g4_21.1, Nat.lt_of_lt_of_le g4_21.2 hb22.size⟩
          go_wp2_with fail
          refine hK.out _ _ hS22 (fun _ => ?_)
          clear hK K
          try simp only [pU]
          refine wpAnyH_ready (rs := [6]) (by kernel_rfl) (by simp) ?_
          refine AllReadyH.cons rfl (fun K hK => ?_) AllReadyH.nil
          rw [if_pos (by rfl)]
          refine wp_store_mid 82 (.tmp 5) (.tmp 17) rfl _ 0 (PL ra).toArray rfl rfl t4_22 Z3 (by kernel_rfl) ?_
          refine hK.out _ _ (Zb _ g4_22.1 _ _ _ hS22) (fun _ => ?_)
          clear hK K
          try simp only [pU]
          refine wpAnyH_ready (rs := [7]) (by kernel_rfl) (by simp) ?_
          refine AllReadyH.cons rfl (fun K hK => ?_) AllReadyH.nil
          rw [if_pos (by rfl)]
          refine wp_store_mid 82 (.tmp 6) (.tmp 19) rfl _ 0 (PL rb).toArray rfl rfl (World.there_setCells t5_22 _ _ _) Z3 (by kernel_rfl) ?_
          refine hK.out _ _ (Zb _ g5_22.1 _ _ _ (Zb _ g4_22.1 _ _ _ hS22)) (fun _ => ?_)
          clear hK K
          refine wpAnyH_done (by kernel_rfl) ?_ _
          refine NoPanic.normal ?_
          go_wp2_with fail
          go_meet
          exact ⟨_, _, rfl, rfl, Qz.mk' hS22 g4_22 g5_22 hne t4_22 t5_22⟩
      · skip
        go_simp
        have hS23 : Below w3.heap.size w3 (World.alloc u17' (.cells #[.int .u64 0, .int .u64 0] 82)) := (hS17).alloc (hS17).size _
        have hbl23 : Below (World.heap u17').size u17' (World.alloc u17' (.cells #[.int .u64 0, .int .u64 0] 82)) := (Below.refl _ _).alloc (Nat.le_refl _) _
        have t5_23 := Zf u17' #[.int .u64 0, .int .u64 0] 82 2 (Nat.le_refl _)
        have g5_23 : w3.heap.size ≤ (World.heap u17').size ∧ (World.heap u17').size < (World.alloc u17' (.cells #[.int .u64 0, .int .u64 0] 82)).heap.size := ⟨(hS17).size, by simp⟩
        have t4_23 := Zc t4_17 hbl23 g4_17.2
        have g4_23 := And.intro g4_17.1 (Nat.lt_of_lt_of_le g4_17.2 hbl23.size)
        have hne := Nat.ne_of_lt g4_17.2
        refine hK.out _ _ hS23 (fun _ => ?_)
        clear hK K
        try simp only [pU]
        generalize World.alloc u17' (.cells #[.int .u64 0, .int .u64 0] 82) = u23' at *
        refine wpAnyH_ready (rs := [1]) (by kernel_rfl) (by simp) ?_
        refine AllReadyH.cons rfl (fun K hK => ?_) AllReadyH.nil
        go_simp
        refine (KA.out _).mono ?_
        rintro e1 u24' ⟨rfl, hb24⟩
        have hS24 : Below w3.heap.size w3 u24' := (hS23).trans (hb24.mono (hS23).size)
        have t5_24 := Zc t5_23 hb24 g5_23.2
        have g5_24 : w3.heap.size ≤ _ ∧ _ < u24'.heap.size := ⟨g5_23.1, Nat.lt_of_lt_of_le g5_23.2 hb24.size⟩
        have t4_24 := Zc t4_23 hb24 g4_23.2
        have g4_24 : w3.heap.size ≤ _ ∧ _ < u24'.heap.size := ⟨g4_23.1, Nat.lt_of_lt_of_le g4_23.2 hb24.size⟩
        go_wp2_with fail
        refine hK.out _ _ hS24 (fun _ => ?_)
        clear hK K
        try simp only [pU]
        refine wpAnyH_ready (rs := [3]) (by kernel_rfl) (by simp) ?_
        refine AllReadyH.cons rfl (fun K hK => ?_) AllReadyH.nil
        go_simp
        refine (KB.out _).mono ?_
        rintro e1 u25' ⟨rfl, hb25⟩
        have hS25 : Below w3.heap.size w3 u25' := (hS24).trans (hb25.mono (hS24).size)
        have t5_25 := Zc t5_24 hb25 g5_24.2
        have g5_25 : w3.heap.size ≤ _ ∧ _ < u25'.heap.size := ⟨g5_24.1, Nat.lt_of_lt_of_le g5_24.2 hb25.size⟩
        have t4_25 := Zc t4_24 hb25 g4_24.2
        have g4_25 : w3.heap.size ≤ _ ∧ _ < u25'.heap.size := ⟨g4_24.1, Nat.lt_of_lt_of_le g4_24.2 hb25.size⟩
        go_wp2_with fail
        refine hK.out _ _ hS25 (fun _ => ?_)
        clear hK K
        try simp only [pU]
        refine wpAnyH_ready (rs := [6]) (by kernel_rfl) (by simp) ?_
        refine AllReadyH.cons rfl (fun K hK => ?_) AllReadyH.nil
        rw [if_pos (by rfl)]
        refine wp_store_mid 82 (.tmp 5) (.tmp 17) rfl _ 0 (PL ra).toArray rfl rfl t4_25 Z3 (by kernel_rfl) ?_
        refine hK.out _ _ (Zb _ g4_25.1 _ _ _ hS25) (fun _ => ?_)
        clear hK K
        try simp only [pU]
        refine wpAnyH_ready (rs := [7]) (by kernel_rfl) (by simp) ?_
        refine AllReadyH.cons rfl (fun K hK => ?_) AllReadyH.nil
        rw [if_pos (by rfl)]
        refine wp_store_mid 82 (.tmp 6) (.tmp 19) rfl _ 0 (PL rb).toArray rfl rfl (World.there_setCells t5_25 _ _ _) Z3 (by kernel_rfl) ?_
        refine hK.out _ _ (Zb _ g5_25.1 _ _ _ (Zb _ g4_25.1 _ _ _ hS25)) (fun _ => ?_)
        clear hK K
        refine wpAnyH_done (by kernel_rfl) ?_ _
        refine NoPanic.normal ?_
        go_wp2_with fail
        go_meet
        exact ⟨_, _, rfl, rfl, Qz.mk' hS25 g4_25 g5_25 hne t4_25 t5_25⟩
    · skip
      go_simp
      have hS26 : Below w3.heap.size w3 (World.alloc u0' (.cells #[.int .u64 0, .int .u64 0] 82)) := (hS0).alloc (hS0).size _
      have hbl26 : Below (World.heap u0').size u0' (World.alloc u0' (.cells #[.int .u64 0, .int .u64 0] 82)) := (Below.refl _ _).alloc (Nat.le_refl _) _
      have t5_26 := Zf u0' #[.int .u64 0, .int .u64 0] 82 2 (Nat.le_refl _)
      have g5_26 : w3.heap.size ≤ (World.heap u0').size ∧ (World.heap u0').size < (World.alloc u0' (.cells #[.int .u64 0, .int .u64 0] 82)).heap.size := ⟨(hS0).size, by simp⟩
      refine hK.out _ _ hS26 (fun _ => ?_)
      clear hK K
      try simp only [pU]
      generalize World.alloc u0' (.cells #[.int .u64 0, .int .u64 0] 82) = u26' at *
      refine wpAnyH_ready (rs := [1, 4]) (by kernel_rfl) (by simp) ?_
      refine AllReadyH.cons rfl (fun K hK => ?_) (AllReadyH.cons rfl (fun K hK => ?_) AllReadyH.nil)
      · skip
        go_simp
        refine (KA.out _).mono ?_
        rintro e1 u27' ⟨rfl, hb27⟩
        have hS27 : Below w3.heap.size w3 u27' := (hS26).trans (hb27.mono (hS26).size)
        have t5_27 := Zc t5_26 hb27 g5_26.2
        have g5_27 : w3.heap.size ≤ _ ∧ _ < u27'.heap.size := ⟨g5_26.1, Nat.lt_of_lt_of_le g5_26.2 hb27.size⟩
        go_wp2_with fail
        refine hK.out _ _ hS27 (fun _ => ?_)
        clear hK K
        try simp only [pU]
        refine wpAnyH_ready (rs := [3, 4]) (by kernel_rfl) (by simp) ?_
        refine AllReadyH.cons rfl (fun K hK => ?_) (AllReadyH.cons rfl (fun K hK => ?_) AllReadyH.nil)
        · skip
          go_simp
          refine (KB.out _).mono ?_
          rintro e1 u28' ⟨rfl, hb28⟩
          have hS28 : Below w3.heap.size w3 u28' := (hS27).trans (hb28.mono (hS27).size)
          have t5_28 := Zc t5_27 hb28 g5_27.2
          have g5_28 : w3.heap.size ≤ _ ∧ _ < u28'.heap.size := ⟨g5_27.1, Nat.lt_of_lt_of_le g5_27.2 hb28.size⟩
          go_wp2_with fail
          refine hK.out _ _ hS28 (fun _ => ?_)
          clear hK K
          try simp only [pU]
          refine wpAnyH_ready (rs := [4]) (by kernel_rfl) (by simp) ?_
          refine AllReadyH.cons rfl (fun K hK => ?_) AllReadyH.nil
          go_simp
          have hS29 : Below w3.heap.size w3 (World.alloc u28' (.cells #[.int .u64 0, .int .u64 0] 82)) := (hS28).alloc (hS28).size _
          have hbl29 : Below (World.heap u28').size u28' (World.alloc u28' (.cells #[.int .u64 0, .int .u64 0] 82)) := (Below.refl _ _).alloc (Nat.le_refl _) _
          have t4_29 := Zf u28' #[.int .u64 0, .int .u64 0] 82 2 (Nat.le_refl _)
          have g4_29 : w3.heap.size ≤ (World.heap u28').size ∧ (World.heap u28').size < (World.alloc u28' (.cells #[.int .u64 0, .int .u64 0] 82)).heap.size := ⟨(hS28).size, by simp⟩
          have t5_29 := Zc t5_28 hbl29 g5_28.2
          have g5_29 := And.intro g5_28.1 (Nat.lt_of_lt_of_le g5_28.2 hbl29.size)
          have hne := (Nat.ne_of_lt g5_28.2).symm
          refine hK.out _ _ hS29 (fun _ => ?_)
          clear hK K
          try simp only [pU]
          generalize World.alloc u28' (.cells #[.int .u64 0, .int .u64 0] 82) = u29' at *
          refine wpAnyH_ready (rs := [6]) (by kernel_rfl) (by simp) ?_
          refine AllReadyH.cons rfl (fun K hK => ?_) AllReadyH.nil
          rw [if_pos (by rfl)]
          refine wp_store_mid 82 (.tmp 5) (.tmp 17) rfl _ 0 (PL ra).toArray rfl rfl t4_29 Z3 (by kernel_rfl) ?_
          refine hK.out _ _ (Zb _ g4_29.1 _ _ _ hS29) (fun _ => ?_)
          clear hK K
          try simp only [pU]
          refine wpAnyH_ready (rs := [7]) (by kernel_rfl) (by simp) ?_
          refine AllReadyH.cons rfl (fun K hK => ?_) AllReadyH.nil
          rw [if_pos (by rfl)]
          refine wp_store_mid 82 (.tmp 6) (.tmp 19) rfl _ 0 (PL rb).toArray rfl rfl (World.there_setCells t5_29 _ _ _) Z3 (by kernel_rfl) ?_
          refine hK.out _ _ (Zb _ g5_29.1 _ _ _ (Zb _ g4_29.1 _ _ _ hS29)) (fun _ => ?_)
          clear hK K
          refine wpAnyH_done (by kernel_rfl) ?_ _
          refine NoPanic.normal ?_
          go_wp2_with fail
          go_meet
          exact ⟨_, _, rfl, rfl, Qz.mk' hS29 g4_29 g5_29 hne t4_29 t5_29⟩
        · skip
          go_simp
          have hS30 : Below w3.heap.size w3 (World.alloc u27' (.cells #[.int .u64 0, .int .u64 0] 82)) := (hS27).alloc (hS27).size _
          have hbl30 : Below (World.heap u27').size u27' (World.alloc u27' (.cells #[.int .u64 0, .int .u64 0] 82)) := (Below.refl _ _).alloc (Nat.le_refl _) _
          have t4_30 := Zf u27' #[.int .u64 0, .int .u64 0] 82 2 (Nat.le_refl _)
          have g4_30 : w3.heap.size ≤ (World.heap u27').size ∧ (World.heap u27').size < (World.alloc u27' (.cells #[.int .u64 0, .int .u64 0] 82)).heap.size := ⟨(hS27).size, by simp⟩
          have t5_30 := Zc t5_27 hbl30 g5_27.2
          have g5_30 := And.intro g5_27.1 (Nat.lt_of_lt_of_le g5_27.2 hbl30.size)
          have hne := (Nat.ne_of_lt g5_27.2).symm
          refine hK.out _ _ hS30 (fun _ => ?_)
          clear hK K
          try simp only [pU]
          generalize World.alloc u27' (.cells #[.int .u64 0, .int .u64 0] 82) = u30' at *
          refine wpAnyH_ready (rs := [3]) (by kernel_rfl) (by simp) ?_
          refine AllReadyH.cons rfl (fun K hK => ?_) AllReadyH.nil
          go_simp
          refine (KB.out _).mono ?_
          rintro e1 u31' ⟨rfl, hb31⟩
          have hS31 : Below w3.heap.size w3 u31' := (hS30).trans (hb31.mono (hS30).size)
          have t4_31 := Zc t4_30 hb31 g4_30.2
          have g4_31 : w3.heap.size ≤ _ ∧ _ < u31'.heap.size := ⟨g4_30.1, Nat.lt_of_lt_of_le g4_30.2 hb31.size⟩
          have t5_31 := Zc t5_30 hb31 g5_30.2
          have g5_31 : w3.heap.size ≤ _ ∧ _ < u31'.heap.size := ⟨g5_30.1, Nat.lt_of_lt_of_le g5_30.2 hb31.size⟩
          go_wp2_with fail
          refine hK.out _ _ hS31 (fun _ => ?_)
          clear hK K
          try simp only [pU]
          refine wpAnyH_ready (rs := [6]) (by kernel_rfl) (by simp) ?_
          refine AllReadyH.cons rfl (fun K hK => ?_) AllReadyH.nil
          rw [if_pos (by rfl)]
          refine wp_store_mid 82 (.tmp 5) (.tmp 17) rfl _ 0 (PL ra).toArray rfl rfl t4_31 Z3 (by kernel_rfl) ?_
          refine hK.out _ _ (Zb _ g4_31.1 _ _ _ hS31) (fun _ => ?_)
          clear hK K
          try simp only [pU]
          refine wpAnyH_ready (rs := [7]) (by kernel_rfl) (by simp) ?_
          refine AllReadyH.cons rfl (fun K hK => ?_) AllReadyH.nil
          rw [if_pos (by rfl)]
          refine wp_store_mid 82 (.tmp 6) (.tmp 19) rfl _ 0 (PL rb).toArray rfl rfl (World.there_setCells t5_31 _ _ _) Z3 (by kernel_rfl) ?_
          refine hK.out _ _ (Zb _ g5_31.1 _ _ _ (Zb _ g4_31.1 _ _ _ hS31)) (fun _ => ?_)
          clear hK K
          refine wpAnyH_done (by kernel_rfl) ?_ _
          refine NoPanic.normal ?_
          go_wp2_with fail
          go_meet
          exact ⟨_, _, rfl, rfl, Qz.mk' hS31 g4_31 g5_31 hne t4_31 t5_31⟩
      · skip
        go_simp
        have hS32 : Below w3.heap.size w3 (World.alloc u26' (.cells #[.int .u64 0, .int .u64 0] 82)) := (hS26).alloc (hS26).size _
        have hbl32 : Below (World.heap u26').size u26' (World.alloc u26' (.cells #[.int .u64 0, .int .u64 0] 82)) := (Below.refl _ _).alloc (Nat.le_refl _) _
        have t4_32 := Zf u26' #[.int .u64 0, .int .u64 0] 82 2 (Nat.le_refl _)
        have g4_32 : w3.heap.size ≤ (World.heap u26').size ∧ (World.heap u26').size < (World.alloc u26' (.cells #[.int .u64 0, .int .u64 0] 82)).heap.size := ⟨(hS26).size, by simp⟩
        have t5_32 := Zc t5_26 hbl32 g5_26.2
        have g5_32 := And.intro g5_26.1 (Nat.lt_of_lt_of_le g5_26.2 hbl32.size)
        have hne := (Nat.ne_of_lt g5_26.2).symm
        refine hK.out _ _ hS32 (fun _ => ?_)
        clear hK K
        try simp only [pU]
        generalize World.alloc u26' (.cells #[.int .u64 0, .int .u64 0] 82) = u32' at *
        refine wpAnyH_ready (rs := [1]) (by kernel_rfl) (by simp) ?_
        refine AllReadyH.cons rfl (fun K hK => ?_) AllReadyH.nil
        go_simp
        refine (KA.out _).mono ?_
        rintro e1 u33' ⟨rfl, hb33⟩
        have hS33 : Below w3.heap.size w3 u33' := (hS32).trans (hb33.mono (hS32).size)
        have t4_33 := Zc t4_32 hb33 g4_32.2
        have g4_33 : w3.heap.size ≤ _ ∧ _ < u33'.heap.size := ⟨g4_32.1, Nat.lt_of_lt_of_le g4_32.2 hb33.size⟩
        have t5_33 := Zc t5_32 hb33 g5_32.2
        have g5_33 : w3.heap.size ≤ _ ∧ _ < u33'.heap.size := ⟨g5_32.1, Nat.lt_of_lt_of_le g5_32.2 hb33.size⟩
        go_wp2_with fail
        refine hK.out _ _ hS33 (fun _ => ?_)
        clear hK K
        try simp only [pU]
        refine wpAnyH_ready (rs := [3]) (by kernel_rfl) (by simp) ?_
        refine AllReadyH.cons rfl (fun K hK => ?_) AllReadyH.nil
        go_simp
        refine (KB.out _).mono ?_
        rintro e1 u34' ⟨rfl, hb34⟩
        have hS34 : Below w3.heap.size w3 u34' := (hS33).trans (hb34.mono (hS33).size)
        have t4_34 := Zc t4_33 hb34 g4_33.2
        have g4_34 : w3.heap.size ≤ _ ∧ _ < u34'.heap.size := ⟨g4_33.1, Nat.lt_of_lt_of_le g4_33.2 hb34.size⟩
        have t5_34 := Zc t5_33 hb34 g5_33.2
        have g5_34 : w3.heap.size ≤ _ ∧ _ < u34'.heap.size := ⟨g5_33.1, Nat.lt_of_lt_of_le g5_33.2 hb34.size⟩
        go_wp2_with fail
        refine hK.out _ _ hS34 (fun _ => ?_)
        clear hK K
        try simp only [pU]
        refine wpAnyH_ready (rs := [6]) (by kernel_rfl) (by simp) ?_
        refine AllReadyH.cons rfl (fun K hK => ?_) AllReadyH.nil
        rw [if_pos (by rfl)]
        refine wp_store_mid 82 (.tmp 5) (.tmp 17) rfl _ 0 (PL ra).toArray rfl rfl t4_34 Z3 (by kernel_rfl) ?_
        refine hK.out _ _ (Zb _ g4_34.1 _ _ _ hS34) (fun _ => ?_)
        clear hK K
        try simp only [pU]
        refine wpAnyH_ready (rs := [7]) (by kernel_rfl) (by simp) ?_
        refine AllReadyH.cons rfl (fun K hK => ?_) AllReadyH.nil
        rw [if_pos (by rfl)]
        refine wp_store_mid 82 (.tmp 6) (.tmp 19) rfl _ 0 (PL rb).toArray rfl rfl (World.there_setCells t5_34 _ _ _) Z3 (by kernel_rfl) ?_
        refine hK.out _ _ (Zb _ g5_34.1 _ _ _ (Zb _ g4_34.1 _ _ _ hS34)) (fun _ => ?_)
        clear hK K
        refine wpAnyH_done (by kernel_rfl) ?_ _
        refine NoPanic.normal ?_
        go_wp2_with fail
        go_meet
        exact ⟨_, _, rfl, rfl, Qz.mk' hS34 g4_34 g5_34 hne t4_34 t5_34⟩
  case rest =>
  obtain ⟨A1, A2, rfl, rfl, HT⟩ := hcut
  generalize wc = w4 at HT ⊢
  have HF4 : Hid (Below w.heap.size w w4 ∧ w4.there (w.heap.size + 2) 0 16 ∧ w.heap.size + 3 ≤ w4.heap.size ∧ A1 < w4.heap.size ∧ A2 < w4.heap.size ∧ w4.rangeAt A1 0 (PL ra) ∧ w4.rangeAt A2 0 (PL rb)) := by
    obtain ⟨p1, p2, p3, p4, p5⟩ := HD.out
    have hb := HT.out.old
    have := hb.size
    exact ⟨p1.trans (hb.mono (by omega)), Zc p4 hb (by omega), by omega, HT.out.here1, HT.out.here2, HT.out.c1, HT.out.c2⟩
  clear HD HT glA glB KA KB
  have HA5 : Hid (Below w4.heap.size w4 (w4.alloc (.cells #[.int .u64 0, .int .u64 0] 82)) ∧ (w4.alloc (.cells #[.int .u64 0, .int .u64 0] 82)).rangeAt w4.heap.size 0 (PL 0#128) ∧ (w4.alloc (.cells #[.int .u64 0, .int .u64 0] 82)).there w4.heap.size 0 2 ∧ w4.heap.size < (w4.alloc (.cells #[.int .u64 0, .int .u64 0] 82)).heap.size) :=
    ⟨(Below.refl _ _).alloc (Nat.le_refl _) _, Mo w4, Zf w4 _ 82 2 (Nat.le_refl _), by simp⟩
  go_upto_region 5 with fail
  generalize w4.alloc (.cells #[.int .u64 0, .int .u64 0] 82) = w5 at HA5 ⊢
  obtain ⟨C, hC⟩ : ∃ C, C = w4.heap.size := ⟨_, rfl⟩
  rw [← hC] at HA5 ⊢
  have HF5 : Hid (Below w.heap.size w w5 ∧ w5.there (w.heap.size + 2) 0 16 ∧ w.heap.size + 3 ≤ C ∧ A1 < C ∧ A2 < C ∧ w5.rangeAt A1 0 (PL ra) ∧ w5.rangeAt A2 0 (PL rb)) := by
    obtain ⟨p1, p2, p3, p4, p5, p6, p7⟩ := HF4.out
    have hb := HA5.out.1
    rw [← hC] at p3 p4 p5
    exact ⟨p1.trans (hb.mono (by omega)), Zc p2 hb (by omega), p3, p4, p5, Zn p6 hb p4, Zn p7 hb p5⟩
  clear HF4 hC
  go_wp2
  go_loopw [8] (fun i wr => ∃ r : Nat, r ≤ 128 ∧ i = .int .i64 (((r : Nat) : Int) - 1) ∧ ∃ s, Hid (horner TX rb ra r s = M TX rb ra) ∧ Hid (Below C w5 wr ∧ wr.rangeAt C 0 (PL s) ∧ wr.there C 0 2 ∧ C < wr.heap.size)) (fun i _ => (intOf i + 1).toNat)
  case atStart => exact ⟨128, Nat.le_refl _, rfl, 0#128, El Iy rb ra, Below.refl _ _, HA5.out.2.1, HA5.out.2.2.1, HA5.out.2.2.2⟩
  case round =>
    obtain ⟨r, hr, hi, s, hs, HR⟩ := hrel
    cases r with
    | succ k =>
      have e0 : (((k + 1 : Nat) : Int) - 1) = (k : Nat) := by omega
      rw [e0] at hi
      subst hi
      have hk0 : (0 : Int) ≤ ((k : Nat) : Int) := by omega
      have hk1 : ((k : Nat) : Int) ≤ 127 := by omega
      have KTx : Hid (∀ u, Calls Tryz.prog 37 #[.agg (PL s).toArray] u fun e w' => e = .returned (.agg (PL (TX s)).toArray) ∧ Below u.heap.size u w') := fun u => Dp s u
      have KBt : Hid (∀ u, Calls Tryz.prog 261 #[.agg (PL rb).toArray, .int .i64 (k : Nat)] u fun e w' => e = .returned (.int .u64 ((if rb.getLsbD k then 1 else 0 : Nat) : Int)) ∧ Below u.heap.size u w') := fun u => Zdo rb k u (by omega)
      have KPl : Hid (∀ u, Calls Tryz.prog 260 #[.agg (PL (TX s)).toArray, .agg (PL ra).toArray, .int .u64 ((if rb.getLsbD k then 1 else 0 : Nat) : Int)] u fun e w' => e = .returned (.agg (PL (TX s ^^^ (if rb.getLsbD k then ra else 0#128))).toArray) ∧ Below u.heap.size u w') := fun u => O6 (TX s) ra (rb.getLsbD k) u
      obtain ⟨cb, HCB⟩ : ∃ c : Int, Hid (c = ((if rb.getLsbD k then 1 else 0 : Nat) : Int)) := ⟨_, rfl⟩
      obtain ⟨L0, HL0⟩ : ∃ L, Hid (L = PL s) := ⟨_, rfl⟩
      obtain ⟨La, HLa⟩ : ∃ L, Hid (L = PL ra) := ⟨_, rfl⟩
      obtain ⟨Lb, HLb⟩ : ∃ L, Hid (L = PL rb) := ⟨_, rfl⟩
      obtain ⟨L1, HL1⟩ : ∃ L, Hid (L = PL (TX s)) := ⟨_, rfl⟩
      obtain ⟨L2, HL2⟩ : ∃ L, Hid (L = PL (TX s ^^^ (if rb.getLsbD k then ra else 0#128))) := ⟨_, rfl⟩
      rw [← HL0.out, ← HL1.out] at KTx
      rw [← HCB.out, ← HLb.out] at KBt
      rw [← HCB.out, ← HL1.out, ← HLa.out, ← HL2.out] at KPl
      have hl0 : Hid (L0.length = 2) := by show _ = _; rw [HL0.out]; rfl
      have hla : Hid (La.length = 2) := by show _ = _; rw [HLa.out]; rfl
      have hlb : Hid (Lb.length = 2) := by show _ = _; rw [HLb.out]; rfl
      have hl2 : Hid (L2.length = 2) := by show _ = _; rw [HL2.out]; rfl
      have ho2 : Hid (L2.toArray.all (·.oneCell') = true) := by show _ = _; rw [HL2.out]; kernel_rfl
      have g0 : Hid (∀ u, Below (C + 1) wr u → u.rangeAt C 0 L0) := fun u hu => by rw [HL0.out]; exact Zn HR.out.2.1 hu (Nat.lt_succ_self C)
      have ga : Hid (∀ u, Below (C + 1) wr u → u.rangeAt A1 0 La) := fun u hu => by
        obtain ⟨p1, p2, p3, p4, p5, p6, p7⟩ := HF5.out
        rw [HLa.out]
        exact Zn (Zn p6 HR.out.1 p4) hu (by omega)
      have gb : Hid (∀ u, Below (C + 1) wr u → u.rangeAt A2 0 Lb) := fun u hu => by
        obtain ⟨p1, p2, p3, p4, p5, p6, p7⟩ := HF5.out
        rw [HLb.out]
        exact Zn (Zn p7 HR.out.1 p5) hu (by omega)
      go_upto_region 8 with fail
      have hS0 : Below (C + 1) wr wr.drew := (Below.refl _ _).drew
      refine wp_region_noPanic ?_
      refine Yb (fun u => Below (C + 1) wr u) 7 (by kernel_rfl) (by decide) (by decide +kernel) (by decide +kernel) (by decide +kernel) (fun inv => ?_)
      refine tT 0 24 (.agg L0.toArray) inv rfl rfl (by decide +kernel) (hS0) (yieldsIf_load_mid (by rfl) 82 (.tmp 7) rfl C 0 rfl L0 _ (fun u hu => g0.out u hu) Tryz.underlying82 rfl (by rw [hl0.out]; exact Z3)) (fun inv => ?_)
      simp only [pU]
      refine tT 2 26 (.agg La.toArray) inv rfl rfl (by decide +kernel) (hS0) (yieldsIf_load_mid (by rfl) 82 (.tmp 5) rfl A1 0 rfl La _ (fun u hu => ga.out u hu) Tryz.underlying82 rfl (by rw [hla.out]; exact Z3)) (fun inv => ?_)
      simp only [pU]
      refine tT 3 27 (.agg Lb.toArray) inv rfl rfl (by decide +kernel) (hS0) (yieldsIf_load_mid (by rfl) 82 (.tmp 6) rfl A2 0 rfl Lb _ (fun u hu => gb.out u hu) Tryz.underlying82 rfl (by rw [hlb.out]; exact Z3)) (fun inv => ?_)
      simp only [pU]
      refine tT 4 28 (.int .i64 (k : Nat)) inv rfl rfl (by decide +kernel) (hS0) (Or.inl ⟨by rfl, fun w' hS' => by go_simp⟩) (fun inv => ?_)
      simp only [pU]
      refine Zv (i := 1) inv (by decide +kernel) (by decide) rfl (fun K hK => ?_)
      go_simp
      refine (KTx.out _).mono ?_
      rintro e1 u1 ⟨rfl, hbu1⟩
      have hSu1 : Below (C + 1) wr u1 := (hS0).trans (hbu1.mono (Nat.le_trans (Nat.succ_le_of_lt HR.out.2.2.2) (hS0).size))
      go_wp2_with fail
      refine hK.out _ _ hSu1 (fun inv' => ?_)
      clear hK K inv; have inv := inv'; clear inv'
      try simp only [pU]
      refine Zv (i := 5) inv (by decide +kernel) (by decide) rfl (fun K hK => ?_)
      go_simp
      refine (KBt.out _).mono ?_
      rintro e1 u2 ⟨rfl, hbu2⟩
      have hSu2 : Below (C + 1) wr u2 := (hSu1).trans (hbu2.mono (Nat.le_trans (Nat.succ_le_of_lt HR.out.2.2.2) (hSu1).size))
      go_wp2_with fail
      refine hK.out _ _ hSu2 (fun inv' => ?_)
      clear hK K inv; have inv := inv'; clear inv'
      try simp only [pU]
      refine Zv (i := 6) inv (by decide +kernel) (by decide) rfl (fun K hK => ?_)
      go_simp
      refine (KPl.out _).mono ?_
      rintro e1 u3 ⟨rfl, hbu3⟩
      have hSu3 : Below (C + 1) wr u3 := (hSu2).trans (hbu3.mono (Nat.le_trans (Nat.succ_le_of_lt HR.out.2.2.2) (hSu2).size))
      go_wp2_with fail
      refine hK.out _ _ hSu3 (fun inv' => ?_)
      clear hK K inv; have inv := inv'; clear inv'
      try simp only [pU]
      have HW : Hid (u3.there C 0 L2.length ∧ Below (C + 1) wr u3) := ⟨by rw [hl2.out]; exact Zc HR.out.2.2.1 hSu3 (Nat.lt_succ_self C), hSu3⟩
      refine Z9 (i := 7) (by decide +kernel) (by decide) rfl (fun K hK => ?_)
      rw [if_pos (by rfl)]
      refine wp_store_mid 82 (.tmp 7) (.tmp 30) rfl C 0 L2.toArray rfl rfl (by simpa using HW.out.1) (by rw [List.size_toArray, hl2.out]; exact Z3) ho2.out ?_
      refine hK.out _ _ ?_
      clear hK K
      try simp only [pU]
      refine Y8 (by decide +kernel) ?_ _
      refine NoPanic.normal ?_
      go_wp2
      refine ⟨⟨k, by omega, rfl, TX s ^^^ (if rb.getLsbD k then ra else 0#128), hs, ?_⟩, by simp only [intOf]; omega⟩
      have hsz := HW.out.2.size
      refine ⟨Zb _ (Nat.le_refl _) _ _ _ (HR.out.1.trans (HW.out.2.mono (by omega))), ?_, ?_, by rw [size_setCells]; have := HR.out.2.2.2; omega⟩
      · rw [← HL2.out]; exact World.rangeAt_setCells_same _ _ _ _ HW.out.1
      · refine World.there_setCells ?_ _ _ _
        have h := HW.out.1
        rw [hl2.out] at h
        exact h
    | zero =>
      have e0 : (((0 : Nat) : Int) - 1) = -1 := rfl
      rw [e0] at hi
      subst hi
      have H9 : Hid (Below w.heap.size w wr ∧ wr.there (w.heap.size + 2) 0 16 ∧ wr.cell? ⟨C, 0, none⟩ = some (.int .u64 (hiV s : Nat)) ∧ wr.cell? ⟨C, 1, none⟩ = some (.int .u64 (loV s : Nat)) ∧ w.heap.size + 3 ≤ wr.heap.size) := by
        obtain ⟨p1, p2, p3, p4, p5, p6, p7⟩ := HF5.out
        obtain ⟨q1, q2, q3, q4⟩ := HR.out
        exact ⟨p1.trans (q1.mono (by omega)), Zc p2 q1 (by omega), q2 0 _ rfl, q2 1 _ rfl, by omega⟩
      have KL : Hid (∀ u, Calls Tryz.prog 182 #[.int .u64 (hiV s : Nat), .int .u64 (loV s : Nat)] u fun e w' => e = .returned (.agg (BL (TB a b)).toArray) ∧ Below u.heap.size u w') := fun u => by
        have q := Bh s u
        have es : s = M TX rb ra := hs.out
        rw [es, Hra.out, Hrb.out] at q
        rw [es, Hra.out, Hrb.out]
        exact q
      obtain ⟨hi, HH⟩ : ∃ x, Hid (x = hiV s) := ⟨_, rfl⟩
      obtain ⟨lo, HLo⟩ : ∃ x, Hid (x = loV s) := ⟨_, rfl⟩
      obtain ⟨LR, HLR⟩ : ∃ L, Hid (L = BL (TB a b)) := ⟨_, rfl⟩
      rw [← HH.out, ← HLo.out] at H9
      rw [← HH.out, ← HLo.out, ← HLR.out] at KL
      have hlr : Hid (LR.length = 16) := by show _ = _; rw [HLR.out]; rfl
      have hor : Hid (LR.toArray.all (·.oneCell') = true) := by show _ = _; rw [HLR.out]; exact W3 _
      have c0 := H9.out.2.2.1
      have c1 := H9.out.2.2.2.1
      clear HR HF5 HA5
      go_wp2_with (first | (go_at_call 182; refine (KL.out _).mono ?_))
      rintro e w6 ⟨rfl, hb6⟩
      have HW : Hid (w6.there (w.heap.size + 2) 0 LR.length ∧ Below w.heap.size w w6) := by
        obtain ⟨p1, p2, p3, p4, p5⟩ := H9.out
        exact ⟨by rw [hlr.out]; exact Zc p2 hb6 (by omega), p1.trans (hb6.mono (by omega))⟩
      clear hb6 KL c0 c1
      have hTH := HW.out.1
      go_wp2_with (first
        | (refine wpList_store_mid (by rfl) 27 (.tmp 4) (.tmp 35) (by rfl) (w.heap.size + 2) 0 LR.toArray (by rfl) (by rfl) (by simpa using hTH) (by rw [List.size_toArray, hlr.out]; exact Yl) hor.out ?_))
      refine Z4 LR Tryz.results245 rfl (World.rangeAt_setCells_same _ _ _ _ hTH) Tryz.underlying27 rfl (by rw [hlr.out]; exact Yl) ⟨?_, Zb _ (by omega) _ _ _ HW.out.2⟩
      rw [HLR.out]
      rfl
end Go.Proofs.YtehlppaidgkpaaaGreatDoor.Fd
