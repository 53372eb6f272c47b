import Derived.Test.YtgmfiljjogdccabGreatDoorPart15
import Derived.Test.YtgmfiljjogdccabGreatDoorPart14
import Derived.Test.YtgmfiljjogdccabGreatDoorEnc
import Derived.Test.YtgmfiljjogdccabGreatDoorPart08
namespace Go.Proofs.YtgmfiljjogdccabGreatDoor
open Go.RowKit Go.RwLone
set_option linter.unusedVariables false
theorem stream_alloc (w : World) (g : Nat) (s0 : W4) (hs : s0.ok) : StreamAt (w.alloc (.cells #[.pointer (some ⟨g, 0, none⟩), .int .u8 (bt0 s0.a : Nat), .int .u8 (bt1 s0.a : Nat), .int .u8 (bt2 s0.a : Nat), .int .u8 (bt3 s0.a : Nat), .int .u8 (bt0 s0.b : Nat), .int .u8 (bt1 s0.b : Nat), .int .u8 (bt2 s0.b : Nat), .int .u8 (bt3 s0.b : Nat), .int .u8 (bt0 s0.c : Nat), .int .u8 (bt1 s0.c : Nat), .int .u8 (bt2 s0.c : Nat), .int .u8 (bt3 s0.c : Nat), .int .u8 (bt0 s0.d : Nat), .int .u8 (bt1 s0.d : Nat), .int .u8 (bt2 s0.d : Nat), .int .u8 (bt3 s0.d : Nat), .int .u64 0] 103)) w.heap.size g s0 0 := by
 have hr := rangeAt_new w #[.pointer (some ⟨g, 0, none⟩), .int .u8 (bt0 s0.a : Nat), .int .u8 (bt1 s0.a : Nat), .int .u8 (bt2 s0.a : Nat), .int .u8 (bt3 s0.a : Nat), .int .u8 (bt0 s0.b : Nat), .int .u8 (bt1 s0.b : Nat), .int .u8 (bt2 s0.b : Nat), .int .u8 (bt3 s0.b : Nat), .int .u8 (bt0 s0.c : Nat), .int .u8 (bt1 s0.c : Nat), .int .u8 (bt2 s0.c : Nat), .int .u8 (bt3 s0.c : Nat), .int .u8 (bt0 s0.d : Nat), .int .u8 (bt1 s0.d : Nat), .int .u8 (bt2 s0.d : Nat), .int .u8 (bt3 s0.d : Nat), .int .u64 0] 103
 refine ⟨hr 0 _ rfl, fun j v hv => ?_, hr 17 _ rfl, there_new w _ 103 18 (Nat.le_refl _), by simp, hs, by decide⟩
 have h16 : j < 16 := (List.getElem?_eq_some_iff.1 hv).1
 have hv' : (#[.pointer (some ⟨g, 0, none⟩), .int .u8 (bt0 s0.a : Nat), .int .u8 (bt1 s0.a : Nat), .int .u8 (bt2 s0.a : Nat), .int .u8 (bt3 s0.a : Nat), .int .u8 (bt0 s0.b : Nat), .int .u8 (bt1 s0.b : Nat), .int .u8 (bt2 s0.b : Nat), .int .u8 (bt3 s0.b : Nat), .int .u8 (bt0 s0.c : Nat), .int .u8 (bt1 s0.c : Nat), .int .u8 (bt2 s0.c : Nat), .int .u8 (bt3 s0.c : Nat), .int .u8 (bt0 s0.d : Nat), .int .u8 (bt1 s0.d : Nat), .int .u8 (bt2 s0.d : Nat), .int .u8 (bt3 s0.d : Nat), .int .u64 0]).toList[j + 1]? = some v := by
  show ([.int .u8 (bt0 s0.a : Nat), .int .u8 (bt1 s0.a : Nat), .int .u8 (bt2 s0.a : Nat), .int .u8 (bt3 s0.a : Nat), .int .u8 (bt0 s0.b : Nat), .int .u8 (bt1 s0.b : Nat), .int .u8 (bt2 s0.b : Nat), .int .u8 (bt3 s0.b : Nat), .int .u8 (bt0 s0.c : Nat), .int .u8 (bt1 s0.c : Nat), .int .u8 (bt2 s0.c : Nat), .int .u8 (bt3 s0.c : Nat), .int .u8 (bt0 s0.d : Nat), .int .u8 (bt1 s0.d : Nat), .int .u8 (bt2 s0.d : Nat), .int .u8 (bt3 s0.d : Nat)] ++ [Value.int .u64 0])[j]? = some v
  rw [List.getElem?_append_left h16]
  exact hv
 have := hr (j + 1) v hv'
 rw [show 0 + (j + 1) = 1 + j by omega] at this
 exact this
set_option maxHeartbeats 1600000 in
set_option maxRecDepth 100000 in
theorem stream_ok (g nr : Nat) (K : Nat → Nat) (s0 : W4) (w : World) (h : KeyAt w g nr K) (hs : s0.ok) : Calls Tryz.prog 19 #[.pointer (some ⟨g, 0, none⟩), s0.blk] w fun e w' => ∃ t, e = .returned (.tuple #[.pointer (some ⟨t, 0, none⟩), .int .i64 0]) ∧ w.heap.size ≤ t ∧ StreamAt w' t g s0 0 ∧ KeyAt w' g nr K ∧ Touch w w' g 4 1 := by
 have HG : Hid (g < w.heap.size) := h.ciph.here
 have HS : Hid s0.ok := hs
 have HK : Hid (KeyAt w g nr K) := h
 have HK1 : Hid (KeyAt (w.alloc (.cells #[.int .u8 (bt0 s0.a : Nat), .int .u8 (bt1 s0.a : Nat), .int .u8 (bt2 s0.a : Nat), .int .u8 (bt3 s0.a : Nat), .int .u8 (bt0 s0.b : Nat), .int .u8 (bt1 s0.b : Nat), .int .u8 (bt2 s0.b : Nat), .int .u8 (bt3 s0.b : Nat), .int .u8 (bt0 s0.c : Nat), .int .u8 (bt1 s0.c : Nat), .int .u8 (bt2 s0.c : Nat), .int .u8 (bt3 s0.c : Nat), .int .u8 (bt0 s0.d : Nat), .int .u8 (bt1 s0.d : Nat), .int .u8 (bt2 s0.d : Nat), .int .u8 (bt3 s0.d : Nat)] 38)) g nr K) := h.below ((Below.refl _ w).alloc (Nat.le_refl _) _) h.ciph.here
 have HH : Hid (Calls Tryz.prog 41 #[.pointer (some ⟨g, 0, none⟩)] (w.alloc (.cells #[.int .u8 (bt0 s0.a : Nat), .int .u8 (bt1 s0.a : Nat), .int .u8 (bt2 s0.a : Nat), .int .u8 (bt3 s0.a : Nat), .int .u8 (bt0 s0.b : Nat), .int .u8 (bt1 s0.b : Nat), .int .u8 (bt2 s0.b : Nat), .int .u8 (bt3 s0.b : Nat), .int .u8 (bt0 s0.c : Nat), .int .u8 (bt1 s0.c : Nat), .int .u8 (bt2 s0.c : Nat), .int .u8 (bt3 s0.c : Nat), .int .u8 (bt0 s0.d : Nat), .int .u8 (bt1 s0.d : Nat), .int .u8 (bt2 s0.d : Nat), .int .u8 (bt3 s0.d : Nat)] 38)) fun e w' => e = .returned (.int .i64 0) ∧ w' = (w.alloc (.cells #[.int .u8 (bt0 s0.a : Nat), .int .u8 (bt1 s0.a : Nat), .int .u8 (bt2 s0.a : Nat), .int .u8 (bt3 s0.a : Nat), .int .u8 (bt0 s0.b : Nat), .int .u8 (bt1 s0.b : Nat), .int .u8 (bt2 s0.b : Nat), .int .u8 (bt3 s0.b : Nat), .int .u8 (bt0 s0.c : Nat), .int .u8 (bt1 s0.c : Nat), .int .u8 (bt2 s0.c : Nat), .int .u8 (bt3 s0.c : Nat), .int .u8 (bt0 s0.d : Nat), .int .u8 (bt1 s0.d : Nat), .int .u8 (bt2 s0.d : Nat), .int .u8 (bt3 s0.d : Nat)] 38)).setCell ⟨g, 4, none⟩ (.int .i32 1)) := hold_ok g nr K _ HK1.out
 have HT0 : Hid (Touch w (w.alloc (.cells #[.int .u8 (bt0 s0.a : Nat), .int .u8 (bt1 s0.a : Nat), .int .u8 (bt2 s0.a : Nat), .int .u8 (bt3 s0.a : Nat), .int .u8 (bt0 s0.b : Nat), .int .u8 (bt1 s0.b : Nat), .int .u8 (bt2 s0.b : Nat), .int .u8 (bt3 s0.b : Nat), .int .u8 (bt0 s0.c : Nat), .int .u8 (bt1 s0.c : Nat), .int .u8 (bt2 s0.c : Nat), .int .u8 (bt3 s0.c : Nat), .int .u8 (bt0 s0.d : Nat), .int .u8 (bt1 s0.d : Nat), .int .u8 (bt2 s0.d : Nat), .int .u8 (bt3 s0.d : Nat)] 38)) g 4 1) := (Touch.refl w g 4 1).alloc _ h.ciph.here
 have HR0 : Hid ((w.alloc (.cells #[.int .u8 (bt0 s0.a : Nat), .int .u8 (bt1 s0.a : Nat), .int .u8 (bt2 s0.a : Nat), .int .u8 (bt3 s0.a : Nat), .int .u8 (bt0 s0.b : Nat), .int .u8 (bt1 s0.b : Nat), .int .u8 (bt2 s0.b : Nat), .int .u8 (bt3 s0.b : Nat), .int .u8 (bt0 s0.c : Nat), .int .u8 (bt1 s0.c : Nat), .int .u8 (bt2 s0.c : Nat), .int .u8 (bt3 s0.c : Nat), .int .u8 (bt0 s0.d : Nat), .int .u8 (bt1 s0.d : Nat), .int .u8 (bt2 s0.d : Nat), .int .u8 (bt3 s0.d : Nat)] 38)).rangeAt w.heap.size 0 [.int .u8 (bt0 s0.a : Nat), .int .u8 (bt1 s0.a : Nat), .int .u8 (bt2 s0.a : Nat), .int .u8 (bt3 s0.a : Nat), .int .u8 (bt0 s0.b : Nat), .int .u8 (bt1 s0.b : Nat), .int .u8 (bt2 s0.b : Nat), .int .u8 (bt3 s0.b : Nat), .int .u8 (bt0 s0.c : Nat), .int .u8 (bt1 s0.c : Nat), .int .u8 (bt2 s0.c : Nat), .int .u8 (bt3 s0.c : Nat), .int .u8 (bt0 s0.d : Nat), .int .u8 (bt1 s0.d : Nat), .int .u8 (bt2 s0.d : Nat), .int .u8 (bt3 s0.d : Nat)]) := rangeAt_new w #[.int .u8 (bt0 s0.a : Nat), .int .u8 (bt1 s0.a : Nat), .int .u8 (bt2 s0.a : Nat), .int .u8 (bt3 s0.a : Nat), .int .u8 (bt0 s0.b : Nat), .int .u8 (bt1 s0.b : Nat), .int .u8 (bt2 s0.b : Nat), .int .u8 (bt3 s0.b : Nat), .int .u8 (bt0 s0.c : Nat), .int .u8 (bt1 s0.c : Nat), .int .u8 (bt2 s0.c : Nat), .int .u8 (bt3 s0.c : Nat), .int .u8 (bt0 s0.d : Nat), .int .u8 (bt1 s0.d : Nat), .int .u8 (bt2 s0.d : Nat), .int .u8 (bt3 s0.d : Nat)] 38
 have HSZ : Hid ((w.alloc (.cells #[.int .u8 (bt0 s0.a : Nat), .int .u8 (bt1 s0.a : Nat), .int .u8 (bt2 s0.a : Nat), .int .u8 (bt3 s0.a : Nat), .int .u8 (bt0 s0.b : Nat), .int .u8 (bt1 s0.b : Nat), .int .u8 (bt2 s0.b : Nat), .int .u8 (bt3 s0.b : Nat), .int .u8 (bt0 s0.c : Nat), .int .u8 (bt1 s0.c : Nat), .int .u8 (bt2 s0.c : Nat), .int .u8 (bt3 s0.c : Nat), .int .u8 (bt0 s0.d : Nat), .int .u8 (bt1 s0.d : Nat), .int .u8 (bt2 s0.d : Nat), .int .u8 (bt3 s0.d : Nat)] 38)).heap.size = w.heap.size + 1) := by show _ = _; simp
 clear h hs
 show Calls Tryz.prog 19 #[.pointer (some ⟨g, 0, none⟩), .agg #[.int .u8 (bt0 s0.a : Nat), .int .u8 (bt1 s0.a : Nat), .int .u8 (bt2 s0.a : Nat), .int .u8 (bt3 s0.a : Nat), .int .u8 (bt0 s0.b : Nat), .int .u8 (bt1 s0.b : Nat), .int .u8 (bt2 s0.b : Nat), .int .u8 (bt3 s0.b : Nat), .int .u8 (bt0 s0.c : Nat), .int .u8 (bt1 s0.c : Nat), .int .u8 (bt2 s0.c : Nat), .int .u8 (bt3 s0.c : Nat), .int .u8 (bt0 s0.d : Nat), .int .u8 (bt1 s0.d : Nat), .int .u8 (bt2 s0.d : Nat), .int .u8 (bt3 s0.d : Nat)]] w _
 go_enter_defers Tryz.func19, Tryz.ntmps19
 go_wp2_with (first | (go_at_call 41; refine HH.out.mono ?_))
 rintro e1 w1 ⟨rfl, hw1⟩
 have H1 : Hid (Ciph w1 g 6 nr K ∧ Touch (w.alloc (.cells #[.int .u8 (bt0 s0.a : Nat), .int .u8 (bt1 s0.a : Nat), .int .u8 (bt2 s0.a : Nat), .int .u8 (bt3 s0.a : Nat), .int .u8 (bt0 s0.b : Nat), .int .u8 (bt1 s0.b : Nat), .int .u8 (bt2 s0.b : Nat), .int .u8 (bt3 s0.b : Nat), .int .u8 (bt0 s0.c : Nat), .int .u8 (bt1 s0.c : Nat), .int .u8 (bt2 s0.c : Nat), .int .u8 (bt3 s0.c : Nat), .int .u8 (bt0 s0.d : Nat), .int .u8 (bt1 s0.d : Nat), .int .u8 (bt2 s0.d : Nat), .int .u8 (bt3 s0.d : Nat)] 38)) w1 g 4 1 ∧ w1.cell? ⟨g, 4, none⟩ = some (.int .i32 1)) := held HK1.out hw1
 have HR1 : Hid (w1.rangeAt w.heap.size 0 [.int .u8 (bt0 s0.a : Nat), .int .u8 (bt1 s0.a : Nat), .int .u8 (bt2 s0.a : Nat), .int .u8 (bt3 s0.a : Nat), .int .u8 (bt0 s0.b : Nat), .int .u8 (bt1 s0.b : Nat), .int .u8 (bt2 s0.b : Nat), .int .u8 (bt3 s0.b : Nat), .int .u8 (bt0 s0.c : Nat), .int .u8 (bt1 s0.c : Nat), .int .u8 (bt2 s0.c : Nat), .int .u8 (bt3 s0.c : Nat), .int .u8 (bt0 s0.d : Nat), .int .u8 (bt1 s0.d : Nat), .int .u8 (bt2 s0.d : Nat), .int .u8 (bt3 s0.d : Nat)]) := fun j v hv => by
  have hz := HSZ.out
  have hgw := HG.out
  rw [H1.out.2.1.far (p := ⟨w.heap.size, 0 + j, none⟩) (show w.heap.size < _ by omega) (show w.heap.size ≠ g by omega)]
  exact HR0.out j v hv
 clear hw1 HH
 go_wp2_with (first
  | (refine wpList_load_mid (by rfl) 38 (.tmp 3) (by rfl) w.heap.size 0 (by rfl) [.int .u8 (bt0 s0.a : Nat), .int .u8 (bt1 s0.a : Nat), .int .u8 (bt2 s0.a : Nat), .int .u8 (bt3 s0.a : Nat), .int .u8 (bt0 s0.b : Nat), .int .u8 (bt1 s0.b : Nat), .int .u8 (bt2 s0.b : Nat), .int .u8 (bt3 s0.b : Nat), .int .u8 (bt0 s0.c : Nat), .int .u8 (bt1 s0.c : Nat), .int .u8 (bt2 s0.c : Nat), .int .u8 (bt3 s0.c : Nat), .int .u8 (bt0 s0.d : Nat), .int .u8 (bt1 s0.d : Nat), .int .u8 (bt2 s0.d : Nat), .int .u8 (bt3 s0.d : Nat)] _ HR1.out Tryz.underlying38 rfl size42 ?_)
  | fail)
 have HT1 : Hid (Touch w (w1.alloc (.cells #[.pointer (some ⟨g, 0, none⟩), .int .u8 (bt0 s0.a : Nat), .int .u8 (bt1 s0.a : Nat), .int .u8 (bt2 s0.a : Nat), .int .u8 (bt3 s0.a : Nat), .int .u8 (bt0 s0.b : Nat), .int .u8 (bt1 s0.b : Nat), .int .u8 (bt2 s0.b : Nat), .int .u8 (bt3 s0.b : Nat), .int .u8 (bt0 s0.c : Nat), .int .u8 (bt1 s0.c : Nat), .int .u8 (bt2 s0.c : Nat), .int .u8 (bt3 s0.c : Nat), .int .u8 (bt0 s0.d : Nat), .int .u8 (bt1 s0.d : Nat), .int .u8 (bt2 s0.d : Nat), .int .u8 (bt3 s0.d : Nat), .int .u64 0] 103)) g 4 1) := (HT0.out.trans H1.out.2.1).alloc _ HG.out
 have HC1 : Hid ((w1.alloc (.cells #[.pointer (some ⟨g, 0, none⟩), .int .u8 (bt0 s0.a : Nat), .int .u8 (bt1 s0.a : Nat), .int .u8 (bt2 s0.a : Nat), .int .u8 (bt3 s0.a : Nat), .int .u8 (bt0 s0.b : Nat), .int .u8 (bt1 s0.b : Nat), .int .u8 (bt2 s0.b : Nat), .int .u8 (bt3 s0.b : Nat), .int .u8 (bt0 s0.c : Nat), .int .u8 (bt1 s0.c : Nat), .int .u8 (bt2 s0.c : Nat), .int .u8 (bt3 s0.c : Nat), .int .u8 (bt0 s0.d : Nat), .int .u8 (bt1 s0.d : Nat), .int .u8 (bt2 s0.d : Nat), .int .u8 (bt3 s0.d : Nat), .int .u64 0] 103)).cell? ⟨g, 4, none⟩ = some (.int .i32 1)) := by
  have hb : Below w1.heap.size w1 (w1.alloc (.cells #[.pointer (some ⟨g, 0, none⟩), .int .u8 (bt0 s0.a : Nat), .int .u8 (bt1 s0.a : Nat), .int .u8 (bt2 s0.a : Nat), .int .u8 (bt3 s0.a : Nat), .int .u8 (bt0 s0.b : Nat), .int .u8 (bt1 s0.b : Nat), .int .u8 (bt2 s0.b : Nat), .int .u8 (bt3 s0.b : Nat), .int .u8 (bt0 s0.c : Nat), .int .u8 (bt1 s0.c : Nat), .int .u8 (bt2 s0.c : Nat), .int .u8 (bt3 s0.c : Nat), .int .u8 (bt0 s0.d : Nat), .int .u8 (bt1 s0.d : Nat), .int .u8 (bt2 s0.d : Nat), .int .u8 (bt3 s0.d : Nat), .int .u64 0] 103)) := (Below.refl _ w1).alloc (Nat.le_refl _) _
  exact (hb.cell H1.out.1.here).trans H1.out.2.2
 have HS1 : Hid (StreamAt (w1.alloc (.cells #[.pointer (some ⟨g, 0, none⟩), .int .u8 (bt0 s0.a : Nat), .int .u8 (bt1 s0.a : Nat), .int .u8 (bt2 s0.a : Nat), .int .u8 (bt3 s0.a : Nat), .int .u8 (bt0 s0.b : Nat), .int .u8 (bt1 s0.b : Nat), .int .u8 (bt2 s0.b : Nat), .int .u8 (bt3 s0.b : Nat), .int .u8 (bt0 s0.c : Nat), .int .u8 (bt1 s0.c : Nat), .int .u8 (bt2 s0.c : Nat), .int .u8 (bt3 s0.c : Nat), .int .u8 (bt0 s0.d : Nat), .int .u8 (bt1 s0.d : Nat), .int .u8 (bt2 s0.d : Nat), .int .u8 (bt3 s0.d : Nat), .int .u64 0] 103)) w1.heap.size g s0 0) := stream_alloc w1 g s0 HS.out
 refine leaves_cons (f := 42) (args := #[.pointer (some ⟨g, 0, none⟩)]) (by simp) (by simp [go_sem]) ?_
 refine (unlocked HK.out HT1.out HC1.out).mono ?_
 rintro e5 u5 w5 ⟨rfl, rfl, hk5, ht5, hw5⟩
 have hg1 := H1.out.1.here
 refine ⟨_, results_tmp2 rfl _ _ _, w1.heap.size, rfl, ?_, ?_, hk5, ht5⟩
 ·have := (HT0.out.trans H1.out.2.1).size; exact this
 ·rw [hw5]
  have hb : Touch (w1.alloc (.cells #[.pointer (some ⟨g, 0, none⟩), .int .u8 (bt0 s0.a : Nat), .int .u8 (bt1 s0.a : Nat), .int .u8 (bt2 s0.a : Nat), .int .u8 (bt3 s0.a : Nat), .int .u8 (bt0 s0.b : Nat), .int .u8 (bt1 s0.b : Nat), .int .u8 (bt2 s0.b : Nat), .int .u8 (bt3 s0.b : Nat), .int .u8 (bt0 s0.c : Nat), .int .u8 (bt1 s0.c : Nat), .int .u8 (bt2 s0.c : Nat), .int .u8 (bt3 s0.c : Nat), .int .u8 (bt0 s0.d : Nat), .int .u8 (bt1 s0.d : Nat), .int .u8 (bt2 s0.d : Nat), .int .u8 (bt3 s0.d : Nat), .int .u64 0] 103)) ((w1.alloc (.cells #[.pointer (some ⟨g, 0, none⟩), .int .u8 (bt0 s0.a : Nat), .int .u8 (bt1 s0.a : Nat), .int .u8 (bt2 s0.a : Nat), .int .u8 (bt3 s0.a : Nat), .int .u8 (bt0 s0.b : Nat), .int .u8 (bt1 s0.b : Nat), .int .u8 (bt2 s0.b : Nat), .int .u8 (bt3 s0.b : Nat), .int .u8 (bt0 s0.c : Nat), .int .u8 (bt1 s0.c : Nat), .int .u8 (bt2 s0.c : Nat), .int .u8 (bt3 s0.c : Nat), .int .u8 (bt0 s0.d : Nat), .int .u8 (bt1 s0.d : Nat), .int .u8 (bt2 s0.d : Nat), .int .u8 (bt3 s0.d : Nat), .int .u64 0] 103)).setCells g 4 [.int .i32 0]) g 4 1 := (Touch.refl _ g 4 1).setCells 4 _ (by omega) (by simp)
  have hs := HS1.out
  have hlt : w1.heap.size < (w1.alloc (.cells #[.pointer (some ⟨g, 0, none⟩), .int .u8 (bt0 s0.a : Nat), .int .u8 (bt1 s0.a : Nat), .int .u8 (bt2 s0.a : Nat), .int .u8 (bt3 s0.a : Nat), .int .u8 (bt0 s0.b : Nat), .int .u8 (bt1 s0.b : Nat), .int .u8 (bt2 s0.b : Nat), .int .u8 (bt3 s0.b : Nat), .int .u8 (bt0 s0.c : Nat), .int .u8 (bt1 s0.c : Nat), .int .u8 (bt2 s0.c : Nat), .int .u8 (bt3 s0.c : Nat), .int .u8 (bt0 s0.d : Nat), .int .u8 (bt1 s0.d : Nat), .int .u8 (bt2 s0.d : Nat), .int .u8 (bt3 s0.d : Nat), .int .u64 0] 103)).heap.size := hs.here
  refine ⟨(hb.far (p := ⟨w1.heap.size, 0, none⟩) hlt (show w1.heap.size ≠ g by omega)).trans hs.key, fun j v hv => (hb.far (p := ⟨w1.heap.size, 1 + j, none⟩) hlt (show w1.heap.size ≠ g by omega)).trans (hs.start j v hv), (hb.far (p := ⟨w1.heap.size, 17, none⟩) hlt (show w1.heap.size ≠ g by omega)).trans hs.pos, fun j hj => ?_, Nat.lt_of_lt_of_le hlt hb.size, hs.ok, hs.most⟩
  rw [hb.far (p := ⟨w1.heap.size, 0 + j, none⟩) hlt (show w1.heap.size ≠ g by omega), hb.farFrozen (p := ⟨w1.heap.size, 0 + j, none⟩) hlt (show w1.heap.size ≠ g by omega)]
  exact hs.room j hj
end Go.Proofs.YtgmfiljjogdccabGreatDoor
namespace Go.Proofs.YtgmfiljjogdccabGreatDoor
open Go.RowKit Go.RwLone
set_option linter.unusedVariables false
theorem at_ok (t g n : Nat) (s0 : W4) (w : World) (h : StreamAt w t g s0 n) : Calls Tryz.prog 49 #[.pointer (some ⟨t, 0, none⟩)] w fun e w' => e = .returned (.int .u64 (n : Nat)) ∧ w' = w := by
 have c := h.pos
 clear h
 go_enter Tryz.func49, Tryz.ntmps49
 go_wp2
 go_ret
 exact ⟨rfl, rfl⟩
theorem StreamAt.touch {w w' : World} {t g n g' o m : Nat} {s0 : W4} (h : StreamAt w t g s0 n) (ht : Touch w w' g' o m) (hne : t ≠ g') : StreamAt w' t g s0 n :=
 ⟨(ht.far (p := ⟨t, 0, none⟩) h.here hne).trans h.key, fun j v hv => (ht.far (p := ⟨t, 1 + j, none⟩) h.here hne).trans (h.start j v hv), (ht.far (p := ⟨t, 17, none⟩) h.here hne).trans h.pos, fun j hj => by
  rw [ht.far (p := ⟨t, 0 + j, none⟩) h.here hne, ht.farFrozen (p := ⟨t, 0 + j, none⟩) h.here hne]; exact h.room j hj, Nat.lt_of_lt_of_le h.here ht.size, h.ok, h.most⟩
theorem StreamAt.move {w : World} {t g n : Nat} {s0 : W4} (h : StreamAt w t g s0 n) (m : Nat) (hm : m ≤ 1099511627776) : StreamAt (w.setCell ⟨t, 17, none⟩ (.int .u64 (m : Nat))) t g s0 m := by
 have ht : Touch w (w.setCell ⟨t, 17, none⟩ (.int .u64 (m : Nat))) t 17 1 := (Touch.refl w t 17 1).setCell 17 _ (by omega) (by omega)
 refine ⟨(ht.cell 0 (by omega)).trans h.key, fun j v hv => ?_, ?_, ht.there _ _ h.room, Nat.lt_of_lt_of_le h.here ht.size, h.ok, hm⟩
 ·have h16 : j < 16 := (List.getElem?_eq_some_iff.1 hv).1
  exact (ht.cell (1 + j) (by omega)).trans (h.start j v hv)
 ·have := (h.room 17 (by decide)).1
  exact World.cell?_setCell_same' _ _ _ (by simpa using this)
/-- Another cell of another block. -/
theorem KeyAt.far {w w' : World} {g nr t o m : Nat} {K : Nat → Nat} (h : KeyAt w g nr K) (ht : Touch w w' t o m) (hne : g ≠ t) : KeyAt w' g nr K := by
 have hg := h.ciph.here
 have e : ∀ j : Nat, w'.cell? ⟨g, j, none⟩ = w.cell? ⟨g, j, none⟩ := fun j => ht.far (p := ⟨g, j, none⟩) hg hne
 refine ⟨⟨(e _).trans h.ciph.rounds, fun i hi => (e _).trans (h.ciph.words i hi), h.ciph.small, ⟨fun b hb => (e _).trans (h.ciph.tab.s b hb), fun b hb => (e _).trans (h.ciph.tab.u b hb), fun b hb => (e _).trans (h.ciph.tab.m b hb), fun b hb => (e _).trans (h.ciph.tab.n b hb)⟩, Nat.lt_of_lt_of_le hg ht.size, h.ciph.some, h.ciph.most⟩, (e _).trans h.count, fun j hj => ?_⟩
 rw [e, ht.farFrozen (p := ⟨g, 0 + j, none⟩) hg hne]
 exact h.room j hj
/-- Two blocks touched, one behind the other. -/
structure Touch2 (w w' : World) (g t : Nat) : Prop where
 os : w'.os = w.os
 tape : w'.tape = w.tape
 output : w'.output = w.output
 size : w.heap.size ≤ w'.heap.size
 block : ∀ k, k < w.heap.size → k ≠ g → k ≠ t → w'.heap[k]? = w.heap[k]?
 lock : w'.cell? ⟨g, 0, none⟩ = w.cell? ⟨g, 0, none⟩
theorem Touch.left {w w' : World} {g : Nat} (h : Touch w w' g 4 1) (t : Nat) : Touch2 w w' g t := ⟨h.os, h.tape, h.output, h.size, fun k hk hg _ => h.block k hk hg, h.cell 0 (by omega)⟩
theorem Touch.right {w w' : World} {t o n : Nat} (h : Touch w w' t o n) (g : Nat) (hg : g < w.heap.size) (hne : g ≠ t) : Touch2 w w' g t := ⟨h.os, h.tape, h.output, h.size, fun k hk _ ht => h.block k hk ht, h.far (p := ⟨g, 0, none⟩) hg hne⟩
theorem Touch2.trans {a b c : World} {g t : Nat} (h : Touch2 a b g t) (k : Touch2 b c g t) : Touch2 a c g t :=
 ⟨k.os.trans h.os, k.tape.trans h.tape, k.output.trans h.output, Nat.le_trans h.size k.size, fun i hi hg ht => (k.block i (Nat.lt_of_lt_of_le hi h.size) hg ht).trans (h.block i hi hg ht), k.lock.trans h.lock⟩
theorem Below.two {w w' : World} (h : Below w.heap.size w w') (g t : Nat) (hg : g < w.heap.size) : Touch2 w w' g t := ⟨h.os, h.tape, h.output, h.size, fun k hk _ _ => h.block k hk, h.cell (p := ⟨g, 0, none⟩) hg⟩
theorem Touch2.toBelow {w w' : World} {g t B : Nat} (h : Touch2 w w' g t) (hg : B ≤ g) (ht : B ≤ t) (hB : B ≤ w.heap.size) : Below B w w' := ⟨h.os, h.tape, h.output, h.size, fun k hk => h.block k (by omega) (by omega) (by omega)⟩
/-- The key is let go, whatever else was written. -/
theorem unlock3 {w3 : World} {g nr : Nat} {K : Nat → Nat} (hc : Ciph w3 g 6 nr K) (hcnt : w3.cell? ⟨g, 4, none⟩ = some (.int .i32 1)) (hroom : w3.there g 0 1091) :
  CallsD Tryz.prog 42 #[.pointer (some ⟨g, 0, none⟩)] .returning w3 fun e u' w' => u' = .returning ∧ e = .returned (.tuple #[]) ∧ KeyAt w' g nr K ∧ Touch w3 w' g 4 1 := by
 obtain ⟨x0, c0⟩ := cell_of_there hroom 0 (by decide)
 obtain ⟨x2, c2⟩ := cell_of_there hroom 2 (by decide)
 have hz := (hroom 4 (by decide)).2
 refine (runlock_deferred rwRLib g 0 1 x0 x2 .returning w3 c0 c2 hcnt hz (by decide +kernel)).mono ?_
 rintro e u' w' ⟨rfl, rfl, hw⟩
 rw [show wrap32 (1 + -1) = 0 by decide +kernel] at hw
 have hw' : w' = w3.setCells g 4 [.int .i32 0] := hw
 have ht' : Touch w3 w' g 4 1 := by rw [hw']; exact (Touch.refl _ g 4 1).setCells 4 _ (by omega) (by simp)
 have hc' : w'.cell? ⟨g, 4, none⟩ = some (.int .i32 0) := by
  rw [hw]
  exact World.cell?_setCell_same' _ _ _ (by rw [show (0 + 4) = 4 from rfl, hcnt]; rfl)
 refine ⟨rfl, rfl, ⟨⟨(ht'.cell 6 (by omega)).trans hc.rounds, fun i hi => (ht'.cell (6 + 1 + i) (by omega)).trans (hc.words i hi), hc.small, ⟨fun b hb => (ht'.cell _ (by omega)).trans (hc.tab.s b hb), fun b hb => (ht'.cell _ (by omega)).trans (hc.tab.u b hb), fun b hb => (ht'.cell _ (by omega)).trans (hc.tab.m b hb), fun b hb => (ht'.cell _ (by omega)).trans (hc.tab.n b hb)⟩, Nat.lt_of_lt_of_le hc.here ht'.size, hc.some, hc.most⟩, hc', ht'.there _ _ hroom⟩, ht'⟩
theorem Ciph.far {w w' : World} {g q nr t o m : Nat} {K : Nat → Nat} (h : Ciph w g q nr K) (ht : Touch w w' t o m) (hne : g ≠ t) : Ciph w' g q nr K := by
 have e : ∀ j : Nat, w'.cell? ⟨g, j, none⟩ = w.cell? ⟨g, j, none⟩ := fun j => ht.far (p := ⟨g, j, none⟩) h.here hne
 exact ⟨(e _).trans h.rounds, fun i hi => (e _).trans (h.words i hi), h.small, ⟨fun b hb => (e _).trans (h.tab.s b hb), fun b hb => (e _).trans (h.tab.u b hb), fun b hb => (e _).trans (h.tab.m b hb), fun b hb => (e _).trans (h.tab.n b hb)⟩, Nat.lt_of_lt_of_le h.here ht.size, h.some, h.most⟩
theorem there_far {w w' : World} {g a n t o m : Nat} (h : w.there g a n) (hg : g < w.heap.size) (ht : Touch w w' t o m) (hne : g ≠ t) : w'.there g a n := fun j hj => by
 rw [ht.far (p := ⟨g, a + j, none⟩) hg hne, ht.farFrozen (p := ⟨g, a + j, none⟩) hg hne]; exact h j hj
set_option maxHeartbeats 1600000 in
set_option maxRecDepth 100000 in
theorem skip_ok (t g n m nr : Nat) (K : Nat → Nat) (s0 : W4) (w : World) (hk : KeyAt w g nr K) (hs : StreamAt w t g s0 n) (hne : t ≠ g) (hm : n + m ≤ 1099511627776) :
  Calls Tryz.prog 17 #[.pointer (some ⟨t, 0, none⟩), .int .u64 (m : Nat)] w fun e w' => e = .returned (.int .i64 0) ∧ KeyAt w' g nr K ∧ StreamAt w' t g s0 (n + m) ∧ Touch2 w w' g t := by
 have HK : Hid (KeyAt w g nr K) := hk
 have HS : Hid (StreamAt w t g s0 n) := hs
 have HNE : Hid (t ≠ g) := hne
 have HH : Hid (Calls Tryz.prog 41 #[.pointer (some ⟨g, 0, none⟩)] w fun e w' => e = .returned (.int .i64 0) ∧ w' = w.setCell ⟨g, 4, none⟩ (.int .i32 1)) := hold_ok g nr K w hk
 have ck := hs.key
 have hn40 := hs.most
 clear hk hs hne
 go_enter_defers Tryz.func17, Tryz.ntmps17
 go_wp2_with (first | (go_at_call 41; refine HH.out.mono ?_))
 rintro e1 w1 ⟨rfl, hw1⟩
 have H1 : Hid (Ciph w1 g 6 nr K ∧ Touch w w1 g 4 1 ∧ w1.cell? ⟨g, 4, none⟩ = some (.int .i32 1)) := held HK.out hw1
 have HS1 : Hid (StreamAt w1 t g s0 n) := HS.out.touch H1.out.2.1 HNE.out
 clear hw1 HH ck
 have ck : w1.cell? ⟨t, 0, none⟩ = some (.pointer (some ⟨g, 0, none⟩)) := HS1.out.key
 have cp : w1.cell? ⟨t, 17, none⟩ = some (.int .u64 (n : Nat)) := HS1.out.pos
 have cz : w1.frozen? ⟨t, 17, none⟩ = false := by have := (HS1.out.room 17 (by decide)).2; simpa using this
 have KL : Hid (Calls Tryz.prog 43 #[.pointer (some ⟨t, 0, none⟩)] w1 fun e w' => e = .returned (.int .u64 (1099511627776 - n : Nat)) ∧ w' = w1) := left_ok t g n s0 w1 HS1.out
 obtain ⟨lf, HLF⟩ : ∃ x, Hid (x = 1099511627776 - n) := ⟨_, rfl⟩
 rw [← HLF.out] at KL
 have hle : ((m : Nat) : Int) ≤ (lf : Nat) := by have := HLF.out; omega
 go_wp2_with (first | (go_at_call 43; refine KL.out.mono ?_; rintro e2 w2 ⟨rfl, hw2⟩; obtain rfl := hw2.symm))
 rw [show ((n : Int) + (m : Int)) = ((n + m : Nat) : Int) by omega]
 have HT3 : Hid (Touch w1 (w1.setCell ⟨t, 17, none⟩ (.int .u64 (n + m : Nat))) t 17 1) := (Touch.refl w1 t 17 1).setCell 17 _ (by omega) (by omega)
 have HS3 : Hid (StreamAt (w1.setCell ⟨t, 17, none⟩ (.int .u64 (n + m : Nat))) t g s0 (n + m)) := HS1.out.move (n + m) hm
 generalize w1.setCell ⟨t, 17, none⟩ (.int .u64 (n + m : Nat)) = w3 at HT3 HS3 ⊢
 have hgt : g ≠ t := fun e => HNE.out e.symm
 have hg1 := H1.out.1.here
 refine leaves_cons (f := 42) (args := #[.pointer (some ⟨g, 0, none⟩)]) (by simp) (by simp [go_sem]) ?_
 refine (unlock3 (H1.out.1.far HT3.out hgt) ((HT3.out.far (p := ⟨g, 4, none⟩) hg1 hgt).trans H1.out.2.2) (there_far (H1.out.2.1.there _ _ HK.out.room) hg1 HT3.out hgt)).mono ?_
 rintro e5 u5 w5 ⟨rfl, rfl, hk5, ht5⟩
 exact ⟨_, results_tmp rfl _ _ _, rfl, hk5, HS3.out.touch ht5 HNE.out, ((H1.out.2.1.left t).trans (HT3.out.right g hg1 hgt)).trans (ht5.left t)⟩
end Go.Proofs.YtgmfiljjogdccabGreatDoor
namespace Go.Proofs.YtgmfiljjogdccabGreatDoor
open Go.RowKit
set_option linter.unusedVariables false
theorem xor64 (a b : Nat) (ha : a < 18446744073709551616) (hb : b < 18446744073709551616) : bits .xor .u64 (a : Int) b = (Nat.xor a b : Nat) := bits_xor .u64 64 (by decide) wraps_u64 a b ha hb
/-- What wrapping makes of the bytes f: A and the halves. -/
def wrapF (nr : Nat) (K : Nat → Nat) (n : Nat) (f : Nat → Nat) (k : Nat) : Nat × (Nat → Nat) := fore (wrStep nr K n) (12008468691120727718, halfs f) k
theorem wrapF_succ (nr : Nat) (K : Nat → Nat) (n : Nat) (f : Nat → Nat) (k : Nat) : wrapF nr K n f (k + 1) = wrStep nr K n k (wrapF nr K n f k) := fore_succ _ _ _
set_option maxHeartbeats 1600000 in
set_option maxRecDepth 100000 in
theorem wrap_ok (g o nr n b po cap : Nat) (K : Nat → Nat) (f : Nat → Nat) (w : World) (hC : Ciph w g o nr K) (hn : 1 ≤ n) (hm : n ≤ 1048576) (hcap : 8 * n ≤ cap) (hb : b < w.heap.size) (hp : ∀ i, i < 8 * n → w.cell? ⟨b, po + i, none⟩ = some (.int .u8 (f i : Nat))) (hf : ∀ i, f i < 256) :
  Calls Tryz.prog 56 #[.pointer (some ⟨g, o, none⟩), .slice (some ⟨b, po, none⟩) (8 * n) cap] w fun e w' => e = .returned (.slice (some ⟨w.heap.size, 0, none⟩) (8 + 8 * n) (8 + 8 * n)) ∧ Halves w' w.heap.size 8 n (wrapF nr K n f (6 * n)).2 ∧ (∀ k, k < 8 → w'.cell? ⟨w.heap.size, k, none⟩ = some (.int .u8 (byteK (wrapF nr K n f (6 * n)).1 k : Nat))) ∧ Below w.heap.size w w' := by
 obtain ⟨i0, hi, hz0, hz1, hz2⟩ := info_parts Tryz.info5
 have HP : Hid (∀ i, i < 8 * n → w.cell? ⟨b, po + i, none⟩ = some (.int .u8 (f i : Nat))) := hp
 have HF : Hid (∀ i, f i < 256) := hf
 have HC : Hid (Ciph w g o nr K) := hC
 have HR : Hid (Rok (12008468691120727718, halfs f)) := ⟨show 12008468691120727718 < 18446744073709551616 by decide, halfs_lt hf⟩
 have HBB : Hid (b < w.heap.size) := hb
 obtain ⟨m, HM⟩ : ∃ m, Hid (m = 8 * n) := ⟨_, rfl⟩
 have hmd : ((m : Nat) : Int) / 8 = (n : Nat) := by have := HM.out; omega
 rw [← HM.out] at hcap ⊢
 have hml : m ≤ 8388608 := by have := HM.out; omega
 obtain ⟨q, HQ⟩ : ∃ q, Hid (q = 8 + m) := ⟨_, rfl⟩
 have hqi : (8 : Int) + (m : Nat) = (q : Nat) := by have := HQ.out; omega
 have hql : q ≤ 8388616 := by have := HQ.out; omega
 have hq8 : 8 ≤ q := by omega
 have hqm : q - 8 = m := by have := HQ.out; omega
 rw [← HQ.out]
 obtain ⟨CS, HCS⟩ : ∃ cs, Hid (cs = (List.range (8 * n)).map fun i => Value.int .u8 (f i : Nat)) := ⟨_, rfl⟩
 have HCL : Hid (CS.length = m) := by show _ = _; rw [HCS.out, HM.out]; simp
 clear hp hf hC hb
 go_enter Tryz.func56, Tryz.ntmps56
 go_wp2_with (first
  | (at_make; go_must (refine wpList_make_full _ rfl _ _ 22 rfl w.heap.size 5 i0 (.int .u8 0) 1 Tryz.underlying22 hi hz0 hz1 .i64 .i64 (q : Nat) (q : Nat) q rfl rfl rfl rfl ?_ ?_ ?_ ?_)))
 ·rw [hz2]; omega
 ·unfold maxLen; omega
 ·exact Nat.le_refl _
 intro w1 hown hgr
 have HB1 : Hid (Below w.heap.size w w1) := (Below.refl _ _).grown hgr (Nat.le_refl _) (by intro k hk; cases hk)
 obtain ⟨cur, HG, HZ⟩ : ∃ cur : Array Value, Hid (w1.heap[w.heap.size]? = some (.cells cur 5 (0, 0))) ∧ Hid (cur.size = q) := by
  obtain ⟨_, ⟨h, _⟩ | ⟨g', c', cur, h, _, h2, _, _, h5, _⟩⟩ := hown
  ·cases h
  ·cases h; exact ⟨cur, h2, by show _ = _; omega⟩
 clear hown hgr
 obtain ⟨w2, HW2⟩ : ∃ w2, Hid (w2 = w1.setRow w.heap.size (cur.toList.take 8 ++ (CS ++ cur.toList.drop (8 + CS.length))).toArray) := ⟨_, rfl⟩
 have hcp : Sem.run Tryz.prog (Builtin.copy_ #[22, 22] 3 #[.slice (some ⟨w.heap.size, 8, none⟩) m m, .slice (some ⟨b, po, none⟩) m cap]) w1 = .ok (.int .i64 (m : Nat)) w2 := by
  have h := run_copy_row (P := Tryz.prog) w1 22 22 3 5 w.heap.size 8 m m ⟨b, po, none⟩ m cap cur 5 CS Tryz.underlying22 (by rw [hi]; simp [hz1]) HG.out (by rw [HCL.out]; exact (Nat.min_self m).symm) (by
   intro j v hv
   rw [HCS.out] at hv
   simp at hv
   obtain ⟨j', h1, rfl⟩ := hv
   obtain ⟨h2, h3⟩ := List.getElem?_eq_some_iff.1 h1
   simp at h2 h3
   subst h3
   rw [Addr.add_mid, HB1.out.cell HBB.out]
   exact HP.out j h2) (by rw [HCL.out, HZ.out]; have := HQ.out; omega) (by
   intro v hv
   rw [HCS.out] at hv
   simp at hv
   obtain ⟨j, _, rfl⟩ := hv
   rfl)
  rw [HW2.out]
  rw [HCL.out] at h ⊢
  rw [List.append_assoc] at h
  exact h
 have HH : Hid (Halves w2 w.heap.size 8 n (halfs f)) := by show Halves _ _ _ _ _; rw [HW2.out]; exact halves_copied cur f HF.out CS HCS.out (by rw [HZ.out, HQ.out, HM.out]) HG.out
 have HB2 : Hid (Below w.heap.size w w2) := by show Below _ _ _; rw [HW2.out]; exact below_setRow HB1.out (Nat.le_refl _) _
 clear HG HZ HB1 HP HBB
 go_wp2
 go_loopw [7, 25] (fun a i wr => ∃ k A : Nat, k ≤ 6 * n ∧ i = .int .i64 k ∧ a = .int .u64 (A : Nat) ∧ Hid (A = (wrapF nr K n f k).1) ∧ Hid (Halves wr w.heap.size 8 n (wrapF nr K n f k).2) ∧ Hid (Below w.heap.size w wr)) (fun _ i _ => 6 * n - (intOf i).toNat)
 case atStart => exact ⟨0, 12008468691120727718, by omega, rfl, rfl, rfl, HH, HB2⟩
 case round =>
  obtain ⟨k, A, hk, rfl, rfl, HA, HH3, HB3⟩ := hrel
  clear HH HB2 hcp
  have HW : Hid (Rok (wrapF nr K n f k)) := fore_all (wrStep nr K n) Rok 4294967296 (fun k x hk hx => wrStep_ok HC.out.small nr n k hk hx) _ HR.out k (by omega)
  have HAl : Hid (A < 18446744073709551616) := by have := HW.out.1; rw [← HA.out] at this; exact this
  by_cases hlt : k < 6 * n
  ·obtain ⟨i, HI⟩ : ∃ i, Hid (i = k % n) := ⟨_, rfl⟩
   have hil : i < n := by rw [HI.out]; exact Nat.mod_lt _ (by omega)
   have hmod : ((k : Nat) : Int) % ((n : Nat) : Int) = (i : Nat) := by rw [HI.out]; simp
   obtain ⟨j, HJ⟩ : ∃ j, Hid (j = 8 + 8 * i) := ⟨_, rfl⟩
   have hji : (8 : Int) + 8 * (i : Nat) = (j : Nat) := by have := HJ.out; omega
   have hjq : j + 8 ≤ q := by have h1 := HJ.out; have h2 := HQ.out; have h3 := HM.out; omega
   obtain ⟨r, HRr⟩ : ∃ r, Hid (r = (wrapF nr K n f k).2 i) := ⟨_, rfl⟩
   have HRl : Hid (r < 18446744073709551616) := by show _ < _; rw [HRr.out]; exact HW.out.2 i
   have KN : Hid (Calls Tryz.prog 88 #[.slice (some ⟨w.heap.size, j, none⟩) (q - j) (q - j)] wr fun e w' => e = .returned (.int .u64 (r : Nat)) ∧ w' = wr) := by
    have h := number_ok w.heap.size j (q - j) (q - j) (byteK r) wr (by omega) (Nat.le_refl _) (fun k hk => by rw [HJ.out, HRr.out]; exact HH3.out.cell i k hil hk) (byteK_lt r)
    rw [numK_byteK r HRl.out] at h
    exact h
   obtain ⟨S, HS⟩ : ∃ S, Hid (S = joinW A r) := ⟨_, rfl⟩
   obtain ⟨T, HT⟩ : ∃ T, Hid (T = encW nr K S) := ⟨_, rfl⟩
   have HSo : Hid S.ok := by show S.ok; rw [HS.out]; exact joinW_ok HAl.out HRl.out
   have HTo : Hid T.ok := by show T.ok; rw [HT.out]; exact encW_ok HC.out.small nr S
   have KJ : Hid (∀ u, Calls Tryz.prog 78 #[.int .u64 (A : Nat), .int .u64 (r : Nat)] u fun e u' => e = .returned S.blk ∧ Below u.heap.size u u') := fun u => by rw [HS.out]; exact join_ok A r HAl.out HRl.out u
   obtain ⟨hv, HHV⟩ : ∃ x, Hid (x = T.a * 4294967296 + T.b) := ⟨_, rfl⟩
   obtain ⟨lv, HLV⟩ : ∃ x, Hid (x = T.c * 4294967296 + T.d) := ⟨_, rfl⟩
   have KH : Hid (∀ u, Calls Tryz.prog 76 #[T.blk] u fun e u' => e = .returned (.tuple #[.int .u64 (hv : Nat), .int .u64 (lv : Nat)]) ∧ Below u.heap.size u u') := fun u => by rw [HHV.out, HLV.out]; exact halves_ok T HTo.out u
   have HHl : Hid (hv < 18446744073709551616) := by show _ < _; rw [HHV.out]; exact W4.hi_lt HTo.out
   have HLl : Hid (lv < 18446744073709551616) := by show _ < _; rw [HLV.out]; exact W4.lo_lt HTo.out
   obtain ⟨A', HA'⟩ : ∃ x, Hid (x = Nat.xor hv (k + 1)) := ⟨_, rfl⟩
   have hx : bits .xor .u64 ((hv : Nat) : Int) (((k : Nat) : Int) + 1) = (A' : Nat) := by rw [HA'.out]; exact xor64 hv (k + 1) HHl.out (by omega)
   have KE : Hid (∀ u, Below wr.heap.size wr u → Calls Tryz.prog 44 #[.pointer (some ⟨g, o, none⟩), S.blk] u fun e u' => e = .returned T.blk ∧ Below u.heap.size u u') := fun u hb => by
    rw [HT.out]
    exact enc_ok g o nr K S u ((HC.out.below HB3.out HC.out.here).below hb (Nat.lt_of_lt_of_le HC.out.here HB3.out.size)) HSo.out
   generalize hSb : S.blk = sb at KJ KE
   generalize hTb : T.blk = tb at KE KH
   have HSb : Hid (S.blk = sb) := hSb
   have HTb : Hid (T.blk = tb) := hTb
   clear hSb hTb
   go_wp2_with (first | (go_at_call 88; refine KN.out.mono ?_))
   rintro e1 w1' ⟨rfl, rfl⟩
   go_wp2_with (first | (go_at_call 78; refine (KJ.out _).mono ?_))
   rintro e2 u2 ⟨rfl, hb2⟩
   have HU2 : Hid (Below w1'.heap.size w1' u2) := hb2
   clear hb2
   go_wp2_with (first | (go_at_call 44; refine (KE.out _ HU2.out).mono ?_))
   rintro e3 u3 ⟨rfl, hb3⟩
   have HU3 : Hid (Below w1'.heap.size w1' u3) := HU2.out.trans (hb3.mono HU2.out.size)
   clear hb3 HU2
   go_wp2_with (first | (go_at_call 76; refine (KH.out _).mono ?_))
   rintro e4 u4 ⟨rfl, hb4⟩
   have HU4 : Hid (Below w1'.heap.size w1' u4) := HU3.out.trans (hb4.mono HU3.out.size)
   clear hb4 HU3
   have HH4 : Hid (Halves u4 w.heap.size 8 n (wrapF nr K n f k).2) := HH3.out.below HU4.out HH3.out.here
   have HB4 : Hid (Below w.heap.size w u4) := HB3.out.trans (HU4.out.mono HB3.out.size)
   have KP : Hid (Calls Tryz.prog 89 #[.slice (some ⟨w.heap.size, j, none⟩) (q - j) (q - j), .int .u64 (lv : Nat)] u4 fun e w' => e = .returned (.tuple #[]) ∧ Touch u4 w' w.heap.size j 8 ∧ ∀ k, k < 8 → w'.cell? ⟨w.heap.size, j + k, none⟩ = some (.int .u8 (byteK lv k : Nat))) :=
    put_ok w.heap.size j (q - j) (q - j) lv u4 (by omega) HLl.out (there_mid (a := 0) HH4.out.room j 8 (by have h1 := HJ.out; omega))
   go_wp2_with (first | (go_at_call 89; refine KP.out.mono ?_))
   rintro e5 u5 ⟨rfl, ht5, hc5⟩
   have HH5 : Hid (Halves u5 w.heap.size 8 n (wrapF nr K n f (k + 1)).2) := by
    have h := HH4.out.put i lv hil (by rw [← HJ.out]; exact ht5) (by rw [← HJ.out]; exact hc5)
    show Halves _ _ _ _ _
    rw [wrapF_succ]
    show Halves u5 w.heap.size 8 n (setR (wrapF nr K n f k).2 (k % n) (encW nr K (joinW (wrapF nr K n f k).1 ((wrapF nr K n f k).2 (k % n)))).lo)
    rw [← HI.out, ← HRr.out, ← HA.out, ← HS.out, ← HT.out]
    rw [HLV.out] at h
    exact h
   have HB5 : Hid (Below w.heap.size w u5) := HB4.out.trans (ht5.toBelow (Nat.le_refl _) HB4.out.size)
   have HA5 : Hid (A' = (wrapF nr K n f (k + 1)).1) := by
    show _ = _
    rw [wrapF_succ]
    show _ = (encW nr K (joinW (wrapF nr K n f k).1 ((wrapF nr K n f k).2 (k % n)))).hi ^^^ (k + 1)
    rw [← HI.out, ← HRr.out, ← HA.out, ← HS.out, ← HT.out, HA'.out, HHV.out]
    rfl
   clear ht5 hc5
   go_wp2
   go_roundw
   case rel => exact ⟨k + 1, A', by omega, by go_num, rfl, HA5, HH5, HB5⟩
   case measure => simp [intOf]; omega
  ·obtain rfl : k = 6 * n := by omega
   have KP : Hid (Calls Tryz.prog 89 #[.slice (some ⟨w.heap.size, 0, none⟩) q q, .int .u64 (A : Nat)] wr fun e w' => e = .returned (.tuple #[]) ∧ Touch wr w' w.heap.size 0 8 ∧ ∀ k, k < 8 → w'.cell? ⟨w.heap.size, 0 + k, none⟩ = some (.int .u8 (byteK A k : Nat))) :=
    put_ok w.heap.size 0 q q A wr hq8 HAl.out (there_mid (a := 0) HH3.out.room 0 8 (by omega))
   go_wp2_with (first | (go_at_call 89; refine KP.out.mono ?_))
   rintro e5 u5 ⟨rfl, ht5, hc5⟩
   have HE : Hid (Halves u5 w.heap.size 8 n (wrapF nr K n f (6 * n)).2 ∧ (∀ k, k < 8 → u5.cell? ⟨w.heap.size, k, none⟩ = some (.int .u8 (byteK (wrapF nr K n f (6 * n)).1 k : Nat))) ∧ Below w.heap.size w u5) := by
    refine ⟨⟨Nat.lt_of_lt_of_le HH3.out.here ht5.size, ht5.there _ _ HH3.out.room, fun i k hi hk => ?_⟩, fun k hk => ?_, HB3.out.trans (ht5.toBelow (Nat.le_refl _) HB3.out.size)⟩
    ·rw [ht5.cell _ (by omega)]; exact HH3.out.cell i k hi hk
    ·have h := hc5 k hk
     rw [Nat.zero_add, HA.out] at h
     exact h
   clear ht5 hc5
   go_wp2
   go_ret
   exact ⟨rfl, HE.out⟩
end Go.Proofs.YtgmfiljjogdccabGreatDoor
namespace Go.Proofs.YtgmfiljjogdccabGreatDoor
open Go.RowKit Go.RwLone Go.Conc.Locks
set_option linter.unusedVariables false
theorem there_sameG {u u' : World} {B o n : Nat} (h : u.there B o n) (e : u'.heap[B]? = u.heap[B]?) : u'.there B o n := fun j hj => by
 rw [World.cell?_of_block (a := ⟨B, o + j, none⟩) e, World.frozen?_of_block (a := ⟨B, o + j, none⟩) e]; exact h j hj
theorem setCells_frG (w : World) (b o : Nat) (L : List Value) : Fr w (w.setCells b o L) [b] :=
 ⟨setCells_os b L o w, setCells_tape b L o w, setCells_output b L o w, by rw [sizeB_setCells]; exact Nat.le_refl _, fun k hk hne => World.heap_setCells_other w b o L hk (fun e => hne (by simp [e]))⟩
/-- A key that was put away. -/
structure GoneAt (w : World) (g : Nat) : Prop where
 room : w.there g 0 1091
 lt : g < w.heap.size
 count : w.cell? ⟨g, 4, none⟩ = some (.int .i32 0)
 rounds : w.cell? ⟨g, 6, none⟩ = some (.int .i64 0)
theorem GoneAt.same {w v : World} {g : Nat} (h : GoneAt w g) (e : v.heap[g]? = w.heap[g]?) (hs : w.heap.size ≤ v.heap.size) : GoneAt v g :=
 ⟨there_sameG h.room e, Nat.lt_of_lt_of_le h.lt hs, (World.cell?_of_block (a := ⟨g, 4, none⟩) e).trans h.count, (World.cell?_of_block (a := ⟨g, 6, none⟩) e).trans h.rounds⟩
theorem GoneAt.touch {w v : World} {g : Nat} (h : GoneAt w g) (ht : Touch w v g 4 1) (hc : v.cell? ⟨g, 4, none⟩ = some (.int .i32 0)) : GoneAt v g :=
 ⟨ht.there _ _ h.room, Nat.lt_of_lt_of_le h.lt ht.size, hc, (ht.cell 6 (by omega)).trans h.rounds⟩
def gq : Option Nat → Value
 | none => .pointer none
 | some g => .pointer (some ⟨g, 0, none⟩)
/-- No key, or one that was put away; and the error's number. -/
structure Off (w : World) (k : Option Nat) (E : Int) : Prop where
 nil : k = none → E = 1
 gone : ∀ g, k = some g → GoneAt w g ∧ E = 21
structure OffP (w w' : World) (k : Option Nat) (E : Int) : Prop where
 off : Off w' k E
 nil : k = none → Below w.heap.size w w'
 tch : ∀ g, k = some g → Touch w w' g 4 1
theorem Off.e {w : World} {k : Option Nat} {E : Int} (h : Off w k E) : E = 1 ∨ E = 21 := by
 cases k with
 | none => exact .inl (h.nil rfl)
 | some g => exact .inr (h.gone g rfl).2
theorem Off.below {w v : World} {k : Option Nat} {E : Int} (h : Off w k E) (hb : Below w.heap.size w v) : Off v k E :=
 ⟨h.nil, fun g e => ⟨(h.gone g e).1.same (hb.block g (h.gone g e).1.lt) hb.size, (h.gone g e).2⟩⟩
theorem OffP.refl {w : World} {k : Option Nat} {E : Int} (h : Off w k E) : OffP w w k E := ⟨h, fun _ => Below.refl _ _, fun g _ => Touch.refl _ _ _ _⟩
theorem OffP.size {w v : World} {k : Option Nat} {E : Int} (h : OffP w v k E) : w.heap.size ≤ v.heap.size := by
 cases k with
 | none => exact (h.nil rfl).size
 | some g => exact (h.tch g rfl).size
theorem OffP.fr {w v : World} {k : Option Nat} {E : Int} (h : OffP w v k E) : Fr w v k.toList := by
 cases k with
 | none => exact below_fr (h.nil rfl) _
 | some g => exact touch_fr (h.tch g rfl)
theorem OffP.after {w u v : World} {k : Option Nat} {E : Int} (h0 : Off w k E) (hb : Below w.heap.size w u) (h : OffP u v k E) : OffP w v k E :=
 ⟨h.off, fun e => hb.trans ((h.nil e).mono hb.size), fun g e => ((Touch.refl w g 4 1).below hb (h0.gone g e).1.lt).trans (h.tch g e)⟩
theorem OffP.then {w u v : World} {k : Option Nat} {E : Int} (h : OffP w u k E) (hb : Below u.heap.size u v) : OffP w v k E :=
 ⟨h.off.below hb, fun e => (h.nil e).trans (hb.mono (h.nil e).size), fun g e => (h.tch g e).trans ((Touch.refl u g 4 1).below hb (h.off.gone g e).1.lt)⟩
theorem OffP.late {w u v : World} {k : Option Nat} {E : Int} (h : OffP w u k E) {l : List Nat} (hf : Fr u v l) (hl : ∀ b, b ∈ l → w.heap.size ≤ b) (hk : ∀ g, k = some g → g < w.heap.size) : OffP w v k E := by
 cases k with
 | none => exact ⟨⟨h.off.nil, fun g e => (by cases e)⟩, fun _ => (h.nil rfl).trans (hf.toBelow hl h.size), fun g e => (by cases e)⟩
 | some g =>
  have hg := hk g rfl
  have e : v.heap[g]? = u.heap[g]? := hf.block g (Nat.lt_of_lt_of_le hg h.size) (fun e => by have := hl g e; omega)
  have ht := h.tch g rfl
  refine ⟨⟨fun e => (by cases e), fun g' e' => by obtain rfl := Option.some.inj e'; exact ⟨(h.off.gone g rfl).1.same e hf.size, (h.off.gone g rfl).2⟩⟩, fun e => (by cases e), fun g' e' => ?_⟩
  obtain rfl := Option.some.inj e'
  refine ⟨hf.os.trans ht.os, hf.tape.trans ht.tape, hf.output.trans ht.output, Nat.le_trans ht.size hf.size, fun q hq hne => (hf.block q (Nat.lt_of_lt_of_le hq ht.size) (fun e => by have := hl q e; omega)).trans (ht.block q hq hne), fun j hj => (World.cell?_of_block (a := ⟨g, j, none⟩) e).trans (ht.cell j hj), fun o' n' h' => there_sameG (ht.there o' n' h') e⟩
set_option maxHeartbeats 1600000 in
set_option maxRecDepth 100000 in
theorem hold_gone (g : Nat) (w : World) (h : GoneAt w g) : Calls Tryz.prog 41 #[.pointer (some ⟨g, 0, none⟩)] w fun e w' => e = .returned (.int .i64 21) ∧ GoneAt w' g ∧ Touch w w' g 4 1 := by
 have HG : Hid (GoneAt w g) := h
 obtain ⟨x0, c0⟩ := cell_of_there h.room 0 (by decide)
 obtain ⟨x3, c3⟩ := cell_of_there h.room 3 (by decide)
 have hz := (h.room 4 (by decide)).2
 have hc := h.count
 have KL : Hid (Calls Tryz.prog 65 #[.pointer (some ⟨g, 0, none⟩)] w fun e w' => e = .returned (.tuple #[]) ∧ w' = w.setCell ⟨g, 4, none⟩ (.int .i32 1))  := by
  have h := rlock_open rwRLib g 0 0 x0 x3 w c0 c3 hc hz (by decide +kernel)
  rw [show wrap32 (0 + 1) = 1 by decide +kernel] at h
  exact h
 have HT : Hid (Touch w (w.setCell ⟨g, 4, none⟩ (.int .i32 1)) g 4 1) := (Touch.refl _ g 4 1).setCell 4 _ (by omega) (by omega)
 have cr : (w.setCell ⟨g, 4, none⟩ (.int .i32 1)).cell? ⟨g, 6, none⟩ = some (.int .i64 0) := (HT.out.cell 6 (by omega)).trans h.rounds
 have HC : Hid ((w.setCell ⟨g, 4, none⟩ (.int .i32 1)).cell? ⟨g, 4, none⟩ = some (.int .i32 1)) := World.cell?_setCell_same' _ _ _ (by simpa using (h.room 4 (by decide)).1)
 generalize w.setCell ⟨g, 4, none⟩ (.int .i32 1) = v at KL HT cr HC
 clear c0 c3 hz hc
 have hroom := HT.out.there _ _ h.room
 obtain ⟨x0, c0⟩ := cell_of_there hroom 0 (by decide)
 obtain ⟨x2, c2⟩ := cell_of_there hroom 2 (by decide)
 have hz := (hroom 4 (by decide)).2
 have KU : Hid (Calls Tryz.prog 42 #[.pointer (some ⟨g, 0, none⟩)] v fun e w' => e = .returned (.tuple #[]) ∧ GoneAt w' g ∧ Touch w w' g 4 1) := by
  refine (runlock_held rwRLib g 0 1 x0 x2 v c0 c2 HC.out hz (by decide +kernel)).mono ?_
  rintro e w' ⟨rfl, hw⟩
  rw [show wrap32 (1 + -1) = 0 by decide +kernel] at hw
  have hw' : w' = v.setCells g 4 [.int .i32 0] := hw
  have ht' : Touch w w' g 4 1 := by rw [hw']; exact HT.out.setCells 4 _ (by omega) (by simp)
  have hc' : w'.cell? ⟨g, 4, none⟩ = some (.int .i32 0) := by
   rw [hw]
   exact World.cell?_setCell_same' _ _ _ (by rw [show (0 + 4) = 4 from rfl, HC.out]; rfl)
  exact ⟨rfl, HG.out.touch ht' hc', ht'⟩
 clear c0 c2 hz hroom h
 go_enter Tryz.func41, Tryz.ntmps41
 go_wp2_with (first | (go_at_call 65; refine KL.out.mono ?_))
 rintro e1 w1 ⟨rfl, hw1⟩
 obtain rfl := hw1.symm
 go_wp2_with (first | (go_at_call 42; refine KU.out.mono ?_))
 rintro e2 w2 ⟨rfl, h2⟩
 have H2 : Hid (GoneAt w2 g ∧ Touch w w2 g 4 1) := h2
 clear h2
 go_wp2
 go_ret
 exact ⟨rfl, H2.out⟩
theorem hold_off (k : Option Nat) (E : Int) (w : World) (h : Off w k E) : Calls Tryz.prog 41 #[gq k] w fun e w' => e = .returned (.int .i64 E) ∧ OffP w w' k E := by
 cases k with
 | none =>
  refine (hold_nil w).mono ?_
  rintro e w' ⟨rfl, rfl⟩
  exact ⟨by rw [h.nil rfl], OffP.refl h⟩
 | some g =>
  obtain ⟨h1, rfl⟩ := h.gone g rfl
  refine (hold_gone g w h1).mono ?_
  rintro e w' ⟨rfl, h2, h3⟩
  exact ⟨rfl, ⟨fun e => (by cases e), fun g' e => by obtain rfl := Option.some.inj e; exact ⟨h2, rfl⟩⟩, fun e => (by cases e), fun g' e => by obtain rfl := Option.some.inj e; exact h3⟩
set_option maxHeartbeats 1600000 in
set_option maxRecDepth 100000 in
theorem size_off (k : Option Nat) (E : Int) (w : World) (h : Off w k E) : Calls Tryz.prog 30 #[gq k] w fun e w' => e = .returned (.int .i64 0) ∧ OffP w w' k E := by
 have HH : Hid (Calls Tryz.prog 41 #[gq k] w fun e w' => e = .returned (.int .i64 E) ∧ OffP w w' k E) := hold_off k E w h
 have hE1 : (E != 0) = true := by rcases h.e with rfl | rfl <;> rfl
 clear h
 generalize gq k = kp at HH ⊢
 go_enter Tryz.func30, Tryz.ntmps30
 go_wp2_with (first | (go_at_call 41; refine HH.out.mono ?_))
 rintro e1 w1 ⟨rfl, h1⟩
 have H1 : Hid (OffP w w1 k E) := h1
 clear h1 HH
 go_wp2
 go_ret
 exact ⟨rfl, H1.out⟩
set_option maxHeartbeats 1600000 in
set_option maxRecDepth 100000 in
theorem rounds_off (k : Option Nat) (E : Int) (w : World) (h : Off w k E) : Calls Tryz.prog 31 #[gq k] w fun e w' => e = .returned (.int .i64 0) ∧ OffP w w' k E := by
 have HH : Hid (Calls Tryz.prog 41 #[gq k] w fun e w' => e = .returned (.int .i64 E) ∧ OffP w w' k E) := hold_off k E w h
 have hE1 : (E != 0) = true := by rcases h.e with rfl | rfl <;> rfl
 clear h
 generalize gq k = kp at HH ⊢
 go_enter Tryz.func31, Tryz.ntmps31
 go_wp2_with (first | (go_at_call 41; refine HH.out.mono ?_))
 rintro e1 w1 ⟨rfl, h1⟩
 have H1 : Hid (OffP w w1 k E) := h1
 clear h1 HH
 go_wp2
 go_ret
 exact ⟨rfl, H1.out⟩
set_option maxHeartbeats 1600000 in
set_option maxRecDepth 100000 in
theorem words_off (k : Option Nat) (E : Int) (w : World) (h : Off w k E) : Calls Tryz.prog 32 #[gq k] w fun e w' => e = .returned (.slice none 0 0) ∧ OffP w w' k E := by
 have HH : Hid (Calls Tryz.prog 41 #[gq k] w fun e w' => e = .returned (.int .i64 E) ∧ OffP w w' k E) := hold_off k E w h
 have hE1 : (E != 0) = true := by rcases h.e with rfl | rfl <;> rfl
 clear h
 generalize gq k = kp at HH ⊢
 go_enter Tryz.func32, Tryz.ntmps32
 go_wp2_with (first | (go_at_call 41; refine HH.out.mono ?_))
 rintro e1 w1 ⟨rfl, h1⟩
 have H1 : Hid (OffP w w1 k E) := h1
 clear h1 HH
 go_wp2
 go_ret
 exact ⟨rfl, H1.out⟩
set_option maxHeartbeats 1600000 in
set_option maxRecDepth 100000 in
theorem wrap_off (k : Option Nat) (E : Int) (D : Value) (w : World) (h : Off w k E) : Calls Tryz.prog 26 #[gq k, D] w fun e w' => e = .returned (.tuple #[.slice none 0 0, .int .i64 E]) ∧ OffP w w' k E := by
 have HH : Hid (Calls Tryz.prog 41 #[gq k] w fun e w' => e = .returned (.int .i64 E) ∧ OffP w w' k E) := hold_off k E w h
 have hE1 : (E != 0) = true := by rcases h.e with rfl | rfl <;> rfl
 clear h
 generalize gq k = kp at HH ⊢
 go_enter Tryz.func26, Tryz.ntmps26
 go_wp2_with (first | (go_at_call 41; refine HH.out.mono ?_))
 rintro e1 w1 ⟨rfl, h1⟩
 have H1 : Hid (OffP w w1 k E) := h1
 clear h1 HH
 go_wp2
 go_ret2
 exact ⟨rfl, H1.out⟩
set_option maxHeartbeats 1600000 in
set_option maxRecDepth 100000 in
theorem unwrap_off (k : Option Nat) (E : Int) (D : Value) (w : World) (h : Off w k E) : Calls Tryz.prog 28 #[gq k, D] w fun e w' => e = .returned (.tuple #[.slice none 0 0, .int .i64 E]) ∧ OffP w w' k E := by
 have HH : Hid (Calls Tryz.prog 41 #[gq k] w fun e w' => e = .returned (.int .i64 E) ∧ OffP w w' k E) := hold_off k E w h
 have hE1 : (E != 0) = true := by rcases h.e with rfl | rfl <;> rfl
 clear h
 generalize gq k = kp at HH ⊢
 go_enter Tryz.func28, Tryz.ntmps28
 go_wp2_with (first | (go_at_call 41; refine HH.out.mono ?_))
 rintro e1 w1 ⟨rfl, h1⟩
 have H1 : Hid (OffP w w1 k E) := h1
 clear h1 HH
 go_wp2
 go_ret2
 exact ⟨rfl, H1.out⟩
set_option maxHeartbeats 1600000 in
set_option maxRecDepth 100000 in
theorem xor_nil (D : Value) (w : World) : Calls Tryz.prog 13 #[.pointer none, D] w fun e w' => e = .returned (.tuple #[.slice none 0 0, .int .i64 1]) ∧ w' = w := by
 go_enter Tryz.func13, Tryz.ntmps13
 go_wp2
 go_ret2
 exact ⟨rfl, rfl⟩
set_option maxHeartbeats 1600000 in
set_option maxRecDepth 100000 in
theorem skip_nil (D : Value) (w : World) : Calls Tryz.prog 17 #[.pointer none, D] w fun e w' => e = .returned (.int .i64 1) ∧ w' = w := by
 go_enter Tryz.func17, Tryz.ntmps17
 go_wp2
 go_ret
 exact ⟨rfl, rfl⟩
theorem at_nil (w : World) : Calls Tryz.prog 49 #[.pointer none] w fun e w' => e = .returned (.int .u64 0) ∧ w' = w := by
 go_enter Tryz.func49, Tryz.ntmps49
 go_wp2
 go_ret
 exact ⟨rfl, rfl⟩
set_option maxHeartbeats 1600000 in
set_option maxRecDepth 100000 in
theorem xor_gone (t g n : Nat) (s0 : W4) (D : Value) (w : World) (h : GoneAt w g) (hs : StreamAt w t g s0 n) : Calls Tryz.prog 13 #[.pointer (some ⟨t, 0, none⟩), D] w fun e w' => e = .returned (.tuple #[.slice none 0 0, .int .i64 21]) ∧ GoneAt w' g ∧ Touch w w' g 4 1 := by
 have HH : Hid (Calls Tryz.prog 41 #[.pointer (some ⟨g, 0, none⟩)] w fun e w' => e = .returned (.int .i64 21) ∧ GoneAt w' g ∧ Touch w w' g 4 1) := hold_gone g w h
 have ck := hs.key
 clear h hs
 go_enter Tryz.func13, Tryz.ntmps13
 go_wp2_with (first | (go_at_call 41; refine HH.out.mono ?_))
 rintro e1 w1 ⟨rfl, h1⟩
 have H1 : Hid (GoneAt w1 g ∧ Touch w w1 g 4 1) := h1
 clear h1 HH ck
 go_wp2
 go_ret2
 exact ⟨rfl, H1.out⟩
set_option maxHeartbeats 1600000 in
set_option maxRecDepth 100000 in
theorem skip_gone (t g n : Nat) (s0 : W4) (D : Value) (w : World) (h : GoneAt w g) (hs : StreamAt w t g s0 n) : Calls Tryz.prog 17 #[.pointer (some ⟨t, 0, none⟩), D] w fun e w' => e = .returned (.int .i64 21) ∧ GoneAt w' g ∧ Touch w w' g 4 1 := by
 have HH : Hid (Calls Tryz.prog 41 #[.pointer (some ⟨g, 0, none⟩)] w fun e w' => e = .returned (.int .i64 21) ∧ GoneAt w' g ∧ Touch w w' g 4 1) := hold_gone g w h
 have ck := hs.key
 clear h hs
 go_enter Tryz.func17, Tryz.ntmps17
 go_wp2_with (first | (go_at_call 41; refine HH.out.mono ?_))
 rintro e1 w1 ⟨rfl, h1⟩
 have H1 : Hid (GoneAt w1 g ∧ Touch w w1 g 4 1) := h1
 clear h1 HH ck
 go_wp2
 go_ret
 exact ⟨rfl, H1.out⟩
set_option maxHeartbeats 1600000 in
set_option maxRecDepth 100000 in
theorem kenc_off (k : Option Nat) (E : Int) (f : Nat → Nat) (w : World) (h : Off w k E) : Calls Tryz.prog 21 #[gq k, .agg (arA f)] w fun e w' => e = .returned (.tuple #[.agg z16, .int .i64 E]) ∧ OffP w w' k E := by
 have K1 : Hid (∀ u, Off u k E → Calls Tryz.prog 41 #[gq k] u fun e w' => e = .returned (.int .i64 E) ∧ OffP u w' k E) := fun u hu => hold_off k E u hu
 have HO : Hid (Off w k E) := h
 have hE1 : (E != 0) = true := by rcases h.e with rfl | rfl <;> rfl
 clear h
 have HI : Hid (Below w.heap.size w _ ∧ Ar _ w.heap.size f ∧ Ar _ (w.heap.size + 1) zero8) := ar_two w f 38 38
 unfold arA z16 at HI
 unfold arA z16
 generalize gq k = kp at K1 ⊢
 go_enter Tryz.func21, Tryz.ntmps21
 go_upto_region 1 with fail
 generalize ((w.alloc (.cells #[.int .u8 (f 0 : Nat), .int .u8 (f 1 : Nat), .int .u8 (f 2 : Nat), .int .u8 (f 3 : Nat), .int .u8 (f 4 : Nat), .int .u8 (f 5 : Nat), .int .u8 (f 6 : Nat), .int .u8 (f 7 : Nat), .int .u8 (f 8 : Nat), .int .u8 (f 9 : Nat), .int .u8 (f 10 : Nat), .int .u8 (f 11 : Nat), .int .u8 (f 12 : Nat), .int .u8 (f 13 : Nat), .int .u8 (f 14 : Nat), .int .u8 (f 15 : Nat)] 38)).alloc (.cells #[.int .u8 0, .int .u8 0, .int .u8 0, .int .u8 0, .int .u8 0, .int .u8 0, .int .u8 0, .int .u8 0, .int .u8 0, .int .u8 0, .int .u8 0, .int .u8 0, .int .u8 0, .int .u8 0, .int .u8 0, .int .u8 0] 38)) = w2 at HI ⊢
 go_wp2_with (first | (go_at_call 41; (refine (K1.out _ (HO.out.below HI.out.1)).mono ?_)))
 rintro e3 w3 ⟨rfl, h3⟩
 have HT : Hid (OffP w2 w3 k E ∧ w3.there (w.heap.size + 1) 0 16) := by
  refine ⟨h3, ?_⟩
  have e3 : w3.heap[w.heap.size + 1]? = w2.heap[w.heap.size + 1]? := h3.fr.block _ (World.block_lt_of_cell? w2 _ (HI.out.2.2.c 0 (by decide))) (fun e => by
   cases k with
   | none => cases e
   | some g => have := (HO.out.gone g rfl).1.lt; simp at e; omega)
  exact there_sameG HI.out.2.2.t e3
 clear h3
 go_wp2_with (first | (refine wpList_store_mid (by rfl) 38 (.tmp 4) (.tmp 11) (by rfl) (w.heap.size + 1) 0 #[.int .u8 0, .int .u8 0, .int .u8 0, .int .u8 0, .int .u8 0, .int .u8 0, .int .u8 0, .int .u8 0, .int .u8 0, .int .u8 0, .int .u8 0, .int .u8 0, .int .u8 0, .int .u8 0, .int .u8 0, .int .u8 0] (by rfl) (by rfl) HT.out.2 size42 (by kernel_rfl) ?_))
 refine ret_array_tmp (#[.int .u8 0, .int .u8 0, .int .u8 0, .int .u8 0, .int .u8 0, .int .u8 0, .int .u8 0, .int .u8 0, .int .u8 0, .int .u8 0, .int .u8 0, .int .u8 0, .int .u8 0, .int .u8 0, .int .u8 0, .int .u8 0]).toList (.int .i64 E) Tryz.results21 rfl rfl ?_ Tryz.underlying38 rfl size42 ⟨rfl, ?_⟩
 ·exact World.rangeAt_setCells_same _ _ _ _ HT.out.2
 ·have h0 := OffP.after HO.out HI.out.1 HT.out.1
  have hf : Fr w3 (w3.setCells (w.heap.size + 1) 0 (#[.int .u8 0, .int .u8 0, .int .u8 0, .int .u8 0, .int .u8 0, .int .u8 0, .int .u8 0, .int .u8 0, .int .u8 0, .int .u8 0, .int .u8 0, .int .u8 0, .int .u8 0, .int .u8 0, .int .u8 0, .int .u8 0] : Array Value).toList) [w.heap.size + 1] := setCells_frG _ _ _ _
  exact h0.late hf (fun b hb => by simp at hb; omega) (fun g e => (HO.out.gone g e).1.lt)
set_option maxHeartbeats 1600000 in
set_option maxRecDepth 100000 in
theorem kdec_off (k : Option Nat) (E : Int) (f : Nat → Nat) (w : World) (h : Off w k E) : Calls Tryz.prog 22 #[gq k, .agg (arA f)] w fun e w' => e = .returned (.tuple #[.agg z16, .int .i64 E]) ∧ OffP w w' k E := by
 have K1 : Hid (∀ u, Off u k E → Calls Tryz.prog 41 #[gq k] u fun e w' => e = .returned (.int .i64 E) ∧ OffP u w' k E) := fun u hu => hold_off k E u hu
 have HO : Hid (Off w k E) := h
 have hE1 : (E != 0) = true := by rcases h.e with rfl | rfl <;> rfl
 clear h
 have HI : Hid (Below w.heap.size w _ ∧ Ar _ w.heap.size f ∧ Ar _ (w.heap.size + 1) zero8) := ar_two w f 38 38
 unfold arA z16 at HI
 unfold arA z16
 generalize gq k = kp at K1 ⊢
 go_enter Tryz.func22, Tryz.ntmps22
 go_upto_region 1 with fail
 generalize ((w.alloc (.cells #[.int .u8 (f 0 : Nat), .int .u8 (f 1 : Nat), .int .u8 (f 2 : Nat), .int .u8 (f 3 : Nat), .int .u8 (f 4 : Nat), .int .u8 (f 5 : Nat), .int .u8 (f 6 : Nat), .int .u8 (f 7 : Nat), .int .u8 (f 8 : Nat), .int .u8 (f 9 : Nat), .int .u8 (f 10 : Nat), .int .u8 (f 11 : Nat), .int .u8 (f 12 : Nat), .int .u8 (f 13 : Nat), .int .u8 (f 14 : Nat), .int .u8 (f 15 : Nat)] 38)).alloc (.cells #[.int .u8 0, .int .u8 0, .int .u8 0, .int .u8 0, .int .u8 0, .int .u8 0, .int .u8 0, .int .u8 0, .int .u8 0, .int .u8 0, .int .u8 0, .int .u8 0, .int .u8 0, .int .u8 0, .int .u8 0, .int .u8 0] 38)) = w2 at HI ⊢
 go_wp2_with (first | (go_at_call 41; (refine (K1.out _ (HO.out.below HI.out.1)).mono ?_)))
 rintro e3 w3 ⟨rfl, h3⟩
 have HT : Hid (OffP w2 w3 k E ∧ w3.there (w.heap.size + 1) 0 16) := by
  refine ⟨h3, ?_⟩
  have e3 : w3.heap[w.heap.size + 1]? = w2.heap[w.heap.size + 1]? := h3.fr.block _ (World.block_lt_of_cell? w2 _ (HI.out.2.2.c 0 (by decide))) (fun e => by
   cases k with
   | none => cases e
   | some g => have := (HO.out.gone g rfl).1.lt; simp at e; omega)
  exact there_sameG HI.out.2.2.t e3
 clear h3
 go_wp2_with (first | (refine wpList_store_mid (by rfl) 38 (.tmp 4) (.tmp 11) (by rfl) (w.heap.size + 1) 0 #[.int .u8 0, .int .u8 0, .int .u8 0, .int .u8 0, .int .u8 0, .int .u8 0, .int .u8 0, .int .u8 0, .int .u8 0, .int .u8 0, .int .u8 0, .int .u8 0, .int .u8 0, .int .u8 0, .int .u8 0, .int .u8 0] (by rfl) (by rfl) HT.out.2 size42 (by kernel_rfl) ?_))
 refine ret_array_tmp (#[.int .u8 0, .int .u8 0, .int .u8 0, .int .u8 0, .int .u8 0, .int .u8 0, .int .u8 0, .int .u8 0, .int .u8 0, .int .u8 0, .int .u8 0, .int .u8 0, .int .u8 0, .int .u8 0, .int .u8 0, .int .u8 0]).toList (.int .i64 E) Tryz.results22 rfl rfl ?_ Tryz.underlying38 rfl size42 ⟨rfl, ?_⟩
 ·exact World.rangeAt_setCells_same _ _ _ _ HT.out.2
 ·have h0 := OffP.after HO.out HI.out.1 HT.out.1
  have hf : Fr w3 (w3.setCells (w.heap.size + 1) 0 (#[.int .u8 0, .int .u8 0, .int .u8 0, .int .u8 0, .int .u8 0, .int .u8 0, .int .u8 0, .int .u8 0, .int .u8 0, .int .u8 0, .int .u8 0, .int .u8 0, .int .u8 0, .int .u8 0, .int .u8 0, .int .u8 0] : Array Value).toList) [w.heap.size + 1] := setCells_frG _ _ _ _
  exact h0.late hf (fun b hb => by simp at hb; omega) (fun g e => (HO.out.gone g e).1.lt)
end Go.Proofs.YtgmfiljjogdccabGreatDoor
namespace Go.Proofs.YtgmfiljjogdccabGreatDoor
open Go.RowKit Go.RwLone Go.Conc.Locks
set_option linter.unusedVariables false
def ckE (n lo hi : Nat) : Int := if n < lo ∨ n % 8 ≠ 0 then 5 else if hi < n then 4 else 0
theorem ckE_ne {n lo hi : Nat} (h : ¬ (lo ≤ n ∧ n % 8 = 0 ∧ n ≤ hi)) : ckE n lo hi = 5 ∨ ckE n lo hi = 4 := by
 unfold ckE
 by_cases h1 : n < lo ∨ n % 8 ≠ 0
 ·rw [if_pos h1]; exact .inl rfl
 ·rw [if_neg h1, if_pos (by omega)]; exact .inr rfl
set_option maxHeartbeats 1600000 in
theorem checkLength_any (n lo hi : Nat) (w : World) (hn : n ≤ 9223372036854775807) (hlo : lo ≤ 1099511627776) (hh : hi ≤ 1099511627776) :
  Calls Tryz.prog 55 #[.int .i64 (n : Nat), .int .i64 (lo : Nat), .int .i64 (hi : Nat)] w fun e w' => e = .returned (.int .i64 (ckE n lo hi)) ∧ w' = w := by
 unfold ckE
 by_cases h1 : n < lo
 ·rw [if_pos (.inl h1)]
  have hlt : ((n : Nat) : Int) < (lo : Nat) := by omega
  go_enter Tryz.func55, Tryz.ntmps55
  go_wp2
  go_ret
  exact ⟨rfl, rfl⟩
 ·have hlt : ¬ ((n : Nat) : Int) < (lo : Nat) := by omega
  by_cases h2 : n % 8 = 0
  ·have hm : ((n : Nat) : Int) % 8 = 0 := by omega
   rw [if_neg (by omega)]
   by_cases h3 : hi < n
   ·rw [if_pos h3]
    have hgt : ((hi : Nat) : Int) < (n : Nat) := by omega
    go_enter Tryz.func55, Tryz.ntmps55
    go_wp2
    go_ret
    exact ⟨rfl, rfl⟩
   ·rw [if_neg h3]
    have hgt : ¬ ((hi : Nat) : Int) < (n : Nat) := by omega
    go_enter Tryz.func55, Tryz.ntmps55
    go_wp2
    go_ret
    exact ⟨rfl, rfl⟩
  ·rw [if_pos (.inr h2)]
   have hm : (((n : Nat) : Int) % 8 != 0) = true := by simp; omega
   go_enter Tryz.func55, Tryz.ntmps55
   go_wp2
   go_ret
   exact ⟨rfl, rfl⟩
set_option maxHeartbeats 1600000 in
set_option maxRecDepth 100000 in
theorem wrap_bad (g nr n cap : Nat) (a : Option Addr) (K : Nat → Nat) (w : World) (h : KeyAt w g nr K) (hn : n ≤ 9223372036854775807) (hb : ¬ (16 ≤ n ∧ n % 8 = 0 ∧ n ≤ 4096)) :
  Calls Tryz.prog 26 #[.pointer (some ⟨g, 0, none⟩), .slice a n cap] w fun e w' => e = .returned (.tuple #[.slice none 0 0, .int .i64 (ckE n 16 4096)]) ∧ KeyAt w' g nr K ∧ Touch w w' g 4 1 := by
 have HK : Hid (KeyAt w g nr K) := h
 have HH : Hid (Calls Tryz.prog 41 #[.pointer (some ⟨g, 0, none⟩)] w fun e w' => e = .returned (.int .i64 0) ∧ w' = w.setCell ⟨g, 4, none⟩ (.int .i32 1)) := hold_ok g nr K w h
 have HL : Hid (∀ u, Calls Tryz.prog 55 #[.int .i64 (n : Nat), .int .i64 (16 : Nat), .int .i64 (4096 : Nat)] u fun e w' => e = .returned (.int .i64 (ckE n 16 4096)) ∧ w' = u) := fun u => checkLength_any n 16 4096 u hn (by omega) (by omega)
 have hE : (ckE n 16 4096 != 0) = true := by rcases ckE_ne hb with e | e <;> rw [e] <;> rfl
 generalize ckE n 16 4096 = E at HL hE ⊢
 clear h hb
 go_enter_defers Tryz.func26, Tryz.ntmps26
 go_wp2_with (first | (go_at_call 41; refine HH.out.mono ?_))
 rintro e1 w1 ⟨rfl, hw1⟩
 have H1 : Hid (Ciph w1 g 6 nr K ∧ Touch w w1 g 4 1 ∧ w1.cell? ⟨g, 4, none⟩ = some (.int .i32 1)) := held HK.out hw1
 clear hw1 HH
 go_wp2_with (first | (go_at_call 55; refine (HL.out _).mono ?_))
 rintro e2 w2 ⟨rfl, rfl⟩
 go_wp2_with fail
 refine leaves_cons (f := 42) (args := #[.pointer (some ⟨g, 0, none⟩)]) (by simp) (by simp [go_sem]) ?_
 refine (unlocked HK.out H1.out.2.1 H1.out.2.2).mono ?_
 rintro e5 u5 w5 ⟨rfl, rfl, hk5, ht5, _⟩
 exact ⟨_, results_tmp2 rfl _ _ _, rfl, hk5, ht5⟩
set_option maxHeartbeats 1600000 in
set_option maxRecDepth 100000 in
theorem unwrap_bad (g nr n cap : Nat) (a : Option Addr) (K : Nat → Nat) (w : World) (h : KeyAt w g nr K) (hn : n ≤ 9223372036854775807) (hb : ¬ (24 ≤ n ∧ n % 8 = 0 ∧ n ≤ 4104)) :
  Calls Tryz.prog 28 #[.pointer (some ⟨g, 0, none⟩), .slice a n cap] w fun e w' => e = .returned (.tuple #[.slice none 0 0, .int .i64 (ckE n 24 4104)]) ∧ KeyAt w' g nr K ∧ Touch w w' g 4 1 := by
 have HK : Hid (KeyAt w g nr K) := h
 have HH : Hid (Calls Tryz.prog 41 #[.pointer (some ⟨g, 0, none⟩)] w fun e w' => e = .returned (.int .i64 0) ∧ w' = w.setCell ⟨g, 4, none⟩ (.int .i32 1)) := hold_ok g nr K w h
 have HL : Hid (∀ u, Calls Tryz.prog 55 #[.int .i64 (n : Nat), .int .i64 (24 : Nat), .int .i64 (4104 : Nat)] u fun e w' => e = .returned (.int .i64 (ckE n 24 4104)) ∧ w' = u) := fun u => checkLength_any n 24 4104 u hn (by omega) (by omega)
 have hE : (ckE n 24 4104 != 0) = true := by rcases ckE_ne hb with e | e <;> rw [e] <;> rfl
 generalize ckE n 24 4104 = E at HL hE ⊢
 clear h hb
 go_enter_defers Tryz.func28, Tryz.ntmps28
 go_wp2_with (first | (go_at_call 41; refine HH.out.mono ?_))
 rintro e1 w1 ⟨rfl, hw1⟩
 have H1 : Hid (Ciph w1 g 6 nr K ∧ Touch w w1 g 4 1 ∧ w1.cell? ⟨g, 4, none⟩ = some (.int .i32 1)) := held HK.out hw1
 clear hw1 HH
 go_wp2_with (first | (go_at_call 55; refine (HL.out _).mono ?_))
 rintro e2 w2 ⟨rfl, rfl⟩
 go_wp2_with fail
 refine leaves_cons (f := 42) (args := #[.pointer (some ⟨g, 0, none⟩)]) (by simp) (by simp [go_sem]) ?_
 refine (unlocked HK.out H1.out.2.1 H1.out.2.2).mono ?_
 rintro e5 u5 w5 ⟨rfl, rfl, hk5, ht5, _⟩
 exact ⟨_, results_tmp2 rfl _ _ _, rfl, hk5, ht5⟩
set_option maxHeartbeats 1600000 in
set_option maxRecDepth 100000 in
theorem skip_long (t g n m nr : Nat) (K : Nat → Nat) (s0 : W4) (w : World) (hk : KeyAt w g nr K) (hs : StreamAt w t g s0 n) (hne : t ≠ g) (hm : 1099511627776 < n + m) (hu : m < 18446744073709551616) :
  Calls Tryz.prog 17 #[.pointer (some ⟨t, 0, none⟩), .int .u64 (m : Nat)] w fun e w' => e = .returned (.int .i64 4) ∧ KeyAt w' g nr K ∧ Touch w w' g 4 1 := by
 have HK : Hid (KeyAt w g nr K) := hk
 have HS : Hid (StreamAt w t g s0 n) := hs
 have HNE : Hid (t ≠ g) := hne
 have HH : Hid (Calls Tryz.prog 41 #[.pointer (some ⟨g, 0, none⟩)] w fun e w' => e = .returned (.int .i64 0) ∧ w' = w.setCell ⟨g, 4, none⟩ (.int .i32 1)) := hold_ok g nr K w hk
 have ck := hs.key
 have hn40 := hs.most
 clear hk hs hne
 go_enter_defers Tryz.func17, Tryz.ntmps17
 go_wp2_with (first | (go_at_call 41; refine HH.out.mono ?_))
 rintro e1 w1 ⟨rfl, hw1⟩
 have H1 : Hid (Ciph w1 g 6 nr K ∧ Touch w w1 g 4 1 ∧ w1.cell? ⟨g, 4, none⟩ = some (.int .i32 1)) := held HK.out hw1
 have HS1 : Hid (StreamAt w1 t g s0 n) := HS.out.touch H1.out.2.1 HNE.out
 clear hw1 HH ck
 have ck : w1.cell? ⟨t, 0, none⟩ = some (.pointer (some ⟨g, 0, none⟩)) := HS1.out.key
 have KL : Hid (Calls Tryz.prog 43 #[.pointer (some ⟨t, 0, none⟩)] w1 fun e w' => e = .returned (.int .u64 (1099511627776 - n : Nat)) ∧ w' = w1) := left_ok t g n s0 w1 HS1.out
 obtain ⟨lf, HLF⟩ : ∃ x, Hid (x = 1099511627776 - n) := ⟨_, rfl⟩
 rw [← HLF.out] at KL
 have hle : ((lf : Nat) : Int) < (m : Nat) := by have := HLF.out; omega
 go_wp2_with (first | (go_at_call 43; refine KL.out.mono ?_; rintro e2 w2 ⟨rfl, hw2⟩; obtain rfl := hw2.symm))
 refine leaves_cons (f := 42) (args := #[.pointer (some ⟨g, 0, none⟩)]) (by simp) (by simp [go_sem]) ?_
 refine (unlocked HK.out H1.out.2.1 H1.out.2.2).mono ?_
 rintro e5 u5 w5 ⟨rfl, rfl, hk5, ht5, _⟩
 exact ⟨_, results_tmp rfl _ _ _, rfl, hk5, ht5⟩
set_option maxHeartbeats 1600000 in
set_option maxRecDepth 100000 in
theorem xor_over (t g n m cap nr : Nat) (a : Option Addr) (K : Nat → Nat) (s0 : W4) (w : World) (hk : KeyAt w g nr K) (hs : StreamAt w t g s0 n) (hne : t ≠ g) (hm : 1048576 < m) (hl : m ≤ 9223372036854775807) :
  Calls Tryz.prog 13 #[.pointer (some ⟨t, 0, none⟩), .slice a m cap] w fun e w' => e = .returned (.tuple #[.slice none 0 0, .int .i64 4]) ∧ KeyAt w' g nr K ∧ Touch w w' g 4 1 := by
 have HK : Hid (KeyAt w g nr K) := hk
 have HS : Hid (StreamAt w t g s0 n) := hs
 have HNE : Hid (t ≠ g) := hne
 have HH : Hid (Calls Tryz.prog 41 #[.pointer (some ⟨g, 0, none⟩)] w fun e w' => e = .returned (.int .i64 0) ∧ w' = w.setCell ⟨g, 4, none⟩ (.int .i32 1)) := hold_ok g nr K w hk
 have ck := hs.key
 have hn40 := hs.most
 have hgt : (1048576 : Int) < (m : Nat) := by omega
 clear hk hs hne
 go_enter_defers Tryz.func13, Tryz.ntmps13
 go_wp2_with (first | (go_at_call 41; refine HH.out.mono ?_))
 rintro e1 w1 ⟨rfl, hw1⟩
 have H1 : Hid (Ciph w1 g 6 nr K ∧ Touch w w1 g 4 1 ∧ w1.cell? ⟨g, 4, none⟩ = some (.int .i32 1)) := held HK.out hw1
 have HS1 : Hid (StreamAt w1 t g s0 n) := HS.out.touch H1.out.2.1 HNE.out
 clear hw1 HH ck
 have ck : w1.cell? ⟨t, 0, none⟩ = some (.pointer (some ⟨g, 0, none⟩)) := HS1.out.key
 have KL : Hid (Calls Tryz.prog 43 #[.pointer (some ⟨t, 0, none⟩)] w1 fun e w' => e = .returned (.int .u64 (1099511627776 - n : Nat)) ∧ w' = w1) := left_ok t g n s0 w1 HS1.out
 obtain ⟨lf, HLF⟩ : ∃ x, Hid (x = 1099511627776 - n) := ⟨_, rfl⟩
 rw [← HLF.out] at KL
 go_wp2_with fail
 refine leaves_cons (f := 42) (args := #[.pointer (some ⟨g, 0, none⟩)]) (by simp) (by simp [go_sem]) ?_
 refine (unlocked HK.out H1.out.2.1 H1.out.2.2).mono ?_
 rintro e5 u5 w5 ⟨rfl, rfl, hk5, ht5, _⟩
 exact ⟨_, results_tmp2 rfl _ _ _, rfl, hk5, ht5⟩
set_option maxHeartbeats 1600000 in
set_option maxRecDepth 100000 in
theorem xor_long (t g n m cap nr : Nat) (a : Option Addr) (K : Nat → Nat) (s0 : W4) (w : World) (hk : KeyAt w g nr K) (hs : StreamAt w t g s0 n) (hne : t ≠ g) (hm1 : m ≤ 1048576) (hm : 1099511627776 < n + m) :
  Calls Tryz.prog 13 #[.pointer (some ⟨t, 0, none⟩), .slice a m cap] w fun e w' => e = .returned (.tuple #[.slice none 0 0, .int .i64 4]) ∧ KeyAt w' g nr K ∧ Touch w w' g 4 1 := by
 have HK : Hid (KeyAt w g nr K) := hk
 have HS : Hid (StreamAt w t g s0 n) := hs
 have HNE : Hid (t ≠ g) := hne
 have HH : Hid (Calls Tryz.prog 41 #[.pointer (some ⟨g, 0, none⟩)] w fun e w' => e = .returned (.int .i64 0) ∧ w' = w.setCell ⟨g, 4, none⟩ (.int .i32 1)) := hold_ok g nr K w hk
 have ck := hs.key
 have hn40 := hs.most
 have HM : Hid (1099511627776 < n + m) := hm; clear hm
 clear hk hs hne
 go_enter_defers Tryz.func13, Tryz.ntmps13
 go_wp2_with (first | (go_at_call 41; refine HH.out.mono ?_))
 rintro e1 w1 ⟨rfl, hw1⟩
 have H1 : Hid (Ciph w1 g 6 nr K ∧ Touch w w1 g 4 1 ∧ w1.cell? ⟨g, 4, none⟩ = some (.int .i32 1)) := held HK.out hw1
 have HS1 : Hid (StreamAt w1 t g s0 n) := HS.out.touch H1.out.2.1 HNE.out
 clear hw1 HH ck
 have ck : w1.cell? ⟨t, 0, none⟩ = some (.pointer (some ⟨g, 0, none⟩)) := HS1.out.key
 have KL : Hid (Calls Tryz.prog 43 #[.pointer (some ⟨t, 0, none⟩)] w1 fun e w' => e = .returned (.int .u64 (1099511627776 - n : Nat)) ∧ w' = w1) := left_ok t g n s0 w1 HS1.out
 obtain ⟨lf, HLF⟩ : ∃ x, Hid (x = 1099511627776 - n) := ⟨_, rfl⟩
 rw [← HLF.out] at KL
 have hle : ((lf : Nat) : Int) < (m : Nat) := by have := HLF.out; have := HM.out; omega
 go_wp2_with (first | (go_at_call 43; refine KL.out.mono ?_; rintro e2 w2 ⟨rfl, hw2⟩; obtain rfl := hw2.symm))
 refine leaves_cons (f := 42) (args := #[.pointer (some ⟨g, 0, none⟩)]) (by simp) (by simp [go_sem]) ?_
 refine (unlocked HK.out H1.out.2.1 H1.out.2.2).mono ?_
 rintro e5 u5 w5 ⟨rfl, rfl, hk5, ht5, _⟩
 exact ⟨_, results_tmp2 rfl _ _ _, rfl, hk5, ht5⟩
set_option maxHeartbeats 1600000 in
set_option maxRecDepth 100000 in
theorem stream_off (k : Option Nat) (E : Int) (f : Nat → Nat) (w : World) (h : Off w k E) : Calls Tryz.prog 19 #[gq k, .agg (arA f)] w fun e w' => e = .returned (.tuple #[.pointer none, .int .i64 E]) ∧ OffP w w' k E := by
 have HA : Hid (Below w.heap.size w (w.alloc (.cells (arA f) 38))) := (Below.refl _ _).alloc (Nat.le_refl _) _
 have HO : Hid (Off w k E) := h
 have HH : Hid (Calls Tryz.prog 41 #[gq k] (w.alloc (.cells (arA f) 38)) fun e w' => e = .returned (.int .i64 E) ∧ OffP (w.alloc (.cells (arA f) 38)) w' k E) := hold_off k E _ (h.below HA.out)
 have hE1 : (E != 0) = true := by rcases h.e with rfl | rfl <;> rfl
 clear h
 generalize gq k = kp at HH ⊢
 unfold arA at HH HA ⊢
 go_enter Tryz.func19, Tryz.ntmps19
 go_wp2_with (first | (go_at_call 41; refine HH.out.mono ?_))
 rintro e1 w1 ⟨rfl, h1⟩
 have H1 : Hid (OffP w w1 k E) := OffP.after HO.out HA.out h1
 clear h1 HH HA
 go_wp2
 go_ret2
 exact ⟨rfl, H1.out⟩
end Go.Proofs.YtgmfiljjogdccabGreatDoor
