import Derived.Test.YtgmfiljjogdccabGreatDoorPart15
import Derived.Test.YtgmfiljjogdccabGreatDoorPart14
import Derived.Test.YtgmfiljjogdccabGreatDoorPart00
namespace Go.Proofs.YtgmfiljjogdccabGreatDoor
open Go.RowKit Go.RwLone
set_option linter.unusedVariables false
theorem stream_alloc (w : World) (g : Nat) (s0 : W4) (hs : s0.ok) : StreamAt (w.alloc (.cells #[.pointer (some ⟨g, 0, none⟩), .int .u8 (bt0 s0.a : Nat), .int .u8 (bt1 s0.a : Nat), .int .u8 (bt2 s0.a : Nat), .int .u8 (bt3 s0.a : Nat), .int .u8 (bt0 s0.b : Nat), .int .u8 (bt1 s0.b : Nat), .int .u8 (bt2 s0.b : Nat), .int .u8 (bt3 s0.b : Nat), .int .u8 (bt0 s0.c : Nat), .int .u8 (bt1 s0.c : Nat), .int .u8 (bt2 s0.c : Nat), .int .u8 (bt3 s0.c : Nat), .int .u8 (bt0 s0.d : Nat), .int .u8 (bt1 s0.d : Nat), .int .u8 (bt2 s0.d : Nat), .int .u8 (bt3 s0.d : Nat), .int .u64 0] 103)) w.heap.size g s0 0 := by
 have hr := rangeAt_new w #[.pointer (some ⟨g, 0, none⟩), .int .u8 (bt0 s0.a : Nat), .int .u8 (bt1 s0.a : Nat), .int .u8 (bt2 s0.a : Nat), .int .u8 (bt3 s0.a : Nat), .int .u8 (bt0 s0.b : Nat), .int .u8 (bt1 s0.b : Nat), .int .u8 (bt2 s0.b : Nat), .int .u8 (bt3 s0.b : Nat), .int .u8 (bt0 s0.c : Nat), .int .u8 (bt1 s0.c : Nat), .int .u8 (bt2 s0.c : Nat), .int .u8 (bt3 s0.c : Nat), .int .u8 (bt0 s0.d : Nat), .int .u8 (bt1 s0.d : Nat), .int .u8 (bt2 s0.d : Nat), .int .u8 (bt3 s0.d : Nat), .int .u64 0] 103
 refine ⟨hr 0 _ rfl, fun j v hv => ?_, hr 17 _ rfl, there_new w _ 103 18 (Nat.le_refl _), by simp, hs, by decide⟩
 have h16 : j < 16 := (List.getElem?_eq_some_iff.1 hv).1
 have hv' : (#[.pointer (some ⟨g, 0, none⟩), .int .u8 (bt0 s0.a : Nat), .int .u8 (bt1 s0.a : Nat), .int .u8 (bt2 s0.a : Nat), .int .u8 (bt3 s0.a : Nat), .int .u8 (bt0 s0.b : Nat), .int .u8 (bt1 s0.b : Nat), .int .u8 (bt2 s0.b : Nat), .int .u8 (bt3 s0.b : Nat), .int .u8 (bt0 s0.c : Nat), .int .u8 (bt1 s0.c : Nat), .int .u8 (bt2 s0.c : Nat), .int .u8 (bt3 s0.c : Nat), .int .u8 (bt0 s0.d : Nat), .int .u8 (bt1 s0.d : Nat), .int .u8 (bt2 s0.d : Nat), .int .u8 (bt3 s0.d : Nat), .int .u64 0]).toList[j + 1]? = some v := by
  show ([.int .u8 (bt0 s0.a : Nat), .int .u8 (bt1 s0.a : Nat), .int .u8 (bt2 s0.a : Nat), .int .u8 (bt3 s0.a : Nat), .int .u8 (bt0 s0.b : Nat), .int .u8 (bt1 s0.b : Nat), .int .u8 (bt2 s0.b : Nat), .int .u8 (bt3 s0.b : Nat), .int .u8 (bt0 s0.c : Nat), .int .u8 (bt1 s0.c : Nat), .int .u8 (bt2 s0.c : Nat), .int .u8 (bt3 s0.c : Nat), .int .u8 (bt0 s0.d : Nat), .int .u8 (bt1 s0.d : Nat), .int .u8 (bt2 s0.d : Nat), .int .u8 (bt3 s0.d : Nat)] ++ [Value.int .u64 0])[j]? = some v
  rw [List.getElem?_append_left h16]
  exact hv
 have := hr (j + 1) v hv'
 rw [show 0 + (j + 1) = 1 + j by omega] at this
 exact this
set_option maxHeartbeats 1600000 in
set_option maxRecDepth 100000 in
theorem stream_ok (g nr : Nat) (K : Nat → Nat) (s0 : W4) (w : World) (h : KeyAt w g nr K) (hs : s0.ok) : Calls Tryz.prog 19 #[.pointer (some ⟨g, 0, none⟩), s0.blk] w fun e w' => ∃ t, e = .returned (.tuple #[.pointer (some ⟨t, 0, none⟩), .int .i64 0]) ∧ w.heap.size ≤ t ∧ StreamAt w' t g s0 0 ∧ KeyAt w' g nr K ∧ Touch w w' g 4 1 := by
 have HG : Hid (g < w.heap.size) := h.ciph.here
 have HS : Hid s0.ok := hs
 have HK : Hid (KeyAt w g nr K) := h
 have HK1 : Hid (KeyAt (w.alloc (.cells #[.int .u8 (bt0 s0.a : Nat), .int .u8 (bt1 s0.a : Nat), .int .u8 (bt2 s0.a : Nat), .int .u8 (bt3 s0.a : Nat), .int .u8 (bt0 s0.b : Nat), .int .u8 (bt1 s0.b : Nat), .int .u8 (bt2 s0.b : Nat), .int .u8 (bt3 s0.b : Nat), .int .u8 (bt0 s0.c : Nat), .int .u8 (bt1 s0.c : Nat), .int .u8 (bt2 s0.c : Nat), .int .u8 (bt3 s0.c : Nat), .int .u8 (bt0 s0.d : Nat), .int .u8 (bt1 s0.d : Nat), .int .u8 (bt2 s0.d : Nat), .int .u8 (bt3 s0.d : Nat)] 38)) g nr K) := h.below ((Below.refl _ w).alloc (Nat.le_refl _) _) h.ciph.here
 have HH : Hid (Calls Tryz.prog 41 #[.pointer (some ⟨g, 0, none⟩)] (w.alloc (.cells #[.int .u8 (bt0 s0.a : Nat), .int .u8 (bt1 s0.a : Nat), .int .u8 (bt2 s0.a : Nat), .int .u8 (bt3 s0.a : Nat), .int .u8 (bt0 s0.b : Nat), .int .u8 (bt1 s0.b : Nat), .int .u8 (bt2 s0.b : Nat), .int .u8 (bt3 s0.b : Nat), .int .u8 (bt0 s0.c : Nat), .int .u8 (bt1 s0.c : Nat), .int .u8 (bt2 s0.c : Nat), .int .u8 (bt3 s0.c : Nat), .int .u8 (bt0 s0.d : Nat), .int .u8 (bt1 s0.d : Nat), .int .u8 (bt2 s0.d : Nat), .int .u8 (bt3 s0.d : Nat)] 38)) fun e w' => e = .returned (.int .i64 0) ∧ w' = (w.alloc (.cells #[.int .u8 (bt0 s0.a : Nat), .int .u8 (bt1 s0.a : Nat), .int .u8 (bt2 s0.a : Nat), .int .u8 (bt3 s0.a : Nat), .int .u8 (bt0 s0.b : Nat), .int .u8 (bt1 s0.b : Nat), .int .u8 (bt2 s0.b : Nat), .int .u8 (bt3 s0.b : Nat), .int .u8 (bt0 s0.c : Nat), .int .u8 (bt1 s0.c : Nat), .int .u8 (bt2 s0.c : Nat), .int .u8 (bt3 s0.c : Nat), .int .u8 (bt0 s0.d : Nat), .int .u8 (bt1 s0.d : Nat), .int .u8 (bt2 s0.d : Nat), .int .u8 (bt3 s0.d : Nat)] 38)).setCell ⟨g, 4, none⟩ (.int .i32 1)) := hold_ok g nr K _ HK1.out
 have HT0 : Hid (Touch w (w.alloc (.cells #[.int .u8 (bt0 s0.a : Nat), .int .u8 (bt1 s0.a : Nat), .int .u8 (bt2 s0.a : Nat), .int .u8 (bt3 s0.a : Nat), .int .u8 (bt0 s0.b : Nat), .int .u8 (bt1 s0.b : Nat), .int .u8 (bt2 s0.b : Nat), .int .u8 (bt3 s0.b : Nat), .int .u8 (bt0 s0.c : Nat), .int .u8 (bt1 s0.c : Nat), .int .u8 (bt2 s0.c : Nat), .int .u8 (bt3 s0.c : Nat), .int .u8 (bt0 s0.d : Nat), .int .u8 (bt1 s0.d : Nat), .int .u8 (bt2 s0.d : Nat), .int .u8 (bt3 s0.d : Nat)] 38)) g 4 1) := (Touch.refl w g 4 1).alloc _ h.ciph.here
 have HR0 : Hid ((w.alloc (.cells #[.int .u8 (bt0 s0.a : Nat), .int .u8 (bt1 s0.a : Nat), .int .u8 (bt2 s0.a : Nat), .int .u8 (bt3 s0.a : Nat), .int .u8 (bt0 s0.b : Nat), .int .u8 (bt1 s0.b : Nat), .int .u8 (bt2 s0.b : Nat), .int .u8 (bt3 s0.b : Nat), .int .u8 (bt0 s0.c : Nat), .int .u8 (bt1 s0.c : Nat), .int .u8 (bt2 s0.c : Nat), .int .u8 (bt3 s0.c : Nat), .int .u8 (bt0 s0.d : Nat), .int .u8 (bt1 s0.d : Nat), .int .u8 (bt2 s0.d : Nat), .int .u8 (bt3 s0.d : Nat)] 38)).rangeAt w.heap.size 0 [.int .u8 (bt0 s0.a : Nat), .int .u8 (bt1 s0.a : Nat), .int .u8 (bt2 s0.a : Nat), .int .u8 (bt3 s0.a : Nat), .int .u8 (bt0 s0.b : Nat), .int .u8 (bt1 s0.b : Nat), .int .u8 (bt2 s0.b : Nat), .int .u8 (bt3 s0.b : Nat), .int .u8 (bt0 s0.c : Nat), .int .u8 (bt1 s0.c : Nat), .int .u8 (bt2 s0.c : Nat), .int .u8 (bt3 s0.c : Nat), .int .u8 (bt0 s0.d : Nat), .int .u8 (bt1 s0.d : Nat), .int .u8 (bt2 s0.d : Nat), .int .u8 (bt3 s0.d : Nat)]) := rangeAt_new w #[.int .u8 (bt0 s0.a : Nat), .int .u8 (bt1 s0.a : Nat), .int .u8 (bt2 s0.a : Nat), .int .u8 (bt3 s0.a : Nat), .int .u8 (bt0 s0.b : Nat), .int .u8 (bt1 s0.b : Nat), .int .u8 (bt2 s0.b : Nat), .int .u8 (bt3 s0.b : Nat), .int .u8 (bt0 s0.c : Nat), .int .u8 (bt1 s0.c : Nat), .int .u8 (bt2 s0.c : Nat), .int .u8 (bt3 s0.c : Nat), .int .u8 (bt0 s0.d : Nat), .int .u8 (bt1 s0.d : Nat), .int .u8 (bt2 s0.d : Nat), .int .u8 (bt3 s0.d : Nat)] 38
 have HSZ : Hid ((w.alloc (.cells #[.int .u8 (bt0 s0.a : Nat), .int .u8 (bt1 s0.a : Nat), .int .u8 (bt2 s0.a : Nat), .int .u8 (bt3 s0.a : Nat), .int .u8 (bt0 s0.b : Nat), .int .u8 (bt1 s0.b : Nat), .int .u8 (bt2 s0.b : Nat), .int .u8 (bt3 s0.b : Nat), .int .u8 (bt0 s0.c : Nat), .int .u8 (bt1 s0.c : Nat), .int .u8 (bt2 s0.c : Nat), .int .u8 (bt3 s0.c : Nat), .int .u8 (bt0 s0.d : Nat), .int .u8 (bt1 s0.d : Nat), .int .u8 (bt2 s0.d : Nat), .int .u8 (bt3 s0.d : Nat)] 38)).heap.size = w.heap.size + 1) := by show _ = _; simp
 clear h hs
 show Calls Tryz.prog 19 #[.pointer (some ⟨g, 0, none⟩), .agg #[.int .u8 (bt0 s0.a : Nat), .int .u8 (bt1 s0.a : Nat), .int .u8 (bt2 s0.a : Nat), .int .u8 (bt3 s0.a : Nat), .int .u8 (bt0 s0.b : Nat), .int .u8 (bt1 s0.b : Nat), .int .u8 (bt2 s0.b : Nat), .int .u8 (bt3 s0.b : Nat), .int .u8 (bt0 s0.c : Nat), .int .u8 (bt1 s0.c : Nat), .int .u8 (bt2 s0.c : Nat), .int .u8 (bt3 s0.c : Nat), .int .u8 (bt0 s0.d : Nat), .int .u8 (bt1 s0.d : Nat), .int .u8 (bt2 s0.d : Nat), .int .u8 (bt3 s0.d : Nat)]] w _
 go_enter_defers Tryz.func19, Tryz.ntmps19
 go_wp2_with (first | (go_at_call 41; refine HH.out.mono ?_))
 rintro e1 w1 ⟨rfl, hw1⟩
 have H1 : Hid (Ciph w1 g 6 nr K ∧ Touch (w.alloc (.cells #[.int .u8 (bt0 s0.a : Nat), .int .u8 (bt1 s0.a : Nat), .int .u8 (bt2 s0.a : Nat), .int .u8 (bt3 s0.a : Nat), .int .u8 (bt0 s0.b : Nat), .int .u8 (bt1 s0.b : Nat), .int .u8 (bt2 s0.b : Nat), .int .u8 (bt3 s0.b : Nat), .int .u8 (bt0 s0.c : Nat), .int .u8 (bt1 s0.c : Nat), .int .u8 (bt2 s0.c : Nat), .int .u8 (bt3 s0.c : Nat), .int .u8 (bt0 s0.d : Nat), .int .u8 (bt1 s0.d : Nat), .int .u8 (bt2 s0.d : Nat), .int .u8 (bt3 s0.d : Nat)] 38)) w1 g 4 1 ∧ w1.cell? ⟨g, 4, none⟩ = some (.int .i32 1)) := held HK1.out hw1
 have HR1 : Hid (w1.rangeAt w.heap.size 0 [.int .u8 (bt0 s0.a : Nat), .int .u8 (bt1 s0.a : Nat), .int .u8 (bt2 s0.a : Nat), .int .u8 (bt3 s0.a : Nat), .int .u8 (bt0 s0.b : Nat), .int .u8 (bt1 s0.b : Nat), .int .u8 (bt2 s0.b : Nat), .int .u8 (bt3 s0.b : Nat), .int .u8 (bt0 s0.c : Nat), .int .u8 (bt1 s0.c : Nat), .int .u8 (bt2 s0.c : Nat), .int .u8 (bt3 s0.c : Nat), .int .u8 (bt0 s0.d : Nat), .int .u8 (bt1 s0.d : Nat), .int .u8 (bt2 s0.d : Nat), .int .u8 (bt3 s0.d : Nat)]) := fun j v hv => by
  have hz := HSZ.out
  have hgw := HG.out
  rw [H1.out.2.1.far (p := ⟨w.heap.size, 0 + j, none⟩) (show w.heap.size < _ by omega) (show w.heap.size ≠ g by omega)]
  exact HR0.out j v hv
 clear hw1 HH
 go_wp2_with (first
  | (refine wpList_load_mid (by rfl) 38 (.tmp 3) (by rfl) w.heap.size 0 (by rfl) [.int .u8 (bt0 s0.a : Nat), .int .u8 (bt1 s0.a : Nat), .int .u8 (bt2 s0.a : Nat), .int .u8 (bt3 s0.a : Nat), .int .u8 (bt0 s0.b : Nat), .int .u8 (bt1 s0.b : Nat), .int .u8 (bt2 s0.b : Nat), .int .u8 (bt3 s0.b : Nat), .int .u8 (bt0 s0.c : Nat), .int .u8 (bt1 s0.c : Nat), .int .u8 (bt2 s0.c : Nat), .int .u8 (bt3 s0.c : Nat), .int .u8 (bt0 s0.d : Nat), .int .u8 (bt1 s0.d : Nat), .int .u8 (bt2 s0.d : Nat), .int .u8 (bt3 s0.d : Nat)] _ HR1.out Tryz.underlying38 rfl size42 ?_)
  | fail)
 have HT1 : Hid (Touch w (w1.alloc (.cells #[.pointer (some ⟨g, 0, none⟩), .int .u8 (bt0 s0.a : Nat), .int .u8 (bt1 s0.a : Nat), .int .u8 (bt2 s0.a : Nat), .int .u8 (bt3 s0.a : Nat), .int .u8 (bt0 s0.b : Nat), .int .u8 (bt1 s0.b : Nat), .int .u8 (bt2 s0.b : Nat), .int .u8 (bt3 s0.b : Nat), .int .u8 (bt0 s0.c : Nat), .int .u8 (bt1 s0.c : Nat), .int .u8 (bt2 s0.c : Nat), .int .u8 (bt3 s0.c : Nat), .int .u8 (bt0 s0.d : Nat), .int .u8 (bt1 s0.d : Nat), .int .u8 (bt2 s0.d : Nat), .int .u8 (bt3 s0.d : Nat), .int .u64 0] 103)) g 4 1) := (HT0.out.trans H1.out.2.1).alloc _ HG.out
 have HC1 : Hid ((w1.alloc (.cells #[.pointer (some ⟨g, 0, none⟩), .int .u8 (bt0 s0.a : Nat), .int .u8 (bt1 s0.a : Nat), .int .u8 (bt2 s0.a : Nat), .int .u8 (bt3 s0.a : Nat), .int .u8 (bt0 s0.b : Nat), .int .u8 (bt1 s0.b : Nat), .int .u8 (bt2 s0.b : Nat), .int .u8 (bt3 s0.b : Nat), .int .u8 (bt0 s0.c : Nat), .int .u8 (bt1 s0.c : Nat), .int .u8 (bt2 s0.c : Nat), .int .u8 (bt3 s0.c : Nat), .int .u8 (bt0 s0.d : Nat), .int .u8 (bt1 s0.d : Nat), .int .u8 (bt2 s0.d : Nat), .int .u8 (bt3 s0.d : Nat), .int .u64 0] 103)).cell? ⟨g, 4, none⟩ = some (.int .i32 1)) := by
  have hb : Below w1.heap.size w1 (w1.alloc (.cells #[.pointer (some ⟨g, 0, none⟩), .int .u8 (bt0 s0.a : Nat), .int .u8 (bt1 s0.a : Nat), .int .u8 (bt2 s0.a : Nat), .int .u8 (bt3 s0.a : Nat), .int .u8 (bt0 s0.b : Nat), .int .u8 (bt1 s0.b : Nat), .int .u8 (bt2 s0.b : Nat), .int .u8 (bt3 s0.b : Nat), .int .u8 (bt0 s0.c : Nat), .int .u8 (bt1 s0.c : Nat), .int .u8 (bt2 s0.c : Nat), .int .u8 (bt3 s0.c : Nat), .int .u8 (bt0 s0.d : Nat), .int .u8 (bt1 s0.d : Nat), .int .u8 (bt2 s0.d : Nat), .int .u8 (bt3 s0.d : Nat), .int .u64 0] 103)) := (Below.refl _ w1).alloc (Nat.le_refl _) _
  exact (hb.cell H1.out.1.here).trans H1.out.2.2
 have HS1 : Hid (StreamAt (w1.alloc (.cells #[.pointer (some ⟨g, 0, none⟩), .int .u8 (bt0 s0.a : Nat), .int .u8 (bt1 s0.a : Nat), .int .u8 (bt2 s0.a : Nat), .int .u8 (bt3 s0.a : Nat), .int .u8 (bt0 s0.b : Nat), .int .u8 (bt1 s0.b : Nat), .int .u8 (bt2 s0.b : Nat), .int .u8 (bt3 s0.b : Nat), .int .u8 (bt0 s0.c : Nat), .int .u8 (bt1 s0.c : Nat), .int .u8 (bt2 s0.c : Nat), .int .u8 (bt3 s0.c : Nat), .int .u8 (bt0 s0.d : Nat), .int .u8 (bt1 s0.d : Nat), .int .u8 (bt2 s0.d : Nat), .int .u8 (bt3 s0.d : Nat), .int .u64 0] 103)) w1.heap.size g s0 0) := stream_alloc w1 g s0 HS.out
 refine leaves_cons (f := 42) (args := #[.pointer (some ⟨g, 0, none⟩)]) (by simp) (by simp [go_sem]) ?_
 refine (unlocked HK.out HT1.out HC1.out).mono ?_
 rintro e5 u5 w5 ⟨rfl, rfl, hk5, ht5, hw5⟩
 have hg1 := H1.out.1.here
 refine ⟨_, results_tmp2 rfl _ _ _, w1.heap.size, rfl, ?_, ?_, hk5, ht5⟩
 ·have := (HT0.out.trans H1.out.2.1).size; exact this
 ·rw [hw5]
  have hb : Touch (w1.alloc (.cells #[.pointer (some ⟨g, 0, none⟩), .int .u8 (bt0 s0.a : Nat), .int .u8 (bt1 s0.a : Nat), .int .u8 (bt2 s0.a : Nat), .int .u8 (bt3 s0.a : Nat), .int .u8 (bt0 s0.b : Nat), .int .u8 (bt1 s0.b : Nat), .int .u8 (bt2 s0.b : Nat), .int .u8 (bt3 s0.b : Nat), .int .u8 (bt0 s0.c : Nat), .int .u8 (bt1 s0.c : Nat), .int .u8 (bt2 s0.c : Nat), .int .u8 (bt3 s0.c : Nat), .int .u8 (bt0 s0.d : Nat), .int .u8 (bt1 s0.d : Nat), .int .u8 (bt2 s0.d : Nat), .int .u8 (bt3 s0.d : Nat), .int .u64 0] 103)) ((w1.alloc (.cells #[.pointer (some ⟨g, 0, none⟩), .int .u8 (bt0 s0.a : Nat), .int .u8 (bt1 s0.a : Nat), .int .u8 (bt2 s0.a : Nat), .int .u8 (bt3 s0.a : Nat), .int .u8 (bt0 s0.b : Nat), .int .u8 (bt1 s0.b : Nat), .int .u8 (bt2 s0.b : Nat), .int .u8 (bt3 s0.b : Nat), .int .u8 (bt0 s0.c : Nat), .int .u8 (bt1 s0.c : Nat), .int .u8 (bt2 s0.c : Nat), .int .u8 (bt3 s0.c : Nat), .int .u8 (bt0 s0.d : Nat), .int .u8 (bt1 s0.d : Nat), .int .u8 (bt2 s0.d : Nat), .int .u8 (bt3 s0.d : Nat), .int .u64 0] 103)).setCells g 4 [.int .i32 0]) g 4 1 := (Touch.refl _ g 4 1).setCells 4 _ (by omega) (by simp)
  have hs := HS1.out
  have hlt : w1.heap.size < (w1.alloc (.cells #[.pointer (some ⟨g, 0, none⟩), .int .u8 (bt0 s0.a : Nat), .int .u8 (bt1 s0.a : Nat), .int .u8 (bt2 s0.a : Nat), .int .u8 (bt3 s0.a : Nat), .int .u8 (bt0 s0.b : Nat), .int .u8 (bt1 s0.b : Nat), .int .u8 (bt2 s0.b : Nat), .int .u8 (bt3 s0.b : Nat), .int .u8 (bt0 s0.c : Nat), .int .u8 (bt1 s0.c : Nat), .int .u8 (bt2 s0.c : Nat), .int .u8 (bt3 s0.c : Nat), .int .u8 (bt0 s0.d : Nat), .int .u8 (bt1 s0.d : Nat), .int .u8 (bt2 s0.d : Nat), .int .u8 (bt3 s0.d : Nat), .int .u64 0] 103)).heap.size := hs.here
  refine ⟨(hb.far (p := ⟨w1.heap.size, 0, none⟩) hlt (show w1.heap.size ≠ g by omega)).trans hs.key, fun j v hv => (hb.far (p := ⟨w1.heap.size, 1 + j, none⟩) hlt (show w1.heap.size ≠ g by omega)).trans (hs.start j v hv), (hb.far (p := ⟨w1.heap.size, 17, none⟩) hlt (show w1.heap.size ≠ g by omega)).trans hs.pos, fun j hj => ?_, Nat.lt_of_lt_of_le hlt hb.size, hs.ok, hs.most⟩
  rw [hb.far (p := ⟨w1.heap.size, 0 + j, none⟩) hlt (show w1.heap.size ≠ g by omega), hb.farFrozen (p := ⟨w1.heap.size, 0 + j, none⟩) hlt (show w1.heap.size ≠ g by omega)]
  exact hs.room j hj
end Go.Proofs.YtgmfiljjogdccabGreatDoor
namespace Go.Proofs.YtgmfiljjogdccabGreatDoor
open Go.RowKit
set_option linter.unusedVariables false
/-- Sixteen bytes where they lie. -/
structure Ar (u : World) (b : Nat) (f : Nat → Nat) : Prop where
 c : ∀ j, j < 16 → u.cell? ⟨b, j, none⟩ = some (.int .u8 (f j : Nat))
 t : u.there b 0 16
theorem Ar.set {u : World} {b : Nat} {f : Nat → Nat} (h : Ar u b f) (k x : Nat) (hk : k < 16) : Ar (u.setCell ⟨b, k, none⟩ (.int .u8 (x : Nat))) b (fun j => if j = k then x else f j) :=
 ⟨fun j hj => by
  by_cases e : j = k
  ·subst e; simp only [if_true]; exact set_same _ h.t hk
  ·simp only [if_neg e]; rw [cell_other _ _ _ _ _ (fun q => e q.symm)]; exact h.c j hj, World.there_setCells h.t _ _ [_]⟩
theorem Ar.far {u : World} {b b' o : Nat} {f : Nat → Nat} {v : Value} (h : Ar u b f) (hne : b' ≠ b) : Ar (u.setCell ⟨b', o, none⟩ v) b f :=
 ⟨fun j hj => by rw [World.cell?_setCell_far _ _ _ _ hne]; exact h.c j hj, World.there_setCells h.t _ _ [_]⟩
theorem Ar.congr {u : World} {b : Nat} {f f' : Nat → Nat} (h : Ar u b f) (e : ∀ j, j < 16 → f j = f' j) : Ar u b f' := ⟨fun j hj => by rw [← e j hj]; exact h.c j hj, h.t⟩
theorem Ar.range {u : World} {b : Nat} {f : Nat → Nat} (h : Ar u b f) : u.rangeAt b 0 (arL f) := fun j v hv => by
 have hj : j < 16 := (List.getElem?_eq_some_iff.1 hv).1
 rw [arL_at f j hj] at hv
 rw [Nat.zero_add, h.c j hj]; exact hv
theorem Ar.same {u u' : World} {b : Nat} {f : Nat → Nat} (h : Ar u b f) (e : u'.heap[b]? = u.heap[b]?) : Ar u' b f :=
 ⟨fun j hj => (World.cell?_of_block (a := ⟨b, j, none⟩) e).trans (h.c j hj), fun j hj => by
  rw [World.cell?_of_block (a := ⟨b, 0 + j, none⟩) e, World.frozen?_of_block (a := ⟨b, 0 + j, none⟩) e]; exact h.t j hj⟩
theorem ar_new (w : World) (f : Nat → Nat) (t : TypeId) : Ar (w.alloc (.cells (arA f) t)) w.heap.size f :=
 ⟨fun j hj => by
  rw [World.cell?_alloc_at _ t _ _ rfl, ← arL_array]
  have := arL_at f j hj
  simpa using this, there_new w (arA f) t 16 (by show 16 ≤ 16; omega)⟩
def z16 : Array Value := #[.int .u8 0, .int .u8 0, .int .u8 0, .int .u8 0, .int .u8 0, .int .u8 0, .int .u8 0, .int .u8 0, .int .u8 0, .int .u8 0, .int .u8 0, .int .u8 0, .int .u8 0, .int .u8 0, .int .u8 0, .int .u8 0]
def zero8 (_ : Nat) : Nat := 0
theorem z16_ar : z16 = arA zero8 := rfl
/-- A new array, and a box for the answer. -/
theorem ar_two (w : World) (f : Nat → Nat) (t t' : TypeId) : Below w.heap.size w ((w.alloc (.cells (arA f) t)).alloc (.cells z16 t')) ∧ Ar ((w.alloc (.cells (arA f) t)).alloc (.cells z16 t')) w.heap.size f ∧ Ar ((w.alloc (.cells (arA f) t)).alloc (.cells z16 t')) (w.heap.size + 1) zero8 := by
 rw [z16_ar]
 have s1 : (w.alloc (.cells (arA f) t)).heap.size = w.heap.size + 1 := by simp
 refine ⟨((Below.refl _ w).alloc (Nat.le_refl _) _).alloc (by omega) _, ?_, ?_⟩
 ·refine (ar_new w f t).same ?_
  have hb : Below (w.alloc (.cells (arA f) t)).heap.size (w.alloc (.cells (arA f) t)) ((w.alloc (.cells (arA f) t)).alloc (.cells (arA zero8) t')) := (Below.refl _ _).alloc (Nat.le_refl _) _
  exact hb.block _ (by omega)
 ·have := ar_new (w.alloc (.cells (arA f) t)) zero8 t'
  rw [s1] at this
  exact this
theorem RefAt.below {w u : World} {g gr nk : Nat} {K : Nat → Nat} (h : RefAt w g gr nk K) (hb : Below w.heap.size w u) : RefAt u g gr nk K := h.keep (hb.block g h.lt) (hb.block gr h.ltr) hb.size
theorem size41 : (Tryz.prog.info? 37).map (·.size) = some 16 := by kernel_rfl
theorem arA_one (f : Nat → Nat) : (arA f).all (·.oneCell') = true := by
 rw [← arL_array]
 exact all_oneCell_toArray (fun v hv => by
  rw [arL_map] at hv
  simp only [List.mem_map] at hv
  obtain ⟨j, _, rfl⟩ := hv
  rfl)
set_option maxHeartbeats 1600000 in
set_option maxRecDepth 100000 in
theorem added_ok (g gr nk r : Nat) (K : Nat → Nat) (s : W4) (w : World) (h : RefAt w g gr nk K) (hn : nk ≤ 8) (hr : r ≤ nk + 6) (hK : ∀ i, K i < 4294967296) (hs : s.ok) :
  Calls Tryz.prog 51 #[.pointer (some ⟨g, 0, none⟩), .agg (arA (sb s)), .int .i64 (r : Nat)] w fun e w' => e = .returned (.agg (arA (sb (addK K r s)))) ∧ Below w.heap.size w w' := by
 obtain ⟨f, HF⟩ : ∃ f, Hid (f = sb s) := ⟨_, rfl⟩
 have HFl : Hid (∀ j, f j < 256) := by show ∀ j, _; rw [HF.out]; exact sb_lt s
 have HE : Hid (∀ j, j < 16 → Nat.xor (f j) (rb K (16 * r + j)) = sb (addK K r s) j) := fun j hj => by rw [HF.out, sb_add hK r hs j hj]
 rw [← HF.out]
 have HH : Hid (RefAt w g gr nk K) := h
 obtain ⟨m, HM⟩ : ∃ m, Hid (m = 16 * (nk + 7)) := ⟨_, rfl⟩
 obtain ⟨q, HQ⟩ : ∃ q, Hid (q = 16 * r) := ⟨_, rfl⟩
 have hmq : q + 16 ≤ m ∧ m ≤ 240 := by have := HM.out; have := HQ.out; omega
 have hq : (16 : Int) * ((r : Nat) : Int) = ((q : Nat) : Int) := by have := HQ.out; omega
 have hwq : IntKind.i64.wrap ((q : Nat) : Int) = ((q : Nat) : Int) := wraps_i64 _ (by omega) (by omega)
 obtain ⟨c, hrd⟩ := HH.out.round
 rw [← HM.out] at hrd
 have HR : Hid (w.cell? ⟨g, 1, none⟩ = some (.slice (some ⟨gr, 0, none⟩) m c)) := hrd
 obtain ⟨F2, HF2⟩ : ∃ F, Hid (F = fun j => Nat.xor (f j) (rb K (q + j))) := ⟨_, rfl⟩
 have HE2 : Hid (∀ j, j < 16 → F2 j = sb (addK K r s) j) := fun j hj => by rw [HF2.out, HQ.out]; exact HE.out j hj
 clear hrd hn hr h hK hs HE
 have HI : Hid (Below w.heap.size w _ ∧ Ar _ w.heap.size f ∧ Ar _ (w.heap.size + 1) zero8) := ar_two w f 37 37
 unfold arA z16 at HI
 rw [← arA_congr HE2.out]
 obtain ⟨R2, HR2⟩ : ∃ A, Hid (A = arA F2) := ⟨_, rfl⟩
 rw [← HR2.out]
 unfold arA
 go_enter Tryz.func51, Tryz.ntmps51
 go_wp2
 generalize ((w.alloc (.cells #[.int .u8 (f 0 : Nat), .int .u8 (f 1 : Nat), .int .u8 (f 2 : Nat), .int .u8 (f 3 : Nat), .int .u8 (f 4 : Nat), .int .u8 (f 5 : Nat), .int .u8 (f 6 : Nat), .int .u8 (f 7 : Nat), .int .u8 (f 8 : Nat), .int .u8 (f 9 : Nat), .int .u8 (f 10 : Nat), .int .u8 (f 11 : Nat), .int .u8 (f 12 : Nat), .int .u8 (f 13 : Nat), .int .u8 (f 14 : Nat), .int .u8 (f 15 : Nat)] 37)).alloc (.cells #[.int .u8 0, .int .u8 0, .int .u8 0, .int .u8 0, .int .u8 0, .int .u8 0, .int .u8 0, .int .u8 0, .int .u8 0, .int .u8 0, .int .u8 0, .int .u8 0, .int .u8 0, .int .u8 0, .int .u8 0, .int .u8 0] 37)) = w2 at HI ⊢
 obtain ⟨B1, HB1⟩ : ∃ b, Hid (w.heap.size + 1 = b) := ⟨_, rfl⟩
 rw [HB1.out] at HI ⊢
 have hB1 : w.heap.size ≠ B1 ∧ w.heap.size ≤ B1 := by have := HB1.out; omega
 go_loopw [7] (fun i wr => ∃ k : Nat, k ≤ 16 ∧ i = .int .i64 (k : Nat) ∧ Hid (Below w.heap.size w wr ∧ Ar wr w.heap.size (fun j => if j < k then F2 j else f j) ∧ wr.there B1 0 16)) (fun i _ => 16 - (intOf i).toNat)
 case atStart => exact ⟨0, by omega, rfl, HI.out.1, HI.out.2.1.congr (fun j hj => by rw [if_neg (by omega)]), HI.out.2.2.t⟩
 case round =>
  obtain ⟨k, hk, rfl, HJ⟩ := hrel
  by_cases hlt : k < 16
  ·obtain ⟨a, HA⟩ : ∃ a, Hid (a = f k) := ⟨_, rfl⟩
   obtain ⟨p, HP⟩ : ∃ p, Hid (p = q + k) := ⟨_, rfl⟩
   obtain ⟨b, HB⟩ : ∃ b, Hid (b = rb K p) := ⟨_, rfl⟩
   obtain ⟨x, HX⟩ : ∃ x, Hid (x = F2 k) := ⟨_, rfl⟩
   have hki : ((k : Nat) : Int) < 16 := by omega
   have hp : ((q : Nat) : Int) + ((k : Nat) : Int) = ((p : Nat) : Int) := by have := HP.out; omega
   have hwp : IntKind.i64.wrap ((p : Nat) : Int) = ((p : Nat) : Int) := wraps_i64 _ (by omega) (by omega)
   have hpm : ((p : Nat) : Int) < ((m : Nat) : Int) := by have := HP.out; omega
   have hx : bits .xor .u8 ((a : Nat) : Int) ((b : Nat) : Int) = ((x : Nat) : Int) := by
    rw [xor8 _ _ (by rw [HA.out]; exact HFl.out k) (by rw [HB.out]; exact rb_lt _ _), HX.out, HF2.out, HA.out, HB.out, HP.out]
   have hSt : wr.drew.cell? ⟨w.heap.size, k, none⟩ = some (.int .u8 (a : Nat)) ∧ wr.drew.cell? ⟨g, 1, none⟩ = some (.slice (some ⟨gr, 0, none⟩) m c) ∧ wr.drew.cell? ⟨gr, p, none⟩ = some (.int .u8 (b : Nat)) ∧ wr.drew.frozen? ⟨w.heap.size, k, none⟩ = false := by
    refine ⟨?_, ?_, ?_, ?_⟩
    ·show wr.cell? _ = _
     rw [HJ.out.2.1.c k hlt, if_neg (by omega), HA.out]
    ·exact (HJ.out.1.cell (p := ⟨g, 1, none⟩) HH.out.lt).trans HR.out
    ·show wr.cell? _ = _
     rw [HJ.out.1.cell (p := ⟨gr, p, none⟩) HH.out.ltr, HH.out.cells p (by have := HP.out; have := HM.out; omega), HB.out]
    ·exact there_froz HJ.out.2.1.t k hlt
   go_upto_region 4 with fail
   refine wp_region_noPanic ?_
   refine wp_region_till (fun u => u.cell? ⟨w.heap.size, k, none⟩ = some (.int .u8 (a : Nat)) ∧ u.cell? ⟨g, 1, none⟩ = some (.slice (some ⟨gr, 0, none⟩) m c) ∧ u.cell? ⟨gr, p, none⟩ = some (.int .u8 (b : Nat)) ∧ u.frozen? ⟨w.heap.size, k, none⟩ = false) 15 (by kernel_rfl) (by decide) (by decide +kernel) (by decide +kernel) (by decide +kernel) (fun inv => ?_)
   refine tU 0 12 (.int .i64 (k : Nat)) inv rfl rfl hSt fun inv => ?_
   simp only [pU]
   refine tU 1 13 (.int .i64 (k : Nat)) inv rfl rfl hSt fun inv => ?_
   simp only [pU]
   refine tU 2 14 (.pointer (some ⟨w.heap.size, k, none⟩)) inv rfl rfl hSt fun inv => ?_
   simp only [pU]
   refine tT 3 15 (.int .u8 (a : Nat)) inv rfl rfl (by decide +kernel) (hSt) (Or.inl ⟨by rfl, fun w' hS' => by have q1 := hS'.1; go_simp⟩) (fun inv => ?_)
   simp only [pU]
   refine tU 4 16 (.pointer (some ⟨g, 0, none⟩)) inv rfl rfl hSt fun inv => ?_
   simp only [pU]
   refine tU 5 17 (.pointer (some ⟨g, 0, none⟩)) inv rfl rfl hSt fun inv => ?_
   simp only [pU]
   refine tU 6 18 (.pointer (some ⟨g, 1, none⟩)) inv rfl rfl hSt fun inv => ?_
   simp only [pU]
   refine tT 7 19 (.slice (some ⟨gr, 0, none⟩) m c) inv rfl rfl (by decide +kernel) (hSt) (Or.inl ⟨by rfl, fun w' hS' => by have q1 := hS'.2.1; go_simp⟩) (fun inv => ?_)
   simp only [pU]
   refine tU 8 20 (.int .i64 (r : Nat)) inv rfl rfl hSt fun inv => ?_
   simp only [pU]
   refine tU 9 21 (.int .i64 (q : Nat)) inv rfl rfl hSt fun inv => ?_
   simp only [pU]
   refine tU 10 22 (.int .i64 (k : Nat)) inv rfl rfl hSt fun inv => ?_
   simp only [pU]
   refine tU 11 23 (.int .i64 (p : Nat)) inv rfl rfl hSt fun inv => ?_
   simp only [pU]
   refine tU 12 24 (.pointer (some ⟨gr, p, none⟩)) inv rfl rfl hSt fun inv => ?_
   simp only [pU]
   refine tT 13 25 (.int .u8 (b : Nat)) inv rfl rfl (by decide +kernel) (hSt) (Or.inl ⟨by rfl, fun w' hS' => by have q1 := hS'.2.2.1; go_simp⟩) (fun inv => ?_)
   simp only [pU]
   refine tU 14 26 (.int .u8 (x : Nat)) inv rfl rfl hSt fun inv => ?_
   simp only [pU]
   refine till_tail (i := 15) (by decide +kernel) (by decide) rfl (fun Kx hK => ?_)
   rw [if_pos (by kernel_rfl)]
   go_simp
   refine hK.out _ _ ?_
   clear hK Kx
   try simp only [Act.put, pU]
   refine till_tail (i := 16) (by decide +kernel) (by decide) rfl (fun Kx hK => ?_)
   rw [if_pos (by kernel_rfl)]
   have q1 := hSt.1
   have q2 := hSt.2.2.2
   go_simp
   refine hK.out _ _ ?_
   clear hK Kx
   refine till_done (by decide +kernel) ?_ _
   refine NoPanic.normal ?_
   clear q1 q2 hSt
   have HN : Hid (Below w.heap.size w ((wr.setCell ⟨w.heap.size, k, none⟩ (.int .u8 (x : Nat))).drew) ∧ Ar ((wr.setCell ⟨w.heap.size, k, none⟩ (.int .u8 (x : Nat))).drew) w.heap.size (fun j => if j < k + 1 then F2 j else f j) ∧ ((wr.setCell ⟨w.heap.size, k, none⟩ (.int .u8 (x : Nat))).drew).there B1 0 16) := by
    refine ⟨(HJ.out.1.setCell (Nat.le_refl _) _).drew, ?_, World.there_setCells HJ.out.2.2 _ _ [_]⟩
    have h1 := HJ.out.2.1.set k x hlt
    have h2 : Ar ((wr.setCell ⟨w.heap.size, k, none⟩ (.int .u8 (x : Nat))).drew) w.heap.size (fun j => if j = k then x else if j < k then F2 j else f j) := ⟨h1.c, h1.t⟩
    refine h2.congr (fun j hj => ?_)
    by_cases e : j = k
    ·subst e; rw [if_pos rfl, if_pos (by omega), HX.out]
    ·rw [if_neg e]
     by_cases e2 : j < k
     ·rw [if_pos e2, if_pos (by omega)]
     ·rw [if_neg e2, if_neg (by omega)]
   generalize (wr.setCell ⟨w.heap.size, k, none⟩ (.int .u8 (x : Nat))).drew = wn at HN ⊢
   go_wp2
   refine ⟨⟨k + 1, by omega, rfl, HN.out⟩, by simp only [intOf]; omega⟩
  ·obtain rfl : k = 16 := by omega
   have HA : Hid (Ar wr w.heap.size F2) := HJ.out.2.1.congr (fun j hj => by rw [if_pos (by omega)])
   have HRg : Hid (wr.rangeAt w.heap.size 0 (arL F2)) := HA.out.range
   obtain ⟨RL, HRL⟩ : ∃ L, Hid (L = arL F2) := ⟨_, rfl⟩
   have HRA : Hid (R2 = RL.toArray) := by show _ = _; rw [HR2.out, HRL.out, arL_array]
   rw [← HRL.out] at HRg
   have HLl : Hid (RL.length = 16) := by show _ = _; rw [HRL.out]; rfl
   have h41 : Hid ((Tryz.prog.info? 37).map (·.size) = some RL.length) := by show _ = _; rw [HLl.out]; exact size41
   have HTh : Hid (wr.there B1 0 RL.toArray.size) := by show World.there _ _ _ _; rw [List.size_toArray, HLl.out]; exact HJ.out.2.2
   have h41' : Hid ((Tryz.prog.info? 37).map (·.size) = some RL.toArray.size) := by show _ = _; rw [List.size_toArray]; exact h41.out
   have h1c : Hid (RL.toArray.all (·.oneCell') = true) := by show _ = _; rw [HRL.out, arL_array]; exact arA_one _
   clear hlt hk
   go_wp2_with (first
    | (refine wpList_load_mid (by rfl) 37 (.tmp 4) (by rfl) w.heap.size 0 (by rfl) RL _ HRg.out Tryz.underlying37 rfl h41.out ?_)
    | (refine wpList_store_mid (by rfl) 37 (.tmp 6) (.tmp 28) (by rfl) B1 0 RL.toArray (by rfl) (by rfl) HTh.out h41'.out h1c.out ?_))
   refine ret_array RL Tryz.results51 rfl ?_ Tryz.underlying37 rfl h41.out ⟨by rw [HRA.out], ?_⟩
   ·exact World.rangeAt_setCells_same _ _ _ _ (by rw [HLl.out]; exact HJ.out.2.2)
   ·exact belowB_setCells _ hB1.2 _ _ _ HJ.out.1
end Go.Proofs.YtgmfiljjogdccabGreatDoor
