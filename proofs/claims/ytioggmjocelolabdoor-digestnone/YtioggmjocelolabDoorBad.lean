import Derived.Test.YtioggmjocelolabDoorBegin
namespace Go.Proofs.YtioggmjocelolabDoor
open Go.RowKit

set_option maxHeartbeats 400000 in
set_option maxRecDepth 100000 in
theorem new_bad (h : Int) (w : World) (h1 : (h == 224) = false) (h2 : (h == 256) = false) (h3 : (h == 384) = false) (h4 : (h == 512) = false) :
    Calls Tryd.prog 22 #[.int .i64 h] w fun e w' => e = .returned (.tuple #[.pointer none, .int .i64 10]) ∧ Below w.heap.size w w' := by
  go_enter Tryd.func22, Tryd.ntmps22
  go_wp2_with fail
  refine (begin_bad h _ h1 h2 h3 h4).mono ?_
  rintro e w1 ⟨rfl, hb⟩
  have HT : Hid ((w1.alloc (.cells Tryd.zeroCells71 71)).there w1.heap.size 0 139) := there_new w1 Tryd.zeroCells71 71 139 (by rw [cells71z, size71z]; exact Nat.le_refl _)
  have HB : Hid (Below w.heap.size w w1) := hb
  clear hb
  go_wp2_with (first
    | (refine wpList_store_mid (by rfl) 71 (.tmp 4) (.tmp 9) (by rfl) w1.heap.size 0 tkZero.toArray (by rfl) (by rfl) (by rw [size71z]; exact HT.out) (by rw [size71z]; exact size71) tkZero_one ?_)
    | fail)
  go_ret2
  exact ⟨rfl, below_setCells _ HB.out.size _ _ _ (HB.out.alloc HB.out.size _)⟩

set_option maxHeartbeats 400000 in
set_option maxRecDepth 100000 in
theorem newMac_bad (h : Int) (v : Value) (w : World) (h1 : (h == 224) = false) (h2 : (h == 256) = false) (h3 : (h == 384) = false) (h4 : (h == 512) = false) :
    Calls Tryd.prog 18 #[.int .i64 h, v] w fun e w' => e = .returned (.tuple #[.pointer none, .int .i64 10]) ∧ Below w.heap.size w w' := by
  go_enter Tryd.func18, Tryd.ntmps18
  go_wp2_with fail
  refine (begin_bad h _ h1 h2 h3 h4).mono ?_
  rintro e w1 ⟨rfl, hb⟩
  have HT : Hid ((w1.alloc (.cells Tryd.zeroCells71 71)).there w1.heap.size 0 139) := there_new w1 Tryd.zeroCells71 71 139 (by rw [cells71z, size71z]; exact Nat.le_refl _)
  have HB : Hid (Below w.heap.size w w1) := hb
  clear hb
  go_wp2_with (first
    | (refine wpList_store_mid (by rfl) 71 (.tmp 6) (.tmp 13) (by rfl) w1.heap.size 0 tkZero.toArray (by rfl) (by rfl) (by rw [size71z]; exact HT.out) (by rw [size71z]; exact size71) tkZero_one ?_)
    | fail)
  go_ret2
  exact ⟨rfl, below_setCells _ HB.out.size _ _ _ (HB.out.alloc HB.out.size _)⟩
end Go.Proofs.YtioggmjocelolabDoor
