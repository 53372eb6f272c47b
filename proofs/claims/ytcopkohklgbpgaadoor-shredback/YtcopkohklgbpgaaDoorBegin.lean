import Derived.Test.YtcopkohklgbpgaaDoorProg
import Derived.Test.YtcopkohklgbpgaaDoorBig
import Derived.Deep.Draws
namespace Go.Proofs.YtcopkohklgbpgaaDoor
open Go.RowKit

/-- The cells of a taken. -/
def tkCells (h : Int) (f : Value) (st half : List Int) (fed : Int) : List Value :=
  .int .i64 h :: f :: (st.map (Value.int .u64) ++ (half.map (Value.int .u8) ++ [.int .u64 fed]))
def tkZero : List Value := tkCells 0 .nilFunc (List.replicate 8 0) (List.replicate 128 0) 0
def tkOf (h : Int) : List Value := tkCells h .nilFunc (List.replicate 8 0) (List.replicate 128 0) 0
theorem tkOf_length (h : Int) : (tkOf h).length = 139 := by simp [tkOf, tkCells]
theorem tkZero_length : tkZero.length = 139 := by simp [tkZero, tkCells]
theorem tkOf_one (h : Int) : (tkOf h).toArray.all (·.oneCell') = true := by kernel_rfl
theorem zero71 : ((Tryd.prog.info? 74).bind (·.zero)).map (·.cells) = some tkZero.toArray := by kernel_rfl
theorem size71 : (Tryd.prog.info? 74).map (·.size) = some 139 := by kernel_rfl
theorem built71 (h : Int) : Tryd.prog.built 74 [(0, .int .i64 h)] = some (tkOf h).toArray := by kernel_rfl
theorem built71z : Tryd.prog.built 74 [] = some tkZero.toArray := by kernel_rfl

theorem cells71 (h : Int) : Tryd.zeroCells74.setIfInBounds 0 (.int .i64 h) = (tkOf h).toArray := by kernel_rfl
theorem cells71z : Tryd.zeroCells74 = tkZero.toArray := by kernel_rfl
theorem tkZero_one : tkZero.toArray.all (·.oneCell') = true := by kernel_rfl
theorem size71a (h : Int) : (tkOf h).toArray.size = 139 := by simp [tkOf_length]
theorem size71z : tkZero.toArray.size = 139 := by simp [tkZero_length]

/-- digest.Block. -/
def blockOf (h : Int) : Int := if h = 224 ∨ h = 256 then 64 else if h = 384 ∨ h = 512 then 128 else 0
set_option maxHeartbeats 400000 in
theorem block_any (h : Int) (w : World) : Calls Tryd.prog 53 #[.int .i64 h] w fun e w' => e = .returned (.int .i64 (blockOf h)) ∧ w' = w := by
  by_cases h1 : h = 224
  · subst h1
    go_enter Tryd.func53, Tryd.ntmps53
    go_wp2
    go_ret
    exact ⟨rfl, rfl⟩
  by_cases h2 : h = 256
  · subst h2
    go_enter Tryd.func53, Tryd.ntmps53
    go_wp2
    go_ret
    exact ⟨rfl, rfl⟩
  by_cases h3 : h = 384
  · subst h3
    go_enter Tryd.func53, Tryd.ntmps53
    go_wp2
    go_ret
    exact ⟨rfl, rfl⟩
  by_cases h4 : h = 512
  · subst h4
    go_enter Tryd.func53, Tryd.ntmps53
    go_wp2
    go_ret
    exact ⟨rfl, rfl⟩
  have hb : blockOf h = 0 := by simp [blockOf, h1, h2, h3, h4]
  rw [hb]
  clear hb
  have e1 : (h == 224) = false := by simpa using h1
  have e2 : (h == 256) = false := by simpa using h2
  have e3 : (h == 384) = false := by simpa using h3
  have e4 : (h == 512) = false := by simpa using h4
  clear h1 h2 h3 h4
  go_enter Tryd.func53, Tryd.ntmps53
  go_wp2
  go_ret
  exact ⟨rfl, rfl⟩

set_option maxHeartbeats 400000 in
set_option maxRecDepth 100000 in
theorem begin_bad (h : Int) (w : World) (h1 : (h == 224) = false) (h2 : (h == 256) = false) (h3 : (h == 384) = false) (h4 : (h == 512) = false) :
    Calls Tryd.prog 41 #[.int .i64 h] w fun e w' => e = .returned (.tuple #[.agg tkZero.toArray, .int .i64 10]) ∧ Below w.heap.size w w' := by
  have e71 := cells71 h
  have hz : Tryd.zeroCells74.size = 139 := by rw [cells71z]; exact size71z
  have ht : ((w.alloc (.cells Tryd.zeroCells74 74)).alloc (.cells Tryd.zeroCells74 74)).there (w.heap.size + 1) 0 139 := by
    simpa using there_new (w.alloc (.cells Tryd.zeroCells74 74)) Tryd.zeroCells74 74 139 (by rw [hz]; exact Nat.le_refl _)
  have HT : Hid (((w.alloc (.cells Tryd.zeroCells74 74)).alloc (.cells Tryd.zeroCells74 74)).there (w.heap.size + 1) 0 139) := ht
  clear hz ht
  go_enter Tryd.func41, Tryd.ntmps41
  go_wp2_with (first
    | (refine wpList_store_mid (by rfl) 74 (.tmp 4) (.tmp 6) (by rfl) (w.heap.size + 1) 0 (tkOf h).toArray (by rfl) (by rfl) (by rw [size71a]; exact HT.out) (by rw [size71a]; exact size71) (tkOf_one h) ?_)
    | fail)
  refine (block_any h _).mono ?_
  rintro e w1 ⟨rfl, rfl⟩
  rw [show blockOf h = 0 by simp at h1 h2 h3 h4; simp [blockOf, h1, h2, h3, h4]]
  have hb2 : Below w.heap.size w (((w.alloc (.cells Tryd.zeroCells74 74)).alloc (.cells Tryd.zeroCells74 74)).setCells (w.heap.size + 1) 0 (tkOf h)) :=
    below_setCells _ (by omega) _ _ _ (((Below.refl _ _).alloc (Nat.le_refl _) _).alloc (by simp) _)
  have ht2 : (((w.alloc (.cells Tryd.zeroCells74 74)).alloc (.cells Tryd.zeroCells74 74)).setCells (w.heap.size + 1) 0 (tkOf h)).there w.heap.size 0 139 :=
    World.there_setCells (World.there_alloc (there_new w Tryd.zeroCells74 74 139 (by rw [cells71z, size71z]; exact Nat.le_refl _)) _) _ _ _
  generalize (((w.alloc (.cells Tryd.zeroCells74 74)).alloc (.cells Tryd.zeroCells74 74)).setCells (w.heap.size + 1) 0 (tkOf h)) = W2 at hb2 ht2 ⊢
  have HT2 : Hid (W2.there w.heap.size 0 139) := ht2
  have e71z := cells71z
  clear ht2 HT e71
  go_wp2_with (first
    | (refine wpList_store_mid (by rfl) 74 (.tmp 2) (.tmp 9) (by rfl) w.heap.size 0 tkZero.toArray (by rfl) (by rfl) (by rw [size71z]; exact HT2.out) (by rw [size71z]; exact size71) tkZero_one ?_)
    | fail)
  have hl := run_loadVar_mid (P := Tryd.prog) (W2.setCells w.heap.size 0 tkZero) w.heap.size 0 74 tkZero _ (World.rangeAt_setCells_same W2 w.heap.size 0 tkZero (by rw [tkZero_length]; exact HT2.out)) Tryd.underlying74 rfl (by rw [tkZero_length]; exact size71)
  refine bodyPost_ret (v := .tuple #[.agg tkZero.toArray, .int .i64 10]) ?_ rfl ⟨rfl, below_setCells _ (Nat.le_refl _) _ _ _ hb2⟩
  rw [results_cell_tmp Tryd.results41]
  simp [asAddr, hl]
end Go.Proofs.YtcopkohklgbpgaaDoor
