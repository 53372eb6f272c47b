import Derived.Test.YtgmfiljjogdccabGreatDoorPart12
import Derived.Test.YtgmfiljjogdccabGreatDoorInv2
import Derived.Test.YtgmfiljjogdccabGreatDoorPart00
import Derived.Test.YtgmfiljjogdccabGreatDoorPart09
import Derived.Deep.CutRange
namespace Go.Proofs.YtgmfiljjogdccabGreatDoor
open Go.RowKit
set_option linter.unusedVariables false
/-- A state's columns. -/
def W4.col (s : W4) : Nat → Nat
 | 0 => s.a
 | 1 => s.b
 | 2 => s.c
 | _ => s.d
/-- A state's bytes. -/
def sb (s : W4) (j : Nat) : Nat := btn (s.col (j / 4)) (j % 4)
theorem sb_lt (s : W4) (j : Nat) : sb s j < 256 := btn_lt _ _
theorem col_lt {s : W4} (h : s.ok) (q : Nat) : s.col q < 4294967296 := by
 unfold W4.col
 split
 ·exact h.1
 ·exact h.2.1
 ·exact h.2.2.1
 ·exact h.2.2.2
theorem bt_xor {x y : Nat} (hx : x < 4294967296) (hy : y < 4294967296) (j : Nat) : btn (Nat.xor x y) j = Nat.xor (btn x j) (btn y j) := by
 have e : Nat.xor x y = wd (Nat.xor (bt0 x) (bt0 y)) (Nat.xor (bt1 x) (bt1 y)) (Nat.xor (bt2 x) (bt2 y)) (Nat.xor (bt3 x) (bt3 y)) := by
  have h1 := wd_bt hx
  have h2 := wd_bt hy
  have h3 := wd_xor (bt0 x) (bt1 x) (bt2 x) (bt3 x) (bt0 y) (bt1 y) (bt2 y) (bt3 y) (bt1_lt x) (bt2_lt x) (bt3_lt x) (bt1_lt y) (bt2_lt y) (bt3_lt y)
  rw [h1, h2] at h3
  exact h3
 obtain ⟨b0, b1, b2, b3⟩ := bt_wd (xor_lt8 (bt0_lt x) (bt0_lt y)) (xor_lt8 (bt1_lt x) (bt1_lt y)) (xor_lt8 (bt2_lt x) (bt2_lt y)) (xor_lt8 (bt3_lt x) (bt3_lt y))
 rw [← e] at b0 b1 b2 b3
 unfold btn
 split
 ·exact b0
 ·exact b1
 ·exact b2
 ·exact b3
theorem addK_col (K : Nat → Nat) (r : Nat) (s : W4) (q : Nat) (hq : q < 4) : (addK K r s).col q = Nat.xor (s.col q) (K (4 * r + q)) := by
 have h : q = 0 ∨ q = 1 ∨ q = 2 ∨ q = 3 := by omega
 rcases h with rfl | rfl | rfl | rfl <;> rfl
theorem sb_add {K : Nat → Nat} (hK : ∀ i, K i < 4294967296) (r : Nat) {s : W4} (hs : s.ok) (j : Nat) (hj : j < 16) : sb (addK K r s) j = Nat.xor (sb s j) (rb K (16 * r + j)) := by
 unfold sb rb
 rw [addK_col K r s _ (by omega), bt_xor (col_lt hs _) (hK _), show (16 * r + j) / 4 = 4 * r + j / 4 by omega, show (16 * r + j) % 4 = j % 4 by omega]
theorem sb_at (s : W4) (c i : Nat) (hi : i < 4) : sb s (4 * c + i) = btn (s.col c) i := by
 unfold sb
 rw [show (4 * c + i) / 4 = c by omega, show (4 * c + i) % 4 = i by omega]
theorem last_btn (v : Nat → Nat) (i : Nat) (hi : i < 4) : btn (lastw (v 0) (v 1) (v 2) (v 3)) i = SB (btn (v i) i) := by
 obtain ⟨e0, e1, e2, e3⟩ := bt_last (v 0) (v 1) (v 2) (v 3)
 have h : i = 0 ∨ i = 1 ∨ i = 2 ∨ i = 3 := by omega
 rcases h with rfl | rfl | rfl | rfl
 ·rw [btn0, e0, btn0]
 ·rw [btn1, e1, btn1]
 ·rw [btn2, e2, btn2]
 ·rw [btn3, e3, btn3]
theorem undo_btn (v : Nat → Nat) (i : Nat) (hi : i < 4) : btn (undow (v 0) (v 1) (v 2) (v 3)) i = UB (btn (v i) i) := by
 obtain ⟨e0, e1, e2, e3⟩ := bt_undo (v 0) (v 1) (v 2) (v 3)
 have h : i = 0 ∨ i = 1 ∨ i = 2 ∨ i = 3 := by omega
 rcases h with rfl | rfl | rfl | rfl
 ·rw [btn0, e0, btn0]
 ·rw [btn1, e1, btn1]
 ·rw [btn2, e2, btn2]
 ·rw [btn3, e3, btn3]
theorem last_col (s : W4) (c : Nat) (hc : c < 4) : (lastS s).col c = lastw (s.col ((c + 0) % 4)) (s.col ((c + 1) % 4)) (s.col ((c + 2) % 4)) (s.col ((c + 3) % 4)) := by
 have h : c = 0 ∨ c = 1 ∨ c = 2 ∨ c = 3 := by omega
 rcases h with rfl | rfl | rfl | rfl <;> simp [W4.col, lastS]
theorem undo_col (s : W4) (q : Nat) (hq : q < 4) : (undoS s).col q = undow (s.col ((q + 4 - 0) % 4)) (s.col ((q + 4 - 1) % 4)) (s.col ((q + 4 - 2) % 4)) (s.col ((q + 4 - 3) % 4)) := by
 have h : q = 0 ∨ q = 1 ∨ q = 2 ∨ q = 3 := by omega
 rcases h with rfl | rfl | rfl | rfl <;> simp [W4.col, undoS]
theorem sb_last (s : W4) (c i : Nat) (hc : c < 4) (hi : i < 4) : sb (lastS s) (4 * c + i) = SB (sb s (4 * ((c + i) % 4) + i)) := by
 rw [sb_at _ _ _ hi, sb_at _ _ _ hi, last_col s c hc]
 exact last_btn (fun i => s.col ((c + i) % 4)) i hi
theorem sb_undo (s : W4) (c i : Nat) (hc : c < 4) (hi : i < 4) : sb (undoS s) (4 * ((c + i) % 4) + i) = UB (sb s (4 * c + i)) := by
 rw [sb_at _ _ _ hi, sb_at _ _ _ hi, undo_col s _ (by omega)]
 have := undo_btn (fun j => s.col (((c + i) % 4 + 4 - j) % 4)) i hi
 rw [this, show ((c + i) % 4 + 4 - i) % 4 = c by omega]
/-- A column's product, its first n terms. -/
def colX (row b : Nat → Nat) (c r : Nat) : Nat → Nat
 | 0 => 0
 | n + 1 => Nat.xor (colX row b c r n) (byF (row ((n + 4 - r) % 4)) (b (4 * c + n)))
def rowE : Nat → Nat
 | 0 => 2
 | 1 => 3
 | _ => 1
def rowD : Nat → Nat
 | 0 => 14
 | 1 => 11
 | 2 => 13
 | _ => 9
theorem byF_lt (r j : Nat) (h : j < 256) : byF r j < 256 := by
 unfold byF
 split
 ·exact h
 ·exact xl2 h
 ·exact xl3 h
 ·exact xl9 h
 ·exact xl11 h
 ·exact xl13 h
 ·exact xl14 h
theorem colX_lt (row b : Nat → Nat) (hb : ∀ j, b j < 256) (c r : Nat) : ∀ n, colX row b c r n < 256
 | 0 => by rw [colX]; decide
 | n + 1 => xor_lt8 (colX_lt row b hb c r n) (byF_lt _ _ (hb _))
theorem zero_xor8 (a : Nat) : Nat.xor 0 a = a := Nat.zero_xor a
theorem colX4 (row b : Nat → Nat) (c r : Nat) : colX row b c r 4 = Nat.xor (Nat.xor (Nat.xor (byF (row ((0 + 4 - r) % 4)) (b (4 * c))) (byF (row ((1 + 4 - r) % 4)) (b (4 * c + 1)))) (byF (row ((2 + 4 - r) % 4)) (b (4 * c + 2)))) (byF (row ((3 + 4 - r) % 4)) (b (4 * c + 3))) := by
 simp only [colX, zero_xor8, Nat.add_zero]
theorem col_map (f : Nat → Nat) (s : W4) (c : Nat) (hc : c < 4) : W4.col ⟨f s.a, f s.b, f s.c, f s.d⟩ c = f (s.col c) := by
 have h : c = 0 ∨ c = 1 ∨ c = 2 ∨ c = 3 := by omega
 rcases h with rfl | rfl | rfl | rfl <;> rfl
theorem mc_col (s : W4) (c : Nat) (hc : c < 4) : (mcS s).col c = mcw (s.col c) := by
 unfold mcS
 exact col_map mcw s c hc
theorem unm_col (s : W4) (c : Nat) (hc : c < 4) : (unmS s).col c = unmw (s.col c) := by
 unfold unmS
 exact col_map unmw s c hc
theorem sb_mc (s : W4) (c r : Nat) (hc : c < 4) (hr : r < 4) : colX rowE (sb s) c r 4 = sb (mcS s) (4 * c + r) := by
 have b0 := sb_at s c 0 (by decide)
 rw [Nat.add_zero] at b0
 rw [colX4, b0, sb_at s c 1 (by decide), sb_at s c 2 (by decide), sb_at s c 3 (by decide), sb_at _ c r hr, mc_col s c hc]
 obtain ⟨e0, e1, e2, e3⟩ := mcw_bt (s.col c)
 generalize s.col c = x at *
 have h : r = 0 ∨ r = 1 ∨ r = 2 ∨ r = 3 := by omega
 rcases h with rfl | rfl | rfl | rfl
 ·rw [btn0 (mcw x), e0]; rfl
 ·rw [btn1 (mcw x), e1]; rfl
 ·rw [btn2 (mcw x), e2]; rfl
 ·rw [btn3 (mcw x), e3]; rfl
theorem sb_unm (s : W4) (c r : Nat) (hc : c < 4) (hr : r < 4) : colX rowD (sb s) c r 4 = sb (unmS s) (4 * c + r) := by
 have b0 := sb_at s c 0 (by decide)
 rw [Nat.add_zero] at b0
 rw [colX4, b0, sb_at s c 1 (by decide), sb_at s c 2 (by decide), sb_at s c 3 (by decide), sb_at _ c r hr, unm_col s c hc]
 obtain ⟨e0, e1, e2, e3⟩ := unmw_bt (s.col c)
 generalize s.col c = x at *
 have h : r = 0 ∨ r = 1 ∨ r = 2 ∨ r = 3 := by omega
 rcases h with rfl | rfl | rfl | rfl
 ·rw [btn0 (unmw x), e0]; rfl
 ·rw [btn1 (unmw x), e1]; rfl
 ·rw [btn2 (unmw x), e2]; rfl
 ·rw [btn3 (unmw x), e3]; rfl
/-- Sixteen bytes as an array. -/
def arL (f : Nat → Nat) : List Value := [.int .u8 (f 0 : Nat), .int .u8 (f 1 : Nat), .int .u8 (f 2 : Nat), .int .u8 (f 3 : Nat), .int .u8 (f 4 : Nat), .int .u8 (f 5 : Nat), .int .u8 (f 6 : Nat), .int .u8 (f 7 : Nat), .int .u8 (f 8 : Nat), .int .u8 (f 9 : Nat), .int .u8 (f 10 : Nat), .int .u8 (f 11 : Nat), .int .u8 (f 12 : Nat), .int .u8 (f 13 : Nat), .int .u8 (f 14 : Nat), .int .u8 (f 15 : Nat)]
def arA (f : Nat → Nat) : Array Value := #[.int .u8 (f 0 : Nat), .int .u8 (f 1 : Nat), .int .u8 (f 2 : Nat), .int .u8 (f 3 : Nat), .int .u8 (f 4 : Nat), .int .u8 (f 5 : Nat), .int .u8 (f 6 : Nat), .int .u8 (f 7 : Nat), .int .u8 (f 8 : Nat), .int .u8 (f 9 : Nat), .int .u8 (f 10 : Nat), .int .u8 (f 11 : Nat), .int .u8 (f 12 : Nat), .int .u8 (f 13 : Nat), .int .u8 (f 14 : Nat), .int .u8 (f 15 : Nat)]
theorem arA_list (f : Nat → Nat) : (arA f).toList = arL f := rfl
theorem arL_array (f : Nat → Nat) : (arL f).toArray = arA f := rfl
theorem arL_map (f : Nat → Nat) : arL f = (List.range 16).map fun j => .int .u8 (f j : Nat) := by simp [arL, List.range_succ]
theorem arL_at (f : Nat → Nat) (j : Nat) (h : j < 16) : (arL f)[j]? = some (.int .u8 (f j : Nat)) := by rw [arL_map]; simp [h]
theorem blk_sb (s : W4) : s.blk = .agg (arA (sb s)) := rfl
theorem arL_congr {f g : Nat → Nat} (h : ∀ j, j < 16 → f j = g j) : arL f = arL g := by
 rw [arL_map, arL_map]
 exact List.map_congr_left fun j hj => by rw [h j (by simpa using hj)]
theorem arA_congr {f g : Nat → Nat} (h : ∀ j, j < 16 → f j = g j) : arA f = arA g := by rw [← arL_array, ← arL_array, arL_congr h]
end Go.Proofs.YtgmfiljjogdccabGreatDoor
namespace Go.Proofs.YtgmfiljjogdccabGreatDoor
open Go.RowKit
set_option linter.unusedVariables false
theorem sl_h (b o : Nat) (w' : World) : Sem.run Tryz.prog (Instr.sliceAt 38 (.pointer (some ⟨b, o, none⟩)) none (some (.int .i64 8)) none) w' = .ok (.slice (some ⟨b, o, none⟩) 8 16) w' := by
 have h := run_sliceAt_array_h (P := Tryz.prog) w' 38 ⟨b, o, none⟩ (by kernel_rfl) .i64 8 (by omega) (by rw [show Tryz.prog.arrayLen 38 = 16 by kernel_rfl]; omega)
 rw [h, show Tryz.prog.arrayLen 38 = 16 by kernel_rfl, show Tryz.prog.elem 38 = 5 by kernel_rfl]
 have e3 : (sizeOf 5).run Tryz.prog w' = .ok 1 w' := by kernel_rfl
 rw [e3]
 simp only [Result.andThen_ok, slicedAt]
 rw [if_neg (by decide), Nat.zero_mul, Addr.add_mid]
 rfl
theorem sl_l (b o : Nat) (w' : World) : Sem.run Tryz.prog (Instr.sliceAt 38 (.pointer (some ⟨b, o, none⟩)) (some (.int .i64 8)) none none) w' = .ok (.slice (some ⟨b, o + 8, none⟩) 8 8) w' := by
 have h := run_sliceAt_array_l (P := Tryz.prog) w' 38 ⟨b, o, none⟩ (by kernel_rfl) .i64 8 (by omega) (by rw [show Tryz.prog.arrayLen 38 = 16 by kernel_rfl]; omega)
 rw [h, show Tryz.prog.arrayLen 38 = 16 by kernel_rfl, show Tryz.prog.elem 38 = 5 by kernel_rfl]
 have e3 : (sizeOf 5).run Tryz.prog w' = .ok 1 w' := by kernel_rfl
 rw [e3]
 simp only [Result.andThen_ok, slicedAt]
 rw [if_neg (by decide), Nat.mul_one, Addr.add_mid]
 rfl
set_option maxHeartbeats 1600000 in
set_option maxRecDepth 100000 in
theorem halves_ok (s : W4) (hs : s.ok) (w : World) : Calls Tryz.prog 76 #[s.blk] w fun e w' => e = .returned (.tuple #[.int .u64 (s.a * 4294967296 + s.b : Nat), .int .u64 (s.c * 4294967296 + s.d : Nat)]) ∧ Below w.heap.size w w' := by
 obtain ⟨x, HX⟩ : ∃ x, Hid (x = s.a * 4294967296 + s.b) := ⟨_, rfl⟩
 obtain ⟨y, HY⟩ : ∃ x, Hid (x = s.c * 4294967296 + s.d) := ⟨_, rfl⟩
 have hr : (w.alloc (.cells #[.int .u8 (bt0 s.a : Nat), .int .u8 (bt1 s.a : Nat), .int .u8 (bt2 s.a : Nat), .int .u8 (bt3 s.a : Nat), .int .u8 (bt0 s.b : Nat), .int .u8 (bt1 s.b : Nat), .int .u8 (bt2 s.b : Nat), .int .u8 (bt3 s.b : Nat), .int .u8 (bt0 s.c : Nat), .int .u8 (bt1 s.c : Nat), .int .u8 (bt2 s.c : Nat), .int .u8 (bt3 s.c : Nat), .int .u8 (bt0 s.d : Nat), .int .u8 (bt1 s.d : Nat), .int .u8 (bt2 s.d : Nat), .int .u8 (bt3 s.d : Nat)] 38)).rangeAt w.heap.size 0 [.int .u8 (bt0 s.a : Nat), .int .u8 (bt1 s.a : Nat), .int .u8 (bt2 s.a : Nat), .int .u8 (bt3 s.a : Nat), .int .u8 (bt0 s.b : Nat), .int .u8 (bt1 s.b : Nat), .int .u8 (bt2 s.b : Nat), .int .u8 (bt3 s.b : Nat), .int .u8 (bt0 s.c : Nat), .int .u8 (bt1 s.c : Nat), .int .u8 (bt2 s.c : Nat), .int .u8 (bt3 s.c : Nat), .int .u8 (bt0 s.d : Nat), .int .u8 (bt1 s.d : Nat), .int .u8 (bt2 s.d : Nat), .int .u8 (bt3 s.d : Nat)] := rangeAt_new w #[.int .u8 (bt0 s.a : Nat), .int .u8 (bt1 s.a : Nat), .int .u8 (bt2 s.a : Nat), .int .u8 (bt3 s.a : Nat), .int .u8 (bt0 s.b : Nat), .int .u8 (bt1 s.b : Nat), .int .u8 (bt2 s.b : Nat), .int .u8 (bt3 s.b : Nat), .int .u8 (bt0 s.c : Nat), .int .u8 (bt1 s.c : Nat), .int .u8 (bt2 s.c : Nat), .int .u8 (bt3 s.c : Nat), .int .u8 (bt0 s.d : Nat), .int .u8 (bt1 s.d : Nat), .int .u8 (bt2 s.d : Nat), .int .u8 (bt3 s.d : Nat)] 38
 obtain ⟨k1, k2⟩ := halves_at w.heap.size s hs (w.alloc (.cells #[.int .u8 (bt0 s.a : Nat), .int .u8 (bt1 s.a : Nat), .int .u8 (bt2 s.a : Nat), .int .u8 (bt3 s.a : Nat), .int .u8 (bt0 s.b : Nat), .int .u8 (bt1 s.b : Nat), .int .u8 (bt2 s.b : Nat), .int .u8 (bt3 s.b : Nat), .int .u8 (bt0 s.c : Nat), .int .u8 (bt1 s.c : Nat), .int .u8 (bt2 s.c : Nat), .int .u8 (bt3 s.c : Nat), .int .u8 (bt0 s.d : Nat), .int .u8 (bt1 s.d : Nat), .int .u8 (bt2 s.d : Nat), .int .u8 (bt3 s.d : Nat)] 38)) hr
 rw [← HX.out] at k1 ⊢
 rw [← HY.out] at k2 ⊢
 have K1 : Hid (∀ u, Below (w.heap.size + 1) (w.alloc (.cells #[.int .u8 (bt0 s.a : Nat), .int .u8 (bt1 s.a : Nat), .int .u8 (bt2 s.a : Nat), .int .u8 (bt3 s.a : Nat), .int .u8 (bt0 s.b : Nat), .int .u8 (bt1 s.b : Nat), .int .u8 (bt2 s.b : Nat), .int .u8 (bt3 s.b : Nat), .int .u8 (bt0 s.c : Nat), .int .u8 (bt1 s.c : Nat), .int .u8 (bt2 s.c : Nat), .int .u8 (bt3 s.c : Nat), .int .u8 (bt0 s.d : Nat), .int .u8 (bt1 s.d : Nat), .int .u8 (bt2 s.d : Nat), .int .u8 (bt3 s.d : Nat)] 38)) u → Calls Tryz.prog 88 #[.slice (some ⟨w.heap.size, 0, none⟩) 8 16] u fun e u' => e = .returned (.int .u64 (x : Nat)) ∧ u' = u) := k1
 have K2 : Hid (∀ u, Below (w.heap.size + 1) (w.alloc (.cells #[.int .u8 (bt0 s.a : Nat), .int .u8 (bt1 s.a : Nat), .int .u8 (bt2 s.a : Nat), .int .u8 (bt3 s.a : Nat), .int .u8 (bt0 s.b : Nat), .int .u8 (bt1 s.b : Nat), .int .u8 (bt2 s.b : Nat), .int .u8 (bt3 s.b : Nat), .int .u8 (bt0 s.c : Nat), .int .u8 (bt1 s.c : Nat), .int .u8 (bt2 s.c : Nat), .int .u8 (bt3 s.c : Nat), .int .u8 (bt0 s.d : Nat), .int .u8 (bt1 s.d : Nat), .int .u8 (bt2 s.d : Nat), .int .u8 (bt3 s.d : Nat)] 38)) u → Calls Tryz.prog 88 #[.slice (some ⟨w.heap.size, 8, none⟩) 8 8] u fun e u' => e = .returned (.int .u64 (y : Nat)) ∧ u' = u) := k2
 have e1 := sl_h w.heap.size 0
 have e2 := sl_l w.heap.size 0
 clear k1 k2 hr hs
 show Calls Tryz.prog 76 #[.agg #[.int .u8 (bt0 s.a : Nat), .int .u8 (bt1 s.a : Nat), .int .u8 (bt2 s.a : Nat), .int .u8 (bt3 s.a : Nat), .int .u8 (bt0 s.b : Nat), .int .u8 (bt1 s.b : Nat), .int .u8 (bt2 s.b : Nat), .int .u8 (bt3 s.b : Nat), .int .u8 (bt0 s.c : Nat), .int .u8 (bt1 s.c : Nat), .int .u8 (bt2 s.c : Nat), .int .u8 (bt3 s.c : Nat), .int .u8 (bt0 s.d : Nat), .int .u8 (bt1 s.d : Nat), .int .u8 (bt2 s.d : Nat), .int .u8 (bt3 s.d : Nat)]] w _
 go_enter Tryz.func76, Tryz.ntmps76
 go_upto_region 1 with fail
 refine wp_region_noPanic ?_
 refine wp_region_held_drew (S := fun u => Below (w.heap.size + 1) (w.alloc (.cells #[.int .u8 (bt0 s.a : Nat), .int .u8 (bt1 s.a : Nat), .int .u8 (bt2 s.a : Nat), .int .u8 (bt3 s.a : Nat), .int .u8 (bt0 s.b : Nat), .int .u8 (bt1 s.b : Nat), .int .u8 (bt2 s.b : Nat), .int .u8 (bt3 s.b : Nat), .int .u8 (bt0 s.c : Nat), .int .u8 (bt1 s.c : Nat), .int .u8 (bt2 s.c : Nat), .int .u8 (bt3 s.c : Nat), .int .u8 (bt0 s.d : Nat), .int .u8 (bt1 s.d : Nat), .int .u8 (bt2 s.d : Nat), .int .u8 (bt3 s.d : Nat)] 38)) u) (by kernel_rfl) ((Below.refl _ _).drew) (fun _ => ?_)
 refine tG 0 4 (.slice (some ⟨w.heap.size, 0, none⟩) 8 16) rfl rfl ((Below.refl _ _).drew) ?_
 simp only [pU]
 refine tG 2 6 (.slice (some ⟨w.heap.size, 8, none⟩) 8 8) rfl rfl ((Below.refl _ _).drew) ?_
 simp only [pU]
 refine wpAnyH_ready (rs := [1]) (by kernel_rfl) (by simp) ?_
 refine AllReadyH.cons rfl (fun K hK => ?_) AllReadyH.nil
 go_simp
 refine (K1.out _ (Below.refl _ _).drew).mono ?_
 rintro e1 w1 ⟨rfl, hw1⟩
 obtain rfl := hw1.symm
 go_wp2_with fail
 refine hK.out _ _ ((Below.refl _ _).drew) (fun _ => ?_)
 clear hK K
 try simp only [pU]
 refine wpAnyH_ready (rs := [3]) (by kernel_rfl) (by simp) ?_
 refine AllReadyH.cons rfl (fun K hK => ?_) AllReadyH.nil
 go_simp
 refine (K2.out _ (Below.refl _ _).drew).mono ?_
 rintro e1 w1 ⟨rfl, hw1⟩
 obtain rfl := hw1.symm
 go_wp2_with fail
 refine hK.out _ _ ((Below.refl _ _).drew) (fun _ => ?_)
 clear hK K
 try simp only [pU]
 refine tG 4 2 (.int .u64 (x : Nat)) rfl rfl ((Below.refl _ _).drew) ?_
 simp only [pU]
 refine tG 5 3 (.int .u64 (y : Nat)) rfl rfl ((Below.refl _ _).drew) ?_
 simp only [pU]
 refine wpAnyH_done (by kernel_rfl) ?_ _
 refine NoPanic.normal ?_
 go_wp2
 go_ret2
 exact ⟨rfl, ((Below.refl _ w).alloc (Nat.le_refl _) _).drew⟩
/-- A block out of its halves. -/
def joinW (h l : Nat) : W4 := ⟨h / 4294967296, h % 4294967296, l / 4294967296, l % 4294967296⟩
theorem joinW_ok {h l : Nat} (hh : h < 18446744073709551616) (hl : l < 18446744073709551616) : (joinW h l).ok := by unfold joinW W4.ok; simp only; omega
theorem byteK_hi (n : Nat) (h : n < 18446744073709551616) : byteK n 0 = bt0 (n / 4294967296) ∧ byteK n 1 = bt1 (n / 4294967296) ∧ byteK n 2 = bt2 (n / 4294967296) ∧ byteK n 3 = bt3 (n / 4294967296) ∧ byteK n 4 = bt0 (n % 4294967296) ∧ byteK n 5 = bt1 (n % 4294967296) ∧ byteK n 6 = bt2 (n % 4294967296) ∧ byteK n 7 = bt3 (n % 4294967296) := by
 have e0 : byteK n 0 = n / 72057594037927936 % 256 := rfl
 have e1 : byteK n 1 = n / 281474976710656 % 256 := rfl
 have e2 : byteK n 2 = n / 1099511627776 % 256 := rfl
 have e3 : byteK n 3 = n / 4294967296 % 256 := rfl
 have e4 : byteK n 4 = n / 16777216 % 256 := rfl
 have e5 : byteK n 5 = n / 65536 % 256 := rfl
 have e6 : byteK n 6 = n / 256 % 256 := rfl
 have e7 : byteK n 7 = n / 1 % 256 := rfl
 unfold bt0 bt1 bt2 bt3
 rw [e0, e1, e2, e3, e4, e5, e6, e7]
 refine ⟨?_, ?_, ?_, ?_, ?_, ?_, ?_, ?_⟩ <;> omega
set_option maxHeartbeats 1600000 in
set_option maxRecDepth 100000 in
theorem join_ok (h l : Nat) (hh : h < 18446744073709551616) (hl : l < 18446744073709551616) (w : World) : Calls Tryz.prog 78 #[.int .u64 (h : Nat), .int .u64 (l : Nat)] w fun e w' => e = .returned (joinW h l).blk ∧ Below w.heap.size w w' := by
 have HH : Hid (h < 18446744073709551616) := hh
 have HL : Hid (l < 18446744073709551616) := hl
 have e1 := sl_h (w.heap.size + 1) 0
 have e2 := sl_l (w.heap.size + 1) 0
 have HT : Hid (((w.alloc (.cells #[.int .u8 0, .int .u8 0, .int .u8 0, .int .u8 0, .int .u8 0, .int .u8 0, .int .u8 0, .int .u8 0, .int .u8 0, .int .u8 0, .int .u8 0, .int .u8 0, .int .u8 0, .int .u8 0, .int .u8 0, .int .u8 0] 38)).alloc (.cells #[.int .u8 0, .int .u8 0, .int .u8 0, .int .u8 0, .int .u8 0, .int .u8 0, .int .u8 0, .int .u8 0, .int .u8 0, .int .u8 0, .int .u8 0, .int .u8 0, .int .u8 0, .int .u8 0, .int .u8 0, .int .u8 0] 38)).there (w.heap.size + 1) 0 16 ∧ ((w.alloc (.cells #[.int .u8 0, .int .u8 0, .int .u8 0, .int .u8 0, .int .u8 0, .int .u8 0, .int .u8 0, .int .u8 0, .int .u8 0, .int .u8 0, .int .u8 0, .int .u8 0, .int .u8 0, .int .u8 0, .int .u8 0, .int .u8 0] 38)).alloc (.cells #[.int .u8 0, .int .u8 0, .int .u8 0, .int .u8 0, .int .u8 0, .int .u8 0, .int .u8 0, .int .u8 0, .int .u8 0, .int .u8 0, .int .u8 0, .int .u8 0, .int .u8 0, .int .u8 0, .int .u8 0, .int .u8 0] 38)).there w.heap.size 0 16 ∧ Below w.heap.size w ((w.alloc (.cells #[.int .u8 0, .int .u8 0, .int .u8 0, .int .u8 0, .int .u8 0, .int .u8 0, .int .u8 0, .int .u8 0, .int .u8 0, .int .u8 0, .int .u8 0, .int .u8 0, .int .u8 0, .int .u8 0, .int .u8 0, .int .u8 0] 38)).alloc (.cells #[.int .u8 0, .int .u8 0, .int .u8 0, .int .u8 0, .int .u8 0, .int .u8 0, .int .u8 0, .int .u8 0, .int .u8 0, .int .u8 0, .int .u8 0, .int .u8 0, .int .u8 0, .int .u8 0, .int .u8 0, .int .u8 0] 38)) ∧ ((w.alloc (.cells #[.int .u8 0, .int .u8 0, .int .u8 0, .int .u8 0, .int .u8 0, .int .u8 0, .int .u8 0, .int .u8 0, .int .u8 0, .int .u8 0, .int .u8 0, .int .u8 0, .int .u8 0, .int .u8 0, .int .u8 0, .int .u8 0] 38)).alloc (.cells #[.int .u8 0, .int .u8 0, .int .u8 0, .int .u8 0, .int .u8 0, .int .u8 0, .int .u8 0, .int .u8 0, .int .u8 0, .int .u8 0, .int .u8 0, .int .u8 0, .int .u8 0, .int .u8 0, .int .u8 0, .int .u8 0] 38)).heap.size = w.heap.size + 2) :=
  ⟨there_two w _ _ 38 38 rfl, World.there_alloc (there_new w _ 38 16 (Nat.le_refl _)) _, (two_allocs w _ _ 38 38).1, by simp⟩
 clear hh hl
 go_enter Tryz.func78, Tryz.ntmps78
 go_upto_region 2 with fail
 generalize (w.alloc (.cells #[.int .u8 0, .int .u8 0, .int .u8 0, .int .u8 0, .int .u8 0, .int .u8 0, .int .u8 0, .int .u8 0, .int .u8 0, .int .u8 0, .int .u8 0, .int .u8 0, .int .u8 0, .int .u8 0, .int .u8 0, .int .u8 0] 38)).alloc (.cells #[.int .u8 0, .int .u8 0, .int .u8 0, .int .u8 0, .int .u8 0, .int .u8 0, .int .u8 0, .int .u8 0, .int .u8 0, .int .u8 0, .int .u8 0, .int .u8 0, .int .u8 0, .int .u8 0, .int .u8 0, .int .u8 0] 38) = w2 at HT ⊢
 have K1 : Hid (Calls Tryz.prog 89 #[.slice (some ⟨w.heap.size + 1, 0, none⟩) 8 16, .int .u64 (h : Nat)] w2 fun e w' => e = .returned (.tuple #[]) ∧ Touch w2 w' (w.heap.size + 1) 0 8 ∧ ∀ k, k < 8 → w'.cell? ⟨w.heap.size + 1, 0 + k, none⟩ = some (.int .u8 (byteK h k : Nat))) := put_ok (w.heap.size + 1) 0 8 16 h w2 (Nat.le_refl _) HH.out (fun j hj => HT.out.1 j (by omega))
 go_wp2_with (first | (go_at_call 89; refine K1.out.mono ?_))
 rintro e3 w3 ⟨rfl, ht3, hc3⟩
 have K2 : Hid (Calls Tryz.prog 89 #[.slice (some ⟨w.heap.size + 1, 8, none⟩) 8 8, .int .u64 (l : Nat)] w3 fun e w' => e = .returned (.tuple #[]) ∧ Touch w3 w' (w.heap.size + 1) 8 8 ∧ ∀ k, k < 8 → w'.cell? ⟨w.heap.size + 1, 8 + k, none⟩ = some (.int .u8 (byteK l k : Nat))) := put_ok (w.heap.size + 1) 8 8 8 l w3 (Nat.le_refl _) HL.out (fun j hj => by have := ht3.there _ _ HT.out.1 (8 + j) (by omega); rw [Nat.zero_add] at this; exact this)
 have H3 : Hid (Touch w2 w3 (w.heap.size + 1) 0 8 ∧ ∀ k, k < 8 → w3.cell? ⟨w.heap.size + 1, 0 + k, none⟩ = some (.int .u8 (byteK h k : Nat))) := ⟨ht3, hc3⟩
 clear ht3 hc3 K1
 go_wp2_with (first | (go_at_call 89; refine K2.out.mono ?_))
 rintro e4 w4 ⟨rfl, ht4, hc4⟩
 have H4 : Hid (w4.rangeAt (w.heap.size + 1) 0 [.int .u8 (byteK h 0 : Nat), .int .u8 (byteK h 1 : Nat), .int .u8 (byteK h 2 : Nat), .int .u8 (byteK h 3 : Nat), .int .u8 (byteK h 4 : Nat), .int .u8 (byteK h 5 : Nat), .int .u8 (byteK h 6 : Nat), .int .u8 (byteK h 7 : Nat), .int .u8 (byteK l 0 : Nat), .int .u8 (byteK l 1 : Nat), .int .u8 (byteK l 2 : Nat), .int .u8 (byteK l 3 : Nat), .int .u8 (byteK l 4 : Nat), .int .u8 (byteK l 5 : Nat), .int .u8 (byteK l 6 : Nat), .int .u8 (byteK l 7 : Nat)] ∧ w4.there w.heap.size 0 16 ∧ Below w.heap.size w w4) := by
  obtain ⟨t1, t2, t3, t4⟩ := HT.out
  obtain ⟨p1, p2⟩ := H3.out
  have hs1 := p1.size
  have hs2 := ht4.size
  refine ⟨fun j v hv => ?_, fun j hj => ?_, ?_⟩
  ·have hj : j < 16 := (List.getElem?_eq_some_iff.1 hv).1
   have h16 : j = 0 ∨ j = 1 ∨ j = 2 ∨ j = 3 ∨ j = 4 ∨ j = 5 ∨ j = 6 ∨ j = 7 ∨ j = 8 ∨ j = 9 ∨ j = 10 ∨ j = 11 ∨ j = 12 ∨ j = 13 ∨ j = 14 ∨ j = 15 := by omega
   have q1 : ∀ k, k < 8 → w4.cell? ⟨w.heap.size + 1, 0 + k, none⟩ = some (.int .u8 (byteK h k : Nat)) := fun k hk => (ht4.cell _ (by omega)).trans (p2 k hk)
   have q2 : ∀ k, k < 8 → w4.cell? ⟨w.heap.size + 1, 0 + (8 + k), none⟩ = some (.int .u8 (byteK l k : Nat)) := fun k hk => by rw [Nat.zero_add]; exact hc4 k hk
   rcases h16 with rfl | rfl | rfl | rfl | rfl | rfl | rfl | rfl | rfl | rfl | rfl | rfl | rfl | rfl | rfl | rfl
   all_goals (obtain rfl := Option.some.inj hv)
   all_goals first | exact q1 _ (by omega) | exact q2 0 (by omega) | exact q2 1 (by omega) | exact q2 2 (by omega) | exact q2 3 (by omega) | exact q2 4 (by omega) | exact q2 5 (by omega) | exact q2 6 (by omega) | exact q2 7 (by omega)
  ·rw [ht4.far (p := ⟨w.heap.size, 0 + j, none⟩) (show w.heap.size < _ by omega) (show w.heap.size ≠ _ by omega), ht4.farFrozen (p := ⟨w.heap.size, 0 + j, none⟩) (show w.heap.size < _ by omega) (show w.heap.size ≠ _ by omega), p1.far (p := ⟨w.heap.size, 0 + j, none⟩) (show w.heap.size < _ by omega) (show w.heap.size ≠ _ by omega), p1.farFrozen (p := ⟨w.heap.size, 0 + j, none⟩) (show w.heap.size < _ by omega) (show w.heap.size ≠ _ by omega)]
   exact t2 j hj
  ·exact (t3.trans (p1.toBelow (Nat.le_succ _) (by omega))).trans (ht4.toBelow (Nat.le_succ _) (by omega))
 clear ht4 hc4 K2 H3
 have hl4 := run_loadVar_mid (P := Tryz.prog) w4 (w.heap.size + 1) 0 38 [.int .u8 (byteK h 0 : Nat), .int .u8 (byteK h 1 : Nat), .int .u8 (byteK h 2 : Nat), .int .u8 (byteK h 3 : Nat), .int .u8 (byteK h 4 : Nat), .int .u8 (byteK h 5 : Nat), .int .u8 (byteK h 6 : Nat), .int .u8 (byteK h 7 : Nat), .int .u8 (byteK l 0 : Nat), .int .u8 (byteK l 1 : Nat), .int .u8 (byteK l 2 : Nat), .int .u8 (byteK l 3 : Nat), .int .u8 (byteK l 4 : Nat), .int .u8 (byteK l 5 : Nat), .int .u8 (byteK l 6 : Nat), .int .u8 (byteK l 7 : Nat)] _ H4.out.1 Tryz.underlying38 rfl size42
 go_wp2_with (first
  | (refine wpList_load_mid (by rfl) 38 (.tmp 5) (by rfl) (w.heap.size + 1) 0 (by rfl) [.int .u8 (byteK h 0 : Nat), .int .u8 (byteK h 1 : Nat), .int .u8 (byteK h 2 : Nat), .int .u8 (byteK h 3 : Nat), .int .u8 (byteK h 4 : Nat), .int .u8 (byteK h 5 : Nat), .int .u8 (byteK h 6 : Nat), .int .u8 (byteK h 7 : Nat), .int .u8 (byteK l 0 : Nat), .int .u8 (byteK l 1 : Nat), .int .u8 (byteK l 2 : Nat), .int .u8 (byteK l 3 : Nat), .int .u8 (byteK l 4 : Nat), .int .u8 (byteK l 5 : Nat), .int .u8 (byteK l 6 : Nat), .int .u8 (byteK l 7 : Nat)] _ H4.out.1 Tryz.underlying38 rfl size42 ?_)
  | (refine wpList_store_mid (by rfl) 38 (.tmp 4) (.tmp 12) (by rfl) w.heap.size 0 ([.int .u8 (byteK h 0 : Nat), .int .u8 (byteK h 1 : Nat), .int .u8 (byteK h 2 : Nat), .int .u8 (byteK h 3 : Nat), .int .u8 (byteK h 4 : Nat), .int .u8 (byteK h 5 : Nat), .int .u8 (byteK h 6 : Nat), .int .u8 (byteK h 7 : Nat), .int .u8 (byteK l 0 : Nat), .int .u8 (byteK l 1 : Nat), .int .u8 (byteK l 2 : Nat), .int .u8 (byteK l 3 : Nat), .int .u8 (byteK l 4 : Nat), .int .u8 (byteK l 5 : Nat), .int .u8 (byteK l 6 : Nat), .int .u8 (byteK l 7 : Nat)]).toArray (by rfl) (by rfl) H4.out.2.1 size42 (by kernel_rfl) ?_)
  | fail)
 refine ret_array [.int .u8 (byteK h 0 : Nat), .int .u8 (byteK h 1 : Nat), .int .u8 (byteK h 2 : Nat), .int .u8 (byteK h 3 : Nat), .int .u8 (byteK h 4 : Nat), .int .u8 (byteK h 5 : Nat), .int .u8 (byteK h 6 : Nat), .int .u8 (byteK h 7 : Nat), .int .u8 (byteK l 0 : Nat), .int .u8 (byteK l 1 : Nat), .int .u8 (byteK l 2 : Nat), .int .u8 (byteK l 3 : Nat), .int .u8 (byteK l 4 : Nat), .int .u8 (byteK l 5 : Nat), .int .u8 (byteK l 6 : Nat), .int .u8 (byteK l 7 : Nat)] Tryz.results78 rfl (World.rangeAt_setCells_same _ _ _ _ H4.out.2.1) Tryz.underlying38 rfl size42 ⟨?_, belowB_setCells _ (Nat.le_refl _) _ _ _ H4.out.2.2⟩
 obtain ⟨a0, a1, a2, a3, a4, a5, a6, a7⟩ := byteK_hi h HH.out
 obtain ⟨b0, b1, b2, b3, b4, b5, b6, b7⟩ := byteK_hi l HL.out
 rw [a0, a1, a2, a3, a4, a5, a6, a7, b0, b1, b2, b3, b4, b5, b6, b7]
 exact rfl
end Go.Proofs.YtgmfiljjogdccabGreatDoor
namespace Go.Proofs.YtgmfiljjogdccabGreatDoor
open Go.RowKit Go.RwLone
set_option linter.unusedVariables false
/-- The key is let go. -/
theorem unlocked {w w3 : World} {g nr : Nat} {K : Nat → Nat} (hk : KeyAt w g nr K) (ht : Touch w w3 g 4 1) (hc : w3.cell? ⟨g, 4, none⟩ = some (.int .i32 1)) :
  CallsD Tryz.prog 42 #[.pointer (some ⟨g, 0, none⟩)] .returning w3 fun e u' w' => u' = .returning ∧ e = .returned (.tuple #[]) ∧ KeyAt w' g nr K ∧ Touch w w' g 4 1 ∧ w' = w3.setCells g 4 [.int .i32 0] := by
 have hroom : w3.there g 0 1091 := ht.there _ _ hk.room
 obtain ⟨x0, c0⟩ := cell_of_there hroom 0 (by decide)
 obtain ⟨x2, c2⟩ := cell_of_there hroom 2 (by decide)
 have hz := (hroom 4 (by decide)).2
 refine (runlock_deferred rwRLib g 0 1 x0 x2 .returning w3 c0 c2 hc hz (by decide +kernel)).mono ?_
 rintro e u' w' ⟨rfl, rfl, hw⟩
 rw [show wrap32 (1 + -1) = 0 by decide +kernel] at hw
 have hw' : w' = w3.setCells g 4 [.int .i32 0] := hw
 have ht' : Touch w w' g 4 1 := by rw [hw']; exact ht.setCells 4 _ (by omega) (by simp)
 have hc' : w'.cell? ⟨g, 4, none⟩ = some (.int .i32 0) := by
  rw [hw]
  exact World.cell?_setCell_same' _ _ _ (by rw [show (0 + 4) = 4 from rfl, hc]; rfl)
 exact ⟨rfl, rfl, hk.touch ht' hc', ht', hw'⟩
theorem held {w w1 : World} {g nr : Nat} {K : Nat → Nat} (h : KeyAt w g nr K) (hw : w1 = w.setCell ⟨g, 4, none⟩ (.int .i32 1)) : Ciph w1 g 6 nr K ∧ Touch w w1 g 4 1 ∧ w1.cell? ⟨g, 4, none⟩ = some (.int .i32 1) := by
 rw [hw]
 refine ⟨held_ciph h 1, (Touch.refl _ g 4 1).setCell 4 _ (by omega) (by omega), ?_⟩
 have := (h.room 4 (by decide)).1
 exact World.cell?_setCell_same' _ _ _ (by simpa using this)
set_option maxHeartbeats 1600000 in
set_option maxRecDepth 100000 in
theorem size_ok (g nr : Nat) (K : Nat → Nat) (w : World) (h : KeyAt w g nr K) (h6 : 6 ≤ nr) : Calls Tryz.prog 30 #[.pointer (some ⟨g, 0, none⟩)] w fun e w' => e = .returned (.int .i64 (4 * (nr - 6) : Nat)) ∧ KeyAt w' g nr K ∧ Touch w w' g 4 1 := by
 have HK : Hid (KeyAt w g nr K) := h
 have HH : Hid (Calls Tryz.prog 41 #[.pointer (some ⟨g, 0, none⟩)] w fun e w' => e = .returned (.int .i64 0) ∧ w' = w.setCell ⟨g, 4, none⟩ (.int .i32 1)) := hold_ok g nr K w h
 have h14 := h.ciph.most
 clear h
 go_enter_defers Tryz.func30, Tryz.ntmps30
 go_wp2_with (first | (go_at_call 41; refine HH.out.mono ?_))
 rintro e1 w1 ⟨rfl, hw1⟩
 have H1 : Hid (Ciph w1 g 6 nr K ∧ Touch w w1 g 4 1 ∧ w1.cell? ⟨g, 4, none⟩ = some (.int .i32 1)) := held HK.out hw1
 clear hw1 HH
 have cr : w1.cell? ⟨g, 6, none⟩ = some (.int .i64 (nr : Nat)) := H1.out.1.rounds
 go_wp2_with fail
 refine leaves_cons (f := 42) (args := #[.pointer (some ⟨g, 0, none⟩)]) (by simp) (by simp [go_sem]) ?_
 refine (unlocked HK.out H1.out.2.1 H1.out.2.2).mono ?_
 rintro e5 u5 w5 ⟨rfl, rfl, hk5, ht5, _⟩
 refine ⟨_, results_tmp rfl _ _ _, ?_, hk5, ht5⟩
 show Ending.returned (.int .i64 (4 * ((nr : Int) - 6))) = _
 exact ret_int (by omega)
set_option maxHeartbeats 1600000 in
set_option maxRecDepth 100000 in
theorem rounds_ok (g nr : Nat) (K : Nat → Nat) (w : World) (h : KeyAt w g nr K) : Calls Tryz.prog 31 #[.pointer (some ⟨g, 0, none⟩)] w fun e w' => e = .returned (.int .i64 (nr : Nat)) ∧ KeyAt w' g nr K ∧ Touch w w' g 4 1 := by
 have HK : Hid (KeyAt w g nr K) := h
 have HH : Hid (Calls Tryz.prog 41 #[.pointer (some ⟨g, 0, none⟩)] w fun e w' => e = .returned (.int .i64 0) ∧ w' = w.setCell ⟨g, 4, none⟩ (.int .i32 1)) := hold_ok g nr K w h
 clear h
 go_enter_defers Tryz.func31, Tryz.ntmps31
 go_wp2_with (first | (go_at_call 41; refine HH.out.mono ?_))
 rintro e1 w1 ⟨rfl, hw1⟩
 have H1 : Hid (Ciph w1 g 6 nr K ∧ Touch w w1 g 4 1 ∧ w1.cell? ⟨g, 4, none⟩ = some (.int .i32 1)) := held HK.out hw1
 clear hw1 HH
 have cr : w1.cell? ⟨g, 6, none⟩ = some (.int .i64 (nr : Nat)) := H1.out.1.rounds
 go_wp2_with fail
 refine leaves_cons (f := 42) (args := #[.pointer (some ⟨g, 0, none⟩)]) (by simp) (by simp [go_sem]) ?_
 refine (unlocked HK.out H1.out.2.1 H1.out.2.2).mono ?_
 rintro e5 u5 w5 ⟨rfl, rfl, hk5, ht5, _⟩
 exact ⟨_, results_tmp rfl _ _ _, rfl, hk5, ht5⟩
end Go.Proofs.YtgmfiljjogdccabGreatDoor
namespace Go.Proofs.YtgmfiljjogdccabGreatDoor
open Go.RowKit
set_option linter.unusedVariables false
/-- The reference's key while its round keys are laid one behind the other. -/
structure RkI (w : World) (g n gb cb gr c m : Nat) (K : Nat → Nat) (v : World) : Prop where
 t : RkT w g 256 v
 b : v.cell? ⟨g, 0, none⟩ = some (.slice (some ⟨gb, 0, none⟩) n cb)
 r : v.cell? ⟨g, 1, none⟩ = some (.slice (some ⟨gr, 0, none⟩) m c)
 o : v.ownsRow (g + 1) 5 1 (.slice (some ⟨gr, 0, none⟩) m c) m (rbL K m)
theorem RkI.gr_lt {w v : World} {g n gb cb gr c m : Nat} {K : Nat → Nat} (h : RkI w g n gb cb gr c m K v) : g < gr ∧ gr < v.heap.size := by
 have := h.o.lt gr rfl
 exact ⟨by omega, this.2⟩
theorem RkI.cell {w v : World} {g n gb cb gr c m : Nat} {K : Nat → Nat} (h : RkI w g n gb cb gr c m K v) (j : Nat) (hj : j < m) : v.cell? ⟨gr, j, none⟩ = some (.int .u8 (rb K j : Nat)) := by
 rw [h.o.cellAt j (by omega)]
 exact rbL_at K m j hj
theorem RkI.below {w v v' : World} {g n gb cb gr c m : Nat} {K : Nat → Nat} (h : RkI w g n gb cb gr c m K v) (hb : Below v.heap.size v v') : RkI w g n gb cb gr c m K v' :=
 ⟨h.t.keep (hb.block g h.t.lt) (h.t.old.trans (hb.mono (Nat.le_of_lt h.t.lt))) hb.size, (hb.cell (p := ⟨g, 0, none⟩) h.t.lt).trans h.b, (hb.cell (p := ⟨g, 1, none⟩) h.t.lt).trans h.r,
  h.o.kept (row := none) ⟨hb.os, hb.tape, hb.output, hb.size, fun k hk _ => hb.block k hk⟩ (by simp [Value.ownBlock])⟩
theorem RkI.app {w v v1 v2 : World} {g n gb cb gr c m g' c' : Nat} {K : Nat → Nat} {x : Value} (h : RkI w g n gb cb gr c m K v) (hb : Below v.heap.size v v1) (hx : x = .int .u8 (rb K m : Nat)) (ho : v2.ownsRow (g + 1) 5 1 (.slice (some ⟨g', 0, none⟩) (m + 1) c') (m + 1) (rbL K m ++ [x])) (hg : v1.grownBy v2 (some gr)) :
  RkI w g n gb cb g' c' (m + 1) K (v2.setCell ⟨g, 1, none⟩ (.slice (some ⟨g', 0, none⟩) (m + 1) c')) := by
 have h1 := h.below hb
 have hne : some g ≠ some gr := by have := h.gr_lt; simp; omega
 have hgb := hg.block g h1.t.lt hne
 have ht : RkT w g 256 v2 := h1.t.keep hgb (h1.t.old.grown hg (Nat.le_of_lt h1.t.lt) (by intro q hq; have := h.gr_lt; simp at hq; omega)) hg.size
 refine ⟨ht.set 1 _ (by omega), (cell_other _ _ _ _ _ (by omega)).trans ((World.cell?_of_block (a := ⟨g, 0, none⟩) hgb).trans h1.b), set_same _ ht.room (by omega), own_set ?_ (Nat.lt_succ_self g)⟩
 rw [rbL_succ, ← hx]
 exact ho
/-- Four bytes at tb. -/
structure Tr (v : World) (tb : Nat) (f : Nat → Nat) : Prop where
 lt : tb < v.heap.size
 c : ∀ j, j < 4 → v.cell? ⟨tb, j, none⟩ = some (.int .u8 (f j : Nat))
theorem Tr.below {v v' : World} {tb : Nat} {f : Nat → Nat} (h : Tr v tb f) (hb : Below v.heap.size v v') : Tr v' tb f :=
 ⟨Nat.lt_of_lt_of_le h.lt hb.size, fun j hj => (hb.cell (p := ⟨tb, j, none⟩) h.lt).trans (h.c j hj)⟩
theorem Tr.new (v : World) (a b c d : Nat) : Tr (v.alloc (.cells #[.int .u8 (a : Nat), .int .u8 (b : Nat), .int .u8 (c : Nat), .int .u8 (d : Nat)] 5)) v.heap.size (fun j => if j = 0 then a else if j = 1 then b else if j = 2 then c else d) := by
 refine ⟨by simp, fun j hj => ?_⟩
 rw [World.cell?_alloc_at _ 5 _ _ rfl]
 have hm : j = 0 ∨ j = 1 ∨ j = 2 ∨ j = 3 := by omega
 rcases hm with rfl | rfl | rfl | rfl <;> rfl
theorem Tr.congr {v : World} {tb : Nat} {f f' : Nat → Nat} (h : Tr v tb f) (e : ∀ j, j < 4 → f j = f' j) : Tr v tb f' := ⟨h.lt, fun j hj => by rw [← e j hj]; exact h.c j hj⟩
theorem Tr.app {v v1 v2 : World} {tb gr g : Nat} {f : Nat → Nat} {x : Value} (h : Tr v tb f) (hb : Below v.heap.size v v1) (hg : v1.grownBy v2 (some gr)) (hne : gr ≠ tb) (hg2 : g ≠ tb) : Tr (v2.setCell ⟨g, 1, none⟩ x) tb f := by
 have h1 := h.below hb
 refine ⟨by have := Nat.lt_of_lt_of_le h1.lt hg.size; simpa [World.setCell] using this, fun j hj => ?_⟩
 rw [World.cell?_setCell_far _ _ _ _ (by exact hg2)]
 exact (World.cell?_of_block (a := ⟨tb, j, none⟩) (hg.block tb h1.lt (by simp; omega))).trans (h1.c j hj)
end Go.Proofs.YtgmfiljjogdccabGreatDoor
