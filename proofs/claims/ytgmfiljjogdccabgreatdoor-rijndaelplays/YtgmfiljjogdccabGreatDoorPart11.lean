import Derived.Test.YtgmfiljjogdccabGreatDoorPart09
import Derived.Test.YtgmfiljjogdccabGreatDoorPart07
import Derived.Test.YtgmfiljjogdccabGreatDoorSch
import Derived.Test.YtgmfiljjogdccabGreatDoorPart00
import Derived.ProofKit
import Derived.OpenShut
import Derived.ChangeOld
import Derived.Deep.DeepHandedRow
import Derived.Lib.LaidTab
namespace Go.Proofs.YtgmfiljjogdccabGreatDoor
open Go.RowKit
set_option linter.unusedVariables false
/-- A state's columns. -/
def W4.col (s : W4) : Nat → Nat
 | 0 => s.a
 | 1 => s.b
 | 2 => s.c
 | _ => s.d
/-- A state's bytes. -/
def sb (s : W4) (j : Nat) : Nat := btn (s.col (j / 4)) (j % 4)
theorem sb_lt (s : W4) (j : Nat) : sb s j < 256 := btn_lt _ _
theorem col_lt {s : W4} (h : s.ok) (q : Nat) : s.col q < 4294967296 := by
 unfold W4.col
 split
 ·exact h.1
 ·exact h.2.1
 ·exact h.2.2.1
 ·exact h.2.2.2
theorem bt_xor {x y : Nat} (hx : x < 4294967296) (hy : y < 4294967296) (j : Nat) : btn (Nat.xor x y) j = Nat.xor (btn x j) (btn y j) := by
 have e : Nat.xor x y = wd (Nat.xor (bt0 x) (bt0 y)) (Nat.xor (bt1 x) (bt1 y)) (Nat.xor (bt2 x) (bt2 y)) (Nat.xor (bt3 x) (bt3 y)) := by
  have h1 := wd_bt hx
  have h2 := wd_bt hy
  have h3 := wd_xor (bt0 x) (bt1 x) (bt2 x) (bt3 x) (bt0 y) (bt1 y) (bt2 y) (bt3 y) (bt1_lt x) (bt2_lt x) (bt3_lt x) (bt1_lt y) (bt2_lt y) (bt3_lt y)
  rw [h1, h2] at h3
  exact h3
 obtain ⟨b0, b1, b2, b3⟩ := bt_wd (xor_lt8 (bt0_lt x) (bt0_lt y)) (xor_lt8 (bt1_lt x) (bt1_lt y)) (xor_lt8 (bt2_lt x) (bt2_lt y)) (xor_lt8 (bt3_lt x) (bt3_lt y))
 rw [← e] at b0 b1 b2 b3
 unfold btn
 split
 ·exact b0
 ·exact b1
 ·exact b2
 ·exact b3
theorem addK_col (K : Nat → Nat) (r : Nat) (s : W4) (q : Nat) (hq : q < 4) : (addK K r s).col q = Nat.xor (s.col q) (K (4 * r + q)) := by
 have h : q = 0 ∨ q = 1 ∨ q = 2 ∨ q = 3 := by omega
 rcases h with rfl | rfl | rfl | rfl <;> rfl
theorem sb_add {K : Nat → Nat} (hK : ∀ i, K i < 4294967296) (r : Nat) {s : W4} (hs : s.ok) (j : Nat) (hj : j < 16) : sb (addK K r s) j = Nat.xor (sb s j) (rb K (16 * r + j)) := by
 unfold sb rb
 rw [addK_col K r s _ (by omega), bt_xor (col_lt hs _) (hK _), show (16 * r + j) / 4 = 4 * r + j / 4 by omega, show (16 * r + j) % 4 = j % 4 by omega]
theorem sb_at (s : W4) (c i : Nat) (hi : i < 4) : sb s (4 * c + i) = btn (s.col c) i := by
 unfold sb
 rw [show (4 * c + i) / 4 = c by omega, show (4 * c + i) % 4 = i by omega]
theorem last_btn (v : Nat → Nat) (i : Nat) (hi : i < 4) : btn (lastw (v 0) (v 1) (v 2) (v 3)) i = SB (btn (v i) i) := by
 obtain ⟨e0, e1, e2, e3⟩ := bt_last (v 0) (v 1) (v 2) (v 3)
 have h : i = 0 ∨ i = 1 ∨ i = 2 ∨ i = 3 := by omega
 rcases h with rfl | rfl | rfl | rfl
 ·rw [btn0, e0, btn0]
 ·rw [btn1, e1, btn1]
 ·rw [btn2, e2, btn2]
 ·rw [btn3, e3, btn3]
theorem undo_btn (v : Nat → Nat) (i : Nat) (hi : i < 4) : btn (undow (v 0) (v 1) (v 2) (v 3)) i = UB (btn (v i) i) := by
 obtain ⟨e0, e1, e2, e3⟩ := bt_undo (v 0) (v 1) (v 2) (v 3)
 have h : i = 0 ∨ i = 1 ∨ i = 2 ∨ i = 3 := by omega
 rcases h with rfl | rfl | rfl | rfl
 ·rw [btn0, e0, btn0]
 ·rw [btn1, e1, btn1]
 ·rw [btn2, e2, btn2]
 ·rw [btn3, e3, btn3]
theorem last_col (s : W4) (c : Nat) (hc : c < 4) : (lastS s).col c = lastw (s.col ((c + 0) % 4)) (s.col ((c + 1) % 4)) (s.col ((c + 2) % 4)) (s.col ((c + 3) % 4)) := by
 have h : c = 0 ∨ c = 1 ∨ c = 2 ∨ c = 3 := by omega
 rcases h with rfl | rfl | rfl | rfl <;> simp [W4.col, lastS]
theorem undo_col (s : W4) (q : Nat) (hq : q < 4) : (undoS s).col q = undow (s.col ((q + 4 - 0) % 4)) (s.col ((q + 4 - 1) % 4)) (s.col ((q + 4 - 2) % 4)) (s.col ((q + 4 - 3) % 4)) := by
 have h : q = 0 ∨ q = 1 ∨ q = 2 ∨ q = 3 := by omega
 rcases h with rfl | rfl | rfl | rfl <;> simp [W4.col, undoS]
theorem sb_last (s : W4) (c i : Nat) (hc : c < 4) (hi : i < 4) : sb (lastS s) (4 * c + i) = SB (sb s (4 * ((c + i) % 4) + i)) := by
 rw [sb_at _ _ _ hi, sb_at _ _ _ hi, last_col s c hc]
 exact last_btn (fun i => s.col ((c + i) % 4)) i hi
theorem sb_undo (s : W4) (c i : Nat) (hc : c < 4) (hi : i < 4) : sb (undoS s) (4 * ((c + i) % 4) + i) = UB (sb s (4 * c + i)) := by
 rw [sb_at _ _ _ hi, sb_at _ _ _ hi, undo_col s _ (by omega)]
 have := undo_btn (fun j => s.col (((c + i) % 4 + 4 - j) % 4)) i hi
 rw [this, show ((c + i) % 4 + 4 - i) % 4 = c by omega]
/-- A column's product, its first n terms. -/
def colX (row b : Nat → Nat) (c r : Nat) : Nat → Nat
 | 0 => 0
 | n + 1 => Nat.xor (colX row b c r n) (byF (row ((n + 4 - r) % 4)) (b (4 * c + n)))
def rowE : Nat → Nat
 | 0 => 2
 | 1 => 3
 | _ => 1
def rowD : Nat → Nat
 | 0 => 14
 | 1 => 11
 | 2 => 13
 | _ => 9
theorem byF_lt (r j : Nat) (h : j < 256) : byF r j < 256 := by
 unfold byF
 split
 ·exact h
 ·exact xl2 h
 ·exact xl3 h
 ·exact xl9 h
 ·exact xl11 h
 ·exact xl13 h
 ·exact xl14 h
theorem colX_lt (row b : Nat → Nat) (hb : ∀ j, b j < 256) (c r : Nat) : ∀ n, colX row b c r n < 256
 | 0 => by rw [colX]; decide
 | n + 1 => xor_lt8 (colX_lt row b hb c r n) (byF_lt _ _ (hb _))
theorem zero_xor8 (a : Nat) : Nat.xor 0 a = a := Nat.zero_xor a
theorem colX4 (row b : Nat → Nat) (c r : Nat) : colX row b c r 4 = Nat.xor (Nat.xor (Nat.xor (byF (row ((0 + 4 - r) % 4)) (b (4 * c))) (byF (row ((1 + 4 - r) % 4)) (b (4 * c + 1)))) (byF (row ((2 + 4 - r) % 4)) (b (4 * c + 2)))) (byF (row ((3 + 4 - r) % 4)) (b (4 * c + 3))) := by
 simp only [colX, zero_xor8, Nat.add_zero]
theorem col_map (f : Nat → Nat) (s : W4) (c : Nat) (hc : c < 4) : W4.col ⟨f s.a, f s.b, f s.c, f s.d⟩ c = f (s.col c) := by
 have h : c = 0 ∨ c = 1 ∨ c = 2 ∨ c = 3 := by omega
 rcases h with rfl | rfl | rfl | rfl <;> rfl
theorem mc_col (s : W4) (c : Nat) (hc : c < 4) : (mcS s).col c = mcw (s.col c) := by
 unfold mcS
 exact col_map mcw s c hc
theorem unm_col (s : W4) (c : Nat) (hc : c < 4) : (unmS s).col c = unmw (s.col c) := by
 unfold unmS
 exact col_map unmw s c hc
theorem sb_mc (s : W4) (c r : Nat) (hc : c < 4) (hr : r < 4) : colX rowE (sb s) c r 4 = sb (mcS s) (4 * c + r) := by
 have b0 := sb_at s c 0 (by decide)
 rw [Nat.add_zero] at b0
 rw [colX4, b0, sb_at s c 1 (by decide), sb_at s c 2 (by decide), sb_at s c 3 (by decide), sb_at _ c r hr, mc_col s c hc]
 obtain ⟨e0, e1, e2, e3⟩ := mcw_bt (s.col c)
 generalize s.col c = x at *
 have h : r = 0 ∨ r = 1 ∨ r = 2 ∨ r = 3 := by omega
 rcases h with rfl | rfl | rfl | rfl
 ·rw [btn0 (mcw x), e0]; rfl
 ·rw [btn1 (mcw x), e1]; rfl
 ·rw [btn2 (mcw x), e2]; rfl
 ·rw [btn3 (mcw x), e3]; rfl
theorem sb_unm (s : W4) (c r : Nat) (hc : c < 4) (hr : r < 4) : colX rowD (sb s) c r 4 = sb (unmS s) (4 * c + r) := by
 have b0 := sb_at s c 0 (by decide)
 rw [Nat.add_zero] at b0
 rw [colX4, b0, sb_at s c 1 (by decide), sb_at s c 2 (by decide), sb_at s c 3 (by decide), sb_at _ c r hr, unm_col s c hc]
 obtain ⟨e0, e1, e2, e3⟩ := unmw_bt (s.col c)
 generalize s.col c = x at *
 have h : r = 0 ∨ r = 1 ∨ r = 2 ∨ r = 3 := by omega
 rcases h with rfl | rfl | rfl | rfl
 ·rw [btn0 (unmw x), e0]; rfl
 ·rw [btn1 (unmw x), e1]; rfl
 ·rw [btn2 (unmw x), e2]; rfl
 ·rw [btn3 (unmw x), e3]; rfl
/-- Sixteen bytes as an array. -/
def arL (f : Nat → Nat) : List Value := [.int .u8 (f 0 : Nat), .int .u8 (f 1 : Nat), .int .u8 (f 2 : Nat), .int .u8 (f 3 : Nat), .int .u8 (f 4 : Nat), .int .u8 (f 5 : Nat), .int .u8 (f 6 : Nat), .int .u8 (f 7 : Nat), .int .u8 (f 8 : Nat), .int .u8 (f 9 : Nat), .int .u8 (f 10 : Nat), .int .u8 (f 11 : Nat), .int .u8 (f 12 : Nat), .int .u8 (f 13 : Nat), .int .u8 (f 14 : Nat), .int .u8 (f 15 : Nat)]
def arA (f : Nat → Nat) : Array Value := #[.int .u8 (f 0 : Nat), .int .u8 (f 1 : Nat), .int .u8 (f 2 : Nat), .int .u8 (f 3 : Nat), .int .u8 (f 4 : Nat), .int .u8 (f 5 : Nat), .int .u8 (f 6 : Nat), .int .u8 (f 7 : Nat), .int .u8 (f 8 : Nat), .int .u8 (f 9 : Nat), .int .u8 (f 10 : Nat), .int .u8 (f 11 : Nat), .int .u8 (f 12 : Nat), .int .u8 (f 13 : Nat), .int .u8 (f 14 : Nat), .int .u8 (f 15 : Nat)]
theorem arA_list (f : Nat → Nat) : (arA f).toList = arL f := rfl
theorem arL_array (f : Nat → Nat) : (arL f).toArray = arA f := rfl
theorem arL_map (f : Nat → Nat) : arL f = (List.range 16).map fun j => .int .u8 (f j : Nat) := by simp [arL, List.range_succ]
theorem arL_at (f : Nat → Nat) (j : Nat) (h : j < 16) : (arL f)[j]? = some (.int .u8 (f j : Nat)) := by rw [arL_map]; simp [h]
theorem blk_sb (s : W4) : s.blk = .agg (arA (sb s)) := rfl
theorem arL_congr {f g : Nat → Nat} (h : ∀ j, j < 16 → f j = g j) : arL f = arL g := by
 rw [arL_map, arL_map]
 exact List.map_congr_left fun j hj => by rw [h j (by simpa using hj)]
theorem arA_congr {f g : Nat → Nat} (h : ∀ j, j < 16 → f j = g j) : arA f = arA g := by rw [← arL_array, ← arL_array, arL_congr h]
end Go.Proofs.YtgmfiljjogdccabGreatDoor
namespace Go.Proofs.YtgmfiljjogdccabGreatDoor
open Go.RowKit
set_option linter.unusedVariables false
/-- A row of cells laid over another from off on. -/
theorem over_at (off : Nat) : ∀ (L : List Value) (k : Nat) (z : Array Value) (i : Nat), ((L.zipIdx k).foldl (fun cs (x : Value × Nat) => cs.setIfInBounds (off + x.2) x.1) z)[i]? =
  if off + k ≤ i ∧ i < off + k + L.length ∧ i < z.size then L[i - (off + k)]? else z[i]?
 | [], k, z, i => by simp; omega
 | v :: r, k, z, i => by
  rw [List.zipIdx_cons, List.foldl_cons, over_at off r (k + 1)]
  simp only [Array.size_setIfInBounds, List.length_cons]
  by_cases h1 : off + (k + 1) ≤ i ∧ i < off + (k + 1) + r.length ∧ i < z.size
  ·rw [if_pos h1, if_pos (by omega)]
   rw [show i - (off + k) = (i - (off + (k + 1))) + 1 by omega, List.getElem?_cons_succ]
  ·rw [if_neg h1]
   by_cases h2 : i = off + k
   ·subst h2
    by_cases h3 : off + k < z.size
    ·rw [Array.getElem?_setIfInBounds_self_of_lt h3, if_pos (by omega), Nat.sub_self]; rfl
    ·rw [if_neg (by omega)]
     rw [Array.getElem?_eq_none (by simp; omega), Array.getElem?_eq_none (by omega)]
   ·rw [Array.getElem?_setIfInBounds_ne (by omega), if_neg (by omega)]
theorem over_size (off : Nat) : ∀ (L : List Value) (k : Nat) (z : Array Value), ((L.zipIdx k).foldl (fun cs (x : Value × Nat) => cs.setIfInBounds (off + x.2) x.1) z).size = z.size
 | [], k, z => rfl
 | v :: r, k, z => by rw [List.zipIdx_cons, List.foldl_cons, over_size off r (k + 1)]; simp
theorem zero82 : ((Tryz.prog.info? 62).bind (·.zero)).map (fun z => z.cells.size) = some 1091 := by kernel_rfl
theorem size82 : (Tryz.prog.info? 62).map (·.size) = some 1091 := by kernel_rfl
theorem zsize82 : Tryz.zeroCells62.size = 1091 := by kernel_rfl
theorem zhead82 : Tryz.zeroCells62.toList.take 6 = [.int .i32 0, .int .u32 0, .int .u32 0, .int .u32 0, .int .i32 0, .int .i32 0] := by kernel_rfl
theorem zcells82 : ((Tryz.prog.info? 62).bind (·.zero)).map (·.cells) = some Tryz.zeroCells62 := by kernel_rfl
theorem built82 (L : List Value) (hL : L.length = 1085) : ∃ R, Tryz.prog.built 62 [(1, .agg L.toArray)] = some R ∧ R.size = 1091 ∧ (∀ i, i < 6 → R[i]? = Tryz.zeroCells62[i]?) ∧ ∀ j v, L[j]? = some v → R[6 + j]? = some v := by
 refine ⟨(L.zipIdx 0).foldl (fun cs (x : Value × Nat) => cs.setIfInBounds (6 + x.2) x.1) Tryz.zeroCells62, ?_, ?_, fun i hi => ?_, fun j v hv => ?_⟩
 ·have hzc := zcells82
  have hu := Tryz.underlying62
  have hus : ∃ fs, Tryz.prog.underlying 62 = some (.struct fs) ∧ fs.toList.mapM (fun f => (Tryz.prog.info? f.type).map fun i => (f.offset, i.size)) = some [(0, 6), (6, 1085)] := ⟨_, hu, by kernel_rfl⟩
  obtain ⟨fs, hu', hp⟩ := hus
  cases hq : Tryz.prog.info? 62 with
  | none => rw [hq] at hzc; cases hzc
  | some it =>
   rw [hq] at hzc
   cases hz : it.zero with
   | none => simp [hz] at hzc
   | some z =>
    have hzz : z.cells = Tryz.zeroCells62 := by simpa [hz] using hzc
    have hsz : z.cells.size = 1091 := by rw [hzz]; exact zsize82
    unfold Program.built
    rw [hq, hu']
    simp only [hz, hp]
    rw [hzz]
    unfold Instr.fill
    simp only [List.getElem?_toArray, List.getElem?_cons_succ, List.getElem?_cons_zero, Value.cells, List.size_toArray, hL]
    rw [if_neg (by rw [zsize82]; decide)]
    unfold Instr.fill
    simp
 ·rw [over_size]; exact zsize82
 ·rw [over_at, if_neg (by omega)]
 ·have hj : j < L.length := (List.getElem?_eq_some_iff.1 hv).1
  rw [over_at, if_pos (by rw [zsize82]; omega), show 6 + j - (6 + 0) = j by omega]
  exact hv
/-- A key at g. -/
structure KeyAt (w : World) (g nr : Nat) (K : Nat → Nat) : Prop where
 ciph : Ciph w g 6 nr K
 count : w.cell? ⟨g, 4, none⟩ = some (.int .i32 0)
 room : w.there g 0 1091
theorem KeyAt.below {B : Nat} {w w' : World} {g nr : Nat} {K : Nat → Nat} (h : KeyAt w g nr K) (hb : Below B w w') (hg : g < B) : KeyAt w' g nr K :=
 ⟨h.ciph.below hb hg, (hb.cell hg).trans h.count, there_below h.room hb hg⟩
theorem keyAt_alloc (w : World) (R : Array Value) (nr : Nat) (K : Nat → Nat) (hs : R.size = 1091) (h6 : ∀ i, i < 6 → R[i]? = Tryz.zeroCells62[i]?) (hL : ∀ j v, (cipL nr K)[j]? = some v → R[6 + j]? = some v) (h1 : 1 ≤ nr) (h14 : nr ≤ 14) (hK : ∀ i, K i < 4294967296) :
  KeyAt (w.alloc (.cells R 62)) w.heap.size nr K := by
 have hc : ∀ i : Nat, (w.alloc (.cells R 62)).cell? ⟨w.heap.size, i, none⟩ = R[i]? := fun i => by
  rw [World.cell?_alloc_at R 62 _ _ rfl]
 refine ⟨ciph_of_range (fun j v hv => ?_) (by simp) h1 h14 hK, ?_, there_new w R 62 1091 (by rw [hs]; exact Nat.le_refl _)⟩
 ·rw [hc]; exact hL j v hv
 ·rw [hc, h6 4 (by decide), ← Array.getElem?_toList]
  have h := congrArg (fun l => l[4]?) zhead82
  simp only [List.getElem?_take_of_lt (show 4 < 6 by decide)] at h
  rw [h]; rfl
set_option maxHeartbeats 3200000 in
set_option maxRecDepth 100000 in
theorem new_ok (kb ko n cap nk : Nat) (key : Nat → Nat) (w : World) (hnk : nk = 4 ∨ nk = 6 ∨ nk = 8) (hn : n = 4 * nk) (hkb : kb < w.heap.size) (hcell : ∀ i, i < n → w.cell? ⟨kb, ko + i, none⟩ = some (.int .u8 (key i : Nat))) (hkey : ∀ i, key i < 256) (hrc : RC w) (hpos : 0 < w.heap.size) :
  Calls Tryz.prog 4 #[.slice (some ⟨kb, ko, none⟩) n cap] w fun e w' => ∃ g, e = .returned (.tuple #[.pointer (some ⟨g, 0, none⟩), .int .i64 0]) ∧ w.heap.size ≤ g ∧ KeyAt w' g (nk + 6) (schedK nk key) ∧ Below w.heap.size w w' := by
 obtain ⟨L, HL⟩ : ∃ L, Hid (L = cipL (nk + 6) (schedK nk key)) := ⟨_, rfl⟩
 have KS : Hid (Calls Tryz.prog 8 #[.slice (some ⟨kb, ko, none⟩) n cap] w fun e w' => e = .returned (.agg L.toArray) ∧ Below w.heap.size w w') := by
  rw [HL.out]
  exact sched_ok kb ko n cap nk key w hnk hn hkb hcell hkey hrc hpos
 obtain ⟨R, hR1, hR2, hR3, hR4⟩ := built82 L (by rw [HL.out]; exact cipL_length _ _)
 have HR : Hid (Tryz.prog.built 62 [(1, .agg L.toArray)] = some R) := hR1
 have HR2 : Hid (R.size = 1091 ∧ (∀ i, i < 6 → R[i]? = Tryz.zeroCells62[i]?) ∧ ∀ j v, (cipL (nk + 6) (schedK nk key))[j]? = some v → R[6 + j]? = some v) := ⟨hR2, hR3, by rw [← HL.out]; exact hR4⟩
 have HKl : Hid (1 ≤ nk + 6 ∧ nk + 6 ≤ 14 ∧ ∀ i, schedK nk key i < 4294967296) := ⟨by omega, by omega, schedK_lt hkey⟩
 clear hR1 hR2 hR3 hR4 hcell hkey hrc hkb hpos
 rcases hnk with rfl | rfl | rfl
 all_goals subst hn
 all_goals go_enter Tryz.func4, Tryz.ntmps4
 all_goals go_wp2_with (first
  | (go_at_call 8; refine KS.out.mono ?_)
  | fail)
 all_goals rintro e1 w1 ⟨rfl, hb1⟩
 all_goals (have HB : Hid (Below w.heap.size w w1) := hb1)
 all_goals clear hb1
 all_goals go_wp2_with (first
  | (refine wpList_build_big (by rfl) 62 #[(1, .tmp 11)] (by rfl) R (by simp only [List.map_toArray, List.map_cons, List.map_nil]; exact HR.out) ?_)
  | fail)
 all_goals go_ret2
 all_goals exact ⟨w1.heap.size, rfl, HB.out.size, keyAt_alloc w1 R _ _ HR2.out.1 HR2.out.2.1 HR2.out.2.2 HKl.out.1 HKl.out.2.1 HKl.out.2.2, HB.out.alloc HB.out.size _⟩
theorem new_bad (a : Option Addr) (n cap : Nat) (w : World) (h : n ≠ 16 ∧ n ≠ 24 ∧ n ≠ 32) : Calls Tryz.prog 4 #[.slice a n cap] w fun e w' => e = .returned (.tuple #[.pointer none, .int .i64 20]) ∧ w' = w := by
 have h1 : (((n : Nat) : Int) == 16) = false := by simp; omega
 have h2 : (((n : Nat) : Int) == 24) = false := by simp; omega
 have h3 : (((n : Nat) : Int) == 32) = false := by simp; omega
 clear h
 go_enter Tryz.func4, Tryz.ntmps4
 go_wp2
 go_ret2
 exact ⟨rfl, rfl⟩
end Go.Proofs.YtgmfiljjogdccabGreatDoor
namespace Go.Proofs.YtgmfiljjogdccabGreatDoor
open Go.RowKit
set_option linter.unusedVariables false
/-- Sixteen bytes where they lie. -/
structure Ar (u : World) (b : Nat) (f : Nat → Nat) : Prop where
 c : ∀ j, j < 16 → u.cell? ⟨b, j, none⟩ = some (.int .u8 (f j : Nat))
 t : u.there b 0 16
theorem Ar.set {u : World} {b : Nat} {f : Nat → Nat} (h : Ar u b f) (k x : Nat) (hk : k < 16) : Ar (u.setCell ⟨b, k, none⟩ (.int .u8 (x : Nat))) b (fun j => if j = k then x else f j) :=
 ⟨fun j hj => by
  by_cases e : j = k
  ·subst e; simp only [if_true]; exact set_same _ h.t hk
  ·simp only [if_neg e]; rw [cell_other _ _ _ _ _ (fun q => e q.symm)]; exact h.c j hj, World.there_setCells h.t _ _ [_]⟩
theorem Ar.far {u : World} {b b' o : Nat} {f : Nat → Nat} {v : Value} (h : Ar u b f) (hne : b' ≠ b) : Ar (u.setCell ⟨b', o, none⟩ v) b f :=
 ⟨fun j hj => by rw [World.cell?_setCell_far _ _ _ _ hne]; exact h.c j hj, World.there_setCells h.t _ _ [_]⟩
theorem Ar.congr {u : World} {b : Nat} {f f' : Nat → Nat} (h : Ar u b f) (e : ∀ j, j < 16 → f j = f' j) : Ar u b f' := ⟨fun j hj => by rw [← e j hj]; exact h.c j hj, h.t⟩
theorem Ar.range {u : World} {b : Nat} {f : Nat → Nat} (h : Ar u b f) : u.rangeAt b 0 (arL f) := fun j v hv => by
 have hj : j < 16 := (List.getElem?_eq_some_iff.1 hv).1
 rw [arL_at f j hj] at hv
 rw [Nat.zero_add, h.c j hj]; exact hv
theorem Ar.same {u u' : World} {b : Nat} {f : Nat → Nat} (h : Ar u b f) (e : u'.heap[b]? = u.heap[b]?) : Ar u' b f :=
 ⟨fun j hj => (World.cell?_of_block (a := ⟨b, j, none⟩) e).trans (h.c j hj), fun j hj => by
  rw [World.cell?_of_block (a := ⟨b, 0 + j, none⟩) e, World.frozen?_of_block (a := ⟨b, 0 + j, none⟩) e]; exact h.t j hj⟩
theorem ar_new (w : World) (f : Nat → Nat) (t : TypeId) : Ar (w.alloc (.cells (arA f) t)) w.heap.size f :=
 ⟨fun j hj => by
  rw [World.cell?_alloc_at _ t _ _ rfl, ← arL_array]
  have := arL_at f j hj
  simpa using this, there_new w (arA f) t 16 (by show 16 ≤ 16; omega)⟩
def z16 : Array Value := #[.int .u8 0, .int .u8 0, .int .u8 0, .int .u8 0, .int .u8 0, .int .u8 0, .int .u8 0, .int .u8 0, .int .u8 0, .int .u8 0, .int .u8 0, .int .u8 0, .int .u8 0, .int .u8 0, .int .u8 0, .int .u8 0]
def zero8 (_ : Nat) : Nat := 0
theorem z16_ar : z16 = arA zero8 := rfl
/-- A new array, and a box for the answer. -/
theorem ar_two (w : World) (f : Nat → Nat) (t t' : TypeId) : Below w.heap.size w ((w.alloc (.cells (arA f) t)).alloc (.cells z16 t')) ∧ Ar ((w.alloc (.cells (arA f) t)).alloc (.cells z16 t')) w.heap.size f ∧ Ar ((w.alloc (.cells (arA f) t)).alloc (.cells z16 t')) (w.heap.size + 1) zero8 := by
 rw [z16_ar]
 have s1 : (w.alloc (.cells (arA f) t)).heap.size = w.heap.size + 1 := by simp
 refine ⟨((Below.refl _ w).alloc (Nat.le_refl _) _).alloc (by omega) _, ?_, ?_⟩
 ·refine (ar_new w f t).same ?_
  have hb : Below (w.alloc (.cells (arA f) t)).heap.size (w.alloc (.cells (arA f) t)) ((w.alloc (.cells (arA f) t)).alloc (.cells (arA zero8) t')) := (Below.refl _ _).alloc (Nat.le_refl _) _
  exact hb.block _ (by omega)
 ·have := ar_new (w.alloc (.cells (arA f) t)) zero8 t'
  rw [s1] at this
  exact this
theorem RefAt.below {w u : World} {g gr nk : Nat} {K : Nat → Nat} (h : RefAt w g gr nk K) (hb : Below w.heap.size w u) : RefAt u g gr nk K := h.keep (hb.block g h.lt) (hb.block gr h.ltr) hb.size
theorem size41 : (Tryz.prog.info? 37).map (·.size) = some 16 := by kernel_rfl
theorem arA_one (f : Nat → Nat) : (arA f).all (·.oneCell') = true := by
 rw [← arL_array]
 exact all_oneCell_toArray (fun v hv => by
  rw [arL_map] at hv
  simp only [List.mem_map] at hv
  obtain ⟨j, _, rfl⟩ := hv
  rfl)
set_option maxHeartbeats 1600000 in
set_option maxRecDepth 100000 in
theorem added_ok (g gr nk r : Nat) (K : Nat → Nat) (s : W4) (w : World) (h : RefAt w g gr nk K) (hn : nk ≤ 8) (hr : r ≤ nk + 6) (hK : ∀ i, K i < 4294967296) (hs : s.ok) :
  Calls Tryz.prog 51 #[.pointer (some ⟨g, 0, none⟩), .agg (arA (sb s)), .int .i64 (r : Nat)] w fun e w' => e = .returned (.agg (arA (sb (addK K r s)))) ∧ Below w.heap.size w w' := by
 obtain ⟨f, HF⟩ : ∃ f, Hid (f = sb s) := ⟨_, rfl⟩
 have HFl : Hid (∀ j, f j < 256) := by show ∀ j, _; rw [HF.out]; exact sb_lt s
 have HE : Hid (∀ j, j < 16 → Nat.xor (f j) (rb K (16 * r + j)) = sb (addK K r s) j) := fun j hj => by rw [HF.out, sb_add hK r hs j hj]
 rw [← HF.out]
 have HH : Hid (RefAt w g gr nk K) := h
 obtain ⟨m, HM⟩ : ∃ m, Hid (m = 16 * (nk + 7)) := ⟨_, rfl⟩
 obtain ⟨q, HQ⟩ : ∃ q, Hid (q = 16 * r) := ⟨_, rfl⟩
 have hmq : q + 16 ≤ m ∧ m ≤ 240 := by have := HM.out; have := HQ.out; omega
 have hq : (16 : Int) * ((r : Nat) : Int) = ((q : Nat) : Int) := by have := HQ.out; omega
 have hwq : IntKind.i64.wrap ((q : Nat) : Int) = ((q : Nat) : Int) := wraps_i64 _ (by omega) (by omega)
 obtain ⟨c, hrd⟩ := HH.out.round
 rw [← HM.out] at hrd
 have HR : Hid (w.cell? ⟨g, 1, none⟩ = some (.slice (some ⟨gr, 0, none⟩) m c)) := hrd
 obtain ⟨F2, HF2⟩ : ∃ F, Hid (F = fun j => Nat.xor (f j) (rb K (q + j))) := ⟨_, rfl⟩
 have HE2 : Hid (∀ j, j < 16 → F2 j = sb (addK K r s) j) := fun j hj => by rw [HF2.out, HQ.out]; exact HE.out j hj
 clear hrd hn hr h hK hs HE
 have HI : Hid (Below w.heap.size w _ ∧ Ar _ w.heap.size f ∧ Ar _ (w.heap.size + 1) zero8) := ar_two w f 37 37
 unfold arA z16 at HI
 rw [← arA_congr HE2.out]
 obtain ⟨R2, HR2⟩ : ∃ A, Hid (A = arA F2) := ⟨_, rfl⟩
 rw [← HR2.out]
 unfold arA
 go_enter Tryz.func51, Tryz.ntmps51
 go_wp2
 generalize ((w.alloc (.cells #[.int .u8 (f 0 : Nat), .int .u8 (f 1 : Nat), .int .u8 (f 2 : Nat), .int .u8 (f 3 : Nat), .int .u8 (f 4 : Nat), .int .u8 (f 5 : Nat), .int .u8 (f 6 : Nat), .int .u8 (f 7 : Nat), .int .u8 (f 8 : Nat), .int .u8 (f 9 : Nat), .int .u8 (f 10 : Nat), .int .u8 (f 11 : Nat), .int .u8 (f 12 : Nat), .int .u8 (f 13 : Nat), .int .u8 (f 14 : Nat), .int .u8 (f 15 : Nat)] 37)).alloc (.cells #[.int .u8 0, .int .u8 0, .int .u8 0, .int .u8 0, .int .u8 0, .int .u8 0, .int .u8 0, .int .u8 0, .int .u8 0, .int .u8 0, .int .u8 0, .int .u8 0, .int .u8 0, .int .u8 0, .int .u8 0, .int .u8 0] 37)) = w2 at HI ⊢
 obtain ⟨B1, HB1⟩ : ∃ b, Hid (w.heap.size + 1 = b) := ⟨_, rfl⟩
 rw [HB1.out] at HI ⊢
 have hB1 : w.heap.size ≠ B1 ∧ w.heap.size ≤ B1 := by have := HB1.out; omega
 go_loopw [7] (fun i wr => ∃ k : Nat, k ≤ 16 ∧ i = .int .i64 (k : Nat) ∧ Hid (Below w.heap.size w wr ∧ Ar wr w.heap.size (fun j => if j < k then F2 j else f j) ∧ wr.there B1 0 16)) (fun i _ => 16 - (intOf i).toNat)
 case atStart => exact ⟨0, by omega, rfl, HI.out.1, HI.out.2.1.congr (fun j hj => by rw [if_neg (by omega)]), HI.out.2.2.t⟩
 case round =>
  obtain ⟨k, hk, rfl, HJ⟩ := hrel
  by_cases hlt : k < 16
  ·obtain ⟨a, HA⟩ : ∃ a, Hid (a = f k) := ⟨_, rfl⟩
   obtain ⟨p, HP⟩ : ∃ p, Hid (p = q + k) := ⟨_, rfl⟩
   obtain ⟨b, HB⟩ : ∃ b, Hid (b = rb K p) := ⟨_, rfl⟩
   obtain ⟨x, HX⟩ : ∃ x, Hid (x = F2 k) := ⟨_, rfl⟩
   have hki : ((k : Nat) : Int) < 16 := by omega
   have hp : ((q : Nat) : Int) + ((k : Nat) : Int) = ((p : Nat) : Int) := by have := HP.out; omega
   have hwp : IntKind.i64.wrap ((p : Nat) : Int) = ((p : Nat) : Int) := wraps_i64 _ (by omega) (by omega)
   have hpm : ((p : Nat) : Int) < ((m : Nat) : Int) := by have := HP.out; omega
   have hx : bits .xor .u8 ((a : Nat) : Int) ((b : Nat) : Int) = ((x : Nat) : Int) := by
    rw [xor8 _ _ (by rw [HA.out]; exact HFl.out k) (by rw [HB.out]; exact rb_lt _ _), HX.out, HF2.out, HA.out, HB.out, HP.out]
   have hSt : wr.drew.cell? ⟨w.heap.size, k, none⟩ = some (.int .u8 (a : Nat)) ∧ wr.drew.cell? ⟨g, 1, none⟩ = some (.slice (some ⟨gr, 0, none⟩) m c) ∧ wr.drew.cell? ⟨gr, p, none⟩ = some (.int .u8 (b : Nat)) ∧ wr.drew.frozen? ⟨w.heap.size, k, none⟩ = false := by
    refine ⟨?_, ?_, ?_, ?_⟩
    ·show wr.cell? _ = _
     rw [HJ.out.2.1.c k hlt, if_neg (by omega), HA.out]
    ·exact (HJ.out.1.cell (p := ⟨g, 1, none⟩) HH.out.lt).trans HR.out
    ·show wr.cell? _ = _
     rw [HJ.out.1.cell (p := ⟨gr, p, none⟩) HH.out.ltr, HH.out.cells p (by have := HP.out; have := HM.out; omega), HB.out]
    ·exact there_froz HJ.out.2.1.t k hlt
   go_upto_region 4 with fail
   refine wp_region_noPanic ?_
   refine wp_region_till (fun u => u.cell? ⟨w.heap.size, k, none⟩ = some (.int .u8 (a : Nat)) ∧ u.cell? ⟨g, 1, none⟩ = some (.slice (some ⟨gr, 0, none⟩) m c) ∧ u.cell? ⟨gr, p, none⟩ = some (.int .u8 (b : Nat)) ∧ u.frozen? ⟨w.heap.size, k, none⟩ = false) 15 (by kernel_rfl) (by decide) (by decide +kernel) (by decide +kernel) (by decide +kernel) (fun inv => ?_)
   refine tU 0 12 (.int .i64 (k : Nat)) inv rfl rfl hSt fun inv => ?_
   simp only [pU]
   refine tU 1 13 (.int .i64 (k : Nat)) inv rfl rfl hSt fun inv => ?_
   simp only [pU]
   refine tU 2 14 (.pointer (some ⟨w.heap.size, k, none⟩)) inv rfl rfl hSt fun inv => ?_
   simp only [pU]
   refine tT 3 15 (.int .u8 (a : Nat)) inv rfl rfl (by decide +kernel) (hSt) (Or.inl ⟨by rfl, fun w' hS' => by have q1 := hS'.1; go_simp⟩) (fun inv => ?_)
   simp only [pU]
   refine tU 4 16 (.pointer (some ⟨g, 0, none⟩)) inv rfl rfl hSt fun inv => ?_
   simp only [pU]
   refine tU 5 17 (.pointer (some ⟨g, 0, none⟩)) inv rfl rfl hSt fun inv => ?_
   simp only [pU]
   refine tU 6 18 (.pointer (some ⟨g, 1, none⟩)) inv rfl rfl hSt fun inv => ?_
   simp only [pU]
   refine tT 7 19 (.slice (some ⟨gr, 0, none⟩) m c) inv rfl rfl (by decide +kernel) (hSt) (Or.inl ⟨by rfl, fun w' hS' => by have q1 := hS'.2.1; go_simp⟩) (fun inv => ?_)
   simp only [pU]
   refine tU 8 20 (.int .i64 (r : Nat)) inv rfl rfl hSt fun inv => ?_
   simp only [pU]
   refine tU 9 21 (.int .i64 (q : Nat)) inv rfl rfl hSt fun inv => ?_
   simp only [pU]
   refine tU 10 22 (.int .i64 (k : Nat)) inv rfl rfl hSt fun inv => ?_
   simp only [pU]
   refine tU 11 23 (.int .i64 (p : Nat)) inv rfl rfl hSt fun inv => ?_
   simp only [pU]
   refine tU 12 24 (.pointer (some ⟨gr, p, none⟩)) inv rfl rfl hSt fun inv => ?_
   simp only [pU]
   refine tT 13 25 (.int .u8 (b : Nat)) inv rfl rfl (by decide +kernel) (hSt) (Or.inl ⟨by rfl, fun w' hS' => by have q1 := hS'.2.2.1; go_simp⟩) (fun inv => ?_)
   simp only [pU]
   refine tU 14 26 (.int .u8 (x : Nat)) inv rfl rfl hSt fun inv => ?_
   simp only [pU]
   refine till_tail (i := 15) (by decide +kernel) (by decide) rfl (fun Kx hK => ?_)
   rw [if_pos (by kernel_rfl)]
   go_simp
   refine hK.out _ _ ?_
   clear hK Kx
   try simp only [Act.put, pU]
   refine till_tail (i := 16) (by decide +kernel) (by decide) rfl (fun Kx hK => ?_)
   rw [if_pos (by kernel_rfl)]
   have q1 := hSt.1
   have q2 := hSt.2.2.2
   go_simp
   refine hK.out _ _ ?_
   clear hK Kx
   refine till_done (by decide +kernel) ?_ _
   refine NoPanic.normal ?_
   clear q1 q2 hSt
   have HN : Hid (Below w.heap.size w ((wr.setCell ⟨w.heap.size, k, none⟩ (.int .u8 (x : Nat))).drew) ∧ Ar ((wr.setCell ⟨w.heap.size, k, none⟩ (.int .u8 (x : Nat))).drew) w.heap.size (fun j => if j < k + 1 then F2 j else f j) ∧ ((wr.setCell ⟨w.heap.size, k, none⟩ (.int .u8 (x : Nat))).drew).there B1 0 16) := by
    refine ⟨(HJ.out.1.setCell (Nat.le_refl _) _).drew, ?_, World.there_setCells HJ.out.2.2 _ _ [_]⟩
    have h1 := HJ.out.2.1.set k x hlt
    have h2 : Ar ((wr.setCell ⟨w.heap.size, k, none⟩ (.int .u8 (x : Nat))).drew) w.heap.size (fun j => if j = k then x else if j < k then F2 j else f j) := ⟨h1.c, h1.t⟩
    refine h2.congr (fun j hj => ?_)
    by_cases e : j = k
    ·subst e; rw [if_pos rfl, if_pos (by omega), HX.out]
    ·rw [if_neg e]
     by_cases e2 : j < k
     ·rw [if_pos e2, if_pos (by omega)]
     ·rw [if_neg e2, if_neg (by omega)]
   generalize (wr.setCell ⟨w.heap.size, k, none⟩ (.int .u8 (x : Nat))).drew = wn at HN ⊢
   go_wp2
   refine ⟨⟨k + 1, by omega, rfl, HN.out⟩, by simp only [intOf]; omega⟩
  ·obtain rfl : k = 16 := by omega
   have HA : Hid (Ar wr w.heap.size F2) := HJ.out.2.1.congr (fun j hj => by rw [if_pos (by omega)])
   have HRg : Hid (wr.rangeAt w.heap.size 0 (arL F2)) := HA.out.range
   obtain ⟨RL, HRL⟩ : ∃ L, Hid (L = arL F2) := ⟨_, rfl⟩
   have HRA : Hid (R2 = RL.toArray) := by show _ = _; rw [HR2.out, HRL.out, arL_array]
   rw [← HRL.out] at HRg
   have HLl : Hid (RL.length = 16) := by show _ = _; rw [HRL.out]; rfl
   have h41 : Hid ((Tryz.prog.info? 37).map (·.size) = some RL.length) := by show _ = _; rw [HLl.out]; exact size41
   have HTh : Hid (wr.there B1 0 RL.toArray.size) := by show World.there _ _ _ _; rw [List.size_toArray, HLl.out]; exact HJ.out.2.2
   have h41' : Hid ((Tryz.prog.info? 37).map (·.size) = some RL.toArray.size) := by show _ = _; rw [List.size_toArray]; exact h41.out
   have h1c : Hid (RL.toArray.all (·.oneCell') = true) := by show _ = _; rw [HRL.out, arL_array]; exact arA_one _
   clear hlt hk
   go_wp2_with (first
    | (refine wpList_load_mid (by rfl) 37 (.tmp 4) (by rfl) w.heap.size 0 (by rfl) RL _ HRg.out Tryz.underlying37 rfl h41.out ?_)
    | (refine wpList_store_mid (by rfl) 37 (.tmp 6) (.tmp 28) (by rfl) B1 0 RL.toArray (by rfl) (by rfl) HTh.out h41'.out h1c.out ?_))
   refine ret_array RL Tryz.results51 rfl ?_ Tryz.underlying37 rfl h41.out ⟨by rw [HRA.out], ?_⟩
   ·exact World.rangeAt_setCells_same _ _ _ _ (by rw [HLl.out]; exact HJ.out.2.2)
   ·exact belowB_setCells _ hB1.2 _ _ _ HJ.out.1
end Go.Proofs.YtgmfiljjogdccabGreatDoor
namespace Go.Proofs.YtgmfiljjogdccabGreatDoor
open Go.RowKit
set_option linter.unusedVariables false
def row4 (row : Nat → Nat) : Array Value := #[.int .u8 (row 0 : Nat), .int .u8 (row 1 : Nat), .int .u8 (row 2 : Nat), .int .u8 (row 3 : Nat)]
/-- What stands while columns are multiplied. -/
structure CoS (w : World) (B1 B2 B3 : Nat) (f row o : Nat → Nat) (u : World) : Prop where
 old : Below w.heap.size w u
 b : Ar u w.heap.size f
 r : ∀ j, j < 4 → u.cell? ⟨B1, j, none⟩ = some (.int .u8 (row j : Nat))
 res : u.there B2 0 16
 out : Ar u B3 o
theorem CoS.set {w u : World} {B1 B2 B3 : Nat} {f row o : Nat → Nat} (h : CoS w B1 B2 B3 f row o u) (k x : Nat) (hk : k < 16) (h1 : w.heap.size < B1) (h2 : B1 < B2) (h3 : B2 < B3) : CoS w B1 B2 B3 f row (fun j => if j = k then x else o j) (u.setCell ⟨B3, k, none⟩ (.int .u8 (x : Nat))) :=
 ⟨h.old.setCell (by show w.heap.size ≤ B3; omega) _, h.b.far (by omega), fun j hj => by rw [World.cell?_setCell_far _ _ _ _ (by show B3 ≠ B1; omega)]; exact h.r j hj, World.there_setCells h.res _ _ [_], h.out.set k x hk⟩
theorem CoS.drew {w u : World} {B1 B2 B3 : Nat} {f row o : Nat → Nat} (h : CoS w B1 B2 B3 f row o u) : CoS w B1 B2 B3 f row o u.drew := ⟨h.old.drew, ⟨h.b.c, h.b.t⟩, h.r, h.res, ⟨h.out.c, h.out.t⟩⟩
theorem CoS.congr {w u : World} {B1 B2 B3 : Nat} {f row o o' : Nat → Nat} (h : CoS w B1 B2 B3 f row o u) (e : ∀ j, j < 16 → o j = o' j) : CoS w B1 B2 B3 f row o' u := ⟨h.old, h.b, h.r, h.res, h.out.congr e⟩
theorem co_start (w : World) (f row : Nat → Nat) : CoS w (w.heap.size + 1) (w.heap.size + 1 + 1) (w.heap.size + 1 + 1 + 1) f row zero8 ((((w.alloc (.cells (arA f) 37)).alloc (.cells (row4 row) 111)).alloc (.cells z16 37)).alloc (.cells z16 37)) := by
 rw [z16_ar]
 have s1 : (w.alloc (.cells (arA f) 37)).heap.size = w.heap.size + 1 := by simp
 have s2 : ((w.alloc (.cells (arA f) 37)).alloc (.cells (row4 row) 111)).heap.size = w.heap.size + 1 + 1 := by simp
 have s3 : (((w.alloc (.cells (arA f) 37)).alloc (.cells (row4 row) 111)).alloc (.cells (arA zero8) 37)).heap.size = w.heap.size + 1 + 1 + 1 := by simp
 have n1 : ∀ (v : World) (o : Obj) (b : Nat), b < v.heap.size → (v.alloc o).heap[b]? = v.heap[b]? := fun v o b hb => ((Below.refl v.heap.size v).alloc (Nat.le_refl _) o).block b hb
 refine ⟨((((Below.refl _ w).alloc (Nat.le_refl _) _).alloc (by omega) _).alloc (by omega) _).alloc (by omega) _, ?_, ?_, ?_, ?_⟩
 ·exact (((ar_new w f 37).same (n1 _ _ _ (by omega))).same (n1 _ _ _ (by omega))).same (n1 _ _ _ (by omega))
 ·intro j hj
  rw [World.cell?_of_block (a := ⟨w.heap.size + 1, j, none⟩) (n1 _ _ _ (by show w.heap.size + 1 < _; omega)), World.cell?_of_block (a := ⟨w.heap.size + 1, j, none⟩) (n1 _ _ _ (by show w.heap.size + 1 < _; omega)), ← s1, World.cell?_alloc_at _ 111 _ _ rfl]
  have h : j = 0 ∨ j = 1 ∨ j = 2 ∨ j = 3 := by omega
  rcases h with rfl | rfl | rfl | rfl <;> rfl
 ·have := ar_new ((w.alloc (.cells (arA f) 37)).alloc (.cells (row4 row) 111)) zero8 37
  rw [s2] at this
  exact (this.same (n1 _ _ _ (by omega))).t
 ·have := ar_new (((w.alloc (.cells (arA f) 37)).alloc (.cells (row4 row) 111)).alloc (.cells (arA zero8) 37)) zero8 37
  rw [s3] at this
  exact this
/-- The first m bytes. -/
def part (X : Nat → Nat) (m j : Nat) : Nat := if j < m then X j else 0
theorem part_next (X : Nat → Nat) (m x : Nat) (hx : x = X m) (j : Nat) : (if j = m then x else part X m j) = part X (m + 1) j := by
 unfold part
 by_cases e : j = m
 ·subst e; rw [if_pos rfl, if_pos (by omega), hx]
 ·rw [if_neg e]
  by_cases h : j < m
  ·rw [if_pos h, if_pos (by omega)]
  ·rw [if_neg h, if_neg (by omega)]
set_option maxHeartbeats 3200000 in
set_option maxRecDepth 100000 in
theorem columns_any (g gr nk : Nat) (K row f : Nat → Nat) (w : World) (h : RefAt w g gr nk K) (hrow : ∀ j, j < 4 → byR (row j)) (hf : ∀ j, f j < 256) :
  Calls Tryz.prog 52 #[.pointer (some ⟨g, 0, none⟩), .agg (arA f), .agg (row4 row)] w fun e w' => e = .returned (.agg (arA (fun j => colX row f (j / 4) (j % 4) 4))) ∧ Below w.heap.size w w' := by
 have HH : Hid (RefAt w g gr nk K) := h
 have HRW : Hid (∀ j, j < 4 → byR (row j)) := hrow
 have HFl : Hid (∀ j, f j < 256) := hf
 obtain ⟨X, HXX⟩ : ∃ X, Hid (X = fun j => colX row f (j / 4) (j % 4) 4) := ⟨_, rfl⟩
 rw [← HXX.out]
 obtain ⟨R2, HR2⟩ : ∃ A, Hid (A = arA X) := ⟨_, rfl⟩
 rw [← HR2.out]
 clear h hrow hf
 have HI : Hid (CoS w (w.heap.size + 1) (w.heap.size + 1 + 1) (w.heap.size + 1 + 1 + 1) f row zero8 _) := co_start w f row
 unfold arA row4 z16 at HI
 unfold arA row4
 go_enter Tryz.func52, Tryz.ntmps52
 go_wp2
 generalize ((((w.alloc (.cells #[.int .u8 (f 0 : Nat), .int .u8 (f 1 : Nat), .int .u8 (f 2 : Nat), .int .u8 (f 3 : Nat), .int .u8 (f 4 : Nat), .int .u8 (f 5 : Nat), .int .u8 (f 6 : Nat), .int .u8 (f 7 : Nat), .int .u8 (f 8 : Nat), .int .u8 (f 9 : Nat), .int .u8 (f 10 : Nat), .int .u8 (f 11 : Nat), .int .u8 (f 12 : Nat), .int .u8 (f 13 : Nat), .int .u8 (f 14 : Nat), .int .u8 (f 15 : Nat)] 37)).alloc (.cells #[.int .u8 (row 0 : Nat), .int .u8 (row 1 : Nat), .int .u8 (row 2 : Nat), .int .u8 (row 3 : Nat)] 111)).alloc (.cells #[.int .u8 0, .int .u8 0, .int .u8 0, .int .u8 0, .int .u8 0, .int .u8 0, .int .u8 0, .int .u8 0, .int .u8 0, .int .u8 0, .int .u8 0, .int .u8 0, .int .u8 0, .int .u8 0, .int .u8 0, .int .u8 0] 37)).alloc (.cells #[.int .u8 0, .int .u8 0, .int .u8 0, .int .u8 0, .int .u8 0, .int .u8 0, .int .u8 0, .int .u8 0, .int .u8 0, .int .u8 0, .int .u8 0, .int .u8 0, .int .u8 0, .int .u8 0, .int .u8 0, .int .u8 0] 37)) = w4 at HI ⊢
 obtain ⟨B3, HB3⟩ : ∃ b, Hid (w.heap.size + 1 + 1 + 1 = b) := ⟨_, rfl⟩
 obtain ⟨B2, HB2⟩ : ∃ b, Hid (w.heap.size + 1 + 1 = b) := ⟨_, rfl⟩
 obtain ⟨B1, HB1⟩ : ∃ b, Hid (w.heap.size + 1 = b) := ⟨_, rfl⟩
 rw [HB3.out, HB2.out, HB1.out] at HI ⊢
 have HBB : Hid (w.heap.size < B1 ∧ B1 < B2 ∧ B2 < B3) := ⟨by have := HB1.out; omega, by have := HB1.out; have := HB2.out; omega, by have := HB2.out; have := HB3.out; omega⟩
 clear HB1 HB2 HB3
 go_loopw [8] (fun cc wr => ∃ c : Nat, c ≤ 4 ∧ cc = .int .i64 (c : Nat) ∧ Hid (CoS w B1 B2 B3 f row (part X (4 * c)) wr)) (fun cc _ => 4 - (intOf cc).toNat)
 case atStart => exact ⟨0, by omega, rfl, HI.out.congr (fun j hj => by unfold part; rw [if_neg (by omega)]; rfl)⟩
 case round =>
  obtain ⟨c, hc, rfl, HC⟩ := hrel
  by_cases hc4 : c < 4
  ·have hci : ((c : Nat) : Int) < 4 := by omega
   go_wp2
   go_loopw [9] (fun rr wr => ∃ r : Nat, r ≤ 4 ∧ rr = .int .i64 (r : Nat) ∧ Hid (CoS w B1 B2 B3 f row (part X (4 * c + r)) wr)) (fun rr _ => 4 - (intOf rr).toNat)
   case atStart => exact ⟨0, by omega, rfl, HC.out⟩
   case round =>
    obtain ⟨r, hr, rfl, HR⟩ := hrel
    by_cases hr4 : r < 4
    ·have hri : ((r : Nat) : Int) < 4 := by omega
     go_wp2
     go_loopw [10, 11] (fun xx jj wr => ∃ n : Nat, n ≤ 4 ∧ jj = .int .i64 (n : Nat) ∧ xx = .int .u8 (colX row f c r n : Nat) ∧ Hid (CoS w B1 B2 B3 f row (part X (4 * c + r)) wr)) (fun _ jj _ => 4 - (intOf jj).toNat)
     case atStart => exact ⟨0, by omega, rfl, rfl, HR.out⟩
     case round =>
      obtain ⟨n, hn, rfl, rfl, HN⟩ := hrel
      obtain ⟨x, HX⟩ : ∃ x, Hid (x = colX row f c r n) := ⟨_, rfl⟩
      rw [← HX.out]
      by_cases hn4 : n < 4
      ·obtain ⟨d, HD⟩ : ∃ d, Hid (d = n + 4 - r) := ⟨_, rfl⟩
       obtain ⟨q, HQ⟩ : ∃ q, Hid (q = d % 4) := ⟨_, rfl⟩
       obtain ⟨p, HP⟩ : ∃ p, Hid (p = 4 * c + n) := ⟨_, rfl⟩
       obtain ⟨c4, HC4⟩ : ∃ p, Hid (p = 4 * c) := ⟨_, rfl⟩
       obtain ⟨ρ, HRO⟩ : ∃ p, Hid (p = row q) := ⟨_, rfl⟩
       obtain ⟨y, HY⟩ : ∃ t, Hid (t = f p) := ⟨_, rfl⟩
       obtain ⟨z, HZ⟩ : ∃ z, Hid (z = byF ρ y) := ⟨_, rfl⟩
       obtain ⟨x', HX'⟩ : ∃ z, Hid (z = colX row f c r (n + 1)) := ⟨_, rfl⟩
       have hni : ((n : Nat) : Int) < 4 := by omega
       have hw4 : IntKind.i64.wrap (((n : Nat) : Int) + 4) = ((n : Nat) : Int) + 4 := wraps_i64 _ (by omega) (by omega)
       have hd : ((n : Nat) : Int) + 4 - ((r : Nat) : Int) = ((d : Nat) : Int) := by have := HD.out; omega
       have hwd : IntKind.i64.wrap ((d : Nat) : Int) = ((d : Nat) : Int) := wraps_i64 _ (by omega) (by have := HD.out; omega)
       have hq : ((d : Nat) : Int).tmod 4 = ((q : Nat) : Int) := by rw [Int.tmod_eq_emod_of_nonneg (by omega)]; have := HQ.out; omega
       have hq4 : ((q : Nat) : Int) < 4 := by have := HQ.out; omega
       have hc4' : (4 : Int) * ((c : Nat) : Int) = ((c4 : Nat) : Int) := by have := HC4.out; omega
       have hwc : IntKind.i64.wrap ((c4 : Nat) : Int) = ((c4 : Nat) : Int) := wraps_i64 _ (by omega) (by have := HC4.out; omega)
       have hp : ((c4 : Nat) : Int) + ((n : Nat) : Int) = ((p : Nat) : Int) := by have := HC4.out; have := HP.out; omega
       have hwp : IntKind.i64.wrap ((p : Nat) : Int) = ((p : Nat) : Int) := wraps_i64 _ (by omega) (by have := HP.out; omega)
       have hp16 : ((p : Nat) : Int) < 16 := by have := HP.out; omega
       have hro : byR ρ := by rw [HRO.out]; exact HRW.out q (by have := HQ.out; omega)
       have hro16 : ((ρ : Nat) : Int) < 16 := by unfold byR at hro; omega
       have hy : y < 256 := by rw [HY.out]; exact HFl.out p
       have hyi : ((y : Nat) : Int) < 256 := by omega
       have hx : bits .xor .u8 ((x : Nat) : Int) ((z : Nat) : Int) = ((x' : Nat) : Int) := by
        rw [xor8 _ _ (by rw [HX.out]; exact colX_lt row f HFl.out c r n) (by rw [HZ.out]; exact byF_lt _ _ hy), HX'.out, colX, HX.out, HZ.out, HRO.out, HY.out, HQ.out, HD.out, HP.out]
       have hSt : wr.drew.cell? ⟨B1, q, none⟩ = some (.int .u8 (ρ : Nat)) ∧ wr.drew.cell? ⟨w.heap.size, p, none⟩ = some (.int .u8 (y : Nat)) ∧ wr.drew.cell? ⟨g, 514 + ρ * 256 + y, none⟩ = some (.int .u8 (z : Nat)) := by
        refine ⟨?_, ?_, ?_⟩
        ·show wr.cell? _ = _
         rw [HN.out.r q (by omega), HRO.out]
        ·show wr.cell? _ = _
         rw [HN.out.b.c p (by omega), HY.out]
        ·show wr.cell? _ = _
         rw [HN.out.old.cell (p := ⟨g, 514 + ρ * 256 + y, none⟩) HH.out.lt, HZ.out, Nat.mul_comm ρ 256]
         exact HH.out.by' ρ hro y hy
       clear hro hy
       go_upto_region 12 with fail
       refine wp_region_noPanic ?_
       refine wp_region_held_drew (S := fun u => u.cell? ⟨B1, q, none⟩ = some (.int .u8 (ρ : Nat)) ∧ u.cell? ⟨w.heap.size, p, none⟩ = some (.int .u8 (y : Nat)) ∧ u.cell? ⟨g, 514 + ρ * 256 + y, none⟩ = some (.int .u8 (z : Nat))) (by kernel_rfl) (hSt) (fun _ => ?_)
       refine tG 0 24 (.int .u8 (x : Nat)) rfl rfl hSt ?_
       simp only [pU]
       refine tG 1 25 (.pointer (some ⟨g, 0, none⟩)) rfl rfl hSt ?_
       simp only [pU]
       refine tG 2 26 (.int .i64 (n : Nat)) rfl rfl hSt ?_
       simp only [pU]
       refine tG 3 27 (.int .i64 ((n : Nat) + 4)) rfl rfl hSt ?_
       simp only [pU]
       refine tG 4 28 (.int .i64 (r : Nat)) rfl rfl hSt ?_
       simp only [pU]
       refine tG 5 29 (.int .i64 (d : Nat)) rfl rfl hSt ?_
       simp only [pU]
       refine tG 6 30 (.int .i64 (q : Nat)) rfl rfl hSt ?_
       simp only [pU]
       refine tG 7 31 (.pointer (some ⟨B1, q, none⟩)) rfl rfl hSt ?_
       simp only [pU]
       refine tH 8 32 (.int .u8 (ρ : Nat)) rfl rfl (by kernel_rfl) (hSt) (Or.inl ⟨by rfl, fun w' hS' => by have q1 := hS'.1; go_simp⟩) ?_
       simp only [pU]
       refine tG 9 33 (.int .i64 (c : Nat)) rfl rfl hSt ?_
       simp only [pU]
       refine tG 10 34 (.int .i64 (c4 : Nat)) rfl rfl hSt ?_
       simp only [pU]
       refine tG 11 35 (.int .i64 (n : Nat)) rfl rfl hSt ?_
       simp only [pU]
       refine tG 12 36 (.int .i64 (p : Nat)) rfl rfl hSt ?_
       simp only [pU]
       refine tG 13 37 (.pointer (some ⟨w.heap.size, p, none⟩)) rfl rfl hSt ?_
       simp only [pU]
       refine tH 14 38 (.int .u8 (y : Nat)) rfl rfl (by kernel_rfl) (hSt) (Or.inl ⟨by rfl, fun w' hS' => by have q1 := hS'.2.1; go_simp⟩) ?_
       simp only [pU]
       refine tG 15 39 (.pointer (some ⟨g, 0, none⟩)) rfl rfl hSt ?_
       simp only [pU]
       refine tG 16 40 (.pointer (some ⟨g, 514, none⟩)) rfl rfl hSt ?_
       simp only [pU]
       refine tG 17 41 (.pointer (some ⟨g, 514 + ρ * 256, none⟩)) rfl rfl hSt ?_
       simp only [pU]
       refine tG 18 42 (.pointer (some ⟨g, 514 + ρ * 256 + y, none⟩)) rfl rfl hSt ?_
       simp only [pU]
       refine tH 19 43 (.int .u8 (z : Nat)) rfl rfl (by kernel_rfl) (hSt) (Or.inl ⟨by rfl, fun w' hS' => by have q1 := hS'.2.2; go_simp⟩) ?_
       simp only [pU]
       refine tG 20 44 (.int .u8 (x' : Nat)) rfl rfl hSt ?_
       simp only [pU]
       refine tG 21 10 (.int .u8 (x' : Nat)) rfl rfl hSt ?_
       simp only [pU]
       refine wpAnyH_done (by kernel_rfl) ?_ _
       refine NoPanic.normal ?_
       clear hSt
       have HN2 : Hid (CoS w B1 B2 B3 f row (part X (4 * c + r)) wr.drew) := HN.out.drew
       generalize wr.drew = wn at HN2 ⊢
       go_wp2
       refine ⟨⟨n + 1, by omega, rfl, by rw [HX'.out], HN2.out⟩, by simp only [intOf]; omega⟩
      ·obtain rfl : n = 4 := by omega
       obtain ⟨p, HP⟩ : ∃ p, Hid (p = 4 * c + r) := ⟨_, rfl⟩
       obtain ⟨c4, HC4⟩ : ∃ p, Hid (p = 4 * c) := ⟨_, rfl⟩
       have hc4' : (4 : Int) * ((c : Nat) : Int) = ((c4 : Nat) : Int) := by have := HC4.out; omega
       have hwc : IntKind.i64.wrap ((c4 : Nat) : Int) = ((c4 : Nat) : Int) := wraps_i64 _ (by omega) (by have := HC4.out; omega)
       have hp : ((c4 : Nat) : Int) + ((r : Nat) : Int) = ((p : Nat) : Int) := by have := HC4.out; have := HP.out; omega
       have hwp : IntKind.i64.wrap ((p : Nat) : Int) = ((p : Nat) : Int) := wraps_i64 _ (by omega) (by have := HP.out; omega)
       have hp16 : ((p : Nat) : Int) < 16 := by have := HP.out; omega
       have hpn : p < 16 := by omega
       obtain ⟨c0, hc0⟩ := there_cell HN.out.out.t p hpn
       have hf0 := there_froz HN.out.out.t p hpn
       have HN2 : Hid (CoS w B1 B2 B3 f row (part X (4 * c + (r + 1))) (wr.setCell ⟨B3, p, none⟩ (.int .u8 (x : Nat)))) := by
        refine (HN.out.set p x hpn HBB.out.1 HBB.out.2.1 HBB.out.2.2).congr (fun j hj => ?_)
        rw [HP.out]
        exact part_next X (4 * c + r) x (by rw [HX.out, HXX.out]; show _ = colX row f ((4 * c + r) / 4) ((4 * c + r) % 4) 4; rw [show (4 * c + r) / 4 = c by omega, show (4 * c + r) % 4 = r by omega]) j
       clear hn hn4
       go_wp2
       refine ⟨⟨r + 1, by omega, rfl, HN2.out⟩, by simp only [intOf]; omega⟩
    ·obtain rfl : r = 4 := by omega
     clear hr hr4
     go_wp2
     refine ⟨⟨c + 1, by omega, rfl, HR.out.congr (fun j hj => by rw [show 4 * (c + 1) = 4 * c + 4 by omega])⟩, by simp only [intOf]; omega⟩
  ·obtain rfl : c = 4 := by omega
   have HA : Hid (Ar wr B3 X) := HC.out.out.congr (fun j hj => by unfold part; rw [if_pos (by omega)])
   have HRg : Hid (wr.rangeAt B3 0 (arL X)) := HA.out.range
   obtain ⟨RL, HRL⟩ : ∃ L, Hid (L = arL X) := ⟨_, rfl⟩
   have HRA : Hid (R2 = RL.toArray) := by show _ = _; rw [HR2.out, HRL.out, arL_array]
   rw [← HRL.out] at HRg
   have HLl : Hid (RL.length = 16) := by show _ = _; rw [HRL.out]; rfl
   have h41 : Hid ((Tryz.prog.info? 37).map (·.size) = some RL.length) := by show _ = _; rw [HLl.out]; exact size41
   have HTh : Hid (wr.there B2 0 RL.toArray.size) := by show World.there _ _ _ _; rw [List.size_toArray, HLl.out]; exact HC.out.res
   have h41' : Hid ((Tryz.prog.info? 37).map (·.size) = some RL.toArray.size) := by show _ = _; rw [List.size_toArray]; exact h41.out
   have h1c : Hid (RL.toArray.all (·.oneCell') = true) := by show _ = _; rw [HRL.out, arL_array]; exact arA_one _
   clear hc hc4
   go_wp2_with (first
    | (refine wpList_load_mid (by rfl) 37 (.tmp 7) (by rfl) B3 0 (by rfl) RL _ HRg.out Tryz.underlying37 rfl h41.out ?_)
    | (refine wpList_store_mid (by rfl) 37 (.tmp 6) (.tmp 51) (by rfl) B2 0 RL.toArray (by rfl) (by rfl) HTh.out h41'.out h1c.out ?_))
   refine ret_array RL Tryz.results52 rfl ?_ Tryz.underlying37 rfl h41.out ⟨by rw [HRA.out], ?_⟩
   ·exact World.rangeAt_setCells_same _ _ _ _ (by rw [HLl.out]; exact HC.out.res)
   ·exact belowB_setCells _ (by have := HBB.out; omega) _ _ _ HC.out.old
theorem columnsE (g gr nk : Nat) (K : Nat → Nat) (s : W4) (w : World) (h : RefAt w g gr nk K) :
  Calls Tryz.prog 52 #[.pointer (some ⟨g, 0, none⟩), .agg (arA (sb s)), .agg #[.int .u8 2, .int .u8 3, .int .u8 1, .int .u8 1]] w fun e w' => e = .returned (.agg (arA (sb (mcS s)))) ∧ Below w.heap.size w w' := by
 have e : arA (sb (mcS s)) = arA (fun j => colX rowE (sb s) (j / 4) (j % 4) 4) := arA_congr (fun j hj => by
  rw [sb_mc s (j / 4) (j % 4) (by omega) (by omega), show 4 * (j / 4) + j % 4 = j by omega])
 rw [e]
 exact columns_any g gr nk K rowE (sb s) w h (fun j hj => by
  unfold rowE byR
  split <;> simp) (sb_lt s)
theorem columnsD (g gr nk : Nat) (K : Nat → Nat) (s : W4) (w : World) (h : RefAt w g gr nk K) :
  Calls Tryz.prog 52 #[.pointer (some ⟨g, 0, none⟩), .agg (arA (sb s)), .agg #[.int .u8 14, .int .u8 11, .int .u8 13, .int .u8 9]] w fun e w' => e = .returned (.agg (arA (sb (unmS s)))) ∧ Below w.heap.size w w' := by
 have e : arA (sb (unmS s)) = arA (fun j => colX rowD (sb s) (j / 4) (j % 4) 4) := arA_congr (fun j hj => by
  rw [sb_unm s (j / 4) (j % 4) (by omega) (by omega), show 4 * (j / 4) + j % 4 = j by omega])
 rw [e]
 exact columns_any g gr nk K rowD (sb s) w h (fun j hj => by
  unfold rowD byR
  split <;> simp) (sb_lt s)
end Go.Proofs.YtgmfiljjogdccabGreatDoor
namespace Go.Proofs.YtgmfiljjogdccabGreatDoor
open Go.RowKit
set_option linter.unusedVariables false
/-- The reference's key while its round keys are laid one behind the other. -/
structure RkI (w : World) (g n gb cb gr c m : Nat) (K : Nat → Nat) (v : World) : Prop where
 t : RkT w g 256 v
 b : v.cell? ⟨g, 0, none⟩ = some (.slice (some ⟨gb, 0, none⟩) n cb)
 r : v.cell? ⟨g, 1, none⟩ = some (.slice (some ⟨gr, 0, none⟩) m c)
 o : v.ownsRow (g + 1) 5 1 (.slice (some ⟨gr, 0, none⟩) m c) m (rbL K m)
theorem RkI.gr_lt {w v : World} {g n gb cb gr c m : Nat} {K : Nat → Nat} (h : RkI w g n gb cb gr c m K v) : g < gr ∧ gr < v.heap.size := by
 have := h.o.lt gr rfl
 exact ⟨by omega, this.2⟩
theorem RkI.cell {w v : World} {g n gb cb gr c m : Nat} {K : Nat → Nat} (h : RkI w g n gb cb gr c m K v) (j : Nat) (hj : j < m) : v.cell? ⟨gr, j, none⟩ = some (.int .u8 (rb K j : Nat)) := by
 rw [h.o.cellAt j (by omega)]
 exact rbL_at K m j hj
theorem RkI.below {w v v' : World} {g n gb cb gr c m : Nat} {K : Nat → Nat} (h : RkI w g n gb cb gr c m K v) (hb : Below v.heap.size v v') : RkI w g n gb cb gr c m K v' :=
 ⟨h.t.keep (hb.block g h.t.lt) (h.t.old.trans (hb.mono (Nat.le_of_lt h.t.lt))) hb.size, (hb.cell (p := ⟨g, 0, none⟩) h.t.lt).trans h.b, (hb.cell (p := ⟨g, 1, none⟩) h.t.lt).trans h.r,
  h.o.kept (row := none) ⟨hb.os, hb.tape, hb.output, hb.size, fun k hk _ => hb.block k hk⟩ (by simp [Value.ownBlock])⟩
theorem RkI.app {w v v1 v2 : World} {g n gb cb gr c m g' c' : Nat} {K : Nat → Nat} {x : Value} (h : RkI w g n gb cb gr c m K v) (hb : Below v.heap.size v v1) (hx : x = .int .u8 (rb K m : Nat)) (ho : v2.ownsRow (g + 1) 5 1 (.slice (some ⟨g', 0, none⟩) (m + 1) c') (m + 1) (rbL K m ++ [x])) (hg : v1.grownBy v2 (some gr)) :
  RkI w g n gb cb g' c' (m + 1) K (v2.setCell ⟨g, 1, none⟩ (.slice (some ⟨g', 0, none⟩) (m + 1) c')) := by
 have h1 := h.below hb
 have hne : some g ≠ some gr := by have := h.gr_lt; simp; omega
 have hgb := hg.block g h1.t.lt hne
 have ht : RkT w g 256 v2 := h1.t.keep hgb (h1.t.old.grown hg (Nat.le_of_lt h1.t.lt) (by intro q hq; have := h.gr_lt; simp at hq; omega)) hg.size
 refine ⟨ht.set 1 _ (by omega), (cell_other _ _ _ _ _ (by omega)).trans ((World.cell?_of_block (a := ⟨g, 0, none⟩) hgb).trans h1.b), set_same _ ht.room (by omega), own_set ?_ (Nat.lt_succ_self g)⟩
 rw [rbL_succ, ← hx]
 exact ho
/-- Four bytes at tb. -/
structure Tr (v : World) (tb : Nat) (f : Nat → Nat) : Prop where
 lt : tb < v.heap.size
 c : ∀ j, j < 4 → v.cell? ⟨tb, j, none⟩ = some (.int .u8 (f j : Nat))
theorem Tr.below {v v' : World} {tb : Nat} {f : Nat → Nat} (h : Tr v tb f) (hb : Below v.heap.size v v') : Tr v' tb f :=
 ⟨Nat.lt_of_lt_of_le h.lt hb.size, fun j hj => (hb.cell (p := ⟨tb, j, none⟩) h.lt).trans (h.c j hj)⟩
theorem Tr.new (v : World) (a b c d : Nat) : Tr (v.alloc (.cells #[.int .u8 (a : Nat), .int .u8 (b : Nat), .int .u8 (c : Nat), .int .u8 (d : Nat)] 5)) v.heap.size (fun j => if j = 0 then a else if j = 1 then b else if j = 2 then c else d) := by
 refine ⟨by simp, fun j hj => ?_⟩
 rw [World.cell?_alloc_at _ 5 _ _ rfl]
 have hm : j = 0 ∨ j = 1 ∨ j = 2 ∨ j = 3 := by omega
 rcases hm with rfl | rfl | rfl | rfl <;> rfl
theorem Tr.congr {v : World} {tb : Nat} {f f' : Nat → Nat} (h : Tr v tb f) (e : ∀ j, j < 4 → f j = f' j) : Tr v tb f' := ⟨h.lt, fun j hj => by rw [← e j hj]; exact h.c j hj⟩
theorem Tr.app {v v1 v2 : World} {tb gr g : Nat} {f : Nat → Nat} {x : Value} (h : Tr v tb f) (hb : Below v.heap.size v v1) (hg : v1.grownBy v2 (some gr)) (hne : gr ≠ tb) (hg2 : g ≠ tb) : Tr (v2.setCell ⟨g, 1, none⟩ x) tb f := by
 have h1 := h.below hb
 refine ⟨by have := Nat.lt_of_lt_of_le h1.lt hg.size; simpa [World.setCell] using this, fun j hj => ?_⟩
 rw [World.cell?_setCell_far _ _ _ _ (by exact hg2)]
 exact (World.cell?_of_block (a := ⟨tb, j, none⟩) (hg.block tb h1.lt (by simp; omega))).trans (h1.c j hj)
end Go.Proofs.YtgmfiljjogdccabGreatDoor
namespace Go.Proofs.YtgmfiljjogdccabGreatDoor
open Go.ChangeShapes Go.WideShapes Go.ChangeAt Go.RowKit
theorem own : ownKnob Tryz.prog.godebug = none := by kernel_rfl
theorem laidOut : laidOutB Tryz.prog = true := by kernel_rfl
/-- The table, as the document lays it. -/
def rconL : List Int := [1, 2, 4, 8, 16, 32, 64, 128, 27, 54]
/-- A block that holds a table. -/
def refilled (zs : List Int) : Obj → Obj
 | .cells _ t frozen => .cells (zs.map (Value.int .u8)).toArray t frozen
 | o => o
theorem rcon_at : ∀ i : Fin 10, rconL.getD i.1 0 = (rcT i.1 : Nat) := by decide +kernel
theorem rc_of {W : World} (h : laidMet Tryz.prog [("coffer/rijndael.rcon", Lib.tabData .u8 rconL)] W) : RC W := by
 have hr : Lib.TabIs Tryz.prog W "coffer/rijndael.rcon" .u8 rconL := Lib.tabIs_of_head (g := 0) (t := 100) (e := 5) (n := 10) (by kernel_rfl) (by kernel_rfl) (by kernel_rfl) (by kernel_rfl) (by kernel_rfl) (by kernel_rfl) h
 intro i hi
 have hc := hr.cell (g := 0) (by kernel_rfl) i (by simpa [rconL] using hi)
 rw [hc, ← rcon_at ⟨i, hi⟩]
end Go.Proofs.YtgmfiljjogdccabGreatDoor
