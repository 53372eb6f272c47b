import Derived.Test.YtnkpngpjlkkkbaaBtf
import Derived.Deep.OwnRows
namespace Go.Proofs.Ytnkpngpjlkkkbaa
open Go.RowKit Go.Proofs.Ytnkpngpjlkkkbaa.Fld
set_option linter.unusedVariables false
set_option linter.unusedSimpArgs false
/-- A row of n coefficients at g, from its beginning. -/
def RowC (w : World) (g cap n : Nat) (c : Nat → Bool) : Prop := ∃ cur : Array Value, w.heap[g]? = some (.cells cur 3 (0, 0)) ∧ n ≤ cap ∧ cur.size = cap ∧ ∀ j, j < n → cur[j]? = some (.int .i64 (cb (c j)))
theorem RowC.lt {w : World} {g cap n : Nat} {c : Nat → Bool} (h : RowC w g cap n c) : g < w.heap.size := by
  obtain ⟨cur, h1, _⟩ := h
  rcases Nat.lt_or_ge g w.heap.size with q | q
  · exact q
  · rw [Array.getElem?_eq_none q] at h1; cases h1
theorem RowC.cell {w : World} {g cap n : Nat} {c : Nat → Bool} (h : RowC w g cap n c) (j : Nat) (hj : j < n) : w.cell? ⟨g, j, none⟩ = some (.int .i64 (cb (c j))) := by
  obtain ⟨cur, h1, h2, h3, h4⟩ := h
  rw [World.cell?, h1]
  exact h4 j hj
theorem RowC.frozen {w : World} {g cap n : Nat} {c : Nat → Bool} (h : RowC w g cap n c) (j : Nat) : w.frozen? ⟨g, j, none⟩ = false := by
  obtain ⟨cur, h1, h2, h3, h4⟩ := h
  simp [World.frozen?, h1]
theorem RowC.bits {w : World} {g cap n : Nat} {c : Nat → Bool} {y : BitVec 128} (h : RowC w g cap n c) (hn : 128 ≤ n) (hc : ∀ j, j < 128 → c j = y.getLsbD j) : BitsAt w g 0 y := fun j hj => by
  rw [Nat.zero_add, h.cell j (by omega), hc j hj]
theorem set_row {w : World} {N i : Nat} {cur : Array Value} {t : TypeId} (h : w.heap[N]? = some (.cells cur t (0, 0))) (v : Value) : (w.setCell ⟨N, i, none⟩ v).heap[N]? = some (.cells (cur.setIfInBounds i v) t (0, 0)) := by
  rw [setCell_eq_setRow w N i cur t (0, 0) v h]
  exact setRow_heap w N cur _ t (0, 0) h
theorem RowC.set {w : World} {g cap n : Nat} {c d : Nat → Bool} (h : RowC w g cap n c) (i : Nat) (x : Int) (hx : x = cb (d i)) (hd : ∀ j, j ≠ i → d j = c j) : RowC (w.setCell ⟨g, i, none⟩ (.int .i64 x)) g cap n d := by
  obtain ⟨cur, h1, h2, h3, h4⟩ := h
  refine ⟨_, set_row h1 _, h2, by simpa using h3, fun j hj => ?_⟩
  rw [Array.getElem?_setIfInBounds]
  by_cases e : i = j
  · subst e
    rw [if_pos rfl, if_pos (by omega), hx]
  · rw [if_neg e, h4 j hj, hd j (Ne.symm e)]
theorem RowC.same {w w' : World} {g cap n : Nat} {c : Nat → Bool} (h : RowC w g cap n c) (hk : w'.heap[g]? = w.heap[g]?) : RowC w' g cap n c := by
  obtain ⟨cur, h1, h2⟩ := h
  exact ⟨cur, by rw [hk]; exact h1, h2⟩
theorem RowC.congr {w : World} {g cap n : Nat} {c d : Nat → Bool} (h : RowC w g cap n c) (hd : ∀ j, j < n → d j = c j) : RowC w g cap n d := by
  obtain ⟨cur, h1, h2, h3, h4⟩ := h
  exact ⟨cur, h1, h2, h3, fun j hj => by rw [hd j hj]; exact h4 j hj⟩
theorem RowC.of_owns {w : World} {B g cap n : Nat} {c : Nat → Bool} (h : w.ownsRow B 3 1 (.slice (some ⟨g, 0, none⟩) n cap) n (ci c n)) (hn : 0 < n) : RowC w g cap n c := by
  rcases h.2 with ⟨h0, _⟩ | ⟨g', cap', cur, hv, hb, hg, h1, h2, h3, h4⟩
  · cases h0
  · cases hv
    refine ⟨cur, hg, h1, by omega, fun j hj => ?_⟩
    have e := congrArg (·[j]?) h4
    simp only [Nat.mul_one] at e
    rw [ci_at c n j hj, List.getElem?_take_of_lt hj] at e
    rw [← e]
    exact (Array.getElem?_toList).symm
theorem xor1 (a b : Bool) : bits .xor .i64 (cb a) (cb b) = cb (xor a b) := by cases a <;> cases b <;> decide
theorem make255 (w : World) : (Instr.makeSlice 41 (.int .i64 255) (.int .i64 255)).run Try.prog w = .ok (.slice (some ⟨w.heap.size, 0, none⟩) 255 255) (w.alloc (.cells (madeCells #[.int .i64 0] 255) 3)) := by
  obtain ⟨i, hi, hz0, hz1, hz2⟩ := info_parts info3
  exact run_make_row (P := Try.prog) 41 3 i (.int .i64 0) und41 hi hz0 hz1 rfl .i64 .i64 255 (by rw [hz2]; decide) (by decide) w
theorem made0 (w : World) : RowC (w.alloc (.cells (madeCells #[.int .i64 0] 255) 3)) w.heap.size 255 255 (fun _ => false) := by
  refine ⟨_, heap_alloc_new w _, Nat.le_refl _, by kernel_rfl, fun j hj => ?_⟩
  have e : madeCells #[.int .i64 0] 255 = (Array.replicate 255 (.int .i64 0)) := by kernel_rfl
  rw [e, Array.getElem?_replicate, if_pos hj]
  rfl
structure PrI (w wr : World) (c : Nat → Bool) : Prop where
  row : RowC wr w.heap.size 255 255 c
  bel : Below w.heap.size w wr
set_option maxHeartbeats 1600000 in
set_option maxRecDepth 100000 in
/-- cofferref03.product. -/
theorem product_ok (a b : BitVec 128) (ga gb ca cb' : Nat) (w : World) (ha : ga < w.heap.size) (hb : gb < w.heap.size) (hA : BitsAt w ga 0 a) (hBb : BitsAt w gb 0 b) : Calls Try.prog 29 #[.slice (some ⟨ga, 0, none⟩) 128 ca, .slice (some ⟨gb, 0, none⟩) 128 cb'] w fun e w' => Hid (e = .returned (.slice (some ⟨w.heap.size, 0, none⟩) 255 255) ∧ RowC w' w.heap.size 255 255 (prd a b 128) ∧ Below w.heap.size w w') := by
  have HA : Hid (BitsAt w ga 0 a ∧ ga < w.heap.size ∧ BitsAt w gb 0 b ∧ gb < w.heap.size) := ⟨hA, ha, hBb, hb⟩
  clear hA ha hBb hb
  have mk := make255 w
  have HS0 : Hid (PrI w (w.alloc (.cells (madeCells #[.int .i64 0] 255) 3)) (prd a b 0)) := ⟨made0 w, (Below.refl _ _).alloc (Nat.le_refl _) _⟩
  generalize (w.alloc (.cells (madeCells #[.int .i64 0] 255) 3)) = wA at mk HS0
  go_enter Try.func29, Try.ntmps29
  go_wp2
  clear mk
  go_loopw [6] (fun vi wr => ∃ i : Nat, vi = .int .i64 (i : Nat) ∧ i ≤ 128 ∧ Hid (PrI w wr (prd a b i))) (fun vi _ => 128 - (intOf vi).toNat)
  case atStart => exact ⟨0, rfl, by omega, HS0⟩
  case round =>
    obtain ⟨i, rfl, hi, HR⟩ := hrel
    clear HS0
    by_cases hlt : i < 128
    · have g0 : (0 : Int) ≤ (i : Int) := by omega
      have g1 : (i : Int) < 128 := by omega
      have c0 : wr.cell? ⟨ga, i, none⟩ = some (.int .i64 (cb (a.getLsbD i))) := by
        rw [HR.out.bel.cell (p := ⟨ga, i, none⟩) HA.out.2.1]
        have q := HA.out.1 i hlt
        rw [Nat.zero_add] at q
        exact q
      by_cases hai : a.getLsbD i
      · rw [hai] at c0
        have c0' : wr.cell? ⟨ga, i, none⟩ = some (.int .i64 1) := c0
        clear c0
        have HP : Hid (prd a b (i + 1) = put (prd a b i) b i 128) := by show prd a b (i + 1) = _; rw [prd, if_pos hai]
        go_upto_region 7 with fail
        go_loopw [7] (fun vk wx => ∃ k : Nat, vk = .int .i64 (k : Nat) ∧ k ≤ 128 ∧ Hid (PrI w wx (put (prd a b i) b i k))) (fun vk _ => 128 - (intOf vk).toNat)
        case atStart => exact ⟨0, rfl, by omega, HR⟩
        case round =>
          obtain ⟨k, rfl, hk, HK⟩ := hrel
          clear HR c0'
          by_cases hkl : k < 128
          · have k0 : (0 : Int) ≤ (k : Int) := by omega
            have k1 : (k : Int) < 128 := by omega
            obtain ⟨s, hs⟩ : ∃ s : Nat, s = i + k := ⟨_, rfl⟩
            have HSs : Hid (s = i + k) := hs
            have hs1 : IntKind.i64.wrap ((i : Int) + (k : Int)) = (s : Nat) := by rw [IntKind.wrap_i64]; omega
            have s0 : (0 : Int) ≤ (s : Int) := by omega
            have s1 : (s : Int) < 255 := by omega
            obtain ⟨X, HX⟩ : ∃ X : Int, Hid (X = cb (put (prd a b i) b i k s)) := ⟨_, rfl⟩
            obtain ⟨Y, HY⟩ : ∃ X : Int, Hid (X = cb (b.getLsbD k)) := ⟨_, rfl⟩
            have e0 : wr.cell? ⟨w.heap.size, s, none⟩ = some (.int .i64 X) := by rw [HX.out]; exact HK.out.row.cell s (by omega)
            have e1 : wr.cell? ⟨gb, k, none⟩ = some (.int .i64 Y) := by
              rw [HK.out.bel.cell (p := ⟨gb, k, none⟩) HA.out.2.2.2, HY.out]
              have q := HA.out.2.2.1 k hkl
              rw [Nat.zero_add] at q
              exact q
            have f0 : wr.frozen? ⟨w.heap.size, s, none⟩ = false := HK.out.row.frozen s
            obtain ⟨Z, hZ⟩ : ∃ Z, bits .xor .i64 X Y = Z := ⟨_, rfl⟩
            have HK5 : Hid (PrI w (wr.setCell ⟨w.heap.size, s, none⟩ (.int .i64 Z)) (put (prd a b i) b i (k + 1))) := by
              refine ⟨HK.out.row.set s Z ?_ (fun j hj => ?_), HK.out.bel.setCell (Nat.le_refl _) _⟩
              · rw [← hZ, HX.out, HY.out, xor1, put_succ, if_pos hs]
              · rw [put_succ, if_neg (by rw [← hs]; exact hj)]
            clear hs HSs
            go_upto_region 9 with fail
            go_region
            go_wp2
            exact ⟨⟨k + 1, by simp, by omega, HK5.out.row.same rfl, HK5.out.bel.drew⟩, by simp [intOf]; omega⟩
          · have k1 : ¬ (k : Int) < 128 := by omega
            have HK5 : Hid (PrI w wr (prd a b (i + 1))) := by
              have q := HK.out
              rw [show k = 128 by omega, ← HP.out] at q
              exact q
            clear HK
            go_wp2
            exact ⟨⟨i + 1, by simp, by omega, HK5⟩, by simp [intOf]; omega⟩
      · have hai' : a.getLsbD i = false := by simpa using hai
        rw [hai'] at c0
        have c0' : wr.cell? ⟨ga, i, none⟩ = some (.int .i64 0) := c0
        have HP : Hid (PrI w wr (prd a b (i + 1))) := by show PrI w wr (prd a b (i + 1)); rw [prd, if_neg hai]; exact HR.out
        clear c0 HR
        go_wp2
        exact ⟨⟨i + 1, by simp, by omega, HP⟩, by simp [intOf]; omega⟩
    · have g1 : ¬ (i : Int) < 128 := by omega
      have HE : Hid (PrI w wr (prd a b 128)) := by
        have q := HR.out
        rw [show i = 128 by omega] at q
        exact q
      clear HR
      go_wp2
      go_ret
      exact ⟨rfl, HE.out.row, HE.out.bel⟩
end Go.Proofs.Ytnkpngpjlkkkbaa
