import Derived.Test.YtcnikfikpnnblaaGreatDoorPart06
import Derived.Laws.ResultCell
import Derived.Below
import Derived.Test.YtcnikfikpnnblaaGreatDoorNmc
import Derived.Deep.OwnRows
namespace Go.Proofs.YtcnikfikpnnblaaGreatDoor
open Go.RowKit
set_option linter.unusedVariables false
/-- Four words as an array. -/
def cols (a b c d : Nat) : Value := .agg #[.int .u32 (a : Nat), .int .u32 (b : Nat), .int .u32 (c : Nat), .int .u32 (d : Nat)]
theorem results_cell1 {fn : Func} {p : Tmp} {ty : TypeId} (h : fn.results = #[.cell p ty]) (tmps : Array Value) (P : Program) (w : World) :
  (results fn tmps).run P w = ((asAddr (tmps.getD p undef)).run P w).andThen fun a w₁ => (loadVar ty a).run P w₁ := by
 simp only [results, h]
 simp [Sem.run_bind, Result.andThen]
/-- A function that ends with an array, which lies in a cell of its own. -/
theorem ret_array {P : Program} {fn : Func} {p : Tmp} {ty : TypeId} {d : TypeDesc} {Q : Ending → World → Prop} {tmps : Array Value} {w : World} {b : Nat} (cs : List Value) (h : fn.results = #[.cell p ty])
  (hp : tmps.getD p undef = .pointer (some ⟨b, 0, none⟩)) (hr : w.rangeAt b 0 cs) (hu : P.underlying ty = some d) (hd : d.isRow = true) (hi : (P.info? ty).map (·.size) = some cs.length)
  (hq : Q (.returned (.agg cs.toArray)) w) : bodyPost P fn Q .ret ⟨tmps, []⟩ w := by
 refine bodyPost_ret (v := .agg cs.toArray) ?_ rfl hq
 rw [results_cell1 h]
 have hl := run_loadVar_mid (P := P) w b 0 ty cs d hr hu hd hi
 simp [hp, asAddr, hl]
theorem range_alloc (w : World) (C : Array Value) (t : TypeId) : ((w.alloc (.cells C t)).drew).rangeAt w.heap.size 0 C.toList := fun j v hv => by
 show (w.alloc (.cells C t)).cell? _ = _
 rw [World.cell?_alloc_at C t _ _ rfl]
 simpa using hv
theorem two_allocs (w : World) (A C : Array Value) (t t' : TypeId) : Below w.heap.size w ((w.alloc (.cells A t)).alloc (.cells C t')) ∧
  ∀ (i : Nat) (v : Value), A[i]? = some v → ((w.alloc (.cells A t)).alloc (.cells C t')).cell? ⟨w.heap.size, i, none⟩ = some v := by
 refine ⟨((Below.refl _ w).alloc (Nat.le_refl _) _).alloc (by simp) _, fun i v hv => ?_⟩
 have hb : Below (w.alloc (.cells A t)).heap.size (w.alloc (.cells A t)) ((w.alloc (.cells A t)).alloc (.cells C t')) := (Below.refl _ _).alloc (Nat.le_refl _) _
 rw [hb.cell (by simp)]
 rw [World.cell?_alloc_at A t _ _ rfl]
 simpa using hv
set_option maxHeartbeats 1600000 in
set_option maxRecDepth 100000 in
theorem add_ok (g o r : Nat) (a0 a1 a2 a3 k0 k1 k2 k3 : Nat) (w : World) (hr : r ≤ 14) (hg : g < w.heap.size)
  (l0 : a0 < 4294967296) (l1 : a1 < 4294967296) (l2 : a2 < 4294967296) (l3 : a3 < 4294967296)
  (m0 : k0 < 4294967296) (m1 : k1 < 4294967296) (m2 : k2 < 4294967296) (m3 : k3 < 4294967296)
  (c0 : w.cell? ⟨g, o + 1 + 4 * r, none⟩ = some (.int .u32 k0)) (c1 : w.cell? ⟨g, o + 1 + 4 * r + 1, none⟩ = some (.int .u32 k1))
  (c2 : w.cell? ⟨g, o + 1 + 4 * r + 2, none⟩ = some (.int .u32 k2)) (c3 : w.cell? ⟨g, o + 1 + 4 * r + 3, none⟩ = some (.int .u32 k3)) :
  Calls Tryz.prog 116 #[.pointer (some ⟨g, o, none⟩), cols a0 a1 a2 a3, .int .i64 r] w fun e w' => e = .returned (cols (Nat.xor a0 k0) (Nat.xor a1 k1) (Nat.xor a2 k2) (Nat.xor a3 k3)) ∧ Below w.heap.size w w' := by
 unfold cols
 have L : Hid (a0 < 4294967296 ∧ a1 < 4294967296 ∧ a2 < 4294967296 ∧ a3 < 4294967296 ∧ k0 < 4294967296 ∧ k1 < 4294967296 ∧ k2 < 4294967296 ∧ k3 < 4294967296) := ⟨l0, l1, l2, l3, m0, m1, m2, m3⟩
 clear l0 l1 l2 l3 m0 m1 m2 m3
 have hsl : ∀ w', Sem.run Tryz.prog (Instr.sliceAt 142 (.pointer (some ⟨g, o + 1, none⟩)) (some (.int .i64 (4 * (r : Int)))) (some (.int .i64 (4 * (r : Int) + 4))) none) w' = .ok (.slice (some ⟨g, o + 1 + 4 * r, none⟩) 4 (60 - 4 * r)) w' := by
  intro w'
  have h := run_sliceAt_array_lh (P := Tryz.prog) w' 142 ⟨g, o + 1, none⟩ (by kernel_rfl) .i64 .i64 (4 * (r : Int)) (4 * (r : Int) + 4) (by omega) (by omega) (by rw [show Tryz.prog.arrayLen 142 = 60 by kernel_rfl]; omega)
  rw [h, show Tryz.prog.arrayLen 142 = 60 by kernel_rfl, show Tryz.prog.elem 142 = 141 by kernel_rfl]
  have e1 : (4 * (r : Int)).toNat = 4 * r := by omega
  have e2 : (4 * (r : Int) + 4).toNat = 4 * r + 4 := by omega
  have e3 : (sizeOf 141).run Tryz.prog w' = .ok 1 w' := by kernel_rfl
  rw [e1, e2, e3]
  simp only [Result.andThen_ok, slicedAt]
  rw [if_neg (by omega), show 4 * r + 4 - 4 * r = 4 by omega, Nat.mul_one, Addr.add_mid]
 go_enter Tryz.func116, Tryz.ntmps116
 have H2 := two_allocs w #[.int .u32 (a0 : Nat), .int .u32 (a1 : Nat), .int .u32 (a2 : Nat), .int .u32 (a3 : Nat)] #[.int .u32 0, .int .u32 0, .int .u32 0, .int .u32 0] 189 189
 have HS : Hid ((fun u : World => u.cell? ⟨g, o + 1 + 4 * r, none⟩ = some (.int .u32 k0) ∧ u.cell? ⟨g, o + 1 + 4 * r + 1, none⟩ = some (.int .u32 k1) ∧ u.cell? ⟨g, o + 1 + 4 * r + 2, none⟩ = some (.int .u32 k2) ∧ u.cell? ⟨g, o + 1 + 4 * r + 3, none⟩ = some (.int .u32 k3) ∧
   u.cell? ⟨w.heap.size, 0, none⟩ = some (.int .u32 a0) ∧ u.cell? ⟨w.heap.size, 1, none⟩ = some (.int .u32 a1) ∧ u.cell? ⟨w.heap.size, 2, none⟩ = some (.int .u32 a2) ∧ u.cell? ⟨w.heap.size, 3, none⟩ = some (.int .u32 a3)) _) :=
  ⟨(H2.1.cell hg).trans c0, (H2.1.cell hg).trans c1, (H2.1.cell hg).trans c2, (H2.1.cell hg).trans c3, H2.2 0 _ rfl, H2.2 1 _ rfl, H2.2 2 _ rfl, H2.2 3 _ rfl⟩
 have HB : Hid (Below w.heap.size w _) := H2.1
 clear H2
 go_wp2
 go_region_held3 (fun u : World => u.cell? ⟨g, o + 1 + 4 * r, none⟩ = some (.int .u32 k0) ∧ u.cell? ⟨g, o + 1 + 4 * r + 1, none⟩ = some (.int .u32 k1) ∧ u.cell? ⟨g, o + 1 + 4 * r + 2, none⟩ = some (.int .u32 k2) ∧ u.cell? ⟨g, o + 1 + 4 * r + 3, none⟩ = some (.int .u32 k3) ∧
   u.cell? ⟨w.heap.size, 0, none⟩ = some (.int .u32 a0) ∧ u.cell? ⟨w.heap.size, 1, none⟩ = some (.int .u32 a1) ∧ u.cell? ⟨w.heap.size, 2, none⟩ = some (.int .u32 a2) ∧ u.cell? ⟨w.heap.size, 3, none⟩ = some (.int .u32 a3)) (first | exact HS.out | go_keep) (fail)
 go_wp2
 obtain ⟨l0, l1, l2, l3, m0, m1, m2, m3⟩ := L.out
 rw [xor32 _ _ l0 m0, xor32 _ _ l1 m1, xor32 _ _ l2 m2, xor32 _ _ l3 m3]
 refine ret_array [.int .u32 (Nat.xor a0 k0 : Nat), .int .u32 (Nat.xor a1 k1 : Nat), .int .u32 (Nat.xor a2 k2 : Nat), .int .u32 (Nat.xor a3 k3 : Nat)] Tryz.results116 rfl ?_ Tryz.underlying189 rfl (by kernel_rfl) ⟨rfl, ?_⟩
 ·have h := range_alloc (w.alloc (.cells #[.int .u32 (a0 : Nat), .int .u32 (a1 : Nat), .int .u32 (a2 : Nat), .int .u32 (a3 : Nat)] 189)) #[.int .u32 (Nat.xor a0 k0 : Nat), .int .u32 (Nat.xor a1 k1 : Nat), .int .u32 (Nat.xor a2 k2 : Nat), .int .u32 (Nat.xor a3 k3 : Nat)] 189
  simpa using h
 ·exact (((Below.refl _ w).alloc (Nat.le_refl _) _).alloc (by simp) _).drew
end Go.Proofs.YtcnikfikpnnblaaGreatDoor
namespace Go.Proofs.YtcnikfikpnnblaaGreatDoor
open Go.RowKit
set_option linter.unusedVariables false
/-- The name of suite j. -/
def spN (j : Nat) : ByteArray := match sxF j with
 | .string s :: _ => s
 | _ => ⟨#[]⟩
theorem sx_row (j : Nat) : ∃ (a x y z : Int) (s : ByteArray) (f g : Value), sxF j = [.string (spN j), .int .i64 a, .string s, .int .i64 x, .int .i64 y, .int .i64 z, f, g] ∧ f.oneCell' = true ∧ g.oneCell' = true := by
 cases j with
 | zero => exact ⟨_, _, _, _, _, _, _, rfl, rfl, rfl⟩
 | succ j =>
  obtain ⟨a, b, c, f, g, h, hf⟩ := mode_at (j % 17) (Nat.mod_lt _ (by decide))
  refine ⟨((16 + 8 * (j / 17) : Nat) : Int), a, b, c, nmB (j % 17), f, .func (.func g) #[] #[], ?_, by rcases hf with rfl | ⟨m, rfl⟩ <;> rfl, rfl⟩
  rw [spN, sxF, h]
/-- The names behind i rounds. -/
def nmC (i : Nat) : List Value := (List.range 52).map fun j => .string (if j < i then spN j else ⟨#[]⟩)
theorem nmC_len (i : Nat) : (nmC i).length = 52 := by simp [nmC]
theorem nmC_at (i j : Nat) (hj : j < 52) : (nmC i)[j]? = some (.string (if j < i then spN j else ⟨#[]⟩)) := by
 simp [nmC, List.getElem?_map, List.getElem?_range hj]
theorem nmC_set (i : Nat) (hi : i < 52) : (nmC i).toArray.setIfInBounds i (.string (spN i)) = (nmC (i + 1)).toArray := by
 apply Array.ext'
 apply List.ext_getElem?
 intro j
 simp only [Array.toList_setIfInBounds]
 by_cases hj : j < 52
 ·rw [nmC_at (i + 1) j hj, List.getElem?_set, nmC_len]
  by_cases e : i = j
  ·subst e
   simp [hi]
  ·rw [if_neg e, nmC_at i j hj]
   have : (j < i) ↔ (j < i + 1) := by omega
   simp only [this]
 ·rw [List.getElem?_eq_none (by simp [nmC_len]; omega), List.getElem?_eq_none (by rw [nmC_len]; omega)]
theorem nmC_zero : madeCells #[.string ⟨#[]⟩] 52 = (nmC 0).toArray := by kernel_rfl
theorem info9 : (Tryz.prog.info? 9).map (fun i => (i.zero, i.size, i.bytes)) = some (some (.string ⟨#[]⟩), 1, 16) := by kernel_rfl
theorem make52 (w : World) : (Instr.makeSlice 40 (.int .i64 52) (.int .i64 52)).run Tryz.prog w = .ok (.slice (some ⟨w.heap.size, 0, none⟩) 52 52) (w.alloc (.cells (nmC 0).toArray 9)) := by
 obtain ⟨i, hi, hz0, hz1, hz2⟩ := info_parts info9
 have q := run_make_row (P := Tryz.prog) 40 9 i (.string ⟨#[]⟩) Tryz.underlying40 hi hz0 hz1 rfl .i64 .i64 52 (by rw [hz2]; decide) (by decide) w
 rw [nmC_zero] at q
 exact q
structure SpI (w1 wr : World) (i : Nat) : Prop where
 row : wr.heap[w1.heap.size]? = some (.cells (nmC i).toArray 9 (0, 0))
 bel : Below w1.heap.size w1 wr
theorem set_row {w : World} {N i : Nat} {cur : Array Value} {t : TypeId} (h : w.heap[N]? = some (.cells cur t (0, 0))) (v : Value) : (w.setCell ⟨N, i, none⟩ v).heap[N]? = some (.cells (cur.setIfInBounds i v) t (0, 0)) := by
 rw [setCell_eq_setRow w N i cur t (0, 0) v h]
 exact setRow_heap w N cur _ t (0, 0) h
theorem SpI.below {w1 wr wx : World} {i : Nat} (h : SpI w1 wr i) (b : Below wr.heap.size wr wx) : SpI w1 wx i := by
 have hlt : w1.heap.size < wr.heap.size := by
  rcases Nat.lt_or_ge w1.heap.size wr.heap.size with q | q
  ·exact q
  ·have := h.row; rw [Array.getElem?_eq_none q] at this; cases this
 exact ⟨by rw [b.block _ hlt]; exact h.row, h.bel.trans (b.mono h.bel.size)⟩
theorem sp_cell {w0 w1 wr : World} {g cap i j : Nat} (h : w1.ownsRow w0.heap.size 85 8 (.slice (some ⟨g, 0, none⟩) 52 cap) 52 (fl sxF 52)) (b : Below w1.heap.size w1 wr) (hi : i < 52) (hj : j < 8) : wr.cell? ⟨g, i * 8 + j, none⟩ = (sxF i)[j]? := by
 have hlt := (ownsRow_lt h (g := g) rfl).2
 rw [b.cell (p := ⟨g, i * 8 + j, none⟩) hlt]
 have e := fl_at sxF 8 sxF_len 52 i j hi hj
 have hx : j < (sxF i).length := by rw [sxF_len]; exact hj
 rw [List.getElem?_eq_getElem hx] at e ⊢
 have q := World.ownsRow.cells h (g := g) rfl (i * 8 + j) _ e
 rw [Addr.add_lit, Nat.zero_add] at q
 exact q
set_option maxHeartbeats 3200000 in
set_option maxRecDepth 100000 in
/-- tweak.Specs. -/
theorem specs_ok (w0 : World) (hT : Pow w0) : Calls Tryz.prog 16 #[] w0 fun e w' => Hid (∃ b, e = .returned (.slice (some ⟨b, 0, none⟩) 52 52) ∧ w0.heap.size ≤ b ∧ w'.heap[b]? = some (.cells (nmC 52).toArray 9 (0, 0)) ∧ Below w0.heap.size w0 w') := by
 have HT : Hid (Pow w0) := hT
 clear hT
 have mk := make52
 go_enter Tryz.func16, Tryz.ntmps16
 go_wp2_with (go_at_call 45; refine (suites_ok _ HT.out).mono ?_; intro e1 w1 hh; obtain ⟨g, cap, rfl, hown, hbel⟩ := hh.out; have HO : Hid (w1.ownsRow w0.heap.size 85 8 (.slice (some ⟨g, 0, none⟩) 52 cap) 52 (fl sxF 52) ∧ Below w0.heap.size w0 w1) := ⟨hown, hbel⟩; clear hh hown hbel)
 have HS0 : Hid (SpI w1 (w1.alloc (.cells (nmC 0).toArray 9)) 0) := ⟨heap_alloc_new w1 _, (Below.refl _ _).alloc (Nat.le_refl _) _⟩
 generalize w1.alloc (.cells (nmC 0).toArray 9) = wA at HS0 ⊢
 clear mk
 go_loopw [11] (fun vi wr => ∃ i : Nat, vi = .int .i64 (i : Nat) ∧ i ≤ 52 ∧ Hid (SpI w1 wr i)) (fun vi _ => 52 - (intOf vi).toNat)
 case atStart => exact ⟨0, rfl, by omega, HS0⟩
 case round =>
  obtain ⟨i, rfl, hi, HR⟩ := hrel
  clear HS0
  by_cases hlt : i < 52
  ·obtain ⟨a, x, y, z, s, f, h, hrow, hf1, hg1⟩ := sx_row i
   have g0 : (0 : Int) ≤ (i : Int) := by omega
   have g1 : (i : Int) < 52 := by omega
   have hsF : ∀ u ad md, (store ad f md).run Tryz.prog u = stored Tryz.prog u ad f md := fun u ad md => run_store Tryz.prog u ad f md hf1
   have hsG : ∀ u ad md, (store ad h md).run Tryz.prog u = stored Tryz.prog u ad h md := fun u ad md => run_store Tryz.prog u ad h md hg1
   clear hf1 hg1
   obtain ⟨NM, HNM⟩ : ∃ q, Hid (spN i = q) := ⟨_, rfl⟩
   rw [HNM.out] at hrow
   have cs : ∀ j, j < 8 → wr.cell? ⟨g, i * 8 + j, none⟩ = (sxF i)[j]? := fun j hj => sp_cell HO.out.1 HR.out.bel hlt hj
   rw [hrow] at cs
   have c0 := cs 0 (by decide)
   have c1 := cs 1 (by decide)
   have c2 := cs 2 (by decide)
   have c3 := cs 3 (by decide)
   have c4 := cs 4 (by decide)
   have c5 := cs 5 (by decide)
   have c6 := cs 6 (by decide)
   have c7 := cs 7 (by decide)
   clear cs hrow
   simp only [List.getElem?_cons_zero, List.getElem?_cons_succ, Nat.add_zero] at c0 c1 c2 c3 c4 c5 c6 c7
   go_upto_region 6 with fail
   obtain ⟨w2, hw2⟩ : ∃ w2, w2 = wr.alloc (.cells #[.string NM, .int .i64 a, .string s, .int .i64 x, .int .i64 y, .int .i64 z, f, h] 85) := ⟨_, rfl⟩
   have HR2 : Hid (SpI w1 w2 i) := by rw [hw2]; exact HR.out.below ((Below.refl _ _).alloc (Nat.le_refl _) _)
   have hb2 := heap_alloc_new wr (.cells #[.string NM, .int .i64 a, .string s, .int .i64 x, .int .i64 y, .int .i64 z, f, h] 85)
   rw [← hw2] at hb2 ⊢
   have d0 : w2.cell? ⟨wr.heap.size, 0, none⟩ = some (.string NM) := by simp [World.cell?, hb2]
   clear hw2 hb2 c0 c1 c2 c3 c4 c5 c6 c7 hsF hsG
   have e0 : w2.cell? ⟨w1.heap.size, i, none⟩ = some (.string ⟨#[]⟩) := by
    rw [World.cell?, HR2.out.row]
    simp [nmC_at i i hlt]
   have e1 : w2.frozen? ⟨w1.heap.size, i, none⟩ = false := by simp [World.frozen?, HR2.out.row]
   clear HR
   have HR3 : Hid (SpI w1 (w2.setCell ⟨w1.heap.size, i, none⟩ (.string NM)) (i + 1)) := by
    refine ⟨?_, HR2.out.bel.setCell (Nat.le_refl _) _⟩
    rw [set_row HR2.out.row, ← HNM.out, nmC_set i hlt]
   go_wp2
   exact ⟨⟨i + 1, by simp, by omega, HR3⟩, by simp [intOf]; omega⟩
  ·have g1 : ¬ (i : Int) < 52 := by omega
   have HE : Hid (SpI w1 wr 52) := by
    have q := HR.out
    rw [show i = 52 by omega] at q
    exact q
   clear HR
   go_wp2
   go_ret
   exact ⟨w1.heap.size, rfl, HO.out.2.size, HE.out.row, HO.out.2.trans (HE.out.bel.mono HO.out.2.size)⟩
end Go.Proofs.YtcnikfikpnnblaaGreatDoor
