import Derived.Test.YtffejkfkkciaaaaEsk
import Derived.Test.YtffejkfkkciaaaaEcl
namespace Go.Proofs.Ytffejkfkkciaaaa
open Go.RowKit
set_option linter.unusedVariables false
set_option linter.unusedSimpArgs false
theorem results_cell3 {fn : Func} {p t u : Tmp} {ty : TypeId} (h : fn.results = #[.cell p ty, .tmp t, .tmp u]) (tmps : Array Value) (P : Program) (w : World) :
    (results fn tmps).run P w = ((asAddr (tmps.getD p undef)).run P w).andThen fun a w₁ => ((loadVar ty a).run P w₁).andThen fun v w₂ => .ok (.tuple #[v, tmps.getD t undef, tmps.getD u undef]) w₂ := by
  simp only [results, h]
  simp [Sem.run_bind, Result.andThen]
/-- A function that ends with a struct in a cell of its own and two more. -/
theorem ret_cell3 {P : Program} {fn : Func} {p t u : Tmp} {ty : TypeId} {d : TypeDesc} {Q : Ending → World → Prop} {tmps : Array Value} {w : World} {b : Nat} (cs : List Value) (x y : Value) (h : fn.results = #[.cell p ty, .tmp t, .tmp u])
    (hp : tmps.getD p undef = .pointer (some ⟨b, 0, none⟩)) (hx : tmps.getD t undef = x) (hy : tmps.getD u undef = y) (hr : w.rangeAt b 0 cs) (hu : P.underlying ty = some d) (hd : d.isRow = true) (hi : (P.info? ty).map (·.size) = some cs.length)
    (hq : Q (.returned (.tuple #[.agg cs.toArray, x, y])) w) : bodyPost P fn Q .ret ⟨tmps, []⟩ w := by
  refine bodyPost_ret (v := .tuple #[.agg cs.toArray, x, y]) ?_ rfl hq
  rw [results_cell3 h]
  have hl := run_loadVar_mid (P := P) w b 0 ty cs d hr hu hd hi
  simp [hp, asAddr, hl, hx, hy, Result.andThen]
theorem fit_num (s V Z LL : Nat) (hs : s < 256) (hV : s + 4 = V) (hZ : 9 + s = Z) (hL : 13 + s = LL) : IntKind.i64.wrap ((s : Int) + 4) = (V : Int) ∧ IntKind.i64.wrap (5 + (V : Int)) = (Z : Int) ∧ IntKind.i64.wrap ((Z : Int) + 4) = (LL : Int) ∧ IntKind.i64.wrap ((LL : Int) + 1) = ((LL + 1 : Nat) : Int) := by
  refine ⟨?_, ?_, ?_, ?_⟩ <;> (rw [IntKind.wrap_i64]; omega)
theorem par_odd (s Z LL U : Nat) (hs : s < 256) (hZ : 9 + s = Z) (hL : 13 + s = LL) (hU : unc s + 4 = U) (h : (9 + s) % 2 = 1) : (LL : Int).tmod 2 = 1 ∧ (Z : Int).tmod 2 = 1 ∧ LL + 1 = U ∧ Z + 5 = U := by
  unfold unc at hU
  refine ⟨?_, ?_, by omega, by omega⟩ <;> (rw [Int.tmod_eq_emod_of_nonneg (by omega)]; omega)
theorem par_even (s Z LL U : Nat) (hs : s < 256) (hZ : 9 + s = Z) (hL : 13 + s = LL) (hU : unc s + 4 = U) (h : ¬ (9 + s) % 2 = 1) : (LL : Int).tmod 2 = 0 ∧ (Z : Int).tmod 2 = 0 ∧ LL = U ∧ Z + 4 = U := by
  unfold unc at hU
  refine ⟨?_, ?_, by omega, by omega⟩ <;> (rw [Int.tmod_eq_emod_of_nonneg (by omega)]; omega)
/-- Is it a share's row, but for its code? -/
def okF (l : List F) : Prop := (1 ≤ (l.getD 2 0).1 ∧ (l.getD 2 0).1 ≤ 16) ∧ 1 ≤ (l.getD 3 0).1 ∧ (1 ≤ (l.getD 4 0).1 ∧ (l.getD 4 0).1 ≤ 64) ∧ l.length = unc (l.getD 4 0).1 + 4 ∧ (∀ j, j < (9 + (l.getD 4 0).1) % 2 → l.getD (9 + (l.getD 4 0).1 + j) 0 = 0)
theorem okS_okF (l : List F) : okS l ↔ okF l ∧ sumL l = [0, 0, 0, 0] := by
  unfold okS okF
  constructor
  · intro h; exact ⟨⟨h.1, h.2.1, h.2.2.1, h.2.2.2.1, h.2.2.2.2.1⟩, h.2.2.2.2.2⟩
  · intro h; exact ⟨h.1.1, h.1.2.1, h.1.2.2.1, h.1.2.2.2.1, h.1.2.2.2.2, h.2⟩
theorem rw_mid {w : World} {b off : Nat} {l : List F} (h : Rw w b off l) (k m : Nat) (hk : k + m ≤ l.length) : Rw w b (off + k) ((l.drop k).take m) := fun i hi => by
  have hm : i < m := by rw [List.length_take] at hi; omega
  have q := h (k + i) (by omega)
  rw [show ((l.drop k).take m).getD i 0 = l.getD (k + i) 0 by simp only [List.getD_eq_getElem?_getD, List.getElem?_take, List.getElem?_drop, if_pos hm]]
  rw [Nat.add_assoc]
  exact q
set_option maxHeartbeats 3200000 in
set_option maxRecDepth 100000 in
theorem fits_ok (b off c n : Nat) (l : List F) (w : World) (hn : l.length = n) (h5 : 14 ≤ n) (h255 : n ≤ 255) (hc : n ≤ c) (h : Rw w b off l) (hb : b < w.heap.size) : Calls Try.prog 11 #[.slice (some ⟨b, off, none⟩) n c] w fun e w' => Hid ((¬ okF l ∧ (∃ a, e = .returned (.tuple #[.agg #[.int .u16 0, .int .i64 0, .int .i64 0, .int .i64 0], a, .bool false])) ∨ okF l ∧ ∃ g c', e = .returned (.tuple #[.agg (tds l).toArray, .slice (some ⟨g, 0, none⟩) ((l.getD 4 0).1 + 4) c', .bool true]) ∧ (l.getD 4 0).1 + 4 ≤ c' ∧ Rx w' g ((l.drop 5).take ((l.getD 4 0).1 + 4))) ∧ Below w.heap.size w w') := by
  obtain ⟨M, HMM⟩ : ∃ M, Hid (w.heap.size = M) := ⟨_, rfl⟩
  obtain ⟨w1, hw1⟩ : ∃ w1, w1 = w.alloc (.cells #[.int .u16 0, .int .i64 0, .int .i64 0, .int .i64 0] 24) := ⟨_, rfl⟩
  have HB1 : Hid (Bx w1 M 24 [.int .u16 0, .int .i64 0, .int .i64 0, .int .i64 0] ∧ Below M w w1 ∧ Rw w1 b off l ∧ w1.heap.size = M + 1 ∧ b < M) := by
    rw [hw1, ← HMM.out]
    exact ⟨Bx.new w 24 _, (Below.refl _ _).alloc (Nat.le_refl _) _, h.below ((Below.refl _ _).alloc (Nat.le_refl _) _), by simp, hb⟩
  have HR : Hid (l.length = n ∧ 14 ≤ n ∧ n ≤ 255 ∧ n ≤ c) := ⟨hn, h5, h255, hc⟩
  have c0 : w1.drew.cell? ⟨b, off, none⟩ = some (.int .u8 ((l.getD 0 0).1 : Nat)) := HB1.out.2.2.1 0 (by omega)
  have c1 : w1.drew.cell? ⟨b, off + 1, none⟩ = some (.int .u8 ((l.getD 1 0).1 : Nat)) := HB1.out.2.2.1 1 (by omega)
  have c2 : w1.drew.cell? ⟨b, off + 2, none⟩ = some (.int .u8 ((l.getD 2 0).1 : Nat)) := HB1.out.2.2.1 2 (by omega)
  have c3 : w1.drew.cell? ⟨b, off + 3, none⟩ = some (.int .u8 ((l.getD 3 0).1 : Nat)) := HB1.out.2.2.1 3 (by omega)
  have c4 : w1.drew.cell? ⟨b, off + 4, none⟩ = some (.int .u8 ((l.getD 4 0).1 : Nat)) := HB1.out.2.2.1 4 (by omega)
  obtain ⟨TD, HTD⟩ : ∃ q, Hid (tds l = q) := ⟨_, rfl⟩
  have HTL : Hid (TD.length = 4 ∧ ∀ v ∈ TD, v.oneCell' = true) := by rw [← HTD.out]; refine ⟨rfl, fun v hv => ?_⟩; simp [tds] at hv; rcases hv with rfl | rfl | rfl | rfl <;> rfl
  have HTV : Hid (TD = [.int .u16 (((l.getD 0 0).1 * 256 + (l.getD 1 0).1 : Nat) : Int), .int .i64 ((l.getD 2 0).1 : Nat), .int .i64 ((l.getD 3 0).1 : Nat), .int .i64 ((l.getD 4 0).1 : Nat)]) := HTD.out.symm
  have hi7 : (Try.prog.info? 24).map (·.size) = some TD.length := by rw [HTL.out.1]; kernel_rfl
  obtain ⟨v0, Hv0⟩ : ∃ q : Nat, Hid ((l.getD 0 0).1 = q) := ⟨_, rfl⟩
  have hv0 : v0 < 256 := by rw [← Hv0.out]; exact (l.getD 0 0).2
  rw [Hv0.out] at c0 HTV
  obtain ⟨v1, Hv1⟩ : ∃ q : Nat, Hid ((l.getD 1 0).1 = q) := ⟨_, rfl⟩
  have hv1 : v1 < 256 := by rw [← Hv1.out]; exact (l.getD 1 0).2
  rw [Hv1.out] at c1 HTV
  obtain ⟨nd, Hnd⟩ : ∃ q : Nat, Hid ((l.getD 2 0).1 = q) := ⟨_, rfl⟩
  have hnd : nd < 256 := by rw [← Hnd.out]; exact (l.getD 2 0).2
  rw [Hnd.out] at c2 HTV
  obtain ⟨ix, Hix⟩ : ∃ q : Nat, Hid ((l.getD 3 0).1 = q) := ⟨_, rfl⟩
  have hix : ix < 256 := by rw [← Hix.out]; exact (l.getD 3 0).2
  rw [Hix.out] at c3 HTV
  obtain ⟨s, Hs⟩ : ∃ q : Nat, Hid ((l.getD 4 0).1 = q) := ⟨_, rfl⟩
  have hs : s < 256 := by rw [← Hs.out]; exact (l.getD 4 0).2
  rw [Hs.out] at c4 HTV
  have HOK : Hid (okF l ↔ (1 ≤ nd ∧ nd ≤ 16) ∧ 1 ≤ ix ∧ (1 ≤ s ∧ s ≤ 64) ∧ n = unc s + 4 ∧ ∀ j, j < (9 + s) % 2 → l.getD (9 + s + j) 0 = 0) := by show _ ↔ _; unfold okF; rw [Hnd.out, Hix.out, Hs.out, hn]
  have x0 : IntKind.u16.wrap ((v0 : Int)) = (v0 : Int) := wraps_u16' _ (by omega) (by omega)
  have x1 : IntKind.u16.wrap ((v1 : Int)) = (v1 : Int) := wraps_u16' _ (by omega) (by omega)
  obtain ⟨m0, Hm0⟩ : ∃ q : Nat, Hid (v0 * 256 = q) := ⟨_, rfl⟩
  obtain ⟨sn, Hsn⟩ : ∃ q : Nat, Hid (m0 + v1 = q) := ⟨_, rfl⟩
  have em := Hm0.out
  have es := Hsn.out
  have y0 : IntKind.u16.wrap ((v0 : Int) * 256) = (m0 : Int) := by rw [show (v0 : Int) * 256 = (m0 : Int) by omega]; exact wraps_u16' _ (by omega) (by omega)
  have y1 : IntKind.u16.wrap ((m0 : Int) + (v1 : Int)) = (sn : Int) := by rw [show (m0 : Int) + v1 = (sn : Int) by omega]; exact wraps_u16' _ (by omega) (by omega)
  rw [em, es] at HTV
  have x2 : IntKind.i64.wrap (nd : Int) = (nd : Int) := by rw [IntKind.wrap_i64]; omega
  have x3 : IntKind.i64.wrap (ix : Int) = (ix : Int) := by rw [IntKind.wrap_i64]; omega
  have x4 : IntKind.i64.wrap (s : Int) = (s : Int) := by rw [IntKind.wrap_i64]; omega
  have z0 : (0 : Int) < (n : Int) := by omega
  have z1 : (1 : Int) < (n : Int) := by omega
  have z2 : (2 : Int) < (n : Int) := by omega
  have z3 : (3 : Int) < (n : Int) := by omega
  have z4 : (4 : Int) < (n : Int) := by omega
  have zn : ¬ n = 0 := by omega
  have g14 : ¬ (n : Int) < 14 := by omega
  have hS0 : w1.drew.cell? ⟨b, off, none⟩ = some (.int .u8 (v0 : Nat)) ∧ w1.drew.cell? ⟨b, off + 1, none⟩ = some (.int .u8 (v1 : Nat)) ∧ w1.drew.cell? ⟨b, off + 2, none⟩ = some (.int .u8 (nd : Nat)) ∧ w1.drew.cell? ⟨b, off + 3, none⟩ = some (.int .u8 (ix : Nat)) ∧ w1.drew.cell? ⟨b, off + 4, none⟩ = some (.int .u8 (s : Nat)) := ⟨c0, c1, c2, c3, c4⟩
  clear c0 c1 c2 c3 c4 h hn h5 h255 hc hb em es
  go_enter Try.func11, Try.ntmps11
  go_upto_region 3 with fail
  rw [← hw1, HMM.out]
  clear hw1
  refine wp_region_noPanic ?_
  refine wp_region_till (fun u => u.cell? ⟨b, off, none⟩ = some (.int .u8 (v0 : Nat)) ∧ u.cell? ⟨b, off + 1, none⟩ = some (.int .u8 (v1 : Nat)) ∧ u.cell? ⟨b, off + 2, none⟩ = some (.int .u8 (nd : Nat)) ∧ u.cell? ⟨b, off + 3, none⟩ = some (.int .u8 (ix : Nat)) ∧ u.cell? ⟨b, off + 4, none⟩ = some (.int .u8 (s : Nat))) 24 (by kernel_rfl) (by decide) (by decide +kernel) (by decide +kernel) (by decide +kernel) (fun inv => ?_)
  refine till_at 0 12 (.slice (some ⟨b, off, none⟩) n c) inv rfl rfl (by decide) (by decide +kernel) (by decide +kernel) (fun _ _ _ h => h) hS0 (Or.inl ⟨by rfl, fun w' hS' => by obtain ⟨k1, k2, k3, k4, k5⟩ := hS'; go_simp⟩) (fun inv' => ?_)
  clear inv; have inv := inv'; clear inv'
  try simp only [List.setIfInBounds_toArray, List.set_cons_zero, List.set_cons_succ]
  refine till_at 1 13 (.pointer (some ⟨b, off, none⟩)) inv rfl rfl (by decide) (by decide +kernel) (by decide +kernel) (fun _ _ _ h => h) hS0 (Or.inl ⟨by rfl, fun w' hS' => by obtain ⟨k1, k2, k3, k4, k5⟩ := hS'; go_simp⟩) (fun inv' => ?_)
  clear inv; have inv := inv'; clear inv'
  try simp only [List.setIfInBounds_toArray, List.set_cons_zero, List.set_cons_succ]
  refine till_at 2 14 (.int .u8 (v0 : Nat)) inv rfl rfl (by decide) (by decide +kernel) (by decide +kernel) (fun _ _ _ h => h) hS0 (Or.inl ⟨by rfl, fun w' hS' => by obtain ⟨k1, k2, k3, k4, k5⟩ := hS'; go_simp⟩) (fun inv' => ?_)
  clear inv; have inv := inv'; clear inv'
  try simp only [List.setIfInBounds_toArray, List.set_cons_zero, List.set_cons_succ]
  refine till_at 3 15 (.int .u16 (v0 : Nat)) inv rfl rfl (by decide) (by decide +kernel) (by decide +kernel) (fun _ _ _ h => h) hS0 (Or.inl ⟨by rfl, fun w' hS' => by obtain ⟨k1, k2, k3, k4, k5⟩ := hS'; go_simp⟩) (fun inv' => ?_)
  clear inv; have inv := inv'; clear inv'
  try simp only [List.setIfInBounds_toArray, List.set_cons_zero, List.set_cons_succ]
  refine till_at 4 16 (.int .u16 (m0 : Nat)) inv rfl rfl (by decide) (by decide +kernel) (by decide +kernel) (fun _ _ _ h => h) hS0 (Or.inl ⟨by rfl, fun w' hS' => by obtain ⟨k1, k2, k3, k4, k5⟩ := hS'; go_simp⟩) (fun inv' => ?_)
  clear inv; have inv := inv'; clear inv'
  try simp only [List.setIfInBounds_toArray, List.set_cons_zero, List.set_cons_succ]
  refine till_at 5 17 (.slice (some ⟨b, off, none⟩) n c) inv rfl rfl (by decide) (by decide +kernel) (by decide +kernel) (fun _ _ _ h => h) hS0 (Or.inl ⟨by rfl, fun w' hS' => by obtain ⟨k1, k2, k3, k4, k5⟩ := hS'; go_simp⟩) (fun inv' => ?_)
  clear inv; have inv := inv'; clear inv'
  try simp only [List.setIfInBounds_toArray, List.set_cons_zero, List.set_cons_succ]
  refine till_at 6 18 (.pointer (some ⟨b, off + 1, none⟩)) inv rfl rfl (by decide) (by decide +kernel) (by decide +kernel) (fun _ _ _ h => h) hS0 (Or.inl ⟨by rfl, fun w' hS' => by obtain ⟨k1, k2, k3, k4, k5⟩ := hS'; go_simp⟩) (fun inv' => ?_)
  clear inv; have inv := inv'; clear inv'
  try simp only [List.setIfInBounds_toArray, List.set_cons_zero, List.set_cons_succ]
  refine till_at 7 19 (.int .u8 (v1 : Nat)) inv rfl rfl (by decide) (by decide +kernel) (by decide +kernel) (fun _ _ _ h => h) hS0 (Or.inl ⟨by rfl, fun w' hS' => by obtain ⟨k1, k2, k3, k4, k5⟩ := hS'; go_simp⟩) (fun inv' => ?_)
  clear inv; have inv := inv'; clear inv'
  try simp only [List.setIfInBounds_toArray, List.set_cons_zero, List.set_cons_succ]
  refine till_at 8 20 (.int .u16 (v1 : Nat)) inv rfl rfl (by decide) (by decide +kernel) (by decide +kernel) (fun _ _ _ h => h) hS0 (Or.inl ⟨by rfl, fun w' hS' => by obtain ⟨k1, k2, k3, k4, k5⟩ := hS'; go_simp⟩) (fun inv' => ?_)
  clear inv; have inv := inv'; clear inv'
  try simp only [List.setIfInBounds_toArray, List.set_cons_zero, List.set_cons_succ]
  refine till_at 9 21 (.int .u16 (sn : Nat)) inv rfl rfl (by decide) (by decide +kernel) (by decide +kernel) (fun _ _ _ h => h) hS0 (Or.inl ⟨by rfl, fun w' hS' => by obtain ⟨k1, k2, k3, k4, k5⟩ := hS'; go_simp⟩) (fun inv' => ?_)
  clear inv; have inv := inv'; clear inv'
  try simp only [List.setIfInBounds_toArray, List.set_cons_zero, List.set_cons_succ]
  refine till_at 10 22 (.slice (some ⟨b, off, none⟩) n c) inv rfl rfl (by decide) (by decide +kernel) (by decide +kernel) (fun _ _ _ h => h) hS0 (Or.inl ⟨by rfl, fun w' hS' => by obtain ⟨k1, k2, k3, k4, k5⟩ := hS'; go_simp⟩) (fun inv' => ?_)
  clear inv; have inv := inv'; clear inv'
  try simp only [List.setIfInBounds_toArray, List.set_cons_zero, List.set_cons_succ]
  refine till_at 11 23 (.pointer (some ⟨b, off + 2, none⟩)) inv rfl rfl (by decide) (by decide +kernel) (by decide +kernel) (fun _ _ _ h => h) hS0 (Or.inl ⟨by rfl, fun w' hS' => by obtain ⟨k1, k2, k3, k4, k5⟩ := hS'; go_simp⟩) (fun inv' => ?_)
  clear inv; have inv := inv'; clear inv'
  try simp only [List.setIfInBounds_toArray, List.set_cons_zero, List.set_cons_succ]
  refine till_at 12 24 (.int .u8 (nd : Nat)) inv rfl rfl (by decide) (by decide +kernel) (by decide +kernel) (fun _ _ _ h => h) hS0 (Or.inl ⟨by rfl, fun w' hS' => by obtain ⟨k1, k2, k3, k4, k5⟩ := hS'; go_simp⟩) (fun inv' => ?_)
  clear inv; have inv := inv'; clear inv'
  try simp only [List.setIfInBounds_toArray, List.set_cons_zero, List.set_cons_succ]
  refine till_at 13 25 (.int .i64 (nd : Nat)) inv rfl rfl (by decide) (by decide +kernel) (by decide +kernel) (fun _ _ _ h => h) hS0 (Or.inl ⟨by rfl, fun w' hS' => by obtain ⟨k1, k2, k3, k4, k5⟩ := hS'; go_simp⟩) (fun inv' => ?_)
  clear inv; have inv := inv'; clear inv'
  try simp only [List.setIfInBounds_toArray, List.set_cons_zero, List.set_cons_succ]
  refine till_at 14 26 (.slice (some ⟨b, off, none⟩) n c) inv rfl rfl (by decide) (by decide +kernel) (by decide +kernel) (fun _ _ _ h => h) hS0 (Or.inl ⟨by rfl, fun w' hS' => by obtain ⟨k1, k2, k3, k4, k5⟩ := hS'; go_simp⟩) (fun inv' => ?_)
  clear inv; have inv := inv'; clear inv'
  try simp only [List.setIfInBounds_toArray, List.set_cons_zero, List.set_cons_succ]
  refine till_at 15 27 (.pointer (some ⟨b, off + 3, none⟩)) inv rfl rfl (by decide) (by decide +kernel) (by decide +kernel) (fun _ _ _ h => h) hS0 (Or.inl ⟨by rfl, fun w' hS' => by obtain ⟨k1, k2, k3, k4, k5⟩ := hS'; go_simp⟩) (fun inv' => ?_)
  clear inv; have inv := inv'; clear inv'
  try simp only [List.setIfInBounds_toArray, List.set_cons_zero, List.set_cons_succ]
  refine till_at 16 28 (.int .u8 (ix : Nat)) inv rfl rfl (by decide) (by decide +kernel) (by decide +kernel) (fun _ _ _ h => h) hS0 (Or.inl ⟨by rfl, fun w' hS' => by obtain ⟨k1, k2, k3, k4, k5⟩ := hS'; go_simp⟩) (fun inv' => ?_)
  clear inv; have inv := inv'; clear inv'
  try simp only [List.setIfInBounds_toArray, List.set_cons_zero, List.set_cons_succ]
  refine till_at 17 29 (.int .i64 (ix : Nat)) inv rfl rfl (by decide) (by decide +kernel) (by decide +kernel) (fun _ _ _ h => h) hS0 (Or.inl ⟨by rfl, fun w' hS' => by obtain ⟨k1, k2, k3, k4, k5⟩ := hS'; go_simp⟩) (fun inv' => ?_)
  clear inv; have inv := inv'; clear inv'
  try simp only [List.setIfInBounds_toArray, List.set_cons_zero, List.set_cons_succ]
  refine till_at 18 30 (.slice (some ⟨b, off, none⟩) n c) inv rfl rfl (by decide) (by decide +kernel) (by decide +kernel) (fun _ _ _ h => h) hS0 (Or.inl ⟨by rfl, fun w' hS' => by obtain ⟨k1, k2, k3, k4, k5⟩ := hS'; go_simp⟩) (fun inv' => ?_)
  clear inv; have inv := inv'; clear inv'
  try simp only [List.setIfInBounds_toArray, List.set_cons_zero, List.set_cons_succ]
  refine till_at 19 31 (.pointer (some ⟨b, off + 4, none⟩)) inv rfl rfl (by decide) (by decide +kernel) (by decide +kernel) (fun _ _ _ h => h) hS0 (Or.inl ⟨by rfl, fun w' hS' => by obtain ⟨k1, k2, k3, k4, k5⟩ := hS'; go_simp⟩) (fun inv' => ?_)
  clear inv; have inv := inv'; clear inv'
  try simp only [List.setIfInBounds_toArray, List.set_cons_zero, List.set_cons_succ]
  refine till_at 20 32 (.int .u8 (s : Nat)) inv rfl rfl (by decide) (by decide +kernel) (by decide +kernel) (fun _ _ _ h => h) hS0 (Or.inl ⟨by rfl, fun w' hS' => by obtain ⟨k1, k2, k3, k4, k5⟩ := hS'; go_simp⟩) (fun inv' => ?_)
  clear inv; have inv := inv'; clear inv'
  try simp only [List.setIfInBounds_toArray, List.set_cons_zero, List.set_cons_succ]
  refine till_at 21 33 (.int .i64 (s : Nat)) inv rfl rfl (by decide) (by decide +kernel) (by decide +kernel) (fun _ _ _ h => h) hS0 (Or.inl ⟨by rfl, fun w' hS' => by obtain ⟨k1, k2, k3, k4, k5⟩ := hS'; go_simp⟩) (fun inv' => ?_)
  clear inv; have inv := inv'; clear inv'
  try simp only [List.setIfInBounds_toArray, List.set_cons_zero, List.set_cons_succ]
  refine till_at 22 34 (.agg TD.toArray) inv rfl rfl (by decide) (by decide +kernel) (by decide +kernel) (fun _ _ _ h => h) hS0 (Or.inl ⟨by rfl, fun w' hS' => by rw [HTV.out]; clear hS'; go_simp⟩) (fun inv' => ?_)
  clear inv; have inv := inv'; clear inv'
  try simp only [List.setIfInBounds_toArray, List.set_cons_zero, List.set_cons_succ]
  refine till_head (i := 23) inv (by decide +kernel) (by decide) rfl (fun KK hK => ?_)
  go_simp
  rw [HB1.out.2.2.2.1]
  obtain ⟨w2, hw2⟩ : ∃ w2, w2 = (w1.alloc (.cells #[.int .u16 0, .int .i64 0, .int .i64 0, .int .i64 0] 24)).drew := ⟨_, rfl⟩
  have HB2 : Hid (Bx w2 M 24 [.int .u16 0, .int .i64 0, .int .i64 0, .int .i64 0] ∧ Bx w2 (M + 1) 24 [.int .u16 0, .int .i64 0, .int .i64 0, .int .i64 0] ∧ Below M w w2 ∧ Rw w2 b off l ∧ b < M) := by
    have hq : Below w1.heap.size w1 w2 := by rw [hw2]; exact ((Below.refl _ _).alloc (Nat.le_refl _) _).drew
    refine ⟨HB1.out.1.below hq, ?_, HB1.out.2.1.trans (hq.mono (by rw [HB1.out.2.2.2.1]; omega)), HB1.out.2.2.1.below hq, HB1.out.2.2.2.2⟩
    have q := Bx.new w1 24 [.int .u16 0, .int .i64 0, .int .i64 0, .int .i64 0]
    rw [HB1.out.2.2.2.1] at q
    rw [hw2]
    exact q
  have hS2 : w2.cell? ⟨b, off, none⟩ = some (.int .u8 (v0 : Nat)) ∧ w2.cell? ⟨b, off + 1, none⟩ = some (.int .u8 (v1 : Nat)) ∧ w2.cell? ⟨b, off + 2, none⟩ = some (.int .u8 (nd : Nat)) ∧ w2.cell? ⟨b, off + 3, none⟩ = some (.int .u8 (ix : Nat)) ∧ w2.cell? ⟨b, off + 4, none⟩ = some (.int .u8 (s : Nat)) := by
    have r : ∀ q, q < n → w2.cell? ⟨b, off + q, none⟩ = some (.int .u8 ((l.getD q 0).1 : Nat)) := fun q hq => HB2.out.2.2.2.1 q (by rw [HR.out.1]; exact hq)
    have h14 := HR.out.2.1
    exact ⟨by rw [← Hv0.out]; exact r 0 (by omega), by rw [← Hv1.out]; exact r 1 (by omega), by rw [← Hnd.out]; exact r 2 (by omega), by rw [← Hix.out]; exact r 3 (by omega), by rw [← Hs.out]; exact r 4 (by omega)⟩
  rw [← hw2]
  clear hw2
  refine hK.out _ _ (hS2) (fun inv' => ?_)
  clear hK KK inv; have inv := inv'; clear inv'
  try simp only [List.setIfInBounds_toArray, List.set_cons_zero, List.set_cons_succ]
  refine till_tail (i := 24) (by decide +kernel) (by decide) rfl (fun KK hK => ?_)
  rw [if_pos (by rfl)]
  refine wp_store_mid 24 (.tmp 5) (.tmp 34) rfl (M + 1) 0 TD.toArray rfl rfl (by rw [List.size_toArray, HTL.out.1]; exact bx_there HB2.out.2.1 rfl) (by rw [List.size_toArray]; exact hi7) (all_oneCell_toArray HTL.out.2) ?_
  refine hK.out _ _ ?_
  clear hK KK
  try simp only [List.setIfInBounds_toArray, List.set_cons_zero, List.set_cons_succ]
  refine till_done (by decide +kernel) ?_ _
  refine NoPanic.normal ?_
  have HB3 : Hid (Bx (w2.setCells (M + 1) 0 TD.toArray.toList) (M + 1) 24 TD ∧ w2.grownBy (w2.setCells (M + 1) 0 TD.toArray.toList) (some (M + 1))) := ⟨HB2.out.2.1.store TD (by rw [HTL.out.1]; rfl), setCells_gb (M + 1) TD 0 w2⟩
  obtain ⟨w3, hw3⟩ : ∃ w3, w3 = w2.setCells (M + 1) 0 TD.toArray.toList := ⟨_, rfl⟩
  rw [← hw3] at HB3 ⊢
  clear hw3 hS0 hS2 inv x0 x1 x2 x3 x4 y0 y1
  have HB4 : Hid (Bx w3 M 24 [.int .u16 0, .int .i64 0, .int .i64 0, .int .i64 0] ∧ Bx w3 (M + 1) 24 TD ∧ Below M w w3 ∧ Rw w3 b off l ∧ b < M) := by
    obtain ⟨q1, q2, q3, q4, q5⟩ := HB2.out
    obtain ⟨r1, r2⟩ := HB3.out
    refine ⟨q1.keep (r2.block M q1.lt (fun e => by injection e with e; omega)), r1, q3.trans (below_gb r2 (Nat.le_of_lt q1.lt) (by omega)), fun q hq => ?_, q5⟩
    rw [World.cell?_of_block (a := ⟨b, off + q, none⟩) (r2.block b (World.block_lt_of_cell? _ _ (q4 q hq)) (fun e => by injection e with e; omega))]
    exact q4 q hq
  have d1 : w3.cell? ⟨M + 1, 1, none⟩ = some (.int .i64 (nd : Nat)) := HB4.out.2.1.cell 1 _ (by rw [HTV.out]; rfl)
  have d2 : w3.cell? ⟨M + 1, 2, none⟩ = some (.int .i64 (ix : Nat)) := HB4.out.2.1.cell 2 _ (by rw [HTV.out]; rfl)
  have d3 : w3.cell? ⟨M + 1, 3, none⟩ = some (.int .i64 (s : Nat)) := HB4.out.2.1.cell 3 _ (by rw [HTV.out]; rfl)
  clear HB1 HB2 HB3
  obtain ⟨V, HV⟩ : ∃ v, Hid (s + 4 = v) := ⟨_, rfl⟩
  obtain ⟨Z, HZ⟩ : ∃ v, Hid (9 + s = v) := ⟨_, rfl⟩
  obtain ⟨LL, HLL⟩ : ∃ v, Hid (13 + s = v) := ⟨_, rfl⟩
  obtain ⟨U4, HU4⟩ : ∃ v, Hid (unc s + 4 = v) := ⟨_, rfl⟩
  rw [HU4.out, HZ.out] at HOK
  obtain ⟨f1, f2, f3, f4⟩ := fit_num s V Z LL hs HV.out HZ.out HLL.out
  have hz4 : (Try.prog.info? 24).map (·.size) = some ([Value.int .u16 0, .int .i64 0, .int .i64 0, .int .i64 0] : List Value).length := by kernel_rfl
  have honez : ∀ v ∈ ([Value.int .u16 0, .int .i64 0, .int .i64 0, .int .i64 0] : List Value), v.oneCell' = true := by intro v hv; simp at hv; rcases hv with rfl | rfl | rfl | rfl <;> rfl
  go_upto_region 6 with fail
  by_cases hp : (9 + s) % 2 = 1
  case pos =>
    obtain ⟨r1, r2, rU, rZ⟩ := par_odd s Z LL U4 hs HZ.out HLL.out HU4.out hp
    have HRU : Hid (Z + 5 = U4) := rZ
    rw [rU] at f4
    clear rZ
    by_cases q1 : 1 ≤ nd
    case neg =>
      have kq1 : decide ((nd : Int) < 1) = true := decide_eq_true (by omega)
      have HF : Hid (¬ okF l) := fun e => q1 (HOK.out.1 e).1.1
      go_wp2_with (first
        | (refine wpList_store_bx (by rfl) 24 (.tmp 2) (.tmp 89) (by rfl) [.int .u16 0, .int .i64 0, .int .i64 0, .int .i64 0] [.int .u16 0, .int .i64 0, .int .i64 0, .int .i64 0] M (by rfl) (by rfl) HB4.out.1 rfl hz4 honez ?_; intro w9 hb9 hg9))
      refine ret_cell3 (b := M) [.int .u16 0, .int .i64 0, .int .i64 0, .int .i64 0] _ _ rfl rfl rfl rfl hb9.range Try.underlying24 rfl hz4 ⟨Or.inl ⟨HF.out, _, rfl⟩, ?_⟩
      have hf : Below M w w9 := HB4.out.2.2.1.trans (below_gb hg9 (Nat.le_of_lt HB4.out.1.lt) (Nat.le_refl _))
      first | exact hf | (rw [HMM.out]; exact hf)
    case pos =>
    have kq1 : decide ((nd : Int) < 1) = false := decide_eq_false (by omega)
    by_cases q2 : nd ≤ 16
    case neg =>
      have kq2 : decide (16 < (nd : Int)) = true := decide_eq_true (by omega)
      have HF : Hid (¬ okF l) := fun e => q2 (HOK.out.1 e).1.2
      go_wp2_with (first
        | (refine wpList_store_bx (by rfl) 24 (.tmp 2) (.tmp 89) (by rfl) [.int .u16 0, .int .i64 0, .int .i64 0, .int .i64 0] [.int .u16 0, .int .i64 0, .int .i64 0, .int .i64 0] M (by rfl) (by rfl) HB4.out.1 rfl hz4 honez ?_; intro w9 hb9 hg9))
      refine ret_cell3 (b := M) [.int .u16 0, .int .i64 0, .int .i64 0, .int .i64 0] _ _ rfl rfl rfl rfl hb9.range Try.underlying24 rfl hz4 ⟨Or.inl ⟨HF.out, _, rfl⟩, ?_⟩
      have hf : Below M w w9 := HB4.out.2.2.1.trans (below_gb hg9 (Nat.le_of_lt HB4.out.1.lt) (Nat.le_refl _))
      first | exact hf | (rw [HMM.out]; exact hf)
    case pos =>
    have kq2 : decide (16 < (nd : Int)) = false := decide_eq_false (by omega)
    by_cases q3 : 1 ≤ ix
    case neg =>
      have kq3 : decide ((ix : Int) < 1) = true := decide_eq_true (by omega)
      have HF : Hid (¬ okF l) := fun e => q3 (HOK.out.1 e).2.1
      go_wp2_with (first
        | (refine wpList_store_bx (by rfl) 24 (.tmp 2) (.tmp 89) (by rfl) [.int .u16 0, .int .i64 0, .int .i64 0, .int .i64 0] [.int .u16 0, .int .i64 0, .int .i64 0, .int .i64 0] M (by rfl) (by rfl) HB4.out.1 rfl hz4 honez ?_; intro w9 hb9 hg9))
      refine ret_cell3 (b := M) [.int .u16 0, .int .i64 0, .int .i64 0, .int .i64 0] _ _ rfl rfl rfl rfl hb9.range Try.underlying24 rfl hz4 ⟨Or.inl ⟨HF.out, _, rfl⟩, ?_⟩
      have hf : Below M w w9 := HB4.out.2.2.1.trans (below_gb hg9 (Nat.le_of_lt HB4.out.1.lt) (Nat.le_refl _))
      first | exact hf | (rw [HMM.out]; exact hf)
    case pos =>
    have kq3 : decide ((ix : Int) < 1) = false := decide_eq_false (by omega)
    by_cases q4 : 1 ≤ s
    case neg =>
      have kq4 : decide ((s : Int) < 1) = true := decide_eq_true (by omega)
      have HF : Hid (¬ okF l) := fun e => q4 (HOK.out.1 e).2.2.1.1
      go_wp2_with (first
        | (refine wpList_store_bx (by rfl) 24 (.tmp 2) (.tmp 89) (by rfl) [.int .u16 0, .int .i64 0, .int .i64 0, .int .i64 0] [.int .u16 0, .int .i64 0, .int .i64 0, .int .i64 0] M (by rfl) (by rfl) HB4.out.1 rfl hz4 honez ?_; intro w9 hb9 hg9))
      refine ret_cell3 (b := M) [.int .u16 0, .int .i64 0, .int .i64 0, .int .i64 0] _ _ rfl rfl rfl rfl hb9.range Try.underlying24 rfl hz4 ⟨Or.inl ⟨HF.out, _, rfl⟩, ?_⟩
      have hf : Below M w w9 := HB4.out.2.2.1.trans (below_gb hg9 (Nat.le_of_lt HB4.out.1.lt) (Nat.le_refl _))
      first | exact hf | (rw [HMM.out]; exact hf)
    case pos =>
    have kq4 : decide ((s : Int) < 1) = false := decide_eq_false (by omega)
    by_cases q5 : s ≤ 64
    case neg =>
      have kq5 : decide (64 < (s : Int)) = true := decide_eq_true (by omega)
      have HF : Hid (¬ okF l) := fun e => q5 (HOK.out.1 e).2.2.1.2
      go_wp2_with (first
        | (refine wpList_store_bx (by rfl) 24 (.tmp 2) (.tmp 89) (by rfl) [.int .u16 0, .int .i64 0, .int .i64 0, .int .i64 0] [.int .u16 0, .int .i64 0, .int .i64 0, .int .i64 0] M (by rfl) (by rfl) HB4.out.1 rfl hz4 honez ?_; intro w9 hb9 hg9))
      refine ret_cell3 (b := M) [.int .u16 0, .int .i64 0, .int .i64 0, .int .i64 0] _ _ rfl rfl rfl rfl hb9.range Try.underlying24 rfl hz4 ⟨Or.inl ⟨HF.out, _, rfl⟩, ?_⟩
      have hf : Below M w w9 := HB4.out.2.2.1.trans (below_gb hg9 (Nat.le_of_lt HB4.out.1.lt) (Nat.le_refl _))
      first | exact hf | (rw [HMM.out]; exact hf)
    case pos =>
    have kq5 : decide (64 < (s : Int)) = false := decide_eq_false (by omega)
    by_cases q6 : n = U4
    case neg =>
      have kq6 : ((U4 : Int) != (n : Int)) = true := by rw [bne_iff_ne]; omega
      have HF : Hid (¬ okF l) := fun e => q6 (HOK.out.1 e).2.2.2.1
      go_wp2_with (first
        | (refine wpList_store_bx (by rfl) 24 (.tmp 2) (.tmp 89) (by rfl) [.int .u16 0, .int .i64 0, .int .i64 0, .int .i64 0] [.int .u16 0, .int .i64 0, .int .i64 0, .int .i64 0] M (by rfl) (by rfl) HB4.out.1 rfl hz4 honez ?_; intro w9 hb9 hg9))
      refine ret_cell3 (b := M) [.int .u16 0, .int .i64 0, .int .i64 0, .int .i64 0] _ _ rfl rfl rfl rfl hb9.range Try.underlying24 rfl hz4 ⟨Or.inl ⟨HF.out, _, rfl⟩, ?_⟩
      have hf : Below M w w9 := HB4.out.2.2.1.trans (below_gb hg9 (Nat.le_of_lt HB4.out.1.lt) (Nat.le_refl _))
      first | exact hf | (rw [HMM.out]; exact hf)
    case pos =>
    subst q6
    have hZn : (Z : Int) < (n : Int) := by have := HRU.out; omega
    have hZ0 : (0 : Int) ≤ (Z : Int) := by omega
    have cz : w3.cell? ⟨b, off + Z, none⟩ = some (.int .u8 ((l.getD Z 0).1 : Nat)) := HB4.out.2.2.2.1 Z (by rw [HR.out.1]; omega)
    by_cases q7 : l.getD Z 0 = 0
    case neg =>
      have kq7 : ((((l.getD Z 0).1 : Nat) : Int) != 0) = true := by rw [bne_iff_ne]; exact fun e => q7 (Fin.ext (show _ = 0 by omega))
      have HF : Hid (¬ okF l) := fun e => q7 ((HOK.out.1 e).2.2.2.2 0 (by rw [← HZ.out, hp]; exact Nat.zero_lt_one))
      generalize (l.getD Z 0).1 = xz at cz kq7
      clear q7
      go_wp2_with (first
        | (refine wpList_store_bx (by rfl) 24 (.tmp 2) (.tmp 89) (by rfl) [.int .u16 0, .int .i64 0, .int .i64 0, .int .i64 0] [.int .u16 0, .int .i64 0, .int .i64 0, .int .i64 0] M (by rfl) (by rfl) HB4.out.1 rfl hz4 honez ?_; intro w9 hb9 hg9))
      refine ret_cell3 (b := M) [.int .u16 0, .int .i64 0, .int .i64 0, .int .i64 0] _ _ rfl rfl rfl rfl hb9.range Try.underlying24 rfl hz4 ⟨Or.inl ⟨HF.out, _, rfl⟩, ?_⟩
      have hf : Below M w w9 := HB4.out.2.2.1.trans (below_gb hg9 (Nat.le_of_lt HB4.out.1.lt) (Nat.le_refl _))
      first | exact hf | (rw [HMM.out]; exact hf)
    case pos =>
    rw [q7] at cz
    have HOKF : Hid (okF l) := HOK.out.2 ⟨⟨q1, q2⟩, q3, ⟨q4, q5⟩, by first | rfl | omega, (fun j hj => by have e : j = 0 := (by omega); rw [e]; exact q7)⟩
    go_wp2
    have hk0 : IntKind.i64.wrap (5 + (V : Int)) = (Z : Int) := f2
    have hS3 : w3.drew.rangeAt (M + 1) 0 TD := HB4.out.2.1.range
    have u1 : (5 : Int) ≤ (Z : Int) := by have := HZ.out; omega
    have u2 : (Z : Int) ≤ (c : Int) := by have := HR.out; have := HRU.out; omega
    have u3 : ¬ c = 5 := by have := HR.out; omega
    have u4 : (0 : Int) ≤ (Z : Int) := by omega
    refine wp_region_noPanic ?_
    refine wp_region_till (fun u => u.rangeAt (M + 1) 0 TD) 7 (by kernel_rfl) (by decide) (by decide +kernel) (by decide +kernel) (by decide +kernel) (fun inv => ?_)
    refine till_at 0 90 (.agg TD.toArray) inv rfl rfl (by decide) (by decide +kernel) (by decide +kernel) (fun _ _ _ h => h) hS3 (yieldsIf_load_mid (by rfl) 24 (.tmp 5) rfl (M + 1) 0 rfl TD _ (fun u hu => hu) Try.underlying24 rfl hi7) (fun inv' => ?_)
    clear inv; have inv := inv'; clear inv'
    try simp only [List.setIfInBounds_toArray, List.set_cons_zero, List.set_cons_succ]
    refine till_at 2 92 (.slice (some ⟨b, off, none⟩) n c) inv rfl rfl (by decide) (by decide +kernel) (by decide +kernel) (fun _ _ _ h => h) hS3 (Or.inl ⟨by rfl, fun w' hS' => by clear hS'; go_simp⟩) (fun inv' => ?_)
    clear inv; have inv := inv'; clear inv'
    try simp only [List.setIfInBounds_toArray, List.set_cons_zero, List.set_cons_succ]
    refine till_at 3 93 (.int .i64 (V : Nat)) inv rfl rfl (by decide) (by decide +kernel) (by decide +kernel) (fun _ _ _ h => h) hS3 (Or.inl ⟨by rfl, fun w' hS' => by clear hS'; go_simp⟩) (fun inv' => ?_)
    clear inv; have inv := inv'; clear inv'
    try simp only [List.setIfInBounds_toArray, List.set_cons_zero, List.set_cons_succ]
    refine till_at 4 94 (.int .i64 (Z : Nat)) inv rfl rfl (by decide) (by decide +kernel) (by decide +kernel) (fun _ _ _ h => h) hS3 (Or.inl ⟨by rfl, fun w' hS' => by clear hS'; go_simp⟩) (fun inv' => ?_)
    clear inv; have inv := inv'; clear inv'
    try simp only [List.setIfInBounds_toArray, List.set_cons_zero, List.set_cons_succ]
    refine till_at 5 95 (.slice (some ⟨b, off + 5, none⟩) (Z - 5) (c - 5)) inv rfl rfl (by decide) (by decide +kernel) (by decide +kernel) (fun _ _ _ h => h) hS3 (Or.inl ⟨by rfl, fun w' hS' => by clear hS'; go_simp⟩) (fun inv' => ?_)
    clear inv; have inv := inv'; clear inv'
    try simp only [List.setIfInBounds_toArray, List.set_cons_zero, List.set_cons_succ]
    refine till_head (i := 1) inv (by decide +kernel) (by decide) rfl (fun KK hK => ?_)
    have hbs := bs0 w3.drew
    go_simp
    obtain ⟨w4, hw4⟩ : ∃ u, u = (w3.alloc (.cells #[] 5)).drew := ⟨_, rfl⟩
    have HB5 : Hid (Bx w4 M 24 [.int .u16 0, .int .i64 0, .int .i64 0, .int .i64 0] ∧ w4.heap[w3.heap.size]? = some (.cells #[] 5 (0, 0)) ∧ Below M w w4 ∧ Rw w4 b off l ∧ w4.rangeAt (M + 1) 0 TD ∧ M < w3.heap.size) := by
      have hq : Below w3.heap.size w3 w4 := by rw [hw4]; exact ((Below.refl _ _).alloc (Nat.le_refl _) _).drew
      refine ⟨HB4.out.1.below hq, by rw [hw4]; exact new_none w3, HB4.out.2.2.1.trans (hq.mono (Nat.le_of_lt HB4.out.1.lt)), HB4.out.2.2.2.1.below hq, (HB4.out.2.1.below hq).range, HB4.out.1.lt⟩
    rw [← hw4]
    clear hw4 hbs
    refine hK.out _ _ (HB5.out.2.2.2.2.1) (fun inv' => ?_)
    clear hK KK inv; have inv := inv'; clear inv'
    try simp only [Act.put, List.setIfInBounds_toArray, List.set_cons_zero, List.set_cons_succ]
    refine till_head (i := 6) inv (by decide +kernel) (by decide) rfl (fun KK hK => ?_)
    refine step_clone rfl (.tmp 91) (.tmp 95) rfl w3.heap.size rfl HB5.out.2.1 b (off + 5) (Z - 5) (c - 5) ((l.drop 5).take (s + 4)) rfl (by have q1 := HZ.out; have q2 := HR.out; have q3 := HRU.out; rw [List.length_take, List.length_drop, q2.1]; omega) (by have := HZ.out; omega) (by have := HZ.out; omega) (rw_mid HB5.out.2.2.2.1 5 (s + 4) (by have q1 := HZ.out; have q2 := HR.out; have q3 := HRU.out; omega)) ?_
    intro g c' w5 hc1 hg1 hr1 hb1
    have HB6 : Hid (Bx w5 M 24 [.int .u16 0, .int .i64 0, .int .i64 0, .int .i64 0] ∧ Rx w5 g ((l.drop 5).take (s + 4)) ∧ M < g ∧ Below M w w5 ∧ Z - 5 ≤ c' ∧ w5.rangeAt (M + 1) 0 TD) := by
      obtain ⟨q1, q2, q3, q4, q5, q6⟩ := HB5.out
      refine ⟨q1.keep (hb1.block M q6), hr1, Nat.lt_of_lt_of_le q6 hg1, q3.trans (hb1.mono (Nat.le_of_lt q6)), hc1, fun j u hj => ?_⟩
      rw [hb1.cell (show M + 1 < w3.heap.size from HB4.out.2.1.lt)]
      exact q5 j u hj
    clear hc1 hg1 hr1 hb1
    refine hK.out _ _ (HB6.out.2.2.2.2.2) (fun inv' => ?_)
    clear hK KK inv; have inv := inv'; clear inv'
    try simp only [Act.put, List.setIfInBounds_toArray, List.set_cons_zero, List.set_cons_succ]
    refine till_tail (i := 7) (by decide +kernel) (by decide) rfl (fun KK hK => ?_)
    rw [if_pos (by rfl)]
    refine wp_store_mid 24 (.tmp 2) (.tmp 90) rfl M 0 TD.toArray rfl rfl (by rw [List.size_toArray, HTL.out.1]; exact bx_there HB6.out.1 rfl) (by rw [List.size_toArray]; exact hi7) (all_oneCell_toArray HTL.out.2) ?_
    refine hK.out _ _ ?_
    clear hK KK
    try simp only [List.setIfInBounds_toArray, List.set_cons_zero, List.set_cons_succ]
    refine till_tail (i := 8) (by decide +kernel) (by decide) rfl (fun KK hK => ?_)
    go_simp
    refine hK.out _ _ ?_
    clear hK KK
    try simp only [List.setIfInBounds_toArray, List.set_cons_zero, List.set_cons_succ]
    refine till_tail (i := 9) (by decide +kernel) (by decide) rfl (fun KK hK => ?_)
    go_simp
    refine hK.out _ _ ?_
    clear hK KK
    try simp only [List.setIfInBounds_toArray, List.set_cons_zero, List.set_cons_succ]
    refine till_done (by decide +kernel) ?_ _
    refine NoPanic.normal ?_
    have HB7 : Hid (Bx (w5.setCells M 0 TD.toArray.toList) M 24 TD ∧ w5.grownBy (w5.setCells M 0 TD.toArray.toList) (some M)) := ⟨HB6.out.1.store TD (by rw [HTL.out.1]; rfl), setCells_gb M TD 0 w5⟩
    generalize w5.setCells M 0 TD.toArray.toList = w6 at HB7 ⊢
    clear inv hS3
    go_wp2
    have hx : Rx w6 g ((l.drop 5).take (s + 4)) := HB6.out.2.1.keep (HB7.out.2.block g HB6.out.2.1.lt (fun e => by injection e with e; have := HB6.out.2.2.1; omega))
    refine ret_cell3 (b := M) TD _ _ rfl rfl rfl rfl HB7.out.1.range Try.underlying24 rfl hi7 ⟨Or.inr ⟨HOKF.out, g, c', ?_, ?_, ?_⟩, ?_⟩
    · rw [HTD.out, Hs.out, show Z - 5 = s + 4 by have := HZ.out; omega]; rfl
    · rw [Hs.out]; have q1 := HZ.out; have q2 := HB6.out.2.2.2.2.1; omega
    · rw [Hs.out]; exact hx
    · have hf : Below M w w6 := HB6.out.2.2.2.1.trans (below_gb HB7.out.2 (Nat.le_of_lt HB6.out.1.lt) (Nat.le_refl _))
      first | exact hf | (rw [HMM.out]; exact hf)
  case neg =>
    obtain ⟨r1, r2, rU, rZ⟩ := par_even s Z LL U4 hs HZ.out HLL.out HU4.out hp
    have HRU : Hid (Z + 4 = U4) := rZ
    subst rU
    clear rZ
    by_cases q1 : 1 ≤ nd
    case neg =>
      have kq1 : decide ((nd : Int) < 1) = true := decide_eq_true (by omega)
      have HF : Hid (¬ okF l) := fun e => q1 (HOK.out.1 e).1.1
      go_wp2_with (first
        | (refine wpList_store_bx (by rfl) 24 (.tmp 2) (.tmp 89) (by rfl) [.int .u16 0, .int .i64 0, .int .i64 0, .int .i64 0] [.int .u16 0, .int .i64 0, .int .i64 0, .int .i64 0] M (by rfl) (by rfl) HB4.out.1 rfl hz4 honez ?_; intro w9 hb9 hg9))
      refine ret_cell3 (b := M) [.int .u16 0, .int .i64 0, .int .i64 0, .int .i64 0] _ _ rfl rfl rfl rfl hb9.range Try.underlying24 rfl hz4 ⟨Or.inl ⟨HF.out, _, rfl⟩, ?_⟩
      have hf : Below M w w9 := HB4.out.2.2.1.trans (below_gb hg9 (Nat.le_of_lt HB4.out.1.lt) (Nat.le_refl _))
      first | exact hf | (rw [HMM.out]; exact hf)
    case pos =>
    have kq1 : decide ((nd : Int) < 1) = false := decide_eq_false (by omega)
    by_cases q2 : nd ≤ 16
    case neg =>
      have kq2 : decide (16 < (nd : Int)) = true := decide_eq_true (by omega)
      have HF : Hid (¬ okF l) := fun e => q2 (HOK.out.1 e).1.2
      go_wp2_with (first
        | (refine wpList_store_bx (by rfl) 24 (.tmp 2) (.tmp 89) (by rfl) [.int .u16 0, .int .i64 0, .int .i64 0, .int .i64 0] [.int .u16 0, .int .i64 0, .int .i64 0, .int .i64 0] M (by rfl) (by rfl) HB4.out.1 rfl hz4 honez ?_; intro w9 hb9 hg9))
      refine ret_cell3 (b := M) [.int .u16 0, .int .i64 0, .int .i64 0, .int .i64 0] _ _ rfl rfl rfl rfl hb9.range Try.underlying24 rfl hz4 ⟨Or.inl ⟨HF.out, _, rfl⟩, ?_⟩
      have hf : Below M w w9 := HB4.out.2.2.1.trans (below_gb hg9 (Nat.le_of_lt HB4.out.1.lt) (Nat.le_refl _))
      first | exact hf | (rw [HMM.out]; exact hf)
    case pos =>
    have kq2 : decide (16 < (nd : Int)) = false := decide_eq_false (by omega)
    by_cases q3 : 1 ≤ ix
    case neg =>
      have kq3 : decide ((ix : Int) < 1) = true := decide_eq_true (by omega)
      have HF : Hid (¬ okF l) := fun e => q3 (HOK.out.1 e).2.1
      go_wp2_with (first
        | (refine wpList_store_bx (by rfl) 24 (.tmp 2) (.tmp 89) (by rfl) [.int .u16 0, .int .i64 0, .int .i64 0, .int .i64 0] [.int .u16 0, .int .i64 0, .int .i64 0, .int .i64 0] M (by rfl) (by rfl) HB4.out.1 rfl hz4 honez ?_; intro w9 hb9 hg9))
      refine ret_cell3 (b := M) [.int .u16 0, .int .i64 0, .int .i64 0, .int .i64 0] _ _ rfl rfl rfl rfl hb9.range Try.underlying24 rfl hz4 ⟨Or.inl ⟨HF.out, _, rfl⟩, ?_⟩
      have hf : Below M w w9 := HB4.out.2.2.1.trans (below_gb hg9 (Nat.le_of_lt HB4.out.1.lt) (Nat.le_refl _))
      first | exact hf | (rw [HMM.out]; exact hf)
    case pos =>
    have kq3 : decide ((ix : Int) < 1) = false := decide_eq_false (by omega)
    by_cases q4 : 1 ≤ s
    case neg =>
      have kq4 : decide ((s : Int) < 1) = true := decide_eq_true (by omega)
      exact absurd hp (by omega)
    case pos =>
    have kq4 : decide ((s : Int) < 1) = false := decide_eq_false (by omega)
    by_cases q5 : s ≤ 64
    case neg =>
      have kq5 : decide (64 < (s : Int)) = true := decide_eq_true (by omega)
      have HF : Hid (¬ okF l) := fun e => q5 (HOK.out.1 e).2.2.1.2
      go_wp2_with (first
        | (refine wpList_store_bx (by rfl) 24 (.tmp 2) (.tmp 89) (by rfl) [.int .u16 0, .int .i64 0, .int .i64 0, .int .i64 0] [.int .u16 0, .int .i64 0, .int .i64 0, .int .i64 0] M (by rfl) (by rfl) HB4.out.1 rfl hz4 honez ?_; intro w9 hb9 hg9))
      refine ret_cell3 (b := M) [.int .u16 0, .int .i64 0, .int .i64 0, .int .i64 0] _ _ rfl rfl rfl rfl hb9.range Try.underlying24 rfl hz4 ⟨Or.inl ⟨HF.out, _, rfl⟩, ?_⟩
      have hf : Below M w w9 := HB4.out.2.2.1.trans (below_gb hg9 (Nat.le_of_lt HB4.out.1.lt) (Nat.le_refl _))
      first | exact hf | (rw [HMM.out]; exact hf)
    case pos =>
    have kq5 : decide (64 < (s : Int)) = false := decide_eq_false (by omega)
    by_cases q6 : n = LL
    case neg =>
      have kq6 : ((LL : Int) != (n : Int)) = true := by rw [bne_iff_ne]; omega
      have HF : Hid (¬ okF l) := fun e => q6 (HOK.out.1 e).2.2.2.1
      go_wp2_with (first
        | (refine wpList_store_bx (by rfl) 24 (.tmp 2) (.tmp 89) (by rfl) [.int .u16 0, .int .i64 0, .int .i64 0, .int .i64 0] [.int .u16 0, .int .i64 0, .int .i64 0, .int .i64 0] M (by rfl) (by rfl) HB4.out.1 rfl hz4 honez ?_; intro w9 hb9 hg9))
      refine ret_cell3 (b := M) [.int .u16 0, .int .i64 0, .int .i64 0, .int .i64 0] _ _ rfl rfl rfl rfl hb9.range Try.underlying24 rfl hz4 ⟨Or.inl ⟨HF.out, _, rfl⟩, ?_⟩
      have hf : Below M w w9 := HB4.out.2.2.1.trans (below_gb hg9 (Nat.le_of_lt HB4.out.1.lt) (Nat.le_refl _))
      first | exact hf | (rw [HMM.out]; exact hf)
    case pos =>
    subst q6
    have HOKF : Hid (okF l) := HOK.out.2 ⟨⟨q1, q2⟩, q3, ⟨q4, q5⟩, by first | rfl | omega, (fun j hj => absurd hj (by have h8 := HZ.out; have h9 : Z % 2 = 0 := (by omega); rw [h9]; exact Nat.not_lt_zero j))⟩
    go_wp2
    have hk0 : IntKind.i64.wrap (5 + (V : Int)) = (Z : Int) := f2
    have hS3 : w3.drew.rangeAt (M + 1) 0 TD := HB4.out.2.1.range
    have u1 : (5 : Int) ≤ (Z : Int) := by have := HZ.out; omega
    have u2 : (Z : Int) ≤ (c : Int) := by have := HR.out; have := HRU.out; omega
    have u3 : ¬ c = 5 := by have := HR.out; omega
    have u4 : (0 : Int) ≤ (Z : Int) := by omega
    refine wp_region_noPanic ?_
    refine wp_region_till (fun u => u.rangeAt (M + 1) 0 TD) 7 (by kernel_rfl) (by decide) (by decide +kernel) (by decide +kernel) (by decide +kernel) (fun inv => ?_)
    refine till_at 0 90 (.agg TD.toArray) inv rfl rfl (by decide) (by decide +kernel) (by decide +kernel) (fun _ _ _ h => h) hS3 (yieldsIf_load_mid (by rfl) 24 (.tmp 5) rfl (M + 1) 0 rfl TD _ (fun u hu => hu) Try.underlying24 rfl hi7) (fun inv' => ?_)
    clear inv; have inv := inv'; clear inv'
    try simp only [List.setIfInBounds_toArray, List.set_cons_zero, List.set_cons_succ]
    refine till_at 2 92 (.slice (some ⟨b, off, none⟩) n c) inv rfl rfl (by decide) (by decide +kernel) (by decide +kernel) (fun _ _ _ h => h) hS3 (Or.inl ⟨by rfl, fun w' hS' => by clear hS'; go_simp⟩) (fun inv' => ?_)
    clear inv; have inv := inv'; clear inv'
    try simp only [List.setIfInBounds_toArray, List.set_cons_zero, List.set_cons_succ]
    refine till_at 3 93 (.int .i64 (V : Nat)) inv rfl rfl (by decide) (by decide +kernel) (by decide +kernel) (fun _ _ _ h => h) hS3 (Or.inl ⟨by rfl, fun w' hS' => by clear hS'; go_simp⟩) (fun inv' => ?_)
    clear inv; have inv := inv'; clear inv'
    try simp only [List.setIfInBounds_toArray, List.set_cons_zero, List.set_cons_succ]
    refine till_at 4 94 (.int .i64 (Z : Nat)) inv rfl rfl (by decide) (by decide +kernel) (by decide +kernel) (fun _ _ _ h => h) hS3 (Or.inl ⟨by rfl, fun w' hS' => by clear hS'; go_simp⟩) (fun inv' => ?_)
    clear inv; have inv := inv'; clear inv'
    try simp only [List.setIfInBounds_toArray, List.set_cons_zero, List.set_cons_succ]
    refine till_at 5 95 (.slice (some ⟨b, off + 5, none⟩) (Z - 5) (c - 5)) inv rfl rfl (by decide) (by decide +kernel) (by decide +kernel) (fun _ _ _ h => h) hS3 (Or.inl ⟨by rfl, fun w' hS' => by clear hS'; go_simp⟩) (fun inv' => ?_)
    clear inv; have inv := inv'; clear inv'
    try simp only [List.setIfInBounds_toArray, List.set_cons_zero, List.set_cons_succ]
    refine till_head (i := 1) inv (by decide +kernel) (by decide) rfl (fun KK hK => ?_)
    have hbs := bs0 w3.drew
    go_simp
    obtain ⟨w4, hw4⟩ : ∃ u, u = (w3.alloc (.cells #[] 5)).drew := ⟨_, rfl⟩
    have HB5 : Hid (Bx w4 M 24 [.int .u16 0, .int .i64 0, .int .i64 0, .int .i64 0] ∧ w4.heap[w3.heap.size]? = some (.cells #[] 5 (0, 0)) ∧ Below M w w4 ∧ Rw w4 b off l ∧ w4.rangeAt (M + 1) 0 TD ∧ M < w3.heap.size) := by
      have hq : Below w3.heap.size w3 w4 := by rw [hw4]; exact ((Below.refl _ _).alloc (Nat.le_refl _) _).drew
      refine ⟨HB4.out.1.below hq, by rw [hw4]; exact new_none w3, HB4.out.2.2.1.trans (hq.mono (Nat.le_of_lt HB4.out.1.lt)), HB4.out.2.2.2.1.below hq, (HB4.out.2.1.below hq).range, HB4.out.1.lt⟩
    rw [← hw4]
    clear hw4 hbs
    refine hK.out _ _ (HB5.out.2.2.2.2.1) (fun inv' => ?_)
    clear hK KK inv; have inv := inv'; clear inv'
    try simp only [Act.put, List.setIfInBounds_toArray, List.set_cons_zero, List.set_cons_succ]
    refine till_head (i := 6) inv (by decide +kernel) (by decide) rfl (fun KK hK => ?_)
    refine step_clone rfl (.tmp 91) (.tmp 95) rfl w3.heap.size rfl HB5.out.2.1 b (off + 5) (Z - 5) (c - 5) ((l.drop 5).take (s + 4)) rfl (by have q1 := HZ.out; have q2 := HR.out; have q3 := HRU.out; rw [List.length_take, List.length_drop, q2.1]; omega) (by have := HZ.out; omega) (by have := HZ.out; omega) (rw_mid HB5.out.2.2.2.1 5 (s + 4) (by have q1 := HZ.out; have q2 := HR.out; have q3 := HRU.out; omega)) ?_
    intro g c' w5 hc1 hg1 hr1 hb1
    have HB6 : Hid (Bx w5 M 24 [.int .u16 0, .int .i64 0, .int .i64 0, .int .i64 0] ∧ Rx w5 g ((l.drop 5).take (s + 4)) ∧ M < g ∧ Below M w w5 ∧ Z - 5 ≤ c' ∧ w5.rangeAt (M + 1) 0 TD) := by
      obtain ⟨q1, q2, q3, q4, q5, q6⟩ := HB5.out
      refine ⟨q1.keep (hb1.block M q6), hr1, Nat.lt_of_lt_of_le q6 hg1, q3.trans (hb1.mono (Nat.le_of_lt q6)), hc1, fun j u hj => ?_⟩
      rw [hb1.cell (show M + 1 < w3.heap.size from HB4.out.2.1.lt)]
      exact q5 j u hj
    clear hc1 hg1 hr1 hb1
    refine hK.out _ _ (HB6.out.2.2.2.2.2) (fun inv' => ?_)
    clear hK KK inv; have inv := inv'; clear inv'
    try simp only [Act.put, List.setIfInBounds_toArray, List.set_cons_zero, List.set_cons_succ]
    refine till_tail (i := 7) (by decide +kernel) (by decide) rfl (fun KK hK => ?_)
    rw [if_pos (by rfl)]
    refine wp_store_mid 24 (.tmp 2) (.tmp 90) rfl M 0 TD.toArray rfl rfl (by rw [List.size_toArray, HTL.out.1]; exact bx_there HB6.out.1 rfl) (by rw [List.size_toArray]; exact hi7) (all_oneCell_toArray HTL.out.2) ?_
    refine hK.out _ _ ?_
    clear hK KK
    try simp only [List.setIfInBounds_toArray, List.set_cons_zero, List.set_cons_succ]
    refine till_tail (i := 8) (by decide +kernel) (by decide) rfl (fun KK hK => ?_)
    go_simp
    refine hK.out _ _ ?_
    clear hK KK
    try simp only [List.setIfInBounds_toArray, List.set_cons_zero, List.set_cons_succ]
    refine till_tail (i := 9) (by decide +kernel) (by decide) rfl (fun KK hK => ?_)
    go_simp
    refine hK.out _ _ ?_
    clear hK KK
    try simp only [List.setIfInBounds_toArray, List.set_cons_zero, List.set_cons_succ]
    refine till_done (by decide +kernel) ?_ _
    refine NoPanic.normal ?_
    have HB7 : Hid (Bx (w5.setCells M 0 TD.toArray.toList) M 24 TD ∧ w5.grownBy (w5.setCells M 0 TD.toArray.toList) (some M)) := ⟨HB6.out.1.store TD (by rw [HTL.out.1]; rfl), setCells_gb M TD 0 w5⟩
    generalize w5.setCells M 0 TD.toArray.toList = w6 at HB7 ⊢
    clear inv hS3
    go_wp2
    have hx : Rx w6 g ((l.drop 5).take (s + 4)) := HB6.out.2.1.keep (HB7.out.2.block g HB6.out.2.1.lt (fun e => by injection e with e; have := HB6.out.2.2.1; omega))
    refine ret_cell3 (b := M) TD _ _ rfl rfl rfl rfl HB7.out.1.range Try.underlying24 rfl hi7 ⟨Or.inr ⟨HOKF.out, g, c', ?_, ?_, ?_⟩, ?_⟩
    · rw [HTD.out, Hs.out, show Z - 5 = s + 4 by have := HZ.out; omega]; rfl
    · rw [Hs.out]; have q1 := HZ.out; have q2 := HB6.out.2.2.2.2.1; omega
    · rw [Hs.out]; exact hx
    · have hf : Below M w w6 := HB6.out.2.2.2.1.trans (below_gb HB7.out.2 (Nat.le_of_lt HB6.out.1.lt) (Nat.le_refl _))
      first | exact hf | (rw [HMM.out]; exact hf)
end Go.Proofs.Ytffejkfkkciaaaa
