import Derived.Test.YtinmhgackihakaaDoorPart04
import Derived.Test.YtinmhgackihakaaDoorPart08
import Derived.Test.YtinmhgackihakaaDoorPart02
import Derived.Deep.Cut
import Derived.Deep.DeepMust
import Derived.Deep.AppendLies
import Derived.Laws.EntriesVeiled
import Derived.Test.YtinmhgackihakaaDoorPart03
namespace Go.Proofs.YtinmhgackihakaaDoor
open Go.RowKit
set_option linter.unusedVariables false
set_option linter.unusedSimpArgs false
set_option maxRecDepth 100000
theorem sumD_bytes (h : Int) (zs : List Int) : AllBytes (sumD h zs) := fun i => by
  unfold sumD
  rw [List.getD_eq_getElem?_getD, List.getElem?_take]
  split
  · unfold spellL
    rw [List.getElem?_map]
    cases (List.range 64)[i]? with
    | none => simp
    | some q => simp only [Option.map_some, Option.getD_some]; unfold spellAt; omega
  · simp
/-- Bytes as numbers, and back. -/
def zi (l : List F) : List Int := l.map fun c => ((c.1 : Nat) : Int)
def fI (z : Int) : F := ⟨z.toNat % 256, Nat.mod_lt _ (by decide)⟩
theorem zi_len (l : List F) : (zi l).length = l.length := by simp [zi]
theorem zi_getD (l : List F) (i : Nat) (h : i < l.length) : (zi l).getD i 0 = ((l.getD i 0).1 : Nat) := by
  simp [zi, List.getD_eq_getElem?_getD, List.getElem?_map, List.getElem?_eq_getElem h]
theorem zi_app (a b : List F) : zi (a ++ b) = zi a ++ zi b := by simp [zi]
theorem zi_cells (l : List F) : cellsU8 (zi l) = fc l := by simp [zi, fc, cellsU8]
/-- A secret's check. -/
def ckL (b0 b1 : F) (l : List F) : List F := ((sumD 256 (zi ([b0, b1] ++ l))).take 4).map fI
theorem ck_len (b0 b1 : F) (l : List F) : (ckL b0 b1 l).length = 4 := by
  unfold ckL
  rw [List.length_map, List.length_take, sumD_length 256 (.inr (.inl rfl))]
  rfl
theorem ck_at (b0 b1 : F) (l : List F) (i : Nat) (h : i < 4) : (((ckL b0 b1 l).getD i 0).1 : Int) = (sumD 256 (zi ([b0, b1] ++ l))).getD i 0 := by
  have hl : (sumD 256 (zi ([b0, b1] ++ l))).length = 32 := sumD_length 256 (.inr (.inl rfl)) _
  have hb := sumD_bytes 256 (zi ([b0, b1] ++ l)) i
  unfold ckL
  simp only [List.getD_eq_getElem?_getD] at hb ⊢
  rw [List.getElem?_map, List.getElem?_take, if_pos h, List.getElem?_eq_getElem (by omega)] at *
  simp only [Option.map_some, Option.getD_some] at hb ⊢
  unfold fI
  simp only
  omega
theorem ck_cells (b0 b1 : F) (l : List F) : cellsU8 ((sumD 256 (zi ([b0, b1] ++ l))).take 4) = fc (ckL b0 b1 l) := by
  have hl : (sumD 256 (zi ([b0, b1] ++ l))).length = 32 := sumD_length 256 (.inr (.inl rfl)) _
  refine List.ext_getElem? fun i => ?_
  by_cases h : i < 4
  · rw [fc_at _ _ (by rw [ck_len]; exact h), ck_at b0 b1 l i h]
    unfold cellsU8
    rw [List.getElem?_map, List.getElem?_take, if_pos h, List.getD_eq_getElem?_getD, List.getElem?_eq_getElem (by omega)]
    rfl
  · rw [List.getElem?_eq_none (by rw [cellsU8_length, List.length_take]; omega), List.getElem?_eq_none (by rw [fc_len, ck_len]; omega)]
theorem rw_view {w : World} {b off n c : Nat} {l : List F} (h : Rw w b off l) (hl : l.length = n) (hc : n ≤ c) (hm : c ≤ maxLen) : View w (.slice (some ⟨b, off, none⟩) n c) (zi l) := by
  refine ⟨_, c, by rw [zi_len, hl], by rw [zi_len, hl]; exact hc, hm, (fun e => by cases e), Or.inr ⟨b, off, rfl, fun i hi => ?_⟩⟩
  rw [zi_len] at hi
  rw [zi_getD l i hi]
  exact h i hi
/-- A row: the secret and its check. -/
def rowS (b0 b1 : F) (l : List F) : List F := l ++ ckL b0 b1 l
theorem rowS_len (b0 b1 : F) (l : List F) : (rowS b0 b1 l).length = l.length + 4 := by unfold rowS; rw [List.length_append, ck_len]
/-- A polynomial's coefficients, that of the highest power first. -/
def cfL (R row : List F) (n nd i : Nat) : List F := (List.range nd).map fun t => if t + 1 < nd then R.getD ((nd - 2 - t) * n + i) 0 else row.getD i 0
theorem cfL_len (R row : List F) (n nd i : Nat) : (cfL R row n nd i).length = nd := by simp [cfL]
/-- The same, the constant one first, the first k of the random ones. -/
def cfR (R row : List F) (n i k : Nat) : List F := row.getD i 0 :: (List.range k).map fun j => R.getD (j * n + i) 0
theorem cfR_len (R row : List F) (n i k : Nat) : (cfR R row n i k).length = k + 1 := by simp [cfR]
theorem cfR_next (R row : List F) (n i k : Nat) : cfR R row n i (k + 1) = cfR R row n i k ++ [R.getD (k * n + i) 0] := by
  unfold cfR
  rw [List.range_succ, List.map_append]
  rfl
theorem cfR_rev (R row : List F) (n nd i : Nat) (h : 1 ≤ nd) : (cfR R row n i (nd - 1)).reverse = cfL R row n nd i := by
  refine list_same (by rw [List.length_reverse, cfR_len, cfL_len]; omega) fun q hq => ?_
  rw [cfL_len] at hq
  have e : nd - 1 + 1 = nd := by omega
  rw [List.getD_eq_getElem?_getD, List.getElem?_reverse (by rw [cfR_len]; omega), cfR_len, e]
  unfold cfL cfR
  rw [List.getD_eq_getElem?_getD (l := List.map _ _), List.getElem?_map, List.getElem?_range hq]
  simp only [Option.map_some, Option.getD_some]
  by_cases h1 : q + 1 < nd
  · rw [if_pos h1, show nd - 1 - q = (nd - 2 - q) + 1 by omega, List.getElem?_cons_succ, List.getElem?_map, List.getElem?_range (by omega)]
    rfl
  · rw [if_neg h1, show nd - 1 - q = 0 by omega, List.getElem?_cons_zero]
    rfl
theorem cf_val (R row : List F) (n nd i : Nat) (x : F) (h : 1 ≤ nd) : valF (cfR R row n i (nd - 1)) x = pv x (cfL R row n nd i) := by
  rw [← cfR_rev R row n nd i h, valF_rev]
/-- A share's values; its bytes ahead of its code; its line. -/
def valsL (R row : List F) (n nd : Nat) (x : F) : List F := (List.range n).map fun i => pv x (cfL R row n nd i)
theorem valsL_len (R row : List F) (n nd : Nat) (x : F) : (valsL R row n nd x).length = n := by simp [valsL]
def headL (b0 b1 bn bi bs : F) (s : Nat) (vs : List F) : List F := [b0, b1, bn, bi, bs] ++ vs ++ List.replicate ((9 + s) % 2) 0
def fullL (b0 b1 bn bi bs : F) (s : Nat) (vs : List F) : List F := headL b0 b1 bn bi bs s vs ++ codeL (headL b0 b1 bn bi bs s vs)
/-- A row of which some cells are filled. -/
def Cd (n : Nat) (D : Nat → Prop) (g : Nat → F) (cu : List Value) : Prop := cu.length = n ∧ (∀ i, i < n → D i → cu[i]? = some (.int .u8 ((g i).1 : Nat))) ∧ ∀ i, i < n → ∃ x : Int, cu[i]? = some (.int .u8 x)
theorem Cd.next {n k : Nat} {D D' : Nat → Prop} {g : Nat → F} {cu : List Value} (h : Cd n D g cu) (hk : k < n) (hd : ∀ i, D' i → D i ∨ i = k) : Cd n D' g (cu.set k (.int .u8 ((g k).1 : Nat))) := by
  refine ⟨by rw [List.length_set]; exact h.1, fun i hi hD => ?_, fun i hi => ?_⟩
  · by_cases e : k = i
    · subst e; rw [List.getElem?_set_self (by rw [h.1]; exact hk)]
    · rw [List.getElem?_set_ne e]
      rcases hd i hD with q | q
      · exact h.2.1 i hi q
      · exact absurd q.symm e
  · by_cases e : k = i
    · subst e; rw [List.getElem?_set_self (by rw [h.1]; exact hk)]; exact ⟨_, rfl⟩
    · rw [List.getElem?_set_ne e]; exact h.2.2 i hi
theorem Cd.all {n : Nat} {D : Nat → Prop} {g : Nat → F} {cu : List Value} (h : Cd n D g cu) (hd : ∀ i, i < n → D i) : cu = fc ((List.range n).map g) := by
  refine List.ext_getElem? fun i => ?_
  by_cases hi : i < n
  · rw [h.2.1 i hi (hd i hi), fc_at _ _ (by simp; exact hi)]
    simp [List.getD_eq_getElem?_getD, List.getElem?_range hi]
  · rw [List.getElem?_eq_none (by rw [h.1]; omega), List.getElem?_eq_none (by rw [fc_len]; simp; omega)]
theorem Cd.zero (n : Nat) (g : Nat → F) : Cd n (fun _ => False) g (List.replicate n (.int .u8 0)) :=
  ⟨by simp, fun i _ h => h.elim, fun i hi => ⟨0, by simp [hi]⟩⟩
end Go.Proofs.YtinmhgackihakaaDoor
namespace Go.Proofs.YtinmhgackihakaaDoor
open Go.RowKit
set_option linter.unusedVariables false
set_option linter.unusedSimpArgs false
set_option maxRecDepth 100000
theorem infoShare : (Tryd.prog.info? 64).map (·.zero) = some (some (.agg #[.int .u16 0, .int .i64 0, .int .i64 0, .int .i64 0])) := by kernel_rfl
def ZS : List Value := [.int .u16 0, .int .i64 0, .int .i64 0, .int .i64 0]
theorem alloc48_run (w : World) : (execOp (fun _ => undef) { dst := some 0, op := Op.alloc 64, type := 0, pos := "", after := #[], guard := none }).run Tryd.prog w = .ok (.value (.pointer (some ⟨w.heap.size, 0, none⟩))) (w.alloc (.cells ZS.toArray 64)) := by kernel_rfl
theorem step_alloc48 {ops : Array Oper} {o : Oper} {a : Act} {w : World} {K : Act → World → Prop} {Q : Exit → Act → World → Prop} {E : Prop} (hgd : o.guard = none) (d : Nat) (hd : o.dst = some d) (ho : o.op = .alloc 64)
    (h : ∀ u b, Hid (u = w.alloc (.cells ZS.toArray 64)) → Hid (b = w.heap.size) → K (a.put (some d) (.pointer (some ⟨b, 0, none⟩))) u) : if Region.wanted o (yielded ops a.tmps) = true then Oper.wp Tryd.prog o a w K Q else E := by
  have hw : Region.wanted o (yielded ops a.tmps) = true := by simp [Region.wanted, hgd]
  rw [if_pos hw]
  have z := h _ _ rfl rfl
  rw [← hd] at z
  have q : (execOp a.eval o).run Tryd.prog w = .ok (.value (.pointer (some ⟨w.heap.size, 0, none⟩))) (w.alloc (.cells ZS.toArray 64)) := by
    have e := alloc48_run w
    simp only [execOp, ho] at e ⊢
    exact e
  unfold Oper.wp
  rw [q]
  exact z
theorem step_store_bx {P : Program} {ops : Array Oper} {o : Oper} {a : Act} {w : World} {K : Act → World → Prop} {Q : Exit → Act → World → Prop} {E : Prop} (hgd : o.guard = none) (t : TypeId) (x y : Operand) (ho : o.op = .store t x y) {bt : TypeId} (c c' : List Value) (g : Nat) (hx : a.eval x = .pointer (some ⟨g, 0, none⟩)) (hy : a.eval y = .agg c'.toArray)
    (hb : Bx w g bt c) (hl : c'.length = c.length) (hi : (P.info? t).map (·.size) = some c'.length) (h1 : ∀ v ∈ c', v.oneCell' = true) (h : ∀ u, Hid (Bx u g bt c') → Hid (w.grownBy u (some g)) → K a u) (hdn : o.dst = none := by rfl) :
    if Region.wanted o (yielded ops a.tmps) = true then Oper.wp P o a w K Q else E := by
  have hw : Region.wanted o (yielded ops a.tmps) = true := by simp [Region.wanted, hgd]
  rw [if_pos hw]
  refine wp_store_mid t x y ho g 0 c'.toArray hx hy (fun j hj => ?_) (by simpa using hi) (all_oneCell_toArray h1) (by rw [hdn]; exact h _ (hb.store c' hl) (setCells_gb g _ 0 w))
  rw [Nat.zero_add]
  have hj' : j < c.length := by rw [← hl]; simpa using hj
  refine ⟨?_, hb.frozen j⟩
  rw [hb.cell j _ (List.getElem?_eq_getElem hj')]
  rfl
set_option maxHeartbeats 3200000 in
/-- A share's line. -/
theorem line_ok (sn nd ix s n m U N LB lc : Nat) (b0 b1 bn bi bs : F) (C : Nat → List F) (p q : Nat → Nat) (w : World) (hs : Hid (b0.1 * 256 + b1.1 = sn)) (hbn : Hid (bn.1 = nd)) (hbi : Hid (bi.1 = ix)) (hbs : Hid (bs.1 = s)) (hU : Hid (U = unc s ∧ N = U + 4 ∧ n = s + 4 ∧ m ≤ 4000)) (hp : Hid (PolI LB n m C p q w)) :
    Calls Tryd.prog 18 #[.agg #[.int .u16 (sn : Nat), .int .i64 (nd : Nat), .slice (some ⟨LB, 0, none⟩) n lc], .int .i64 (ix : Nat)] w fun e w' => Hid (e = .returned (.string (WLs (fullL b0 b1 bn bi bs s ((List.range n).map fun i => pv bi (C i))))) ∧ Below w.heap.size w w') := by
  have HSS : Hid (s < 256 ∧ n ≤ 1000 ∧ ix < 256 ∧ s + 4 = n ∧ N ≤ 1000 ∧ nd < 256 ∧ sn < 65536) := by
    have := bs.2; have := bi.2; have := hbs.out; have := hbi.out; have := bn.2; have := hbn.out; have := b0.2; have := b1.2; have := hs.out
    have h2 := hU.out
    have h3 := h2.1
    unfold unc at h3
    exact ⟨by omega, by omega, by omega, by omega, by omega, by omega, by omega⟩
  obtain ⟨M, HMM⟩ : ∃ M, Hid (w.heap.size = M) := ⟨_, rfl⟩
  obtain ⟨SD, HSD⟩ : ∃ q : List Value, Hid ([.int .u16 (sn : Nat), .int .i64 (nd : Nat), .slice (some ⟨LB, 0, none⟩) n lc] = q) := ⟨_, rfl⟩
  obtain ⟨TD, HTD⟩ : ∃ q : List Value, Hid ([.int .u16 (sn : Nat), .int .i64 (nd : Nat), .int .i64 (ix : Nat), .int .i64 (s : Nat)] = q) := ⟨_, rfl⟩
  have HTL : Hid (TD.length = 4 ∧ ∀ v ∈ TD, v.oneCell' = true) := by rw [← HTD.out]; refine ⟨rfl, fun v hv => ?_⟩; simp at hv; rcases hv with rfl | rfl | rfl | rfl <;> rfl
  have hi5 : (Tryd.prog.info? 50).map (·.size) = some SD.length := by rw [← HSD.out]; kernel_rfl
  have hi7 : (Tryd.prog.info? 64).map (·.size) = some TD.length := by rw [HTL.out.1]; kernel_rfl
  obtain ⟨w1, hw1⟩ : ∃ w1, w1 = w.alloc (.cells #[.int .u16 (sn : Nat), .int .i64 (nd : Nat), .slice (some ⟨LB, 0, none⟩) n lc] 50) := ⟨_, rfl⟩
  have HS0 : Hid (Bx w1 M 50 SD ∧ Below M w w1) := by
    have hb0 : Below w.heap.size w w1 := by rw [hw1]; exact (Below.refl _ _).alloc (Nat.le_refl _) _
    rw [← HMM.out, ← HSD.out]
    exact ⟨by rw [hw1]; exact Bx.new w 50 _, hb0⟩
  have HSC : Hid (∀ u, Bx u M 50 SD → u.cell? ⟨M, 0, none⟩ = some (.int .u16 (sn : Nat)) ∧ u.cell? ⟨M, 1, none⟩ = some (.int .i64 (nd : Nat)) ∧ u.cell? ⟨M, 2, none⟩ = some (.slice (some ⟨LB, 0, none⟩) n lc)) := fun u h => by
    rw [← HSD.out] at h
    exact ⟨h.cell 0 _ rfl, h.cell 1 _ rfl, h.cell 2 _ rfl⟩
  have H34 : Hid (∀ u, Calls Tryd.prog 29 #[.agg SD.toArray] u fun e w' => Hid (e = .returned (.int .i64 (s : Nat)) ∧ Below u.heap.size u w')) := fun u => by
    rw [← HSD.out]
    exact size_ok sn nd LB n lc s (show n = s + 4 ∧ n ≤ 1000 from ⟨hU.out.2.2.1, HSS.out.2.1⟩) u
  obtain ⟨VS, HVS⟩ : ∃ q : List F, Hid (q = (List.range n).map fun i => pv bi (C i)) := ⟨(List.range n).map fun i => pv bi (C i), show _ = _ from rfl⟩
  rw [← HVS.out]
  have HVL : Hid (VS.length = n) := by show _ = _; rw [HVS.out]; simp
  obtain ⟨FU, HFF⟩ : ∃ q : List F, Hid (q = fullL b0 b1 bn bi bs s VS) := ⟨fullL b0 b1 bn bi bs s VS, show _ = _ from rfl⟩
  have HFL : Hid (FU.length = N) := by
    show _ = _
    have h1 := hU.out
    have h2 := h1.1
    unfold unc at h2
    have h3 := HVL.out
    rw [HFF.out]
    unfold fullL headL
    rw [List.length_append, codeL_len]
    simp
    omega
  have H35 : Hid (∀ u gr, Bx u gr 5 (fc FU) → Calls Tryd.prog 30 #[.slice (some ⟨gr, 0, none⟩) N N] u fun e w' => Hid (e = .returned (.string (WLs FU)) ∧ Below u.heap.size u w')) := fun u gr hu => (wordsF_ok gr 0 N N FU u HFL.out (by have := HSS.out; omega) (Nat.le_refl _) (by have := HSS.out; omega) (bx_rw hu)).mono fun e w' hh => hh
  rw [← HFF.out]
  go_enter Tryd.func18, Tryd.ntmps18
  go_upto_region 1 with fail
  rw [← hw1, HMM.out]
  clear hw1
  go_cut [5] from 6 to 14 (fun vt wx => ∃ g : Nat, vt = .pointer (some ⟨g, 0, none⟩) ∧ Hid (Bx wx M 50 SD ∧ Below M w wx ∧ Bx wx g 64 TD ∧ M < g))
  case first =>
    have hS0 : Bx w1.drew M 50 SD ∧ Below M w w1.drew := ⟨HS0.out.1.keep rfl, HS0.out.2.drew⟩
    refine wp_region_noPanic ?_
    refine wp_region_held_drew (S := (fun u => Bx u M 50 SD ∧ Below M w u)) (by kernel_rfl) (hS0) (fun _ => ?_)
    refine takeH_at 0 6 (.pointer (some ⟨M, 0, none⟩)) rfl rfl (by kernel_rfl) (by kernel_rfl) (by kernel_rfl) (fun _ _ _ h => h) (hS0) (Or.inl ⟨by rfl, fun w' hS' => by obtain ⟨k0, k1, k2⟩ := HSC.out _ hS'.1; go_simp⟩) ?_
    try simp only [List.setIfInBounds_toArray, List.set_cons_zero, List.set_cons_succ]
    refine takeH_at 1 7 (.int .u16 (sn : Nat)) rfl rfl (by kernel_rfl) (by kernel_rfl) (by kernel_rfl) (fun _ _ _ h => h) (hS0) (Or.inl ⟨by rfl, fun w' hS' => by obtain ⟨k0, k1, k2⟩ := HSC.out _ hS'.1; go_simp⟩) ?_
    try simp only [List.setIfInBounds_toArray, List.set_cons_zero, List.set_cons_succ]
    refine takeH_at 2 8 (.pointer (some ⟨M, 1, none⟩)) rfl rfl (by kernel_rfl) (by kernel_rfl) (by kernel_rfl) (fun _ _ _ h => h) (hS0) (Or.inl ⟨by rfl, fun w' hS' => by obtain ⟨k0, k1, k2⟩ := HSC.out _ hS'.1; go_simp⟩) ?_
    try simp only [List.setIfInBounds_toArray, List.set_cons_zero, List.set_cons_succ]
    refine takeH_at 3 9 (.int .i64 (nd : Nat)) rfl rfl (by kernel_rfl) (by kernel_rfl) (by kernel_rfl) (fun _ _ _ h => h) (hS0) (Or.inl ⟨by rfl, fun w' hS' => by obtain ⟨k0, k1, k2⟩ := HSC.out _ hS'.1; go_simp⟩) ?_
    try simp only [List.setIfInBounds_toArray, List.set_cons_zero, List.set_cons_succ]
    refine takeH_at 4 10 (.int .i64 (ix : Nat)) rfl rfl (by kernel_rfl) (by kernel_rfl) (by kernel_rfl) (fun _ _ _ h => h) (hS0) (Or.inl ⟨by rfl, fun w' hS' => by obtain ⟨k0, k1, k2⟩ := HSC.out _ hS'.1; go_simp⟩) ?_
    try simp only [List.setIfInBounds_toArray, List.set_cons_zero, List.set_cons_succ]
    refine takeH_at 5 11 (.agg SD.toArray) rfl rfl (by kernel_rfl) (by kernel_rfl) (by kernel_rfl) (fun _ _ _ h => h) (hS0) (yieldsIf_load_mid (by rfl) 50 (.tmp 2) rfl M 0 rfl SD _ (fun u hu => hu.1.range) Tryd.underlying50 rfl hi5) ?_
    try simp only [List.setIfInBounds_toArray, List.set_cons_zero, List.set_cons_succ]
    refine wpAnyH_ready (rs := [6, 8]) (by kernel_rfl) (by simp) ?_
    refine AllReadyH.cons rfl (fun KK hK => ?_) (AllReadyH.cons rfl (fun KK hK => ?_) AllReadyH.nil)
    · skip
      go_simp
      refine (H34.out _).mono ?_
      intro e q1 hh
      obtain ⟨rfl, hb⟩ := hh.out
      have HQ1 : Hid (Bx q1 M 50 SD ∧ Below M w q1) := ⟨hS0.1.below hb, hS0.2.trans (hb.mono (Nat.le_of_lt hS0.1.lt))⟩
      clear hh hb
      go_wp2_with fail
      refine hK.out _ _ (HQ1.out) (fun _ => ?_)
      clear hK KK
      try simp only [List.setIfInBounds_toArray, List.set_cons_zero, List.set_cons_succ]
      refine takeH_at 7 13 (.agg TD.toArray) rfl rfl (by kernel_rfl) (by kernel_rfl) (by kernel_rfl) (fun _ _ _ h => h) (HQ1.out) (Or.inl ⟨by rfl, fun w' hS' => by rw [← HTD.out]; go_simp⟩) ?_
      try simp only [List.setIfInBounds_toArray, List.set_cons_zero, List.set_cons_succ]
      refine wpAnyH_ready (rs := [8]) (by kernel_rfl) (by simp) ?_
      refine AllReadyH.cons rfl (fun KK hK => ?_) AllReadyH.nil
      refine step_alloc48 rfl 5 rfl rfl ?_
      intro q2 b2 hu hb
      have HQ2 : Hid (Bx q2 M 50 SD ∧ Below M w q2) := by rw [hu.out]; exact ⟨HQ1.out.1.below ((Below.refl _ _).alloc (Nat.le_refl _) _), HQ1.out.2.alloc (Nat.le_of_lt HQ1.out.1.lt) _⟩
      have HZ2 : Hid (Bx q2 b2 64 ZS ∧ M < b2) := by rw [hu.out, hb.out]; exact ⟨Bx.new _ 64 ZS, HQ1.out.1.lt⟩
      clear hu hb
      refine hK.out _ _ (HQ2.out) (fun _ => ?_)
      clear hK KK
      try simp only [List.setIfInBounds_toArray, List.set_cons_zero, List.set_cons_succ]
      refine wpAnyH_ready (rs := [9]) (by kernel_rfl) (by simp) ?_
      refine AllReadyH.cons rfl (fun KK hK => ?_) AllReadyH.nil
      refine step_store_bx rfl 64 (.tmp 5) (.tmp 13) rfl ZS TD b2 rfl rfl HZ2.out.1 (by rw [HTL.out.1]; rfl) hi7 HTL.out.2 ?_
      intro u9 HB9 HG9
      have H9 : Hid (Bx u9 M 50 SD ∧ Below M w u9 ∧ Bx u9 b2 64 TD ∧ M < b2) := ⟨HQ2.out.1.keep (HG9.out.block M HQ2.out.1.lt (fun e => by injection e with e; exact absurd e (Nat.ne_of_lt HZ2.out.2))), HQ2.out.2.trans (below_gb HG9.out (Nat.le_of_lt HQ2.out.1.lt) (Nat.le_of_lt HZ2.out.2)), HB9.out, HZ2.out.2⟩
      clear HB9 HG9
      refine hK.out _ _ (⟨H9.out.1, H9.out.2.1⟩) (fun _ => ?_)
      clear hK KK
      try simp only [List.setIfInBounds_toArray, List.set_cons_zero, List.set_cons_succ]
      refine wpAnyH_done (by kernel_rfl) ?_ _
      refine NoPanic.normal ?_
      go_wp2_with fail
      go_meet
      exact ⟨b2, rfl, H9⟩
    · skip
      refine step_alloc48 rfl 5 rfl rfl ?_
      intro q3 b3 hu hb
      have HQ3 : Hid (Bx q3 M 50 SD ∧ Below M w q3) := by rw [hu.out]; exact ⟨hS0.1.below ((Below.refl _ _).alloc (Nat.le_refl _) _), hS0.2.alloc (Nat.le_of_lt hS0.1.lt) _⟩
      have HZ3 : Hid (Bx q3 b3 64 ZS ∧ M < b3) := by rw [hu.out, hb.out]; exact ⟨Bx.new _ 64 ZS, hS0.1.lt⟩
      clear hu hb
      refine hK.out _ _ (HQ3.out) (fun _ => ?_)
      clear hK KK
      try simp only [List.setIfInBounds_toArray, List.set_cons_zero, List.set_cons_succ]
      refine wpAnyH_ready (rs := [6]) (by kernel_rfl) (by simp) ?_
      refine AllReadyH.cons rfl (fun KK hK => ?_) AllReadyH.nil
      go_simp
      refine (H34.out _).mono ?_
      intro e q4 hh
      obtain ⟨rfl, hb⟩ := hh.out
      have HQ4 : Hid (Bx q4 M 50 SD ∧ Below M w q4) := ⟨HQ3.out.1.below hb, HQ3.out.2.trans (hb.mono (Nat.le_of_lt HQ3.out.1.lt))⟩
      have HZ4 : Hid (Bx q4 b3 64 ZS ∧ M < b3) := ⟨HZ3.out.1.below hb, HZ3.out.2⟩
      clear hh hb
      go_wp2_with fail
      refine hK.out _ _ (HQ4.out) (fun _ => ?_)
      clear hK KK
      try simp only [List.setIfInBounds_toArray, List.set_cons_zero, List.set_cons_succ]
      refine takeH_at 7 13 (.agg TD.toArray) rfl rfl (by kernel_rfl) (by kernel_rfl) (by kernel_rfl) (fun _ _ _ h => h) (HQ4.out) (Or.inl ⟨by rfl, fun w' hS' => by rw [← HTD.out]; go_simp⟩) ?_
      try simp only [List.setIfInBounds_toArray, List.set_cons_zero, List.set_cons_succ]
      refine wpAnyH_ready (rs := [9]) (by kernel_rfl) (by simp) ?_
      refine AllReadyH.cons rfl (fun KK hK => ?_) AllReadyH.nil
      refine step_store_bx rfl 64 (.tmp 5) (.tmp 13) rfl ZS TD b3 rfl rfl HZ4.out.1 (by rw [HTL.out.1]; rfl) hi7 HTL.out.2 ?_
      intro u9 HB9 HG9
      have H9 : Hid (Bx u9 M 50 SD ∧ Below M w u9 ∧ Bx u9 b3 64 TD ∧ M < b3) := ⟨HQ4.out.1.keep (HG9.out.block M HQ4.out.1.lt (fun e => by injection e with e; exact absurd e (Nat.ne_of_lt HZ4.out.2))), HQ4.out.2.trans (below_gb HG9.out (Nat.le_of_lt HQ4.out.1.lt) (Nat.le_of_lt HZ4.out.2)), HB9.out, HZ4.out.2⟩
      clear HB9 HG9
      refine hK.out _ _ (⟨H9.out.1, H9.out.2.1⟩) (fun _ => ?_)
      clear hK KK
      try simp only [List.setIfInBounds_toArray, List.set_cons_zero, List.set_cons_succ]
      refine wpAnyH_done (by kernel_rfl) ?_ _
      refine NoPanic.normal ?_
      go_wp2_with fail
      go_meet
      exact ⟨b3, rfl, H9⟩
  case rest =>
    obtain ⟨g, rfl, HG⟩ := hcut
    have HPW : Hid (PolI LB n m C p q wc) := hp.out.below (Nat.le_of_eq HMM.out) HG.out.2.1
    have HB8 : Hid (bi.1 = ix) := hbi
    have n2 : IntKind.u8.wrap (ix : Int) = (ix : Int) := wraps_u8 _ (by omega) (by have := HSS.out; omega)
    have HTC : Hid (TD = [.int .u16 (sn : Nat), .int .i64 (nd : Nat), .int .i64 (ix : Nat), .int .i64 (s : Nat)]) := HTD.out.symm
    have H37 : Hid (∀ u, PolI LB n m C p q u → Calls Tryd.prog 32 #[.int .u8 (ix : Nat), .slice (some ⟨LB, 0, none⟩) n lc] u fun e w' => Hid (∃ vb, e = .returned (.slice (some ⟨vb, 0, none⟩) n n) ∧ u.heap.size ≤ vb ∧ Bx w' vb 5 (fc VS) ∧ Below u.heap.size u w')) := fun u hu => by
      rw [HVS.out, ← hbi.out]
      exact values_ok LB n m lc bi C p q u HSS.out.2.1 hU.out.2.2.2 hu
    have H36 : Hid (∀ u vb vc, Bx u vb 5 (fc VS) → Calls Tryd.prog 31 #[.agg TD.toArray, .slice (some ⟨vb, 0, none⟩) n vc] u fun e w' => Hid (∃ g, e = .returned (.slice (some ⟨g, 0, none⟩) N N) ∧ u.heap.size ≤ g ∧ (∃ hd, hd = [b0, b1, bn, bi, bs] ++ VS ++ List.replicate ((9 + s) % 2) 0 ∧ Bx w' g 5 (fc (hd ++ codeL hd))) ∧ Below u.heap.size u w')) := fun u vb vc hu => by
      have q := newRow_ok sn nd ix s U N vb vc b0 b1 bn bi bs VS u hs hbn hbi hbs (show U = unc s ∧ N = U + 4 ∧ VS.length = s + 4 from ⟨hU.out.1, hU.out.2.1, by rw [HVL.out]; exact hU.out.2.2.1⟩) hu
      rw [HSS.out.2.2.2.1] at q
      rw [← HTD.out]
      exact q
    have hS0 : Bx wc.drew M 50 SD ∧ Bx wc.drew g 64 TD ∧ PolI LB n m C p q wc.drew ∧ Below M w wc.drew := ⟨HG.out.1.keep rfl, HG.out.2.2.1.keep rfl, HPW.out.below (Nat.le_refl _) (Below.refl _ _).drew, HG.out.2.1.drew⟩
    have hMG : Hid (M < g) := HG.out.2.2.2
    clear HPW HG
    go_upto_region 2 with fail
    refine wp_region_noPanic ?_
    refine wp_region_till (fun u => Bx u M 50 SD ∧ Bx u g 64 TD ∧ PolI LB n m C p q u ∧ Below M w u) 8 (by kernel_rfl) (by decide) (by decide +kernel) (by decide +kernel) (by decide +kernel) (fun inv => ?_)
    refine till_at 0 14 (.agg TD.toArray) inv rfl rfl (by decide) (by decide +kernel) (by decide +kernel) (fun _ _ _ h => h) hS0 (yieldsIf_load_mid (by rfl) 64 (.tmp 5) rfl g 0 rfl TD _ (fun u hu => hu.2.1.range) Tryd.underlying64 rfl hi7) (fun inv' => ?_)
    clear inv; have inv := inv'; clear inv'
    try simp only [List.setIfInBounds_toArray, List.set_cons_zero, List.set_cons_succ]
    refine till_at 1 15 (.int .i64 (ix : Nat)) inv rfl rfl (by decide) (by decide +kernel) (by decide +kernel) (fun _ _ _ h => h) hS0 (Or.inl ⟨by rfl, fun w' hS' => by obtain ⟨k0, k1, k2⟩ := HSC.out _ hS'.1; go_simp⟩) (fun inv' => ?_)
    clear inv; have inv := inv'; clear inv'
    try simp only [List.setIfInBounds_toArray, List.set_cons_zero, List.set_cons_succ]
    refine till_at 2 16 (.int .u8 (ix : Nat)) inv rfl rfl (by decide) (by decide +kernel) (by decide +kernel) (fun _ _ _ h => h) hS0 (Or.inl ⟨by rfl, fun w' hS' => by obtain ⟨k0, k1, k2⟩ := HSC.out _ hS'.1; go_simp⟩) (fun inv' => ?_)
    clear inv; have inv := inv'; clear inv'
    try simp only [List.setIfInBounds_toArray, List.set_cons_zero, List.set_cons_succ]
    refine till_at 3 17 (.pointer (some ⟨M, 2, none⟩)) inv rfl rfl (by decide) (by decide +kernel) (by decide +kernel) (fun _ _ _ h => h) hS0 (Or.inl ⟨by rfl, fun w' hS' => by obtain ⟨k0, k1, k2⟩ := HSC.out _ hS'.1; go_simp⟩) (fun inv' => ?_)
    clear inv; have inv := inv'; clear inv'
    try simp only [List.setIfInBounds_toArray, List.set_cons_zero, List.set_cons_succ]
    refine till_at 4 18 (.slice (some ⟨LB, 0, none⟩) n lc) inv rfl rfl (by decide) (by decide +kernel) (by decide +kernel) (fun _ _ _ h => h) hS0 (Or.inl ⟨by rfl, fun w' hS' => by obtain ⟨k0, k1, k2⟩ := HSC.out _ hS'.1; go_simp⟩) (fun inv' => ?_)
    clear inv; have inv := inv'; clear inv'
    try simp only [List.setIfInBounds_toArray, List.set_cons_zero, List.set_cons_succ]
    refine till_head (i := 5) inv (by decide +kernel) (by decide) rfl (fun KK hK => ?_)
    go_simp
    refine (H37.out _ hS0.2.2.1).mono ?_
    intro e4 w4 h4
    obtain ⟨vb, rfl, h5, h6, h7⟩ := h4.out
    have hS1 : Bx w4 M 50 SD ∧ Bx w4 g 64 TD ∧ PolI LB n m C p q w4 ∧ Below M w w4 := ⟨hS0.1.below h7, hS0.2.1.below h7, hS0.2.2.1.below (Nat.le_refl _) h7, hS0.2.2.2.trans (h7.mono (Nat.le_of_lt hS0.1.lt))⟩
    have HV5 : Hid (Bx w4 vb 5 (fc VS)) := h6
    clear h4 h5 h6 h7
    go_wp2_with fail
    refine hK.out _ _ (hS1) (fun inv' => ?_)
    clear hK KK inv; have inv := inv'; clear inv'
    try simp only [List.setIfInBounds_toArray, List.set_cons_zero, List.set_cons_succ]
    refine till_head (i := 6) inv (by decide +kernel) (by decide) rfl (fun KK hK => ?_)
    go_simp
    refine (H36.out _ vb n HV5.out).mono ?_
    intro e5 w5 h4
    obtain ⟨gr, rfl, h5, ⟨hd, hhd, h6⟩, h7⟩ := h4.out
    have hS2 : Bx w5 M 50 SD ∧ Bx w5 g 64 TD ∧ PolI LB n m C p q w5 ∧ Below M w w5 := ⟨hS1.1.below h7, hS1.2.1.below h7, hS1.2.2.1.below (Nat.le_refl _) h7, hS1.2.2.2.trans (h7.mono (Nat.le_of_lt hS1.1.lt))⟩
    have HFU : Hid (hd ++ codeL hd = FU) := by show _ = _; rw [HFF.out, hhd]; rfl
    rw [HFU.out] at h6
    have HR5 : Hid (Bx w5 gr 5 (fc FU)) := h6
    clear h4 h5 h6 h7 hhd HFU
    go_wp2_with fail
    refine hK.out _ _ (hS2) (fun inv' => ?_)
    clear hK KK inv; have inv := inv'; clear inv'
    try simp only [List.setIfInBounds_toArray, List.set_cons_zero, List.set_cons_succ]
    refine till_head (i := 7) inv (by decide +kernel) (by decide) rfl (fun KK hK => ?_)
    go_simp
    refine (H35.out _ gr HR5.out).mono ?_
    intro e6 w6 h4
    obtain ⟨rfl, h7⟩ := h4.out
    have hS3 : Bx w6 M 50 SD ∧ Bx w6 g 64 TD ∧ PolI LB n m C p q w6 ∧ Below M w w6 := ⟨hS2.1.below h7, hS2.2.1.below h7, hS2.2.2.1.below (Nat.le_refl _) h7, hS2.2.2.2.trans (h7.mono (Nat.le_of_lt hS2.1.lt))⟩
    clear h4 h7
    go_wp2_with fail
    refine hK.out _ _ (hS3) (fun inv' => ?_)
    clear hK KK inv; have inv := inv'; clear inv'
    try simp only [List.setIfInBounds_toArray, List.set_cons_zero, List.set_cons_succ]
    refine till_tail (i := 8) (by decide +kernel) (by decide) rfl (fun KK hK => ?_)
    rw [if_pos (by rfl)]
    go_simp
    refine hK.out _ _ ?_
    clear hK KK
    try simp only [List.setIfInBounds_toArray, List.set_cons_zero, List.set_cons_succ]
    refine till_done (by decide +kernel) ?_ _
    refine NoPanic.normal ?_
    go_wp2
    go_ret
    exact ⟨rfl, by rw [HMM.out]; exact hS3.2.2.2⟩
end Go.Proofs.YtinmhgackihakaaDoor
namespace Go.Proofs.YtinmhgackihakaaDoor
open Go.RowKit
set_option linter.unusedVariables false
set_option linter.unusedSimpArgs false
set_option maxRecDepth 100000
theorem parts2_later (w : World) (x y : Value) (ys zs : List Int) (t : TypeId) (hx : View w x ys) (hy : View w y zs) (u : World) (g : Nat) (hu : Below (w.heap.size + 1) (w.alloc (.cells #[x, y] t)) u) (hg : w.heap.size + 1 ≤ g) : Parts u g (.slice (some ⟨w.heap.size, 0, none⟩) 2 2) [ys, zs] := by
  have hk : ∀ b, b < w.heap.size → u.heap[b]? = w.heap[b]? := fun b hb => (hu.block b (by omega)).trans (Below.heap_alloc w _ b hb)
  have hc : ∀ i v, (#[x, y] : Array Value)[i]? = some v → u.cell? ⟨w.heap.size, i, none⟩ = some v := fun i v e => by
    rw [World.cell?_of_block (w := w.alloc (.cells #[x, y] t)) (hu.block _ (by simp))]
    rw [World.cell?_alloc_at _ _ _ _ rfl]; exact e
  refine ⟨_, 2, rfl, by simp, by simp [maxLen], .inr ⟨w.heap.size, 0, rfl, by omega, fun i hi => ?_⟩⟩
  have hi' : i < 2 := by simpa using hi
  match i, hi' with
  | 0, _ => exact ⟨x, hc 0 x rfl, hx.kept hk, fun hne b' off l c e => by have := view_lt hx hne b' off l c e; omega⟩
  | 1, _ => exact ⟨y, hc 1 y rfl, hy.kept hk, fun hne b' off l c e => by have := view_lt hy hne b' off l c e; omega⟩
set_option maxHeartbeats 1600000 in
/-- A secret's check. -/
theorem check_ok (sn b off n c : Nat) (b0 b1 : F) (l : List F) (w : World) (hs : Hid (b0.1 * 256 + b1.1 = sn)) (hl : l.length = n) (hn : n ≤ 4000) (hc : n ≤ c ∧ c ≤ maxLen) (h : Rw w b off l) (hT : Tables w) :
    Calls Tryd.prog 27 #[.int .u16 (sn : Nat), .slice (some ⟨b, off, none⟩) n c] w fun e w' => Hid (∃ g, e = .returned (.slice (some ⟨g, 0, none⟩) 4 32) ∧ w.heap.size ≤ g ∧ Rw w' g 0 (ckL b0 b1 l) ∧ Below w.heap.size w w') := by
  have HV : Hid (View w (.slice (some ⟨b, off, none⟩) n c) (zi l)) := rw_view h hl hc.1 hc.2
  have HN : Hid (l.length = n ∧ n ≤ 4000) := ⟨hl, hn⟩
  have HT : Hid (Tables w) := hT
  obtain ⟨M, HMM⟩ : ∃ M, Hid (w.heap.size = M) := ⟨_, rfl⟩
  have H49 : Hid (∀ u, Calls Tryd.prog 39 #[.int .u16 (sn : Nat)] u fun e w' => Hid (e = .returned (.slice (some ⟨u.heap.size, 0, none⟩) 2 2) ∧ Bx w' u.heap.size 5 (fc [b0, b1]) ∧ Below u.heap.size u w')) := fun u => twob_ok sn b0 b1 hs u
  have hcc : Hid (n ≤ c ∧ c ≤ maxLen) := hc
  clear hl hn h hT hc
  go_enter Tryd.func27, Tryd.ntmps27
  go_upto_region 2 with (first
    | (go_at_call 39; refine (H49.out _).mono ?_; intro e4 w4 h4; obtain ⟨rfl, h5, h6⟩ := h4.out; have HC4 : Hid (View w4 (.slice (some ⟨w.heap.size, 0, none⟩) 2 2) (zi [b0, b1]) ∧ View w4 (.slice (some ⟨b, off, none⟩) n c) (zi l) ∧ Below w.heap.size w w4) := ⟨rw_view (bx_rw h5) rfl (by omega) (by unfold maxLen; omega), HV.out.kept (fun k hk => h6.block k hk), h6⟩; clear h4 h5 h6 H49)
    | (go_at_call 38; refine (dsum 256 [zi [b0, b1], zi l] _ _ (.inr (.inl rfl)) (fun u g hu hg => parts2_later w4 _ _ _ _ 23 HC4.out.1 HC4.out.2.1 u g (by simpa using hu) (by simpa using hg)) (HT.out.below (HC4.out.2.2.trans ((Below.refl _ _).alloc HC4.out.2.2.size _)) HT.out.size) (by show _ ≤ _; have := HN.out; simp [zi_len]; omega)).mono ?_; rintro e5 w5 ⟨g, rfl, ho, hb⟩; have H5 : Hid (w5.ownsRow (w4.heap.size + 1) 5 1 (.slice (some ⟨g, 0, none⟩) 32 32) 32 (cellsU8 (sumD 256 (zi ([b0, b1] ++ l)))) ∧ Below w.heap.size w w5 ∧ w.heap.size ≤ w4.heap.size) := ⟨by have q := ho; rw [World.size_alloc] at q; simp only [List.flatten_cons, List.flatten_nil, List.append_nil] at q; rw [← zi_app] at q; exact q, HC4.out.2.2.trans (((Below.refl _ _).alloc HC4.out.2.2.size _).trans (hb.mono (by have := HC4.out.2.2.size; simp; omega))), HC4.out.2.2.size⟩; clear ho hb)
    | fail)
  simp only [show szOf 256 = 32 from rfl]
  clear HC4
  go_wp2
  go_ret
  refine ⟨g, rfl, ?_, fun i hi => ?_, H5.out.2.1⟩
  · rcases H5.out.1.2 with ⟨q, _⟩ | ⟨g', c', cur, q, q1, _⟩
    · cases q
    · injection q with q; injection q with q; injection q with q; have := H5.out.2.2; omega
  · rw [ck_len] at hi
    have hc := H5.out.1.cells (g := g) rfl i _ (by unfold cellsU8; rw [List.getElem?_map, List.getElem?_eq_getElem (by rw [sumD_length 256 (.inr (.inl rfl))]; exact Nat.lt_trans hi (by decide))]; rfl)
    rw [Addr.add_lit] at hc
    rw [hc, ck_at b0 b1 l i hi, List.getD_eq_getElem?_getD, List.getElem?_eq_getElem (by rw [sumD_length 256 (.inr (.inl rfl))]; exact Nat.lt_trans hi (by decide))]
    rfl
end Go.Proofs.YtinmhgackihakaaDoor
namespace Go.Proofs.YtinmhgackihakaaDoor
open Go.RowKit
set_option linter.unusedVariables false
set_option linter.unusedSimpArgs false
set_option maxRecDepth 100000
theorem Tryd.info60q : (Tryd.prog.info? 60).map (fun i => (i.zero, i.size, i.bytes)) = some (some .nilFunc, 1, 8) := by kernel_rfl
theorem Tryd.und50 : Tryd.prog.underlying 48 = some (.slice 60) := by kernel_rfl
def fV (p : Nat → Nat) (j : Nat) : Value := .func (.func 40) #[] #[.pointer (some ⟨p j, 0, none⟩)]
def Z52 : List Value := [.int .u16 0, .int .i64 0, .slice none 0 0]
/-- A sharing that is being made: its box, its polynomials, the row. -/
structure NsI (M SB rg sn nd s : Nat) (C : Nat → List F) (rowC : List Value) (w u : World) (i : Nat) (v : Value) (p q : Nat → Nat) : Prop where
  res : Bx u M 50 Z52
  box : Bx u SB 50 [.int .u16 (sn : Nat), .int .i64 (nd : Nat), v]
  own : u.ownsRow M 60 1 v i ((List.range i).map (fV p))
  pol : ∀ j, j < i → (∃ c, Bx u (p j) 23 [.slice (some ⟨q j, 0, none⟩) nd c]) ∧ Bx u (q j) 5 (fc (C j)) ∧ (C j).length = nd
  row : Bx u rg 5 rowC
  bel : Below M w u
  lt : M < SB ∧ M < rg
theorem NsI.below {M SB rg sn nd s : Nat} {C : Nat → List F} {rowC : List Value} {w u v2 : World} {i : Nat} {v : Value} {p q : Nat → Nat} (h : NsI M SB rg sn nd s C rowC w u i v p q) (hb : Below u.heap.size u v2) : NsI M SB rg sn nd s C rowC w v2 i v p q :=
  ⟨h.res.below hb, h.box.below hb, own_below h.own hb, fun j hj => by obtain ⟨⟨c, h1⟩, h2, h3⟩ := h.pol j hj; exact ⟨⟨c, h1.below hb⟩, h2.below hb, h3⟩, h.row.below hb, h.bel.trans (hb.mono (Nat.le_of_lt h.res.lt)), h.lt⟩
theorem bx_apart {u v : World} {rv : Value} {M t t2 n : Nat} {xs cs : List Value} {b : Nat} (ho : u.ownsRow M t2 1 rv n xs) (hg : u.grownBy v rv.ownBlock) (ht : t ≠ t2) (hb : Bx u b t cs) : Bx v b t cs := by
  refine hb.keep (hg.block b hb.lt fun e => ?_)
  rcases ho.2 with ⟨q, _⟩ | ⟨g', cap, cur, q, _, q3, _⟩
  · rw [q] at e; cases e
  · rw [q] at e
    injection e with e
    subst e
    unfold Bx at hb
    rw [q3] at hb
    injection hb with hb
    injection hb with _ hb _
    exact ht hb.symm
/-- One more polynomial. -/
theorem NsI.more {M SB rg sn nd s : Nat} {C : Nat → List F} {rowC : List Value} {w u w1 w2 w3 : World} {i : Nat} {v v3 : Value} {p q : Nat → Nat} {pb qb c : Nat} (h : NsI M SB rg sn nd s C rowC w u i v p q)
    (hb : Below u.heap.size u w1) (hp : Bx w1 pb 23 [.slice (some ⟨qb, 0, none⟩) nd c]) (hq : Bx w1 qb 5 (fc (C i))) (hl : (C i).length = nd)
    (hown : w2.ownsRow M 60 1 v3 (i + 1) ((List.range i).map (fV p) ++ [.func (.func 40) #[] #[.pointer (some ⟨pb, 0, none⟩)]])) (hgr : w1.grownBy w2 v.ownBlock)
    (hx : Bx w3 SB 50 [.int .u16 (sn : Nat), .int .i64 (nd : Nat), v3]) (hgs : w2.grownBy w3 (some SB)) :
    NsI M SB rg sn nd s C rowC w w3 (i + 1) v3 (fun j => if j = i then pb else p j) (fun j => if j = i then qb else q j) := by
  have h1 := h.below hb
  have k2 : ∀ {b t cs}, t ≠ 60 → Bx w1 b t cs → Bx w2 b t cs := fun ht hx => bx_apart h1.own hgr ht hx
  have hs2 : Bx w2 SB 50 [.int .u16 (sn : Nat), .int .i64 (nd : Nat), v] := k2 (by decide) h1.box
  have k3 : ∀ {b t cs}, t ≠ 60 → b ≠ SB → Bx w1 b t cs → Bx w3 b t cs := fun ht hn hx => (k2 ht hx).keep (hgs.block _ (k2 ht hx).lt (fun e => hn (by injection e)))
  have ne : ∀ {b t cs}, t ≠ 50 → Bx w1 b t cs → b ≠ SB := fun ht hz e => by
    have hb1 := h1.box
    rw [e] at hz
    unfold Bx at hz hb1
    rw [hb1] at hz
    injection hz with hz
    injection hz with _ hz _
    exact ht hz.symm
  have hM1 : M ≤ w1.heap.size := Nat.le_of_lt h1.res.lt
  refine ⟨k3 (by decide) (Nat.ne_of_lt h.lt.1) h1.res, hx, ?_, fun j hj => ?_, k3 (by decide) (ne (by decide) h1.row) h1.row, ?_, h.lt⟩
  · have e : (List.range (i + 1)).map (fV (fun j => if j = i then pb else p j)) = (List.range i).map (fV p) ++ [.func (.func 40) #[] #[.pointer (some ⟨pb, 0, none⟩)]] := by
      rw [List.range_succ, List.map_append]
      congr 1
      · apply List.map_congr_left
        intro j hj
        have := List.mem_range.1 hj
        unfold fV
        simp only []
        rw [if_neg (by omega)]
      · show [fV _ i] = _
        unfold fV
        simp only [if_true]
    rw [e]
    refine ⟨hown.1, ?_⟩
    rcases hown.2 with q | ⟨g, cap, cur, q, hB, hh, q3⟩
    · exact .inl q
    · refine .inr ⟨g, cap, cur, q, hB, ?_, q3⟩
      have hgl := (Array.getElem?_eq_some_iff.1 hh).1
      rw [hgs.block g hgl (fun e => ?_)]
      · exact hh
      · injection e with e
        subst e
        unfold Bx at hs2
        rw [hs2] at hh
        injection hh with hh
        injection hh with _ hh _
        exact absurd hh (by decide)
  · by_cases e2 : j = i
    · subst e2
      rw [if_pos rfl, if_pos rfl]
      exact ⟨⟨c, k3 (by decide) (ne (by decide) hp) hp⟩, k3 (by decide) (ne (by decide) hq) hq, hl⟩
    · rw [if_neg e2, if_neg e2]
      obtain ⟨⟨c', h2⟩, h3, h4⟩ := h1.pol j (by omega)
      exact ⟨⟨c', k3 (by decide) (ne (by decide) h2) h2⟩, k3 (by decide) (ne (by decide) h3) h3, h4⟩
  · refine h1.bel.trans ?_
    have q2 : Below M w1 w2 := ⟨hgr.os, hgr.tape, hgr.output, hgr.size, fun k hk => hgr.block k (by omega) (fun e => by
      rcases h1.own.2 with ⟨q, _⟩ | ⟨g', cap, cur, q, q2, q3, _⟩
      · rw [q] at e; cases e
      · rw [q] at e; simp [Value.ownBlock] at e; omega)⟩
    exact q2.trans (below_gb hgs (Nat.le_trans hM1 hgr.size) (Nat.le_of_lt h.lt.1))
theorem NsI.fin {M SB rg sn nd s : Nat} {C : Nat → List F} {rowC : List Value} {w u : World} {n : Nat} {v : Value} {p q : Nat → Nat} (h : NsI M SB rg sn nd s C rowC w u n v p q) (hn : 1 ≤ n) : ∃ LB lc, v = .slice (some ⟨LB, 0, none⟩) n lc ∧ Hid (∀ v2, u.grownBy v2 (some M) → PolI LB n nd C p q v2 ∧ Below M w v2) := by
  have ho := h.own
  have hm : ∀ {b t cs}, t ≠ 50 → Bx u b t cs → b ≠ M := fun ht hz e => by
    have hb1 := h.res
    rw [e] at hz
    unfold Bx at hz hb1
    rw [hb1] at hz
    injection hz with hz
    injection hz with _ hz _
    exact ht hz.symm
  rcases h.own.2 with ⟨_, e⟩ | ⟨g, cap, cur, rfl, hB, hh, h3, h4, h5, h6⟩
  · omega
  · refine ⟨g, cap, rfl, fun v2 hv => ⟨⟨fun i hi => ?_, fun i hi => ?_, fun i hi => ?_⟩, h.bel.trans (below_gb hv (Nat.le_of_lt h.res.lt) (Nat.le_refl _))⟩⟩
    · have hc := ho.cells (g := g) rfl i (fV p i) (by rw [List.getElem?_map, List.getElem?_range hi]; rfl)
      rw [Addr.add_lit, Nat.zero_add] at hc
      have hgM : g ≠ M := fun e => by
        have hb1 := h.res
        rw [e] at hh
        unfold Bx at hb1
        rw [hb1] at hh
        injection hh with hh
        injection hh with _ hh _
        exact absurd hh (by decide)
      rw [World.cell?_of_block (w := u) (hv.block g (Array.getElem?_eq_some_iff.1 hh).1 (fun e => hgM (by injection e)))]
      exact hc
    · obtain ⟨⟨c, h1⟩, _⟩ := h.pol i hi
      exact ⟨c, (h1.keep (hv.block _ h1.lt (fun e => hm (by decide) h1 (by injection e)))).cell 0 _ rfl⟩
    · obtain ⟨_, h2, h3⟩ := h.pol i hi
      exact ⟨bx_rw (h2.keep (hv.block _ h2.lt (fun e => hm (by decide) h2 (by injection e)))), h3⟩
end Go.Proofs.YtinmhgackihakaaDoor
namespace Go.Proofs.YtinmhgackihakaaDoor
open Go.RowKit
set_option linter.unusedVariables false
set_option linter.unusedSimpArgs false
set_option maxRecDepth 100000
theorem rw_cells {w : World} {g : Nat} {l : List F} (h : Rw w g 0 l) : ∀ (j : Nat) (u : Value), (fc l)[j]? = some u → w.cell? ((⟨g, 0, none⟩ : Addr).add j) = some u := fun j u hu => by
  have hj : j < l.length := by have := (List.getElem?_eq_some_iff.1 hu).1; rw [fc_len] at this; exact this
  rw [fc_at l j hj] at hu
  injection hu with hu
  rw [← hu, Addr.add_lit]
  exact h j hj
/-- A sharing that is made. -/
def NewSQ (sn nd n : Nat) (C : Nat → List F) (w : World) (e : Ending) (w' : World) : Prop := ∃ LB lc p q, e = .returned (.agg #[.int .u16 (sn : Nat), .int .i64 (nd : Nat), .slice (some ⟨LB, 0, none⟩) n lc]) ∧ PolI LB n nd C p q w' ∧ Below w.heap.size w w'
set_option maxHeartbeats 3200000 in
/-- newSharing. -/
theorem newS_ok (sn nd s b off c : Nat) (ra : Option Addr) (rn rc : Nat) (b0 b1 : F) (l R : List F) (w : World) (hs : Hid (b0.1 * 256 + b1.1 = sn)) (hl : Hid (l.length = s ∧ 1 ≤ s ∧ s ≤ 64)) (hnd : Hid (1 ≤ nd ∧ nd ≤ 16)) (hc : Hid (s ≤ c ∧ c ≤ maxLen)) (h : Hid (Rw w b off l))
    (hR : Hid (R.length = (nd - 1) * (s + 4) ∧ rn = R.length)) (hRw : Hid (∀ i, i < R.length → ∃ rb ro, ra = some ⟨rb, ro, none⟩ ∧ w.cell? ⟨rb, ro + i, none⟩ = some (.int .u8 ((R.getD i 0).1 : Nat)))) (hT : Hid (Tables w)) :
    Calls Tryd.prog 17 #[.int .u16 (sn : Nat), .slice (some ⟨b, off, none⟩) s c, .int .i64 (nd : Nat), .slice ra rn rc] w fun e w' => NewSQ sn nd (s + 4) (cfL R (rowS b0 b1 l) (s + 4) nd) w e w' := by
  obtain ⟨i0, hi0, hz0, hz1, hz2⟩ := info_parts Tryd.infoB
  have HI0 : Hid (Tryd.prog.info? 5 = some i0 ∧ i0.zero = some (.int .u8 0) ∧ i0.size = 1 ∧ i0.bytes = 1) := ⟨hi0, hz0, hz1, hz2⟩
  obtain ⟨i6, hi0', hz0', hz1', hz2'⟩ := info_parts Tryd.info60q
  have HI6 : Hid (Tryd.prog.info? 60 = some i6 ∧ i6.zero = some .nilFunc ∧ i6.size = 1 ∧ i6.bytes = 8) := ⟨hi0', hz0', hz1', hz2'⟩
  clear hi0 hz0 hz1 hz2 hi0' hz0' hz1' hz2'
  have HMF : Hid (i0.bytes * nd ≤ 281474976710656 ∧ nd ≤ maxLen) := made_few i0.bytes nd nd 1 (by decide) HI0.out.2.2.2 (by have := hnd.out; omega)
  obtain ⟨ROW, HRO⟩ : ∃ q : List F, Hid (q = rowS b0 b1 l) := ⟨rowS b0 b1 l, show _ = _ from rfl⟩
  obtain ⟨n, HNN⟩ : ∃ n : Nat, Hid (n = s + 4) := ⟨_, show _ = _ from rfl⟩
  have HRL : Hid (ROW.length = n ∧ ROW = l ++ ckL b0 b1 l) := by
    show _ ∧ _
    rw [HRO.out, HNN.out, rowS_len, hl.out.1]
    exact ⟨rfl, rfl⟩
  rw [← HRO.out, ← HNN.out]
  have HSZ : Hid (n ≤ 68 ∧ 5 ≤ n ∧ R.length = (nd - 1) * n ∧ rn = R.length) := ⟨by have := HNN.out; have := hl.out; omega, by have := HNN.out; have := hl.out; omega, by rw [HNN.out]; exact hR.out.1, hR.out.2⟩
  obtain ⟨M, HMM⟩ : ∃ M, Hid (w.heap.size = M) := ⟨_, rfl⟩
  go_enter Tryd.func17, Tryd.ntmps17
  go_upto_region 2 with fail
  obtain ⟨w2, hw2⟩ : ∃ u, u = (w.alloc (.cells #[.int .u16 0, .int .i64 0, .slice none 0 0] 50)).alloc (.cells #[.int .u16 (sn : Nat), .int .i64 (nd : Nat), .slice none 0 0] 50) := ⟨_, rfl⟩
  have HW2 : Hid (Bx w2 M 50 Z52 ∧ Bx w2 (M + 1) 50 [.int .u16 (sn : Nat), .int .i64 (nd : Nat), .slice none 0 0] ∧ Below M w w2 ∧ w2.heap.size = M + 2) := by
    have ha : Below w.heap.size w (w.alloc (.cells #[.int .u16 0, .int .i64 0, .slice none 0 0] 50)) := (Below.refl _ _).alloc (Nat.le_refl _) _
    have hb1 : Below (M + 1) (w.alloc (.cells #[.int .u16 0, .int .i64 0, .slice none 0 0] 50)) w2 := by rw [hw2, ← HMM.out]; exact (Below.refl _ _).alloc (by simp) _
    refine ⟨?_, ?_, ?_, by rw [hw2, ← HMM.out]; simp⟩
    · have q := Bx.new w 50 Z52
      rw [HMM.out] at q
      exact q.below (by rw [World.size_alloc, HMM.out]; exact hb1)
    · have q := Bx.new (w.alloc (.cells #[.int .u16 0, .int .i64 0, .slice none 0 0] 50)) 50 [.int .u16 (sn : Nat), .int .i64 (nd : Nat), .slice none 0 0]
      rw [World.size_alloc, HMM.out] at q
      rw [hw2]; exact q
    · rw [HMM.out] at ha
      exact ha.trans (hb1.mono (Nat.le_succ _))
  rw [← hw2, HMM.out]
  clear hw2
  have HL2 : Hid (Rw w2 b off l ∧ Tables w2) := ⟨h.out.below (by rw [HMM.out]; exact HW2.out.2.2.1), hT.out.below (by rw [← HMM.out] at HW2; exact HW2.out.2.2.1) hT.out.size⟩
  have H31 : Hid (Calls Tryd.prog 26 #[.slice (some ⟨b, off, none⟩) s c] w2 fun e w' => Hid (∃ v, e = .returned v ∧ w'.ownsRow w2.heap.size 5 1 v s (fc l) ∧ Below w2.heap.size w2 w')) := bclone_ok b off s c l w2 hl.out.1 hl.out.2.1 (by have := hl.out; omega) HL2.out.1
  have H32 : Hid (∀ u, Below w2.heap.size w2 u → Calls Tryd.prog 27 #[.int .u16 (sn : Nat), .slice (some ⟨b, off, none⟩) s c] u fun e w' => Hid (∃ g, e = .returned (.slice (some ⟨g, 0, none⟩) 4 32) ∧ u.heap.size ≤ g ∧ Rw w' g 0 (ckL b0 b1 l) ∧ Below u.heap.size u w')) := fun u hu => check_ok sn b off s c b0 b1 l u hs hl.out.1 (by have := hl.out; omega) hc.out (HL2.out.1.below hu) (HL2.out.2.below hu HL2.out.2.size)
  go_upto_region 3 with (first
    | (go_at_call 26; refine H31.out.mono ?_; intro e3 w3 h3; obtain ⟨v3, rfl, h4, h5⟩ := h3.out; have HC3 : Hid (w3.ownsRow w2.heap.size 5 1 v3 s (fc l) ∧ Below w2.heap.size w2 w3) := ⟨h4, h5⟩; clear h3 h4 h5 H31)
    | (go_at_call 27; refine (H32.out _ HC3.out.2).mono ?_; intro e4 w4 h3; obtain ⟨g4, rfl, h4, h5, h6⟩ := h3.out; have HC4 : Hid (w4.ownsRow w2.heap.size 5 1 v3 s (fc l) ∧ Below w2.heap.size w2 w4 ∧ Rw w4 g4 0 (ckL b0 b1 l)) := ⟨own_below HC3.out.1 h6, HC3.out.2.trans (h6.mono HC3.out.2.size), h5⟩; clear h3 h4 h5 h6 H32)
    | (at_builtin; go_must (refine wpList_append_own _ rfl (.tmp 19) (.tmp 22) 23 rfl w2.heap.size 5 i0 (.int .u8 0) 1 1 Tryd.underlying23 HI0.out.1 HI0.out.2.1 HI0.out.2.2.1 HI0.out.2.2.2 rfl (by decide) _ s _ rfl HC4.out.1 ⟨g4, 0, none⟩ 4 32 (fc (ckL b0 b1 l)) rfl (by rw [fc_len, ck_len]) (rw_cells HC4.out.2.2) (fc_one _) (by have := hl.out; unfold maxLen; omega) (by have := hl.out; omega) HC4.out.2.1.size ?_; intro v5 w5 hown hgrow hnil; have H5 : Hid (w5.ownsRow w2.heap.size 5 1 v5 n (fc ROW) ∧ Below w2.heap.size w2 w5) := ⟨by rw [HRL.out.2, fc_apps, HNN.out]; exact hown, HC4.out.2.1.grown hgrow HC4.out.2.1.size (fun q hq => (HC4.out.1.lt q hq).1)⟩; clear hown hgrow hnil))
    | fail)
  clear HC3 HC4
  obtain ⟨rg, rcp, rfl, HG5⟩ := own_rx (l := ROW) (by rw [HRL.out.1]; exact H5.out.1) (by rw [HRL.out.1]; have := HSZ.out; omega)
  rw [HRL.out.1]
  obtain ⟨rowC, HRC⟩ : ∃ rowC, Hid (NsI M (M + 1) rg sn nd s (cfL R ROW n nd) rowC w w5 0 (.slice none 0 0) (fun _ => 0) (fun _ => 0) ∧ ∀ i, i < n → rowC[i]? = some (.int .u8 ((ROW.getD i 0).1 : Nat))) := by
    obtain ⟨sp, hsp⟩ := HG5.out.1
    refine ⟨fc ROW ++ sp, ⟨HW2.out.1.below H5.out.2, HW2.out.2.1.below H5.out.2, World.ownsRow_nil _ _ _ _, fun j hj => absurd hj (Nat.not_lt_zero _), hsp, HW2.out.2.2.1.trans (H5.out.2.mono (by have := HW2.out.2.2.2; omega)), ?_⟩, fun i hi => ?_⟩
    · have := HG5.out.2
      have := HW2.out.2.2.2
      omega
    · rw [List.getElem?_append_left (by rw [fc_len, HRL.out.1]; exact hi), fc_at _ _ (by rw [HRL.out.1]; exact hi)]
  have HRW : Hid (∀ u, Below M w u → ∀ i, i < R.length → ∃ rb ro, ra = some ⟨rb, ro, none⟩ ∧ u.cell? ⟨rb, ro + i, none⟩ = some (.int .u8 ((R.getD i 0).1 : Nat))) := fun u hu i hi => by
    obtain ⟨rb, ro, e, hcell⟩ := hRw.out i hi
    exact ⟨rb, ro, e, (hu.cell (by rw [← HMM.out]; exact World.block_lt_of_cell? _ _ hcell)).trans hcell⟩
  clear H5 HG5 HW2 HL2
  go_wp2
  go_loopw [26] (fun vi wr => ∃ (i : Nat) (v : Value) (p q : Nat → Nat), i ≤ n ∧ vi = .int .i64 (i : Nat) ∧ Hid (NsI M (M + 1) rg sn nd s (cfL R ROW n nd) rowC w wr i v p q)) (fun vi _ => n - (intOf vi).toNat)
  case atStart => exact ⟨0, _, _, _, by omega, rfl, HRC.out.1⟩
  case round =>
    obtain ⟨i, v, p, q, hi, rfl, HI⟩ := hrel
    rename World => wo
    by_cases hlt : i < n
    · obtain ⟨X0, HX0⟩ : ∃ X0 : F, Hid (ROW.getD i 0 = X0) := ⟨_, rfl⟩
      have c0 : wo.cell? ⟨rg, i, none⟩ = some (.int .u8 (X0.1 : Nat)) := by rw [← HX0.out]; exact HI.out.row.cell i _ (HRC.out.2 i hlt)
      have g0 : (0 : Int) ≤ (i : Int) := by omega
      have g1 : (i : Int) < (n : Int) := by omega
      have hnd' : nd ≤ 16 ∧ 1 ≤ nd := ⟨hnd.out.2, hnd.out.1⟩
      obtain ⟨G, HG⟩ : ∃ G : Nat → F, Hid (G = fun t => if t + 1 < nd then R.getD ((nd - 2 - t) * n + i) 0 else ROW.getD i 0) := ⟨fun t => if t + 1 < nd then R.getD ((nd - 2 - t) * n + i) 0 else ROW.getD i 0, show _ = _ from rfl⟩
      have HCF : Hid ((List.range nd).map G = cfL R ROW n nd i) := by show _ = _; rw [HG.out]; rfl
      obtain ⟨g, HBB⟩ : ∃ g, Hid (wo.heap.size = g) := ⟨_, rfl⟩
      go_upto_region 7 with (first
        | (at_make; go_must (refine wpList_make_full _ rfl _ _ 23 rfl wo.heap.size 5 i0 (.int .u8 0) 1 Tryd.underlying23 HI0.out.1 HI0.out.2.1 HI0.out.2.2.1 .i64 .i64 (nd : Nat) (nd : Nat) nd rfl rfl rfl rfl HMF.out.1 HMF.out.2 (Nat.le_refl _) ?_; intro w6 hown hgrow; have hlo : Below wo.heap.size wo w6 := ⟨hgrow.os, hgrow.tape, hgrow.output, hgrow.size, fun c hc => hgrow.block c hc (by simp)⟩; have HX6 : Hid ((∃ cu, Bx w6 g 5 cu ∧ Cd nd (fun _ => False) G cu) ∧ Below g wo w6) := (by rw [← HBB.out]; exact ⟨⟨_, (own_full1 hown).1, by rw [show (Value.int .u8 0).cells = #[.int .u8 0] from rfl, Nat.mul_one, toList_madeCells_one]; exact Cd.zero nd G⟩, hlo⟩); clear hown hgrow hlo)))
      rw [HBB.out]
      go_wp2
      go_loopw [14] (fun vj wx => ∃ k j1 : Nat, k + 1 ≤ nd ∧ vj = .int .i64 (j1 : Nat) ∧ Hid (j1 = k + 1) ∧ Hid ((∃ cu, Bx wx g 5 cu ∧ Cd nd (fun t => nd - 1 - k ≤ t ∧ t + 1 < nd) G cu) ∧ Below g wo wx)) (fun vj _ => nd - (intOf vj).toNat)
      case atStart => exact ⟨0, 1, by omega, rfl, rfl, by obtain ⟨⟨cu, h1, h2⟩, h3⟩ := HX6.out; exact ⟨⟨cu, h1, h2.1, fun t ht hd => by omega, h2.2.2⟩, h3⟩⟩
      case round =>
        obtain ⟨k, j1, hk, rfl, HJ1, HK⟩ := hrel
        clear HX6
        by_cases hkl : k + 1 < nd
        · obtain ⟨⟨cu, hcu, hC⟩, hbl⟩ := HK.out
          have hin : k * n + i < R.length := by
            rw [HSZ.out.2.2.1]
            have h1 : (k + 1) * n ≤ (nd - 1) * n := Nat.mul_le_mul_right n (by omega)
            rw [Nat.succ_mul] at h1
            omega
          have hlen : R.length ≤ 1020 := by
            rw [HSZ.out.2.2.1]
            have h1 : (nd - 1) * n ≤ 15 * 68 := Nat.mul_le_mul (by omega) HSZ.out.1
            omega
          obtain ⟨rb, ro, rfl, hcell⟩ := HRW.out wr (HI.out.bel.trans (hbl.mono (by have := HI.out.res.lt; have := HBB.out; omega))) (k * n + i) hin
          obtain ⟨Y, HY⟩ : ∃ Y : F, Hid (R.getD (k * n + i) 0 = Y) := ⟨_, rfl⟩
          rw [HY.out] at hcell
          obtain ⟨t, HTT⟩ : ∃ t, Hid (t = nd - 2 - k) := ⟨nd - 2 - k, show _ = _ from rfl⟩
          have ht : t + k + 2 = nd := by have := HTT.out; omega
          have HGT : Hid (G t = Y) := by
            show _ = _
            rw [HG.out]
            simp only []
            rw [if_pos (by omega), show nd - 2 - t = k by omega]
            exact HY.out
          obtain ⟨y, hy⟩ := hC.2.2 t (by omega)
          have c1 : wr.cell? ⟨g, t, none⟩ = some (.int .u8 y) := hcu.cell t _ hy
          have f1 : wr.frozen? ⟨g, t, none⟩ = false := hcu.frozen t
          obtain ⟨j, HJ⟩ : ∃ j, Hid (j = k * n + i) := ⟨k * n + i, show _ = _ from rfl⟩
          rw [← HJ.out] at hcell hin
          obtain ⟨a1, HA1⟩ : ∃ a1, Hid (a1 = t + k + 1) := ⟨t + k + 1, show _ = _ from rfl⟩
          obtain ⟨kn, HKN⟩ : ∃ kn, Hid (kn = k * n) := ⟨k * n, show _ = _ from rfl⟩
          obtain ⟨j2, HJ2⟩ : ∃ j2, Hid (j2 = j1 + 1) := ⟨j1 + 1, show _ = _ from rfl⟩
          have HQ : Hid (a1 = t + k + 1 ∧ j1 = k + 1 ∧ nd = t + k + 2 ∧ nd ≤ 16 ∧ j = kn + i ∧ j < R.length ∧ R.length ≤ 1020 ∧ rn = R.length ∧ j2 = j1 + 1) := ⟨HA1.out, HJ1.out, by omega, hnd'.1, by rw [HKN.out]; exact HJ.out, hin, hlen, HSZ.out.2.2.2, HJ2.out⟩
          have HKM : Hid (((k : Nat) : Int) * ((n : Nat) : Int) = ((kn : Nat) : Int)) := by show _ = _; rw [HKN.out]; exact (Int.natCast_mul k n).symm
          have x1 : IntKind.i64.wrap ((nd : Int) - 1) = (a1 : Int) := by rw [IntKind.wrap_i64]; have := HQ.out; omega
          have x2 : IntKind.i64.wrap ((a1 : Int) - (j1 : Int)) = (t : Int) := by rw [IntKind.wrap_i64]; have := HQ.out; omega
          have x3 : IntKind.i64.wrap ((j1 : Int) - 1) = (k : Int) := by rw [IntKind.wrap_i64]; have := HQ.out; omega
          have x4 : IntKind.i64.wrap ((k : Int) * (n : Int)) = (kn : Int) := by rw [HKM.out, IntKind.wrap_i64]; have := HQ.out; omega
          have x5 : IntKind.i64.wrap ((kn : Int) + (i : Int)) = (j : Int) := by rw [IntKind.wrap_i64]; have := HQ.out; omega
          have x6 : IntKind.i64.wrap ((j1 : Int) + 1) = (j2 : Int) := by rw [IntKind.wrap_i64]; have := HQ.out; omega
          have y1 : (j1 : Int) < (nd : Int) := by have := HQ.out; omega
          have y2 : (0 : Int) ≤ (j : Int) := by omega
          have y3 : (j : Int) < (rn : Int) := by have := HQ.out; omega
          have y4 : (0 : Int) ≤ (t : Int) := by omega
          have y5 : (t : Int) < (nd : Int) := by have := HQ.out; omega
          have HN2 : Hid ((∃ cu, Bx (wr.setCell ⟨g, t, none⟩ (.int .u8 (Y.1 : Nat))) g 5 cu ∧ Cd nd (fun t => nd - 1 - (k + 1) ≤ t ∧ t + 1 < nd) G cu) ∧ Below g wo (wr.setCell ⟨g, t, none⟩ (.int .u8 (Y.1 : Nat)))) :=
            ⟨⟨_, hcu.set t _, by rw [← HGT.out]; exact hC.next (by omega) (fun q hq => by have := HTT.out; omega)⟩, hbl.setCell (Nat.le_refl _) _⟩
          clear hC hcu hbl HK hin hlen hk hkl ht hnd'
          go_wp2
          go_roundw
          case rel => exact ⟨k + 1, j2, by have := HQ.out; omega, by go_num, by rw [HJ2.out, HJ1.out]; rfl, HN2.out⟩
          case measure => simp [intOf]; have := HQ.out; omega
        · obtain ⟨⟨cu, hcu, hC⟩, hbl⟩ := HK.out
          have hj9 : k + 1 = nd := by omega
          obtain ⟨y, hy⟩ := hC.2.2 k (by omega)
          have c1 : wr.cell? ⟨g, k, none⟩ = some (.int .u8 y) := hcu.cell k _ hy
          have f1 : wr.frozen? ⟨g, k, none⟩ = false := hcu.frozen k
          have HGT : Hid (G k = X0) := by
            show _ = _
            rw [HG.out]
            simp only []
            rw [if_neg (by omega)]
            exact HX0.out
          have HQ : Hid (nd = k + 1 ∧ nd ≤ 16 ∧ j1 = k + 1) := ⟨hj9.symm, hnd'.1, HJ1.out⟩
          have x1 : IntKind.i64.wrap ((nd : Int) - 1) = (k : Int) := by rw [IntKind.wrap_i64]; have := HQ.out; omega
          have y1 : ¬ (j1 : Int) < (nd : Int) := by have := HQ.out; omega
          have y4 : (0 : Int) ≤ (k : Int) := by omega
          have y5 : (k : Int) < (nd : Int) := by have := HQ.out; omega
          obtain ⟨wz, Hwz⟩ : ∃ u, u = wr.setCell ⟨g, k, none⟩ (.int .u8 (X0.1 : Nat)) := ⟨_, rfl⟩
          have HFZ : Hid (Bx wz g 5 (fc (cfL R ROW n nd i)) ∧ Below g wo wz ∧ NsI M (M + 1) rg sn nd s (cfL R ROW n nd) rowC w wz i v p q) := by
            have hb : Below g wo wz := by rw [Hwz]; exact hbl.setCell (Nat.le_refl _) _
            refine ⟨?_, hb, HI.out.below (by rw [HBB.out]; exact hb)⟩
            have q1 := hcu.set k (.int .u8 (X0.1 : Nat))
            rw [← HGT.out, (hC.next (D' := fun q => q < nd) (k := k) (by omega) (fun q hq => by omega)).all (fun _ hq => hq), HCF.out, HGT.out, ← Hwz] at q1
            exact q1
          have HNX : Hid (i + 1 ≤ n ∧ n ≤ 68 ∧ wo.heap.size = g) := ⟨by omega, HSZ.out.1, HBB.out⟩
          clear hC hcu hbl HK hk hkl hj9 hnd' hlt hi HX0 c0
          go_upto_region 12 with fail
          rw [← Hwz]
          clear Hwz c1 f1 x1 y1 y4 y5
          obtain ⟨va, vc, rfl⟩ : ∃ va vc, v = .slice va i vc := by
            rcases HFZ.out.2.2.own.2 with ⟨q, q0⟩ | ⟨g', cap, cur, q, _⟩
            · exact ⟨none, 0, by rw [q, q0]⟩
            · exact ⟨_, _, q⟩
          have hS0 : Bx wz.drew (M + 1) 50 [.int .u16 (sn : Nat), .int .i64 (nd : Nat), .slice va i vc] := HFZ.out.2.2.box.keep rfl
          have HFD : Hid (NsI M (M + 1) rg sn nd s (cfL R ROW n nd) rowC w wz.drew i (.slice va i vc) p q ∧ Bx wz.drew g 5 (fc (cfL R ROW n nd i)) ∧ Below g wo wz.drew) := ⟨HFZ.out.2.2.below ((Below.refl _ _).drew), HFZ.out.1.keep rfl, HFZ.out.2.1.drew⟩
          clear HFZ
          refine wp_region_noPanic ?_
          refine wp_region_till (fun u => Bx u (M + 1) 50 [.int .u16 (sn : Nat), .int .i64 (nd : Nat), .slice va i vc]) 6 (by kernel_rfl) (by decide) (by decide +kernel) (by decide +kernel) (by decide +kernel) (fun inv => ?_)
          refine till_at 0 59 (.pointer (some ⟨M + 1, 2, none⟩)) inv rfl rfl (by decide) (by decide +kernel) (by decide +kernel) (fun _ _ _ h => h) hS0 (Or.inl ⟨by rfl, fun w' hS' => by have k2 := hS'.cell 2 _ rfl; go_simp⟩) (fun inv' => ?_)
          clear inv; have inv := inv'; clear inv'
          try simp only [List.setIfInBounds_toArray, List.set_cons_zero, List.set_cons_succ]
          refine till_at 1 60 (.slice va i vc) inv rfl rfl (by decide) (by decide +kernel) (by decide +kernel) (fun _ _ _ h => h) hS0 (Or.inl ⟨by rfl, fun w' hS' => by have k2 := hS'.cell 2 _ rfl; go_simp⟩) (fun inv' => ?_)
          clear inv; have inv := inv'; clear inv'
          try simp only [List.setIfInBounds_toArray, List.set_cons_zero, List.set_cons_succ]
          refine till_at 2 61 (.slice (some ⟨g, 0, none⟩) nd nd) inv rfl rfl (by decide) (by decide +kernel) (by decide +kernel) (fun _ _ _ h => h) hS0 (Or.inl ⟨by rfl, fun w' hS' => by have k2 := hS'.cell 2 _ rfl; go_simp⟩) (fun inv' => ?_)
          clear inv; have inv := inv'; clear inv'
          try simp only [List.setIfInBounds_toArray, List.set_cons_zero, List.set_cons_succ]
          refine till_head (i := 3) inv (by decide +kernel) (by decide) rfl (fun KK hK => ?_)
          go_simp
          refine (withC_ok (.slice (some ⟨g, 0, none⟩) nd nd) ⟨_, _, _, rfl⟩ _).mono ?_
          intro e8 w8 h8
          obtain ⟨rfl, h9, h10⟩ := h8.out
          have hS1 : Bx w8 (M + 1) 50 [.int .u16 (sn : Nat), .int .i64 (nd : Nat), .slice va i vc] := hS0.below h10
          obtain ⟨pb, HPB⟩ : ∃ pb, Hid (wz.drew.heap.size = pb) := ⟨_, rfl⟩
          have HF8 : Hid (NsI M (M + 1) rg sn nd s (cfL R ROW n nd) rowC w w8 i (.slice va i vc) p q ∧ Bx w8 g 5 (fc (cfL R ROW n nd i)) ∧ Below g wo w8 ∧ Bx w8 pb 23 [.slice (some ⟨g, 0, none⟩) nd nd]) := ⟨HFD.out.1.below h10, HFD.out.2.1.below h10, HFD.out.2.2.trans (h10.mono (Nat.le_of_lt HFD.out.2.1.lt)), by rw [HPB.out] at h9; exact h9⟩
          rw [HPB.out]
          clear h8 h9 h10
          go_wp2_with fail
          refine hK.out _ _ (hS1) (fun inv' => ?_)
          clear hK KK inv; have inv := inv'; clear inv'
          try simp only [List.setIfInBounds_toArray, List.set_cons_zero, List.set_cons_succ]
          refine till_head (i := 4) inv (by decide +kernel) (by decide) rfl (fun KK hK => ?_)
          go_simp
          obtain ⟨wa, hwa⟩ : ∃ u, u = w8.alloc (.cells #[.func (.func 40) #[] #[.pointer (some ⟨pb, 0, none⟩)]] 60) := ⟨_, rfl⟩
          have HFA : Hid (NsI M (M + 1) rg sn nd s (cfL R ROW n nd) rowC w wa i (.slice va i vc) p q ∧ Bx wa g 5 (fc (cfL R ROW n nd i)) ∧ Below g wo wa ∧ Bx wa pb 23 [.slice (some ⟨g, 0, none⟩) nd nd] ∧ (∀ j u, [Value.func (.func 40) #[] #[.pointer (some ⟨pb, 0, none⟩)]][j]? = some u → wa.cell? ((⟨w8.heap.size, 0, none⟩ : Addr).add j) = some u)) := by
            have hb : Below w8.heap.size w8 wa := by rw [hwa]; exact (Below.refl _ _).alloc (Nat.le_refl _) _
            refine ⟨HF8.out.1.below hb, HF8.out.2.1.below hb, HF8.out.2.2.1.trans (hb.mono (Nat.le_of_lt HF8.out.2.1.lt)), HF8.out.2.2.2.below hb, ?_⟩
            rw [hwa]
            exact World.news_of_block (cs := #[.func (.func 40) #[] #[.pointer (some ⟨pb, 0, none⟩)]]) (heap_alloc_new w8 _)
          try rw [← hwa]
          have hS2 : Bx wa (M + 1) 50 [.int .u16 (sn : Nat), .int .i64 (nd : Nat), .slice va i vc] := HFA.out.1.box
          clear hwa HF8
          refine hK.out _ _ (hS2) (fun inv' => ?_)
          clear hK KK inv; have inv := inv'; clear inv'
          try simp only [List.setIfInBounds_toArray, List.set_cons_zero, List.set_cons_succ]
          refine till_head (i := 5) inv (by decide +kernel) (by decide) rfl (fun KK hK => ?_)
          refine step_append_lies wa rfl (.tmp 60) (.tmp 63) 48 rfl M 60 i6 .nilFunc 1 8 Tryd.und50 HI6.out.1 HI6.out.2.1 HI6.out.2.2.1 HI6.out.2.2.2 rfl (by decide) (.slice va i vc) i ((List.range i).map (fV p)) rfl HFA.out.1.own ⟨w8.heap.size, 0, none⟩ 1 1 [.func (.func 40) #[] #[.pointer (some ⟨pb, 0, none⟩)]] rfl rfl HFA.out.2.2.2.2 (by intro x hx; simp at hx; subst hx; rfl) (by decide) (by have := HNX.out; unfold maxLen; omega) (by have := HNX.out; omega) (Nat.le_of_lt HFA.out.1.res.lt) _ rfl ?_
          intro gv cv w9 hown hgrow hgv hgl
          have HAP : Hid (w9.ownsRow M 60 1 (.slice (some ⟨gv, 0, none⟩) (i + 1) cv) (i + 1) ((List.range i).map (fV p) ++ [.func (.func 40) #[] #[.pointer (some ⟨pb, 0, none⟩)]]) ∧ wa.grownBy w9 (Value.slice va i vc).ownBlock) := ⟨hown, hgrow⟩
          have hS3 : Bx w9 (M + 1) 50 [.int .u16 (sn : Nat), .int .i64 (nd : Nat), .slice va i vc] := bx_apart HFA.out.1.own HAP.out.2 (by decide) hS2
          clear hown hgrow hgv hgl
          refine hK.out _ _ (hS3) (fun inv' => ?_)
          clear hK KK inv; have inv := inv'; clear inv'
          try simp only [List.setIfInBounds_toArray, List.set_cons_zero, List.set_cons_succ]
          refine till_tail (i := 6) (by decide +kernel) (by decide) rfl (fun KK hK => ?_)
          rw [if_pos (by rfl)]
          go_simp
          refine hK.out _ _ ?_
          clear hK KK
          try simp only [List.setIfInBounds_toArray, List.set_cons_zero, List.set_cons_succ]
          refine till_tail (i := 7) (by decide +kernel) (by decide) rfl (fun KK hK => ?_)
          rw [if_pos (by rfl)]
          have c2 := hS3.cell 2 _ rfl
          have f2 := hS3.frozen 2
          go_simp
          refine hK.out _ _ ?_
          clear hK KK
          try simp only [List.setIfInBounds_toArray, List.set_cons_zero, List.set_cons_succ]
          refine till_done (by decide +kernel) ?_ _
          refine NoPanic.normal ?_
          have HNS : Hid (NsI M (M + 1) rg sn nd s (cfL R ROW n nd) rowC w (w9.setCell ⟨M + 1, 2, none⟩ (.slice (some ⟨gv, 0, none⟩) (i + 1) cv)) (i + 1) (.slice (some ⟨gv, 0, none⟩) (i + 1) cv) (fun j => if j = i then pb else p j) (fun j => if j = i then g else q j)) :=
            HFA.out.1.more (Below.refl _ _) HFA.out.2.2.2.1 HFA.out.2.1 (cfL_len _ _ _ _ _) HAP.out.1 HAP.out.2 (hS3.set 2 _) (set_gb _ _ _ _)
          generalize w9.setCell ⟨M + 1, 2, none⟩ (.slice (some ⟨gv, 0, none⟩) (i + 1) cv) = w10 at HNS ⊢
          have x1 : IntKind.i64.wrap ((i : Int) + 1) = ((i + 1 : Nat) : Int) := by rw [IntKind.wrap_i64]; have := HNX.out; omega
          clear hS0 hS1 hS2 hS3 HFA HAP HFD
          go_wp2
          go_roundw
          case rel => exact ⟨i + 1, _, _, _, HNX.out.1, by go_num, HNS.out⟩
          case measure => simp [intOf]; have := HNX.out; omega
    · have hin : i = n := by omega
      subst hin
      have g1 : ¬ (i : Int) < (i : Int) := by omega
      obtain ⟨LB, lc, rfl, HFN⟩ := HI.out.fin (by have := HSZ.out; omega)
      have HBX : Hid (Bx wo (M + 1) 50 [.int .u16 (sn : Nat), .int .i64 (nd : Nat), .slice (some ⟨LB, 0, none⟩) i lc] ∧ Bx wo M 50 Z52) := ⟨HI.out.box, HI.out.res⟩
      have hi5 : (Tryd.prog.info? 50).map (·.size) = some 3 := by kernel_rfl
      obtain ⟨LL, HLL⟩ : ∃ q : List Value, Hid (q = [.int .u16 (sn : Nat), .int .i64 (nd : Nat), .slice (some ⟨LB, 0, none⟩) i lc]) := ⟨_, show _ = _ from rfl⟩
      have HLN : Hid (LL.length = 3 ∧ ∀ v ∈ LL, v.oneCell' = true) := by rw [HLL.out]; refine ⟨rfl, fun v hv => ?_⟩; simp at hv; rcases hv with rfl | rfl | rfl <;> rfl
      rw [← HLL.out] at HBX
      have hi7 : (Tryd.prog.info? 50).map (·.size) = some LL.length := by rw [HLN.out.1]; exact hi5
      clear HRC HRW HI
      go_wp2_with (first
        | (refine wpList_load_mid (by rfl) 50 (.tmp 9) (by rfl) (M + 1) 0 (by rfl) LL _ HBX.out.1.range Tryd.underlying50 rfl hi7 ?_)
        | (refine wpList_store_bx (by rfl) 50 (.tmp 8) (.tmp 67) (by rfl) Z52 LL M (by rfl) (by rfl) HBX.out.2 (by rw [HLN.out.1]; rfl) hi7 HLN.out.2 ?_; intro u9 hb9 hg9))
      refine ret_array (b := M) LL rfl rfl hb9.range Tryd.underlying50 rfl hi7 ?_
      obtain ⟨p1, p2⟩ := HFN.out u9 hg9
      exact ⟨LB, lc, p, q, by rw [HLL.out], p1, by rw [HMM.out]; exact p2⟩
end Go.Proofs.YtinmhgackihakaaDoor
namespace Go.Proofs.YtinmhgackihakaaDoor
open Go.RowKit
set_option linter.unusedVariables false
set_option linter.unusedSimpArgs false
set_option maxRecDepth 100000
theorem Tryd.infoT9 : (Tryd.prog.info? 9).map (fun i => (i.zero, i.size, i.bytes)) = some (some (.string ⟨#[]⟩), 1, 16) := by kernel_rfl
/-- A number as a byte; a share's line; lines as cells. -/
def fN (k : Nat) : F := ⟨k % 256, Nat.mod_lt _ (by decide)⟩
theorem fN_val (k : Nat) (h : k < 256) : (fN k).1 = k := Nat.mod_eq_of_lt h
def lineT (b0 b1 bn bs : F) (s : Nat) (R row : List F) (n nd i : Nat) : ByteArray := WLs (fullL b0 b1 bn (fN (i + 1)) bs s (valsL R row n nd (fN (i + 1))))
def tcs (T : Nat → ByteArray) (n : Nat) : List Value := (List.range n).map fun i => Value.string (T i)
theorem tcs_len (T : Nat → ByteArray) (n : Nat) : (tcs T n).length = n := by simp [tcs]
theorem tcs_at (T : Nat → ByteArray) (n i : Nat) (h : i < n) : (tcs T n)[i]? = some (.string (T i)) := by simp [tcs, h]
theorem tcs_succ (T : Nat → ByteArray) (n : Nat) : tcs T (n + 1) = tcs T n ++ [.string (T n)] := by simp [tcs, List.range_succ]
theorem tcs_one (T : Nat → ByteArray) (n : Nat) : ∀ v ∈ tcs T n, v.oneCell' = true := fun v hv => by
  obtain ⟨i, _, rfl⟩ := List.mem_map.1 hv
  rfl
/-- A list of texts of which the first ones are filled in. -/
def Td (n i : Nat) (T : Nat → ByteArray) (cu : List Value) : Prop := cu.length = n ∧ (∀ j, j < i → cu[j]? = some (.string (T j))) ∧ ∀ j, j < n → ∃ x, cu[j]? = some (.string x)
theorem Td.next {n i : Nat} {T : Nat → ByteArray} {cu : List Value} (h : Td n i T cu) (hi : i < n) : Td n (i + 1) T (cu.set i (.string (T i))) := by
  refine ⟨by rw [List.length_set]; exact h.1, fun j hj => ?_, fun j hj => ?_⟩
  · by_cases e : i = j
    · subst e; rw [List.getElem?_set_self (by rw [h.1]; exact hi)]
    · rw [List.getElem?_set_ne e]; exact h.2.1 j (by omega)
  · by_cases e : i = j
    · subst e; rw [List.getElem?_set_self (by rw [h.1]; exact hi)]; exact ⟨_, rfl⟩
    · rw [List.getElem?_set_ne e]; exact h.2.2 j hj
theorem Td.all {n : Nat} {T : Nat → ByteArray} {cu : List Value} (h : Td n n T cu) : cu = tcs T n := by
  refine List.ext_getElem? fun i => ?_
  by_cases hi : i < n
  · rw [h.2.1 i hi, tcs_at T n i hi]
  · rw [List.getElem?_eq_none (by rw [h.1]; omega), List.getElem?_eq_none (by rw [tcs_len]; omega)]
theorem Td.zero (n : Nat) (T : Nat → ByteArray) : Td n 0 T (List.replicate n (.string ⟨#[]⟩)) :=
  ⟨by simp, fun i h => absurd h (Nat.not_lt_zero i), fun i hi => ⟨⟨#[]⟩, by simp [hi]⟩⟩
theorem rnd_eq (s nd r : Nat) (h1 : 1 ≤ s ∧ s ≤ 64) (h2 : 1 ≤ nd ∧ nd ≤ 16) (h : r = (nd - 1) * (s + 4)) : rnd (nd : Nat) (s : Nat) = (r : Nat) := by
  unfold rnd
  rw [if_pos (by omega), h, Int.natCast_mul]
  congr 1
  omega
theorem may_zero (s nd ct : Nat) (h1 : 1 ≤ s ∧ s ≤ 64) (h2 : 1 ≤ nd ∧ nd ≤ 16 ∧ nd ≤ ct ∧ ct ≤ 255) : mayN (s : Nat) (nd : Nat) (ct : Nat) = 0 := by
  unfold mayN
  rw [if_pos (by omega), if_pos (by omega)]
set_option maxHeartbeats 3200000 in
/-- Deal, of what may be shared. -/
theorem deal_good (sn nd ct s b off c : Nat) (ra : Option Addr) (rn rc : Nat) (b0 b1 bn bs : F) (l R : List F) (w : World) (hs : Hid (b0.1 * 256 + b1.1 = sn)) (hl : Hid (l.length = s ∧ 1 ≤ s ∧ s ≤ 64)) (hnd : Hid (1 ≤ nd ∧ nd ≤ 16 ∧ nd ≤ ct ∧ ct ≤ 255)) (hbn : Hid (bn.1 = nd)) (hbs : Hid (bs.1 = s)) (hc : Hid (s ≤ c ∧ c ≤ maxLen)) (h : Hid (Rw w b off l))
    (hR : Hid (R.length = (nd - 1) * (s + 4) ∧ rn = R.length)) (hRw : Hid (∀ i, i < R.length → ∃ rb ro, ra = some ⟨rb, ro, none⟩ ∧ w.cell? ⟨rb, ro + i, none⟩ = some (.int .u8 ((R.getD i 0).1 : Nat)))) (hT : Hid (Tables w)) :
    Calls Tryd.prog 9 #[.int .u16 (sn : Nat), .slice (some ⟨b, off, none⟩) s c, .int .i64 (nd : Nat), .int .i64 (ct : Nat), .slice ra rn rc] w fun e w' => Hid (∃ g, e = .returned (.tuple #[.slice (some ⟨g, 0, none⟩) ct ct, .int .i64 0]) ∧ w.heap.size ≤ g ∧ Bx w' g 9 (tcs (lineT b0 b1 bn bs s R (rowS b0 b1 l) (s + 4) nd) ct) ∧ Below w.heap.size w w') := by
  obtain ⟨n, HNN⟩ : ∃ n : Nat, Hid (n = s + 4) := ⟨_, show _ = _ from rfl⟩
  obtain ⟨M, HMM⟩ : ∃ M, Hid (w.heap.size = M) := ⟨_, rfl⟩
  obtain ⟨T, HTT⟩ : ∃ T : Nat → ByteArray, Hid (T = lineT b0 b1 bn bs s R (rowS b0 b1 l) n nd) := ⟨_, show _ = _ from rfl⟩
  obtain ⟨i9, hi9, hz9, hs9, hb9⟩ := info_parts Tryd.infoT9
  have HI9 : Hid (Tryd.prog.info? 9 = some i9 ∧ i9.zero = some (.string ⟨#[]⟩) ∧ i9.size = 1 ∧ i9.bytes = 16) := ⟨hi9, hz9, hs9, hb9⟩
  clear hi9 hz9 hs9 hb9
  have HMF : Hid (i9.bytes * ct ≤ 281474976710656 ∧ ct ≤ maxLen) := made_few i9.bytes ct ct 16 (by decide) HI9.out.2.2.2 (by have := hnd.out; omega)
  have H21 : Hid (∀ u, Calls Tryd.prog 15 #[.slice (some ⟨b, off, none⟩) s c, .int .i64 (nd : Nat), .int .i64 (ct : Nat)] u fun e w' => e = .returned (.int .i64 0) ∧ w' = u) := fun u => by
    have q := refusal_ok (some ⟨b, off, none⟩) s c (nd : Int) (ct : Int) u
    rw [may_zero s nd ct hl.out.2 hnd.out] at q
    exact q
  have H9 : Hid (∀ u, Calls Tryd.prog 16 #[.int .i64 (nd : Nat), .int .i64 (s : Nat)] u fun e w' => e = .returned (.int .i64 (rn : Nat)) ∧ w' = u) := fun u => by
    have q := random_ok (nd : Int) (s : Int) u
    rw [rnd_eq s nd rn hl.out.2 ⟨hnd.out.1, hnd.out.2.1⟩ (hR.out.2.trans hR.out.1)] at q
    exact q
  have H22 : Hid (Calls Tryd.prog 17 #[.int .u16 (sn : Nat), .slice (some ⟨b, off, none⟩) s c, .int .i64 (nd : Nat), .slice ra rn rc] w fun e w' => Hid (NewSQ sn nd n (cfL R (rowS b0 b1 l) n nd) w e w')) := by
    rw [HNN.out]
    exact newS_ok sn nd s b off c ra rn rc b0 b1 l R w hs hl (show _ ∧ _ from ⟨hnd.out.1, hnd.out.2.1⟩) hc h hR hRw hT
  rw [← HNN.out, ← HTT.out]
  obtain ⟨C, HC⟩ : ∃ C : Nat → List F, Hid (C = cfL R (rowS b0 b1 l) n nd) := ⟨_, show _ = _ from rfl⟩
  rw [← HC.out] at H22
  have hi52 : (Tryd.prog.info? 50).map (·.size) = some 3 := by kernel_rfl
  rw [HMM.out]
  go_enter Tryd.func9, Tryd.ntmps9
  go_upto_region 6 with (first
    | (go_at_call 15; refine (H21.out _).mono ?_; rintro e1 w1 ⟨rfl, hw1⟩; obtain rfl := hw1.symm; clear hw1)
    | (go_at_call 16; refine (H9.out _).mono ?_; rintro e1 w1 ⟨rfl, hw1⟩; obtain rfl := hw1.symm; clear hw1)
    | fail)
  go_upto_region 7 with (first
    | (go_at_call 17; refine H22.out.mono ?_; intro e2 w2 h2; obtain ⟨LB, lc, p, q, rfl, h3, h4⟩ := h2.out; have H2 : Hid (PolI LB n nd C p q w2 ∧ Below M w w2) := ⟨h3, by rw [← HMM.out]; exact h4⟩; clear h2 h3 h4 H22)
    | (refine wpList_store_bx (by rfl) 50 (.tmp 13) (.tmp 34) (by rfl) Z52 [.int .u16 (sn : Nat), .int .i64 (nd : Nat), .slice (some ⟨LB, 0, none⟩) n lc] w2.heap.size (by rfl) (by rfl) (Bx.new w2 50 Z52) (by rfl) hi52 (by intro v hv; simp at hv; rcases hv with rfl | rfl | rfl <;> rfl) ?_; intro w3 h3 h4; have H3 : Hid (Bx w3 w2.heap.size 50 [.int .u16 (sn : Nat), .int .i64 (nd : Nat), .slice (some ⟨LB, 0, none⟩) n lc] ∧ PolI LB n nd C p q w3 ∧ Below M w w3) := (by
        have hz : w2.heap.size < (w2.alloc (.cells Z52.toArray 50)).heap.size := by simp
        have hb : Below w2.heap.size w2 w3 := ((Below.refl _ _).alloc (Nat.le_refl _) _).trans (below_gb h4 (by simp) (Nat.le_refl _))
        exact ⟨h3, H2.out.1.below (Nat.le_refl _) hb, H2.out.2.trans (hb.mono (bel_size H2.out.2 HMM.out))⟩); clear h3 h4 H2)
    | fail)
  obtain ⟨SB, HSB⟩ : ∃ q, Hid (w2.heap.size = q) := ⟨_, rfl⟩
  rw [HSB.out] at H3 ⊢
  clear HSB
  obtain ⟨G, HG⟩ : ∃ q, Hid (w3.heap.size = q) := ⟨_, rfl⟩
  go_upto_region 8 with (first
    | (at_make; go_must (refine wpList_make_full _ rfl _ _ 26 rfl w3.heap.size 9 i9 (.string ⟨#[]⟩) 1 Tryd.underlying26 HI9.out.1 HI9.out.2.1 HI9.out.2.2.1 .i64 .i64 (ct : Nat) (ct : Nat) ct rfl rfl rfl rfl HMF.out.1 HMF.out.2 (Nat.le_refl _) ?_; intro w4 hown hgrow; have hlo : Below w3.heap.size w3 w4 := ⟨hgrow.os, hgrow.tape, hgrow.output, hgrow.size, fun c hc => hgrow.block c hc (by simp)⟩; have H4 : Hid ((∃ cu, Bx w4 G 9 cu ∧ Td ct 0 T cu) ∧ Below G w3 w4) := (by rw [← HG.out]; exact ⟨⟨_, (own_full1 hown).1, by rw [show (Value.string ⟨#[]⟩).cells = #[.string ⟨#[]⟩] from rfl, Nat.mul_one, toList_madeCells_one]; exact Td.zero ct T⟩, hlo⟩); clear hown hgrow hlo))
    | fail)
  rw [HG.out]
  have HK : Hid (SB < G ∧ M ≤ G ∧ n ≤ 1000 ∧ unc s + 4 = unc s + 4) := ⟨by rw [← HG.out]; exact H3.out.1.lt, by rw [← HG.out]; exact bel_size H3.out.2.2 HMM.out, by have := hl.out; have := HNN.out; omega, rfl⟩
  have H23 : Hid (∀ u i, i < ct → PolI LB n nd C p q u → Calls Tryd.prog 18 #[.agg #[.int .u16 (sn : Nat), .int .i64 (nd : Nat), .slice (some ⟨LB, 0, none⟩) n lc], .int .i64 ((i + 1 : Nat) : Int)] u fun e w' => Hid (e = .returned (.string (T i)) ∧ Below u.heap.size u w')) := fun u i hi hp => by
    have h255 := hnd.out
    have q := line_ok sn nd (i + 1) s n nd (unc s) (unc s + 4) LB lc b0 b1 bn (fN (i + 1)) bs C p q u hs hbn (fN_val (i + 1) (by omega)) hbs (show _ ∧ _ ∧ _ ∧ _ from ⟨rfl, rfl, HNN.out, by omega⟩) hp
    rw [HTT.out]
    unfold lineT valsL
    rw [HC.out] at q
    exact q
  go_wp2
  go_loopw [39] (fun vi wr => ∃ i : Nat, i ≤ ct ∧ vi = .int .i64 (i : Nat) ∧ Hid ((∃ cu, Bx wr G 9 cu ∧ Td ct i T cu) ∧ Below G w3 wr)) (fun vi _ => ct - (intOf vi).toNat)
  case atStart => exact ⟨0, by omega, rfl, H4.out⟩
  case round =>
    obtain ⟨i, hi, rfl, HI⟩ := hrel
    clear H4
    by_cases hlt : i < ct
    · obtain ⟨⟨cu, hcu, hC⟩, hbl⟩ := HI.out
      have g1 : (i : Int) < (ct : Int) := by omega
      have g0 : (0 : Int) ≤ (i : Int) := by omega
      obtain ⟨i1, HI1⟩ : ∃ q, Hid (q = i + 1) := ⟨i + 1, show _ = _ from rfl⟩
      have x1 : IntKind.i64.wrap ((i : Int) + 1) = (i1 : Int) := by rw [IntKind.wrap_i64]; have := HI1.out; have := hnd.out; omega
      have HSX : Hid (∀ u, Below G w3 u → Bx u SB 50 [.int .u16 (sn : Nat), .int .i64 (nd : Nat), .slice (some ⟨LB, 0, none⟩) n lc] ∧ PolI LB n nd C p q u) := fun u hu => ⟨H3.out.1.keep (hu.block SB HK.out.1), H3.out.2.1.below (Nat.le_of_eq HG.out) hu⟩
      have HCU : Hid (Bx wr G 9 cu ∧ Td ct i T cu ∧ Below G w3 wr) := ⟨hcu, hC, hbl⟩
      have HLT : Hid (i < ct) := hlt
      have HRG : Hid (wr.rangeAt SB 0 [.int .u16 (sn : Nat), .int .i64 (nd : Nat), .slice (some ⟨LB, 0, none⟩) n lc]) := ((HSX.out wr hbl).1).range
      have H23i : Hid (Calls Tryd.prog 18 #[.agg #[.int .u16 (sn : Nat), .int .i64 (nd : Nat), .slice (some ⟨LB, 0, none⟩) n lc], .int .i64 (i1 : Int)] wr fun e w' => Hid (e = .returned (.string (T i)) ∧ Below wr.heap.size wr w')) := by rw [HI1.out]; exact H23.out wr i hlt (HSX.out wr hbl).2
      clear HI hcu hC hbl hlt hi
      go_wp2_with (first
        | (refine wpList_load_mid (by rfl) 50 (.tmp 13) (by rfl) SB 0 (by rfl) [.int .u16 (sn : Nat), .int .i64 (nd : Nat), .slice (some ⟨LB, 0, none⟩) n lc] _ HRG.out Tryd.underlying50 rfl hi52 ?_)
        | (go_at_call 18; refine H23i.out.mono ?_; intro e5 w5 h5; obtain ⟨rfl, h6⟩ := h5.out; have H5 : Hid (Bx w5 G 9 cu ∧ Below G w3 w5) := ⟨HCU.out.1.below h6, HCU.out.2.2.trans (h6.mono (Nat.le_of_lt HCU.out.1.lt))⟩; clear h5 h6; obtain ⟨z, hz⟩ := HCU.out.2.1.2.2 i HLT.out; have c1 : w5.cell? ⟨G, i, none⟩ = some (.string z) := H5.out.1.cell i _ hz; have f1 : w5.frozen? ⟨G, i, none⟩ = false := H5.out.1.frozen i; clear hz)
        | fail)
      have HN : Hid ((∃ cu, Bx (w5.setCell ⟨G, i, none⟩ (.string (T i))) G 9 cu ∧ Td ct (i + 1) T cu) ∧ Below G w3 (w5.setCell ⟨G, i, none⟩ (.string (T i)))) := ⟨⟨_, H5.out.1.set i _, HCU.out.2.1.next HLT.out⟩, H5.out.2.setCell (Nat.le_refl _) _⟩
      go_roundw
      case rel => exact ⟨i + 1, by have := HLT.out; omega, by rw [HI1.out], HN.out⟩
      case measure => simp [intOf]; have := HLT.out; have := HI1.out; omega
    · have hin : i = ct := by omega
      subst hin
      have g1 : ¬ (i : Int) < (i : Int) := by omega
      obtain ⟨⟨cu, hcu, hC⟩, hbl⟩ := HI.out
      have HF : Hid (Bx wr G 9 (tcs T i) ∧ Below M w wr) := ⟨by rw [← hC.all]; exact hcu, H3.out.2.2.trans (hbl.mono HK.out.2.1)⟩
      clear HI hcu hC hbl H3 H23
      go_wp2
      go_ret2
      exact ⟨G, rfl, HK.out.2.1, HF.out.1, HF.out.2⟩
end Go.Proofs.YtinmhgackihakaaDoor
namespace Go.Proofs.YtinmhgackihakaaDoor
open Go.RowKit
set_option linter.unusedVariables false
set_option linter.unusedSimpArgs false
set_option maxRecDepth 100000
set_option maxHeartbeats 1600000 in
theorem valuesJ_ok (b off c n : Nat) (l : List F) (w : World) (hn : l.length = n) (h5 : 5 ≤ n) (hs : (l.getD 4 0).1 + 9 ≤ n) (hc : n ≤ c) (h : Rw w b off l) : Calls Tryd.prog 49 #[.slice (some ⟨b, off, none⟩) n c] w fun e w' => Hid (e = .returned (.slice (some ⟨b, off + 5, none⟩) ((l.getD 4 0).1 + 4) (c - 5)) ∧ Below w.heap.size w w') := by
  have H16 : Hid (Calls Tryd.prog 48 #[.slice (some ⟨b, off, none⟩) n c] w fun e w' => Hid (e = .returned (.agg (tds l).toArray) ∧ Below w.heap.size w w')) := told_ok b off c n l w hn h5 h
  obtain ⟨s, HS⟩ : ∃ s : Nat, Hid ((l.getD 4 0).1 = s) := ⟨_, rfl⟩
  have h256 : s < 256 := by rw [← HS.out]; exact (l.getD 4 0).2
  rw [HS.out] at hs ⊢
  have HT : Hid (tds l = [.int .u16 (setN l : Nat), .int .i64 ((l.getD 2 0).1 : Nat), .int .i64 ((l.getD 3 0).1 : Nat), .int .i64 (s : Nat)]) := by show _ = _; unfold tds; rw [HS.out]
  rw [HT.out] at H16
  have e1 : IntKind.i64.wrap (5 + (s : Int)) = ((5 + s : Nat) : Int) := by rw [IntKind.wrap_i64]; omega
  obtain ⟨a, HA⟩ : ∃ a, Hid (5 + s = a) := ⟨_, rfl⟩
  have ha := HA.out
  rw [ha] at e1
  have e2 : IntKind.i64.wrap ((a : Int) + 4) = ((a + 4 : Nat) : Int) := by rw [IntKind.wrap_i64]; omega
  obtain ⟨m, HM⟩ : ∃ b, Hid (a + 4 = b) := ⟨_, rfl⟩
  have hm := HM.out
  rw [hm] at e2
  have g1 : (5 : Int) ≤ (m : Int) := by omega
  have g2 : (m : Int) ≤ (c : Int) := by omega
  have g3 : (0 : Int) ≤ (m : Int) := by omega
  have HE : Hid (s + 4 = m - 5) := by show _ = _; omega
  have hc5 : ¬ c = 5 := by omega
  have hf := fun w => field24 (setN l : Nat) ((l.getD 2 0).1 : Nat) ((l.getD 3 0).1 : Nat) (s : Nat) w
  generalize (l.getD 2 0).1 = v2 at H16 hf
  generalize (l.getD 3 0).1 = v3 at H16 hf
  generalize setN l = sn at H16 hf
  clear h hn h5 ha hm hs HT
  go_enter Tryd.func49, Tryd.ntmps49
  go_wp2_with (first
    | (go_at_call 48; refine H16.out.mono ?_; intro e1 w1 hh; obtain ⟨rfl, q⟩ := hh.out; have HB1 : Hid (Below w.heap.size w w1) := q; clear hh q H16))
  go_ret
  rw [HE.out]
  exact ⟨rfl, HB1.out⟩

/-- A share that was read, as cells: its row lies at q, of capacity c. -/
def shV (r : List F) (q c : Nat) : List Value := tds r ++ [.slice (some ⟨q, 5, none⟩) ((r.getD 4 0).1 + 4) (c - 5)]
theorem shV_len (r : List F) (q c : Nat) : (shV r q c).length = 5 := rfl
theorem shV_one (r : List F) (q c : Nat) : ∀ u ∈ shV r q c, u.oneCell' = true := by
  intro u hu
  simp [shV, tds] at hu
  rcases hu with rfl | rfl | rfl | rfl | rfl <;> rfl
/-- Such shares, one behind the other. -/
def flatS (L : Nat → List Value) (n : Nat) : List Value := (List.range n).flatMap L
theorem flatS_succ (L : Nat → List Value) (n : Nat) : flatS L (n + 1) = flatS L n ++ L n := by simp [flatS, List.range_succ]
theorem flatS_len (L : Nat → List Value) (h : ∀ i, (L i).length = 5) : ∀ n, (flatS L n).length = 5 * n
  | 0 => rfl
  | n + 1 => by rw [flatS_succ, List.length_append, flatS_len L h n, h n]; omega
theorem flatS_at (L : Nat → List Value) (h : ∀ i, (L i).length = 5) : ∀ n i j, i < n → j < 5 → (flatS L n)[5 * i + j]? = (L i)[j]?
  | 0, i, j, hi, _ => absurd hi (Nat.not_lt_zero i)
  | n + 1, i, j, hi, hj => by
    rw [flatS_succ]
    by_cases e : i = n
    · subst e
      rw [List.getElem?_append_right (by rw [flatS_len L h]; omega), flatS_len L h, Nat.add_sub_cancel_left]
    · rw [List.getElem?_append_left (by rw [flatS_len L h]; omega), flatS_at L h n i j (by omega) hj]
theorem flatS_congr (L L' : Nat → List Value) : ∀ n, (∀ i, i < n → L i = L' i) → flatS L n = flatS L' n
  | 0, _ => rfl
  | n + 1, h => by rw [flatS_succ, flatS_succ, flatS_congr L L' n (fun i hi => h i (by omega)), h n (by omega)]
theorem flatS_one (L : Nat → List Value) (h : ∀ i, ∀ u ∈ L i, u.oneCell' = true) (n : Nat) : ∀ u ∈ flatS L n, u.oneCell' = true := by
  intro u hu
  obtain ⟨i, _, hx⟩ := List.mem_flatMap.1 hu
  exact h i u hx
/-- Shares where they lie: from block g, place o on; each one's row at q i. -/
structure ShI (u : World) (g o n : Nat) (R : Nat → List F) (q c : Nat → Nat) : Prop where
  cells : ∀ i, i < n → u.rangeAt g (o + 5 * i) (shV (R i) (q i) (c i))
  row : ∀ i, i < n → Rx u (q i) (R i) ∧ okF (R i) ∧ (R i).length ≤ c i ∧ c i ≤ 9223372036854775807
theorem ShI.below {u v : World} {g o n : Nat} {R : Nat → List F} {q c : Nat → Nat} (h : ShI u g o n R q c) (hb : Below u.heap.size u v) : ShI v g o n R q c :=
  ⟨fun i hi j x hx => (hb.cell (World.block_lt_of_cell? _ _ (h.cells i hi j x hx))).trans (h.cells i hi j x hx), fun i hi => ⟨(h.row i hi).1.below hb, (h.row i hi).2⟩⟩
theorem ShI.part {u : World} {g o n : Nat} {R : Nat → List F} {q c : Nat → Nat} (h : ShI u g o n R q c) (m : Nat) (hm : m ≤ n) : ShI u g o m R q c ∧ ShI u g (o + 5 * m) (n - m) (fun i => R (m + i)) (fun i => q (m + i)) (fun i => c (m + i)) :=
  ⟨⟨fun i hi => h.cells i (by omega), fun i hi => h.row i (by omega)⟩, ⟨fun i hi => by have z := h.cells (m + i) (by omega); rw [show o + 5 * (m + i) = o + 5 * m + 5 * i by omega] at z; exact z, fun i hi => h.row (m + i) (by omega)⟩⟩
end Go.Proofs.YtinmhgackihakaaDoor
namespace Go.Proofs.YtinmhgackihakaaDoor
open Go.RowKit
set_option linter.unusedVariables false
set_option linter.unusedSimpArgs false
set_option maxRecDepth 100000
theorem Tryd.info78s : (Tryd.prog.info? 72).map (fun i => (i.zero, i.size, i.bytes)) = some (some (.agg #[.int .u16 0, .int .i64 0, .int .i64 0, .int .i64 0, .slice none 0 0]), 5, 56) := by kernel_rfl
open Classical in
/-- What a text is mended to, if it is a share. -/
noncomputable def gR (s : ByteArray) : List F := if h : ∃ m d, MGood s m d then h.choose else []
theorem gR_eq {s : ByteArray} {m : List F} {d : Nat} (h : MGood s m d) : gR s = m := by
  have hx : ∃ m d, MGood s m d := ⟨m, d, h⟩
  unfold gR
  rw [dif_pos hx]
  obtain ⟨d', hd⟩ := hx.choose_spec
  exact (good_only hd h).1
/-- What readShares says. -/
def RshQ (T : Nat → ByteArray) (n M : Nat) (e : Ending) (w w' : World) : Prop :=
  (((∀ i, i < n → ∃ d, MGood (T i) (gR (T i)) d) ∧ ∃ v, e = .returned (.tuple #[v, .int .i64 0]) ∧ (n = 0 ∧ (∃ a c, v = .slice a 0 c) ∨ ∃ g cp q c, v = .slice (some ⟨g, 0, none⟩) n cp ∧ n ≤ cp ∧ cp ≤ maxLen ∧ ShI w' g 0 n (fun i => gR (T i)) q c)) ∨ (∃ b k : Nat, b < n ∧ (∀ i, i < b → ∃ d, MGood (T i) (gR (T i)) d) ∧ MBad (T b) k ∧ e = .returned (.tuple #[.slice none 0 0, .int .i64 (k : Nat)]))) ∧ Below M w w'
/-- Shares that are being read. -/
structure RsI (T : Nat → ByteArray) (M : Nat) (w u : World) (i : Nat) (v : Value) (q c : Nat → Nat) : Prop where
  good : ∀ k, k < i → ∃ d, MGood (T k) (gR (T k)) d
  own : u.ownsRow M 72 5 v i (flatS (fun k => shV (gR (T k)) (q k) (c k)) i)
  row : ∀ k, k < i → Rx u (q k) (gR (T k)) ∧ okF (gR (T k)) ∧ (gR (T k)).length ≤ c k ∧ c k ≤ 9223372036854775807
  bel : Below M w u
  sz : M ≤ u.heap.size
theorem RsI.shi {T : Nat → ByteArray} {M : Nat} {w u : World} {i : Nat} {v : Value} {q c : Nat → Nat} (h : RsI T M w u i v q c) (h1 : 1 ≤ i) : ∃ g cp, v = .slice (some ⟨g, 0, none⟩) i cp ∧ i ≤ cp ∧ cp ≤ maxLen ∧ ShI u g 0 i (fun k => gR (T k)) q c := by
  rcases h.own.2 with ⟨_, e⟩ | ⟨g, cap, cur, rfl, hB, hh, h3, h4, h5, h6⟩
  · omega
  · refine ⟨g, cap, rfl, h3, h4, fun k hk j x hx => ?_, h.row⟩
    have hj : j < 5 := by have := (List.getElem?_eq_some_iff.1 hx).1; rw [shV_len] at this; exact this
    have z := h.own.cells (g := g) rfl (5 * k + j) x (by rw [flatS_at _ (fun _ => shV_len _ _ _) i k j hk hj]; exact hx)
    rw [Addr.add_lit, Nat.zero_add] at z
    rw [Nat.zero_add]
    exact z
theorem bxA {u v : World} {rv : Value} {M t t2 s n : Nat} {xs cs : List Value} {b : Nat} (ho : u.ownsRow M t2 s rv n xs) (hg : u.grownBy v rv.ownBlock) (ht : t ≠ t2) (hb : Bx u b t cs) : Bx v b t cs := by
  refine hb.keep (hg.block b hb.lt fun e => ?_)
  rcases ho.2 with ⟨q, _⟩ | ⟨g', cap, cur, q, _, q3, _⟩
  · rw [q] at e; cases e
  · rw [q] at e
    injection e with e
    subst e
    unfold Bx at hb
    rw [q3] at hb
    injection hb with hb
    injection hb with _ hb _
    exact ht hb.symm
theorem rxA {u v : World} {rv : Value} {M t2 s n : Nat} {xs : List Value} {b : Nat} {l : List F} (ho : u.ownsRow M t2 s rv n xs) (hg : u.grownBy v rv.ownBlock) (ht : 5 ≠ t2) (hb : Rx u b l) : Rx v b l := by
  obtain ⟨sp, h⟩ := hb
  exact ⟨sp, bxA ho hg ht h⟩
theorem RsI.more {T : Nat → ByteArray} {M : Nat} {w u : World} {i : Nat} {v : Value} {q c : Nat → Nat} (h : RsI T M w u i v q c) {m : List F} {d g c' : Nat} {u7 w8 : World} {v8 : Value} {o : Obj}
    (hgood : MGood (T i) m d) (hb : Below u.heap.size u u7) (hr : Rx u7 g m) (hl : m.length ≤ c' ∧ c' ≤ 9223372036854775807)
    (hown : w8.ownsRow M 72 5 v8 (i + 1) (flatS (fun k => shV (gR (T k)) (q k) (c k)) i ++ shV (gR (T i)) g c')) (hgrow : (u7.alloc o).grownBy w8 v.ownBlock) :
    RsI T M w w8 (i + 1) v8 (fun k => if k = i then g else q k) (fun k => if k = i then c' else c k) := by
  have e := gR_eq hgood
  have ho := (own_below h.own hb).alloc o
  have ha : Below u7.heap.size u7 (u7.alloc o) := (Below.refl _ _).alloc (Nat.le_refl _) _
  have hM : M ≤ u7.heap.size := Nat.le_trans h.sz hb.size
  refine ⟨fun k hk => ?_, ?_, fun k hk => ?_, ?_, Nat.le_trans hM (Nat.le_trans ha.size hgrow.size)⟩
  · by_cases e2 : k = i
    · subst e2; exact ⟨d, by rw [e]; exact hgood⟩
    · exact h.good k (by omega)
  · rw [flatS_succ]
    simp only [if_true]
    rw [flatS_congr _ (fun k => shV (gR (T k)) (q k) (c k)) i (fun k hk => by show shV (gR (T k)) (if k = i then g else q k) (if k = i then c' else c k) = _; rw [if_neg (by omega), if_neg (by omega)])]
    exact hown
  · by_cases e2 : k = i
    · subst e2
      simp only [if_true]
      rw [e]
      exact ⟨rxA ho hgrow (by decide) (hr.below ha), hgood.2.2.2.2.2.1, hl.1, hl.2⟩
    · simp only [if_neg e2]
      obtain ⟨h1, h2⟩ := h.row k (by omega)
      exact ⟨rxA ho hgrow (by decide) ((h1.below hb).below ha), h2⟩
  · exact ((h.bel.trans (hb.mono h.sz)).alloc hM _).grown hgrow (Nat.le_trans hM ha.size) (fun g hg => (ho.lt g hg).1)
theorem tds_letters (m : List F) (sn nd ix sz : Nat) (h0 : setN m = sn) (h1 : (m.getD 2 0).1 = nd) (h2 : (m.getD 3 0).1 = ix) (h3 : (m.getD 4 0).1 = sz) : (tds m).toArray = #[.int .u16 (sn : Nat), .int .i64 (nd : Nat), .int .i64 (ix : Nat), .int .i64 (sz : Nat)] := by
  unfold tds; rw [h0, h1, h2, h3]
set_option maxHeartbeats 3200000 in
/-- readShares. -/
theorem readShares_ok (a : Option Addr) (n cp : Nat) (T : Nat → ByteArray) (w : World) (hn : Hid (n ≤ 100000)) (hT : Hid (∀ i, i < n → ∃ b off, a = some ⟨b, off, none⟩ ∧ w.cell? ⟨b, off + i, none⟩ = some (.string (T i)))) :
    Calls Tryd.prog 34 #[.slice a n cp] w fun e w' => RshQ T n w.heap.size e w w' := by
  obtain ⟨M, HMM⟩ : ∃ M, Hid (w.heap.size = M) := ⟨_, rfl⟩
  obtain ⟨i8, hi8, hz8, hs8, hb8⟩ := info_parts Tryd.info78s
  have HI8 : Hid (Tryd.prog.info? 72 = some i8 ∧ i8.zero = some (.agg #[.int .u16 0, .int .i64 0, .int .i64 0, .int .i64 0, .slice none 0 0]) ∧ i8.size = 5 ∧ i8.bytes = 56) := ⟨hi8, hz8, hs8, hb8⟩
  clear hi8 hz8 hs8 hb8
  have HST : Hid (RsI T M w w 0 (.slice none 0 0) (fun _ => 0) (fun _ => 0)) := ⟨fun k hk => absurd hk (Nat.not_lt_zero k), World.ownsRow_nil _ _ _ _, fun k hk => absurd hk (Nat.not_lt_zero k), Below.refl _ _, Nat.le_of_eq HMM.out.symm⟩
  rw [HMM.out]
  go_enter Tryd.func34, Tryd.ntmps34
  go_wp2
  go_loopw [4, 12] (fun vv vi wr => ∃ (i : Nat) (q c : Nat → Nat), i ≤ n ∧ vi = .int .i64 (i : Nat) ∧ Hid (RsI T M w wr i vv q c)) (fun _ vi _ => n - (intOf vi).toNat)
  case atStart => exact ⟨0, _, _, by omega, rfl, HST.out⟩
  case round =>
    clear HST
    obtain ⟨i, q, c, hi, rfl, HI⟩ := hrel
    rename World => wo
    by_cases hlt : i < n
    · have HLT : Hid (i < n) := hlt
      obtain ⟨b, off, rfl, hc⟩ := hT.out i hlt
      have c0 : wo.cell? ⟨b, off + i, none⟩ = some (.string (T i)) := (HI.out.bel.cell (by rw [← HMM.out]; exact World.block_lt_of_cell? _ _ hc)).trans hc
      have g0 : (0 : Int) ≤ (i : Int) := by omega
      have g1 : (i : Int) < (n : Int) := by omega
      have gi : IntKind.i64.wrap ((i : Int) + 1) = ((i + 1 : Nat) : Int) := by rw [IntKind.wrap_i64]; have := hn.out; omega
      clear hlt hi hc
      have H29 : Hid (∀ s u, Calls Tryd.prog 47 #[.string s] u fun e w' => RowQ s u.heap.size e u w') := fun s u => readRow_ok s u
      go_upto_region 6 with (go_at_call 47; refine (H29.out _ _).mono ?_; intro e5 w5 h5; rcases row_split h5 with ⟨k, hk, gk, rfl, hb⟩ | ⟨m, d, g, c', n', hg, rfl, hb⟩ <;> clear h5)
      · have HF : Hid (RshQ T n M (.returned (.tuple #[.slice none 0 0, .int .i64 (k : Nat)])) w w5) := ⟨.inr ⟨i, k, HLT.out, HI.out.good, hk.out, rfl⟩, HI.out.bel.trans (hb.out.mono HI.out.sz)⟩
        clear HI hk hb
        go_wp2
        go_ret2
        exact HF.out
      · obtain ⟨sn, HSN⟩ : ∃ z, Hid (setN m = z) := ⟨_, rfl⟩
        obtain ⟨nd, HND⟩ : ∃ z, Hid ((m.getD 2 0).1 = z) := ⟨_, rfl⟩
        obtain ⟨ix, HIX⟩ : ∃ z, Hid ((m.getD 3 0).1 = z) := ⟨_, rfl⟩
        obtain ⟨sz, HSZ⟩ : ∃ z, Hid ((m.getD 4 0).1 = z) := ⟨_, rfl⟩
        have HTD := tds_letters m sn nd ix sz HSN.out HND.out HIX.out HSZ.out
        have HOK : Hid (okF m ∧ sz + 9 ≤ n' ∧ gR (T i) = m) := by
          have h1 := hg.out.1.2.2.2.2.2.1
          have h2 := h1.2.2.2.1
          rw [HSZ.out] at h2
          unfold unc at h2
          exact ⟨h1, by have := hg.out.2.1; omega, gR_eq hg.out.1⟩
        have HW5 : Hid (Rx w5 g m ∧ Below M w w5 ∧ M ≤ w5.heap.size ∧ Below wo.heap.size wo w5) := ⟨hg.out.2.2.2.2.1, HI.out.bel.trans (hb.out.mono HI.out.sz), Nat.le_trans HI.out.sz hb.out.size, hb.out⟩
        have H30 : Hid (Calls Tryd.prog 48 #[.slice (some ⟨g, 0, none⟩) n' c'] w5 fun e w' => Hid (e = .returned (.agg #[.int .u16 (sn : Nat), .int .i64 (nd : Nat), .int .i64 (ix : Nat), .int .i64 (sz : Nat)]) ∧ Below w5.heap.size w5 w')) := by
          rw [← HTD]
          exact told_ok g 0 c' n' m w5 hg.out.2.1 (by have := hg.out.2.2.1; omega) HW5.out.1.rw
        have H52 : Hid (∀ u, Rx u g m → Calls Tryd.prog 49 #[.slice (some ⟨g, 0, none⟩) n' c'] u fun e w' => Hid (e = .returned (.slice (some ⟨g, 5, none⟩) (sz + 4) (c' - 5)) ∧ Below u.heap.size u w')) := fun u hu => by
          rw [← HSZ.out]
          exact valuesJ_ok g 0 c' n' m u hg.out.2.1 (by have := hg.out.2.2.1; omega) (by rw [HSZ.out]; exact HOK.out.2.1) hg.out.2.2.2.2.2.1 hu.rw
        have HSV : Hid ([Value.int .u16 (sn : Nat), .int .i64 (nd : Nat), .int .i64 (ix : Nat), .int .i64 (sz : Nat), .slice (some ⟨g, 5, none⟩) (sz + 4) (c' - 5)] = shV (gR (T i)) g c') := by
          show _ = _
          rw [HOK.out.2.2]
          unfold shV
          have z := congrArg Array.toList HTD
          rw [List.toList_toArray] at z
          rw [z, HSZ.out]
          rfl
        clear HTD hb
        go_wp2_with (first
          | (go_at_call 48; refine H30.out.mono ?_; intro e6 w6 h6; obtain ⟨rfl, h7⟩ := h6.out; have H6 : Hid (Below w5.heap.size w5 w6) := h7; clear h6 h7 H30)
          | (go_at_call 49; refine (H52.out w6 (HW5.out.1.below H6.out)).mono ?_; intro e7 w7 h7; obtain ⟨rfl, h8⟩ := h7.out; have H7 : Hid (Rx w7 g m ∧ Below M w w7 ∧ M ≤ w7.heap.size ∧ Below wo.heap.size wo w7) := ⟨(HW5.out.1.below H6.out).below h8, HW5.out.2.1.trans ((H6.out.mono HW5.out.2.2.1).trans (h8.mono (Nat.le_trans HW5.out.2.2.1 H6.out.size))), Nat.le_trans HW5.out.2.2.1 (Nat.le_trans H6.out.size h8.size), HW5.out.2.2.2.trans ((H6.out.trans (h8.mono H6.out.size)).mono HW5.out.2.2.2.size)⟩; clear h7 h8 H52)
          | (at_builtin; go_must (refine wpList_append_own _ rfl (.tmp 25) (.tmp 31) 68 rfl M 72 i8 (.agg #[.int .u16 0, .int .i64 0, .int .i64 0, .int .i64 0, .slice none 0 0]) 5 56 Tryd.underlying68 HI8.out.1 HI8.out.2.1 HI8.out.2.2.1 HI8.out.2.2.2 rfl (by decide) _ i _ rfl ((own_below HI.out.own H7.out.2.2.2).alloc _) ⟨w7.heap.size, 0, none⟩ 1 1 [Value.int .u16 (sn : Nat), .int .i64 (nd : Nat), .int .i64 (ix : Nat), .int .i64 (sz : Nat), .slice (some ⟨g, 5, none⟩) (sz + 4) (c' - 5)] rfl rfl (World.news_of_block (heap_alloc_new w7 _)) (by rw [HSV.out]; exact shV_one _ _ _) (by have := hn.out; have := HLT.out; unfold maxLen; omega) (by have := hn.out; have := HLT.out; omega) (by have := H7.out.2.2.1; simp; omega) ?_; intro v8 w8 hown hgrow hnil; have H8 : Hid (RsI T M w w8 (i + 1) v8 (fun k => if k = i then g else q k) (fun k => if k = i then c' else c k)) := HI.out.more hg.out.1 H7.out.2.2.2 H7.out.1 ⟨by rw [hg.out.2.1]; exact hg.out.2.2.2.2.2.1, hg.out.2.2.2.2.2.2⟩ (by rw [← HSV.out]; exact hown) hgrow; clear hown hgrow hnil))
          | fail)
        go_roundw
        case rel => exact ⟨i + 1, _, _, by have := HLT.out; omega, rfl, H8.out⟩
        case measure => simp [intOf]; have := HLT.out; omega
    · have hin : i = n := by omega
      subst hin
      have g1 : ¬ (i : Int) < (i : Int) := by omega
      have HF : Hid (RshQ T i M (.returned (.tuple #[u4, .int .i64 0])) w wo) := by
        refine ⟨.inl ⟨HI.out.good, u4, rfl, ?_⟩, HI.out.bel⟩
        by_cases h0 : i = 0
        · subst h0
          left
          refine ⟨rfl, ?_⟩
          rcases HI.out.own.2 with ⟨e, _⟩ | ⟨g, cap, cur, e, _⟩
          · exact ⟨_, _, e⟩
          · exact ⟨_, _, e⟩
        · right
          obtain ⟨g, cp', e, h1, h2, h3⟩ := HI.out.shi (by omega)
          exact ⟨g, cp', q, c, e, h1, h2, h3⟩
      clear HI
      go_wp2
      go_ret2
      exact HF.out
end Go.Proofs.YtinmhgackihakaaDoor
