import Derived.Test.YtaejoohbmdckhaaWd
import Derived.Laws.ResultCell
namespace Go.Proofs.Ytaejoohbmdckhaa
open Go.RowKit
set_option linter.unusedVariables false
set_option linter.unusedSimpArgs false
/-- Where walk number k is behind n bytes. -/
def eR (f : Nat → Nat) (k : Nat) : Nat → Int
  | 0 => 0
  | i + 1 => eR f k i + stR (dg k (f i))
def eI (f : Nat → Nat) (k : Nat) : Nat → Int
  | 0 => 0
  | i + 1 => eI f k i + stI (dg k (f i))
theorem eR_le (f : Nat → Nat) (k n : Nat) : (eR f k n).natAbs ≤ n := by
  induction n with
  | zero => simp [eR]
  | succ n ih => have := (st_small (dg k (f n))).1; simp only [eR]; omega
theorem eI_le (f : Nat → Nat) (k n : Nat) : (eI f k n).natAbs ≤ n := by
  induction n with
  | zero => simp [eI]
  | succ n ih => have := (st_small (dg k (f n))).2; simp only [eI]; omega
/-- How far the first walk comes. -/
def frF (f : Nat → Nat) : Nat → Int
  | 0 => 0
  | i + 1 => max (frF f i) (eR f 0 (i + 1) * eR f 0 (i + 1) + eI f 0 (i + 1) * eI f 0 (i + 1))
def eC (f : Nat → Nat) (k i q : Nat) : Int := if q = 0 then eR f k i else eI f k i
/-- The four ends, as eight numbers, in the midst of walk number k. -/
def enF (f : Nat → Nat) (n k i q : Nat) : Int := if q / 2 < k then eC f (q / 2) n (q % 2) else if q / 2 = k then eC f k i (q % 2) else 0
theorem enF_next (f : Nat → Nat) (n k q : Nat) : enF f n k n q = enF f n (k + 1) 0 q := by
  unfold enF
  by_cases h1 : q / 2 < k
  · rw [if_pos h1, if_pos (by omega)]
  · by_cases h2 : q / 2 = k
    · rw [if_neg h1, if_pos h2, if_pos (by omega), h2]
    · rw [if_neg h1, if_neg h2, if_neg (by omega)]
      by_cases h3 : q / 2 = k + 1
      · rw [if_pos h3]; unfold eC; simp [eR, eI]
      · rw [if_neg h3]
theorem zero25 : (Try.prog.info? 25).bind (·.zero) = some (.agg (List.replicate 8 (.int .i64 0)).toArray) := by kernel_rfl
theorem size25 : (Try.prog.info? 25).map (·.size) = some 8 := by kernel_rfl
def fr0 (f : Nat → Nat) (n k i : Nat) : Int := if k = 0 then frF f i else frF f n
/-- In the midst of a walk. -/
structure Wk (w wr : World) (f : Nat → Nat) (n k i g : Nat) : Prop where
  tm : Tm wr w.heap.size 25 (enF f n k i) 8
  pl : wr.cell? ⟨g, 0, none⟩ = some (.complex .f64 (fw (eR f k i)) (fw (eI f k i)))
  dn : wr.cell? ⟨g + 1, 0, none⟩ = some (.int .i64 (6 - 2 * (k : Int)))
  fz : wr.frozen? ⟨g, 0, none⟩ = false
  be : Below w.heap.size w wr
  gw : w.heap.size < g
  gl : g + 1 < wr.heap.size
def setL : List Value → Nat → List Value → List Value
  | cur, _, [] => cur
  | cur, o, v :: r => setL (cur.set o v) (o + 1) r
theorem setL_at : ∀ (vs cur : List Value) (o : Nat), o + vs.length ≤ cur.length → setL cur o vs = cur.take o ++ vs ++ cur.drop (o + vs.length)
  | [], cur, o, h => by simp [setL]
  | v :: r, cur, o, h => by
    simp only [List.length_cons] at h
    rw [setL, setL_at r (cur.set o v) (o + 1) (by simp; omega)]
    rw [List.take_set, List.drop_set_of_lt (by omega), List.take_add_one, List.set_append_right _ _ (by simp; omega), List.length_take, Nat.min_eq_left (by omega), Nat.sub_self]
    rw [List.getElem?_eq_getElem (by omega)]
    simp
    congr 1
    omega
theorem setCells_heap (b t : Nat) : ∀ (vs : List Value) (o : Nat) (w : World) (cur : Array Value), w.heap[b]? = some (.cells cur t (0, 0)) → (w.setCells b o vs).heap[b]? = some (.cells (setL cur.toList o vs).toArray t (0, 0))
  | [], o, w, cur, h => by simpa [World.setCells, setL] using h
  | v :: r, o, w, cur, h => by
    have := setCells_heap b t r (o + 1) (w.setCell ⟨b, o, none⟩ v) _ (heap_setCell_same w b o cur t v h)
    simpa [World.setCells, setL] using this
theorem setCells_below (b : Nat) : ∀ (vs : List Value) (o : Nat) (w : World) (B : Nat), B ≤ b → Below B w (w.setCells b o vs)
  | [], o, w, B, h => Below.refl B w
  | v :: r, o, w, B, h => ((Below.refl B w).setCell (p := ⟨b, o, none⟩) h v).trans (setCells_below b r (o + 1) _ B h)
theorem results_cell_two {P : Program} {fn : Func} {p u : Tmp} {ty : TypeId} (h : fn.results = #[.cell p ty, .tmp u]) (tmps : Array Value) (w : World) (g : Nat) (t : TypeId) (cs : Array Value) (fr : Nat × Nat) (d : TypeDesc)
    (hp : tmps.getD p undef = .pointer (some ⟨g, 0, none⟩)) (hg : w.heap[g]? = some (.cells cs t fr))
    (hu : P.underlying ty = some d) (hd : (match d with | .struct _ | .array _ _ => true | _ => false) = true) (hi : (P.info? ty).map (·.size) = some cs.size) :
    (results fn tmps).run P w = .ok (.tuple #[.agg cs, tmps.getD u undef]) w := by
  rw [results_cell_tmp h, hp]
  simp [asAddr, run_loadVar_row w g t ty cs fr d hg hu hd hi]
theorem maxZ (a b : Int) : (if a < b then b else a) = max a b := by
  rw [Int.max_def]
  split <;> split <;> omega
/-- The four ends, as a value. -/
abbrev endL (f : Nat → Nat) (n : Nat) : List Value := (List.range 8).map fun q => .int .i64 (enF f n 3 n q)
theorem Tm.of {W W' : World} {G t n : Nat} {g : Nat → Int} (h : Tm W G t g n) (e : W'.heap[G]? = W.heap[G]?) : Tm W' G t g n := by
  obtain ⟨cs, h1, h2, h3⟩ := h
  exact ⟨cs, e.trans h1, h2, h3⟩
theorem Wk.mid {w wr w2 w3 : World} {f : Nat → Nat} {n k j g : Nat} {v : Value} (h : Wk w wr f n k j g) (hw : w2 = (wr.setCell ⟨g, 0, none⟩ v).drew) (hb : Below w2.heap.size w2 w3) : Tm w3 w.heap.size 25 (enF f n k j) 8 ∧ Below w.heap.size w w3 ∧ w2.heap.size = wr.heap.size := by
  have hs : w2.heap.size = wr.heap.size := by rw [hw]; simp [World.drew]
  have e1 : w2.heap[w.heap.size]? = wr.heap[w.heap.size]? := by rw [hw]; exact Below.heap_setCell wr ⟨g, 0, none⟩ v _ (by have := h.gw; simp only; omega)
  have b2 : Below w.heap.size w w2 := by rw [hw]; exact (h.be.setCell (p := ⟨g, 0, none⟩) (by have := h.gw; show w.heap.size ≤ g; omega) v).drew
  refine ⟨h.tm.of ((hb.block _ (by rw [hs]; exact h.tm.lt)).trans e1), b2.trans (hb.mono b2.size), hs⟩
theorem Wk.step {w wr w2 w3 : World} {f : Nat → Nat} {n k j g : Nat} (hk : k < 4) (h : Wk w wr f n k j g) (hw : w2 = (wr.setCell ⟨g, 0, none⟩ (.complex .f64 (fw (eR f k (j + 1))) (fw (eI f k (j + 1))))).drew) (hb : Below w2.heap.size w2 w3) :
    Wk w ((w3.setCell ⟨w.heap.size, k * 2, none⟩ (.int .i64 (eR f k (j + 1)))).setCell ⟨w.heap.size, k * 2 + 1, none⟩ (.int .i64 (eI f k (j + 1)))) f n k (j + 1) g := by
  obtain ⟨t3, b3, hs⟩ := h.mid hw hb
  have hgw := h.gw
  have hgl := h.gl
  have far : ∀ q, q ≠ w.heap.size → ((w3.setCell ⟨w.heap.size, k * 2, none⟩ (.int .i64 (eR f k (j + 1)))).setCell ⟨w.heap.size, k * 2 + 1, none⟩ (.int .i64 (eI f k (j + 1)))).heap[q]? = w3.heap[q]? := fun q hq => by
    rw [Below.heap_setCell _ _ _ _ hq, Below.heap_setCell _ _ _ _ hq]
  have e2 : ∀ q, q ≠ g → q < wr.heap.size → w3.heap[q]? = wr.heap[q]? := fun q hq hl => by
    rw [hb.block q (by rw [hs]; exact hl), hw]
    exact Below.heap_setCell wr ⟨g, 0, none⟩ _ q hq
  refine ⟨?_, ?_, ?_, ?_, ?_, hgw, ?_⟩
  · refine Tm.set (Tm.set t3 (k * 2) (eR f k (j + 1)) (fun q => if q = k * 2 then eR f k (j + 1) else enF f n k j q) (fun y hy => rfl)) (k * 2 + 1) _ _ (fun y hy => ?_)
    unfold enF
    by_cases h1 : y = k * 2 + 1
    · subst h1
      rw [if_pos rfl, if_neg (by omega), if_pos (by omega)]
      unfold eC
      rw [if_neg (by omega)]
    · rw [if_neg h1]
      by_cases h2 : y = k * 2
      · subst h2
        rw [if_pos rfl, if_neg (by omega), if_pos (by omega)]
        unfold eC
        rw [if_pos (by omega)]
      · rw [if_neg h2]
        by_cases h3 : y / 2 < k
        · rw [if_pos h3, if_pos h3]
        · rw [if_neg h3, if_neg h3, if_neg (by omega), if_neg (by omega)]
  · rw [World.cell?_of_block (w := w3) (far g (by omega)), World.cell?_of_block (w := w2) (hb.block g (by rw [hs]; omega)), hw]
    exact World.cell?_setCell_same' wr _ _ (by rw [h.pl]; rfl)
  · rw [World.cell?_of_block (w := w3) (far (g + 1) (by omega)), World.cell?_of_block (w := wr) (e2 (g + 1) (by omega) (by omega))]
    exact h.dn
  · rw [World.frozen?_of_block (w := w3) (far g (by omega)), World.frozen?_of_block (w := w2) (hb.block g (by rw [hs]; omega)), hw]
    have := h.fz
    simpa using this
  · exact (b3.setCell (Nat.le_refl _) _).setCell (Nat.le_refl _) _
  · have := hb.size
    simp [World.setCell]
    omega
theorem Wk.below {w wr w' : World} {f : Nat → Nat} {n k j g : Nat} (h : Wk w wr f n k j g) (hb : Below wr.heap.size wr w') : Wk w w' f n k j g := by
  have hgl := h.gl
  refine ⟨h.tm.of (hb.block _ h.tm.lt), ?_, ?_, ?_, h.be.trans (hb.mono h.be.size), h.gw, Nat.lt_of_lt_of_le hgl hb.size⟩
  · exact (hb.cell (p := ⟨g, 0, none⟩) (show g < wr.heap.size by omega)).trans h.pl
  · exact (hb.cell (p := ⟨g + 1, 0, none⟩) hgl).trans h.dn
  · exact (hb.frozen (p := ⟨g, 0, none⟩) (show g < wr.heap.size by omega)).trans h.fz
theorem Wk.cells {w wr : World} {f : Nat → Nat} {n k j g : Nat} (h : Wk w wr f n k j g) (hk : k < 4) : wr.cell? ⟨w.heap.size, k * 2, none⟩ = some (.int .i64 (eR f k j)) ∧ wr.cell? ⟨w.heap.size, k * 2 + 1, none⟩ = some (.int .i64 (eI f k j)) := by
  have a := h.tm.cell (k * 2) (by omega)
  have b := h.tm.cell (k * 2 + 1) (by omega)
  unfold enF eC at a b
  rw [if_neg (by omega), if_pos (by omega), if_pos (by omega)] at a
  rw [if_neg (by omega), if_pos (by omega), if_neg (by omega)] at b
  exact ⟨a, b⟩
set_option maxRecDepth 100000 in
set_option maxHeartbeats 4000000 in
theorem walk_ok (p : Option Addr) (n c : Nat) (f : Nat → Nat) (hn : n ≤ 131072) (w : World) (h : By w p n f) : Calls Try.prog 16 #[.slice p n c] w fun e w' => e = .returned (.tuple #[.agg (endL f n).toArray, .int .i64 (frF f n)]) ∧ Below w.heap.size w w' := by
  have H : Hid (By w p n f) := h
  clear h
  go_enter Try.func16, Try.ntmps16
  go_wp2_with (refine wpList_alloc_arr (by rfl) 25 8 (by rfl) zero25 ?_; intro W0 G ht0 hb0 hG0 hz0; subst hG0)
  have H0 : Hid (Tm W0 w.heap.size 25 (enF f n 0 0) 8 ∧ Below w.heap.size w W0) := ⟨ht0.ext (fun x hx => by unfold enF eC; simp [eR, eI]), hb0⟩
  clear ht0 hb0 hz0
  go_loopw [3, 4, 5, 7, 8] (fun fa _ _ _ i wr => ∃ k : Nat, k ≤ 4 ∧ i = .int .i64 k ∧ fa = .int .i64 (fr0 f n k 0) ∧ Hid (Tm wr w.heap.size 25 (enF f n k 0) 8 ∧ Below w.heap.size w wr)) (fun _ _ _ _ i _ => 4 - (intOf i).toNat)
  case atStart => exact ⟨0, Nat.zero_le _, rfl, rfl, H0⟩
  case round =>
    obtain ⟨k, hk, rfl, rfl, HT⟩ := hrel
    clear H0
    obtain ⟨F0, hF0⟩ : ∃ F, Hid (F = fr0 f n k 0) := ⟨_, rfl⟩
    rw [← hF0.out]
    by_cases hk4 : k < 4
    · go_upto_region 5 with (go_at_call 30; refine (walker_ok k hk4 _).mono ?_; rintro e1 w1 ⟨rfl, hw1⟩)
      have HK : Hid (Wk w w1 f n k 0 wr.heap.size) := by
        have hgw : w.heap.size < wr.heap.size := HT.out.1.lt
        have b1 : Below wr.heap.size wr w1 := by rw [hw1]; exact ((Below.refl _ _).alloc (Nat.le_refl _) _).alloc (by simp) _
        refine ⟨?_, ?_, ?_, ?_, HT.out.2.trans (b1.mono HT.out.2.size), hgw, by rw [hw1]; simp⟩
        · obtain ⟨cs, q1, q2, q3⟩ := HT.out.1
          exact ⟨cs, (b1.block _ hgw).trans q1, q2, q3⟩
        · rw [hw1, show eR f k 0 = 0 from rfl, show eI f k 0 = 0 from rfl, fw_zero]
          rw [(((Below.refl (wr.heap.size + 1) (wr.alloc (.cells #[.complex .f64 0 0] 58))).alloc (by simp) _).cell (p := ⟨wr.heap.size, 0, none⟩) (by simp))]
          rw [cell_of_row _ wr.heap.size 0 _ 58 (0, 0) (heap_alloc_new wr _)]
          rfl
        · rw [hw1]
          have q := heap_alloc_new (wr.alloc (.cells #[.complex .f64 0 0] 58)) (.cells #[.int .i64 (6 - 2 * (k : Int))] 3)
          rw [show (wr.alloc (.cells #[.complex .f64 0 0] 58)).heap.size = wr.heap.size + 1 by simp] at q
          rw [cell_of_row _ (wr.heap.size + 1) 0 _ 3 (0, 0) q]
          rfl
        · rw [hw1]
          have q := heap_alloc_new wr (.cells #[.complex .f64 0 0] 58)
          rw [(((Below.refl (wr.heap.size + 1) (wr.alloc (.cells #[.complex .f64 0 0] 58))).alloc (by simp) _).frozen (p := ⟨wr.heap.size, 0, none⟩) (by simp))]
          exact frozen_of_row _ wr.heap.size 0 _ 58 q
      have HF : Hid (F0 = fr0 f n k 0) := hF0
      rw [← hw1]
      clear hw1 HT hF0
      generalize wr.heap.size = g at HK ⊢
      go_wp2
      rw [HF.out]
      go_loopw [3, 7, 15] (fun fa _ i wx => ∃ j : Nat, j ≤ n ∧ i = .int .i64 j ∧ fa = .int .i64 (fr0 f n k j) ∧ Hid (Wk w wx f n k j g)) (fun _ _ i _ => n - (intOf i).toNat)
      case atStart => exact ⟨0, Nat.zero_le _, rfl, rfl, HK⟩
      case round =>
        obtain ⟨j, hj, rfl, rfl, HJ⟩ := hrel
        clear HK HF
        by_cases hlt : j < n
        · obtain ⟨b, off, hp, hb, hc⟩ := H.out (by omega)
          subst hp
          obtain ⟨h1', h2⟩ := hc j hlt
          have h1 := (HJ.out.be.cell (p := ⟨b, off + j, none⟩) hb).trans h1'
          obtain ⟨y, hy⟩ : ∃ y, Hid (y = f j) := ⟨_, rfl⟩
          rw [← hy.out] at h1 h2
          clear hc h1'
          have hR := eR_le f k j
          have hI := eI_le f k j
          have hR2 := eR_le f k (j + 1)
          have hI2 := eI_le f k (j + 1)
          have H36 : Hid (Calls Try.prog 36 #[.int .u8 (y : Nat), .pointer (some ⟨g, 0, none⟩), .pointer (some ⟨g + 1, 0, none⟩)] wr fun e w' => e = .returned (.complex .f64 (fw (eR f k (j + 1))) (fw (eI f k (j + 1)))) ∧ w' = (wr.setCell ⟨g, 0, none⟩ (.complex .f64 (fw (eR f k (j + 1))) (fw (eI f k (j + 1))))).drew) := by
            have q := step_ok k y hk4 h2 (eR f k j) (eI f k j) (by omega) (by omega) g (g + 1) wr (by omega) HJ.out.pl HJ.out.dn HJ.out.fz
            rw [show eR f k (j + 1) = eR f k j + stR (dg k y) by rw [eR, hy.out], show eI f k (j + 1) = eI f k j + stI (dg k y) by rw [eI, hy.out]]
            exact q
          have H31 : Hid (∀ u, Calls Try.prog 31 #[.complex .f64 (fw (eR f k (j + 1))) (fw (eI f k (j + 1)))] u fun e w' => e = .returned (.agg #[.int .i64 (eR f k (j + 1)), .int .i64 (eI f k (j + 1))]) ∧ Below u.heap.size u w') := fun u => whole_ok _ _ (by omega) (by omega) u
          have HS : Hid (∀ w2 w3, w2 = (wr.setCell ⟨g, 0, none⟩ (.complex .f64 (fw (eR f k (j + 1))) (fw (eI f k (j + 1))))).drew → Below w2.heap.size w2 w3 → Tm w3 w.heap.size 25 (enF f n k j) 8 ∧ Wk w ((w3.setCell ⟨w.heap.size, k * 2, none⟩ (.int .i64 (eR f k (j + 1)))).setCell ⟨w.heap.size, k * 2 + 1, none⟩ (.int .i64 (eI f k (j + 1)))) f n k (j + 1) g ∧ (∀ u, Wk w u f n k (j + 1) g → u.cell? ⟨w.heap.size, k * 2, none⟩ = some (.int .i64 (eR f k (j + 1))) ∧ u.cell? ⟨w.heap.size, k * 2 + 1, none⟩ = some (.int .i64 (eI f k (j + 1))))) := fun w2 w3 q1 q2 => ⟨(HJ.out.mid q1 q2).1, HJ.out.step hk4 q1 q2, fun u hu => hu.cells hk4⟩
          have hsq := square_ok (eR f k (j + 1)) (eI f k (j + 1)) (by omega) (by omega)
          have H32 : Hid (∀ u, Calls Try.prog 32 #[.agg #[.int .i64 (eR f k (j + 1)), .int .i64 (eI f k (j + 1))]] u fun e w' => e = .returned (.int .i64 (eR f k (j + 1) * eR f k (j + 1) + eI f k (j + 1) * eI f k (j + 1))) ∧ Below u.heap.size u w') := hsq
          obtain ⟨FR, hFR⟩ : ∃ F, Hid (F = fr0 f n k j) := ⟨_, rfl⟩
          have HFR2 : Hid (fr0 f n k (j + 1) = if k = 0 then max FR (eR f k (j + 1) * eR f k (j + 1) + eI f k (j + 1) * eI f k (j + 1)) else FR) := by
            show fr0 f n k (j + 1) = _
            rw [hFR.out]
            unfold fr0
            by_cases e : k = 0
            · subst e; simp only [if_true]; rfl
            · rw [if_neg e, if_neg e, if_neg e]
          rw [← hFR.out]
          clear hsq hFR hR hI
          obtain ⟨C1, hC1⟩ : ∃ C, Hid (C = Value.complex .f64 (fw (eR f k (j + 1))) (fw (eI f k (j + 1)))) := ⟨_, rfl⟩
          rw [← hC1.out] at H36 H31 HS
          generalize eR f k (j + 1) = RE at H31 HS H32 HFR2 hR2
          generalize eI f k (j + 1) = IM at H31 HS H32 HFR2 hI2
          clear hC1
          have k0 : (0 : Int) ≤ (k : Int) := by omega
          have k1 : (k : Int) < 4 := by omega
          go_upto_region 9 with (first
            | (go_at_call 36; refine H36.out.mono ?_; rintro e2 w2 ⟨rfl, hw2⟩)
            | (go_at_call 31; refine (H31.out _).mono ?_; rintro e3 w3 ⟨rfl, hb3⟩; obtain ⟨t3, HW, hcs⟩ := HS.out _ w3 rfl hb3; have c0 := t3.cell (k * 2) (by omega); have c1 := t3.cell (k * 2 + 1) (by omega); have f0 := t3.frozen (k * 2); have f1 := t3.frozen (k * 2 + 1)))
          have HX : Hid (Wk w ((w3.setCell ⟨w.heap.size, k * 2, none⟩ (.int .i64 RE)).setCell ⟨w.heap.size, k * 2 + 1, none⟩ (.int .i64 IM)) f n k (j + 1) g) := HW
          obtain ⟨p0, p1⟩ := hcs _ HW
          clear HW t3 c0 c1 f0 f1 hcs HS hb3 HJ h1
          generalize (w3.setCell ⟨w.heap.size, k * 2, none⟩ (.int .i64 RE)).setCell ⟨w.heap.size, k * 2 + 1, none⟩ (.int .i64 IM) = wz at HX p0 p1 ⊢
          by_cases hk0 : k = 0
          · have q0 : ((k : Int) == 0) = true := by simp [hk0]
            have HE : Hid (fr0 f n k (j + 1) = max FR (RE * RE + IM * IM)) := by show _ = _; rw [HFR2.out, if_pos hk0]
            have HK0 : Hid (k = 0) := hk0
            clear hk0 HFR2
            go_wp2_with (go_at_call 32; refine (H32.out _).mono ?_; rintro e4 w4 ⟨rfl, hb4⟩)
            exact ⟨⟨j + 1, by omega, by go_num, by rw [HE.out]; exact congrArg _ (maxZ FR _), HX.out.below hb4⟩, by simp [intOf]; omega⟩
          · have q0 : ((k : Int) == 0) = false := by simp; omega
            have HE : Hid (fr0 f n k (j + 1) = FR) := by show _ = _; rw [HFR2.out, if_neg hk0]
            have HK0 : Hid (k ≠ 0) := hk0
            clear hk0 HFR2
            go_wp2
            exact ⟨⟨j + 1, by omega, by go_num, by rw [HE.out], HX⟩, by simp [intOf]; omega⟩
        · obtain rfl : j = n := by omega
          go_wp2
          exact ⟨⟨k + 1, by omega, by go_num, by unfold fr0; rw [if_neg (show ¬ k + 1 = 0 by omega)]; split <;> rfl, ⟨HJ.out.tm.ext (fun x hx => enF_next f j k x), HJ.out.be⟩⟩, by simp [intOf]; omega⟩
    · obtain rfl : k = 4 := by omega
      have HH : Hid (wr.heap[w.heap.size]? = some (.cells (endL f n).toArray 25 (0, 0))) := by
        obtain ⟨cs, hcs, hsz, hat⟩ := HT.out.1
        have : cs = (endL f n).toArray := by
          refine Array.ext_getElem? fun q => ?_
          by_cases hq : q < 8
          · rw [hat q hq, ← enF_next]
            simp [hq]
          · rw [Array.getElem?_eq_none (by omega), Array.getElem?_eq_none (by simp; omega)]
        rw [← this]
        exact hcs
      have HB : Hid (Below w.heap.size w wr) := HT.out.2
      have HF : Hid (F0 = frF f n) := by show F0 = _; rw [hF0.out]; rfl
      have HR : Hid (wr.rangeAt w.heap.size 0 (endL f n)) := fun j u hj => by
        rw [Nat.zero_add, cell_of_row wr w.heap.size j _ 25 (0, 0) HH.out]
        simpa using hj
      have HTh : Hid (wr.there w.heap.size 0 (endL f n).toArray.size) := fun j hj => by
        rw [Nat.zero_add]
        refine ⟨?_, frozen_of_row wr w.heap.size j _ 25 HH.out⟩
        rw [cell_of_row wr w.heap.size j _ 25 (0, 0) HH.out, Array.getElem?_eq_getElem hj]
        rfl
      have h8 : Hid ((Try.prog.info? 25).map (·.size) = some (endL f n).length) := by show _ = _; rw [size25]; simp
      have h9 : Hid ((Try.prog.info? 25).map (·.size) = some (endL f n).toArray.size) := by show _ = _; rw [size25]; simp
      have h1c : Hid ((endL f n).toArray.all (·.oneCell') = true) := by
        refine Array.all_eq_true_iff_forall_mem.2 fun v hv => ?_
        simp only [List.mem_toArray, List.mem_map] at hv
        obtain ⟨_, _, rfl⟩ := hv
        rfl
      have HH2 : Hid ((wr.setCells w.heap.size 0 (endL f n)).heap[w.heap.size]? = some (.cells (endL f n).toArray 25 (0, 0))) := by
        show _ = _
        rw [setCells_heap w.heap.size 25 (endL f n) 0 wr _ HH.out, setL_at _ _ _ (by simp)]
        simp
      clear HT hF0
      obtain ⟨EL, HEL⟩ : ∃ EL, Hid (EL = endL f n) := ⟨_, rfl⟩
      rw [← HEL.out] at HH HR HTh h8 h9 h1c HH2
      go_wp2_with (first
        | (refine wpList_load_mid (by rfl) 25 (.tmp 2) (by rfl) w.heap.size 0 (by rfl) EL _ HR.out Try.underlying25 rfl h8.out ?_)
        | (refine wpList_store_mid (by rfl) 25 (.tmp 2) (.tmp 35) (by rfl) w.heap.size 0 EL.toArray (by rfl) (by rfl) HTh.out h9.out h1c.out ?_))
      refine bodyPost_ret (v := .tuple #[.agg EL.toArray, .int .i64 F0]) (results_cell_two (p := 2) (u := 3) (ty := 25) rfl _ _ w.heap.size 25 EL.toArray (0, 0) _ rfl HH2.out Try.underlying25 rfl h9.out) rfl ?_
      exact ⟨by rw [HEL.out, HF.out], HB.out.trans (setCells_below w.heap.size EL 0 wr w.heap.size (Nat.le_refl _))⟩
end Go.Proofs.Ytaejoohbmdckhaa
