import Derived.Test.YtaejoohbmdckhaaTa
import Derived.Test.YtaejoohbmdckhaaTb
import Derived.Test.YtaejoohbmdckhaaTc
namespace Go.Proofs.Ytaejoohbmdckhaa
open Go.RowKit
set_option linter.unusedVariables false
set_option linter.unusedSimpArgs false
/-- Bit number i of a row of bytes. -/
def biF (f : Nat → Nat) (i : Nat) : Nat := btF (f (i / 8)) (i % 8)
def oB (f : Nat → Nat) : Nat → Nat
  | 0 => 0
  | i + 1 => oB f i + biF f i
def tB (f : Nat → Nat) : Nat → Nat
  | 0 => 0
  | i + 1 => tB f i + (if 0 < i ∧ biF f i ≠ biF f (i - 1) then 1 else 0)
theorem biF_le (f : Nat → Nat) (i : Nat) : biF f i ≤ 1 := by unfold biF btF; omega
theorem oB_le (f : Nat → Nat) (i : Nat) : oB f i ≤ i := by
  induction i with
  | zero => simp [oB]
  | succ n ih => have := biF_le f n; simp only [oB]; omega
theorem tB_le (f : Nat → Nat) (i : Nat) : tB f i ≤ i := by
  induction i with
  | zero => simp [tB]
  | succ n ih => simp only [tB]; split <;> omega
theorem biF_at (f : Nat → Nat) (m r : Nat) (hr : r < 8) : biF f (8 * m + r) = btF (f m) r := by
  unfold biF
  rw [show (8 * m + r) / 8 = m by omega, show (8 * m + r) % 8 = r by omega]
theorem pop_bt (x : Nat) : pop x = btF x 7 + btF x 6 + btF x 5 + btF x 4 + btF x 3 + btF x 2 + btF x 1 + btF x 0 := by
  simp only [btF, pop, Nat.reduceSub, Nat.reducePow, Nat.div_one]
theorem oB_all (f : Nat → Nat) (m : Nat) : oB f (8 * m) = onesF f m := by
  induction m with
  | zero => rfl
  | succ m ih =>
    rw [show 8 * (m + 1) = 8 * m + 7 + 1 by omega]
    simp only [oB, onesF]
    rw [← ih]
    have b0 : biF f (8 * m) = btF (f m) 0 := biF_at f m 0 (by omega)
    rw [b0]
    simp only [biF_at f m _ (show 0 < 8 by omega), biF_at f m _ (show 1 < 8 by omega), biF_at f m _ (show 2 < 8 by omega), biF_at f m _ (show 3 < 8 by omega), biF_at f m _ (show 4 < 8 by omega), biF_at f m _ (show 5 < 8 by omega), biF_at f m _ (show 6 < 8 by omega), biF_at f m _ (show 7 < 8 by omega)]
    rw [pop_bt]
    omega
def neB (a b : Nat) : Nat := if a ≠ b then 1 else 0
theorem pop_tr (x a : Nat) (hx : x < 256) (ha : a < 2) : pop (trF x a) = neB (btF x 0) a + neB (btF x 1) (btF x 0) + neB (btF x 2) (btF x 1) + neB (btF x 3) (btF x 2) + neB (btF x 4) (btF x 3) + neB (btF x 5) (btF x 4) + neB (btF x 6) (btF x 5) + neB (btF x 7) (btF x 6) := by
  have key : ∀ x : Fin 256, ∀ a : Fin 2, pop (trF x.1 a.1) = neB (btF x.1 0) a.1 + neB (btF x.1 1) (btF x.1 0) + neB (btF x.1 2) (btF x.1 1) + neB (btF x.1 3) (btF x.1 2) + neB (btF x.1 4) (btF x.1 3) + neB (btF x.1 5) (btF x.1 4) + neB (btF x.1 6) (btF x.1 5) + neB (btF x.1 7) (btF x.1 6) := by decide +kernel
  exact key ⟨x, hx⟩ ⟨a, ha⟩
theorem tB_step (f : Nat → Nat) (m r : Nat) (hr : r < 7) : tB f (8 * m + (r + 1) + 1) = tB f (8 * m + (r + 1)) + neB (btF (f m) (r + 1)) (btF (f m) r) := by
  rw [tB, show 8 * m + (r + 1) - 1 = 8 * m + r by omega, biF_at f m (r + 1) (by omega), biF_at f m r (by omega)]
  unfold neB
  by_cases e : btF (f m) (r + 1) ≠ btF (f m) r
  · rw [if_pos ⟨by omega, e⟩, if_pos e]
  · rw [if_neg (by omega), if_neg e]
theorem tB_all (f : Nat → Nat) (m : Nat) (hf : ∀ i, i < m → f i < 256) : tB f (8 * m) = tuF f m := by
  induction m with
  | zero => rfl
  | succ m ih =>
    rw [show 8 * (m + 1) = 8 * m + (6 + 1) + 1 by omega, tB_step f m 6 (by omega)]
    rw [show 8 * m + (6 + 1) = 8 * m + (5 + 1) + 1 by omega, tB_step f m 5 (by omega)]
    rw [show 8 * m + (5 + 1) = 8 * m + (4 + 1) + 1 by omega, tB_step f m 4 (by omega)]
    rw [show 8 * m + (4 + 1) = 8 * m + (3 + 1) + 1 by omega, tB_step f m 3 (by omega)]
    rw [show 8 * m + (3 + 1) = 8 * m + (2 + 1) + 1 by omega, tB_step f m 2 (by omega)]
    rw [show 8 * m + (2 + 1) = 8 * m + (1 + 1) + 1 by omega, tB_step f m 1 (by omega)]
    rw [show 8 * m + (1 + 1) = 8 * m + (0 + 1) + 1 by omega, tB_step f m 0 (by omega)]
    rw [tuF, ← ih (fun i hi => hf i (by omega)), show 8 * m + (0 + 1) = 8 * m + 1 by omega, tB]
    have hx := hf m (by omega)
    have ha : ahF f m < 2 := by unfold ahF; split <;> omega
    rw [pop_tr _ _ hx ha]
    have h0 : (if 0 < 8 * m ∧ biF f (8 * m) ≠ biF f (8 * m - 1) then 1 else 0) = neB (btF (f m) 0) (ahF f m) := by
      rw [show biF f (8 * m) = btF (f m) 0 from biF_at f m 0 (by omega)]
      unfold ahF neB
      cases m with
      | zero =>
        have e : btF (f 0) 0 = f 0 / 128 := by simp only [btF]; omega
        simp [e]
      | succ j =>
        rw [show 8 * (j + 1) - 1 = 8 * j + 7 by omega, biF_at f j 7 (by omega), if_pos (by omega : 0 < j + 1), Nat.add_sub_cancel]
        have e : btF (f j) 7 = f j % 2 := by simp [btF]
        rw [e]
        by_cases c : btF (f (j + 1)) 0 ≠ f j % 2
        · rw [if_pos ⟨by omega, c⟩, if_pos c]
        · rw [if_neg (by omega), if_neg c]
    rw [h0]
    simp only [Nat.zero_add, Nat.reduceAdd]
    omega
/-- The numbers of a health, by place. -/
def hv (c r m o : Int) (e : Nat → Int) (fa p t : Int) (q : Nat) : Int := if q = 0 then c else if q = 1 then r else if q = 2 then m else if q = 3 then o else if q < 12 then e (q - 4) else if q = 12 then fa else if q = 13 then p else t
theorem hv_r (c r m o : Int) (e : Nat → Int) (fa p t r' : Int) (y : Nat) (hy : y < 15) : hv c r' m o e fa p t y = if y = 1 then r' else hv c r m o e fa p t y := by
  unfold hv; (repeat' split) <;> first | rfl | omega
theorem hv_o (c r m o : Int) (e : Nat → Int) (fa p t o' : Int) (y : Nat) (hy : y < 15) : hv c r m o' e fa p t y = if y = 3 then o' else hv c r m o e fa p t y := by
  unfold hv; (repeat' split) <;> first | rfl | omega
theorem hv_f (c r m o : Int) (e : Nat → Int) (fa p t f' : Int) (y : Nat) (hy : y < 15) : hv c r m o e f' p t y = if y = 12 then f' else hv c r m o e fa p t y := by
  unfold hv; (repeat' split) <;> first | rfl | omega
theorem hv_t (c r m o : Int) (e : Nat → Int) (fa p t t' : Int) (y : Nat) (hy : y < 15) : hv c r m o e fa p t' y = if y = 14 then t' else hv c r m o e fa p t y := by
  unfold hv; (repeat' split) <;> first | rfl | omega
theorem hv_e (c r m o : Int) (e e' : Nat → Int) (fa p t v : Int) (x : Nat) (hx : x < 8) (he : ∀ q, e' q = if q = x then v else e q) (y : Nat) (hy : y < 15) : hv c r m o e' fa p t y = if y = 4 + x then v else hv c r m o e fa p t y := by
  unfold hv
  by_cases h : y = 4 + x
  · subst h
    rw [if_neg (by omega), if_neg (by omega), if_neg (by omega), if_neg (by omega), if_pos (by omega), if_pos rfl, he, if_pos (by omega)]
  · rw [if_neg h]
    by_cases h2 : 4 ≤ y ∧ y < 12
    · rw [he, if_neg (by omega : ¬ y - 4 = x)]
    · (repeat' split) <;> first | rfl | omega
/-- The ends, in the midst of byte number i. -/
def exF (f : Nat → Nat) (i k q : Nat) : Int := if q / 2 < k then eC f (q / 2) (i + 1) (q % 2) else eC f (q / 2) i (q % 2)
theorem exF_one (f : Nat → Nat) (i k q : Nat) : exF f i (k + 1) q = if q = 2 * k + 1 then eI f k (i + 1) else if q = 2 * k then eR f k (i + 1) else exF f i k q := by
  unfold exF
  by_cases h1 : q = 2 * k + 1
  · rw [if_pos h1, if_pos (by omega)]; unfold eC; rw [if_neg (by omega), show q / 2 = k by omega]
  · rw [if_neg h1]
    by_cases h2 : q = 2 * k
    · rw [if_pos h2, if_pos (by omega)]; unfold eC; rw [if_pos (by omega), show q / 2 = k by omega]
    · rw [if_neg h2]
      by_cases h3 : q / 2 < k
      · rw [if_pos h3, if_pos (by omega)]
      · rw [if_neg h3, if_neg (by omega)]
theorem exF_next (f : Nat → Nat) (i q : Nat) (hq : q < 8) : exF f i 4 q = exF f (i + 1) 0 q := by
  unfold exF
  rw [if_pos (by omega), if_neg (by omega)]
theorem exF_at (f : Nat → Nat) (i k : Nat) : exF f i k (2 * k) = eR f k i ∧ exF f i k (2 * k + 1) = eI f k i := by
  have h1 : 2 * k / 2 = k := by omega
  have h2 : (2 * k + 1) / 2 = k := by omega
  have h3 : 2 * k % 2 = 0 := by omega
  have h4 : (2 * k + 1) % 2 = 1 := by omega
  constructor
  · unfold exF
    rw [h1, h3, if_neg (by omega)]
    rfl
  · unfold exF
    rw [h2, h4, if_neg (by omega)]
    rfl
/-- A health in a block, with the result's block beside it. -/
structure Th (w wr : World) (G : Nat) (g : Nat → Int) : Prop where
  tm : Tm wr G 36 g 15
  rs : Tm wr w.heap.size 36 (fun _ => 0) 15
  be : Below w.heap.size w wr
  ne : w.heap.size < G
theorem Th.ext {w wr : World} {G : Nat} {g g' : Nat → Int} (h : Th w wr G g) (e : ∀ q, q < 15 → g q = g' q) : Th w wr G g' := ⟨h.tm.ext e, h.rs, h.be, h.ne⟩
theorem Th.set {w wr : World} {G : Nat} {g : Nat → Int} (h : Th w wr G g) (x : Nat) (v : Int) (g' : Nat → Int) (e : ∀ y, y < 15 → g' y = if y = x then v else g y) : Th w (wr.setCell ⟨G, x, none⟩ (.int .i64 v)) G g' :=
  ⟨h.tm.set x v g' e, h.rs.of (Below.heap_setCell wr ⟨G, x, none⟩ _ _ (by have := h.ne; simp only; omega)), h.be.setCell (p := ⟨G, x, none⟩) (Nat.le_of_lt h.ne) _, h.ne⟩
theorem Th.below {w wr w' : World} {G : Nat} {g : Nat → Int} (h : Th w wr G g) (hb : Below wr.heap.size wr w') : Th w w' G g :=
  ⟨h.tm.of (hb.block _ h.tm.lt), h.rs.of (hb.block _ h.rs.lt), h.be.trans (hb.mono h.be.size), h.ne⟩
theorem Th.drewN {w wr : World} {G : Nat} {g : Nat → Int} (h : Th w wr G g) (m : Nat) : Th w (wr.drewN m) G g := h.below ⟨rfl, rfl, rfl, Nat.le_refl _, fun _ _ => rfl⟩
theorem Th.drew {w wr : World} {G : Nat} {g : Nat → Int} (h : Th w wr G g) : Th w wr.drew G g := h.below (Below.refl _ _).drew
theorem zero36 : (Try.prog.info? 36).bind (·.zero) = some (.agg (List.replicate 15 (.int .i64 0)).toArray) := by kernel_rfl
theorem size36 : (Try.prog.info? 36).map (·.size) = some 15 := by kernel_rfl
theorem size33 : (Try.prog.info? 33).map (·.size) = some 2 := by kernel_rfl
end Go.Proofs.Ytaejoohbmdckhaa
