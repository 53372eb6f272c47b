import Derived.Test.YtcopkohklgbpgaaDoorMxr
import Derived.Test.YtcopkohklgbpgaaDoorPcs
import Derived.Test.YtcopkohklgbpgaaDoorSSum
namespace Go.Proofs.YtcopkohklgbpgaaDoor
open Go.RowKit Go.Shelf
set_option linter.unusedVariables false
set_option linter.unusedSimpArgs false
/-- A digest, as bytes. -/
def sumD (h : Int) (zs : List Int) : List Int := (spellL (wdOf h) (endW (wdOf h) (firstE h) 0 zs)).take (szOf h)
/-- A piece's number in four bytes. -/
def be4 (c : Nat) : List Int := [(c : Int) / 16777216 % 256, (c : Int) / 65536 % 256, (c : Int) / 256 % 256, (c : Int) % 256]
/-- Piece c, of d bytes from p on, becomes its digest's beginning. -/
def pieceF (h : Int) (c p d : Nat) (f : Nat → Int) (j : Nat) : Int :=
  if p ≤ j ∧ j < p + d then (sumD h (be4 c ++ (List.range d).map (fun q => f (p + q)))).getD (j - p) 0 else f j
def stepF (h : Int) (sz len : Nat) (f : Nat → Int) (x : Nat) : Nat → Int := pieceF h (clp sz len x) (clp sz len x * sz) (pcl sz len x) f
/-- Diffuse. -/
def diffF (h : Int) (len : Nat) (f : Nat → Int) : Nat → Int := (List.range ((len + szOf h - 1) / szOf h)).foldl (stepF h (szOf h) len) f
theorem cnt_iff (len sz : Nat) (hsz : 1 ≤ sz) (j : Nat) : j < (len + sz - 1) / sz ↔ j * sz < len := by
  rw [Nat.lt_iff_add_one_le, Nat.le_div_iff_mul_le (by omega), Nat.succ_mul]
  omega
theorem szOf_pos {h : Int} (k : Known h) : 1 ≤ szOf h ∧ szOf h ≤ 64 := by rcases k with rfl | rfl | rfl | rfl <;> decide
theorem clp_lt (sz len x : Nat) (h : 0 < len) : clp sz len x * sz < len := by
  unfold clp
  split
  · assumption
  · simpa using h
theorem pcl_le (sz len x : Nat) (hsz : 1 ≤ sz) (h : 0 < len) : clp sz len x * sz + pcl sz len x ≤ len ∧ pcl sz len x ≤ sz ∧ 1 ≤ pcl sz len x := by
  have := clp_lt sz len x h
  unfold pcl
  rw [Nat.succ_mul]
  omega
/-- What hangs on one block is kept where that block is. -/
theorem Buf.kept {w v : World} {g u : Nat} {f : Nat → Int} (h : Buf w g f u) (hb : v.heap[g]? = w.heap[g]?) : Buf v g f u :=
  ⟨fun i hi => by rw [World.cell?_of_block (w := w) hb]; exact h.room i hi, by rw [World.cell?_of_block (w := w) hb]; exact h.used, fun j hj => by rw [World.cell?_of_block (w := w) hb, World.frozen?_of_block (w := w) hb]; exact h.there j hj⟩
theorem Mx.kept {w v : World} {g s u : Nat} {f : Nat → Int} (h : Mx w g s f u) (hb : v.heap[g]? = w.heap[g]?) : Mx v g s f u := ⟨h.1.kept hb, by rw [World.cell?_of_block (w := w) hb]; exact h.2⟩
theorem TK.kept {w v : World} {g o : Nat} {h : Int} {wd : Bool} {s : Eight} {half : Nat → Int} {fed : Nat} (k : TK w g o h wd s half fed) (hb : v.heap[g]? = w.heap[g]?) : TK v g o h wd s half fed :=
  ⟨by rw [World.cell?_of_block (w := w) hb]; exact k.hash, by rw [World.cell?_of_block (w := w) hb]; exact k.fn, fun j x hx => by rw [World.cell?_of_block (w := w) hb]; exact k.st j x hx, fun i hi => by rw [World.cell?_of_block (w := w) hb]; exact k.half i hi, by rw [World.cell?_of_block (w := w) hb]; exact k.fed, fun j hj => by rw [World.cell?_of_block (w := w) hb, World.frozen?_of_block (w := w) hb]; exact k.there j hj⟩
theorem Rep.kept {w v : World} {g o : Nat} {h : Int} {wd : Bool} {s0 : Eight} {f0 : Nat} {zs : List Int} (k : Rep w g o h wd s0 f0 zs) (hb : v.heap[g]? = w.heap[g]?) : Rep v g o h wd s0 f0 zs := by
  obtain ⟨half, hk, h1, h2⟩ := k
  exact ⟨half, hk.kept hb, h1, h2⟩
/-- What a mixer is between two calls. -/
structure Mix (w : World) (g s : Nat) (h : Int) (f : Nat → Int) (u : Nat) : Prop where
  mx : Mx w g s f u
  rep : ∃ s0 zs, Rep w s 0 h (wdOf h) s0 0 zs
  tab : Tables w
theorem Mix.gt {w : World} {g s u : Nat} {h : Int} {f : Nat → Int} (k : Mix w g s h f u) : g < w.heap.size := k.mx.1.lt
theorem Mix.st {w : World} {g s u : Nat} {h : Int} {f : Nat → Int} (k : Mix w g s h f u) : s < w.heap.size := by obtain ⟨_, _, r⟩ := k.rep; exact r.lt
theorem Mix.kept {w v : World} {g s u : Nat} {h : Int} {f : Nat → Int} (k : Mix w g s h f u) (hg : v.heap[g]? = w.heap[g]?) (hs : v.heap[s]? = w.heap[s]?) (ht : ∀ j, j < 4 → v.heap[j]? = w.heap[j]?) : Mix v g s h f u := by
  obtain ⟨s0, zs, r⟩ := k.rep
  exact ⟨k.mx.kept hg, ⟨s0, zs, r.kept hs⟩, k.tab.kept ht⟩
theorem Mix.below {w v : World} {g s u : Nat} {h : Int} {f : Nat → Int} (k : Mix w g s h f u) (b : Below w.heap.size w v) : Mix v g s h f u :=
  k.kept (b.block g k.gt) (b.block s k.st) (fun j hj => b.block j (by have := k.tab.size; omega))
theorem cells_at {w : World} {p : Addr} {v : Value} (h : w.cell? p = some v) : ∃ o : Obj, w.heap[p.block]? = some o ∧ o.isCells = true := cells_of_cell h
/-- Whatever is no cells stays. -/
theorem Tw.keeps {w v : World} {g s u : Nat} {h : Int} {f : Nat → Int} (t : Tw w v g s) (k : Mix w g s h f u) : KeepsOthers w v := by
  refine ⟨t.size, fun i o hi ho => ?_⟩
  have hlt : i < w.heap.size := (Array.getElem?_eq_some_iff.1 hi).1
  have hg : i ≠ g := by
    rintro rfl
    obtain ⟨o', h1, h2⟩ := cells_of_cell k.mx.2
    rw [hi] at h1
    injection h1 with h1
    rw [h1, h2] at ho
    cases ho
  have hs : i ≠ s := by
    rintro rfl
    obtain ⟨s0, zs, half, hk, _, _⟩ := k.rep
    obtain ⟨o', h1, h2⟩ := cells_of_cell hk.hash
    rw [hi] at h1
    injection h1 with h1
    rw [h1, h2] at ho
    cases ho
  rw [t.block i hlt hg hs]
  exact hi
theorem Tw.boxes {w v : World} {g s Bl Bs : Nat} (t : Tw w v g s) (h1 : Bl < w.heap.size) (h2 : Bs < w.heap.size) (a1 : Bl ≠ g) (a2 : Bl ≠ s) (a3 : Bs ≠ g) (a4 : Bs ≠ s) : Kbx Bl Bs w v :=
  ⟨World.cell?_of_block (t.block Bl h1 a1 a2), World.cell?_of_block (t.block Bs h2 a3 a4)⟩
/-- What the loop's own book-keeping leaves. -/
theorem below_turn {W W' : World} {row : Option Nat} {B N : Nat} (hg : W.grownBy W' row) (hr : ∀ r, row = some r → B ≤ r ∧ ∃ o : Obj, W.heap[r]? = some o ∧ o.isCells = false) (hN : N ≤ B) (hW : N ≤ W.heap.size) : Below N W W' :=
  (Below.refl N W).grown hg hW (fun k e => by have := (hr k e).1; omega)
theorem Tw.later {w v v' : World} {g s : Nat} (t : Tw w v g s) (b : Below w.heap.size v v') : Tw w v' g s :=
  ⟨b.os.trans t.os, b.tape.trans t.tape, b.output.trans t.output, Nat.le_trans t.size b.size, fun k hk h1 h2 => (b.block k hk).trans (t.block k hk h1 h2)⟩
theorem Tw.setG {w v : World} {g s : Nat} (t : Tw w v g s) (o : Nat) (vs : List Value) : Tw w (v.setCells g o vs) g s :=
  ⟨by rw [setCells_os]; exact t.os, by rw [setCells_tape]; exact t.tape, by rw [setCells_output]; exact t.output, by rw [size_setCells]; exact t.size, fun k hk h1 h2 => (World.heap_setCells_other v g o vs (Nat.lt_of_lt_of_le hk t.size) h1).trans (t.block k hk h1 h2)⟩
theorem Tw.setNew {w v : World} {g s b : Nat} (t : Tw w v g s) (hb : w.heap.size ≤ b) (o : Nat) (vs : List Value) : Tw w (v.setCells b o vs) g s :=
  ⟨by rw [setCells_os]; exact t.os, by rw [setCells_tape]; exact t.tape, by rw [setCells_output]; exact t.output, by rw [size_setCells]; exact t.size, fun k hk h1 h2 => (World.heap_setCells_other v b o vs (Nat.lt_of_lt_of_le hk t.size) (by omega)).trans (t.block k hk h1 h2)⟩
theorem Tw.below {w v v' : World} {g s : Nat} (t : Tw w v g s) (b : Below v.heap.size v v') : Tw w v' g s := t.trans (Below.tw b g s)
/-- Bytes laid into a buffer. -/
theorem Buf.laid {w : World} {g u p : Nat} {f : Nat → Int} (h : Buf w g f u) (L : List Int) (hp : p + L.length ≤ 1024) : Buf (w.setCells g p (cellsU8 L)) g (fun j => if p ≤ j ∧ j < p + L.length then L.getD (j - p) 0 else f j) u := by
  have hl := cellsU8_length L
  have hout : ∀ j, (j < p ∨ p + L.length ≤ j) → (w.setCells g p (cellsU8 L)).cell? ⟨g, j, none⟩ = w.cell? ⟨g, j, none⟩ := fun j hj => World.cell?_setCells_out g (cellsU8 L) p w ⟨g, j, none⟩ (fun _ _ => by
    rw [hl]
    exact hj)
  refine ⟨fun i hi => ?_, ?_, fun j hj => World.there_setCells h.there g p _ j hj⟩
  · by_cases hin : p ≤ i ∧ i < p + L.length
    · rw [if_pos hin]
      have q := World.cell?_setCells_in g (cellsU8 L) p w (fun j hj => by
        have := (h.there (p + j) (by rw [hl] at hj; omega)).1
        rwa [Nat.zero_add] at this) (i - p) (by rw [hl]; omega)
      rw [show p + (i - p) = i by omega] at q
      rw [q]
      simp [cellsU8, List.getD, List.getElem?_eq_getElem (show i - p < L.length by omega)]
    · rw [if_neg hin, hout i (by omega)]
      exact h.room i hi
  · rw [hout 1024 (by omega)]
    exact h.used
theorem viewOwns {w : World} {B n : Nat} {v : Value} {zs : List Int} (h : w.ownsRow B 5 1 v n (cellsU8 zs)) (hn : zs.length = n) : View w v zs := by
  have h0 := h
  rcases h.2 with ⟨rfl, e0⟩ | ⟨g, c, cur, rfl, q1, q2, q3, q4, q5, q6⟩
  · refine ⟨none, 0, by rw [hn, e0], by omega, by simp [maxLen], fun _ => rfl, Or.inl (List.eq_nil_of_length_eq_zero (by omega))⟩
  · refine ⟨some ⟨g, 0, none⟩, c, by rw [hn], by omega, q4, (fun e => by cases e), Or.inr ⟨g, 0, rfl, fun i hi => ?_⟩⟩
    have hc := h0.cells (g := g) rfl i (.int .u8 (zs.getD i 0)) (by simp [cellsU8, List.getD, List.getElem?_eq_getElem hi])
    rw [Addr.add_lit] at hc
    exact hc
theorem Buf.view {w : World} {g u p d : Nat} {f : Nat → Int} (h : Buf w g f u) (hp : p + d ≤ 1024) (c : Nat) (hc : d ≤ c) (hc2 : c ≤ 1024) : View w (.slice (some ⟨g, p, none⟩) d c) ((List.range d).map fun q => f (p + q)) := by
  refine ⟨_, c, by simp, by simpa using hc, by unfold maxLen; omega, (fun e => by cases e), .inr ⟨g, p, rfl, fun i hi => ?_⟩⟩
  simp at hi
  rw [h.room (p + i) (by omega)]
  simp [List.getD, hi]
theorem Fresh.below {w v : World} {s : Nat} {h : Int} (k : Fresh w s h) (b : Below w.heap.size w v) : Fresh v s h := Rep.below k b
end Go.Proofs.YtcopkohklgbpgaaDoor
