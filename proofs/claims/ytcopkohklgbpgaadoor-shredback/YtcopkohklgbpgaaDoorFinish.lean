import Derived.Test.YtcopkohklgbpgaaDoorSpell
import Derived.Lib.SliceRun
import Derived.Deep.Cut
namespace Go.Proofs.YtcopkohklgbpgaaDoor
open Go.RowKit
set_option linter.unusedVariables false
set_option linter.unusedSimpArgs false

theorem TK.below {w v : World} {g o : Nat} {h : Int} {wd : Bool} {s : Eight} {half : Nat → Int} {fed : Nat} (k : TK w g o h wd s half fed) (b : Below w.heap.size w v) : TK v g o h wd s half fed := by
  have hg : g < w.heap.size := lt_of_cell k.hash
  exact ⟨by rw [b.cell hg]; exact k.hash, by rw [b.cell (p := ⟨g, o + 1, none⟩) hg]; exact k.fn, range_below k.st b hg, fun i hi => by rw [b.cell (p := ⟨g, o + 10 + i, none⟩) hg]; exact k.half i hi, by rw [b.cell (p := ⟨g, o + 138, none⟩) hg]; exact k.fed, fun j hj => by rw [b.cell (p := ⟨g, o + j, none⟩) hg, b.frozen (p := ⟨g, o + j, none⟩) hg]; exact k.there j hj⟩
theorem TK.setByte {w : World} {g o : Nat} {h : Int} {wd : Bool} {s : Eight} {half : Nat → Int} {fed : Nat} (k : TK w g o h wd s half fed) (u : Nat) (x : Int) (hu : u < 128) :
    TK (w.setCell ⟨g, o + 10 + u, none⟩ (.int .u8 x)) g o h wd s (fun i => if i = u then x else half i) fed ∧ Touch w (w.setCell ⟨g, o + 10 + u, none⟩ (.int .u8 x)) g o 139 := by
  have hx := k.setHalf u [x] (by simp; omega)
  refine ⟨?_, hx.2⟩
  have e : (fun i => if u ≤ i ∧ i < u + [x].length then [x].getD (i - u) 0 else half i) = fun i => if i = u then x else half i := by
    funext i
    by_cases hi : i = u
    · subst hi; simp
    · rw [if_neg (by simp; omega), if_neg hi]
  rw [e] at hx
  exact hx.1
theorem TK.clear {w : World} {g o : Nat} {h : Int} {wd : Bool} {s : Eight} {half : Nat → Int} {fed : Nat} (k : TK w g o h wd s half fed) (u n : Nat) (hu : u + n ≤ 128) :
    TK (w.setCells g (o + 10 + u) (List.replicate n (.int .u8 0))) g o h wd s (fun i => if u ≤ i ∧ i < u + n then 0 else half i) fed ∧ Touch w (w.setCells g (o + 10 + u) (List.replicate n (.int .u8 0))) g o 139 := by
  have hx := k.setHalf u (List.replicate n 0) (by simp; omega)
  have e1 : cellsU8 (List.replicate n 0) = List.replicate n (.int .u8 0) := by simp [cellsU8]
  rw [e1] at hx
  refine ⟨?_, hx.2⟩
  have e : (fun i => if u ≤ i ∧ i < u + (List.replicate n (0 : Int)).length then (List.replicate n (0 : Int)).getD (i - u) 0 else half i) = fun i => if u ≤ i ∧ i < u + n then 0 else half i := by
    funext i
    by_cases hi : u ≤ i ∧ i < u + n
    · rw [if_pos (by simpa using hi), if_pos hi]
      simp only [List.getD, List.getElem?_replicate]
      split <;> rfl
    · rw [if_neg (by simpa using hi), if_neg hi]
  rw [e] at hx
  exact hx.1
theorem TK.fun_eq {w : World} {g o : Nat} {h : Int} {wd : Bool} {s : Eight} {half half' : Nat → Int} {fed : Nat} (k : TK w g o h wd s half fed) (e : ∀ i, i < 128 → half i = half' i) : TK w g o h wd s half' fed :=
  ⟨k.hash, k.fn, k.st, fun i hi => by rw [← e i hi]; exact k.half i hi, k.fed, k.there⟩
theorem TK.newer {w : World} {g o : Nat} {h : Int} {wd : Bool} {s : Eight} {half : Nat → Int} {fed b : Nat} (k : TK w g o h wd s half fed) (hb : g ≠ b) (vs : List Value) (o' : Nat) : TK (w.setCells b o' vs) g o h wd s half fed := by
  have ho : ∀ p : Addr, p.block = g → (w.setCells b o' vs).cell? p = w.cell? p := fun p hp => World.cell?_setCells_out b vs o' w p (fun e _ => absurd (hp.symm.trans e) hb)
  exact ⟨by rw [ho _ rfl]; exact k.hash, by rw [ho _ rfl]; exact k.fn, fun j v hv => by rw [ho _ rfl]; exact k.st j v hv, fun i hi => by rw [ho _ rfl]; exact k.half i hi, by rw [ho _ rfl]; exact k.fed, World.there_setCells k.there b o' vs⟩
theorem touch_new {w v : World} {g o n : Nat} (h : Touch w v g o n) {b : Nat} (hb : w.heap.size ≤ b) (vs : List Value) (o' : Nat) (hg : g < w.heap.size) : Touch w (v.setCells b o' vs) g o n :=
  ⟨by rw [setCells_os]; exact h.os, by rw [setCells_tape]; exact h.tape, by rw [setCells_output]; exact h.output, by rw [size_setCells]; exact h.size,
    fun k hk hne => by rw [World.heap_setCells_other v b o' vs (by have := h.size; omega) (by omega)]; exact h.block k hk hne,
    fun j hj => by rw [World.cell?_setCells_out b vs o' v ⟨g, j, none⟩ (fun e _ => absurd e (by simp; omega))]; exact h.cell j hj,
    fun o2 n2 ht => World.there_setCells (h.there o2 n2 ht) b o' vs⟩
theorem zero5 (w : World) : (zeroValue 5).run Tryd.prog w = .ok (.int .u8 0) w := by kernel_rfl
theorem clear_eq (w : World) (ty : TypeId) (g o n c : Nat) (ht : w.there g o n) : (Builtin.clear_ #[22] ty #[.slice (some ⟨g, o, none⟩) n c]).run Tryd.prog w = .ok (.tuple #[]) (w.setCells g o (List.replicate n (.int .u8 0))) := by
  by_cases hn : n = 0
  · subst hn
    simp [Builtin.clear_, World.setCells, run_underlying Tryd.underlying22]
  · exact Go.Lib.run_clear_slice w 22 5 ty (.int .u8 0) Tryd.underlying22 (fun w => zero5 w) rfl rfl g o n c (by omega) (fun j hj => (ht j hj).1) (fun j hj => (ht j hj).2)
/-- How many blocks the bytes that are left and the padding make. -/
def padN (bs fed : Nat) : Nat := if fed % bs + 1 ≤ bs - bs / 8 then 1 else 2
def padF (bs : Nat) (half : Nat → Int) (fed : Nat) (i : Nat) : Int :=
  if i < fed % bs then half i else if i = fed % bs then 128 else if i + 8 < padN bs fed * bs then 0 else ((fed : Int) * 8) / 2 ^ (8 * (padN bs fed * bs - 1 - i)) % 256
end Go.Proofs.YtcopkohklgbpgaaDoor
