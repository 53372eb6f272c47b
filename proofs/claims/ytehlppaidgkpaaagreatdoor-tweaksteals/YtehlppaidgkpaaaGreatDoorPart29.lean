import Derived.Test.YtehlppaidgkpaaaGreatDoorDgSpell
import Derived.Lib.SliceRun
import Derived.Deep.Cut
namespace Go.Proofs.YtehlppaidgkpaaaGreatDoor.Dg
open Go.RowKit
set_option linter.unusedVariables false
set_option linter.unusedSimpArgs false

/-- The cells of a taken, as a list. -/
def tkL (h : Int) (wd : Bool) (s : Eight) (half : Nat → Int) (fed : Nat) : List Value :=
  .int .i64 h :: fnV wd :: (s.cells ++ ((List.range 128).map (fun i => Value.int .u8 (half i)) ++ [.int .u64 fed]))
theorem tkL_length (h : Int) (wd : Bool) (s : Eight) (half : Nat → Int) (fed : Nat) : (tkL h wd s half fed).length = 139 := by simp [tkL, Eight.cells_length]
theorem tkL_at (h : Int) (wd : Bool) (s : Eight) (half : Nat → Int) (fed : Nat) :
    (tkL h wd s half fed)[0]? = some (.int .i64 h) ∧ (tkL h wd s half fed)[1]? = some (fnV wd) ∧ (∀ i, i < 8 → (tkL h wd s half fed)[2 + i]? = s.cells[i]?) ∧ (∀ i, i < 128 → (tkL h wd s half fed)[10 + i]? = some (.int .u8 (half i))) ∧ (tkL h wd s half fed)[138]? = some (.int .u64 fed) := by
  have hc := s.cells_length
  refine ⟨rfl, rfl, ?_, ?_, ?_⟩
  · intro i hi
    rw [tkL, show 2 + i = (i + 1) + 1 by omega, List.getElem?_cons_succ, List.getElem?_cons_succ, List.getElem?_append_left (by omega)]
  · intro i hi
    rw [tkL, show 10 + i = ((8 + i) + 1) + 1 by omega, List.getElem?_cons_succ, List.getElem?_cons_succ, List.getElem?_append_right (by omega), List.getElem?_append_left (by simp; omega)]
    rw [hc, show 8 + i - 8 = i by omega]
    simp [hi]
  · rw [tkL, show 138 = (136 + 1) + 1 by omega, List.getElem?_cons_succ, List.getElem?_cons_succ, List.getElem?_append_right (by omega), List.getElem?_append_right (by simp; omega)]
    simp [hc]
theorem TK.range {w : World} {g o : Nat} {h : Int} {wd : Bool} {s : Eight} {half : Nat → Int} {fed : Nat} (k : TK w g o h wd s half fed) : w.rangeAt g o (tkL h wd s half fed) := by
  obtain ⟨h0, h1, h2, h3, h4⟩ := tkL_at h wd s half fed
  intro j v hv
  have hj : j < 139 := by
    by_cases hj : j < 139
    · exact hj
    · rw [List.getElem?_eq_none (by rw [tkL_length]; omega)] at hv; cases hv
  by_cases j0 : j = 0
  · subst j0; rw [h0] at hv; cases hv; exact k.hash
  by_cases j1 : j = 1
  · subst j1; rw [h1] at hv; cases hv; exact k.fn
  by_cases j2 : j < 10
  · obtain ⟨i, rfl⟩ : ∃ i, j = 2 + i := ⟨j - 2, by omega⟩
    rw [h2 i (by omega)] at hv
    rw [← Nat.add_assoc]
    exact k.st i v hv
  by_cases j3 : j < 138
  · obtain ⟨i, rfl⟩ : ∃ i, j = 10 + i := ⟨j - 10, by omega⟩
    rw [h3 i (by omega)] at hv
    rw [← Nat.add_assoc]
    cases hv
    exact k.half i (by omega)
  · obtain rfl : j = 138 := by omega
    rw [h4] at hv; cases hv; exact k.fed
theorem TK.of {w : World} {g o : Nat} {h : Int} {wd : Bool} {s : Eight} {half : Nat → Int} {fed : Nat} (hr : w.rangeAt g o (tkL h wd s half fed)) (ht : w.there g o 139) : TK w g o h wd s half fed := by
  obtain ⟨h0, h1, h2, h3, h4⟩ := tkL_at h wd s half fed
  refine ⟨hr 0 _ h0, hr 1 _ h1, fun j v hv => ?_, fun i hi => ?_, hr 138 _ h4, ht⟩
  · have hj : j < 8 := by
      by_cases hj : j < s.cells.length
      · exact hj
      · rw [List.getElem?_eq_none (by omega)] at hv; cases hv
    have := hr (2 + j) v (by rw [h2 j hj]; exact hv)
    rw [← Nat.add_assoc] at this
    exact this
  · have := hr (10 + i) _ (h3 i hi)
    rw [← Nat.add_assoc] at this
    exact this
theorem cells_oneE (s : Eight) : ∀ v ∈ s.cells, v.oneCell' = true := by
  intro v hv
  simp only [Eight.cells, List.mem_map] at hv
  obtain ⟨x, _, rfl⟩ := hv
  rfl
theorem tkL_one (h : Int) (wd : Bool) (s : Eight) (half : Nat → Int) (fed : Nat) : (tkL h wd s half fed).toArray.all (·.oneCell') = true := all_oneCell_toArray (by
  intro v hv
  simp only [tkL, List.mem_cons, List.mem_append, List.mem_map, List.mem_singleton] at hv
  rcases hv with rfl | rfl | hv | ⟨i, _, rfl⟩ | rfl | hv
  · rfl
  · cases wd <;> rfl
  · exact cells_oneE s v hv
  · rfl
  · rfl
  · simp at hv)
theorem tkArr_size (h : Int) (wd : Bool) (s : Eight) (half : Nat → Int) (fed : Nat) : (tkL h wd s half fed).toArray.size = 139 := by simp [tkL_length]

end Go.Proofs.YtehlppaidgkpaaaGreatDoor.Dg
namespace Go.Proofs.YtehlppaidgkpaaaGreatDoor.Dg
open Go.RowKit
set_option linter.unusedVariables false
set_option linter.unusedSimpArgs false

theorem TK.below {w v : World} {g o : Nat} {h : Int} {wd : Bool} {s : Eight} {half : Nat → Int} {fed : Nat} (k : TK w g o h wd s half fed) (b : Below w.heap.size w v) : TK v g o h wd s half fed := by
  have hg : g < w.heap.size := lt_of_cell k.hash
  exact ⟨by rw [b.cell hg]; exact k.hash, by rw [b.cell (p := ⟨g, o + 1, none⟩) hg]; exact k.fn, range_below k.st b hg, fun i hi => by rw [b.cell (p := ⟨g, o + 10 + i, none⟩) hg]; exact k.half i hi, by rw [b.cell (p := ⟨g, o + 138, none⟩) hg]; exact k.fed, fun j hj => by rw [b.cell (p := ⟨g, o + j, none⟩) hg, b.frozen (p := ⟨g, o + j, none⟩) hg]; exact k.there j hj⟩
theorem TK.setByte {w : World} {g o : Nat} {h : Int} {wd : Bool} {s : Eight} {half : Nat → Int} {fed : Nat} (k : TK w g o h wd s half fed) (u : Nat) (x : Int) (hu : u < 128) :
    TK (w.setCell ⟨g, o + 10 + u, none⟩ (.int .u8 x)) g o h wd s (fun i => if i = u then x else half i) fed ∧ Touch w (w.setCell ⟨g, o + 10 + u, none⟩ (.int .u8 x)) g o 139 := by
  have hx := k.setHalf u [x] (by simp; omega)
  refine ⟨?_, hx.2⟩
  have e : (fun i => if u ≤ i ∧ i < u + [x].length then [x].getD (i - u) 0 else half i) = fun i => if i = u then x else half i := by
    funext i
    by_cases hi : i = u
    · subst hi; simp
    · rw [if_neg (by simp; omega), if_neg hi]
  rw [e] at hx
  exact hx.1
theorem TK.clear {w : World} {g o : Nat} {h : Int} {wd : Bool} {s : Eight} {half : Nat → Int} {fed : Nat} (k : TK w g o h wd s half fed) (u n : Nat) (hu : u + n ≤ 128) :
    TK (w.setCells g (o + 10 + u) (List.replicate n (.int .u8 0))) g o h wd s (fun i => if u ≤ i ∧ i < u + n then 0 else half i) fed ∧ Touch w (w.setCells g (o + 10 + u) (List.replicate n (.int .u8 0))) g o 139 := by
  have hx := k.setHalf u (List.replicate n 0) (by simp; omega)
  have e1 : cellsU8 (List.replicate n 0) = List.replicate n (.int .u8 0) := by simp [cellsU8]
  rw [e1] at hx
  refine ⟨?_, hx.2⟩
  have e : (fun i => if u ≤ i ∧ i < u + (List.replicate n (0 : Int)).length then (List.replicate n (0 : Int)).getD (i - u) 0 else half i) = fun i => if u ≤ i ∧ i < u + n then 0 else half i := by
    funext i
    by_cases hi : u ≤ i ∧ i < u + n
    · rw [if_pos (by simpa using hi), if_pos hi]
      simp only [List.getD, List.getElem?_replicate]
      split <;> rfl
    · rw [if_neg (by simpa using hi), if_neg hi]
  rw [e] at hx
  exact hx.1
theorem TK.fun_eq {w : World} {g o : Nat} {h : Int} {wd : Bool} {s : Eight} {half half' : Nat → Int} {fed : Nat} (k : TK w g o h wd s half fed) (e : ∀ i, i < 128 → half i = half' i) : TK w g o h wd s half' fed :=
  ⟨k.hash, k.fn, k.st, fun i hi => by rw [← e i hi]; exact k.half i hi, k.fed, k.there⟩
theorem TK.newer {w : World} {g o : Nat} {h : Int} {wd : Bool} {s : Eight} {half : Nat → Int} {fed b : Nat} (k : TK w g o h wd s half fed) (hb : g ≠ b) (vs : List Value) (o' : Nat) : TK (w.setCells b o' vs) g o h wd s half fed := by
  have ho : ∀ p : Addr, p.block = g → (w.setCells b o' vs).cell? p = w.cell? p := fun p hp => World.cell?_setCells_out b vs o' w p (fun e _ => absurd (hp.symm.trans e) hb)
  exact ⟨by rw [ho _ rfl]; exact k.hash, by rw [ho _ rfl]; exact k.fn, fun j v hv => by rw [ho _ rfl]; exact k.st j v hv, fun i hi => by rw [ho _ rfl]; exact k.half i hi, by rw [ho _ rfl]; exact k.fed, World.there_setCells k.there b o' vs⟩
theorem touch_new {w v : World} {g o n : Nat} (h : Touch w v g o n) {b : Nat} (hb : w.heap.size ≤ b) (vs : List Value) (o' : Nat) (hg : g < w.heap.size) : Touch w (v.setCells b o' vs) g o n :=
  ⟨by rw [setCells_os]; exact h.os, by rw [setCells_tape]; exact h.tape, by rw [setCells_output]; exact h.output, by rw [size_setCells]; exact h.size,
    fun k hk hne => by rw [World.heap_setCells_other v b o' vs (by have := h.size; omega) (by omega)]; exact h.block k hk hne,
    fun j hj => by rw [World.cell?_setCells_out b vs o' v ⟨g, j, none⟩ (fun e _ => absurd e (by simp; omega))]; exact h.cell j hj,
    fun o2 n2 ht => World.there_setCells (h.there o2 n2 ht) b o' vs⟩
theorem zero5 (w : World) : (zeroValue 5).run Tryz.prog w = .ok (.int .u8 0) w := by kernel_rfl
theorem clear_eq (w : World) (ty : TypeId) (g o n c : Nat) (ht : w.there g o n) : (Builtin.clear_ #[22] ty #[.slice (some ⟨g, o, none⟩) n c]).run Tryz.prog w = .ok (.tuple #[]) (w.setCells g o (List.replicate n (.int .u8 0))) := by
  by_cases hn : n = 0
  · subst hn
    simp [Builtin.clear_, World.setCells, run_underlying Tryz.underlying22]
  · exact Go.Lib.run_clear_slice w 22 5 ty (.int .u8 0) Tryz.underlying22 (fun w => zero5 w) rfl rfl g o n c (by omega) (fun j hj => (ht j hj).1) (fun j hj => (ht j hj).2)
/-- How many blocks the bytes that are left and the padding make. -/
def padN (bs fed : Nat) : Nat := if fed % bs + 1 ≤ bs - bs / 8 then 1 else 2
def padF (bs : Nat) (half : Nat → Int) (fed : Nat) (i : Nat) : Int :=
  if i < fed % bs then half i else if i = fed % bs then 128 else if i + 8 < padN bs fed * bs then 0 else ((fed : Int) * 8) / 2 ^ (8 * (padN bs fed * bs - 1 - i)) % 256
end Go.Proofs.YtehlppaidgkpaaaGreatDoor.Dg
