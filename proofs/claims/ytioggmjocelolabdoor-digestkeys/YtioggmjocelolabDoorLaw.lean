import Derived.Test.YtioggmjocelolabDoorDCode
import Derived.Test.YtioggmjocelolabDoorSpoilNil
namespace Go.Proofs.YtioggmjocelolabDoor
open Go.RowKit
set_option linter.unusedVariables false
set_option linter.unusedSimpArgs false

theorem view_lt {w : World} {v : Value} {zs : List Int} (hv : View w v zs) (h0 : zs ≠ []) : ∀ b off l c, v = .slice (some ⟨b, off, none⟩) l c → b < w.heap.size := fun b off l c e => by
  obtain ⟨a, cap, e1, h1, h2, h3, h4⟩ := hv
  rcases h4 with h4 | ⟨b', p', e2, hc⟩
  · exact absurd h4 h0
  · rw [e] at e1
    injection e1 with e3 _ _
    rw [e2] at e3
    injection e3 with e3
    injection e3 with e4 _
    have := lt_of_cell (hc 0 (by cases zs with | nil => exact absurd rfl h0 | cons _ _ => simp))
    simp at this
    omega
theorem view_sliced {w : World} {a : Option Addr} {n cap : Nat} {zs : List Int} (hv : View w (.slice a n cap) zs) (i j : Nat) (hij : i ≤ j) (hj : j ≤ n) : View w (sliced a i j cap 1) ((zs.drop i).take (j - i)) := by
  obtain ⟨a', c, he, h1, h2, h3, h4⟩ := hv
  injection he with e1 e2 e3
  subst e1 e2 e3
  have hl : ((zs.drop i).take (j - i)).length = j - i := by simp; omega
  refine ⟨if cap = i then a else a.map (·.add (i * 1)), cap - i, by rw [sliced, hl], by omega, by omega, ?_, ?_⟩
  · intro e
    split at e
    · omega
    · have : a = none := by cases a with | none => rfl | some x => cases e
      have := h3 this
      omega
  · by_cases hz : (zs.drop i).take (j - i) = []
    · exact .inl hz
    · right
      have hlt : i < j := by
        by_cases hlt : i < j
        · exact hlt
        · exact absurd (by rw [show j - i = 0 by omega, List.take_zero]) hz
      rcases h4 with rfl | ⟨b, off, rfl, hc⟩
      · simp at hj; omega
      · refine ⟨b, off + i, ?_, fun k hk => ?_⟩
        · rw [if_neg (by omega), Option.map_some, Nat.mul_one, Addr.add_mid]
        · rw [hl] at hk
          rw [Nat.add_assoc, hc (i + k) (by omega)]
          simp [List.getD, List.getElem?_take, hk]
theorem elem22 : Tryd.prog.elem 22 = 5 := by kernel_rfl
theorem und22 : Tryd.prog.underlying 22 = some (.slice (Tryd.prog.elem 22)) := by kernel_rfl
theorem sizeOf5 (w : World) : (Go.sizeOf 5).run Tryd.prog w = .ok 1 w := by kernel_rfl
theorem slice_lh (w : World) (a : Option Addr) (n cap i j : Nat) (hij : i ≤ j) (hj : j ≤ cap) : (Instr.slice 22 (.slice a n cap) (some (.int .i64 i)) (some (.int .i64 j)) none).run Tryd.prog w = .ok (sliced a i j cap 1) w := by
  rw [run_slice_lh w 22 a n cap und22 .i64 .i64 i j (by omega) (by omega) (by omega), elem22, sizeOf5]
  simp [Result.andThen]
theorem slice_h (w : World) (a : Option Addr) (n cap j : Nat) (hj : j ≤ cap) : (Instr.slice 22 (.slice a n cap) none (some (.int .i64 j)) none).run Tryd.prog w = .ok (sliced a 0 j cap 1) w := by
  rw [run_slice_h w 22 a n cap und22 .i64 j (by omega) (by omega), elem22, sizeOf5]
  simp [Result.andThen]
theorem slice_l (w : World) (a : Option Addr) (n cap i : Nat) (hi : i ≤ n) (hn : n ≤ cap) : (Instr.slice 22 (.slice a n cap) (some (.int .i64 i)) none none).run Tryd.prog w = .ok (sliced a i n cap 1) w := by
  rw [run_slice_l w 22 a n cap und22 .i64 i (by omega) (by omega), elem22, sizeOf5]
  simp [Result.andThen]

/-- Slices of slices that are built. -/
theorem parts1_alloc {u : World} (t : TypeId) (x : Value) (ys : List Int) (g : Nat) (hx : View u x ys) (hg : u.heap.size ≠ g) (hox : ys ≠ [] → ∀ b off l c, x = .slice (some ⟨b, off, none⟩) l c → b ≠ g) : Parts (u.alloc (.cells #[x] t)) g (.slice (some ⟨u.heap.size, 0, none⟩) 1 1) [ys] := by
  refine ⟨_, 1, rfl, by simp, by simp [maxLen], .inr ⟨u.heap.size, 0, rfl, hg, fun i hi => ?_⟩⟩
  obtain rfl : i = 0 := by simpa using hi
  exact ⟨x, World.cell?_alloc_at _ _ _ _ rfl, hx.kept (fun q hq => Below.heap_alloc u _ q hq), hox⟩
theorem parts2_alloc {u : World} (t : TypeId) (x y : Value) (ys zs : List Int) (g : Nat) (hx : View u x ys) (hy : View u y zs) (hg : u.heap.size ≠ g) (hox : ys ≠ [] → ∀ b off l c, x = .slice (some ⟨b, off, none⟩) l c → b ≠ g) (hoy : zs ≠ [] → ∀ b off l c, y = .slice (some ⟨b, off, none⟩) l c → b ≠ g) : Parts (u.alloc (.cells #[x, y] t)) g (.slice (some ⟨u.heap.size, 0, none⟩) 2 2) [ys, zs] := by
  refine ⟨_, 2, rfl, by simp, by simp [maxLen], .inr ⟨u.heap.size, 0, rfl, hg, fun i hi => ?_⟩⟩
  have hi' : i < 2 := by simpa using hi
  match i, hi' with
  | 0, _ => exact ⟨x, World.cell?_alloc_at _ _ _ _ rfl, hx.kept (fun q hq => Below.heap_alloc u _ q hq), hox⟩
  | 1, _ => exact ⟨y, World.cell?_alloc_at _ _ _ _ rfl, hy.kept (fun q hq => Below.heap_alloc u _ q hq), hoy⟩
theorem view_nil (w : World) : View w (.slice none 0 0) [] := ⟨none, 0, rfl, by simp, by simp [maxLen], fun _ => rfl, .inl rfl⟩
/-- A Marked copy's own row, without its marks. -/
theorem marked_owns {B : Nat} {w : World} {v : Value} {zs : List Int} (h : Marked B w v zs) : ∃ g c, v = .slice (some ⟨g, 0, none⟩) zs.length c ∧ B ≤ g ∧ g < w.heap.size ∧ w.ownsRow B 5 1 v zs.length (cellsU8 zs) := by
  obtain ⟨g, c, rfl, hl, ho⟩ := h
  rcases ho with ⟨h, _⟩ | ⟨g', c', cur, he, h1, h2, h3, h4, h5, h6⟩
  · cases h
  · injection he with e1 e2 e3
    injection e1 with e1
    injection e1 with e4 _
    subst e4 e3
    refine ⟨g, c, rfl, h1, (Array.getElem?_eq_some_iff.1 h2).1, by rw [cellsU8_length]; omega, .inr ⟨g, c, cur, rfl, h1, h2, by omega, h4, h5, ?_⟩⟩
    have e1 : cur.toList.take (zs.length * 1) = (cur.toList.take ((zs.length + 70) * 1)).take zs.length := by
      rw [List.take_take]
      congr 1
      omega
    rw [e1, h6, cellsU8_append, List.take_append_of_le_length (by rw [cellsU8_length]; exact Nat.le_refl _), List.take_of_length_le (by rw [cellsU8_length]; exact Nat.le_refl _)]

/-- What a run over a stream and a Mac keeps: the blocks that were there, but the two that are written. -/
structure Run (w w4 u : World) (s0 m0 gs gm : Nat) (h : Int) (si so : Eight) (zs zm : List Int) : Prop where
  bel : Below w.heap.size w u
  size : w4.heap.size ≤ u.heap.size
  kept : ∀ q, q < w4.heap.size → q ≠ s0 → q ≠ m0 → u.heap[q]? = w4.heap[q]?
  gsW : gs = s0 ∨ w4.heap.size ≤ gs
  gmW : gm = m0 ∨ w4.heap.size ≤ gm
  ne : gs ≠ gm
  sB : w.heap.size ≤ gs
  mB : w.heap.size ≤ gm
  sr : Rep u gs 0 h (wdOf h) (firstE h) 0 zs
  mr : MRep u gm h si so zm
theorem Rep.lt {w : World} {g o : Nat} {h : Int} {wd : Bool} {s : Eight} {f0 : Nat} {zs : List Int} (k : Rep w g o h wd s f0 zs) : g < w.heap.size := by obtain ⟨half, hk, _⟩ := k; exact lt_of_cell hk.hash
theorem MRep.below {w v : World} {g : Nat} {h : Int} {si so : Eight} {zs : List Int} (m : MRep w g h si so zs) (b : Below w.heap.size w v) : MRep v g h si so zs := ⟨m.1.below b, m.2.below b⟩
theorem MRep.far {w v : World} {g g' o' n : Nat} {h : Int} {si so : Eight} {zs : List Int} (m : MRep w g h si so zs) (b : Touch w v g' o' n) (hne : g ≠ g') : MRep v g h si so zs := ⟨m.1.far b hne, m.2.far b hne⟩
section
variable {w w4 u v : World} {s0 m0 gs gm : Nat} {h : Int} {si so : Eight} {zs zm : List Int}
theorem Run.below (r : Run w w4 u s0 m0 gs gm h si so zs zm) (b : Below u.heap.size u v) : Run w w4 v s0 m0 gs gm h si so zs zm :=
  ⟨r.bel.trans (b.mono r.bel.size), Nat.le_trans r.size b.size, fun q h1 h2 h3 => (b.block q (Nat.lt_of_lt_of_le h1 r.size)).trans (r.kept q h1 h2 h3), r.gsW, r.gmW, r.ne, r.sB, r.mB, r.sr.below b, r.mr.below b⟩
theorem Run.touchS (r : Run w w4 u s0 m0 gs gm h si so zs zm) (t : Touch u v gs 0 139) {zs' : List Int} (hs : Rep v gs 0 h (wdOf h) (firstE h) 0 zs') : Run w w4 v s0 m0 gs gm h si so zs' zm :=
  ⟨r.bel.trans (t.toBelow r.sB r.bel.size), Nat.le_trans r.size t.size, fun q h1 h2 h3 => (t.block q (Nat.lt_of_lt_of_le h1 r.size) (by rcases r.gsW with e | e <;> omega)).trans (r.kept q h1 h2 h3), r.gsW, r.gmW, r.ne, r.sB, r.mB, hs, r.mr.far t r.ne.symm⟩
theorem Run.touchM (r : Run w w4 u s0 m0 gs gm h si so zs zm) (t : Touch u v gm 0 139) {zm' : List Int} (hs : MRep v gm h si so zm') : Run w w4 v s0 m0 gs gm h si so zs zm' :=
  ⟨r.bel.trans (t.toBelow r.mB r.bel.size), Nat.le_trans r.size t.size, fun q h1 h2 h3 => (t.block q (Nat.lt_of_lt_of_le h1 r.size) (by rcases r.gmW with e | e <;> omega)).trans (r.kept q h1 h2 h3), r.gsW, r.gmW, r.ne, r.sB, r.mB, r.sr.far t r.ne, hs⟩
theorem Run.view (r : Run w w4 u s0 m0 gs gm h si so zs zm) {x : Value} {ys : List Int} (hv : View w4 x ys) (ho : ∀ b off l c, x = .slice (some ⟨b, off, none⟩) l c → b ≠ s0 ∧ b ≠ m0) : View u x ys := by
  have hv' := hv
  obtain ⟨a, cap, e, h1, h2, h3, h4⟩ := hv
  refine ⟨a, cap, e, h1, h2, h3, ?_⟩
  rcases h4 with h4 | ⟨b, off, rfl, hc⟩
  · exact .inl h4
  · by_cases h0 : ys = []
    · exact .inl h0
    · refine .inr ⟨b, off, rfl, fun i hi => ?_⟩
      have hb := view_lt hv' h0 b off _ _ e
      have := ho b off _ _ e
      rw [World.cell?_of_block (r.kept b hb this.1 this.2)]
      exact hc i hi
theorem Run.arg (r : Run w w4 u s0 m0 gs gm h si so zs zm) {x : Value} {ys : List Int} (hv : View w x ys) : View u x ys := hv.kept (fun q hq => r.bel.block q hq)
theorem Run.tables (r : Run w w4 u s0 m0 gs gm h si so zs zm) (hT : Tables w) : Tables u := hT.below r.bel hT.size
theorem Run.sm (r : Run w w4 u s0 m0 gs gm h si so zs zm) (t : Sm u v) : Run w w4 v s0 m0 gs gm h si so zs zm := by
  refine r.below ⟨t.os, t.tape, t.output, by rw [t.heap]; exact Nat.le_refl _, fun k _ => by rw [t.heap]⟩
theorem Run.grown (r : Run w w4 u s0 m0 gs gm h si so zs zm) {q : Nat} (t : u.grownBy v (some q)) (hq : w4.heap.size ≤ q) (hqw : w.heap.size ≤ q) (h1 : q ≠ gs) (h2 : q ≠ gm) : Run w w4 v s0 m0 gs gm h si so zs zm := by
  have hb : ∀ k, k < u.heap.size → k ≠ q → v.heap[k]? = u.heap[k]? := fun k hk hk2 => t.block k hk (fun e => hk2 (by injection e))
  have hcs : ∀ p : Addr, p.block = gs → v.cell? p = u.cell? p := fun p hp => World.cell?_of_block (by rw [hp]; exact hb gs r.sr.lt h1.symm)
  have hfs : ∀ p : Addr, p.block = gs → v.frozen? p = u.frozen? p := fun p hp => World.frozen?_of_block (by rw [hp]; exact hb gs r.sr.lt h1.symm)
  have hcm : ∀ p : Addr, p.block = gm → v.cell? p = u.cell? p := fun p hp => World.cell?_of_block (by rw [hp]; exact hb gm r.mr.1.lt h2.symm)
  have hfm : ∀ p : Addr, p.block = gm → v.frozen? p = u.frozen? p := fun p hp => World.frozen?_of_block (by rw [hp]; exact hb gm r.mr.1.lt h2.symm)
  have hk : ∀ {g : Nat} {wd : Bool} {s : Eight} {half : Nat → Int} {fed : Nat}, (∀ p : Addr, p.block = g → v.cell? p = u.cell? p) → (∀ p : Addr, p.block = g → v.frozen? p = u.frozen? p) → TK u g 0 h wd s half fed → TK v g 0 h wd s half fed := fun hc hf k =>
    ⟨by rw [hc _ rfl]; exact k.hash, by rw [hc _ rfl]; exact k.fn, fun j x hx => by rw [hc _ rfl]; exact k.st j x hx, fun i hi => by rw [hc _ rfl]; exact k.half i hi, by rw [hc _ rfl]; exact k.fed, fun j hj => by rw [hc _ rfl, hf _ rfl]; exact k.there j hj⟩
  refine ⟨r.bel.trans ⟨t.os, t.tape, t.output, t.size, fun k hk => hb k (Nat.lt_of_lt_of_le hk r.bel.size) (by omega)⟩, Nat.le_trans r.size t.size, fun k k1 k2 k3 => (hb k (Nat.lt_of_lt_of_le k1 r.size) (by omega)).trans (r.kept k k1 k2 k3), r.gsW, r.gmW, r.ne, r.sB, r.mB, ?_, ?_, ?_⟩
  · obtain ⟨half, k, q1, q2⟩ := r.sr
    exact ⟨half, hk hcs hfs k, q1, q2⟩
  · obtain ⟨half, k, q1, q2⟩ := r.mr.1
    exact ⟨half, hk hcm hfm k, q1, q2⟩
  · exact ⟨fun j x hx => by rw [hcm _ rfl]; exact r.mr.2.inner j x hx, fun j x hx => by rw [hcm _ rfl]; exact r.mr.2.outer j x hx, fun j hj => by rw [hcm _ rfl, hfm _ rfl]; exact r.mr.2.there j hj⟩
end
end Go.Proofs.YtioggmjocelolabDoor
