import Derived.Test.YtohhjohpdfbdoaaXa
import Derived.Test.YtohhjohpdfbdoaaPa
namespace Go.Proofs.Ytohhjohpdfbdoaa
open Go.RowKit
attribute [local go_sem ↓] Go.wp_at_zero Go.wp_at_succ
set_option linter.unusedVariables false
set_option linter.unusedSimpArgs false
variable {w w' : World} {s : ByteArray} {i j : Nat}
theorem strOf_append (a b : List Int) : strOfNums a ++ strOfNums b = strOfNums (a ++ b) := by
  apply ByteArray.ext
  simp [strOfNums]
def St.code : St → Int
  | .ahead => 0 | .command _ => 1 | .second _ => 2 | .named _ => 3 | .key _ => 4 | .begun _ => 5 | .bare _ _ => 6 | .quoted _ _ => 7 | .stroke _ _ => 8 | .first _ _ => 9 | .other _ _ _ => 10 | .shut _ _ => 11 | .comment => 12
/-- What the reference's variables hold. -/
def St.holds (wd vl : List Int) (hf : Int) : St → Prop
  | .ahead => vl = [] | .command w => wd = w ∧ vl = [] | .second w => wd = w ∧ vl = [] | .named w => wd = w ∧ vl = [] | .key w => wd = w ∧ vl = [] | .begun w => wd = w ∧ vl = []
  | .bare w v => wd = w ∧ vl = v | .quoted w v => wd = w ∧ vl = v | .stroke w v => wd = w ∧ vl = v | .first w v => wd = w ∧ vl = v | .other w v h => wd = w ∧ vl = v ∧ hf = h ∧ 0 ≤ h ∧ h < 16 | .shut w v => wd = w ∧ vl = v | .comment => True
structure Iv (w : World) (s : ByteArray) (st : St) (a : Acc) (i : Nat) (wd vl : List Int) (hf : Int) (W : World) : Prop where
  lb : Lb w a W
  af : a.f ≤ i
  wlen : wd.length ≤ i
  vlen : vl.length ≤ i
  rel : st.holds wd vl hf
  ol : a.opts.length ≤ i
  R : R s 0 acc0 .ahead = R s i a st
structure Gd (w : World) (s : ByteArray) (a : Acc) (W : World) : Prop where
  lb : Lb w a W
  ol : a.opts.length ≤ 4097
  R : R s 0 acc0 .ahead = .good a
theorem results_ref {w : World} {S : Nat} {x y z u v : Value} {tmps : Array Value} (hS : w.heap[S]? = some (.cells #[x, y, z] 25 (0, 0)))
    (h2 : tmps.getD 2 undef = .pointer (some ⟨S, 0, none⟩)) (h3 : tmps.getD 3 undef = u) (h4 : tmps.getD 4 undef = v) : (results Try.f9 tmps).run Try.prog w = .ok (.tuple #[.agg #[x, y, z], u, v]) w := by
  have h2' : tmps[2]?.getD undef = .pointer (some ⟨S, 0, none⟩) := by simpa using h2
  have h3' : tmps[3]?.getD undef = u := by simpa using h3
  have h4' : tmps[4]?.getD undef = v := by simpa using h4
  have c0 : w.cell? ⟨S, 0, none⟩ = some x := by simp [World.cell?, hS]
  have c1 : w.cell? ⟨S, 1, none⟩ = some y := by simp [World.cell?, hS]
  have c2 : w.cell? ⟨S, 2, none⟩ = some z := by simp [World.cell?, hS]
  simp [results, Try.results9, h2', h3', h4', asAddr, go_sem, c0, c1, c2]
/-- The zero line is stored into the answer. -/
theorem Lb.zero {a : Acc} {W : World} (h : Lb w a W) :
    (((W.setCell ⟨w.heap.size, 0, none⟩ (.string ⟨#[]⟩)).setCell ⟨w.heap.size, 1, none⟩ (.string ⟨#[]⟩)).setCell ⟨w.heap.size, 2, none⟩ (.slice none 0 0)).heap[w.heap.size]? = some (.cells #[.string ⟨#[]⟩, .string ⟨#[]⟩, .slice none 0 0] 25 (0, 0)) ∧
    Below w.heap.size w (((W.setCell ⟨w.heap.size, 0, none⟩ (.string ⟨#[]⟩)).setCell ⟨w.heap.size, 1, none⟩ (.string ⟨#[]⟩)).setCell ⟨w.heap.size, 2, none⟩ (.slice none 0 0)) := by
  have h3 := set_block (set_block (set_block h.z0 0 (.string ⟨#[]⟩)) 1 (.string ⟨#[]⟩)) 2 (.slice none 0 0)
  simp only [List.setIfInBounds_toArray, List.set_cons_zero, List.set_cons_succ] at h3
  exact ⟨h3, h.b.grown (grown_set3 W w.heap.size _ _ _) (by have := h.size; omega) (fun k e => by cases e; exact Nat.le_refl _)⟩
/-- What a walk wants to know of the three lines. -/
structure Lc (w : World) (a : Acc) (vp : Option Addr) (vc : Nat) (W : World) : Prop where
  p0 : W.cell? ⟨w.heap.size + 1, 0, none⟩ = some (.string ⟨#[]⟩)
  p1 : W.cell? ⟨w.heap.size + 1, 1, none⟩ = some (.string ⟨#[]⟩)
  p2 : W.cell? ⟨w.heap.size + 1, 2, none⟩ = some (.slice none 0 0)
  q0 : W.cell? ⟨w.heap.size, 0, none⟩ = some (.string ⟨#[]⟩)
  q1 : W.cell? ⟨w.heap.size, 1, none⟩ = some (.string ⟨#[]⟩)
  q2 : W.cell? ⟨w.heap.size, 2, none⟩ = some (.slice none 0 0)
  r0 : W.frozen? ⟨w.heap.size, 0, none⟩ = false
  r1 : W.frozen? ⟨w.heap.size, 1, none⟩ = false
  r2 : W.frozen? ⟨w.heap.size, 2, none⟩ = false
  s0 : W.cell? ⟨w.heap.size + 2, 0, none⟩ = some (.string (strOfNums a.cmd))
  s1 : W.cell? ⟨w.heap.size + 2, 1, none⟩ = some (.string (strOfNums a.name))
  s2 : W.cell? ⟨w.heap.size + 2, 2, none⟩ = some (.slice vp a.opts.length vc)
  t0 : W.frozen? ⟨w.heap.size + 2, 0, none⟩ = false
  t1 : W.frozen? ⟨w.heap.size + 2, 1, none⟩ = false
  t2 : W.frozen? ⟨w.heap.size + 2, 2, none⟩ = false
theorem Lb.lc {a : Acc} {W : World} (h : Lb w a W) : ∃ vp vc, Lc w a vp vc W ∧ W.ownsRow (w.heap.size + 3) 31 2 (.slice vp a.opts.length vc) a.opts.length (optL a.opts) ∧ W.heap[w.heap.size + 2]? = some (.cells #[.string (strOfNums a.cmd), .string (strOfNums a.name), .slice vp a.opts.length vc] 25 (0, 0)) := by
  obtain ⟨v, hv, hr⟩ := h.said
  obtain ⟨vp, vc, rfl⟩ := own_slice hr
  have z0 := h.z0
  have z1 := h.z1
  refine ⟨vp, vc, ⟨?_, ?_, ?_, ?_, ?_, ?_, ?_, ?_, ?_, ?_, ?_, ?_, ?_, ?_, ?_⟩, hr, hv⟩ <;> simp [World.cell?, World.frozen?, z0, z1, hv]
theorem Lc.still {a : Acc} {vp : Option Addr} {vc : Nat} {W : World} (h : Lc w a vp vc W) (hs : w.heap.size + 3 ≤ W.heap.size) (o : Obj) : Lc w a vp vc (W.alloc o) := by
  have g := World.grownBy_alloc W o none
  have c : ∀ p : Addr, p.block < w.heap.size + 3 → (W.alloc o).cell? p = W.cell? p := fun p hp => World.cell?_of_block (g.block _ (by omega) (by simp))
  have f : ∀ p : Addr, p.block < w.heap.size + 3 → (W.alloc o).frozen? p = W.frozen? p := fun p hp => World.frozen?_of_block (g.block _ (by omega) (by simp))
  exact ⟨(c _ (by simp)).trans h.p0, (c _ (by simp)).trans h.p1, (c _ (by simp)).trans h.p2, (c _ (by simp)).trans h.q0, (c _ (by simp)).trans h.q1, (c _ (by simp)).trans h.q2, (f _ (by simp)).trans h.r0, (f _ (by simp)).trans h.r1, (f _ (by simp)).trans h.r2,
    (c _ (by simp)).trans h.s0, (c _ (by simp)).trans h.s1, (c _ (by simp)).trans h.s2, (f _ (by simp)).trans h.t0, (f _ (by simp)).trans h.t1, (f _ (by simp)).trans h.t2⟩
/-- The body of the first loop. -/
def loopBody : Code → Option Code
  | .seq a b => match loopBody a with
    | some c => some c
    | none => loopBody b
  | .block _ c => loopBody c
  | .scope c => loopBody c
  | .loop c => some c
  | _ => none
/-- The activation's slots that stay. -/
structure Fx (s : ByteArray) (w : World) (a : Act) : Prop where
  d : a.defers = []
  sz : a.tmps.size = 233
  t0 : a.tmps.getD 0 undef = .string s
  t2 : a.tmps.getD 2 undef = .pointer (some ⟨w.heap.size, 0, none⟩)
  t5 : a.tmps.getD 5 undef = .pointer (some ⟨w.heap.size + 1, 0, none⟩)
  t6 : a.tmps.getD 6 undef = .pointer (some ⟨w.heap.size + 2, 0, none⟩)
structure Sl (a : Act) (k : Int) (f : Nat) (wd vl : List Int) (hf : Int) (i : Nat) : Prop where
  s7 : a.tmps.getD 7 undef = .int .i64 k
  s8 : a.tmps.getD 8 undef = .int .i64 (f : Nat)
  s9 : a.tmps.getD 9 undef = .string (strOfNums wd)
  s10 : a.tmps.getD 10 undef = .string (strOfNums vl)
  s11 : a.tmps.getD 11 undef = .int .i64 hf
  s12 : a.tmps.getD 12 undef = .int .i64 (i : Nat)
theorem list_range (l : List Value) (n : Nat) (h : l.length = n) : l = (List.range n).map fun k => l.getD k undef := by
  apply List.ext_getElem
  · simp [h]
  · intro i h1 h2
    simp [List.getD, List.getElem?_eq_getElem h1]
theorem frame9 (a : Act) (hd : a.defers = []) (hs : a.tmps.size = 233) : ∃ x : Nat → Value, (∀ k, x k = a.tmps.getD k undef) ∧ a = { tmps := #[x 0, x 1, x 2, x 3, x 4, x 5, x 6, x 7, x 8, x 9, x 10, x 11, x 12, x 13, x 14, x 15, x 16, x 17, x 18, x 19, x 20, x 21, x 22, x 23, x 24, x 25, x 26, x 27, x 28, x 29, x 30, x 31, x 32, x 33, x 34, x 35, x 36, x 37, x 38, x 39, x 40, x 41, x 42, x 43, x 44, x 45, x 46, x 47, x 48, x 49, x 50, x 51, x 52, x 53, x 54, x 55, x 56, x 57, x 58, x 59, x 60, x 61, x 62, x 63, x 64, x 65, x 66, x 67, x 68, x 69, x 70, x 71, x 72, x 73, x 74, x 75, x 76, x 77, x 78, x 79, x 80, x 81, x 82, x 83, x 84, x 85, x 86, x 87, x 88, x 89, x 90, x 91, x 92, x 93, x 94, x 95, x 96, x 97, x 98, x 99, x 100, x 101, x 102, x 103, x 104, x 105, x 106, x 107, x 108, x 109, x 110, x 111, x 112, x 113, x 114, x 115, x 116, x 117, x 118, x 119, x 120, x 121, x 122, x 123, x 124, x 125, x 126, x 127, x 128, x 129, x 130, x 131, x 132, x 133, x 134, x 135, x 136, x 137, x 138, x 139, x 140, x 141, x 142, x 143, x 144, x 145, x 146, x 147, x 148, x 149, x 150, x 151, x 152, x 153, x 154, x 155, x 156, x 157, x 158, x 159, x 160, x 161, x 162, x 163, x 164, x 165, x 166, x 167, x 168, x 169, x 170, x 171, x 172, x 173, x 174, x 175, x 176, x 177, x 178, x 179, x 180, x 181, x 182, x 183, x 184, x 185, x 186, x 187, x 188, x 189, x 190, x 191, x 192, x 193, x 194, x 195, x 196, x 197, x 198, x 199, x 200, x 201, x 202, x 203, x 204, x 205, x 206, x 207, x 208, x 209, x 210, x 211, x 212, x 213, x 214, x 215, x 216, x 217, x 218, x 219, x 220, x 221, x 222, x 223, x 224, x 225, x 226, x 227, x 228, x 229, x 230, x 231, x 232], defers := [] } := by
  obtain ⟨tm, df⟩ := a
  simp only at hd hs
  subst hd
  refine ⟨fun k => tm.getD k undef, fun k => rfl, ?_⟩
  have h := list_range tm.toList 233 (by simpa using hs)
  have e : (fun k => tm.toList.getD k undef) = fun k => tm.getD k undef := by
    funext k
    simp [List.getD, Array.getD_eq_getD_getElem?]
  rw [e] at h
  generalize (fun k => tm.getD k undef) = x at h ⊢
  have h2 : tm = (tm.toList).toArray := by simp
  rw [h2, h]
  rfl
/-- What is owed behind a round. -/
structure Nx (s : ByteArray) (w : World) (i : Nat) (Q : Exit → Act → World → Prop) : Prop where
  hN : i < s.size → ∀ (a' : Act) (W' : World) (acc : Acc) (st : St) (wd vl : List Int) (hf : Int), Fx s w a' → Sl a' st.code acc.f wd vl hf (i + 1) → Iv w s st acc (i + 1) wd vl hf W' → Q .normal a' W'
  hG : i = s.size → ∀ (a' : Act) (W' : World) (acc : Acc), Fx s w a' → a'.tmps.getD 12 undef = .int .i64 ((i + 1 : Nat) : Int) → Gd w s acc W' → Q .normal a' W'
  hB : ∀ (a' : Act) (W' : World), a'.defers = [] → a'.tmps.getD 2 undef = .pointer (some ⟨w.heap.size, 0, none⟩) → a'.tmps.getD 3 undef = .int .i64 160 → a'.tmps.getD 4 undef = .int .i64 ((i + 1 : Nat) : Int) → parse s = .bad (i + 1) →
    W'.heap[w.heap.size]? = some (.cells #[.string ⟨#[]⟩, .string ⟨#[]⟩, .slice none 0 0] 25 (0, 0)) → Below w.heap.size w W' → Q .ret a' W'
end Go.Proofs.Ytohhjohpdfbdoaa
