import Derived.Test.YtcopkohklgbpgaaSame
import Derived.Laws.AppendOwnNone
import Derived.Deep.DeepMust
import Derived.Lib.SliceRun
import Derived.Deep.MidRow
import Derived.Deep.Cut
import Derived.Deep.CutRange
import Derived.Deep.AppendLies
import Derived.Deep.RegionHeld3
namespace Go.Proofs.Ytcopkohklgbpgaa
open Go.RowKit
set_option linter.unusedVariables false
set_option linter.unusedSimpArgs false
/-- Numbers that are bytes. -/
def AllBytes (zs : List Int) : Prop := ∀ i, 0 ≤ zs.getD i 0 ∧ zs.getD i 0 < 256
theorem Try.info5 : (Try.prog.info? 5).map (fun i => (i.zero, i.size, i.bytes)) = some (some (.int .u8 0), 1, 1) := by kernel_rfl


/-- Bytes as cells. -/
def cellsU8 (zs : List Int) : List Value := zs.map (Value.int .u8)
theorem cellsU8_append (a b : List Int) : cellsU8 (a ++ b) = cellsU8 a ++ cellsU8 b := by simp [cellsU8]
theorem cellsU8_length (a : List Int) : (cellsU8 a).length = a.length := by simp [cellsU8]
theorem cellsU8_one (a : List Int) : ∀ u ∈ cellsU8 a, u.oneCell' = true := by
  intro u hu
  obtain ⟨_, _, rfl⟩ := List.mem_map.1 hu
  rfl
theorem cellsU8_at (a : List Int) (w : World) (b off : Nat) (h : ∀ i, i < a.length → w.cell? ⟨b, off + i, none⟩ = some (.int .u8 (a.getD i 0))) :
    ∀ j u, (cellsU8 a)[j]? = some u → w.cell? ((⟨b, off, none⟩ : Addr).add j) = some u := by
  intro j u hu
  simp only [cellsU8, List.getElem?_map, Option.map_eq_some_iff] at hu
  obtain ⟨z, hz, rfl⟩ := hu
  have hj : j < a.length := (List.getElem?_eq_some_iff.1 hz).1
  have := h j hj
  rw [List.getD_eq_getElem?_getD, hz] at this
  rw [Addr.add_lit]
  simpa using this


theorem view_sliced {w : World} {a : Option Addr} {n cap : Nat} {zs : List Int} (hv : View w (.slice a n cap) zs) (i j : Nat) (hij : i ≤ j) (hj : j ≤ n) : View w (sliced a i j cap 1) ((zs.drop i).take (j - i)) := by
  obtain ⟨a', c, he, h1, h2, h3, h4⟩ := hv
  injection he with e1 e2 e3
  subst e1 e2 e3
  have hl : ((zs.drop i).take (j - i)).length = j - i := by simp; omega
  refine ⟨if cap = i then a else a.map (·.add (i * 1)), cap - i, by rw [sliced, hl], by omega, by omega, ?_, ?_⟩
  · intro e
    split at e
    · omega
    · have : a = none := by cases a with | none => rfl | some x => cases e
      have := h3 this
      omega
  · by_cases hz : (zs.drop i).take (j - i) = []
    · exact .inl hz
    · right
      have hlt : i < j := by
        by_cases hlt : i < j
        · exact hlt
        · exact absurd (by rw [show j - i = 0 by omega, List.take_zero]) hz
      rcases h4 with rfl | ⟨b, off, rfl, hc⟩
      · simp at hj; omega
      · refine ⟨b, off + i, ?_, fun k hk => ?_⟩
        · rw [if_neg (by omega), Option.map_some, Nat.mul_one, Addr.add_mid]
        · rw [hl] at hk
          rw [Nat.add_assoc, hc (i + k) (by omega)]
          simp [List.getD, List.getElem?_take, hk]
theorem elem22 : Try.prog.elem 22 = 5 := by kernel_rfl
theorem und22 : Try.prog.underlying 22 = some (.slice (Try.prog.elem 22)) := by kernel_rfl
theorem sizeOf5 (w : World) : (Go.sizeOf 5).run Try.prog w = .ok 1 w := by kernel_rfl
theorem slice_lh (w : World) (a : Option Addr) (n cap i j : Nat) (hij : i ≤ j) (hj : j ≤ cap) : (Instr.slice 22 (.slice a n cap) (some (.int .i64 i)) (some (.int .i64 j)) none).run Try.prog w = .ok (sliced a i j cap 1) w := by
  rw [run_slice_lh w 22 a n cap und22 .i64 .i64 i j (by omega) (by omega) (by omega), elem22, sizeOf5]
  simp [Result.andThen]
theorem slice_h (w : World) (a : Option Addr) (n cap j : Nat) (hj : j ≤ cap) : (Instr.slice 22 (.slice a n cap) none (some (.int .i64 j)) none).run Try.prog w = .ok (sliced a 0 j cap 1) w := by
  rw [run_slice_h w 22 a n cap und22 .i64 j (by omega) (by omega), elem22, sizeOf5]
  simp [Result.andThen]
theorem slice_l (w : World) (a : Option Addr) (n cap i : Nat) (hi : i ≤ n) (hn : n ≤ cap) : (Instr.slice 22 (.slice a n cap) (some (.int .i64 i)) none none).run Try.prog w = .ok (sliced a i n cap 1) w := by
  rw [run_slice_l w 22 a n cap und22 .i64 i (by omega) (by omega), elem22, sizeOf5]
  simp [Result.andThen]


theorem zero5 (w : World) : (zeroValue 5).run Try.prog w = .ok (.int .u8 0) w := by kernel_rfl
theorem clear_eq (w : World) (ty : TypeId) (g o n c : Nat) (ht : w.there g o n) : (Builtin.clear_ #[22] ty #[.slice (some ⟨g, o, none⟩) n c]).run Try.prog w = .ok (.tuple #[]) (w.setCells g o (List.replicate n (.int .u8 0))) := by
  by_cases hn : n = 0
  · subst hn
    simp [Builtin.clear_, World.setCells, run_underlying Try.underlying22]
  · exact Go.Lib.run_clear_slice w 22 5 ty (.int .u8 0) Try.underlying22 (fun w => zero5 w) rfl rfl g o n c (by omega) (fun j hj => (ht j hj).1) (fun j hj => (ht j hj).2)

theorem View.kept {w w' : World} {v : Value} {zs : List Int} (h : View w v zs) (hb : ∀ k, k < w.heap.size → w'.heap[k]? = w.heap[k]?) : View w' v zs := by
  obtain ⟨a, c, rfl, h1, h2, h3, h4⟩ := h
  refine ⟨a, c, rfl, h1, h2, h3, ?_⟩
  rcases h4 with h4 | ⟨b, off, rfl, hc⟩
  · exact .inl h4
  · refine .inr ⟨b, off, rfl, fun i hi => ?_⟩
    have := hc i hi
    have hlt := World.block_lt_of_cell? w _ this
    rw [World.cell?_of_block (w := w) (hb b hlt)]
    exact this


theorem view_owns {w : World} {B n : Nat} {v : Value} {zs : List Int} (h : w.ownsRow B 5 1 v n (cellsU8 zs)) (hn : zs.length = n) : View w v zs := by
  have h0 := h
  rcases h.2 with ⟨rfl, e0⟩ | ⟨g, c, cur, rfl, q1, q2, q3, q4, q5, q6⟩
  · refine ⟨none, 0, by rw [hn, e0], by omega, by simp [maxLen], fun _ => rfl, Or.inl (List.eq_nil_of_length_eq_zero (by omega))⟩
  · refine ⟨some ⟨g, 0, none⟩, c, by rw [hn], by omega, q4, (fun e => by cases e), Or.inr ⟨g, 0, rfl, fun i hi => ?_⟩⟩
    have hc := h0.cells (g := g) rfl i (.int .u8 (zs.getD i 0)) (by simp [cellsU8, List.getD, List.getElem?_eq_getElem hi])
    rw [Addr.add_lit] at hc
    exact hc

end Go.Proofs.Ytcopkohklgbpgaa
