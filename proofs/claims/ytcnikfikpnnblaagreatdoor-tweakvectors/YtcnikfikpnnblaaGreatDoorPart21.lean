import Derived.Test.YtcnikfikpnnblaaGreatDoorPart01
import Derived.Test.YtcnikfikpnnblaaGreatDoorPart20
import Derived.Lib.LazyBuf
import Derived.Test.YtcnikfikpnnblaaGreatDoorPart19
import Derived.Laws.Concat
import Derived.Maps.AppendAt
import Derived.Deep.QuietTactic
import Derived.BigQuiet
import Derived.Deep.Draws
import Derived.Deep.OwnRows
import Derived.Deep.DeepMust
import Derived.Laws.AppendOwnNone
namespace Go.Proofs.YtcnikfikpnnblaaGreatDoor
open Go.RowKit
set_option linter.unusedVariables false
set_option linter.unusedSimpArgs false
theorem view_lt {w : World} {v : Value} {zs : List Int} (hv : View w v zs) (h0 : zs ≠ []) : ∀ b off l c, v = .slice (some ⟨b, off, none⟩) l c → b < w.heap.size := fun b off l c e => by
  obtain ⟨a, cap, e1, h1, h2, h3, h4⟩ := hv
  rcases h4 with h4 | ⟨b', p', e2, hc⟩
  · exact absurd h4 h0
  · rw [e] at e1
    injection e1 with e3 _ _
    rw [e2] at e3
    injection e3 with e3
    injection e3 with e4 _
    have := World.block_lt_of_cell? w _ (hc 0 (by cases zs with | nil => exact absurd rfl h0 | cons _ _ => simp))
    simp at this
    omega
theorem view_sliced {w : World} {a : Option Addr} {n cap : Nat} {zs : List Int} (hv : View w (.slice a n cap) zs) (i j : Nat) (hij : i ≤ j) (hj : j ≤ n) : View w (sliced a i j cap 1) ((zs.drop i).take (j - i)) := by
  obtain ⟨a', c, he, h1, h2, h3, h4⟩ := hv
  injection he with e1 e2 e3
  subst e1 e2 e3
  have hl : ((zs.drop i).take (j - i)).length = j - i := by simp; omega
  refine ⟨if cap = i then a else a.map (·.add (i * 1)), cap - i, by rw [sliced, hl], by omega, by omega, ?_, ?_⟩
  · intro e
    split at e
    · omega
    · have : a = none := by cases a with | none => rfl | some x => cases e
      have := h3 this
      omega
  · by_cases hz : (zs.drop i).take (j - i) = []
    · exact .inl hz
    · right
      have hlt : i < j := by
        by_cases hlt : i < j
        · exact hlt
        · exact absurd (by rw [show j - i = 0 by omega, List.take_zero]) hz
      rcases h4 with rfl | ⟨b, off, rfl, hc⟩
      · simp at hj; omega
      · refine ⟨b, off + i, ?_, fun k hk => ?_⟩
        · rw [if_neg (by omega), Option.map_some, Nat.mul_one, Addr.add_mid]
        · rw [hl] at hk
          rw [Nat.add_assoc, hc (i + k) (by omega)]
          simp [List.getD, List.getElem?_take, hk]
theorem elem22 : Tryz.prog.elem 24 = 5 := by kernel_rfl
theorem und22 : Tryz.prog.underlying 24 = some (.slice (Tryz.prog.elem 24)) := by kernel_rfl
theorem sizeOf5 (w : World) : (Go.sizeOf 5).run Tryz.prog w = .ok 1 w := by kernel_rfl
theorem slice_h (w : World) (a : Option Addr) (n cap j : Nat) (hj : j ≤ cap) : (Instr.slice 24 (.slice a n cap) none (some (.int .i64 j)) none).run Tryz.prog w = .ok (sliced a 0 j cap 1) w := by
  rw [run_slice_h w 24 a n cap und22 .i64 j (by omega) (by omega), elem22, sizeOf5]
  simp [Result.andThen]
theorem slice_l (w : World) (a : Option Addr) (n cap i : Nat) (hi : i ≤ n) (hn : n ≤ cap) : (Instr.slice 24 (.slice a n cap) (some (.int .i64 i)) none none).run Tryz.prog w = .ok (sliced a i n cap 1) w := by
  rw [run_slice_l w 24 a n cap und22 .i64 i (by omega) (by omega), elem22, sizeOf5]
  simp [Result.andThen]

/-- A list of bytes as numbers. -/
def nat8 (zs : List Int) (i : Nat) : Nat := (zs.getD i 0).toNat
theorem nat8_lt {zs : List Int} (h : AllBytes zs) (i : Nat) : nat8 zs i < 256 := by have := h i; unfold nat8; omega
theorem nat8_eq {zs : List Int} (h : AllBytes zs) (i : Nat) : ((nat8 zs i : Nat) : Int) = zs.getD i 0 := by have := h i; unfold nat8; omega
theorem View.below {w u : World} {v : Value} {zs : List Int} (h : View w v zs) (hb : Below w.heap.size w u) : View u v zs := h.kept hb.block
/-- What is owned can be read. -/
theorem view_owns {w : World} {B n : Nat} {v : Value} {zs : List Int} (h : w.ownsRow B 5 1 v n (cellsU8 zs)) (hn : zs.length = n) : View w v zs := by
  have h0 := h
  rcases h.2 with ⟨rfl, e0⟩ | ⟨g, c, cur, rfl, q1, q2, q3, q4, q5, q6⟩
  · refine ⟨none, 0, by rw [hn, e0], by omega, by simp [maxLen], fun _ => rfl, Or.inl (List.eq_nil_of_length_eq_zero (by omega))⟩
  · refine ⟨some ⟨g, 0, none⟩, c, by rw [hn], by omega, q4, (fun e => by cases e), Or.inr ⟨g, 0, rfl, fun i hi => ?_⟩⟩
    have hc := h0.cells (g := g) rfl i (.int .u8 (zs.getD i 0)) (by simp [cellsU8, List.getD, List.getElem?_eq_getElem hi])
    rw [Addr.add_lit] at hc
    exact hc

theorem vcells {w : World} {x : Addr} {n c : Nat} {zs : List Int} (h : View w (.slice (some x) n c) zs) : ∀ j u, (cellsU8 zs)[j]? = some u → w.cell? (x.add j) = some u := by
  obtain ⟨a, c', he, h1, h2, h3, h4⟩ := h
  injection he with e1 e2 e3
  rcases h4 with rfl | ⟨b, off, he, hcell⟩
  · intro j u hu
    simp [cellsU8] at hu
  · rw [← e1] at he
    cases he
    exact cellsU8_at zs w b off hcell
set_option maxHeartbeats 800000 in
set_option maxRecDepth 100000 in
theorem clone_some (x : Addr) (n cap : Nat) (zs : List Int) (w : World) (hl : Hid (zs.length = n)) (hn : n ≤ 100000) (hc : Hid (∀ j u, (cellsU8 zs)[j]? = some u → w.cell? (x.add j) = some u)) :
    Calls Tryz.prog 68 #[.slice (some x) n cap] w fun e w' => ∃ v, e = .returned v ∧ w'.ownsRow w.heap.size 5 1 v n (cellsU8 zs) ∧ Below w.heap.size w w' := by
  obtain ⟨i0, hi, hz0, hz1, hz2⟩ := info_parts Tryz.info5
  have hnl : ∀ w, (binOp .eql 24 (.slice (some x) n cap) (.slice none 0 0)).run Tryz.prog w = .ok (.bool false) w := fun w => run_eql_slice_nil w 24 5 (some x) n cap Tryz.underlying24
  go_enter Tryz.func68, Tryz.ntmps68
  go_wp2_with (first
    | (at_builtin; go_must (refine wpList_append_own _ rfl (.tmp 5) (.tmp 6) 24 rfl w.heap.size 5 i0 (.int .u8 0) 1 1 Tryz.underlying24 hi hz0 hz1 hz2 rfl (by decide) _ 0 [] rfl (World.ownsRow_made w #[] 0 (Nat.le_refl _) (by unfold maxLen; omega) rfl) x n cap (cellsU8 zs) rfl ?_ ?_ (cellsU8_one zs) ?_ ?_ ?_ ?_)))
  · rw [cellsU8_length, hl.out, Nat.mul_one]
  · intro j u hu
    have := hc.out j u hu
    rw [World.cell?_alloc_lt w _ _ (World.block_lt_of_cell? w _ this)]
    exact this
  · unfold maxLen; omega
  · omega
  · simp
  intro v1 w1 hown hgrow hnil
  have HO : Hid (w1.ownsRow w.heap.size 5 1 v1 n (cellsU8 zs)) := by
    show w1.ownsRow w.heap.size 5 1 v1 n (cellsU8 zs)
    simpa using hown
  have HB : Hid (Below w.heap.size w w1) := ((Below.refl _ _).alloc (Nat.le_refl _) _).grown hgrow (by simp) (by intro k hk; cases hk; exact Nat.le_refl _)
  clear hown hgrow hnil
  go_wp2
  go_ret
  exact ⟨_, rfl, HO.out, HB.out⟩
set_option maxHeartbeats 800000 in
theorem clone_nil (w : World) : Calls Tryz.prog 68 #[.slice none 0 0] w fun e w' => e = .returned (.slice none 0 0) ∧ w' = w := by
  have hnl : ∀ w, (binOp .eql 24 (.slice none 0 0) (.slice none 0 0)).run Tryz.prog w = .ok (.bool true) w := fun w => run_eql_slice_nil w 24 5 none 0 0 Tryz.underlying24
  go_enter Tryz.func68, Tryz.ntmps68
  go_wp2
  go_ret
  exact ⟨rfl, rfl⟩
/-- slices.Clone of bytes. -/
theorem clone_any (v : Value) (zs : List Int) (w : World) (hn : zs.length ≤ 100000) (h : View w v zs) :
    Calls Tryz.prog 68 #[v] w fun e w' => ∃ v', e = .returned v' ∧ w'.ownsRow w.heap.size 5 1 v' zs.length (cellsU8 zs) ∧ Below w.heap.size w w' := by
  have h0 := h
  obtain ⟨a, c, rfl, h1, h2, h3, h4⟩ := h
  cases a with
  | none =>
    obtain rfl := h3 rfl
    have hz : zs = [] := List.eq_nil_of_length_eq_zero (by omega)
    subst hz
    refine (clone_nil w).mono ?_
    rintro e w' ⟨rfl, hw⟩
    subst hw
    exact ⟨_, rfl, World.ownsRow_nil _ _ _ _, Below.refl _ _⟩
  | some x => exact clone_some x zs.length c zs w rfl hn (vcells h0)
end Go.Proofs.YtcnikfikpnnblaaGreatDoor
namespace Go.Proofs.YtcnikfikpnnblaaGreatDoor
open Go.RowKit
set_option linter.unusedVariables false
/-- Of mode k: how many keys of AES, how many bytes more, the step; begin and build. -/
def mK (k : Nat) : Nat := [1, 1, 1, 1, 1, 1, 1, 1, 2, 1, 2, 2, 2, 2, 1, 1, 1].getD k 0
def mM (k : Nat) : Nat := [0, 0, 0, 0, 0, 0, 0, 0, 0, 32, 0, 0, 0, 0, 16, 0, 0].getD k 0
def mS (k : Nat) : Nat := [16, 16, 16, 16, 16, 16, 16, 16, 16, 16, 1, 1, 1, 1, 16, 1, 1].getD k 0
def fV (n : Nat) : Value := .func (.func n) #[] #[]
def mB (k : Nat) : Value := [.nilFunc, fV 87, fV 89, fV 90, fV 91, fV 92, fV 93, fV 94, fV 94, fV 96, fV 89, fV 90, fV 91, fV 93, fV 92, fV 89, fV 90].getD k .nilFunc
def mU (k : Nat) : Nat := [86, 88, 88, 88, 88, 88, 88, 88, 95, 97, 98, 98, 98, 98, 99, 100, 100].getD k 0
theorem mode_lit (k : Nat) (hk : k < 17) : modesL.getD k [] = [.string (nmB k), .int .i64 (mK k : Nat), .int .i64 (mM k : Nat), .int .i64 (mS k : Nat), mB k, fV (mU k)] := by
  match k, hk with
  | 0, _ => rfl
  | 1, _ => rfl
  | 2, _ => rfl
  | 3, _ => rfl
  | 4, _ => rfl
  | 5, _ => rfl
  | 6, _ => rfl
  | 7, _ => rfl
  | 8, _ => rfl
  | 9, _ => rfl
  | 10, _ => rfl
  | 11, _ => rfl
  | 12, _ => rfl
  | 13, _ => rfl
  | 14, _ => rfl
  | 15, _ => rfl
  | 16, _ => rfl
  | n + 17, h => exact absurd h (by omega)
/-- The suite of width 16 + 8 i and mode k. -/
def sxL (i k : Nat) : List Value := [.string (sxN i k), .int .i64 ((16 + 8 * i : Nat) : Int), .string (nmB k), .int .i64 (mK k : Nat), .int .i64 (mM k : Nat), .int .i64 (mS k : Nat), mB k, fV (mU k)]
theorem sxF_lit (i k : Nat) (hk : k < 17) : sxF (1 + 17 * i + k) = sxL i k := by rw [sxF_at i k hk, mode_lit k hk]; rfl
theorem spN_lit (i k : Nat) (hk : k < 17) : spN (1 + 17 * i + k) = sxN i k := by rw [spN, sxF_lit i k hk]; rfl
set_option maxHeartbeats 800000 in
set_option maxRecDepth 100000 in
/-- suite.keySize, of any eight cells. -/
theorem keySize_ok (S T : ByteArray) (wd a b c : Nat) (f g : Value) (w : World) (ha : a ≤ 2) (hw : wd ≤ 32) (hb : b ≤ 32) (hf : f.oneCell' = true) (hg : g.oneCell' = true) :
    Calls Tryz.prog 44 #[.agg #[.string S, .int .i64 (wd : Nat), .string T, .int .i64 (a : Nat), .int .i64 (b : Nat), .int .i64 (c : Nat), f, g]] w fun e w' => e = .returned (.int .i64 ((a * wd + b : Nat) : Int)) ∧ Below w.heap.size w w' := by
  have h1 : a * wd ≤ 64 := Nat.le_trans (Nat.mul_le_mul ha hw) (by decide)
  have e1 : IntKind.i64.wrap ((a : Int) * (wd : Int)) = ((a * wd : Nat) : Int) := by rw [IntKind.wrap_i64]; push_cast; have := h1; omega
  have E2 : Hid (wrap64 ((a : Int) * (wd : Int) + (b : Int)) = ((a * wd + b : Nat) : Int)) := by
    show wrap64 ((a : Int) * (wd : Int) + (b : Int)) = ((a * wd + b : Nat) : Int)
    rw [← Int.natCast_mul]; unfold wrap64; omega
  have hsF : ∀ u ad md, (store ad f md).run Tryz.prog u = stored Tryz.prog u ad f md := fun u ad md => run_store Tryz.prog u ad f md hf
  have hsG : ∀ u ad md, (store ad g md).run Tryz.prog u = stored Tryz.prog u ad g md := fun u ad md => run_store Tryz.prog u ad g md hg
  clear ha hw hb hf hg h1
  go_enter Tryz.func44, Tryz.ntmps44
  go_wp2
  go_ret
  refine ⟨?_, (Below.refl _ _).alloc (Nat.le_refl _) _⟩
  show Ending.returned (.int .i64 (wrap64 ((a : Int) * (wd : Int) + (b : Int)))) = _
  rw [E2.out]
end Go.Proofs.YtcnikfikpnnblaaGreatDoor
namespace Go.Proofs.YtcnikfikpnnblaaGreatDoor
open Go.RowKit
set_option linter.unusedVariables false
def zRw : List Value := [.string ⟨#[]⟩, .string ⟨#[]⟩, .string ⟨#[]⟩, .int .i64 0, .int .i64 0]
structure FrI (w0 w1 w2 wr : World) (g cap : Nat) : Prop where
  own : w2.ownsRow w1.heap.size 35 5 (.slice (some ⟨g, 0, none⟩) 52 cap) 52 (fl rwF 52)
  b2 : Below w1.heap.size w1 w2
  br : Below w2.heap.size w2 wr
  w1 : w1 = w0.alloc (.cells zRw.toArray 35)
theorem FrI.box {w0 w1 w2 wr : World} {g cap : Nat} (h : FrI w0 w1 w2 wr g cap) : Bx wr w0.heap.size 35 zRw := by
  have e1 : w1.heap[w0.heap.size]? = some (.cells zRw.toArray 35 (0, 0)) := by rw [h.w1]; exact heap_alloc_new w0 _
  have l1 : w0.heap.size < w1.heap.size := by rw [h.w1]; simp
  unfold Bx
  rw [h.br.block _ (Nat.lt_of_lt_of_le l1 h.b2.size), h.b2.block _ l1, e1]
theorem FrI.bel {w0 w1 w2 wr : World} {g cap : Nat} (h : FrI w0 w1 w2 wr g cap) : Below w0.heap.size w0 wr := by
  have b0 : Below w0.heap.size w0 w1 := by rw [h.w1]; exact (Below.refl _ _).alloc (Nat.le_refl _) _
  have b1 := b0.trans (h.b2.mono b0.size)
  exact b1.trans (h.br.mono b1.size)
end Go.Proofs.YtcnikfikpnnblaaGreatDoor
namespace Go.Proofs.YtcnikfikpnnblaaGreatDoor
open Go.RowKit
set_option linter.unusedVariables false
set_option linter.unusedSimpArgs false
/-- A row of texts that is written on. -/
structure SpT (w wr : World) (b : Nat) (v : Value) (n : Nat) : Prop where
  own : ∃ g cap xs, v = .slice (some ⟨g, 0, none⟩) n cap ∧ wr.ownsRow 0 9 1 v n xs ∧ (g = b ∨ w.heap.size ≤ g)
  gr : w.grownBy wr (some b)
theorem ownT_set {w : World} {B g n cap i : Nat} {e : TypeId} {xs : List Value} (h : w.ownsRow B e 1 (.slice (some ⟨g, 0, none⟩) n cap) n xs) (x : Value) : ∃ ys, (w.setCell ⟨g, i, none⟩ x).ownsRow B e 1 (.slice (some ⟨g, 0, none⟩) n cap) n ys := by
  obtain ⟨hl, h⟩ := h
  rcases h with ⟨q, _⟩ | ⟨g', cap', cur, q, hb, hh, h1, h2, h3, h4⟩
  · cases q
  · injection q with q1 q2 q3
    injection q1 with q1
    injection q1 with q1
    subst q1 q3
    refine ⟨(cur.setIfInBounds i x).toList.take (n * 1), ?_, .inr ⟨g, cap, cur.setIfInBounds i x, rfl, hb, bo_same w g i cur e x hh, h1, h2, by simpa using h3, rfl⟩⟩
    simp
    rw [h3]
    omega
theorem SpT.set {w wr : World} {b g n cap i : Nat} (h : SpT w wr b (.slice (some ⟨g, 0, none⟩) n cap) n) (x : Value) : SpT w (wr.setCell ⟨g, i, none⟩ x) b (.slice (some ⟨g, 0, none⟩) n cap) n := by
  obtain ⟨g', cap', xs, e, ho, hg⟩ := h.own
  injection e with e1 e2 e3
  injection e1 with e1
  injection e1 with e1
  subst e1 e3
  obtain ⟨ys, hy⟩ := ownT_set ho x (i := i)
  refine ⟨⟨g, cap, ys, rfl, hy, hg⟩, ?_⟩
  have q := set_gb wr g i x
  refine ⟨q.os.trans h.gr.os, q.tape.trans h.gr.tape, q.output.trans h.gr.output, Nat.le_trans h.gr.size q.size, fun k hk hn => ?_⟩
  rw [q.block k (Nat.lt_of_lt_of_le hk h.gr.size) (by
    intro e
    injection e with e
    rcases hg with hg | hg
    · exact hn (by rw [e, hg])
    · omega)]
  exact h.gr.block k hk hn
end Go.Proofs.YtcnikfikpnnblaaGreatDoor
