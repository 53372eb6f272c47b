import Derived.Test.YtcnikfikpnnblaaGreatDoorNmc
import Derived.Deep.OwnRows
import Derived.Test.YtcnikfikpnnblaaGreatDoorPart08
import Derived.Deep.RegionHeld3
import Derived.Test.YtcnikfikpnnblaaGreatDoorPart04
import Derived.Test.YtcnikfikpnnblaaGreatDoorPart03
import Derived.Test.YtcnikfikpnnblaaGreatDoorPart07
import Derived.WalkKit
import Derived.Laws.BitsAllLaws
import Derived.Laws.Bits64
import Derived.Test.YtcnikfikpnnblaaGreatDoorPart10
namespace Go.Proofs.YtcnikfikpnnblaaGreatDoor
open Go.RowKit
set_option linter.unusedVariables false
/-- The name of suite j. -/
def spN (j : Nat) : ByteArray := match sxF j with
  | .string s :: _ => s
  | _ => ⟨#[]⟩
theorem sx_row (j : Nat) : ∃ (a x y z : Int) (s : ByteArray) (f g : Value), sxF j = [.string (spN j), .int .i64 a, .string s, .int .i64 x, .int .i64 y, .int .i64 z, f, g] ∧ f.oneCell' = true ∧ g.oneCell' = true := by
  cases j with
  | zero => exact ⟨_, _, _, _, _, _, _, rfl, rfl, rfl⟩
  | succ j =>
    obtain ⟨a, b, c, f, g, h, hf⟩ := mode_at (j % 17) (Nat.mod_lt _ (by decide))
    refine ⟨((16 + 8 * (j / 17) : Nat) : Int), a, b, c, nmB (j % 17), f, .func (.func g) #[] #[], ?_, by rcases hf with rfl | ⟨m, rfl⟩ <;> rfl, rfl⟩
    rw [spN, sxF, h]
/-- The names behind i rounds. -/
def nmC (i : Nat) : List Value := (List.range 52).map fun j => .string (if j < i then spN j else ⟨#[]⟩)
structure SpI (w1 wr : World) (i : Nat) : Prop where
  row : wr.heap[w1.heap.size]? = some (.cells (nmC i).toArray 9 (0, 0))
  bel : Below w1.heap.size w1 wr
theorem SpI.below {w1 wr wx : World} {i : Nat} (h : SpI w1 wr i) (b : Below wr.heap.size wr wx) : SpI w1 wx i := by
  have hlt : w1.heap.size < wr.heap.size := by
    rcases Nat.lt_or_ge w1.heap.size wr.heap.size with q | q
    · exact q
    · have := h.row; rw [Array.getElem?_eq_none q] at this; cases this
  exact ⟨by rw [b.block _ hlt]; exact h.row, h.bel.trans (b.mono h.bel.size)⟩
theorem sp_cell {w0 w1 wr : World} {g cap i j : Nat} (h : w1.ownsRow w0.heap.size 85 8 (.slice (some ⟨g, 0, none⟩) 52 cap) 52 (fl sxF 52)) (b : Below w1.heap.size w1 wr) (hi : i < 52) (hj : j < 8) : wr.cell? ⟨g, i * 8 + j, none⟩ = (sxF i)[j]? := by
  have hlt := (ownsRow_lt h (g := g) rfl).2
  rw [b.cell (p := ⟨g, i * 8 + j, none⟩) hlt]
  have e := fl_at sxF 8 sxF_len 52 i j hi hj
  have hx : j < (sxF i).length := by rw [sxF_len]; exact hj
  rw [List.getElem?_eq_getElem hx] at e ⊢
  have q := World.ownsRow.cells h (g := g) rfl (i * 8 + j) _ e
  rw [Addr.add_lit, Nat.zero_add] at q
  exact q
end Go.Proofs.YtcnikfikpnnblaaGreatDoor
namespace Go.Proofs.YtcnikfikpnnblaaGreatDoor
open Go.RowKit
set_option linter.unusedVariables false
/-- The document's table of ways: a row each. -/
def refL : List (List Value) := [[.string ⟨#[101, 99, 98]⟩, .string ⟨#[101, 99, 98]⟩, .string ⟨#[]⟩, .int .i64 0],
  [.string ⟨#[99, 98, 99, 45, 110, 117, 108, 108]⟩, .string ⟨#[99, 98, 99]⟩, .string ⟨#[110, 117, 108, 108]⟩, .int .i64 0],
  [.string ⟨#[99, 98, 99, 45, 112, 108, 97, 105, 110]⟩, .string ⟨#[99, 98, 99]⟩, .string ⟨#[112, 108, 97, 105, 110]⟩, .int .i64 0],
  [.string ⟨#[99, 98, 99, 45, 112, 108, 97, 105, 110, 54, 52]⟩, .string ⟨#[99, 98, 99]⟩, .string ⟨#[112, 108, 97, 105, 110, 54, 52]⟩, .int .i64 0],
  [.string ⟨#[99, 98, 99, 45, 112, 108, 97, 105, 110, 54, 52, 98, 101]⟩, .string ⟨#[99, 98, 99]⟩, .string ⟨#[112, 108, 97, 105, 110, 54, 52, 98, 101]⟩, .int .i64 0],
  [.string ⟨#[99, 98, 99, 45, 98, 101, 110, 98, 105]⟩, .string ⟨#[99, 98, 99]⟩, .string ⟨#[98, 101, 110, 98, 105]⟩, .int .i64 0],
  [.string ⟨#[99, 98, 99, 45, 101, 115, 115, 105, 118, 58, 115, 104, 97, 50, 53, 54]⟩, .string ⟨#[99, 98, 99]⟩, .string ⟨#[101, 115, 115, 105, 118]⟩, .int .i64 0],
  [.string ⟨#[99, 98, 99, 45, 101, 98, 111, 105, 118]⟩, .string ⟨#[99, 98, 99]⟩, .string ⟨#[101, 98, 111, 105, 118]⟩, .int .i64 0],
  [.string ⟨#[99, 98, 99, 45, 101, 108, 101, 112, 104, 97, 110, 116]⟩, .string ⟨#[101, 108, 101, 112, 104, 97, 110, 116]⟩, .string ⟨#[101, 98, 111, 105, 118]⟩, .int .i64 (-1)],
  [.string ⟨#[99, 98, 99, 45, 116, 99, 119]⟩, .string ⟨#[116, 99, 119]⟩, .string ⟨#[116, 99, 119]⟩, .int .i64 32],
  [.string ⟨#[120, 116, 115, 45, 112, 108, 97, 105, 110]⟩, .string ⟨#[120, 116, 115]⟩, .string ⟨#[112, 108, 97, 105, 110]⟩, .int .i64 (-1)],
  [.string ⟨#[120, 116, 115, 45, 112, 108, 97, 105, 110, 54, 52]⟩, .string ⟨#[120, 116, 115]⟩, .string ⟨#[112, 108, 97, 105, 110, 54, 52]⟩, .int .i64 (-1)],
  [.string ⟨#[120, 116, 115, 45, 112, 108, 97, 105, 110, 54, 52, 98, 101]⟩, .string ⟨#[120, 116, 115]⟩, .string ⟨#[112, 108, 97, 105, 110, 54, 52, 98, 101]⟩, .int .i64 (-1)],
  [.string ⟨#[120, 116, 115, 45, 101, 115, 115, 105, 118, 58, 115, 104, 97, 50, 53, 54]⟩, .string ⟨#[120, 116, 115]⟩, .string ⟨#[101, 115, 115, 105, 118]⟩, .int .i64 (-1)],
  [.string ⟨#[108, 114, 119, 45, 98, 101, 110, 98, 105]⟩, .string ⟨#[108, 114, 119]⟩, .string ⟨#[98, 101, 110, 98, 105]⟩, .int .i64 16],
  [.string ⟨#[104, 99, 116, 114, 50, 45, 112, 108, 97, 105, 110]⟩, .string ⟨#[104, 99, 116, 114, 50]⟩, .string ⟨#[112, 108, 97, 105, 110]⟩, .int .i64 0],
  [.string ⟨#[104, 99, 116, 114, 50, 45, 112, 108, 97, 105, 110, 54, 52]⟩, .string ⟨#[104, 99, 116, 114, 50]⟩, .string ⟨#[112, 108, 97, 105, 110, 54, 52]⟩, .int .i64 0]]
/-- The table lies in the variable. -/
structure MdAt (w : World) (G o cap : Nat) : Prop where
  var : w.cell? ⟨0, 0, none⟩ = some (.slice (some ⟨G, o, none⟩) 17 cap)
  g0 : 0 < w.heap.size
  gG : G < w.heap.size
  at_ : ∀ k, k < 17 → ∀ j, j < 4 → w.cell? ⟨G, o + k * 4 + j, none⟩ = (refL.getD k [])[j]?
theorem MdAt.below {w v : World} {G o cap : Nat} (h : MdAt w G o cap) (b : Below w.heap.size w v) : MdAt v G o cap :=
  ⟨by rw [b.cell (p := ⟨0, 0, none⟩) h.g0]; exact h.var, Nat.lt_of_lt_of_le h.g0 b.size, Nat.lt_of_lt_of_le h.gG b.size, fun k hk j hj => by rw [b.cell (p := ⟨G, o + k * 4 + j, none⟩) h.gG]; exact h.at_ k hk j hj⟩
/-- aes128-, aes192-, aes256-. -/
def nsB (i : Nat) : ByteArray := if i = 0 then ⟨#[97, 101, 115, 49, 50, 56, 45]⟩ else if i = 1 then ⟨#[97, 101, 115, 49, 57, 50, 45]⟩ else ⟨#[97, 101, 115, 50, 53, 54, 45]⟩
/-- The rest of a row of the answer. -/
def rwS (i k : Nat) : List Value := match refL.getD k [] with
  | [_, m, s, .int _ mo] => [m, s, .int .i64 ((16 + 8 * i : Nat) : Int), .int .i64 (if mo < 0 then 2 * ((16 + 8 * i : Nat) : Int) else ((16 + 8 * i : Nat) : Int) + mo)]
  | _ => [.nilFunc, .nilFunc, .nilFunc, .nilFunc]
def rwF : Nat → List Value
  | 0 => [.string ⟨#[110, 117, 108, 108]⟩, .string ⟨#[110, 117, 108, 108]⟩, .string ⟨#[]⟩, .int .i64 0, .int .i64 0]
  | j + 1 => .string (nsB (j / 17) ++ nmB (j % 17)) :: rwS (j / 17) (j % 17)
/-- Between two rounds. -/
structure RwO (w0 wr : World) (v : Value) (n : Nat) : Prop where
  own : wr.ownsRow w0.heap.size 35 5 v n (fl rwF n)
  bel : Below w0.heap.size w0 wr
  nms : wr.heap[w0.heap.size + 1]? = some (.cells #[.string (nsB 0), .string (nsB 1), .string (nsB 2)] 9 (0, 0))
  ne : v.ownBlock ≠ some (w0.heap.size + 1)
theorem RwO.lt {w0 wr : World} {v : Value} {n : Nat} (h : RwO w0 wr v n) : w0.heap.size + 1 < wr.heap.size := by
  rcases Nat.lt_or_ge (w0.heap.size + 1) wr.heap.size with q | q
  · exact q
  · have := h.nms; rw [Array.getElem?_eq_none q] at this; cases this
theorem RwO.form {w0 wr : World} {v : Value} {n : Nat} (h : RwO w0 wr v n) (hn : 0 < n) : ∃ g cap, v = .slice (some ⟨g, 0, none⟩) n cap := by
  rcases h.own.2 with ⟨_, h0⟩ | ⟨g, cap, cur, hv, hb, hgg, _⟩
  · omega
  · exact ⟨g, cap, hv⟩
theorem RwO.below {w0 wr wx : World} {v : Value} {n : Nat} (h : RwO w0 wr v n) (b : Below wr.heap.size wr wx) : RwO w0 wx v n :=
  ⟨ownsRow_below h.own b, h.bel.trans (b.mono h.bel.size), by rw [b.block _ h.lt]; exact h.nms, h.ne⟩
end Go.Proofs.YtcnikfikpnnblaaGreatDoor
namespace Go.Proofs.YtcnikfikpnnblaaGreatDoor.Dg
open Go.RowKit
set_option linter.unusedVariables false
/-- A list of lists of bytes: its cells, and what they hold. -/
def PV (w : World) (v : Value) (xs : List Value) (yss : List (List Int)) : Prop :=
  ∃ a c, v = .slice a xs.length c ∧ xs.length ≤ c ∧ c ≤ maxLen ∧ xs.length = yss.length ∧ (∀ i x, xs[i]? = some x → View w x (yss.getD i [])) ∧ (xs = [] ∨ ∃ b p, a = some ⟨b, p, none⟩ ∧ ∀ i x, xs[i]? = some x → w.cell? ⟨b, p + i, none⟩ = some x)
theorem PV.kept {w w' : World} {v : Value} {xs : List Value} {yss : List (List Int)} (h : PV w v xs yss) (hb : ∀ b, b < w.heap.size → w'.heap[b]? = w.heap[b]?) : PV w' v xs yss := by
  obtain ⟨a, c, e, h1, h2, h3, h4, h5⟩ := h
  refine ⟨a, c, e, h1, h2, h3, fun i x hx => (h4 i x hx).kept hb, ?_⟩
  rcases h5 with h5 | ⟨b, p, e5, h6⟩
  · exact .inl h5
  · refine .inr ⟨b, p, e5, fun i x hx => ?_⟩
    have q := h6 i x hx
    rw [World.cell?_of_block (w := w) (hb b (lt_of_cell q))]
    exact q
theorem PV.parts {w : World} {v : Value} {xs : List Value} {yss : List (List Int)} (h : PV w v xs yss) (g : Nat) (hg : w.heap.size ≤ g) : Parts w g v yss := by
  obtain ⟨a, c, e, h1, h2, h3, h4, h5⟩ := h
  refine ⟨a, c, by rw [← h3]; exact e, by omega, h2, ?_⟩
  rcases h5 with h5 | ⟨b, p, e5, h6⟩
  · left
    rw [h5] at h3
    exact List.eq_nil_of_length_eq_zero h3.symm
  · by_cases h0 : yss = []
    · exact .inl h0
    · right
      have hl : 0 < xs.length := by rw [h3]; exact List.length_pos_iff.2 h0
      have hb := lt_of_cell (h6 0 _ (List.getElem?_eq_getElem hl))
      refine ⟨b, p, e5, (by simp at hb; omega), fun i hi => ?_⟩
      have hi' : i < xs.length := by omega
      have hx := List.getElem?_eq_getElem hi'
      refine ⟨_, h6 i _ hx, h4 i _ hx, fun hne b' off l c' ex => ?_⟩
      have := view_lt (h4 i _ hx) hne b' off l c' ex
      omega
end Go.Proofs.YtcnikfikpnnblaaGreatDoor.Dg
namespace Go.Proofs.YtcnikfikpnnblaaGreatDoor.Dg
open Go.RowKit
set_option linter.unusedVariables false
set_option linter.unusedSimpArgs false
def Eight.low (s : Eight) : Eight := s.map (· % 4294967296)
end Go.Proofs.YtcnikfikpnnblaaGreatDoor.Dg
