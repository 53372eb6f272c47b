import Derived.Test.YtgmfiljjogdccaaDoorSlices
import Derived.Test.YtgmfiljjogdccaaDoorSpoilFull
import Derived.Test.YtgmfiljjogdccaaDoorPart06
namespace Go.Proofs.YtgmfiljjogdccaaDoor
open Go.RowKit Go.RwLone
set_option linter.unusedVariables false
set_option linter.unusedSimpArgs false
/-- Sixteen cells of a block. -/
structure Kp (u : World) (B : Nat) (L : List Value) : Prop where
  at_ : u.rangeAt B 0 L
  here : B < u.heap.size
theorem Kp.same {u u' : World} {B : Nat} {L : List Value} (h : Kp u B L) (e : u'.heap[B]? = u.heap[B]?) (hs : u.heap.size ≤ u'.heap.size) : Kp u' B L :=
  ⟨fun j v hv => (World.cell?_of_block (a := ⟨B, 0 + j, none⟩) e).trans (h.at_ j v hv), Nat.lt_of_lt_of_le h.here hs⟩
theorem there_same {u u' : World} {B o n : Nat} (h : u.there B o n) (e : u'.heap[B]? = u.heap[B]?) : u'.there B o n := fun j hj => by
  rw [World.cell?_of_block (a := ⟨B, o + j, none⟩) e, World.frozen?_of_block (a := ⟨B, o + j, none⟩) e]; exact h j hj
theorem StreamAt.same {u u' : World} {t g n : Nat} {s : W4} (h : StreamAt u t g s n) (e : u'.heap[t]? = u.heap[t]?) (hs : u.heap.size ≤ u'.heap.size) : StreamAt u' t g s n :=
  ⟨(World.cell?_of_block (a := ⟨t, 0, none⟩) e).trans h.key, fun j v hv => (World.cell?_of_block (a := ⟨t, 1 + j, none⟩) e).trans (h.start j v hv), (World.cell?_of_block (a := ⟨t, 17, none⟩) e).trans h.pos, there_same h.room e, Nat.lt_of_lt_of_le h.here hs, h.ok, h.most⟩
theorem KeyAt.same {u u' : World} {g nr : Nat} {K : Nat → Nat} (h : KeyAt u g nr K) (e : u'.heap[g]? = u.heap[g]?) (hs : u.heap.size ≤ u'.heap.size) : KeyAt u' g nr K := by
  have c : ∀ j : Nat, u'.cell? ⟨g, j, none⟩ = u.cell? ⟨g, j, none⟩ := fun j => World.cell?_of_block (a := ⟨g, j, none⟩) e
  exact ⟨⟨(c _).trans h.ciph.rounds, fun i hi => (c _).trans (h.ciph.words i hi), h.ciph.small, ⟨fun b hb => (c _).trans (h.ciph.tab.s b hb), fun b hb => (c _).trans (h.ciph.tab.u b hb), fun b hb => (c _).trans (h.ciph.tab.m b hb), fun b hb => (c _).trans (h.ciph.tab.n b hb)⟩, Nat.lt_of_lt_of_le h.ciph.here hs, h.ciph.some, h.ciph.most⟩, (c _).trans h.count, there_same h.room e⟩
theorem Halves.same {u u' : World} {s off n : Nat} {R : Nat → Nat} (h : Halves u s off n R) (e : u'.heap[s]? = u.heap[s]?) (hs : u.heap.size ≤ u'.heap.size) : Halves u' s off n R :=
  ⟨Nat.lt_of_lt_of_le h.here hs, there_same h.room e, fun i k hi hk => (World.cell?_of_block (a := ⟨s, off + 8 * i + k, none⟩) e).trans (h.cell i k hi hk)⟩
theorem Inn.two {w u u' : World} {a b : Nat} (h : Inn w u) (ht : Touch2 u u' a b) (ha : w.heap.size ≤ a) (hb : w.heap.size ≤ b) (h0 : 0 < w.heap.size) : Inn w u' := h.touch2 ht ha hb h0
theorem grown_two {u u' : World} {q : Nat} (h : u.grownBy u' (some q)) : Touch2 u u' q q := ⟨h.os, h.tape, h.output, h.size, fun k hk h1 _ => h.block k hk (fun e => h1 (by injection e))⟩
theorem eq_bytes (s : W4) (u : World) : (Op.equalIn 10000 42 (.agg s.bytes.toArray) (.agg s.bytes.toArray)).run Tryd.prog u = .ok true u := eq_same _ _ _ _ _ _ _ _ _ _ _ _ _ _ _ _ u
theorem kunwrap_room (g nr n b cap : Nat) (K : Nat → Nat) (f : Nat → Nat) (w : World) (h : KeyAt w g nr K) (hn : 2 ≤ n) (hm : n ≤ 512) (hcap : 8 + 8 * n ≤ cap) (hbg : b ≠ g) (hH : Halves w b 8 n (wrapF nr K n f (6 * n)).2) (h0 : ∀ k, k < 8 → w.cell? ⟨b, k, none⟩ = some (.int .u8 (byteK (wrapF nr K n f (6 * n)).1 k : Nat))) (hf : ∀ i, f i < 256) :
    Calls Tryd.prog 35 #[.pointer (some ⟨g, 0, none⟩), .slice (some ⟨b, 0, none⟩) (8 + 8 * n) cap] w fun e w' => ∃ s, e = .returned (.tuple #[.slice (some ⟨s, 0, none⟩) (8 * n) (8 * n), .int .i64 0]) ∧ w.heap.size ≤ s ∧ Halves w' s 0 n (halfs f) ∧ KeyAt w' g nr K ∧ Touch w w' g 4 1 := by
  have hu := un_wrapF h.ciph.small nr n hf (6 * n) (by omega)
  refine (kunwrap_ok g nr n b 0 cap K (wrB (wrapF nr K n f (6 * n))) w h hn hm hcap hH.here hbg (fun i hi => by rw [Nat.zero_add]; exact halves_wrB hH h0 i hi) (wrB_lt _) (by rw [hu])).mono ?_
  rintro e w' ⟨s, rfl, hs, hh, hk, ht⟩
  rw [hu] at hh
  exact ⟨s, rfl, hs, hh, hk, ht⟩
end Go.Proofs.YtgmfiljjogdccaaDoor
