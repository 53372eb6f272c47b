import Derived.Test.YtohhjohpdfbdoaaXa
import Derived.Deep.Draws
import Derived.Laws.StructEq
namespace Go.Proofs.Ytohhjohpdfbdoaa
open Go.RowKit
set_option linter.unusedVariables false
set_option linter.unusedSimpArgs false
set_option maxRecDepth 100000 in
set_option maxHeartbeats 3200000 in
theorem eq31 (x y : ByteArray) (w : World) : (Op.equalIn 10000 31 (.agg #[.string x, .string y]) (.agg #[.string x, .string y])).run Try.prog w = .ok true w := by
  have u9 := Try.underlying9
  have e : ∀ x : ByteArray, (Op.equalIn 9999 9 (.string x) (.string x)).run Try.prog w = .ok true w := fun x => by
    rw [show (9999 : Nat) = 9998 + 1 from rfl, Op.equalIn]
    simp only [Sem.run_bind, run_underlying Try.underlying9, Result.andThen_ok]
    go_simp
    first | exact beq_self_eq_true x | simp | (rcases x with ⟨d⟩; show (d == d) = true; simp)
  rw [show (10000 : Nat) = 9999 + 1 from rfl, Op.equalIn]
  simp only [Sem.run_bind, run_underlying Try.underlying31, Result.andThen_ok]
  go_simp
theorem optL_at (L : List (List Int × List Int)) (i : Nat) (h : i < L.length) : (optL L)[i * 2]? = some (.string (strOfNums (L[i]).1)) ∧ (optL L)[i * 2 + 1]? = some (.string (strOfNums (L[i]).2)) := by
  induction L generalizing i with
  | nil => simp at h
  | cons x L ih =>
    have e0 : optL (x :: L) = .string (strOfNums x.1) :: .string (strOfNums x.2) :: optL L := by simp [optL]
    rw [e0]
    cases i with
    | zero => simp
    | succ j =>
      have := ih j (by simpa using h)
      have e1 : (j + 1) * 2 = j * 2 + 1 + 1 := by omega
      rw [e1]
      simpa using this
/-- The options of a list lie in a block from its beginning on. -/
def OAt (w : World) (g : Nat) (L : List (List Int × List Int)) : Prop := ∀ i (h : i < L.length), w.cell? ⟨g, i * 2, none⟩ = some (.string (strOfNums (L[i]).1)) ∧ w.cell? ⟨g, i * 2 + 1, none⟩ = some (.string (strOfNums (L[i]).2))
theorem oat_of {w : World} {b g c n m : Nat} {L : List (List Int × List Int)} (h : w.ownsRow b 31 2 (.slice (some ⟨g, 0, none⟩) m c) n (optL L)) : OAt w g L := by
  rcases h.2 with ⟨h, _⟩ | ⟨g', cap, cur, a, bb, hh, hn, hc, hs, ht⟩
  · cases h
  · cases a
    intro i hi
    have key : ∀ (j : Nat) (v : Value), (optL L)[j]? = some v → w.cell? ⟨g, j, none⟩ = some v := fun j v hj => by
      rw [← ht, List.getElem?_take] at hj
      split at hj
      · simp only [World.cell?, hh]
        simpa using hj
      · cases hj
    obtain ⟨a1, a2⟩ := optL_at L i hi
    exact ⟨key _ _ a1, key _ _ a2⟩
theorem OAt.drew {w : World} {g : Nat} {L : List (List Int × List Int)} (h : OAt w g L) (m : Nat) : OAt (w.drewN m) g L := fun i hi => by
  obtain ⟨a, b⟩ := h i hi
  exact ⟨by simpa using a, by simpa using b⟩
theorem OAt.still {w w' : World} {g : Nat} {L : List (List Int × List Int)} (h : OAt w g L) (hg : w.grownBy w' none) : OAt w' g L := fun i hi => by
  obtain ⟨a, b⟩ := h i hi
  exact ⟨hg.cell a (by simp), hg.cell b (by simp)⟩
set_option maxRecDepth 100000 in
set_option maxHeartbeats 3200000 in
theorem same_ok (A B : ByteArray) (v1 v2 : Value) (b1 b2 : Nat) (L : List (List Int × List Int)) (n : Nat) (hl : Hid (L.length = n)) (hn : n ≤ 1000000) (w : World) (h1 : w.ownsRow b1 31 2 v1 n (optL L)) (h2 : w.ownsRow b2 31 2 v2 n (optL L)) :
    Calls Try.prog 10 #[.agg #[.string A, .string B, v1], .agg #[.string A, .string B, v2]] w fun e w' => e = .returned (.bool true) ∧ w.grownBy w' none := by
  obtain ⟨p1, c1, rfl⟩ := own_slice h1
  obtain ⟨p2, c2, rfl⟩ := own_slice h2
  have g1 := World.grownBy_alloc w (.cells #[.string A, .string B, .slice p1 n c1] 25) none
  have g2 := World.grownBy_alloc (w.alloc (.cells #[.string A, .string B, .slice p1 n c1] 25)) (.cells #[.string A, .string B, .slice p2 n c2] 25) none
  have x1 := at_kept (World.alloc_heap_new w (.cells #[.string A, .string B, .slice p1 n c1] 25)) g2 (by simp)
  have x2 := World.alloc_heap_new (w.alloc (.cells #[.string A, .string B, .slice p1 n c1] 25)) (.cells #[.string A, .string B, .slice p2 n c2] 25)
  rw [World.size_alloc] at x2
  obtain ⟨W, hW⟩ : ∃ W, (w.alloc (.cells #[.string A, .string B, .slice p1 n c1] 25)).alloc (.cells #[.string A, .string B, .slice p2 n c2] 25) = W := ⟨_, rfl⟩
  rw [hW] at x1 x2 g2
  have HW : Hid ((w.alloc (.cells #[.string A, .string B, .slice p1 n c1] 25)).alloc (.cells #[.string A, .string B, .slice p2 n c2] 25) = W) := hW
  clear hW
  have gW := g1.trans g2
  clear g1 g2
  have r1 := h1.kept gW (Classical.em _)
  have r2 := h2.kept gW (Classical.em _)
  clear h1 h2
  go_enter Try.func10, Try.ntmps10
  go_wp2
  rw [HW.out]
  go_loopw [5] (fun i wr => ∃ k : Nat, k ≤ n ∧ i = .int .i64 k ∧ ∃ m, wr = W.drewN m) (fun i _ => n - (intOf i).toNat)
  case atStart => exact ⟨0, Nat.zero_le _, rfl, 0, rfl⟩
  case round =>
    obtain ⟨k, hk, rfl, m, rfl⟩ := hrel
    have y1 : (W.drewN m).cell? ⟨w.heap.size, 2, none⟩ = some (.slice p1 n c1) := by simp [World.cell?, x1]
    have y2 : (W.drewN m).cell? ⟨w.heap.size + 1, 2, none⟩ = some (.slice p2 n c2) := by simp [World.cell?, x2]
    by_cases hlt : k < n
    · obtain ⟨n', rfl⟩ : ∃ n', n = n' + 1 := ⟨n - 1, by omega⟩
      obtain ⟨q1, c1', e1⟩ := ownsRow_succ r1
      obtain ⟨q2, c2', e2⟩ := ownsRow_succ r2
      cases e1
      cases e2
      obtain ⟨a1, a2⟩ := (oat_of r1).drew m k (by rw [hl.out]; exact hlt)
      obtain ⟨d1, d2⟩ := (oat_of r2).drew m k (by rw [hl.out]; exact hlt)
      have HQ : ∀ u, (Op.equalIn 10000 31 (.agg #[.string (strOfNums (L[k]'(by rw [hl.out]; exact hlt)).1), .string (strOfNums (L[k]'(by rw [hl.out]; exact hlt)).2)]) (.agg #[.string (strOfNums (L[k]'(by rw [hl.out]; exact hlt)).1), .string (strOfNums (L[k]'(by rw [hl.out]; exact hlt)).2)])).run Try.prog u = .ok true u := fun u => eq31 _ _ u
      generalize (L[k]'(by rw [hl.out]; exact hlt)) = z at *
      generalize hw : W.drewN m = wr at *
      clear r1 r2 x1 x2 gW
      go_wp2
      go_quiet (fail)
      go_wp2
      go_roundw
      case rel => exact ⟨k + 1, by omega, by go_num, m + nq, by rw [← hw, World.drewN_drewN]⟩
      case measure => simp [intOf]; omega
    · go_wp2
      go_ret
      exact ⟨rfl, gW.trans (grown_drewN W m)⟩
end Go.Proofs.Ytohhjohpdfbdoaa
