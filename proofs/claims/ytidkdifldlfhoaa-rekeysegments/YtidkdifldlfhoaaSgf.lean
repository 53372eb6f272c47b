import Derived.Test.YtidkdifldlfhoaaSge
import Derived.Deep.Draws
import Derived.Laws.StructEq
namespace Go.Proofs.Ytidkdifldlfhoaa
open Go.RowKit
set_option linter.unusedVariables false
set_option linter.unusedSimpArgs false
set_option maxRecDepth 100000 in
set_option maxHeartbeats 3200000 in
theorem eq53 (x0 x1 x2 : Int) (w : World) : (Op.equalIn 10000 53 (.agg #[.int .u64 x0, .int .u64 x1, .int .u64 x2]) (.agg #[.int .u64 x0, .int .u64 x1, .int .u64 x2])).run Try.prog w = .ok true w := by
  have u5 := Try.underlying22
  have e : ∀ x : Int, (Op.equalIn 9999 22 (.int .u64 x) (.int .u64 x)).run Try.prog w = .ok true w := fun x => by
    rw [show (9999 : Nat) = 9998 + 1 from rfl, run_equalIn_int w 9998 22 .u64 .u64 x x u5]
    simp
  rw [show (10000 : Nat) = 9999 + 1 from rfl, Op.equalIn]
  simp only [Sem.run_bind, run_underlying Try.underlying53, Result.andThen_ok]
  go_simp
theorem sgs_cons (x : Sg) (L : List Sg) : sgs (x :: L) = .int .u64 (x.1 : Nat) :: .int .u64 (x.2.1 : Nat) :: .int .u64 (x.2.2 : Nat) :: sgs L := by simp [sgs]
theorem sgs_at (L : List Sg) (i : Nat) (h : i < L.length) : (sgs L)[i * 3]? = some (.int .u64 ((L[i]).1 : Nat)) ∧ (sgs L)[i * 3 + 1]? = some (.int .u64 ((L[i]).2.1 : Nat)) ∧ (sgs L)[i * 3 + 2]? = some (.int .u64 ((L[i]).2.2 : Nat)) := by
  induction L generalizing i with
  | nil => simp at h
  | cons x L ih =>
    rw [sgs_cons]
    cases i with
    | zero => simp
    | succ j =>
      have := ih j (by simpa using h)
      have e1 : (j + 1) * 3 = j * 3 + 1 + 1 + 1 := by omega
      rw [e1]
      simpa using this
/-- The segments of a list lie in a block from its beginning on. -/
def LAt (w : World) (g : Nat) (L : List Sg) : Prop := ∀ i (h : i < L.length), w.cell? ⟨g, i * 3, none⟩ = some (.int .u64 ((L[i]).1 : Nat)) ∧ w.cell? ⟨g, i * 3 + 1, none⟩ = some (.int .u64 ((L[i]).2.1 : Nat)) ∧ w.cell? ⟨g, i * 3 + 2, none⟩ = some (.int .u64 ((L[i]).2.2 : Nat))
theorem lat_of {w : World} {b g c n m : Nat} {L : List Sg} (h : w.ownsRow b 53 3 (.slice (some ⟨g, 0, none⟩) m c) n (sgs L)) : LAt w g L := by
  rcases h.2 with ⟨h, _⟩ | ⟨g', cap, cur, a, bb, hh, hn, hc, hs, ht⟩
  · cases h
  · cases a
    intro i hi
    have hl := h.1
    rw [sgs_len] at hl
    have key : ∀ (j : Nat) (v : Value), (sgs L)[j]? = some v → w.cell? ⟨g, j, none⟩ = some v := fun j v hj => by
      rw [← ht, List.getElem?_take] at hj
      split at hj
      · simp only [World.cell?, hh]
        simpa using hj
      · cases hj
    obtain ⟨a1, a2, a3⟩ := sgs_at L i hi
    exact ⟨key _ _ a1, key _ _ a2, key _ _ a3⟩
theorem LAt.drew {w : World} {g : Nat} {L : List Sg} (h : LAt w g L) (m : Nat) : LAt (w.drewN m) g L := fun i hi => by
  obtain ⟨a, b, c⟩ := h i hi
  exact ⟨by simpa using a, by simpa using b, by simpa using c⟩
set_option maxRecDepth 100000 in
set_option maxHeartbeats 3200000 in
theorem same_some (g1 g2 c1 c2 : Nat) (L : List Sg) (n : Nat) (hl : L.length = n) (hn : n ≤ 1000000) (w : World) (h1 : LAt w g1 L) (h2 : LAt w g2 L) :
    Calls Try.prog 8 #[.slice (some ⟨g1, 0, none⟩) n c1, .slice (some ⟨g2, 0, none⟩) n c2] w fun e w' => e = .returned (.bool true) ∧ ∃ m, w' = w.drewN m := by
  have HL : Hid (L.length = n) := hl
  clear hl
  go_enter Try.func8, Try.ntmps8
  go_wp2
  go_loopw [5] (fun i wr => ∃ k : Nat, k ≤ n ∧ i = .int .i64 k ∧ ∃ m, wr = w.drewN m) (fun i _ => n - (intOf i).toNat)
  case atStart => exact ⟨0, Nat.zero_le _, rfl, 0, rfl⟩
  case round =>
    obtain ⟨k, hk, rfl, m, rfl⟩ := hrel
    by_cases hlt : k < n
    · obtain ⟨a1, a2, a3⟩ := h1.drew m k (by rw [HL.out]; exact hlt)
      obtain ⟨b1, b2, b3⟩ := h2.drew m k (by rw [HL.out]; exact hlt)
      have HQ : ∀ u, (Op.equalIn 10000 53 (.agg #[.int .u64 ((L[k]'(by rw [HL.out]; exact hlt)).1 : Nat), .int .u64 ((L[k]'(by rw [HL.out]; exact hlt)).2.1 : Nat), .int .u64 ((L[k]'(by rw [HL.out]; exact hlt)).2.2 : Nat)]) (.agg #[.int .u64 ((L[k]'(by rw [HL.out]; exact hlt)).1 : Nat), .int .u64 ((L[k]'(by rw [HL.out]; exact hlt)).2.1 : Nat), .int .u64 ((L[k]'(by rw [HL.out]; exact hlt)).2.2 : Nat)])).run Try.prog u = .ok true u := fun u => eq53 _ _ _ u
      generalize (L[k]'(by rw [HL.out]; exact hlt)) = z at *
      generalize hw : w.drewN m = wr at *
      clear h1 h2
      go_wp2
      go_quiet (fail)
      go_wp2
      go_roundw
      case rel => exact ⟨k + 1, by omega, by go_num, m + nq, by rw [← hw, World.drewN_drewN]⟩
      case measure => simp [intOf]; omega
    · go_wp2
      go_ret
      exact ⟨rfl, _, rfl⟩
set_option maxRecDepth 100000 in
theorem same_nil (w : World) : Calls Try.prog 8 #[.slice none 0 0, .slice none 0 0] w fun e w' => e = .returned (.bool true) ∧ ∃ m, w' = w.drewN m := by
  go_enter Try.func8, Try.ntmps8
  go_wp2
  go_loopw [5] (fun i wr => i = .int .i64 (0 : Nat) ∧ wr = w) (fun i _ => 0)
  case atStart => exact ⟨rfl, rfl⟩
  case round =>
    obtain ⟨rfl, hw⟩ := hrel
    obtain rfl := hw.symm
    go_wp2
    go_ret
    exact ⟨rfl, 0, rfl⟩
/-- A slice that owns the segments of a list. -/
structure SegO (w : World) (b : Nat) (v : Value) (L : List Sg) : Prop where
  own : w.ownsRow b 53 3 v L.length (sgs L)
  nil : v = .slice none 0 0 ↔ L = []
theorem same_ok {b1 b2 : Nat} {v1 v2 : Value} {L : List Sg} (hL : L.length ≤ 1000000) (w : World) (h1 : SegO w b1 v1 L) (h2 : SegO w b2 v2 L) :
    Calls Try.prog 8 #[v1, v2] w fun e w' => e = .returned (.bool true) ∧ ∃ m, w' = w.drewN m := by
  by_cases h : L = []
  · rw [h1.nil.2 h, h2.nil.2 h]
    exact same_nil w
  · obtain ⟨x, L', rfl⟩ : ∃ x L', L = x :: L' := by
      cases L with
      | nil => exact absurd rfl h
      | cons x L' => exact ⟨x, L', rfl⟩
    obtain ⟨g1, c1, rfl⟩ := ownsRow_succ h1.own
    obtain ⟨g2, c2, rfl⟩ := ownsRow_succ h2.own
    exact same_some g1 g2 c1 c2 _ _ rfl hL w (lat_of h1.own) (lat_of h2.own)
end Go.Proofs.Ytidkdifldlfhoaa
