import Derived.Test.YtmfnhdflmnmooaaSgm
import Derived.Deep.Draws
import Derived.Laws.StructEq
namespace Go.Proofs.Ytmfnhdflmnmooaa
open Go.RowKit
set_option linter.unusedVariables false
set_option linter.unusedSimpArgs false
theorem grown_drewN (w : World) (n : Nat) : w.grownBy (w.drewN n) none := ⟨rfl, rfl, rfl, Nat.le_refl _, fun _ _ _ => rfl⟩
set_option maxRecDepth 100000 in
set_option maxHeartbeats 3200000 in
theorem eq51 (x0 x1 x2 : Int) (w : World) : (Op.equalIn 10000 65 (.agg #[.int .u64 x0, .int .u64 x1, .int .u64 x2]) (.agg #[.int .u64 x0, .int .u64 x1, .int .u64 x2])).run Try.prog w = .ok true w := by
  have u5 := Try.underlying22
  have e : ∀ x : Int, (Op.equalIn 9999 22 (.int .u64 x) (.int .u64 x)).run Try.prog w = .ok true w := fun x => by
    rw [show (9999 : Nat) = 9998 + 1 from rfl, run_equalIn_int w 9998 22 .u64 .u64 x x u5]
    simp
  rw [show (10000 : Nat) = 9999 + 1 from rfl, Op.equalIn]
  simp only [Sem.run_bind, run_underlying Try.underlying65, Result.andThen_ok]
  go_simp
/-- A list of segments (as numbers) lies in a block from an offset on. -/
def LAt (w : World) (g o : Nat) (n : Nat) (f : Nat → Int × Int × Int) : Prop := ∀ i, i < n → w.cell? ⟨g, o + i * 3, none⟩ = some (.int .u64 (f i).1) ∧ w.cell? ⟨g, o + i * 3 + 1, none⟩ = some (.int .u64 (f i).2.1) ∧ w.cell? ⟨g, o + i * 3 + 2, none⟩ = some (.int .u64 (f i).2.2)
theorem LAt.drew {w : World} {g o n : Nat} {f : Nat → Int × Int × Int} (h : LAt w g o n f) (m : Nat) : LAt (w.drewN m) g o n f := fun i hi => by
  obtain ⟨a, b, c⟩ := h i hi
  exact ⟨by simpa using a, by simpa using b, by simpa using c⟩
theorem LAt.still {w w' : World} {g o n : Nat} {f : Nat → Int × Int × Int} (h : LAt w g o n f) (hg : w.grownBy w' none) : LAt w' g o n f := fun i hi => by
  obtain ⟨a, b, c⟩ := h i hi
  exact ⟨hg.cell a (by simp), hg.cell b (by simp), hg.cell c (by simp)⟩
set_option maxRecDepth 100000 in
set_option maxHeartbeats 3200000 in
theorem same_some (g1 o1 g2 o2 c1 c2 n : Nat) (f : Nat → Int × Int × Int) (hn : n ≤ 1000000000000000) (w : World) (h1 : LAt w g1 o1 n f) (h2 : LAt w g2 o2 n f) :
    Calls Try.prog 31 #[.slice (some ⟨g1, o1, none⟩) n c1, .slice (some ⟨g2, o2, none⟩) n c2] w fun e w' => e = .returned (.bool true) ∧ w.grownBy w' none := by
  go_enter Try.func31, Try.ntmps31
  go_wp2
  go_loopw [5] (fun i wr => ∃ k : Nat, k ≤ n ∧ i = .int .i64 k ∧ ∃ m, wr = w.drewN m) (fun i _ => n - (intOf i).toNat)
  case atStart => exact ⟨0, Nat.zero_le _, rfl, 0, rfl⟩
  case round =>
    obtain ⟨k, hk, rfl, m, rfl⟩ := hrel
    by_cases hlt : k < n
    · obtain ⟨a1, a2, a3⟩ := h1.drew m k hlt
      obtain ⟨b1, b2, b3⟩ := h2.drew m k hlt
      have HQ : ∀ u, (Op.equalIn 10000 65 (.agg #[.int .u64 (f k).1, .int .u64 (f k).2.1, .int .u64 (f k).2.2]) (.agg #[.int .u64 (f k).1, .int .u64 (f k).2.1, .int .u64 (f k).2.2])).run Try.prog u = .ok true u := fun u => eq51 _ _ _ u
      generalize f k = z at *
      generalize hw : w.drewN m = wr at *
      clear h1 h2
      go_wp2
      go_quiet (fail)
      go_wp2
      go_roundw
      case rel => exact ⟨k + 1, by omega, by go_num, m + nq, by rw [← hw, World.drewN_drewN]⟩
      case measure => simp [intOf]; omega
    · go_wp2
      go_ret
      exact ⟨rfl, grown_drewN w m⟩
set_option maxRecDepth 100000 in
theorem same_none (p1 p2 : Option Addr) (c1 c2 : Nat) (w : World) : Calls Try.prog 31 #[.slice p1 0 c1, .slice p2 0 c2] w fun e w' => e = .returned (.bool true) ∧ w.grownBy w' none := by
  go_enter Try.func31, Try.ntmps31
  go_wp2
  go_loopw [5] (fun i wr => i = .int .i64 (0 : Nat) ∧ wr = w) (fun i _ => 0)
  case atStart => exact ⟨rfl, rfl⟩
  case round =>
    obtain ⟨rfl, hw⟩ := hrel
    obtain rfl := hw.symm
    go_wp2
    go_ret
    exact ⟨rfl, World.grownBy.refl _ _⟩
/-- A slice of segments. -/
def SegV (w : World) (v : Value) (n : Nat) (f : Nat → Int × Int × Int) : Prop := ∃ p c, v = .slice p n c ∧ (0 < n → ∃ g o, p = some ⟨g, o, none⟩ ∧ LAt w g o n f)
theorem SegV.still {w w' : World} {v : Value} {n : Nat} {f : Nat → Int × Int × Int} (h : SegV w v n f) (hg : w.grownBy w' none) : SegV w' v n f := by
  obtain ⟨p, c, hv, h⟩ := h
  exact ⟨p, c, hv, fun hn => by obtain ⟨g, o, hp, hl⟩ := h hn; exact ⟨g, o, hp, hl.still hg⟩⟩
theorem same_any {v1 v2 : Value} {n : Nat} {f : Nat → Int × Int × Int} (hn : n ≤ 1000000000000000) (w : World) (h1 : SegV w v1 n f) (h2 : SegV w v2 n f) : Calls Try.prog 31 #[v1, v2] w fun e w' => e = .returned (.bool true) ∧ w.grownBy w' none := by
  obtain ⟨p1, c1, rfl, k1⟩ := h1
  obtain ⟨p2, c2, rfl, k2⟩ := h2
  by_cases h : 0 < n
  · obtain ⟨g1, o1, rfl, l1⟩ := k1 h
    obtain ⟨g2, o2, rfl, l2⟩ := k2 h
    exact same_some g1 o1 g2 o2 c1 c2 n f hn w l1 l2
  · obtain rfl : n = 0 := by omega
    exact same_none p1 p2 c1 c2 w
/-- A row that the call owns is such a slice. -/
theorem segV_own {w : World} {B n : Nat} {v : Value} {L : List Sg} (h : w.ownsRow B 65 3 v n (sgs L)) (hl : L.length = n) : SegV w v n (fun i => (((L.getD i (0, 0, 0)).1 : Nat), ((L.getD i (0, 0, 0)).2.1 : Nat), ((L.getD i (0, 0, 0)).2.2 : Nat))) := by
  rcases h.2 with ⟨rfl, rfl⟩ | ⟨g', cap, cur, rfl, bb, hh, hn, hc, hs, ht⟩
  · exact ⟨_, _, rfl, fun h => by omega⟩
  · refine ⟨_, _, rfl, fun _ => ⟨g', 0, rfl, fun i hi => ?_⟩⟩
    have key : ∀ (j : Nat) (v : Value), (sgs L)[j]? = some v → w.cell? ⟨g', j, none⟩ = some v := fun j v hj => by
      rw [← ht, List.getElem?_take] at hj
      split at hj
      · simp only [World.cell?, hh]
        simpa using hj
      · cases hj
    have at_ : ∀ (L : List Sg) (i : Nat), i < L.length → (sgs L)[i * 3]? = some (.int .u64 ((L.getD i (0, 0, 0)).1 : Nat)) ∧ (sgs L)[i * 3 + 1]? = some (.int .u64 ((L.getD i (0, 0, 0)).2.1 : Nat)) ∧ (sgs L)[i * 3 + 2]? = some (.int .u64 ((L.getD i (0, 0, 0)).2.2 : Nat)) := by
      intro L
      induction L with
      | nil => intro i h; simp at h
      | cons x L ih =>
        intro i h
        have e0 : sgs (x :: L) = .int .u64 (x.1 : Nat) :: .int .u64 (x.2.1 : Nat) :: .int .u64 (x.2.2 : Nat) :: sgs L := by simp [sgs]
        rw [e0]
        cases i with
        | zero => simp
        | succ j =>
          have := ih j (by simpa using h)
          have e1 : (j + 1) * 3 = j * 3 + 1 + 1 + 1 := by omega
          rw [e1]
          simpa using this
    obtain ⟨a1, a2, a3⟩ := at_ L i (by omega)
    simp only [Nat.zero_add]
    exact ⟨key _ _ a1, key _ _ a2, key _ _ a3⟩
end Go.Proofs.Ytmfnhdflmnmooaa
