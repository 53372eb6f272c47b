import Derived.Test.YtmfnhdflmnmooaaSam
namespace Go.Proofs.Ytmfnhdflmnmooaa
open Go.RowKit
set_option linter.unusedVariables false
set_option linter.unusedSimpArgs false
set_option maxRecDepth 100000 in
set_option maxHeartbeats 3200000 in
theorem eqSeg (x0 x1 x2 y0 y1 y2 : Int) (w : World) : (Op.equalIn 10000 65 (.agg #[.int .u64 x0, .int .u64 x1, .int .u64 x2]) (.agg #[.int .u64 y0, .int .u64 y1, .int .u64 y2])).run Try.prog w = .ok (decide (x0 = y0 ∧ x1 = y1 ∧ x2 = y2)) w := by
  have u5 := Try.underlying22
  have e : ∀ x y : Int, (Op.equalIn 9999 22 (.int .u64 x) (.int .u64 y)).run Try.prog w = .ok (decide (x = y)) w := fun x y => by
    rw [show (9999 : Nat) = 9998 + 1 from rfl, run_equalIn_int w 9998 22 .u64 .u64 x y u5]
    by_cases h : x = y
    · simp [h]
    · simp [h]
  have e0 := e x0 y0
  have e1 := e x1 y1
  have e2 := e x2 y2
  rw [show (10000 : Nat) = 9999 + 1 from rfl, Op.equalIn]
  simp only [Sem.run_bind, run_underlying Try.underlying65, Result.andThen_ok]
  go_simp
  by_cases h0 : x0 = y0 <;> by_cases h1 : x1 = y1 <;> by_cases h2 : x2 = y2 <;> simp [h0, h1, h2]
set_option maxRecDepth 100000 in
set_option maxHeartbeats 3200000 in
theorem sameG_some (g1 o1 g2 o2 c1 c2 n : Nat) (f1 f2 : Nat → Int × Int × Int) (hn : n ≤ 1000000000000000) (w : World) (h1 : LAt w g1 o1 n f1) (h2 : LAt w g2 o2 n f2) :
    Calls Try.prog 31 #[.slice (some ⟨g1, o1, none⟩) n c1, .slice (some ⟨g2, o2, none⟩) n c2] w fun e w' => ∃ b : Bool, e = .returned (.bool b) ∧ (b = true ↔ ∀ i, i < n → f1 i = f2 i) ∧ w.grownBy w' none := by
  go_enter Try.func31, Try.ntmps31
  go_wp2
  go_loopw [5] (fun i wr => ∃ k : Nat, k ≤ n ∧ i = .int .i64 k ∧ (∀ i, i < k → f1 i = f2 i) ∧ ∃ m, wr = w.drewN m) (fun i _ => n - (intOf i).toNat)
  case atStart => exact ⟨0, Nat.zero_le _, rfl, fun i hi => by omega, 0, rfl⟩
  case round =>
    obtain ⟨k, hk, rfl, hall, m, rfl⟩ := hrel
    by_cases hlt : k < n
    · obtain ⟨a1, a2, a3⟩ := h1.drew m k hlt
      obtain ⟨b1, b2, b3⟩ := h2.drew m k hlt
      by_cases heq : f1 k = f2 k
      · rw [← heq] at b1 b2 b3
        have HA : Hid (∀ i, i < k + 1 → f1 i = f2 i) := fun i hi => by
          by_cases c : i = k
          · rw [c]; exact heq
          · exact hall i (by omega)
        have HQ : ∀ u, (Op.equalIn 10000 65 (.agg #[.int .u64 (f1 k).1, .int .u64 (f1 k).2.1, .int .u64 (f1 k).2.2]) (.agg #[.int .u64 (f1 k).1, .int .u64 (f1 k).2.1, .int .u64 (f1 k).2.2])).run Try.prog u = .ok true u := fun u => eq51 _ _ _ u
        clear heq hall
        generalize f1 k = z at *
        generalize hw : w.drewN m = wr at *
        clear h1 h2
        go_wp2
        go_quiet (fail)
        go_wp2
        go_roundw
        case rel => exact ⟨k + 1, by omega, by go_num, HA.out, m + nq, by rw [← hw, World.drewN_drewN]⟩
        case measure => simp [intOf]; omega
      · have HQ : ∀ u, (Op.equalIn 10000 65 (.agg #[.int .u64 (f1 k).1, .int .u64 (f1 k).2.1, .int .u64 (f1 k).2.2]) (.agg #[.int .u64 (f2 k).1, .int .u64 (f2 k).2.1, .int .u64 (f2 k).2.2])).run Try.prog u = .ok false u := fun u => by
          rw [eqSeg, decide_eq_false]
          intro q
          exact heq (Prod.ext q.1 (Prod.ext q.2.1 q.2.2))
        have HN : Hid (¬ ∀ i, i < n → f1 i = f2 i) := fun q => heq (q k hlt)
        have HW : Hid (∀ j, w.grownBy ((w.drewN m).drewN j) none) := fun j => by rw [World.drewN_drewN]; exact grown_drewN w _
        clear heq hall
        generalize f1 k = z at *
        generalize f2 k = z2 at *
        generalize hw : w.drewN m = wr at *
        clear h1 h2
        go_wp2
        go_quiet (fail)
        go_wp2
        go_ret
        exact ⟨false, rfl, ⟨(fun h => by cases h), fun h => absurd h HN.out⟩, HW.out _⟩
    · obtain rfl : k = n := by omega
      go_wp2
      go_ret
      exact ⟨true, rfl, ⟨fun _ => hall, fun _ => rfl⟩, grown_drewN w m⟩
set_option maxRecDepth 100000 in
theorem sameG_unlike (p1 p2 : Option Addr) (n1 n2 c1 c2 : Nat) (h1 : n1 ≤ 1000000000000000) (h2 : n2 ≤ 1000000000000000) (hne : n1 ≠ n2) (w : World) : Calls Try.prog 31 #[.slice p1 n1 c1, .slice p2 n2 c2] w fun e w' => e = .returned (.bool false) ∧ w.grownBy w' none := by
  have q : ((n1 : Int) == (n2 : Int)) = false := by simp; omega
  go_enter Try.func31, Try.ntmps31
  go_wp2
  go_ret
  exact ⟨rfl, World.grownBy.refl _ _⟩
theorem sameG_ok {v1 v2 : Value} {n1 n2 : Nat} {f1 f2 : Nat → Int × Int × Int} (hn1 : n1 ≤ 1000000000000000) (hn2 : n2 ≤ 1000000000000000) (w : World) (h1 : SegV w v1 n1 f1) (h2 : SegV w v2 n2 f2) : Calls Try.prog 31 #[v1, v2] w fun e w' => ∃ b : Bool, e = .returned (.bool b) ∧ (b = true ↔ n1 = n2 ∧ ∀ i, i < n1 → f1 i = f2 i) ∧ w.grownBy w' none := by
  obtain ⟨p1, c1, rfl, k1⟩ := h1
  obtain ⟨p2, c2, rfl, k2⟩ := h2
  by_cases hne : n1 = n2
  · subst hne
    by_cases h : 0 < n1
    · obtain ⟨g1, o1, rfl, l1⟩ := k1 h
      obtain ⟨g2, o2, rfl, l2⟩ := k2 h
      refine (sameG_some g1 o1 g2 o2 c1 c2 n1 f1 f2 hn1 w l1 l2).mono ?_
      rintro e w' ⟨b, he, hb, hw⟩
      exact ⟨b, he, hb.trans ⟨fun q => ⟨rfl, q⟩, fun q => q.2⟩, hw⟩
    · obtain rfl : n1 = 0 := by omega
      refine (same_none p1 p2 c1 c2 w).mono ?_
      rintro e w' ⟨he, hw⟩
      exact ⟨true, he, ⟨fun _ => ⟨rfl, fun i hi => by omega⟩, fun _ => rfl⟩, hw⟩
  · refine (sameG_unlike p1 p2 n1 n2 c1 c2 hn1 hn2 hne w).mono ?_
    rintro e w' ⟨he, hw⟩
    exact ⟨false, he, ⟨(fun h => by cases h), fun h => absurd h.1 hne⟩, hw⟩
end Go.Proofs.Ytmfnhdflmnmooaa
