import Derived.Test.YtffejkfkkciaaaaGt
import Derived.Deep.RegionHeld3
namespace Go.Proofs.Ytffejkfkkciaaaa
open Go.RowKit
set_option linter.unusedVariables false
set_option linter.unusedSimpArgs false
theorem timesF (a b : F) (w : World) : Calls Try.prog 53 #[.int .u8 (a.1 : Nat), .int .u8 (b.1 : Nat)] w fun e w' => e = .returned (.int .u8 ((fm a b).1 : Nat)) ∧ w' = w := times_ok a.1 b.1 a.2 b.2 w
theorem xorF (a b : F) : bits .xor .u8 ((a.1 : Nat) : Int) ((b.1 : Nat) : Int) = (((fa a b).1 : Nat) : Int) := xor8 a.1 b.1 a.2 b.2
/-- Bytes where they lie. -/
def Rw (w : World) (b off : Nat) (l : List F) : Prop := ∀ i, i < l.length → w.cell? ⟨b, off + i, none⟩ = some (.int .u8 ((l.getD i 0).1 : Nat))
theorem Rw.below {w w' : World} {b off : Nat} {l : List F} (h : Rw w b off l) (hb : Below w.heap.size w w') : Rw w' b off l := fun i hi => (hb.cell (World.block_lt_of_cell? w _ (h i hi))).trans (h i hi)
set_option maxHeartbeats 400000 in
/-- inverse. -/
theorem inverse_ok (a : F) (w : World) : Calls Try.prog 54 #[.int .u8 (a.1 : Nat)] w fun e w' => e = .returned (.int .u8 ((invF a).1 : Nat)) ∧ w' = w := by
  go_enter Try.func54, Try.ntmps54
  go_wp2
  go_loopw [0, 3, 4] (fun vx vp vi wr => ∃ (k : Nat) (x p : F), k ≤ 7 ∧ vi = .int .i64 (k : Nat) ∧ vx = .int .u8 (x.1 : Nat) ∧ vp = .int .u8 (p.1 : Nat) ∧ Hid (sqN 7 a 1 = sqN (7 - k) x p) ∧ wr = w) (fun _ _ vi _ => 7 - (intOf vi).toNat)
  case atStart => exact ⟨0, a, 1, by omega, rfl, rfl, rfl, rfl, rfl⟩
  case round =>
    obtain ⟨k, x, p, hk, rfl, rfl, rfl, HS, hw⟩ := hrel
    obtain rfl := hw.symm
    by_cases hlt : k < 7
    · have H1 : Hid (Calls Try.prog 53 #[.int .u8 (x.1 : Nat), .int .u8 (x.1 : Nat)] w fun e w' => e = .returned (.int .u8 ((fm x x).1 : Nat)) ∧ w' = w) := timesF x x w
      have H2 : Hid (Calls Try.prog 53 #[.int .u8 (p.1 : Nat), .int .u8 ((fm x x).1 : Nat)] w fun e w' => e = .returned (.int .u8 ((fm p (fm x x)).1 : Nat)) ∧ w' = w) := timesF p (fm x x) w
      have HQ : Hid (sqN 7 a 1 = sqN (7 - (k + 1)) (fm x x) (fm p (fm x x))) := by
        have := HS.out
        rw [show 7 - k = 7 - (k + 1) + 1 by omega] at this
        exact this
      generalize fm x x = xx at H1 H2 HQ
      generalize fm p xx = pp at H2 HQ
      go_wp2_with (first
        | (go_at_call 53; refine H1.out.mono ?_; rintro e1 w1 ⟨rfl, hw⟩; obtain rfl := hw.symm; clear H1 hw)
        | (go_at_call 53; refine H2.out.mono ?_; rintro e1 w1 ⟨rfl, hw⟩; obtain rfl := hw.symm; clear H2 hw))
      go_roundw
      case rel => exact ⟨k + 1, xx, pp, by omega, by go_num, rfl, rfl, HQ.out, trivial⟩
      case measure => simp [intOf]; omega
    · obtain rfl : k = 7 := by omega
      go_wp2
      go_ret
      have e : sqN (7 - 7) x p = p := rfl
      exact ⟨ret_int (by rw [← sq_all a, HS.out, e]), rfl⟩
set_option maxHeartbeats 400000 in
/-- withCoefficients' polynomial. -/
theorem poly_ok (x : F) (p b off c : Nat) (l : List F) (w : World) (hp : w.cell? ⟨p, 0, none⟩ = some (.slice (some ⟨b, off, none⟩) l.length c)) (hl : l.length ≤ 4000) (h : Hid (Rw w b off l)) :
    Calls Try.prog 57 #[.int .u8 (x.1 : Nat), .pointer (some ⟨p, 0, none⟩)] w fun e w' => e = .returned (.int .u8 ((pv x l).1 : Nat)) ∧ w' = w := by
  obtain ⟨n, HN⟩ : ∃ n, Hid (l.length = n) := ⟨_, rfl⟩
  rw [HN.out] at hp hl
  go_enter Try.func57, Try.ntmps57
  go_wp2
  go_loopw [4, 9] (fun vy vi wr => ∃ (k : Nat) (y : F), k ≤ n ∧ vi = .int .i64 (k : Nat) ∧ vy = .int .u8 (y.1 : Nat) ∧ Hid (y = pv x (l.take k)) ∧ wr = w) (fun _ vi _ => n - (intOf vi).toNat)
  case atStart => exact ⟨0, 0, by omega, rfl, rfl, rfl, rfl⟩
  case round =>
    obtain ⟨k, y, hk, rfl, rfl, HY, hw⟩ := hrel
    obtain rfl := hw.symm
    by_cases hlt : k < n
    · obtain ⟨z, HZ⟩ : ∃ z, Hid (l.getD k 0 = z) := ⟨_, rfl⟩
      have c1 : w.cell? ⟨b, off + k, none⟩ = some (.int .u8 (z.1 : Nat)) := by rw [← HZ.out]; exact h.out k (by rw [HN.out]; exact hlt)
      have HK : Hid (pv x (l.take (k + 1)) = fa (fm y x) z) := by
        have hk' : k < l.length := by rw [HN.out]; exact hlt
        show _ = _
        rw [List.take_succ_eq_append_getElem hk', pv_snoc, ← HY.out, ← HZ.out, List.getD_eq_getElem?_getD, List.getElem?_eq_getElem hk']
        rfl
      have H1 : Hid (Calls Try.prog 53 #[.int .u8 (y.1 : Nat), .int .u8 (x.1 : Nat)] w fun e w' => e = .returned (.int .u8 ((fm y x).1 : Nat)) ∧ w' = w) := timesF y x w
      generalize fm y x = yx at H1 HK
      go_wp2_with (first
        | (go_at_call 53; refine H1.out.mono ?_; rintro e1 w1 ⟨rfl, hw⟩; obtain rfl := hw.symm; clear H1 hw))
      go_roundw
      case rel => exact ⟨k + 1, fa yx z, by omega, by go_num, val_eq (xorF yx z), HK.out.symm, trivial⟩
      case measure => simp [intOf]; omega
    · obtain rfl : k = n := by omega
      go_wp2
      go_ret
      have e := HY.out
      rw [← HN.out, List.take_length] at e
      exact ⟨ret_int (by rw [e]), rfl⟩
end Go.Proofs.Ytffejkfkkciaaaa
