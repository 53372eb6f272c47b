import Derived.Test.YtffejkfkkciaaaaNum
namespace Go.Proofs.Ytffejkfkkciaaaa
open Go.RowKit

theorem isBuilder_drewN {T e : TypeId} {B b : Nat} {bs : List Value} {w : World} (h : Lib.IsBuilder T e B b bs w) (m : Nat) : Lib.IsBuilder T e B b bs (w.drewN m) := h
theorem below_drewN0 {B : Nat} {w w' : World} (h : Below B w w') (m : Nat) : Below B w (w'.drewN m) := h.trans ⟨rfl, rfl, rfl, Nat.le_refl _, fun _ _ => rfl⟩

set_option maxHeartbeats 1000000 in
set_option maxRecDepth 100000 in
theorem words_core (g o n c : Nat) (xs : List Int) (w : World) (hn : n ≤ 3000) (ax : Hid (∀ i, 0 ≤ xs.getD i 0 ∧ xs.getD i 0 < 256)) (hnc : n ≤ c) (hcm : c ≤ 9223372036854775807)
    (h1 : Hid (∀ i, i < n → w.cell? ⟨g, o + i, none⟩ = some (.int .u8 (xs.getD i 0)))) :
    Calls Try.prog 15 #[.slice (some ⟨g, o, none⟩) n c] w fun e w' => e = .returned (.string ⟨(wl xs (n / 2)).toArray⟩) ∧ Below w.heap.size w w' := by
  go_enter Try.func15, Try.ntmps15
  go_wp2
  go_loopw [4] (fun i wr => ∃ k : Nat, 2 * k ≤ n ∧ i = .int .i64 ((2 * k : Nat) : Int) ∧ Hid (Lib.IsBuilder 64 5 w.heap.size w.heap.size (Lib.byteCells (wl xs k)) wr) ∧ Hid (Below w.heap.size w wr)) (fun i _ => n - (intOf i).toNat)
  case atStart => exact ⟨0, by omega, rfl, Lib.fresh_isBuilder 64 5 w, (Below.refl _ _).alloc (Nat.le_refl _) _⟩
  case round =>
    obtain ⟨k, hk, rfl, HI, HB⟩ := hrel
    have HL := wl_length xs k
    by_cases hlt : 2 * k + 1 < n
    · have g1 := h1.out (2 * k) (by omega)
      have g2 := h1.out (2 * k + 1) (by omega)
      have hgb : g < w.heap.size := World.block_lt_of_cell? w _ g1
      obtain ⟨x0, x1⟩ := ax.out (2 * k)
      obtain ⟨y0, y1⟩ := ax.out (2 * k + 1)
      have HW : Hid (wl xs (k + 1) = wl xs k ++ ((if k = 0 then [] else [32]) ++ word (xs.getD (2 * k) 0 * 256 + xs.getD (2 * k + 1) 0))) := rfl
      generalize xs.getD (2 * k) 0 = x at g1 x0 x1 HW
      generalize xs.getD (2 * k + 1) 0 = y at g2 y0 y1 HW
      by_cases h0 : k = 0
      · subst h0
        have c1 : wr.cell? ⟨g, o, none⟩ = some (.int .u8 x) := (HB.out.cell hgb).trans g1
        have c2 : wr.cell? ⟨g, o + 1, none⟩ = some (.int .u8 y) := (HB.out.cell hgb).trans g2
        go_wp2_with (go_at_call 30; refine (number_ok g o n c x y _ (by omega) x0 x1 y0 y1 c1 c2).mono ?_; rintro e w1 ⟨rfl, m, rfl⟩)
        go_wp2_with (go_at_call 29; refine (writeWord_ok w.heap.size w.heap.size _ (x * 256 + y) _ (by omega) (by omega) (isBuilder_drewN HI.out m) (by rw [Lib.byteCells_length]; omega) (by simpa using HB.out.size)).mono ?_; rintro e w2 ⟨rfl, h2, b2⟩)
        have HI2 : Hid (Lib.IsBuilder 64 5 w.heap.size w.heap.size (Lib.byteCells (wl xs (0 + 1))) w2) := by
          refine .inr ?_
          rw [HW.out, Lib.byteCells_append, if_pos trivial, List.nil_append]
          exact h2
        have HB2 : Hid (Below w.heap.size w w2) := (below_drewN0 HB.out m).trans b2
        clear h2 b2 HI HB
        go_wp2
        go_roundw
        case rel => exact ⟨1, by omega, by go_num, HI2, HB2⟩
        case measure => simp [intOf]; omega
      · have c1 : wr.cell? ⟨g, o + 2 * k, none⟩ = some (.int .u8 x) := (HB.out.cell hgb).trans g1
        have c2 : wr.cell? ⟨g, o + 2 * k + 1, none⟩ = some (.int .u8 y) := (HB.out.cell hgb).trans g2
        go_wp2_with (go_at_call 28; refine (writeByte_ok w.heap.size w.heap.size _ 32 _ HI.out (by rw [Lib.byteCells_length]; omega) HB.out.size).mono ?_)
        rintro e w1 ⟨rfl, i1, b1⟩
        have c3 : w1.cell? ⟨g, o + 2 * k, none⟩ = some (.int .u8 x) := (b1.cell hgb).trans c1
        have c4 : w1.cell? ⟨g, o + 2 * k + 1, none⟩ = some (.int .u8 y) := (b1.cell hgb).trans c2
        go_wp2_with (go_at_call 30; refine (number_ok g (o + 2 * k) (n - 2 * k) (c - 2 * k) x y _ (by omega) x0 x1 y0 y1 c3 c4).mono ?_; rintro e w5 ⟨rfl, m, rfl⟩)
        go_wp2_with (go_at_call 29; refine (writeWord_ok w.heap.size w.heap.size _ (x * 256 + y) _ (by omega) (by omega) (isBuilder_drewN (.inr i1) m) (by rw [List.length_append, Lib.byteCells_length]; simp; omega) (by have := HB.out.size; have := b1.size; simp; omega)).mono ?_; rintro e w2 ⟨rfl, h2, b2⟩)
        have HI2 : Hid (Lib.IsBuilder 64 5 w.heap.size w.heap.size (Lib.byteCells (wl xs (k + 1))) w2) := by
          refine .inr ?_
          rw [HW.out, Lib.byteCells_append, if_neg h0, Lib.byteCells_append, ← List.append_assoc]
          exact h2
        have HB2 : Hid (Below w.heap.size w w2) := (below_drewN0 (HB.out.trans b1) m).trans b2
        clear h2 b2 HI HB i1 b1
        go_wp2
        go_roundw
        case rel => exact ⟨k + 1, by omega, by go_num, HI2, HB2⟩
        case measure => simp [intOf]; omega
    · obtain rfl : k = n / 2 := by omega
      go_wp2_with (go_at_call 31; refine (Try.Builder_String_any w.heap.size w.heap.size _ _ HI.out HB.out.size).mono ?_)
      rintro e w2 ⟨rfl, hb2⟩
      go_wp2
      go_ret
      exact ⟨rfl, HB.out.trans hb2⟩
end Go.Proofs.Ytffejkfkkciaaaa
