import Derived.Test.YtohhjohpdfbdoaaRl
namespace Go.Proofs.Ytohhjohpdfbdoaa
open Go.RowKit
attribute [local go_sem ↓] Go.wp_at_zero Go.wp_at_succ
set_option linter.unusedVariables false
set_option linter.unusedSimpArgs false
theorem num2_ok (x : Int) (W : World) : Calls Try.prog 8 #[.int .i64 x] W fun e w' => e = .returned (.int .i64 x) ∧ W = w' := by
  go_enter Try.func8, Try.ntmps8
  go_wp2
  go_ret
  exact ⟨rfl, rfl⟩
set_option maxHeartbeats 8000000 in
set_option maxRecDepth 100000 in
theorem reads_ok (s o : ByteArray) (w : World) (H9 : ∀ W : World, Calls Try.prog 9 #[.string s] W (PV s W)) :
    Calls Try.prog 4 #[.string s, .string o] w fun e w' => e = .returned (.bool true) ∧ Below w.heap.size w w' := by
  obtain ⟨i0, hi, hz0, hz1, hz2⟩ := info_parts info31
  have HP := fun W => pv_call s W
  have HO := fun W => pv_call o W
  obtain ⟨A, hA⟩ : ∃ A, strOfNums (pa s).cmd = A := ⟨_, rfl⟩
  obtain ⟨Bn, hB⟩ : ∃ B, strOfNums (pa s).name = B := ⟨_, rfl⟩
  obtain ⟨L, hL⟩ : ∃ L, (pa s).opts = L := ⟨_, rfl⟩
  obtain ⟨ee, hee⟩ : ∃ e, pe s = e := ⟨_, rfl⟩
  obtain ⟨ap, hap⟩ : ∃ e, pp s = e := ⟨_, rfl⟩
  unfold PV at HP H9
  rw [hA, hB, hL, hee, hap] at HP H9
  obtain ⟨n, hn⟩ : ∃ n, L.length = n := ⟨_, rfl⟩
  have HN : Hid (L.length = n) := hn
  rw [hn] at HP H9
  clear hA hB hL hee hap hn
  go_enter Try.func4, Try.ntmps4
  go_wp2_with (go_at_call 9; refine (H9 _).mono ?_; rintro e w1 ⟨v1, rfl, r1, few1, b1⟩; obtain ⟨p1, c1, rfl⟩ := own_slice r1)
  have m1 := World.alloc_heap_new w1 (.cells #[.string A, .string Bn, .slice p1 n c1] 25)
  have g1 := World.grownBy_alloc w1 (.cells #[.string A, .string Bn, .slice p1 n c1] 25) none
  have q1 : ∀ b, (Value.slice p1 n c1).ownBlock = some b → b < w1.heap.size := fun b e => (r1.lt b e).2
  have r1 := r1.kept g1 (Classical.em _)
  have d1 : Below w.heap.size w (w1.alloc (.cells #[.string A, .string Bn, .slice p1 n c1] 25)) := b1.alloc b1.size _
  have z1 : (w1.alloc (.cells #[.string A, .string Bn, .slice p1 n c1] 25)).heap.size = w1.heap.size + 1 := by simp
  obtain ⟨x1, hx1⟩ : ∃ x, w1.alloc (.cells #[.string A, .string Bn, .slice p1 n c1] 25) = x := ⟨_, rfl⟩
  rw [hx1] at m1 r1 d1 z1 ⊢
  clear hx1 g1
  refine (HP _).mono ?_
  rintro e w2 ⟨v2, rfl, r2, few2, b2⟩
  obtain ⟨p2, c2, rfl⟩ := own_slice r2
  have q2 : ∀ b, (Value.slice p2 n c2).ownBlock = some b → x1.heap.size ≤ b ∧ b < w2.heap.size := fun b e => r2.lt b e
  have g2 := (grown_of_below b2).trans (World.grownBy_alloc w2 (.cells #[.string A, .string Bn, .slice p2 n c2] 25) none)
  have m1 := at_kept m1 g2 (by simp)
  have r1 := r1.kept g2 (Classical.em _)
  have m2 := World.alloc_heap_new w2 (.cells #[.string A, .string Bn, .slice p2 n c2] 25)
  have r2 := r2.kept (World.grownBy_alloc w2 (.cells #[.string A, .string Bn, .slice p2 n c2] 25) none) (Classical.em _)
  have d2 : Below w.heap.size w (w2.alloc (.cells #[.string A, .string Bn, .slice p2 n c2] 25)) := d1.grown g2 d1.size (fun k e => by cases e)
  have z2 : (w2.alloc (.cells #[.string A, .string Bn, .slice p2 n c2] 25)).heap.size = w2.heap.size + 1 := by simp
  have l2 := b2.size
  go_wp2_with (go_at_call 99; skip)
  obtain ⟨x2, hx2⟩ : ∃ x, w2.alloc (.cells #[.string A, .string Bn, .slice p2 n c2] 25) = x := ⟨_, rfl⟩
  rw [hx2] at m1 m2 r1 r2 d2 z2 ⊢
  clear hx2 g2 b2
  refine (HP _).mono ?_
  rintro e w3 ⟨v3, rfl, r3, few3, b3⟩
  obtain ⟨p3, c3, rfl⟩ := own_slice r3
  have q3 : ∀ b, (Value.slice p3 n c3).ownBlock = some b → x2.heap.size ≤ b := fun b e => (r3.lt b e).1
  have g3 := (grown_of_below b3).trans (World.grownBy_alloc w3 (.cells #[.string A, .string Bn, .slice p3 n c3] 25) none)
  have m1 := at_kept m1 g3 (by simp)
  have m2 := at_kept m2 g3 (by simp)
  have r1 := r1.kept g3 (Classical.em _)
  have r2 := r2.kept g3 (Classical.em _)
  have m3 := World.alloc_heap_new w3 (.cells #[.string A, .string Bn, .slice p3 n c3] 25)
  have r3 := r3.kept (World.grownBy_alloc w3 (.cells #[.string A, .string Bn, .slice p3 n c3] 25) none) (Classical.em _)
  have d3 : Below w.heap.size w (w3.alloc (.cells #[.string A, .string Bn, .slice p3 n c3] 25)) := d2.grown g3 d2.size (fun k e => by cases e)
  have z3 : (w3.alloc (.cells #[.string A, .string Bn, .slice p3 n c3] 25)).heap.size = w3.heap.size + 1 := by simp
  have l3 := b3.size
  go_wp2_with (go_at_call 99; skip)
  obtain ⟨x3, hx3⟩ : ∃ x, w3.alloc (.cells #[.string A, .string Bn, .slice p3 n c3] 25) = x := ⟨_, rfl⟩
  rw [hx3] at m1 m2 m3 r1 r2 r3 d3 z3 ⊢
  clear hx3 g3 b3
  refine (HO _).mono ?_
  rintro e w4 ⟨v4, rfl, _, _, b4⟩
  have g4 := grown_of_below b4
  have m1 := at_kept m1 g4 (by simp)
  have m2 := at_kept m2 g4 (by simp)
  have m3 := at_kept m3 g4 (by simp)
  have r1 := r1.kept g4 (Classical.em _)
  have r2 := r2.kept g4 (Classical.em _)
  have r3 := r3.kept g4 (Classical.em _)
  have d4 : Below w.heap.size w w4 := d3.grown g4 d3.size (fun k e => by cases e)
  have l4 := b4.size
  clear b4 g4
  have few : n ≤ 1000000 := by omega
  have y10 : w4.cell? ⟨w1.heap.size, 0, none⟩ = some (.string A) := by simp [World.cell?, m1]
  have y11 : w4.cell? ⟨w1.heap.size, 1, none⟩ = some (.string Bn) := by simp [World.cell?, m1]
  have y12 : w4.cell? ⟨w1.heap.size, 2, none⟩ = some (.slice p1 n c1) := by simp [World.cell?, m1]
  have y20 : w4.cell? ⟨w2.heap.size, 0, none⟩ = some (.string A) := by simp [World.cell?, m2]
  have y21 : w4.cell? ⟨w2.heap.size, 1, none⟩ = some (.string Bn) := by simp [World.cell?, m2]
  have y22 : w4.cell? ⟨w2.heap.size, 2, none⟩ = some (.slice p2 n c2) := by simp [World.cell?, m2]
  go_wp2_with (go_at_call 99; skip)
  refine (same_ok A Bn _ _ _ _ L n HN few w4 r2 r1).mono ?_
  rintro e w5 ⟨rfl, g5⟩
  clear y10 y11 y12 y20 y21 y22
  have m1 := at_kept m1 g5 (by simp)
  have m2 := at_kept m2 g5 (by simp)
  have m3 := at_kept m3 g5 (by simp)
  have r1 := r1.kept g5 (Classical.em _)
  have r2 := r2.kept g5 (Classical.em _)
  have r3 := r3.kept g5 (Classical.em _)
  have d5 : Below w.heap.size w w5 := d4.grown g5 d4.size (fun k e => by cases e)
  have y10 : w5.cell? ⟨w1.heap.size, 0, none⟩ = some (.string A) := by simp [World.cell?, m1]
  have y11 : w5.cell? ⟨w1.heap.size, 1, none⟩ = some (.string Bn) := by simp [World.cell?, m1]
  have y12 : w5.cell? ⟨w1.heap.size, 2, none⟩ = some (.slice p1 n c1) := by simp [World.cell?, m1]
  have y30 : w5.cell? ⟨w3.heap.size, 0, none⟩ = some (.string A) := by simp [World.cell?, m3]
  have y31 : w5.cell? ⟨w3.heap.size, 1, none⟩ = some (.string Bn) := by simp [World.cell?, m3]
  have y32 : w5.cell? ⟨w3.heap.size, 2, none⟩ = some (.slice p3 n c3) := by simp [World.cell?, m3]
  go_wp2_with (go_at_call 99; skip)
  refine (same_ok A Bn _ _ _ _ L n HN few w5 r3 r1).mono ?_
  rintro e w6 ⟨rfl, g6⟩
  clear y10 y11 y12 y30 y31 y32
  have m1 := at_kept m1 g6 (by simp)
  have m2 := at_kept m2 g6 (by simp)
  have m3 := at_kept m3 g6 (by simp)
  have r1 := r1.kept g6 (Classical.em _)
  have r2 := r2.kept g6 (Classical.em _)
  have r3 := r3.kept g6 (Classical.em _)
  have d6 : Below w.heap.size w w6 := d5.grown g6 d5.size (fun k e => by cases e)
  have l6 : w3.heap.size < w6.heap.size := (Array.getElem?_eq_some_iff.1 m3).1
  clear g5 g6 d1 d2 d3 d4 d5 HP HO H9 few1 few2 few3
  go_wp2_with (go_at_call 8; refine (num2_ok _ _).mono ?_; rintro e w9 ⟨rfl, rfl⟩)
  have HM1 : Hid (w6.heap[w1.heap.size]? = some (.cells #[.string A, .string Bn, .slice p1 n c1] 25 (0, 0))) := m1
  have HM2 : Hid (w6.heap[w2.heap.size]? = some (.cells #[.string A, .string Bn, .slice p2 n c2] 25 (0, 0))) := m2
  have HM3 : Hid (w6.heap[w3.heap.size]? = some (.cells #[.string A, .string Bn, .slice p3 n c3] 25 (0, 0))) := m3
  have hr2 : Hid (∃ xs, w6.ownsRow x1.heap.size 31 2 (.slice p2 n c2) n xs) := ⟨_, r2⟩
  clear m1 m2 m3 r2
  go_loopw [14] (fun v wr => ∃ k : Nat, k ≤ n ∧ v = .int .i64 k ∧ Hid (Ex w6 wr (fun b => (Value.slice p2 n c2).ownBlock = some b)) ∧ Hid (∃ xs, wr.ownsRow x1.heap.size 31 2 (.slice p2 n c2) n xs)) (fun v _ => n - (intOf v).toNat)
  case atStart => exact ⟨0, Nat.zero_le _, rfl, Ex.refl _ _, hr2⟩
  case round =>
    obtain ⟨k, hk, rfl, hEx, hrow⟩ := hrel
    have hm2 : wr.heap[w2.heap.size]? = some (.cells #[.string A, .string Bn, .slice p2 n c2] 25 (0, 0)) := (hEx.out.block _ (by omega) (fun e => by have := (q2 _ e).2; omega)).trans HM2.out
    have y22 : wr.cell? ⟨w2.heap.size, 2, none⟩ = some (.slice p2 n c2) := by simp [World.cell?, hm2]
    by_cases hlt : k < n
    · obtain ⟨xs, hrow⟩ := hrow.out
      obtain ⟨n', rfl⟩ : ∃ n', n = n' + 1 := ⟨n - 1, by omega⟩
      obtain ⟨g, cc, e1⟩ := ownsRow_succ hrow
      cases e1
      obtain ⟨⟨a1, ha1⟩, f1⟩ := ownsRow_at (k := k * 2) hrow (by omega)
      obtain ⟨⟨a2, ha2⟩, f2⟩ := ownsRow_at (k := k * 2 + 1) hrow (by omega)
      obtain ⟨ys, hrow2⟩ := ownsRow_store (k := k * 2) hrow (.string ⟨#[115, 112, 111, 105, 108, 116]⟩)
      obtain ⟨zs, hrow3⟩ := ownsRow_store (k := k * 2 + 1) hrow2 (.string ⟨#[]⟩)
      have HE3 : Hid (Ex w6 ((wr.setCell ⟨g, k * 2, none⟩ (.string ⟨#[115, 112, 111, 105, 108, 116]⟩)).setCell ⟨g, k * 2 + 1, none⟩ (.string ⟨#[]⟩)) (fun b => (Value.slice (some ⟨g, 0, none⟩) (n' + 1) c2).ownBlock = some b)) := (hEx.out.grown (grown_set wr g (k * 2) _) (fun b e => by cases e; exact .inl rfl)).grown (grown_set _ g (k * 2 + 1) _) (fun b e => by cases e; exact .inl rfl)
      have HR3 : Hid (∃ xs, ((wr.setCell ⟨g, k * 2, none⟩ (.string ⟨#[115, 112, 111, 105, 108, 116]⟩)).setCell ⟨g, k * 2 + 1, none⟩ (.string ⟨#[]⟩)).ownsRow x1.heap.size 31 2 (.slice (some ⟨g, 0, none⟩) (n' + 1) c2) (n' + 1) xs) := ⟨_, hrow3⟩
      clear hrow hrow2 hrow3
      go_wp2
      go_roundw
      case rel => exact ⟨k + 1, by omega, by go_num, HE3, HR3⟩
      case measure => simp [intOf]; omega
    · obtain rfl : k = n := by omega
      go_wp2
      have HS : Hid (∃ p c xs, wr.heap[w2.heap.size]? = some (.cells #[.string A, .string Bn, .slice p (k + 0) c] 25 (0, 0)) ∧ wr.ownsRow x1.heap.size 31 2 (.slice p (k + 0) c) (k + 0) xs ∧ (∀ b, (Value.slice p (k + 0) c).ownBlock = some b → (Value.slice p2 k c2).ownBlock = some b ∨ w6.heap.size ≤ b)) := by
        obtain ⟨xs, hrow⟩ := hrow.out
        exact ⟨p2, c2, xs, hm2, hrow, fun b e => .inl e⟩
      have HE0 : Hid (Ex w6 wr (fun b => b = w2.heap.size ∨ (Value.slice p2 k c2).ownBlock = some b)) := ⟨hEx.out.os, hEx.out.tape, hEx.out.output, hEx.out.size, fun b hb hm => hEx.out.block b hb (fun e => hm (.inr e))⟩
      have HB0 : Hid (x1.heap.size ≤ w6.heap.size) := by
        have h1 : x1.heap.size ≤ w6.heap.size := by omega
        exact h1
      clear hm2 y22 hrow hEx hr2
      go_loopw [15] (fun v wv => ∃ j : Nat, j ≤ 30 ∧ v = .int .i64 j ∧ Hid (∃ p c xs, wv.heap[w2.heap.size]? = some (.cells #[.string A, .string Bn, .slice p (k + j) c] 25 (0, 0)) ∧ wv.ownsRow x1.heap.size 31 2 (.slice p (k + j) c) (k + j) xs ∧ (∀ b, (Value.slice p (k + j) c).ownBlock = some b → (Value.slice p2 k c2).ownBlock = some b ∨ w6.heap.size ≤ b)) ∧ Hid (Ex w6 wv (fun b => b = w2.heap.size ∨ (Value.slice p2 k c2).ownBlock = some b))) (fun v _ => 30 - (intOf v).toNat)
      case atStart => exact ⟨0, by omega, rfl, HS, HE0⟩
      case round =>
        obtain ⟨j, hj, rfl, hS, hE⟩ := hrel
        clear HS HE0
        obtain ⟨p, c, xs, hm, hrow, hbl⟩ := hS.out
        clear hS
        have hsz : w6.heap.size ≤ wr.heap.size := hE.out.size
        have y22 : wr.cell? ⟨w2.heap.size, 2, none⟩ = some (.slice p (k + j) c) := by simp [World.cell?, hm]
        have hfar : some w2.heap.size ≠ (Value.slice p (k + j) c).ownBlock := fun e => by
          rcases hbl _ e.symm with h | h
          · have := (q2 _ h).2
            omega
          · omega
        by_cases hlt : j < 30
        · go_wp2_with (at_builtin; go_must (refine wpList_append_lies _ rfl (.tmp 74) (.tmp 76) 23 rfl x1.heap.size 31 i0 (.agg #[.string ⟨#[]⟩, .string ⟨#[]⟩]) 2 32 Try.underlying23 hi hz0 hz1 hz2 rfl (by decide) _ (k + j) xs rfl (hrow.alloc _) ⟨wr.heap.size, 0, none⟩ 1 1 [.string ⟨#[109, 111, 114, 101]⟩, .string ⟨#[]⟩] rfl rfl (two_new _ _ _ _) (by simp [Value.oneCell']) (by decide) (by unfold maxLen; omega) (by omega) (by have := HB0.out; simp; omega) (wr.heap.size + 1) (by simp) ?_))
          intro g7 c7 w7 hown hgrow hat hlt7
          have gA := World.grownBy_alloc wr (.cells #[.string ⟨#[109, 111, 114, 101]⟩, .string ⟨#[]⟩] 31) none
          have hm7 := at_kept (at_kept hm gA (by simp)) hgrow hfar
          have zz : w7.frozen? ⟨w2.heap.size, 2, none⟩ = false := by simp [World.frozen?, hm7]
          have yy : w7.cell? ⟨w2.heap.size, 2, none⟩ = some (.slice p (k + j) c) := by simp [World.cell?, hm7]
          have gS := grown_set w7 w2.heap.size 2 (.slice (some ⟨g7, 0, none⟩) (k + j + 1) c7)
          have h3 := set_block hm7 2 (.slice (some ⟨g7, 0, none⟩) (k + j + 1) c7)
          simp only [List.setIfInBounds_toArray, List.set_cons_zero, List.set_cons_succ] at h3
          have hg7 : (Value.slice p2 k c2).ownBlock = some g7 ∨ w6.heap.size ≤ g7 := by
            rcases hat with h | h
            · exact hbl _ h
            · right; omega
          have hne : w2.heap.size ≠ g7 := by
            rcases hg7 with h | h
            · have := (q2 _ h).2
              omega
            · omega
          have hown8 := hown.kept gS (.inr (fun e => hne (Option.some.inj e).symm))
          have HS8 : Hid (∃ p c xs, (w7.setCell ⟨w2.heap.size, 2, none⟩ (.slice (some ⟨g7, 0, none⟩) (k + j + 1) c7)).heap[w2.heap.size]? = some (.cells #[.string A, .string Bn, .slice p (k + (j + 1)) c] 25 (0, 0)) ∧ (w7.setCell ⟨w2.heap.size, 2, none⟩ (.slice (some ⟨g7, 0, none⟩) (k + j + 1) c7)).ownsRow x1.heap.size 31 2 (.slice p (k + (j + 1)) c) (k + (j + 1)) xs ∧ (∀ b, (Value.slice p (k + (j + 1)) c).ownBlock = some b → (Value.slice p2 k c2).ownBlock = some b ∨ w6.heap.size ≤ b)) :=
            ⟨some ⟨g7, 0, none⟩, c7, _, h3, (by rw [z1]; exact hown8), fun b e => by cases e; exact hg7⟩
          have HE8 : Hid (Ex w6 (w7.setCell ⟨w2.heap.size, 2, none⟩ (.slice (some ⟨g7, 0, none⟩) (k + j + 1) c7)) (fun b => b = w2.heap.size ∨ (Value.slice p2 k c2).ownBlock = some b)) :=
            ((hE.out.grown gA (fun b e => by cases e)).grown hgrow (fun b e => (hbl b e).elim (fun h => .inl (.inr h)) .inr)).grown gS (fun b e => by cases e; exact .inl (.inl rfl))
          clear hown hgrow hat hlt7 hown8 h3 gS hm7 gA hm hrow hbl hfar hE y22
          go_wp2
          go_roundw
          case rel => exact ⟨j + 1, by omega, by go_num, HS8, HE8⟩
          case measure => simp [intOf]; omega
        · obtain rfl : j = 30 := by omega
          have n1 : wr.heap[w1.heap.size]? = some (.cells #[.string A, .string Bn, .slice p1 k c1] 25 (0, 0)) := (hE.out.block _ (by omega) (fun e => e.elim (fun h => by omega) (fun h => by have := (q2 _ h).1; omega))).trans HM1.out
          have n3 : wr.heap[w3.heap.size]? = some (.cells #[.string A, .string Bn, .slice p3 k c3] 25 (0, 0)) := (hE.out.block _ (by omega) (fun e => e.elim (fun h => by omega) (fun h => by have := (q2 _ h).2; omega))).trans HM3.out
          have t1 := ownsRow_move (W' := wr) r1 (fun b e => hE.out.block b (by have := (r1.lt b e).2; omega) (fun h => by have := q1 b e; exact h.elim (fun h => by omega) (fun h => by have := (q2 _ h).1; omega)))
          have t3 := ownsRow_move (W' := wr) r3 (fun b e => hE.out.block b (by have := (r3.lt b e).2; omega) (fun h => by have := q3 b e; exact h.elim (fun h => by omega) (fun h => by have := (q2 _ h).2; omega)))
          have dd : Below w.heap.size w wr := ⟨hE.out.os.trans d6.os, hE.out.tape.trans d6.tape, hE.out.output.trans d6.output, Nat.le_trans d6.size hE.out.size, fun b hb => (hE.out.block b (by have := d6.size; omega) (fun h => h.elim (fun h => by have := b1.size; omega) (fun h => by have := (q2 _ h).1; have := b1.size; omega))).trans (d6.block b hb)⟩
          have y10 : wr.cell? ⟨w1.heap.size, 0, none⟩ = some (.string A) := by simp [World.cell?, n1]
          have y11 : wr.cell? ⟨w1.heap.size, 1, none⟩ = some (.string Bn) := by simp [World.cell?, n1]
          have y12 : wr.cell? ⟨w1.heap.size, 2, none⟩ = some (.slice p1 k c1) := by simp [World.cell?, n1]
          have y30 : wr.cell? ⟨w3.heap.size, 0, none⟩ = some (.string A) := by simp [World.cell?, n3]
          have y31 : wr.cell? ⟨w3.heap.size, 1, none⟩ = some (.string Bn) := by simp [World.cell?, n3]
          have y32 : wr.cell? ⟨w3.heap.size, 2, none⟩ = some (.slice p3 k c3) := by simp [World.cell?, n3]
          go_wp2_with (go_at_call 99; skip)
          refine (same_ok A Bn _ _ _ _ L k HN few wr t3 t1).mono ?_
          rintro e w9 ⟨rfl, g9⟩
          have hm9 := at_kept hm g9 (by simp)
          have y9 : w9.cell? ⟨w2.heap.size, 2, none⟩ = some (.slice p (k + 30) c) := by simp [World.cell?, hm9]
          have q30 : decide ((30 : Int) ≤ ((k + 30 : Nat) : Int)) = true := by simp; omega
          have q31 : decide ((30 : Int) ≤ (k : Int) + 30) = true := by simp; omega
          go_wp2
          go_ret
          exact ⟨by simp, dd.grown g9 dd.size (fun k e => by cases e)⟩
end Go.Proofs.Ytohhjohpdfbdoaa
