import Derived.Test.YtcopkohklgbpgaaDoorOne
namespace Go.Proofs.YtcopkohklgbpgaaDoor
open Go.RowKit
set_option linter.unusedVariables false
set_option linter.unusedSimpArgs false
theorem Mat.set {w : World} {b k : Nat} {zs : List Int} (h : Mat w b zs) (hk : k < zs.length) (x : Int) : Mat (w.setCell ⟨b, k, none⟩ (.int .u8 x)) b (zs.set k x) := by
  refine ⟨fun i hi => ?_, fun j hj => ?_⟩
  · simp at hi
    by_cases e : i = k
    · subst e
      rw [World.cell?_setCell_same' _ _ _ (by rw [h.cell i hi]; rfl)]
      simp [List.getD, hk]
    · rw [World.cell?_setCell_other _ _ _ _ (by intro q; injection q with _ q2; exact e q2.symm), h.cell i hi]
      simp [List.getD, List.getElem?_set_ne (Ne.symm e)]
  · simp at hj
    exact World.there_setCells h.there b k [.int .u8 x] j hj
theorem Mat.lt {w : World} {b : Nat} {zs : List Int} (h : Mat w b zs) (h0 : zs ≠ []) : b < w.heap.size := by
  have := World.block_lt_of_cell? w _ (h.cell 0 (by cases zs with | nil => exact absurd rfl h0 | cons _ _ => simp))
  simpa using this
set_option maxHeartbeats 1600000 in
set_option maxRecDepth 100000 in
/-- filled: some bytes. -/
theorem filled_ok (N l fc : Nat) (fa : Option Addr) (Y : List Int) (w : World) (hN : N ≤ 8000000) (hl : l ≤ 9223372036854775807) (hY : Hid (View w (.slice fa l fc) Y)) (hYl : Hid (Y.length = l)) :
    Calls Tryd.prog 12 #[.int .i64 (N : Nat), .slice fa l fc] w fun e w' => ∃ b X, e = .returned (.slice (some ⟨b, 0, none⟩) N N) ∧ w.heap.size ≤ b ∧ b < w'.heap.size ∧ X.length = N ∧ Mat w' b X ∧ Below w.heap.size w w' := by
  obtain ⟨i0, hi, hz0, hz1, hz2⟩ := info_parts Tryd.info5
  go_enter Tryd.func12, Tryd.ntmps12
  go_wp2_with (first
    | (at_make; go_must (refine wpList_make_full _ rfl _ _ 22 rfl w.heap.size 5 i0 (.int .u8 0) 1 Tryd.underlying22 hi hz0 hz1 .i64 .i64 (N : Nat) (N : Nat) N rfl rfl rfl rfl ?_ ?_ ?_ ?_)))
  · rw [hz2]; omega
  · unfold maxLen; omega
  · exact Nat.le_refl _
  intro w1 hown hgr
  have HB1 : Hid (Below w.heap.size w w1) := (Below.refl _ _).grown hgr (Nat.le_refl _) (by intro k hk; cases hk)
  have HM1 : Hid (Mat w1 w.heap.size (List.replicate N 0)) := by
    refine ⟨fun i hi' => ?_, fun j hj => ⟨?_, hown.frozenAt _⟩⟩
    · simp at hi'
      rw [hown.cellAt i (by omega)]
      simp [hi', List.getD, madeCells, Nat.mod_one]
    · simp at hj
      rw [Nat.zero_add, hown.cellAt j (by omega)]
      simp [hj, madeCells]
  have hlt1 : w.heap.size < w1.heap.size := by
    obtain ⟨_, ⟨h, _⟩ | ⟨g', c', cur, h, _, h2, _, _, h5, _⟩⟩ := hown
    · cases h
    · cases h
      exact (Array.getElem?_eq_some_iff.1 h2).1
  clear hown hgr
  obtain ⟨b, hb⟩ : ∃ b, b = w.heap.size := ⟨_, rfl⟩
  rw [← hb] at HM1 hlt1 ⊢
  have HBB : Hid (b = w.heap.size) := hb
  clear hb
  go_wp2
  go_loopw [6] (fun i wr => ∃ k : Nat, k ≤ N ∧ i = .int .i64 (k : Nat) ∧ Hid (∃ X : List Int, X.length = N ∧ Mat wr b X ∧ Below w.heap.size w wr ∧ b < wr.heap.size)) (fun i _ => N - (intOf i).toNat)
  case atStart => exact ⟨0, Nat.zero_le _, rfl, ⟨_, by simp, HM1.out, HB1.out, hlt1⟩⟩
  case round =>
    obtain ⟨k, hk, rfl, HX⟩ := hrel
    by_cases hgo : k < N ∧ 0 < l
    · have e1 : decide ((k : Int) < (N : Int)) = true := by simp; omega
      have e2 : decide ((0 : Int) < (l : Int)) = true := by simp; omega
      obtain ⟨X, hXl, hM, hB, hbl⟩ := HX.out
      obtain ⟨r, hr⟩ : ∃ r, r = k % l := ⟨_, rfl⟩
      obtain ⟨d, hd⟩ : ∃ d, d = k / l := ⟨_, rfl⟩
      have hrl : r < l := by rw [hr]; exact Nat.mod_lt _ hgo.2
      have hrk : r ≤ k := by rw [hr]; exact Nat.mod_le _ _
      have hdk : d ≤ k := by rw [hd]; exact Nat.div_le_self _ _
      have t1 : ((k : Nat) : Int).tmod ((l : Nat) : Int) = (r : Nat) := by rw [hr]; exact (Int.ofNat_tmod k l).symm
      have t2 : ((k : Nat) : Int).tdiv ((l : Nat) : Int) = (d : Nat) := by rw [hd]; exact (Int.ofNat_tdiv k l).symm
      have m1 : ((k : Nat) : Int) % ((l : Nat) : Int) = (r : Nat) := by rw [hr]; simp
      have m2 : ((k : Nat) : Int) / ((l : Nat) : Int) = (d : Nat) := by rw [hd]; simp
      have w1' : IntKind.i64.wrap ((r : Nat) : Int) = (r : Nat) := wrap64_small (by omega) (by omega)
      have w2' : IntKind.i64.wrap ((d : Nat) : Int) = (d : Nat) := wrap64_small (by omega) (by omega)
      have hl00 : ¬ l = 0 := by omega
      have hl0 : ¬ ((l : Nat) : Int) = 0 := by omega
      have hl0b : (((l : Nat) : Int) == 0) = false := by simp; omega
      obtain ⟨fb, fo, y, rfl, hcy, hfb⟩ : ∃ fb fo y, fa = some ⟨fb, fo, none⟩ ∧ wr.cell? ⟨fb, fo + r, none⟩ = some (.int .u8 y) ∧ fb ≠ b := by
        have hl' := hYl.out
        obtain ⟨a', c', e, q1, q2, q3, q4⟩ := hY.out
        injection e with e4 e5 e6
        rcases q4 with q4 | ⟨fb, fo, q5, q6⟩
        · rw [q4] at hl'; simp at hl'; omega
        · have q7 := q6 r (by omega)
          have hlt := World.block_lt_of_cell? w _ q7
          refine ⟨fb, fo, Y.getD r 0, by rw [e4, q5], ?_, by have := HBB.out; simp at hlt; omega⟩
          rw [World.cell?_of_block (w := w) (hB.block fb (by simpa using hlt))]
          exact q7
      have hw8 : IntKind.u8.wrap ((d : Nat) : Int) = ((d : Nat) : Int) % 256 := IntKind.wrap_u8 _
      have hw9 : IntKind.u8.wrap (y + ((d : Nat) : Int) % 256) = (y + ((d : Nat) : Int)) % 256 := by rw [IntKind.wrap_u8]; omega
      have hcb : wr.cell? ⟨b, k, none⟩ = some (.int .u8 (X.getD k 0)) := hM.cell k (by omega)
      have hfr : wr.frozen? ⟨b, k, none⟩ = false := by have := (hM.there k (by omega)).2; simpa using this
      have HN : Hid (∀ x, ∃ X : List Int, X.length = N ∧ Mat (wr.setCell ⟨b, k, none⟩ (.int .u8 x)).drew b X ∧ Below w.heap.size w (wr.setCell ⟨b, k, none⟩ (.int .u8 x)).drew ∧ b < (wr.setCell ⟨b, k, none⟩ (.int .u8 x)).drew.heap.size) := fun x =>
        ⟨X.set k x, by simp [hXl], Mat.kept (hM.set (by omega) x) rfl, (hB.setCell (p := ⟨b, k, none⟩) (by show _ ≤ b; have := HBB.out; omega) _).drew, by simpa [World.setCell, World.drew] using hbl⟩
      obtain ⟨xk, hxk⟩ : ∃ xk, xk = X.getD k 0 := ⟨_, rfl⟩
      rw [← hxk] at hcb
      clear hxk hXl hM hB hr hd HX HM1 HB1
      go_upto_region 5 with fail
      have hS0 : wr.drew.cell? ⟨fb, fo + r, none⟩ = some (.int .u8 y) := hcy
      refine wp_region_noPanic ?_
      refine wp_region_held_drew (S := fun u => u.cell? ⟨fb, fo + r, none⟩ = some (.int .u8 y)) (by kernel_rfl) (hS0) (fun _ => ?_)
      refine takeH_at 0 19 (.slice (some ⟨b, 0, none⟩) N N) rfl rfl (by kernel_rfl) (by kernel_rfl) (by kernel_rfl) (fun _ _ _ h => h) hS0 (Or.inl ⟨by kernel_rfl, fun w' hS' => by go_simp⟩) ?_
      simp only [List.setIfInBounds_toArray, List.set_cons_zero, List.set_cons_succ]
      refine takeH_at 1 20 (.int .i64 (k : Nat)) rfl rfl (by kernel_rfl) (by kernel_rfl) (by kernel_rfl) (fun _ _ _ h => h) hS0 (Or.inl ⟨by kernel_rfl, fun w' hS' => by go_simp⟩) ?_
      simp only [List.setIfInBounds_toArray, List.set_cons_zero, List.set_cons_succ]
      refine takeH_at 2 21 (.slice (some ⟨fb, fo, none⟩) l fc) rfl rfl (by kernel_rfl) (by kernel_rfl) (by kernel_rfl) (fun _ _ _ h => h) hS0 (Or.inl ⟨by kernel_rfl, fun w' hS' => by go_simp⟩) ?_
      simp only [List.setIfInBounds_toArray, List.set_cons_zero, List.set_cons_succ]
      refine takeH_at 3 22 (.int .i64 (k : Nat)) rfl rfl (by kernel_rfl) (by kernel_rfl) (by kernel_rfl) (fun _ _ _ h => h) hS0 (Or.inl ⟨by kernel_rfl, fun w' hS' => by go_simp⟩) ?_
      simp only [List.setIfInBounds_toArray, List.set_cons_zero, List.set_cons_succ]
      refine takeH_at 4 23 (.slice (some ⟨fb, fo, none⟩) l fc) rfl rfl (by kernel_rfl) (by kernel_rfl) (by kernel_rfl) (fun _ _ _ h => h) hS0 (Or.inl ⟨by kernel_rfl, fun w' hS' => by go_simp⟩) ?_
      simp only [List.setIfInBounds_toArray, List.set_cons_zero, List.set_cons_succ]
      refine takeH_at 5 24 (.int .i64 (l : Nat)) rfl rfl (by kernel_rfl) (by kernel_rfl) (by kernel_rfl) (fun _ _ _ h => h) hS0 (Or.inl ⟨by kernel_rfl, fun w' hS' => by go_simp⟩) ?_
      simp only [List.setIfInBounds_toArray, List.set_cons_zero, List.set_cons_succ]
      refine takeH_at 6 25 (.int .i64 (r : Nat)) rfl rfl (by kernel_rfl) (by kernel_rfl) (by kernel_rfl) (fun _ _ _ h => h) hS0 (Or.inl ⟨by kernel_rfl, fun w' hS' => by go_simp⟩) ?_
      simp only [List.setIfInBounds_toArray, List.set_cons_zero, List.set_cons_succ]
      refine takeH_at 7 26 (.pointer (some ⟨fb, fo + r, none⟩)) rfl rfl (by kernel_rfl) (by kernel_rfl) (by kernel_rfl) (fun _ _ _ h => h) hS0 (Or.inl ⟨by kernel_rfl, fun w' hS' => by go_simp⟩) ?_
      simp only [List.setIfInBounds_toArray, List.set_cons_zero, List.set_cons_succ]
      refine takeH_at 8 27 (.int .u8 y) rfl rfl (by kernel_rfl) (by kernel_rfl) (by kernel_rfl) (fun _ _ _ h => h) hS0 (Or.inl ⟨by kernel_rfl, fun w' hS' => by go_simp⟩) ?_
      simp only [List.setIfInBounds_toArray, List.set_cons_zero, List.set_cons_succ]
      refine takeH_at 9 28 (.int .i64 (k : Nat)) rfl rfl (by kernel_rfl) (by kernel_rfl) (by kernel_rfl) (fun _ _ _ h => h) hS0 (Or.inl ⟨by kernel_rfl, fun w' hS' => by go_simp⟩) ?_
      simp only [List.setIfInBounds_toArray, List.set_cons_zero, List.set_cons_succ]
      refine takeH_at 10 29 (.slice (some ⟨fb, fo, none⟩) l fc) rfl rfl (by kernel_rfl) (by kernel_rfl) (by kernel_rfl) (fun _ _ _ h => h) hS0 (Or.inl ⟨by kernel_rfl, fun w' hS' => by go_simp⟩) ?_
      simp only [List.setIfInBounds_toArray, List.set_cons_zero, List.set_cons_succ]
      refine takeH_at 11 30 (.int .i64 (l : Nat)) rfl rfl (by kernel_rfl) (by kernel_rfl) (by kernel_rfl) (fun _ _ _ h => h) hS0 (Or.inl ⟨by kernel_rfl, fun w' hS' => by go_simp⟩) ?_
      simp only [List.setIfInBounds_toArray, List.set_cons_zero, List.set_cons_succ]
      refine takeH_at 12 31 (.int .i64 (d : Nat)) rfl rfl (by kernel_rfl) (by kernel_rfl) (by kernel_rfl) (fun _ _ _ h => h) hS0 (Or.inl ⟨by kernel_rfl, fun w' hS' => by go_simp⟩) ?_
      simp only [List.setIfInBounds_toArray, List.set_cons_zero, List.set_cons_succ]
      refine takeH_at 13 32 (.int .u8 ((d : Int) % 256)) rfl rfl (by kernel_rfl) (by kernel_rfl) (by kernel_rfl) (fun _ _ _ h => h) hS0 (Or.inl ⟨by kernel_rfl, fun w' hS' => by go_simp⟩) ?_
      simp only [List.setIfInBounds_toArray, List.set_cons_zero, List.set_cons_succ]
      refine takeH_at 14 33 (.int .u8 ((y + (d : Int)) % 256)) rfl rfl (by kernel_rfl) (by kernel_rfl) (by kernel_rfl) (fun _ _ _ h => h) hS0 (Or.inl ⟨by kernel_rfl, fun w' hS' => by go_simp⟩) ?_
      simp only [List.setIfInBounds_toArray, List.set_cons_zero, List.set_cons_succ]
      refine takeH_at 15 34 (.pointer (some ⟨b, k, none⟩)) rfl rfl (by kernel_rfl) (by kernel_rfl) (by kernel_rfl) (fun _ _ _ h => h) hS0 (Or.inl ⟨by kernel_rfl, fun w' hS' => by go_simp⟩) ?_
      simp only [List.setIfInBounds_toArray, List.set_cons_zero, List.set_cons_succ]
      refine wpAnyH_ready (rs := [16]) (by kernel_rfl) (by simp) ?_
      refine AllReadyH.cons rfl (fun K hK => ?_) AllReadyH.nil
      go_wp2_with fail
      refine hK.out _ _ (by show (World.setCell _ _ _).cell? _ = _; rw [World.cell?_setCell_other _ _ _ _ (by intro q; injection q with q1 _; omega)]; exact hcy) (fun _ => ?_)
      clear hK K
      try simp only [List.setIfInBounds_toArray, List.set_cons_zero, List.set_cons_succ]
      refine wpAnyH_done (by kernel_rfl) ?_ _
      refine NoPanic.normal ?_
      go_wp2_with fail
      go_roundw
      case rel => exact ⟨k + 1, by omega, by go_num, HN.out _⟩
      case measure => simp [intOf]; omega
    · have e3 : (decide ((k : Int) < (N : Int)) && decide ((0 : Int) < (l : Int))) = false := by
        by_cases h1 : k < N
        · have : ¬ 0 < l := fun h2 => hgo ⟨h1, h2⟩
          simp; omega
        · simp; omega
      by_cases h1 : k < N
      · have e1 : decide ((k : Int) < (N : Int)) = true := by simp; omega
        obtain rfl : l = 0 := by
          have : ¬ 0 < l := fun h2 => hgo ⟨h1, h2⟩
          omega
        clear e3 hgo
        go_wp2
        go_ret
        obtain ⟨X, q1, q2, q3, q4⟩ := HX.out
        exact ⟨b, X, rfl, by have := HBB.out; omega, q4, q1, q2, q3⟩
      · have e1 : decide ((k : Int) < (N : Int)) = false := by simp; omega
        clear e3 hgo
        go_wp2
        go_ret
        obtain ⟨X, q1, q2, q3, q4⟩ := HX.out
        exact ⟨b, X, rfl, by have := HBB.out; omega, q4, q1, q2, q3⟩
end Go.Proofs.YtcopkohklgbpgaaDoor
