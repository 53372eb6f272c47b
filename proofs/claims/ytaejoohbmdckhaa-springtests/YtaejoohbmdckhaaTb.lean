import Derived.Test.YtaejoohbmdckhaaWf
namespace Go.Proofs.Ytaejoohbmdckhaa
open Go.RowKit
set_option linter.unusedVariables false
set_option linter.unusedSimpArgs false
theorem maxN (a b : Nat) : (if a < b then (b : Int) else (a : Int)) = ((max a b : Nat) : Int) := by
  split <;> omega
set_option maxRecDepth 100000 in
set_option maxHeartbeats 4000000 in
theorem rmost_ok (p : Option Addr) (n c : Nat) (f : Nat → Nat) (hn : n ≤ 1048576) (w : World) (h : By w p n f) : Calls Try.prog 25 #[.slice p n c] w fun e w' => e = .returned (.int .i64 (moF f n : Nat)) ∧ Below w.heap.size w w' := by
  have H : Hid (By w p n f) := h
  clear h
  go_enter Try.func25, Try.ntmps25
  go_wp2_with (refine wpList_alloc_arr (by rfl) 60 256 (by rfl) zero60 ?_; intro W0 G ht0 hb0 hG0 hz0; subst hG0)
  have H0 : Hid (Tm W0 w.heap.size 60 (fun x => ((cn f x (0 - 512) 0 : Nat) : Int)) 256 ∧ Below w.heap.size w W0) := ⟨ht0, hb0⟩
  clear ht0 hb0 hz0
  go_loopw [4, 5] (fun m i wr => ∃ k : Nat, k ≤ n ∧ i = .int .i64 k ∧ m = .int .i64 (moF f k : Nat) ∧ Hid (Tm wr w.heap.size 60 (fun x => ((cn f x (k - 512) k : Nat) : Int)) 256 ∧ Below w.heap.size w wr)) (fun _ i _ => n - (intOf i).toNat)
  case atStart => exact ⟨0, Nat.zero_le _, rfl, rfl, H0⟩
  case round =>
    obtain ⟨k, hk, rfl, rfl, HT⟩ := hrel
    clear H0
    have ho1 := moF_le f k
    obtain ⟨A, hA⟩ : ∃ A, Hid (A = moF f k) := ⟨_, rfl⟩
    rw [← hA.out] at ho1 ⊢
    by_cases hlt : k < n
    · obtain ⟨b, off, hp, hb, hc⟩ := H.out (by omega)
      subst hp
      obtain ⟨h1', h2⟩ := hc k hlt
      have h1 := (HT.out.2.cell (p := ⟨b, off + k, none⟩) hb).trans h1'
      obtain ⟨y, hy⟩ : ∃ y, Hid (y = f k) := ⟨_, rfl⟩
      rw [← hy.out] at h1 h1' h2
      have y0 : (0 : Int) ≤ (y : Int) := by omega
      have y1 : (y : Int) < 256 := by omega
      have cy := HT.out.1.cell y h2
      have fy := HT.out.1.frozen y
      have cle := cn_le f y (k - 512) k
      obtain ⟨V, hV⟩ : ∃ V, Hid (V = cn f y (k - 512) k) := ⟨_, rfl⟩
      simp only [← hV.out] at cy cle
      have HC : Hid (∀ i, i < n → w.cell? ⟨b, off + i, none⟩ = some (.int .u8 (f i : Nat)) ∧ f i < 256) := hc
      clear hc
      have HY : Hid (w.cell? ⟨b, off + k, none⟩ = some (.int .u8 (y : Nat))) := h1'
      clear h1'
      go_upto_region 7 with fail
      have HT2 : Hid (Tm (wr.setCell ⟨w.heap.size, y, none⟩ (.int .i64 ((V : Int) + 1))) w.heap.size 60 (fun x => ((cn f x (k - 512) (k + 1) : Nat) : Int)) 256 ∧ Below w.heap.size w (wr.setCell ⟨w.heap.size, y, none⟩ (.int .i64 ((V : Int) + 1)))) := by
        refine ⟨HT.out.1.set y _ _ fun x hx => ?_, HT.out.2.setCell (Nat.le_refl _) _⟩
        rw [cn]
        by_cases e : x = y
        · rw [if_pos e, if_pos ⟨by omega, by rw [← hy.out, e]⟩, hV.out, e]; omega
        · rw [if_neg e, if_neg (by rw [← hy.out]; omega)]; omega
      generalize wr.setCell ⟨w.heap.size, y, none⟩ (.int .i64 ((V : Int) + 1)) = wx at HT2 ⊢
      clear HT cy fy cle hV h1
      have HU : Hid (∀ U, U = cn f y (k + 1 - 512) (k + 1) → moF f (k + 1) = max A U) := fun U hU => by
        rw [moF, ← hy.out, ← hU, hA.out]
      by_cases h512 : 512 ≤ k
      · obtain ⟨j, rfl⟩ : ∃ j, k = j + 512 := ⟨k - 512, by omega⟩
        obtain ⟨h3', h4⟩ := HC.out j (by omega)
        have h3 := (HT2.out.2.cell (p := ⟨b, off + j, none⟩) hb).trans h3'
        obtain ⟨z, hz⟩ : ∃ z, Hid (z = f j) := ⟨_, rfl⟩
        rw [← hz.out] at h3 h4
        clear h3'
        have z0 : (0 : Int) ≤ (z : Int) := by omega
        have z1 : (z : Int) < 256 := by omega
        have e1 : (((j + 512 : Nat) : Int) - 512) = (j : Int) := by omega
        have cz := HT2.out.1.cell z h4
        have fz := HT2.out.1.frozen z
        have cle := cn_le f z (j + 512 - 512) (j + 512 + 1)
        obtain ⟨V, hV⟩ : ∃ V, Hid (V = cn f z (j + 512 - 512) (j + 512 + 1)) := ⟨_, rfl⟩
        simp only [← hV.out] at cz cle
        go_upto_region 9 with fail
        have HT3 : Hid (Tm (wx.setCell ⟨w.heap.size, z, none⟩ (.int .i64 ((V : Int) - 1))) w.heap.size 60 (fun x => ((cn f x (j + 512 + 1 - 512) (j + 512 + 1) : Nat) : Int)) 256 ∧ Below w.heap.size w (wx.setCell ⟨w.heap.size, z, none⟩ (.int .i64 ((V : Int) - 1)))) := by
          refine ⟨HT2.out.1.set z _ _ fun x hx => ?_, HT2.out.2.setCell (Nat.le_refl _) _⟩
          have := cn_drop f x j (j + 512 + 1) (by omega)
          rw [show j + 512 + 1 - 512 = j + 1 by omega, show j + 512 - 512 = j by omega]
          by_cases e : x = z
          · rw [if_pos e, hV.out, show j + 512 - 512 = j by omega, ← e]
            rw [if_pos (by rw [e, hz.out])] at this
            omega
          · rw [if_neg e]
            rw [if_neg (by rw [← hz.out]; omega)] at this
            omega
        generalize wx.setCell ⟨w.heap.size, z, none⟩ (.int .i64 ((V : Int) - 1)) = wy at HT3 ⊢
        clear HT2 cz fz cle hV h3
        have h1 := (HT3.out.2.cell (p := ⟨b, off + (j + 512), none⟩) hb).trans HY.out
        have cy := HT3.out.1.cell y h2
        have cl2 := cn_le f y (j + 512 + 1 - 512) (j + 512 + 1)
        obtain ⟨U, hU⟩ : ∃ U, Hid (U = cn f y (j + 512 + 1 - 512) (j + 512 + 1)) := ⟨_, rfl⟩
        simp only [← hU.out] at cy cl2
        have HM : Hid (moF f (j + 512 + 1) = max A U) := HU.out U hU.out
        go_wp2
        refine ⟨⟨j + 512 + 1, by omega, by go_num, ?_, HT3⟩, by simp [intOf]; omega⟩
        rw [HM.out]
        exact congrArg _ (maxN A U)
      · have HT3 : Hid (Tm wx w.heap.size 60 (fun x => ((cn f x (k + 1 - 512) (k + 1) : Nat) : Int)) 256 ∧ Below w.heap.size w wx) := by
          have h0 := HT2.out
          rw [show k - 512 = k + 1 - 512 by omega] at h0
          exact h0
        go_upto_region 9 with fail
        clear HT2
        have h1 := (HT3.out.2.cell (p := ⟨b, off + k, none⟩) hb).trans HY.out
        have cy := HT3.out.1.cell y h2
        have cl2 := cn_le f y (k + 1 - 512) (k + 1)
        obtain ⟨U, hU⟩ : ∃ U, Hid (U = cn f y (k + 1 - 512) (k + 1)) := ⟨_, rfl⟩
        simp only [← hU.out] at cy cl2
        have HM : Hid (moF f (k + 1) = max A U) := HU.out U hU.out
        go_wp2
        refine ⟨⟨k + 1, by omega, by go_num, ?_, HT3⟩, by simp [intOf]; omega⟩
        rw [HM.out]
        exact congrArg _ (maxN A U)
    · obtain rfl : k = n := by omega
      go_wp2
      go_ret
      refine ⟨?_, HT.out.2⟩
      rw [hA.out]
      rfl
end Go.Proofs.Ytaejoohbmdckhaa
