import Derived.Test.YtaejoohbmdckhaaWf
namespace Go.Proofs.Ytaejoohbmdckhaa
open Go.RowKit
set_option linter.unusedVariables false
set_option linter.unusedSimpArgs false
set_option maxRecDepth 100000 in
set_option maxHeartbeats 4000000 in
theorem rpoker_ok (p : Option Addr) (n c : Nat) (f : Nat → Nat) (hn : n ≤ 1048576) (w : World) (h : By w p n f) : Calls Try.prog 26 #[.slice p n c] w fun e w' => e = .returned (.int .i64 (sqS (fun x => pk f x n) 16 : Nat)) ∧ Below w.heap.size w w' := by
  have H : Hid (By w p n f) := h
  clear h
  go_enter Try.func26, Try.ntmps26
  go_wp2_with (refine wpList_alloc_arr (by rfl) 62 16 (by rfl) zero62 ?_; intro W0 G ht0 hb0 hG0 hz0; subst hG0)
  have H0 : Hid (Tm W0 w.heap.size 62 (fun x => ((pk f x 0 : Nat) : Int)) 16 ∧ Below w.heap.size w W0) := ⟨ht0, hb0⟩
  clear ht0 hb0 hz0
  go_loopw [4] (fun i wr => ∃ k : Nat, k ≤ n ∧ i = .int .i64 k ∧ Hid (Tm wr w.heap.size 62 (fun x => ((pk f x k : Nat) : Int)) 16 ∧ Below w.heap.size w wr)) (fun i _ => n - (intOf i).toNat)
  case atStart => exact ⟨0, Nat.zero_le _, rfl, H0⟩
  case round =>
    obtain ⟨k, hk, rfl, HT⟩ := hrel
    clear H0
    by_cases hlt : k < n
    · obtain ⟨b, off, hp, hb, hc⟩ := H.out (by omega)
      subst hp
      obtain ⟨h1', h2⟩ := hc k hlt
      have h1 := (HT.out.2.cell (p := ⟨b, off + k, none⟩) hb).trans h1'
      obtain ⟨y, hy⟩ : ∃ y, Hid (y = f k) := ⟨_, rfl⟩
      rw [← hy.out] at h1 h1' h2
      have HY : Hid (w.cell? ⟨b, off + k, none⟩ = some (.int .u8 (y : Nat))) := h1'
      clear hc h1'
      obtain ⟨a, ha⟩ : ∃ a, Hid (a = y / 16) := ⟨_, rfl⟩
      obtain ⟨d, hd⟩ : ∃ d, Hid (d = y % 16) := ⟨_, rfl⟩
      have ha16 : a < 16 := by rw [ha.out]; omega
      have hd16 : d < 16 := by rw [hd.out]; omega
      have ea : (y : Int).tdiv 16 = (a : Int) := by rw [ha.out, Int.tdiv_eq_ediv_of_nonneg (by omega)]; omega
      have ed : (y : Int).tmod 16 = (d : Int) := by rw [hd.out, Int.tmod_eq_emod_of_nonneg (by omega)]; omega
      have a0 : (0 : Int) ≤ (a : Int) := by omega
      have a1 : (a : Int) < 16 := by omega
      have d0 : (0 : Int) ≤ (d : Int) := by omega
      have d1 : (d : Int) < 16 := by omega
      have ca := HT.out.1.cell a ha16
      have fa := HT.out.1.frozen a
      have cla := pk_le f a k
      obtain ⟨V, hV⟩ : ∃ V, Hid (V = pk f a k) := ⟨_, rfl⟩
      simp only [← hV.out] at ca cla
      go_upto_region 6 with fail
      have HT2 : Hid (Tm (wr.setCell ⟨w.heap.size, a, none⟩ (.int .i64 ((V : Int) + 1))) w.heap.size 62 (fun x => ((pk f x k + (if x = a then 1 else 0) : Nat) : Int)) 16 ∧ Below w.heap.size w (wr.setCell ⟨w.heap.size, a, none⟩ (.int .i64 ((V : Int) + 1)))) := by
        refine ⟨HT.out.1.set a _ _ fun x hx => ?_, HT.out.2.setCell (Nat.le_refl _) _⟩
        by_cases e : x = a
        · rw [if_pos e, if_pos e, hV.out, e]; omega
        · rw [if_neg e, if_neg e]; omega
      clear HT ca fa h1
      generalize wr.setCell ⟨w.heap.size, a, none⟩ (.int .i64 ((V : Int) + 1)) = wx at HT2 ⊢
      have h1 := (HT2.out.2.cell (p := ⟨b, off + k, none⟩) hb).trans HY.out
      have cd := HT2.out.1.cell d hd16
      have fd := HT2.out.1.frozen d
      obtain ⟨U, hU⟩ : ∃ U, Hid (U = pk f d k + (if d = a then 1 else 0)) := ⟨_, rfl⟩
      have hUl : U ≤ 2 * k + 1 := by rw [hU.out]; have := pk_le f d k; split <;> omega
      simp only [← hU.out] at cd
      have HT3 : Hid (Tm (wx.setCell ⟨w.heap.size, d, none⟩ (.int .i64 ((U : Int) + 1))) w.heap.size 62 (fun x => ((pk f x (k + 1) : Nat) : Int)) 16 ∧ Below w.heap.size w (wx.setCell ⟨w.heap.size, d, none⟩ (.int .i64 ((U : Int) + 1)))) := by
        refine ⟨HT2.out.1.set d _ _ fun x hx => ?_, HT2.out.2.setCell (Nat.le_refl _) _⟩
        have e1 : (f k / 16 = x) = (x = a) := by rw [ha.out, hy.out]; exact propext eq_comm
        have e2 : (f k % 16 = x) = (x = d) := by rw [hd.out, hy.out]; exact propext eq_comm
        simp only [pk, e1, e2]
        by_cases e : x = d
        · rw [if_pos e, if_pos e, hU.out, e]; omega
        · rw [if_neg e, if_neg e]; omega
      clear HT2
      go_wp2
      exact ⟨⟨k + 1, by omega, by go_num, HT3⟩, by simp [intOf]; omega⟩
    · obtain rfl : k = n := by omega
      go_wp2
      go_loopw [5, 6] (fun s i wz => ∃ q : Nat, q ≤ 16 ∧ i = .int .i64 q ∧ s = .int .i64 (sqS (fun x => pk f x k) q : Nat) ∧ Hid (Tm wz w.heap.size 62 (fun x => ((pk f x k : Nat) : Int)) 16 ∧ Below w.heap.size w wz)) (fun _ i _ => 16 - (intOf i).toNat)
      case atStart => exact ⟨0, Nat.zero_le _, rfl, rfl, HT⟩
      case round =>
        obtain ⟨q, hq, rfl, rfl, HQ⟩ := hrel
        clear HT
        have hle := sqS_le (fun x => pk f x k) 2097152 q (fun i => by have := pk_le f i k; show pk f i k ≤ 2097152; omega)
        obtain ⟨A, hA⟩ : ∃ A, Hid (A = sqS (fun x => pk f x k) q) := ⟨_, rfl⟩
        rw [← hA.out] at hle ⊢
        by_cases hq16 : q < 16
        · have hv := pk_le f q k
          have cq := HQ.out.1.cell q hq16
          obtain ⟨V, hV⟩ : ∃ V, Hid (V = pk f q k) := ⟨_, rfl⟩
          simp only [← hV.out] at hv cq
          have hvv : V * V ≤ 2097152 * 2097152 := Nat.mul_le_mul (by omega) (by omega)
          have e1 : ((V : Int) * (V : Int)) = ((V * V : Nat) : Int) := by simp
          obtain ⟨VV, hVV⟩ : ∃ VV, Hid (VV = V * V) := ⟨_, rfl⟩
          rw [← hVV.out] at hvv e1
          have e2 : sqS (fun x => pk f x k) (q + 1) = A + VV := by rw [sqS, hA.out, hVV.out, hV.out]
          have HE : Hid (sqS (fun x => pk f x k) (q + 1) = A + VV) := e2
          clear e2
          have hAl : A ≤ 70368744177664 := by omega
          clear hle
          have q0 : (0 : Int) ≤ (q : Int) := by omega
          have q1 : (q : Int) < 16 := by omega
          go_upto_region 11 with fail
          go_quiet (fail)
          go_wp2
          exact ⟨⟨q + 1, by omega, by go_num, by rw [HE.out]; go_num, HQ.out.1.of rfl, HQ.out.2.trans ⟨rfl, rfl, rfl, Nat.le_refl _, fun _ _ => rfl⟩⟩, by simp [intOf]; omega⟩
        · obtain rfl : q = 16 := by omega
          go_wp2
          go_ret
          refine ⟨?_, HQ.out.2⟩
          rw [hA.out]
          rfl
end Go.Proofs.Ytaejoohbmdckhaa
