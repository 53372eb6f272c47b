import Derived.Test.YtaejoohbmdckhaaWb
namespace Go.Proofs.Ytaejoohbmdckhaa
open Go.RowKit
set_option linter.unusedVariables false
set_option linter.unusedSimpArgs false
/-- How often x is met from lo on, below i. -/
def cn (f : Nat → Nat) (x lo : Nat) : Nat → Nat
  | 0 => 0
  | i + 1 => cn f x lo i + (if lo ≤ i ∧ f i = x then 1 else 0)
theorem cn_le (f : Nat → Nat) (x lo n : Nat) : cn f x lo n ≤ n := by
  induction n with
  | zero => simp [cn]
  | succ n ih => simp only [cn]; split <;> omega
theorem cn_late (f : Nat → Nat) (x lo n : Nat) (h : n ≤ lo) : cn f x lo n = 0 := by
  induction n with
  | zero => simp [cn]
  | succ n ih => rw [cn, ih (by omega), if_neg (by omega)]
/-- One fewer at the window's beginning. -/
theorem cn_drop (f : Nat → Nat) (x lo n : Nat) (h : lo < n) : cn f x (lo + 1) n + (if f lo = x then 1 else 0) = cn f x lo n := by
  induction n with
  | zero => omega
  | succ n ih =>
    simp only [cn]
    by_cases hl : lo < n
    · have := ih hl
      have e1 : (lo + 1 ≤ n ∧ f n = x) ↔ (lo ≤ n ∧ f n = x) := by omega
      simp only [e1]
      omega
    · obtain rfl : lo = n := by omega
      rw [cn_late f x (lo + 1) lo (by omega), cn_late f x lo lo (Nat.le_refl _), if_neg (by omega)]
      by_cases he : f lo = x
      · rw [if_pos he, if_pos ⟨Nat.le_refl _, he⟩]
      · rw [if_neg he, if_neg (by omega)]
/-- The most of any window so far. -/
def moF (f : Nat → Nat) : Nat → Nat
  | 0 => 0
  | i + 1 => max (moF f i) (cn f (f i) (i + 1 - 512) (i + 1))
theorem moF_le (f : Nat → Nat) (n : Nat) : moF f n ≤ n := by
  induction n with
  | zero => simp [moF]
  | succ n ih => have := cn_le f (f n) (n + 1 - 512) (n + 1); simp only [moF]; omega
/-- An array of numbers in a block. -/
def Tm (W : World) (G t : Nat) (g : Nat → Int) (n : Nat) : Prop := ∃ cs, W.heap[G]? = some (.cells cs t (0, 0)) ∧ cs.size = n ∧ ∀ x, x < n → cs[x]? = some (.int .i64 (g x))
theorem Tm.cell {W : World} {G t n : Nat} {g : Nat → Int} (h : Tm W G t g n) (x : Nat) (hx : x < n) : W.cell? ⟨G, x, none⟩ = some (.int .i64 (g x)) := by
  obtain ⟨cs, h1, h2, h3⟩ := h
  rw [cell_of_row W G x cs t (0, 0) h1]
  exact h3 x hx
theorem Tm.frozen {W : World} {G t n : Nat} {g : Nat → Int} (h : Tm W G t g n) (x : Nat) : W.frozen? ⟨G, x, none⟩ = false := by
  obtain ⟨cs, h1, h2, h3⟩ := h
  exact frozen_of_row W G x cs t h1
theorem Tm.set {W : World} {G t n : Nat} {g : Nat → Int} (h : Tm W G t g n) (x : Nat) (v : Int) (g' : Nat → Int) (hg : ∀ y, y < n → g' y = if y = x then v else g y) : Tm (W.setCell ⟨G, x, none⟩ (.int .i64 v)) G t g' n := by
  obtain ⟨cs, h1, h2, h3⟩ := h
  refine ⟨_, heap_setCell_same W G x cs t _ h1, by simpa using h2, fun y hy => ?_⟩
  rw [hg y hy]
  by_cases e : y = x
  · subst e
    rw [if_pos rfl, Array.getElem?_setIfInBounds_self_of_lt (by omega)]
  · rw [if_neg e, Array.getElem?_setIfInBounds_ne (by omega)]
    exact h3 y hy
theorem Tm.lt {W : World} {G t n : Nat} {g : Nat → Int} (h : Tm W G t g n) : G < W.heap.size := by
  obtain ⟨cs, h1, _⟩ := h
  exact (Array.getElem?_eq_some_iff.1 h1).1
theorem zero60 : (Try.prog.info? 60).bind (·.zero) = some (.agg (List.replicate 256 (.int .i64 0)).toArray) := by kernel_rfl
theorem zero62 : (Try.prog.info? 62).bind (·.zero) = some (.agg (List.replicate 16 (.int .i64 0)).toArray) := by kernel_rfl
theorem alloc_zero (t : TypeId) (cs : Array Value) (h : (Try.prog.info? t).bind (·.zero) = some (.agg cs)) (u : World) : (Instr.alloc t true (.tuple #[])).run Try.prog u = .ok (.pointer (some ⟨u.heap.size, 0, none⟩)) (u.alloc (.cells cs t)) := by
  cases hi : Try.prog.info? t with
  | none => rw [hi] at h; cases h
  | some i =>
    rw [hi] at h
    have hz : i.zero = some (.agg cs) := h
    simp [Instr.alloc, zeroValue, typeInfo, hi, hz, newVar, newRow, Value.cells]
theorem wpList_alloc_arr {w : World} {ops : Array Oper} {rest : List Oper} {o : Oper} {a : Act} {Q : Exit → Act → World → Prop} (hgd : o.guard = none) (t n : Nat) (ho : o.op = .alloc t) (h0 : (Try.prog.info? t).bind (·.zero) = some (.agg (List.replicate n (.int .i64 0)).toArray))
    (h : ∀ u b, Tm u b t (fun _ => 0) n → Below w.heap.size w u → b = w.heap.size → u.heap.size = b + 1 → wpList Try.prog ops Q rest (a.put o.dst (.pointer (some ⟨b, 0, none⟩))) u) : wpList Try.prog ops Q (o :: rest) a w := by
  refine wpList_plain hgd fun K hK => ?_
  unfold Oper.wp execOp
  simp only [ho, Sem.run_bind, alloc_zero t _ h0 w, Result.andThen_ok]
  refine hK _ _ (h _ _ ⟨_, heap_alloc_new w _, by simp, fun x hx => by simp [hx]⟩ ((Below.refl _ w).alloc (Nat.le_refl _) _) rfl (by simp))
set_option maxRecDepth 100000 in
set_option maxHeartbeats 2000000 in
theorem most_ok (p : Option Addr) (n c : Nat) (f : Nat → Nat) (hn : n ≤ 1048576) (w : World) (h : By w p n f) : Calls Try.prog 18 #[.slice p n c] w fun e w' => e = .returned (.int .i64 (moF f n : Nat)) ∧ Below w.heap.size w w' := by
  have H : Hid (By w p n f) := h
  clear h
  go_enter Try.func18, Try.ntmps18
  go_wp2_with (refine wpList_alloc_arr (by rfl) 60 256 (by rfl) zero60 ?_; intro W0 G ht0 hb0 hG0 hz0; subst hG0)
  have H0 : Hid (Tm W0 w.heap.size 60 (fun x => ((cn f x (0 - 512) 0 : Nat) : Int)) 256 ∧ Below w.heap.size w W0) := ⟨ht0, hb0⟩
  clear ht0 hb0 hz0
  go_loopw [4, 5, 6, 9] (fun m _ _ i wr => ∃ k : Nat, k ≤ n ∧ i = .int .i64 k ∧ m = .int .i64 (moF f k : Nat) ∧ Hid (Tm wr w.heap.size 60 (fun x => ((cn f x (k - 512) k : Nat) : Int)) 256 ∧ Below w.heap.size w wr)) (fun _ _ _ i _ => n - (intOf i).toNat)
  case atStart => exact ⟨0, Nat.zero_le _, rfl, rfl, H0⟩
  case round =>
    obtain ⟨k, hk, rfl, rfl, HT⟩ := hrel
    clear H0
    have ho1 := moF_le f k
    obtain ⟨A, hA⟩ : ∃ A, Hid (A = moF f k) := ⟨_, rfl⟩
    rw [← hA.out] at ho1 ⊢
    by_cases hlt : k < n
    · obtain ⟨b, off, hp, hb, hc⟩ := H.out (by omega)
      subst hp
      obtain ⟨h1', h2⟩ := hc k hlt
      have h1 := (HT.out.2.cell (p := ⟨b, off + k, none⟩) hb).trans h1'
      obtain ⟨y, hy⟩ : ∃ y, Hid (y = f k) := ⟨_, rfl⟩
      rw [← hy.out] at h1 h2
      have y0 : (0 : Int) ≤ (y : Int) := by omega
      have y1 : (y : Int) < 256 := by omega
      by_cases h512 : 512 ≤ k
      · obtain ⟨j, rfl⟩ : ∃ j, k = j + 512 := ⟨k - 512, by omega⟩
        obtain ⟨h3', h4⟩ := hc j (by omega)
        have h3 := (HT.out.2.cell (p := ⟨b, off + j, none⟩) hb).trans h3'
        obtain ⟨z, hz⟩ : ∃ z, Hid (z = f j) := ⟨_, rfl⟩
        rw [← hz.out] at h3 h4
        clear hc h1' h3'
        have z0 : (0 : Int) ≤ (z : Int) := by omega
        have z1 : (z : Int) < 256 := by omega
        have e1 : (((j + 512 : Nat) : Int) - 512) = (j : Int) := by omega
        have cz := HT.out.1.cell z h4
        have fz := HT.out.1.frozen z
        have cle := cn_le f z (j + 512 - 512) (j + 512)
        obtain ⟨V, hV⟩ : ∃ V, Hid (V = cn f z (j + 512 - 512) (j + 512)) := ⟨_, rfl⟩
        rw [← hV.out] at cz cle
        go_upto_region 8 with fail
        have HT2 : Hid (Tm (wr.setCell ⟨w.heap.size, z, none⟩ (.int .i64 ((V : Int) - 1))) w.heap.size 60 (fun x => ((cn f x (j + 512 + 1 - 512) (j + 512) : Nat) : Int)) 256 ∧ Below w.heap.size w (wr.setCell ⟨w.heap.size, z, none⟩ (.int .i64 ((V : Int) - 1)))) := by
          refine ⟨HT.out.1.set z _ _ fun x hx => ?_, HT.out.2.setCell (Nat.le_refl _) _⟩
          have := cn_drop f x j (j + 512) (by omega)
          rw [show j + 512 + 1 - 512 = j + 1 by omega, show j + 512 - 512 = j by omega]
          by_cases e : x = z
          · rw [if_pos e, hV.out, show j + 512 - 512 = j by omega, ← e]
            rw [if_pos (by rw [e, hz.out])] at this
            omega
          · rw [if_neg e]
            rw [if_neg (by rw [← hz.out]; omega)] at this
            omega
        generalize wr.setCell ⟨w.heap.size, z, none⟩ (.int .i64 ((V : Int) - 1)) = wx at HT2 ⊢
        have cy := HT2.out.1.cell y h2
        have fy := HT2.out.1.frozen y
        have cl2 := cn_le f y (j + 512 + 1 - 512) (j + 512)
        obtain ⟨U, hU⟩ : ∃ U, Hid (U = cn f y (j + 512 + 1 - 512) (j + 512)) := ⟨_, rfl⟩
        simp only [← hU.out] at cy cl2
        have hcn : ∀ x, cn f x (j + 512 + 1 - 512) (j + 512 + 1) = cn f x (j + 512 + 1 - 512) (j + 512) + (if x = y then 1 else 0) := fun x => by
          rw [cn, hy.out]
          congr 1
          by_cases e : x = f (j + 512)
          · rw [if_pos e, if_pos ⟨by omega, e.symm⟩]
          · rw [if_neg e, if_neg (by omega)]
        have HT3 : Hid (Tm (wx.setCell ⟨w.heap.size, y, none⟩ (.int .i64 ((U : Int) + 1))) w.heap.size 60 (fun x => ((cn f x (j + 512 + 1 - 512) (j + 512 + 1) : Nat) : Int)) 256 ∧ Below w.heap.size w (wx.setCell ⟨w.heap.size, y, none⟩ (.int .i64 ((U : Int) + 1)))) := by
          refine ⟨HT2.out.1.set y _ _ fun x hx => ?_, HT2.out.2.setCell (Nat.le_refl _) _⟩
          simp only [hcn x]
          by_cases e : x = y
          · rw [if_pos e, if_pos e, hU.out, e]; omega
          · rw [if_neg e, if_neg e]; omega
        have HM : Hid (moF f (j + 512 + 1) = max A (U + 1)) := by
          show moF f (j + 512 + 1) = _
          rw [moF, ← hy.out, hcn y, if_pos rfl, hA.out, hU.out]
        clear HT2 hcn HT cz fz cle hV h3 h1
        go_wp2
        refine ⟨⟨j + 512 + 1, by omega, by go_num, ?_, HT3⟩, by simp [intOf]; omega⟩
        rw [HM.out]
        exact congrArg _ (maxI A (U + 1))
      · clear hc h1'
        have HT2 : Hid (Tm wr w.heap.size 60 (fun x => ((cn f x (k + 1 - 512) k : Nat) : Int)) 256 ∧ Below w.heap.size w wr) := by
          have h0 := HT.out
          rw [show k - 512 = k + 1 - 512 by omega] at h0
          exact h0
        go_upto_region 8 with fail
        clear h1
        clear HT
        generalize wr = wx at HT2 ⊢
        have cy := HT2.out.1.cell y h2
        have fy := HT2.out.1.frozen y
        have cl2 := cn_le f y (k + 1 - 512) (k)
        obtain ⟨U, hU⟩ : ∃ U, Hid (U = cn f y (k + 1 - 512) (k)) := ⟨_, rfl⟩
        simp only [← hU.out] at cy cl2
        have hcn : ∀ x, cn f x (k + 1 - 512) (k + 1) = cn f x (k + 1 - 512) (k) + (if x = y then 1 else 0) := fun x => by
          rw [cn, hy.out]
          congr 1
          by_cases e : x = f (k)
          · rw [if_pos e, if_pos ⟨by omega, e.symm⟩]
          · rw [if_neg e, if_neg (by omega)]
        have HT3 : Hid (Tm (wx.setCell ⟨w.heap.size, y, none⟩ (.int .i64 ((U : Int) + 1))) w.heap.size 60 (fun x => ((cn f x (k + 1 - 512) (k + 1) : Nat) : Int)) 256 ∧ Below w.heap.size w (wx.setCell ⟨w.heap.size, y, none⟩ (.int .i64 ((U : Int) + 1)))) := by
          refine ⟨HT2.out.1.set y _ _ fun x hx => ?_, HT2.out.2.setCell (Nat.le_refl _) _⟩
          simp only [hcn x]
          by_cases e : x = y
          · rw [if_pos e, if_pos e, hU.out, e]; omega
          · rw [if_neg e, if_neg e]; omega
        have HM : Hid (moF f (k + 1) = max A (U + 1)) := by
          show moF f (k + 1) = _
          rw [moF, ← hy.out, hcn y, if_pos rfl, hA.out, hU.out]
        clear HT2 hcn
        go_wp2
        refine ⟨⟨k + 1, by omega, by go_num, ?_, HT3⟩, by simp [intOf]; omega⟩
        rw [HM.out]
        exact congrArg _ (maxI A (U + 1))
    · obtain rfl : k = n := by omega
      go_wp2
      go_ret
      refine ⟨?_, HT.out.2⟩
      rw [hA.out]
      rfl
end Go.Proofs.Ytaejoohbmdckhaa
