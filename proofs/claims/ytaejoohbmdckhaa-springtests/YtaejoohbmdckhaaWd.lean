import Derived.Test.YtaejoohbmdckhaaWc
import Derived.Deep.MidRow
namespace Go.Proofs.Ytaejoohbmdckhaa
open Go.RowKit
set_option linter.unusedVariables false
set_option linter.unusedSimpArgs false
/-- How many half bytes are x. -/
def pk (f : Nat → Nat) (x : Nat) : Nat → Nat
  | 0 => 0
  | i + 1 => pk f x i + (if f i / 16 = x then 1 else 0) + (if f i % 16 = x then 1 else 0)
theorem pk_le (f : Nat → Nat) (x n : Nat) : pk f x n ≤ 2 * n := by
  induction n with
  | zero => simp [pk]
  | succ n ih => simp only [pk]; split <;> split <;> omega
/-- The sum of the first squares. -/
def sqS (g : Nat → Nat) : Nat → Nat
  | 0 => 0
  | i + 1 => sqS g i + g i * g i
theorem sqS_le (g : Nat → Nat) (B n : Nat) (h : ∀ i, g i ≤ B) : sqS g n ≤ n * (B * B) := by
  induction n with
  | zero => simp [sqS]
  | succ n ih =>
    have := Nat.mul_le_mul (h n) (h n)
    rw [sqS, Nat.succ_mul]
    omega
theorem and15 (z : Nat) (hz : z < 256) : bits .and .u8 (z : Int) 15 = ((z % 16 : Nat) : Int) := by
  have key : ∀ x : Fin 256, bits .and .u8 (x.1 : Int) 15 = ((x.1 % 16 : Nat) : Int) := by decide +kernel
  exact key ⟨z, hz⟩
theorem run_index62 (C : List Value) (k : Nat) (x : Int) (w : World) (hk : k < 16) (h : C[k]? = some (.int .i64 x)) : Sem.run Try.prog (Instr.index 62 (.agg C.toArray) (.int .i64 (k : Nat))) w = .ok (.int .i64 x) w := by
  have h1 : (0 : Int) ≤ (k : Nat) ∧ ((k : Nat) : Int) < (16 : Nat) := by omega
  simp [Instr.index, run_underlying Try.underlying62, asIntOf, h1, go_sem]
  rw [if_pos hk, h]
  rfl
theorem size62 : (Try.prog.info? 62).map (·.size) = some 16 := by kernel_rfl
theorem Tm.ext {W : World} {G t n : Nat} {g g' : Nat → Int} (h : Tm W G t g n) (hg : ∀ x, x < n → g x = g' x) : Tm W G t g' n := by
  obtain ⟨cs, h1, h2, h3⟩ := h
  exact ⟨cs, h1, h2, fun x hx => by rw [← hg x hx]; exact h3 x hx⟩
set_option maxRecDepth 100000 in
set_option maxHeartbeats 2000000 in
theorem poker_ok (p : Option Addr) (n c : Nat) (f : Nat → Nat) (hn : n ≤ 1048576) (w : World) (h : By w p n f) : Calls Try.prog 20 #[.slice p n c] w fun e w' => e = .returned (.int .i64 (sqS (fun x => pk f x n) 16 : Nat)) ∧ Below w.heap.size w w' := by
  have H : Hid (By w p n f) := h
  clear h
  go_enter Try.func20, Try.ntmps20
  go_wp2_with (refine wpList_alloc_arr (by rfl) 62 16 (by rfl) zero62 ?_; intro W0 G ht0 hb0 hG0 hz0; subst hG0)
  have H0 : Hid (Tm W0 w.heap.size 62 (fun x => ((pk f x 0 : Nat) : Int)) 16 ∧ Below w.heap.size w W0) := ⟨ht0, hb0⟩
  clear ht0 hb0 hz0
  go_loopw [5, 11] (fun _ i wr => ∃ k : Nat, k ≤ n ∧ i = .int .i64 k ∧ Hid (Tm wr w.heap.size 62 (fun x => ((pk f x k : Nat) : Int)) 16 ∧ Below w.heap.size w wr)) (fun _ i _ => n - (intOf i).toNat)
  case atStart => exact ⟨0, Nat.zero_le _, rfl, H0⟩
  case round =>
    obtain ⟨k, hk, rfl, HT⟩ := hrel
    clear H0
    by_cases hlt : k < n
    · obtain ⟨b, off, hp, hb, hc⟩ := H.out (by omega)
      subst hp
      obtain ⟨h1', h2⟩ := hc k hlt
      have h1 := (HT.out.2.cell (p := ⟨b, off + k, none⟩) hb).trans h1'
      obtain ⟨y, hy⟩ : ∃ y, Hid (y = f k) := ⟨_, rfl⟩
      rw [← hy.out] at h1 h2
      clear hc h1'
      obtain ⟨a, ha⟩ : ∃ a, Hid (a = y / 16) := ⟨_, rfl⟩
      obtain ⟨d, hd⟩ : ∃ d, Hid (d = y % 16) := ⟨_, rfl⟩
      have ha16 : a < 16 := by rw [ha.out]; omega
      have hd16 : d < 16 := by rw [hd.out]; omega
      have ea : (y : Int) / 16 = (a : Int) := by rw [ha.out]; omega
      have ed : bits .and .u8 (y : Int) 15 = (d : Int) := by rw [and15 y h2, hd.out]
      have a0 : (0 : Int) ≤ (a : Int) := by omega
      have a1 : (a : Int) < 16 := by omega
      have d0 : (0 : Int) ≤ (d : Int) := by omega
      have d1 : (d : Int) < 16 := by omega
      have ca := HT.out.1.cell a ha16
      have fa := HT.out.1.frozen a
      have cla := pk_le f a k
      obtain ⟨V, hV⟩ : ∃ V, Hid (V = pk f a k) := ⟨_, rfl⟩
      simp only [← hV.out] at ca cla
      go_upto_region 6 with fail
      have HT2 : Hid (Tm (wr.setCell ⟨w.heap.size, a, none⟩ (.int .i64 ((V : Int) + 1))) w.heap.size 62 (fun x => ((pk f x k + (if x = a then 1 else 0) : Nat) : Int)) 16 ∧ Below w.heap.size w (wr.setCell ⟨w.heap.size, a, none⟩ (.int .i64 ((V : Int) + 1)))) := by
        refine ⟨HT.out.1.set a _ _ fun x hx => ?_, HT.out.2.setCell (Nat.le_refl _) _⟩
        by_cases e : x = a
        · rw [if_pos e, if_pos e, hV.out, e]; omega
        · rw [if_neg e, if_neg e]; omega
      clear HT ca fa h1
      generalize wr.setCell ⟨w.heap.size, a, none⟩ (.int .i64 ((V : Int) + 1)) = wx at HT2 ⊢
      have cd := HT2.out.1.cell d hd16
      have fd := HT2.out.1.frozen d
      obtain ⟨U, hU⟩ : ∃ U, Hid (U = pk f d k + (if d = a then 1 else 0)) := ⟨_, rfl⟩
      have hUl : U ≤ 2 * k + 1 := by rw [hU.out]; have := pk_le f d k; split <;> omega
      simp only [← hU.out] at cd
      have HT3 : Hid (Tm (wx.setCell ⟨w.heap.size, d, none⟩ (.int .i64 ((U : Int) + 1))) w.heap.size 62 (fun x => ((pk f x (k + 1) : Nat) : Int)) 16 ∧ Below w.heap.size w (wx.setCell ⟨w.heap.size, d, none⟩ (.int .i64 ((U : Int) + 1)))) := by
        refine ⟨HT2.out.1.set d _ _ fun x hx => ?_, HT2.out.2.setCell (Nat.le_refl _) _⟩
        have e1 : (f k / 16 = x) = (x = a) := by rw [ha.out, hy.out]; exact propext eq_comm
        have e2 : (f k % 16 = x) = (x = d) := by rw [hd.out, hy.out]; exact propext eq_comm
        simp only [pk, e1, e2]
        by_cases e : x = d
        · rw [if_pos e, if_pos e, hU.out, e]; omega
        · rw [if_neg e, if_neg e]; omega
      clear HT2
      go_wp2
      exact ⟨⟨k + 1, by omega, by go_num, HT3⟩, by simp [intOf]; omega⟩
    · obtain rfl : k = n := by omega
      obtain ⟨cs, hcs, hsz, hat⟩ := HT.out.1
      have HC : Hid (∀ x, x < 16 → cs.toList[x]? = some (.int .i64 ((pk f x k : Nat) : Int))) := fun x hx => by rw [Array.getElem?_toList]; exact hat x hx
      have HR : Hid (wr.rangeAt w.heap.size 0 cs.toList) := fun j u hj => by
        rw [Nat.zero_add, cell_of_row wr w.heap.size j cs 62 (0, 0) hcs]
        simpa using hj
      have hs62 : Hid ((Try.prog.info? 62).map (·.size) = some cs.toList.length) := by show _ = _; rw [size62]; simp [hsz]
      have HB : Hid (Below w.heap.size w wr) := HT.out.2
      clear HT hat hcs hsz
      generalize cs.toList = CL at HC HR hs62
      clear cs
      go_wp2_with (refine wpList_load_mid (by rfl) 62 (.tmp 3) (by rfl) w.heap.size 0 (by rfl) CL _ HR.out Try.underlying62 rfl hs62.out ?_)
      go_loopw [6, 8, 29] (fun s _ i wz => ∃ q : Nat, q ≤ 16 ∧ i = .int .i64 q ∧ s = .int .i64 (sqS (fun x => pk f x k) q : Nat) ∧ wz = wr) (fun _ _ i _ => 16 - (intOf i).toNat)
      case atStart => exact ⟨0, Nat.zero_le _, rfl, rfl, rfl⟩
      case round =>
        obtain ⟨q, hq, rfl, rfl, hw⟩ := hrel
        obtain rfl := hw.symm
        have hle := sqS_le (fun x => pk f x k) 2097152 q (fun i => by have := pk_le f i k; show pk f i k ≤ 2097152; omega)
        obtain ⟨A, hA⟩ : ∃ A, Hid (A = sqS (fun x => pk f x k) q) := ⟨_, rfl⟩
        rw [← hA.out] at hle ⊢
        by_cases hq16 : q < 16
        · have hv := pk_le f q k
          obtain ⟨V, hV⟩ : ∃ V, Hid (V = pk f q k) := ⟨_, rfl⟩
          rw [← hV.out] at hv
          have hix : ∀ u, (Instr.index 62 (.agg CL.toArray) (.int .i64 (q : Nat))).run Try.prog u = .ok (.int .i64 (V : Nat)) u := fun u => run_index62 CL q _ u hq16 (by rw [hV.out]; exact HC.out q hq16)
          have hvv : V * V ≤ 2097152 * 2097152 := Nat.mul_le_mul (by omega) (by omega)
          have e1 : ((V : Int) * (V : Int)) = ((V * V : Nat) : Int) := by simp
          obtain ⟨VV, hVV⟩ : ∃ VV, Hid (VV = V * V) := ⟨_, rfl⟩
          rw [← hVV.out] at hvv e1
          have e2 : sqS (fun x => pk f x k) (q + 1) = A + VV := by rw [sqS, hA.out, hVV.out, hV.out]
          have HE : Hid (sqS (fun x => pk f x k) (q + 1) = A + VV) := e2
          clear e2
          have hAl : A ≤ 70368744177664 := by omega
          clear hle
          go_wp2
          exact ⟨⟨q + 1, by omega, by go_num, by rw [HE.out]; go_num, trivial⟩, by simp [intOf]; omega⟩
        · obtain rfl : q = 16 := by omega
          go_wp2
          go_ret
          refine ⟨?_, HB.out⟩
          rw [hA.out]
          rfl
end Go.Proofs.Ytaejoohbmdckhaa
