import Derived.Test.YtaejoohbmdckhaaTe
import Derived.Test.YtaejoohbmdckhaaTill
namespace Go.Proofs.Ytaejoohbmdckhaa
open Go.RowKit
set_option linter.unusedVariables false
set_option linter.unusedSimpArgs false
theorem Tm.full {W : World} {G t n : Nat} {g : Nat → Int} (h : Tm W G t g n) (vs : Array Value) (g' : Nat → Int) (hs : vs.size = n) (hv : ∀ x, x < n → vs[x]? = some (.int .i64 (g' x))) : Tm (W.setCells G 0 vs.toList) G t g' n := by
  obtain ⟨cs, h1, h2, h3⟩ := h
  refine ⟨vs, ?_, hs, hv⟩
  rw [setCells_heap G t vs.toList 0 W cs h1, setL_at _ _ _ (by simp [h2, hs])]
  have hd : List.drop vs.toList.length cs.toList = [] := List.drop_eq_nil_of_le (by simp [h2, hs])
  simp only [List.take_zero, List.nil_append, Nat.zero_add, hd, List.append_nil]
theorem heC_at (c r m o : Int) (e : Nat → Int) (fa p t : Int) (x : Nat) (hx : x < 15) : (heC c r m o (e 0) (e 1) (e 2) (e 3) (e 4) (e 5) (e 6) (e 7) fa p t)[x]? = some (.int .i64 (hv c r m o e fa p t x)) := by
  rcases (show x = 0 ∨ x = 1 ∨ x = 2 ∨ x = 3 ∨ x = 4 ∨ x = 5 ∨ x = 6 ∨ x = 7 ∨ x = 8 ∨ x = 9 ∨ x = 10 ∨ x = 11 ∨ x = 12 ∨ x = 13 ∨ x = 14 by omega) with rfl | rfl | rfl | rfl | rfl | rfl | rfl | rfl | rfl | rfl | rfl | rfl | rfl | rfl | rfl <;> rfl
theorem exF_zero (f : Nat → Nat) : exF f 0 0 = fun _ => 0 := by
  funext q
  simp [exF, eC, eR, eI]
theorem Tm.mid {W : World} {G t n : Nat} {g : Nat → Int} (h : Tm W G t g n) (o s : Nat) (hs : o + s ≤ n) : W.there G o s := fun j hj =>
  ⟨by rw [h.cell (o + j) (by omega)]; rfl, h.frozen (o + j)⟩
theorem Tm.pair {W : World} {G t n : Nat} {g : Nat → Int} (h : Tm W G t g n) (o : Nat) (hs : o + 1 < n) (a b : Int) (ha : g o = a) (hb : g (o + 1) = b) : W.rangeAt G o [.int .i64 a, .int .i64 b] := fun j v hv => by
  match j, hv with
  | 0, hv => rw [Nat.add_zero, h.cell o (by omega), ha]; exact hv
  | 1, hv => rw [h.cell (o + 1) hs, hb]; exact hv
  | j + 2, hv => simp at hv
theorem hv_ends (c r m o : Int) (e : Nat → Int) (fa p t : Int) (q : Nat) (hq : q < 8) : hv c r m o e fa p t (4 + q) = e q := by
  unfold hv
  rw [if_neg (by omega), if_neg (by omega), if_neg (by omega), if_neg (by omega), if_pos (by omega), show 4 + q - 4 = q by omega]
theorem hv_ext (c r m o : Int) (e e' : Nat → Int) (fa p t : Int) (h : ∀ q, q < 8 → e q = e' q) (y : Nat) : hv c r m o e fa p t y = hv c r m o e' fa p t y := by
  unfold hv
  (repeat' split) <;> first | rfl | exact h _ (by omega)
theorem Th.range {w u : World} {G : Nat} {c r mo o : Int} {f : Nat → Nat} {k m : Nat} {fa p t : Int} (h : Th w u G (hv c r mo o (exF f k m) fa p t)) (hm : m < 4) : u.rangeAt G (4 + m * 2) [.int .i64 (eR f m k), .int .i64 (eI f m k)] := by
  have q := exF_at f k m
  refine h.tm.pair (4 + m * 2) (by omega) _ _ ?_ ?_
  · rw [show 4 + m * 2 = 4 + 2 * m by omega, hv_ends _ _ _ _ _ _ _ _ _ (by omega), q.1]
  · rw [show 4 + m * 2 + 1 = 4 + (2 * m + 1) by omega, hv_ends _ _ _ _ _ _ _ _ _ (by omega), q.2]
theorem Th.two {w u : World} {G : Nat} {c r mo o : Int} {e : Nat → Int} {m : Nat} {fa p t : Int} (h : Th w u G (hv c r mo o e fa p t)) (hm : m < 4) (e' : Nat → Int) (va vb : Int) (he : ∀ q, e' q = if q = 2 * m + 1 then vb else if q = 2 * m then va else e q) : Th w (u.setCells G (4 + m * 2) #[.int .i64 va, .int .i64 vb].toList) G (hv c r mo o e' fa p t) := by
  show Th w ((u.setCell ⟨G, 4 + m * 2, none⟩ (.int .i64 va)).setCell ⟨G, 4 + m * 2 + 1, none⟩ (.int .i64 vb)) G _
  rw [show 4 + m * 2 = 4 + 2 * m by omega]
  exact (h.set (4 + 2 * m) va (hv c r mo o (fun q => if q = 2 * m then va else e q) fa p t) (fun y hy => hv_e _ _ _ _ e _ _ _ _ _ (2 * m) (by omega) (fun q => rfl) y hy)).set (4 + 2 * m + 1) vb _ (fun y hy => hv_e _ _ _ _ _ _ _ _ _ _ (2 * m + 1) (by omega) he y hy)
theorem Tm.whole {W : World} {G t n : Nat} {g : Nat → Int} (h : Tm W G t g n) (vs : Array Value) (hs : vs.size = n) (hv : ∀ x, x < n → vs[x]? = some (.int .i64 (g x))) : W.heap[G]? = some (.cells vs t (0, 0)) := by
  obtain ⟨cs, h1, h2, h3⟩ := h
  rw [h1]
  have : cs = vs := Array.ext (by omega) (fun i hi1 hi2 => by
    have a := h3 i (by omega)
    have b := hv i (by omega)
    rw [Array.getElem?_eq_getElem hi1] at a
    rw [Array.getElem?_eq_getElem hi2] at b
    exact Option.some.inj (a.trans b.symm))
  rw [this]
theorem enF_ex (f : Nat → Nat) (n q : Nat) (hq : q < 8) : enF f n 3 n q = exF f n 0 q := by
  unfold enF exF
  rw [if_neg (by omega : ¬ q / 2 < 0)]
  by_cases h : q / 2 < 3
  · rw [if_pos h]
  · rw [if_neg h, if_pos (by omega), show q / 2 = 3 by omega]
theorem teC_is (f : Nat → Nat) (n : Nat) : teC f n = heC n (lgF f n : Nat) (moF f n : Nat) (onesF f n : Nat) (exF f n 0 0) (exF f n 0 1) (exF f n 0 2) (exF f n 0 3) (exF f n 0 4) (exF f n 0 5) (exF f n 0 6) (exF f n 0 7) (frF f n) (sqS (fun x => pk f x n) 16 : Nat) (tuF f n : Nat) := by
  unfold teC
  rw [enF_ex f n 0 (by omega), enF_ex f n 1 (by omega), enF_ex f n 2 (by omega), enF_ex f n 3 (by omega), enF_ex f n 4 (by omega), enF_ex f n 5 (by omega), enF_ex f n 6 (by omega), enF_ex f n 7 (by omega)]
theorem zero33 : (Try.prog.info? 33).bind (·.zero) = some (.agg (List.replicate 2 (.int .i64 0)).toArray) := by kernel_rfl
theorem built36 (c m pk : Int) : Try.prog.built 36 [(0, .int .i64 c), (2, .int .i64 m), (6, .int .i64 pk)] = some (heC c 0 m 0 0 0 0 0 0 0 0 0 0 pk 0) := by kernel_rfl
set_option maxRecDepth 100000 in
set_option maxHeartbeats 40000000 in
theorem rtest_ok (p : Option Addr) (n c : Nat) (f : Nat → Nat) (hn : n ≤ 131072) (w : World) (h : By w p n f) : Calls Try.prog 14 #[.slice p n c] w fun e w' => e = .returned (.tuple #[.agg (teC f n), .int .i64 0]) ∧ Below w.heap.size w w' := by
  have H : Hid (By w p n f) := h
  clear h
  have hn0 : decide ((1048576 : Int) < (n : Int)) = false := by simp; omega
  obtain ⟨MO, hMO⟩ : ∃ F, Hid (F = moF f n) := ⟨_, rfl⟩
  obtain ⟨PO, hPO⟩ : ∃ F, Hid (F = sqS (fun x => pk f x n) 16) := ⟨_, rfl⟩
  have C25 : Hid (∀ u, Below w.heap.size w u → Calls Try.prog 25 #[.slice p n c] u fun e w' => e = .returned (.int .i64 (MO : Nat)) ∧ Below u.heap.size u w') := fun u hu => (rmost_ok p n c f (by omega) u (H.out.below hu)).mono fun e w' q => ⟨by rw [q.1, hMO.out], q.2⟩
  have C26 : Hid (∀ u, Below w.heap.size w u → Calls Try.prog 26 #[.slice p n c] u fun e w' => e = .returned (.int .i64 (PO : Nat)) ∧ Below u.heap.size u w') := fun u hu => (rpoker_ok p n c f (by omega) u (H.out.below hu)).mono fun e w' q => ⟨by rw [q.1, hPO.out], q.2⟩
  have hHs : Hid ((heC (n : Nat) 0 (MO : Nat) 0 0 0 0 0 0 0 0 0 0 (PO : Nat) 0).size = 15 ∧ (heC (n : Nat) 0 (MO : Nat) 0 0 0 0 0 0 0 0 0 0 (PO : Nat) 0).all (·.oneCell') = true) := ⟨rfl, by simp [heC, Value.oneCell']⟩
  go_enter Try.func14, Try.ntmps14
  go_upto_region 3 with (refine wpList_alloc_arr (by rfl) 36 15 (by rfl) zero36 ?_; intro W0 G ht0 hb0 hG0 hz0; subst hG0)
  have HB0 : Hid (Below w.heap.size w W0 ∧ W0.heap.size = w.heap.size + 1 ∧ Tm W0 w.heap.size 36 (fun _ => 0) 15) := ⟨hb0, hz0, ht0⟩
  clear hb0 hz0 ht0
  go_upto_region 4 with (first
    | (go_at_call 25; refine (C25.out _ HB0.out.1).mono ?_; rintro ez w1 ⟨rfl, hb1⟩)
    | (go_at_call 26; refine (C26.out _ (HB0.out.1.trans (hb1.mono HB0.out.1.size))).mono ?_; rintro ez w2 ⟨rfl, hb2⟩)
    | (refine wpList_alloc_arr (by rfl) 36 15 (by rfl) zero36 ?_; intro W3 G2 ht3 hb3 hG3 hz3; subst hG3)
    | (refine wpList_store_mid (by rfl) 36 (.tmp 4) (.tmp 20) (by rfl) w2.heap.size 0 (heC (n : Nat) 0 (MO : Nat) 0 0 0 0 0 0 0 0 0 0 (PO : Nat) 0) (by rfl) (by rfl) (by rw [hHs.out.1]; exact ht3.there) (by rw [size36, hHs.out.1]) hHs.out.2 ?_))
  try simp only [Act.put, List.setIfInBounds_toArray, List.set_cons_zero, List.set_cons_succ]
  have H0 : Hid (Th w (W3.setCells w2.heap.size 0 (heC (n : Nat) 0 (MO : Nat) 0 0 0 0 0 0 0 0 0 0 (PO : Nat) 0).toList) w2.heap.size (hv (n : Nat) ((lgF f 0 : Nat) : Int) (MO : Nat) 0 (exF f 0 0) (frF f 0) (PO : Nat) 0)) := by
    have s1 : w.heap.size < w2.heap.size := by have := hb1.size; have := hb2.size; have := HB0.out.2.1; omega
    have b1 : Below w.heap.size w w1 := HB0.out.1.trans (hb1.mono HB0.out.1.size)
    have b2 : Below w.heap.size w w2 := b1.trans (hb2.mono b1.size)
    have b3 : Below w2.heap.size w2 (W3.setCells w2.heap.size 0 (heC (n : Nat) 0 (MO : Nat) 0 0 0 0 0 0 0 0 0 0 (PO : Nat) 0).toList) := hb3.trans (setCells_below _ _ _ _ _ (Nat.le_refl _))
    refine ⟨ht3.full _ _ hHs.out.1 (fun x hx => ?_), ?_, b2.trans (b3.mono b2.size), s1⟩
    · rw [exF_zero]
      exact heC_at (n : Nat) 0 (MO : Nat) 0 (fun _ => 0) 0 (PO : Nat) 0 x hx
    · have hl0 := HB0.out.2.2.lt
      exact HB0.out.2.2.of ((b3.block _ s1).trans ((hb2.block _ (Nat.lt_of_lt_of_le hl0 hb1.size)).trans (hb1.block _ hl0)))
  clear HB0 hb1 hb2 hb3 hz3 ht3 hHs C25 C26
  generalize W3.setCells w2.heap.size 0 (heC (n : Nat) 0 (MO : Nat) 0 0 0 0 0 0 0 0 0 0 (PO : Nat) 0).toList = WA at H0 ⊢
  generalize w2.heap.size = G at H0 ⊢
  go_wp2
  go_loopw [5, 6] (fun r i wr => ∃ k : Nat, k ≤ n ∧ i = .int .i64 k ∧ r = .int .i64 (rnF f k : Nat) ∧ Hid (Th w wr G (hv (n : Nat) ((lgF f k : Nat) : Int) (MO : Nat) 0 (exF f k 0) (frF f k) (PO : Nat) 0))) (fun _ i _ => n - (intOf i).toNat)
  case atStart => exact ⟨0, Nat.zero_le _, rfl, rfl, H0⟩
  case round =>
    obtain ⟨k, hk, rfl, rfl, HT⟩ := hrel
    clear H0
    have ho1 := lgF_le f k
    have ho2 := rnF_le f k
    by_cases hlt : k < n
    · obtain ⟨b, off, hp, hb, hc⟩ := H.out (by omega)
      subst hp
      obtain ⟨h1', h2⟩ := hc k hlt
      have h1 := (HT.out.be.cell (p := ⟨b, off + k, none⟩) hb).trans h1'
      obtain ⟨y, hy⟩ : ∃ y, Hid (y = f k) := ⟨_, rfl⟩
      rw [← hy.out] at h1 h1' h2
      have HY : Hid (w.cell? ⟨b, off + k, none⟩ = some (.int .u8 (y : Nat))) := h1'
      clear h1'
      obtain ⟨A, hA⟩ : ∃ A, Hid (A = lgF f k) := ⟨_, rfl⟩
      obtain ⟨R, hR⟩ : ∃ R, Hid (R = rnF f k) := ⟨_, rfl⟩
      rw [← hA.out] at ho1
      rw [← hR.out] at ho2 ⊢
      have c1 : wr.cell? ⟨G, 1, none⟩ = some (.int .i64 (A : Nat)) := by rw [hA.out]; exact HT.out.tm.cell 1 (by omega)
      have f1 := HT.out.tm.frozen 1
      by_cases h0 : k = 0
      · have g0 : decide ((0 : Int) < (k : Int)) = false := by simp [h0]
        have g0' : decide (0 < k) = false := by simp [h0]
        have g1' : ¬ 0 < k := by omega
        have E : Hid (lgF f (k + 1) = max A 1 ∧ rnF f (k + 1) = 1) := by
          have hR0 : R = 0 := by omega
          exact ⟨by rw [lgF, rnF, if_neg (by omega), hA.out, ← hR.out, hR0], by rw [rnF, if_neg (by omega), ← hR.out, hR0]⟩
        clear h0
        clear hc
        go_upto_region 8 with fail
        go_quiet (fail)
        go_upto_region 12 with fail
        have HX : Hid (Th w ((wr.drewN nq).setCell ⟨G, 1, none⟩ (.int .i64 (1))) G (hv (n : Nat) ((lgF f (k + 1) : Nat) : Int) (MO : Nat) 0 (exF f k 0) (frF f k) (PO : Nat) 0)) := by
          refine (HT.out.drewN _).set 1 _ _ (fun y hy => ?_)
          have hvv : ((lgF f (k + 1) : Nat) : Int) = 1 := by rw [E.out.1]; omega
          rw [hv_r _ ((lgF f k : Nat) : Int) _ _ _ _ _ _ _ y hy, hvv]
        generalize (wr.drewN nq).setCell ⟨G, 1, none⟩ (.int .i64 (1)) = wx at HX ⊢
        clear c1 f1 HT
        go_wp2
        go_loopw [7] (fun kk wr => ∃ m : Nat, m ≤ 4 ∧ kk = .int .i64 m ∧ Hid (Th w wr G (hv (n : Nat) ((lgF f (k + 1) : Nat) : Int) (MO : Nat) 0 (exF f k m) (frF f k) (PO : Nat) 0))) (fun kk _ => 4 - (intOf kk).toNat)
        case atStart => exact ⟨0, Nat.zero_le _, rfl, HX⟩
        case round =>
          obtain ⟨m, hm, rfl, HM⟩ := hrel
          clear HX h1
          have h1 := (HM.out.be.cell (p := ⟨b, off + k, none⟩) hb).trans HY.out
          have hbz : b < wr.heap.size := Nat.lt_of_lt_of_le hb HM.out.be.size
          have hbG : b ≠ G := by have := HM.out.ne; omega
          by_cases hm4 : m < 4
          · have hRl := eR_le f m k
            have hIl := eI_le f m k
            obtain ⟨D, hD⟩ : ∃ D, Hid (D = 6 - 2 * m) := ⟨_, rfl⟩
            obtain ⟨Y, hY⟩ : ∃ Y, Hid (Y = y / 2 ^ D) := ⟨_, rfl⟩
            obtain ⟨d, hd⟩ : ∃ d, Hid (d = Y % 4) := ⟨_, rfl⟩
            have hdg : Hid (dg m y = d) := by show dg m y = d; rw [hd.out, hY.out, hD.out]; rfl
            have eD : (6 - 2 * (m : Int)) = (D : Int) := by rw [hD.out]; omega
            have hD6 : D ≤ 6 := by rw [hD.out]; omega
            have eY : (y : Int) / 2 ^ D = (Y : Int) := by rw [hY.out, Int.natCast_ediv, Int.natCast_pow]; rfl
            have hY256 : Y < 256 := by rw [hY.out]; exact Nat.lt_of_le_of_lt (Nat.div_le_self _ _) h2
            have ed : (Y : Int).tmod 4 = (d : Int) := by rw [hd.out, Int.tmod_eq_emod_of_nonneg (by omega)]; omega
            have hd4 : d < 4 := by rw [hd.out]; omega
            have HE : Hid (eR f m (k + 1) = eR f m k + stR d ∧ eI f m (k + 1) = eI f m k + stI d) := by
              constructor
              · rw [eR, ← hy.out, hdg.out]
              · rw [eI, ← hy.out, hdg.out]
            obtain ⟨a0, ha0⟩ : ∃ a0, Hid (a0 = eR f m k) := ⟨_, rfl⟩
            obtain ⟨b0, hb0⟩ : ∃ b0, Hid (b0 = eI f m k) := ⟨_, rfl⟩
            rw [← ha0.out] at HE hRl
            rw [← hb0.out] at HE hIl
            obtain ⟨a1, ha1⟩ : ∃ a1, Hid (a1 = a0 + stR d) := ⟨_, rfl⟩
            obtain ⟨b1, hb1'⟩ : ∃ b1, Hid (b1 = b0 + stI d) := ⟨_, rfl⟩
            have C27 : Hid (∀ u, Calls Try.prog 27 #[.agg #[.int .i64 a0, .int .i64 b0], .int .i64 (d : Nat)] u fun e w' => e = .returned (.agg #[.int .i64 a1, .int .i64 b1]) ∧ Below u.heap.size u w') := by
              intro u
              rw [ha1.out, hb1'.out]
              exact rstep_ok a0 b0 d hd4 (by omega) (by omega) u
            have HRG : Hid (∀ u, Th w u G (hv (n : Nat) ((lgF f (k + 1) : Nat) : Int) (MO : Nat) 0 (exF f k m) (frF f k) (PO : Nat) 0) → u.rangeAt G (4 + m * 2) [.int .i64 a0, .int .i64 b0]) := fun u hu => by rw [ha0.out, hb0.out]; exact hu.range hm4
            have HTW : Hid (∀ u, Th w u G (hv (n : Nat) ((lgF f (k + 1) : Nat) : Int) (MO : Nat) 0 (exF f k m) (frF f k) (PO : Nat) 0) → Th w (u.setCells G (4 + m * 2) #[.int .i64 a1, .int .i64 b1].toList) G (hv (n : Nat) ((lgF f (k + 1) : Nat) : Int) (MO : Nat) 0 (exF f k (m + 1)) (frF f k) (PO : Nat) 0)) := fun u hu => hu.two hm4 (exF f k (m + 1)) a1 b1 (fun q => by rw [exF_one, HE.out.1, HE.out.2, ha1.out, hb1'.out])
            have hTM : ∀ u, Th w u G (hv (n : Nat) ((lgF f (k + 1) : Nat) : Int) (MO : Nat) 0 (exF f k m) (frF f k) (PO : Nat) 0) → u.there G (4 + m * 2) 2 := fun u hu => hu.tm.mid (4 + m * 2) 2 (by omega)
            have wy : IntKind.i64.wrap (y : Int) = (y : Int) := by rw [IntKind.wrap_i64]; omega
            have wm : IntKind.i64.wrap (2 * (m : Int)) = 2 * (m : Int) := by rw [IntKind.wrap_i64]; omega
            have wD : IntKind.i64.wrap (D : Int) = (D : Int) := by rw [IntKind.wrap_i64]; omega
            have wU : IntKind.u64.wrap (D : Int) = (D : Int) := by rw [IntKind.wrap_u64]; omega
            clear HE ha0 hb0 ha1 hb1' hdg hd hY hD hRl hIl
            go_upto_region 15 with fail
            have hbl : ∀ u, Stay G wr u → u.cell? ⟨b, off + k, none⟩ = some (.int .u8 (y : Nat)) := fun u hu => (hu.cell hbz hbG).trans h1
            have hS0 : Stay G wr wr.drew := Stay.of (Below.refl _ _).drew
            refine wp_region_noPanic ?_
            refine wp_region_held_drew (S := fun u => Stay G wr u) (by kernel_rfl) (hS0) (fun _ => ?_)
            refine takeH_at 0 52 (.int .i64 (m : Nat)) rfl rfl (by kernel_rfl) (by kernel_rfl) (by kernel_rfl) (fun _ _ _ h => h) (hS0) (Or.inl ⟨by rfl, fun w' hS' => by go_simp⟩) ?_
            simp only [List.setIfInBounds_toArray, List.set_cons_zero, List.set_cons_succ]
            refine takeH_at 1 53 (.int .i64 (m : Nat)) rfl rfl (by kernel_rfl) (by kernel_rfl) (by kernel_rfl) (fun _ _ _ h => h) (hS0) (Or.inl ⟨by rfl, fun w' hS' => by go_simp⟩) ?_
            simp only [List.setIfInBounds_toArray, List.set_cons_zero, List.set_cons_succ]
            refine takeH_at 2 54 (.pointer (some ⟨G, 4, none⟩)) rfl rfl (by kernel_rfl) (by kernel_rfl) (by kernel_rfl) (fun _ _ _ h => h) (hS0) (Or.inl ⟨by rfl, fun w' hS' => by go_simp⟩) ?_
            simp only [List.setIfInBounds_toArray, List.set_cons_zero, List.set_cons_succ]
            refine takeH_at 5 57 (.slice (some ⟨b, off, none⟩) n c) rfl rfl (by kernel_rfl) (by kernel_rfl) (by kernel_rfl) (fun _ _ _ h => h) (hS0) (Or.inl ⟨by rfl, fun w' hS' => by go_simp⟩) ?_
            simp only [List.setIfInBounds_toArray, List.set_cons_zero, List.set_cons_succ]
            refine takeH_at 6 58 (.int .i64 (k : Nat)) rfl rfl (by kernel_rfl) (by kernel_rfl) (by kernel_rfl) (fun _ _ _ h => h) (hS0) (Or.inl ⟨by rfl, fun w' hS' => by go_simp⟩) ?_
            simp only [List.setIfInBounds_toArray, List.set_cons_zero, List.set_cons_succ]
            refine takeH_at 10 62 (.int .i64 (m : Nat)) rfl rfl (by kernel_rfl) (by kernel_rfl) (by kernel_rfl) (fun _ _ _ h => h) (hS0) (Or.inl ⟨by rfl, fun w' hS' => by go_simp⟩) ?_
            simp only [List.setIfInBounds_toArray, List.set_cons_zero, List.set_cons_succ]
            refine takeH_at 3 55 (.pointer (some ⟨G, 4 + m * 2, none⟩)) rfl rfl (by kernel_rfl) (by kernel_rfl) (by kernel_rfl) (fun _ _ _ h => h) (hS0) (Or.inl ⟨by rfl, fun w' hS' => by go_simp⟩) ?_
            simp only [List.setIfInBounds_toArray, List.set_cons_zero, List.set_cons_succ]
            refine takeH_at 7 59 (.pointer (some ⟨b, off + k, none⟩)) rfl rfl (by kernel_rfl) (by kernel_rfl) (by kernel_rfl) (fun _ _ _ h => h) (hS0) (Or.inl ⟨by rfl, fun w' hS' => by go_simp⟩) ?_
            simp only [List.setIfInBounds_toArray, List.set_cons_zero, List.set_cons_succ]
            refine takeH_at 8 60 (.int .u8 (y : Nat)) rfl rfl (by kernel_rfl) (by kernel_rfl) (by kernel_rfl) (fun _ _ _ h => h) (hS0) (Or.inl ⟨by rfl, fun w' hS' => by have q := hbl w' hS'; go_simp⟩) ?_
            simp only [List.setIfInBounds_toArray, List.set_cons_zero, List.set_cons_succ]
            refine takeH_at 9 61 (.int .i64 (y : Nat)) rfl rfl (by kernel_rfl) (by kernel_rfl) (by kernel_rfl) (fun _ _ _ h => h) (hS0) (Or.inl ⟨by rfl, fun w' hS' => by go_simp⟩) ?_
            simp only [List.setIfInBounds_toArray, List.set_cons_zero, List.set_cons_succ]
            refine takeH_at 11 63 (.int .i64 (2 * (m : Int))) rfl rfl (by kernel_rfl) (by kernel_rfl) (by kernel_rfl) (fun _ _ _ h => h) (hS0) (Or.inl ⟨by rfl, fun w' hS' => by go_simp⟩) ?_
            simp only [List.setIfInBounds_toArray, List.set_cons_zero, List.set_cons_succ]
            refine takeH_at 12 64 (.int .i64 (D : Nat)) rfl rfl (by kernel_rfl) (by kernel_rfl) (by kernel_rfl) (fun _ _ _ h => h) (hS0) (Or.inl ⟨by rfl, fun w' hS' => by go_simp⟩) ?_
            simp only [List.setIfInBounds_toArray, List.set_cons_zero, List.set_cons_succ]
            refine takeH_at 13 65 (.int .u64 (D : Nat)) rfl rfl (by kernel_rfl) (by kernel_rfl) (by kernel_rfl) (fun _ _ _ h => h) (hS0) (Or.inl ⟨by rfl, fun w' hS' => by go_simp⟩) ?_
            simp only [List.setIfInBounds_toArray, List.set_cons_zero, List.set_cons_succ]
            refine takeH_at 14 66 (.int .i64 (Y : Nat)) rfl rfl (by kernel_rfl) (by kernel_rfl) (by kernel_rfl) (fun _ _ _ h => h) (hS0) (Or.inl ⟨by rfl, fun w' hS' => by go_simp⟩) ?_
            simp only [List.setIfInBounds_toArray, List.set_cons_zero, List.set_cons_succ]
            refine takeH_at 15 67 (.int .i64 (d : Nat)) rfl rfl (by kernel_rfl) (by kernel_rfl) (by kernel_rfl) (fun _ _ _ h => h) (hS0) (Or.inl ⟨by rfl, fun w' hS' => by go_simp⟩) ?_
            simp only [List.setIfInBounds_toArray, List.set_cons_zero, List.set_cons_succ]
            refine takeH_at 17 69 (.pointer (some ⟨G, 4, none⟩)) rfl rfl (by kernel_rfl) (by kernel_rfl) (by kernel_rfl) (fun _ _ _ h => h) (hS0) (Or.inl ⟨by rfl, fun w' hS' => by go_simp⟩) ?_
            simp only [List.setIfInBounds_toArray, List.set_cons_zero, List.set_cons_succ]
            refine wpAnyH_ready (rs := [4]) (by kernel_rfl) (by simp) ?_
            refine AllReadyH.cons rfl (fun K hK => ?_) AllReadyH.nil
            refine step_load1 rfl 56 rfl 33 (.tmp 55) rfl (.pointer (some ⟨G, 4 + m * 2, none⟩)) (.agg #[.int .i64 a0, .int .i64 b0]) rfl (run_loadAt_mid wr.drew G (4 + m * 2) 33 [.int .i64 a0, .int .i64 b0] _ (HRG.out _ HM.out.drew) Try.underlying33 rfl size33) ?_
            refine hK.out _ _ hS0 (fun _ => ?_)
            clear hK K
            try simp only [Act.put, List.setIfInBounds_toArray, List.set_cons_zero, List.set_cons_succ]
            refine wpAnyH_ready (rs := [16]) (by kernel_rfl) (by simp) ?_
            refine AllReadyH.cons rfl (fun K hK => ?_) AllReadyH.nil
            go_simp
            refine (C27.out _).mono ?_
            rintro e91 u1 ⟨rfl, hbu⟩
            have hS1 : Stay G wr u1 := hS0.trans (Stay.of hbu)
            have hT1 : Hid (Th w u1 G (hv (n : Nat) ((lgF f (k + 1) : Nat) : Int) (MO : Nat) 0 (exF f k m) (frF f k) (PO : Nat) 0)) := HM.out.drew.below hbu
            go_wp2_with fail
            refine hK.out _ _ hS1 (fun _ => ?_)
            clear hK K
            try simp only [Act.put, List.setIfInBounds_toArray, List.set_cons_zero, List.set_cons_succ]
            refine takeH_at 18 70 (.pointer (some ⟨G, 4 + m * 2, none⟩)) rfl rfl (by kernel_rfl) (by kernel_rfl) (by kernel_rfl) (fun _ _ _ h => h) (hS1) (Or.inl ⟨by rfl, fun w' hS' => by go_simp⟩) ?_
            simp only [List.setIfInBounds_toArray, List.set_cons_zero, List.set_cons_succ]
            refine wpAnyH_ready (rs := [19]) (by kernel_rfl) (by simp) ?_
            refine AllReadyH.cons rfl (fun K hK => ?_) AllReadyH.nil
            rw [if_pos (by rfl)]
            refine wp_store_mid 33 (.tmp 70) (.tmp 68) rfl G (4 + m * 2) #[.int .i64 a1, .int .i64 b1] rfl rfl (hTM _ hT1.out) (by rw [size33]; rfl) (by simp [Value.oneCell']) ?_
            refine hK.out _ _ (hS1.trans (setCells_stay G _ _ u1)) (fun _ => ?_)
            clear hK K
            try simp only [Act.put]
            refine wpAnyH_done (by kernel_rfl) ?_ _
            refine NoPanic.normal ?_
            have HM2 : Hid (Th w (u1.setCells G (4 + m * 2) #[.int .i64 a1, .int .i64 b1].toList) G (hv (n : Nat) ((lgF f (k + 1) : Nat) : Int) (MO : Nat) 0 (exF f k (m + 1)) (frF f k) (PO : Nat) 0)) := HTW.out _ hT1.out
            generalize u1.setCells G (4 + m * 2) #[.int .i64 a1, .int .i64 b1].toList = u2 at HM2 ⊢
            clear hTM HTW HRG hbl hS0 hS1 hT1 HM C27
            go_wp2
            exact ⟨⟨m + 1, by omega, by go_num, HM2⟩, by simp [intOf]; omega⟩
          · obtain rfl : m = 4 := by omega
            have hRl := eR_le f 0 (k + 1)
            have hIl := eI_le f 0 (k + 1)
            have HFR : Hid (frF f (k + 1) = max (frF f k) (eR f 0 (k + 1) * eR f 0 (k + 1) + eI f 0 (k + 1) * eI f 0 (k + 1))) := rfl
            have hg0 : Hid ((hv (n : Nat) ((lgF f (k + 1) : Nat) : Int) (MO : Nat) 0 (exF f k 4) (frF f k) (PO : Nat) 0) 4 = eR f 0 (k + 1) ∧ (hv (n : Nat) ((lgF f (k + 1) : Nat) : Int) (MO : Nat) 0 (exF f k 4) (frF f k) (PO : Nat) 0) 5 = eI f 0 (k + 1)) := ⟨rfl, rfl⟩
            obtain ⟨a0, ha0⟩ : ∃ a0, Hid (a0 = eR f 0 (k + 1)) := ⟨_, rfl⟩
            obtain ⟨b0, hb0⟩ : ∃ b0, Hid (b0 = eI f 0 (k + 1)) := ⟨_, rfl⟩
            obtain ⟨FR, hF⟩ : ∃ F, Hid (F = frF f k) := ⟨_, rfl⟩
            rw [← ha0.out, ← hb0.out] at hg0 HFR
            rw [← ha0.out] at hRl
            rw [← hb0.out] at hIl
            rw [← hF.out] at HFR
            have HRG : Hid (wr.rangeAt G 4 [.int .i64 a0, .int .i64 b0]) := HM.out.tm.pair 4 (by omega) _ _ hg0.out.1 hg0.out.2
            go_upto_region 17 with (first
              | (refine wpList_load_mid (by rfl) 33 (.tmp 72) (by rfl) G 4 (by rfl) [.int .i64 a0, .int .i64 b0] _ HRG.out Try.underlying33 rfl size33 ?_)
              | (refine wpList_alloc_arr (by rfl) 33 2 (by rfl) zero33 ?_; intro W5 G5 ht5 hb5 hG5 hz5; subst hG5)
              | (refine wpList_store_mid (by rfl) 33 (.tmp 8) (.tmp 73) (by rfl) wr.heap.size 0 #[.int .i64 a0, .int .i64 b0] (by rfl) (by rfl) (ht5.mid 0 2 (by omega)) (by rw [size33]; rfl) (by simp [Value.oneCell']) ?_))
            try simp only [Act.put, List.setIfInBounds_toArray, List.set_cons_zero, List.set_cons_succ]
            have HX5 : Hid (Th w (W5.setCells wr.heap.size 0 #[.int .i64 a0, .int .i64 b0].toList) G (hv (n : Nat) ((lgF f (k + 1) : Nat) : Int) (MO : Nat) 0 (exF f k 4) (frF f k) (PO : Nat) 0) ∧ (W5.setCells wr.heap.size 0 #[.int .i64 a0, .int .i64 b0].toList).rangeAt wr.heap.size 0 [.int .i64 a0, .int .i64 b0]) :=
              ⟨HM.out.below (hb5.trans (setCells_below _ _ _ _ _ (Nat.le_refl _))), World.rangeAt_setCells_same W5 wr.heap.size 0 _ (ht5.mid 0 2 (by omega))⟩
            clear ht5 hb5 hz5 HM HRG
            generalize W5.setCells wr.heap.size 0 #[.int .i64 a0, .int .i64 b0].toList = wx5 at HX5 ⊢
            generalize wr.heap.size = B5 at HX5 ⊢
            have c0 : wx5.cell? ⟨B5, 0, none⟩ = some (.int .i64 a0) := HX5.out.2 0 _ rfl
            have c1 : wx5.cell? ⟨B5, 1, none⟩ = some (.int .i64 b0) := HX5.out.2 1 _ rfl
            have c12 : wx5.cell? ⟨G, 12, none⟩ = some (.int .i64 FR) := by rw [hF.out]; exact HX5.out.1.tm.cell 12 (by omega)
            have f12 := HX5.out.1.tm.frozen 12
            have q1 := sq_bound (a := a0) (by omega)
            have q2 := sq_bound (a := b0) (by omega)
            have e1 : wrap64 (a0 * a0) = a0 * a0 := wrap64_small _ (by omega) (by omega)
            have e2 : wrap64 (b0 * b0) = b0 * b0 := wrap64_small _ (by omega) (by omega)
            have e3 : wrap64 (a0 * a0 + b0 * b0) = a0 * a0 + b0 * b0 := wrap64_small _ (by omega) (by omega)
            have HF2 : Hid (∀ v, v = max FR (a0 * a0 + b0 * b0) → Th w (wx5.setCell ⟨G, 12, none⟩ (.int .i64 v)) G (hv (n : Nat) ((lgF f (k + 1) : Nat) : Int) (MO : Nat) 0 (exF f (k + 1) 0) (frF f (k + 1)) (PO : Nat) 0)) := fun v hv1 =>
              (HX5.out.1.set 12 v (hv (n : Nat) ((lgF f (k + 1) : Nat) : Int) (MO : Nat) 0 (exF f k 4) (frF f (k + 1)) (PO : Nat) 0) (fun y hy => by rw [hv_f _ _ _ _ _ (frF f k) _ _ _ y hy, HFR.out, hv1])).ext (fun q hq => hv_ext _ _ _ _ _ _ _ _ _ (fun q hq => exF_next f k q hq) q)
            clear HX5 hg0
            go_wp2
            refine ⟨⟨k + 1, by omega, by go_num, ?_, HF2.out _ (maxZ _ _)⟩, by simp [intOf]; omega⟩
            rw [E.out.2]
            rfl
      · obtain ⟨j, hj⟩ : ∃ j, k = j + 1 := ⟨k - 1, by omega⟩
        obtain ⟨h3', h4⟩ := hc j (by omega)
        have h3 := (HT.out.be.cell (p := ⟨b, off + j, none⟩) hb).trans h3'
        obtain ⟨z, hz⟩ : ∃ z, Hid (z = f j) := ⟨_, rfl⟩
        rw [← hz.out] at h3 h4
        clear hc h3'
        have e1 : ((k : Int) - 1) = (j : Int) := by omega
        have g0 : decide ((0 : Int) < (k : Int)) = true := by simp; omega
        have g0' : decide (0 < k) = true := by simp; omega
        have g1' : 0 < k := by omega
        have i0 : (0 : Int) ≤ (j : Int) := by omega
        have i1 : (j : Int) < (n : Int) := by omega
        have hjn : j < n := by omega
        have HJ : Hid (k = j + 1) := hj
        clear hj h0
        by_cases hyz : y = z
        · have q : ((y : Int) == (z : Int)) = true := by simp [hyz]
          have hff : ¬ (0 < k ∧ f k ≠ f (k - 1)) := by rw [← hy.out, HJ.out, Nat.add_sub_cancel, ← hz.out]; omega
          have E : Hid (lgF f (k + 1) = max A (R + 1) ∧ rnF f (k + 1) = R + 1) := ⟨by rw [lgF, rnF, if_neg hff, hA.out, hR.out], by rw [rnF, if_neg hff, hR.out]⟩
          clear hff hyz
          go_upto_region 8 with fail
          go_quiet (fail)
          go_upto_region 12 with fail
          obtain ⟨V, hV⟩ : ∃ V : Int, Hid (V = (if (A : Int) < (R : Int) + 1 then (R : Int) + 1 else (A : Int))) := ⟨_, rfl⟩
          rw [← hV.out]
          have HX : Hid (Th w ((wr.drewN nq).setCell ⟨G, 1, none⟩ (.int .i64 (V))) G (hv (n : Nat) ((lgF f (k + 1) : Nat) : Int) (MO : Nat) 0 (exF f k 0) (frF f k) (PO : Nat) 0)) := by
            refine (HT.out.drewN _).set 1 _ _ (fun y hy => ?_)
            have hvv : ((lgF f (k + 1) : Nat) : Int) = V := by rw [E.out.1]; rw [hV.out]; split <;> omega
            rw [hv_r _ ((lgF f k : Nat) : Int) _ _ _ _ _ _ _ y hy, hvv]
          generalize (wr.drewN nq).setCell ⟨G, 1, none⟩ (.int .i64 (V)) = wx at HX ⊢
          clear c1 f1 HT
          go_wp2
          go_loopw [7] (fun kk wr => ∃ m : Nat, m ≤ 4 ∧ kk = .int .i64 m ∧ Hid (Th w wr G (hv (n : Nat) ((lgF f (k + 1) : Nat) : Int) (MO : Nat) 0 (exF f k m) (frF f k) (PO : Nat) 0))) (fun kk _ => 4 - (intOf kk).toNat)
          case atStart => exact ⟨0, Nat.zero_le _, rfl, HX⟩
          case round =>
            obtain ⟨m, hm, rfl, HM⟩ := hrel
            clear HX h1
            have h1 := (HM.out.be.cell (p := ⟨b, off + k, none⟩) hb).trans HY.out
            have hbz : b < wr.heap.size := Nat.lt_of_lt_of_le hb HM.out.be.size
            have hbG : b ≠ G := by have := HM.out.ne; omega
            by_cases hm4 : m < 4
            · have hRl := eR_le f m k
              have hIl := eI_le f m k
              obtain ⟨D, hD⟩ : ∃ D, Hid (D = 6 - 2 * m) := ⟨_, rfl⟩
              obtain ⟨Y, hY⟩ : ∃ Y, Hid (Y = y / 2 ^ D) := ⟨_, rfl⟩
              obtain ⟨d, hd⟩ : ∃ d, Hid (d = Y % 4) := ⟨_, rfl⟩
              have hdg : Hid (dg m y = d) := by show dg m y = d; rw [hd.out, hY.out, hD.out]; rfl
              have eD : (6 - 2 * (m : Int)) = (D : Int) := by rw [hD.out]; omega
              have hD6 : D ≤ 6 := by rw [hD.out]; omega
              have eY : (y : Int) / 2 ^ D = (Y : Int) := by rw [hY.out, Int.natCast_ediv, Int.natCast_pow]; rfl
              have hY256 : Y < 256 := by rw [hY.out]; exact Nat.lt_of_le_of_lt (Nat.div_le_self _ _) h2
              have ed : (Y : Int).tmod 4 = (d : Int) := by rw [hd.out, Int.tmod_eq_emod_of_nonneg (by omega)]; omega
              have hd4 : d < 4 := by rw [hd.out]; omega
              have HE : Hid (eR f m (k + 1) = eR f m k + stR d ∧ eI f m (k + 1) = eI f m k + stI d) := by
                constructor
                · rw [eR, ← hy.out, hdg.out]
                · rw [eI, ← hy.out, hdg.out]
              obtain ⟨a0, ha0⟩ : ∃ a0, Hid (a0 = eR f m k) := ⟨_, rfl⟩
              obtain ⟨b0, hb0⟩ : ∃ b0, Hid (b0 = eI f m k) := ⟨_, rfl⟩
              rw [← ha0.out] at HE hRl
              rw [← hb0.out] at HE hIl
              obtain ⟨a1, ha1⟩ : ∃ a1, Hid (a1 = a0 + stR d) := ⟨_, rfl⟩
              obtain ⟨b1, hb1'⟩ : ∃ b1, Hid (b1 = b0 + stI d) := ⟨_, rfl⟩
              have C27 : Hid (∀ u, Calls Try.prog 27 #[.agg #[.int .i64 a0, .int .i64 b0], .int .i64 (d : Nat)] u fun e w' => e = .returned (.agg #[.int .i64 a1, .int .i64 b1]) ∧ Below u.heap.size u w') := by
                intro u
                rw [ha1.out, hb1'.out]
                exact rstep_ok a0 b0 d hd4 (by omega) (by omega) u
              have HRG : Hid (∀ u, Th w u G (hv (n : Nat) ((lgF f (k + 1) : Nat) : Int) (MO : Nat) 0 (exF f k m) (frF f k) (PO : Nat) 0) → u.rangeAt G (4 + m * 2) [.int .i64 a0, .int .i64 b0]) := fun u hu => by rw [ha0.out, hb0.out]; exact hu.range hm4
              have HTW : Hid (∀ u, Th w u G (hv (n : Nat) ((lgF f (k + 1) : Nat) : Int) (MO : Nat) 0 (exF f k m) (frF f k) (PO : Nat) 0) → Th w (u.setCells G (4 + m * 2) #[.int .i64 a1, .int .i64 b1].toList) G (hv (n : Nat) ((lgF f (k + 1) : Nat) : Int) (MO : Nat) 0 (exF f k (m + 1)) (frF f k) (PO : Nat) 0)) := fun u hu => hu.two hm4 (exF f k (m + 1)) a1 b1 (fun q => by rw [exF_one, HE.out.1, HE.out.2, ha1.out, hb1'.out])
              have hTM : ∀ u, Th w u G (hv (n : Nat) ((lgF f (k + 1) : Nat) : Int) (MO : Nat) 0 (exF f k m) (frF f k) (PO : Nat) 0) → u.there G (4 + m * 2) 2 := fun u hu => hu.tm.mid (4 + m * 2) 2 (by omega)
              have wy : IntKind.i64.wrap (y : Int) = (y : Int) := by rw [IntKind.wrap_i64]; omega
              have wm : IntKind.i64.wrap (2 * (m : Int)) = 2 * (m : Int) := by rw [IntKind.wrap_i64]; omega
              have wD : IntKind.i64.wrap (D : Int) = (D : Int) := by rw [IntKind.wrap_i64]; omega
              have wU : IntKind.u64.wrap (D : Int) = (D : Int) := by rw [IntKind.wrap_u64]; omega
              clear HE ha0 hb0 ha1 hb1' hdg hd hY hD hRl hIl
              go_upto_region 15 with fail
              have hbl : ∀ u, Stay G wr u → u.cell? ⟨b, off + k, none⟩ = some (.int .u8 (y : Nat)) := fun u hu => (hu.cell hbz hbG).trans h1
              have hS0 : Stay G wr wr.drew := Stay.of (Below.refl _ _).drew
              refine wp_region_noPanic ?_
              refine wp_region_held_drew (S := fun u => Stay G wr u) (by kernel_rfl) (hS0) (fun _ => ?_)
              refine takeH_at 0 52 (.int .i64 (m : Nat)) rfl rfl (by kernel_rfl) (by kernel_rfl) (by kernel_rfl) (fun _ _ _ h => h) (hS0) (Or.inl ⟨by rfl, fun w' hS' => by go_simp⟩) ?_
              simp only [List.setIfInBounds_toArray, List.set_cons_zero, List.set_cons_succ]
              refine takeH_at 1 53 (.int .i64 (m : Nat)) rfl rfl (by kernel_rfl) (by kernel_rfl) (by kernel_rfl) (fun _ _ _ h => h) (hS0) (Or.inl ⟨by rfl, fun w' hS' => by go_simp⟩) ?_
              simp only [List.setIfInBounds_toArray, List.set_cons_zero, List.set_cons_succ]
              refine takeH_at 2 54 (.pointer (some ⟨G, 4, none⟩)) rfl rfl (by kernel_rfl) (by kernel_rfl) (by kernel_rfl) (fun _ _ _ h => h) (hS0) (Or.inl ⟨by rfl, fun w' hS' => by go_simp⟩) ?_
              simp only [List.setIfInBounds_toArray, List.set_cons_zero, List.set_cons_succ]
              refine takeH_at 5 57 (.slice (some ⟨b, off, none⟩) n c) rfl rfl (by kernel_rfl) (by kernel_rfl) (by kernel_rfl) (fun _ _ _ h => h) (hS0) (Or.inl ⟨by rfl, fun w' hS' => by go_simp⟩) ?_
              simp only [List.setIfInBounds_toArray, List.set_cons_zero, List.set_cons_succ]
              refine takeH_at 6 58 (.int .i64 (k : Nat)) rfl rfl (by kernel_rfl) (by kernel_rfl) (by kernel_rfl) (fun _ _ _ h => h) (hS0) (Or.inl ⟨by rfl, fun w' hS' => by go_simp⟩) ?_
              simp only [List.setIfInBounds_toArray, List.set_cons_zero, List.set_cons_succ]
              refine takeH_at 10 62 (.int .i64 (m : Nat)) rfl rfl (by kernel_rfl) (by kernel_rfl) (by kernel_rfl) (fun _ _ _ h => h) (hS0) (Or.inl ⟨by rfl, fun w' hS' => by go_simp⟩) ?_
              simp only [List.setIfInBounds_toArray, List.set_cons_zero, List.set_cons_succ]
              refine takeH_at 3 55 (.pointer (some ⟨G, 4 + m * 2, none⟩)) rfl rfl (by kernel_rfl) (by kernel_rfl) (by kernel_rfl) (fun _ _ _ h => h) (hS0) (Or.inl ⟨by rfl, fun w' hS' => by go_simp⟩) ?_
              simp only [List.setIfInBounds_toArray, List.set_cons_zero, List.set_cons_succ]
              refine takeH_at 7 59 (.pointer (some ⟨b, off + k, none⟩)) rfl rfl (by kernel_rfl) (by kernel_rfl) (by kernel_rfl) (fun _ _ _ h => h) (hS0) (Or.inl ⟨by rfl, fun w' hS' => by go_simp⟩) ?_
              simp only [List.setIfInBounds_toArray, List.set_cons_zero, List.set_cons_succ]
              refine takeH_at 8 60 (.int .u8 (y : Nat)) rfl rfl (by kernel_rfl) (by kernel_rfl) (by kernel_rfl) (fun _ _ _ h => h) (hS0) (Or.inl ⟨by rfl, fun w' hS' => by have q := hbl w' hS'; go_simp⟩) ?_
              simp only [List.setIfInBounds_toArray, List.set_cons_zero, List.set_cons_succ]
              refine takeH_at 9 61 (.int .i64 (y : Nat)) rfl rfl (by kernel_rfl) (by kernel_rfl) (by kernel_rfl) (fun _ _ _ h => h) (hS0) (Or.inl ⟨by rfl, fun w' hS' => by go_simp⟩) ?_
              simp only [List.setIfInBounds_toArray, List.set_cons_zero, List.set_cons_succ]
              refine takeH_at 11 63 (.int .i64 (2 * (m : Int))) rfl rfl (by kernel_rfl) (by kernel_rfl) (by kernel_rfl) (fun _ _ _ h => h) (hS0) (Or.inl ⟨by rfl, fun w' hS' => by go_simp⟩) ?_
              simp only [List.setIfInBounds_toArray, List.set_cons_zero, List.set_cons_succ]
              refine takeH_at 12 64 (.int .i64 (D : Nat)) rfl rfl (by kernel_rfl) (by kernel_rfl) (by kernel_rfl) (fun _ _ _ h => h) (hS0) (Or.inl ⟨by rfl, fun w' hS' => by go_simp⟩) ?_
              simp only [List.setIfInBounds_toArray, List.set_cons_zero, List.set_cons_succ]
              refine takeH_at 13 65 (.int .u64 (D : Nat)) rfl rfl (by kernel_rfl) (by kernel_rfl) (by kernel_rfl) (fun _ _ _ h => h) (hS0) (Or.inl ⟨by rfl, fun w' hS' => by go_simp⟩) ?_
              simp only [List.setIfInBounds_toArray, List.set_cons_zero, List.set_cons_succ]
              refine takeH_at 14 66 (.int .i64 (Y : Nat)) rfl rfl (by kernel_rfl) (by kernel_rfl) (by kernel_rfl) (fun _ _ _ h => h) (hS0) (Or.inl ⟨by rfl, fun w' hS' => by go_simp⟩) ?_
              simp only [List.setIfInBounds_toArray, List.set_cons_zero, List.set_cons_succ]
              refine takeH_at 15 67 (.int .i64 (d : Nat)) rfl rfl (by kernel_rfl) (by kernel_rfl) (by kernel_rfl) (fun _ _ _ h => h) (hS0) (Or.inl ⟨by rfl, fun w' hS' => by go_simp⟩) ?_
              simp only [List.setIfInBounds_toArray, List.set_cons_zero, List.set_cons_succ]
              refine takeH_at 17 69 (.pointer (some ⟨G, 4, none⟩)) rfl rfl (by kernel_rfl) (by kernel_rfl) (by kernel_rfl) (fun _ _ _ h => h) (hS0) (Or.inl ⟨by rfl, fun w' hS' => by go_simp⟩) ?_
              simp only [List.setIfInBounds_toArray, List.set_cons_zero, List.set_cons_succ]
              refine wpAnyH_ready (rs := [4]) (by kernel_rfl) (by simp) ?_
              refine AllReadyH.cons rfl (fun K hK => ?_) AllReadyH.nil
              refine step_load1 rfl 56 rfl 33 (.tmp 55) rfl (.pointer (some ⟨G, 4 + m * 2, none⟩)) (.agg #[.int .i64 a0, .int .i64 b0]) rfl (run_loadAt_mid wr.drew G (4 + m * 2) 33 [.int .i64 a0, .int .i64 b0] _ (HRG.out _ HM.out.drew) Try.underlying33 rfl size33) ?_
              refine hK.out _ _ hS0 (fun _ => ?_)
              clear hK K
              try simp only [Act.put, List.setIfInBounds_toArray, List.set_cons_zero, List.set_cons_succ]
              refine wpAnyH_ready (rs := [16]) (by kernel_rfl) (by simp) ?_
              refine AllReadyH.cons rfl (fun K hK => ?_) AllReadyH.nil
              go_simp
              refine (C27.out _).mono ?_
              rintro e91 u1 ⟨rfl, hbu⟩
              have hS1 : Stay G wr u1 := hS0.trans (Stay.of hbu)
              have hT1 : Hid (Th w u1 G (hv (n : Nat) ((lgF f (k + 1) : Nat) : Int) (MO : Nat) 0 (exF f k m) (frF f k) (PO : Nat) 0)) := HM.out.drew.below hbu
              go_wp2_with fail
              refine hK.out _ _ hS1 (fun _ => ?_)
              clear hK K
              try simp only [Act.put, List.setIfInBounds_toArray, List.set_cons_zero, List.set_cons_succ]
              refine takeH_at 18 70 (.pointer (some ⟨G, 4 + m * 2, none⟩)) rfl rfl (by kernel_rfl) (by kernel_rfl) (by kernel_rfl) (fun _ _ _ h => h) (hS1) (Or.inl ⟨by rfl, fun w' hS' => by go_simp⟩) ?_
              simp only [List.setIfInBounds_toArray, List.set_cons_zero, List.set_cons_succ]
              refine wpAnyH_ready (rs := [19]) (by kernel_rfl) (by simp) ?_
              refine AllReadyH.cons rfl (fun K hK => ?_) AllReadyH.nil
              rw [if_pos (by rfl)]
              refine wp_store_mid 33 (.tmp 70) (.tmp 68) rfl G (4 + m * 2) #[.int .i64 a1, .int .i64 b1] rfl rfl (hTM _ hT1.out) (by rw [size33]; rfl) (by simp [Value.oneCell']) ?_
              refine hK.out _ _ (hS1.trans (setCells_stay G _ _ u1)) (fun _ => ?_)
              clear hK K
              try simp only [Act.put]
              refine wpAnyH_done (by kernel_rfl) ?_ _
              refine NoPanic.normal ?_
              have HM2 : Hid (Th w (u1.setCells G (4 + m * 2) #[.int .i64 a1, .int .i64 b1].toList) G (hv (n : Nat) ((lgF f (k + 1) : Nat) : Int) (MO : Nat) 0 (exF f k (m + 1)) (frF f k) (PO : Nat) 0)) := HTW.out _ hT1.out
              generalize u1.setCells G (4 + m * 2) #[.int .i64 a1, .int .i64 b1].toList = u2 at HM2 ⊢
              clear hTM HTW HRG hbl hS0 hS1 hT1 HM C27
              go_wp2
              exact ⟨⟨m + 1, by omega, by go_num, HM2⟩, by simp [intOf]; omega⟩
            · obtain rfl : m = 4 := by omega
              have hRl := eR_le f 0 (k + 1)
              have hIl := eI_le f 0 (k + 1)
              have HFR : Hid (frF f (k + 1) = max (frF f k) (eR f 0 (k + 1) * eR f 0 (k + 1) + eI f 0 (k + 1) * eI f 0 (k + 1))) := rfl
              have hg0 : Hid ((hv (n : Nat) ((lgF f (k + 1) : Nat) : Int) (MO : Nat) 0 (exF f k 4) (frF f k) (PO : Nat) 0) 4 = eR f 0 (k + 1) ∧ (hv (n : Nat) ((lgF f (k + 1) : Nat) : Int) (MO : Nat) 0 (exF f k 4) (frF f k) (PO : Nat) 0) 5 = eI f 0 (k + 1)) := ⟨rfl, rfl⟩
              obtain ⟨a0, ha0⟩ : ∃ a0, Hid (a0 = eR f 0 (k + 1)) := ⟨_, rfl⟩
              obtain ⟨b0, hb0⟩ : ∃ b0, Hid (b0 = eI f 0 (k + 1)) := ⟨_, rfl⟩
              obtain ⟨FR, hF⟩ : ∃ F, Hid (F = frF f k) := ⟨_, rfl⟩
              rw [← ha0.out, ← hb0.out] at hg0 HFR
              rw [← ha0.out] at hRl
              rw [← hb0.out] at hIl
              rw [← hF.out] at HFR
              have HRG : Hid (wr.rangeAt G 4 [.int .i64 a0, .int .i64 b0]) := HM.out.tm.pair 4 (by omega) _ _ hg0.out.1 hg0.out.2
              go_upto_region 17 with (first
                | (refine wpList_load_mid (by rfl) 33 (.tmp 72) (by rfl) G 4 (by rfl) [.int .i64 a0, .int .i64 b0] _ HRG.out Try.underlying33 rfl size33 ?_)
                | (refine wpList_alloc_arr (by rfl) 33 2 (by rfl) zero33 ?_; intro W5 G5 ht5 hb5 hG5 hz5; subst hG5)
                | (refine wpList_store_mid (by rfl) 33 (.tmp 8) (.tmp 73) (by rfl) wr.heap.size 0 #[.int .i64 a0, .int .i64 b0] (by rfl) (by rfl) (ht5.mid 0 2 (by omega)) (by rw [size33]; rfl) (by simp [Value.oneCell']) ?_))
              try simp only [Act.put, List.setIfInBounds_toArray, List.set_cons_zero, List.set_cons_succ]
              have HX5 : Hid (Th w (W5.setCells wr.heap.size 0 #[.int .i64 a0, .int .i64 b0].toList) G (hv (n : Nat) ((lgF f (k + 1) : Nat) : Int) (MO : Nat) 0 (exF f k 4) (frF f k) (PO : Nat) 0) ∧ (W5.setCells wr.heap.size 0 #[.int .i64 a0, .int .i64 b0].toList).rangeAt wr.heap.size 0 [.int .i64 a0, .int .i64 b0]) :=
                ⟨HM.out.below (hb5.trans (setCells_below _ _ _ _ _ (Nat.le_refl _))), World.rangeAt_setCells_same W5 wr.heap.size 0 _ (ht5.mid 0 2 (by omega))⟩
              clear ht5 hb5 hz5 HM HRG
              generalize W5.setCells wr.heap.size 0 #[.int .i64 a0, .int .i64 b0].toList = wx5 at HX5 ⊢
              generalize wr.heap.size = B5 at HX5 ⊢
              have c0 : wx5.cell? ⟨B5, 0, none⟩ = some (.int .i64 a0) := HX5.out.2 0 _ rfl
              have c1 : wx5.cell? ⟨B5, 1, none⟩ = some (.int .i64 b0) := HX5.out.2 1 _ rfl
              have c12 : wx5.cell? ⟨G, 12, none⟩ = some (.int .i64 FR) := by rw [hF.out]; exact HX5.out.1.tm.cell 12 (by omega)
              have f12 := HX5.out.1.tm.frozen 12
              have q1 := sq_bound (a := a0) (by omega)
              have q2 := sq_bound (a := b0) (by omega)
              have e1 : wrap64 (a0 * a0) = a0 * a0 := wrap64_small _ (by omega) (by omega)
              have e2 : wrap64 (b0 * b0) = b0 * b0 := wrap64_small _ (by omega) (by omega)
              have e3 : wrap64 (a0 * a0 + b0 * b0) = a0 * a0 + b0 * b0 := wrap64_small _ (by omega) (by omega)
              have HF2 : Hid (∀ v, v = max FR (a0 * a0 + b0 * b0) → Th w (wx5.setCell ⟨G, 12, none⟩ (.int .i64 v)) G (hv (n : Nat) ((lgF f (k + 1) : Nat) : Int) (MO : Nat) 0 (exF f (k + 1) 0) (frF f (k + 1)) (PO : Nat) 0)) := fun v hv1 =>
                (HX5.out.1.set 12 v (hv (n : Nat) ((lgF f (k + 1) : Nat) : Int) (MO : Nat) 0 (exF f k 4) (frF f (k + 1)) (PO : Nat) 0) (fun y hy => by rw [hv_f _ _ _ _ _ (frF f k) _ _ _ y hy, HFR.out, hv1])).ext (fun q hq => hv_ext _ _ _ _ _ _ _ _ _ (fun q hq => exF_next f k q hq) q)
              clear HX5 hg0
              go_wp2
              refine ⟨⟨k + 1, by omega, by go_num, ?_, HF2.out _ (maxZ _ _)⟩, by simp [intOf]; omega⟩
              rw [E.out.2]
              go_num
        · have q : ((y : Int) == (z : Int)) = false := by simp; omega
          have hff : 0 < k ∧ f k ≠ f (k - 1) := by rw [← hy.out, HJ.out, Nat.add_sub_cancel, ← hz.out]; omega
          have E : Hid (lgF f (k + 1) = max A 1 ∧ rnF f (k + 1) = 1) := ⟨by rw [lgF, rnF, if_pos hff, hA.out], by rw [rnF, if_pos hff]⟩
          clear hff hyz
          go_upto_region 8 with fail
          go_quiet (fail)
          go_upto_region 12 with fail
          obtain ⟨V, hV⟩ : ∃ V : Int, Hid (V = (if (A : Int) < 1 then 1 else (A : Int))) := ⟨_, rfl⟩
          rw [← hV.out]
          have HX : Hid (Th w ((wr.drewN nq).setCell ⟨G, 1, none⟩ (.int .i64 (V))) G (hv (n : Nat) ((lgF f (k + 1) : Nat) : Int) (MO : Nat) 0 (exF f k 0) (frF f k) (PO : Nat) 0)) := by
            refine (HT.out.drewN _).set 1 _ _ (fun y hy => ?_)
            have hvv : ((lgF f (k + 1) : Nat) : Int) = V := by rw [E.out.1]; rw [hV.out]; split <;> omega
            rw [hv_r _ ((lgF f k : Nat) : Int) _ _ _ _ _ _ _ y hy, hvv]
          generalize (wr.drewN nq).setCell ⟨G, 1, none⟩ (.int .i64 (V)) = wx at HX ⊢
          clear c1 f1 HT
          go_wp2
          go_loopw [7] (fun kk wr => ∃ m : Nat, m ≤ 4 ∧ kk = .int .i64 m ∧ Hid (Th w wr G (hv (n : Nat) ((lgF f (k + 1) : Nat) : Int) (MO : Nat) 0 (exF f k m) (frF f k) (PO : Nat) 0))) (fun kk _ => 4 - (intOf kk).toNat)
          case atStart => exact ⟨0, Nat.zero_le _, rfl, HX⟩
          case round =>
            obtain ⟨m, hm, rfl, HM⟩ := hrel
            clear HX h1
            have h1 := (HM.out.be.cell (p := ⟨b, off + k, none⟩) hb).trans HY.out
            have hbz : b < wr.heap.size := Nat.lt_of_lt_of_le hb HM.out.be.size
            have hbG : b ≠ G := by have := HM.out.ne; omega
            by_cases hm4 : m < 4
            · have hRl := eR_le f m k
              have hIl := eI_le f m k
              obtain ⟨D, hD⟩ : ∃ D, Hid (D = 6 - 2 * m) := ⟨_, rfl⟩
              obtain ⟨Y, hY⟩ : ∃ Y, Hid (Y = y / 2 ^ D) := ⟨_, rfl⟩
              obtain ⟨d, hd⟩ : ∃ d, Hid (d = Y % 4) := ⟨_, rfl⟩
              have hdg : Hid (dg m y = d) := by show dg m y = d; rw [hd.out, hY.out, hD.out]; rfl
              have eD : (6 - 2 * (m : Int)) = (D : Int) := by rw [hD.out]; omega
              have hD6 : D ≤ 6 := by rw [hD.out]; omega
              have eY : (y : Int) / 2 ^ D = (Y : Int) := by rw [hY.out, Int.natCast_ediv, Int.natCast_pow]; rfl
              have hY256 : Y < 256 := by rw [hY.out]; exact Nat.lt_of_le_of_lt (Nat.div_le_self _ _) h2
              have ed : (Y : Int).tmod 4 = (d : Int) := by rw [hd.out, Int.tmod_eq_emod_of_nonneg (by omega)]; omega
              have hd4 : d < 4 := by rw [hd.out]; omega
              have HE : Hid (eR f m (k + 1) = eR f m k + stR d ∧ eI f m (k + 1) = eI f m k + stI d) := by
                constructor
                · rw [eR, ← hy.out, hdg.out]
                · rw [eI, ← hy.out, hdg.out]
              obtain ⟨a0, ha0⟩ : ∃ a0, Hid (a0 = eR f m k) := ⟨_, rfl⟩
              obtain ⟨b0, hb0⟩ : ∃ b0, Hid (b0 = eI f m k) := ⟨_, rfl⟩
              rw [← ha0.out] at HE hRl
              rw [← hb0.out] at HE hIl
              obtain ⟨a1, ha1⟩ : ∃ a1, Hid (a1 = a0 + stR d) := ⟨_, rfl⟩
              obtain ⟨b1, hb1'⟩ : ∃ b1, Hid (b1 = b0 + stI d) := ⟨_, rfl⟩
              have C27 : Hid (∀ u, Calls Try.prog 27 #[.agg #[.int .i64 a0, .int .i64 b0], .int .i64 (d : Nat)] u fun e w' => e = .returned (.agg #[.int .i64 a1, .int .i64 b1]) ∧ Below u.heap.size u w') := by
                intro u
                rw [ha1.out, hb1'.out]
                exact rstep_ok a0 b0 d hd4 (by omega) (by omega) u
              have HRG : Hid (∀ u, Th w u G (hv (n : Nat) ((lgF f (k + 1) : Nat) : Int) (MO : Nat) 0 (exF f k m) (frF f k) (PO : Nat) 0) → u.rangeAt G (4 + m * 2) [.int .i64 a0, .int .i64 b0]) := fun u hu => by rw [ha0.out, hb0.out]; exact hu.range hm4
              have HTW : Hid (∀ u, Th w u G (hv (n : Nat) ((lgF f (k + 1) : Nat) : Int) (MO : Nat) 0 (exF f k m) (frF f k) (PO : Nat) 0) → Th w (u.setCells G (4 + m * 2) #[.int .i64 a1, .int .i64 b1].toList) G (hv (n : Nat) ((lgF f (k + 1) : Nat) : Int) (MO : Nat) 0 (exF f k (m + 1)) (frF f k) (PO : Nat) 0)) := fun u hu => hu.two hm4 (exF f k (m + 1)) a1 b1 (fun q => by rw [exF_one, HE.out.1, HE.out.2, ha1.out, hb1'.out])
              have hTM : ∀ u, Th w u G (hv (n : Nat) ((lgF f (k + 1) : Nat) : Int) (MO : Nat) 0 (exF f k m) (frF f k) (PO : Nat) 0) → u.there G (4 + m * 2) 2 := fun u hu => hu.tm.mid (4 + m * 2) 2 (by omega)
              have wy : IntKind.i64.wrap (y : Int) = (y : Int) := by rw [IntKind.wrap_i64]; omega
              have wm : IntKind.i64.wrap (2 * (m : Int)) = 2 * (m : Int) := by rw [IntKind.wrap_i64]; omega
              have wD : IntKind.i64.wrap (D : Int) = (D : Int) := by rw [IntKind.wrap_i64]; omega
              have wU : IntKind.u64.wrap (D : Int) = (D : Int) := by rw [IntKind.wrap_u64]; omega
              clear HE ha0 hb0 ha1 hb1' hdg hd hY hD hRl hIl
              go_upto_region 15 with fail
              have hbl : ∀ u, Stay G wr u → u.cell? ⟨b, off + k, none⟩ = some (.int .u8 (y : Nat)) := fun u hu => (hu.cell hbz hbG).trans h1
              have hS0 : Stay G wr wr.drew := Stay.of (Below.refl _ _).drew
              refine wp_region_noPanic ?_
              refine wp_region_held_drew (S := fun u => Stay G wr u) (by kernel_rfl) (hS0) (fun _ => ?_)
              refine takeH_at 0 52 (.int .i64 (m : Nat)) rfl rfl (by kernel_rfl) (by kernel_rfl) (by kernel_rfl) (fun _ _ _ h => h) (hS0) (Or.inl ⟨by rfl, fun w' hS' => by go_simp⟩) ?_
              simp only [List.setIfInBounds_toArray, List.set_cons_zero, List.set_cons_succ]
              refine takeH_at 1 53 (.int .i64 (m : Nat)) rfl rfl (by kernel_rfl) (by kernel_rfl) (by kernel_rfl) (fun _ _ _ h => h) (hS0) (Or.inl ⟨by rfl, fun w' hS' => by go_simp⟩) ?_
              simp only [List.setIfInBounds_toArray, List.set_cons_zero, List.set_cons_succ]
              refine takeH_at 2 54 (.pointer (some ⟨G, 4, none⟩)) rfl rfl (by kernel_rfl) (by kernel_rfl) (by kernel_rfl) (fun _ _ _ h => h) (hS0) (Or.inl ⟨by rfl, fun w' hS' => by go_simp⟩) ?_
              simp only [List.setIfInBounds_toArray, List.set_cons_zero, List.set_cons_succ]
              refine takeH_at 5 57 (.slice (some ⟨b, off, none⟩) n c) rfl rfl (by kernel_rfl) (by kernel_rfl) (by kernel_rfl) (fun _ _ _ h => h) (hS0) (Or.inl ⟨by rfl, fun w' hS' => by go_simp⟩) ?_
              simp only [List.setIfInBounds_toArray, List.set_cons_zero, List.set_cons_succ]
              refine takeH_at 6 58 (.int .i64 (k : Nat)) rfl rfl (by kernel_rfl) (by kernel_rfl) (by kernel_rfl) (fun _ _ _ h => h) (hS0) (Or.inl ⟨by rfl, fun w' hS' => by go_simp⟩) ?_
              simp only [List.setIfInBounds_toArray, List.set_cons_zero, List.set_cons_succ]
              refine takeH_at 10 62 (.int .i64 (m : Nat)) rfl rfl (by kernel_rfl) (by kernel_rfl) (by kernel_rfl) (fun _ _ _ h => h) (hS0) (Or.inl ⟨by rfl, fun w' hS' => by go_simp⟩) ?_
              simp only [List.setIfInBounds_toArray, List.set_cons_zero, List.set_cons_succ]
              refine takeH_at 3 55 (.pointer (some ⟨G, 4 + m * 2, none⟩)) rfl rfl (by kernel_rfl) (by kernel_rfl) (by kernel_rfl) (fun _ _ _ h => h) (hS0) (Or.inl ⟨by rfl, fun w' hS' => by go_simp⟩) ?_
              simp only [List.setIfInBounds_toArray, List.set_cons_zero, List.set_cons_succ]
              refine takeH_at 7 59 (.pointer (some ⟨b, off + k, none⟩)) rfl rfl (by kernel_rfl) (by kernel_rfl) (by kernel_rfl) (fun _ _ _ h => h) (hS0) (Or.inl ⟨by rfl, fun w' hS' => by go_simp⟩) ?_
              simp only [List.setIfInBounds_toArray, List.set_cons_zero, List.set_cons_succ]
              refine takeH_at 8 60 (.int .u8 (y : Nat)) rfl rfl (by kernel_rfl) (by kernel_rfl) (by kernel_rfl) (fun _ _ _ h => h) (hS0) (Or.inl ⟨by rfl, fun w' hS' => by have q := hbl w' hS'; go_simp⟩) ?_
              simp only [List.setIfInBounds_toArray, List.set_cons_zero, List.set_cons_succ]
              refine takeH_at 9 61 (.int .i64 (y : Nat)) rfl rfl (by kernel_rfl) (by kernel_rfl) (by kernel_rfl) (fun _ _ _ h => h) (hS0) (Or.inl ⟨by rfl, fun w' hS' => by go_simp⟩) ?_
              simp only [List.setIfInBounds_toArray, List.set_cons_zero, List.set_cons_succ]
              refine takeH_at 11 63 (.int .i64 (2 * (m : Int))) rfl rfl (by kernel_rfl) (by kernel_rfl) (by kernel_rfl) (fun _ _ _ h => h) (hS0) (Or.inl ⟨by rfl, fun w' hS' => by go_simp⟩) ?_
              simp only [List.setIfInBounds_toArray, List.set_cons_zero, List.set_cons_succ]
              refine takeH_at 12 64 (.int .i64 (D : Nat)) rfl rfl (by kernel_rfl) (by kernel_rfl) (by kernel_rfl) (fun _ _ _ h => h) (hS0) (Or.inl ⟨by rfl, fun w' hS' => by go_simp⟩) ?_
              simp only [List.setIfInBounds_toArray, List.set_cons_zero, List.set_cons_succ]
              refine takeH_at 13 65 (.int .u64 (D : Nat)) rfl rfl (by kernel_rfl) (by kernel_rfl) (by kernel_rfl) (fun _ _ _ h => h) (hS0) (Or.inl ⟨by rfl, fun w' hS' => by go_simp⟩) ?_
              simp only [List.setIfInBounds_toArray, List.set_cons_zero, List.set_cons_succ]
              refine takeH_at 14 66 (.int .i64 (Y : Nat)) rfl rfl (by kernel_rfl) (by kernel_rfl) (by kernel_rfl) (fun _ _ _ h => h) (hS0) (Or.inl ⟨by rfl, fun w' hS' => by go_simp⟩) ?_
              simp only [List.setIfInBounds_toArray, List.set_cons_zero, List.set_cons_succ]
              refine takeH_at 15 67 (.int .i64 (d : Nat)) rfl rfl (by kernel_rfl) (by kernel_rfl) (by kernel_rfl) (fun _ _ _ h => h) (hS0) (Or.inl ⟨by rfl, fun w' hS' => by go_simp⟩) ?_
              simp only [List.setIfInBounds_toArray, List.set_cons_zero, List.set_cons_succ]
              refine takeH_at 17 69 (.pointer (some ⟨G, 4, none⟩)) rfl rfl (by kernel_rfl) (by kernel_rfl) (by kernel_rfl) (fun _ _ _ h => h) (hS0) (Or.inl ⟨by rfl, fun w' hS' => by go_simp⟩) ?_
              simp only [List.setIfInBounds_toArray, List.set_cons_zero, List.set_cons_succ]
              refine wpAnyH_ready (rs := [4]) (by kernel_rfl) (by simp) ?_
              refine AllReadyH.cons rfl (fun K hK => ?_) AllReadyH.nil
              refine step_load1 rfl 56 rfl 33 (.tmp 55) rfl (.pointer (some ⟨G, 4 + m * 2, none⟩)) (.agg #[.int .i64 a0, .int .i64 b0]) rfl (run_loadAt_mid wr.drew G (4 + m * 2) 33 [.int .i64 a0, .int .i64 b0] _ (HRG.out _ HM.out.drew) Try.underlying33 rfl size33) ?_
              refine hK.out _ _ hS0 (fun _ => ?_)
              clear hK K
              try simp only [Act.put, List.setIfInBounds_toArray, List.set_cons_zero, List.set_cons_succ]
              refine wpAnyH_ready (rs := [16]) (by kernel_rfl) (by simp) ?_
              refine AllReadyH.cons rfl (fun K hK => ?_) AllReadyH.nil
              go_simp
              refine (C27.out _).mono ?_
              rintro e91 u1 ⟨rfl, hbu⟩
              have hS1 : Stay G wr u1 := hS0.trans (Stay.of hbu)
              have hT1 : Hid (Th w u1 G (hv (n : Nat) ((lgF f (k + 1) : Nat) : Int) (MO : Nat) 0 (exF f k m) (frF f k) (PO : Nat) 0)) := HM.out.drew.below hbu
              go_wp2_with fail
              refine hK.out _ _ hS1 (fun _ => ?_)
              clear hK K
              try simp only [Act.put, List.setIfInBounds_toArray, List.set_cons_zero, List.set_cons_succ]
              refine takeH_at 18 70 (.pointer (some ⟨G, 4 + m * 2, none⟩)) rfl rfl (by kernel_rfl) (by kernel_rfl) (by kernel_rfl) (fun _ _ _ h => h) (hS1) (Or.inl ⟨by rfl, fun w' hS' => by go_simp⟩) ?_
              simp only [List.setIfInBounds_toArray, List.set_cons_zero, List.set_cons_succ]
              refine wpAnyH_ready (rs := [19]) (by kernel_rfl) (by simp) ?_
              refine AllReadyH.cons rfl (fun K hK => ?_) AllReadyH.nil
              rw [if_pos (by rfl)]
              refine wp_store_mid 33 (.tmp 70) (.tmp 68) rfl G (4 + m * 2) #[.int .i64 a1, .int .i64 b1] rfl rfl (hTM _ hT1.out) (by rw [size33]; rfl) (by simp [Value.oneCell']) ?_
              refine hK.out _ _ (hS1.trans (setCells_stay G _ _ u1)) (fun _ => ?_)
              clear hK K
              try simp only [Act.put]
              refine wpAnyH_done (by kernel_rfl) ?_ _
              refine NoPanic.normal ?_
              have HM2 : Hid (Th w (u1.setCells G (4 + m * 2) #[.int .i64 a1, .int .i64 b1].toList) G (hv (n : Nat) ((lgF f (k + 1) : Nat) : Int) (MO : Nat) 0 (exF f k (m + 1)) (frF f k) (PO : Nat) 0)) := HTW.out _ hT1.out
              generalize u1.setCells G (4 + m * 2) #[.int .i64 a1, .int .i64 b1].toList = u2 at HM2 ⊢
              clear hTM HTW HRG hbl hS0 hS1 hT1 HM C27
              go_wp2
              exact ⟨⟨m + 1, by omega, by go_num, HM2⟩, by simp [intOf]; omega⟩
            · obtain rfl : m = 4 := by omega
              have hRl := eR_le f 0 (k + 1)
              have hIl := eI_le f 0 (k + 1)
              have HFR : Hid (frF f (k + 1) = max (frF f k) (eR f 0 (k + 1) * eR f 0 (k + 1) + eI f 0 (k + 1) * eI f 0 (k + 1))) := rfl
              have hg0 : Hid ((hv (n : Nat) ((lgF f (k + 1) : Nat) : Int) (MO : Nat) 0 (exF f k 4) (frF f k) (PO : Nat) 0) 4 = eR f 0 (k + 1) ∧ (hv (n : Nat) ((lgF f (k + 1) : Nat) : Int) (MO : Nat) 0 (exF f k 4) (frF f k) (PO : Nat) 0) 5 = eI f 0 (k + 1)) := ⟨rfl, rfl⟩
              obtain ⟨a0, ha0⟩ : ∃ a0, Hid (a0 = eR f 0 (k + 1)) := ⟨_, rfl⟩
              obtain ⟨b0, hb0⟩ : ∃ b0, Hid (b0 = eI f 0 (k + 1)) := ⟨_, rfl⟩
              obtain ⟨FR, hF⟩ : ∃ F, Hid (F = frF f k) := ⟨_, rfl⟩
              rw [← ha0.out, ← hb0.out] at hg0 HFR
              rw [← ha0.out] at hRl
              rw [← hb0.out] at hIl
              rw [← hF.out] at HFR
              have HRG : Hid (wr.rangeAt G 4 [.int .i64 a0, .int .i64 b0]) := HM.out.tm.pair 4 (by omega) _ _ hg0.out.1 hg0.out.2
              go_upto_region 17 with (first
                | (refine wpList_load_mid (by rfl) 33 (.tmp 72) (by rfl) G 4 (by rfl) [.int .i64 a0, .int .i64 b0] _ HRG.out Try.underlying33 rfl size33 ?_)
                | (refine wpList_alloc_arr (by rfl) 33 2 (by rfl) zero33 ?_; intro W5 G5 ht5 hb5 hG5 hz5; subst hG5)
                | (refine wpList_store_mid (by rfl) 33 (.tmp 8) (.tmp 73) (by rfl) wr.heap.size 0 #[.int .i64 a0, .int .i64 b0] (by rfl) (by rfl) (ht5.mid 0 2 (by omega)) (by rw [size33]; rfl) (by simp [Value.oneCell']) ?_))
              try simp only [Act.put, List.setIfInBounds_toArray, List.set_cons_zero, List.set_cons_succ]
              have HX5 : Hid (Th w (W5.setCells wr.heap.size 0 #[.int .i64 a0, .int .i64 b0].toList) G (hv (n : Nat) ((lgF f (k + 1) : Nat) : Int) (MO : Nat) 0 (exF f k 4) (frF f k) (PO : Nat) 0) ∧ (W5.setCells wr.heap.size 0 #[.int .i64 a0, .int .i64 b0].toList).rangeAt wr.heap.size 0 [.int .i64 a0, .int .i64 b0]) :=
                ⟨HM.out.below (hb5.trans (setCells_below _ _ _ _ _ (Nat.le_refl _))), World.rangeAt_setCells_same W5 wr.heap.size 0 _ (ht5.mid 0 2 (by omega))⟩
              clear ht5 hb5 hz5 HM HRG
              generalize W5.setCells wr.heap.size 0 #[.int .i64 a0, .int .i64 b0].toList = wx5 at HX5 ⊢
              generalize wr.heap.size = B5 at HX5 ⊢
              have c0 : wx5.cell? ⟨B5, 0, none⟩ = some (.int .i64 a0) := HX5.out.2 0 _ rfl
              have c1 : wx5.cell? ⟨B5, 1, none⟩ = some (.int .i64 b0) := HX5.out.2 1 _ rfl
              have c12 : wx5.cell? ⟨G, 12, none⟩ = some (.int .i64 FR) := by rw [hF.out]; exact HX5.out.1.tm.cell 12 (by omega)
              have f12 := HX5.out.1.tm.frozen 12
              have q1 := sq_bound (a := a0) (by omega)
              have q2 := sq_bound (a := b0) (by omega)
              have e1 : wrap64 (a0 * a0) = a0 * a0 := wrap64_small _ (by omega) (by omega)
              have e2 : wrap64 (b0 * b0) = b0 * b0 := wrap64_small _ (by omega) (by omega)
              have e3 : wrap64 (a0 * a0 + b0 * b0) = a0 * a0 + b0 * b0 := wrap64_small _ (by omega) (by omega)
              have HF2 : Hid (∀ v, v = max FR (a0 * a0 + b0 * b0) → Th w (wx5.setCell ⟨G, 12, none⟩ (.int .i64 v)) G (hv (n : Nat) ((lgF f (k + 1) : Nat) : Int) (MO : Nat) 0 (exF f (k + 1) 0) (frF f (k + 1)) (PO : Nat) 0)) := fun v hv1 =>
                (HX5.out.1.set 12 v (hv (n : Nat) ((lgF f (k + 1) : Nat) : Int) (MO : Nat) 0 (exF f k 4) (frF f (k + 1)) (PO : Nat) 0) (fun y hy => by rw [hv_f _ _ _ _ _ (frF f k) _ _ _ y hy, HFR.out, hv1])).ext (fun q hq => hv_ext _ _ _ _ _ _ _ _ _ (fun q hq => exF_next f k q hq) q)
              clear HX5 hg0
              go_wp2
              refine ⟨⟨k + 1, by omega, by go_num, ?_, HF2.out _ (maxZ _ _)⟩, by simp [intOf]; omega⟩
              rw [E.out.2]
              rfl
    · obtain rfl : k = n := by omega
      go_wp2
      go_loopw [9] (fun ii wz => ∃ q : Nat, q ≤ 8 * k ∧ ii = .int .i64 q ∧ Hid (Th w wz G (hv (k : Nat) ((lgF f k : Nat) : Int) (MO : Nat) ((oB f q : Nat) : Int) (exF f k 0) (frF f k) (PO : Nat) ((tB f q : Nat) : Int)))) (fun ii _ => 8 * k - (intOf ii).toNat)
      case atStart => exact ⟨0, Nat.zero_le _, rfl, HT⟩
      case round =>
        obtain ⟨q, hq, rfl, HQ⟩ := hrel
        clear HT
        have oq := oB_le f q
        have tq := tB_le f q
        obtain ⟨O, hO⟩ : ∃ O, Hid (O = oB f q) := ⟨_, rfl⟩
        obtain ⟨T, hT⟩ : ∃ T, Hid (T = tB f q) := ⟨_, rfl⟩
        rw [← hO.out] at oq
        rw [← hT.out] at tq
        by_cases hq8 : q < 8 * k
        · obtain ⟨B, hB⟩ : ∃ B, Hid (B = biF f q) := ⟨_, rfl⟩
          have hB1 : B ≤ 1 := by rw [hB.out]; exact biF_le f q
          have CB : Hid (∀ u, Below w.heap.size w u → Calls Try.prog 28 #[.slice p k c, .int .i64 (q : Nat)] u fun e w' => e = .returned (.int .i64 (B : Nat)) ∧ w' = u) := fun u hu => by rw [hB.out]; exact rbit_ok p k c f (by omega) q hq8 u (H.out.below hu)
          have c3 : wr.cell? ⟨G, 3, none⟩ = some (.int .i64 (O : Nat)) := by rw [hO.out]; exact HQ.out.tm.cell 3 (by omega)
          have f3 := HQ.out.tm.frozen 3
          have HM2 : Hid (Th w (wr.setCell ⟨G, 3, none⟩ (.int .i64 ((O : Int) + (B : Int)))).drew G (hv (k : Nat) ((lgF f k : Nat) : Int) (MO : Nat) ((oB f (q + 1) : Nat) : Int) (exF f k 0) (frF f k) (PO : Nat) ((tB f q : Nat) : Int))) :=
            (HQ.out.set 3 _ _ (fun y hy => by rw [hv_o _ _ _ ((oB f q : Nat) : Int) _ _ _ _ _ y hy, oB, hO.out, hB.out]; simp)).drew
          have wOB : wrap64 ((O : Int) + (B : Int)) = (O : Int) + (B : Int) := wrap64_small _ (by omega) (by omega)
          have wOB2 : IntKind.i64.wrap ((O : Int) + (B : Int)) = (O : Int) + (B : Int) := by rw [IntKind.wrap_i64]; omega
          go_upto_region 21 with fail
          have hld : ∀ u, u = wr.drew → u.cell? ⟨G, 3, none⟩ = some (.int .i64 (O : Nat)) := fun u hu => by rw [hu]; simpa using c3
          refine wp_region_noPanic ?_
          refine wp_region_till (fun u => u = wr.drew) 7 (by kernel_rfl) (by decide) (by decide +kernel) (by decide +kernel) (by decide +kernel) (fun inv => ?_)
          refine till_at 0 96 (.pointer (some ⟨G, 3, none⟩)) inv rfl rfl (by decide) (by decide +kernel) (by decide +kernel) (fun _ _ _ h => h) (rfl) (Or.inl ⟨by rfl, fun w' hS' => by go_simp⟩) (fun inv' => ?_)
          clear inv; have inv := inv'; clear inv'
          simp only [List.setIfInBounds_toArray, List.set_cons_zero, List.set_cons_succ]
          refine till_at 2 98 (.slice p k c) inv rfl rfl (by decide) (by decide +kernel) (by decide +kernel) (fun _ _ _ h => h) (rfl) (Or.inl ⟨by rfl, fun w' hS' => by go_simp⟩) (fun inv' => ?_)
          clear inv; have inv := inv'; clear inv'
          simp only [List.setIfInBounds_toArray, List.set_cons_zero, List.set_cons_succ]
          refine till_at 3 99 (.int .i64 (q : Nat)) inv rfl rfl (by decide) (by decide +kernel) (by decide +kernel) (fun _ _ _ h => h) (rfl) (Or.inl ⟨by rfl, fun w' hS' => by go_simp⟩) (fun inv' => ?_)
          clear inv; have inv := inv'; clear inv'
          simp only [List.setIfInBounds_toArray, List.set_cons_zero, List.set_cons_succ]
          refine till_at 1 97 (.int .i64 (O : Nat)) inv rfl rfl (by decide) (by decide +kernel) (by decide +kernel) (fun _ _ _ h => h) (rfl) (Or.inl ⟨by rfl, fun w' hS' => by have q := hld w' hS'; go_simp⟩) (fun inv' => ?_)
          clear inv; have inv := inv'; clear inv'
          simp only [List.setIfInBounds_toArray, List.set_cons_zero, List.set_cons_succ]
          refine till_head (i := 4) inv (by decide +kernel) (by decide) rfl (fun K hK => ?_)
          go_simp
          refine (CB.out _ HQ.out.drew.be).mono ?_
          rintro e1 u1 ⟨rfl, hu1⟩
          obtain rfl := hu1.symm
          go_wp2_with fail
          refine hK.out _ _ rfl (fun inv' => ?_)
          clear hK K inv; have inv := inv'; clear inv'
          try simp only [List.setIfInBounds_toArray, List.set_cons_zero, List.set_cons_succ]
          refine till_at 5 101 (.int .i64 ((O : Int) + (B : Int))) inv rfl rfl (by decide) (by decide +kernel) (by decide +kernel) (fun _ _ _ h => h) (rfl) (Or.inl ⟨by rfl, fun w' hS' => by go_simp⟩) (fun inv' => ?_)
          clear inv; have inv := inv'; clear inv'
          simp only [List.setIfInBounds_toArray, List.set_cons_zero, List.set_cons_succ]
          refine till_at 6 102 (.pointer (some ⟨G, 3, none⟩)) inv rfl rfl (by decide) (by decide +kernel) (by decide +kernel) (fun _ _ _ h => h) (rfl) (Or.inl ⟨by rfl, fun w' hS' => by go_simp⟩) (fun inv' => ?_)
          clear inv; have inv := inv'; clear inv'
          simp only [List.setIfInBounds_toArray, List.set_cons_zero, List.set_cons_succ]
          refine till_tail (i := 7) (by decide +kernel) (by decide) rfl (fun K hK => ?_)
          go_simp
          refine hK.out _ _ ?_
          clear hK K inv
          try simp only [List.setIfInBounds_toArray, List.set_cons_zero, List.set_cons_succ]
          refine till_done (by decide +kernel) ?_ _
          refine NoPanic.normal ?_
          clear hld c3 f3 HQ
          generalize (wr.setCell ⟨G, 3, none⟩ (.int .i64 ((O : Int) + (B : Int)))).drew = u2 at HM2 ⊢
          have c14 : u2.cell? ⟨G, 14, none⟩ = some (.int .i64 (T : Nat)) := by rw [hT.out]; exact HM2.out.tm.cell 14 (by omega)
          have f14 := HM2.out.tm.frozen 14
          by_cases h0 : q = 0
          · have E : Hid (tB f (q + 1) = tB f q) := by show _ = _; rw [tB, if_neg (by omega), Nat.add_zero]
            have HM3 : Hid (Th w u2 G (hv (k : Nat) ((lgF f k : Nat) : Int) (MO : Nat) ((oB f (q + 1) : Nat) : Int) (exF f k 0) (frF f k) (PO : Nat) ((tB f (q + 1) : Nat) : Int))) := by have h := HM2.out; rw [← E.out] at h; exact h
            clear E HM2
            have g0 : decide ((0 : Int) < (q : Int)) = false := by simp [h0]
            have g0' : decide (0 < q) = false := by simp [h0]
            have g1' : ¬ 0 < q := by omega
            clear h0
            go_wp2
            exact ⟨⟨q + 1, by omega, by go_num, HM3⟩, by simp [intOf]; omega⟩
          · obtain ⟨j, hj⟩ : ∃ j, q = j + 1 := ⟨q - 1, by omega⟩
            have e1 : ((q : Int) - 1) = (j : Int) := by omega
            have g0 : decide ((0 : Int) < (q : Int)) = true := by simp; omega
            have g0' : decide (0 < q) = true := by simp; omega
            have g1' : 0 < q := by omega
            obtain ⟨D, hD⟩ : ∃ D, Hid (D = biF f j) := ⟨_, rfl⟩
            have hD1 : D ≤ 1 := by rw [hD.out]; exact biF_le f j
            have CD : Hid (∀ u, Below w.heap.size w u → Calls Try.prog 28 #[.slice p k c, .int .i64 (j : Nat)] u fun e w' => e = .returned (.int .i64 (D : Nat)) ∧ w' = u) := fun u hu => by rw [hD.out]; exact rbit_ok p k c f (by omega) j (by omega) u (H.out.below hu)
            have E : Hid (tB f (q + 1) = tB f q + (if B ≠ D then 1 else 0)) := by
              show _ = _
              rw [tB, hB.out, hD.out, show q - 1 = j by omega]
              by_cases e : biF f q ≠ biF f j
              · rw [if_pos ⟨g1', e⟩, if_pos e]
              · rw [if_neg (fun h => e h.2), if_neg e]
            clear hj h0
            have HBE : Hid (Below w.heap.size w u2) := HM2.out.be
            have MARK : Hid (0 = 0) := rfl
            by_cases hbd : B = D
            · have qn : ((B : Int) != (D : Int)) = false := by simp [hbd]
              have HM3 : Hid (Th w u2 G (hv (k : Nat) ((lgF f k : Nat) : Int) (MO : Nat) ((oB f (q + 1) : Nat) : Int) (exF f k 0) (frF f k) (PO : Nat) ((tB f (q + 1) : Nat) : Int))) := by have h := HM2.out; rw [show tB f q = tB f (q + 1) by rw [E.out, if_neg (by omega), Nat.add_zero]] at h; exact h
              clear E HM2 hbd
              go_wp2_with (go_at_call 28; first | (clear MARK; refine (CB.out _ HBE.out).mono ?_; rintro e91 v1 ⟨rfl, hv1⟩; obtain rfl := hv1.symm) | (refine (CD.out _ HBE.out).mono ?_; rintro e92 v2 ⟨rfl, hv2⟩; obtain rfl := hv2.symm))
              exact ⟨⟨q + 1, by omega, by go_num, HM3⟩, by simp [intOf]; omega⟩
            · have qn : ((B : Int) != (D : Int)) = true := by simp; omega
              have HM3 : Hid (Th w (u2.setCell ⟨G, 14, none⟩ (.int .i64 ((T : Int) + 1))) G (hv (k : Nat) ((lgF f k : Nat) : Int) (MO : Nat) ((oB f (q + 1) : Nat) : Int) (exF f k 0) (frF f k) (PO : Nat) ((tB f (q + 1) : Nat) : Int))) := by
                refine HM2.out.set 14 _ _ (fun y hy => ?_)
                rw [hv_t _ _ _ _ _ _ _ ((tB f q : Nat) : Int) _ y hy, E.out, if_pos hbd, hT.out]
                simp
              clear E HM2 hbd
              go_wp2_with (go_at_call 28; first | (clear MARK; refine (CB.out _ HBE.out).mono ?_; rintro e91 v1 ⟨rfl, hv1⟩; obtain rfl := hv1.symm) | (refine (CD.out _ HBE.out).mono ?_; rintro e92 v2 ⟨rfl, hv2⟩; obtain rfl := hv2.symm))
              exact ⟨⟨q + 1, by omega, by go_num, HM3⟩, by simp [intOf]; omega⟩
        · obtain rfl : q = 8 * k := by omega
          have HF : Hid (wr.heap[G]? = some (.cells (teC f k) 36 (0, 0)) ∧ (teC f k).size = 15 ∧ (teC f k).all (·.oneCell') = true) := by
            refine ⟨HQ.out.tm.whole _ rfl (fun x hx => ?_), rfl, by simp [teC, heC, Value.oneCell']⟩
            rw [teC_is f k, ← hMO.out, ← hPO.out, ← oB_all f k, ← tB_all f k (fun i hi => by obtain ⟨_, _, _, _, hc⟩ := H.out (by omega); exact (hc i hi).2)]
            exact heC_at _ _ _ _ _ _ _ _ x hx
          obtain ⟨HC, hHC⟩ : ∃ HC, Hid (HC = teC f k) := ⟨_, rfl⟩
          rw [← hHC.out] at HF
          have hrg : wr.rangeAt G 0 HC.toList := fun j u hj => by rw [Nat.zero_add, cell_of_row wr G j HC 36 (0, 0) HF.out.1]; simpa using hj
          have hs36 : (Try.prog.info? 36).map (·.size) = some HC.toList.length := by rw [size36, Array.length_toList, HF.out.2.1]
          have HR : Hid (Tm wr w.heap.size 36 (fun _ => 0) 15 ∧ Below w.heap.size w wr) := ⟨HQ.out.rs, HQ.out.be⟩
          clear HQ
          go_wp2_with (first
            | (refine wpList_load_mid (by rfl) 36 (.tmp 4) (by rfl) G 0 (by rfl) HC.toList _ hrg Try.underlying36 rfl hs36 ?_)
            | (refine wpList_store_mid (by rfl) 36 (.tmp 2) (.tmp 119) (by rfl) w.heap.size 0 HC (by rfl) (by rfl) (by rw [HF.out.2.1]; exact HR.out.1.there) (by rw [size36, HF.out.2.1]) HF.out.2.2 ?_))
          have hF : (wr.setCells w.heap.size 0 HC.toList).heap[w.heap.size]? = some (.cells HC 36 (0, 0)) := by
            obtain ⟨cs, q1, q2, _⟩ := HR.out.1
            rw [setCells_heap w.heap.size 36 HC.toList 0 wr cs q1, setL_at _ _ _ (by simp [q2, HF.out.2.1])]
            have hd : List.drop 15 cs.toList = [] := List.drop_eq_nil_of_le (by rw [Array.length_toList, q2]; exact Nat.le_refl _)
            simp [HF.out.2.1, hd]
          refine bodyPost_ret (v := .tuple #[.agg HC, .int .i64 0]) (results_cell_two (p := 2) (u := 3) (ty := 36) rfl _ _ w.heap.size 36 HC (0, 0) _ rfl hF Try.underlying36 rfl (by rw [size36, HF.out.2.1])) rfl ?_
          exact ⟨by rw [hHC.out], HR.out.2.trans (setCells_below w.heap.size HC.toList 0 wr w.heap.size (Nat.le_refl _))⟩
end Go.Proofs.Ytaejoohbmdckhaa
