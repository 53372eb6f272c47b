import Derived.Test.YtioggmjocelolacDoorExpand
namespace Go.Proofs.YtioggmjocelolacDoor
open Go.RowKit
set_option linter.unusedVariables false
set_option linter.unusedSimpArgs false

theorem owns_form2 {w : World} {B n : Nat} {v : Value} {xs : List Value} (h : w.ownsRow B 5 1 v n xs) : ∃ a c, v = .slice a n c ∧ n ≤ c ∧ c ≤ maxLen := by
  rcases h.2 with ⟨rfl, rfl⟩ | ⟨g, c, cur, rfl, _, _, h1, h2, _⟩
  · exact ⟨none, 0, rfl, Nat.le_refl _, by simp [maxLen]⟩
  · exact ⟨_, c, rfl, h1, h2⟩
theorem owns_keep {w u : World} {B n : Nat} {v : Value} {xs : List Value} (h : w.ownsRow B 5 1 v n xs) (hb : ∀ q, B ≤ q → q < w.heap.size → u.heap[q]? = w.heap[q]?) : u.ownsRow B 5 1 v n xs := by
  obtain ⟨h1, h2⟩ := h
  refine ⟨h1, ?_⟩
  rcases h2 with h2 | ⟨g, c, cur, e, p1, p2, p3⟩
  · exact .inl h2
  · exact .inr ⟨g, c, cur, e, p1, by rw [hb g p1 (Array.getElem?_eq_some_iff.1 p2).1]; exact p2, p3⟩
theorem view_cells2 {w : World} {x : Addr} {n cap : Nat} {zs : List Int} (hv : View w (.slice (some x) n cap) zs) : ∀ j u, (cellsU8 zs)[j]? = some u → w.cell? (x.add j) = some u := by
  obtain ⟨a, c, e, h1, h2, h3, h4⟩ := hv
  rcases h4 with rfl | ⟨b, off, ea, hc⟩
  · intro j u hu; simp [cellsU8] at hu
  · rw [ea] at e
    injection e with e1 _ _
    injection e1 with e1
    subst e1
    exact cellsU8_at zs w b off hc
theorem view_block2 {w v : World} {b l c : Nat} {zs : List Int} (hv : View w (.slice (some ⟨b, 0, none⟩) l c) zs) (hb : v.heap[b]? = w.heap[b]?) : View v (.slice (some ⟨b, 0, none⟩) l c) zs := by
  obtain ⟨a, c', e, h1, h2, h3, h4⟩ := hv
  refine ⟨a, c', e, h1, h2, h3, ?_⟩
  rcases h4 with h4 | ⟨b', off, ea, hc⟩
  · exact .inl h4
  · refine .inr ⟨b', off, ea, fun i hi => ?_⟩
    rw [ea] at e
    injection e with e1 _ _
    injection e1 with e1
    injection e1 with e2 _
    subst e2
    rw [World.cell?_of_block hb]
    exact hc i hi
theorem MRep.block {u v : World} {g : Nat} {h : Int} {si so : Eight} {zs : List Int} (m : MRep u g h si so zs) (hb : v.heap[g]? = u.heap[g]?) : MRep v g h si so zs := by
  have hc : ∀ p : Addr, p.block = g → v.cell? p = u.cell? p := fun p hp => World.cell?_of_block (by rw [hp]; exact hb)
  have hf : ∀ p : Addr, p.block = g → v.frozen? p = u.frozen? p := fun p hp => World.frozen?_of_block (by rw [hp]; exact hb)
  obtain ⟨half, k, q1, q2⟩ := m.1
  exact ⟨⟨half, ⟨by rw [hc _ rfl]; exact k.hash, by rw [hc _ rfl]; exact k.fn, fun j x hx => by rw [hc _ rfl]; exact k.st j x hx, fun i hi => by rw [hc _ rfl]; exact k.half i hi, by rw [hc _ rfl]; exact k.fed, fun j hj => by rw [hc _ rfl, hf _ rfl]; exact k.there j hj⟩, q1, q2⟩, ⟨fun j x hx => by rw [hc _ rfl]; exact m.2.inner j x hx, fun j x hx => by rw [hc _ rfl]; exact m.2.outer j x hx, fun j hj => by rw [hc _ rfl, hf _ rfl]; exact m.2.there j hj⟩⟩
theorem take_step {a b : List Int} {L n sz kk : Nat} (ha : a.length = L) (hb : b.length = sz) (hL : L ≤ n) (hk : kk = min sz (n - L)) : a.take n ++ b.take kk = (a ++ b).take n := by
  rw [List.take_append, ha, List.take_of_length_le (by omega : a.length ≤ n)]
  congr 1
  by_cases h : n - L ≤ sz
  · rw [hk, Nat.min_eq_right h]
  · rw [hk, Nat.min_eq_left (by omega), List.take_of_length_le (by omega), List.take_of_length_le (by omega)]
theorem view1 (u : World) (t : TypeId) (x : Int) : View (u.alloc (.cells #[.int .u8 x] t)) (.slice (some ⟨u.heap.size, 0, none⟩) 1 1) [x] := by
  refine ⟨_, 1, rfl, by simp, by simp [maxLen], (fun e => by cases e), .inr ⟨u.heap.size, 0, rfl, fun i hi => ?_⟩⟩
  obtain rfl : i = 0 := by simpa using hi
  rw [World.cell?_alloc_at _ _ _ _ rfl]
  rfl
theorem restart_m (g : Nat) (h : Int) (si so : Eight) (zs : List Int) (w : World) (k : Known h) (hm : MRep w g h si so zs) :
    Calls Tryd.prog 51 #[.pointer (some ⟨g, 0, none⟩), .agg si.cells.toArray] w fun e w' => e = .returned (.tuple #[]) ∧ Touch w w' g 0 139 ∧ MRep w' g h si so [] := by
  obtain ⟨half, hk, _, _⟩ := hm.1
  refine (restart_any g h _ si half _ w k hk).mono ?_
  rintro e w' ⟨rfl, ht, hk'⟩
  exact ⟨rfl, ht, rep_nil hk' (Nat.mod_self _), hm.2.touch ht⟩

set_option maxHeartbeats 1600000 in
set_option maxRecDepth 100000 in
/-- Expand of what may be asked. -/
theorem expand_ok (h : Int) (pa ia : Option Addr) (pn pc il ic n : Nat) (key info : List Int) (w : World) (k : Hid (Known h)) (hkv : Hid (View w (.slice pa pn pc) key)) (hiv : Hid (View w (.slice ia il ic) info)) (hT : Hid (Tables w))
    (hp1 : Hid (szOf h ≤ pn)) (hp : (pn : Int) ≤ 33554432) (hi : (il : Int) ≤ 33554367) (hn1 : (1 : Int) ≤ n) (hn : Hid ((n : Int) ≤ 255 * szOf h)) :
    Calls Tryd.prog 42 #[.int .i64 h, .slice pa pn pc, .slice ia il ic, .int .i64 n] w fun e w' => ∃ v q, e = .returned (.tuple #[v, .int .i64 0]) ∧ n ≤ q * szOf h ∧ w'.ownsRow w.heap.size 5 1 v n (cellsU8 ((expL h key info q).take n)) ∧ Below w.heap.size w w' := by
  have HKL : Hid (key.length = pn) := (view_bounds hkv.out).1
  have HIL : Hid (info.length = il) := (view_bounds hiv.out).1
  obtain ⟨i0, hi0, hz0, hz1, hz2⟩ := info_parts Tryd.info5
  have hn2 : (n : Int) ≤ 16320 := by have := hn.out; have := szOf_le k.out; omega
  go_enter Tryd.func42, Tryd.ntmps42
  go_wp2_with (first
    | (go_at_call 63; refine (mayExpand_ok h pn il n _ k hp1 hp hi hn1 hn).mono ?_; rintro e1 w1 ⟨rfl, hw1⟩; obtain rfl := hw1.symm)
    | (go_at_call 32; refine (newMac_any h _ key w k.out hkv.out (by have := HKL.out; omega) hT.out).mono ?_))
  rintro e2 w2 ⟨gm, rfl, hg2, hm2, hb2⟩
  obtain ⟨si, HSI⟩ : ∃ E : Eight, Hid (E = stateOf h key 54) := ⟨_, (show _ = _ from rfl)⟩
  obtain ⟨so, HSO⟩ : ∃ E : Eight, Hid (E = stateOf h key 92) := ⟨_, (show _ = _ from rfl)⟩
  rw [← HSI.out, ← HSO.out] at hm2
  have HB2 : Hid (Below w.heap.size w w2 ∧ w.heap.size ≤ gm ∧ MRep w2 gm h si so []) := ⟨hb2, hg2, hm2⟩
  clear hb2 hg2 hm2
  go_wp2_with (first
    | (at_make; go_must (refine wpList_make_own _ rfl _ _ 22 rfl w2.heap.size 5 i0 (.int .u8 0) 1 Tryd.underlying22 hi0 hz0 hz1 .i64 .i64 (n : Int) n rfl rfl ?_ ?_ ?_ ?_ ?_)))
  · rfl
  · rw [hz2]; omega
  · unfold maxLen; omega
  · exact Nat.le_refl _
  intro w3 hown3 hgrow3
  have h23 : Below w2.heap.size w2 w3 := (Below.refl _ _).grown hgrow3 (Nat.le_refl _) (by intro k hk; cases hk)
  have HB3 : Hid (Below w.heap.size w w3 ∧ gm < w2.heap.size ∧ MRep w3 gm h si so []) := ⟨HB2.out.1.trans (h23.mono HB2.out.1.size), HB2.out.2.2.1.lt, HB2.out.2.2.below h23⟩
  have HO3 : Hid (w3.ownsRow w2.heap.size 5 1 (.slice (some ⟨w2.heap.size, 0, none⟩) 0 n) 0 (cellsU8 ((expL h key info 0).take n))) := by show World.ownsRow _ _ _ _ _ _ _; simpa [expL, cellsU8] using hown3
  obtain ⟨sz, HSZ⟩ : ∃ sz : Nat, Hid (sz = szOf h) := ⟨_, (show _ = _ from rfl)⟩
  have hs0 : (0 : Int) < sz := by rw [HSZ.out]; rcases szOf_known k.out with e | e | e | e <;> rw [e] <;> decide
  have hs : (sz : Int) ≤ 64 := by rw [HSZ.out]; have := szOf_le k.out; omega
  have HNS : Hid ((n : Int) ≤ 255 * sz) := by show _ ≤ _; rw [HSZ.out]; exact hn.out
  have HW2 : Hid (w2.heap.size ≤ w3.heap.size) := h23.size
  clear hown3 hgrow3 h23
  go_wp2
  go_loopw [13, 14, 15] (fun vo vl vi wr => ∃ q q1 L : Nat, ∃ la ll lc, vi = .int .i64 q1 ∧ vl = .slice la ll lc ∧ q1 = q + 1 ∧ Hid (L = min n (q * sz)) ∧ Hid (wr.ownsRow w2.heap.size 5 1 vo L (cellsU8 ((expL h key info q).take n))) ∧ Hid (View wr (.slice la ll lc) (expT h key info q)) ∧ Hid (∀ b off l c, Value.slice la ll lc = .slice (some ⟨b, off, none⟩) l c → b ≠ gm) ∧ Hid (∃ zs, MRep wr gm h si so zs) ∧ Hid (Below w.heap.size w wr ∧ w2.heap.size ≤ wr.heap.size)) (fun _ _ vi _ => 300 - (intOf vi).toNat)
  case atStart => exact ⟨0, 1, 0, none, 0, 0, rfl, rfl, rfl, (by show _ = _; simp), HO3, view_nil _, (fun b off l c e => by cases e), ⟨_, HB3.out.2.2⟩, HB3.out.1, HW2.out⟩
  case round =>
    obtain ⟨q, q1, L, la, ll, lc, rfl, rfl, hq1, HL, HO, HV, HVG, HM, HB⟩ := hrel
    clear HO3
    obtain ⟨oa, oc, rfl, ho1, ho2⟩ := owns_form2 HO.out
    unfold maxLen at ho2
    by_cases hlt : (L : Int) < n
    · have hLq : q * sz < n := by have := HL.out; omega
      have hq255 : q < 255 := by
        have h5 := HNS.out
        have h6 : q * sz < 255 * sz := by omega
        exact Nat.lt_of_mul_lt_mul_right h6
      have HLE : Hid (L = q * sz) := by have := HL.out; show _ = _; omega
      have HQ1 : Hid (q1 = q + 1) := hq1
      have hq1b : (q1 : Int) ≤ 255 := by omega
      have hq1w : IntKind.u8.wrap (q1 : Int) = (q1 : Int) := by simp [IntKind.wrap, IntKind.bits, IntKind.signed]; omega
      obtain ⟨zm, hmr⟩ := HM.out
      have HMR : Hid (MRep wr gm h si so zm) := hmr
      clear hmr hq1 hLq
      go_wp2_with (first
        | (refine wpList_load_mid (by rfl) 66 (.tmp 46) (by rfl) gm 139 (by rfl) si.cells _ HMR.out.2.inner Tryd.underlying66 rfl size68 ?_)
        | (go_at_call 51; refine (restart_m gm h si so zm wr k.out HMR.out).mono ?_))
      rintro e4 w4 ⟨rfl, ht4, hm4⟩
      have HB4 : Hid (Below w.heap.size w w4 ∧ wr.heap.size ≤ w4.heap.size ∧ MRep w4 gm h si so []) := ⟨HB.out.1.trans (ht4.toBelow HB2.out.2.1 HB.out.1.size), ht4.size, hm4⟩
      have HO4 : Hid (w4.ownsRow w2.heap.size 5 1 (.slice oa L oc) L (cellsU8 ((expL h key info q).take n))) := owns_keep HO.out (fun j hj hj2 => ht4.block j hj2 (by have := HB3.out.2.1; omega))
      have HV4 : Hid (View w4 (.slice la ll lc) (expT h key info q)) := ht4.view HV.out (fun b off l c e => .inl (HVG.out b off l c e))
      have hg4 : 4 ≤ gm := Nat.le_trans hT.out.size HB2.out.2.1
      have HW5 : Hid (∀ t t', Calls Tryd.prog 35 #[.pointer (some ⟨gm, 0, none⟩), .slice (some ⟨w4.heap.size + 1, 0, none⟩) 3 3] ((w4.alloc (.cells #[.int .u8 (q1 : Int)] t)).alloc (.cells #[.slice la ll lc, .slice ia il ic, .slice (some ⟨w4.heap.size, 0, none⟩) 1 1] t')) fun e w' => e = .returned (.int .i64 0) ∧ Below w.heap.size w w' ∧ w4.heap.size ≤ w'.heap.size ∧ MRep w' gm h si so (expT h key info q ++ (info ++ [((q + 1 : Nat) : Int)])) ∧ w'.ownsRow w2.heap.size 5 1 (.slice oa L oc) L (cellsU8 ((expL h key info q).take n))) := by
        intro t t'
        have ha := below_alloc1 w4 (.cells #[.int .u8 (q1 : Int)] t)
        have hb := below_alloc1 (w4.alloc (.cells #[.int .u8 (q1 : Int)] t)) (.cells #[.slice la ll lc, .slice ia il ic, .slice (some ⟨w4.heap.size, 0, none⟩) 1 1] t')
        have hab := ha.trans (hb.mono ha.size)
        have hlt2 := HB4.out.2.2.1.lt
        have hs1 : (w4.alloc (.cells #[.int .u8 (q1 : Int)] t)).heap.size = w4.heap.size + 1 := size_alloc1 _ _
        have hBa := HB4.out.1.trans (ha.mono HB4.out.1.size)
        have hp := parts3_alloc (u := w4.alloc (.cells #[.int .u8 (q1 : Int)] t)) t' _ _ _ (expT h key info q) info [(q1 : Int)] gm (HV4.out.kept (fun j hj => ha.block j hj)) (hiv.out.kept (fun j hj => hBa.block j hj)) (view1 w4 t q1) (by omega) (fun _ b off l c e => HVG.out b off l c e) (fun h0 b off l c e => by have := view_lt hiv.out h0 b off l c e; have := HB2.out.2.1; omega) (fun _ b off l c e => by injection e with e1 _ _; injection e1 with e1; injection e1 with e2 _; omega)
        rw [hs1] at hp
        have hB := HB4.out.1.trans (hab.mono HB4.out.1.size)
        have hTl : (expT h key info q).length ≤ 64 := by
          cases q with
          | zero => simp [expT]
          | succ q => rw [expT, hmac_len2 k.out]; exact szOf_le k.out
        refine (mwrite gm h si so [] [expT h key info q, info, [(q1 : Int)]] _ _ k (HB4.out.2.2.below hab) hp (hT.out.below hB hT.out.size) hg4 (by show _ ≤ _; have := HIL.out; simp; omega)).mono ?_
        rintro e w' ⟨rfl, ht, hr⟩
        refine ⟨rfl, hB.trans (ht.toBelow HB2.out.2.1 hB.size), Nat.le_trans hab.size ht.size, ?_, ?_⟩
        · rw [← HQ1.out]
          simpa using hr
        · refine owns_keep HO4.out (fun j hj hj2 => ?_)
          rw [ht.block j (Nat.lt_of_lt_of_le hj2 hab.size) (by have := HB3.out.2.1; omega)]
          exact hab.block j hj2
      clear ht4 hm4 HMR HO HV
      go_wp2_with (first | (go_at_call 35; refine (HW5.out _ _).mono ?_))
      rintro e5 w5 ⟨rfl, hb5, hs5, hm5, ho5⟩
      have HB5 : Hid (Below w.heap.size w w5 ∧ wr.heap.size ≤ w5.heap.size ∧ MRep w5 gm h si so (expT h key info q ++ (info ++ [((q + 1 : Nat) : Int)])) ∧ w5.ownsRow w2.heap.size 5 1 (.slice oa L oc) L (cellsU8 ((expL h key info q).take n))) := ⟨hb5, Nat.le_trans HB4.out.2.1 hs5, hm5, ho5⟩
      have HT5 : Hid (Tables w5) := hT.out.below hb5 hT.out.size
      clear hb5 hs5 hm5 ho5 HW5
      have HLEN : Hid ((expT h key info q ++ (info ++ [((q + 1 : Nat) : Int)])).length ≤ 1152921504606000000) := by
        have hTl : (expT h key info q).length ≤ 64 := by
          cases q with
          | zero => simp [expT]
          | succ q => rw [expT, hmac_len2 k.out]; exact szOf_le k.out
        show _ ≤ _
        have := HIL.out
        simp
        omega
      go_wp2_with (first | (go_at_call 36; refine (msum gm h si so _ w5 k HB5.out.2.2.1 HT5 HLEN).mono ?_))
      rintro e6 w6 ⟨bl, rfl, ho6, hb6⟩
      rw [← HSZ.out] at ho6
      rw [← HSZ.out]
      have hTT : macL h si so (expT h key info q ++ (info ++ [((q + 1 : Nat) : Int)])) = expT h key info (q + 1) := by rw [expT, hmac, ← HSI.out, ← HSO.out]
      rw [hTT] at ho6
      have HTL : Hid ((expT h key info (q + 1)).length = sz) := by show _ = _; rw [expT, hmac_len2 k.out, HSZ.out]
      have HV6 : Hid (View w6 (.slice (some ⟨bl, 0, none⟩) sz sz) (expT h key info (q + 1)) ∧ w5.heap.size ≤ bl) := ⟨owns_view HTL.out ho6, (owns_lt ho6).1⟩
      have HB6 : Hid (Below w.heap.size w w6 ∧ w2.heap.size ≤ w6.heap.size ∧ (∃ zs, MRep w6 gm h si so zs) ∧ w6.ownsRow w2.heap.size 5 1 (.slice oa L oc) L (cellsU8 ((expL h key info q).take n))) := ⟨HB5.out.1.trans (hb6.mono HB5.out.1.size), Nat.le_trans (Nat.le_trans HB.out.2 HB5.out.2.1) hb6.size, ⟨_, HB5.out.2.2.1.below hb6⟩, owns_keep HB5.out.2.2.2 (fun j _ hj2 => hb6.block j hj2)⟩
      clear ho6 hb6 hTT HT5 HLEN HV4 HO4 HB4
      obtain ⟨d, hd⟩ : ∃ d : Nat, d = n - L := ⟨_, rfl⟩
      have e7 : (n : Int) - (L : Int) = (d : Int) := by omega
      have HD : Hid (d = n - L) := hd
      clear hd
      rcases (show (d : Int) < sz ∨ ¬ ((d : Int) < sz) by omega) with hds | hds
      · obtain ⟨kk, hkk⟩ : ∃ kk, kk = d := ⟨_, rfl⟩
        subst hkk
        have hds1 : (kk : Int) ≤ sz := by omega
        have HKK : Hid (kk = min sz (n - L)) := by have := HD.out; show _ = _; omega
        have HCELL : Hid (∀ j u, (cellsU8 ((expT h key info (q + 1)).take kk))[j]? = some u → w6.cell? ((⟨bl, 0, none⟩ : Addr).add j) = some u) := view_cells2 (view_take HV6.out.1 (show kk ≤ sz by omega))
        go_wp2_with (first
          | (at_builtin; go_must (refine wpList_append_own _ rfl (.tmp 62) (.tmp 71) 22 rfl w2.heap.size 5 i0 (.int .u8 0) 1 1 Tryd.underlying22 hi0 hz0 hz1 hz2 rfl (by decide) _ L (cellsU8 ((expL h key info q).take n)) rfl HB6.out.2.2.2 ⟨bl, 0, none⟩ kk sz (cellsU8 ((expT h key info (q + 1)).take kk)) rfl ?_ HCELL.out (cellsU8_one _) ?_ ?_ HB6.out.2.1 ?_)))
        · rw [cellsU8_length, List.length_take, HTL.out]; have := HKK.out; omega
        · unfold maxLen; omega
        · omega
        intro v2 w7 hown7 hgrow7 hnil7
        have hne : ∀ j, (Value.slice oa L oc).ownBlock = some j → w2.heap.size ≤ j ∧ j < w5.heap.size := fun j hj => HB5.out.2.2.2.lt j hj
        have hbk : ∀ j, j < w6.heap.size → (j < w2.heap.size ∨ w5.heap.size ≤ j) → w7.heap[j]? = w6.heap[j]? := fun j hj h0 => hgrow7.block j hj (fun e => by have := hne j e.symm; omega)
        have HB7 : Hid (Below w.heap.size w w7 ∧ w2.heap.size ≤ w7.heap.size) := ⟨HB6.out.1.grown hgrow7 HB6.out.1.size (fun j hj => by have := hne j hj; have := HB2.out.1.size; omega), Nat.le_trans HB6.out.2.1 hgrow7.size⟩
        have HM7 : Hid (∃ zs, MRep w7 gm h si so zs) := by
          obtain ⟨zs, hz⟩ := HB6.out.2.2.1
          exact ⟨zs, hz.block (hbk gm hz.1.lt (.inl HB3.out.2.1))⟩
        have HV7 : Hid (View w7 (.slice (some ⟨bl, 0, none⟩) sz sz) (expT h key info (q + 1))) := by
          refine view_block2 HV6.out.1 (hbk bl ?_ (.inr HV6.out.2))
          exact view_lt HV6.out.1 (fun e => by have := HTL.out; rw [e] at this; simp at this; omega) bl 0 _ _ rfl
        have HO7 : Hid (w7.ownsRow w2.heap.size 5 1 v2 (L + kk) (cellsU8 ((expL h key info (q + 1)).take n))) := by
          show World.ownsRow _ _ _ _ _ _ _
          rw [expL, ← take_step (expL_length k.out key info q) (HTL.out.trans HSZ.out) (by rw [← HSZ.out, ← HLE.out]; omega) (kk := kk) (by rw [← HSZ.out, ← HLE.out]; exact HKK.out), cellsU8_append]
          exact hown7
        have HL7 : Hid (L + kk = min n ((q + 1) * sz)) := by
          show _ = _
          have h1 := HKK.out
          have h2 := HLE.out
          rw [Nat.succ_mul]
          omega
        have hbg : Hid (bl ≠ gm) := by have := HV6.out.2; have := HB5.out.2.1; have := HB.out.2; have := HB3.out.2.1; show bl ≠ gm; omega
        clear hown7 hgrow7 hnil7 hbk hne HCELL
        go_wp2
        go_roundw
        case rel => exact ⟨q + 1, q1 + 1, L + kk, _, _, _, by go_num, rfl, by have := HQ1.out; omega, HL7, HO7, HV7, (fun b off l c e => by injection e with e1 _ _; injection e1 with e1; injection e1 with e2 _; rw [← e2]; exact hbg.out), HM7, HB7.out.1, HB7.out.2⟩
        case measure => have := HQ1.out; simp [intOf]; omega
      · have hds1 : (sz : Int) ≤ d := by omega
        have HKK : Hid (sz = min sz (n - L)) := by have := HD.out; show _ = _; omega
        have HCELL : Hid (∀ j u, (cellsU8 ((expT h key info (q + 1)).take sz))[j]? = some u → w6.cell? ((⟨bl, 0, none⟩ : Addr).add j) = some u) := view_cells2 (view_take HV6.out.1 (show sz ≤ sz by omega))
        go_wp2_with (first
          | (at_builtin; go_must (refine wpList_append_own _ rfl (.tmp 62) (.tmp 71) 22 rfl w2.heap.size 5 i0 (.int .u8 0) 1 1 Tryd.underlying22 hi0 hz0 hz1 hz2 rfl (by decide) _ L (cellsU8 ((expL h key info q).take n)) rfl HB6.out.2.2.2 ⟨bl, 0, none⟩ sz sz (cellsU8 ((expT h key info (q + 1)).take sz)) rfl ?_ HCELL.out (cellsU8_one _) ?_ ?_ HB6.out.2.1 ?_)))
        · rw [cellsU8_length, List.length_take, HTL.out]; have := HKK.out; omega
        · unfold maxLen; omega
        · omega
        intro v2 w7 hown7 hgrow7 hnil7
        have hne : ∀ j, (Value.slice oa L oc).ownBlock = some j → w2.heap.size ≤ j ∧ j < w5.heap.size := fun j hj => HB5.out.2.2.2.lt j hj
        have hbk : ∀ j, j < w6.heap.size → (j < w2.heap.size ∨ w5.heap.size ≤ j) → w7.heap[j]? = w6.heap[j]? := fun j hj h0 => hgrow7.block j hj (fun e => by have := hne j e.symm; omega)
        have HB7 : Hid (Below w.heap.size w w7 ∧ w2.heap.size ≤ w7.heap.size) := ⟨HB6.out.1.grown hgrow7 HB6.out.1.size (fun j hj => by have := hne j hj; have := HB2.out.1.size; omega), Nat.le_trans HB6.out.2.1 hgrow7.size⟩
        have HM7 : Hid (∃ zs, MRep w7 gm h si so zs) := by
          obtain ⟨zs, hz⟩ := HB6.out.2.2.1
          exact ⟨zs, hz.block (hbk gm hz.1.lt (.inl HB3.out.2.1))⟩
        have HV7 : Hid (View w7 (.slice (some ⟨bl, 0, none⟩) sz sz) (expT h key info (q + 1))) := by
          refine view_block2 HV6.out.1 (hbk bl ?_ (.inr HV6.out.2))
          exact view_lt HV6.out.1 (fun e => by have := HTL.out; rw [e] at this; simp at this; omega) bl 0 _ _ rfl
        have HO7 : Hid (w7.ownsRow w2.heap.size 5 1 v2 (L + sz) (cellsU8 ((expL h key info (q + 1)).take n))) := by
          show World.ownsRow _ _ _ _ _ _ _
          rw [expL, ← take_step (expL_length k.out key info q) (HTL.out.trans HSZ.out) (by rw [← HSZ.out, ← HLE.out]; omega) (kk := sz) (by rw [← HSZ.out, ← HLE.out]; exact HKK.out), cellsU8_append]
          exact hown7
        have HL7 : Hid (L + sz = min n ((q + 1) * sz)) := by
          show _ = _
          have h1 := HKK.out
          have h2 := HLE.out
          rw [Nat.succ_mul]
          omega
        have hbg : Hid (bl ≠ gm) := by have := HV6.out.2; have := HB5.out.2.1; have := HB.out.2; have := HB3.out.2.1; show bl ≠ gm; omega
        clear hown7 hgrow7 hnil7 hbk hne HCELL
        go_wp2
        go_roundw
        case rel => exact ⟨q + 1, q1 + 1, L + sz, _, _, _, by go_num, rfl, by have := HQ1.out; omega, HL7, HO7, HV7, (fun b off l c e => by injection e with e1 _ _; injection e1 with e1; injection e1 with e2 _; rw [← e2]; exact hbg.out), HM7, HB7.out.1, HB7.out.2⟩
        case measure => have := HQ1.out; simp [intOf]; omega
    · have HLn : Hid (L = n ∧ n ≤ q * szOf h) := by have := HL.out; rw [← HSZ.out]; constructor <;> omega
      go_wp2
      go_ret2
      obtain ⟨hLn, hqn⟩ := HLn.out
      subst hLn
      exact ⟨_, rfl, q, hqn, owns_mono HO.out HB2.out.1.size, HB.out.1⟩
end Go.Proofs.YtioggmjocelolacDoor
