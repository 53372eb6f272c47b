import Derived.Test.YtioggmjocelolabDoorPart06
namespace Go.Proofs.YtioggmjocelolabDoor
open Go.RowKit
set_option linter.unusedVariables false
set_option linter.unusedSimpArgs false

set_option maxHeartbeats 400000 in
theorem known_any (h : Int) (w : World) (k : Known h) : Calls Tryd.prog 9 #[.int .i64 h] w fun e w' => e = .returned (.bool true) ∧ w' = w := by
  rcases k with rfl | rfl | rfl | rfl <;>
  · go_enter Tryd.func9, Tryd.ntmps9
    go_wp2
    go_ret
    exact ⟨rfl, rfl⟩
set_option maxHeartbeats 400000 in
theorem known_not (h : Int) (w : World) (k : ¬ Known h) : Calls Tryd.prog 9 #[.int .i64 h] w fun e w' => e = .returned (.bool false) ∧ w' = w := by
  have e1 : (h == 224) = false := by simp; exact fun e => k (.inl e)
  have e2 : (h == 256) = false := by simp; exact fun e => k (.inr (.inl e))
  have e3 : (h == 384) = false := by simp; exact fun e => k (.inr (.inr (.inl e)))
  have e4 : (h == 512) = false := by simp; exact fun e => k (.inr (.inr (.inr e)))
  go_enter Tryd.func9, Tryd.ntmps9
  go_wp2
  go_ret
  exact ⟨rfl, rfl⟩
set_option maxHeartbeats 400000 in
theorem num0 (w : World) : Calls Tryd.prog 11 #[.int .i64 0] w fun e w' => e = .returned (.int .i64 0) ∧ w' = w := by
  go_enter Tryd.func11, Tryd.ntmps11
  go_wp2
  go_ret
  exact ⟨rfl, rfl⟩
theorem quo8 {h : Int} (k : Known h) : h.tdiv 8 = (szOf h : Int) := by rcases k with rfl | rfl | rfl | rfl <;> rfl

set_option maxHeartbeats 6400000 in
set_option maxRecDepth 100000 in
theorem cuts_core (h z : Int) (ka ba : Option Addr) (kn kc bn bc cn cc : Nat) (ca : Option Addr) (key bs : List Int) (cz : Nat → Int) (w : World) (k : Hid (Known h)) (hkv : Hid (View w (.slice ka kn kc) key)) (hbv : Hid (View w (.slice ba bn bc) bs))
    (hcv : Hid (∀ i, i < cn → ∃ b p, ca = some ⟨b, p, none⟩ ∧ w.cell? ⟨b, p + i, none⟩ = some (.int .i64 (cz i)))) (hcn : Hid (cn ≤ cc ∧ cc ≤ maxLen)) (hT : Hid (Tables w)) (hb : (bn : Int) ≤ 65536) (hkn : (kn : Int) ≤ 65536) :
    Calls Tryd.prog 5 #[.agg #[.int .i64 h, .slice ka kn kc, .slice ba bn bc, .slice ca cn cc, .int .i64 z]] w fun e w' => e = .returned (.bool true) ∧ Below w.heap.size w w' := by
  have HBL : Hid (bs.length = bn) := (view_bounds hbv.out).1
  have HKL : Hid (key.length = kn) := (view_bounds hkv.out).1
  go_enter Tryd.func5, Tryd.ntmps5
  go_upto_region 7 with (first | (go_at_call 9; refine (known_any h _ k.out).mono ?_; rintro e1 w1 ⟨rfl, hw1⟩; obtain rfl := hw1.symm) | fail)
  have HB0 : Hid (Below w.heap.size w (w.alloc (.cells #[.int .i64 h, .slice ka kn kc, .slice ba bn bc, .slice ca cn cc, .int .i64 z] 36))) := below_alloc1 w _
  generalize w.alloc (.cells #[.int .i64 h, .slice ka kn kc, .slice ba bn bc, .slice ca cn cc, .int .i64 z] 36) = w0 at HB0 ⊢
  have HV0 : Hid (View w0 (.slice ba bn bc) bs ∧ Tables w0) := ⟨hbv.out.kept (fun q hq => HB0.out.block q hq), hT.out.below HB0.out hT.out.size⟩
  go_wp2_with (first | (go_at_call 17; refine (dsum1 k.out w0 _ _ bs HV0.out.1 HV0.out.2 (by have := HBL.out; omega)).mono ?_))
  rintro e1 w1 ⟨bw, rfl, hbw1, hbw2, hvw, hb1⟩
  have HB1 : Hid (Below w.heap.size w w1 ∧ w.heap.size ≤ bw ∧ bw < w1.heap.size ∧ View w1 (.slice (some ⟨bw, 0, none⟩) (szOf h) (szOf h)) (dig h bs)) := ⟨HB0.out.trans (hb1.mono HB0.out.size), Nat.le_trans HB0.out.size hbw1, hbw2, hvw⟩
  clear hbw1 hbw2 hvw hb1 HB0 HV0
  have HV1 : Hid (View w1 (.slice ba bn bc) bs ∧ View w1 (.slice ka kn kc) key ∧ Tables w1) := ⟨hbv.out.kept (fun q hq => HB1.out.1.block q hq), hkv.out.kept (fun q hq => HB1.out.1.block q hq), hT.out.below HB1.out.1 hT.out.size⟩
  go_wp2_with (first | (go_at_call 16; refine (dcode1 k.out w1 _ _ key _ bs HV1.out.2.1 (by have := HKL.out; omega) HV1.out.1 HV1.out.2.2 (by have := HBL.out; omega)).mono ?_))
  rintro e2 w2 ⟨bd, rfl, hbd1, hbd2, hvd, hb2⟩
  have HB2 : Hid (Below w.heap.size w w2 ∧ Below w1.heap.size w1 w2 ∧ w1.heap.size ≤ bd ∧ bd < w2.heap.size ∧ View w2 (.slice (some ⟨bd, 0, none⟩) (szOf h) (szOf h)) (hmac h key bs)) := ⟨HB1.out.1.trans (hb2.mono HB1.out.1.size), hb2, hbd1, hbd2, hvd⟩
  clear hbd1 hbd2 hvd hb2 HV1
  have HT2 : Hid (Tables w2) := hT.out.below HB2.out.1 hT.out.size
  go_wp2_with (first | (go_at_call 22; refine (new_good h w2 k HT2).mono ?_))
  rintro e3 w3 ⟨s0, rfl, hs3, hr3, hb3⟩
  have HB3 : Hid (Below w.heap.size w w3 ∧ Below w2.heap.size w2 w3 ∧ w2.heap.size ≤ s0 ∧ Rep w3 s0 0 h (wdOf h) (firstE h) 0 []) := ⟨HB2.out.1.trans (hb3.mono HB2.out.1.size), hb3, hs3, hr3⟩
  clear hs3 hr3 hb3
  obtain ⟨si, HSI⟩ : ∃ E : Eight, Hid (E = stateOf h key 54) := ⟨_, (show _ = _ from rfl)⟩
  obtain ⟨so, HSO⟩ : ∃ E : Eight, Hid (E = stateOf h key 92) := ⟨_, (show _ = _ from rfl)⟩
  have HN : Hid (Calls Tryd.prog 18 #[.int .i64 h, .slice ka kn kc] w3 fun e w' => ∃ g, e = .returned (.tuple #[.pointer (some ⟨g, 0, none⟩), .int .i64 0]) ∧ w3.heap.size ≤ g ∧ MRep w' g h si so [] ∧ Below w3.heap.size w3 w') := by
    show Calls _ _ _ _ _
    rw [HSI.out, HSO.out]
    exact newMac_any h _ key w3 k.out (hkv.out.kept (fun q hq => HB3.out.1.block q hq)) (by have := HKL.out; omega) (hT.out.below HB3.out.1 hT.out.size)
  go_wp2_with (first | (go_at_call 18; refine HN.out.mono ?_))
  rintro e4 w4 ⟨m0, rfl, hm4, hr4, hb4⟩
  have HRUN : Hid (Run w w4 w4 s0 m0 s0 m0 h si so [] []) := by
    have hlt := HB3.out.2.2.2.lt
    exact ⟨HB3.out.1.trans (hb4.mono HB3.out.1.size), Nat.le_refl _, fun _ _ _ _ => rfl, .inl rfl, .inl rfl, by omega, Nat.le_trans HB2.out.1.size HB3.out.2.2.1, Nat.le_trans HB3.out.1.size hm4, HB3.out.2.2.2.below hb4, hr4⟩
  have HWANT : Hid (View w4 (.slice (some ⟨bw, 0, none⟩) (szOf h) (szOf h)) (dig h bs) ∧ (bw ≠ s0 ∧ bw ≠ m0)) := by
    have q1 := HB1.out.2.2.1
    have q2 := HB2.out.2.1.size
    have q3 := HB3.out.2.1.size
    have q4 := HB3.out.2.2.1
    refine ⟨((HB1.out.2.2.2.kept (fun q hq => HB2.out.2.1.block q hq)).kept (fun q hq => HB3.out.2.1.block q hq)).kept (fun q hq => hb4.block q hq), by omega, by omega⟩
  have HCODE : Hid (View w4 (.slice (some ⟨bd, 0, none⟩) (szOf h) (szOf h)) (macL h si so bs) ∧ (bd ≠ s0 ∧ bd ≠ m0)) := by
    have q1 := HB2.out.2.2.2.1
    have q3 := HB3.out.2.1.size
    have q4 := HB3.out.2.2.1
    refine ⟨?_, by omega, by omega⟩
    rw [HSI.out, HSO.out]
    exact (HB2.out.2.2.2.2.kept (fun q hq => HB3.out.2.1.block q hq)).kept (fun q hq => hb4.block q hq)
  clear hm4 hr4 hb4 HN HB3 HB2 HB1 HT2
  have hq8 := quo8 k.out
  obtain ⟨sz, HSZ⟩ : ∃ sz : Nat, Hid (sz = szOf h) := ⟨_, (show _ = _ from rfl)⟩
  rw [← HSZ.out] at hq8 HWANT HCODE
  rw [← HSZ.out]
  have hsz : (sz : Int) ≤ 64 := by rw [HSZ.out]; have := szOf_le k.out; omega
  go_upto_region 14 with (first | (go_at_call 11; refine (num0 _).mono ?_; rintro e9 w9 ⟨rfl, hw9⟩; obtain rfl := hw9.symm; clear hw9) | fail)
  clear hq8
  go_wp2
  go_loopw [16, 15, 11, 13] (fun vi va vs vm wr => ∃ q t gs gm : Nat, q ≤ 60 ∧ vi = .int .i64 q ∧ va = .int .i64 t ∧ vs = .pointer (some ⟨gs, 0, none⟩) ∧ vm = .pointer (some ⟨gm, 0, none⟩) ∧ t ≤ bn ∧ Hid (Run w w4 wr s0 m0 gs gm h si so (bs.take t) (bs.take t))) (fun vi _ _ _ _ => 60 - (intOf vi).toNat)
  case atStart => exact ⟨0, 0, s0, m0, by omega, rfl, rfl, rfl, rfl, by omega, by show Run _ _ _ _ _ _ _ _ _ _ _ _; simpa using HRUN.out⟩
  case round =>
    obtain ⟨q, t, gs, gm, hq, rfl, rfl, rfl, rfl, ht, HR⟩ := hrel
    clear HRUN
    by_cases hlt : q < cn ∧ q < 60
    · obtain ⟨cb, cp, rfl, hcell⟩ := hcv.out q hlt.1
      have hq1 : (q : Int) < cn := by omega
      have hq2 : (q : Int) < 60 := by omega
      have hcr : wr.cell? ⟨cb, cp + q, none⟩ = some (.int .i64 (cz q)) := by rw [HR.out.bel.cell (p := ⟨cb, cp + q, none⟩) (lt_of_cell hcell)]; exact hcell
      obtain ⟨d, hd⟩ : ∃ d : Nat, bn = t + d := ⟨bn - t, by omega⟩
      have e0 : (bn : Int) - (t : Int) = (d : Int) := by omega
      have HCC : Hid ((cn : Int) ≤ 9223372036854775807) := by have := hcn.out; unfold maxLen at this; show _ ≤ _; omega
      have hcn' := HCC.out
      have HDD : Hid (bn = t + d) := hd
      clear hcell hd
      rcases (show (0 ≤ cz q ∧ cz q ≤ d) ∨ cz q < 0 ∨ (d : Int) < cz q by omega) with hA | hB | hC
      · obtain ⟨n, hnc⟩ : ∃ n : Nat, cz q = n := ⟨(cz q).toNat, by omega⟩
        rw [hnc] at hcr
        have hn : n ≤ d := by omega
        have e2 : (n : Int) ≤ (d : Int) := by omega
        clear hA hnc
        go_upto_region 20 with fail
        clear e2
        have hd := HDD.out
        obtain ⟨j, hj⟩ : ∃ j : Nat, j = t + n := ⟨_, rfl⟩
        have e1 : (t : Int) + (n : Int) = (j : Int) := by omega
        have e5 : (j : Int) ≤ 65536 := by omega
        have HJ : Hid (j = t + n ∧ j ≤ bn ∧ n ≤ d) := ⟨hj, by omega, hn⟩
        have hbb := view_bounds hbv.out
        obtain ⟨sv, HSV⟩ : ∃ sv : Value, Hid (sv = sliced ba t j bc 1) := ⟨_, (show _ = _ from rfl)⟩
        have hsl : (Instr.slice 22 (.slice ba bn bc) (some (.int .i64 t)) (some (.int .i64 j)) none).run Tryd.prog wr = .ok sv wr := by rw [HSV.out]; exact slice_lh wr ba bn bc t j (by omega) (by omega)
        obtain ⟨ys, HYS⟩ : ∃ ys : List Int, Hid (ys = (bs.drop t).take (j - t)) := ⟨_, (show _ = _ from rfl)⟩
        have HSVV : Hid (View wr sv ys) := by rw [HSV.out, HYS.out]; exact view_sliced (HR.out.arg hbv.out) t j (by omega) (by omega)
        have HYL : Hid (ys.length = n) := by show ys.length = n; rw [HYS.out]; simp; omega
        have HYT : Hid (bs.take t ++ ys = bs.take j) := by
          show _ = _
          rw [HYS.out, hj, show t + n - t = n by omega, List.take_add]
        have HTL : Hid ((bs.take t).length = t) := by show _ = _; simp; omega
        clear hbb hj hn hd
        go_wp2_with (first | (go_at_call 23; refine (copy_any sv ys wr (by rw [HYL.out]; have := HJ.out; have := HDD.out; omega) HSVV.out).mono ?_))
        rintro e5 w5 ⟨x, rfl, hmk, hb5⟩
        obtain ⟨gx, xc, rfl, hgx1, hgx2, hown⟩ := marked_owns hmk
        have HX : Hid (wr.heap.size ≤ gx ∧ gx < w5.heap.size ∧ w5.ownsRow wr.heap.size 5 1 (.slice (some ⟨gx, 0, none⟩) ys.length xc) ys.length (cellsU8 ys)) := ⟨hgx1, hgx2, hown⟩
        have HR5 : Hid (Run w w4 w5 s0 m0 gs gm h si so (bs.take t) (bs.take t)) := HR.out.below hb5
        have HXV : Hid (View w5 (.slice (some ⟨gx, 0, none⟩) ys.length xc) ys) := hmk.view
        have HNE : Hid (gx ≠ gs ∧ gx ≠ gm) := by have q1 := HR.out.sr.lt; have q2 := HR.out.mr.1.lt; exact ⟨by omega, by omega⟩
        have HXL : Hid ((ys.length : Int) = (n : Int)) := by show _ = _; rw [HYL.out]
        clear hmk hb5 hown hgx1 hgx2 hsl HSVV
        go_wp2_with (first | (go_at_call 24; refine (HR5.out.write2 k.out hT.out _ _ _ ys [] HXV.out (view_nil _) (fun _ b off l c e => by injection e with e1 _ _; injection e1 with e1; injection e1 with e2 _; have := HNE.out; omega) (fun h0 => absurd rfl h0) (by have := HJ.out; have := HTL.out; have := HYL.out; simp; omega)).mono ?_))
        rintro e6 w6 ⟨rfl, hr6, hk6⟩
        rw [List.append_nil, HYT.out] at hr6
        have HR6 : Hid (Run w w4 w6 s0 m0 gs gm h si so (bs.take j) (bs.take t)) := hr6
        have HX6 : Hid (gx < w6.heap.size ∧ w6.heap[gx]? = w5.heap[gx]? ∧ w5.heap.size ≤ w6.heap.size) := by
          have hbk := hk6 gx HX.out.2.1 HNE.out.1
          have hsome : gx < w6.heap.size := by
            have h1 : w5.heap[gx]?.isSome = true := by rw [Array.getElem?_eq_getElem HX.out.2.1]; rfl
            rw [← hbk] at h1
            by_cases hh : gx < w6.heap.size
            · exact hh
            · rw [Array.getElem?_eq_none (by omega)] at h1; cases h1
          refine ⟨hsome, hbk, ?_⟩
          by_cases hz : w5.heap.size = 0
          · omega
          · by_cases hl : w5.heap.size - 1 = gs
            · have := hr6.sr.lt; omega
            · have hb := hk6 (w5.heap.size - 1) (by omega) hl
              have h1 : w5.heap[w5.heap.size - 1]?.isSome = true := by rw [Array.getElem?_eq_getElem (by omega)]; rfl
              rw [← hb] at h1
              by_cases hh : w5.heap.size - 1 < w6.heap.size
              · omega
              · rw [Array.getElem?_eq_none (by omega)] at h1; cases h1
        have HXV6 : Hid (View w6 (.slice (some ⟨gx, 0, none⟩) ys.length xc) ys) := by
          obtain ⟨a', c', e', q1, q2, q3, q4⟩ := HXV.out
          refine ⟨a', c', e', q1, q2, q3, ?_⟩
          rcases q4 with q4 | ⟨b', off', ea, hc'⟩
          · exact .inl q4
          · refine .inr ⟨b', off', ea, fun i hi => ?_⟩
            rw [ea] at e'
            injection e' with e1' _ _
            injection e1' with e1'
            injection e1' with e2' e3'
            subst e2'
            rw [World.cell?_of_block HX6.out.2.1]
            exact hc' i hi
        clear hr6 hk6 HR5 HXV
        go_wp2_with (first | (go_at_call 11; refine (num0 _).mono ?_; rintro e9 w9 ⟨rfl, hw9⟩; obtain rfl := hw9.symm; clear hw9) | (go_at_call 19; refine (HR6.out.mwrite2 k.out hT.out _ _ _ [] ys (view_nil _) HXV6.out (fun h0 => absurd rfl h0) (fun _ b off l c e => by injection e with e1 _ _; injection e1 with e1; injection e1 with e2 _; have := HNE.out; omega) (by have := HJ.out; have := HTL.out; have := HYL.out; simp; omega)).mono ?_))
        rintro e7 w7 ⟨rfl, hr7, hk7⟩
        rw [List.nil_append, HYT.out] at hr7
        have HR7 : Hid (Run w w4 w7 s0 m0 gs gm h si so (bs.take j) (bs.take j)) := hr7
        have HO7 : Hid (w7.ownsRow wr.heap.size 5 1 (.slice (some ⟨gx, 0, none⟩) ys.length xc) ys.length (cellsU8 ys)) := by
          have hbk := (hk7 gx HX6.out.1 HNE.out.2).trans HX6.out.2.1
          obtain ⟨o1, o2⟩ := HX.out.2.2
          refine ⟨o1, ?_⟩
          rcases o2 with o2 | ⟨g', c', cur, he, p1, p2, p3⟩
          · exact .inl o2
          · refine .inr ⟨g', c', cur, he, p1, ?_, p3⟩
            injection he with e1' _ _
            injection e1' with e1'
            injection e1' with e2' _
            subst e2'
            rw [hbk]
            exact p2
        have HB7 : Hid (wr.heap.size ≤ w7.heap.size) := by
          rcases HO7.out.2 with o2 | ⟨g', c', cur, he, p1, p2, p3⟩
          · cases o2.1
          · have := (Array.getElem?_eq_some_iff.1 p2).1; show _ ≤ _; omega
        clear hr7 hk7 HR6 HXV6
        go_wp2_with (first | (go_at_call 11; refine (num0 _).mono ?_; rintro e9 w9 ⟨rfl, hw9⟩; obtain rfl := hw9.symm; clear hw9) | (go_at_call 25; refine (spoil_any wr.heap.size ys.length _ ys w7 (by rw [HYL.out]; have := HJ.out; omega) HB7.out HO7.out).mono ?_))
        rintro e8 w8 ⟨rfl, hg8⟩
        have HR8 : Hid (Run w w4 w8 s0 m0 gs gm h si so (bs.take j) (bs.take j)) := HR7.out.grown hg8 (Nat.le_trans HR.out.size HX.out.1) (Nat.le_trans HR.out.bel.size HX.out.1) HNE.out.1 HNE.out.2
        clear hg8 HR7 HO7 HB7 HX6 HX
        have hbb := view_bounds hbv.out
        obtain ⟨a2, l2, c2, HSV2⟩ : ∃ a2 l2 c2, Hid (Value.slice a2 l2 c2 = sliced ba 0 j bc 1) := ⟨_, _, _, (show _ = _ from rfl)⟩
        have hsl2 : (Instr.slice 22 (.slice ba bn bc) none (some (.int .i64 j)) none).run Tryd.prog w8 = .ok (.slice a2 l2 c2) w8 := by rw [HSV2.out]; exact slice_h w8 ba bn bc j (by have := HJ.out; omega)
        have HSVV2 : Hid (View w8 (.slice a2 l2 c2) (bs.take j)) := by
          have := view_sliced (HR8.out.arg hbv.out) 0 j (by omega) (by have := HJ.out; omega)
          rw [List.drop_zero, Nat.sub_zero, ← HSV2.out] at this
          exact this
        have HTJ : Hid ((bs.take j).length = j) := by show _ = _; have := HJ.out; simp; omega
        clear hbb
        go_wp2_with (first | (go_at_call 17; refine (dsum1 k.out w8 _ _ (bs.take j) HSVV2.out (HR8.out.tables hT.out) (by rw [HTJ.out]; omega)).mono ?_))
        rintro e9 w9 ⟨bp, rfl, hbp1, hbp2, hvp, hb9⟩
        have HR9 : Hid (Run w w4 w9 s0 m0 gs gm h si so (bs.take j) (bs.take j)) := HR8.out.below hb9
        have HVP : Hid (View w9 (.slice (some ⟨bp, 0, none⟩) (szOf h) (szOf h)) (dig h (bs.take j))) := hvp
        clear hbp1 hbp2 hvp hb9 hsl2 HSVV2 HR8
        go_wp2_with (first | (go_at_call 26; refine (HR9.out.sum k.out hT.out (by rw [HTJ.out]; omega)).mono ?_))
        rintro e10 w10 ⟨bq, rfl, hvq, hr10, hb10⟩
        have HS10 : Hid (Calls Tryd.prog 12 #[.slice (some ⟨bq, 0, none⟩) (szOf h) (szOf h), .slice (some ⟨bp, 0, none⟩) (szOf h) (szOf h)] w10 fun e w' => e = .returned (.bool true) ∧ Sm w10 w') := same_yes _ _ _ w10 hvq (HVP.out.kept (fun q hq => hb10.block q hq))
        have HR10 : Hid (Run w w4 w10 s0 m0 gs gm h si so (bs.take j) (bs.take j)) := hr10
        clear hvq hr10 hb10 HR9 HVP
        go_wp2_with (first | (go_at_call 12; refine HS10.out.mono ?_))
        rintro e11 w11 ⟨rfl, hsm11⟩
        have HR11 : Hid (Run w w4 w11 s0 m0 gs gm h si so (bs.take j) (bs.take j)) := HR10.out.sm hsm11
        have hcf : w11.cell? ⟨gs, 0 + 138, none⟩ = some (.int .u64 j) := by
          obtain ⟨half, hk, _, _⟩ := HR11.out.sr
          have := hk.fed
          rw [HTJ.out, show (0 + j : Nat) = j from Nat.zero_add j] at this
          exact this
        have HCNT : Hid (Calls Tryd.prog 27 #[.pointer (some ⟨gs, 0, none⟩)] w11 fun e w' => e = .returned (.int .u64 j) ∧ w' = w11) := scount gs j w11 hcf
        clear hsm11 HS10 HR10 hcf
        have hwj : IntKind.u64.wrap (j : Int) = (j : Int) := by simp [IntKind.wrap, IntKind.bits, IntKind.signed]; omega
        go_upto_region 28 with (first | (go_at_call 27; refine HCNT.out.mono ?_; rintro e12 w12 ⟨rfl, hw12⟩; obtain rfl := hw12.symm; clear hw12) | fail)
        clear HCNT hwj
        rcases (show q % 3 = 0 ∨ q % 3 = 1 ∨ q % 3 = 2 by omega) with h3 | h3 | h3
        · have e6 : (q : Int).tmod 3 = 0 := by rw [Int.tmod_eq_emod_of_nonneg (by omega)]; omega
          have e7 : (q : Int) % 3 = 0 := by omega
          clear h3
          go_wp2
          go_roundw
          case rel => exact ⟨q + 1, j, gs, gm, by omega, by go_num, rfl, rfl, rfl, HJ.out.2.1, HR11⟩
          case measure => simp [intOf]; omega
        · have e6 : (q : Int).tmod 3 = 1 := by rw [Int.tmod_eq_emod_of_nonneg (by omega)]; omega
          have e7 : (q : Int) % 3 = 1 := by omega
          clear h3
          go_wp2_with (first | (go_at_call 28; refine HR11.out.copyS.mono ?_))
          rintro e13 w13 ⟨g13, rfl, hr13⟩
          have HR13 : Hid (Run w w4 w13 s0 m0 g13 gm h si so (bs.take j) (bs.take j)) := hr13
          clear hr13
          go_wp2_with (first | (go_at_call 29; refine HR13.out.copyM.mono ?_))
          rintro e14 w14 ⟨g14, rfl, hr14⟩
          have HR14 : Hid (Run w w4 w14 s0 m0 g13 g14 h si so (bs.take j) (bs.take j)) := hr14
          clear hr14
          go_wp2
          go_roundw
          case rel => exact ⟨q + 1, j, g13, g14, by omega, by go_num, rfl, rfl, rfl, HJ.out.2.1, HR14⟩
          case measure => simp [intOf]; omega
        · have e6 : (q : Int).tmod 3 = 2 := by rw [Int.tmod_eq_emod_of_nonneg (by omega)]; omega
          have e7 : (q : Int) % 3 = 2 := by omega
          clear h3
          go_wp2
          go_roundw
          case rel => exact ⟨q + 1, j, gs, gm, by omega, by go_num, rfl, rfl, rfl, HJ.out.2.1, HR11⟩
          case measure => simp [intOf]; omega
      · obtain ⟨n, hnc⟩ : ∃ n : Nat, n = d / 2 := ⟨_, rfl⟩
        have hn : n ≤ d := by omega
        have e2 : (d : Int).tdiv 2 = (n : Int) := by rw [Int.tdiv_eq_ediv_of_nonneg (by omega)]; omega
        have e3 : (d : Int) / 2 = (n : Int) := by omega
        clear hnc
        go_upto_region 20 with fail
        clear e2 e3
        have hd := HDD.out
        obtain ⟨j, hj⟩ : ∃ j : Nat, j = t + n := ⟨_, rfl⟩
        have e1 : (t : Int) + (n : Int) = (j : Int) := by omega
        have e5 : (j : Int) ≤ 65536 := by omega
        have HJ : Hid (j = t + n ∧ j ≤ bn ∧ n ≤ d) := ⟨hj, by omega, hn⟩
        have hbb := view_bounds hbv.out
        obtain ⟨sv, HSV⟩ : ∃ sv : Value, Hid (sv = sliced ba t j bc 1) := ⟨_, (show _ = _ from rfl)⟩
        have hsl : (Instr.slice 22 (.slice ba bn bc) (some (.int .i64 t)) (some (.int .i64 j)) none).run Tryd.prog wr = .ok sv wr := by rw [HSV.out]; exact slice_lh wr ba bn bc t j (by omega) (by omega)
        obtain ⟨ys, HYS⟩ : ∃ ys : List Int, Hid (ys = (bs.drop t).take (j - t)) := ⟨_, (show _ = _ from rfl)⟩
        have HSVV : Hid (View wr sv ys) := by rw [HSV.out, HYS.out]; exact view_sliced (HR.out.arg hbv.out) t j (by omega) (by omega)
        have HYL : Hid (ys.length = n) := by show ys.length = n; rw [HYS.out]; simp; omega
        have HYT : Hid (bs.take t ++ ys = bs.take j) := by
          show _ = _
          rw [HYS.out, hj, show t + n - t = n by omega, List.take_add]
        have HTL : Hid ((bs.take t).length = t) := by show _ = _; simp; omega
        clear hbb hj hn hd
        go_wp2_with (first | (go_at_call 23; refine (copy_any sv ys wr (by rw [HYL.out]; have := HJ.out; have := HDD.out; omega) HSVV.out).mono ?_))
        rintro e5 w5 ⟨x, rfl, hmk, hb5⟩
        obtain ⟨gx, xc, rfl, hgx1, hgx2, hown⟩ := marked_owns hmk
        have HX : Hid (wr.heap.size ≤ gx ∧ gx < w5.heap.size ∧ w5.ownsRow wr.heap.size 5 1 (.slice (some ⟨gx, 0, none⟩) ys.length xc) ys.length (cellsU8 ys)) := ⟨hgx1, hgx2, hown⟩
        have HR5 : Hid (Run w w4 w5 s0 m0 gs gm h si so (bs.take t) (bs.take t)) := HR.out.below hb5
        have HXV : Hid (View w5 (.slice (some ⟨gx, 0, none⟩) ys.length xc) ys) := hmk.view
        have HNE : Hid (gx ≠ gs ∧ gx ≠ gm) := by have q1 := HR.out.sr.lt; have q2 := HR.out.mr.1.lt; exact ⟨by omega, by omega⟩
        have HXL : Hid ((ys.length : Int) = (n : Int)) := by show _ = _; rw [HYL.out]
        clear hmk hb5 hown hgx1 hgx2 hsl HSVV
        go_wp2_with (first | (go_at_call 24; refine (HR5.out.write2 k.out hT.out _ _ _ ys [] HXV.out (view_nil _) (fun _ b off l c e => by injection e with e1 _ _; injection e1 with e1; injection e1 with e2 _; have := HNE.out; omega) (fun h0 => absurd rfl h0) (by have := HJ.out; have := HTL.out; have := HYL.out; simp; omega)).mono ?_))
        rintro e6 w6 ⟨rfl, hr6, hk6⟩
        rw [List.append_nil, HYT.out] at hr6
        have HR6 : Hid (Run w w4 w6 s0 m0 gs gm h si so (bs.take j) (bs.take t)) := hr6
        have HX6 : Hid (gx < w6.heap.size ∧ w6.heap[gx]? = w5.heap[gx]? ∧ w5.heap.size ≤ w6.heap.size) := by
          have hbk := hk6 gx HX.out.2.1 HNE.out.1
          have hsome : gx < w6.heap.size := by
            have h1 : w5.heap[gx]?.isSome = true := by rw [Array.getElem?_eq_getElem HX.out.2.1]; rfl
            rw [← hbk] at h1
            by_cases hh : gx < w6.heap.size
            · exact hh
            · rw [Array.getElem?_eq_none (by omega)] at h1; cases h1
          refine ⟨hsome, hbk, ?_⟩
          by_cases hz : w5.heap.size = 0
          · omega
          · by_cases hl : w5.heap.size - 1 = gs
            · have := hr6.sr.lt; omega
            · have hb := hk6 (w5.heap.size - 1) (by omega) hl
              have h1 : w5.heap[w5.heap.size - 1]?.isSome = true := by rw [Array.getElem?_eq_getElem (by omega)]; rfl
              rw [← hb] at h1
              by_cases hh : w5.heap.size - 1 < w6.heap.size
              · omega
              · rw [Array.getElem?_eq_none (by omega)] at h1; cases h1
        have HXV6 : Hid (View w6 (.slice (some ⟨gx, 0, none⟩) ys.length xc) ys) := by
          obtain ⟨a', c', e', q1, q2, q3, q4⟩ := HXV.out
          refine ⟨a', c', e', q1, q2, q3, ?_⟩
          rcases q4 with q4 | ⟨b', off', ea, hc'⟩
          · exact .inl q4
          · refine .inr ⟨b', off', ea, fun i hi => ?_⟩
            rw [ea] at e'
            injection e' with e1' _ _
            injection e1' with e1'
            injection e1' with e2' e3'
            subst e2'
            rw [World.cell?_of_block HX6.out.2.1]
            exact hc' i hi
        clear hr6 hk6 HR5 HXV
        go_wp2_with (first | (go_at_call 11; refine (num0 _).mono ?_; rintro e9 w9 ⟨rfl, hw9⟩; obtain rfl := hw9.symm; clear hw9) | (go_at_call 19; refine (HR6.out.mwrite2 k.out hT.out _ _ _ [] ys (view_nil _) HXV6.out (fun h0 => absurd rfl h0) (fun _ b off l c e => by injection e with e1 _ _; injection e1 with e1; injection e1 with e2 _; have := HNE.out; omega) (by have := HJ.out; have := HTL.out; have := HYL.out; simp; omega)).mono ?_))
        rintro e7 w7 ⟨rfl, hr7, hk7⟩
        rw [List.nil_append, HYT.out] at hr7
        have HR7 : Hid (Run w w4 w7 s0 m0 gs gm h si so (bs.take j) (bs.take j)) := hr7
        have HO7 : Hid (w7.ownsRow wr.heap.size 5 1 (.slice (some ⟨gx, 0, none⟩) ys.length xc) ys.length (cellsU8 ys)) := by
          have hbk := (hk7 gx HX6.out.1 HNE.out.2).trans HX6.out.2.1
          obtain ⟨o1, o2⟩ := HX.out.2.2
          refine ⟨o1, ?_⟩
          rcases o2 with o2 | ⟨g', c', cur, he, p1, p2, p3⟩
          · exact .inl o2
          · refine .inr ⟨g', c', cur, he, p1, ?_, p3⟩
            injection he with e1' _ _
            injection e1' with e1'
            injection e1' with e2' _
            subst e2'
            rw [hbk]
            exact p2
        have HB7 : Hid (wr.heap.size ≤ w7.heap.size) := by
          rcases HO7.out.2 with o2 | ⟨g', c', cur, he, p1, p2, p3⟩
          · cases o2.1
          · have := (Array.getElem?_eq_some_iff.1 p2).1; show _ ≤ _; omega
        clear hr7 hk7 HR6 HXV6
        go_wp2_with (first | (go_at_call 11; refine (num0 _).mono ?_; rintro e9 w9 ⟨rfl, hw9⟩; obtain rfl := hw9.symm; clear hw9) | (go_at_call 25; refine (spoil_any wr.heap.size ys.length _ ys w7 (by rw [HYL.out]; have := HJ.out; omega) HB7.out HO7.out).mono ?_))
        rintro e8 w8 ⟨rfl, hg8⟩
        have HR8 : Hid (Run w w4 w8 s0 m0 gs gm h si so (bs.take j) (bs.take j)) := HR7.out.grown hg8 (Nat.le_trans HR.out.size HX.out.1) (Nat.le_trans HR.out.bel.size HX.out.1) HNE.out.1 HNE.out.2
        clear hg8 HR7 HO7 HB7 HX6 HX
        have hbb := view_bounds hbv.out
        obtain ⟨a2, l2, c2, HSV2⟩ : ∃ a2 l2 c2, Hid (Value.slice a2 l2 c2 = sliced ba 0 j bc 1) := ⟨_, _, _, (show _ = _ from rfl)⟩
        have hsl2 : (Instr.slice 22 (.slice ba bn bc) none (some (.int .i64 j)) none).run Tryd.prog w8 = .ok (.slice a2 l2 c2) w8 := by rw [HSV2.out]; exact slice_h w8 ba bn bc j (by have := HJ.out; omega)
        have HSVV2 : Hid (View w8 (.slice a2 l2 c2) (bs.take j)) := by
          have := view_sliced (HR8.out.arg hbv.out) 0 j (by omega) (by have := HJ.out; omega)
          rw [List.drop_zero, Nat.sub_zero, ← HSV2.out] at this
          exact this
        have HTJ : Hid ((bs.take j).length = j) := by show _ = _; have := HJ.out; simp; omega
        clear hbb
        go_wp2_with (first | (go_at_call 17; refine (dsum1 k.out w8 _ _ (bs.take j) HSVV2.out (HR8.out.tables hT.out) (by rw [HTJ.out]; omega)).mono ?_))
        rintro e9 w9 ⟨bp, rfl, hbp1, hbp2, hvp, hb9⟩
        have HR9 : Hid (Run w w4 w9 s0 m0 gs gm h si so (bs.take j) (bs.take j)) := HR8.out.below hb9
        have HVP : Hid (View w9 (.slice (some ⟨bp, 0, none⟩) (szOf h) (szOf h)) (dig h (bs.take j))) := hvp
        clear hbp1 hbp2 hvp hb9 hsl2 HSVV2 HR8
        go_wp2_with (first | (go_at_call 26; refine (HR9.out.sum k.out hT.out (by rw [HTJ.out]; omega)).mono ?_))
        rintro e10 w10 ⟨bq, rfl, hvq, hr10, hb10⟩
        have HS10 : Hid (Calls Tryd.prog 12 #[.slice (some ⟨bq, 0, none⟩) (szOf h) (szOf h), .slice (some ⟨bp, 0, none⟩) (szOf h) (szOf h)] w10 fun e w' => e = .returned (.bool true) ∧ Sm w10 w') := same_yes _ _ _ w10 hvq (HVP.out.kept (fun q hq => hb10.block q hq))
        have HR10 : Hid (Run w w4 w10 s0 m0 gs gm h si so (bs.take j) (bs.take j)) := hr10
        clear hvq hr10 hb10 HR9 HVP
        go_wp2_with (first | (go_at_call 12; refine HS10.out.mono ?_))
        rintro e11 w11 ⟨rfl, hsm11⟩
        have HR11 : Hid (Run w w4 w11 s0 m0 gs gm h si so (bs.take j) (bs.take j)) := HR10.out.sm hsm11
        have hcf : w11.cell? ⟨gs, 0 + 138, none⟩ = some (.int .u64 j) := by
          obtain ⟨half, hk, _, _⟩ := HR11.out.sr
          have := hk.fed
          rw [HTJ.out, show (0 + j : Nat) = j from Nat.zero_add j] at this
          exact this
        have HCNT : Hid (Calls Tryd.prog 27 #[.pointer (some ⟨gs, 0, none⟩)] w11 fun e w' => e = .returned (.int .u64 j) ∧ w' = w11) := scount gs j w11 hcf
        clear hsm11 HS10 HR10 hcf
        have hwj : IntKind.u64.wrap (j : Int) = (j : Int) := by simp [IntKind.wrap, IntKind.bits, IntKind.signed]; omega
        go_upto_region 28 with (first | (go_at_call 27; refine HCNT.out.mono ?_; rintro e12 w12 ⟨rfl, hw12⟩; obtain rfl := hw12.symm; clear hw12) | fail)
        clear HCNT hwj
        rcases (show q % 3 = 0 ∨ q % 3 = 1 ∨ q % 3 = 2 by omega) with h3 | h3 | h3
        · have e6 : (q : Int).tmod 3 = 0 := by rw [Int.tmod_eq_emod_of_nonneg (by omega)]; omega
          have e7 : (q : Int) % 3 = 0 := by omega
          clear h3
          go_wp2
          go_roundw
          case rel => exact ⟨q + 1, j, gs, gm, by omega, by go_num, rfl, rfl, rfl, HJ.out.2.1, HR11⟩
          case measure => simp [intOf]; omega
        · have e6 : (q : Int).tmod 3 = 1 := by rw [Int.tmod_eq_emod_of_nonneg (by omega)]; omega
          have e7 : (q : Int) % 3 = 1 := by omega
          clear h3
          go_wp2_with (first | (go_at_call 28; refine HR11.out.copyS.mono ?_))
          rintro e13 w13 ⟨g13, rfl, hr13⟩
          have HR13 : Hid (Run w w4 w13 s0 m0 g13 gm h si so (bs.take j) (bs.take j)) := hr13
          clear hr13
          go_wp2_with (first | (go_at_call 29; refine HR13.out.copyM.mono ?_))
          rintro e14 w14 ⟨g14, rfl, hr14⟩
          have HR14 : Hid (Run w w4 w14 s0 m0 g13 g14 h si so (bs.take j) (bs.take j)) := hr14
          clear hr14
          go_wp2
          go_roundw
          case rel => exact ⟨q + 1, j, g13, g14, by omega, by go_num, rfl, rfl, rfl, HJ.out.2.1, HR14⟩
          case measure => simp [intOf]; omega
        · have e6 : (q : Int).tmod 3 = 2 := by rw [Int.tmod_eq_emod_of_nonneg (by omega)]; omega
          have e7 : (q : Int) % 3 = 2 := by omega
          clear h3
          go_wp2
          go_roundw
          case rel => exact ⟨q + 1, j, gs, gm, by omega, by go_num, rfl, rfl, rfl, HJ.out.2.1, HR11⟩
          case measure => simp [intOf]; omega
      · obtain ⟨n, hnc⟩ : ∃ n : Nat, n = d / 2 := ⟨_, rfl⟩
        have hn : n ≤ d := by omega
        have e2 : (d : Int).tdiv 2 = (n : Int) := by rw [Int.tdiv_eq_ediv_of_nonneg (by omega)]; omega
        have e3 : (d : Int) / 2 = (n : Int) := by omega
        have e4 : ¬ (cz q < 0) := by omega
        clear hnc
        go_upto_region 20 with fail
        clear e2 e3 e4
        have hd := HDD.out
        obtain ⟨j, hj⟩ : ∃ j : Nat, j = t + n := ⟨_, rfl⟩
        have e1 : (t : Int) + (n : Int) = (j : Int) := by omega
        have e5 : (j : Int) ≤ 65536 := by omega
        have HJ : Hid (j = t + n ∧ j ≤ bn ∧ n ≤ d) := ⟨hj, by omega, hn⟩
        have hbb := view_bounds hbv.out
        obtain ⟨sv, HSV⟩ : ∃ sv : Value, Hid (sv = sliced ba t j bc 1) := ⟨_, (show _ = _ from rfl)⟩
        have hsl : (Instr.slice 22 (.slice ba bn bc) (some (.int .i64 t)) (some (.int .i64 j)) none).run Tryd.prog wr = .ok sv wr := by rw [HSV.out]; exact slice_lh wr ba bn bc t j (by omega) (by omega)
        obtain ⟨ys, HYS⟩ : ∃ ys : List Int, Hid (ys = (bs.drop t).take (j - t)) := ⟨_, (show _ = _ from rfl)⟩
        have HSVV : Hid (View wr sv ys) := by rw [HSV.out, HYS.out]; exact view_sliced (HR.out.arg hbv.out) t j (by omega) (by omega)
        have HYL : Hid (ys.length = n) := by show ys.length = n; rw [HYS.out]; simp; omega
        have HYT : Hid (bs.take t ++ ys = bs.take j) := by
          show _ = _
          rw [HYS.out, hj, show t + n - t = n by omega, List.take_add]
        have HTL : Hid ((bs.take t).length = t) := by show _ = _; simp; omega
        clear hbb hj hn hd
        go_wp2_with (first | (go_at_call 23; refine (copy_any sv ys wr (by rw [HYL.out]; have := HJ.out; have := HDD.out; omega) HSVV.out).mono ?_))
        rintro e5 w5 ⟨x, rfl, hmk, hb5⟩
        obtain ⟨gx, xc, rfl, hgx1, hgx2, hown⟩ := marked_owns hmk
        have HX : Hid (wr.heap.size ≤ gx ∧ gx < w5.heap.size ∧ w5.ownsRow wr.heap.size 5 1 (.slice (some ⟨gx, 0, none⟩) ys.length xc) ys.length (cellsU8 ys)) := ⟨hgx1, hgx2, hown⟩
        have HR5 : Hid (Run w w4 w5 s0 m0 gs gm h si so (bs.take t) (bs.take t)) := HR.out.below hb5
        have HXV : Hid (View w5 (.slice (some ⟨gx, 0, none⟩) ys.length xc) ys) := hmk.view
        have HNE : Hid (gx ≠ gs ∧ gx ≠ gm) := by have q1 := HR.out.sr.lt; have q2 := HR.out.mr.1.lt; exact ⟨by omega, by omega⟩
        have HXL : Hid ((ys.length : Int) = (n : Int)) := by show _ = _; rw [HYL.out]
        clear hmk hb5 hown hgx1 hgx2 hsl HSVV
        go_wp2_with (first | (go_at_call 24; refine (HR5.out.write2 k.out hT.out _ _ _ ys [] HXV.out (view_nil _) (fun _ b off l c e => by injection e with e1 _ _; injection e1 with e1; injection e1 with e2 _; have := HNE.out; omega) (fun h0 => absurd rfl h0) (by have := HJ.out; have := HTL.out; have := HYL.out; simp; omega)).mono ?_))
        rintro e6 w6 ⟨rfl, hr6, hk6⟩
        rw [List.append_nil, HYT.out] at hr6
        have HR6 : Hid (Run w w4 w6 s0 m0 gs gm h si so (bs.take j) (bs.take t)) := hr6
        have HX6 : Hid (gx < w6.heap.size ∧ w6.heap[gx]? = w5.heap[gx]? ∧ w5.heap.size ≤ w6.heap.size) := by
          have hbk := hk6 gx HX.out.2.1 HNE.out.1
          have hsome : gx < w6.heap.size := by
            have h1 : w5.heap[gx]?.isSome = true := by rw [Array.getElem?_eq_getElem HX.out.2.1]; rfl
            rw [← hbk] at h1
            by_cases hh : gx < w6.heap.size
            · exact hh
            · rw [Array.getElem?_eq_none (by omega)] at h1; cases h1
          refine ⟨hsome, hbk, ?_⟩
          by_cases hz : w5.heap.size = 0
          · omega
          · by_cases hl : w5.heap.size - 1 = gs
            · have := hr6.sr.lt; omega
            · have hb := hk6 (w5.heap.size - 1) (by omega) hl
              have h1 : w5.heap[w5.heap.size - 1]?.isSome = true := by rw [Array.getElem?_eq_getElem (by omega)]; rfl
              rw [← hb] at h1
              by_cases hh : w5.heap.size - 1 < w6.heap.size
              · omega
              · rw [Array.getElem?_eq_none (by omega)] at h1; cases h1
        have HXV6 : Hid (View w6 (.slice (some ⟨gx, 0, none⟩) ys.length xc) ys) := by
          obtain ⟨a', c', e', q1, q2, q3, q4⟩ := HXV.out
          refine ⟨a', c', e', q1, q2, q3, ?_⟩
          rcases q4 with q4 | ⟨b', off', ea, hc'⟩
          · exact .inl q4
          · refine .inr ⟨b', off', ea, fun i hi => ?_⟩
            rw [ea] at e'
            injection e' with e1' _ _
            injection e1' with e1'
            injection e1' with e2' e3'
            subst e2'
            rw [World.cell?_of_block HX6.out.2.1]
            exact hc' i hi
        clear hr6 hk6 HR5 HXV
        go_wp2_with (first | (go_at_call 11; refine (num0 _).mono ?_; rintro e9 w9 ⟨rfl, hw9⟩; obtain rfl := hw9.symm; clear hw9) | (go_at_call 19; refine (HR6.out.mwrite2 k.out hT.out _ _ _ [] ys (view_nil _) HXV6.out (fun h0 => absurd rfl h0) (fun _ b off l c e => by injection e with e1 _ _; injection e1 with e1; injection e1 with e2 _; have := HNE.out; omega) (by have := HJ.out; have := HTL.out; have := HYL.out; simp; omega)).mono ?_))
        rintro e7 w7 ⟨rfl, hr7, hk7⟩
        rw [List.nil_append, HYT.out] at hr7
        have HR7 : Hid (Run w w4 w7 s0 m0 gs gm h si so (bs.take j) (bs.take j)) := hr7
        have HO7 : Hid (w7.ownsRow wr.heap.size 5 1 (.slice (some ⟨gx, 0, none⟩) ys.length xc) ys.length (cellsU8 ys)) := by
          have hbk := (hk7 gx HX6.out.1 HNE.out.2).trans HX6.out.2.1
          obtain ⟨o1, o2⟩ := HX.out.2.2
          refine ⟨o1, ?_⟩
          rcases o2 with o2 | ⟨g', c', cur, he, p1, p2, p3⟩
          · exact .inl o2
          · refine .inr ⟨g', c', cur, he, p1, ?_, p3⟩
            injection he with e1' _ _
            injection e1' with e1'
            injection e1' with e2' _
            subst e2'
            rw [hbk]
            exact p2
        have HB7 : Hid (wr.heap.size ≤ w7.heap.size) := by
          rcases HO7.out.2 with o2 | ⟨g', c', cur, he, p1, p2, p3⟩
          · cases o2.1
          · have := (Array.getElem?_eq_some_iff.1 p2).1; show _ ≤ _; omega
        clear hr7 hk7 HR6 HXV6
        go_wp2_with (first | (go_at_call 11; refine (num0 _).mono ?_; rintro e9 w9 ⟨rfl, hw9⟩; obtain rfl := hw9.symm; clear hw9) | (go_at_call 25; refine (spoil_any wr.heap.size ys.length _ ys w7 (by rw [HYL.out]; have := HJ.out; omega) HB7.out HO7.out).mono ?_))
        rintro e8 w8 ⟨rfl, hg8⟩
        have HR8 : Hid (Run w w4 w8 s0 m0 gs gm h si so (bs.take j) (bs.take j)) := HR7.out.grown hg8 (Nat.le_trans HR.out.size HX.out.1) (Nat.le_trans HR.out.bel.size HX.out.1) HNE.out.1 HNE.out.2
        clear hg8 HR7 HO7 HB7 HX6 HX
        have hbb := view_bounds hbv.out
        obtain ⟨a2, l2, c2, HSV2⟩ : ∃ a2 l2 c2, Hid (Value.slice a2 l2 c2 = sliced ba 0 j bc 1) := ⟨_, _, _, (show _ = _ from rfl)⟩
        have hsl2 : (Instr.slice 22 (.slice ba bn bc) none (some (.int .i64 j)) none).run Tryd.prog w8 = .ok (.slice a2 l2 c2) w8 := by rw [HSV2.out]; exact slice_h w8 ba bn bc j (by have := HJ.out; omega)
        have HSVV2 : Hid (View w8 (.slice a2 l2 c2) (bs.take j)) := by
          have := view_sliced (HR8.out.arg hbv.out) 0 j (by omega) (by have := HJ.out; omega)
          rw [List.drop_zero, Nat.sub_zero, ← HSV2.out] at this
          exact this
        have HTJ : Hid ((bs.take j).length = j) := by show _ = _; have := HJ.out; simp; omega
        clear hbb
        go_wp2_with (first | (go_at_call 17; refine (dsum1 k.out w8 _ _ (bs.take j) HSVV2.out (HR8.out.tables hT.out) (by rw [HTJ.out]; omega)).mono ?_))
        rintro e9 w9 ⟨bp, rfl, hbp1, hbp2, hvp, hb9⟩
        have HR9 : Hid (Run w w4 w9 s0 m0 gs gm h si so (bs.take j) (bs.take j)) := HR8.out.below hb9
        have HVP : Hid (View w9 (.slice (some ⟨bp, 0, none⟩) (szOf h) (szOf h)) (dig h (bs.take j))) := hvp
        clear hbp1 hbp2 hvp hb9 hsl2 HSVV2 HR8
        go_wp2_with (first | (go_at_call 26; refine (HR9.out.sum k.out hT.out (by rw [HTJ.out]; omega)).mono ?_))
        rintro e10 w10 ⟨bq, rfl, hvq, hr10, hb10⟩
        have HS10 : Hid (Calls Tryd.prog 12 #[.slice (some ⟨bq, 0, none⟩) (szOf h) (szOf h), .slice (some ⟨bp, 0, none⟩) (szOf h) (szOf h)] w10 fun e w' => e = .returned (.bool true) ∧ Sm w10 w') := same_yes _ _ _ w10 hvq (HVP.out.kept (fun q hq => hb10.block q hq))
        have HR10 : Hid (Run w w4 w10 s0 m0 gs gm h si so (bs.take j) (bs.take j)) := hr10
        clear hvq hr10 hb10 HR9 HVP
        go_wp2_with (first | (go_at_call 12; refine HS10.out.mono ?_))
        rintro e11 w11 ⟨rfl, hsm11⟩
        have HR11 : Hid (Run w w4 w11 s0 m0 gs gm h si so (bs.take j) (bs.take j)) := HR10.out.sm hsm11
        have hcf : w11.cell? ⟨gs, 0 + 138, none⟩ = some (.int .u64 j) := by
          obtain ⟨half, hk, _, _⟩ := HR11.out.sr
          have := hk.fed
          rw [HTJ.out, show (0 + j : Nat) = j from Nat.zero_add j] at this
          exact this
        have HCNT : Hid (Calls Tryd.prog 27 #[.pointer (some ⟨gs, 0, none⟩)] w11 fun e w' => e = .returned (.int .u64 j) ∧ w' = w11) := scount gs j w11 hcf
        clear hsm11 HS10 HR10 hcf
        have hwj : IntKind.u64.wrap (j : Int) = (j : Int) := by simp [IntKind.wrap, IntKind.bits, IntKind.signed]; omega
        go_upto_region 28 with (first | (go_at_call 27; refine HCNT.out.mono ?_; rintro e12 w12 ⟨rfl, hw12⟩; obtain rfl := hw12.symm; clear hw12) | fail)
        clear HCNT hwj
        rcases (show q % 3 = 0 ∨ q % 3 = 1 ∨ q % 3 = 2 by omega) with h3 | h3 | h3
        · have e6 : (q : Int).tmod 3 = 0 := by rw [Int.tmod_eq_emod_of_nonneg (by omega)]; omega
          have e7 : (q : Int) % 3 = 0 := by omega
          clear h3
          go_wp2
          go_roundw
          case rel => exact ⟨q + 1, j, gs, gm, by omega, by go_num, rfl, rfl, rfl, HJ.out.2.1, HR11⟩
          case measure => simp [intOf]; omega
        · have e6 : (q : Int).tmod 3 = 1 := by rw [Int.tmod_eq_emod_of_nonneg (by omega)]; omega
          have e7 : (q : Int) % 3 = 1 := by omega
          clear h3
          go_wp2_with (first | (go_at_call 28; refine HR11.out.copyS.mono ?_))
          rintro e13 w13 ⟨g13, rfl, hr13⟩
          have HR13 : Hid (Run w w4 w13 s0 m0 g13 gm h si so (bs.take j) (bs.take j)) := hr13
          clear hr13
          go_wp2_with (first | (go_at_call 29; refine HR13.out.copyM.mono ?_))
          rintro e14 w14 ⟨g14, rfl, hr14⟩
          have HR14 : Hid (Run w w4 w14 s0 m0 g13 g14 h si so (bs.take j) (bs.take j)) := hr14
          clear hr14
          go_wp2
          go_roundw
          case rel => exact ⟨q + 1, j, g13, g14, by omega, by go_num, rfl, rfl, rfl, HJ.out.2.1, HR14⟩
          case measure => simp [intOf]; omega
        · have e6 : (q : Int).tmod 3 = 2 := by rw [Int.tmod_eq_emod_of_nonneg (by omega)]; omega
          have e7 : (q : Int) % 3 = 2 := by omega
          clear h3
          go_wp2
          go_roundw
          case rel => exact ⟨q + 1, j, gs, gm, by omega, by go_num, rfl, rfl, rfl, HJ.out.2.1, HR11⟩
          case measure => simp [intOf]; omega
    · rcases (show ¬ (q < cn) ∨ (q < cn ∧ ¬ (q < 60)) by omega) with hx | hx
      · have hq1 : ¬ ((q : Int) < cn) := by omega
        clear hx hlt
        have hbb := view_bounds hbv.out
        obtain ⟨a3, l3, c3, HSV⟩ : ∃ a3 l3 c3, Hid (Value.slice a3 l3 c3 = sliced ba t bn bc 1) := ⟨_, _, _, (show _ = _ from rfl)⟩
        have hsl : ∀ u, (Instr.slice 22 (.slice ba bn bc) (some (.int .i64 t)) none none).run Tryd.prog u = .ok (.slice a3 l3 c3) u := fun u => by rw [HSV.out]; exact slice_l u ba bn bc t (by omega) (by omega)
        have HV : Hid (View w (.slice a3 l3 c3) (bs.drop t)) := by
          have := view_sliced hbv.out t bn (by omega) (by omega)
          rw [List.take_of_length_le (by simp; omega), ← HSV.out] at this
          exact this
        have HOUT : Hid (bs.drop t ≠ [] → ∀ b off l c, Value.slice a3 l3 c3 = .slice (some ⟨b, off, none⟩) l c → b < w.heap.size) := fun h0 b off l c e => view_lt HV.out h0 b off l c e
        have HLL : Hid ((bs.take t).length + (bs.drop t).length ≤ 33554432 ∧ bs.length ≤ 33554432) := by rw [← List.length_append, List.take_append_drop]; constructor <;> omega
        clear hbb
        go_wp2_with (first | (go_at_call 24; refine (HR.out.write1 k.out hT.out _ _ (bs.drop t) (HR.out.arg HV.out) (fun h0 b off l c e => by have := HOUT.out h0 b off l c e; have := HR.out.sB; omega) HLL.out.1).mono ?_))
        rintro e6 w6 rfl hr6 hk6
        have HR6 : Hid (Run w w4 w6 s0 m0 gs gm h si so bs (bs.take t)) := hr6
        clear hr6 hk6
        go_wp2_with (first | (go_at_call 11; refine (num0 _).mono ?_; rintro e9 w9 ⟨rfl, hw9⟩; obtain rfl := hw9.symm; clear hw9) | (go_at_call 19; refine (HR6.out.mwrite1 k.out hT.out _ _ (bs.drop t) (HR6.out.arg HV.out) (fun h0 b off l c e => by have := HOUT.out h0 b off l c e; have := HR6.out.mB; omega) HLL.out.1).mono ?_))
        rintro e7 w7 ⟨rfl, hr7, hk7⟩
        rw [List.take_append_drop] at hr7
        have HR7 : Hid (Run w w4 w7 s0 m0 gs gm h si so bs bs) := hr7
        clear hr7 hsl hk7
        go_wp2_with (first | (go_at_call 11; refine (num0 _).mono ?_; rintro e9 w9 ⟨rfl, hw9⟩; obtain rfl := hw9.symm; clear hw9) | (go_at_call 26; refine (HR7.out.sum k.out hT.out HLL.out.2).mono ?_))
        rintro e8 w8 ⟨bq, rfl, hvq, hr8, _⟩
        rw [← HSZ.out] at hvq
        rw [← HSZ.out]
        have HR8 : Hid (Run w w4 w8 s0 m0 gs gm h si so bs bs) := hr8
        have HS8 : Hid (Calls Tryd.prog 12 #[.slice (some ⟨bq, 0, none⟩) sz sz, .slice (some ⟨bw, 0, none⟩) sz sz] w8 fun e w' => e = .returned (.bool true) ∧ Sm w8 w') := same_yes _ _ _ w8 hvq (HR8.out.view HWANT.out.1 (fun b off l c e => by injection e with e1 _ _; injection e1 with e1; injection e1 with e2 _; rw [← e2]; exact HWANT.out.2))
        clear hvq hr8
        go_wp2_with (first | (go_at_call 12; refine HS8.out.mono ?_))
        rintro e9 w9 ⟨rfl, hsm9⟩
        have HR9 : Hid (Run w w4 w9 s0 m0 gs gm h si so bs bs) := HR8.out.sm hsm9
        clear hsm9 HS8
        go_wp2_with (first | (go_at_call 21; refine (HR9.out.msum k.out hT.out HLL.out.2).mono ?_))
        rintro e10 w10 ⟨br, rfl, hvr, hr10, _⟩
        rw [← HSZ.out] at hvr
        rw [← HSZ.out]
        have HR10 : Hid (Run w w4 w10 s0 m0 gs gm h si so bs bs) := hr10
        have HS10 : Hid (Calls Tryd.prog 12 #[.slice (some ⟨br, 0, none⟩) sz sz, .slice (some ⟨bd, 0, none⟩) sz sz] w10 fun e w' => e = .returned (.bool true) ∧ Sm w10 w') := same_yes _ _ _ w10 hvr (HR10.out.view HCODE.out.1 (fun b off l c e => by injection e with e1 _ _; injection e1 with e1; injection e1 with e2 _; rw [← e2]; exact HCODE.out.2))
        clear hvr hr10
        go_wp2_with (first | (go_at_call 12; refine HS10.out.mono ?_))
        rintro e11 w11 ⟨rfl, hsm11⟩
        have HR11 : Hid (Run w w4 w11 s0 m0 gs gm h si so bs bs) := HR10.out.sm hsm11
        clear hsm11 HS10
        go_wp2
        go_ret
        exact ⟨rfl, HR11.out.bel⟩
      · have hq1 : (q : Int) < cn := by omega
        have hq2 : ¬ ((q : Int) < 60) := by omega
        clear hx hlt
        have hbb := view_bounds hbv.out
        obtain ⟨a3, l3, c3, HSV⟩ : ∃ a3 l3 c3, Hid (Value.slice a3 l3 c3 = sliced ba t bn bc 1) := ⟨_, _, _, (show _ = _ from rfl)⟩
        have hsl : ∀ u, (Instr.slice 22 (.slice ba bn bc) (some (.int .i64 t)) none none).run Tryd.prog u = .ok (.slice a3 l3 c3) u := fun u => by rw [HSV.out]; exact slice_l u ba bn bc t (by omega) (by omega)
        have HV : Hid (View w (.slice a3 l3 c3) (bs.drop t)) := by
          have := view_sliced hbv.out t bn (by omega) (by omega)
          rw [List.take_of_length_le (by simp; omega), ← HSV.out] at this
          exact this
        have HOUT : Hid (bs.drop t ≠ [] → ∀ b off l c, Value.slice a3 l3 c3 = .slice (some ⟨b, off, none⟩) l c → b < w.heap.size) := fun h0 b off l c e => view_lt HV.out h0 b off l c e
        have HLL : Hid ((bs.take t).length + (bs.drop t).length ≤ 33554432 ∧ bs.length ≤ 33554432) := by rw [← List.length_append, List.take_append_drop]; constructor <;> omega
        clear hbb
        go_wp2_with (first | (go_at_call 24; refine (HR.out.write1 k.out hT.out _ _ (bs.drop t) (HR.out.arg HV.out) (fun h0 b off l c e => by have := HOUT.out h0 b off l c e; have := HR.out.sB; omega) HLL.out.1).mono ?_))
        rintro e6 w6 rfl hr6 hk6
        have HR6 : Hid (Run w w4 w6 s0 m0 gs gm h si so bs (bs.take t)) := hr6
        clear hr6 hk6
        go_wp2_with (first | (go_at_call 11; refine (num0 _).mono ?_; rintro e9 w9 ⟨rfl, hw9⟩; obtain rfl := hw9.symm; clear hw9) | (go_at_call 19; refine (HR6.out.mwrite1 k.out hT.out _ _ (bs.drop t) (HR6.out.arg HV.out) (fun h0 b off l c e => by have := HOUT.out h0 b off l c e; have := HR6.out.mB; omega) HLL.out.1).mono ?_))
        rintro e7 w7 ⟨rfl, hr7, hk7⟩
        rw [List.take_append_drop] at hr7
        have HR7 : Hid (Run w w4 w7 s0 m0 gs gm h si so bs bs) := hr7
        clear hr7 hsl hk7
        go_wp2_with (first | (go_at_call 11; refine (num0 _).mono ?_; rintro e9 w9 ⟨rfl, hw9⟩; obtain rfl := hw9.symm; clear hw9) | (go_at_call 26; refine (HR7.out.sum k.out hT.out HLL.out.2).mono ?_))
        rintro e8 w8 ⟨bq, rfl, hvq, hr8, _⟩
        rw [← HSZ.out] at hvq
        rw [← HSZ.out]
        have HR8 : Hid (Run w w4 w8 s0 m0 gs gm h si so bs bs) := hr8
        have HS8 : Hid (Calls Tryd.prog 12 #[.slice (some ⟨bq, 0, none⟩) sz sz, .slice (some ⟨bw, 0, none⟩) sz sz] w8 fun e w' => e = .returned (.bool true) ∧ Sm w8 w') := same_yes _ _ _ w8 hvq (HR8.out.view HWANT.out.1 (fun b off l c e => by injection e with e1 _ _; injection e1 with e1; injection e1 with e2 _; rw [← e2]; exact HWANT.out.2))
        clear hvq hr8
        go_wp2_with (first | (go_at_call 12; refine HS8.out.mono ?_))
        rintro e9 w9 ⟨rfl, hsm9⟩
        have HR9 : Hid (Run w w4 w9 s0 m0 gs gm h si so bs bs) := HR8.out.sm hsm9
        clear hsm9 HS8
        go_wp2_with (first | (go_at_call 21; refine (HR9.out.msum k.out hT.out HLL.out.2).mono ?_))
        rintro e10 w10 ⟨br, rfl, hvr, hr10, _⟩
        rw [← HSZ.out] at hvr
        rw [← HSZ.out]
        have HR10 : Hid (Run w w4 w10 s0 m0 gs gm h si so bs bs) := hr10
        have HS10 : Hid (Calls Tryd.prog 12 #[.slice (some ⟨br, 0, none⟩) sz sz, .slice (some ⟨bd, 0, none⟩) sz sz] w10 fun e w' => e = .returned (.bool true) ∧ Sm w10 w') := same_yes _ _ _ w10 hvr (HR10.out.view HCODE.out.1 (fun b off l c e => by injection e with e1 _ _; injection e1 with e1; injection e1 with e2 _; rw [← e2]; exact HCODE.out.2))
        clear hvr hr10
        go_wp2_with (first | (go_at_call 12; refine HS10.out.mono ?_))
        rintro e11 w11 ⟨rfl, hsm11⟩
        have HR11 : Hid (Run w w4 w11 s0 m0 gs gm h si so bs bs) := HR10.out.sm hsm11
        clear hsm11 HS10
        go_wp2
        go_ret
        exact ⟨rfl, HR11.out.bel⟩
end Go.Proofs.YtioggmjocelolabDoor
