import Derived.Test.YtinmhgackihakaaDoorPart03
import Derived.Test.YtinmhgackihakaaDoorPart00
import Derived.Test.YtinmhgackihakaaDoorPart02
import Derived.WalkKit
import Derived.Deep.MidRow
import Derived.Laws.ResultCell
import Derived.Below
import Derived.Test.YtinmhgackihakaaDoorProg
import Derived.Deep.Draws
import Derived.Deep.Upon
namespace Go.Proofs.YtinmhgackihakaaDoor
open Go.RowKit
set_option linter.unusedVariables false
set_option linter.unusedSimpArgs false
set_option maxRecDepth 100000
/-- The first k rows of peaks. -/
structure PkI (M G n k : Nat) (pl : List F) (w u : World) : Prop where
  top : ∃ (cu : List Value) (gs : Nat → Nat), Bx u G 23 cu ∧ cu.length = n ∧ (∀ i, i < n → ∃ x, cu[i]? = some x) ∧ ∀ i, i < k → cu[i]? = some (.slice (some ⟨gs i, 0, none⟩) n n) ∧ G < gs i ∧ Bx u (gs i) 5 (fc (peakL pl i))
  bel : Below M w u
theorem PkI.zero {M G n : Nat} {pl : List F} {xs : List Value} {w u : World} {B : Nat} (h : u.ownsRow B 23 1 (.slice (some ⟨G, 0, none⟩) n n) n xs) (hb : Below M w u) : PkI M G n 0 pl w u := by
  have q := own_full1 h
  exact ⟨⟨xs, fun _ => 0, q.1, q.2, fun i hi => ⟨_, List.getElem?_eq_getElem (by rw [q.2]; exact hi)⟩, fun i hi => by omega⟩, hb⟩
theorem PkI.lt {M G n k : Nat} {pl : List F} {w u : World} (h : PkI M G n k pl w u) : G < u.heap.size := by
  obtain ⟨cu, gs, h1, _⟩ := h.top
  exact h1.lt
theorem PkI.below {M G n k : Nat} {pl : List F} {w u v : World} (h : PkI M G n k pl w u) (hM : M ≤ u.heap.size) (hv : Below u.heap.size u v) : PkI M G n k pl w v := by
  obtain ⟨cu, gs, h1, h2, h3, h4⟩ := h.top
  exact ⟨⟨cu, gs, h1.below hv, h2, h3, fun i hi => ⟨(h4 i hi).1, (h4 i hi).2.1, (h4 i hi).2.2.below hv⟩⟩, h.bel.trans (hv.mono hM)⟩
theorem PkI.next {M G n k g2 : Nat} {pl : List F} {w u : World} (h : PkI M G n k pl w u) (hk : k < n) (hM : M ≤ G) (hg : G < g2) (hb : Bx u g2 5 (fc (peakL pl k))) : PkI M G n (k + 1) pl w (u.setCell ⟨G, k, none⟩ (.slice (some ⟨g2, 0, none⟩) n n)) := by
  obtain ⟨cu, gs, h1, h2, h3, h4⟩ := h.top
  have hs := set_gb u G k (.slice (some ⟨g2, 0, none⟩) n n)
  refine ⟨⟨_, fun i => if i = k then g2 else gs i, h1.set k _, by rw [List.length_set]; exact h2, fun i hi => ⟨_, List.getElem?_eq_getElem (by rw [List.length_set, h2]; exact hi)⟩, fun i hi => ?_⟩, h.bel.setCell hM _⟩
  by_cases e : i = k
  · subst e
    refine ⟨?_, ?_, ?_⟩
    · rw [List.getElem?_set_self (by rw [h2]; exact hk)]; simp
    · show G < if i = i then g2 else gs i
      rw [if_pos rfl]; exact hg
    · show Bx _ (if i = i then g2 else gs i) 5 _
      rw [if_pos rfl]
      exact hb.keep (hs.block g2 hb.lt (fun q => by injection q with q; omega))
  · have q := h4 i (by omega)
    refine ⟨?_, ?_, ?_⟩
    · rw [List.getElem?_set_ne (fun q => e q.symm)]; simp only [if_neg e]; exact q.1
    · show G < if i = k then g2 else gs i
      rw [if_neg e]; exact q.2.1
    · show Bx _ (if i = k then g2 else gs i) 5 _
      rw [if_neg e]
      exact q.2.2.keep (hs.block (gs i) q.2.2.lt (fun e2 => by injection e2 with e2; have := q.2.1; omega))
theorem PkI.cell {M G n k : Nat} {pl : List F} {w u : World} (h : PkI M G n k pl w u) (hk : k < n) : ∃ x, u.cell? ⟨G, k, none⟩ = some x ∧ u.frozen? ⟨G, k, none⟩ = false := by
  obtain ⟨cu, gs, h1, h2, h3, h4⟩ := h.top
  obtain ⟨x, hx⟩ := h3 k hk
  exact ⟨x, h1.cell k x hx, h1.frozen k⟩
theorem bx_rw {w : World} {b : Nat} {l : List F} (h : Bx w b 5 (fc l)) : Rw w b 0 l := fun i hi => by
  rw [Nat.zero_add]
  exact h.cell i _ (fc_at l i hi)
set_option maxHeartbeats 3200000 in
/-- peaksAt. -/
theorem peaks_ok (b off n c : Nat) (pl : List F) (w : World) (hl : pl.length = n) (hn : n ≤ 900) (h : Rw w b off pl) (hb : b < w.heap.size) :
    Calls Tryd.prog 51 #[.slice (some ⟨b, off, none⟩) n c] w fun e w' => Hid (∃ g, e = .returned (.slice (some ⟨g, 0, none⟩) n n) ∧ w.heap.size ≤ g ∧ PkI w.heap.size g n n pl w w') := by
  obtain ⟨i0, hi0, hz0, hz1, hz2⟩ := info_parts Tryd.info25q
  have HI0 : Hid (Tryd.prog.info? 23 = some i0 ∧ i0.zero = some (.slice none 0 0) ∧ i0.size = 1 ∧ i0.bytes = 24) := ⟨hi0, hz0, hz1, hz2⟩
  have HMF : Hid (i0.bytes * n ≤ 281474976710656 ∧ n ≤ maxLen) := made_few i0.bytes n n 24 (by decide) HI0.out.2.2.2 (by omega)
  have HRW : Hid (Rw w b off pl ∧ b < w.heap.size ∧ pl.length = n ∧ n ≤ 900) := ⟨h, hb, hl, hn⟩
  clear hi0 hz0 hz1 hz2 h hb hl
  obtain ⟨g, HBB⟩ : ∃ g, Hid (w.heap.size = g) := ⟨_, rfl⟩
  go_enter Tryd.func51, Tryd.ntmps51
  go_wp2_with (first
    | (at_make; go_must (refine wpList_make_full _ rfl _ _ 39 rfl w.heap.size 23 i0 (.slice none 0 0) 1 Tryd.und70 HI0.out.1 HI0.out.2.1 HI0.out.2.2.1 .i64 .i64 (n : Nat) (n : Nat) n rfl rfl rfl rfl HMF.out.1 HMF.out.2 (Nat.le_refl _) ?_; intro w2 hown hgrow; have hlo : Below w.heap.size w w2 := ⟨hgrow.os, hgrow.tape, hgrow.output, hgrow.size, fun c hc => hgrow.block c hc (by simp)⟩; have HX2 : Hid (PkI g g n 0 pl w w2) := (by rw [← HBB.out]; exact PkI.zero hown hlo); clear hown hgrow hlo)))
  rw [HBB.out]
  go_loopw [15] (fun vi wr => ∃ k : Nat, k ≤ n ∧ vi = .int .i64 (k : Nat) ∧ Hid (PkI g g n k pl w wr)) (fun vi _ => n - (intOf vi).toNat)
  case atStart => exact ⟨0, by omega, rfl, HX2⟩
  case round =>
    obtain ⟨k, hk, rfl, HI⟩ := hrel
    clear HX2
    by_cases hlt : k < n
    · obtain ⟨z, HZ⟩ : ∃ z : F, Hid (pl.getD k 0 = z) := ⟨_, rfl⟩
      have c1 : wr.cell? ⟨b, off + k, none⟩ = some (.int .u8 (z.1 : Nat)) := by
        rw [← HZ.out, HI.out.bel.cell (by show b < g; have := HBB.out; have := HRW.out.2.1; omega)]
        exact HRW.out.1 k (by have := HRW.out.2.2.1; omega)
      have g0 : (0 : Int) ≤ (k : Int) := by omega
      have g1 : (k : Int) < (n : Int) := by omega
      have HW1 : Hid (PkI g g n k pl w (wr.alloc (.cells #[.int .u8 1] 5)) ∧ Bx (wr.alloc (.cells #[.int .u8 1] 5)) wr.heap.size 5 (fc [1]) ∧ g < wr.heap.size) := by
        have hgl := HI.out.lt
        exact ⟨HI.out.below (by omega) ((Below.refl _ _).alloc (Nat.le_refl _) _), Bx.new wr 5 _, hgl⟩
      go_upto_region 6 with fail
      clear c1
      generalize wr.alloc (.cells #[.int .u8 1] 5) = w1 at HW1 ⊢
      obtain ⟨h0, HH0⟩ : ∃ h0, Hid (wr.heap.size = h0) := ⟨_, rfl⟩
      rw [HH0.out] at HW1 ⊢
      clear HI
      go_wp2
      go_loopw [6, 7, 23] (fun vp vt vi wx => ∃ (j h m : Nat) (t : F), j ≤ n ∧ vi = .int .i64 (j : Nat) ∧ vp = .slice (some ⟨h, 0, none⟩) m m ∧ vt = .int .u8 (t.1 : Nat) ∧ Hid (t = thrF pl k j ∧ (prdL pl k j).length = m ∧ Bx wx h 5 (fc (prdL pl k j)) ∧ g < h ∧ PkI g g n k pl w wx)) (fun _ _ vi _ => n - (intOf vi).toNat)
      case atStart => exact ⟨0, h0, 1, 1, by omega, rfl, rfl, rfl, rfl, rfl, HW1.out.2.1, HW1.out.2.2, HW1.out.1⟩
      case round =>
        obtain ⟨j, hh, m, t, hj, rfl, rfl, rfl, HJ⟩ := hrel
        clear HW1
        by_cases hjl : j < n
        · obtain ⟨y, HY⟩ : ∃ z : F, Hid (pl.getD j 0 = z) := ⟨_, rfl⟩
          have c2 : wr.cell? ⟨b, off + j, none⟩ = some (.int .u8 (y.1 : Nat)) := by
            rw [← HY.out, HJ.out.2.2.2.2.bel.cell (by show b < g; have := HBB.out; have := HRW.out.2.1; omega)]
            exact HRW.out.1 j (by have := HRW.out.2.2.1; omega)
          have g2 : (0 : Int) ≤ (j : Int) := by omega
          have g3 : (j : Int) < (n : Int) := by omega
          by_cases e : j = k
          · subst e
            have HJ2 : Hid (t = thrF pl j (j + 1) ∧ (prdL pl j (j + 1)).length = m ∧ Bx wr hh 5 (fc (prdL pl j (j + 1))) ∧ g < hh ∧ PkI g g n j pl w wr) := by
              have e1 : thrF pl j (j + 1) = thrF pl j j := if_pos rfl
              have e2 : prdL pl j (j + 1) = prdL pl j j := if_pos rfl
              rw [e1, e2]
              exact HJ.out
            clear HJ
            go_wp2
            go_roundw
            case rel => exact ⟨j + 1, hh, m, t, by omega, by go_num, rfl, rfl, HJ2⟩
            case measure => simp [intOf]; omega
          · have g5 : ¬ (j : Int) = (k : Int) := by omega
            obtain ⟨PL, HPL⟩ : ∃ q : List F, Hid (prdL pl k j = q) := ⟨_, rfl⟩
            have HJ2 : Hid (PL.length = m ∧ Bx wr hh 5 (fc PL) ∧ g < hh ∧ PkI g g n k pl w wr ∧ m ≤ 1000) := by
              obtain ⟨a1, a2, a3, a4, a5⟩ := HJ.out
              rw [HPL.out] at a2 a3
              refine ⟨a2, a3, a4, a5, ?_⟩
              have h1 := prdL_len pl k j
              rw [HPL.out, a2] at h1
              have h2 := HRW.out.2.2.2
              split at h1 <;> omega
            have HT : Hid (thrF pl k (j + 1) = fm t (fa z y) ∧ prdL pl k (j + 1) = wrL PL y) := by
              have e1 : thrF pl k (j + 1) = fm (thrF pl k j) (fa (pl.getD k 0) (pl.getD j 0)) := if_neg e
              have e2 : prdL pl k (j + 1) = wrL (prdL pl k j) (pl.getD j 0) := if_neg e
              rw [e1, e2, HZ.out, HY.out, HPL.out, HJ.out.1]
              exact ⟨rfl, rfl⟩
            clear HJ
            obtain ⟨m2, HM2⟩ : ∃ q, Hid (m + 1 = q) := ⟨_, rfl⟩
            have H76 : Hid (Calls Tryd.prog 67 #[.slice (some ⟨hh, 0, none⟩) m m, .int .u8 (y.1 : Nat)] wr fun e w' => Hid (∃ g, e = .returned (.slice (some ⟨g, 0, none⟩) m2 m2) ∧ wr.heap.size ≤ g ∧ Bx w' g 5 (fc (wrL PL y)) ∧ Below wr.heap.size wr w')) := root_ok hh 0 m m m2 y PL wr HJ2.out.1 HM2.out.symm HJ2.out.2.2.2.2 (bx_rw HJ2.out.2.1) HJ2.out.2.1.lt
            have HXZ : Hid (bits .xor .u8 ((z.1 : Nat) : Int) ((y.1 : Nat) : Int) = (((fa z y).1 : Nat) : Int)) := xorF z y
            obtain ⟨zy, HZY⟩ : ∃ q : F, Hid (fa z y = q) := ⟨_, rfl⟩
            rw [HZY.out] at HXZ HT
            have H51 : Hid (∀ u, Calls Tryd.prog 20 #[.int .u8 (t.1 : Nat), .int .u8 (zy.1 : Nat)] u fun e w' => e = .returned (.int .u8 ((fm t zy).1 : Nat)) ∧ w' = u) := fun u => timesF t zy u
            obtain ⟨tz, HTZ⟩ : ∃ q : F, Hid (fm t zy = q) := ⟨_, rfl⟩
            rw [HTZ.out] at H51 HT
            go_wp2_with (first
              | (go_at_call 67; refine H76.out.mono ?_; intro e4 w4 h4; obtain ⟨h5, rfl, h6, h7, h8⟩ := h4.out; have HR4 : Hid (wr.heap.size ≤ h5 ∧ Bx w4 h5 5 (fc (wrL PL y)) ∧ Below wr.heap.size wr w4) := ⟨h6, h7, h8⟩; clear h4 h6 h7 h8 H76)
              | (go_at_call 20; rw [HXZ.out]; refine (H51.out _).mono ?_; rintro e1 w1 ⟨rfl, hw⟩; obtain rfl := hw.symm; clear hw H51))
            go_roundw
            case rel =>
              refine ⟨j + 1, h5, m2, tz, by omega, by go_num, rfl, rfl, HT.out.1.symm, ?_, ?_, ?_, ?_⟩
              · rw [HT.out.2, wrL_len, HJ2.out.1]; exact HM2.out
              · rw [HT.out.2]; exact HR4.out.2.1
              · have := HJ2.out.2.2.2.1.lt; have := HR4.out.1; omega
              · exact HJ2.out.2.2.2.1.below (Nat.le_of_lt HJ2.out.2.2.2.1.lt) HR4.out.2.2
            case measure => simp [intOf]; omega
        · obtain rfl : j = n := by omega
          have h1 : ¬ (j : Int) < (j : Int) := Int.lt_irrefl _
          obtain ⟨PL, HPL⟩ : ∃ q : List F, Hid (prdL pl k j = q) := ⟨_, rfl⟩
          have HJ2 : Hid (PL.length = m ∧ Bx wr hh 5 (fc PL) ∧ g < hh ∧ PkI g g j k pl w wr ∧ m = j ∧ peakL pl k = sclL PL (invF t)) := by
            obtain ⟨a1, a2, a3, a4, a5⟩ := HJ.out
            have hm : m = j := by
              have := prdL_len pl k j
              rw [if_pos hlt, a2] at this
              exact this
            refine ⟨by rw [← HPL.out]; exact a2, by rw [← HPL.out]; exact a3, a4, a5, hm, ?_⟩
            unfold peakL
            rw [HRW.out.2.2.1, HPL.out, a1]
          clear HJ
          obtain rfl : m = j := HJ2.out.2.2.2.2.1
          have H78 : Hid (∀ u, Calls Tryd.prog 69 #[.int .u8 (t.1 : Nat)] u fun e w' => e = .returned (.int .u8 ((invF t).1 : Nat)) ∧ w' = u) := fun u => inverse_ok t u
          obtain ⟨ti, HTI⟩ : ∃ q : F, Hid (invF t = q) := ⟨_, rfl⟩
          rw [HTI.out] at H78 HJ2
          have H77 : Hid (Calls Tryd.prog 68 #[.slice (some ⟨hh, 0, none⟩) m m, .int .u8 (ti.1 : Nat)] wr fun e w' => Hid (∃ g, e = .returned (.slice (some ⟨g, 0, none⟩) m m) ∧ wr.heap.size ≤ g ∧ Bx w' g 5 (fc (sclL PL ti)) ∧ Below wr.heap.size wr w')) := scaled_ok hh 0 m m ti PL wr HJ2.out.1 (by have := HRW.out.2.2.2; omega) (bx_rw HJ2.out.2.1) HJ2.out.2.1.lt
          go_upto_region 13 with fail
          go_upto_region 14 with (first
            | (go_at_call 69; refine (H78.out _).mono ?_; rintro e1 w1 ⟨rfl, hw⟩; obtain rfl := hw.symm; clear hw H78)
            | (go_at_call 68; refine H77.out.mono ?_; intro e4 w4 h4; obtain ⟨h5, rfl, h6, h7, h8⟩ := h4.out; have HP4 : Hid (PkI g g m k pl w w4 ∧ Bx w4 h5 5 (fc (peakL pl k)) ∧ g < h5) := (by rw [HJ2.out.2.2.2.2.2]; exact ⟨HJ2.out.2.2.2.1.below (Nat.le_of_lt HJ2.out.2.2.2.1.lt) h8, h7, by have := HJ2.out.2.2.2.1.lt; omega⟩); obtain ⟨x4, c4, f4⟩ := HP4.out.1.cell hlt; clear h4 h6 h7 h8 H77)
            | fail)
          have HN : Hid (PkI g g m (k + 1) pl w (w4.setCell ⟨g, k, none⟩ (.slice (some ⟨h5, 0, none⟩) m m))) := HP4.out.1.next hlt (Nat.le_refl _) HP4.out.2.2 HP4.out.2.1
          clear HP4 c4 f4
          go_wp2
          exact ⟨⟨k + 1, by omega, by go_num, HN⟩, by simp [intOf]; omega⟩
    · obtain rfl : k = n := by omega
      have h1 : ¬ (k : Int) < (k : Int) := Int.lt_irrefl _
      go_wp2
      go_ret
      exact ⟨g, rfl, by rw [HBB.out]; exact Nat.le_refl _, by rw [HBB.out]; exact HI.out⟩
end Go.Proofs.YtinmhgackihakaaDoor
namespace Go.Proofs.YtinmhgackihakaaDoor
open Go.RowKit
set_option linter.unusedVariables false
set_option linter.unusedSimpArgs false
set_option maxRecDepth 100000
theorem thruL_step (pl vs : List F) (n k i : Nat) (hp : pl.length = n) (hi : i < n) : (thruL pl vs (k + 1)).getD i 0 = fa ((thruL pl vs k).getD i 0) (fm ((peakL pl k).getD i 0) (vs.getD k 0)) := by
  show (addL (thruL pl vs k) (sclL (peakL pl k) (vs.getD k 0))).getD i 0 = _
  unfold addL
  rw [List.getD_eq_getElem?_getD, List.getElem?_map, List.getElem?_range (by rw [thruL_len, hp]; exact hi)]
  show fa _ ((sclL (peakL pl k) (vs.getD k 0)).getD i 0) = _
  congr 1
  exact getD_map0 _ (fun c => fm c (vs.getD k 0)) (by first | exact zero_fm _ | simp) i
set_option maxHeartbeats 3200000 in
/-- through. -/
theorem through_ok (PG n vb vo vc M : Nat) (pl vs : List F) (w0 w : World) (hn : n ≤ 900) (hp : PkI M PG n n pl w0 w) (hv : Rw w vb vo vs) (hvl : vs.length = n) (hpl : pl.length = n) (hb : vb < w.heap.size) :
    Calls Tryd.prog 53 #[.slice (some ⟨PG, 0, none⟩) n n, .slice (some ⟨vb, vo, none⟩) n vc] w fun e w' => Hid (∃ g, e = .returned (.slice (some ⟨g, 0, none⟩) n n) ∧ w.heap.size ≤ g ∧ Bx w' g 5 (fc (thruL pl vs n)) ∧ Below w.heap.size w w') := by
  obtain ⟨i0, hi0, hz0, hz1, hz2⟩ := info_parts Tryd.infoB
  have HI0 : Hid (Tryd.prog.info? 5 = some i0 ∧ i0.zero = some (.int .u8 0) ∧ i0.size = 1 ∧ i0.bytes = 1) := ⟨hi0, hz0, hz1, hz2⟩
  have HMF : Hid (i0.bytes * n ≤ 281474976710656 ∧ n ≤ maxLen) := made_few i0.bytes n n 1 (by decide) HI0.out.2.2.2 (by omega)
  obtain ⟨S, HS⟩ : ∃ S : Nat → List F, Hid (thruL pl vs = S) := ⟨_, rfl⟩
  have HSA : Hid (S 0 = List.replicate n 0 ∧ (∀ k, (S k).length = n) ∧ ∀ k i, i < n → (S (k + 1)).getD i 0 = fa ((S k).getD i 0) (fm ((peakL pl k).getD i 0) (vs.getD k 0))) := by
    rw [← HS.out]
    exact ⟨by rw [← hpl]; rfl, fun k => by rw [thruL_len, hpl], fun k i hi => thruL_step pl vs n k i hpl hi⟩
  rw [HS.out]
  obtain ⟨gs, HGS⟩ : ∃ gs : Nat → Nat, Hid ((∀ i, i < n → w.cell? ⟨PG, i, none⟩ = some (.slice (some ⟨gs i, 0, none⟩) n n) ∧ ∀ j, j < n → w.cell? ⟨gs i, j, none⟩ = some (.int .u8 (((peakL pl i).getD j 0).1 : Nat))) ∧ Rw w vb vo vs ∧ vs.length = n ∧ ∀ a v, w.cell? a = some v → a.block < w.heap.size) := by
    obtain ⟨cu, gs, h1, h2, h3, h4⟩ := hp.top
    refine ⟨gs, fun i hi => ⟨h1.cell i _ (h4 i hi).1, fun j hj => (h4 i hi).2.2.cell j _ (fc_at _ j (by rw [peakL_len pl i (by omega), hpl]; exact hj))⟩, hv, hvl, fun a v h => World.block_lt_of_cell? _ _ h⟩
  clear hi0 hz0 hz1 hz2 hp hv hvl hpl hb
  obtain ⟨g, HBB⟩ : ∃ g, Hid (w.heap.size = g) := ⟨_, rfl⟩
  have HCB : Hid (∀ u a v, Below g w u → w.cell? a = some v → u.cell? a = some v) := fun u a v hb hc => by
    rw [hb.cell (by have := HGS.out.2.2.2 a v hc; have := HBB.out; omega)]
    exact hc
  go_enter Tryd.func53, Tryd.ntmps53
  go_wp2_with (first
    | (at_make; go_must (refine wpList_make_full _ rfl _ _ 23 rfl w.heap.size 5 i0 (.int .u8 0) 1 Tryd.underlying23 HI0.out.1 HI0.out.2.1 HI0.out.2.2.1 .i64 .i64 (n : Nat) (n : Nat) n rfl rfl rfl rfl HMF.out.1 HMF.out.2 (Nat.le_refl _) ?_; intro w2 hown hgrow; have hlo : Below w.heap.size w w2 := ⟨hgrow.os, hgrow.tape, hgrow.output, hgrow.size, fun c hc => hgrow.block c hc (by simp)⟩; have HX2 : Hid (Bx w2 g 5 (fc (S 0)) ∧ Below g w w2) := (by rw [← HBB.out]; exact ⟨by rw [HSA.out.1, fc_repD]; have q := (own_full1 hown).1; rw [show (Value.int .u8 0).cells = #[.int .u8 0] from rfl, Nat.mul_one, toList_madeCells_one] at q; exact q, hlo⟩); clear hown hgrow hlo)))
  rw [HBB.out]
  go_loopw [15] (fun vi wr => ∃ k : Nat, k ≤ n ∧ vi = .int .i64 (k : Nat) ∧ Hid (Bx wr g 5 (fc (S k)) ∧ Below g w wr)) (fun vi _ => n - (intOf vi).toNat)
  case atStart => exact ⟨0, by omega, rfl, HX2.out⟩
  case round =>
    obtain ⟨k, hk, rfl, HI⟩ := hrel
    clear HX2
    by_cases hlt : k < n
    · obtain ⟨gk, HGK⟩ : ∃ q, Hid (gs k = q) := ⟨_, rfl⟩
      obtain ⟨z, HZ⟩ : ∃ z : F, Hid (vs.getD k 0 = z) := ⟨_, rfl⟩
      obtain ⟨PL, HPL⟩ : ∃ q : List F, Hid (peakL pl k = q) := ⟨_, rfl⟩
      have c1 : wr.cell? ⟨PG, k, none⟩ = some (.slice (some ⟨gk, 0, none⟩) n n) := by rw [← HGK.out]; exact HCB.out _ _ _ HI.out.2 (HGS.out.1 k hlt).1
      have g0 : (0 : Int) ≤ (k : Int) := by omega
      have g1 : (k : Int) < (n : Int) := by omega
      have HST : Hid (∀ i, i < n → (S (k + 1)).getD i 0 = fa ((S k).getD i 0) (fm (PL.getD i 0) z)) := fun i hi => by rw [HSA.out.2.2 k i hi, HPL.out, HZ.out]
      have HPC : Hid (∀ i u, i < n → Below g w u → u.cell? ⟨gk, i, none⟩ = some (.int .u8 ((PL.getD i 0).1 : Nat)) ∧ u.cell? ⟨vb, vo + k, none⟩ = some (.int .u8 (z.1 : Nat))) := fun i u hi hu => by
        rw [← HGK.out, ← HPL.out, ← HZ.out]
        exact ⟨HCB.out _ _ _ hu ((HGS.out.1 k hlt).2 i hi), HCB.out _ _ _ hu (HGS.out.2.1 k (by rw [HGS.out.2.2.1]; exact hlt))⟩
      go_upto_region 6 with fail
      clear c1
      go_loopw [22] (fun vi wx => ∃ (i : Nat) (T : List F), i ≤ n ∧ vi = .int .i64 (i : Nat) ∧ Hid (Bx wx g 5 (fc T) ∧ Below g w wx ∧ T.length = n ∧ ∀ j, j < n → T.getD j 0 = if j < i then (S (k + 1)).getD j 0 else (S k).getD j 0)) (fun vi _ => n - (intOf vi).toNat)
      case atStart => exact ⟨0, S k, by omega, rfl, HI.out.1, HI.out.2, HSA.out.2.1 k, fun j hj => by rw [if_neg (by omega)]⟩
      case round =>
        obtain ⟨i, T, hi, rfl, HT⟩ := hrel
        clear HI
        by_cases hil : i < n
        · obtain ⟨x, HX⟩ : ∃ z : F, Hid (T.getD i 0 = z) := ⟨_, rfl⟩
          obtain ⟨y, HY⟩ : ∃ z : F, Hid (PL.getD i 0 = z) := ⟨_, rfl⟩
          have c2 : wr.cell? ⟨gk, i, none⟩ = some (.int .u8 (y.1 : Nat)) := by rw [← HY.out]; exact (HPC.out i _ hil HT.out.2.1).1
          have c3 : wr.cell? ⟨vb, vo + k, none⟩ = some (.int .u8 (z.1 : Nat)) := (HPC.out i _ hil HT.out.2.1).2
          have c4 : wr.cell? ⟨g, i, none⟩ = some (.int .u8 (x.1 : Nat)) := HT.out.1.cell i _ (by rw [fc_at _ i (by rw [HT.out.2.2.1]; exact hil), HX.out])
          have f4 : wr.frozen? ⟨g, i, none⟩ = false := HT.out.1.frozen i
          have g2 : (0 : Int) ≤ (i : Int) := by omega
          have g3 : (i : Int) < (n : Int) := by omega
          obtain ⟨yz, HYZ⟩ : ∃ q : F, Hid (fm y z = q) := ⟨_, rfl⟩
          have H51 : Hid (∀ u, Calls Tryd.prog 20 #[.int .u8 (y.1 : Nat), .int .u8 (z.1 : Nat)] u fun e w' => e = .returned (.int .u8 (yz.1 : Nat)) ∧ w' = u) := fun u => by rw [← HYZ.out]; exact timesF y z u
          obtain ⟨r, HR⟩ : ∃ q : F, Hid (fa x yz = q) := ⟨_, rfl⟩
          have hxr : bits .xor .u8 ((x.1 : Nat) : Int) ((yz.1 : Nat) : Int) = ((r.1 : Nat) : Int) := by rw [← HR.out]; exact xorF x yz
          have HN : Hid (Bx (wr.setCell ⟨g, i, none⟩ (.int .u8 (r.1 : Nat))).drew g 5 (fc (T.set i r)) ∧ Below g w (wr.setCell ⟨g, i, none⟩ (.int .u8 (r.1 : Nat))).drew ∧ (T.set i r).length = n ∧ ∀ j, j < n → (T.set i r).getD j 0 = if j < i + 1 then (S (k + 1)).getD j 0 else (S k).getD j 0) := by
            obtain ⟨a1, a2, a3, a4⟩ := HT.out
            refine ⟨by rw [fc_set]; exact a1.set _ _, (a2.setCell (Nat.le_refl _) _).drew, by rw [List.length_set]; exact a3, fun j hj => ?_⟩
            rw [List.getD_eq_getElem?_getD, List.getElem?_set]
            by_cases e : i = j
            · subst e
              rw [if_pos rfl, if_pos (by rw [a3]; exact hil), if_pos (by omega)]
              show r = _
              rw [HST.out i hil, HY.out, ← HR.out, ← HYZ.out, ← HX.out, a4 i hil, if_neg (by omega)]
            · rw [if_neg e, ← List.getD_eq_getElem?_getD, a4 j hj]
              by_cases h3 : j < i
              · rw [if_pos h3, if_pos (by omega)]
              · rw [if_neg h3, if_neg (by omega)]
          clear HT
          generalize r.1 = r1 at hxr HN
          generalize x.1 = x1 at hxr c4
          generalize y.1 = y1 at c2 H51
          generalize z.1 = z1 at c3 H51 HPC
          generalize yz.1 = yz1 at hxr H51
          go_upto_region 8 with fail
          have hS0 : wr.drew.cell? ⟨g, i, none⟩ = some (.int .u8 (x1 : Nat)) ∧ wr.drew.cell? ⟨vb, vo + k, none⟩ = some (.int .u8 (z1 : Nat)) := ⟨c4, c3⟩
          clear c2 c3 c4
          refine wp_region_noPanic ?_
          refine wp_region_till (fun u => u.cell? ⟨g, i, none⟩ = some (.int .u8 (x1 : Nat)) ∧ u.cell? ⟨vb, vo + k, none⟩ = some (.int .u8 (z1 : Nat))) 12 (by kernel_rfl) (by decide) (by decide +kernel) (by decide +kernel) (by decide +kernel) (fun inv => ?_)
          refine till_at 0 27 (.slice (some ⟨g, 0, none⟩) n n) inv rfl rfl (by decide) (by decide +kernel) (by decide +kernel) (fun _ _ _ h => h) hS0 (Or.inl ⟨by rfl, fun w' hS' => by obtain ⟨k1, k2⟩ := hS'; go_simp⟩) (fun inv' => ?_)
          clear inv; have inv := inv'; clear inv'
          try simp only [List.setIfInBounds_toArray, List.set_cons_zero, List.set_cons_succ]
          refine till_at 1 28 (.int .i64 (i : Nat)) inv rfl rfl (by decide) (by decide +kernel) (by decide +kernel) (fun _ _ _ h => h) hS0 (Or.inl ⟨by rfl, fun w' hS' => by obtain ⟨k1, k2⟩ := hS'; go_simp⟩) (fun inv' => ?_)
          clear inv; have inv := inv'; clear inv'
          try simp only [List.setIfInBounds_toArray, List.set_cons_zero, List.set_cons_succ]
          refine till_at 2 29 (.pointer (some ⟨g, i, none⟩)) inv rfl rfl (by decide) (by decide +kernel) (by decide +kernel) (fun _ _ _ h => h) hS0 (Or.inl ⟨by rfl, fun w' hS' => by obtain ⟨k1, k2⟩ := hS'; go_simp⟩) (fun inv' => ?_)
          clear inv; have inv := inv'; clear inv'
          try simp only [List.setIfInBounds_toArray, List.set_cons_zero, List.set_cons_succ]
          refine till_at 3 30 (.int .u8 (x1 : Nat)) inv rfl rfl (by decide) (by decide +kernel) (by decide +kernel) (fun _ _ _ h => h) hS0 (Or.inl ⟨by rfl, fun w' hS' => by obtain ⟨k1, k2⟩ := hS'; go_simp⟩) (fun inv' => ?_)
          clear inv; have inv := inv'; clear inv'
          try simp only [List.setIfInBounds_toArray, List.set_cons_zero, List.set_cons_succ]
          refine till_at 4 31 (.int .u8 (y1 : Nat)) inv rfl rfl (by decide) (by decide +kernel) (by decide +kernel) (fun _ _ _ h => h) hS0 (Or.inl ⟨by rfl, fun w' hS' => by obtain ⟨k1, k2⟩ := hS'; go_simp⟩) (fun inv' => ?_)
          clear inv; have inv := inv'; clear inv'
          try simp only [List.setIfInBounds_toArray, List.set_cons_zero, List.set_cons_succ]
          refine till_at 5 32 (.slice (some ⟨vb, vo, none⟩) n vc) inv rfl rfl (by decide) (by decide +kernel) (by decide +kernel) (fun _ _ _ h => h) hS0 (Or.inl ⟨by rfl, fun w' hS' => by obtain ⟨k1, k2⟩ := hS'; go_simp⟩) (fun inv' => ?_)
          clear inv; have inv := inv'; clear inv'
          try simp only [List.setIfInBounds_toArray, List.set_cons_zero, List.set_cons_succ]
          refine till_at 6 33 (.int .i64 (k : Nat)) inv rfl rfl (by decide) (by decide +kernel) (by decide +kernel) (fun _ _ _ h => h) hS0 (Or.inl ⟨by rfl, fun w' hS' => by obtain ⟨k1, k2⟩ := hS'; go_simp⟩) (fun inv' => ?_)
          clear inv; have inv := inv'; clear inv'
          try simp only [List.setIfInBounds_toArray, List.set_cons_zero, List.set_cons_succ]
          refine till_at 7 34 (.pointer (some ⟨vb, vo + k, none⟩)) inv rfl rfl (by decide) (by decide +kernel) (by decide +kernel) (fun _ _ _ h => h) hS0 (Or.inl ⟨by rfl, fun w' hS' => by obtain ⟨k1, k2⟩ := hS'; go_simp⟩) (fun inv' => ?_)
          clear inv; have inv := inv'; clear inv'
          try simp only [List.setIfInBounds_toArray, List.set_cons_zero, List.set_cons_succ]
          refine till_at 8 35 (.int .u8 (z1 : Nat)) inv rfl rfl (by decide) (by decide +kernel) (by decide +kernel) (fun _ _ _ h => h) hS0 (Or.inl ⟨by rfl, fun w' hS' => by obtain ⟨k1, k2⟩ := hS'; go_simp⟩) (fun inv' => ?_)
          clear inv; have inv := inv'; clear inv'
          try simp only [List.setIfInBounds_toArray, List.set_cons_zero, List.set_cons_succ]
          refine till_head (i := 9) inv (by decide +kernel) (by decide) rfl (fun KK hK => ?_)
          go_simp
          refine (H51.out _).mono ?_
          rintro e5 w5 ⟨rfl, hw⟩
          obtain rfl := hw.symm
          clear hw
          go_wp2_with fail
          refine hK.out _ _ (hS0) (fun inv' => ?_)
          clear hK KK inv; have inv := inv'; clear inv'
          try simp only [List.setIfInBounds_toArray, List.set_cons_zero, List.set_cons_succ]
          refine till_at 10 37 (.int .u8 (r1 : Nat)) inv rfl rfl (by decide) (by decide +kernel) (by decide +kernel) (fun _ _ _ h => h) hS0 (Or.inl ⟨by rfl, fun w' hS' => by obtain ⟨k1, k2⟩ := hS'; go_simp⟩) (fun inv' => ?_)
          clear inv; have inv := inv'; clear inv'
          try simp only [List.setIfInBounds_toArray, List.set_cons_zero, List.set_cons_succ]
          refine till_at 11 38 (.pointer (some ⟨g, i, none⟩)) inv rfl rfl (by decide) (by decide +kernel) (by decide +kernel) (fun _ _ _ h => h) hS0 (Or.inl ⟨by rfl, fun w' hS' => by obtain ⟨k1, k2⟩ := hS'; go_simp⟩) (fun inv' => ?_)
          clear inv; have inv := inv'; clear inv'
          try simp only [List.setIfInBounds_toArray, List.set_cons_zero, List.set_cons_succ]
          refine till_tail (i := 12) (by decide +kernel) (by decide) rfl (fun KK hK => ?_)
          rw [if_pos (by rfl)]
          go_simp
          refine hK.out _ _ ?_
          clear hK KK
          try simp only [List.setIfInBounds_toArray, List.set_cons_zero, List.set_cons_succ]
          refine till_done (by decide +kernel) ?_ _
          refine NoPanic.normal ?_
          go_wp2
          refine ⟨⟨i + 1, _, by omega, by first | rfl | (simp; done), HN⟩, ?_⟩
          simp [intOf]
          omega
        · obtain rfl : i = n := by omega
          have h1 : ¬ (i : Int) < (i : Int) := Int.lt_irrefl _
          have HI2 : Hid (Bx wr g 5 (fc (S (k + 1))) ∧ Below g w wr) := by
            obtain ⟨a1, a2, a3, a4⟩ := HT.out
            have e : T = S (k + 1) := by
              apply List.ext_getElem (by rw [a3, HSA.out.2.1])
              intro j h1 h2
              have q := a4 j (by omega)
              rw [if_pos (by omega)] at q
              rw [List.getD_eq_getElem?_getD, List.getD_eq_getElem?_getD, List.getElem?_eq_getElem h1, List.getElem?_eq_getElem h2] at q
              exact q
            rw [← e]
            exact ⟨a1, a2⟩
          clear HT
          go_wp2
          exact ⟨⟨k + 1, by omega, by go_num, HI2⟩, by simp [intOf]; omega⟩
    · obtain rfl : k = n := by omega
      have h1 : ¬ (k : Int) < (k : Int) := Int.lt_irrefl _
      go_wp2
      go_ret
      exact ⟨g, rfl, by rw [HBB.out]; exact Nat.le_refl _, HI.out.1, by rw [HBB.out]; exact HI.out.2⟩
end Go.Proofs.YtinmhgackihakaaDoor
namespace Go.Proofs.YtinmhgackihakaaDoor
open Go.RowKit
set_option linter.unusedVariables false
set_option linter.unusedSimpArgs false
set_option maxRecDepth 100000
/-- The polynomials where they lie: their coefficients, the highest power first. -/
structure PolI (LB n m : Nat) (C : Nat → List F) (p q : Nat → Nat) (u : World) : Prop where
  at' : ∀ i, i < n → u.cell? ⟨LB, i, none⟩ = some (.func (.func 40) #[] #[.pointer (some ⟨p i, 0, none⟩)])
  box : ∀ i, i < n → ∃ c, u.cell? ⟨p i, 0, none⟩ = some (.slice (some ⟨q i, 0, none⟩) m c)
  row : ∀ i, i < n → Rw u (q i) 0 (C i) ∧ (C i).length = m
theorem PolI.below {LB n m B : Nat} {C : Nat → List F} {p q : Nat → Nat} {u v : World} (h : PolI LB n m C p q u) (hB : u.heap.size ≤ B) (hv : Below B u v) : PolI LB n m C p q v :=
  have hc : ∀ a x, u.cell? a = some x → v.cell? a = some x := fun a x e => by rw [hv.cell (by have := World.block_lt_of_cell? _ _ e; omega)]; exact e
  ⟨fun i hi => hc _ _ (h.at' i hi), fun i hi => by obtain ⟨c, e⟩ := h.box i hi; exact ⟨c, hc _ _ e⟩, fun i hi => ⟨fun j hj => hc _ _ ((h.row i hi).1 j hj), (h.row i hi).2⟩⟩
set_option maxHeartbeats 1600000 in
/-- valuesAt. -/
theorem values_ok (LB n m c : Nat) (x : F) (C : Nat → List F) (p q : Nat → Nat) (w : World) (hn : n ≤ 1000) (hm : m ≤ 4000) (h : PolI LB n m C p q w) :
    Calls Tryd.prog 32 #[.int .u8 (x.1 : Nat), .slice (some ⟨LB, 0, none⟩) n c] w fun e w' => Hid (∃ g, e = .returned (.slice (some ⟨g, 0, none⟩) n n) ∧ w.heap.size ≤ g ∧ Bx w' g 5 (fc ((List.range n).map fun i => pv x (C i))) ∧ Below w.heap.size w w') := by
  obtain ⟨G, HG⟩ : ∃ G : Nat → F, Hid ((fun i => pv x (C i)) = G) := ⟨_, rfl⟩
  rw [HG.out]
  obtain ⟨i0, hi0, hz0, hz1, hz2⟩ := info_parts Tryd.infoB
  have HI0 : Hid (Tryd.prog.info? 5 = some i0 ∧ i0.zero = some (.int .u8 0) ∧ i0.size = 1 ∧ i0.bytes = 1) := ⟨hi0, hz0, hz1, hz2⟩
  have HMF : Hid (i0.bytes * n ≤ 281474976710656 ∧ n ≤ maxLen) := made_few i0.bytes n n 1 (by decide) HI0.out.2.2.2 (by omega)
  have HP : Hid (PolI LB n m C p q w) := h
  obtain ⟨g, HBB⟩ : ∃ g, Hid (w.heap.size = g) := ⟨_, rfl⟩
  clear hi0 hz0 hz1 hz2 h
  go_enter Tryd.func32, Tryd.ntmps32
  go_wp2_with (first
    | (at_make; go_must (refine wpList_make_full _ rfl _ _ 23 rfl w.heap.size 5 i0 (.int .u8 0) 1 Tryd.underlying23 HI0.out.1 HI0.out.2.1 HI0.out.2.2.1 .i64 .i64 (n : Nat) (n : Nat) n rfl rfl rfl rfl HMF.out.1 HMF.out.2 (Nat.le_refl _) ?_; intro w2 hown hgrow; have hlo : Below w.heap.size w w2 := ⟨hgrow.os, hgrow.tape, hgrow.output, hgrow.size, fun c hc => hgrow.block c hc (by simp)⟩; have HX2 : Hid ((∃ cu, Bx w2 g 5 cu ∧ Cu n 0 G cu) ∧ Below g w w2) := (by rw [← HBB.out]; exact ⟨⟨_, (own_full1 hown).1, by rw [show (Value.int .u8 0).cells = #[.int .u8 0] from rfl, Nat.mul_one, toList_madeCells_one]; exact Cu.zero n G⟩, hlo⟩); clear hown hgrow hlo)))
  rw [HBB.out]
  go_loopw [13] (fun vi wr => ∃ k : Nat, k ≤ n ∧ vi = .int .i64 (k : Nat) ∧ Hid ((∃ cu, Bx wr g 5 cu ∧ Cu n k G cu) ∧ Below g w wr)) (fun vi _ => n - (intOf vi).toNat)
  case atStart => exact ⟨0, by omega, rfl, HX2.out⟩
  case round =>
    obtain ⟨k, hk, rfl, HI⟩ := hrel
    clear HX2
    by_cases hlt : k < n
    · obtain ⟨⟨cu, hcu, hC⟩, hbl⟩ := HI.out
      obtain ⟨y, hy⟩ := hC.2.2 k hlt
      have c0 : wr.cell? ⟨g, k, none⟩ = some (.int .u8 y) := hcu.cell k _ hy
      have f0 : wr.frozen? ⟨g, k, none⟩ = false := hcu.frozen k
      have HP2 : PolI LB n m C p q wr := HP.out.below (Nat.le_of_eq HBB.out) hbl
      obtain ⟨pk, HPK⟩ : ∃ z, Hid (p k = z) := ⟨_, rfl⟩
      have c1 : wr.cell? ⟨LB, k, none⟩ = some (.func (.func 40) #[] #[.pointer (some ⟨pk, 0, none⟩)]) := by rw [← HPK.out]; exact HP2.at' k hlt
      have g0 : (0 : Int) ≤ (k : Int) := by omega
      have g1 : (k : Int) < (n : Int) := by omega
      have H1 : Hid (Calls Tryd.prog 40 #[.int .u8 (x.1 : Nat), .pointer (some ⟨pk, 0, none⟩)] wr fun e w' => e = .returned (.int .u8 ((G k).1 : Nat)) ∧ w' = wr) := by
        obtain ⟨c', hc'⟩ := HP2.box k hlt
        rw [HPK.out] at hc'
        rw [← HG.out]
        exact poly_ok x pk (q k) 0 c' (C k) wr (by rw [(HP2.row k hlt).2]; exact hc') (by rw [(HP2.row k hlt).2]; exact hm) (HP2.row k hlt).1
      have HN2 : Hid ((∃ cu, Bx (wr.setCell ⟨g, k, none⟩ (.int .u8 ((G k).1 : Nat))) g 5 cu ∧ Cu n (k + 1) G cu) ∧ Below g w (wr.setCell ⟨g, k, none⟩ (.int .u8 ((G k).1 : Nat)))) := ⟨⟨_, hcu.set k _, hC.next hlt⟩, hbl.setCell (Nat.le_refl _) _⟩
      generalize (G k).1 = ek at H1 HN2
      clear hcu hC hbl HI HP2
      go_wp2_with (first
        | (go_at_call 40; refine H1.out.mono ?_; rintro e1 w1 ⟨rfl, hw⟩; obtain rfl := hw.symm; clear hw H1))
      go_roundw
      case rel => exact ⟨k + 1, by omega, by go_num, HN2.out⟩
      case measure => simp [intOf]; omega
    · obtain rfl : k = n := by omega
      obtain ⟨⟨cu, hcu, hC⟩, hbl⟩ := HI.out
      have h1 : ¬ (k : Int) < (k : Int) := Int.lt_irrefl _
      have HC : Hid (Bx wr g 5 (fc ((List.range k).map G)) ∧ Below g w wr) := by rw [← hC.all]; exact ⟨hcu, hbl⟩
      clear hcu hC hbl HI
      go_wp2
      go_ret
      exact ⟨g, rfl, by rw [HBB.out]; exact Nat.le_refl _, HC.out.1, by rw [HBB.out]; exact HC.out.2⟩
end Go.Proofs.YtinmhgackihakaaDoor
namespace Go.Proofs.YtinmhgackihakaaDoor
open Go.RowKit
set_option linter.unusedVariables false
set_option linter.unusedSimpArgs false
set_option maxRecDepth 100000
/-- Some cells of a box are written. -/
theorem Bx.over {w : World} {b : Nat} {t : TypeId} {A B D : List Value} (cs : List Value) (h : Bx w b t (A ++ B ++ D)) (hl : cs.length = B.length) : Bx (w.setCells b A.length cs) b t (A ++ cs ++ D) := by
  obtain ⟨r, h1, h2, h3⟩ := setCells_bo b t cs A.length w _ h
  have e : r = (A ++ cs ++ D).toArray := by
    apply Array.ext_getElem?
    intro j
    rw [h3]
    simp only [List.size_toArray, List.getElem?_toArray]
    by_cases ha : j < A.length
    · rw [if_neg (by omega), List.append_assoc, List.append_assoc, List.getElem?_append_left ha, List.getElem?_append_left ha]
    · by_cases hb : j < A.length + B.length
      · rw [if_pos ⟨by omega, by omega, by simp; omega⟩, List.getElem?_append_left (by simp; omega), List.getElem?_append_right (by omega)]
      · rw [if_neg (by omega), List.getElem?_append_right (by simp; omega), List.getElem?_append_right (by simp; omega)]
        congr 1
        simp [hl]
  unfold Bx
  rw [h1, e]
theorem infoB1 : (Tryd.prog.info? 5).map (·.size) = some 1 := by kernel_rfl
/-- copy of a row into a box. -/
theorem wpList_copy_bx {ops : Array Oper} {rest : List Oper} {o : Oper} {a : Act} {Q : Exit → Act → World → Prop} {w : World} (hgd : o.guard = none) (d s : Operand)
    (ho : o.op = .call { callee := .builtin .copy, args := #[d, s], argTypes := #[23, 23] }) (g off dl dc : Nat) (hd : a.eval d = .slice (some ⟨g, off, none⟩) dl dc)
    (sb so n sc : Nat) (l : List F) (hs : a.eval s = .slice (some ⟨sb, so, none⟩) n sc) (hl : l.length = n) (hr : Rw w sb so l) (hnd : n ≤ dl)
    (A B D : List Value) (hA : A.length = off) (hB : B.length = n) (hb : Bx w g 5 (A ++ B ++ D))
    (h : ∀ u, Bx u g 5 (A ++ fc l ++ D) → w.grownBy u (some g) → wpList Tryd.prog ops Q rest (a.put o.dst (.int .i64 (n : Nat))) u) : wpList Tryd.prog ops Q (o :: rest) a w :=
  wpList_plain hgd fun _ hK => by
    have e := run_copy_cells (P := Tryd.prog) w 23 23 o.type 5 g off dl dc ⟨sb, so, none⟩ n sc (fc l) Tryd.underlying23 infoB1 (by rw [fc_len, hl]; exact (Nat.min_eq_left hnd).symm) (fun j u hu => by
      have hj : j < l.length := by have := (List.getElem?_eq_some_iff.1 hu).1; rw [fc_len] at this; exact this
      rw [fc_at l j hj] at hu
      injection hu with hu
      rw [← hu, show (⟨sb, so, none⟩ : Addr).add j = ⟨sb, so + j, none⟩ by unfold Addr.add; split <;> simp_all]
      exact hr j hj) (fun j hj => by
        rw [fc_len] at hj
        have q : (A ++ B ++ D)[off + j]? = some ((A ++ B ++ D)[off + j]'(by simp; omega)) := List.getElem?_eq_getElem _
        rw [hb.cell _ _ q]; rfl) (fun j hj => hb.frozen _) (fc_one l)
    rw [fc_len, hl] at e
    have q1 : Bx (w.setCells g off (fc l)) g 5 (A ++ fc l ++ D) := by rw [← hA]; exact hb.over (fc l) (by rw [fc_len, hl, hB])
    unfold Oper.wp execOp
    simp only [ho, resolve, invoke, builtin, Sem.run_bind, Sem.run_pure, Result.andThen_ok, List.map_toArray, List.map_cons, List.map_nil, hs, hd, e]
    exact hK _ _ (h _ q1 (setCells_gb g _ off w))
theorem upd_box {w w2 u : World} {b : Nat} {o : Obj} {L R : List Value} (h1 : Bx w2 b 5 L) (h2 : Below w.heap.size w w2) (hb : Bx u w2.heap.size 104 R) (hg : (w2.alloc o).grownBy u (some w2.heap.size)) : Bx u w2.heap.size 104 R ∧ Bx u b 5 L ∧ Below w.heap.size w u ∧ b < w2.heap.size ∧ w.heap.size ≤ w2.heap.size := by
  have ha : Below w2.heap.size w2 (w2.alloc o) := (Below.refl _ _).alloc (Nat.le_refl _) _
  have hs : Below w2.heap.size (w2.alloc o) u := below_gb hg (by have := ha.size; omega) (Nat.le_refl _)
  have hz := ha.trans hs
  exact ⟨hb, h1.below hz, h2.trans (hz.mono h2.size), h1.lt, h2.size⟩
theorem fc_appD (a b : List F) : fc (a ++ b) = fc a ++ fc b := by simp [fc]
theorem gb_below {w u : World} {b : Nat} (h : Below w.heap.size w u) : w.grownBy u (some b) := ⟨h.os, h.tape, h.output, h.size, fun k hk _ => h.block k hk⟩
theorem bx_rw9 {w : World} {b t : Nat} {l : List F} (h : Bx w b t (fc l)) : Rw w b 0 l := fun i hi => by
  rw [Nat.zero_add]
  exact h.cell i _ (fc_at l i hi)
theorem pw4_fc : fc pw4 = fc ((List.range 4).map Em) := rfl
set_option maxHeartbeats 3200000 in
/-- writeCode. -/
theorem code_ok (b n c N : Nat) (l : List F) (w : World) (hl : l.length = n) (hN : N = n + 4) (hn : n ≤ 900) (hc : N ≤ c) (hc2 : c ≤ 9223372036854775807) (h : Bx w b 5 (fc (l ++ [0, 0, 0, 0]))) :
    Calls Tryd.prog 46 #[.slice (some ⟨b, 0, none⟩) N c] w fun e w' => Hid (e = .returned (.tuple #[]) ∧ Bx w' b 5 (fc (l ++ codeL l)) ∧ w.grownBy w' (some b)) := by
  obtain ⟨L, HL⟩ : ∃ q : List F, Hid (l ++ [0, 0, 0, 0] = q) := ⟨l ++ [0, 0, 0, 0], show l ++ [0, 0, 0, 0] = _ from rfl⟩
  have HLL : Hid (L.length = N) := by show L.length = N; rw [← HL.out]; simp; omega
  obtain ⟨VS, HVS⟩ : ∃ q : List F, Hid (sumL L = q) := ⟨_, rfl⟩
  have HV4 : Hid (VS.length = 4 ∧ thruL pw4 VS 4 = codeL l) := by
    rw [← HVS.out, ← HL.out]
    exact ⟨by simp [sumL], rfl⟩
  have HBL : Hid (Bx w b 5 (fc L)) := by rw [← HL.out]; exact h
  have H66 : Hid (Calls Tryd.prog 61 #[.slice (some ⟨b, 0, none⟩) N c] w fun e w' => Hid (e = .returned (.agg (fc VS).toArray) ∧ Below w.heap.size w w')) := by
    have q := sumsOf_ok b 0 c L w (by rw [HLL.out]; omega) (bx_rw HBL.out) HBL.out.lt
    rw [HLL.out, HVS.out] at q
    exact q
  have HLN : Hid ((fc VS).length = 4 ∧ ∀ v ∈ fc VS, v.oneCell' = true) := ⟨by rw [fc_len]; exact HV4.out.1, fc_one _⟩
  have hi7 : (Tryd.prog.info? 104).map (·.size) = some (fc VS).length := by rw [HLN.out.1]; kernel_rfl
  obtain ⟨R, HR⟩ : ∃ R, Hid (fc VS = R) := ⟨_, rfl⟩
  rw [HR.out] at H66 HLN hi7
  have HlN : Hid (l.length = n) := hl
  clear h hl hN
  go_enter Tryd.func46, Tryd.ntmps46
  go_upto_region 1 with (first
    | (go_at_call 61; refine H66.out.mono ?_; intro e2 w2 hh; obtain ⟨rfl, h1⟩ := hh.out; have HB2 : Hid (Bx w2 b 5 (fc L) ∧ Below w.heap.size w w2) := ⟨HBL.out.below h1, h1⟩; clear hh h1 H66)
    | (refine wpList_store_bx (by rfl) 104 (.tmp 2) (.tmp 5) (by rfl) [.int .u8 0, .int .u8 0, .int .u8 0, .int .u8 0] R w2.heap.size (by rfl) (by rfl) (Bx.new w2 104 _) (by rw [HLN.out.1]; rfl) hi7 HLN.out.2 ?_; intro u3 hb3 hg3; have HB3 : Hid (Bx u3 w2.heap.size 104 R ∧ Bx u3 b 5 (fc L) ∧ Below w.heap.size w u3 ∧ b < w2.heap.size ∧ w.heap.size ≤ w2.heap.size) := upd_box HB2.out.1 HB2.out.2 hb3 hg3; clear hb3 hg3)
    | fail)
  obtain ⟨M, HMM⟩ : ∃ M, Hid (w2.heap.size = M) := ⟨_, rfl⟩
  rw [HMM.out] at HB3 ⊢
  clear HLN hi7
  obtain ⟨W, HWW⟩ : ∃ W, Hid (w.heap.size = W) := ⟨_, rfl⟩
  have HBM : Hid (b < M ∧ N ≤ c ∧ c ≤ 9223372036854775807 ∧ n ≤ 900 ∧ L.length = N ∧ W ≤ M) := ⟨HB3.out.2.2.2.1, hc, hc2, hn, HLL.out, by have := HB3.out.2.2.2.2; have := HWW.out; omega⟩
  rw [HWW.out] at HB3
  clear HB2
  have H69 : Hid (∀ u, Calls Tryd.prog 62 #[.int .i64 4] u fun e w' => Hid (∃ p, e = .returned (.slice (some ⟨p, 0, none⟩) 4 4) ∧ u.heap.size ≤ p ∧ Bx w' p 5 (fc pw4) ∧ Below u.heap.size u w')) := fun u => powers_ok 4 (by decide) u
  have hS0 : Bx u3.drew M 104 R ∧ Bx u3.drew b 5 (fc L) ∧ Below W w u3.drew ∧ M < u3.drew.heap.size := ⟨HB3.out.1, HB3.out.2.1, HB3.out.2.2.1.drew, HB3.out.1.lt⟩
  clear HB3
  refine wp_region_noPanic ?_
  refine wp_region_till (fun u => Bx u M 104 R ∧ Bx u b 5 (fc L) ∧ Below W w u ∧ M < u.heap.size) 4 (by kernel_rfl) (by decide) (by decide +kernel) (by decide +kernel) (by decide +kernel) (fun inv => ?_)
  refine till_at 2 8 (.slice (some ⟨M, 0, none⟩) 4 4) inv rfl rfl (by decide) (by decide +kernel) (by decide +kernel) (fun _ _ _ h => h) hS0 (Or.inl ⟨by rfl, fun w' hS' => by go_simp⟩) (fun inv' => ?_)
  clear inv; have inv := inv'; clear inv'
  try simp only [List.setIfInBounds_toArray, List.set_cons_zero, List.set_cons_succ]
  refine till_head (i := 0) inv (by decide +kernel) (by decide) rfl (fun KK hK => ?_)
  go_simp
  refine (H69.out _).mono ?_
  intro e4 w4 hh
  obtain ⟨p4, rfl, h1, h2, h3⟩ := hh.out
  have hS1 : Bx w4 M 104 R ∧ Bx w4 b 5 (fc L) ∧ Below W w w4 ∧ M < w4.heap.size := ⟨hS0.1.below h3, hS0.2.1.below h3, hS0.2.2.1.trans (h3.mono (by have := hS0.2.2.2; have := HBM.out.2.2.2.2.2; omega)), by have := h3.size; have := hS0.2.2.2; omega⟩
  have HP4 : Hid (Bx w4 p4 5 (fc pw4)) := h2
  clear hh h1 h2 h3
  go_wp2_with fail
  refine hK.out _ _ (hS1) (fun inv' => ?_)
  clear hK KK inv; have inv := inv'; clear inv'
  try simp only [List.setIfInBounds_toArray, List.set_cons_zero, List.set_cons_succ]
  refine till_head (i := 1) inv (by decide +kernel) (by decide) rfl (fun KK hK => ?_)
  go_simp
  refine (peaks_ok p4 0 4 4 pw4 w4 rfl (by decide) (bx_rw HP4.out) HP4.out.lt).mono ?_
  intro e5 w5 hh
  obtain ⟨p5, rfl, h1, h2⟩ := hh.out
  have HP5 : Hid (PkI w4.heap.size p5 4 4 pw4 w4 w5) := h2
  have h3 := h2.bel
  have hS2 : Bx w5 M 104 R ∧ Bx w5 b 5 (fc L) ∧ Below W w w5 ∧ M < w5.heap.size := ⟨hS1.1.below h3, hS1.2.1.below h3, hS1.2.2.1.trans (h3.mono (by have := hS1.2.2.2; have := HBM.out.2.2.2.2.2; omega)), by have := h3.size; have := hS1.2.2.2; omega⟩
  clear hh h1 h2 h3 HP4
  go_wp2_with fail
  refine hK.out _ _ (hS2) (fun inv' => ?_)
  clear hK KK inv; have inv := inv'; clear inv'
  try simp only [List.setIfInBounds_toArray, List.set_cons_zero, List.set_cons_succ]
  refine till_head (i := 3) inv (by decide +kernel) (by decide) rfl (fun KK hK => ?_)
  go_simp
  refine (through_ok p5 4 M 0 4 _ pw4 VS w4 w5 (by decide) HP5.out (bx_rw9 (by rw [HR.out]; exact hS2.1)) HV4.out.1 rfl hS2.2.2.2).mono ?_
  intro e6 w6 hh
  obtain ⟨p6, rfl, h1, h2, h3⟩ := hh.out
  have HP6 : Hid (Bx w6 p6 5 (fc (codeL l)) ∧ M < p6) := ⟨by rw [← HV4.out.2]; exact h2, by have := hS2.2.2.2; omega⟩
  have hS3 : Bx w6 M 104 R ∧ Bx w6 b 5 (fc L) ∧ Below W w w6 ∧ M < w6.heap.size := ⟨hS2.1.below h3, hS2.2.1.below h3, hS2.2.2.1.trans (h3.mono (by have := hS2.2.2.2; have := HBM.out.2.2.2.2.2; omega)), by have := h3.size; have := hS2.2.2.2; omega⟩
  clear hh h1 h2 h3 HP5
  go_wp2_with fail
  refine hK.out _ _ (hS3) (fun inv' => ?_)
  clear hK KK inv; have inv := inv'; clear inv'
  try simp only [List.setIfInBounds_toArray, List.set_cons_zero, List.set_cons_succ]
  refine till_tail (i := 4) (by decide +kernel) (by decide) rfl (fun KK hK => ?_)
  go_simp
  refine hK.out _ _ ?_
  clear hK KK
  try simp only [List.setIfInBounds_toArray, List.set_cons_zero, List.set_cons_succ]
  refine till_done (by decide +kernel) ?_ _
  refine NoPanic.normal ?_
  have HF : Hid (Bx w6 b 5 (fc l ++ fc [0, 0, 0, 0] ++ []) ∧ Below W w w6) := ⟨by rw [List.append_nil, ← fc_appD, HL.out]; exact hS3.2.1, hS3.2.2.1⟩
  have HNn : Hid (N = n + 4 ∧ l.length = n) := ⟨by have h1 := HLL.out; rw [← HL.out] at h1; simp at h1; have := HlN.out; omega, HlN.out⟩
  clear hS0 hS1 hS2 hS3
  have g1 : (0 : Int) ≤ (N : Int) - 4 := by have := HNn.out; omega
  have g2 : (N : Int) - 4 ≤ (N : Int) := by omega
  have g3 : (N : Int) ≤ (c : Int) := by have := HBM.out; omega
  go_wp2_with (first
    | (refine wpList_copy_bx (by rfl) (.tmp 16) (.tmp 17) (by rfl) b (N - 4) (N - (N - 4)) (c - (N - 4)) (by rfl) p6 0 4 4 (codeL l) (by rfl) (codeL_len l) (bx_rw HP6.out.1) (by have := HNn.out; omega) (fc l) (fc [0, 0, 0, 0]) [] (by rw [fc_len]; have := HNn.out; omega) rfl HF.out.1 ?_; intro u7 h7 g7; have HE : Hid (Bx u7 b 5 (fc (l ++ codeL l)) ∧ w.grownBy u7 (some b)) := ⟨by rw [fc_appD]; rw [List.append_nil] at h7; exact h7, gb_trans (gb_below (by rw [HWW.out]; exact HF.out.2)) g7⟩; clear h7 g7))
  exact bodyPost_end (results_none rfl _ _ _) rfl ⟨rfl, HE.out.1, HE.out.2⟩
end Go.Proofs.YtinmhgackihakaaDoor
namespace Go.Proofs.YtinmhgackihakaaDoor
open Go.RowKit
set_option linter.unusedVariables false
set_option linter.unusedSimpArgs false
set_option maxRecDepth 100000
theorem twob_ok (sn : Nat) (b0 b1 : F) (hs : Hid (b0.1 * 256 + b1.1 = sn)) (w : World) : Calls Tryd.prog 39 #[.int .u16 (sn : Nat)] w fun e w' => Hid (e = .returned (.slice (some ⟨w.heap.size, 0, none⟩) 2 2) ∧ Bx w' w.heap.size 5 (fc [b0, b1]) ∧ Below w.heap.size w w') := by
  have h0 := b0.2
  have h1 := b1.2
  have h2 := hs.out
  have HE : Hid ((sn : Int) / 256 = ((b0.1 : Nat) : Int) ∧ (sn : Int) % 256 = ((b1.1 : Nat) : Int) ∧ ((b0.1 : Nat) : Int) % 256 = ((b0.1 : Nat) : Int)) := ⟨by omega, by omega, by omega⟩
  clear h0 h1 h2
  go_enter Tryd.func39, Tryd.ntmps39
  go_wp2
  go_ret
  rw [HE.out.1, HE.out.2.1]
  try rw [HE.out.2.2]
  exact ⟨rfl, Bx.new w 5 _, (Below.refl _ _).alloc (Nat.le_refl _) _⟩
theorem fc_apps (a b : List F) : fc (a ++ b) = fc a ++ fc b := by simp [fc]
theorem fc_repl (a b : Nat) : fc (List.replicate (a + b) 0) = fc (List.replicate a 0) ++ fc (List.replicate b 0) := by rw [← fc_apps, List.replicate_append_replicate]
theorem step_copy_bx {o : Oper} {a : Act} {K : Act → World → Prop} {Q : Exit → Act → World → Prop} {w : World} (d s : Operand)
    (ho : o.op = .call { callee := .builtin .copy, args := #[d, s], argTypes := #[23, 23] }) (g off dl dc : Nat) (hd : a.eval d = .slice (some ⟨g, off, none⟩) dl dc)
    (sb so n sc : Nat) (l : List F) (hs : a.eval s = .slice (some ⟨sb, so, none⟩) n sc) (hl : l.length = n) (hr : Rw w sb so l) (hnd : n ≤ dl)
    (A B D : List Value) (hA : A.length = off) (hB : B.length = n) (hb : Bx w g 5 (A ++ B ++ D))
    (h : ∀ u, Bx u g 5 (A ++ fc l ++ D) → w.grownBy u (some g) → K (a.put o.dst (.int .i64 (n : Nat))) u) : Oper.wp Tryd.prog o a w K Q := by
  have e := run_copy_cells (P := Tryd.prog) w 23 23 o.type 5 g off dl dc ⟨sb, so, none⟩ n sc (fc l) Tryd.underlying23 infoB1 (by rw [fc_len, hl]; exact (Nat.min_eq_left hnd).symm) (fun j u hu => by
    have hj : j < l.length := by have := (List.getElem?_eq_some_iff.1 hu).1; rw [fc_len] at this; exact this
    rw [fc_at l j hj] at hu
    injection hu with hu
    rw [← hu, show (⟨sb, so, none⟩ : Addr).add j = ⟨sb, so + j, none⟩ by unfold Addr.add; split <;> simp_all]
    exact hr j hj) (fun j hj => by
      rw [fc_len] at hj
      have q : (A ++ B ++ D)[off + j]? = some ((A ++ B ++ D)[off + j]'(by simp; omega)) := List.getElem?_eq_getElem _
      rw [hb.cell _ _ q]; rfl) (fun j hj => hb.frozen _) (fc_one l)
  rw [fc_len, hl] at e
  have q1 : Bx (w.setCells g off (fc l)) g 5 (A ++ fc l ++ D) := by rw [← hA]; exact hb.over (fc l) (by rw [fc_len, hl, hB])
  unfold Oper.wp execOp
  simp only [ho, resolve, invoke, builtin, Sem.run_bind, Sem.run_pure, Result.andThen_ok, List.map_toArray, List.map_cons, List.map_nil, hs, hd, e]
  exact h _ q1 (setCells_gb g _ off w)
/-- newRow's memory. -/
structure NrI (M g vb : Nat) (TD : List Value) (vs : List F) (w : World) (cs : List Value) (u : World) : Prop where
  bx : Bx u g 5 cs
  td : Bx u M 64 TD
  vv : Bx u vb 5 (fc vs)
  bel : Below M w u
  lt : vb < M ∧ M < g
theorem NrI.below {M g vb : Nat} {TD : List Value} {vs : List F} {w : World} {cs : List Value} {u v : World} (h : NrI M g vb TD vs w cs u) (hv : Below u.heap.size u v) : NrI M g vb TD vs w cs v :=
  ⟨h.bx.below hv, h.td.below hv, h.vv.below hv, h.bel.trans (hv.mono (Nat.le_of_lt h.td.lt)), h.lt⟩
theorem NrI.write {M g vb : Nat} {TD : List Value} {vs : List F} {w : World} {cs cs' : List Value} {u v : World} (h : NrI M g vb TD vs w cs u) (hb : Bx v g 5 cs') (hg : u.grownBy v (some g)) : NrI M g vb TD vs w cs' v :=
  ⟨hb, h.td.keep (hg.block M h.td.lt (fun e => by injection e with e; have := h.lt; omega)), h.vv.keep (hg.block vb h.vv.lt (fun e => by injection e with e; have := h.lt; omega)), h.bel.trans (below_gb hg (Nat.le_of_lt h.td.lt) (by have := h.lt; omega)), h.lt⟩
set_option maxHeartbeats 3200000 in
/-- newRow. -/
theorem newRow_ok (sn nd ix s U N vb vc : Nat) (b0 b1 bn bi bs : F) (vs : List F) (w : World) (hs : Hid (b0.1 * 256 + b1.1 = sn)) (hbn : Hid (bn.1 = nd)) (hbi : Hid (bi.1 = ix)) (hbs : Hid (bs.1 = s)) (hU : Hid (U = unc s ∧ N = U + 4 ∧ vs.length = s + 4)) (hv : Hid (Bx w vb 5 (fc vs))) :
    Calls Tryd.prog 31 #[.agg #[.int .u16 (sn : Nat), .int .i64 (nd : Nat), .int .i64 (ix : Nat), .int .i64 (s : Nat)], .slice (some ⟨vb, 0, none⟩) (s + 4) vc] w fun e w' => Hid (∃ g, e = .returned (.slice (some ⟨g, 0, none⟩) N N) ∧ w.heap.size ≤ g ∧ (∃ hd, hd = [b0, b1, bn, bi, bs] ++ vs ++ List.replicate ((9 + s) % 2) 0 ∧ Bx w' g 5 (fc (hd ++ codeL hd))) ∧ Below w.heap.size w w') := by
  have HSS : Hid (s < 256 ∧ U = 9 + s + (9 + s) % 2 ∧ N = U + 4 ∧ nd < 256 ∧ ix < 256 ∧ unc s = U) := by
    have := bs.2; have := bn.2; have := bi.2; have := hbs.out; have := hbn.out; have := hbi.out
    have h2 := hU.out
    have h3 := h2.1
    unfold unc at h3
    exact ⟨by omega, h3, h2.2.1, by omega, by omega, h2.1.symm⟩
  obtain ⟨i0, hi0, hz0, hz1, hz2⟩ := info_parts Tryd.infoB
  have HI0 : Hid (Tryd.prog.info? 5 = some i0 ∧ i0.zero = some (.int .u8 0) ∧ i0.size = 1 ∧ i0.bytes = 1) := ⟨hi0, hz0, hz1, hz2⟩
  have HMF : Hid (i0.bytes * N ≤ 281474976710656 ∧ N ≤ maxLen) := made_few i0.bytes N N 1 (by decide) HI0.out.2.2.2 (by have := HSS.out; omega)
  have H56 : Hid (∀ u, Calls Tryd.prog 45 #[.int .i64 (s : Nat)] u fun e w' => e = .returned (.int .i64 (N : Nat)) ∧ w' = u) := fun u => by
    have q := rowSize_ok s (by have := HSS.out; omega) u
    rw [HSS.out.2.2.2.2.2, ← HSS.out.2.2.1] at q
    exact q
  have H49 : Hid (∀ u, Calls Tryd.prog 39 #[.int .u16 (sn : Nat)] u fun e w' => Hid (e = .returned (.slice (some ⟨u.heap.size, 0, none⟩) 2 2) ∧ Bx w' u.heap.size 5 (fc [b0, b1]) ∧ Below u.heap.size u w')) := fun u => twob_ok sn b0 b1 hs u
  obtain ⟨M, HMM⟩ : ∃ M, Hid (w.heap.size = M) := ⟨_, rfl⟩
  obtain ⟨TD, HTD⟩ : ∃ q : List Value, Hid ([.int .u16 (sn : Nat), .int .i64 (nd : Nat), .int .i64 (ix : Nat), .int .i64 (s : Nat)] = q) := ⟨_, rfl⟩
  obtain ⟨w1, hw1⟩ : ∃ w1, w1 = w.alloc (.cells #[.int .u16 (sn : Nat), .int .i64 (nd : Nat), .int .i64 (ix : Nat), .int .i64 (s : Nat)] 64) := ⟨_, rfl⟩
  have HW1 : Hid (Bx w1 M 64 TD ∧ Below M w w1 ∧ Bx w1 vb 5 (fc vs) ∧ vb < M) := by
    have hb0 : Below w.heap.size w w1 := by rw [hw1]; exact (Below.refl _ _).alloc (Nat.le_refl _) _
    rw [← HMM.out, ← HTD.out]
    exact ⟨by rw [hw1]; exact Bx.new w 64 _, hb0, hv.out.below hb0, hv.out.lt⟩
  have HTC : Hid (∀ u, Bx u M 64 TD → u.cell? ⟨M, 0, none⟩ = some (.int .u16 (sn : Nat)) ∧ u.cell? ⟨M, 1, none⟩ = some (.int .i64 (nd : Nat)) ∧ u.cell? ⟨M, 2, none⟩ = some (.int .i64 (ix : Nat)) ∧ u.cell? ⟨M, 3, none⟩ = some (.int .i64 (s : Nat))) := fun u h => by
    rw [← HTD.out] at h
    exact ⟨h.cell 0 _ rfl, h.cell 1 _ rfl, h.cell 2 _ rfl, h.cell 3 _ rfl⟩
  obtain ⟨E, HE⟩ : ∃ q, Hid ((9 + s) % 2 = q) := ⟨_, rfl⟩
  have HNE : Hid (N = 2 + (3 + ((s + 4) + (E + 4))) ∧ N ≤ 600 ∧ vs.length = s + 4) := ⟨by have := HSS.out; have := HE.out; omega, by have := HSS.out; have := HE.out; omega, hU.out.2.2⟩
  have c3 := (HTC.out w1 HW1.out.1).2.2.2
  clear hi0 hz0 hz1 hz2
  go_enter Tryd.func31, Tryd.ntmps31
  go_upto_region 1 with fail
  rw [← hw1, HMM.out]
  clear hw1
  go_upto_region 2 with (first
    | (go_at_call 45; refine (H56.out _).mono ?_; rintro e1 w9 ⟨rfl, hw⟩; obtain rfl := hw.symm; clear hw H56)
    | (at_make; go_must (refine wpList_make_full _ rfl _ _ 23 rfl w1.heap.size 5 i0 (.int .u8 0) 1 Tryd.underlying23 HI0.out.1 HI0.out.2.1 HI0.out.2.2.1 .i64 .i64 (N : Nat) (N : Nat) N rfl rfl rfl rfl HMF.out.1 HMF.out.2 (Nat.le_refl _) ?_; intro w2 hown hgrow; have hlo : Below w1.heap.size w1 w2 := ⟨hgrow.os, hgrow.tape, hgrow.output, hgrow.size, fun c hc => hgrow.block c hc (by simp)⟩; have HX2 : Hid (NrI M w1.heap.size vb TD vs w (fc (List.replicate N 0)) w2) := ⟨by rw [fc_repD]; have q := (own_full1 hown).1; rw [show (Value.int .u8 0).cells = #[.int .u8 0] from rfl, Nat.mul_one, toList_madeCells_one] at q; exact q, HW1.out.1.below hlo, HW1.out.2.2.1.below hlo, HW1.out.2.1.trans (hlo.mono (Nat.le_of_lt HW1.out.1.lt)), HW1.out.2.2.2, HW1.out.1.lt⟩; clear hown hgrow hlo))
    | fail)
  obtain ⟨g, HG⟩ : ∃ g, Hid (w1.heap.size = g) := ⟨_, rfl⟩
  rw [HG.out] at HX2 ⊢
  have HGW : Hid (M < g) := HX2.out.lt.2
  clear c3 HW1
  have HC1 : Hid (NrI M g vb TD vs w ([] ++ fc (List.replicate 2 0) ++ fc (List.replicate (3 + ((s + 4) + (E + 4))) 0)) w2) := by
    rw [List.nil_append, ← fc_repl, ← HNE.out.1]; exact HX2.out
  clear HX2
  have c0 := (HTC.out w2 HC1.out.td).1
  go_upto_region 3 with (first
    | (go_at_call 39; refine (H49.out _).mono ?_; intro e4 w4 h4; obtain ⟨rfl, h5, h6⟩ := h4.out; have HC4 : Hid (NrI M g vb TD vs w ([] ++ fc (List.replicate 2 0) ++ fc (List.replicate (3 + ((s + 4) + (E + 4))) 0)) w4 ∧ Bx w4 w2.heap.size 5 (fc [b0, b1])) := ⟨HC1.out.below h6, h5⟩; clear h4 h5 h6 H49)
    | (refine wpList_copy_bx (by rfl) (.tmp 10) (.tmp 13) (by rfl) g 0 N N (by rfl) w2.heap.size 0 2 2 [b0, b1] (by rfl) rfl (bx_rw HC4.out.2) (by have := HNE.out.1; omega) [] (fc (List.replicate 2 0)) (fc (List.replicate (3 + ((s + 4) + (E + 4))) 0)) rfl rfl HC4.out.1.bx ?_; intro u5 h5 g5; have HC5 : Hid (NrI M g vb TD vs w (fc [b0, b1] ++ fc (List.replicate (3 + ((s + 4) + (E + 4))) 0)) u5) := HC4.out.1.write h5 g5; clear h5 g5)
    | fail)
  clear HC1 HC4 c0
  obtain ⟨R3, HR3⟩ : ∃ q : List Value, Hid (fc [b0, b1] ++ fc (List.replicate (3 + ((s + 4) + (E + 4))) 0) = q) := ⟨_, rfl⟩
  rw [HR3.out] at HC5
  have n1 : IntKind.u8.wrap (nd : Int) = (nd : Int) := wraps_u8 _ (by omega) (by have := HSS.out; omega)
  have n2 : IntKind.u8.wrap (ix : Int) = (ix : Int) := wraps_u8 _ (by omega) (by have := HSS.out; omega)
  have n3 : IntKind.u8.wrap (s : Int) = (s : Int) := wraps_u8 _ (by omega) (by have := HSS.out; omega)
  have g2 : (2 : Int) ≤ (N : Int) := by have := HNE.out.1; omega
  have g9 : ¬ N = 2 := by have := HNE.out.1; omega
  have hS0 : NrI M g vb TD vs w R3 u5.drew := ⟨HC5.out.bx, HC5.out.td, HC5.out.vv, HC5.out.bel.drew, HC5.out.lt⟩
  clear HC5
  refine wp_region_noPanic ?_
  refine wp_region_till (NrI M g vb TD vs w R3) 12 (by kernel_rfl) (by decide) (by decide +kernel) (by decide +kernel) (by decide +kernel) (fun inv => ?_)
  refine till_at 0 15 (.slice (some ⟨g, 0, none⟩) N N) inv rfl rfl (by decide) (by decide +kernel) (by decide +kernel) (fun _ _ _ h => h) hS0 (Or.inl ⟨by rfl, fun w' hS' => by obtain ⟨k0, k1, k2, k3⟩ := HTC.out _ hS'.td; go_simp⟩) (fun inv' => ?_)
  clear inv; have inv := inv'; clear inv'
  try simp only [List.setIfInBounds_toArray, List.set_cons_zero, List.set_cons_succ]
  refine till_at 1 16 (.slice (some ⟨g, 2, none⟩) (N - 2) (N - 2)) inv rfl rfl (by decide) (by decide +kernel) (by decide +kernel) (fun _ _ _ h => h) hS0 (Or.inl ⟨by rfl, fun w' hS' => by obtain ⟨k0, k1, k2, k3⟩ := HTC.out _ hS'.td; go_simp⟩) (fun inv' => ?_)
  clear inv; have inv := inv'; clear inv'
  try simp only [List.setIfInBounds_toArray, List.set_cons_zero, List.set_cons_succ]
  refine till_at 2 17 (.pointer (some ⟨M, 1, none⟩)) inv rfl rfl (by decide) (by decide +kernel) (by decide +kernel) (fun _ _ _ h => h) hS0 (Or.inl ⟨by rfl, fun w' hS' => by obtain ⟨k0, k1, k2, k3⟩ := HTC.out _ hS'.td; go_simp⟩) (fun inv' => ?_)
  clear inv; have inv := inv'; clear inv'
  try simp only [List.setIfInBounds_toArray, List.set_cons_zero, List.set_cons_succ]
  refine till_at 3 18 (.int .i64 (nd : Nat)) inv rfl rfl (by decide) (by decide +kernel) (by decide +kernel) (fun _ _ _ h => h) hS0 (Or.inl ⟨by rfl, fun w' hS' => by obtain ⟨k0, k1, k2, k3⟩ := HTC.out _ hS'.td; go_simp⟩) (fun inv' => ?_)
  clear inv; have inv := inv'; clear inv'
  try simp only [List.setIfInBounds_toArray, List.set_cons_zero, List.set_cons_succ]
  refine till_at 4 19 (.int .u8 (nd : Nat)) inv rfl rfl (by decide) (by decide +kernel) (by decide +kernel) (fun _ _ _ h => h) hS0 (Or.inl ⟨by rfl, fun w' hS' => by obtain ⟨k0, k1, k2, k3⟩ := HTC.out _ hS'.td; go_simp⟩) (fun inv' => ?_)
  clear inv; have inv := inv'; clear inv'
  try simp only [List.setIfInBounds_toArray, List.set_cons_zero, List.set_cons_succ]
  refine till_at 5 20 (.pointer (some ⟨M, 2, none⟩)) inv rfl rfl (by decide) (by decide +kernel) (by decide +kernel) (fun _ _ _ h => h) hS0 (Or.inl ⟨by rfl, fun w' hS' => by obtain ⟨k0, k1, k2, k3⟩ := HTC.out _ hS'.td; go_simp⟩) (fun inv' => ?_)
  clear inv; have inv := inv'; clear inv'
  try simp only [List.setIfInBounds_toArray, List.set_cons_zero, List.set_cons_succ]
  refine till_at 6 21 (.int .i64 (ix : Nat)) inv rfl rfl (by decide) (by decide +kernel) (by decide +kernel) (fun _ _ _ h => h) hS0 (Or.inl ⟨by rfl, fun w' hS' => by obtain ⟨k0, k1, k2, k3⟩ := HTC.out _ hS'.td; go_simp⟩) (fun inv' => ?_)
  clear inv; have inv := inv'; clear inv'
  try simp only [List.setIfInBounds_toArray, List.set_cons_zero, List.set_cons_succ]
  refine till_at 7 22 (.int .u8 (ix : Nat)) inv rfl rfl (by decide) (by decide +kernel) (by decide +kernel) (fun _ _ _ h => h) hS0 (Or.inl ⟨by rfl, fun w' hS' => by obtain ⟨k0, k1, k2, k3⟩ := HTC.out _ hS'.td; go_simp⟩) (fun inv' => ?_)
  clear inv; have inv := inv'; clear inv'
  try simp only [List.setIfInBounds_toArray, List.set_cons_zero, List.set_cons_succ]
  refine till_at 8 23 (.pointer (some ⟨M, 3, none⟩)) inv rfl rfl (by decide) (by decide +kernel) (by decide +kernel) (fun _ _ _ h => h) hS0 (Or.inl ⟨by rfl, fun w' hS' => by obtain ⟨k0, k1, k2, k3⟩ := HTC.out _ hS'.td; go_simp⟩) (fun inv' => ?_)
  clear inv; have inv := inv'; clear inv'
  try simp only [List.setIfInBounds_toArray, List.set_cons_zero, List.set_cons_succ]
  refine till_at 9 24 (.int .i64 (s : Nat)) inv rfl rfl (by decide) (by decide +kernel) (by decide +kernel) (fun _ _ _ h => h) hS0 (Or.inl ⟨by rfl, fun w' hS' => by obtain ⟨k0, k1, k2, k3⟩ := HTC.out _ hS'.td; go_simp⟩) (fun inv' => ?_)
  clear inv; have inv := inv'; clear inv'
  try simp only [List.setIfInBounds_toArray, List.set_cons_zero, List.set_cons_succ]
  refine till_at 10 25 (.int .u8 (s : Nat)) inv rfl rfl (by decide) (by decide +kernel) (by decide +kernel) (fun _ _ _ h => h) hS0 (Or.inl ⟨by rfl, fun w' hS' => by obtain ⟨k0, k1, k2, k3⟩ := HTC.out _ hS'.td; go_simp⟩) (fun inv' => ?_)
  clear inv; have inv := inv'; clear inv'
  try simp only [List.setIfInBounds_toArray, List.set_cons_zero, List.set_cons_succ]
  have HZ : Hid (Below u5.drew.heap.size u5.drew (u5.drew.alloc (.cells #[.int .u8 (nd : Nat), .int .u8 (ix : Nat), .int .u8 (s : Nat)] 5)) ∧ Bx (u5.drew.alloc (.cells #[.int .u8 (nd : Nat), .int .u8 (ix : Nat), .int .u8 (s : Nat)] 5)) u5.drew.heap.size 5 (fc [bn, bi, bs])) := ⟨(Below.refl _ _).alloc (Nat.le_refl _) _, by
    have q := Bx.new u5.drew 5 [.int .u8 (nd : Nat), .int .u8 (ix : Nat), .int .u8 (s : Nat)]
    rw [← hbn.out, ← hbi.out, ← hbs.out] at q ⊢
    exact q⟩
  have hS1 := hS0.below HZ.out.1
  refine till_head (i := 11) inv (by decide +kernel) (by decide) rfl (fun KK hK => ?_)
  go_simp
  try (go_wp2_with fail)
  refine hK.out _ _ hS1 (fun inv' => ?_)
  clear hK KK inv; have inv := inv'; clear inv'
  try simp only [List.setIfInBounds_toArray, List.set_cons_zero, List.set_cons_succ]
  refine till_tail (i := 12) (by decide +kernel) (by decide) rfl (fun KK hK => ?_)
  rw [if_pos (by rfl)]
  refine step_copy_bx (.tmp 16) (.tmp 26) (by rfl) g 2 (N - 2) (N - 2) (by rfl) u5.drew.heap.size 0 3 3 [bn, bi, bs] (by rfl) rfl (bx_rw HZ.out.2) (by have := HNE.out.1; omega) (fc [b0, b1]) (fc (List.replicate 3 0)) (fc (List.replicate ((s + 4) + (E + 4)) 0)) rfl rfl (by rw [List.append_assoc, ← fc_repl, HR3.out]; exact hS1.bx) ?_
  intro u6 h6 g6
  have HC6 : Hid (NrI M g vb TD vs w (fc [b0, b1] ++ fc [bn, bi, bs] ++ fc (List.replicate ((s + 4) + (E + 4)) 0)) u6) := hS1.write h6 g6
  clear h6 g6
  refine hK.out _ _ ?_
  clear hK KK
  try simp only [List.setIfInBounds_toArray, List.set_cons_zero, List.set_cons_succ]
  refine till_done (by decide +kernel) ?_ _
  refine NoPanic.normal ?_
  clear hS0 hS1 HZ n1 n2 n3
  have HC7 : Hid (NrI M g vb TD vs w (fc [b0, b1, bn, bi, bs] ++ fc (List.replicate (s + 4) 0) ++ fc (List.replicate (E + 4) 0)) u6) := by
    have q := HC6.out
    rw [fc_repl, ← fc_apps, ← List.append_assoc] at q
    exact q
  clear HC6
  have g5 : (5 : Int) ≤ (N : Int) := by have := HNE.out.1; omega
  have g8 : ¬ N = 5 := by have := HNE.out.1; omega
  go_upto_region 5 with (first
    | (refine wpList_copy_bx (by rfl) (.tmp 29) (.tmp 30) (by rfl) g 5 (N - 5) (N - 5) (by rfl) vb 0 (s + 4) vc vs (by rfl) HNE.out.2.2 (bx_rw HC7.out.vv) (by have := HNE.out.1; omega) (fc [b0, b1, bn, bi, bs]) (fc (List.replicate (s + 4) 0)) (fc (List.replicate (E + 4) 0)) rfl (by rw [fc_len, List.length_replicate]) HC7.out.bx ?_; intro u8 h8 g8; have HC8 : Hid (NrI M g vb TD vs w (fc [b0, b1, bn, bi, bs] ++ fc vs ++ fc (List.replicate (E + 4) 0)) u8) := HC7.out.write h8 g8; clear h8 g8)
    | fail)
  obtain ⟨hd, HHD⟩ : ∃ q : List F, Hid (q = [b0, b1, bn, bi, bs] ++ vs ++ List.replicate E 0) := ⟨[b0, b1, bn, bi, bs] ++ vs ++ List.replicate E 0, show [b0, b1, bn, bi, bs] ++ vs ++ List.replicate E 0 = _ from rfl⟩
  have HC9 : Hid (NrI M g vb TD vs w (fc (hd ++ [0, 0, 0, 0])) u8 ∧ hd.length + 4 = N) := by
    have q := HC8.out
    rw [HHD.out]
    refine ⟨?_, ?_⟩
    · rw [fc_repl] at q
      rw [fc_apps, fc_apps, fc_apps, List.append_assoc _ (fc (List.replicate E 0))]
      exact q
    · have h1 := HNE.out
      simp
      omega
  clear HC7 HC8
  have H57 : Hid (Calls Tryd.prog 46 #[.slice (some ⟨g, 0, none⟩) N N] u8 fun e w' => Hid (e = .returned (.tuple #[]) ∧ Bx w' g 5 (fc (hd ++ codeL hd)) ∧ u8.grownBy w' (some g))) := code_ok g hd.length N N hd u8 rfl HC9.out.2.symm (by have := HC9.out.2; have := HNE.out.2.1; omega) (Nat.le_refl _) (by have := HNE.out.2.1; omega) HC9.out.1.bx
  go_wp2_with (first
    | (go_at_call 46; refine H57.out.mono ?_; intro e9 w9 h9; obtain ⟨rfl, h1, h2⟩ := h9.out; have HF : Hid (NrI M g vb TD vs w (fc (hd ++ codeL hd)) w9) := HC9.out.1.write h1 h2; clear h9 h1 h2 H57))
  go_ret
  refine ⟨g, rfl, by rw [HMM.out]; exact Nat.le_of_lt HF.out.lt.2, ⟨hd, ?_, HF.out.bx⟩, by rw [HMM.out]; exact HF.out.bel⟩
  rw [HE.out]
  exact HHD.out
end Go.Proofs.YtinmhgackihakaaDoor
namespace Go.Proofs.YtinmhgackihakaaDoor
open Go.RowKit
set_option linter.unusedVariables false
set_option linter.unusedSimpArgs false
set_option maxRecDepth 100000
/-- A sharing's size. -/
theorem size_ok (sn nd LB n c s : Nat) (hs : Hid (n = s + 4 ∧ n ≤ 1000)) (w : World) : Calls Tryd.prog 29 #[.agg #[.int .u16 (sn : Nat), .int .i64 (nd : Nat), .slice (some ⟨LB, 0, none⟩) n c]] w fun e w' => Hid (e = .returned (.int .i64 (s : Nat)) ∧ Below w.heap.size w w') := by
  go_enter Tryd.func29, Tryd.ntmps29
  go_wp2
  go_ret
  refine ⟨ret_int ?_, (Below.refl _ _).alloc (Nat.le_refl _) _⟩
  have := hs.out
  first | omega | (simp [wrap64]; omega)
/-- Why a secret cannot be shared so. -/
def mayN (n b c : Int) : Int := if 1 ≤ n ∧ n ≤ 64 then (if 1 ≤ b ∧ b ≤ 16 ∧ b ≤ c ∧ c ≤ 255 then 0 else 110) else 111
theorem refusal_ok (a : Option Addr) (n cp : Nat) (b c : Int) (w : World) : Calls Tryd.prog 15 #[.slice a n cp, .int .i64 b, .int .i64 c] w fun e w' => e = .returned (.int .i64 (mayN n b c)) ∧ w' = w := by
  have HB : Hid (∀ u, Calls Tryd.prog 24 #[.int .i64 (n : Nat)] u fun e w' => e = .returned (.bool (decide (1 ≤ (n : Int) ∧ (n : Int) ≤ 64))) ∧ w' = u) := fun u => mayShareI n u
  have HA : Hid (∀ u, Calls Tryd.prog 25 #[.int .i64 b] u fun e w' => e = .returned (.bool (decide (1 ≤ b ∧ b ≤ 16))) ∧ w' = u) := fun u => mayNeedI b u
  by_cases h1 : 1 ≤ (n : Int) ∧ (n : Int) ≤ 64
  · rw [decide_eq_true h1] at HB
    by_cases h2 : 1 ≤ b ∧ b ≤ 16
    · rw [decide_eq_true h2] at HA
      by_cases h3 : c < b
      · have HM : Hid (mayN n b c = 110) := by show mayN n b c = 110; unfold mayN; rw [if_pos h1, if_neg (by omega)]
        clear h1 h2
        go_enter Tryd.func15, Tryd.ntmps15
        go_wp2_with (first
          | (go_at_call 24; refine (HB.out _).mono ?_; rintro e1 w1 ⟨rfl, hw⟩; obtain rfl := hw.symm; clear hw)
          | (go_at_call 25; refine (HA.out _).mono ?_; rintro e1 w1 ⟨rfl, hw⟩; obtain rfl := hw.symm; clear hw))
        go_ret
        exact ⟨ret_int HM.out.symm, rfl⟩
      by_cases h4 : 255 < c
      · have HM : Hid (mayN n b c = 110) := by show mayN n b c = 110; unfold mayN; rw [if_pos h1, if_neg (by omega)]
        clear h1 h2
        go_enter Tryd.func15, Tryd.ntmps15
        go_wp2_with (first
          | (go_at_call 24; refine (HB.out _).mono ?_; rintro e1 w1 ⟨rfl, hw⟩; obtain rfl := hw.symm; clear hw)
          | (go_at_call 25; refine (HA.out _).mono ?_; rintro e1 w1 ⟨rfl, hw⟩; obtain rfl := hw.symm; clear hw))
        go_ret
        exact ⟨ret_int HM.out.symm, rfl⟩
      have HM : Hid (mayN n b c = 0) := by show mayN n b c = 0; unfold mayN; rw [if_pos h1, if_pos (by omega)]
      clear h1 h2
      go_enter Tryd.func15, Tryd.ntmps15
      go_wp2_with (first
        | (go_at_call 24; refine (HB.out _).mono ?_; rintro e1 w1 ⟨rfl, hw⟩; obtain rfl := hw.symm; clear hw)
        | (go_at_call 25; refine (HA.out _).mono ?_; rintro e1 w1 ⟨rfl, hw⟩; obtain rfl := hw.symm; clear hw))
      go_ret
      exact ⟨ret_int HM.out.symm, rfl⟩
    · rw [decide_eq_false h2] at HA
      have HM : Hid (mayN n b c = 110) := by show mayN n b c = 110; unfold mayN; rw [if_pos h1, if_neg (by omega)]
      clear h1 h2
      go_enter Tryd.func15, Tryd.ntmps15
      go_wp2_with (first
        | (go_at_call 24; refine (HB.out _).mono ?_; rintro e1 w1 ⟨rfl, hw⟩; obtain rfl := hw.symm; clear hw)
        | (go_at_call 25; refine (HA.out _).mono ?_; rintro e1 w1 ⟨rfl, hw⟩; obtain rfl := hw.symm; clear hw))
      go_ret
      exact ⟨ret_int HM.out.symm, rfl⟩
  · rw [decide_eq_false h1] at HB
    have HM : Hid (mayN n b c = 111) := if_neg h1
    clear h1
    go_enter Tryd.func15, Tryd.ntmps15
    go_wp2_with (first
      | (go_at_call 24; refine (HB.out _).mono ?_; rintro e1 w1 ⟨rfl, hw⟩; obtain rfl := hw.symm; clear hw))
    go_ret
    exact ⟨ret_int HM.out.symm, rfl⟩
end Go.Proofs.YtinmhgackihakaaDoor
namespace Go.Proofs.YtinmhgackihakaaDoor
open Go.RowKit
set_option linter.unusedVariables false
set_option linter.unusedSimpArgs false
set_option maxRecDepth 100000
theorem numE_ok (x : Int) (w : World) : Calls Tryd.prog 10 #[.int .i64 x] w fun e w' => e = .returned (.int .i64 x) ∧ w' = w := by
  go_enter Tryd.func10, Tryd.ntmps10
  go_wp2
  go_ret
  exact ⟨rfl, rfl⟩
/-- The law's cut. -/
theorem cut_ok (g o n c m : Nat) (hm : m ≤ 3000) (hc : n ≤ c) (w : World) : Calls Tryd.prog 6 #[.slice (some ⟨g, o, none⟩) n c, .int .i64 (m : Nat)] w fun e w' => e = .returned (.slice (some ⟨g, o, none⟩) (min n m) c) ∧ w' = w := by
  by_cases h : m < n
  · have h1 : (m : Int) < (n : Int) := by omega
    have h2 : (0 : Int) ≤ (m : Int) := by omega
    have h3 : (m : Int) ≤ (c : Int) := by omega
    have HM : Hid (min n m = m) := Nat.min_eq_right (by omega)
    go_enter Tryd.func6, Tryd.ntmps6
    go_wp2
    go_ret
    rw [HM.out]
    exact ⟨rfl, rfl⟩
  · have h1 : ¬ (m : Int) < (n : Int) := by omega
    have HM : Hid (min n m = n) := Nat.min_eq_left (by omega)
    go_enter Tryd.func6, Tryd.ntmps6
    go_wp2
    go_ret
    rw [HM.out]
    exact ⟨rfl, rfl⟩
theorem cut_nil (c m : Nat) (w : World) : Calls Tryd.prog 6 #[.slice none 0 c, .int .i64 (m : Nat)] w fun e w' => e = .returned (.slice none 0 c) ∧ w' = w := by
  have h1 : ¬ (m : Int) < 0 := by omega
  go_enter Tryd.func6, Tryd.ntmps6
  go_wp2
  go_ret
  exact ⟨rfl, rfl⟩
end Go.Proofs.YtinmhgackihakaaDoor
namespace Go.Proofs.YtinmhgackihakaaDoor
open Go.RowKit
set_option linter.unusedVariables false
set_option linter.unusedSimpArgs false
set_option maxRecDepth 100000
set_option maxHeartbeats 1600000 in
/-- bytes.Clone of what is not empty. -/
theorem bclone_ok (b o n c : Nat) (l : List F) (w : World) (hl : l.length = n) (h1 : 1 ≤ n) (hn : n ≤ 4000) (h : Rw w b o l) : Calls Tryd.prog 26 #[.slice (some ⟨b, o, none⟩) n c] w fun e w' => Hid (∃ v, e = .returned v ∧ w'.ownsRow w.heap.size 5 1 v n (fc l) ∧ Below w.heap.size w w') := by
  have HL : Hid (l.length = n ∧ 1 ≤ n ∧ n ≤ 4000 ∧ Rw w b o l) := ⟨hl, h1, hn, h⟩
  have ha : Below w.heap.size w (w.alloc (.cells #[] 5)) := (Below.refl _ _).alloc (Nat.le_refl _) _
  have HA : Hid (Below w.heap.size w (w.alloc (.cells #[] 5)) ∧ Rw (w.alloc (.cells #[] 5)) b o l ∧ (w.alloc (.cells #[] 5)).heap[w.heap.size]? = some (.cells #[] 5 (0, 0))) := ⟨ha, h.below ha, new_none w⟩
  have hnl : ∀ w, (binOp .eql 23 (.slice (some ⟨b, o, none⟩) n c) (.slice none 0 0)).run Tryd.prog w = .ok (.bool false) w := fun w => Lib.run_eql_slice_nil w 23 5 (some ⟨b, o, none⟩) n c 0 0 Tryd.underlying23
  clear hl h1 hn h ha
  go_enter Tryd.func26, Tryd.ntmps26
  go_wp2_with (first
    | (refine wpList_clone_own (by rfl) (.tmp 5) (.tmp 6) (by rfl) w.heap.size (by rfl) HA.out.2.2 b o n c l (by rfl) HL.out.1 HL.out.2.1 HL.out.2.2.1 HA.out.2.1 ?_; intro v1 w1 ho1 hb1; have H1 : Hid (w1.ownsRow w.heap.size 5 1 v1 n (fc l) ∧ Below w.heap.size w w1) := ⟨ho1, HA.out.1.trans hb1⟩; clear ho1 hb1))
  go_ret
  exact ⟨v1, rfl, H1.out.1, H1.out.2⟩
end Go.Proofs.YtinmhgackihakaaDoor
namespace Go.Proofs.YtinmhgackihakaaDoor
open Go.RowKit
variable {P : Program}

/-- A new variable of a great type: its zero cells are handed in. -/
theorem wpList_alloc_big {ops : Array Oper} {rest : List Oper} {op : Oper} {a : Act} {w : World} {Q : Exit → Act → World → Prop} (hgd : op.guard = none) (ty : TypeId) (ho : op.op = .alloc ty)
    (cells : Array Value) (hz : ((P.info? ty).bind (·.zero)).map (·.cells) = some cells) (B : Nat) (hB : w.heap.size = B)
    (h : wpList P ops Q rest (a.put op.dst (.pointer (some ⟨B, 0, none⟩))) (w.alloc (.cells cells ty))) : wpList P ops Q (op :: rest) a w := by
  subst hB
  refine wpList_plain hgd fun K hK => ?_
  cases hi : P.info? ty with
  | none => simp [hi] at hz
  | some i =>
    cases hzz : i.zero with
    | none => simp [hi, hzz] at hz
    | some z =>
      have hc : z.cells = cells := by simpa [hi, hzz] using hz
      have hrun : (Instr.alloc ty true (.tuple #[])).run P w = .ok (.pointer (some ⟨w.heap.size, 0, none⟩)) (w.alloc (.cells cells ty)) := by
        simp [Instr.alloc, zeroValue, typeInfo, hi, hzz, newVar, newRow, hc]
      unfold Oper.wp execOp
      simp only [ho, Sem.run_bind, hrun, Result.andThen_ok, Sem.run_pure]
      exact hK _ _ h

/-- A great value that is built. -/
theorem wpList_build_big {ops : Array Oper} {rest : List Oper} {op : Oper} {a : Act} {w : World} {Q : Exit → Act → World → Prop} (hgd : op.guard = none) (ty : TypeId) (parts : Array (Nat × Operand)) (ho : op.op = .build ty parts)
    (cells : Array Value) (hb : P.built ty (parts.map fun (i, x) => (i, a.eval x)).toList = some cells)
    (h : wpList P ops Q rest (a.put op.dst (.agg cells)) w) : wpList P ops Q (op :: rest) a w := by
  refine wpList_plain hgd fun K hK => ?_
  have hrun := run_build (P := P) w ty (parts.map fun (i, x) => (i, a.eval x)) cells hb
  unfold Oper.wp execOp
  simp only [ho, Sem.run_bind, hrun, Result.andThen_ok, Sem.run_pure]
  exact hK _ _ h

theorem size_setCells (b : Nat) : ∀ (vs : List Value) (o : Nat) (w : World), (w.setCells b o vs).heap.size = w.heap.size
  | [], _, _ => rfl
  | v :: r, o, w => by rw [World.setCells, size_setCells b r (o + 1)]; simp [World.setCell]
theorem below_setCells (b : Nat) {B : Nat} (hB : B ≤ b) {a : World} : ∀ (vs : List Value) (o : Nat) (w : World), Below B a w → Below B a (w.setCells b o vs)
  | [], _, _, h => h
  | v :: r, o, w, h => by rw [World.setCells]; exact below_setCells b hB r (o + 1) _ (h.setCell hB _)
theorem rangeAt_new (w : World) (C : Array Value) (t : TypeId) : (w.alloc (.cells C t)).rangeAt w.heap.size 0 C.toList := fun j v hv => by
  rw [World.cell?_alloc_at C t _ _ rfl]
  simpa using hv
theorem there_new (w : World) (C : Array Value) (t : TypeId) (n : Nat) (hn : n ≤ C.size) : (w.alloc (.cells C t)).there w.heap.size 0 n := fun j hj => by
  refine ⟨?_, World.frozen?_alloc_at C t _ _ rfl⟩
  rw [World.cell?_alloc_at C t _ _ rfl]
  simp
  omega
end Go.Proofs.YtinmhgackihakaaDoor
namespace Go.Proofs.YtinmhgackihakaaDoor
open Go.RowKit

/-- The cells of a taken. -/
def tkCells (h : Int) (f : Value) (st half : List Int) (fed : Int) : List Value :=
  .int .i64 h :: f :: (st.map (Value.int .u64) ++ (half.map (Value.int .u8) ++ [.int .u64 fed]))
def tkZero : List Value := tkCells 0 .nilFunc (List.replicate 8 0) (List.replicate 128 0) 0
def tkOf (h : Int) : List Value := tkCells h .nilFunc (List.replicate 8 0) (List.replicate 128 0) 0
theorem tkOf_length (h : Int) : (tkOf h).length = 139 := by simp [tkOf, tkCells]
theorem tkZero_length : tkZero.length = 139 := by simp [tkZero, tkCells]
theorem tkOf_one (h : Int) : (tkOf h).toArray.all (·.oneCell') = true := by kernel_rfl
theorem zero71 : ((Tryd.prog.info? 117).bind (·.zero)).map (·.cells) = some tkZero.toArray := by kernel_rfl
theorem size71 : (Tryd.prog.info? 117).map (·.size) = some 139 := by kernel_rfl
theorem built71 (h : Int) : Tryd.prog.built 117 [(0, .int .i64 h)] = some (tkOf h).toArray := by kernel_rfl
theorem built71z : Tryd.prog.built 117 [] = some tkZero.toArray := by kernel_rfl

theorem cells71 (h : Int) : Tryd.zeroCells117.setIfInBounds 0 (.int .i64 h) = (tkOf h).toArray := by kernel_rfl
theorem cells71z : Tryd.zeroCells117 = tkZero.toArray := by kernel_rfl
theorem tkZero_one : tkZero.toArray.all (·.oneCell') = true := by kernel_rfl
theorem size71a (h : Int) : (tkOf h).toArray.size = 139 := by simp [tkOf_length]
theorem size71z : tkZero.toArray.size = 139 := by simp [tkZero_length]

/-- digest.Block. -/
def blockOf (h : Int) : Int := if h = 224 ∨ h = 256 then 64 else if h = 384 ∨ h = 512 then 128 else 0
set_option maxHeartbeats 400000 in
theorem block_any (h : Int) (w : World) : Calls Tryd.prog 83 #[.int .i64 h] w fun e w' => e = .returned (.int .i64 (blockOf h)) ∧ w' = w := by
  by_cases h1 : h = 224
  · subst h1
    go_enter Tryd.func83, Tryd.ntmps83
    go_wp2
    go_ret
    exact ⟨rfl, rfl⟩
  by_cases h2 : h = 256
  · subst h2
    go_enter Tryd.func83, Tryd.ntmps83
    go_wp2
    go_ret
    exact ⟨rfl, rfl⟩
  by_cases h3 : h = 384
  · subst h3
    go_enter Tryd.func83, Tryd.ntmps83
    go_wp2
    go_ret
    exact ⟨rfl, rfl⟩
  by_cases h4 : h = 512
  · subst h4
    go_enter Tryd.func83, Tryd.ntmps83
    go_wp2
    go_ret
    exact ⟨rfl, rfl⟩
  have hb : blockOf h = 0 := by simp [blockOf, h1, h2, h3, h4]
  rw [hb]
  clear hb
  have e1 : (h == 224) = false := by simpa using h1
  have e2 : (h == 256) = false := by simpa using h2
  have e3 : (h == 384) = false := by simpa using h3
  have e4 : (h == 512) = false := by simpa using h4
  clear h1 h2 h3 h4
  go_enter Tryd.func83, Tryd.ntmps83
  go_wp2
  go_ret
  exact ⟨rfl, rfl⟩

set_option maxHeartbeats 400000 in
set_option maxRecDepth 100000 in
theorem begin_bad (h : Int) (w : World) (h1 : (h == 224) = false) (h2 : (h == 256) = false) (h3 : (h == 384) = false) (h4 : (h == 512) = false) :
    Calls Tryd.prog 70 #[.int .i64 h] w fun e w' => e = .returned (.tuple #[.agg tkZero.toArray, .int .i64 10]) ∧ Below w.heap.size w w' := by
  have e71 := cells71 h
  have hz : Tryd.zeroCells117.size = 139 := by rw [cells71z]; exact size71z
  have ht : ((w.alloc (.cells Tryd.zeroCells117 117)).alloc (.cells Tryd.zeroCells117 117)).there (w.heap.size + 1) 0 139 := by
    simpa using there_new (w.alloc (.cells Tryd.zeroCells117 117)) Tryd.zeroCells117 117 139 (by rw [hz]; exact Nat.le_refl _)
  have HT : Hid (((w.alloc (.cells Tryd.zeroCells117 117)).alloc (.cells Tryd.zeroCells117 117)).there (w.heap.size + 1) 0 139) := ht
  clear hz ht
  go_enter Tryd.func70, Tryd.ntmps70
  go_wp2_with (first
    | (refine wpList_store_mid (by rfl) 117 (.tmp 4) (.tmp 6) (by rfl) (w.heap.size + 1) 0 (tkOf h).toArray (by rfl) (by rfl) (by rw [size71a]; exact HT.out) (by rw [size71a]; exact size71) (tkOf_one h) ?_)
    | fail)
  refine (block_any h _).mono ?_
  rintro e w1 ⟨rfl, rfl⟩
  rw [show blockOf h = 0 by simp at h1 h2 h3 h4; simp [blockOf, h1, h2, h3, h4]]
  have hb2 : Below w.heap.size w (((w.alloc (.cells Tryd.zeroCells117 117)).alloc (.cells Tryd.zeroCells117 117)).setCells (w.heap.size + 1) 0 (tkOf h)) :=
    below_setCells _ (by omega) _ _ _ (((Below.refl _ _).alloc (Nat.le_refl _) _).alloc (by simp) _)
  have ht2 : (((w.alloc (.cells Tryd.zeroCells117 117)).alloc (.cells Tryd.zeroCells117 117)).setCells (w.heap.size + 1) 0 (tkOf h)).there w.heap.size 0 139 :=
    World.there_setCells (World.there_alloc (there_new w Tryd.zeroCells117 117 139 (by rw [cells71z, size71z]; exact Nat.le_refl _)) _) _ _ _
  generalize (((w.alloc (.cells Tryd.zeroCells117 117)).alloc (.cells Tryd.zeroCells117 117)).setCells (w.heap.size + 1) 0 (tkOf h)) = W2 at hb2 ht2 ⊢
  have HT2 : Hid (W2.there w.heap.size 0 139) := ht2
  have e71z := cells71z
  clear ht2 HT e71
  go_wp2_with (first
    | (refine wpList_store_mid (by rfl) 117 (.tmp 2) (.tmp 9) (by rfl) w.heap.size 0 tkZero.toArray (by rfl) (by rfl) (by rw [size71z]; exact HT2.out) (by rw [size71z]; exact size71) tkZero_one ?_)
    | fail)
  have hl := run_loadVar_mid (P := Tryd.prog) (W2.setCells w.heap.size 0 tkZero) w.heap.size 0 117 tkZero _ (World.rangeAt_setCells_same W2 w.heap.size 0 tkZero (by rw [tkZero_length]; exact HT2.out)) Tryd.underlying117 rfl (by rw [tkZero_length]; exact size71)
  refine bodyPost_ret (v := .tuple #[.agg tkZero.toArray, .int .i64 10]) ?_ rfl ⟨rfl, below_setCells _ (Nat.le_refl _) _ _ _ hb2⟩
  rw [results_cell_tmp Tryd.results70]
  simp [asAddr, hl]
end Go.Proofs.YtinmhgackihakaaDoor
namespace Go.Proofs.YtinmhgackihakaaDoor
open Go.RowKit
/-- A rotation to the left by s. -/
def rotl32 (x : Int) (s : Nat) : Int := bits .or .u32 (x * 2 ^ s % 4294967296) (x / 2 ^ (32 - s))
def rotl64 (x : Int) (s : Nat) : Int := bits .or .u64 (x * 2 ^ s % 18446744073709551616) (x / 2 ^ (64 - s))
theorem wrap64 (x : Int) (h0 : 0 ≤ x) (h1 : x ≤ 64) : IntKind.u64.wrap x = x := by
  simp [IntKind.wrap, IntKind.bits, IntKind.signed]
  omega
set_option maxHeartbeats 400000 in
theorem rot32_core (x k s : Int) (w : World) (hb : bits .and .u64 (IntKind.u64.wrap k) 31 = s) (h0 : 0 ≤ s) (h1 : s ≤ 32) : Calls Tryd.prog 93 #[.int .u32 x, .int .i64 k] w fun e w' => e = .returned (.int .u32 (rotl32 x s.toNat)) ∧ w' = w := by
  have hs : IntKind.u64.wrap (32 - s) = 32 - s := wrap64 _ (by omega) (by omega)
  have h2 : 0 ≤ 32 - s := by omega
  go_enter Tryd.func93, Tryd.ntmps93
  go_wp2
  go_ret
  refine ⟨?_, rfl⟩
  have e2 : (32 - s).toNat = 32 - s.toNat := by omega
  rw [e2]
  exact rfl
set_option maxHeartbeats 400000 in
theorem rot64_core (x k s : Int) (w : World) (hb : bits .and .u64 (IntKind.u64.wrap k) 63 = s) (h0 : 0 ≤ s) (h1 : s ≤ 64) : Calls Tryd.prog 95 #[.int .u64 x, .int .i64 k] w fun e w' => e = .returned (.int .u64 (rotl64 x s.toNat)) ∧ w' = w := by
  have hs : IntKind.u64.wrap (64 - s) = 64 - s := wrap64 _ (by omega) (by omega)
  have h2 : 0 ≤ 64 - s := by omega
  go_enter Tryd.func95, Tryd.ntmps95
  go_wp2
  go_ret
  refine ⟨?_, rfl⟩
  have e2 : (64 - s).toNat = 64 - s.toNat := by omega
  rw [e2]
  exact rfl
theorem rot32_of {x k : Int} {w : World} (n : Nat) (hb : bits .and .u64 (IntKind.u64.wrap k) 31 = ((32 - n : Nat) : Int)) : Calls Tryd.prog 93 #[.int .u32 x, .int .i64 k] w fun e w' => e = .returned (.int .u32 (rotl32 x (32 - n))) ∧ w' = w := by
  have h := rot32_core x k ((32 - n : Nat) : Int) w hb (by omega) (by omega)
  simpa using h
theorem rot64_of {x k : Int} {w : World} (n : Nat) (hb : bits .and .u64 (IntKind.u64.wrap k) 63 = ((64 - n : Nat) : Int)) : Calls Tryd.prog 95 #[.int .u64 x, .int .i64 k] w fun e w' => e = .returned (.int .u64 (rotl64 x (64 - n))) ∧ w' = w := by
  have h := rot64_core x k ((64 - n : Nat) : Int) w hb (by omega) (by omega)
  simpa using h
end Go.Proofs.YtinmhgackihakaaDoor
namespace Go.Proofs.YtinmhgackihakaaDoor
open Go.RowKit

/-- A world that differs in what it drew alone. -/
structure Sm (w w' : World) : Prop where
  os : w'.os = w.os
  tape : w'.tape = w.tape
  output : w'.output = w.output
  heap : w'.heap = w.heap
theorem Sm.refl (w : World) : Sm w w := ⟨rfl, rfl, rfl, rfl⟩
theorem Sm.drewN {w v : World} (h : Sm w v) (m : Nat) : Sm w (v.drewN m) := ⟨h.os, h.tape, h.output, h.heap⟩
theorem Sm.trans {a b c : World} (h : Sm a b) (k : Sm b c) : Sm a c := ⟨k.os.trans h.os, k.tape.trans h.tape, k.output.trans h.output, k.heap.trans h.heap⟩
theorem Sm.cell {w v : World} (h : Sm w v) (p : Addr) : v.cell? p = w.cell? p := World.cell?_of_block (by rw [h.heap])
theorem Sm.frozen {w v : World} (h : Sm w v) (p : Addr) : v.frozen? p = w.frozen? p := World.frozen?_of_block (by rw [h.heap])

theorem setCells_os (b : Nat) : ∀ (vs : List Value) (o : Nat) (w : World), (w.setCells b o vs).os = w.os
  | [], _, _ => rfl
  | v :: r, o, w => by rw [World.setCells, setCells_os b r (o + 1)]; rfl
theorem setCells_tape (b : Nat) : ∀ (vs : List Value) (o : Nat) (w : World), (w.setCells b o vs).tape = w.tape
  | [], _, _ => rfl
  | v :: r, o, w => by rw [World.setCells, setCells_tape b r (o + 1)]; rfl
theorem setCells_output (b : Nat) : ∀ (vs : List Value) (o : Nat) (w : World), (w.setCells b o vs).output = w.output
  | [], _, _ => rfl
  | v :: r, o, w => by rw [World.setCells, setCells_output b r (o + 1)]; rfl

/-- From w to w' nothing of what was there is changed but n cells of block g from o on; what could be written there can be still. -/
structure Touch (w w' : World) (g o n : Nat) : Prop where
  os : w'.os = w.os
  tape : w'.tape = w.tape
  output : w'.output = w.output
  size : w.heap.size ≤ w'.heap.size
  block : ∀ k, k < w.heap.size → k ≠ g → w'.heap[k]? = w.heap[k]?
  cell : ∀ j, (j < o ∨ o + n ≤ j) → w'.cell? ⟨g, j, none⟩ = w.cell? ⟨g, j, none⟩
  there : ∀ o' n', w.there g o' n' → w'.there g o' n'

theorem Sm.touch {w v : World} (h : Sm w v) (g o n : Nat) : Touch w v g o n :=
  ⟨h.os, h.tape, h.output, by rw [h.heap]; exact Nat.le_refl _, fun k _ _ => by rw [h.heap], fun j _ => h.cell _, fun o' n' ht j hj => by rw [h.cell, h.frozen]; exact ht j hj⟩
theorem Touch.refl (w : World) (g o n : Nat) : Touch w w g o n := (Sm.refl w).touch g o n
theorem Touch.trans {a b c : World} {g o n : Nat} (h : Touch a b g o n) (k : Touch b c g o n) : Touch a c g o n :=
  ⟨k.os.trans h.os, k.tape.trans h.tape, k.output.trans h.output, Nat.le_trans h.size k.size, fun i hi hne => (k.block i (Nat.lt_of_lt_of_le hi h.size) hne).trans (h.block i hi hne), fun j hj => (k.cell j hj).trans (h.cell j hj), fun o' n' ht => k.there o' n' (h.there o' n' ht)⟩
theorem Touch.mono {a b : World} {g o n : Nat} (h : Touch a b g o n) (o' n' : Nat) (h1 : o' ≤ o) (h2 : o + n ≤ o' + n') : Touch a b g o' n' :=
  ⟨h.os, h.tape, h.output, h.size, h.block, fun j hj => h.cell j (by omega), h.there⟩
theorem Touch.setCells {a b : World} {g o n : Nat} (h : Touch a b g o n) (o' : Nat) (vs : List Value) (h1 : o ≤ o') (h2 : o' + vs.length ≤ o + n) : Touch a (b.setCells g o' vs) g o n := by
  refine h.trans ⟨?_, ?_, ?_, ?_, ?_, ?_, ?_⟩
  · exact setCells_os g vs o' b
  · exact setCells_tape g vs o' b
  · exact setCells_output g vs o' b
  · rw [size_setCells]; exact Nat.le_refl _
  · intro k hk hne
    exact World.heap_setCells_other b g o' vs hk hne
  · intro j hj
    exact World.cell?_setCells_out g vs o' b ⟨g, j, none⟩ (fun _ _ => by rcases hj with h | h; exact .inl (by show j < o'; omega); exact .inr (by show o' + vs.length ≤ j; omega))
  · intro o2 n2 ht
    exact World.there_setCells ht g o' vs
theorem Touch.setCell {a b : World} {g o n : Nat} (h : Touch a b g o n) (j : Nat) (u : Value) (h1 : o ≤ j) (h2 : j < o + n) : Touch a (b.setCell ⟨g, j, none⟩ u) g o n :=
  h.setCells j [u] h1 (by simp; omega)
theorem Touch.alloc {a b : World} {g o n : Nat} (h : Touch a b g o n) (ob : Obj) (hg : g < a.heap.size) : Touch a (b.alloc ob) g o n := by
  have hs := h.size
  refine h.trans ⟨rfl, rfl, rfl, by simp, ?_, ?_, ?_⟩
  · intro k hk _
    exact Below.heap_alloc b ob k hk
  · intro j _
    exact World.cell?_alloc_past ob g j (by omega)
  · intro o' n' ht
    exact World.there_alloc ht ob
theorem Touch.drew {a b : World} {g o n : Nat} (h : Touch a b g o n) : Touch a b.drew g o n := ⟨h.os, h.tape, h.output, h.size, h.block, h.cell, h.there⟩
theorem Touch.drewN {a b : World} {g o n : Nat} (h : Touch a b g o n) (m : Nat) : Touch a (b.drewN m) g o n := ⟨h.os, h.tape, h.output, h.size, h.block, h.cell, h.there⟩
/-- What only makes new blocks touches nothing. -/
theorem Touch.below {a b c : World} {g o n : Nat} (h : Touch a b g o n) (k : Below b.heap.size b c) (hg : g < a.heap.size) : Touch a c g o n := by
  have hs := h.size
  refine h.trans ⟨k.os, k.tape, k.output, k.size, fun i hi _ => k.block i hi, fun j _ => k.cell (p := ⟨g, j, none⟩) (show g < _ by omega), ?_⟩
  intro o' n' ht j hj
  rw [k.cell (p := ⟨g, o' + j, none⟩) (show g < _ by omega), k.frozen (p := ⟨g, o' + j, none⟩) (show g < _ by omega)]
  exact ht j hj
theorem Touch.toBelow {a b : World} {g o n B : Nat} (h : Touch a b g o n) (hg : B ≤ g) (hB : B ≤ a.heap.size) : Below B a b :=
  ⟨h.os, h.tape, h.output, h.size, fun k hk => h.block k (by omega) (by omega)⟩
theorem Touch.far {a b : World} {g o n : Nat} (h : Touch a b g o n) {p : Addr} (hp : p.block < a.heap.size) (hne : p.block ≠ g) : b.cell? p = a.cell? p := World.cell?_of_block (h.block p.block hp hne)
theorem Touch.farFrozen {a b : World} {g o n : Nat} (h : Touch a b g o n) {p : Addr} (hp : p.block < a.heap.size) (hne : p.block ≠ g) : b.frozen? p = a.frozen? p := World.frozen?_of_block (h.block p.block hp hne)
end Go.Proofs.YtinmhgackihakaaDoor
