import Derived.Test.YtkeklmkaleomkaaDoorPart11
import Derived.Test.YtkeklmkaleomkaaDoorPart09
import Derived.Test.YtkeklmkaleomkaaDoorPart10
import Derived.BigQuiet
import Derived.Lib.SlBytesConst
import Derived.Test.YtkeklmkaleomkaaDoorPart07
import Derived.Test.YtkeklmkaleomkaaDoorPart04
namespace Go.Proofs.YtkeklmkaleomkaaDoor
open Go.RowKit
set_option linter.unusedVariables false
set_option linter.unusedSimpArgs false
theorem fdNc_ok {q : Desc} {E ys : List Int} (c0 : 0 ≤ q.c) (cL : q.c ≤ q.L) : 0 ≤ fdNc q E ys ∧ fdNc q E ys ≤ q.L := by
  unfold fdNc
  split
  · omega
  · exact ⟨c0, cL⟩
set_option maxHeartbeats 64000000 in
set_option maxRecDepth 100000 in
theorem plays_feed0 (Pp : Prop) (B m : Nat) (d0 d1 : Option Desc) (ov wv : Value) (ts : List (Value × Value × List Int)) (left : Int) (at_ n : Int) (ea xa : Option Addr) (en ec xn xc : Nat) (E : List Int) (xs : List Value) (yss : List (List Int)) (w : World) (hs : Hid (PSD Pp w B m d0 d1 ov wv ts left)) (hB : 4 ≤ B) (HP : Hid (∀ u, Below B w u → PV u (.slice xa xn xc) xs yss ∧ View u (.slice ea en ec) E ∧ Tables u ∧ RTab u)) (hxn : Hid (xs.length = xn)) (hl : Hid (yss.flatten.length ≤ 262144)) (hn : xn ≤ 1048576) (hel : Hid (E.length = en)) (hen : en ≤ 262144) (hts : ts.length ≤ 1000) (hat : at_.tmod 2 = 0) :
    Calls Tryd.prog 20 #[.pointer (some ⟨m, 0, none⟩), .agg #[.int .i64 2, .int .i64 at_, .int .i64 n, .slice ea en ec, .slice xa xn xc]] w fun e w' => Hid (StepP Pp w w' e B m ts.length) := by
  have HBs : Hid (B ≤ w.heap.size) := by show _ ≤ _; have := hs.out.ps.mB; have mlt : m < w.heap.size := lt_of_cell hs.out.ps.s0; omega
  go_enter Tryd.func20, Tryd.ntmps20
  go_upto_region 1 with fail
  have HA0 : Hid (OAt (w.alloc (.cells #[.int .i64 2, .int .i64 at_, .int .i64 n, .slice ea en ec, .slice xa xn xc] 39)) w.heap.size 2 at_ n (.slice ea en ec) (.slice xa xn xc) ∧ Below w.heap.size w (w.alloc (.cells #[.int .i64 2, .int .i64 at_, .int .i64 n, .slice ea en ec, .slice xa xn xc] 39)) ∧ (w.alloc (.cells #[.int .i64 2, .int .i64 at_, .int .i64 n, .slice ea en ec, .slice xa xn xc] 39)).heap.size = w.heap.size + 1) := ⟨OAt.new _ _ _ _ _ _ _, below_alloc1 _ _, size_alloc1 _ _⟩
  generalize w.alloc (.cells #[.int .i64 2, .int .i64 at_, .int .i64 n, .slice ea en ec, .slice xa xn xc] 39) = w0 at HA0 ⊢
  have c1 := HA0.out.1.c1
  have HP0 : Hid (PV w0 (.slice xa xn xc) xs yss) := (HP.out w0 (HA0.out.2.1.mono HBs.out)).1
  have c4 := HA0.out.1.c4
  have HL : Hid (Calls Tryd.prog 33 #[.slice xa xn xc] w0 fun e w' => e = .returned (.bool false) ∧ w' = w0) := long_ok xa xn xc xs yss w0 HP0 hxn hl (by omega)
  go_upto_region 6 with (go_at_call 33; refine HL.out.mono ?_; rintro e1 w1 ⟨rfl, hw1⟩; obtain rfl := hw1.symm)
  have H34 : Hid (Calls Tryd.prog 34 #[.slice xa xn xc] w0 fun e w' => Hid (∃ v', e = .returned v' ∧ ∃ vs, vs.length = xn ∧ w'.ownsRow w0.heap.size 22 1 v' xn vs ∧ Lent w0.heap.size w' vs yss ∧ Inc vs ∧ Below w0.heap.size w0 w')) := lent_ok xa xn xc xs yss w0 HP0 hxn (by show _ ≤ _; have := hl.out; omega) hn
  go_upto_region 7 with (go_at_call 34; refine H34.out.mono ?_; intro e2 w2 hh; obtain ⟨v', rfl, vs, hv1, hv2, hv3, hv4, hv5⟩ := hh.out)
  have HB2 : Hid (Below w.heap.size w w2) := HA0.out.2.1.trans (hv5.mono HA0.out.2.1.size)
  have HA2 : Hid (OAt w2 w.heap.size 2 at_ n (.slice ea en ec) (.slice xa xn xc)) := HA0.out.1.below hv5
  have HS2 : Hid (PSD Pp w2 B m d0 d1 ov wv ts left) := hs.out.below HB2.out
  have HLn : Hid (vs.length = xn ∧ w2.ownsRow w0.heap.size 22 1 v' xn vs ∧ Lent w0.heap.size w2 vs yss ∧ Inc vs ∧ w0.heap.size = w.heap.size + 1) := ⟨hv1, hv2, hv3, hv4, HA0.out.2.2⟩
  obtain ⟨va, vcap, rfl⟩ : ∃ a c, v' = .slice a xn c := by
    rcases HLn.out.2.1.2 with ⟨e, e2⟩ | ⟨g, c, _, e, _⟩
    · exact ⟨none, 0, by rw [e, e2]⟩
    · exact ⟨_, c, e⟩
  clear hh hv1 hv2 hv3 hv4 hv5 H34 c1 c4 HL HP0 HA0
  have c0 := HA2.out.c0
  have c3 := HA2.out.c3
  obtain ⟨ys, HY⟩ : ∃ ys, Hid (ys = yss.flatten) := ⟨_, rfl⟩
  obtain ⟨EC, HEC⟩ : ∃ EC, Hid (EC = fdC d0 E.length ys.length) := ⟨_, rfl⟩
  have HBB : Hid (Below B w w2) := HB2.out.mono HBs.out
  have hyl : Hid (yss.length = xn) := by show _ = _; obtain ⟨_, _, _, _, _, h3, _⟩ := (HP.out w2 HBB.out).1; rw [← h3, hxn.out]
  have HSI : Hid (∀ b, b ∈ omb d0 → B ≤ b ∧ b < w.heap.size ∧ b ≠ m) := hs.out.ps.side0
  have H27 : Hid (Calls Tryd.prog 27 #[.slice ea en ec] w2 fun e w' => Hid (CpP w2 w' e en E)) := cp_ok ea en ec E w2 (HP.out w2 HBB.out).2.1 hel.out hen
  go_upto_region 21 with (go_at_call 27; refine H27.out.mono ?_; intro e3 w3 hh; obtain ⟨gx, cx, rfl, x1, x2, x3, x4⟩ := hh.out)
  have HX3 : Hid (w2.heap.size ≤ gx ∧ gx < w3.heap.size ∧ Marked w2.heap.size w3 (.slice (some ⟨gx, 0, none⟩) en cx) E) := ⟨x1, x2, x3⟩
  have HB3 : Hid (Below w.heap.size w w3) := HB2.out.trans (x4.mono HB2.out.size)
  have HA3 : Hid (OAt w3 w.heap.size 2 at_ n (.slice ea en ec) (.slice xa xn xc)) := HA2.out.below x4
  have HS3 : Hid (PSD Pp w3 B m d0 d1 ov wv ts left) := hs.out.below HB3.out
  have HL3 : Hid (w3.ownsRow w0.heap.size 22 1 (.slice va xn vcap) xn vs ∧ Lent w0.heap.size w3 vs yss) := lent_fr HLn.out.2.1 HLn.out.2.2.1 (below_fr x4 []) (fun b hb => by cases hb)
  have HZ3 : Hid (w.heap.size < w2.heap.size ∧ w2.heap.size ≤ w3.heap.size) := ⟨lt_of_cell HA2.out.c0, x4.size⟩
  clear hh x1 x2 x3 x4 H27 c3 c0 HA2 HS2 HB2
  have k0 := HS3.out.ps.s0
  have H14 : Hid (∀ u, Sm w3 u → Calls Tryd.prog 14 #[optg d0, .slice (some ⟨gx, 0, none⟩) en cx, .slice va xn vcap] u fun e w' => Hid (e = .returned (.int .i64 EC) ∧ (∀ q, d0 = some q → SpAt w' q.g q.dg (fdNK q E ys) (fdNV q E ys) q.L (fdNc q E ys)) ∧ Fr w3 w' (gOf d0))) := fun u hu => by
    have t := (HP.out w3 (HB3.out.mono HBs.out)).2.2.1
    have q := pfeed_any HS3.out.ps.D0 (some ⟨gx, 0, none⟩) en cx E (.slice va xn vcap) yss u (fun q e => (HS3.out.ps.D0 q e).sp.block (by rw [hu.heap])) (t.below (Below.ofSm (Below.refl _ _) hu) (by have := t.size; omega)) hB (hu.view HX3.out.2.2.view) hel.out (fun q e h0 b off l c eb => by
      injection eb with eb _ _
      injection eb with eb
      injection eb with eb _
      have lt : q.g < w.heap.size := (hs.out.ps.D0 q e).sp.lt
      have := HX3.out.1
      have := HZ3.out.1
      omega) (fun q e => by
      have lt : q.g < w.heap.size := (hs.out.ps.D0 q e).sp.lt
      have pl := lent_pl HL3.out.1 HLn.out.1 hyl.out HL3.out.2 (g := q.g) (by have := HLn.out.2.2.2.2; omega)
      exact pl_sm pl hu) hl.out (by have := hyl.out; omega)
    rw [← HY.out] at q
    refine q.mono ?_
    intro e w' hh
    obtain ⟨h1, h2, h3⟩ := hh.out
    rw [← HEC.out] at h1
    exact ⟨h1, h2, (sm_fr hu _).trans h3⟩
  go_upto_region 22 with (first | (go_at_call 14; refine (H14.out _ ⟨rfl, rfl, rfl, rfl⟩).mono ?_; intro e4 w4 hh; obtain ⟨rfl, r1, r2⟩ := hh.out) | (go_at_call 10; refine (num_ok _ _).mono ?_; rintro e1 wx ⟨rfl, hwx⟩; obtain rfl := hwx.symm))
  have HF3 : Hid ((∀ q, d0 = some q → SpAt w4 q.g q.dg (fdNK q E ys) (fdNV q E ys) q.L (fdNc q E ys)) ∧ Fr w3 w4 (gOf d0)) := ⟨r1, r2⟩
  have HF4 : Hid (Fr w w4 (omb d0)) := (below_fr HB3.out _).trans (r2.mono fun b hb => gOf_mem hb)
  have HL4 : Hid (w4.ownsRow w0.heap.size 22 1 (.slice va xn vcap) xn vs ∧ Lent w0.heap.size w4 vs yss) := lent_fr HL3.out.1 HL3.out.2 r2 (fun b hb => by have := HSI.out _ (gOf_mem hb); have := HLn.out.2.2.2.2; omega)
  have HA4 : Hid (OAt w4 w.heap.size 2 at_ n (.slice ea en ec) (.slice xa xn xc)) := HA3.out.blk (r2.block _ (lt_of_cell HA3.out.c0) (fun hx => absurd (HSI.out w.heap.size (gOf_mem hx)).2.1 (Nat.lt_irrefl _)))
  have HM4 : Hid (w4.heap[m]? = w3.heap[m]?) := r2.block m (lt_of_cell HS3.out.ps.s0) (fun hx => (HSI.out _ (gOf_mem hx)).2.2 rfl)
  have HX4 : Hid (Marked w2.heap.size w4 (.slice (some ⟨gx, 0, none⟩) en cx) E) := HX3.out.2.2.blk2 fun g hg => by
    have e1 : gx = g := by simpa [Value.ownBlock] using hg
    subst e1
    exact r2.block gx HX3.out.2.1 (fun hx => by have := HSI.out _ (gOf_mem hx); have := HX3.out.1; have := HZ3.out.1; omega)
  clear hh r1 r2 H14 k0 HL3 HA3
  have k2 : w4.cell? ⟨m, 2, none⟩ = some (opth d0) := by rw [World.cell?_of_block (a := ⟨m, 2, none⟩) HM4.out]; exact HS3.out.ps.t0
  have c3 : w4.cell? ⟨w.heap.size, 3, none⟩ = some (.slice ea en ec) := HA4.out.c3
  have c4 : w4.cell? ⟨w.heap.size, 4, none⟩ = some (.slice xa xn xc) := HA4.out.c4
  have H36 : Hid (∀ u, Sm w4 u → Calls Tryd.prog 36 #[opth d0, .slice ea en ec, .slice xa xn xc] u fun e w' => Hid (∃ ka kc va vc, e = .returned (.int .i64 EC) ∧ (∀ q, d0 = some q → RSp w' q.h q.dg q.L (fdNc q E ys) ka kc va vc (fL (fdNK q E ys) (szOf q.dg)) (fL (fdNV q E ys) (szOf q.dg)) ∧ ∀ b, b ∈ ablk ka ++ ablk va → b ∈ ablk q.ka ++ ablk q.va ∨ w4.heap.size ≤ b) ∧ Fr w4 w' (hOf d0))) := fun u hu => by
    have hb3 : Below B w u := (HF4.out.toBelow (fun b hb => (HSI.out b hb).1) HBs.out).trans (Below.ofSm (Below.refl _ _) hu |>.mono (by have := HF4.out.size; have := HBs.out; omega))
    have pp := HP.out u hb3
    have q := rfeed_any hs.out.ps.D0 ea en ec E xa xn xc xs yss u (fun q e => by
      have a := hs.out.ps.D0 q e
      have e4 : u.heap = w4.heap := hu.heap
      have ne := hs.out.ps.gh0 q e
      have nr := hs.out.ps.rnot0 q e
      have f := HF3.out.2
      have g0 : ∀ b, b < w.heap.size → b ≠ q.g → u.heap[b]? = w.heap[b]? := fun b hb hx => by
        rw [e4, f.block b (Nat.lt_of_lt_of_le hb HB3.out.size) (by rw [e]; simp only [gOf, List.mem_singleton]; exact hx)]
        exact HB3.out.block b hb
      refine a.rs.blk (g0 q.h (a.rs.lt) (fun x => ne x.symm)) (fun b off eb => ?_) (fun b off eb => ?_)
      · have z := nr b (List.mem_append_left _ (by rw [eb]; exact List.mem_singleton.2 rfl))
        exact g0 b z.1 z.2
      · have z := nr b (List.mem_append_right _ (by rw [eb]; exact List.mem_singleton.2 rfl))
        exact g0 b z.1 z.2) pp.2.2.2 hB pp.2.1 hel.out pp.1 hxn.out hl.out hn
    rw [← HY.out] at q
    refine q.mono ?_
    intro e w' hh
    obtain ⟨ka, kc, va, vc, h1, h4, h5⟩ := hh.out
    rw [← HEC.out] at h1
    rw [hu.heap] at h4
    exact ⟨ka, kc, va, vc, h1, h4, (sm_fr hu _).trans h5⟩
  have HK4 : Hid (∀ u, Fr w4 u (hOf d0) → u.cell? ⟨m, 2, none⟩ = some (opth d0) ∧ u.cell? ⟨w.heap.size, 3, none⟩ = some (.slice ea en ec) ∧ u.cell? ⟨w.heap.size, 4, none⟩ = some (.slice xa xn xc)) := fun u hu => by
    have hb := hu.block w.heap.size (lt_of_cell c4) (fun hx => absurd (HSI.out w.heap.size (hOf_mem hx)).2.1 (Nat.lt_irrefl _))
    refine ⟨?_, ?_, ?_⟩
    · rw [World.cell?_of_block (a := ⟨m, 2, none⟩) (hu.block m (lt_of_cell k2) (fun hx => (HSI.out _ (hOf_mem hx)).2.2 rfl))]; exact k2
    · rw [World.cell?_of_block (a := ⟨w.heap.size, 3, none⟩) hb]; exact c3
    · rw [World.cell?_of_block (a := ⟨w.heap.size, 4, none⟩) hb]; exact c4
  go_region_held3 (fun u => u.cell? ⟨m, 2, none⟩ = some (opth d0) ∧ u.cell? ⟨w.heap.size, 3, none⟩ = some (.slice ea en ec) ∧ u.cell? ⟨w.heap.size, 4, none⟩ = some (.slice xa xn xc)) (first | exact ⟨k2, c3, c4⟩ | exact hS5 | go_keep) ((go_at_call 36; refine (H36.out w4.drew ⟨rfl, rfl, rfl, rfl⟩).mono ?_; intro e5 w5 hh; obtain ⟨ka, kc, va1, vc, rfl, r3, r4⟩ := hh.out; have hS5 : w5.cell? ⟨m, 2, none⟩ = some (opth d0) ∧ w5.cell? ⟨w.heap.size, 3, none⟩ = some (.slice ea en ec) ∧ w5.cell? ⟨w.heap.size, 4, none⟩ = some (.slice xa xn xc) := HK4.out w5 r4))
  have HR5 : Hid ((∀ q, d0 = some q → RSp w5 q.h q.dg q.L (fdNc q E ys) ka kc va1 vc (fL (fdNK q E ys) (szOf q.dg)) (fL (fdNV q E ys) (szOf q.dg)) ∧ ∀ b, b ∈ ablk ka ++ ablk va1 → b ∈ ablk q.ka ++ ablk q.va ∨ w4.heap.size ≤ b) ∧ Fr w4 w5 (hOf d0)) := ⟨r3, r4⟩
  have HF5 : Hid (Fr w w5 (omb d0)) := HF4.out.trans (r4.mono fun b hb => hOf_mem hb)
  have HL5 : Hid (w5.ownsRow w0.heap.size 22 1 (.slice va xn vcap) xn vs ∧ Lent w0.heap.size w5 vs yss) := lent_fr HL4.out.1 HL4.out.2 r4 (fun b hb => by have := HSI.out _ (hOf_mem hb); have := HLn.out.2.2.2.2; omega)
  have HX5 : Hid (Marked w2.heap.size w5 (.slice (some ⟨gx, 0, none⟩) en cx) E) := HX4.out.blk2 fun g hg => by
    have e1 : gx = g := by simpa [Value.ownBlock] using hg
    subst e1
    exact r4.block gx (Nat.lt_of_lt_of_le HX3.out.2.1 HF3.out.2.size) (fun hx => by have := HSI.out _ (hOf_mem hx); have := HX3.out.1; have := HZ3.out.1; omega)
  have c35 : w5.cell? ⟨w.heap.size, 3, none⟩ = some (.slice ea en ec) := hS5.2.1
  have c45 : w5.cell? ⟨w.heap.size, 4, none⟩ = some (.slice xa xn xc) := hS5.2.2
  clear hh r3 r4 hS5 H36 HK4 k2 c3 c4 HL4 HX4
  have H29 : Hid (∀ u, Sm w5 u → Calls Tryd.prog 29 #[.slice (some ⟨gx, 0, none⟩) en cx, .slice ea en ec] u fun e w' => Hid (e = .returned (.bool true) ∧ Sm w5 w')) := fun u hu => by
    have hb : Below B w u := (HF5.out.toBelow (fun b hb => (HSI.out b hb).1) HBs.out).trans (Below.ofSm (Below.refl _ _) hu |>.mono (by have := HF5.out.size; have := HBs.out; omega))
    refine (whole_any _ _ E w2.heap.size u (HX5.out.kept fun b hb => by rw [hu.heap]) (HP.out u hb).2.1).mono ?_
    rintro e w' ⟨q1, k, rfl⟩
    exact ⟨q1, hu.drewN k⟩
  have H35 : Hid (∀ u, Sm w5 u → Calls Tryd.prog 35 #[.slice va xn vcap, .slice xa xn xc] u fun e w' => Hid (e = .returned (.bool true) ∧ Kw w5 w' vs)) := fun u hu => by
    have ku : ∀ v, Kw u v vs → Kw w5 v vs := fun v k => ⟨k.os.trans hu.os, k.tape.trans hu.tape, k.output.trans hu.output, by rw [← hu.heap]; exact k.size, fun q hq hn => by rw [← hu.heap]; exact k.block q (by rw [hu.heap]; exact hq) hn⟩
    have lf := lent_fr HL5.out.1 HL5.out.2 (sm_fr hu []) (fun b hb => by cases hb)
    refine (kept_ok w0.heap.size va xa xn vcap xc vs xs yss u lf.1 HLn.out.1 lf.2 HLn.out.2.2.2.1 (fun v k => ?_) hxn hl (by omega) (by have := HLn.out.2.2.2.2; have := HR5.out.2.size; have := HF3.out.2.size; have := HZ3.out; rw [hu.heap]; omega)).mono ?_
    · have f5 : Fr w v (omb d0) := HF5.out.late (kw_fr (ku v k) (vs.filterMap Value.ownBlock) (fun j x hx q e => List.mem_filterMap.2 ⟨x, List.mem_of_getElem? hx, e⟩)) (fun b hb => by
        obtain ⟨x, hx, e⟩ := List.mem_filterMap.1 hb
        obtain ⟨j, hj⟩ := List.getElem?_of_mem hx
        have z := (HL5.out.2 j x hj).blk_lt e
        exact .inr (by have := HLn.out.2.2.2.2; omega))
      exact (HP.out v (f5.toBelow (fun b hb => (HSI.out b hb).1) HBs.out)).1
    · intro e w' hh
      obtain ⟨h1, h2⟩ := hh.out
      exact ⟨h1, ku _ h2⟩
  go_wp2_with (go_at_call 29; refine (H29.out _ ⟨rfl, rfl, rfl, rfl⟩).mono ?_)
  intro e6 w6 hh
  obtain ⟨rfl, s6⟩ := hh.out
  have c46 : w6.cell? ⟨w.heap.size, 4, none⟩ = some (.slice xa xn xc) := by rw [s6.cell]; exact c45
  have H35' : Hid (Calls Tryd.prog 35 #[.slice va xn vcap, .slice xa xn xc] w6 fun e w' => Hid (e = .returned (.bool true) ∧ Kw w5 w' vs)) := H35.out w6 s6
  clear hh s6 H29 H35 c35 c45
  go_wp2_with (go_at_call 35; refine H35'.out.mono ?_)
  intro e7 w7 hh
  obtain ⟨rfl, kw7⟩ := hh.out
  have HLb : Hid (∀ (j : Nat) (x : Value), vs[j]? = some x → ∀ q, Value.ownBlock x = some q → w.heap.size ≤ q ∧ q < w2.heap.size) := fun j x hx q e => by
    have z := (HLn.out.2.2.1 j x hx).blk_lt e
    have := HLn.out.2.2.2.2
    omega
  have HX7 : Hid (Marked w2.heap.size w7 (.slice (some ⟨gx, 0, none⟩) en cx) E) := HX5.out.blk2 fun g hg => by
    have e1 : gx = g := by simpa [Value.ownBlock] using hg
    subst e1
    exact kw7.block gx (by have := HX3.out.2.1; have := HF3.out.2.size; have := HR5.out.2.size; omega) (fun j x hx e => by have := HLb.out j x hx gx e; have := HX3.out.1; omega)
  have HK7 : Hid (Kw w5 w7 vs) := kw7
  have H21 : Hid (Calls Tryd.prog 21 #[.slice (some ⟨gx, 0, none⟩) en cx] w7 fun e w' => Hid (e = .returned (.tuple #[]) ∧ w7.grownBy w' (some gx))) := spoilm_ok w2.heap.size en gx cx E w7 HX7.out hel.out hen (by have := HX3.out; have := HF3.out.2.size; have := HR5.out.2.size; have := kw7.size; omega)
  clear hh kw7 H35' c46
  go_wp2_with (go_at_call 21; refine H21.out.mono ?_)
  intro e8 w8 hh
  obtain ⟨rfl, g8⟩ := hh.out
  have HF : Hid (StepP Pp w w8 (.returned (.bool true)) B m ts.length) := by
    have f8 : Fr w5 w8 (vs.filterMap Value.ownBlock ++ [gx]) := (kw_fr HK7.out _ (fun j x hx q e => List.mem_filterMap.2 ⟨x, List.mem_of_getElem? hx, e⟩)).then (grown_fr g8)
    obtain ⟨d', z1, z2, z3, z4⟩ := hs.out.drawn0 HB3.out HF3.out.2 HR5.out.2 f8 (fun b hb => by
      rcases List.mem_append.1 hb with hb | hb
      · obtain ⟨x, hx, e⟩ := List.mem_filterMap.1 hb
        obtain ⟨j, hj⟩ := List.getElem?_of_mem hx
        have := HLb.out j x hj b e
        have := HZ3.out
        omega
      · have e1 := List.mem_singleton.1 hb
        subst e1
        have := HX3.out
        have := HZ3.out
        omega) HF3.out.1 HR5.out.1 (fun q e => fdNc_ok (hs.out.ps.D0 q e).c0 (hs.out.ps.D0 q e).cL)
    exact ⟨rfl, z4.toBelow (fun b hb => (hs.out.ps.side0 b hb).1) HBs.out, d', d1, ov, wv, ts, left, z1, by omega⟩
  clear hh g8 H21
  go_wp2
  go_ret
  exact HF.out
set_option maxHeartbeats 64000000 in
set_option maxRecDepth 100000 in
theorem plays_feed1 (Pp : Prop) (B m : Nat) (d0 d1 : Option Desc) (ov wv : Value) (ts : List (Value × Value × List Int)) (left : Int) (at_ n : Int) (ea xa : Option Addr) (en ec xn xc : Nat) (E : List Int) (xs : List Value) (yss : List (List Int)) (w : World) (hs : Hid (PSD Pp w B m d0 d1 ov wv ts left)) (hB : 4 ≤ B) (HP : Hid (∀ u, Below B w u → PV u (.slice xa xn xc) xs yss ∧ View u (.slice ea en ec) E ∧ Tables u ∧ RTab u)) (hxn : Hid (xs.length = xn)) (hl : Hid (yss.flatten.length ≤ 262144)) (hn : xn ≤ 1048576) (hel : Hid (E.length = en)) (hen : en ≤ 262144) (hts : ts.length ≤ 1000) (hat : at_.tmod 2 = 1 ∨ at_.tmod 2 = -1) :
    Calls Tryd.prog 20 #[.pointer (some ⟨m, 0, none⟩), .agg #[.int .i64 2, .int .i64 at_, .int .i64 n, .slice ea en ec, .slice xa xn xc]] w fun e w' => Hid (StepP Pp w w' e B m ts.length) := by
  have HBs : Hid (B ≤ w.heap.size) := by show _ ≤ _; have := hs.out.ps.mB; have mlt : m < w.heap.size := lt_of_cell hs.out.ps.s0; omega
  rcases hat with hat | hat
  all_goals
    go_enter Tryd.func20, Tryd.ntmps20
    go_upto_region 1 with fail
    have HA0 : Hid (OAt (w.alloc (.cells #[.int .i64 2, .int .i64 at_, .int .i64 n, .slice ea en ec, .slice xa xn xc] 39)) w.heap.size 2 at_ n (.slice ea en ec) (.slice xa xn xc) ∧ Below w.heap.size w (w.alloc (.cells #[.int .i64 2, .int .i64 at_, .int .i64 n, .slice ea en ec, .slice xa xn xc] 39)) ∧ (w.alloc (.cells #[.int .i64 2, .int .i64 at_, .int .i64 n, .slice ea en ec, .slice xa xn xc] 39)).heap.size = w.heap.size + 1) := ⟨OAt.new _ _ _ _ _ _ _, below_alloc1 _ _, size_alloc1 _ _⟩
    generalize w.alloc (.cells #[.int .i64 2, .int .i64 at_, .int .i64 n, .slice ea en ec, .slice xa xn xc] 39) = w0 at HA0 ⊢
    have c1 := HA0.out.1.c1
    have HP0 : Hid (PV w0 (.slice xa xn xc) xs yss) := (HP.out w0 (HA0.out.2.1.mono HBs.out)).1
    have c4 := HA0.out.1.c4
    have HL : Hid (Calls Tryd.prog 33 #[.slice xa xn xc] w0 fun e w' => e = .returned (.bool false) ∧ w' = w0) := long_ok xa xn xc xs yss w0 HP0 hxn hl (by omega)
    go_upto_region 6 with (go_at_call 33; refine HL.out.mono ?_; rintro e1 w1 ⟨rfl, hw1⟩; obtain rfl := hw1.symm)
    have H34 : Hid (Calls Tryd.prog 34 #[.slice xa xn xc] w0 fun e w' => Hid (∃ v', e = .returned v' ∧ ∃ vs, vs.length = xn ∧ w'.ownsRow w0.heap.size 22 1 v' xn vs ∧ Lent w0.heap.size w' vs yss ∧ Inc vs ∧ Below w0.heap.size w0 w')) := lent_ok xa xn xc xs yss w0 HP0 hxn (by show _ ≤ _; have := hl.out; omega) hn
    go_upto_region 7 with (go_at_call 34; refine H34.out.mono ?_; intro e2 w2 hh; obtain ⟨v', rfl, vs, hv1, hv2, hv3, hv4, hv5⟩ := hh.out)
    have HB2 : Hid (Below w.heap.size w w2) := HA0.out.2.1.trans (hv5.mono HA0.out.2.1.size)
    have HA2 : Hid (OAt w2 w.heap.size 2 at_ n (.slice ea en ec) (.slice xa xn xc)) := HA0.out.1.below hv5
    have HS2 : Hid (PSD Pp w2 B m d0 d1 ov wv ts left) := hs.out.below HB2.out
    have HLn : Hid (vs.length = xn ∧ w2.ownsRow w0.heap.size 22 1 v' xn vs ∧ Lent w0.heap.size w2 vs yss ∧ Inc vs ∧ w0.heap.size = w.heap.size + 1) := ⟨hv1, hv2, hv3, hv4, HA0.out.2.2⟩
    obtain ⟨va, vcap, rfl⟩ : ∃ a c, v' = .slice a xn c := by
      rcases HLn.out.2.1.2 with ⟨e, e2⟩ | ⟨g, c, _, e, _⟩
      · exact ⟨none, 0, by rw [e, e2]⟩
      · exact ⟨_, c, e⟩
    clear hh hv1 hv2 hv3 hv4 hv5 H34 c1 c4 HL HP0 HA0
    have c0 := HA2.out.c0
    have c3 := HA2.out.c3
    obtain ⟨ys, HY⟩ : ∃ ys, Hid (ys = yss.flatten) := ⟨_, rfl⟩
    obtain ⟨EC, HEC⟩ : ∃ EC, Hid (EC = fdC d1 E.length ys.length) := ⟨_, rfl⟩
    have HBB : Hid (Below B w w2) := HB2.out.mono HBs.out
    have hyl : Hid (yss.length = xn) := by show _ = _; obtain ⟨_, _, _, _, _, h3, _⟩ := (HP.out w2 HBB.out).1; rw [← h3, hxn.out]
    have HSI : Hid (∀ b, b ∈ omb d1 → B ≤ b ∧ b < w.heap.size ∧ b ≠ m) := hs.out.ps.side1
    have H27 : Hid (Calls Tryd.prog 27 #[.slice ea en ec] w2 fun e w' => Hid (CpP w2 w' e en E)) := cp_ok ea en ec E w2 (HP.out w2 HBB.out).2.1 hel.out hen
    go_upto_region 21 with (go_at_call 27; refine H27.out.mono ?_; intro e3 w3 hh; obtain ⟨gx, cx, rfl, x1, x2, x3, x4⟩ := hh.out)
    have HX3 : Hid (w2.heap.size ≤ gx ∧ gx < w3.heap.size ∧ Marked w2.heap.size w3 (.slice (some ⟨gx, 0, none⟩) en cx) E) := ⟨x1, x2, x3⟩
    have HB3 : Hid (Below w.heap.size w w3) := HB2.out.trans (x4.mono HB2.out.size)
    have HA3 : Hid (OAt w3 w.heap.size 2 at_ n (.slice ea en ec) (.slice xa xn xc)) := HA2.out.below x4
    have HS3 : Hid (PSD Pp w3 B m d0 d1 ov wv ts left) := hs.out.below HB3.out
    have HL3 : Hid (w3.ownsRow w0.heap.size 22 1 (.slice va xn vcap) xn vs ∧ Lent w0.heap.size w3 vs yss) := lent_fr HLn.out.2.1 HLn.out.2.2.1 (below_fr x4 []) (fun b hb => by cases hb)
    have HZ3 : Hid (w.heap.size < w2.heap.size ∧ w2.heap.size ≤ w3.heap.size) := ⟨lt_of_cell HA2.out.c0, x4.size⟩
    clear hh x1 x2 x3 x4 H27 c3 c0 HA2 HS2 HB2
    have k0 := HS3.out.ps.s1
    have H14 : Hid (∀ u, Sm w3 u → Calls Tryd.prog 14 #[optg d1, .slice (some ⟨gx, 0, none⟩) en cx, .slice va xn vcap] u fun e w' => Hid (e = .returned (.int .i64 EC) ∧ (∀ q, d1 = some q → SpAt w' q.g q.dg (fdNK q E ys) (fdNV q E ys) q.L (fdNc q E ys)) ∧ Fr w3 w' (gOf d1))) := fun u hu => by
      have t := (HP.out w3 (HB3.out.mono HBs.out)).2.2.1
      have q := pfeed_any HS3.out.ps.D1 (some ⟨gx, 0, none⟩) en cx E (.slice va xn vcap) yss u (fun q e => (HS3.out.ps.D1 q e).sp.block (by rw [hu.heap])) (t.below (Below.ofSm (Below.refl _ _) hu) (by have := t.size; omega)) hB (hu.view HX3.out.2.2.view) hel.out (fun q e h0 b off l c eb => by
        injection eb with eb _ _
        injection eb with eb
        injection eb with eb _
        have lt : q.g < w.heap.size := (hs.out.ps.D1 q e).sp.lt
        have := HX3.out.1
        have := HZ3.out.1
        omega) (fun q e => by
        have lt : q.g < w.heap.size := (hs.out.ps.D1 q e).sp.lt
        have pl := lent_pl HL3.out.1 HLn.out.1 hyl.out HL3.out.2 (g := q.g) (by have := HLn.out.2.2.2.2; omega)
        exact pl_sm pl hu) hl.out (by have := hyl.out; omega)
      rw [← HY.out] at q
      refine q.mono ?_
      intro e w' hh
      obtain ⟨h1, h2, h3⟩ := hh.out
      rw [← HEC.out] at h1
      exact ⟨h1, h2, (sm_fr hu _).trans h3⟩
    go_upto_region 22 with (first | (go_at_call 14; refine (H14.out _ ⟨rfl, rfl, rfl, rfl⟩).mono ?_; intro e4 w4 hh; obtain ⟨rfl, r1, r2⟩ := hh.out) | (go_at_call 10; refine (num_ok _ _).mono ?_; rintro e1 wx ⟨rfl, hwx⟩; obtain rfl := hwx.symm))
    have HF3 : Hid ((∀ q, d1 = some q → SpAt w4 q.g q.dg (fdNK q E ys) (fdNV q E ys) q.L (fdNc q E ys)) ∧ Fr w3 w4 (gOf d1)) := ⟨r1, r2⟩
    have HF4 : Hid (Fr w w4 (omb d1)) := (below_fr HB3.out _).trans (r2.mono fun b hb => gOf_mem hb)
    have HL4 : Hid (w4.ownsRow w0.heap.size 22 1 (.slice va xn vcap) xn vs ∧ Lent w0.heap.size w4 vs yss) := lent_fr HL3.out.1 HL3.out.2 r2 (fun b hb => by have := HSI.out _ (gOf_mem hb); have := HLn.out.2.2.2.2; omega)
    have HA4 : Hid (OAt w4 w.heap.size 2 at_ n (.slice ea en ec) (.slice xa xn xc)) := HA3.out.blk (r2.block _ (lt_of_cell HA3.out.c0) (fun hx => absurd (HSI.out w.heap.size (gOf_mem hx)).2.1 (Nat.lt_irrefl _)))
    have HM4 : Hid (w4.heap[m]? = w3.heap[m]?) := r2.block m (lt_of_cell HS3.out.ps.s0) (fun hx => (HSI.out _ (gOf_mem hx)).2.2 rfl)
    have HX4 : Hid (Marked w2.heap.size w4 (.slice (some ⟨gx, 0, none⟩) en cx) E) := HX3.out.2.2.blk2 fun g hg => by
      have e1 : gx = g := by simpa [Value.ownBlock] using hg
      subst e1
      exact r2.block gx HX3.out.2.1 (fun hx => by have := HSI.out _ (gOf_mem hx); have := HX3.out.1; have := HZ3.out.1; omega)
    clear hh r1 r2 H14 k0 HL3 HA3
    have k2 : w4.cell? ⟨m, 3, none⟩ = some (opth d1) := by rw [World.cell?_of_block (a := ⟨m, 3, none⟩) HM4.out]; exact HS3.out.ps.t1
    have c3 : w4.cell? ⟨w.heap.size, 3, none⟩ = some (.slice ea en ec) := HA4.out.c3
    have c4 : w4.cell? ⟨w.heap.size, 4, none⟩ = some (.slice xa xn xc) := HA4.out.c4
    have H36 : Hid (∀ u, Sm w4 u → Calls Tryd.prog 36 #[opth d1, .slice ea en ec, .slice xa xn xc] u fun e w' => Hid (∃ ka kc va vc, e = .returned (.int .i64 EC) ∧ (∀ q, d1 = some q → RSp w' q.h q.dg q.L (fdNc q E ys) ka kc va vc (fL (fdNK q E ys) (szOf q.dg)) (fL (fdNV q E ys) (szOf q.dg)) ∧ ∀ b, b ∈ ablk ka ++ ablk va → b ∈ ablk q.ka ++ ablk q.va ∨ w4.heap.size ≤ b) ∧ Fr w4 w' (hOf d1))) := fun u hu => by
      have hb3 : Below B w u := (HF4.out.toBelow (fun b hb => (HSI.out b hb).1) HBs.out).trans (Below.ofSm (Below.refl _ _) hu |>.mono (by have := HF4.out.size; have := HBs.out; omega))
      have pp := HP.out u hb3
      have q := rfeed_any hs.out.ps.D1 ea en ec E xa xn xc xs yss u (fun q e => by
        have a := hs.out.ps.D1 q e
        have e4 : u.heap = w4.heap := hu.heap
        have ne := hs.out.ps.gh1 q e
        have nr := hs.out.ps.rnot1 q e
        have f := HF3.out.2
        have g0 : ∀ b, b < w.heap.size → b ≠ q.g → u.heap[b]? = w.heap[b]? := fun b hb hx => by
          rw [e4, f.block b (Nat.lt_of_lt_of_le hb HB3.out.size) (by rw [e]; simp only [gOf, List.mem_singleton]; exact hx)]
          exact HB3.out.block b hb
        refine a.rs.blk (g0 q.h (a.rs.lt) (fun x => ne x.symm)) (fun b off eb => ?_) (fun b off eb => ?_)
        · have z := nr b (List.mem_append_left _ (by rw [eb]; exact List.mem_singleton.2 rfl))
          exact g0 b z.1 z.2
        · have z := nr b (List.mem_append_right _ (by rw [eb]; exact List.mem_singleton.2 rfl))
          exact g0 b z.1 z.2) pp.2.2.2 hB pp.2.1 hel.out pp.1 hxn.out hl.out hn
      rw [← HY.out] at q
      refine q.mono ?_
      intro e w' hh
      obtain ⟨ka, kc, va, vc, h1, h4, h5⟩ := hh.out
      rw [← HEC.out] at h1
      rw [hu.heap] at h4
      exact ⟨ka, kc, va, vc, h1, h4, (sm_fr hu _).trans h5⟩
    have HK4 : Hid (∀ u, Fr w4 u (hOf d1) → u.cell? ⟨m, 3, none⟩ = some (opth d1) ∧ u.cell? ⟨w.heap.size, 3, none⟩ = some (.slice ea en ec) ∧ u.cell? ⟨w.heap.size, 4, none⟩ = some (.slice xa xn xc)) := fun u hu => by
      have hb := hu.block w.heap.size (lt_of_cell c4) (fun hx => absurd (HSI.out w.heap.size (hOf_mem hx)).2.1 (Nat.lt_irrefl _))
      refine ⟨?_, ?_, ?_⟩
      · rw [World.cell?_of_block (a := ⟨m, 3, none⟩) (hu.block m (lt_of_cell k2) (fun hx => (HSI.out _ (hOf_mem hx)).2.2 rfl))]; exact k2
      · rw [World.cell?_of_block (a := ⟨w.heap.size, 3, none⟩) hb]; exact c3
      · rw [World.cell?_of_block (a := ⟨w.heap.size, 4, none⟩) hb]; exact c4
    go_region_held3 (fun u => u.cell? ⟨m, 3, none⟩ = some (opth d1) ∧ u.cell? ⟨w.heap.size, 3, none⟩ = some (.slice ea en ec) ∧ u.cell? ⟨w.heap.size, 4, none⟩ = some (.slice xa xn xc)) (first | exact ⟨k2, c3, c4⟩ | exact hS5 | go_keep) ((go_at_call 36; refine (H36.out w4.drew ⟨rfl, rfl, rfl, rfl⟩).mono ?_; intro e5 w5 hh; obtain ⟨ka, kc, va1, vc, rfl, r3, r4⟩ := hh.out; have hS5 : w5.cell? ⟨m, 3, none⟩ = some (opth d1) ∧ w5.cell? ⟨w.heap.size, 3, none⟩ = some (.slice ea en ec) ∧ w5.cell? ⟨w.heap.size, 4, none⟩ = some (.slice xa xn xc) := HK4.out w5 r4))
    have HR5 : Hid ((∀ q, d1 = some q → RSp w5 q.h q.dg q.L (fdNc q E ys) ka kc va1 vc (fL (fdNK q E ys) (szOf q.dg)) (fL (fdNV q E ys) (szOf q.dg)) ∧ ∀ b, b ∈ ablk ka ++ ablk va1 → b ∈ ablk q.ka ++ ablk q.va ∨ w4.heap.size ≤ b) ∧ Fr w4 w5 (hOf d1)) := ⟨r3, r4⟩
    have HF5 : Hid (Fr w w5 (omb d1)) := HF4.out.trans (r4.mono fun b hb => hOf_mem hb)
    have HL5 : Hid (w5.ownsRow w0.heap.size 22 1 (.slice va xn vcap) xn vs ∧ Lent w0.heap.size w5 vs yss) := lent_fr HL4.out.1 HL4.out.2 r4 (fun b hb => by have := HSI.out _ (hOf_mem hb); have := HLn.out.2.2.2.2; omega)
    have HX5 : Hid (Marked w2.heap.size w5 (.slice (some ⟨gx, 0, none⟩) en cx) E) := HX4.out.blk2 fun g hg => by
      have e1 : gx = g := by simpa [Value.ownBlock] using hg
      subst e1
      exact r4.block gx (Nat.lt_of_lt_of_le HX3.out.2.1 HF3.out.2.size) (fun hx => by have := HSI.out _ (hOf_mem hx); have := HX3.out.1; have := HZ3.out.1; omega)
    have c35 : w5.cell? ⟨w.heap.size, 3, none⟩ = some (.slice ea en ec) := hS5.2.1
    have c45 : w5.cell? ⟨w.heap.size, 4, none⟩ = some (.slice xa xn xc) := hS5.2.2
    clear hh r3 r4 hS5 H36 HK4 k2 c3 c4 HL4 HX4
    have H29 : Hid (∀ u, Sm w5 u → Calls Tryd.prog 29 #[.slice (some ⟨gx, 0, none⟩) en cx, .slice ea en ec] u fun e w' => Hid (e = .returned (.bool true) ∧ Sm w5 w')) := fun u hu => by
      have hb : Below B w u := (HF5.out.toBelow (fun b hb => (HSI.out b hb).1) HBs.out).trans (Below.ofSm (Below.refl _ _) hu |>.mono (by have := HF5.out.size; have := HBs.out; omega))
      refine (whole_any _ _ E w2.heap.size u (HX5.out.kept fun b hb => by rw [hu.heap]) (HP.out u hb).2.1).mono ?_
      rintro e w' ⟨q1, k, rfl⟩
      exact ⟨q1, hu.drewN k⟩
    have H35 : Hid (∀ u, Sm w5 u → Calls Tryd.prog 35 #[.slice va xn vcap, .slice xa xn xc] u fun e w' => Hid (e = .returned (.bool true) ∧ Kw w5 w' vs)) := fun u hu => by
      have ku : ∀ v, Kw u v vs → Kw w5 v vs := fun v k => ⟨k.os.trans hu.os, k.tape.trans hu.tape, k.output.trans hu.output, by rw [← hu.heap]; exact k.size, fun q hq hn => by rw [← hu.heap]; exact k.block q (by rw [hu.heap]; exact hq) hn⟩
      have lf := lent_fr HL5.out.1 HL5.out.2 (sm_fr hu []) (fun b hb => by cases hb)
      refine (kept_ok w0.heap.size va xa xn vcap xc vs xs yss u lf.1 HLn.out.1 lf.2 HLn.out.2.2.2.1 (fun v k => ?_) hxn hl (by omega) (by have := HLn.out.2.2.2.2; have := HR5.out.2.size; have := HF3.out.2.size; have := HZ3.out; rw [hu.heap]; omega)).mono ?_
      · have f5 : Fr w v (omb d1) := HF5.out.late (kw_fr (ku v k) (vs.filterMap Value.ownBlock) (fun j x hx q e => List.mem_filterMap.2 ⟨x, List.mem_of_getElem? hx, e⟩)) (fun b hb => by
          obtain ⟨x, hx, e⟩ := List.mem_filterMap.1 hb
          obtain ⟨j, hj⟩ := List.getElem?_of_mem hx
          have z := (HL5.out.2 j x hj).blk_lt e
          exact .inr (by have := HLn.out.2.2.2.2; omega))
        exact (HP.out v (f5.toBelow (fun b hb => (HSI.out b hb).1) HBs.out)).1
      · intro e w' hh
        obtain ⟨h1, h2⟩ := hh.out
        exact ⟨h1, ku _ h2⟩
    go_wp2_with (go_at_call 29; refine (H29.out _ ⟨rfl, rfl, rfl, rfl⟩).mono ?_)
    intro e6 w6 hh
    obtain ⟨rfl, s6⟩ := hh.out
    have c46 : w6.cell? ⟨w.heap.size, 4, none⟩ = some (.slice xa xn xc) := by rw [s6.cell]; exact c45
    have H35' : Hid (Calls Tryd.prog 35 #[.slice va xn vcap, .slice xa xn xc] w6 fun e w' => Hid (e = .returned (.bool true) ∧ Kw w5 w' vs)) := H35.out w6 s6
    clear hh s6 H29 H35 c35 c45
    go_wp2_with (go_at_call 35; refine H35'.out.mono ?_)
    intro e7 w7 hh
    obtain ⟨rfl, kw7⟩ := hh.out
    have HLb : Hid (∀ (j : Nat) (x : Value), vs[j]? = some x → ∀ q, Value.ownBlock x = some q → w.heap.size ≤ q ∧ q < w2.heap.size) := fun j x hx q e => by
      have z := (HLn.out.2.2.1 j x hx).blk_lt e
      have := HLn.out.2.2.2.2
      omega
    have HX7 : Hid (Marked w2.heap.size w7 (.slice (some ⟨gx, 0, none⟩) en cx) E) := HX5.out.blk2 fun g hg => by
      have e1 : gx = g := by simpa [Value.ownBlock] using hg
      subst e1
      exact kw7.block gx (by have := HX3.out.2.1; have := HF3.out.2.size; have := HR5.out.2.size; omega) (fun j x hx e => by have := HLb.out j x hx gx e; have := HX3.out.1; omega)
    have HK7 : Hid (Kw w5 w7 vs) := kw7
    have H21 : Hid (Calls Tryd.prog 21 #[.slice (some ⟨gx, 0, none⟩) en cx] w7 fun e w' => Hid (e = .returned (.tuple #[]) ∧ w7.grownBy w' (some gx))) := spoilm_ok w2.heap.size en gx cx E w7 HX7.out hel.out hen (by have := HX3.out; have := HF3.out.2.size; have := HR5.out.2.size; have := kw7.size; omega)
    clear hh kw7 H35' c46
    go_wp2_with (go_at_call 21; refine H21.out.mono ?_)
    intro e8 w8 hh
    obtain ⟨rfl, g8⟩ := hh.out
    have HF : Hid (StepP Pp w w8 (.returned (.bool true)) B m ts.length) := by
      have f8 : Fr w5 w8 (vs.filterMap Value.ownBlock ++ [gx]) := (kw_fr HK7.out _ (fun j x hx q e => List.mem_filterMap.2 ⟨x, List.mem_of_getElem? hx, e⟩)).then (grown_fr g8)
      obtain ⟨d', z1, z2, z3, z4⟩ := hs.out.drawn1 HB3.out HF3.out.2 HR5.out.2 f8 (fun b hb => by
        rcases List.mem_append.1 hb with hb | hb
        · obtain ⟨x, hx, e⟩ := List.mem_filterMap.1 hb
          obtain ⟨j, hj⟩ := List.getElem?_of_mem hx
          have := HLb.out j x hj b e
          have := HZ3.out
          omega
        · have e1 := List.mem_singleton.1 hb
          subst e1
          have := HX3.out
          have := HZ3.out
          omega) HF3.out.1 HR5.out.1 (fun q e => fdNc_ok (hs.out.ps.D1 q e).c0 (hs.out.ps.D1 q e).cL)
      exact ⟨rfl, z4.toBelow (fun b hb => (hs.out.ps.side1 b hb).1) HBs.out, d0, d', ov, wv, ts, left, z1, by omega⟩
    clear hh g8 H21
    go_wp2
    go_ret
    exact HF.out
end Go.Proofs.YtkeklmkaleomkaaDoor
namespace Go.Proofs.YtkeklmkaleomkaaDoor
open Go.RowKit
set_option linter.unusedVariables false
set_option linter.unusedSimpArgs false
/-- A new side, number 1. -/
theorem PS.new1 {w v : World} {B m n : Nat} {d0 d1 d' : Option Desc} {ov wv : Value} {os ws : List Value} {left : Int} (s : PS w B m d0 d1 ov wv n os ws left) (t : Touch w v m 0 7) (c0 : v.cell? ⟨m, 0, none⟩ = some (optg d0)) (c1 : v.cell? ⟨m, 1, none⟩ = some (optg d')) (c2 : v.cell? ⟨m, 2, none⟩ = some (opth d0)) (c3 : v.cell? ⟨m, 3, none⟩ = some (opth d')) (c4 : v.cell? ⟨m, 4, none⟩ = some ov) (c5 : v.cell? ⟨m, 5, none⟩ = some wv) (c6 : v.cell? ⟨m, 6, none⟩ = some (.int .i64 left)) (th : v.there m 0 7) (hD : ∀ d, d' = some d → DAt v B d) (hn : ∀ b, b ∈ omb d' ++ orb d' → w.heap.size ≤ b ∧ b < v.heap.size) (hd : (omb d').Nodup) (ha : ∀ b, b ∈ orb d' → b ∉ omb d') : PS v B m d0 d' ov wv n os ws left := by
  obtain ⟨h1, h2⟩ := s.same t
  have old0 : ∀ b, b ∈ omb d0 → b < w.heap.size := fun b hb => (s.lt b (List.mem_append_right _ (List.mem_append_left _ hb))).2
  have oldR : ∀ b, b ∈ vblk ov ++ vblk wv → b < w.heap.size := fun b hb => (s.lt b (List.mem_append_right _ (List.mem_append_right _ (List.mem_append_right _ hb)))).2
  have mlt : m < w.heap.size := lt_of_cell s.s0
  have hB : B ≤ w.heap.size := by have := s.mB; omega
  have hs := s.nod
  rw [PMb, List.singleton_append, List.nodup_cons, List.nodup_append, List.nodup_append] at hs
  have new : ∀ b, b ∈ omb d' → w.heap.size ≤ b := fun b hb => (hn b (List.mem_append_left _ hb)).1
  refine ⟨c0, c1, c2, c3, c4, c5, c6, th, (s.sides t).1, hD, owns_same s.out h1.right.right.left, owns_same s.was h1.right.right.right, s.mB, ?_, ?_, s.l0, s.l1⟩
  · rw [PMb, List.singleton_append, List.nodup_cons, List.nodup_append, List.nodup_append]
    refine ⟨fun hb => ?_, hs.2.1, ⟨hd, hs.2.2.1.2.1, fun a hx b hy e => ?_⟩, fun a hx b hy e => ?_⟩
    · rcases List.mem_append.1 hb with hb | hb
      · exact hs.1 (List.mem_append_left _ hb)
      · rcases List.mem_append.1 hb with hb | hb
        · have := new m hb; omega
        · exact hs.1 (List.mem_append_right _ (List.mem_append_right _ hb))
    · have := new a hx
      have := oldR b hy
      omega
    · rcases List.mem_append.1 hy with hy | hy
      · have := old0 a hx
        have := new b hy
        omega
      · exact hs.2.2.2 a hx b (List.mem_append_right _ hy) e
  · intro b hb
    rcases List.mem_append.1 hb with hb | hb
    · have q := s.ro b (List.mem_append_left _ hb)
      refine ⟨Nat.lt_of_lt_of_le q.1 t.size, q.2.1, fun hx => ?_⟩
      simp only [PMb, List.mem_append, List.mem_singleton] at hx q
      rcases hx with rfl | hx | hx | hx
      · exact q.2.2 (.inl rfl)
      · exact q.2.2 (.inr (.inl hx))
      · have := new b hx; omega
      · exact q.2.2 (.inr (.inr (.inr hx)))
    · have q := hn b (List.mem_append_right _ hb)
      refine ⟨q.2, Nat.le_trans hB q.1, fun hx => ?_⟩
      simp only [PMb, List.mem_append, List.mem_singleton] at hx
      rcases hx with rfl | hx | hx | hx
      · omega
      · have := old0 b hx; omega
      · exact ha b hb hx
      · have := oldR b (by simpa only [List.mem_append] using hx); omega
theorem copied1 {w2 w3 w5 : World} {B m n : Nat} {d0 d1 : Option Desc} {ov wv : Value} {os ws : List Value} {left : Int} {g3 h5 : Nat} {ka va : Option Addr} {kc vc : Nat} (s : PS w2 B m d0 d1 ov wv n os ws left) (b3 : Below w2.heap.size w2 w3) (hg : w2.heap.size ≤ g3) (h3 : ∀ q, d0 = some q → SpAt w3 g3 q.dg q.K q.V q.L q.c) (hh : w3.heap.size ≤ h5) (h5' : ∀ q, d0 = some q → RSp w5 h5 q.dg q.L q.c ka kc va vc (fL q.K (szOf q.dg)) (fL q.V (szOf q.dg)) ∧ New2 w3 ka va) (b5 : Below w3.heap.size (w3.setCell ⟨m, 1, none⟩ (cpg d0 g3)) w5) :
    ∃ d', PS (w5.setCell ⟨m, 3, none⟩ (cpg d0 h5)) B m d0 d' ov wv n os ws left ∧ Touch w2 (w5.setCell ⟨m, 3, none⟩ (cpg d0 h5)) m 0 7 ∧ ∀ b, b ∈ omb d' ++ orb d' → w2.heap.size ≤ b := by
  have mlt : m < w2.heap.size := lt_of_cell s.s0
  have hB : B ≤ w2.heap.size := by have := s.mB; omega
  have sz3 := b3.size
  have s3 := s.below b3
  have z4 : (w3.setCell ⟨m, 1, none⟩ (cpg d0 g3)).heap.size = w3.heap.size := size_setCells m [cpg d0 g3] 1 w3
  have t4 : Touch w3 (w3.setCell ⟨m, 1, none⟩ (cpg d0 g3)) m 0 7 := (Touch.refl w3 m 0 7).setCell 1 _ (by omega) (by omega)
  have t5 : Touch w3 w5 m 0 7 := t4.below (by rw [z4]; exact b5) (by omega)
  have t6 : Touch w3 (w5.setCell ⟨m, 3, none⟩ (cpg d0 h5)) m 0 7 := t5.setCell 3 _ (by omega) (by omega)
  have t2 : Touch w2 (w5.setCell ⟨m, 3, none⟩ (cpg d0 h5)) m 0 7 := (((Touch.refl w2 m 0 7).below b3 mlt)).trans t6
  have z6 : (w5.setCell ⟨m, 3, none⟩ (cpg d0 h5)).heap.size = w5.heap.size := size_setCells m [cpg d0 h5] 3 w5
  have c5 : ∀ j, w5.cell? ⟨m, j, none⟩ = (w3.setCell ⟨m, 1, none⟩ (cpg d0 g3)).cell? ⟨m, j, none⟩ := fun j => World.cell?_of_block (a := ⟨m, j, none⟩) (b5.block m (by omega))
  have o4 : ∀ j, j ≠ 1 → w5.cell? ⟨m, j, none⟩ = w3.cell? ⟨m, j, none⟩ := fun j hj => by rw [c5]; exact World.cell?_setCell_other _ _ _ _ (by intro q; injection q with _ q2; omega)
  have o6 : ∀ j, j ≠ 3 → (w5.setCell ⟨m, 3, none⟩ (cpg d0 h5)).cell? ⟨m, j, none⟩ = w5.cell? ⟨m, j, none⟩ := fun j hj => World.cell?_setCell_other _ _ _ _ (by intro q; injection q with _ q2; omega)
  have e0 : w5.cell? ⟨m, 1, none⟩ = some (cpg d0 g3) := by rw [c5]; exact World.cell?_setCell_same' _ _ _ (by rw [s3.s1]; rfl)
  have e2 : (w5.setCell ⟨m, 3, none⟩ (cpg d0 h5)).cell? ⟨m, 3, none⟩ = some (cpg d0 h5) := World.cell?_setCell_same' _ _ _ (by rw [o4 3 (by omega), s3.t1]; rfl)
  have hD : ∀ d, cpd d0 g3 h5 ka kc va vc = some d → DAt (w5.setCell ⟨m, 3, none⟩ (cpg d0 h5)) B d := by
    intro d e
    cases d0 with
    | none => cases e
    | some q =>
      have e' : (⟨g3, h5, q.dg, q.K, q.V, q.L, q.c, ka, kc, va, vc⟩ : Desc) = d := by injection e
      subst e'
      have a := h3 q rfl
      have r := h5' q rfl
      have kk := s3.D0 q rfl
      have t56 : Touch w5 (w5.setCell ⟨m, 3, none⟩ (cpg (some q) h5)) m 0 7 := (Touch.refl w5 m 0 7).setCell 3 _ (by omega) (by omega)
      refine ⟨a.block (t6.block g3 a.lt (by omega)), r.1.blk (t56.block h5 r.1.lt (by omega)) (fun b off eb => ?_) (fun b off eb => ?_), kk.kn, kk.c0, kk.cL, kk.lL, Nat.le_trans hB hg, by show B ≤ h5; omega⟩
      · have q1 := r.1.rb kk.kn b (List.mem_append_left _ (by rw [eb]; exact List.mem_singleton.2 rfl))
        exact t56.block b q1.1 (by have := r.2.1 b off eb; omega)
      · have q1 := r.1.rb kk.kn b (List.mem_append_right _ (by rw [eb]; exact List.mem_singleton.2 rfl))
        exact t56.block b q1.1 (by have := r.2.2 b off eb; omega)
  have hn : ∀ b, b ∈ omb (cpd d0 g3 h5 ka kc va vc) ++ orb (cpd d0 g3 h5 ka kc va vc) → (w2.heap.size ≤ b ∧ b < (w5.setCell ⟨m, 3, none⟩ (cpg d0 h5)).heap.size) ∧ (b ∈ orb (cpd d0 g3 h5 ka kc va vc) → b ∉ omb (cpd d0 g3 h5 ka kc va vc)) := by
    intro b hb
    cases d0 with
    | none => cases hb
    | some q =>
      have a := (h3 q rfl).lt
      have r := h5' q rfl
      have kk := s3.D0 q rfl
      have z5 := t5.size
      have rr : b ∈ ablk ka ++ ablk va → w3.heap.size ≤ b ∧ b < w5.heap.size ∧ b ≠ h5 := fun hx => by
        obtain ⟨q1, q2, q3⟩ := r.1.rb kk.kn b hx
        refine ⟨?_, q1, q2⟩
        rcases q3 with ⟨off, e⟩ | ⟨off, e⟩
        · exact r.2.1 b off e
        · exact r.2.2 b off e
      refine ⟨?_, fun hx hy => ?_⟩
      · rw [z6]
        rcases List.mem_append.1 hb with hb | hb
        · simp only [cpd, omb, Option.map, List.mem_cons, List.not_mem_nil, or_false] at hb
          rcases hb with rfl | rfl
          · omega
          · have := r.1.lt; omega
        · have := rr hb; omega
      · have := rr hx
        simp only [cpd, omb, Option.map, List.mem_cons, List.not_mem_nil, or_false] at hy
        rcases hy with rfl | rfl <;> omega
  refine ⟨cpd d0 g3 h5 ka kc va vc, s.new1 t2 (by rw [o6 0 (by omega), o4 0 (by omega)]; exact s3.s0) (by rw [o6 1 (by omega), e0, cpg_g]) (by rw [o6 2 (by omega), o4 2 (by omega)]; exact s3.t0) (by rw [e2, cpg_h]) (by rw [o6 4 (by omega), o4 4 (by omega)]; exact s3.co) (by rw [o6 5 (by omega), o4 5 (by omega)]; exact s3.cw) (by rw [o6 6 (by omega), o4 6 (by omega)]; exact s3.cl) (t6.there 0 7 s3.there) hD (fun b hb => (hn b hb).1) ?_ (fun b hb => (hn b (List.mem_append_right _ hb)).2 hb), t2, fun b hb => (hn b hb).1.1⟩
  cases d0 with
  | none => exact List.nodup_nil
  | some q =>
    have a := (h3 q rfl).lt
    show [g3, h5].Nodup
    simp
    omega
end Go.Proofs.YtkeklmkaleomkaaDoor
namespace Go.Proofs.YtkeklmkaleomkaaDoor
open Go.RowKit
set_option linter.unusedVariables false
set_option linter.unusedSimpArgs false
set_option maxHeartbeats 64000000 in
set_option maxRecDepth 100000 in
theorem plays_copy0 (Pp : Prop) (B m : Nat) (d0 d1 : Option Desc) (ov wv : Value) (ts : List (Value × Value × List Int)) (left : Int) (at_ n : Int) (ea xa : Option Addr) (en ec xn xc : Nat) (E : List Int) (xs : List Value) (yss : List (List Int)) (w : World) (hs : Hid (PSD Pp w B m d0 d1 ov wv ts left)) (hB : 4 ≤ B) (HP : Hid (∀ u, Below B w u → PV u (.slice xa xn xc) xs yss ∧ View u (.slice ea en ec) E ∧ Tables u ∧ RTab u)) (hxn : Hid (xs.length = xn)) (hl : Hid (yss.flatten.length ≤ 262144)) (hn : xn ≤ 1048576) (hel : Hid (E.length = en)) (hen : en ≤ 262144) (hts : ts.length ≤ 1000) (hat : at_.tmod 2 = 0) :
    Calls Tryd.prog 20 #[.pointer (some ⟨m, 0, none⟩), .agg #[.int .i64 4, .int .i64 at_, .int .i64 n, .slice ea en ec, .slice xa xn xc]] w fun e w' => Hid (StepP Pp w w' e B m ts.length) := by
  have HBs : Hid (B ≤ w.heap.size) := by show _ ≤ _; have := hs.out.ps.mB; have mlt : m < w.heap.size := lt_of_cell hs.out.ps.s0; omega
  go_enter Tryd.func20, Tryd.ntmps20
  go_upto_region 1 with fail
  have HA0 : Hid (OAt (w.alloc (.cells #[.int .i64 4, .int .i64 at_, .int .i64 n, .slice ea en ec, .slice xa xn xc] 39)) w.heap.size 4 at_ n (.slice ea en ec) (.slice xa xn xc) ∧ Below w.heap.size w (w.alloc (.cells #[.int .i64 4, .int .i64 at_, .int .i64 n, .slice ea en ec, .slice xa xn xc] 39)) ∧ (w.alloc (.cells #[.int .i64 4, .int .i64 at_, .int .i64 n, .slice ea en ec, .slice xa xn xc] 39)).heap.size = w.heap.size + 1) := ⟨OAt.new _ _ _ _ _ _ _, below_alloc1 _ _, size_alloc1 _ _⟩
  generalize w.alloc (.cells #[.int .i64 4, .int .i64 at_, .int .i64 n, .slice ea en ec, .slice xa xn xc] 39) = w0 at HA0 ⊢
  have c1 := HA0.out.1.c1
  have HP0 : Hid (PV w0 (.slice xa xn xc) xs yss) := (HP.out w0 (HA0.out.2.1.mono HBs.out)).1
  have c4 := HA0.out.1.c4
  have HL : Hid (Calls Tryd.prog 33 #[.slice xa xn xc] w0 fun e w' => e = .returned (.bool false) ∧ w' = w0) := long_ok xa xn xc xs yss w0 HP0 hxn hl (by omega)
  go_upto_region 6 with (go_at_call 33; refine HL.out.mono ?_; rintro e1 w1 ⟨rfl, hw1⟩; obtain rfl := hw1.symm)
  have H34 : Hid (Calls Tryd.prog 34 #[.slice xa xn xc] w0 fun e w' => Hid (∃ v', e = .returned v' ∧ ∃ vs, vs.length = xn ∧ w'.ownsRow w0.heap.size 22 1 v' xn vs ∧ Lent w0.heap.size w' vs yss ∧ Inc vs ∧ Below w0.heap.size w0 w')) := lent_ok xa xn xc xs yss w0 HP0 hxn (by show _ ≤ _; have := hl.out; omega) hn
  go_upto_region 7 with (go_at_call 34; refine H34.out.mono ?_; intro e2 w2 hh; obtain ⟨v', rfl, vs, hv1, hv2, hv3, hv4, hv5⟩ := hh.out)
  have HB2 : Hid (Below w.heap.size w w2) := HA0.out.2.1.trans (hv5.mono HA0.out.2.1.size)
  have HA2 : Hid (OAt w2 w.heap.size 4 at_ n (.slice ea en ec) (.slice xa xn xc)) := HA0.out.1.below hv5
  have HS2 : Hid (PSD Pp w2 B m d0 d1 ov wv ts left) := hs.out.below HB2.out
  have HLn : Hid (vs.length = xn ∧ w2.ownsRow w0.heap.size 22 1 v' xn vs ∧ Lent w0.heap.size w2 vs yss ∧ Inc vs ∧ w0.heap.size = w.heap.size + 1) := ⟨hv1, hv2, hv3, hv4, HA0.out.2.2⟩
  obtain ⟨va, vcap, rfl⟩ : ∃ a c, v' = .slice a xn c := by
    rcases HLn.out.2.1.2 with ⟨e, e2⟩ | ⟨g, c, _, e, _⟩
    · exact ⟨none, 0, by rw [e, e2]⟩
    · exact ⟨_, c, e⟩
  clear hh hv1 hv2 hv3 hv4 hv5 H34 c1 c4 HL HP0 HA0
  have c0 := HA2.out.c0
  obtain ⟨oa, ho⟩ : ∃ oa : Option Addr, optg d0 = .pointer oa := by cases d0 <;> exact ⟨_, rfl⟩
  obtain ⟨ob, hob⟩ : ∃ ob : Option Addr, opth d0 = .pointer ob := by cases d0 <;> exact ⟨_, rfl⟩
  have k0 : w2.cell? ⟨m, 0, none⟩ = some (.pointer oa) := by rw [← ho]; exact HS2.out.ps.s0
  have k1 := HS2.out.ps.s1
  have H11 : Hid (∀ u : World, Sm w2 u → Calls Tryd.prog 11 #[optg d1] u fun e w' => Hid (∃ (g : Nat) (pa : Option Addr), e = .returned (.pointer pa) ∧ cpg d1 g = .pointer pa ∧ w2.heap.size ≤ g ∧ (∀ q, d1 = some q → SpAt w' g q.dg q.K q.V q.L q.c) ∧ Below w2.heap.size w2 w')) := fun u hu => (spcopy_any HS2.out.ps.D1 u hu.heap).mono fun e w' hh => by
    obtain ⟨g, h1, h2, h3, h4⟩ := hh.out
    exact ⟨g, _, h1, rfl, by rw [← hu.heap]; exact h2, h3, sm_below hu h4⟩
  have HK3 : Hid (∀ v : World, Below w2.heap.size w2 v → v.cell? ⟨m, 1, none⟩ = some (optg d1) ∧ v.cell? ⟨m, 0, none⟩ = some (.pointer oa) ∧ v.frozen? ⟨m, 0, none⟩ = false) := fun v hv => by
    have q := HS2.out.ps.below hv
    have := (q.there 0 (by omega)).2
    rw [Nat.zero_add] at this
    exact ⟨q.s1, by rw [← ho]; exact q.s0, this⟩
  have hwr : IntKind.i64.wrap 1 = 1 := by decide
  go_upto_region 29 with fail
  go_region_held3 (fun u => u.cell? ⟨m, 1, none⟩ = some (optg d1)) (first | exact k1 | exact hS3 | exact (set_cells 1 (by omega)).trans hS3 | go_keep) ((go_at_call 11; refine (H11.out w2.drew ⟨rfl, rfl, rfl, rfl⟩).mono ?_; intro e3 w3 hh; obtain ⟨g3, pa3, rfl, hp3, hg3, hs3, hb3⟩ := hh.out; have hS3 : w3.cell? ⟨m, 1, none⟩ = some (optg d1) := (HK3.out w3 hb3).1; have p3 : w3.cell? ⟨m, 0, none⟩ = some (.pointer oa) := (HK3.out w3 hb3).2.1; have z3 : w3.frozen? ⟨m, 0, none⟩ = false := (HK3.out w3 hb3).2.2))
  have HG3 : Hid (w2.heap.size ≤ g3 ∧ (∀ q, d1 = some q → SpAt w3 g3 q.dg q.K q.V q.L q.c) ∧ Below w2.heap.size w2 w3 ∧ cpg d1 g3 = .pointer pa3) := ⟨hg3, hs3, hb3, hp3⟩
  have HS3 : Hid (PSD Pp w3 B m d0 d1 ov wv ts left) := HS2.out.below hb3
  clear hh hp3 hg3 hs3 hb3 H11 k0 k1 p3 z3 c0 hS3 HK3
  try clear hHeld
  obtain ⟨w4, HW4⟩ : ∃ w4, Hid (w4 = w3.setCell ⟨m, 0, none⟩ (.pointer pa3)) := ⟨_, rfl⟩
  have HW4' := HW4.out
  rw [← HW4']
  clear HW4'
  have HT4 : Hid (Touch w3 w4 m 0 7 ∧ w4.heap.size = w3.heap.size) := by
    show _ ∧ _
    rw [HW4.out]
    exact ⟨(Touch.refl w3 m 0 7).setCell 0 _ (by omega) (by omega), size_setCells m [.pointer pa3] 0 w3⟩
  have HO4 : Hid (∀ j, j ≠ 0 → w4.cell? ⟨m, j, none⟩ = w3.cell? ⟨m, j, none⟩) := fun j hj => by rw [HW4.out]; exact set_cells j hj
  have k2 : w4.cell? ⟨m, 2, none⟩ = some (.pointer ob) := by rw [HO4.out 2 (by omega), ← hob]; exact HS3.out.ps.t0
  have k3 : w4.cell? ⟨m, 3, none⟩ = some (opth d1) := by rw [HO4.out 3 (by omega)]; exact HS3.out.ps.t1
  have H38 : Hid (∀ u : World, Sm w4 u → Calls Tryd.prog 38 #[opth d1] u fun e w' => Hid (∃ (h : Nat) (ka : Option Addr) (kc : Nat) (va : Option Addr) (vc : Nat) (pa : Option Addr), e = .returned (.pointer pa) ∧ cpg d1 h = .pointer pa ∧ w3.heap.size ≤ h ∧ (∀ q, d1 = some q → RSp w' h q.dg q.L q.c ka kc va vc (fL q.K (szOf q.dg)) (fL q.V (szOf q.dg)) ∧ New2 w3 ka va) ∧ Below w3.heap.size w4 w')) := fun u hu => (rcopy_any (HS3.out.ps.sides HT4.out.1).2 u hu.heap).mono fun e w' hh => by
    obtain ⟨h, ka, kc, va, vc, h1, h2, h3, h4⟩ := hh.out
    have e1 : u.heap.size = w3.heap.size := by rw [hu.heap]; exact HT4.out.2
    refine ⟨h, ka, kc, va, vc, _, h1, rfl, by rw [← e1]; exact h2, fun q e => ?_, by rw [← HT4.out.2]; exact sm_below hu h4⟩
    have q1 := h3 q e
    exact ⟨q1.1, fun b off e => by rw [← e1]; exact q1.2.1 b off e, fun b off e => by rw [← e1]; exact q1.2.2 b off e⟩
  have HP5 : Hid (∀ v : World, Below w3.heap.size w4 v → v.cell? ⟨m, 3, none⟩ = some (opth d1) ∧ v.cell? ⟨m, 2, none⟩ = some (.pointer ob) ∧ v.frozen? ⟨m, 2, none⟩ = false) := fun v hv => by
    have hb := hv.block m (lt_of_cell HS3.out.ps.s0)
    refine ⟨by rw [World.cell?_of_block (a := ⟨m, 3, none⟩) hb]; exact k3, by rw [World.cell?_of_block (a := ⟨m, 2, none⟩) hb]; exact k2, ?_⟩
    rw [World.frozen?_of_block (a := ⟨m, 2, none⟩) hb]
    have := (HT4.out.1.there 0 7 HS3.out.ps.there 2 (by omega)).2
    rw [Nat.zero_add] at this
    exact this
  go_upto_region 30 with fail
  go_region_held3 (fun u => u.cell? ⟨m, 3, none⟩ = some (opth d1)) (first | exact k3 | exact hS5 | exact (set_cells 3 (by omega)).trans hS5 | go_keep) ((go_at_call 38; refine (H38.out w4.drew ⟨rfl, rfl, rfl, rfl⟩).mono ?_; intro e5 w5 hh; obtain ⟨h5, ka, kc, va5, vc, pa5, rfl, hp5, hg5, hs5, hb5⟩ := hh.out; have hS5 : w5.cell? ⟨m, 3, none⟩ = some (opth d1) := (HP5.out w5 hb5).1; have p5 : w5.cell? ⟨m, 2, none⟩ = some (.pointer ob) := (HP5.out w5 hb5).2.1; have z5 : w5.frozen? ⟨m, 2, none⟩ = false := (HP5.out w5 hb5).2.2))
  have HF : Hid ((∃ d', PS (w5.setCell ⟨m, 2, none⟩ (.pointer pa5)) B m d' d1 ov wv ts.length (ts.map (·.1)) (ts.map (·.2.1)) left ∧ Touch w2 (w5.setCell ⟨m, 2, none⟩ (.pointer pa5)) m 0 7 ∧ ∀ b, b ∈ omb d' ++ orb d' → w2.heap.size ≤ b) ∧ (w5.setCell ⟨m, 2, none⟩ (.pointer pa5)).cell? ⟨m, 0, none⟩ = some (.pointer pa3) ∧ (w5.setCell ⟨m, 2, none⟩ (.pointer pa5)).cell? ⟨m, 2, none⟩ = some (.pointer pa5) ∧ (pa3.isNone == pa5.isNone) = true) := by
    have hb5' := hb5
    rw [HW4.out, ← HG3.out.2.2.2] at hb5'
    have q := copied0 HS2.out.ps HG3.out.2.2.1 HG3.out.1 HG3.out.2.1 hg5 hs5 hb5'
    rw [hp5] at q
    refine ⟨q, ?_, World.cell?_setCell_same' _ _ _ (by rw [p5]; rfl), ?_⟩
    · rw [set_cells 0 (by omega), World.cell?_of_block (a := ⟨m, 0, none⟩) (hb5.block m (lt_of_cell HS3.out.ps.s0)), HW4.out]
      exact World.cell?_setCell_same' _ _ _ (by rw [HS3.out.ps.s0]; rfl)
    · have q3 := HG3.out.2.2.2
      have q5 := hp5
      unfold cpg at q3 q5
      injection q3 with q3
      injection q5 with q5
      subst q3 q5
      cases d1 <;> rfl
  clear HP5 hh hp5 hg5 hs5 hb5 H38 k2 k3 p5 z5 hS5 HO4 HT4 HW4 HG3 HS3
  generalize w5.setCell ⟨m, 2, none⟩ (.pointer pa5) = w6 at HF ⊢
  have k0 := HF.out.2.1
  have k2 := HF.out.2.2.1
  have hee := HF.out.2.2.2
  go_upto_region 31 with fail
  go_quiet (fail)
  have HE : Hid (StepP Pp w (w6.drewN nq) (.returned (.bool true)) B m ts.length) := by
    obtain ⟨d', p1, p2, p3⟩ := HF.out.1
    have bq : Below w6.heap.size w6 (w6.drewN nq) := ⟨rfl, rfl, rfl, Nat.le_refl _, fun _ _ => rfl⟩
    have ps : PSD Pp w6 B m d' d1 ov wv ts left := by
      refine ⟨p1, fun p => (HS2.out.dr p).fr (touch_fr p2) (fun b hb => .inl (List.mem_append_left _ hb)) (fun b hb => ?_) (fun b hb => ?_)⟩
      · rcases List.mem_append.1 hb with hb | hb
        · exact .inl (List.mem_append_left _ hb)
        · rcases List.mem_append.1 hb with hb | hb
          · exact .inr (p3 b (List.mem_append_left _ hb))
          · rcases List.mem_append.1 hb with hb | hb
            · exact .inl (List.mem_append_right _ (List.mem_append_right _ (List.mem_append_left _ hb)))
            · exact .inl (List.mem_append_right _ (List.mem_append_right _ (List.mem_append_right _ hb)))
      · rcases List.mem_append.1 hb with hb | hb
        · exact .inr (p3 b (List.mem_append_right _ hb))
        · exact .inl (List.mem_append_right _ hb)
    exact ⟨rfl, (HB2.out.mono HBs.out).trans (((touch_fr p2).toBelow (B := B) (fun b hb => by rw [List.mem_singleton.1 hb]; exact hs.out.ps.mB) (Nat.le_trans HBs.out HB2.out.size)).trans (bq.mono (Nat.le_trans HBs.out (Nat.le_trans HB2.out.size p2.size)))), d', d1, ov, wv, ts, left, ps.below bq, by omega⟩
  clear k0 k2 HF
  go_wp2
  go_ret
  exact HE.out
set_option maxHeartbeats 64000000 in
set_option maxRecDepth 100000 in
theorem plays_copy1 (Pp : Prop) (B m : Nat) (d0 d1 : Option Desc) (ov wv : Value) (ts : List (Value × Value × List Int)) (left : Int) (at_ n : Int) (ea xa : Option Addr) (en ec xn xc : Nat) (E : List Int) (xs : List Value) (yss : List (List Int)) (w : World) (hs : Hid (PSD Pp w B m d0 d1 ov wv ts left)) (hB : 4 ≤ B) (HP : Hid (∀ u, Below B w u → PV u (.slice xa xn xc) xs yss ∧ View u (.slice ea en ec) E ∧ Tables u ∧ RTab u)) (hxn : Hid (xs.length = xn)) (hl : Hid (yss.flatten.length ≤ 262144)) (hn : xn ≤ 1048576) (hel : Hid (E.length = en)) (hen : en ≤ 262144) (hts : ts.length ≤ 1000) (hat : at_.tmod 2 = 1 ∨ at_.tmod 2 = -1) :
    Calls Tryd.prog 20 #[.pointer (some ⟨m, 0, none⟩), .agg #[.int .i64 4, .int .i64 at_, .int .i64 n, .slice ea en ec, .slice xa xn xc]] w fun e w' => Hid (StepP Pp w w' e B m ts.length) := by
  have HBs : Hid (B ≤ w.heap.size) := by show _ ≤ _; have := hs.out.ps.mB; have mlt : m < w.heap.size := lt_of_cell hs.out.ps.s0; omega
  rcases hat with hat | hat
  all_goals
    go_enter Tryd.func20, Tryd.ntmps20
    go_upto_region 1 with fail
    have HA0 : Hid (OAt (w.alloc (.cells #[.int .i64 4, .int .i64 at_, .int .i64 n, .slice ea en ec, .slice xa xn xc] 39)) w.heap.size 4 at_ n (.slice ea en ec) (.slice xa xn xc) ∧ Below w.heap.size w (w.alloc (.cells #[.int .i64 4, .int .i64 at_, .int .i64 n, .slice ea en ec, .slice xa xn xc] 39)) ∧ (w.alloc (.cells #[.int .i64 4, .int .i64 at_, .int .i64 n, .slice ea en ec, .slice xa xn xc] 39)).heap.size = w.heap.size + 1) := ⟨OAt.new _ _ _ _ _ _ _, below_alloc1 _ _, size_alloc1 _ _⟩
    generalize w.alloc (.cells #[.int .i64 4, .int .i64 at_, .int .i64 n, .slice ea en ec, .slice xa xn xc] 39) = w0 at HA0 ⊢
    have c1 := HA0.out.1.c1
    have HP0 : Hid (PV w0 (.slice xa xn xc) xs yss) := (HP.out w0 (HA0.out.2.1.mono HBs.out)).1
    have c4 := HA0.out.1.c4
    have HL : Hid (Calls Tryd.prog 33 #[.slice xa xn xc] w0 fun e w' => e = .returned (.bool false) ∧ w' = w0) := long_ok xa xn xc xs yss w0 HP0 hxn hl (by omega)
    go_upto_region 6 with (go_at_call 33; refine HL.out.mono ?_; rintro e1 w1 ⟨rfl, hw1⟩; obtain rfl := hw1.symm)
    have H34 : Hid (Calls Tryd.prog 34 #[.slice xa xn xc] w0 fun e w' => Hid (∃ v', e = .returned v' ∧ ∃ vs, vs.length = xn ∧ w'.ownsRow w0.heap.size 22 1 v' xn vs ∧ Lent w0.heap.size w' vs yss ∧ Inc vs ∧ Below w0.heap.size w0 w')) := lent_ok xa xn xc xs yss w0 HP0 hxn (by show _ ≤ _; have := hl.out; omega) hn
    go_upto_region 7 with (go_at_call 34; refine H34.out.mono ?_; intro e2 w2 hh; obtain ⟨v', rfl, vs, hv1, hv2, hv3, hv4, hv5⟩ := hh.out)
    have HB2 : Hid (Below w.heap.size w w2) := HA0.out.2.1.trans (hv5.mono HA0.out.2.1.size)
    have HA2 : Hid (OAt w2 w.heap.size 4 at_ n (.slice ea en ec) (.slice xa xn xc)) := HA0.out.1.below hv5
    have HS2 : Hid (PSD Pp w2 B m d0 d1 ov wv ts left) := hs.out.below HB2.out
    have HLn : Hid (vs.length = xn ∧ w2.ownsRow w0.heap.size 22 1 v' xn vs ∧ Lent w0.heap.size w2 vs yss ∧ Inc vs ∧ w0.heap.size = w.heap.size + 1) := ⟨hv1, hv2, hv3, hv4, HA0.out.2.2⟩
    obtain ⟨va, vcap, rfl⟩ : ∃ a c, v' = .slice a xn c := by
      rcases HLn.out.2.1.2 with ⟨e, e2⟩ | ⟨g, c, _, e, _⟩
      · exact ⟨none, 0, by rw [e, e2]⟩
      · exact ⟨_, c, e⟩
    clear hh hv1 hv2 hv3 hv4 hv5 H34 c1 c4 HL HP0 HA0
    have c0 := HA2.out.c0
    obtain ⟨oa, ho⟩ : ∃ oa : Option Addr, optg d1 = .pointer oa := by cases d1 <;> exact ⟨_, rfl⟩
    obtain ⟨ob, hob⟩ : ∃ ob : Option Addr, opth d1 = .pointer ob := by cases d1 <;> exact ⟨_, rfl⟩
    have k0 : w2.cell? ⟨m, 1, none⟩ = some (.pointer oa) := by rw [← ho]; exact HS2.out.ps.s1
    have k1 := HS2.out.ps.s0
    have H11 : Hid (∀ u : World, Sm w2 u → Calls Tryd.prog 11 #[optg d0] u fun e w' => Hid (∃ (g : Nat) (pa : Option Addr), e = .returned (.pointer pa) ∧ cpg d0 g = .pointer pa ∧ w2.heap.size ≤ g ∧ (∀ q, d0 = some q → SpAt w' g q.dg q.K q.V q.L q.c) ∧ Below w2.heap.size w2 w')) := fun u hu => (spcopy_any HS2.out.ps.D0 u hu.heap).mono fun e w' hh => by
      obtain ⟨g, h1, h2, h3, h4⟩ := hh.out
      exact ⟨g, _, h1, rfl, by rw [← hu.heap]; exact h2, h3, sm_below hu h4⟩
    have HK3 : Hid (∀ v : World, Below w2.heap.size w2 v → v.cell? ⟨m, 0, none⟩ = some (optg d0) ∧ v.cell? ⟨m, 1, none⟩ = some (.pointer oa) ∧ v.frozen? ⟨m, 1, none⟩ = false) := fun v hv => by
      have q := HS2.out.ps.below hv
      have := (q.there 1 (by omega)).2
      rw [Nat.zero_add] at this
      exact ⟨q.s0, by rw [← ho]; exact q.s1, this⟩
    have hwr : IntKind.i64.wrap 0 = 0 := by decide
    go_upto_region 29 with fail
    go_region_held3 (fun u => u.cell? ⟨m, 0, none⟩ = some (optg d0)) (first | exact k1 | exact hS3 | exact (set_cells 0 (by omega)).trans hS3 | go_keep) ((go_at_call 11; refine (H11.out w2.drew ⟨rfl, rfl, rfl, rfl⟩).mono ?_; intro e3 w3 hh; obtain ⟨g3, pa3, rfl, hp3, hg3, hs3, hb3⟩ := hh.out; have hS3 : w3.cell? ⟨m, 0, none⟩ = some (optg d0) := (HK3.out w3 hb3).1; have p3 : w3.cell? ⟨m, 1, none⟩ = some (.pointer oa) := (HK3.out w3 hb3).2.1; have z3 : w3.frozen? ⟨m, 1, none⟩ = false := (HK3.out w3 hb3).2.2))
    have HG3 : Hid (w2.heap.size ≤ g3 ∧ (∀ q, d0 = some q → SpAt w3 g3 q.dg q.K q.V q.L q.c) ∧ Below w2.heap.size w2 w3 ∧ cpg d0 g3 = .pointer pa3) := ⟨hg3, hs3, hb3, hp3⟩
    have HS3 : Hid (PSD Pp w3 B m d0 d1 ov wv ts left) := HS2.out.below hb3
    clear hh hp3 hg3 hs3 hb3 H11 k0 k1 p3 z3 c0 hS3 HK3
    try clear hHeld
    obtain ⟨w4, HW4⟩ : ∃ w4, Hid (w4 = w3.setCell ⟨m, 1, none⟩ (.pointer pa3)) := ⟨_, rfl⟩
    have HW4' := HW4.out
    rw [← HW4']
    clear HW4'
    have HT4 : Hid (Touch w3 w4 m 0 7 ∧ w4.heap.size = w3.heap.size) := by
      show _ ∧ _
      rw [HW4.out]
      exact ⟨(Touch.refl w3 m 0 7).setCell 1 _ (by omega) (by omega), size_setCells m [.pointer pa3] 1 w3⟩
    have HO4 : Hid (∀ j, j ≠ 1 → w4.cell? ⟨m, j, none⟩ = w3.cell? ⟨m, j, none⟩) := fun j hj => by rw [HW4.out]; exact set_cells j hj
    have k2 : w4.cell? ⟨m, 3, none⟩ = some (.pointer ob) := by rw [HO4.out 3 (by omega), ← hob]; exact HS3.out.ps.t1
    have k3 : w4.cell? ⟨m, 2, none⟩ = some (opth d0) := by rw [HO4.out 2 (by omega)]; exact HS3.out.ps.t0
    have H38 : Hid (∀ u : World, Sm w4 u → Calls Tryd.prog 38 #[opth d0] u fun e w' => Hid (∃ (h : Nat) (ka : Option Addr) (kc : Nat) (va : Option Addr) (vc : Nat) (pa : Option Addr), e = .returned (.pointer pa) ∧ cpg d0 h = .pointer pa ∧ w3.heap.size ≤ h ∧ (∀ q, d0 = some q → RSp w' h q.dg q.L q.c ka kc va vc (fL q.K (szOf q.dg)) (fL q.V (szOf q.dg)) ∧ New2 w3 ka va) ∧ Below w3.heap.size w4 w')) := fun u hu => (rcopy_any (HS3.out.ps.sides HT4.out.1).1 u hu.heap).mono fun e w' hh => by
      obtain ⟨h, ka, kc, va, vc, h1, h2, h3, h4⟩ := hh.out
      have e1 : u.heap.size = w3.heap.size := by rw [hu.heap]; exact HT4.out.2
      refine ⟨h, ka, kc, va, vc, _, h1, rfl, by rw [← e1]; exact h2, fun q e => ?_, by rw [← HT4.out.2]; exact sm_below hu h4⟩
      have q1 := h3 q e
      exact ⟨q1.1, fun b off e => by rw [← e1]; exact q1.2.1 b off e, fun b off e => by rw [← e1]; exact q1.2.2 b off e⟩
    have HP5 : Hid (∀ v : World, Below w3.heap.size w4 v → v.cell? ⟨m, 2, none⟩ = some (opth d0) ∧ v.cell? ⟨m, 3, none⟩ = some (.pointer ob) ∧ v.frozen? ⟨m, 3, none⟩ = false) := fun v hv => by
      have hb := hv.block m (lt_of_cell HS3.out.ps.s0)
      refine ⟨by rw [World.cell?_of_block (a := ⟨m, 2, none⟩) hb]; exact k3, by rw [World.cell?_of_block (a := ⟨m, 3, none⟩) hb]; exact k2, ?_⟩
      rw [World.frozen?_of_block (a := ⟨m, 3, none⟩) hb]
      have := (HT4.out.1.there 0 7 HS3.out.ps.there 3 (by omega)).2
      rw [Nat.zero_add] at this
      exact this
    go_upto_region 30 with fail
    go_region_held3 (fun u => u.cell? ⟨m, 2, none⟩ = some (opth d0)) (first | exact k3 | exact hS5 | exact (set_cells 2 (by omega)).trans hS5 | go_keep) ((go_at_call 38; refine (H38.out w4.drew ⟨rfl, rfl, rfl, rfl⟩).mono ?_; intro e5 w5 hh; obtain ⟨h5, ka, kc, va5, vc, pa5, rfl, hp5, hg5, hs5, hb5⟩ := hh.out; have hS5 : w5.cell? ⟨m, 2, none⟩ = some (opth d0) := (HP5.out w5 hb5).1; have p5 : w5.cell? ⟨m, 3, none⟩ = some (.pointer ob) := (HP5.out w5 hb5).2.1; have z5 : w5.frozen? ⟨m, 3, none⟩ = false := (HP5.out w5 hb5).2.2))
    have HF : Hid ((∃ d', PS (w5.setCell ⟨m, 3, none⟩ (.pointer pa5)) B m d0 d' ov wv ts.length (ts.map (·.1)) (ts.map (·.2.1)) left ∧ Touch w2 (w5.setCell ⟨m, 3, none⟩ (.pointer pa5)) m 0 7 ∧ ∀ b, b ∈ omb d' ++ orb d' → w2.heap.size ≤ b) ∧ (w5.setCell ⟨m, 3, none⟩ (.pointer pa5)).cell? ⟨m, 1, none⟩ = some (.pointer pa3) ∧ (w5.setCell ⟨m, 3, none⟩ (.pointer pa5)).cell? ⟨m, 3, none⟩ = some (.pointer pa5) ∧ (pa3.isNone == pa5.isNone) = true) := by
      have hb5' := hb5
      rw [HW4.out, ← HG3.out.2.2.2] at hb5'
      have q := copied1 HS2.out.ps HG3.out.2.2.1 HG3.out.1 HG3.out.2.1 hg5 hs5 hb5'
      rw [hp5] at q
      refine ⟨q, ?_, World.cell?_setCell_same' _ _ _ (by rw [p5]; rfl), ?_⟩
      · rw [set_cells 1 (by omega), World.cell?_of_block (a := ⟨m, 1, none⟩) (hb5.block m (lt_of_cell HS3.out.ps.s0)), HW4.out]
        exact World.cell?_setCell_same' _ _ _ (by rw [HS3.out.ps.s1]; rfl)
      · have q3 := HG3.out.2.2.2
        have q5 := hp5
        unfold cpg at q3 q5
        injection q3 with q3
        injection q5 with q5
        subst q3 q5
        cases d0 <;> rfl
    clear HP5 hh hp5 hg5 hs5 hb5 H38 k2 k3 p5 z5 hS5 HO4 HT4 HW4 HG3 HS3
    generalize w5.setCell ⟨m, 3, none⟩ (.pointer pa5) = w6 at HF ⊢
    have k0 := HF.out.2.1
    have k2 := HF.out.2.2.1
    have hee := HF.out.2.2.2
    go_upto_region 31 with fail
    go_quiet (fail)
    have HE : Hid (StepP Pp w (w6.drewN nq) (.returned (.bool true)) B m ts.length) := by
      obtain ⟨d', p1, p2, p3⟩ := HF.out.1
      have bq : Below w6.heap.size w6 (w6.drewN nq) := ⟨rfl, rfl, rfl, Nat.le_refl _, fun _ _ => rfl⟩
      have ps : PSD Pp w6 B m d0 d' ov wv ts left := by
        refine ⟨p1, fun p => (HS2.out.dr p).fr (touch_fr p2) (fun b hb => .inl (List.mem_append_left _ hb)) (fun b hb => ?_) (fun b hb => ?_)⟩
        · rcases List.mem_append.1 hb with hb | hb
          · exact .inl (List.mem_append_left _ hb)
          · rcases List.mem_append.1 hb with hb | hb
            · exact .inl (List.mem_append_right _ (List.mem_append_left _ hb))
            · rcases List.mem_append.1 hb with hb | hb
              · exact .inr (p3 b (List.mem_append_left _ hb))
              · exact .inl (List.mem_append_right _ (List.mem_append_right _ (List.mem_append_right _ hb)))
        · rcases List.mem_append.1 hb with hb | hb
          · exact .inl (List.mem_append_left _ hb)
          · exact .inr (p3 b (List.mem_append_right _ hb))
      exact ⟨rfl, (HB2.out.mono HBs.out).trans (((touch_fr p2).toBelow (B := B) (fun b hb => by rw [List.mem_singleton.1 hb]; exact hs.out.ps.mB) (Nat.le_trans HBs.out HB2.out.size)).trans (bq.mono (Nat.le_trans HBs.out (Nat.le_trans HB2.out.size p2.size)))), d0, d', ov, wv, ts, left, ps.below bq, by omega⟩
    clear k0 k2 HF
    go_wp2
    go_ret
    exact HE.out
end Go.Proofs.YtkeklmkaleomkaaDoor
namespace Go.Proofs.YtkeklmkaleomkaaDoor
open Go.RowKit
set_option linter.unusedVariables false
set_option linter.unusedSimpArgs false
theorem StepP.left {Pp : Prop} {w w' : World} {e : Ending} {B m : Nat} {d0 d1 : Option Desc} {ov wv : Value} {ts : List (Value × Value × List Int)} {left : Int} (hs : PSD Pp w B m d0 d1 ov wv ts left) (h : LeftP w w' e) : StepP Pp w w' e B m ts.length :=
  ⟨h.1, h.2.mono (by have := hs.ps.mB; have mlt : m < w.heap.size := lt_of_cell hs.ps.s0; omega), d0, d1, ov, wv, ts, left, hs.below h.2, by omega⟩
/-- A step, whatever it is. -/
theorem plays_any (Pp : Prop) (B m : Nat) (d0 d1 : Option Desc) (ov wv : Value) (ts : List (Value × Value × List Int)) (left : Int) (at_ n : Int) (ea xa : Option Addr) (en ec xn xc : Nat) (E : List Int) (xs : List Value) (yss : List (List Int)) (w : World) (hs : Hid (PSD Pp w B m d0 d1 ov wv ts left)) (hB : 4 ≤ B) (HP : Hid (∀ u, Below B w u → PV u (.slice xa xn xc) xs yss ∧ View u (.slice ea en ec) E ∧ Tables u ∧ RTab u)) (hxn : Hid (xs.length = xn)) (hl : Hid (yss.flatten.length ≤ 262144)) (hn : xn ≤ 1048576) (hel : Hid (E.length = en)) (hen : en ≤ 262144) (hts : ts.length ≤ 1000) (kd : Int) : Calls Tryd.prog 20 #[.pointer (some ⟨m, 0, none⟩), .agg #[.int .i64 kd, .int .i64 at_, .int .i64 n, .slice ea en ec, .slice xa xn xc]] w fun e w' => Hid (StepP Pp w w' e B m ts.length) := by
  have pv := HP.out w (Below.refl _ _)
  by_cases k1 : kd = 1
  · subst k1
    rcases tmod_two at_ with h | h | h
    · exact plays_draw0 Pp B m d0 d1 ov wv ts left at_ n ea xa en ec xn xc E xs yss w hs hB HP hxn hl hn hel hen hts h
    · exact plays_draw1 Pp B m d0 d1 ov wv ts left at_ n ea xa en ec xn xc E xs yss w hs hB HP hxn hl hn hel hen hts (.inl h)
    · exact plays_draw1 Pp B m d0 d1 ov wv ts left at_ n ea xa en ec xn xc E xs yss w hs hB HP hxn hl hn hel hen hts (.inr h)
  by_cases k2 : kd = 2
  · subst k2
    rcases tmod_two at_ with h | h | h
    · exact plays_feed0 Pp B m d0 d1 ov wv ts left at_ n ea xa en ec xn xc E xs yss w hs hB HP hxn hl hn hel hen hts h
    · exact plays_feed1 Pp B m d0 d1 ov wv ts left at_ n ea xa en ec xn xc E xs yss w hs hB HP hxn hl hn hel hen hts (.inl h)
    · exact plays_feed1 Pp B m d0 d1 ov wv ts left at_ n ea xa en ec xn xc E xs yss w hs hB HP hxn hl hn hel hen hts (.inr h)
  by_cases k3 : kd = 3
  · subst k3
    exact (plays_left B m d0 d1 ov wv _ _ _ left at_ n ea xa en ec xn xc xs yss w hs.out.ps pv.1 hxn hl hn).mono fun e w' hh => StepP.left hs.out hh.out
  by_cases k4 : kd = 4
  · subst k4
    rcases tmod_two at_ with h | h | h
    · exact plays_copy0 Pp B m d0 d1 ov wv ts left at_ n ea xa en ec xn xc E xs yss w hs hB HP hxn hl hn hel hen hts h
    · exact plays_copy1 Pp B m d0 d1 ov wv ts left at_ n ea xa en ec xn xc E xs yss w hs hB HP hxn hl hn hel hen hts (.inl h)
    · exact plays_copy1 Pp B m d0 d1 ov wv ts left at_ n ea xa en ec xn xc E xs yss w hs hB HP hxn hl hn hel hen hts (.inr h)
  exact (plays_other B m d0 d1 ov wv _ _ _ left at_ n ea xa en ec xn xc xs yss w hs.out.ps pv.1 hxn hl hn kd k1 k2 k3 k4).mono fun e w' hh => StepP.left hs.out hh.out
end Go.Proofs.YtkeklmkaleomkaaDoor
namespace Go.Proofs.YtkeklmkaleomkaaDoor
open Go.RowKit
set_option linter.unusedVariables false
set_option linter.unusedSimpArgs false
theorem view_lit (w : World) (zs : List Int) (t : TypeId) (f : Nat × Nat) (hl : zs.length ≤ 1000) : View (w.alloc (.cells (cellsU8 zs).toArray t f)) (.slice (some ⟨w.heap.size, 0, none⟩) zs.length zs.length) zs := by
  refine ⟨_, zs.length, rfl, Nat.le_refl _, by unfold maxLen; omega, (fun e => by cases e), .inr ⟨w.heap.size, 0, rfl, fun j hj => ?_⟩⟩
  rw [Nat.zero_add]
  have hb : (w.alloc (.cells (cellsU8 zs).toArray t f)).heap[w.heap.size]? = some (.cells (cellsU8 zs).toArray t f) := by
    show (w.heap.push _)[w.heap.size]? = _
    simp
  have hc := cellU8_at hj
  simp only [World.cell?, hb]
  simpa using hc
def litE : List Int := [48, 49, 50, 51, 52, 53, 54, 55, 56, 57, 97, 98, 99, 100, 101, 102]
def DrawP (w w' : World) (e : Ending) (g : Nat) (dg : Int) (K V : Nat → Int) (L c : Int) (n : Nat) : Prop := ∃ b, e = .returned (.tuple #[.slice (some ⟨b, 0, none⟩) n n, .int .i64 0]) ∧ w.heap.size ≤ b ∧ View w' (.slice (some ⟨b, 0, none⟩) n n) (fL (drO dg K V []) n) ∧ SpAt w' g dg (drK dg K V [] n) (drV dg K V [] n) L (c + 1) ∧ Touch w w' g 0 131
theorem draw_none (g : Nat) (dg : Int) (K V : Nat → Int) (L c : Int) (n : Nat) (w : World) (k : Known dg) (hs : SpAt w g dg K V L c) (hT : Tables w) (hg : 4 ≤ g) (hn : n ≤ 65536) (hc : c ≠ L) (hc0 : 0 ≤ c) (hc1 : c ≤ 16777216) :
    Calls Tryd.prog 12 #[.pointer (some ⟨g, 0, none⟩), .int .i64 (n : Nat), .slice none 0 0] w fun e w' => Hid (DrawP w w' e g dg K V L c n) := by
  have q := spdraw g dg K V L c n (.slice none 0 0) [] w k hs hT (.inl ⟨rfl, rfl⟩) (by show _ ≤ _; simp) (by show _ ≤ _; simp) hg hn hc hc0 hc1
  exact q
theorem left_ok (g : Nat) (dg : Int) (K V : Nat → Int) (L c : Int) (w : World) (hs : SpAt w g dg K V L c) (h0 : 0 ≤ c) (h1 : c ≤ 16777216) (h2 : 0 ≤ L) (h3 : L ≤ 16777216) :
    Calls Tryd.prog 16 #[.pointer (some ⟨g, 0, none⟩)] w fun e w' => Hid (e = .returned (.int .i64 (L - c)) ∧ Sm w w') := by
  refine (spleft g dg K V L c w hs h0 h1 h2 h3).mono ?_
  rintro e w' ⟨r1, m, rfl⟩
  have t := (Touch.refl w w.heap.size 0 0).drewN m
  exact ⟨r1, by first | exact (Sm.refl w).drewN m | exact ⟨rfl, rfl, rfl, rfl⟩⟩
set_option maxHeartbeats 1600000 in
set_option maxRecDepth 100000 in
/-- first. -/
theorem first_ok (w : World) (hT : Hid (Tables w)) : Calls Tryd.prog 18 #[] w fun e w' => Hid (e = .returned (.bool true) ∧ Below w.heap.size w w') := by
  have hT4 := hT.out.size
  have H9 : Hid (Calls Tryd.prog 9 #[.int .i64 256, .int .i64 1, .slice (some ⟨w.heap.size, 0, none⟩) 16 16, .slice none 0 0, .slice none 0 0] (w.alloc (.cells #[.int .u8 48, .int .u8 49, .int .u8 50, .int .u8 51, .int .u8 52, .int .u8 53, .int .u8 54, .int .u8 55, .int .u8 56, .int .u8 57, .int .u8 97, .int .u8 98, .int .u8 99, .int .u8 100, .int .u8 101, .int .u8 102] 5 (16, 17))) fun e w' => Hid (NewP (w.alloc (.cells (cellsU8 litE).toArray 5 (16, 17))) w' e 256 1 (litE ++ ([] ++ [])))) := by
    have b0 := below_alloc1 w (.cells (cellsU8 litE).toArray 5 (16, 17))
    exact spnew 256 1 _ _ _ 16 16 0 0 0 0 litE [] [] (w.alloc (.cells (cellsU8 litE).toArray 5 (16, 17))) (.inr (.inl rfl)) (hT.out.below b0 hT4) (by omega) (by omega) (view_lit w litE 5 (16, 17) (by decide)) rfl (view_nil _) rfl (view_nil _) rfl (by omega) (by omega) (by omega) (by omega)
  have HB0 : Hid (Below w.heap.size w (w.alloc (.cells (cellsU8 litE).toArray 5 (16, 17)))) := below_alloc1 _ _
  have kc := fun (w : World) (C : Array Value) (n c : Nat) => Lib.run_convert_bytes_const (P := Tryd.prog) w 22 5 C n c Tryd.underlying22 Tryd.underlying5
  go_enter Tryd.func18, Tryd.ntmps18
  go_upto_region 2 with (go_at_call 9; refine H9.out.mono ?_; intro e1 w1 hh; obtain ⟨g, rfl, r1, r2, r3⟩ := hh.out)
  have HB1 : Hid (Below w.heap.size w w1) := HB0.out.trans (r3.mono HB0.out.size)
  have HG : Hid (w.heap.size ≤ g) := Nat.le_trans HB0.out.size r1
  have HS1 : Hid (SpAt w1 g 256 (updK 256 (fun _ => 0) (ones (szOf 256)) (litE ++ ([] ++ []))) (updV 256 (fun _ => 0) (ones (szOf 256)) (litE ++ ([] ++ []))) 1 0) := r2
  clear hh r1 r2 r3 H9 HB0
  generalize updK 256 (fun _ => 0) (ones (szOf 256)) (litE ++ ([] ++ [])) = K at HS1
  generalize updV 256 (fun _ => 0) (ones (szOf 256)) (litE ++ ([] ++ [])) = V at HS1
  have H12 : Hid (Calls Tryd.prog 12 #[.pointer (some ⟨g, 0, none⟩), .int .i64 (5 : Nat), .slice none 0 0] w1 fun e w' => Hid (DrawP w1 w' e g 256 K V 1 0 5)) := draw_none g 256 K V 1 0 5 w1 (.inr (.inl rfl)) HS1.out (hT.out.below HB1.out hT4) (by have := HG.out; omega) (by omega) (by omega) (by omega) (by omega)
  go_upto_region 5 with (first | (go_at_call 10; refine (num_ok _ _).mono ?_; rintro e6 w6 ⟨rfl, hw6⟩; obtain rfl := hw6.symm) | (go_at_call 12; refine H12.out.mono ?_; intro e2 w2 hh; obtain ⟨b, rfl, r1, r2, r3, r4⟩ := hh.out))
  have HS2 : Hid (SpAt w2 g 256 (drK 256 K V [] 5) (drV 256 K V [] 5) 1 (0 + 1)) := r3
  have HB2 : Hid (Below w.heap.size w w2) := HB1.out.trans (r4.toBelow HG.out HB1.out.size)
  clear hh r1 r2 r3 r4 H12 HS1
  have H16 : Hid (Calls Tryd.prog 16 #[.pointer (some ⟨g, 0, none⟩)] w2 fun e w' => Hid (e = .returned (.int .i64 (1 - (0 + 1))) ∧ Sm w2 w')) := left_ok g 256 _ _ 1 (0 + 1) w2 HS2.out (by omega) (by omega) (by omega) (by omega)
  go_wp2_with (first | (go_at_call 10; refine (num_ok _ _).mono ?_; rintro e6 w6 ⟨rfl, hw6⟩; obtain rfl := hw6.symm) | (go_at_call 16; refine H16.out.mono ?_))
  intro e3 w3 hh
  obtain ⟨rfl, hs3⟩ := hh.out
  have HB3 : Hid (Below w.heap.size w w3) := Below.ofSm HB2.out hs3
  clear hh hs3 H16
  go_wp2
  go_ret
  exact ⟨rfl, HB3.out⟩
set_option maxHeartbeats 1600000 in
set_option maxRecDepth 100000 in
theorem nw_long (h L : Int) (ea na pa : Option Addr) (en ec nn nc pn pc : Nat) (w : World) (b1 : en ≤ 140737488355328) (b2 : nn ≤ 140737488355328) (b3 : pn ≤ 140737488355328) (hs : 262144 < en + nn + pn) :
    Calls Tryd.prog 6 #[.agg #[.int .i64 h, .int .i64 L, .slice ea en ec, .slice na nn nc, .slice pa pn pc]] w fun e w' => e = .returned (.bool true) ∧ Below w.heap.size w w' := by
  have d1 : (262144 : Int) < ((en : Nat) : Int) + ((nn : Nat) : Int) + ((pn : Nat) : Int) := by omega
  have HA0 : Hid (SeedAt (w.alloc (.cells #[.int .i64 h, .int .i64 L, .slice ea en ec, .slice na nn nc, .slice pa pn pc] 24)) w.heap.size h L (.slice ea en ec) (.slice na nn nc) (.slice pa pn pc) ∧ Below w.heap.size w (w.alloc (.cells #[.int .i64 h, .int .i64 L, .slice ea en ec, .slice na nn nc, .slice pa pn pc] 24))) := ⟨SeedAt.new _ _ _ _ _ _ _, below_alloc1 _ _⟩
  go_enter Tryd.func6, Tryd.ntmps6
  go_upto_region 1 with fail
  generalize w.alloc (.cells #[.int .i64 h, .int .i64 L, .slice ea en ec, .slice na nn nc, .slice pa pn pc] 24) = w0 at HA0 ⊢
  have c2 := HA0.out.1.c2
  have c3 := HA0.out.1.c3
  have c4 := HA0.out.1.c4
  go_wp2
  go_ret
  exact ⟨rfl, HA0.out.2⟩
set_option maxHeartbeats 3200000 in
set_option maxRecDepth 100000 in
theorem nw_bad (h L : Int) (ea na pa : Option Addr) (en ec nn nc pn pc : Nat) (E N P : List Int) (w : World) (hT : Hid (Tables w)) (hR : Hid (RTab w)) (he : Hid (View w (.slice ea en ec) E)) (hel : Hid (E.length = en)) (hn : Hid (View w (.slice na nn nc) N)) (hnl : Hid (N.length = nn)) (hp : Hid (View w (.slice pa pn pc) P)) (hpl : Hid (P.length = pn)) (hs : en + nn + pn ≤ 262144) (hE : newE h L en nn pn ≠ 0) :
    Calls Tryd.prog 6 #[.agg #[.int .i64 h, .int .i64 L, .slice ea en ec, .slice na nn nc, .slice pa pn pc]] w fun e w' => Hid (e = .returned (.bool true) ∧ Below w.heap.size w w') := by
  have hT4 := hT.out.size
  have d1 : ¬ (262144 : Int) < ((en : Nat) : Int) + ((nn : Nat) : Int) + ((pn : Nat) : Int) := by omega
  have e1 : ((en : Nat) : Int) ≤ 262144 := by omega
  have e2 : ((nn : Nat) : Int) ≤ 262144 := by omega
  have e3 : ((pn : Nat) : Int) ≤ 262144 := by omega
  have HA0 : Hid (SeedAt (w.alloc (.cells #[.int .i64 h, .int .i64 L, .slice ea en ec, .slice na nn nc, .slice pa pn pc] 24)) w.heap.size h L (.slice ea en ec) (.slice na nn nc) (.slice pa pn pc) ∧ Below w.heap.size w (w.alloc (.cells #[.int .i64 h, .int .i64 L, .slice ea en ec, .slice na nn nc, .slice pa pn pc] 24)) ∧ (w.alloc (.cells #[.int .i64 h, .int .i64 L, .slice ea en ec, .slice na nn nc, .slice pa pn pc] 24)).heap.size = w.heap.size + 1) := ⟨SeedAt.new _ _ _ _ _ _ _, below_alloc1 _ _, size_alloc1 _ _⟩
  go_enter Tryd.func6, Tryd.ntmps6
  go_upto_region 1 with fail
  generalize w.alloc (.cells #[.int .i64 h, .int .i64 L, .slice ea en ec, .slice na nn nc, .slice pa pn pc] 24) = w0 at HA0 ⊢
  have c0 := HA0.out.1.c0
  have c1 := HA0.out.1.c1
  have c2 := HA0.out.1.c2
  have c3 := HA0.out.1.c3
  have c4 := HA0.out.1.c4
  have HB0 : Hid (Below w.heap.size w w0) := HA0.out.2.1
  have HT0 : Hid (Tables w0) := hT.out.below HB0.out hT4
  have HR0 : Hid (RTab w0) := hR.out.below HB0.out (by have := hR.out.size; omega)
  have hw0 : 4 ≤ w0.heap.size := Nat.le_trans hT4 HB0.out.size
  have H17 : Hid (Calls Tryd.prog 17 #[.agg #[.int .i64 h, .int .i64 L, .slice ea en ec, .slice na nn nc, .slice pa pn pc]] w0 fun e w' => Hid (BegBad w0 w' e)) := begun_bad h L ea na pa en ec nn nc pn pc E N P w0 HT0 HR0 (he.out.kept fun q hq => HB0.out.block q hq) hel (hn.out.kept fun q hq => HB0.out.block q hq) hnl (hp.out.kept fun q hq => HB0.out.block q hq) hpl hs hE
  go_upto_region 4 with (go_at_call 17; refine H17.out.mono ?_; intro e4 w4 hh; obtain ⟨rfl, hb4⟩ := hh.out)
  have HB4 : Hid (Below w.heap.size w w4) := HB0.out.trans (hb4.mono HB0.out.size)
  clear hh hb4 H17 c0 c1 c2 c3 c4
  have H18 : Hid (Calls Tryd.prog 18 #[] w4 fun e w' => Hid (e = .returned (.bool true) ∧ Below w4.heap.size w4 w')) := first_ok w4 (hT.out.below HB4.out hT4)
  go_wp2_with (go_at_call 18; refine H18.out.mono ?_)
  intro e5 w5 hh
  obtain ⟨rfl, hb5⟩ := hh.out
  have HB5 : Hid (Below w.heap.size w w5) := HB4.out.trans (hb5.mono HB4.out.size)
  clear hh hb5 H18
  go_wp2
  go_ret
  exact ⟨rfl, HB5.out⟩
set_option maxHeartbeats 3200000 in
set_option maxRecDepth 100000 in
theorem nw_good (h L : Int) (ea na pa : Option Addr) (en ec nn nc pn pc : Nat) (E N P : List Int) (w : World) (hT : Hid (Tables w)) (hR : Hid (RTab w)) (he : Hid (View w (.slice ea en ec) E)) (hel : Hid (E.length = en)) (hn : Hid (View w (.slice na nn nc) N)) (hnl : Hid (N.length = nn)) (hp : Hid (View w (.slice pa pn pc) P)) (hpl : Hid (P.length = pn)) (hs : en + nn + pn ≤ 262144) (hE : newE h L en nn pn = 0) :
    Calls Tryd.prog 6 #[.agg #[.int .i64 h, .int .i64 L, .slice ea en ec, .slice na nn nc, .slice pa pn pc]] w fun e w' => Hid (e = .returned (.bool true) ∧ Below w.heap.size w w') := by
  have hT4 := hT.out.size
  have d1 : ¬ (262144 : Int) < ((en : Nat) : Int) + ((nn : Nat) : Int) + ((pn : Nat) : Int) := by omega
  have e1 : ((en : Nat) : Int) ≤ 262144 := by omega
  have e2 : ((nn : Nat) : Int) ≤ 262144 := by omega
  have e3 : ((pn : Nat) : Int) ≤ 262144 := by omega
  have HA0 : Hid (SeedAt (w.alloc (.cells #[.int .i64 h, .int .i64 L, .slice ea en ec, .slice na nn nc, .slice pa pn pc] 24)) w.heap.size h L (.slice ea en ec) (.slice na nn nc) (.slice pa pn pc) ∧ Below w.heap.size w (w.alloc (.cells #[.int .i64 h, .int .i64 L, .slice ea en ec, .slice na nn nc, .slice pa pn pc] 24)) ∧ (w.alloc (.cells #[.int .i64 h, .int .i64 L, .slice ea en ec, .slice na nn nc, .slice pa pn pc] 24)).heap.size = w.heap.size + 1) := ⟨SeedAt.new _ _ _ _ _ _ _, below_alloc1 _ _, size_alloc1 _ _⟩
  go_enter Tryd.func6, Tryd.ntmps6
  go_upto_region 1 with fail
  generalize w.alloc (.cells #[.int .i64 h, .int .i64 L, .slice ea en ec, .slice na nn nc, .slice pa pn pc] 24) = w0 at HA0 ⊢
  have c0 := HA0.out.1.c0
  have c1 := HA0.out.1.c1
  have c2 := HA0.out.1.c2
  have c3 := HA0.out.1.c3
  have c4 := HA0.out.1.c4
  have HB0 : Hid (Below w.heap.size w w0) := HA0.out.2.1
  have HT0 : Hid (Tables w0) := hT.out.below HB0.out hT4
  have HR0 : Hid (RTab w0) := hR.out.below HB0.out (by have := hR.out.size; omega)
  have hw0 : 4 ≤ w0.heap.size := Nat.le_trans hT4 HB0.out.size
  obtain ⟨k, hL1, hL2, _⟩ := newE_zero hE
  have H17 : Hid (Calls Tryd.prog 17 #[.agg #[.int .i64 h, .int .i64 L, .slice ea en ec, .slice na nn nc, .slice pa pn pc]] w0 fun e w' => Hid (BegGood w0 w' e h L (E ++ (N ++ P)))) := begun_good h L ea na pa en ec nn nc pn pc E N P w0 HT0 HR0 (he.out.kept fun q hq => HB0.out.block q hq) hel (hn.out.kept fun q hq => HB0.out.block q hq) hnl (hp.out.kept fun q hq => HB0.out.block q hq) hpl hs hE
  go_upto_region 4 with (go_at_call 17; refine H17.out.mono ?_; intro e4 w4 hh; obtain ⟨B, g, t, ka, va, kc, vc, rfl, hB, hp4⟩ := hh.out)
  have HA4 : Hid (SeedAt w4 w.heap.size h L (.slice ea en ec) (.slice na nn nc) (.slice pa pn pc)) := HA0.out.1.blk (hp4.bel.block _ (by have := HA0.out.2.2; omega))
  have HB4 : Hid (Below w.heap.size w w4) := HB0.out.trans (hp4.bel.mono HB0.out.size)
  have HP4 : Hid (Beg w0 w4 B g t h L (E ++ (N ++ P)) ka va kc vc ∧ w0.heap.size ≤ B) := ⟨hp4, hB⟩
  clear hh hp4 hB H17 c0 c1 c2 c3 c4
  have hg0 : 4 ≤ g ∧ w.heap.size < g := by have := HP4.out.1.gB; have := HP4.out.2; have := HA0.out.2.2; omega
  have hgt := HP4.out.1.tG
  obtain ⟨K, HK⟩ : ∃ K, Hid (K = updK h (fun _ => 0) (ones (szOf h)) (E ++ (N ++ P))) := ⟨_, rfl⟩
  obtain ⟨V, HV⟩ : ∃ V, Hid (V = updV h (fun _ => 0) (ones (szOf h)) (E ++ (N ++ P))) := ⟨_, rfl⟩
  have HS4 : Hid (SpAt w4 g h K V L 0) := by rw [HK.out, HV.out]; exact HP4.out.1.sp
  have HQ4 : Hid (RSp w4 t h L 0 ka kc va vc (fL K (szOf h)) (fL V (szOf h))) := by rw [HK.out, HV.out]; exact HP4.out.1.rs
  have H12 : Hid (Calls Tryd.prog 12 #[.pointer (some ⟨g, 0, none⟩), .int .i64 (40 : Nat), .slice none 0 0] w4 fun e w' => Hid (DrawP w4 w' e g h K V L 0 40)) := draw_none g h K V L 0 40 w4 k HS4.out (hT.out.below HB4.out hT4) hg0.1 (by omega) (by omega) (by omega) (by omega)
  go_upto_region 7 with (go_at_call 12; refine H12.out.mono ?_; intro e5 w5 hh; obtain ⟨b, rfl, r1, r2, r3, r4⟩ := hh.out)
  have HA5 : Hid (SeedAt w5 w.heap.size h L (.slice ea en ec) (.slice na nn nc) (.slice pa pn pc)) := HA4.out.blk (r4.block _ (lt_of_cell HA4.out.c0) (by omega))
  have HB5 : Hid (Below w.heap.size w w5) := HB4.out.trans (r4.toBelow (by omega) HB4.out.size)
  have HQ5 : Hid (RSp w5 t h L 0 ka kc va vc (fL K (szOf h)) (fL V (szOf h))) := HQ4.out.blk (r4.block t HQ4.out.lt (by omega)) (fun q off e => r4.block q (HP4.out.1.kG q off e).2 (by have := HP4.out.1.kG q off e; omega)) (fun q off e => r4.block q (HP4.out.1.vG q off e).2 (by have := HP4.out.1.vG q off e; omega))
  have HS5 : Hid (SpAt w5 g h (drK h K V [] 40) (drV h K V [] 40) L (0 + 1)) := r3
  have HV5 : Hid (View w5 (.slice (some ⟨b, 0, none⟩) 40 40) (fL (drO h K V []) 40) ∧ t < b) := ⟨r2, by have := HQ4.out.lt; omega⟩
  clear hh r1 r2 r3 r4 H12 HA4 HB4 HQ4 HS4 HP4
  have H19 : Hid (Calls Tryd.prog 19 #[.pointer (some ⟨t, 0, none⟩), .int .i64 (40 : Nat), .slice none 0 0] w5 fun e w' => Hid (RDrawP w5 w' e t h K V L 0 40 [])) := rdraw_ok t h K V L 0 ka va none kc vc 0 0 40 [] [] w5 k HQ5 (hR.out.below HB5.out (by have := hR.out.size; omega)) ⟨none, 0, rfl, by simp, by simp [maxLen], rfl, fun i x e => by simp at e, .inl rfl⟩ rfl (by show _ ≤ _; simp) (by omega) (by omega) (by omega) (by omega) (by omega) (by omega)
  go_upto_region 8 with (go_at_call 19; refine H19.out.mono ?_; intro e6 w6 hh; obtain ⟨ba, bc, ka', kc', va', vc', rfl, r1, r2, r3, r4, _⟩ := hh.out)
  have HA6 : Hid (SeedAt w6 w.heap.size h L (.slice ea en ec) (.slice na nn nc) (.slice pa pn pc)) := HA5.out.blk (r4.block _ (lt_of_cell HA5.out.c0) (by omega))
  have HB6 : Hid (Below w.heap.size w w6) := HB5.out.trans (r4.toBelow (by omega) HB5.out.size)
  have HS6 : Hid (SpAt w6 g h (drK h K V [] 40) (drV h K V [] 40) L (0 + 1)) := HS5.out.block (r4.block g HS5.out.lt (by omega))
  have HVA : Hid (View w6 (.slice (some ⟨b, 0, none⟩) 40 40) (fL (drO h K V []) 40)) := r4.view HV5.out.1 (fun b' off l c' e => .inl (by injection e with e1 _ _; injection e1 with e1; injection e1 with e2 _; have := HV5.out.2; omega))
  have HVB : Hid (View w6 (.slice ba 40 bc) (fL (drO h K V []) 40)) := r1
  clear hh r1 r2 r3 r4 H19 HA5 HB5 HQ5 HS5 HV5
  have H13 : Hid (∀ u : World, Sm w6 u → Calls Tryd.prog 13 #[.slice (some ⟨b, 0, none⟩) 40 40, .slice ba 40 bc] u fun e w' => e = .returned (.bool true) ∧ ∃ m, w' = u.drewN m) := fun u hu => by
    refine (same_any _ _ _ _ u (hu.view HVA.out) (hu.view HVB.out)).mono ?_
    rintro e w' ⟨q1, q2⟩
    exact ⟨by rw [q1]; simp, q2⟩
  have H16 : Hid (∀ u : World, Sm w6 u → Calls Tryd.prog 16 #[.pointer (some ⟨g, 0, none⟩)] u fun e w' => e = .returned (.int .i64 (L - (0 + 1))) ∧ ∃ m, w' = u.drewN m) := fun u hu => spleft g h _ _ L (0 + 1) u (HS6.out.block (by rw [hu.heap])) (by omega) (by omega) (by omega) (by omega)
  have c1 := HA6.out.c1
  go_quiet (first
    | (go_at_call 10; exact Calls.quiet_of_same (num_ok _ _))
    | (go_at_call 13; exact Calls.quiet_of (H13.out _ (by first | exact Sm.refl _ | exact ⟨rfl, rfl, rfl, rfl⟩)))
    | (go_at_call 16; exact Calls.quiet_of (H16.out _ (by first | exact Sm.refl _ | exact ⟨rfl, rfl, rfl, rfl⟩))))
  have HB7 : Hid (Below w.heap.size w (w6.drewN nq)) := Below.ofSm HB6.out ⟨rfl, rfl, rfl, rfl⟩
  go_wp2
  go_ret
  exact ⟨rfl, HB7.out⟩
theorem nw_ok (h L : Int) (ea na pa : Option Addr) (en ec nn nc pn pc : Nat) (E N P : List Int) (w : World) (hT : Tables w) (hR : RTab w) (he : View w (.slice ea en ec) E) (hel : E.length = en) (hn : View w (.slice na nn nc) N) (hnl : N.length = nn) (hp : View w (.slice pa pn pc) P) (hpl : P.length = pn) (b1 : en ≤ 140737488355328) (b2 : nn ≤ 140737488355328) (b3 : pn ≤ 140737488355328) :
    Calls Tryd.prog 6 #[.agg #[.int .i64 h, .int .i64 L, .slice ea en ec, .slice na nn nc, .slice pa pn pc]] w fun e w' => e = .returned (.bool true) ∧ Below w.heap.size w w' := by
  by_cases hs : 262144 < en + nn + pn
  · exact nw_long h L ea na pa en ec nn nc pn pc w b1 b2 b3 hs
  · by_cases hE : newE h L en nn pn = 0
    · exact (nw_good h L ea na pa en ec nn nc pn pc E N P w hT hR he hel hn hnl hp hpl (by omega) hE).mono fun e w' hh => hh.out
    · exact (nw_bad h L ea na pa en ec nn nc pn pc E N P w hT hR he hel hn hnl hp hpl (by omega) hE).mono fun e w' hh => hh.out
end Go.Proofs.YtkeklmkaleomkaaDoor
namespace Go.Proofs.YtkeklmkaleomkaaDoor
open Go.RowKit
set_option linter.unusedVariables false
set_option linter.unusedSimpArgs false
set_option maxHeartbeats 800000 in
set_option maxRecDepth 100000 in
/-- bytes: what lists hold together. -/
theorem bytes_ok (g : Nat) (v : Value) (yss : List (List Int)) (w : World) (hp : Hid (Parts w g v yss)) (hl : Hid (yss.flatten.length ≤ 140737488355328)) :
    Calls Tryd.prog 15 #[v] w fun e w' => e = .returned (.int .i64 (yss.flatten.length : Nat)) ∧ w' = w := by
  obtain ⟨N, HNN⟩ : ∃ N, Hid (N = yss.flatten.length) := ⟨_, rfl⟩
  rw [← HNN.out]
  obtain ⟨a, c, rfl, h1, h2, h3⟩ := hp.out
  obtain ⟨n, hn⟩ : ∃ n, n = yss.length := ⟨_, rfl⟩
  rw [← hn] at h1
  have HN : Hid (yss.length = n) := hn.symm
  rw [← hn]
  have h2b : c ≤ 9223372036854775807 := by unfold maxLen at h2; omega
  clear h2
  by_cases h0 : n = 0
  · subst h0
    have e0 : yss = [] := List.eq_nil_of_length_eq_zero hn.symm
    subst e0
    obtain rfl : N = 0 := HNN.out
    clear hn HN h1 HNN
    go_enter Tryd.func15, Tryd.ntmps15
    go_wp2
    go_loop [4, 3] (fun i l => i = .int .i64 0 ∧ l = .int .i64 0) (fun _ _ => 0)
    case atStart => exact ⟨rfl, rfl⟩
    case round =>
      obtain ⟨rfl, rfl⟩ := hrel
      go_wp2
      go_ret
      exact ⟨rfl, rfl⟩
  · obtain ⟨b, p, rfl, hb, hc⟩ : ∃ b p, a = some ⟨b, p, none⟩ ∧ b ≠ g ∧ ∀ i, i < yss.length → ∃ x, w.cell? ⟨b, p + i, none⟩ = some x ∧ View w x (yss.getD i []) ∧ (yss.getD i [] ≠ [] → ∀ b' off l c', x = .slice (some ⟨b', off, none⟩) l c' → b' ≠ g) := by
      rcases h3 with h3 | h3
      · have h5 := HN.out; rw [h3] at h5; simp at h5; omega
      · exact h3
    have HC : Hid (∀ i, i < n → ∃ a l c, w.cell? ⟨b, p + i, none⟩ = some (.slice a l c) ∧ l = (yss.getD i []).length ∧ l ≤ c ∧ c ≤ 9223372036854775807) := fun i hi => by
      obtain ⟨x, q1, ⟨a, c, q2, q3, q4, _⟩, _⟩ := hc i (by rw [HN.out]; exact hi)
      exact ⟨a, _, c, by rw [q1, q2], rfl, q3, by unfold maxLen at q4; omega⟩
    clear h3 hc hn
    go_enter Tryd.func15, Tryd.ntmps15
    go_wp2
    go_loop [4, 3] (fun i l => ∃ k r : Nat, k ≤ n ∧ i = .int .i64 k ∧ l = .int .i64 r ∧ Hid (r = (yss.take k).flatten.length)) (fun i _ => n - (intOf i).toNat)
    case atStart => exact ⟨0, 0, Nat.zero_le _, rfl, rfl, rfl⟩
    case round =>
      obtain ⟨k, r, hk, rfl, rfl, HR⟩ := hrel
      by_cases hlt : k < n
      · obtain ⟨xa, xl, xc, hcell, hxl, hxc, hxc2⟩ := HC.out k hlt
        have hst := sum_step yss k (by rw [HN.out]; exact hlt)
        have hle := sum_le yss (k + 1)
        have hsum : (yss.take (k + 1)).flatten.length = r + xl := by rw [hst, List.length_append, ← HR.out, hxl]
        have hrx : ((r + xl : Nat) : Int) ≤ 140737488355328 := by have := hl.out; omega
        have HS : Hid (r + xl = (yss.take (k + 1)).flatten.length) := hsum.symm
        clear hst hle hsum hxl HR
        go_wp2
        all_goals go_roundw
        all_goals first
          | (simp [intOf]; omega)
          | exact ⟨k + 1, r + xl, by omega, by go_num, by go_num, HS⟩
      · obtain rfl : k = n := by omega
        have HF : Hid (r = N) := by show _ = _; rw [HR.out, ← HN.out, List.take_length, HNN.out]
        clear HR HNN hl
        obtain rfl : r = N := HF.out
        go_wp2
        go_ret
        exact ⟨rfl, rfl⟩
set_option maxHeartbeats 400000 in
theorem feeds_few (a : Option Addr) (n c : Nat) (w : World) (h1 : n < 16) : Calls Tryd.prog 23 #[.slice a n c] w fun e w' => e = .returned (.bool false) ∧ w' = w := by
  have d1 : decide ((16 : Int) ≤ (n : Nat)) = false := by simp; omega
  go_enter Tryd.func23, Tryd.ntmps23
  go_wp2
  go_ret
  exact ⟨rfl, rfl⟩
set_option maxHeartbeats 400000 in
theorem feeds_many (a : Option Addr) (n c : Nat) (w : World) (h1 : 65536 < n) : Calls Tryd.prog 23 #[.slice a n c] w fun e w' => e = .returned (.bool false) ∧ w' = w := by
  have d1 : decide ((16 : Int) ≤ (n : Nat)) = true := by simp; omega
  have d2 : decide (((n : Nat) : Int) ≤ 65536) = false := by simp; omega
  go_enter Tryd.func23, Tryd.ntmps23
  go_wp2
  go_ret
  exact ⟨rfl, rfl⟩
/-- What Feed tells. -/
def feedE (en tot : Nat) : Int := if en < 16 ∨ 65536 < en then 60 else if 65536 < tot then 4 else 0
set_option maxHeartbeats 400000 in
theorem spfeed_60 (g : Nat) (ea : Option Addr) (en ec : Nat) (v : Value) (w : World) (h1 : en < 16 ∨ 65536 < en) :
    Calls Tryd.prog 14 #[.pointer (some ⟨g, 0, none⟩), .slice ea en ec, v] w fun e w' => e = .returned (.int .i64 60) ∧ w' = w := by
  have HF : Hid (∀ u, Calls Tryd.prog 23 #[.slice ea en ec] u fun e w' => e = .returned (.bool false) ∧ w' = u) := fun u => by
    rcases h1 with h1 | h1
    · exact feeds_few ea en ec u h1
    · exact feeds_many ea en ec u h1
  go_enter Tryd.func14, Tryd.ntmps14
  go_wp2_with (go_at_call 23; refine (HF.out _).mono ?_; rintro e5 w5 ⟨rfl, hw5⟩; obtain rfl := hw5.symm)
  go_ret
  exact ⟨rfl, rfl⟩
set_option maxHeartbeats 400000 in
theorem spfeed_4 (g : Nat) (ea : Option Addr) (en ec : Nat) (v : Value) (yss : List (List Int)) (w : World) (h1 : 16 ≤ en) (h2 : en ≤ 65536) (hp : Hid (Parts w g v yss)) (hl : Hid (yss.flatten.length ≤ 140737488355328)) (h3 : Hid (65536 < yss.flatten.length)) :
    Calls Tryd.prog 14 #[.pointer (some ⟨g, 0, none⟩), .slice ea en ec, v] w fun e w' => e = .returned (.int .i64 4) ∧ w' = w := by
  obtain ⟨N, HNN⟩ : ∃ N, Hid (N = yss.flatten.length) := ⟨_, rfl⟩
  have hN : (65536 : Int) < (N : Nat) := by have := h3.out; rw [← HNN.out] at this; omega
  have HJ : Hid (Calls Tryd.prog 25 #[v] w fun e w' => e = .returned (.int .i64 (N : Nat)) ∧ w' = w) := by
    have q := joined_ok g v yss w hp hl
    rw [← HNN.out] at q
    exact q
  go_enter Tryd.func14, Tryd.ntmps14
  go_wp2_with (first | (go_at_call 25; refine HJ.out.mono ?_; rintro e5 w5 ⟨rfl, hw5⟩; obtain rfl := hw5.symm) | (go_at_call 23; refine (feeds_ok ea en ec _ h1 h2).mono ?_; rintro e5 w5 ⟨rfl, hw5⟩; obtain rfl := hw5.symm))
  go_ret
  exact ⟨rfl, rfl⟩
theorem feed_bad (g : Nat) (ea : Option Addr) (en ec : Nat) (v : Value) (yss : List (List Int)) (w : World) (hp : Parts w g v yss) (hl : yss.flatten.length ≤ 140737488355328) (h : feedE en yss.flatten.length ≠ 0) :
    Calls Tryd.prog 14 #[.pointer (some ⟨g, 0, none⟩), .slice ea en ec, v] w fun e w' => e = .returned (.int .i64 (feedE en yss.flatten.length)) ∧ w' = w := by
  unfold feedE at h ⊢
  by_cases h1 : en < 16 ∨ 65536 < en
  · rw [if_pos h1]
    exact spfeed_60 g ea en ec v w h1
  · rw [if_neg h1] at h ⊢
    by_cases h2 : 65536 < yss.flatten.length
    · rw [if_pos h2]
      exact spfeed_4 g ea en ec v yss w (by omega) (by omega) hp hl h2
    · rw [if_neg h2] at h
      exact absurd rfl h
theorem feedE_zero {en tot : Nat} (h : feedE en tot = 0) : 16 ≤ en ∧ en ≤ 65536 ∧ tot ≤ 65536 := by
  unfold feedE at h
  by_cases h1 : en < 16 ∨ 65536 < en
  · rw [if_pos h1] at h; omega
  · rw [if_neg h1] at h
    by_cases h2 : 65536 < tot
    · rw [if_pos h2] at h; omega
    · omega
end Go.Proofs.YtkeklmkaleomkaaDoor
namespace Go.Proofs.YtkeklmkaleomkaaDoor
open Go.RowKit
set_option linter.unusedVariables false
/-- One step of a script. -/
structure OpAt (w : World) (b o : Nat) (kd at_ n : Int) (ea : Option Addr) (en ec : Nat) (E : List Int) (xv : Value) (xs : List Value) (yss : List (List Int)) : Prop where
  c0 : w.cell? ⟨b, o, none⟩ = some (.int .i64 kd)
  c1 : w.cell? ⟨b, o + 1, none⟩ = some (.int .i64 at_)
  c2 : w.cell? ⟨b, o + 2, none⟩ = some (.int .i64 n)
  c3 : w.cell? ⟨b, o + 3, none⟩ = some (.slice ea en ec)
  c4 : w.cell? ⟨b, o + 4, none⟩ = some xv
  vE : View w (.slice ea en ec) E
  lE : E.length = en
  pv : PV w xv xs yss
  nl : xv = .slice none 0 0 ∨ ∃ ad m c, xv = .slice (some ad) m c
  few : yss.length ≤ 1048576 ∧ yss.flatten.length ≤ 1048576
  fewE : en ≤ 1048576
/-- A script that came in. -/
def ScAt (w : World) (sa : Option Addr) (sn : Nat) : Prop := ∀ i, i < sn → ∃ b o, sa = some ⟨b, o, none⟩ ∧ ∃ kd at_ n ea en ec E xv xs yss, OpAt w b (o + i * 5) kd at_ n ea en ec E xv xs yss
theorem OpAt.pl {w u : World} {b o : Nat} {kd at_ n : Int} {ea : Option Addr} {en ec : Nat} {E : List Int} {xv : Value} {xs : List Value} {yss : List (List Int)} (h : OpAt w b o kd at_ n ea en ec E xv xs yss) (hu : Below w.heap.size w u) (g : Nat) (hg : w.heap.size ≤ g) : PL u g xv yss := by
  have hp : Parts u g xv yss := parts_keep (h.pv.parts g hg) (fun q hq => hu.block q hq)
  rcases h.nl with e | ⟨ad, m, c, e⟩
  · refine .inl ⟨e, ?_⟩
    obtain ⟨a, c, e2, _⟩ := hp
    rw [e] at e2
    injection e2 with _ e3 _
    exact List.eq_nil_of_length_eq_zero e3.symm
  · exact .inr ⟨⟨ad, m, c, e⟩, hp⟩
end Go.Proofs.YtkeklmkaleomkaaDoor
namespace Go.Proofs.YtkeklmkaleomkaaDoor
open Go.RowKit
set_option linter.unusedVariables false
set_option linter.unusedSimpArgs false
/-- What begun leaves. -/
def BgP (u w' : World) (e : Ending) : Prop := ∃ (d : Option Desc) (pa pb : Option Addr), e = .returned (.tuple #[.pointer pa, .pointer pb, .bool true]) ∧ optg d = .pointer pa ∧ opth d = .pointer pb ∧ Below u.heap.size u w' ∧ (∀ q, d = some q → DAt w' u.heap.size q) ∧ (omb d).Nodup ∧ (∀ b, b ∈ omb d ++ orb d → u.heap.size ≤ b ∧ b < w'.heap.size) ∧ (∀ b, b ∈ orb d → b ∉ omb d)
theorem begun_any (h L : Int) (ea na pa : Option Addr) (en ec nn nc pn pc : Nat) (E N P : List Int) (w : World) (hT : Hid (Tables w)) (hR : Hid (RTab w)) (he : Hid (View w (.slice ea en ec) E)) (hel : Hid (E.length = en)) (hn : Hid (View w (.slice na nn nc) N)) (hnl : Hid (N.length = nn)) (hp : Hid (View w (.slice pa pn pc) P)) (hpl : Hid (P.length = pn)) (hs : en + nn + pn ≤ 262144) :
    Calls Tryd.prog 17 #[.agg #[.int .i64 h, .int .i64 L, .slice ea en ec, .slice na nn nc, .slice pa pn pc]] w fun e w' => Hid (BgP w w' e) := by
  by_cases hE : newE h L en nn pn = 0
  · refine (begun_good h L ea na pa en ec nn nc pn pc E N P w hT hR he hel hn hnl hp hpl hs hE).mono ?_
    intro e w' hh
    obtain ⟨B, g, t, ka, va, kc, vc, h1, h2, h3⟩ := hh.out
    have z := newE_zero hE
    have gB := h3.gB
    have tG := h3.tG
    have rb := h3.rs.rb z.1
    have gt : ∀ b, b ∈ ablk ka ++ ablk va → g < b ∧ b < w'.heap.size ∧ b ≠ t := fun b hb => by
      obtain ⟨q1, q2, q3⟩ := rb b hb
      rcases q3 with ⟨off, e⟩ | ⟨off, e⟩
      · exact ⟨(h3.kG b off e).1, q1, q2⟩
      · exact ⟨(h3.vG b off e).1, q1, q2⟩
    refine ⟨some ⟨g, t, h, updK h (fun _ => 0) (ones (szOf h)) (E ++ (N ++ P)), updV h (fun _ => 0) (ones (szOf h)) (E ++ (N ++ P)), L, 0, ka, kc, va, vc⟩, _, _, h1, rfl, rfl, h3.bel, fun q e => ?_, ?_, fun b hb => ?_, fun b hb hx => ?_⟩
    · injection e with e
      subst e
      exact ⟨h3.sp, h3.rs, z.1, Int.le_refl _, by show (0 : Int) ≤ L; omega, by show L ≤ 16777216; omega, by show w.heap.size ≤ g; omega, by show w.heap.size ≤ t; omega⟩
    · show [g, t].Nodup
      simp
      omega
    · rcases List.mem_append.1 hb with hb | hb
      · simp only [omb, List.mem_cons, List.not_mem_nil, or_false] at hb
        have l1 := h3.sp.lt
        have l2 := h3.rs.lt
        rcases hb with rfl | rfl <;> omega
      · have := gt b hb
        omega
    · have := gt b hb
      simp only [omb, List.mem_cons, List.not_mem_nil, or_false] at hx
      rcases hx with rfl | rfl <;> omega
  · refine (begun_bad h L ea na pa en ec nn nc pn pc E N P w hT hR he hel hn hnl hp hpl hs hE).mono ?_
    intro e w' hh
    obtain ⟨h1, h2⟩ := hh.out
    exact ⟨none, none, none, h1, rfl, rfl, h2, fun q e => (by cases e), List.nodup_nil, fun b hb => (by cases hb), fun b hb => (by cases hb)⟩
theorem PSD.first {Pp : Prop} {w2 w3 : World} {B m : Nat} {d : Option Desc} {pa pb : Option Addr} (hm : m < w2.heap.size) (hB : B ≤ m) (c0 : w2.cell? ⟨m, 0, none⟩ = some (.pointer none)) (c1 : w2.cell? ⟨m, 1, none⟩ = some (.pointer none)) (c2 : w2.cell? ⟨m, 2, none⟩ = some (.pointer none)) (c3 : w2.cell? ⟨m, 3, none⟩ = some (.pointer none)) (c4 : w2.cell? ⟨m, 4, none⟩ = some (.slice none 0 0)) (c5 : w2.cell? ⟨m, 5, none⟩ = some (.slice none 0 0)) (c6 : w2.cell? ⟨m, 6, none⟩ = some (.int .i64 8192)) (th : w2.there m 0 7) (ea : optg d = .pointer pa) (eb : opth d = .pointer pb) (bel : Below w2.heap.size w2 w3) (hD : ∀ q, d = some q → DAt w3 w2.heap.size q) (hd : (omb d).Nodup) (hn : ∀ b, b ∈ omb d ++ orb d → w2.heap.size ≤ b ∧ b < w3.heap.size) (ha : ∀ b, b ∈ orb d → b ∉ omb d) :
    PSD Pp ((w3.setCell ⟨m, 0, none⟩ (.pointer pa)).setCell ⟨m, 2, none⟩ (.pointer pb)) B m d none (.slice none 0 0) (.slice none 0 0) [] 8192 ∧ Below w2.heap.size w2 w3 ∧ Fr w3 ((w3.setCell ⟨m, 0, none⟩ (.pointer pa)).setCell ⟨m, 2, none⟩ (.pointer pb)) [m] := by
  have b3 : w3.heap[m]? = w2.heap[m]? := bel.block m hm
  have k3 : ∀ j, w3.cell? ⟨m, j, none⟩ = w2.cell? ⟨m, j, none⟩ := fun j => World.cell?_of_block (a := ⟨m, j, none⟩) b3
  have t3 : w3.there m 0 7 := there_blk th b3
  have z : ((w3.setCell ⟨m, 0, none⟩ (.pointer pa)).setCell ⟨m, 2, none⟩ (.pointer pb)).heap.size = w3.heap.size := (size_setCells m [.pointer pb] 2 _).trans (size_setCells m [.pointer pa] 0 w3)
  have T : Touch w3 ((w3.setCell ⟨m, 0, none⟩ (.pointer pa)).setCell ⟨m, 2, none⟩ (.pointer pb)) m 0 7 := ((Touch.refl w3 m 0 7).setCell 0 _ (by omega) (by omega)).setCell 2 _ (by omega) (by omega)
  have oth : ∀ j, j ≠ 0 → j ≠ 2 → ((w3.setCell ⟨m, 0, none⟩ (.pointer pa)).setCell ⟨m, 2, none⟩ (.pointer pb)).cell? ⟨m, j, none⟩ = w2.cell? ⟨m, j, none⟩ := fun j h0 h2 => by rw [set_cells j h2, set_cells j h0, k3]
  have sm : ∀ b, b ∈ omb d ++ orb d → ((w3.setCell ⟨m, 0, none⟩ (.pointer pa)).setCell ⟨m, 2, none⟩ (.pointer pb)).heap[b]? = w3.heap[b]? := fun b hb => T.block b (hn b hb).2 (by have := (hn b hb).1; omega)
  have D : ∀ q, d = some q → DAt ((w3.setCell ⟨m, 0, none⟩ (.pointer pa)).setCell ⟨m, 2, none⟩ (.pointer pb)) B q := fun q e => by
    have a := hD q e
    subst e
    have a2 := a.keep (v := (w3.setCell ⟨m, 0, none⟩ (.pointer pa)).setCell ⟨m, 2, none⟩ (.pointer pb)) (fun b hb => sm b (List.mem_append_left _ hb)) (fun b hb => sm b (List.mem_append_right _ hb))
    exact ⟨a2.sp, a2.rs, a2.kn, a2.c0, a2.cL, a2.lL, by have := a2.gB; omega, by have := a2.hB; omega⟩
  refine ⟨⟨⟨?_, ?_, ?_, ?_, ?_, ?_, ?_, World.there_setCells (World.there_setCells t3 m 0 [.pointer pa]) m 2 [.pointer pb], D, fun q e => (by cases e), World.ownsRow_nil _ _ _ _, World.ownsRow_nil _ _ _ _, hB, ?_, fun b hb => ?_, by omega, by omega⟩, fun _ => ⟨fun t ht => (by cases ht), List.Pairwise.nil, fun s hs => (by cases hs)⟩⟩, bel, touch_fr T⟩
  · rw [set_cells 0 (by omega), ea]; exact World.cell?_setCell_same' _ _ _ (by rw [k3, c0]; rfl)
  · rw [oth 1 (by omega) (by omega)]; exact c1
  · rw [eb]; exact World.cell?_setCell_same' _ _ _ (by rw [set_cells 2 (by omega), k3, c2]; rfl)
  · rw [oth 3 (by omega) (by omega)]; exact c3
  · rw [oth 4 (by omega) (by omega)]; exact c4
  · rw [oth 5 (by omega) (by omega)]; exact c5
  · rw [oth 6 (by omega) (by omega)]; exact c6
  · have e0 : PMb m d none (.slice none 0 0) (.slice none 0 0) = m :: omb d := by simp [PMb, omb, vblk, Value.ownBlock]
    rw [e0, List.nodup_cons]
    exact ⟨fun hx => by have := (hn m (List.mem_append_left _ hx)).1; omega, hd⟩
  · have e0 : PMb m d none (.slice none 0 0) (.slice none 0 0) = m :: omb d := by simp [PMb, omb, vblk, Value.ownBlock]
    have hb' : b ∈ orb d := by simpa [orb] using hb
    have q := hn b (List.mem_append_right _ hb')
    refine ⟨by rw [z]; exact q.2, by omega, fun hx => ?_⟩
    rw [e0] at hx
    rcases List.mem_cons.1 hx with rfl | hx
    · omega
    · exact ha b hb' hx
theorem spoil_ov (w : World) (B : Nat) (oa : Option Addr) (on : Nat) (zs : List Int) (h : OV w B oa on zs) : Calls Tryd.prog 21 #[.slice oa on on] w fun e w' => Hid (e = .returned (.tuple #[]) ∧ Fr w w' (vblk (.slice oa on on))) := by
  rcases h with ⟨rfl, rfl, rfl⟩ | ⟨b, F, rfl, _, hn, ho, _⟩
  · refine (spoil_nil w).mono ?_
    rintro e w' ⟨h1, h2⟩
    exact ⟨h1, grown_fr h2⟩
  · refine (spoil_full on b F w (by omega) ho.lt ho.cells ho.there).mono ?_
    rintro e w' ⟨h1, h2⟩
    exact ⟨h1, grown_fr h2⟩
/-- One thing that was drawn is spoilt. -/
theorem spoilt_step {w v : World} {B m n : Nat} {d0 d1 : Option Desc} {ov wv : Value} {os ws : List Value} {left : Int} {t : Value × Value × List Int} {tl : List (Value × Value × List Int)} (s : PS w B m d0 d1 ov wv n os ws left) (dr : Drw w B (PMb m d0 d1 ov wv) (orb d0 ++ orb d1) (t :: tl)) (fr : Fr w v (vblk t.1)) : PS v B m d0 d1 ov wv n os ws left ∧ Drw v B (PMb m d0 d1 ov wv) (orb d0 ++ orb d1) tl ∧ Below B w v := by
  have ht := dr.it t (List.mem_cons_self ..)
  have oo := List.pairwise_cons.1 dr.oo
  refine ⟨s.keep (fun b hb => fr.block b (s.lt b hb).2 (fun hx => (ht.om b hx).1 hb)) (fun b hb => fr.block b (s.ro b hb).1 (fun hx => (ht.om b hx).2 hb)) fr.size, ⟨fun u hu => (dr.it u (List.mem_cons_of_mem _ hu)).fr fr (fun b hb hx => oo.1 u hu b hx hb) (fun h0 b hb hx => dr.ow t (List.mem_cons_self ..) u (List.mem_cons_of_mem _ hu) h0 b hx hb) (fun b hb => .inl hb) (fun b hb => .inl hb), oo.2, fun a ha u hu => dr.ow a (List.mem_cons_of_mem _ ha) u (List.mem_cons_of_mem _ hu)⟩, fr.toBelow (fun b hb => (ht.ob b hb).1) (by have := s.mB; have mlt : m < w.heap.size := lt_of_cell s.s0; omega)⟩
theorem row_cell {w : World} {B n : Nat} {v x : Value} {xs : List Value} {j : Nat} (h : w.ownsRow B 22 1 v n xs) (hx : xs[j]? = some x) : ∃ g c, v = .slice (some ⟨g, 0, none⟩) n c ∧ w.cell? ⟨g, j, none⟩ = some x ∧ n ≤ c ∧ c ≤ 9223372036854775807 := by
  have h0 := h
  have hl : j < xs.length := (List.getElem?_eq_some_iff.1 hx).1
  rcases h.2 with ⟨e, e2⟩ | ⟨g, c, cur, e, q1, q2, q3, q4, q5⟩
  · have := h.1; omega
  · refine ⟨g, c, e, ?_, q3, by unfold maxLen at q4; omega⟩
    subst e
    have q := h0.cells (g := g) rfl j _ hx
    rw [Addr.add_lit] at q
    simpa using q
end Go.Proofs.YtkeklmkaleomkaaDoor
