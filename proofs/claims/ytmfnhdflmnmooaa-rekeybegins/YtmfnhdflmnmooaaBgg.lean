import Derived.Test.YtmfnhdflmnmooaaPart09
import Derived.Test.YtmfnhdflmnmooaaPart05
namespace Go.Proofs.Ytmfnhdflmnmooaa
open Go.RowKit
set_option linter.unusedVariables false
set_option linter.unusedSimpArgs false
/-- The metadata of a rotation that has begun. -/
abbrev bgM (m : Mt) (F TO : Nat) (ao az md : Int) (bk : Bool) (ht GN : Nat) (p1 : Option Addr) (c1 : Nat) (p2 : Option Addr) (c2 : Nat) (p3 : Option Addr) (c3 : Nat) (p4 : Option Addr) (c4 : Nat) : Mt := { m with sp := p1, sc := c1, ep := p2, en := m.en + 1, ec := c2, gp := p3, gn := GN, gc := c3, tp := p4, tc := c4, on := true, fr := F, to := TO, back := bk, mode := md, hot := (ht : Int), done := 0, ao := ao, az := az, act := false, cnt := 0, sum := ⟨#[]⟩ }
theorem TkO.back {B B2 : Nat} {w w0 u : World} {T' T : List Tk} (h : TkO B w0 u T' T) (hB : B2 ≤ B) (hb : ∀ k, k < w.heap.size → w0.heap[k]? = w.heap[k]?) (tV : ∀ (i : Nat) (x : Tk), T[i]? = some x → ∃ zs, View w (.slice x.p x.l x.c) zs) : TkO B2 w u T' T := fun i x y hx hy => by
  obtain ⟨a, b, c, zs, ho, hl, hv⟩ := h i x y hx hy
  obtain ⟨zs', hv'⟩ := tV i y hy
  have e := view_same hv (hv'.kept hb)
  subst e
  exact ⟨a, b, c, zs, ownsRow_below ho hB, hl, hv'⟩
theorem kept_bg (N F TO : Nat) (r : Sx.Rot) (hN : 1 ≤ N) (hd : r.done = 0) (hf : r.fr = F) (ht : r.to = TO) : Sx.kept [Sx.segX N r, Sx.segY N r] = [((0, N, F) : Sx.Sg)] := by
  have h1 : 0 < N := hN
  cases hb : r.back <;> simp [Sx.segX, Sx.segY, Sx.kept, hb, hd, hf, ht, h1]
theorem bx_rot {W : World} {b : Nat} {m n3 : Mt} {vs : List Value} (h : Bx W b m) (he : (setL (mtC m).toList 14 vs).toArray = mtC n3) : Bx (W.setCells b 14 vs) b n3 := by
  unfold Bx
  rw [setCells_heap b 36 vs 14 W (mtC m) h, he]
theorem bx_there {W : World} {b : Nat} {m : Mt} (h : Bx W b m) (j : Nat) (hj : j < 27) : (W.cell? ⟨b, j, none⟩).isSome = true ∧ W.frozen? ⟨b, j, none⟩ = false := by
  refine ⟨?_, frozen_bx h⟩
  rw [cell_of_row W b j _ 36 (0, 0) h]
  simp [hj]
/-- What Begin answers of a rotation that may begin. -/
def BgS (B : Nat) (w : World) (m : Mt) (SL : List Slo) (EL : List Epo) (T : List Tk) (to : Epo) (F TO : Nat) (ao az md : Int) (bk : Bool) (ht : Nat) (e : Ending) (w' : World) : Prop := ∃ (p1 : Option Addr) (c1 : Nat) (p2 : Option Addr) (c2 : Nat) (p3 : Option Addr) (c3 : Nat) (p4 : Option Addr) (c4 : Nat) (T' : List Tk), e = .returned (.tuple #[.agg (mtC (bgM m F TO ao az md bk ht 1 p1 c1 p2 c2 p3 c3 p4 c4)), .int .i64 0]) ∧ R4 B w' (.slice p1 m.sn c1) (.slice p2 (m.en + 1) c2) (.slice p3 1 c3) (.slice p4 m.tn c4) m.sn (m.en + 1) 1 m.tn (SL.flatMap sloL) ((EL ++ [to]).flatMap epoL) ([((0, (secs m : Int), (F : Int)) : Int × Int × Int)].flatMap sgZ) (T'.flatMap tkL) ∧ T'.length = m.tn ∧ TkO B w w' T' T ∧ TkD T' ∧ Below w.heap.size w w'
set_option maxHeartbeats 16000000 in
set_option maxRecDepth 100000 in
theorem begin_good (m : Mt) (hot : Nat) (SL : List Slo) (EL : List Epo) (GL : List (Int × Int × Int)) (T : List Tk) (to : Epo) (F TO : Nat) (ao az : Int) (cs : ByteArray) (md : Int) (bk : Bool) (ht : Nat) (hz9 : az ≤ 9223372036854775807) (hto : to.n = (TO : Int)) (w : World) (O : Hid (MtO w m hot SL EL GL T)) (tL : Hid (∀ (i : Nat) (x : Tk), T[i]? = some x → x.l * 8 ≤ 140737488355328 ∧ ∃ zs, View w (.slice x.p x.l x.c) zs)) (h1 : mayB m.U m.C m.H m.K = true) (h2 : ¬ m.en = 0) (h3 : m.on = false) (h4 : areaB m.U m.H m.K ao az md ht = true) (h5 : ¬ hasB EL to.n m.en) (h6 : to.a.toList = cs.toList) (h7 : OneP m EL (fun i => GL.getD i (0, 0, 0))) (hF : (GL.getD 0 (0, 0, 0)).2.2 = (F : Int)) : Calls Try.prog 7 #[.agg (mtC m), .agg (epA to), .agg #[.int .i64 ao, .int .i64 az], .agg (tuA cs md bk ht)] w fun e w' => BgS w.heap.size w m SL EL T to F TO ao az md bk ht e w' := by
  have O2 : Hid (MetaOk w m hot EL (fun i => GL.getD i (0, 0, 0))) := O.out.ok
  have HM : Hid (∀ u, Calls Try.prog 18 #[.agg #[.int .i64 m.U, .int .u64 m.C, .int .i64 m.H, .int .i64 m.K]] u fun e w' => Hid (e = .returned (.bool true) ∧ Below u.heap.size u w')) := fun u => by
    have q := may_ok m.U m.C m.H m.K O.out.hC u
    rw [h1] at q
    exact q
  obtain ⟨qu, qh, k4, k2, _, qc, qlt⟩ := mayB_all h1
  have hr := headB_range qh
  have hH1 : 0 ≤ m.H := by omega
  have hH2 : m.H ≤ 4194304 := hr.2
  have k1 : 0 ≤ m.K := by omega
  have qe : ((m.en : Int) == 0) = false := by simp; omega
  have h3' : Hid (m.on = false) := h3
  have HEn : Hid (¬ m.en = 0) := h2
  have HAr : Hid (∀ u, Calls Try.prog 19 #[.agg #[.int .i64 m.U, .int .u64 m.C, .int .i64 m.H, .int .i64 m.K], .agg #[.int .i64 ao, .int .i64 az], .int .i64 md, .int .u64 (ht : Nat)] u fun e w' => Hid (e = .returned (.bool true) ∧ Below u.heap.size u w')) := fun u => by
    have q := area_ok m.U m.C m.H m.K ao az md ht u hH1 hH2 k1 k2 hz9
    rw [h4] at q
    exact q
  have HNw : Hid (∀ u, Below w.heap.size w u → Calls Try.prog 20 #[.slice m.ep m.en m.ec, .agg (epA to)] u fun e w' => Hid (e = .returned (.bool true) ∧ Below u.heap.size u w')) := fun u hu => by
    refine (newest_ok m.ep m.en m.ec EL to O2.out.hen (Nat.le_trans O2.out.hn0 (by omega)) u (O2.out.e1.below hu)).mono ?_
    intro e w' hh
    obtain ⟨⟨b, he, hb⟩, hB⟩ := hh.out
    exact ⟨by rw [he, hb.2 h5], hB⟩
  have HOn : Hid (∀ u, Below w.heap.size w u → Calls Try.prog 21 #[.agg (mtC m)] u fun e w' => Hid (e = .returned (.bool true) ∧ Below u.heap.size u w')) := fun u hu => by
    refine (one_ok m hot EL _ u (O2.out.below hu) h1).mono ?_
    rintro e w' ⟨b, he, hb, hB⟩
    exact ⟨by rw [he, hb.2 h7], hB⟩
  obtain ⟨n1, n2, n3⟩ := secs_of h1
  have HSec : Hid (∀ u, Calls Try.prog 25 #[.agg #[.int .i64 m.U, .int .u64 m.C, .int .i64 m.H, .int .i64 m.K]] u fun e w' => Hid (e = .returned (.int .u64 (secs m : Nat)) ∧ Below u.heap.size u w')) := fun u => by
    have q := sectors_ok m.U m.C m.H m.K u qu hH1 hH2 k1 k2 (by omega) qc
    rw [n1] at q
    exact q
  have HN : Hid (1 ≤ secs m ∧ secs m ≤ 4294967296) := ⟨n2, n3⟩
  obtain ⟨G, Og, hpG, hcG⟩ : ∃ G Og, m.gp = some ⟨G, Og, none⟩ ∧ w.cell? ⟨G, Og + 2, none⟩ = some (.int .u64 (F : Nat)) := by
    obtain ⟨x, hx⟩ : ∃ x, GL[0]? = some x := ⟨GL[0]'(by have := O.out.hgn; have := h7.1; omega), List.getElem?_eq_getElem _⟩
    obtain ⟨b, off, hp, _, hc⟩ := O.out.g1.get hx
    refine ⟨b, off, hp, ?_⟩
    have q := hc 2 _ rfl
    have e : x.2.2 = (F : Int) := by rw [← hF, List.getD_eq_getElem?_getD, hx]; rfl
    rw [e] at q
    simpa using q
  have HG : Hid (m.gp = some ⟨G, Og, none⟩ ∧ m.gn = 1) := ⟨hpG, h7.1⟩
  have HcG : Hid (w.cell? ⟨G, Og + 2, none⟩ = some (.int .u64 (F : Nat))) := hcG
  have HTO : Hid (to.n = (TO : Int)) := hto
  clear h1 h2 h3 h4 h5 h7 hF hpG hcG hto qu qh k4 k2 qc qlt hr hH1 hH2 k1 n1 n2 n3 hz9
  have F0 : Hid (Bg5 w (((((w.alloc (.cells (mtC m) 36)).alloc (.cells (epA to) 38)).alloc (.cells #[.int .i64 ao, .int .i64 az] 31)).alloc (.cells (tuA cs md bk ht) 40)).alloc (.cells mt0 36)) m to ao az cs md bk ht) := five_new w m to ao az cs md bk ht
  go_enter Try.func7, Try.ntmps7
  go_upto_region 1 with fail
  generalize (((((w.alloc (.cells (mtC m) 36)).alloc (.cells (epA to) 38)).alloc (.cells #[.int .i64 ao, .int .i64 az] 31)).alloc (.cells (tuA cs md bk ht) 40)).alloc (.cells mt0 36)) = w0 at F0 ⊢
  have y4 := F0.out.bx.c 4 (.int .i64 m.U) rfl
  have y5 := F0.out.bx.c 5 (.int .u64 m.C) rfl
  have y6 := F0.out.bx.c 6 (.int .i64 m.H) rfl
  have y7 := F0.out.bx.c 7 (.int .i64 m.K) rfl
  have y12 := F0.out.bx.c 12 (.slice m.ep m.en m.ec) rfl
  have y13 := F0.out.bx.c 13 (.slice m.gp m.gn m.gc) rfl
  have y14 : w0.cell? ⟨w.heap.size, 14, none⟩ = some (.bool false) := (by have q := F0.out.bx.c 14 (.bool m.on) rfl; rw [h3'.out] at q; exact q)
  have t0 := F0.out.te0 0 (.int .u64 to.n) rfl
  have t1 := F0.out.te0 1 (.string to.a) rfl
  have t2 := F0.out.te0 2 (.string to.b) rfl
  have t3 := F0.out.te0 3 (.string to.c) rfl
  have t4 := F0.out.te0 4 (.string to.d) rfl
  have a0 := F0.out.ar0 0 (.int .i64 ao) rfl
  have a1 := F0.out.ar0 1 (.int .i64 az) rfl
  have u0 := F0.out.tu0 0 (.string cs) rfl
  have u1 := F0.out.tu0 1 (.int .i64 md) rfl
  have u2 := F0.out.tu0 2 (.bool bk) rfl
  have u3 := F0.out.tu0 3 (.int .u64 (ht : Nat)) rfl
  go_upto_region 7 with (first | (go_at_call 18; refine (HM.out _).mono ?_; intro e5 w5 hh5; obtain ⟨he5, hb5⟩ := hh5.out; subst he5; have F5 := F0.out.below hb5; have y4 := F5.bx.c 4 (.int .i64 m.U) rfl; have y5 := F5.bx.c 5 (.int .u64 m.C) rfl; have y6 := F5.bx.c 6 (.int .i64 m.H) rfl; have y7 := F5.bx.c 7 (.int .i64 m.K) rfl; have y12 := F5.bx.c 12 (.slice m.ep m.en m.ec) rfl; have y13 := F5.bx.c 13 (.slice m.gp m.gn m.gc) rfl; have y14 : w5.cell? ⟨w.heap.size, 14, none⟩ = some (.bool false) := (by have q := F5.bx.c 14 (.bool m.on) rfl; rw [h3'.out] at q; exact q); have t0 := F5.te0 0 (.int .u64 to.n) rfl; have t1 := F5.te0 1 (.string to.a) rfl; have t2 := F5.te0 2 (.string to.b) rfl; have t3 := F5.te0 3 (.string to.c) rfl; have t4 := F5.te0 4 (.string to.d) rfl; have a0 := F5.ar0 0 (.int .i64 ao) rfl; have a1 := F5.ar0 1 (.int .i64 az) rfl; have u0 := F5.tu0 0 (.string cs) rfl; have u1 := F5.tu0 1 (.int .i64 md) rfl; have u2 := F5.tu0 2 (.bool bk) rfl; have u3 := F5.tu0 3 (.int .u64 (ht : Nat)) rfl) | (go_at_call 19; refine (HAr.out _).mono ?_; intro e6 w6 hh6; obtain ⟨he6, hb6⟩ := hh6.out; subst he6; have F6 := F5.below hb6; have y4 := F6.bx.c 4 (.int .i64 m.U) rfl; have y5 := F6.bx.c 5 (.int .u64 m.C) rfl; have y6 := F6.bx.c 6 (.int .i64 m.H) rfl; have y7 := F6.bx.c 7 (.int .i64 m.K) rfl; have y12 := F6.bx.c 12 (.slice m.ep m.en m.ec) rfl; have y13 := F6.bx.c 13 (.slice m.gp m.gn m.gc) rfl; have y14 : w6.cell? ⟨w.heap.size, 14, none⟩ = some (.bool false) := (by have q := F6.bx.c 14 (.bool m.on) rfl; rw [h3'.out] at q; exact q); have t0 := F6.te0 0 (.int .u64 to.n) rfl; have t1 := F6.te0 1 (.string to.a) rfl; have t2 := F6.te0 2 (.string to.b) rfl; have t3 := F6.te0 3 (.string to.c) rfl; have t4 := F6.te0 4 (.string to.d) rfl; have a0 := F6.ar0 0 (.int .i64 ao) rfl; have a1 := F6.ar0 1 (.int .i64 az) rfl; have u0 := F6.tu0 0 (.string cs) rfl; have u1 := F6.tu0 1 (.int .i64 md) rfl; have u2 := F6.tu0 2 (.bool bk) rfl; have u3 := F6.tu0 3 (.int .u64 (ht : Nat)) rfl) | (go_at_call 20; refine (HNw.out _ F6.bel).mono ?_; intro e7 w7 hh7; obtain ⟨he7, hb7⟩ := hh7.out; subst he7; have F7 := F6.below hb7; have y4 := F7.bx.c 4 (.int .i64 m.U) rfl; have y5 := F7.bx.c 5 (.int .u64 m.C) rfl; have y6 := F7.bx.c 6 (.int .i64 m.H) rfl; have y7 := F7.bx.c 7 (.int .i64 m.K) rfl; have y12 := F7.bx.c 12 (.slice m.ep m.en m.ec) rfl; have y13 := F7.bx.c 13 (.slice m.gp m.gn m.gc) rfl; have y14 : w7.cell? ⟨w.heap.size, 14, none⟩ = some (.bool false) := (by have q := F7.bx.c 14 (.bool m.on) rfl; rw [h3'.out] at q; exact q); have t0 := F7.te0 0 (.int .u64 to.n) rfl; have t1 := F7.te0 1 (.string to.a) rfl; have t2 := F7.te0 2 (.string to.b) rfl; have t3 := F7.te0 3 (.string to.c) rfl; have t4 := F7.te0 4 (.string to.d) rfl; have a0 := F7.ar0 0 (.int .i64 ao) rfl; have a1 := F7.ar0 1 (.int .i64 az) rfl; have u0 := F7.tu0 0 (.string cs) rfl; have u1 := F7.tu0 1 (.int .i64 md) rfl; have u2 := F7.tu0 2 (.bool bk) rfl; have u3 := F7.tu0 3 (.int .u64 (ht : Nat)) rfl) | (go_at_call 21; refine (HOn.out _ F7.bel).mono ?_; intro e8 w8 hh8; obtain ⟨he8, hb8⟩ := hh8.out; subst he8; have F8 := F7.below hb8) | (refine wpList_load_want (by rfl) 36 (.tmp 4) (by rfl) w.heap.size 0 (by rfl) (mtC m).toList _ F7.bx.range Try.underlying36 rfl (size36 m) ?_))
  have FH : Hid (Bg5 w w8 m to ao az cs md bk ht) := F8
  clear F0 F5 F6 F7 F8 hb5 hb6 hb7 hb8 hh5 hh6 hh7 hh8 HM HAr HNw HOn qe h3'
  clear y4 y5 y6 y7 y12 y13 y14 t0 t1 t2 t3 t4 a0 a1 u0 u1 u2 u3
  clear y4 y5 y6 y7 y12 y13 y14 t0 t1 t2 t3 t4 a0 a1 u0 u1 u2 u3
  clear y4 y5 y6 y7 y12 y13 y14 t0 t1 t2 t3 t4 a0 a1 u0 u1 u2 u3
  clear y4 y5 y6 y7 y12 y13 y14 t0 t1 t2 t3 t4 a0 a1 u0 u1 u2 u3
  have HCp : Hid (Calls Try.prog 22 #[.agg (mtC m)] w8 fun e w' => CdP w8 m SL EL GL T e w') := copied_ok m SL EL GL T w8 O.out.hsn O.out.hen O.out.hgn O.out.htn O.out.y1 O.out.y2 O.out.y3 O.out.y4 O.out.z1 O.out.z2 O.out.z3 O.out.z4 (O.out.s1.below FH.out.bel) (O.out.e1.below FH.out.bel) (O.out.g1.below FH.out.bel) (O.out.t1.below FH.out.bel) (fun i x hx => by
    obtain ⟨q1, zs, q2⟩ := tL.out i x hx
    exact ⟨q1, zs, q2.kept FH.out.bel.block⟩)
  go_upto_region 8 with (first | (refine wpList_load_mid (by rfl) 36 (.tmp 4) (by rfl) w.heap.size 0 (by rfl) (mtC m).toList _ FH.out.bx.range Try.underlying36 rfl (size36 m) ?_) | (go_at_call 22; refine HCp.out.mono ?_; rintro e9 Wq ⟨p1, c1, p2, c2, p3, c3, p4, c4, T', rfl, RRq, lq, TOq, TDq, bq⟩) | (refine wpList_alloc_box (by rfl) (by rfl) ?_; intro W1 b5 hb1 hbl1 he1 hz1) | (refine wpList_store_box (by rfl) (.tmp 10) (.tmp 59) (by rfl) (cdM m p1 c1 p2 c2 p3 c3 p4 c4) b5 mt0 (by rfl) (by rfl) hb1 rfl ?_; intro W bn st))
  simp only [Act.put, List.setIfInBounds_toArray, List.set_cons_zero, List.set_cons_succ]
  have hsq := bq.size
  have hF5 := FH.out.sz
  have S15 : Below Wq.heap.size Wq W := hbl1.trans (st.below (by omega) (by omega))
  have FW : Hid (Bg5 w W m to ao az cs md bk ht) := (FH.out.below bq).below S15
  have BN : Hid (Bx W b5 (cdM m p1 c1 p2 c2 p3 c3 p4 c4)) := bn
  have RR : Hid (R4 (w8.heap.size + 2) W (.slice p1 m.sn c1) (.slice p2 m.en c2) (.slice p3 m.gn c3) (.slice p4 m.tn c4) m.sn m.en m.gn m.tn (SL.flatMap sloL) (EL.flatMap epoL) (GL.flatMap sgZ) (T'.flatMap tkL)) := RRq.below S15
  have TOw : Hid (TkO (w8.heap.size + 2) w8 W T' T) := TOq.below S15
  have HL : Hid (T'.length = m.tn ∧ TkD T') := ⟨lq, TDq⟩
  have HB : Hid (w.heap.size + 5 ≤ b5 ∧ w.heap.size + 5 ≤ w8.heap.size + 2 ∧ w8.heap.size + 2 ≤ W.heap.size ∧ Below w.heap.size w w8) := ⟨by omega, by omega, by
    obtain ⟨g, hg⟩ := own_some RR.out.o2 (by have := HEn.out; omega)
    have q := RR.out.o2.lt g (by rw [hg]; rfl)
    omega, FH.out.bel⟩
  clear RRq TOq TDq lq bq hbl1 he1 hz1 hb1 bn st S15 hsq hF5 HCp W1
  have HW0 : Hid (w8.heap.size ≤ W.heap.size) := by show _ ≤ _; have := HB.out.2.2.1; omega
  obtain ⟨i49, hi49, hz490, hz491, hz492⟩ := info_parts info49
  have Hi49 : Hid (_ ∧ _ ∧ _ ∧ _) := ⟨hi49, hz490, hz491, hz492⟩
  clear hi49 hz490 hz491 hz492
  generalize w8.heap.size + 2 = B at *
  have c12 := BN.out.c 12 (.slice p2 m.en c2) rfl
  have t0 := FW.out.te0 0 (.int .u64 to.n) rfl
  have t1 := FW.out.te0 1 (.string to.a) rfl
  have t2 := FW.out.te0 2 (.string to.b) rfl
  have t3 := FW.out.te0 3 (.string to.c) rfl
  have t4 := FW.out.te0 4 (.string to.d) rfl
  have hy2 : (m.en + 2) * 72 ≤ 140737488355328 := O.out.y2
  have hBW : B ≤ W.heap.size := HB.out.2.2.1
  go_upto_region 9 with (at_builtin; go_must (refine wpList_append_in (by rfl) (.tmp 61) (.tmp 63) 28 (by rfl) 38 i49 _ 5 72 Try.underlying28 Hi49.out.1 Hi49.out.2.1 Hi49.out.2.2.1 Hi49.out.2.2.2 rfl (by decide) epoL_len epoL_one B m.en (.slice p2 m.en c2) (EL.flatMap epoL) rfl (RR.out.o2.alloc _) W.heap.size 0 [to] rfl rfl (rv_lit epoL_len (World.alloc_heap_new W _)) (by unfold maxLen; omega) (by omega) (by simp; omega) ?_); intro g2 k2 U ho hg hd; have BU : Bx U b5 (cdM m p1 c1 p2 c2 p3 c3 p4 c4) := (hg.block b5 (Nat.lt_of_lt_of_le BN.out.lt (by simp)) (fun e => own_bx BN.out (by decide) RR.out.o2 e.symm)).trans (BN.out.below (below_alloc1 W _)); have cU := BU.c 12 (.slice p2 m.en c2) rfl; have fU := frozen_bx (o := 12) BU)
  clear c12 t0 t1 t2 t3 t4
  have FU : Bg5 w U m to ao az cs md bk ht := (FW.out.below (below_alloc1 W _)).grown hg (fun j e => by have := (RR.out.o2.lt j e).1; have := HB.out.2.1; omega)
  have sW : Stay b5 U (U.setCell ⟨b5, 12, none⟩ (.slice (some ⟨g2, 0, none⟩) (m.en + 1) k2)) := (Stay.refl _ _).set _ _
  have FA : Hid (Bg5 w (U.setCell ⟨b5, 12, none⟩ (.slice (some ⟨g2, 0, none⟩) (m.en + 1) k2)) m to ao az cs md bk ht) := FU.stay sW HB.out.1
  have BA : Hid (Bx (U.setCell ⟨b5, 12, none⟩ (.slice (some ⟨g2, 0, none⟩) (m.en + 1) k2)) b5 ({ cdM m p1 c1 (some ⟨g2, 0, none⟩) k2 p3 c3 p4 c4 with en := m.en + 1 } : Mt)) := bx_set BU rfl
  have RU := RR.out.app2 (below_alloc1 W _) hg ho
  have RA : Hid (R4 B (U.setCell ⟨b5, 12, none⟩ (.slice (some ⟨g2, 0, none⟩) (m.en + 1) k2)) (.slice p1 m.sn c1) (.slice (some ⟨g2, 0, none⟩) (m.en + 1) k2) (.slice p3 m.gn c3) (.slice p4 m.tn c4) m.sn (m.en + 1) m.gn m.tn (SL.flatMap sloL) (EL.flatMap epoL ++ [to].flatMap epoL) (GL.flatMap sgZ) (T'.flatMap tkL)) := RU.stay sW (fun he h => own_bx BU he h)
  have TU := (TOw.out.below (below_alloc1 W _)).grown hg (fun zs x h => own_apart h (own_keep RR.out.o2 (below_alloc1 W _)) (by decide))
  have TA : Hid (TkO B w8 (U.setCell ⟨b5, 12, none⟩ (.slice (some ⟨g2, 0, none⟩) (m.en + 1) k2)) T' T) := TU.grown (grown_of_stay sW) (fun zs x h => .inr (own_bx BU (by decide) h))
  have HBa : Hid (B ≤ (U.setCell ⟨b5, 12, none⟩ (.slice (some ⟨g2, 0, none⟩) (m.en + 1) k2)).heap.size) := by have q := (RA.out.o2.lt g2 rfl); show _ ≤ _; omega
  clear RU TU FU sW BU cU fU ho hg hd RR TOw FW BN hBW
  generalize U.setCell ⟨b5, 12, none⟩ (.slice (some ⟨g2, 0, none⟩) (m.en + 1) k2) = Wa at *
  clear U
  have l13 : ∀ u, Below Wa.heap.size Wa u → u.cell? ⟨w.heap.size, 13, none⟩ = some (.slice (some ⟨G, Og, none⟩) 1 m.gc) := fun u hu => by
    have q := cell_below hu (FA.out.bx.c 13 (.slice m.gp m.gn m.gc) rfl)
    rw [HG.out.1, HG.out.2] at q
    exact q
  have lF : ∀ u, Below Wa.heap.size Wa u → u.cell? ⟨G, Og + 2, none⟩ = some (.int .u64 (F : Nat)) := fun u hu => cell_below hu (cell_below FA.out.bel HcG.out)
  have lT : ∀ u, Below Wa.heap.size Wa u → u.cell? ⟨w.heap.size + 1, 0, none⟩ = some (.int .u64 (TO : Nat)) := fun u hu => by
    have q := cell_below hu (FA.out.te0 0 (.int .u64 to.n) rfl)
    rw [HTO.out] at q
    exact q
  have l2 : ∀ u, Below Wa.heap.size Wa u → u.cell? ⟨w.heap.size + 3, 2, none⟩ = some (.bool bk) := fun u hu => cell_below hu (FA.out.tu0 2 _ rfl)
  have l1 : ∀ u, Below Wa.heap.size Wa u → u.cell? ⟨w.heap.size + 3, 1, none⟩ = some (.int .i64 md) := fun u hu => cell_below hu (FA.out.tu0 1 _ rfl)
  have l3 : ∀ u, Below Wa.heap.size Wa u → u.cell? ⟨w.heap.size + 3, 3, none⟩ = some (.int .u64 (ht : Nat)) := fun u hu => cell_below hu (FA.out.tu0 3 _ rfl)
  have la0 : ∀ u, Below Wa.heap.size Wa u → u.cell? ⟨w.heap.size + 2, 0, none⟩ = some (.int .i64 ao) := fun u hu => cell_below hu (FA.out.ar0 0 _ rfl)
  have la1 : ∀ u, Below Wa.heap.size Wa u → u.cell? ⟨w.heap.size + 2, 1, none⟩ = some (.int .i64 az) := fun u hu => cell_below hu (FA.out.ar0 1 _ rfl)
  have hS0 : Below Wa.heap.size Wa Wa.drew := (Below.refl _ _).drew
  refine wp_region_noPanic ?_
  refine wp_region_till (fun u => Below Wa.heap.size Wa u) 16 (by kernel_rfl) (by decide) (by decide +kernel) (by decide +kernel) (by decide +kernel) (fun inv => ?_)
  refine till_at 0 66 (.pointer (some ⟨w.heap.size, 13, none⟩)) inv rfl rfl (by decide) (by decide +kernel) (by decide +kernel) (fun _ _ _ h => h) (hS0) (Or.inl ⟨by rfl, fun w' hS' => by go_simp⟩) (fun inv' => ?_)
  clear inv; have inv := inv'; clear inv'
  simp only [List.setIfInBounds_toArray, List.set_cons_zero, List.set_cons_succ]
  refine till_at 1 67 (.slice (some ⟨G, Og, none⟩) 1 m.gc) inv rfl rfl (by decide) (by decide +kernel) (by decide +kernel) (fun _ _ _ h => h) (hS0) (Or.inl ⟨by rfl, fun w' hS' => by have q := l13 w' hS'; go_simp⟩) (fun inv' => ?_)
  clear inv; have inv := inv'; clear inv'
  simp only [List.setIfInBounds_toArray, List.set_cons_zero, List.set_cons_succ]
  refine till_at 2 68 (.pointer (some ⟨G, Og, none⟩)) inv rfl rfl (by decide) (by decide +kernel) (by decide +kernel) (fun _ _ _ h => h) (hS0) (Or.inl ⟨by rfl, fun w' hS' => by go_simp⟩) (fun inv' => ?_)
  clear inv; have inv := inv'; clear inv'
  simp only [List.setIfInBounds_toArray, List.set_cons_zero, List.set_cons_succ]
  refine till_at 3 69 (.pointer (some ⟨G, Og + 2, none⟩)) inv rfl rfl (by decide) (by decide +kernel) (by decide +kernel) (fun _ _ _ h => h) (hS0) (Or.inl ⟨by rfl, fun w' hS' => by go_simp⟩) (fun inv' => ?_)
  clear inv; have inv := inv'; clear inv'
  simp only [List.setIfInBounds_toArray, List.set_cons_zero, List.set_cons_succ]
  refine till_at 4 70 (.int .u64 (F : Nat)) inv rfl rfl (by decide) (by decide +kernel) (by decide +kernel) (fun _ _ _ h => h) (hS0) (Or.inl ⟨by rfl, fun w' hS' => by have q := lF w' hS'; go_simp⟩) (fun inv' => ?_)
  clear inv; have inv := inv'; clear inv'
  simp only [List.setIfInBounds_toArray, List.set_cons_zero, List.set_cons_succ]
  refine till_at 5 71 (.pointer (some ⟨w.heap.size + 1, 0, none⟩)) inv rfl rfl (by decide) (by decide +kernel) (by decide +kernel) (fun _ _ _ h => h) (hS0) (Or.inl ⟨by rfl, fun w' hS' => by go_simp⟩) (fun inv' => ?_)
  clear inv; have inv := inv'; clear inv'
  simp only [List.setIfInBounds_toArray, List.set_cons_zero, List.set_cons_succ]
  refine till_at 6 72 (.int .u64 (TO : Nat)) inv rfl rfl (by decide) (by decide +kernel) (by decide +kernel) (fun _ _ _ h => h) (hS0) (Or.inl ⟨by rfl, fun w' hS' => by have q := lT w' hS'; go_simp⟩) (fun inv' => ?_)
  clear inv; have inv := inv'; clear inv'
  simp only [List.setIfInBounds_toArray, List.set_cons_zero, List.set_cons_succ]
  refine till_at 7 73 (.pointer (some ⟨w.heap.size + 3, 2, none⟩)) inv rfl rfl (by decide) (by decide +kernel) (by decide +kernel) (fun _ _ _ h => h) (hS0) (Or.inl ⟨by rfl, fun w' hS' => by go_simp⟩) (fun inv' => ?_)
  clear inv; have inv := inv'; clear inv'
  simp only [List.setIfInBounds_toArray, List.set_cons_zero, List.set_cons_succ]
  refine till_at 8 74 (.bool bk) inv rfl rfl (by decide) (by decide +kernel) (by decide +kernel) (fun _ _ _ h => h) (hS0) (Or.inl ⟨by rfl, fun w' hS' => by have q := l2 w' hS'; go_simp⟩) (fun inv' => ?_)
  clear inv; have inv := inv'; clear inv'
  simp only [List.setIfInBounds_toArray, List.set_cons_zero, List.set_cons_succ]
  refine till_at 9 75 (.pointer (some ⟨w.heap.size + 3, 1, none⟩)) inv rfl rfl (by decide) (by decide +kernel) (by decide +kernel) (fun _ _ _ h => h) (hS0) (Or.inl ⟨by rfl, fun w' hS' => by go_simp⟩) (fun inv' => ?_)
  clear inv; have inv := inv'; clear inv'
  simp only [List.setIfInBounds_toArray, List.set_cons_zero, List.set_cons_succ]
  refine till_at 10 76 (.int .i64 md) inv rfl rfl (by decide) (by decide +kernel) (by decide +kernel) (fun _ _ _ h => h) (hS0) (Or.inl ⟨by rfl, fun w' hS' => by have q := l1 w' hS'; go_simp⟩) (fun inv' => ?_)
  clear inv; have inv := inv'; clear inv'
  simp only [List.setIfInBounds_toArray, List.set_cons_zero, List.set_cons_succ]
  refine till_at 11 77 (.pointer (some ⟨w.heap.size + 3, 3, none⟩)) inv rfl rfl (by decide) (by decide +kernel) (by decide +kernel) (fun _ _ _ h => h) (hS0) (Or.inl ⟨by rfl, fun w' hS' => by go_simp⟩) (fun inv' => ?_)
  clear inv; have inv := inv'; clear inv'
  simp only [List.setIfInBounds_toArray, List.set_cons_zero, List.set_cons_succ]
  refine till_at 12 78 (.int .u64 (ht : Nat)) inv rfl rfl (by decide) (by decide +kernel) (by decide +kernel) (fun _ _ _ h => h) (hS0) (Or.inl ⟨by rfl, fun w' hS' => by have q := l3 w' hS'; go_simp⟩) (fun inv' => ?_)
  clear inv; have inv := inv'; clear inv'
  simp only [List.setIfInBounds_toArray, List.set_cons_zero, List.set_cons_succ]
  refine till_at 13 79 (.agg #[.int .i64 ao, .int .i64 az]) inv rfl rfl (by decide) (by decide +kernel) (by decide +kernel) (fun _ _ _ h => h) (hS0) (Or.inl ⟨by rfl, fun w' hS' => by have q := la0 w' hS'; have q2 := la1 w' hS'; go_simp⟩) (fun inv' => ?_)
  clear inv; have inv := inv'; clear inv'
  simp only [List.setIfInBounds_toArray, List.set_cons_zero, List.set_cons_succ]
  refine till_at 14 80 (.agg #[.bool true, .int .u64 (F : Nat), .int .u64 (TO : Nat), .bool bk, .int .i64 md, .int .u64 (ht : Nat), .int .u64 0, .int .i64 ao, .int .i64 az, .bool false, .int .u64 0, .string ⟨#[]⟩]) inv rfl rfl (by decide) (by decide +kernel) (by decide +kernel) (fun _ _ _ h => h) (hS0) (Or.inl ⟨by rfl, fun w' hS' => by go_simp⟩) (fun inv' => ?_)
  clear inv; have inv := inv'; clear inv'
  simp only [List.setIfInBounds_toArray, List.set_cons_zero, List.set_cons_succ]
  refine till_at 15 81 (.pointer (some ⟨b5, 14, none⟩)) inv rfl rfl (by decide) (by decide +kernel) (by decide +kernel) (fun _ _ _ h => h) (hS0) (Or.inl ⟨by rfl, fun w' hS' => by go_simp⟩) (fun inv' => ?_)
  clear inv; have inv := inv'; clear inv'
  simp only [List.setIfInBounds_toArray, List.set_cons_zero, List.set_cons_succ]
  refine till_tail (i := 16) (by decide +kernel) (by decide) rfl (fun K hK => ?_)
  rw [if_pos (by rfl)]
  refine wp_store_mid 33 (.tmp 81) (.tmp 80) rfl b5 14 #[.bool true, .int .u64 (F : Nat), .int .u64 (TO : Nat), .bool bk, .int .i64 md, .int .u64 (ht : Nat), .int .u64 0, .int .i64 ao, .int .i64 az, .bool false, .int .u64 0, .string ⟨#[]⟩] rfl rfl (fun j hj => bx_there (W := Wa.drew) BA.out (14 + j) (by have : j < 12 := hj; omega)) (by kernel_rfl) (by simp [Value.oneCell']) ?_
  refine hK.out _ _ ?_
  clear hK K inv
  try simp only [Act.put, List.setIfInBounds_toArray, List.set_cons_zero, List.set_cons_succ]
  refine till_done (by decide +kernel) ?_ _
  refine NoPanic.normal ?_
  have Bb : Hid (Bx (Wa.drew.setCells b5 14 [.bool true, .int .u64 (F : Nat), .int .u64 (TO : Nat), .bool bk, .int .i64 md, .int .u64 (ht : Nat), .int .u64 0, .int .i64 ao, .int .i64 az, .bool false, .int .u64 0, .string ⟨#[]⟩]) b5 (bgM m F TO ao az md bk ht m.gn p1 c1 (some ⟨g2, 0, none⟩) k2 p3 c3 p4 c4)) := bx_rot (W := Wa.drew) BA.out rfl
  have sB : Stay b5 Wa (Wa.drew.setCells b5 14 [.bool true, .int .u64 (F : Nat), .int .u64 (TO : Nat), .bool bk, .int .i64 md, .int .u64 (ht : Nat), .int .u64 0, .int .i64 ao, .int .i64 az, .bool false, .int .u64 0, .string ⟨#[]⟩]) := (Stay.of hS0).trans (setCells_stay b5 _ 14 Wa.drew)
  have Fb : Hid (Bg5 w (Wa.drew.setCells b5 14 [.bool true, .int .u64 (F : Nat), .int .u64 (TO : Nat), .bool bk, .int .i64 md, .int .u64 (ht : Nat), .int .u64 0, .int .i64 ao, .int .i64 az, .bool false, .int .u64 0, .string ⟨#[]⟩]) m to ao az cs md bk ht) := FA.out.stay sB HB.out.1
  have Rb : Hid (R4 B (Wa.drew.setCells b5 14 [.bool true, .int .u64 (F : Nat), .int .u64 (TO : Nat), .bool bk, .int .i64 md, .int .u64 (ht : Nat), .int .u64 0, .int .i64 ao, .int .i64 az, .bool false, .int .u64 0, .string ⟨#[]⟩]) (.slice p1 m.sn c1) (.slice (some ⟨g2, 0, none⟩) (m.en + 1) k2) (.slice p3 m.gn c3) (.slice p4 m.tn c4) m.sn (m.en + 1) m.gn m.tn (SL.flatMap sloL) (EL.flatMap epoL ++ [to].flatMap epoL) (GL.flatMap sgZ) (T'.flatMap tkL)) := RA.out.stay sB (fun he h => own_bx BA.out he h)
  have Tb : Hid (TkO B w8 (Wa.drew.setCells b5 14 [.bool true, .int .u64 (F : Nat), .int .u64 (TO : Nat), .bool bk, .int .i64 md, .int .u64 (ht : Nat), .int .u64 0, .int .i64 ao, .int .i64 az, .bool false, .int .u64 0, .string ⟨#[]⟩]) T' T) := TA.out.grown (grown_of_stay sB) (fun zs x h => .inr (own_bx BA.out (by decide) h))
  clear l13 lF lT l2 l1 l3 la0 la1 hS0 sB RA TA FA BA HBa
  generalize Wa.drew.setCells b5 14 [.bool true, .int .u64 (F : Nat), .int .u64 (TO : Nat), .bool bk, .int .i64 md, .int .u64 (ht : Nat), .int .u64 0, .int .i64 ao, .int .i64 az, .bool false, .int .u64 0, .string ⟨#[]⟩] = Wb at *
  go_upto_region 10 with fail
  have lrs : ∀ u, Below Wb.heap.size Wb u → u.rangeAt w.heap.size 4 [.int .i64 m.U, .int .u64 m.C, .int .i64 m.H, .int .i64 m.K] := fun u hu j v hj => (Fb.out.bx.below hu).c (4 + j) v (by
    match j, hj with
    | 0, hj => exact hj
    | 1, hj => exact hj
    | 2, hj => exact hj
    | 3, hj => exact hj
    | n + 4, hj => simp at hj)
  have lro : ∀ u, Below Wb.heap.size Wb u → u.rangeAt b5 14 (roM (bgM m F TO ao az md bk ht m.gn p1 c1 (some ⟨g2, 0, none⟩) k2 p3 c3 p4 c4)).toList := fun u hu j v hj => (Bb.out.below hu).c (14 + j) v (by
    match j, hj with
    | 0, hj => exact hj
    | 1, hj => exact hj
    | 2, hj => exact hj
    | 3, hj => exact hj
    | 4, hj => exact hj
    | 5, hj => exact hj
    | 6, hj => exact hj
    | 7, hj => exact hj
    | 8, hj => exact hj
    | 9, hj => exact hj
    | 10, hj => exact hj
    | 11, hj => exact hj
    | n + 12, hj => simp at hj)
  have HSe : Hid (∀ u, Calls Try.prog 24 #[.int .u64 (secs m : Nat), .agg (roM (bgM m F TO ao az md bk ht m.gn p1 c1 (some ⟨g2, 0, none⟩) k2 p3 c3 p4 c4))] u fun e w' => ∃ g, e = .returned (.func (.func 53) #[] #[.pointer (some ⟨g, 0, none⟩)]) ∧ Sx.Two w' g (Sx.segX (secs m) (rM (bgM m F TO ao az md bk ht m.gn p1 c1 (some ⟨g2, 0, none⟩) k2 p3 c3 p4 c4))) (Sx.segY (secs m) (rM (bgM m F TO ao az md bk ht m.gn p1 c1 (some ⟨g2, 0, none⟩) k2 p3 c3 p4 c4))) ∧ Below u.heap.size u w') := fun u => Sx.segments_ok (secs m) (rM (bgM m F TO ao az md bk ht m.gn p1 c1 (some ⟨g2, 0, none⟩) k2 p3 c3 p4 c4)) HN.out.2 (Nat.zero_le _) u
  have kb : Hid (Sx.kept [Sx.segX (secs m) (rM (bgM m F TO ao az md bk ht m.gn p1 c1 (some ⟨g2, 0, none⟩) k2 p3 c3 p4 c4)), Sx.segY (secs m) (rM (bgM m F TO ao az md bk ht m.gn p1 c1 (some ⟨g2, 0, none⟩) k2 p3 c3 p4 c4))] = [((0, secs m, F) : Sx.Sg)]) := kept_bg _ F TO _ HN.out.1 rfl rfl rfl
  obtain ⟨sx, hsx⟩ : ∃ sx, Hid (sx = Sx.segX (secs m) (rM (bgM m F TO ao az md bk ht m.gn p1 c1 (some ⟨g2, 0, none⟩) k2 p3 c3 p4 c4))) := ⟨_, rfl⟩
  obtain ⟨sy, hsy⟩ : ∃ sy, Hid (sy = Sx.segY (secs m) (rM (bgM m F TO ao az md bk ht m.gn p1 c1 (some ⟨g2, 0, none⟩) k2 p3 c3 p4 c4))) := ⟨_, rfl⟩
  rw [← hsx.out, ← hsy.out] at HSe kb
  obtain ⟨RO, hRO⟩ : ∃ RO, Hid (RO = roM (bgM m F TO ao az md bk ht m.gn p1 c1 (some ⟨g2, 0, none⟩) k2 p3 c3 p4 c4)) := ⟨_, rfl⟩
  rw [← hRO.out] at HSe lro
  have hROl : Hid (RO.toList.length = 12) := by show _ = _; rw [hRO.out]; rfl
  have hS0 : Below Wb.heap.size Wb Wb.drew := (Below.refl _ _).drew
  refine wp_region_noPanic ?_
  refine wp_region_till (fun u => Below Wb.heap.size Wb u) 8 (by kernel_rfl) (by decide) (by decide +kernel) (by decide +kernel) (by decide +kernel) (fun inv => ?_)
  refine till_at 0 82 (.pointer (some ⟨w.heap.size, 4, none⟩)) inv rfl rfl (by decide) (by decide +kernel) (by decide +kernel) (fun _ _ _ h => h) (hS0) (Or.inl ⟨by rfl, fun w' hS' => by go_simp⟩) (fun inv' => ?_)
  clear inv; have inv := inv'; clear inv'
  simp only [List.setIfInBounds_toArray, List.set_cons_zero, List.set_cons_succ]
  refine till_at 1 83 (.agg #[.int .i64 m.U, .int .u64 m.C, .int .i64 m.H, .int .i64 m.K]) inv rfl rfl (by decide) (by decide +kernel) (by decide +kernel) (fun _ _ _ h => h) (hS0) (yieldsIf_load_mid (by rfl) 24 (.tmp 82) rfl w.heap.size 4 rfl [.int .i64 m.U, .int .u64 m.C, .int .i64 m.H, .int .i64 m.K] _ lrs Try.underlying24 rfl (by kernel_rfl)) (fun inv' => ?_)
  clear inv; have inv := inv'; clear inv'
  simp only [List.setIfInBounds_toArray, List.set_cons_zero, List.set_cons_succ]
  refine till_at 3 85 (.pointer (some ⟨b5, 14, none⟩)) inv rfl rfl (by decide) (by decide +kernel) (by decide +kernel) (fun _ _ _ h => h) (hS0) (Or.inl ⟨by rfl, fun w' hS' => by go_simp⟩) (fun inv' => ?_)
  clear inv; have inv := inv'; clear inv'
  simp only [List.setIfInBounds_toArray, List.set_cons_zero, List.set_cons_succ]
  refine till_at 4 86 (.agg RO.toList.toArray) inv rfl rfl (by decide) (by decide +kernel) (by decide +kernel) (fun _ _ _ h => h) (hS0) (yieldsIf_load_mid (by rfl) 33 (.tmp 85) rfl b5 14 rfl RO.toList _ lro Try.underlying33 rfl (by rw [hROl.out]; kernel_rfl)) (fun inv' => ?_)
  clear inv; have inv := inv'; clear inv'
  simp only [List.setIfInBounds_toArray, List.set_cons_zero, List.set_cons_succ]
  have eRO : RO.toList.toArray = RO := by simp
  rw [eRO]
  refine till_head (i := 2) inv (by decide +kernel) (by decide) rfl (fun K hK => ?_)
  go_simp
  refine (HSec.out _).mono ?_
  intro e1 q1 hh
  obtain ⟨he, hq1⟩ := hh.out
  subst he
  clear hh
  have hS1 : Below Wb.heap.size Wb q1 := (hS0).trans (hq1.mono (hS0).size)
  go_wp2_with fail
  refine hK.out _ _ hS1 (fun inv' => ?_)
  clear hK K inv; have inv := inv'; clear inv'
  try simp only [List.setIfInBounds_toArray, List.set_cons_zero, List.set_cons_succ]
  refine till_head (i := 5) inv (by decide +kernel) (by decide) rfl (fun K hK => ?_)
  go_simp
  refine (HSe.out _).mono ?_
  rintro e1 q2 ⟨gg, rfl, hTwo, hq2⟩
  have hS2 : Below Wb.heap.size Wb q2 := (hS1).trans (hq2.mono (hS1).size)
  go_wp2_with fail
  refine hK.out _ _ hS2 (fun inv' => ?_)
  clear hK K inv; have inv := inv'; clear inv'
  try simp only [List.setIfInBounds_toArray, List.set_cons_zero, List.set_cons_succ]
  refine till_head (i := 6) inv (by decide +kernel) (by decide) rfl (fun K hK => ?_)
  go_simp
  refine (Sx.listed_ok gg sx sy q2 hTwo.lt hTwo.c0 hTwo.c1 hTwo.c2 hTwo.c3 hTwo.c4 hTwo.c5).mono ?_
  rintro e1 q3 ⟨v3, rfl, ho3, _, hq3⟩
  have hS3 : Below Wb.heap.size Wb q3 := (hS2).trans (hq3.mono (hS2).size)
  rw [kb.out] at ho3
  have ho4 : q3.ownsRow q2.heap.size 65 3 v3 1 ([((0, (secs m : Int), (F : Int)) : Int × Int × Int)].flatMap sgZ) := ho3
  obtain ⟨p5, c5, rfl⟩ := own_form ho4
  clear ho3 hTwo
  go_wp2_with fail
  refine hK.out _ _ hS3 (fun inv' => ?_)
  clear hK K inv; have inv := inv'; clear inv'
  try simp only [List.setIfInBounds_toArray, List.set_cons_zero, List.set_cons_succ]
  refine till_at 7 89 (.pointer (some ⟨b5, 13, none⟩)) inv rfl rfl (by decide) (by decide +kernel) (by decide +kernel) (fun _ _ _ h => h) (hS3) (Or.inl ⟨by rfl, fun w' hS' => by go_simp⟩) (fun inv' => ?_)
  clear inv; have inv := inv'; clear inv'
  simp only [List.setIfInBounds_toArray, List.set_cons_zero, List.set_cons_succ]
  have c13 := (Bb.out.below hS3).c 13 (.slice p3 m.gn c3) rfl
  have f13 := frozen_bx (o := 13) (Bb.out.below hS3)
  refine till_tail (i := 8) (by decide +kernel) (by decide) rfl (fun K hK => ?_)
  go_simp
  refine hK.out _ _ ?_
  clear hK K inv c13 f13
  try simp only [Act.put, List.setIfInBounds_toArray, List.set_cons_zero, List.set_cons_succ]
  refine till_done (by decide +kernel) ?_ _
  refine NoPanic.normal ?_
  have hBq : B ≤ q2.heap.size := by
    have q := Rb.out.o2.lt g2 rfl
    have := hS2.size
    omega
  have sC : Stay b5 q3 (q3.setCell ⟨b5, 13, none⟩ (.slice p5 1 c5)) := (Stay.refl _ _).set _ _
  have B3 := Bb.out.below hS3
  have Bf : Hid (Bx (q3.setCell ⟨b5, 13, none⟩ (.slice p5 1 c5)) b5 (bgM m F TO ao az md bk ht 1 p1 c1 (some ⟨g2, 0, none⟩) k2 p5 c5 p4 c4)) := bx_set B3 rfl
  have Ff : Hid (Bg5 w (q3.setCell ⟨b5, 13, none⟩ (.slice p5 1 c5)) m to ao az cs md bk ht) := (Fb.out.below hS3).stay sC HB.out.1
  have R3 := Rb.out.below hS3
  have oN : q3.ownsRow B 65 3 (.slice p5 1 c5) 1 ([((0, (secs m : Int), (F : Int)) : Int × Int × Int)].flatMap sgZ) := ownsRow_below ho4 hBq
  have Rf : Hid (R4 B (q3.setCell ⟨b5, 13, none⟩ (.slice p5 1 c5)) (.slice p1 m.sn c1) (.slice (some ⟨g2, 0, none⟩) (m.en + 1) k2) (.slice p5 1 c5) (.slice p4 m.tn c4) m.sn (m.en + 1) 1 m.tn (SL.flatMap sloL) (EL.flatMap epoL ++ [to].flatMap epoL) ([((0, (secs m : Int), (F : Int)) : Int × Int × Int)].flatMap sgZ) (T'.flatMap tkL)) := (R4.mk R3.o1 R3.o2 oN R3.o4).stay sC (fun he h => own_bx B3 he h)
  have Tf : Hid (TkO B w8 (q3.setCell ⟨b5, 13, none⟩ (.slice p5 1 c5)) T' T) := (Tb.out.below hS3).grown (grown_of_stay sC) (fun zs x h => .inr (own_bx B3 (by decide) h))
  clear Bb Fb Rb Tb B3 R3 oN sC hS0 hS1 hS2 hS3 ho4 hBq lrs lro HSe HSec kb
  generalize q3.setCell ⟨b5, 13, none⟩ (.slice p5 1 c5) = Wf at *
  have R9 : Hid (Wf.rangeAt b5 0 (mtC (bgM m F TO ao az md bk ht 1 p1 c1 (some ⟨g2, 0, none⟩) k2 p5 c5 p4 c4)).toList) := Bf.out.range
  go_upto_region 99 with (first | (refine wpList_load_mid (by rfl) 36 (.tmp 10) (by rfl) b5 0 (by rfl) (mtC (bgM m F TO ao az md bk ht 1 p1 c1 (some ⟨g2, 0, none⟩) k2 p5 c5 p4 c4)).toList _ R9.out Try.underlying36 rfl (size36 _) ?_) | (refine wpList_store_box (by rfl) (.tmp 8) (.tmp 90) (by rfl) (bgM m F TO ao az md bk ht 1 p1 c1 (some ⟨g2, 0, none⟩) k2 p5 c5 p4 c4) (w.heap.size + 4) mt0 (by rfl) (by rfl) Ff.out.rs rfl ?_; intro WF bnF stF))
  refine bodyPost_ret (results_cell_two (P := Try.prog) (p := 8) (u := 9) (ty := 36) rfl _ WF (w.heap.size + 4) 36 (mtC (bgM m F TO ao az md bk ht 1 p1 c1 (some ⟨g2, 0, none⟩) k2 p5 c5 p4 c4)) (0, 0) _ rfl bnF Try.underlying36 rfl (by rw [info36s]; rfl)) rfl ?_
  show BgS w.heap.size w m SL EL T to F TO ao az md bk ht _ WF
  have nb : ∀ {e sz n : Nat} {v : Value} {xs : List Value}, Wf.ownsRow B e sz v n xs → v.ownBlock ≠ some (w.heap.size + 4) := fun ho => own_ne ho (by have := HB.out.2.1; omega)
  have bF : Below w.heap.size w WF := Ff.out.bel.trans (stF.below (by omega) (by have := Ff.out.sz; omega))
  have RF := Rf.out.stay stF (fun _ h => nb h)
  have hBw : w.heap.size ≤ B := by have := HB.out.2.1; omega
  have TF := (Tf.out.grown (grown_of_stay stF) (fun zs x h => .inr (nb h))).back hBw HB.out.2.2.2.block (fun i x hx => (tL.out i x hx).2)
  refine ⟨p1, c1, some ⟨g2, 0, none⟩, k2, p5, c5, p4, c4, T', rfl, ⟨ownsRow_below RF.o1 hBw, ?_, ownsRow_below RF.o3 hBw, ownsRow_below RF.o4 hBw⟩, HL.out.1, TF, HL.out.2, bF⟩
  rw [List.flatMap_append]
  exact ownsRow_below RF.o2 hBw
end Go.Proofs.Ytmfnhdflmnmooaa
