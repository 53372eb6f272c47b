import Derived.Test.YtmfnhdflmnmooaaBgg
import Derived.Test.YtmfnhdflmnmooaaPart05
import Derived.Test.YtmfnhdflmnmooaaBgh
namespace Go.Proofs.Ytmfnhdflmnmooaa
open Go.RowKit
set_option linter.unusedVariables false
set_option linter.unusedSimpArgs false
/-- What the reference's Begin answers of a rotation that may begin. -/
def BgT (B : Nat) (w : World) (m : Mt) (SL : List Slo) (EL : List Epo) (T : List Tk) (to : Epo) (F TO : Nat) (ao az md : Int) (bk : Bool) (ht : Nat) (e : Ending) (w' : World) : Prop := ∃ (p1 : Option Addr) (c1 : Nat) (p2 : Option Addr) (c2 : Nat) (p3 : Option Addr) (c3 : Nat) (p4 : Option Addr) (c4 : Nat) (T' : List Tk), e = .returned (.tuple #[.agg (mtC (bgM m F TO ao az md bk ht 1 p1 c1 p2 c2 p3 c3 p4 c4)), .int .i64 0]) ∧ R4 B w' (.slice p1 m.sn c1) (.slice p2 (m.en + 1) c2) (.slice p3 1 c3) (.slice p4 m.tn c4) m.sn (m.en + 1) 1 m.tn (SL.flatMap sloL) ((EL ++ [to]).flatMap epoL) ([((0, (secs m : Int), (F : Int)) : Int × Int × Int)].flatMap sgZ) (T'.flatMap tkL) ∧ T'.length = m.tn ∧ TkO B w w' T' T ∧ Below w.heap.size w w'
set_option maxHeartbeats 16000000 in
set_option maxRecDepth 100000 in
theorem rbegin_11 (m : Mt) (hot : Nat) (SL : List Slo) (EL : List Epo) (GL : List (Int × Int × Int)) (T : List Tk) (to : Epo) (F TO : Nat) (ao az : Int) (cs : ByteArray) (md : Int) (bk : Bool) (ht : Nat) (hz9 : az ≤ 9223372036854775807) (w : World) (O : Hid (MtO w m hot SL EL GL T)) (hto : to.n = (TO : Int)) (tL : Hid (∀ (i : Nat) (x : Tk), T[i]? = some x → x.l * 8 ≤ 140737488355328 ∧ ∃ zs, View w (.slice x.p x.l x.c) zs)) (hF : (GL.getD 0 (0, 0, 0)).2.2 = (F : Int)) (h1 : mayB m.U m.C m.H m.K = true) (h2 : ¬ m.en = 0) (h3 : m.on = false) (h4 : areaB m.U m.H m.K ao az md ht = true) (h6 : to.a.toList = cs.toList) (hg : m.gn = 1) (h5 : ¬ hasB EL to.n m.en) (hs0 : (GL.getD 0 (0, 0, 0)).1 = 0) (hs1 : (GL.getD 0 (0, 0, 0)).2.1 = (secs m : Int)) (he : epN EL (GL.getD 0 (0, 0, 0)).2.2 m.en = 1) : Calls Try.prog 8 #[.agg (mtC m), .agg (epA to), .agg #[.int .i64 ao, .int .i64 az], .agg (tuA cs md bk ht)] w fun e w' => BgT w.heap.size w m SL EL T to F TO ao az md bk ht e w' := by
  have HM : Hid (∀ u, Calls Try.prog 26 #[.agg #[.int .i64 m.U, .int .u64 m.C, .int .i64 m.H, .int .i64 m.K]] u fun e w' => Hid (e = .returned (.bool true) ∧ Below u.heap.size u w')) := fun u => by
    have q := shaped_ok m.U m.C m.H m.K O.out.hC O.out.hC9 u
    rw [h1] at q
    exact q
  obtain ⟨qu, qh, k4, k2, _, qc, qlt⟩ := mayB_all h1
  have hr := headB_range qh
  have hH1 : 0 ≤ m.H := by omega
  have hH2 : m.H ≤ 4194304 := hr.2
  have k1 : 0 ≤ m.K := by omega
  have qe : ((m.en : Int) == 0) = false := by simp; omega
  have h3' : Hid (m.on = false) := h3
  have HAr : Hid (∀ u, Calls Try.prog 27 #[.agg #[.int .i64 m.U, .int .u64 m.C, .int .i64 m.H, .int .i64 m.K], .agg #[.int .i64 ao, .int .i64 az], .int .i64 md, .int .u64 (ht : Nat)] u fun e w' => Hid (e = .returned (.bool true) ∧ Below u.heap.size u w')) := fun u => by
    have q := rarea_ok m.U m.C m.H m.K ao az md ht u hH1 hH2 k1 k2 hz9
    rw [h4] at q
    exact q
  have qg : ((m.gn : Int) == 1) = true := by simp; omega
  have qg2 : ((m.gn : Int) != 1) = false := by simp; omega
  have HTO : Hid (to.n = (TO : Int)) := hto
  clear hto
  obtain ⟨n1, n2, n3⟩ := secs_of h1
  have HSec : Hid (∀ u, Calls Try.prog 28 #[.agg #[.int .i64 m.U, .int .u64 m.C, .int .i64 m.H, .int .i64 m.K]] u fun e w' => Hid (e = .returned (.int .u64 (secs m : Nat)) ∧ Below u.heap.size u w')) := fun u => by
    have q := rsize_ok m.U m.C m.H m.K u qu hH1 hH2 k1 k2 (by omega) qc
    rw [n1] at q
    exact q
  have HN : Hid (1 ≤ secs m ∧ secs m ≤ 4294967296) := ⟨n2, n3⟩
  clear n1 n2 n3
  obtain ⟨s, hs⟩ : ∃ s, Hid (s = GL.getD 0 (0, 0, 0)) := ⟨_, rfl⟩
  obtain ⟨G, Og, hpG, z0, z1, z2⟩ : ∃ G Og, m.gp = some ⟨G, Og, none⟩ ∧ w.cell? ⟨G, Og, none⟩ = some (.int .u64 s.1) ∧ w.cell? ⟨G, Og + 1, none⟩ = some (.int .u64 s.2.1) ∧ w.cell? ⟨G, Og + 2, none⟩ = some (.int .u64 s.2.2) := by
    obtain ⟨x, hx⟩ : ∃ x, GL[0]? = some x := ⟨GL[0]'(by have := O.out.hgn; omega), List.getElem?_eq_getElem _⟩
    obtain ⟨b, off, hp, _, hc⟩ := O.out.g1.get hx
    have e : s = x := by rw [hs.out, List.getD_eq_getElem?_getD, hx]; rfl
    rw [e]
    refine ⟨b, off, hp, ?_, ?_, ?_⟩
    · have q := hc 0 _ rfl; simpa using q
    · have q := hc 1 _ rfl; simpa using q
    · have q := hc 2 _ rfl; simpa using q
  have HG : Hid (m.gp = some ⟨G, Og, none⟩ ∧ m.gn = 1) := ⟨hpG, hg⟩
  have HZ : Hid (w.cell? ⟨G, Og, none⟩ = some (.int .u64 s.1) ∧ w.cell? ⟨G, Og + 1, none⟩ = some (.int .u64 s.2.1) ∧ w.cell? ⟨G, Og + 2, none⟩ = some (.int .u64 s.2.2)) := ⟨z0, z1, z2⟩
  clear hpG z0 z1 z2
  rw [← hs.out] at hs0 hs1 he hF
  have r0 : (s.1 == 0) = true := by simpa using hs0
  have r0' : (s.1 != 0) = false := by simpa using hs0
  have r1 : (s.2.1 == (secs m : Int)) = true := by simpa using hs1
  have r1' : (s.2.1 != (secs m : Int)) = false := by simpa using hs1
  obtain ⟨x1, hx1⟩ : ∃ x1, Hid (x1 = epN EL s.2.2 m.en) := ⟨_, rfl⟩
  have HEp : Hid (∀ u, Below w.heap.size w u → Calls Try.prog 29 #[.agg (mtC m), .int .u64 s.2.2] u fun e w' => Hid (e = .returned (.int .i64 (x1 : Nat)) ∧ Below u.heap.size u w')) := fun u hu => by
    rw [hx1.out]
    exact epochs_ok m EL s.2.2 O.out.hen (by have := O.out.y2; omega) u (O.out.e1.below hu)
  rw [← hx1.out] at he
  subst he
  have HsF : Hid (s.2.2 = (F : Int)) := hF
  clear hF
  clear hs0 hs1
  have H5 : Hid (¬ hasB EL to.n m.en) := h5
  clear h5 h1 h2 h3 h4 hH1 hH2 k1 k2 k4 qu qh qc qlt hr hg
  have F0 : Hid (Bg5 w (((((w.alloc (.cells (mtC m) 36)).alloc (.cells (epA to) 38)).alloc (.cells #[.int .i64 ao, .int .i64 az] 31)).alloc (.cells (tuA cs md bk ht) 40)).alloc (.cells mt0 36)) m to ao az cs md bk ht) := five_new w m to ao az cs md bk ht
  go_enter Try.func8, Try.ntmps8
  go_upto_region 1 with fail
  generalize (((((w.alloc (.cells (mtC m) 36)).alloc (.cells (epA to) 38)).alloc (.cells #[.int .i64 ao, .int .i64 az] 31)).alloc (.cells (tuA cs md bk ht) 40)).alloc (.cells mt0 36)) = w0 at F0 ⊢
  have y4 := F0.out.bx.c 4 (.int .i64 m.U) rfl
  have y5 := F0.out.bx.c 5 (.int .u64 m.C) rfl
  have y6 := F0.out.bx.c 6 (.int .i64 m.H) rfl
  have y7 := F0.out.bx.c 7 (.int .i64 m.K) rfl
  have y12 := F0.out.bx.c 12 (.slice m.ep m.en m.ec) rfl
  have y13 := F0.out.bx.c 13 (.slice m.gp m.gn m.gc) rfl
  have y14 : w0.cell? ⟨w.heap.size, 14, none⟩ = some (.bool false) := (by have q := F0.out.bx.c 14 (.bool m.on) rfl; rw [h3'.out] at q; exact q)
  have t0 := F0.out.te0 0 (.int .u64 to.n) rfl
  have t1 := F0.out.te0 1 (.string to.a) rfl
  have t2 := F0.out.te0 2 (.string to.b) rfl
  have t3 := F0.out.te0 3 (.string to.c) rfl
  have t4 := F0.out.te0 4 (.string to.d) rfl
  have a0 := F0.out.ar0 0 (.int .i64 ao) rfl
  have a1 := F0.out.ar0 1 (.int .i64 az) rfl
  have u0 := F0.out.tu0 0 (.string cs) rfl
  have u1 := F0.out.tu0 1 (.int .i64 md) rfl
  have u2 := F0.out.tu0 2 (.bool bk) rfl
  have u3 := F0.out.tu0 3 (.int .u64 (ht : Nat)) rfl
  go_upto_region 8 with (first | (go_at_call 26; refine (HM.out _).mono ?_; intro e5 w5 hh5; obtain ⟨he5, hb5⟩ := hh5.out; subst he5; have F5 := F0.out.below hb5; have y4 := F5.bx.c 4 (.int .i64 m.U) rfl; have y5 := F5.bx.c 5 (.int .u64 m.C) rfl; have y6 := F5.bx.c 6 (.int .i64 m.H) rfl; have y7 := F5.bx.c 7 (.int .i64 m.K) rfl; have y12 := F5.bx.c 12 (.slice m.ep m.en m.ec) rfl; have y13 := F5.bx.c 13 (.slice m.gp m.gn m.gc) rfl; have y14 : w5.cell? ⟨w.heap.size, 14, none⟩ = some (.bool false) := (by have q := F5.bx.c 14 (.bool m.on) rfl; rw [h3'.out] at q; exact q); have t0 := F5.te0 0 (.int .u64 to.n) rfl; have t1 := F5.te0 1 (.string to.a) rfl; have t2 := F5.te0 2 (.string to.b) rfl; have t3 := F5.te0 3 (.string to.c) rfl; have t4 := F5.te0 4 (.string to.d) rfl; have a0 := F5.ar0 0 (.int .i64 ao) rfl; have a1 := F5.ar0 1 (.int .i64 az) rfl; have u0 := F5.tu0 0 (.string cs) rfl; have u1 := F5.tu0 1 (.int .i64 md) rfl; have u2 := F5.tu0 2 (.bool bk) rfl; have u3 := F5.tu0 3 (.int .u64 (ht : Nat)) rfl) | (go_at_call 27; refine (HAr.out _).mono ?_; intro e6 w6 hh6; obtain ⟨he6, hb6⟩ := hh6.out; subst he6; have F6 := F5.below hb6; have y4 := F6.bx.c 4 (.int .i64 m.U) rfl; have y5 := F6.bx.c 5 (.int .u64 m.C) rfl; have y6 := F6.bx.c 6 (.int .i64 m.H) rfl; have y7 := F6.bx.c 7 (.int .i64 m.K) rfl; have y12 := F6.bx.c 12 (.slice m.ep m.en m.ec) rfl; have y13 := F6.bx.c 13 (.slice m.gp m.gn m.gc) rfl; have y14 : w6.cell? ⟨w.heap.size, 14, none⟩ = some (.bool false) := (by have q := F6.bx.c 14 (.bool m.on) rfl; rw [h3'.out] at q; exact q); have t0 := F6.te0 0 (.int .u64 to.n) rfl; have t1 := F6.te0 1 (.string to.a) rfl; have t2 := F6.te0 2 (.string to.b) rfl; have t3 := F6.te0 3 (.string to.c) rfl; have t4 := F6.te0 4 (.string to.d) rfl; have a0 := F6.ar0 0 (.int .i64 ao) rfl; have a1 := F6.ar0 1 (.int .i64 az) rfl; have u0 := F6.tu0 0 (.string cs) rfl; have u1 := F6.tu0 1 (.int .i64 md) rfl; have u2 := F6.tu0 2 (.bool bk) rfl; have u3 := F6.tu0 3 (.int .u64 (ht : Nat)) rfl))
  have FH : Hid (Bg5 w w6 m to ao az cs md bk ht) := F6
  clear F0 F5 F6 hb5 hb6 hh5 hh6 HM HAr qe h3' h6 qg qg2
  clear y4 y5 y6 y7 y12 y13 y14 t0 t1 t2 t3 t4 a0 a1 u0 u1 u2 u3
  clear y4 y5 y6 y7 y12 y13 y14 t0 t1 t2 t3 t4 a0 a1 u0 u1 u2 u3
  clear y4 y5 y6 y7 y12 y13 y14 t0 t1 t2 t3 t4 a0 a1 u0 u1 u2 u3
  have hnb : m.en ≤ 1000000000000000 := by have := O.out.y2; omega
  go_loopw [10] (fun i wr => ∃ k : Nat, k ≤ m.en ∧ i = .int .i64 k ∧ Hid (¬ hasB EL to.n k ∧ Bg5 w wr m to ao az cs md bk ht)) (fun i _ => m.en - (intOf i).toNat)
  case atStart => exact ⟨0, Nat.zero_le _, rfl, fun ⟨i, x, h, _⟩ => by omega, FH.out⟩
  case round =>
    obtain ⟨k, hk, rfl, HR⟩ := hrel
    clear FH
    have y12 := HR.out.2.bx.c 12 (.slice m.ep m.en m.ec) rfl
    by_cases hlt : k < m.en
    · obtain ⟨x, hx⟩ : ∃ x, EL[k]? = some x := ⟨EL[k]'(by have := O.out.hen; omega), List.getElem?_eq_getElem _⟩
      obtain ⟨ba, oa, hpa, hba, ca⟩ := (O.out.e1.below HR.out.2.bel).get hx
      rw [hpa] at y12
      have a0 : wr.cell? ⟨ba, oa + k * 5, none⟩ = some (.int .u64 x.n) := by have := ca 0 _ rfl; simpa using this
      have t0 := HR.out.2.te0 0 (.int .u64 to.n) rfl
      by_cases hq : to.n ≤ x.n
      · have HN5 : Hid (hasB EL to.n m.en) := ⟨k, x, hlt, hx, hq⟩
        exact absurd HN5.out H5.out
      · have HN6 : Hid (¬ hasB EL to.n (k + 1)) := fun ⟨i, y, hi, hy, hty⟩ => by
          by_cases c : i = k
          · subst c
            rw [hx] at hy
            cases hy
            exact hq hty
          · exact HR.out.1 ⟨i, y, by omega, hy, hty⟩
        have d0 : decide (to.n ≤ x.n) = false := by simpa using hq
        clear hx ca hq hpa
        go_wp2
        go_quiet (fail)
        go_wp2
        go_roundw
        case rel => exact ⟨k + 1, by omega, by go_num, HN6.out, HR.out.2.below (below_drewN _ _)⟩
        case measure => simp [intOf]; omega
    · have hkm : k = m.en := by omega
      have hnd : decide ((k : Int) < (m.en : Int)) = false := by simp; omega
      have FH : Hid (Bg5 w wr m to ao az cs md bk ht) := HR.out.2
      clear HR hkm
      go_upto_region 12 with fail
      have y13 : wr.cell? ⟨w.heap.size, 13, none⟩ = some (.slice (some ⟨G, Og, none⟩) 1 m.gc) := by
        have q := FH.out.bx.c 13 (.slice m.gp m.gn m.gc) rfl
        rw [HG.out.1, HG.out.2] at q
        exact q
      have v0 := cell_below FH.out.bel HZ.out.1
      have v1 := cell_below FH.out.bel HZ.out.2.1
      have v2 := cell_below FH.out.bel HZ.out.2.2
      go_upto_region 13 with fail
      clear y12 y13 v0 v1 v2 hnd
      have b1 : Below wr.heap.size wr (wr.alloc (.cells #[.int .u64 s.1, .int .u64 s.2.1, .int .u64 s.2.2] 65)) := below_alloc1 _ _
      have BS : Hid ((wr.alloc (.cells #[.int .u64 s.1, .int .u64 s.2.1, .int .u64 s.2.2] 65)).heap[wr.heap.size]? = some (.cells #[.int .u64 s.1, .int .u64 s.2.1, .int .u64 s.2.2] 65 (0, 0))) := World.alloc_heap_new wr _
      have F1 : Hid (Bg5 w (wr.alloc (.cells #[.int .u64 s.1, .int .u64 s.2.1, .int .u64 s.2.2] 65)) m to ao az cs md bk ht) := FH.out.below b1
      have HWr : Hid (w.heap.size + 5 ≤ wr.heap.size) := FH.out.sz
      generalize wr.alloc (.cells #[.int .u64 s.1, .int .u64 s.2.1, .int .u64 s.2.2] 65) = W1 at *
      have y4 := F1.out.bx.c 4 (.int .i64 m.U) rfl
      have y5 := F1.out.bx.c 5 (.int .u64 m.C) rfl
      have y6 := F1.out.bx.c 6 (.int .i64 m.H) rfl
      have y7 := F1.out.bx.c 7 (.int .i64 m.K) rfl
      go_upto_region 14 with (go_at_call 28; refine (HSec.out _).mono ?_; intro e7 W2 hh7; obtain ⟨he7, hb7⟩ := hh7.out; subst he7)
      have F2 : Hid (Bg5 w W2 m to ao az cs md bk ht) := F1.out.below hb7
      have BS2 : Hid (W2.heap[wr.heap.size]? = some (.cells #[.int .u64 s.1, .int .u64 s.2.1, .int .u64 s.2.2] 65 (0, 0))) := (hb7.block _ (Array.getElem?_eq_some_iff.1 BS.out).1).trans BS.out
      clear y4 y5 y6 y7 F1 BS hb7 hh7 b1 FH HSec
      have v0 : W2.cell? ⟨wr.heap.size, 0, none⟩ = some (.int .u64 s.1) := by rw [cell_of_row W2 wr.heap.size 0 _ 65 (0, 0) BS2.out]; rfl
      have v1 : W2.cell? ⟨wr.heap.size, 1, none⟩ = some (.int .u64 s.2.1) := by rw [cell_of_row W2 wr.heap.size 1 _ 65 (0, 0) BS2.out]; rfl
      have v2 : W2.cell? ⟨wr.heap.size, 2, none⟩ = some (.int .u64 s.2.2) := by rw [cell_of_row W2 wr.heap.size 2 _ 65 (0, 0) BS2.out]; rfl
      go_upto_region 16 with (first | (refine wpList_load_want (by rfl) 36 (.tmp 4) (by rfl) w.heap.size 0 (by rfl) (mtC m).toList _ F2.out.bx.range Try.underlying36 rfl (size36 m) ?_) | (go_at_call 29; refine (HEp.out _ F2.out.bel).mono ?_; intro e8 W3 hh8; obtain ⟨he8, hb8⟩ := hh8.out; subst he8; have F3 := F2.out.below hb8))
      have FH : Hid (Bg5 w W3 m to ao az cs md bk ht) := F3
      have BS3 : Hid (W3.heap[wr.heap.size]? = some (.cells #[.int .u64 s.1, .int .u64 s.2.1, .int .u64 s.2.2] 65 (0, 0))) := (hb8.block _ (Array.getElem?_eq_some_iff.1 BS2.out).1).trans BS2.out
      clear F2 F3 BS2 v0 v1 v2 hb8 hh8 HEp r0 r0' r1 r1'
      have HCp : Hid (Calls Try.prog 16 #[.agg (mtC m)] W3 fun e w' => CpP W3 m SL EL GL T e w') := copy_ok m SL EL GL T W3 O.out.hsn O.out.hen O.out.hgn O.out.htn O.out.y1 O.out.y2 O.out.y3 O.out.y4 O.out.z1 O.out.z2 O.out.z3 O.out.z4 (O.out.s1.below FH.out.bel) (O.out.e1.below FH.out.bel) (O.out.g1.below FH.out.bel) (O.out.t1.below FH.out.bel) (fun i x hx => by
        obtain ⟨q1, zs, q2⟩ := tL.out i x hx
        exact ⟨q1, zs, q2.kept FH.out.bel.block⟩)
      go_upto_region 17 with (first | (refine wpList_load_mid (by rfl) 36 (.tmp 4) (by rfl) w.heap.size 0 (by rfl) (mtC m).toList _ FH.out.bx.range Try.underlying36 rfl (size36 m) ?_) | (go_at_call 16; refine HCp.out.mono ?_; rintro e9 Wq ⟨G1, C1, G2, C2, G3, C3, pt, ct, T', rfl, COq, bq⟩) | (refine wpList_alloc_box (by rfl) (by rfl) ?_; intro W4 b5 hb1 hbl1 he1 hz1) | (refine wpList_store_box (by rfl) (.tmp 13) (.tmp 94) (by rfl) (cpM m G1 C1 G2 C2 G3 C3 pt m.tn ct) b5 mt0 (by rfl) (by rfl) hb1 rfl ?_; intro W bn st))
      simp only [Act.put, List.setIfInBounds_toArray, List.set_cons_zero, List.set_cons_succ]
      have hsq := bq.size
      have hF5 := FH.out.sz
      have S15 : Below Wq.heap.size Wq W := hbl1.trans (st.below (by omega) (by omega))
      have FW : Hid (Bg5 w W m to ao az cs md bk ht) := (FH.out.below bq).below S15
      have BN : Hid (Bx W b5 (cpM m G1 C1 G2 C2 G3 C3 pt m.tn ct)) := bn
      have CO := COq.below S15
      have RR : Hid (R4 (W3.heap.size + 3) W (.slice (some ⟨G1, 0, none⟩) m.sn C1) (.slice (some ⟨G2, 0, none⟩) m.en C2) (.slice (some ⟨G3, 0, none⟩) m.gn C3) (.slice pt m.tn ct) m.sn m.en m.gn m.tn (SL.flatMap sloL) (EL.flatMap epoL) (GL.flatMap sgZ) (T'.flatMap tkL)) := ⟨CO.o1, CO.o2, CO.o3, CO.o4⟩
      have TOw : Hid (TkO (W3.heap.size + 3) W3 W T' T) := CO.tk
      have HL : Hid (T'.length = m.tn) := CO.l4
      have BSw : Hid (W.heap[wr.heap.size]? = some (.cells #[.int .u64 s.1, .int .u64 s.2.1, .int .u64 s.2.2] 65 (0, 0))) := (S15.block _ (by have := (Array.getElem?_eq_some_iff.1 BS3.out).1; omega)).trans ((bq.block _ (Array.getElem?_eq_some_iff.1 BS3.out).1).trans BS3.out)
      have HB : Hid (w.heap.size + 5 ≤ b5 ∧ w.heap.size + 5 ≤ W3.heap.size + 3 ∧ W3.heap.size + 3 ≤ W.heap.size ∧ Below w.heap.size w W3 ∧ wr.heap.size < W3.heap.size) := ⟨by omega, by omega, by have q := CO.o2.lt G2 rfl; omega, FH.out.bel, (Array.getElem?_eq_some_iff.1 BS3.out).1⟩
      have hbw : Hid (wr.heap.size ≠ b5) := by have := HB.out.2.2.2.2; show _ ≠ _; omega
      clear CO COq bq hbl1 he1 hz1 hb1 bn st S15 hsq hF5 HCp W4 BS3 FH
      obtain ⟨i49, hi49, hz490, hz491, hz492⟩ := info_parts info49
      have Hi49 : Hid (_ ∧ _ ∧ _ ∧ _) := ⟨hi49, hz490, hz491, hz492⟩
      clear hi49 hz490 hz491 hz492
      have HBl : Hid (wr.heap.size < W3.heap.size + 3) := by have := HB.out.2.2.2.2; show _ < _; omega
      generalize W3.heap.size + 3 = B at *
      have c12 := BN.out.c 12 (.slice (some ⟨G2, 0, none⟩) m.en C2) rfl
      have t0 := FW.out.te0 0 (.int .u64 to.n) rfl
      have t1 := FW.out.te0 1 (.string to.a) rfl
      have t2 := FW.out.te0 2 (.string to.b) rfl
      have t3 := FW.out.te0 3 (.string to.c) rfl
      have t4 := FW.out.te0 4 (.string to.d) rfl
      have hy2 : (m.en + 2) * 72 ≤ 140737488355328 := O.out.y2
      have hBW : B ≤ W.heap.size := HB.out.2.2.1
      go_upto_region 18 with (at_builtin; go_must (refine wpList_append_in (by rfl) (.tmp 96) (.tmp 98) 28 (by rfl) 38 i49 _ 5 72 Try.underlying28 Hi49.out.1 Hi49.out.2.1 Hi49.out.2.2.1 Hi49.out.2.2.2 rfl (by decide) epoL_len epoL_one B m.en (.slice (some ⟨G2, 0, none⟩) m.en C2) (EL.flatMap epoL) rfl (RR.out.o2.alloc _) W.heap.size 0 [to] rfl rfl (rv_lit epoL_len (World.alloc_heap_new W _)) (by unfold maxLen; omega) (by omega) (by simp; omega) ?_); intro g2 k2 U ho hg hd; have BU : Bx U b5 (cpM m G1 C1 G2 C2 G3 C3 pt m.tn ct) := (hg.block b5 (Nat.lt_of_lt_of_le BN.out.lt (by simp)) (fun e => own_bx BN.out (by decide) RR.out.o2 e.symm)).trans (BN.out.below (below_alloc1 W _)); have cU := BU.c 12 (.slice (some ⟨G2, 0, none⟩) m.en C2) rfl; have fU := frozen_bx (o := 12) BU)
      clear c12 t0 t1 t2 t3 t4
      have FU : Bg5 w U m to ao az cs md bk ht := (FW.out.below (below_alloc1 W _)).grown hg (fun j e => by have := (RR.out.o2.lt j e).1; have := HB.out.2.1; omega)
      have sW : Stay b5 U (U.setCell ⟨b5, 12, none⟩ (.slice (some ⟨g2, 0, none⟩) (m.en + 1) k2)) := (Stay.refl _ _).set _ _
      have FA : Hid (Bg5 w (U.setCell ⟨b5, 12, none⟩ (.slice (some ⟨g2, 0, none⟩) (m.en + 1) k2)) m to ao az cs md bk ht) := FU.stay sW HB.out.1
      have BA : Hid (Bx (U.setCell ⟨b5, 12, none⟩ (.slice (some ⟨g2, 0, none⟩) (m.en + 1) k2)) b5 ({ (cpM m G1 C1 G2 C2 G3 C3 pt m.tn ct) with ep := some ⟨g2, 0, none⟩, en := m.en + 1, ec := k2 } : Mt)) := bx_set BU rfl
      have RU := RR.out.app2 (below_alloc1 W _) hg ho
      have RA : Hid (R4 B (U.setCell ⟨b5, 12, none⟩ (.slice (some ⟨g2, 0, none⟩) (m.en + 1) k2)) (.slice (some ⟨G1, 0, none⟩) m.sn C1) (.slice (some ⟨g2, 0, none⟩) (m.en + 1) k2) (.slice (some ⟨G3, 0, none⟩) m.gn C3) (.slice pt m.tn ct) m.sn (m.en + 1) m.gn m.tn (SL.flatMap sloL) (EL.flatMap epoL ++ [to].flatMap epoL) (GL.flatMap sgZ) (T'.flatMap tkL)) := RU.stay sW (fun he h => own_bx BU he h)
      have TU := (TOw.out.below (below_alloc1 W _)).grown hg (fun zs x h => own_apart h (own_keep RR.out.o2 (below_alloc1 W _)) (by decide))
      have TA : Hid (TkO B W3 (U.setCell ⟨b5, 12, none⟩ (.slice (some ⟨g2, 0, none⟩) (m.en + 1) k2)) T' T) := TU.grown (grown_of_stay sW) (fun zs x h => .inr (own_bx BU (by decide) h))
      have BSa : Hid ((U.setCell ⟨b5, 12, none⟩ (.slice (some ⟨g2, 0, none⟩) (m.en + 1) k2)).heap[wr.heap.size]? = some (.cells #[.int .u64 s.1, .int .u64 s.2.1, .int .u64 s.2.2] 65 (0, 0))) := (sW.block _ (by have := (Array.getElem?_eq_some_iff.1 BSw.out).1; have := hg.size; simp at this; omega) hbw.out).trans ((hg.block _ (by have := (Array.getElem?_eq_some_iff.1 BSw.out).1; simp; omega) (fun e => by have := (RR.out.o2.lt _ e.symm).1; have := HBl.out; omega)).trans (((below_alloc1 W _).block _ (Array.getElem?_eq_some_iff.1 BSw.out).1).trans BSw.out))
      clear RU TU FU sW BU cU fU ho hg hd RR TOw FW BN hBW BSw
      generalize (U.setCell ⟨b5, 12, none⟩ (.slice (some ⟨g2, 0, none⟩) (m.en + 1) k2)) = Wa at *
      clear U
      have v2 : Wa.cell? ⟨wr.heap.size, 2, none⟩ = some (.int .u64 (F : Nat)) := by rw [cell_of_row Wa wr.heap.size 2 _ 65 (0, 0) BSa.out, ← HsF.out]; rfl
      have t0 : Wa.cell? ⟨w.heap.size + 1, 0, none⟩ = some (.int .u64 (TO : Nat)) := by rw [← HTO.out]; exact FA.out.te0 0 (.int .u64 to.n) rfl
      have u2 := FA.out.tu0 2 (.bool bk) rfl
      have u1 := FA.out.tu0 1 (.int .i64 md) rfl
      have u3 := FA.out.tu0 3 (.int .u64 (ht : Nat)) rfl
      have a0 := FA.out.ar0 0 (.int .i64 ao) rfl
      have a1 := FA.out.ar0 1 (.int .i64 az) rfl
      go_upto_region 19 with (refine wpList_store_mid (by rfl) 33 (.tmp 113) (.tmp 112) (by rfl) b5 14 #[.bool true, .int .u64 (F : Nat), .int .u64 (TO : Nat), .bool bk, .int .i64 md, .int .u64 (ht : Nat), .int .u64 0, .int .i64 ao, .int .i64 az, .bool false, .int .u64 0, .string ⟨#[]⟩] (by rfl) (by rfl) (fun j hj => bx_there BA.out (14 + j) (by have : j < 12 := hj; omega)) (by kernel_rfl) (by simp [Value.oneCell']) ?_)
      try simp only [Act.put, List.setIfInBounds_toArray, List.set_cons_zero, List.set_cons_succ]
      have Bb : Hid (Bx (Wa.setCells b5 14 [.bool true, .int .u64 (F : Nat), .int .u64 (TO : Nat), .bool bk, .int .i64 md, .int .u64 (ht : Nat), .int .u64 0, .int .i64 ao, .int .i64 az, .bool false, .int .u64 0, .string ⟨#[]⟩]) b5 (bgM m F TO ao az md bk ht m.gn (some ⟨G1, 0, none⟩) C1 (some ⟨g2, 0, none⟩) k2 (some ⟨G3, 0, none⟩) C3 pt ct)) := bx_rot BA.out rfl
      have sB : Stay b5 Wa (Wa.setCells b5 14 [.bool true, .int .u64 (F : Nat), .int .u64 (TO : Nat), .bool bk, .int .i64 md, .int .u64 (ht : Nat), .int .u64 0, .int .i64 ao, .int .i64 az, .bool false, .int .u64 0, .string ⟨#[]⟩]) := setCells_stay b5 _ 14 Wa
      have Fb : Hid (Bg5 w (Wa.setCells b5 14 [.bool true, .int .u64 (F : Nat), .int .u64 (TO : Nat), .bool bk, .int .i64 md, .int .u64 (ht : Nat), .int .u64 0, .int .i64 ao, .int .i64 az, .bool false, .int .u64 0, .string ⟨#[]⟩]) m to ao az cs md bk ht) := FA.out.stay sB HB.out.1
      have Rb : Hid (R4 B (Wa.setCells b5 14 [.bool true, .int .u64 (F : Nat), .int .u64 (TO : Nat), .bool bk, .int .i64 md, .int .u64 (ht : Nat), .int .u64 0, .int .i64 ao, .int .i64 az, .bool false, .int .u64 0, .string ⟨#[]⟩]) (.slice (some ⟨G1, 0, none⟩) m.sn C1) (.slice (some ⟨g2, 0, none⟩) (m.en + 1) k2) (.slice (some ⟨G3, 0, none⟩) m.gn C3) (.slice pt m.tn ct) m.sn (m.en + 1) m.gn m.tn (SL.flatMap sloL) (EL.flatMap epoL ++ [to].flatMap epoL) (GL.flatMap sgZ) (T'.flatMap tkL)) := RA.out.stay sB (fun he h => own_bx BA.out he h)
      have Tb : Hid (TkO B W3 (Wa.setCells b5 14 [.bool true, .int .u64 (F : Nat), .int .u64 (TO : Nat), .bool bk, .int .i64 md, .int .u64 (ht : Nat), .int .u64 0, .int .i64 ao, .int .i64 az, .bool false, .int .u64 0, .string ⟨#[]⟩]) T' T) := TA.out.grown (grown_of_stay sB) (fun zs x h => .inr (own_bx BA.out (by decide) h))
      clear v2 t0 u2 u1 u3 a0 a1 sB RA TA FA BA BSa
      generalize (Wa.setCells b5 14 [.bool true, .int .u64 (F : Nat), .int .u64 (TO : Nat), .bool bk, .int .i64 md, .int .u64 (ht : Nat), .int .u64 0, .int .i64 ao, .int .i64 az, .bool false, .int .u64 0, .string ⟨#[]⟩]) = Wb at *
      have lro : Hid (Wb.rangeAt b5 14 (roM (bgM m F TO ao az md bk ht m.gn (some ⟨G1, 0, none⟩) C1 (some ⟨g2, 0, none⟩) k2 (some ⟨G3, 0, none⟩) C3 pt ct)).toList) := fun j v hj => Bb.out.c (14 + j) v (by
        match j, hj with
        | 0, hj => exact hj
        | 1, hj => exact hj
        | 2, hj => exact hj
        | 3, hj => exact hj
        | 4, hj => exact hj
        | 5, hj => exact hj
        | 6, hj => exact hj
        | 7, hj => exact hj
        | 8, hj => exact hj
        | 9, hj => exact hj
        | 10, hj => exact hj
        | 11, hj => exact hj
        | n + 12, hj => simp at hj)
      have HSg : Hid (Calls Try.prog 30 #[.int .u64 (secs m : Nat), .agg (roM (bgM m F TO ao az md bk ht m.gn (some ⟨G1, 0, none⟩) C1 (some ⟨g2, 0, none⟩) k2 (some ⟨G3, 0, none⟩) C3 pt ct))] Wb (Sx.SegP Wb [((0, secs m, F) : Sx.Sg)] 0)) := by
        have q := Sx.rseg_ok (secs m) (rM (bgM m F TO ao az md bk ht m.gn (some ⟨G1, 0, none⟩) C1 (some ⟨g2, 0, none⟩) k2 (some ⟨G3, 0, none⟩) C3 pt ct)) Wb
        have ng : Sx.segGood (secs m) (rM (bgM m F TO ao az md bk ht m.gn (some ⟨G1, 0, none⟩) C1 (some ⟨g2, 0, none⟩) k2 (some ⟨G3, 0, none⟩) C3 pt ct)) := ⟨HN.out.1, HN.out.2, rfl, Nat.zero_le _⟩
        rw [show Sx.segL (secs m) (rM (bgM m F TO ao az md bk ht m.gn (some ⟨G1, 0, none⟩) C1 (some ⟨g2, 0, none⟩) k2 (some ⟨G3, 0, none⟩) C3 pt ct)) = [((0, secs m, F) : Sx.Sg)] by rw [Sx.segL, if_pos ng]; exact kept_bg _ F TO _ HN.out.1 rfl rfl rfl, show Sx.segE (secs m) (rM (bgM m F TO ao az md bk ht m.gn (some ⟨G1, 0, none⟩) C1 (some ⟨g2, 0, none⟩) k2 (some ⟨G3, 0, none⟩) C3 pt ct)) = 0 by rw [Sx.segE, if_pos ng]] at q
        exact q
      have hsz33 : Hid ((roM (bgM m F TO ao az md bk ht m.gn (some ⟨G1, 0, none⟩) C1 (some ⟨g2, 0, none⟩) k2 (some ⟨G3, 0, none⟩) C3 pt ct)).toList.length = 12) := rfl
      go_upto_region 20 with (first | (go_at_call 30; refine HSg.out.mono ?_; rintro ea q3 ⟨v3, rfl, ho3, _, hq3⟩; have ho4 : q3.ownsRow Wb.heap.size 65 3 v3 1 ([((0, (secs m : Int), (F : Int)) : Int × Int × Int)].flatMap sgZ) := ho3; obtain ⟨p5, c5, rfl⟩ := own_form ho4; have c13 := (Bb.out.below hq3).c 13 (.slice (some ⟨G3, 0, none⟩) m.gn C3) rfl; have f13 := frozen_bx (o := 13) (Bb.out.below hq3)) | (refine wpList_load_mid (by rfl) 33 (.tmp 116) (by rfl) b5 14 (by rfl) (roM (bgM m F TO ao az md bk ht m.gn (some ⟨G1, 0, none⟩) C1 (some ⟨g2, 0, none⟩) k2 (some ⟨G3, 0, none⟩) C3 pt ct)).toList _ lro.out Try.underlying33 rfl (by kernel_rfl) ?_))
      have sC : Stay b5 q3 (q3.setCell ⟨b5, 13, none⟩ (.slice p5 1 c5)) := (Stay.refl _ _).set _ _
      have B3 := Bb.out.below hq3
      have Bf : Hid (Bx (q3.setCell ⟨b5, 13, none⟩ (.slice p5 1 c5)) b5 (bgM m F TO ao az md bk ht 1 (some ⟨G1, 0, none⟩) C1 (some ⟨g2, 0, none⟩) k2 p5 c5 pt ct)) := bx_set B3 rfl
      have Ff : Hid (Bg5 w (q3.setCell ⟨b5, 13, none⟩ (.slice p5 1 c5)) m to ao az cs md bk ht) := (Fb.out.below hq3).stay sC HB.out.1
      have R3 := Rb.out.below hq3
      have hBq : B ≤ Wb.heap.size := by have q := Rb.out.o2.lt g2 rfl; omega
      have oN : q3.ownsRow B 65 3 (.slice p5 1 c5) 1 ([((0, (secs m : Int), (F : Int)) : Int × Int × Int)].flatMap sgZ) := ownsRow_below ho4 hBq
      have Rf : Hid (R4 B (q3.setCell ⟨b5, 13, none⟩ (.slice p5 1 c5)) (.slice (some ⟨G1, 0, none⟩) m.sn C1) (.slice (some ⟨g2, 0, none⟩) (m.en + 1) k2) (.slice p5 1 c5) (.slice pt m.tn ct) m.sn (m.en + 1) 1 m.tn (SL.flatMap sloL) (EL.flatMap epoL ++ [to].flatMap epoL) ([((0, (secs m : Int), (F : Int)) : Int × Int × Int)].flatMap sgZ) (T'.flatMap tkL)) := (R4.mk R3.o1 R3.o2 oN R3.o4).stay sC (fun he h => own_bx B3 he h)
      have Tf : Hid (TkO B W3 (q3.setCell ⟨b5, 13, none⟩ (.slice p5 1 c5)) T' T) := (Tb.out.below hq3).grown (grown_of_stay sC) (fun zs x h => .inr (own_bx B3 (by decide) h))
      clear Bb Fb Rb Tb B3 R3 oN sC ho3 ho4 hBq hq3 lro HSg c13 f13
      generalize (q3.setCell ⟨b5, 13, none⟩ (.slice p5 1 c5)) = Wf at *
      have R9 : Hid (Wf.rangeAt b5 0 (mtC (bgM m F TO ao az md bk ht 1 (some ⟨G1, 0, none⟩) C1 (some ⟨g2, 0, none⟩) k2 p5 c5 pt ct)).toList) := Bf.out.range
      go_upto_region 99 with (first | (refine wpList_load_mid (by rfl) 36 (.tmp 13) (by rfl) b5 0 (by rfl) (mtC (bgM m F TO ao az md bk ht 1 (some ⟨G1, 0, none⟩) C1 (some ⟨g2, 0, none⟩) k2 p5 c5 pt ct)).toList _ R9.out Try.underlying36 rfl (size36 _) ?_) | (refine wpList_store_box (by rfl) (.tmp 8) (.tmp 122) (by rfl) (bgM m F TO ao az md bk ht 1 (some ⟨G1, 0, none⟩) C1 (some ⟨g2, 0, none⟩) k2 p5 c5 pt ct) (w.heap.size + 4) mt0 (by rfl) (by rfl) Ff.out.rs rfl ?_; intro WF bnF stF))
      refine bodyPost_ret (results_cell_two (P := Try.prog) (p := 8) (u := 9) (ty := 36) rfl _ WF (w.heap.size + 4) 36 (mtC (bgM m F TO ao az md bk ht 1 (some ⟨G1, 0, none⟩) C1 (some ⟨g2, 0, none⟩) k2 p5 c5 pt ct)) (0, 0) _ rfl bnF Try.underlying36 rfl (by rw [info36s]; rfl)) rfl ?_
      show BgT w.heap.size w m SL EL T to F TO ao az md bk ht _ WF
      have nb : ∀ {e sz n : Nat} {v : Value} {xs : List Value}, Wf.ownsRow B e sz v n xs → v.ownBlock ≠ some (w.heap.size + 4) := fun ho => own_ne ho (by have := HB.out.2.1; omega)
      have bF : Below w.heap.size w WF := Ff.out.bel.trans (stF.below (by omega) (by have := Ff.out.sz; omega))
      have RF := Rf.out.stay stF (fun _ h => nb h)
      have hBw : w.heap.size ≤ B := by have := HB.out.2.1; omega
      have TF := (Tf.out.grown (grown_of_stay stF) (fun zs x h => .inr (nb h))).back hBw HB.out.2.2.2.1.block (fun i x hx => (tL.out i x hx).2)
      refine ⟨some ⟨G1, 0, none⟩, C1, some ⟨g2, 0, none⟩, k2, p5, c5, pt, ct, T', rfl, ⟨ownsRow_below RF.o1 hBw, ?_, ownsRow_below RF.o3 hBw, ownsRow_below RF.o4 hBw⟩, HL.out, TF, bF⟩
      rw [List.flatMap_append]
      exact ownsRow_below RF.o2 hBw
end Go.Proofs.Ytmfnhdflmnmooaa
namespace Go.Proofs.Ytmfnhdflmnmooaa
open Go.RowKit
set_option linter.unusedVariables false
set_option linter.unusedSimpArgs false
/-- What a token says. -/
structure TkC where
  n : Int
  s : ByteArray
  z : ByteArray
  zs : List Int
def TkIs (W : World) (T : List Tk) (C : List TkC) : Prop := C.length = T.length ∧ ∀ (i : Nat) (x : Tk) (c : TkC), T[i]? = some x → C[i]? = some c → x.n = c.n ∧ x.s = c.s ∧ x.z = c.z ∧ View W (.slice x.p x.l x.c) c.zs
def TkOwn (B : Nat) (W : World) (T : List Tk) (C : List TkC) : Prop := C.length = T.length ∧ ∀ (i : Nat) (x : Tk) (c : TkC), T[i]? = some x → C[i]? = some c → x.n = c.n ∧ x.s = c.s ∧ x.z = c.z ∧ W.ownsRow B 3 1 (.slice x.p x.l x.c) x.l (cellsI c.zs) ∧ c.zs.length = x.l
theorem TkIs.below {W W' : World} {T : List Tk} {C : List TkC} (h : TkIs W T C) (hb : Below W.heap.size W W') : TkIs W' T C := ⟨h.1, fun i x c hx hc => by
  obtain ⟨a, b, d, v⟩ := h.2 i x c hx hc
  exact ⟨a, b, d, v.kept hb.block⟩⟩
theorem TkOwn.below {B : Nat} {W W' : World} {T : List Tk} {C : List TkC} (h : TkOwn B W T C) (hb : Below W.heap.size W W') : TkOwn B W' T C := ⟨h.1, fun i x c hx hc => by
  obtain ⟨a, b, d, v, l⟩ := h.2 i x c hx hc
  exact ⟨a, b, d, own_keep v hb, l⟩⟩
theorem TkOwn.is {B : Nat} {W : World} {T : List Tk} {C : List TkC} (h : TkOwn B W T C) : TkIs W T C := ⟨h.1, fun i x c hx hc => by
  obtain ⟨a, b, d, v, l⟩ := h.2 i x c hx hc
  exact ⟨a, b, d, own_view v l⟩⟩
theorem TkIs.e {W : World} {T T2 : List Tk} {C : List TkC} (h : TkIs W T C) (h2 : TkIs W T2 C) : TkE W T T2 := fun i x y hx hy => by
  obtain ⟨c, hc⟩ : ∃ c, C[i]? = some c := ⟨C[i]'(by rw [h.1]; exact (List.getElem?_eq_some_iff.1 hx).1), List.getElem?_eq_getElem _⟩
  obtain ⟨a, b, d, v⟩ := h.2 i x c hx hc
  obtain ⟨a', b', d', v'⟩ := h2.2 i y c hy hc
  exact ⟨a.trans a'.symm, b.trans b'.symm, d.trans d'.symm, c.zs, v, v'⟩
theorem TkO.own {B : Nat} {w W : World} {T' T : List Tk} {C : List TkC} (h : TkO B w W T' T) (hl : T'.length = T.length) (hc : TkIs w T C) : TkOwn B W T' C := ⟨hc.1.trans hl.symm, fun i x c hx hci => by
  obtain ⟨y, hy⟩ : ∃ y, T[i]? = some y := ⟨T[i]'(by rw [← hl]; exact (List.getElem?_eq_some_iff.1 hx).1), List.getElem?_eq_getElem _⟩
  obtain ⟨a, b, d, zs, ho, hz, hv⟩ := h i x y hx hy
  obtain ⟨a', b', d', v'⟩ := hc.2 i y c hy hci
  have e := view_same hv v'
  subst e
  exact ⟨a.trans a', b.trans b', d.trans d', ho, hz⟩⟩
/-- What Begin is asked, beside the metadata. -/
structure Ask where
  to : Epo
  ao : Int
  az : Int
  cs : ByteArray
  md : Int
  bk : Bool
  ht : Nat
def frN (GL : List (Int × Int × Int)) : Nat := (GL.getD 0 (0, 0, 0)).2.2.toNat
def BgA (m : Mt) : Prop := mayB m.U m.C m.H m.K = true ∧ ¬ m.en = 0
def BgB (m : Mt) (EL : List Epo) (GL : List (Int × Int × Int)) (q : Ask) : Prop := areaB m.U m.H m.K q.ao q.az q.md q.ht = true ∧ ¬ hasB EL q.to.n m.en ∧ q.to.a.toList = q.cs.toList ∧ OneP m EL (fun i => GL.getD i (0, 0, 0))
/-- The lists of an answer. -/
structure Res where
  R : Mt
  SL : List Slo
  EL : List Epo
  GL : List (Int × Int × Int)
  C : List TkC
  E : Int
abbrev resZ (E : Int) : Res := ⟨mtZ, [], [], [], [], E⟩
abbrev resG (m : Mt) (SL : List Slo) (EL : List Epo) (GL : List (Int × Int × Int)) (C : List TkC) (q : Ask) : Res := ⟨bgM m (frN GL) q.to.n.toNat q.ao q.az q.md q.bk q.ht 1 none 0 none 0 none 0 none 0, SL, EL ++ [q.to], [((0, (secs m : Int), (frN GL : Int)) : Int × Int × Int)], C, 0⟩
def BegR (m : Mt) (SL : List Slo) (EL : List Epo) (GL : List (Int × Int × Int)) (C : List TkC) (q : Ask) (r : Res) : Prop :=
  (¬ BgA m ∧ r = resZ 2) ∨ (BgA m ∧ m.on = true ∧ r = resZ 132) ∨ (BgA m ∧ m.on = false ∧ ¬ BgB m EL GL q ∧ r = resZ 2) ∨ (BgA m ∧ m.on = false ∧ BgB m EL GL q ∧ r = resG m SL EL GL C q)
theorem BegR.one {m : Mt} {SL : List Slo} {EL : List Epo} {GL : List (Int × Int × Int)} {C : List TkC} {q : Ask} {r r' : Res} (h : BegR m SL EL GL C q r) (k : BegR m SL EL GL C q r') : r = r' := by
  rcases h with ⟨h1, rfl⟩ | ⟨h1, h2, rfl⟩ | ⟨h1, h2, h3, rfl⟩ | ⟨h1, h2, h3, rfl⟩ <;> rcases k with ⟨k1, rfl⟩ | ⟨k1, k2, rfl⟩ | ⟨k1, k2, k3, rfl⟩ | ⟨k1, k2, k3, rfl⟩
  all_goals first
    | rfl
    | exact absurd k1 h1
    | exact absurd h1 k1
    | exact absurd k3 h3
    | exact absurd h3 k3
    | (rw [h2] at k2; cases k2; done)
/-- An answer, with its lists in new memory. -/
structure Ans (B : Nat) (W : World) (r : Res) (q : Ptr) (T' : List Tk) : Prop where
  r4 : R4 B W (.slice q.sp r.R.sn q.sc) (.slice q.ep r.R.en q.ec) (.slice q.gp r.R.gn q.gc) (.slice q.tp r.R.tn q.tc) r.R.sn r.R.en r.R.gn r.R.tn (r.SL.flatMap sloL) (r.EL.flatMap epoL) (r.GL.flatMap sgZ) (T'.flatMap tkL)
  l1 : r.SL.length = r.R.sn
  l2 : r.EL.length = r.R.en
  l3 : r.GL.length = r.R.gn
  l4 : T'.length = r.R.tn
  tk : TkOwn B W T' r.C
theorem ans_zero (B : Nat) (W : World) (E : Int) : Ans B W (resZ E) ⟨none, 0, none, 0, none, 0, none, 0⟩ [] := ⟨⟨World.ownsRow_nil _ _ _ _, World.ownsRow_nil _ _ _ _, World.ownsRow_nil _ _ _ _, World.ownsRow_nil _ _ _ _⟩, rfl, rfl, rfl, rfl, rfl, fun i x c hx => by simp at hx⟩
abbrev askA (q : Ask) : Array Value := #[.agg (epA q.to), .agg #[.int .i64 q.ao, .int .i64 q.az], .agg (tuA q.cs q.md q.bk q.ht)]
def AnsP (w : World) (m : Mt) (SL : List Slo) (EL : List Epo) (GL : List (Int × Int × Int)) (C : List TkC) (q : Ask) (e : Ending) (w' : World) : Prop := ∃ (r : Res) (p : Ptr) (T' : List Tk), e = .returned (.tuple #[.agg (mtC (r.R.at p)), .int .i64 r.E]) ∧ BegR m SL EL GL C q r ∧ Ans w.heap.size w' r p T' ∧ TkD T' ∧ Below w.heap.size w w'
def AnsQ (w : World) (m : Mt) (SL : List Slo) (EL : List Epo) (GL : List (Int × Int × Int)) (C : List TkC) (q : Ask) (e : Ending) (w' : World) : Prop := ∃ (r : Res) (p : Ptr) (T' : List Tk), e = .returned (.tuple #[.agg (mtC (r.R.at p)), .int .i64 r.E]) ∧ BegR m SL EL GL C q r ∧ Ans w.heap.size w' r p T' ∧ Below w.heap.size w w'
theorem ansP_zero {w w' : World} {m : Mt} {SL : List Slo} {EL : List Epo} {GL : List (Int × Int × Int)} {C : List TkC} {q : Ask} {e : Ending} {E : Int} (hr : BegR m SL EL GL C q (resZ E)) (hh : Hid (e = .returned (.tuple #[.agg mt0, .int .i64 E]) ∧ Below w.heap.size w w')) : AnsP w m SL EL GL C q e w' := ⟨resZ E, _, [], hh.out.1, hr, ans_zero _ _ E, fun i j x y _ hx => by simp at hx, hh.out.2⟩
theorem ansQ_zero {w w' : World} {m : Mt} {SL : List Slo} {EL : List Epo} {GL : List (Int × Int × Int)} {C : List TkC} {q : Ask} {e : Ending} {E : Int} (hr : BegR m SL EL GL C q (resZ E)) (hh : Hid (e = .returned (.tuple #[.agg mt0, .int .i64 E]) ∧ Below w.heap.size w w')) : AnsQ w m SL EL GL C q e w' := ⟨resZ E, _, [], hh.out.1, hr, ans_zero _ _ E, hh.out.2⟩
/-- What is asked may be asked. -/
structure AskO (w : World) (m : Mt) (hot : Nat) (SL : List Slo) (EL : List Epo) (GL : List (Int × Int × Int)) (T : List Tk) (C : List TkC) (q : Ask) : Prop where
  o : MtO w m hot SL EL GL T
  hz : q.az ≤ 9223372036854775807
  hn : 0 ≤ q.to.n
  hg : ∀ x ∈ GL, 0 ≤ x.2.2
  tl : ∀ (i : Nat) (x : Tk), T[i]? = some x → x.l * 8 ≤ 140737488355328
  is : TkIs w T C
theorem AskO.tL {w : World} {m : Mt} {hot : Nat} {SL : List Slo} {EL : List Epo} {GL : List (Int × Int × Int)} {T : List Tk} {C : List TkC} {q : Ask} (h : AskO w m hot SL EL GL T C q) : ∀ (i : Nat) (x : Tk), T[i]? = some x → x.l * 8 ≤ 140737488355328 ∧ ∃ zs, View w (.slice x.p x.l x.c) zs := fun i x hx => by
  obtain ⟨_, zs, _, hv⟩ := h.o.tV i x hx
  exact ⟨h.tl i x hx, zs, hv⟩
theorem fr_is {GL : List (Int × Int × Int)} (hg : ∀ x ∈ GL, 0 ≤ x.2.2) : (GL.getD 0 (0, 0, 0)).2.2 = (frN GL : Int) := by
  have : 0 ≤ (GL.getD 0 (0, 0, 0)).2.2 := by
    cases GL with
    | nil => simp
    | cons x l => exact hg x (by simp)
  unfold frN
  omega
theorem begin_ok (m : Mt) (hot : Nat) (SL : List Slo) (EL : List Epo) (GL : List (Int × Int × Int)) (T : List Tk) (C : List TkC) (q : Ask) (w : World) (A : AskO w m hot SL EL GL T C q) : Calls Try.prog 7 #[.agg (mtC m), .agg (epA q.to), .agg #[.int .i64 q.ao, .int .i64 q.az], .agg (tuA q.cs q.md q.bk q.ht)] w fun e w' => AnsP w m SL EL GL C q e w' := by
  have O2 := A.o.ok
  by_cases h1 : mayB m.U m.C m.H m.K = true
  · by_cases h2 : m.en = 0
    · exact (begin_2 m hot EL _ q.to q.ao q.az q.cs q.md q.bk q.ht A.hz w O2 h1 h2).mono fun e w' hh => ansP_zero (.inl ⟨fun k => k.2 h2, rfl⟩) hh
    · cases h3 : m.on
      · by_cases h4 : areaB m.U m.H m.K q.ao q.az q.md q.ht = true
        · by_cases h5 : hasB EL q.to.n m.en
          · exact (begin_5 m hot EL _ q.to q.ao q.az q.cs q.md q.bk q.ht A.hz w O2 h1 h2 h3 h4 h5).mono fun e w' hh => ansP_zero (.inr (.inr (.inl ⟨⟨h1, h2⟩, h3, fun k => k.2.1 h5, rfl⟩))) hh
          · by_cases h6 : q.to.a.toList = q.cs.toList
            · by_cases h7 : OneP m EL (fun i => GL.getD i (0, 0, 0))
              · refine (begin_good m hot SL EL GL T q.to (frN GL) q.to.n.toNat q.ao q.az q.cs q.md q.bk q.ht A.hz (by have := A.hn; omega) w A.o A.tL h1 h2 h3 h4 h5 h6 h7 (fr_is A.hg)).mono ?_
                rintro e w' ⟨p1, c1, p2, c2, p3, c3, p4, c4, T', he, R, hl, hT, hD, hB⟩
                exact ⟨resG m SL EL GL C q, ⟨p1, c1, p2, c2, p3, c3, p4, c4⟩, T', he, .inr (.inr (.inr ⟨⟨h1, h2⟩, h3, ⟨h4, h5, h6, h7⟩, rfl⟩)), ⟨R, A.o.hsn, by simp [A.o.hen], rfl, hl, hT.own (hl.trans A.o.htn.symm) A.is⟩, hD, hB⟩
              · exact (begin_7 m hot EL _ q.to q.ao q.az q.cs q.md q.bk q.ht A.hz w O2 h1 h2 h3 h4 h5 h6 h7).mono fun e w' hh => ansP_zero (.inr (.inr (.inl ⟨⟨h1, h2⟩, h3, fun k => h7 k.2.2.2, rfl⟩))) hh
            · exact (begin_6 m hot EL _ q.to q.ao q.az q.cs q.md q.bk q.ht A.hz w O2 h1 h2 h3 h4 h5 h6).mono fun e w' hh => ansP_zero (.inr (.inr (.inl ⟨⟨h1, h2⟩, h3, fun k => h6 k.2.2.1, rfl⟩))) hh
        · exact (begin_4 m hot EL _ q.to q.ao q.az q.cs q.md q.bk q.ht A.hz w O2 h1 h2 h3 (by simpa using h4)).mono fun e w' hh => ansP_zero (.inr (.inr (.inl ⟨⟨h1, h2⟩, h3, fun k => h4 k.1, rfl⟩))) hh
      · exact (begin_3 m hot EL _ q.to q.ao q.az q.cs q.md q.bk q.ht A.hz w O2 h1 h2 h3).mono fun e w' hh => ansP_zero (.inr (.inl ⟨⟨h1, h2⟩, h3, rfl⟩)) hh
  · exact (begin_1 m hot EL _ q.to q.ao q.az q.cs q.md q.bk q.ht A.hz w O2 (by simpa using h1)).mono fun e w' hh => ansP_zero (.inl ⟨fun k => h1 k.1, rfl⟩) hh
theorem rbegin_ok (m : Mt) (hot : Nat) (SL : List Slo) (EL : List Epo) (GL : List (Int × Int × Int)) (T : List Tk) (C : List TkC) (q : Ask) (w : World) (A : AskO w m hot SL EL GL T C q) : Calls Try.prog 8 #[.agg (mtC m), .agg (epA q.to), .agg #[.int .i64 q.ao, .int .i64 q.az], .agg (tuA q.cs q.md q.bk q.ht)] w fun e w' => AnsQ w m SL EL GL C q e w' := by
  by_cases h1 : mayB m.U m.C m.H m.K = true
  · by_cases h2 : m.en = 0
    · exact (rbegin_2 m hot SL EL GL T q.to q.ao q.az q.cs q.md q.bk q.ht A.hz w A.o h1 h2).mono fun e w' hh => ansQ_zero (.inl ⟨fun k => k.2 h2, rfl⟩) hh
    · cases h3 : m.on
      · by_cases h4 : areaB m.U m.H m.K q.ao q.az q.md q.ht = true
        · by_cases h6 : q.to.a.toList = q.cs.toList
          · by_cases hg : m.gn = 1
            · by_cases h5 : hasB EL q.to.n m.en
              · exact (rbegin_7 m hot SL EL GL T q.to q.ao q.az q.cs q.md q.bk q.ht A.hz w A.o h1 h2 h3 h4 h6 hg h5).mono fun e w' hh => ansQ_zero (.inr (.inr (.inl ⟨⟨h1, h2⟩, h3, fun k => k.2.1 h5, rfl⟩))) hh
              · by_cases hs0 : (GL.getD 0 (0, 0, 0)).1 = 0
                · by_cases hs1 : (GL.getD 0 (0, 0, 0)).2.1 = (secs m : Int)
                  · by_cases he : epN EL (GL.getD 0 (0, 0, 0)).2.2 m.en = 1
                    · refine (rbegin_11 m hot SL EL GL T q.to (frN GL) q.to.n.toNat q.ao q.az q.cs q.md q.bk q.ht A.hz w A.o (by have := A.hn; omega) A.tL (fr_is A.hg) h1 h2 h3 h4 h6 hg h5 hs0 hs1 he).mono ?_
                      rintro e w' ⟨p1, c1, p2, c2, p3, c3, p4, c4, T', he', R, hl, hT, hB⟩
                      exact ⟨resG m SL EL GL C q, ⟨p1, c1, p2, c2, p3, c3, p4, c4⟩, T', he', .inr (.inr (.inr ⟨⟨h1, h2⟩, h3, ⟨h4, h5, h6, hg, Prod.ext hs0 (Prod.ext hs1 rfl), he⟩, rfl⟩)), ⟨R, A.o.hsn, by simp [A.o.hen], rfl, hl, hT.own (hl.trans A.o.htn.symm) A.is⟩, hB⟩
                    · exact (rbegin_10 m hot SL EL GL T q.to q.ao q.az q.cs q.md q.bk q.ht A.hz w A.o h1 h2 h3 h4 h6 hg h5 hs0 hs1 he).mono fun e w' hh => ansQ_zero (.inr (.inr (.inl ⟨⟨h1, h2⟩, h3, fun k => he k.2.2.2.2.2, rfl⟩))) hh
                  · exact (rbegin_9 m hot SL EL GL T q.to q.ao q.az q.cs q.md q.bk q.ht A.hz w A.o h1 h2 h3 h4 h6 hg h5 hs0 hs1).mono fun e w' hh => ansQ_zero (.inr (.inr (.inl ⟨⟨h1, h2⟩, h3, fun k => hs1 (congrArg (fun x => x.2.1) k.2.2.2.2.1), rfl⟩))) hh
                · exact (rbegin_8 m hot SL EL GL T q.to q.ao q.az q.cs q.md q.bk q.ht A.hz w A.o h1 h2 h3 h4 h6 hg h5 hs0).mono fun e w' hh => ansQ_zero (.inr (.inr (.inl ⟨⟨h1, h2⟩, h3, fun k => hs0 (congrArg (fun x => x.1) k.2.2.2.2.1), rfl⟩))) hh
            · exact (rbegin_6 m hot SL EL GL T q.to q.ao q.az q.cs q.md q.bk q.ht A.hz w A.o h1 h2 h3 h4 h6 hg).mono fun e w' hh => ansQ_zero (.inr (.inr (.inl ⟨⟨h1, h2⟩, h3, fun k => hg k.2.2.2.1, rfl⟩))) hh
          · exact (rbegin_5 m hot SL EL GL T q.to q.ao q.az q.cs q.md q.bk q.ht A.hz w A.o h1 h2 h3 h4 h6).mono fun e w' hh => ansQ_zero (.inr (.inr (.inl ⟨⟨h1, h2⟩, h3, fun k => h6 k.2.2.1, rfl⟩))) hh
        · exact (rbegin_4 m hot SL EL GL T q.to q.ao q.az q.cs q.md q.bk q.ht A.hz w A.o h1 h2 h3 (by simpa using h4)).mono fun e w' hh => ansQ_zero (.inr (.inr (.inl ⟨⟨h1, h2⟩, h3, fun k => h4 k.1, rfl⟩))) hh
      · exact (rbegin_3 m hot SL EL GL T q.to q.ao q.az q.cs q.md q.bk q.ht A.hz w A.o h1 h2 h3).mono fun e w' hh => ansQ_zero (.inr (.inl ⟨⟨h1, h2⟩, h3, rfl⟩)) hh
  · exact (rbegin_1 m hot SL EL GL T q.to q.ao q.az q.cs q.md q.bk q.ht A.hz w A.o (by simpa using h1)).mono fun e w' hh => ansQ_zero (.inl ⟨fun k => h1 k.1, rfl⟩) hh
end Go.Proofs.Ytmfnhdflmnmooaa
namespace Go.Proofs.Ytmfnhdflmnmooaa
open Go.RowKit
set_option linter.unusedVariables false
set_option linter.unusedSimpArgs false
/-- What the law is asked, as cells. -/
abbrev stC (m : Mt) (q : Ask) : Array Value := #[.string m.lab, .string m.sub, .string m.uid, .string m.hst, .int .i64 m.U, .int .u64 m.C, .int .i64 m.H, .int .i64 m.K, .int .i64 m.tur, .string m.slt, .string m.dig, .slice m.sp m.sn m.sc, .slice m.ep m.en m.ec, .slice m.gp m.gn m.gc,
  .bool m.on, .int .u64 (m.fr : Nat), .int .u64 (m.to : Nat), .bool m.back, .int .i64 m.mode, .int .u64 m.hot, .int .u64 (m.done : Nat), .int .i64 m.ao, .int .i64 m.az, .bool m.act, .int .u64 m.cnt, .string m.sum, .slice m.tp m.tn m.tc,
  .int .u64 q.to.n, .string q.to.a, .string q.to.b, .string q.to.c, .string q.to.d, .int .i64 q.ao, .int .i64 q.az, .string q.cs, .int .i64 q.md, .bool q.bk, .int .u64 (q.ht : Nat)]
def Sx0 (W : World) (b : Nat) (m : Mt) (q : Ask) : Prop := W.heap[b]? = some (.cells (stC m q) 42 (0, 0))
theorem Sx0.below {W W' : World} {b : Nat} {m : Mt} {q : Ask} (h : Sx0 W b m q) (hb : Below W.heap.size W W') : Sx0 W' b m q := (hb.block b (Array.getElem?_eq_some_iff.1 h).1).trans h
theorem Sx0.c {W : World} {b : Nat} {m : Mt} {q : Ask} (h : Sx0 W b m q) (k : Nat) (v : Value) (hk : (stC m q)[k]? = some v) : W.cell? ⟨b, k, none⟩ = some v := by
  rw [cell_of_row W b k _ 42 (0, 0) h]
  exact hk
theorem Sx0.m {W : World} {b : Nat} {m : Mt} {q : Ask} (h : Sx0 W b m q) : W.rangeAt b 0 (mtC m).toList := fun j v hj => by
  rw [Nat.zero_add]
  refine h.c j v ?_
  have hj' : j < 27 := by
    have := (List.getElem?_eq_some_iff.1 hj).1
    simpa using this
  have e : (stC m q).toList = (mtC m).toList ++ (stC m q).toList.drop 27 := rfl
  have e2 : (stC m q)[j]? = (stC m q).toList[j]? := by simp
  rw [e2, e, List.getElem?_append_left (by simpa using hj')]
  exact hj
theorem Sx0.e {W : World} {b : Nat} {m : Mt} {q : Ask} (h : Sx0 W b m q) : W.rangeAt b 27 (epA q.to).toList := fun j v hj => h.c (27 + j) v (by
  match j, hj with
  | 0, hj => exact hj
  | 1, hj => exact hj
  | 2, hj => exact hj
  | 3, hj => exact hj
  | 4, hj => exact hj
  | n + 5, hj => simp at hj)
theorem Sx0.a {W : World} {b : Nat} {m : Mt} {q : Ask} (h : Sx0 W b m q) : W.rangeAt b 32 [.int .i64 q.ao, .int .i64 q.az] := fun j v hj => h.c (32 + j) v (by
  match j, hj with
  | 0, hj => exact hj
  | 1, hj => exact hj
  | n + 2, hj => simp at hj)
theorem Sx0.t {W : World} {b : Nat} {m : Mt} {q : Ask} (h : Sx0 W b m q) : W.rangeAt b 34 (tuA q.cs q.md q.bk q.ht).toList := fun j v hj => h.c (34 + j) v (by
  match j, hj with
  | 0, hj => exact hj
  | 1, hj => exact hj
  | 2, hj => exact hj
  | 3, hj => exact hj
  | n + 4, hj => simp at hj)
theorem tkis_of {w : World} : ∀ (T : List Tk), (∀ (i : Nat) (x : Tk), T[i]? = some x → ∃ zs, View w (.slice x.p x.l x.c) zs) → ∃ C, TkIs w T C
  | [], _ => ⟨[], rfl, fun i x c hx => by simp at hx⟩
  | y :: T, h => by
    obtain ⟨C, hC⟩ := tkis_of T (fun i x hx => h (i + 1) x (by simpa using hx))
    obtain ⟨zs, hz⟩ := h 0 y rfl
    refine ⟨⟨y.n, y.s, y.z, zs⟩ :: C, by simp [hC.1], fun i x c hx hc => ?_⟩
    cases i with
    | zero =>
      simp only [List.getElem?_cons_zero, Option.some.injEq] at hx hc
      subst hx
      subst hc
      exact ⟨rfl, rfl, rfl, hz⟩
    | succ i => exact hC.2 i x c (by simpa using hx) (by simpa using hc)
theorem rv_any {α : Type} {L : α → List Value} {sz : Nat} (hL : ∀ x, (L x).length = sz) (hsz : 0 < sz) {w : World} {B e n c : Nat} {p : Option Addr} {l : List α} (h : w.ownsRow B e sz (.slice p n c) n (l.flatMap L)) : RV L sz w p l := by
  rcases h.2 with ⟨q, h0⟩ | ⟨g, c', cur, q, _⟩
  · left
    have h1 := h.1
    rw [h0, Nat.zero_mul, flat_len L sz hL] at h1
    rcases Nat.mul_eq_zero.1 h1 with h2 | h2
    · exact List.length_eq_zero_iff.1 h2
    · omega
  · cases q
    exact rv_own (rest := []) hL (by rw [List.append_nil]; exact h)
theorem own_kq {B U V : Nat} {w w' : World} {e sz n : Nat} {v : Value} {xs : List Value} (h : w.ownsRow V e sz v n xs) (k : Kq B U w w') (hV : U ≤ V) : w'.ownsRow V e sz v n xs := by
  refine ⟨h.1, ?_⟩
  rcases h.2 with q | ⟨g, c, cur, hv, hb, hh, r⟩
  · exact .inl q
  · exact .inr ⟨g, c, cur, hv, hb, (k.blk g (Array.getElem?_eq_some_iff.1 hh).1 (by omega)).trans hh, r⟩
theorem Kq.under {B U : Nat} {w W W' : World} (k : Kq B U W W') (h : Below w.heap.size w W) (hB : w.heap.size ≤ B) : Below w.heap.size w W' :=
  ⟨k.os.trans h.os, k.tape.trans h.tape, k.output.trans h.output, Nat.le_trans h.size k.size, fun j hj => (k.blk j (Nat.lt_of_lt_of_le hj h.size) (by omega)).trans (h.block j hj)⟩
theorem Ans.below {B : Nat} {W W' : World} {r : Res} {p : Ptr} {T' : List Tk} (h : Ans B W r p T') (hb : Below W.heap.size W W') : Ans B W' r p T' := ⟨h.r4.below hb, h.l1, h.l2, h.l3, h.l4, h.tk.below hb⟩
theorem Ans.kq {B U V : Nat} {W W' : World} {r : Res} {p : Ptr} {T' : List Tk} (h : Ans V W r p T') (k : Kq B U W W') (hV : U ≤ V) : Ans V W' r p T' :=
  ⟨⟨own_kq h.r4.o1 k hV, own_kq h.r4.o2 k hV, own_kq h.r4.o3 k hV, own_kq h.r4.o4 k hV⟩, h.l1, h.l2, h.l3, h.l4, h.tk.1, fun i x c hx hc => by
    obtain ⟨a, b, d, v, l⟩ := h.tk.2 i x c hx hc
    exact ⟨a, b, d, own_kq v k hV, l⟩⟩
/-- Two answers of the same contents are the same. -/
theorem same_ans {V V2 : Nat} {W : World} {r : Res} {p p2 : Ptr} {T T2 : List Tk} (h : Ans V W r p T) (h2 : Ans V2 W r p2 T2) (b1 : r.R.sn ≤ 1000000000000000) (b2 : r.R.en ≤ 1000000000000000) (b3 : r.R.gn ≤ 1000000000000000) (b4 : r.R.tn ≤ 1000000000000000) : Calls Try.prog 10 #[.agg (mtC (r.R.at p)), .agg (mtC (r.R.at p2))] W fun e w' => e = .returned (.bool true) ∧ Below W.heap.size W w' :=
  same10 (r.R.at p) p2 r.SL r.EL (fun i => r.GL.getD i (0, 0, 0)) T T2 h.l1 h.l2 h.l4 h2.l4 b1 b2 b3 b4 W (rv_any sloL_len (by omega) h.r4.o1) (rv_any sloL_len (by omega) h2.r4.o1) (rv_any epoL_len (by omega) h.r4.o2) (rv_any epoL_len (by omega) h2.r4.o2) (segV_rv (rv_any sgZ_len (by omega) h.r4.o3) h.l3) (segV_rv (rv_any sgZ_len (by omega) h2.r4.o3) h.l3) (rv_any tkL_len (by omega) h.r4.o4) (rv_any tkL_len (by omega) h2.r4.o4) (h.tk.is.e h2.tk.is)
/-- The copy beside the original. -/
structure Fy (B : Nat) (b0 b3 : Nat) (m : Mt) (q : Ask) (g1 k1 g2 k2 g3 k3 g4 k4 : Nat) (SL : List Slo) (EL : List Epo) (GL : List (Int × Int × Int)) (T T' : List Tk) (W : World) : Prop where
  st : Sx0 W b0 m q
  bn : Bx W b3 (cpM m g1 k1 g2 k2 g3 k3 (some ⟨g4, 0, none⟩) m.tn k4)
  s1 : RV sloL 9 W (some ⟨g1, 0, none⟩) SL
  e1 : RV epoL 5 W (some ⟨g2, 0, none⟩) EL
  g1r : RV sgZ 3 W (some ⟨g3, 0, none⟩) GL
  t1 : RV tkL 4 W (some ⟨g4, 0, none⟩) T'
  l1 : T'.length = m.tn
  tm : TkM B W T' T
  m1 : Mk2 W (some ⟨g1, 0, none⟩) m.sn k1 9 0 (.int .i64 501) (.int .i64 502)
  m2 : Mk2 W (some ⟨g2, 0, none⟩) m.en k2 5 0 (.int .u64 501) (.int .u64 502)
  m3 : Mk2 W (some ⟨g3, 0, none⟩) m.gn k3 3 2 (.int .u64 501) (.int .u64 502)
  m4 : Mk2 W (some ⟨g4, 0, none⟩) m.tn k4 4 0 (.int .i64 501) (.int .i64 502)
theorem Fy.below {B b0 b3 : Nat} {m : Mt} {q : Ask} {g1 k1 g2 k2 g3 k3 g4 k4 : Nat} {SL : List Slo} {EL : List Epo} {GL : List (Int × Int × Int)} {T T' : List Tk} {W W' : World} (h : Fy B b0 b3 m q g1 k1 g2 k2 g3 k3 g4 k4 SL EL GL T T' W) (hb : Below W.heap.size W W') : Fy B b0 b3 m q g1 k1 g2 k2 g3 k3 g4 k4 SL EL GL T T' W' :=
  ⟨h.st.below hb, h.bn.below hb, h.s1.below hb, h.e1.below hb, h.g1r.below hb, h.t1.below hb, h.l1, h.tm.below hb, h.m1.below hb, h.m2.below hb, h.m3.below hb, h.m4.below hb⟩
/-- What the law is asked may be asked. -/
structure AskW (w : World) (m : Mt) (hot : Nat) (SL : List Slo) (EL : List Epo) (GL : List (Int × Int × Int)) (T : List Tk) (q : Ask) : Prop where
  o : MtO w m hot SL EL GL T
  hz : q.az ≤ 9223372036854775807
  hn : 0 ≤ q.to.n
  hg : ∀ x ∈ GL, 0 ≤ x.2.2
  v1 : m.sn * 88 ≤ 140737488351232
  v2 : m.en * 72 ≤ 140737488351232
  v4 : m.tn * 64 ≤ 140737488351232
theorem Fy.ask {B b0 b3 : Nat} {m : Mt} {q : Ask} {g1 k1 g2 k2 g3 k3 g4 k4 hot : Nat} {SL : List Slo} {EL : List Epo} {GL : List (Int × Int × Int)} {T T' : List Tk} {W w : World} {C : List TkC} (h : Fy B b0 b3 m q g1 k1 g2 k2 g3 k3 g4 k4 SL EL GL T T' W) (o : AskW w m hot SL EL GL T q) (hw : Below w.heap.size w W) (hC : TkIs w T C) (ht : ∀ (i : Nat) (x : Tk), T[i]? = some x → x.l ≤ 65536) : AskO W (cpM m g1 k1 g2 k2 g3 k3 (some ⟨g4, 0, none⟩) m.tn k4) hot SL EL GL T' C q := by
  have key : ∀ (i : Nat) (x : Tk), T'[i]? = some x → ∃ y zs, T[i]? = some y ∧ zs.length = x.l ∧ x.l ≤ 65536 ∧ View W (.slice x.p x.l x.c) zs ∧ View W (.slice y.p y.l y.c) zs ∧ x.n = y.n ∧ x.s = y.s ∧ x.z = y.z := fun i x hx => by
    obtain ⟨y, hy⟩ : ∃ y, T[i]? = some y := ⟨T[i]'(by have := h.l1; have := o.o.htn; have := (List.getElem?_eq_some_iff.1 hx).1; omega), List.getElem?_eq_getElem _⟩
    obtain ⟨a, b, c, zs, hm, hv⟩ := h.tm i x y hx hy
    have l1 := (rv_view hm.view).1
    have l2 := (rv_view hv).1
    have := ht i y hy
    exact ⟨y, zs, hy, l1, by omega, hm.view, hv, a, b, c⟩
  refine ⟨⟨o.o.hC, o.o.hC9, o.o.hh, o.o.hz, o.o.hsz, o.o.hsn, o.o.hen, o.o.hgn, h.l1, o.o.y1, o.o.y2, o.o.y3, o.o.y4, (fun e => by cases e), (fun e => by cases e), (fun e => by cases e), (fun e => by cases e), by obtain ⟨g, _, q, _⟩ := h.m3; show m.gn ≤ k3; omega, by obtain ⟨g, _, _, q, _⟩ := h.m3; exact q, h.s1, h.e1, h.g1r, h.t1, fun i x hx => ?_⟩, o.hz, o.hn, o.hg, fun i x hx => ?_, ?_, fun i x c hx hc => ?_⟩
  · obtain ⟨y, zs, _, l, b, v, _⟩ := key i x hx
    exact ⟨by omega, zs, l, v⟩
  · obtain ⟨y, zs, _, l, b, _⟩ := key i x hx
    omega
  · rw [hC.1, o.o.htn, h.l1]
  · obtain ⟨y, zs, hy, l, b, v, v', a1, a2, a3⟩ := key i x hx
    obtain ⟨b1, b2, b3, vc⟩ := hC.2 i y c hy hc
    have e := view_same v' (vc.kept hw.block)
    subst e
    exact ⟨a1.trans b1, a2.trans b2, a3.trans b3, v⟩
theorem BegR.le {m : Mt} {SL : List Slo} {EL : List Epo} {GL : List (Int × Int × Int)} {C : List TkC} {q : Ask} {r : Res} (h : BegR m SL EL GL C q r) : r.R.sn ≤ m.sn ∧ r.R.en ≤ m.en + 1 ∧ r.R.gn ≤ 1 ∧ r.R.tn ≤ m.tn := by
  rcases h with ⟨_, rfl⟩ | ⟨_, _, rfl⟩ | ⟨_, _, _, rfl⟩ | ⟨_, _, _, rfl⟩
  · exact ⟨Nat.zero_le _, Nat.zero_le _, Nat.zero_le _, Nat.zero_le _⟩
  · exact ⟨Nat.zero_le _, Nat.zero_le _, Nat.zero_le _, Nat.zero_le _⟩
  · exact ⟨Nat.zero_le _, Nat.zero_le _, Nat.zero_le _, Nat.zero_le _⟩
  · exact ⟨Nat.le_refl _, Nat.le_refl _, Nat.le_refl _, Nat.le_refl _⟩
/-- What spoil asks. -/
theorem spoil_ans {B V U : Nat} {W0 W : World} {r : Res} {p : Ptr} {T' : List Tk} {m : Mt} (h0 : Ans B W0 r p T') (hU : U = W0.heap.size) (h : Ans B W r p T') (hD : TkD T') (hB : B ≤ W.heap.size) (hUw : U ≤ W.heap.size) (n1 : r.R.sn ≤ 1599289640354) (n2 : r.R.en ≤ 1954687338212) (n3 : r.R.gn ≤ 1) (n4 : r.R.tn ≤ 2199023255488) (hl : ∀ (i : Nat) (x : Tk), T'[i]? = some x → x.l ≤ 8796093022208) : Calls Try.prog 12 #[.agg (mtC (r.R.at p))] W fun e w' => Hid (e = .returned (.tuple #[]) ∧ Kq B U W w') := by
  refine spoil_ok (r.R.at p) B U T' W hB hUw ?_ hD ?_ h.l4 (by show (r.R.sn + 4) * 88 ≤ _; omega) (by show (r.R.en + 4) * 72 ≤ _; omega) (by show (r.R.gn + 4) * 24 ≤ _; omega) (by show (r.R.tn + 4) * 64 ≤ _; omega) hl
  · subst hU
    refine ⟨fun g e => (h0.r4.o1.lt g e).2, fun g e => (h0.r4.o2.lt g e).2, fun g e => (h0.r4.o3.lt g e).2, fun g e => (h0.r4.o4.lt g e).2, fun i x hx g e => ?_⟩
    obtain ⟨c, hc⟩ : ∃ c, r.C[i]? = some c := ⟨r.C[i]'(by rw [h0.tk.1]; exact (List.getElem?_eq_some_iff.1 hx).1), List.getElem?_eq_getElem _⟩
    obtain ⟨_, _, _, v, _⟩ := h0.tk.2 i x c hx hc
    exact (v.lt g e).2
  · refine ⟨_, _, _, T', h.r4, h.l4, fun i x y _ hx hy => ?_⟩
    rw [hx] at hy
    cases hy
    obtain ⟨c, hc⟩ : ∃ c, r.C[i]? = some c := ⟨r.C[i]'(by rw [h.tk.1]; exact (List.getElem?_eq_some_iff.1 hx).1), List.getElem?_eq_getElem _⟩
    obtain ⟨_, _, _, v, _⟩ := h.tk.2 i x c hx hc
    exact ⟨rfl, rfl, rfl, c.zs, v⟩
end Go.Proofs.Ytmfnhdflmnmooaa
namespace Go.Proofs.Ytmfnhdflmnmooaa
open Go.RowKit
set_option linter.unusedVariables false
set_option linter.unusedSimpArgs false
theorem BegR.c {m : Mt} {SL : List Slo} {EL : List Epo} {GL : List (Int × Int × Int)} {C : List TkC} {q : Ask} {r : Res} (h : BegR m SL EL GL C q r) : r.C = C ∨ r.C = [] := by
  rcases h with ⟨_, rfl⟩ | ⟨_, _, rfl⟩ | ⟨_, _, _, rfl⟩ | ⟨_, _, _, rfl⟩
  · exact .inr rfl
  · exact .inr rfl
  · exact .inr rfl
  · exact .inl rfl
set_option maxHeartbeats 16000000 in
set_option maxRecDepth 100000 in
theorem begins_ok (m : Mt) (hot : Nat) (SL : List Slo) (EL : List Epo) (GL : List (Int × Int × Int)) (T : List Tk) (q : Ask) (w : World) (O : Hid (AskW w m hot SL EL GL T q)) :
    Calls Try.prog 3 #[.agg (stC m q)] w fun e w' => e = .returned (.bool true) ∧ Below w.heap.size w w' := by
  obtain ⟨C, hC⟩ := tkis_of T (fun i x hx => by obtain ⟨_, zs, _, hv⟩ := O.out.o.tV i x hx; exact ⟨zs, hv⟩)
  have HC : Hid (TkIs w T C) := hC
  clear hC
  obtain ⟨W0, hW0⟩ : ∃ W0, W0 = w.alloc (.cells (stC m q) 42) := ⟨_, rfl⟩
  have B0 : Hid (Below w.heap.size w W0) := by rw [hW0]; exact (Below.refl _ w).alloc (Nat.le_refl _) _
  have X0 : Hid (Sx0 W0 w.heap.size m q) := by rw [hW0]; exact World.alloc_heap_new w _
  have H5 : Hid (Calls Try.prog 5 #[.agg (mtC m)] W0 fun e w' => WideP T e ∧ Below W0.heap.size W0 w') := by
    refine wide_any m T (by have := O.out.o.y4; omega) (fun i x hx => (O.out.o.tV i x hx).1) W0 ⟨O.out.o.htn, ?_⟩
    rcases (O.out.o.t1.below B0.out) with h | h
    · left; have := O.out.o.htn; rw [h] at this; simpa using this.symm
    · exact .inr h
  go_enter Try.func3, Try.ntmps3
  go_upto_region 1 with fail
  rw [← hW0]
  clear hW0
  go_upto_if 12 with (first | (refine wpList_load_mid (by rfl) 36 (.tmp 10) (by rfl) w.heap.size 0 (by rfl) (mtC m).toList _ X0.out.m Try.underlying36 rfl (size36 _) ?_) | (go_at_call 5; refine H5.out.mono ?_; rintro e1 w1 ⟨⟨r, rfl, hr⟩, hb1⟩))
  clear H5
  have HR : Hid (r = false → tkS T ≤ 65536) := hr
  have HB1 : Hid (Below W0.heap.size W0 w1) := hb1
  clear hr hb1
  cases r
  case true =>
    go_wp2
    go_ret
    exact ⟨rfl, B0.out.trans (HB1.out.mono B0.out.size)⟩
  case false =>
    have hr := HR.out rfl
    have HT : Hid (∀ (i : Nat) (x : Tk), T[i]? = some x → x.l ≤ 65536) := fun i x hx => Nat.le_trans (le_sum_of_mem T x (List.mem_of_getElem? hx)) hr
    have HB : Hid (Below w.heap.size w w1) := B0.out.trans (HB1.out.mono B0.out.size)
    have X1 : Hid (Sx0 w1 w.heap.size m q) := X0.out.below HB1.out
    have H6 : Hid (Calls Try.prog 6 #[.agg (mtC m)] w1 fun e w' => RmP w1 m SL EL GL T e w') := by
      refine roomy_ok m SL EL GL T w1 O.out.o.hsn O.out.o.hen O.out.o.hgn O.out.o.htn O.out.o.y1 O.out.o.y2 O.out.o.y3 O.out.o.y4 O.out.o.z1 O.out.o.z2 O.out.o.z3 O.out.o.z4 (O.out.o.s1.below HB.out) (O.out.o.e1.below HB.out) (O.out.o.g1.below HB.out) (O.out.o.t1.below HB.out) (fun i x hx => ?_)
      obtain ⟨_, zs, hz, hv⟩ := O.out.o.tV i x hx
      exact ⟨HT.out i x hx, zs, hv.kept HB.out.block⟩
    clear HR hr X0 B0 HB1
    go_upto_region 4 with (first | (refine wpList_load_mid (by rfl) 36 (.tmp 13) (by rfl) w.heap.size 0 (by rfl) (mtC m).toList _ X1.out.m Try.underlying36 rfl (size36 _) ?_) | (go_at_call 6; refine H6.out.mono ?_; rintro e2 w2 ⟨g1, k1, g2, k2, g3, k3, g4, k4, T', rfl, tl, RR, TH, tb⟩) | (refine wpList_alloc_box (by rfl) (by rfl) ?_; intro W3 b3 hb3 hbl3 he3 hz3) | (refine wpList_store_box (by rfl) (.tmp 3) (.tmp 15) (by rfl) (cpM m g1 k1 g2 k2 g3 k3 (some ⟨g4, 0, none⟩) m.tn k4) b3 mt0 (by rfl) (by rfl) hb3 rfl ?_; intro W4 bn4 st4))
    try simp only [Act.put, List.setIfInBounds_toArray, List.set_cons_zero, List.set_cons_succ]
    have S24 : Below w2.heap.size w2 W4 := hbl3.trans (st4.below (by omega) (by rw [hz3]; omega))
    have HB2 : Below w.heap.size w w2 := HB.out.trans (tb.mono HB.out.size)
    have FX : Hid (Fy (w1.heap.size + 2) w.heap.size b3 m q g1 k1 g2 k2 g3 k3 g4 k4 SL EL GL T T' W4) := by
      have R := RR.below S24
      refine ⟨(X1.out.below tb).below S24, bn4, rv_own sloL_len R.o1, rv_own epoL_len R.o2, rv_own sgZ_len R.o3, rv_own tkL_len R.o4, tl, ?_, mk2_own sloL_len O.out.o.hsn R.o1 rfl rfl, mk2_own epoL_len O.out.o.hen R.o2 rfl rfl, mk2_own sgZ_len O.out.o.hgn R.o3 rfl rfl, mk2_own tkL_len tl R.o4 rfl rfl⟩
      intro i x y hx hy
      obtain ⟨a, b, c, zs, hv, h1, _⟩ := (TH.below S24) i x y hx hy
      have hi : i < T'.length := (List.getElem?_eq_some_iff.1 hx).1
      exact ⟨a, b, c, zs, h1 (by omega), hv.kept (tb.trans (S24.mono tb.size)).block⟩
    have HW4 : Hid (Below w.heap.size w W4) := HB2.trans (S24.mono HB2.size)
    clear RR TH tb tl bn4 st4 hb3 hbl3 he3 hz3 S24 HB2 HB X1 H6
    have H7a : Hid (Calls Try.prog 7 #[.agg (mtC (cpM m g1 k1 g2 k2 g3 k3 (some ⟨g4, 0, none⟩) m.tn k4)), .agg (epA q.to), .agg #[.int .i64 q.ao, .int .i64 q.az], .agg (tuA q.cs q.md q.bk q.ht)] W4 fun e w' => AnsP W4 m SL EL GL C q e w') := begin_ok (cpM m g1 k1 g2 k2 g3 k3 (some ⟨g4, 0, none⟩) m.tn k4) hot SL EL GL T' C q W4 (FX.out.ask O.out HW4.out HC.out HT.out)
    go_upto_region 5 with (first | (refine wpList_load_mid (by rfl) 36 (.tmp 3) (by rfl) b3 0 (by rfl) (mtC (cpM m g1 k1 g2 k2 g3 k3 (some ⟨g4, 0, none⟩) m.tn k4)).toList _ FX.out.bn.range Try.underlying36 rfl (size36 _) ?_) | (refine wpList_load_mid (by rfl) 38 _ (by rfl) w.heap.size 27 (by rfl) (epA q.to).toList _ FX.out.st.e Try.underlying38 rfl (by kernel_rfl) ?_) | (refine wpList_load_mid (by rfl) 31 _ (by rfl) w.heap.size 32 (by rfl) [.int .i64 q.ao, .int .i64 q.az] _ FX.out.st.a Try.underlying31 rfl (by kernel_rfl) ?_) | (refine wpList_load_mid (by rfl) 40 _ (by rfl) w.heap.size 34 (by rfl) (tuA q.cs q.md q.bk q.ht).toList _ FX.out.st.t Try.underlying40 rfl (by kernel_rfl) ?_) | (go_at_call 7; refine H7a.out.mono ?_; rintro ea Wa ⟨ra, pa, Ta, rfl, hra, ansa, da, ba⟩) | (refine wpList_alloc_box (by rfl) (by rfl) ?_; intro W5 b4 hbb4 hblb4 heb4x hzb4x; have heb4 : Hid _ := heb4x; have hzb4 : Hid _ := hzb4x; clear heb4x hzb4x) | (refine wpList_store_box (by rfl) (.tmp 4) (.tmp 25) (by rfl) (ra.R.at pa) b4 mt0 (by rfl) (by rfl) hbb4 rfl ?_; intro W5s bnb4 stb4))
    try simp only [Act.put, List.setIfInBounds_toArray, List.set_cons_zero, List.set_cons_succ]
    have S5 : Below Wa.heap.size Wa W5s := hblb4.trans (stb4.below (by have := heb4.out; omega) (by rw [hzb4.out]; have := heb4.out; omega))
    have Hw5 : Hid (Below W4.heap.size W4 W5s) := ba.trans (S5.mono ba.size)
    have FX5 : Hid (Fy (w1.heap.size + 2) w.heap.size b3 m q g1 k1 g2 k2 g3 k3 g4 k4 SL EL GL T T' W5s) := FX.out.below Hw5.out
    have AA0 : Hid (Ans W4.heap.size Wa ra pa Ta) := ansa
    have AA : Hid (Ans W4.heap.size W5s ra pa Ta) := ansa.below S5
    have DA : Hid (TkD Ta) := da
    have HRa : Hid (BegR m SL EL GL C q ra) := hra
    have BA4 : Hid (Bx W5s b4 (ra.R.at pa)) := bnb4
    have HU : Hid (Wa.heap.size ≤ W5s.heap.size ∧ W4.heap.size ≤ Wa.heap.size) := ⟨S5.size, ba.size⟩
    have HW5 : Hid (Below w.heap.size w W5s) := HW4.out.trans (Hw5.out.mono HW4.out.size)
    clear H7a hblb4 stb4 hbb4 heb4 hzb4 bnb4 S5 ansa da hra ba
    have H7b : Hid (Calls Try.prog 7 #[.agg (mtC (cpM m g1 k1 g2 k2 g3 k3 (some ⟨g4, 0, none⟩) m.tn k4)), .agg (epA q.to), .agg #[.int .i64 q.ao, .int .i64 q.az], .agg (tuA q.cs q.md q.bk q.ht)] W5s fun e w' => AnsP W5s m SL EL GL C q e w') := begin_ok (cpM m g1 k1 g2 k2 g3 k3 (some ⟨g4, 0, none⟩) m.tn k4) hot SL EL GL T' C q W5s (FX5.out.ask O.out HW5.out HC.out HT.out)
    go_upto_region 6 with (first | (refine wpList_load_mid (by rfl) 36 (.tmp 3) (by rfl) b3 0 (by rfl) (mtC (cpM m g1 k1 g2 k2 g3 k3 (some ⟨g4, 0, none⟩) m.tn k4)).toList _ FX5.out.bn.range Try.underlying36 rfl (size36 _) ?_) | (refine wpList_load_mid (by rfl) 38 _ (by rfl) w.heap.size 27 (by rfl) (epA q.to).toList _ FX5.out.st.e Try.underlying38 rfl (by kernel_rfl) ?_) | (refine wpList_load_mid (by rfl) 31 _ (by rfl) w.heap.size 32 (by rfl) [.int .i64 q.ao, .int .i64 q.az] _ FX5.out.st.a Try.underlying31 rfl (by kernel_rfl) ?_) | (refine wpList_load_mid (by rfl) 40 _ (by rfl) w.heap.size 34 (by rfl) (tuA q.cs q.md q.bk q.ht).toList _ FX5.out.st.t Try.underlying40 rfl (by kernel_rfl) ?_) | (go_at_call 7; refine H7b.out.mono ?_; rintro eb Wb ⟨rb, pb, Tb, rfl, hrb, ansb, db, bb⟩) | (refine wpList_alloc_box (by rfl) (by rfl) ?_; intro W6 b6 hbb6 hblb6 heb6x hzb6x; have heb6 : Hid _ := heb6x; have hzb6 : Hid _ := hzb6x; clear heb6x hzb6x) | (refine wpList_store_box (by rfl) (.tmp 6) (.tmp 36) (by rfl) (rb.R.at pb) b6 mt0 (by rfl) (by rfl) hbb6 rfl ?_; intro W6s bnb6 stb6))
    try simp only [Act.put, List.setIfInBounds_toArray, List.set_cons_zero, List.set_cons_succ]
    obtain rfl := BegR.one HRa.out hrb
    have S6 : Below Wb.heap.size Wb W6s := hblb6.trans (stb6.below (by have := heb6.out; omega) (by rw [hzb6.out]; have := heb6.out; omega))
    have Hw6 : Hid (Below W5s.heap.size W5s W6s) := bb.trans (S6.mono bb.size)
    have FX6 : Hid (Fy (w1.heap.size + 2) w.heap.size b3 m q g1 k1 g2 k2 g3 k3 g4 k4 SL EL GL T T' W6s) := FX5.out.below Hw6.out
    have AB : Hid (Ans W5s.heap.size W6s ra pb Tb) := ansb.below S6
    have AA6 : Hid (Ans W4.heap.size W6s ra pa Ta) := AA.out.below Hw6.out
    have BA6 : Hid (Bx W6s b4 (ra.R.at pa)) := BA4.out.below Hw6.out
    have BB6 : Hid (Bx W6s b6 (ra.R.at pb) ∧ W5s.heap.size ≤ b6) := ⟨bnb6, by have := bb.size; have := heb6.out; omega⟩
    have HW6 : Hid (Below w.heap.size w W6s) := HW5.out.trans (Hw6.out.mono HW5.out.size)
    clear H7b hblb6 stb6 hbb6 heb6 hzb6 bnb6 S6 ansb db hrb bb AA BA4 FX5
    have H8 : Hid (Calls Try.prog 8 #[.agg (mtC m), .agg (epA q.to), .agg #[.int .i64 q.ao, .int .i64 q.az], .agg (tuA q.cs q.md q.bk q.ht)] W6s fun e w' => AnsQ W6s m SL EL GL C q e w') := by
      refine rbegin_ok m hot SL EL GL T C q W6s ⟨?_, O.out.hz, O.out.hn, O.out.hg, fun i x hx => by have := HT.out i x hx; omega, HC.out.1, fun i x c hx hc => ?_⟩
      · have o := O.out.o
        exact ⟨o.hC, o.hC9, o.hh, o.hz, o.hsz, o.hsn, o.hen, o.hgn, o.htn, o.y1, o.y2, o.y3, o.y4, o.z1, o.z2, o.z3, o.z4, o.c1, o.c2, o.s1.below HW6.out, o.e1.below HW6.out, o.g1.below HW6.out, o.t1.below HW6.out, fun i x hx => by obtain ⟨a, zs, b, v⟩ := o.tV i x hx; exact ⟨a, zs, b, v.kept HW6.out.block⟩⟩
      · obtain ⟨a, b, d, v⟩ := HC.out.2 i x c hx hc
        exact ⟨a, b, d, v.kept HW6.out.block⟩
    go_upto_region 7 with (first | (refine wpList_load_mid (by rfl) 36 (.tmp 39) (by rfl) w.heap.size 0 (by rfl) (mtC m).toList _ FX6.out.st.m Try.underlying36 rfl (size36 _) ?_) | (refine wpList_load_mid (by rfl) 38 _ (by rfl) w.heap.size 27 (by rfl) (epA q.to).toList _ FX6.out.st.e Try.underlying38 rfl (by kernel_rfl) ?_) | (refine wpList_load_mid (by rfl) 31 _ (by rfl) w.heap.size 32 (by rfl) [.int .i64 q.ao, .int .i64 q.az] _ FX6.out.st.a Try.underlying31 rfl (by kernel_rfl) ?_) | (refine wpList_load_mid (by rfl) 40 _ (by rfl) w.heap.size 34 (by rfl) (tuA q.cs q.md q.bk q.ht).toList _ FX6.out.st.t Try.underlying40 rfl (by kernel_rfl) ?_) | (go_at_call 8; refine H8.out.mono ?_; rintro ew Ww ⟨rw', pw, Tw, rfl, hrw, answ, bw⟩) | (refine wpList_alloc_box (by rfl) (by rfl) ?_; intro W7 b8 hbb8 hblb8 heb8x hzb8x; have heb8 : Hid _ := heb8x; have hzb8 : Hid _ := hzb8x; clear heb8x hzb8x) | (refine wpList_store_box (by rfl) (.tmp 8) (.tmp 48) (by rfl) (rw'.R.at pw) b8 mt0 (by rfl) (by rfl) hbb8 rfl ?_; intro W7s bnb8 stb8))
    try simp only [Act.put, List.setIfInBounds_toArray, List.set_cons_zero, List.set_cons_succ]
    obtain rfl := BegR.one HRa.out hrw
    have S7 : Below Ww.heap.size Ww W7s := hblb8.trans (stb8.below (by have := heb8.out; omega) (by rw [hzb8.out]; have := heb8.out; omega))
    have Hw7 : Hid (Below W6s.heap.size W6s W7s) := bw.trans (S7.mono bw.size)
    have FX7 : Hid (Fy (w1.heap.size + 2) w.heap.size b3 m q g1 k1 g2 k2 g3 k3 g4 k4 SL EL GL T T' W7s) := FX6.out.below Hw7.out
    have AW : Hid (Ans W6s.heap.size W7s ra pw Tw) := answ.below S7
    have AB7 : Hid (Ans W5s.heap.size W7s ra pb Tb) := AB.out.below Hw7.out
    have AA7 : Hid (Ans W4.heap.size W7s ra pa Ta) := AA6.out.below Hw7.out
    have BA7 : Hid (Bx W7s b4 (ra.R.at pa)) := BA6.out.below Hw7.out
    have BB7 : Hid (Bx W7s b6 (ra.R.at pb) ∧ W5s.heap.size ≤ b6) := ⟨BB6.out.1.below Hw7.out, BB6.out.2⟩
    have BW7 : Hid (Bx W7s b8 (ra.R.at pw) ∧ W6s.heap.size ≤ b8) := ⟨bnb8, by have := bw.size; have := heb8.out; omega⟩
    have HW7 : Hid (Below w.heap.size w W7s) := HW6.out.trans (Hw7.out.mono HW6.out.size)
    have H47 : Hid (Below W4.heap.size W4 W7s ∧ Wa.heap.size ≤ W5s.heap.size ∧ W5s.heap.size ≤ W6s.heap.size ∧ W6s.heap.size ≤ W7s.heap.size ∧ W4.heap.size ≤ Wa.heap.size) := ⟨Hw5.out.trans ((Hw6.out.trans (Hw7.out.mono Hw6.out.size)).mono Hw5.out.size), HU.out.1, Hw6.out.size, Hw7.out.size, HU.out.2⟩
    have HCl : Hid (∀ (i : Nat) (c : TkC), ra.C[i]? = some c → c.zs.length ≤ 65536) := fun i c hc => by
      rcases HRa.out.c with e | e
      · rw [e] at hc
        obtain ⟨x, hx⟩ : ∃ x, T[i]? = some x := ⟨T[i]'(by rw [← HC.out.1]; exact (List.getElem?_eq_some_iff.1 hc).1), List.getElem?_eq_getElem _⟩
        obtain ⟨_, _, _, v⟩ := HC.out.2 i x c hx hc
        have l := (rv_view v).1
        have := HT.out i x hx
        omega
      · rw [e] at hc
        simp at hc
    have HLe : Hid (ra.R.sn ≤ m.sn ∧ ra.R.en ≤ m.en + 1 ∧ ra.R.gn ≤ 1 ∧ ra.R.tn ≤ m.tn) := HRa.out.le
    clear H8 hblb8 stb8 hbb8 heb8 hzb8 bnb8 S7 answ hrw bw AB AA6 BA6 BB6 FX6 Hw5 Hw6 Hw7 HW5 HW6 HU HRa
    have HNum : Hid (∀ v, Calls Try.prog 9 #[.int .i64 ra.E] v fun e w' => e = .returned (.int .i64 ra.E) ∧ w' = v) := fun v => num_ok ra.E v
    have hb1 : ra.R.sn ≤ 1000000000000000 ∧ ra.R.en ≤ 1000000000000000 ∧ ra.R.gn ≤ 1000000000000000 ∧ ra.R.tn ≤ 1000000000000000 := by
      have := HLe.out
      have := O.out.v1
      have := O.out.v2
      have := O.out.v4
      omega
    have HSn : Hid (ra.R.sn ≤ 1000000000000000 ∧ ra.R.en ≤ 1000000000000000 ∧ ra.R.gn ≤ 1000000000000000 ∧ ra.R.tn ≤ 1000000000000000) := hb1
    clear hb1
    have P1 : Hid (Calls Try.prog 10 #[.agg (mtC (ra.R.at pa)), .agg (mtC (ra.R.at pw))] W7s fun e w' => e = .returned (.bool true) ∧ Below W7s.heap.size W7s w') := same_ans AA7.out AW.out HSn.out.1 HSn.out.2.1 HSn.out.2.2.1 HSn.out.2.2.2
    have P2 : Hid (∀ u, Below W7s.heap.size W7s u → Calls Try.prog 10 #[.agg (mtC (ra.R.at pb)), .agg (mtC (ra.R.at pw))] u fun e w' => e = .returned (.bool true) ∧ Below u.heap.size u w') := fun u hu => same_ans (AB7.out.below hu) (AW.out.below hu) HSn.out.1 HSn.out.2.1 HSn.out.2.2.1 HSn.out.2.2.2
    have HUn : Hid (∀ u, Fy (w1.heap.size + 2) w.heap.size b3 m q g1 k1 g2 k2 g3 k3 g4 k4 SL EL GL T T' u → Below w.heap.size w u → Calls Try.prog 11 #[.agg (mtC (cpM m g1 k1 g2 k2 g3 k3 (some ⟨g4, 0, none⟩) m.tn k4)), .agg (mtC m)] u fun e w' => e = .returned (.bool true) ∧ Below u.heap.size u w') := fun u hf hu =>
      unt_ok (cpM m g1 k1 g2 k2 g3 k3 (some ⟨g4, 0, none⟩) m.tn k4) ⟨m.sp, m.sc, m.ep, m.ec, m.gp, m.gc, m.tp, m.tc⟩ SL EL (fun i => GL.getD i (0, 0, 0)) T' T (w1.heap.size + 2) O.out.o.hsn O.out.o.hen hf.l1 O.out.o.htn (by have := O.out.o.y1; show m.sn ≤ _; omega) (by have := O.out.o.y2; show m.en ≤ _; omega) (by have := O.out.o.y3; show m.gn ≤ _; omega) (by have := O.out.o.y4; show m.tn ≤ _; omega) u hf.s1 (O.out.o.s1.below hu) hf.e1 (O.out.o.e1.below hu) (segV_rv hf.g1r O.out.o.hgn) ((segV_rv O.out.o.g1 O.out.o.hgn).below hu) hf.t1 (O.out.o.t1.below hu) hf.tm hf.m1 hf.m2 hf.m3 hf.m4
    go_upto_region 9 with (first
      | (go_at_call 9; refine (HNum.out _).mono ?_; rintro e7 w7 ⟨rfl, hw7⟩; obtain rfl := hw7.symm)
      | (go_at_call 10; refine P1.out.mono ?_; rintro e8 u1 ⟨rfl, hu1⟩; clear P1)
      | (go_at_call 10; refine (P2.out _ hu1).mono ?_; rintro e9 u2 ⟨rfl, hu2'⟩; have hu2 : Below W7s.heap.size W7s u2 := hu1.trans (hu2'.mono hu1.size); have FXu := FX7.out.below hu2)
      | (go_at_call 11; refine (HUn.out _ FXu (HW7.out.trans (hu2.mono HW7.out.size))).mono ?_; rintro e10 u3 ⟨rfl, hu3'⟩; have hu3 : Below W7s.heap.size W7s u3 := hu2.trans (hu3'.mono hu2.size))
      | (refine wpList_load_want (by rfl) 36 (.tmp 4) (by rfl) b4 0 (by rfl) (mtC (ra.R.at pa)).toList _ BA7.out.range Try.underlying36 rfl (size36 _) ?_)
      | (refine wpList_load_want (by rfl) 36 (.tmp 8) (by rfl) b8 0 (by rfl) (mtC (ra.R.at pw)).toList _ BW7.out.1.range Try.underlying36 rfl (size36 _) ?_)
      | (refine wpList_load_want (by rfl) 36 (.tmp 6) (by rfl) b6 0 (by rfl) (mtC (ra.R.at pb)).toList _ (BB7.out.1.below hu1).range Try.underlying36 rfl (size36 _) ?_)
      | (refine wpList_load_want (by rfl) 36 (.tmp 8) (by rfl) b8 0 (by rfl) (mtC (ra.R.at pw)).toList _ (BW7.out.1.below hu1).range Try.underlying36 rfl (size36 _) ?_)
      | (refine wpList_load_want (by rfl) 36 (.tmp 3) (by rfl) b3 0 (by rfl) (mtC (cpM m g1 k1 g2 k2 g3 k3 (some ⟨g4, 0, none⟩) m.tn k4)).toList _ FXu.bn.range Try.underlying36 rfl (size36 _) ?_)
      | (refine wpList_load_want (by rfl) 36 (.tmp 74) (by rfl) w.heap.size 0 (by rfl) (mtC m).toList _ FXu.st.m Try.underlying36 rfl (size36 _) ?_))
    have HU3 : Hid (Below W7s.heap.size W7s u3) := hu3
    clear hu3 hu2 hu1 hu3' hu2' FXu P2 HNum
    have HSp : Hid (Calls Try.prog 12 #[.agg (mtC (ra.R.at pa))] u3 fun e w' => Hid (e = .returned (.tuple #[]) ∧ Kq W4.heap.size Wa.heap.size u3 w')) := by
      have h1 := H47.out
      have h2 := HU3.out.size
      have h3 := HLe.out
      have h4 := O.out.v1
      have h5 := O.out.v2
      have h6 := O.out.v4
      refine spoil_ans (V := 0) (m := m) AA0.out rfl (AA7.out.below HU3.out) DA.out (by omega) (by omega) (by omega) (by omega) (by omega) (by omega) (fun i x hx => ?_)
      obtain ⟨c, hc⟩ : ∃ c, ra.C[i]? = some c := ⟨ra.C[i]'(by rw [AA0.out.tk.1]; exact (List.getElem?_eq_some_iff.1 hx).1), List.getElem?_eq_getElem _⟩
      obtain ⟨_, _, _, v, l⟩ := AA0.out.tk.2 i x c hx hc
      have := HCl.out i c hc
      omega
    go_upto_region 10 with (first | (go_at_call 12; refine HSp.out.mono ?_; intro e11 u4 hh11; obtain ⟨he11, hkq⟩ := hh11.out; subst he11) | (refine wpList_load_mid (by rfl) 36 (.tmp 4) (by rfl) b4 0 (by rfl) (mtC (ra.R.at pa)).toList _ (BA7.out.below HU3.out).range Try.underlying36 rfl (size36 _) ?_))
    have KQ : Hid (Kq W4.heap.size Wa.heap.size u3 u4) := hkq
    clear hkq hh11 HSp
    have hs47 := H47.out
    have B4 : Hid (Below W4.heap.size W4 u4) := KQ.out.under (H47.out.1.trans (HU3.out.mono H47.out.1.size)) (Nat.le_refl _)
    have FXz : Hid (Fy (w1.heap.size + 2) w.heap.size b3 m q g1 k1 g2 k2 g3 k3 g4 k4 SL EL GL T T' u4) := FX.out.below B4.out
    have HWz : Hid (Below w.heap.size w u4) := HW4.out.trans (B4.out.mono HW4.out.size)
    have AB9 : Hid (Ans W5s.heap.size u4 ra pb Tb) := (AB7.out.below HU3.out).kq KQ.out (by omega)
    have AW9 : Hid (Ans W6s.heap.size u4 ra pw Tw) := (AW.out.below HU3.out).kq KQ.out (by omega)
    have BB9 : Hid (Bx u4 b6 (ra.R.at pb)) := (KQ.out.blk b6 (BB7.out.1.below HU3.out).lt (by have := BB7.out.2; omega)).trans (BB7.out.1.below HU3.out)
    have BW9 : Hid (Bx u4 b8 (ra.R.at pw)) := (KQ.out.blk b8 (BW7.out.1.below HU3.out).lt (by have := BW7.out.2; omega)).trans (BW7.out.1.below HU3.out)
    clear hs47 KQ FX7 AB7 AW BA7 BB7 BW7 AA7 AA0 B4 FX HU3
    have P3 : Hid (Calls Try.prog 10 #[.agg (mtC (ra.R.at pb)), .agg (mtC (ra.R.at pw))] u4 fun e w' => e = .returned (.bool true) ∧ Below u4.heap.size u4 w') := same_ans AB9.out AW9.out HSn.out.1 HSn.out.2.1 HSn.out.2.2.1 HSn.out.2.2.2
    have HRo : Hid (∀ v, Calls Try.prog 13 #[.int .i64 512, .int .i64 1, .int .u64 4096] v fun e w' => e = .returned (.bool true) ∧ w' = v) := fun v => rooms_ok 512 1 4096 v
    go_wp2_with (first
      | (go_at_call 10; refine P3.out.mono ?_; rintro e12 u5 ⟨rfl, hu5⟩; have FXq := FXz.out.below hu5)
      | (go_at_call 11; refine (HUn.out _ FXq (HWz.out.trans (hu5.mono HWz.out.size))).mono ?_; rintro e13 u6 ⟨rfl, hu6⟩)
      | (go_at_call 13; refine (HRo.out _).mono ?_; rintro e14 w14 ⟨rfl, hw14⟩; obtain rfl := hw14.symm)
      | (refine wpList_load_mid (by rfl) 36 (.tmp 6) (by rfl) b6 0 (by rfl) (mtC (ra.R.at pb)).toList _ BB9.out.range Try.underlying36 rfl (size36 _) ?_)
      | (refine wpList_load_mid (by rfl) 36 (.tmp 8) (by rfl) b8 0 (by rfl) (mtC (ra.R.at pw)).toList _ BW9.out.range Try.underlying36 rfl (size36 _) ?_)
      | (refine wpList_load_want (by rfl) 36 (.tmp 3) (by rfl) b3 0 (by rfl) (mtC (cpM m g1 k1 g2 k2 g3 k3 (some ⟨g4, 0, none⟩) m.tn k4)).toList _ FXq.bn.range Try.underlying36 rfl (size36 _) ?_)
      | (refine wpList_load_want (by rfl) 36 (.tmp 86) (by rfl) w.heap.size 0 (by rfl) (mtC m).toList _ FXq.st.m Try.underlying36 rfl (size36 _) ?_))
    go_ret
    have b5 := HWz.out.trans (hu5.mono HWz.out.size)
    exact ⟨rfl, b5.trans (hu6.mono b5.size)⟩
end Go.Proofs.Ytmfnhdflmnmooaa
