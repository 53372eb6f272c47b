import Derived.Test.YtmfnhdflmnmooaaRmy
import Derived.Test.YtmfnhdflmnmooaaUnt
import Derived.Test.YtmfnhdflmnmooaaNxn
namespace Go.Proofs.Ytmfnhdflmnmooaa
open Go.RowKit
set_option linter.unusedVariables false
set_option linter.unusedSimpArgs false
theorem le_sum_of_mem (T : List Tk) (x : Tk) (h : x ∈ T) : x.l ≤ tkS T := by
  induction T with
  | nil => simp at h
  | cons y T ih =>
    simp only [tkS, List.map_cons, List.sum_cons]
    rcases List.mem_cons.1 h with rfl | h
    · omega
    · have := ih h
      unfold tkS at this
      omega
theorem segV_rv {w : World} {p : Option Addr} {n c : Nat} {GL : List (Int × Int × Int)} (h : RV sgZ 3 w p GL) (hl : GL.length = n) : SegV w (.slice p n c) n (fun i => GL.getD i (0, 0, 0)) := by
  refine ⟨p, c, rfl, fun hn => ?_⟩
  rcases h with h | ⟨b, off, hp, hb, hc⟩
  · rw [h] at hl; simp at hl; omega
  · refine ⟨b, off, hp, fun i hi => ?_⟩
    have hx : GL[i]? = some (GL.getD i (0, 0, 0)) := by
      rw [List.getD_eq_getElem?_getD, List.getElem?_eq_getElem (by omega)]
      rfl
    have q := hc i _ hx
    refine ⟨?_, q 1 _ rfl, q 2 _ rfl⟩
    have q0 := q 0 _ rfl
    simpa using q0
theorem mk2_own {α : Type} {L : α → List Value} {sz : Nat} (hL : ∀ x, (L x).length = sz) {w : World} {B e g n c o : Nat} {l : List α} {a b : α} {v1 v2 : Value} (hl : l.length = n) (h : w.ownsRow B e sz (.slice (some ⟨g, 0, none⟩) (n + 2) c) (n + 2) (l.flatMap L ++ [a, b].flatMap L)) (h1 : (L a)[o]? = some v1) (h2 : (L b)[o]? = some v2) : Mk2 w (some ⟨g, 0, none⟩) n c sz o v1 v2 := by
  have hc : n + 2 ≤ c ∧ c ≤ maxLen := by
    rcases h.2 with ⟨q, _⟩ | ⟨g', c', cur, he, _, _, q1, q2, _⟩
    · cases q
    · cases he; exact ⟨q1, q2⟩
  have hr : RV L sz w (some ⟨g, 0, none⟩) (l ++ [a, b]) := by
    refine rv_own hL (rest := []) (e := e) (B := B) (N := n + 2) (c := c) ?_
    rw [List.append_nil, List.flatMap_append]
    exact h
  refine ⟨g, rfl, hc.1, by have := hc.2; unfold maxLen at this; omega, ?_, ?_⟩
  · obtain ⟨b', o', hp, _, q⟩ := hr.get (k := n) (x := a) (by rw [List.getElem?_append_right (by omega), hl, Nat.sub_self]; rfl)
    simp only [Option.some.injEq, Addr.mk.injEq] at hp
    obtain ⟨rfl, rfl, _⟩ := hp
    have := q o v1 h1
    simpa using this
  · obtain ⟨b', o', hp, _, q⟩ := hr.get (k := n + 1) (x := b) (by rw [List.getElem?_append_right (by omega), hl, Nat.add_sub_cancel_left]; rfl)
    simp only [Option.some.injEq, Addr.mk.injEq] at hp
    obtain ⟨rfl, rfl, _⟩ := hp
    have := q o v2 h2
    simpa using this
theorem own_cap {w : World} {B e sz g n c : Nat} {xs : List Value} (h : w.ownsRow B e sz (.slice (some ⟨g, 0, none⟩) n c) n xs) : n ≤ c ∧ c ≤ 9223372036854775807 := by
  rcases h.2 with ⟨q, _⟩ | ⟨g', c', cur, he, _, _, q1, q2, _⟩
  · cases q
  · cases he; exact ⟨q1, by unfold maxLen at q2; omega⟩
/-- Metadata that came in: all that the laws' walks ask. -/
structure MtO (W : World) (m : Mt) (hot : Nat) (SL : List Slo) (EL : List Epo) (GL : List (Int × Int × Int)) (T : List Tk) : Prop where
  hC : 0 ≤ m.C
  hC9 : m.C ≤ 18446744073709551615
  hh : m.hot = (hot : Int)
  hz : m.az ≤ 9223372036854775807
  hsz : m.sum.size ≤ 9223372036854775807
  hsn : SL.length = m.sn
  hen : EL.length = m.en
  hgn : GL.length = m.gn
  htn : T.length = m.tn
  y1 : (m.sn + 2) * 88 ≤ 140737488355328
  y2 : (m.en + 2) * 72 ≤ 140737488355328
  y3 : (m.gn + 2) * 24 ≤ 140737488355328
  y4 : (m.tn + 2) * 64 ≤ 140737488355328
  z1 : m.sp = none → m.sc = 0
  z2 : m.ep = none → m.ec = 0
  z3 : m.gp = none → m.gc = 0
  z4 : m.tp = none → m.tc = 0
  c1 : m.gn ≤ m.gc
  c2 : m.gc ≤ 9223372036854775807
  s1 : RV sloL 9 W m.sp SL
  e1 : RV epoL 5 W m.ep EL
  g1 : RV sgZ 3 W m.gp GL
  t1 : RV tkL 4 W m.tp T
  tV : ∀ (i : Nat) (x : Tk), T[i]? = some x → x.l ≤ 1000000000000000 ∧ ∃ zs, zs.length = x.l ∧ View W (.slice x.p x.l x.c) zs
theorem MtO.ok {W : World} {m : Mt} {hot : Nat} {SL : List Slo} {EL : List Epo} {GL : List (Int × Int × Int)} {T : List Tk} (h : MtO W m hot SL EL GL T) : MetaOk W m hot EL (fun i => GL.getD i (0, 0, 0)) :=
  ⟨h.hC, h.hC9, h.hh, h.hz, h.hsz, h.c1, h.c2, by have := h.y3; omega, h.hen, by have := h.y2; omega, h.e1, segV_rv h.g1 h.hgn⟩
/-- The copy beside the original. -/
structure Fx (B : Nat) (b0 b3 : Nat) (m : Mt) (g1 k1 g2 k2 g3 k3 g4 k4 : Nat) (SL : List Slo) (EL : List Epo) (GL : List (Int × Int × Int)) (T T' : List Tk) (W : World) : Prop where
  bx : Bx W b0 m
  bn : Bx W b3 (cpM m g1 k1 g2 k2 g3 k3 (some ⟨g4, 0, none⟩) m.tn k4)
  s1 : RV sloL 9 W (some ⟨g1, 0, none⟩) SL
  e1 : RV epoL 5 W (some ⟨g2, 0, none⟩) EL
  q1 : SegV W (.slice (some ⟨g3, 0, none⟩) m.gn k3) m.gn (fun i => GL.getD i (0, 0, 0))
  t1 : RV tkL 4 W (some ⟨g4, 0, none⟩) T'
  l1 : T'.length = m.tn
  tm : TkM B W T' T
  m1 : Mk2 W (some ⟨g1, 0, none⟩) m.sn k1 9 0 (.int .i64 501) (.int .i64 502)
  m2 : Mk2 W (some ⟨g2, 0, none⟩) m.en k2 5 0 (.int .u64 501) (.int .u64 502)
  m3 : Mk2 W (some ⟨g3, 0, none⟩) m.gn k3 3 2 (.int .u64 501) (.int .u64 502)
  m4 : Mk2 W (some ⟨g4, 0, none⟩) m.tn k4 4 0 (.int .i64 501) (.int .i64 502)
theorem TkM.below {B : Nat} {w w' : World} {T T2 : List Tk} (h : TkM B w T T2) (hb : Below w.heap.size w w') : TkM B w' T T2 := fun i x y hx hy => by
  obtain ⟨a, b, c, zs, h1, h2⟩ := h i x y hx hy
  exact ⟨a, b, c, zs, h1.kept hb.block, h2.kept hb.block⟩
theorem Fx.below {B b0 b3 : Nat} {m : Mt} {g1 k1 g2 k2 g3 k3 g4 k4 : Nat} {SL : List Slo} {EL : List Epo} {GL : List (Int × Int × Int)} {T T' : List Tk} {W W' : World} (h : Fx B b0 b3 m g1 k1 g2 k2 g3 k3 g4 k4 SL EL GL T T' W) (hb : Below W.heap.size W W') : Fx B b0 b3 m g1 k1 g2 k2 g3 k3 g4 k4 SL EL GL T T' W' :=
  ⟨h.bx.below hb, h.bn.below hb, h.s1.below hb, h.e1.below hb, h.q1.below hb, h.t1.below hb, h.l1, h.tm.below hb, h.m1.below hb, h.m2.below hb, h.m3.below hb, h.m4.below hb⟩
theorem Fx.ok {B b0 b3 : Nat} {m : Mt} {g1 k1 g2 k2 g3 k3 g4 k4 hot : Nat} {SL : List Slo} {EL : List Epo} {GL : List (Int × Int × Int)} {T T' : List Tk} {W w : World} (h : Fx B b0 b3 m g1 k1 g2 k2 g3 k3 g4 k4 SL EL GL T T' W) (o : MtO w m hot SL EL GL T) : MetaOk W (cpM m g1 k1 g2 k2 g3 k3 (some ⟨g4, 0, none⟩) m.tn k4) hot EL (fun i => GL.getD i (0, 0, 0)) :=
  ⟨o.hC, o.hC9, o.hh, o.hz, o.hsz, by obtain ⟨g, _, q, _⟩ := h.m3; show m.gn ≤ k3; omega, by obtain ⟨g, _, _, q, _⟩ := h.m3; exact q, by have := o.y3; show m.gn ≤ _; omega, o.hen, by have := o.y2; show m.en ≤ _; omega, h.e1, h.q1⟩
set_option maxHeartbeats 8000000 in
set_option maxRecDepth 100000 in
theorem nexts_ok (m : Mt) (hot : Nat) (SL : List Slo) (EL : List Epo) (GL : List (Int × Int × Int)) (T : List Tk) (w : World) (O : Hid (MtO w m hot SL EL GL T)) :
    Calls Try.prog 4 #[.agg (mtC m)] w fun e w' => e = .returned (.bool true) ∧ Below w.heap.size w w' := by
  obtain ⟨W0, hW0⟩ : ∃ W0, W0 = w.alloc (.cells (mtC m) 36) := ⟨_, rfl⟩
  have B0 : Hid (Below w.heap.size w W0) := by rw [hW0]; exact (Below.refl _ w).alloc (Nat.le_refl _) _
  have X0 : Hid (Bx W0 w.heap.size m) := by rw [hW0]; exact World.alloc_heap_new w _
  have H5 : Hid (Calls Try.prog 5 #[.agg (mtC m)] W0 fun e w' => WideP T e ∧ Below W0.heap.size W0 w') := by
    refine wide_any m T (by have := O.out.y4; omega) (fun i x hx => (O.out.tV i x hx).1) W0 ⟨O.out.htn, ?_⟩
    rcases (O.out.t1.below B0.out) with h | h
    · left; have := O.out.htn; rw [h] at this; simpa using this.symm
    · exact .inr h
  go_enter Try.func4, Try.ntmps4
  go_upto_region 1 with fail
  rw [← hW0]
  clear hW0
  go_upto_if 11 with (first | (refine wpList_load_mid (by rfl) 36 (.tmp 1) (by rfl) w.heap.size 0 (by rfl) (mtC m).toList _ X0.out.range Try.underlying36 rfl (size36 _) ?_) | (go_at_call 5; refine H5.out.mono ?_; rintro e1 w1 ⟨⟨r, rfl, hr⟩, hb1⟩))
  clear H5
  have HR : Hid (r = false → tkS T ≤ 65536) := hr
  have HB1 : Hid (Below W0.heap.size W0 w1) := hb1
  clear hr hb1
  cases r
  case true =>
    go_wp2
    go_ret
    exact ⟨rfl, B0.out.trans (HB1.out.mono B0.out.size)⟩
  case false =>
    have hr := HR.out rfl
    have HB : Hid (Below w.heap.size w w1) := B0.out.trans (HB1.out.mono B0.out.size)
    have X1 : Hid (Bx w1 w.heap.size m) := X0.out.below HB1.out
    have H6 : Hid (Calls Try.prog 6 #[.agg (mtC m)] w1 fun e w' => RmP w1 m SL EL GL T e w') := by
      refine roomy_ok m SL EL GL T w1 O.out.hsn O.out.hen O.out.hgn O.out.htn O.out.y1 O.out.y2 O.out.y3 O.out.y4 O.out.z1 O.out.z2 O.out.z3 O.out.z4 (O.out.s1.below HB.out) (O.out.e1.below HB.out) (O.out.g1.below HB.out) (O.out.t1.below HB.out) (fun i x hx => ?_)
      obtain ⟨_, zs, hz, hv⟩ := O.out.tV i x hx
      have hxl : x.l ≤ tkS T := le_sum_of_mem T x (List.mem_of_getElem? hx)
      exact ⟨by omega, zs, hv.kept HB.out.block⟩
    clear HR hr X0 B0 HB1
    go_upto_region 4 with (first | (refine wpList_load_mid (by rfl) 36 (.tmp 1) (by rfl) w.heap.size 0 (by rfl) (mtC m).toList _ X1.out.range Try.underlying36 rfl (size36 _) ?_) | (go_at_call 6; refine H6.out.mono ?_; rintro e2 w2 ⟨g1, k1, g2, k2, g3, k3, g4, k4, T', rfl, tl, RR, TH, tb⟩) | (refine wpList_alloc_box (by rfl) (by rfl) ?_; intro W3 b3 hb3 hbl3 he3 hz3) | (refine wpList_store_box (by rfl) (.tmp 3) (.tmp 13) (by rfl) (cpM m g1 k1 g2 k2 g3 k3 (some ⟨g4, 0, none⟩) m.tn k4) b3 mt0 (by rfl) (by rfl) hb3 rfl ?_; intro W4 bn4 st4))
    simp only [Act.put, List.setIfInBounds_toArray, List.set_cons_zero, List.set_cons_succ]
    have S24 : Below w2.heap.size w2 W4 := hbl3.trans (st4.below (by omega) (by rw [hz3]; omega))
    have HB2 : Below w.heap.size w w2 := HB.out.trans (tb.mono HB.out.size)
    have FX : Hid (Fx (w1.heap.size + 2) w.heap.size b3 m g1 k1 g2 k2 g3 k3 g4 k4 SL EL GL T T' W4) := by
      have R := RR.below S24
      refine ⟨(X1.out.below tb).below S24, bn4, rv_own sloL_len R.o1, rv_own epoL_len R.o2, segV_rv (rv_own sgZ_len R.o3) O.out.hgn, rv_own tkL_len R.o4, tl, ?_, mk2_own sloL_len O.out.hsn R.o1 rfl rfl, mk2_own epoL_len O.out.hen R.o2 rfl rfl, mk2_own sgZ_len O.out.hgn R.o3 rfl rfl, mk2_own tkL_len tl R.o4 rfl rfl⟩
      intro i x y hx hy
      obtain ⟨a, b, c, zs, hv, h1, _⟩ := (TH.below S24) i x y hx hy
      have hi : i < T'.length := (List.getElem?_eq_some_iff.1 hx).1
      exact ⟨a, b, c, zs, h1 (by omega), hv.kept (tb.trans (S24.mono tb.size)).block⟩
    have HBW : Hid (Below w.heap.size w W4) := HB2.trans (S24.mono HB2.size)
    clear RR TH tb tl bn4 st4 hb3 hbl3 he3 hz3 S24 HB2 HB X1 H6
    have H14 : Hid (Calls Try.prog 14 #[.agg (mtC (cpM m g1 k1 g2 k2 g3 k3 (some ⟨g4, 0, none⟩) m.tn k4))] W4 fun e w' => ∃ (a n : Nat) (c : Int), e = .returned (.tuple #[.int .u64 (a : Nat), .int .u64 (n : Nat), .int .i64 c]) ∧ NextP m hot EL (fun i => GL.getD i (0, 0, 0)) a n c ∧ Below W4.heap.size W4 w') := next_ok (cpM m g1 k1 g2 k2 g3 k3 (some ⟨g4, 0, none⟩) m.tn k4) hot EL _ W4 (FX.out.ok O.out)
    go_upto_region 5 with (first | (refine wpList_load_mid (by rfl) 36 (.tmp 3) (by rfl) b3 0 (by rfl) (mtC (cpM m g1 k1 g2 k2 g3 k3 (some ⟨g4, 0, none⟩) m.tn k4)).toList _ FX.out.bn.range Try.underlying36 rfl (size36 _) ?_) | (go_at_call 14; refine H14.out.mono ?_; rintro e5 W5 ⟨a5, n5, c5, rfl, hN5, hb5⟩))
    have FX5 : Hid (Fx (w1.heap.size + 2) w.heap.size b3 m g1 k1 g2 k2 g3 k3 g4 k4 SL EL GL T T' W5) := FX.out.below hb5
    have HBW5 : Hid (Below w.heap.size w W5) := HBW.out.trans (hb5.mono HBW.out.size)
    have HN5 : Hid (NextP m hot EL (fun i => GL.getD i (0, 0, 0)) a5 n5 c5) := hN5
    clear H14 FX HBW hb5 hN5
    have H15 : Hid (Calls Try.prog 15 #[.agg (mtC m)] W5 fun e w' => Hid (e = .returned (.tuple #[.int .u64 (a5 : Nat), .int .u64 (n5 : Nat), .int .i64 c5]) ∧ Below W5.heap.size W5 w')) := by
      refine (rnext_ok m hot EL _ W5 (O.out.ok.below HBW5.out)).mono ?_
      rintro e w' ⟨a, n, c, rfl, hP, hb⟩
      obtain ⟨rfl, rfl, rfl⟩ := hP.one HN5.out
      exact ⟨rfl, hb⟩
    clear HN5
    go_upto_region 6 with (first | (refine wpList_load_mid (by rfl) 36 (.tmp 1) (by rfl) w.heap.size 0 (by rfl) (mtC m).toList _ FX5.out.bx.range Try.underlying36 rfl (size36 _) ?_) | (go_at_call 15; refine H15.out.mono ?_; intro e6 W6 hh6; obtain ⟨he6, hb6⟩ := hh6.out; subst he6))
    have FX6 : Hid (Fx (w1.heap.size + 2) w.heap.size b3 m g1 k1 g2 k2 g3 k3 g4 k4 SL EL GL T T' W6) := FX5.out.below hb6
    have HBW6 : Hid (Below w.heap.size w W6) := HBW5.out.trans (hb6.mono HBW5.out.size)
    clear H15 FX5 HBW5 hb6 hh6
    have HNum : Hid (∀ v, Calls Try.prog 9 #[.int .i64 c5] v fun e w' => e = .returned (.int .i64 c5) ∧ w' = v) := fun v => num_ok c5 v
    have HRo : Hid (∀ v, Calls Try.prog 13 #[.int .i64 1024, .int .i64 2, .int .u64 33] v fun e w' => e = .returned (.bool true) ∧ w' = v) := fun v => rooms_ok 1024 2 33 v
    have HU : Hid (Calls Try.prog 11 #[.agg (mtC (cpM m g1 k1 g2 k2 g3 k3 (some ⟨g4, 0, none⟩) m.tn k4)), .agg (mtC m)] W6 fun e w' => e = .returned (.bool true) ∧ Below W6.heap.size W6 w') :=
      unt_ok (cpM m g1 k1 g2 k2 g3 k3 (some ⟨g4, 0, none⟩) m.tn k4) ⟨m.sp, m.sc, m.ep, m.ec, m.gp, m.gc, m.tp, m.tc⟩ SL EL (fun i => GL.getD i (0, 0, 0)) T' T (w1.heap.size + 2) O.out.hsn O.out.hen FX6.out.l1 O.out.htn (by have := O.out.y1; show m.sn ≤ _; omega) (by have := O.out.y2; show m.en ≤ _; omega) (by have := O.out.y3; show m.gn ≤ _; omega) (by have := O.out.y4; show m.tn ≤ _; omega) W6 FX6.out.s1 (O.out.s1.below HBW6.out) FX6.out.e1 (O.out.e1.below HBW6.out) FX6.out.q1 ((segV_rv O.out.g1 O.out.hgn).below HBW6.out) FX6.out.t1 (O.out.t1.below HBW6.out) FX6.out.tm FX6.out.m1 FX6.out.m2 FX6.out.m3 FX6.out.m4
    go_wp2_with (first
      | (go_at_call 9; refine (HNum.out _).mono ?_; rintro e7 w7 ⟨rfl, hw7⟩; obtain rfl := hw7.symm)
      | (go_at_call 11; refine HU.out.mono ?_; rintro e8 W8 ⟨rfl, hb8⟩)
      | (go_at_call 13; refine (HRo.out _).mono ?_; rintro e9 w9 ⟨rfl, hw9⟩; obtain rfl := hw9.symm)
      | (refine wpList_load_want (by rfl) 36 (.tmp 3) (by rfl) b3 0 (by rfl) (mtC (cpM m g1 k1 g2 k2 g3 k3 (some ⟨g4, 0, none⟩) m.tn k4)).toList _ FX6.out.bn.range Try.underlying36 rfl (size36 _) ?_)
      | (refine wpList_load_want (by rfl) 36 (.tmp 1) (by rfl) w.heap.size 0 (by rfl) (mtC m).toList _ FX6.out.bx.range Try.underlying36 rfl (size36 _) ?_))
    go_ret
    exact ⟨rfl, HBW6.out.trans (hb8.mono HBW6.out.size)⟩
end Go.Proofs.Ytmfnhdflmnmooaa
