import Derived.Test.YtmfnhdflmnmooaaTwb
import Derived.RangeFuncBox
namespace Go.Proofs.Ytmfnhdflmnmooaa
open Go.RowKit
set_option linter.unusedVariables false
set_option linter.unusedSimpArgs false
/-- Tokens with lists of their own. -/
def TkO (B : Nat) (w wr : World) (T' T : List Tk) : Prop := ∀ (i : Nat) (x y : Tk), T'[i]? = some x → T[i]? = some y → x.n = y.n ∧ x.s = y.s ∧ x.z = y.z ∧ ∃ zs, wr.ownsRow B 3 1 (.slice x.p x.l x.c) x.l (cellsI zs) ∧ zs.length = x.l ∧ View w (.slice y.p y.l y.c) zs
abbrev cpM (m : Mt) (G1 C1 G2 C2 G3 C3 : Nat) (pt : Option Addr) (k ct : Nat) : Mt := { m with sp := some ⟨G1, 0, none⟩, sc := C1, ep := some ⟨G2, 0, none⟩, ec := C2, gp := some ⟨G3, 0, none⟩, gc := C3, tp := pt, tn := k, tc := ct }
/-- Three lists that were copied, k tokens. -/
structure CpO (B : Nat) (w wr : World) (m : Mt) (G1 C1 G2 C2 G3 C3 : Nat) (pt : Option Addr) (k ct : Nat) (SL : List Slo) (EL : List Epo) (GL : List (Int × Int × Int)) (T T' : List Tk) : Prop where
  o1 : wr.ownsRow B 63 9 (.slice (some ⟨G1, 0, none⟩) m.sn C1) m.sn (SL.flatMap sloL)
  o2 : wr.ownsRow B 38 5 (.slice (some ⟨G2, 0, none⟩) m.en C2) m.en (EL.flatMap epoL)
  o3 : wr.ownsRow B 65 3 (.slice (some ⟨G3, 0, none⟩) m.gn C3) m.gn (GL.flatMap sgZ)
  o4 : wr.ownsRow B 61 4 (.slice pt k ct) k (T'.flatMap tkL)
  l4 : T'.length = k
  tk : TkO B w wr T' T
def CpR (w wr : World) (m : Mt) (G1 C1 G2 C2 G3 C3 k : Nat) (SL : List Slo) (EL : List Epo) (GL : List (Int × Int × Int)) (T : List Tk) : Prop :=
  ∃ pt ct T', Twn w wr m (cpM m G1 C1 G2 C2 G3 C3 pt k ct) ∧ CpO (w.heap.size + 3) w wr m G1 C1 G2 C2 G3 C3 pt k ct SL EL GL T T'
theorem Twn.grown {w W W' : World} {m n2 : Mt} {row : Option Nat} (h : Twn w W m n2) (g : W.grownBy W' row) (hr : ∀ j, row = some j → w.heap.size + 3 ≤ j) : Twn w W' m n2 := by
  have hs := h.sz
  have key : ∀ b, b < w.heap.size + 3 → W'.heap[b]? = W.heap[b]? := fun b hb => g.block b (by omega) (fun e => by have := hr b e.symm; omega)
  exact ⟨(key _ (by omega)).trans h.bx, (key _ (by omega)).trans h.rs, (key _ (by omega)).trans h.bn, h.bel.grown g (by omega) (fun j e => by have := hr j e; omega), Nat.le_trans h.sz g.size⟩
/-- What Copy answers. -/
def CpP (w : World) (m : Mt) (SL : List Slo) (EL : List Epo) (GL : List (Int × Int × Int)) (T : List Tk) (e : Ending) (w' : World) : Prop := ∃ (G1 C1 G2 C2 G3 C3 : Nat) (pt : Option Addr) (ct : Nat) (T' : List Tk), e = .returned (.agg (mtC (cpM m G1 C1 G2 C2 G3 C3 pt m.tn ct))) ∧ CpO (w.heap.size + 3) w w' m G1 C1 G2 C2 G3 C3 pt m.tn ct SL EL GL T T' ∧ Below w.heap.size w w'
theorem TkO.grown {B : Nat} {w u u' : World} {T' T : List Tk} {row : Option Nat} (h : TkO B w u T' T) (hg : u.grownBy u' row) (hr : ∀ (zs : List Int) (x : Tk), u.ownsRow B 3 1 (.slice x.p x.l x.c) x.l (cellsI zs) → (Value.slice x.p x.l x.c).ownBlock = none ∨ (Value.slice x.p x.l x.c).ownBlock ≠ row) : TkO B w u' T' T := fun i x y hx hy => by
  obtain ⟨a, b, c, zs, ho, hl, hv⟩ := h i x y hx hy
  exact ⟨a, b, c, zs, ho.kept hg (hr zs x ho), hl, hv⟩
theorem TkO.below {B : Nat} {w u u' : World} {T' T : List Tk} (h : TkO B w u T' T) (hb : Below u.heap.size u u') : TkO B w u' T' T :=
  h.grown (row := none) ⟨hb.os, hb.tape, hb.output, hb.size, fun k hk _ => hb.block k hk⟩ (fun zs x _ => by cases (Value.slice x.p x.l x.c).ownBlock <;> simp)
theorem CpO.below {B : Nat} {w u u' : World} {m : Mt} {G1 C1 G2 C2 G3 C3 k ct : Nat} {pt : Option Addr} {SL : List Slo} {EL : List Epo} {GL : List (Int × Int × Int)} {T T' : List Tk} (h : CpO B w u m G1 C1 G2 C2 G3 C3 pt k ct SL EL GL T T') (hb : Below u.heap.size u u') : CpO B w u' m G1 C1 G2 C2 G3 C3 pt k ct SL EL GL T T' :=
  ⟨own_keep h.o1 hb, own_keep h.o2 hb, own_keep h.o3 hb, own_keep h.o4 hb, h.l4, h.tk.below hb⟩
theorem CpO.stay {B : Nat} {w u u' : World} {m : Mt} {G1 C1 G2 C2 G3 C3 k ct b : Nat} {pt : Option Addr} {SL : List Slo} {EL : List Epo} {GL : List (Int × Int × Int)} {T T' : List Tk} (h : CpO B w u m G1 C1 G2 C2 G3 C3 pt k ct SL EL GL T T') (s : Stay b u u') (hb : b < B ∨ u.heap.size ≤ b) : CpO B w u' m G1 C1 G2 C2 G3 C3 pt k ct SL EL GL T T' := by
  have key : ∀ {e sz n : Nat} {v : Value} {xs : List Value}, u.ownsRow B e sz v n xs → v.ownBlock ≠ some b := fun ho q => by
    have := ho.lt b q
    omega
  refine ⟨own_stay h.o1 s (key h.o1), own_stay h.o2 s (key h.o2), own_stay h.o3 s (key h.o3), own_stay h.o4 s (key h.o4), h.l4, ?_⟩
  exact h.tk.grown (row := some b) ⟨s.os, s.tape, s.output, s.size, fun j hj hn => s.block j hj (fun e => hn (by rw [e]))⟩ (fun zs x ho => .inr (key ho))
theorem Twn.below {w W W' : World} {m n2 : Mt} (h : Twn w W m n2) (s : Below W.heap.size W W') : Twn w W' m n2 := by
  have := h.sz
  exact ⟨(s.block _ (by omega)).trans h.bx, (s.block _ (by omega)).trans h.rs, (s.block _ (by omega)).trans h.bn, h.bel.trans (s.mono (by omega)), Nat.le_trans h.sz s.size⟩
theorem Twn.stay5 {w W W' : World} {m n2 : Mt} {b : Nat} (h : Twn w W m n2) (s : Stay b W W') (hb : w.heap.size + 3 ≤ b) : Twn w W' m n2 := by
  have := h.sz
  exact ⟨(s.block _ (by omega) (by omega)).trans h.bx, (s.block _ (by omega) (by omega)).trans h.rs, (s.block _ (by omega) (by omega)).trans h.bn, h.bel.trans (s.below (by omega) (by omega)), Nat.le_trans h.sz s.size⟩
set_option maxHeartbeats 4000000 in
set_option maxRecDepth 100000 in
theorem copy_ok (m : Mt) (SL : List Slo) (EL : List Epo) (GL : List (Int × Int × Int)) (T : List Tk) (w : World) (hsn : Hid (SL.length = m.sn)) (hen : Hid (EL.length = m.en)) (hgn : Hid (GL.length = m.gn)) (htn : Hid (T.length = m.tn))
    (y1 : Hid ((m.sn + 2) * 88 ≤ 140737488355328)) (y2 : Hid ((m.en + 2) * 72 ≤ 140737488355328)) (y3 : Hid ((m.gn + 2) * 24 ≤ 140737488355328)) (y4 : Hid ((m.tn + 2) * 64 ≤ 140737488355328))
    (z1 : Hid (m.sp = none → m.sc = 0)) (z2 : Hid (m.ep = none → m.ec = 0)) (z3 : Hid (m.gp = none → m.gc = 0)) (z4 : Hid (m.tp = none → m.tc = 0))
    (s1 : Hid (RV sloL 9 w m.sp SL)) (e1 : Hid (RV epoL 5 w m.ep EL)) (g1 : Hid (RV sgZ 3 w m.gp GL)) (t1 : Hid (RV tkL 4 w m.tp T)) (tV : Hid (∀ (i : Nat) (x : Tk), T[i]? = some x → x.l * 8 ≤ 140737488355328 ∧ ∃ zs, View w (.slice x.p x.l x.c) zs)) :
    Calls Try.prog 16 #[.agg (mtC m)] w fun e w' => CpP w m SL EL GL T e w' := by
  have W0h : ∃ W0, W0 = (w.alloc (.cells (mtC m) 36)).alloc (.cells mt0 36) := ⟨_, rfl⟩
  obtain ⟨W0, hW0⟩ := W0h
  have R1 : Hid (W0.rangeAt w.heap.size 0 (mtC m).toList) := fun j u hj => by
    rw [Nat.zero_add, hW0]
    have bx : Bx (w.alloc (.cells (mtC m) 36)) w.heap.size m := World.alloc_heap_new w _
    exact (bx.below (below_alloc1 _ _)).c j u (by simpa using hj)
  have hs0 : W0.heap.size = w.heap.size + 2 := by rw [hW0]; simp
  have T0 : Hid (Bx W0 w.heap.size m ∧ W0.heap[w.heap.size + 1]? = some (.cells mt0 36 (0, 0)) ∧ Below w.heap.size w W0) := by
    have bx : Bx (w.alloc (.cells (mtC m) 36)) w.heap.size m := World.alloc_heap_new w _
    have rs : (w.alloc (.cells (mtC m) 36)).heap.size = w.heap.size + 1 := by simp
    refine ⟨?_, ?_, ?_⟩
    · rw [hW0]; exact bx.below (below_alloc1 _ _)
    · rw [hW0, ← rs]; exact World.alloc_heap_new _ _
    · rw [hW0]; exact ((Below.refl _ w).alloc (Nat.le_refl _) _).alloc (by simp) _
  go_enter Try.func16, Try.ntmps16
  go_upto_region 1 with fail
  rw [← hW0]
  clear hW0
  go_upto_region 2 with (first | (refine wpList_load_mid (by rfl) 36 (.tmp 1) (by rfl) w.heap.size 0 (by rfl) (mtC m).toList _ R1.out Try.underlying36 rfl (size36 m) ?_) | (refine wpList_alloc_box (by rfl) (by rfl) ?_; intro W1 bb hb1 hbl1 he1 hz1; rw [hs0] at he1; subst he1) | (refine wpList_store_box (by rfl) (.tmp 3) (.tmp 6) (by rfl) m (w.heap.size + 2) mt0 (by rfl) (by rfl) hb1 rfl ?_; intro W bn st))
  simp only [Act.put, List.setIfInBounds_toArray, List.set_cons_zero, List.set_cons_succ]
  have TW : Hid (Twn w W m m) := by
    refine ⟨?_, ?_, bn, ?_, ?_⟩
    · exact (st.block _ (by rw [hz1]; omega) (by omega)).trans (T0.out.1.below hbl1)
    · exact (st.block _ (by rw [hz1]; omega) (by omega)).trans ((hbl1.block _ (by omega)).trans T0.out.2.1)
    · exact (T0.out.2.2.trans (hbl1.mono (by omega))).trans (st.below (by omega) (by rw [hz1]; omega))
    · have := st.size; rw [hz1] at this; omega
  clear T0 R1 hs0 hb1 hbl1 hz1 bn st W1
  obtain ⟨i47, hi47, hz470, hz471, hz472⟩ := info_parts info47
  have Hi47 : Hid (_ ∧ _ ∧ _ ∧ _) := ⟨hi47, hz470, hz471, hz472⟩
  clear hi47 hz470 hz471 hz472
  obtain ⟨i49, hi49, hz490, hz491, hz492⟩ := info_parts info49
  have Hi49 : Hid (_ ∧ _ ∧ _ ∧ _) := ⟨hi49, hz490, hz491, hz492⟩
  clear hi49 hz490 hz491 hz492
  obtain ⟨i51, hi51, hz510, hz511, hz512⟩ := info_parts info51
  have Hi51 : Hid (_ ∧ _ ∧ _ ∧ _) := ⟨hi51, hz510, hz511, hz512⟩
  clear hi51 hz510 hz511 hz512
  obtain ⟨i45, hi45, hz450, hz451, hz452⟩ := info_parts info45
  have Hi45 : Hid (_ ∧ _ ∧ _ ∧ _) := ⟨hi45, hz450, hz451, hz452⟩
  clear hi45 hz450 hz451 hz452
  obtain ⟨i3, hi3, hz30, hz31, hz32⟩ := info_parts info3
  have Hi3 : Hid (_ ∧ _ ∧ _ ∧ _) := ⟨hi3, hz30, hz31, hz32⟩
  clear hi3 hz30 hz31 hz32
  have q11 := (TW.out.bx.below (below_alloc1 W (.cells #[] 63))).c 11 (.slice m.sp m.sn m.sc) rfl
  go_upto_region 3 with (at_builtin; go_must (refine wpList_append_rv (by rfl) (.tmp 7) (.tmp 9) 27 (by rfl) 63 i47 _ 9 88 Try.underlying27 Hi47.out.1 Hi47.out.2.1 Hi47.out.2.2.1 Hi47.out.2.2.2 rfl (by decide) sloL_len sloL_one (w.heap.size + 3) W.heap.size 0 0 [] rfl (own_empty (World.alloc_heap_new W _) TW.out.sz) m.sp m.sn m.sc SL rfl hsn.out (s1.out.below (TW.out.bel.alloc TW.out.bel.size _)) z1.out (by have := y1.out; unfold maxLen; omega) (by have := y1.out; omega) (by have := TW.out.sz; simp; omega) ?_); intro G1 C1 U1 ho1 hg1 ha1; rw [Nat.zero_add, List.nil_append] at ho1; have bU1 : Below W.heap.size W U1 := ((Below.refl _ W).alloc (Nat.le_refl _) _).grown hg1 (by simp) (by intro j hj; cases hj; exact Nat.le_refl _); have cU := (TW.out.bn.below bU1).c 11 (.slice m.sp m.sn m.sc) rfl; have fU := frozen_bx (o := 11) (TW.out.bn.below bU1))
  try rw [Nat.zero_add]
  have sW : Stay (w.heap.size + 2) W (U1.setCell ⟨w.heap.size + 2, 11, none⟩ (.slice (some ⟨G1, 0, none⟩) m.sn C1)) := (Stay.of bU1).set _ _
  have TX : Hid (Twn w (U1.setCell ⟨w.heap.size + 2, 11, none⟩ (.slice (some ⟨G1, 0, none⟩) m.sn C1)) m ({ m with sp := some ⟨G1, 0, none⟩, sc := C1 } : Mt)) := TW.out.stay sW (bx_set (TW.out.bn.below bU1) rfl)
  have S1 : Hid ((U1.setCell ⟨w.heap.size + 2, 11, none⟩ (.slice (some ⟨G1, 0, none⟩) m.sn C1)).ownsRow (w.heap.size + 3) 63 9 (.slice (some ⟨G1, 0, none⟩) m.sn C1) m.sn (SL.flatMap sloL)) := own_stay ho1 ((Stay.refl _ _).set _ _) (own_ne ho1 (by omega))
  clear TW q11 cU fU
  have TW := TX
  clear TX sW bU1 ho1 hg1 ha1
  generalize U1.setCell ⟨w.heap.size + 2, 11, none⟩ (.slice (some ⟨G1, 0, none⟩) m.sn C1) = Wa at *
  clear U1
  have q12 := (TW.out.bx.below (below_alloc1 Wa (.cells #[] 38))).c 12 (.slice m.ep m.en m.ec) rfl
  go_upto_region 4 with (at_builtin; go_must (refine wpList_append_rv (by rfl) (.tmp 12) (.tmp 14) 28 (by rfl) 38 i49 _ 5 72 Try.underlying28 Hi49.out.1 Hi49.out.2.1 Hi49.out.2.2.1 Hi49.out.2.2.2 rfl (by decide) epoL_len epoL_one (w.heap.size + 3) Wa.heap.size 0 0 [] rfl (own_empty (World.alloc_heap_new Wa _) TW.out.sz) m.ep m.en m.ec EL rfl hen.out (e1.out.below (TW.out.bel.alloc TW.out.bel.size _)) z2.out (by have := y2.out; unfold maxLen; omega) (by have := y2.out; omega) (by have := TW.out.sz; simp; omega) ?_); intro G2 C2 U2 ho2 hg2 ha2; rw [Nat.zero_add, List.nil_append] at ho2; have bU2 : Below Wa.heap.size Wa U2 := ((Below.refl _ Wa).alloc (Nat.le_refl _) _).grown hg2 (by simp) (by intro j hj; cases hj; exact Nat.le_refl _); have cU := (TW.out.bn.below bU2).c 12 (.slice m.ep m.en m.ec) rfl; have fU := frozen_bx (o := 12) (TW.out.bn.below bU2))
  try rw [Nat.zero_add]
  have sW : Stay (w.heap.size + 2) Wa (U2.setCell ⟨w.heap.size + 2, 12, none⟩ (.slice (some ⟨G2, 0, none⟩) m.en C2)) := (Stay.of bU2).set _ _
  have TX : Hid (Twn w (U2.setCell ⟨w.heap.size + 2, 12, none⟩ (.slice (some ⟨G2, 0, none⟩) m.en C2)) m ({ m with sp := some ⟨G1, 0, none⟩, sc := C1, ep := some ⟨G2, 0, none⟩, ec := C2 } : Mt)) := TW.out.stay sW (bx_set (TW.out.bn.below bU2) rfl)
  have S2 : Hid ((U2.setCell ⟨w.heap.size + 2, 12, none⟩ (.slice (some ⟨G2, 0, none⟩) m.en C2)).ownsRow (w.heap.size + 3) 38 5 (.slice (some ⟨G2, 0, none⟩) m.en C2) m.en (EL.flatMap epoL)) := own_stay ho2 ((Stay.refl _ _).set _ _) (own_ne ho2 (by omega))
  have S1n : Hid ((U2.setCell ⟨w.heap.size + 2, 12, none⟩ (.slice (some ⟨G2, 0, none⟩) m.en C2)).ownsRow (w.heap.size + 3) 63 9 (.slice (some ⟨G1, 0, none⟩) m.sn C1) m.sn (SL.flatMap sloL)) := own_stay S1.out sW (own_ne S1.out (by omega))
  clear S1
  have S1 := S1n
  clear S1n
  clear TW q12 cU fU
  have TW := TX
  clear TX sW bU2 ho2 hg2 ha2
  generalize U2.setCell ⟨w.heap.size + 2, 12, none⟩ (.slice (some ⟨G2, 0, none⟩) m.en C2) = Wb at *
  clear U2
  have q13 := (TW.out.bx.below (below_alloc1 Wb (.cells #[] 65))).c 13 (.slice m.gp m.gn m.gc) rfl
  go_upto_region 5 with (at_builtin; go_must (refine wpList_append_rv (by rfl) (.tmp 17) (.tmp 19) 29 (by rfl) 65 i51 _ 3 24 Try.underlying29 Hi51.out.1 Hi51.out.2.1 Hi51.out.2.2.1 Hi51.out.2.2.2 rfl (by decide) sgZ_len sgZ_one (w.heap.size + 3) Wb.heap.size 0 0 [] rfl (own_empty (World.alloc_heap_new Wb _) TW.out.sz) m.gp m.gn m.gc GL rfl hgn.out (g1.out.below (TW.out.bel.alloc TW.out.bel.size _)) z3.out (by have := y3.out; unfold maxLen; omega) (by have := y3.out; omega) (by have := TW.out.sz; simp; omega) ?_); intro G3 C3 U3 ho3 hg3 ha3; rw [Nat.zero_add, List.nil_append] at ho3; have bU3 : Below Wb.heap.size Wb U3 := ((Below.refl _ Wb).alloc (Nat.le_refl _) _).grown hg3 (by simp) (by intro j hj; cases hj; exact Nat.le_refl _); have cU := (TW.out.bn.below bU3).c 13 (.slice m.gp m.gn m.gc) rfl; have fU := frozen_bx (o := 13) (TW.out.bn.below bU3))
  try rw [Nat.zero_add]
  have sW : Stay (w.heap.size + 2) Wb (U3.setCell ⟨w.heap.size + 2, 13, none⟩ (.slice (some ⟨G3, 0, none⟩) m.gn C3)) := (Stay.of bU3).set _ _
  have TX : Hid (Twn w (U3.setCell ⟨w.heap.size + 2, 13, none⟩ (.slice (some ⟨G3, 0, none⟩) m.gn C3)) m ({ m with sp := some ⟨G1, 0, none⟩, sc := C1, ep := some ⟨G2, 0, none⟩, ec := C2, gp := some ⟨G3, 0, none⟩, gc := C3 } : Mt)) := TW.out.stay sW (bx_set (TW.out.bn.below bU3) rfl)
  have S3 : Hid ((U3.setCell ⟨w.heap.size + 2, 13, none⟩ (.slice (some ⟨G3, 0, none⟩) m.gn C3)).ownsRow (w.heap.size + 3) 65 3 (.slice (some ⟨G3, 0, none⟩) m.gn C3) m.gn (GL.flatMap sgZ)) := own_stay ho3 ((Stay.refl _ _).set _ _) (own_ne ho3 (by omega))
  have S1n : Hid ((U3.setCell ⟨w.heap.size + 2, 13, none⟩ (.slice (some ⟨G3, 0, none⟩) m.gn C3)).ownsRow (w.heap.size + 3) 63 9 (.slice (some ⟨G1, 0, none⟩) m.sn C1) m.sn (SL.flatMap sloL)) := own_stay S1.out sW (own_ne S1.out (by omega))
  clear S1
  have S1 := S1n
  clear S1n
  have S2n : Hid ((U3.setCell ⟨w.heap.size + 2, 13, none⟩ (.slice (some ⟨G3, 0, none⟩) m.gn C3)).ownsRow (w.heap.size + 3) 38 5 (.slice (some ⟨G2, 0, none⟩) m.en C2) m.en (EL.flatMap epoL)) := own_stay S2.out sW (own_ne S2.out (by omega))
  clear S2
  have S2 := S2n
  clear S2n
  clear TW q13 cU fU
  have TW := TX
  clear TX sW bU3 ho3 hg3 ha3
  generalize U3.setCell ⟨w.heap.size + 2, 13, none⟩ (.slice (some ⟨G3, 0, none⟩) m.gn C3) = Wc at *
  clear U3
  have c26 := TW.out.bn.c 26 (.slice m.tp m.tn m.tc) rfl
  have f26 := frozen_bx (o := 26) TW.out.bn
  go_upto_region 7 with fail
  have sW : Stay (w.heap.size + 2) Wc (Wc.setCell ⟨w.heap.size + 2, 26, none⟩ (.slice none 0 0)) := (Stay.refl _ _).set _ _
  have CR : Hid (CpR w (Wc.setCell ⟨w.heap.size + 2, 26, none⟩ (.slice none 0 0)) m G1 C1 G2 C2 G3 C3 0 SL EL GL T) := ⟨none, 0, [], TW.out.stay sW (bx_set TW.out.bn rfl), own_stay S1.out sW (own_ne S1.out (by omega)), own_stay S2.out sW (own_ne S2.out (by omega)), own_stay S3.out sW (own_ne S3.out (by omega)), World.ownsRow_nil _ _ _ _, rfl, fun i x y hx => by simp at hx⟩
  generalize Wc.setCell ⟨w.heap.size + 2, 26, none⟩ (.slice none 0 0) = Wd at *
  clear TW S1 S2 S3 sW c26 f26
  go_loopw [4] (fun i wr => ∃ k : Nat, k ≤ m.tn ∧ i = .int .i64 k ∧ Hid (CpR w wr m G1 C1 G2 C2 G3 C3 k SL EL GL T)) (fun i _ => m.tn - (intOf i).toNat)
  case atStart => exact ⟨0, Nat.zero_le _, rfl, CR⟩
  case round =>
    obtain ⟨k, hk, rfl, HR⟩ := hrel
    clear CR
    obtain ⟨pt, ct, T', TW, CO⟩ := HR.out
    have TWh : Hid (Twn w wr m (cpM m G1 C1 G2 C2 G3 C3 pt k ct)) := TW
    have COh : Hid (CpO (w.heap.size + 3) w wr m G1 C1 G2 C2 G3 C3 pt k ct SL EL GL T T') := CO
    clear TW CO HR
    have q26 := TWh.out.bx.c 26 (.slice m.tp m.tn m.tc) rfl
    by_cases hlt : k < m.tn
    · obtain ⟨y, hy⟩ : ∃ y, T[k]? = some y := ⟨T[k]'(by have := htn.out; omega), List.getElem?_eq_getElem _⟩
      obtain ⟨ba, oa, hpa, hba, ca⟩ := (t1.out.below TWh.out.bel).get hy
      obtain ⟨hyl, zs, hzv⟩ := tV.out k y hy
      have HV : Hid (View w (.slice y.p y.l y.c) zs) := hzv
      clear hzv
      rw [hpa] at q26
      have a0 : wr.cell? ⟨ba, oa + k * 4, none⟩ = some (.int .i64 y.n) := by have := ca 0 _ rfl; simpa using this
      have a1 : wr.cell? ⟨ba, oa + k * 4 + 1, none⟩ = some (.string y.s) := by have := ca 1 _ rfl; simpa using this
      have a2 : wr.cell? ⟨ba, oa + k * 4 + 2, none⟩ = some (.slice y.p y.l y.c) := by have := ca 2 _ rfl; simpa using this
      have a3 : wr.cell? ⟨ba, oa + k * 4 + 3, none⟩ = some (.string y.z) := by have := ca 3 _ rfl; simpa using this
      have HP : Hid (m.tp = some ⟨ba, oa, none⟩) := hpa
      have HY : Hid (T[k]? = some y) := hy
      clear hpa hy ca
      go_upto_region 10 with fail
      have b1 : Below wr.heap.size wr (wr.alloc (.cells #[.int .i64 y.n, .string y.s, .slice y.p y.l y.c, .string y.z] 61)) := below_alloc1 _ _
      have BK : Hid ((wr.alloc (.cells #[.int .i64 y.n, .string y.s, .slice y.p y.l y.c, .string y.z] 61)).heap[wr.heap.size]? = some (.cells #[.int .i64 y.n, .string y.s, .slice y.p y.l y.c, .string y.z] 61 (0, 0))) := World.alloc_heap_new wr _
      have hz1 : Hid ((wr.alloc (.cells #[.int .i64 y.n, .string y.s, .slice y.p y.l y.c, .string y.z] 61)).heap.size = wr.heap.size + 1) := World.size_alloc _ _
      generalize wr.alloc (.cells #[.int .i64 y.n, .string y.s, .slice y.p y.l y.c, .string y.z] 61) = W1 at *
      have TW1 : Hid (Twn w W1 m (cpM m G1 C1 G2 C2 G3 C3 pt k ct)) := TWh.out.below b1
      have CO1 : Hid (CpO (w.heap.size + 3) w W1 m G1 C1 G2 C2 G3 C3 pt k ct SL EL GL T T') := COh.out.below b1
      have bA : Below wr.heap.size wr (W1.alloc (.cells #[] 3)) := b1.alloc b1.size _
      have p26 : (W1.alloc (.cells #[] 3)).cell? ⟨w.heap.size, 26, none⟩ = some (.slice (some ⟨ba, oa, none⟩) m.tn m.tc) := cell_below bA q26
      have p2 : (W1.alloc (.cells #[] 3)).cell? ⟨ba, oa + k * 4 + 2, none⟩ = some (.slice y.p y.l y.c) := cell_below bA a2
      have RVI := rv_view (HV.out.kept (w' := W1.alloc (.cells #[] 3)) ((TW1.out.bel.alloc TW1.out.bel.size _).block))
      have hsz := TWh.out.sz
      clear q26 a0 a1 a2 a3 TWh
      go_upto_region 11 with (at_builtin; go_must (refine wpList_append_rv (by rfl) (.tmp 35) (.tmp 41) 59 (by rfl) 3 i3 _ 1 8 Try.underlying59 Hi3.out.1 Hi3.out.2.1 Hi3.out.2.2.1 Hi3.out.2.2.2 rfl (by decide) inL_len inL_one W1.heap.size W1.heap.size 0 0 [] rfl (own_empty (World.alloc_heap_new W1 _) (Nat.le_refl _)) y.p y.l y.c zs rfl RVI.1 RVI.2.1 RVI.2.2.1 (by unfold maxLen; omega) (by omega) (by simp) ?_); intro gz kz U hoz hgz haz; rw [Nat.zero_add, List.nil_append] at hoz; have bU : Below W1.heap.size W1 U := ((Below.refl _ W1).alloc (Nat.le_refl _) _).grown hgz (by simp) (by intro j hj; cases hj; exact Nat.le_refl _); have BKU : U.heap[wr.heap.size]? = some (.cells #[.int .i64 y.n, .string y.s, .slice y.p y.l y.c, .string y.z] 61 (0, 0)) := (bU.block _ (by rw [hz1.out]; omega)).trans BK.out; have cU : U.cell? ⟨wr.heap.size, 2, none⟩ = some (.slice y.p y.l y.c) := (by rw [cell_of_row U wr.heap.size 2 _ 61 (0, 0) BKU]; rfl); have fU := frozen_of_row U wr.heap.size 2 _ 61 BKU)
      have sU : Stay wr.heap.size U (U.setCell ⟨wr.heap.size, 2, none⟩ (.slice (some ⟨gz, 0, none⟩) y.l kz)) := (Stay.refl _ _).set _ _
      have TW2 : Hid (Twn w (U.setCell ⟨wr.heap.size, 2, none⟩ (.slice (some ⟨gz, 0, none⟩) y.l kz)) m (cpM m G1 C1 G2 C2 G3 C3 pt k ct)) := (TW1.out.below bU).stay5 sU hsz
      have CO2 : Hid (CpO (w.heap.size + 3) w (U.setCell ⟨wr.heap.size, 2, none⟩ (.slice (some ⟨gz, 0, none⟩) y.l kz)) m G1 C1 G2 C2 G3 C3 pt k ct SL EL GL T T') := COh.out.stay ((Stay.of (b1.trans (bU.mono b1.size))).set _ _) (.inr (Nat.le_refl _))
      have OI2 : Hid ((U.setCell ⟨wr.heap.size, 2, none⟩ (.slice (some ⟨gz, 0, none⟩) y.l kz)).ownsRow (w.heap.size + 3) 3 1 (.slice (some ⟨gz, 0, none⟩) y.l kz) y.l (cellsI zs)) := by
        have q := own_stay hoz sU (own_ne hoz (by rw [hz1.out]; omega))
        rw [inL_cells] at q
        exact ownsRow_below q TW1.out.sz
      have BK2 : Hid ((U.setCell ⟨wr.heap.size, 2, none⟩ (.slice (some ⟨gz, 0, none⟩) y.l kz)).heap[wr.heap.size]? = some (.cells #[.int .i64 y.n, .string y.s, .slice (some ⟨gz, 0, none⟩) y.l kz, .string y.z] 61 (0, 0))) := by
        show _ = _
        rw [heap_setCell_same U wr.heap.size 2 _ 61 _ BKU]
        rfl
      generalize U.setCell ⟨wr.heap.size, 2, none⟩ (.slice (some ⟨gz, 0, none⟩) y.l kz) = W2 at *
      clear sU cU fU BKU bU hoz hgz haz BK TW1 CO1 COh b1 bA p26 p2 RVI
      have p26 := TW2.out.bn.c 26 (.slice pt k ct) rfl
      have x0 : W2.cell? ⟨wr.heap.size, 0, none⟩ = some (.int .i64 y.n) := by rw [cell_of_row W2 wr.heap.size 0 _ 61 (0, 0) BK2.out]; rfl
      have x1 : W2.cell? ⟨wr.heap.size, 1, none⟩ = some (.string y.s) := by rw [cell_of_row W2 wr.heap.size 1 _ 61 (0, 0) BK2.out]; rfl
      have x2 : W2.cell? ⟨wr.heap.size, 2, none⟩ = some (.slice (some ⟨gz, 0, none⟩) y.l kz) := by rw [cell_of_row W2 wr.heap.size 2 _ 61 (0, 0) BK2.out]; rfl
      have x3 : W2.cell? ⟨wr.heap.size, 3, none⟩ = some (.string y.z) := by rw [cell_of_row W2 wr.heap.size 3 _ 61 (0, 0) BK2.out]; rfl
      have hsz2 := TW2.out.sz
      have hk4 : (k + 1) * 64 ≤ 140737488355328 := by have := y4.out; omega
      go_upto_region 8 with (at_builtin; go_must (refine wpList_append_own _ rfl (.tmp 45) (.tmp 47) 34 rfl (w.heap.size + 3) 61 i45 _ 4 64 Try.underlying34 Hi45.out.1 Hi45.out.2.1 Hi45.out.2.2.1 Hi45.out.2.2.2 rfl (by decide) (.slice pt k ct) k (T'.flatMap tkL) rfl (CO2.out.o4.alloc _) ⟨W2.heap.size, 0, none⟩ 1 1 (tkL ⟨y.n, y.s, some ⟨gz, 0, none⟩, y.l, kz, y.z⟩) rfl rfl (news_new W2 _ 61) (tkL_one _) (by unfold maxLen; omega) hk4 (by simp; omega) ?_); intro vt U hot hgt hnt; obtain ⟨gt, cap, rfl⟩ := ownsRow_succ hot; have TWU : Twn w U m (cpM m G1 C1 G2 C2 G3 C3 pt k ct) := (TW2.out.below (below_alloc1 W2 (.cells #[.int .i64 y.n, .string y.s, .slice (some ⟨gz, 0, none⟩) y.l kz, .string y.z] 61))).grown hgt (fun j hj => ((CO2.out.o4.alloc (.cells #[.int .i64 y.n, .string y.s, .slice (some ⟨gz, 0, none⟩) y.l kz, .string y.z] 61)).lt j hj).1); have cU := TWU.bn.c 26 (.slice pt k ct) rfl; have fU := frozen_bx (o := 26) TWU.bn)
      have sU : Stay (w.heap.size + 2) U (U.setCell ⟨w.heap.size + 2, 26, none⟩ (.slice (some ⟨gt, 0, none⟩) (k + 1) cap)) := (Stay.refl _ _).set _ _
      have CO3 := CO2.out.below (below_alloc1 W2 (.cells #[.int .i64 y.n, .string y.s, .slice (some ⟨gz, 0, none⟩) y.l kz, .string y.z] 61))
      have OI3 := own_keep OI2.out (below_alloc1 W2 (.cells #[.int .i64 y.n, .string y.s, .slice (some ⟨gz, 0, none⟩) y.l kz, .string y.z] 61))
      have CRn : Hid (CpR w (U.setCell ⟨w.heap.size + 2, 26, none⟩ (.slice (some ⟨gt, 0, none⟩) (k + 1) cap)) m G1 C1 G2 C2 G3 C3 (k + 1) SL EL GL T) := by
        refine ⟨some ⟨gt, 0, none⟩, cap, T' ++ [⟨y.n, y.s, some ⟨gz, 0, none⟩, y.l, kz, y.z⟩], TWU.stay sU (bx_set TWU.bn rfl), ?_⟩
        have nb : ∀ {e sz n : Nat} {v : Value} {xs : List Value}, U.ownsRow (w.heap.size + 3) e sz v n xs → v.ownBlock ≠ some (w.heap.size + 2) := fun ho => own_ne ho (by omega)
        have u1 := own_grown CO3.o1 hgt (own_apart CO3.o1 CO3.o4 (by decide))
        have u2 := own_grown CO3.o2 hgt (own_apart CO3.o2 CO3.o4 (by decide))
        have u3 := own_grown CO3.o3 hgt (own_apart CO3.o3 CO3.o4 (by decide))
        have u5 := own_grown OI3 hgt (own_apart OI3 CO3.o4 (by decide))
        have u4 := CO3.tk.grown hgt (fun zs x ho => own_apart ho CO3.o4 (by decide))
        refine ⟨own_stay u1 sU (nb u1), own_stay u2 sU (nb u2), own_stay u3 sU (nb u3), ?_, by simp [CO3.l4], ?_⟩
        · have q := own_stay hot sU (nb hot)
          rw [List.flatMap_append, List.flatMap_singleton]
          exact q
        · intro i x yy hx hyy
          by_cases hi : i < T'.length
          · rw [List.getElem?_append_left hi] at hx
            obtain ⟨a, b, c, zs', ho, hl, hv⟩ := u4 i x yy hx hyy
            exact ⟨a, b, c, zs', own_stay ho sU (nb ho), hl, hv⟩
          · have hl4 := CO3.l4
            have hi' : i = T'.length := by
              rw [List.getElem?_append_right (by omega)] at hx
              have := (List.getElem?_eq_some_iff.1 hx).1
              simp at this
              omega
            subst hi'
            rw [List.getElem?_append_right (Nat.le_refl _), Nat.sub_self] at hx
            simp only [List.getElem?_cons_zero, Option.some.injEq] at hx
            subst hx
            rw [hl4, HY.out] at hyy
            simp only [Option.some.injEq] at hyy
            subst hyy
            exact ⟨rfl, rfl, rfl, zs, own_stay u5 sU (nb u5), (rv_view HV.out).1, HV.out⟩
      generalize U.setCell ⟨w.heap.size + 2, 26, none⟩ (.slice (some ⟨gt, 0, none⟩) (k + 1) cap) = W3 at *
      clear CO3 OI3 sU cU fU TWU hot hgt hnt TW2 CO2 OI2 BK2 p26 x0 x1 x2 x3
      go_wp2
      go_roundw
      case rel => exact ⟨k + 1, by omega, by go_num, CRn⟩
      case measure => simp [intOf]; omega
    · have hkm : k = m.tn := by omega
      have CO1 : Hid (CpO (w.heap.size + 3) w wr m G1 C1 G2 C2 G3 C3 pt m.tn ct SL EL GL T T') := by rw [← hkm]; exact COh.out
      have TW1 : Hid (Twn w wr m (cpM m G1 C1 G2 C2 G3 C3 pt m.tn ct)) := by rw [← hkm]; exact TWh.out
      have hnlt : ¬ ((k : Int) < (m.tn : Int)) := by omega
      have hnd : decide ((k : Int) < (m.tn : Int)) = false := by simp; omega
      clear COh TWh hkm
      have R9 : Hid (wr.rangeAt (w.heap.size + 2) 0 (mtC (cpM m G1 C1 G2 C2 G3 C3 pt m.tn ct)).toList) := fun j u hj => by
        rw [Nat.zero_add]
        exact TW1.out.bn.c j u (by simpa using hj)
      have RS : Hid (wr.heap[w.heap.size + 1]? = some (.cells mt0 36 (0, 0))) := TW1.out.rs
      go_upto_region 99 with (first | (refine wpList_load_mid (by rfl) 36 (.tmp 3) (by rfl) (w.heap.size + 2) 0 (by rfl) (mtC (cpM m G1 C1 G2 C2 G3 C3 pt m.tn ct)).toList _ R9.out Try.underlying36 rfl (size36 _) ?_) | (refine wpList_store_box (by rfl) (.tmp 2) (.tmp 50) (by rfl) (cpM m G1 C1 G2 C2 G3 C3 pt m.tn ct) (w.heap.size + 1) mt0 (by rfl) (by rfl) RS.out rfl ?_; intro WF bnF stF))
      refine bodyPost_ret (results_cell_row (P := Try.prog) (p := 2) (ty := 36) rfl _ WF (w.heap.size + 1) 36 (mtC (cpM m G1 C1 G2 C2 G3 C3 pt m.tn ct)) (0, 0) _ rfl bnF Try.underlying36 rfl (by rw [info36s]; rfl)) rfl ?_
      show CpP w m SL EL GL T _ WF
      have bF : Below w.heap.size w WF := TW1.out.bel.trans (stF.below (by omega) (by have := TW1.out.sz; omega))
      exact ⟨G1, C1, G2, C2, G3, C3, pt, ct, T', rfl, CO1.out.stay stF (.inl (by omega)), bF⟩
end Go.Proofs.Ytmfnhdflmnmooaa
