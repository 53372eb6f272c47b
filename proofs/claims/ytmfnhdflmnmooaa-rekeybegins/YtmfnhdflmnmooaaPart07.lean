import Derived.Test.YtmfnhdflmnmooaaPart06
import Derived.RangeFuncBox
import Derived.WalkKit
import Derived.Deep.RegionHeld3
import Derived.StillTail
import Derived.Deep.AppendLies
namespace Go.Proofs.Ytmfnhdflmnmooaa
open Go.RowKit
set_option linter.unusedVariables false
set_option linter.unusedSimpArgs false
/-- Tokens with lists of their own. -/
def TkO (B : Nat) (w wr : World) (T' T : List Tk) : Prop := ∀ (i : Nat) (x y : Tk), T'[i]? = some x → T[i]? = some y → x.n = y.n ∧ x.s = y.s ∧ x.z = y.z ∧ ∃ zs, wr.ownsRow B 3 1 (.slice x.p x.l x.c) x.l (cellsI zs) ∧ zs.length = x.l ∧ View w (.slice y.p y.l y.c) zs
abbrev cpM (m : Mt) (G1 C1 G2 C2 G3 C3 : Nat) (pt : Option Addr) (k ct : Nat) : Mt := { m with sp := some ⟨G1, 0, none⟩, sc := C1, ep := some ⟨G2, 0, none⟩, ec := C2, gp := some ⟨G3, 0, none⟩, gc := C3, tp := pt, tn := k, tc := ct }
/-- Three lists that were copied, k tokens. -/
structure CpO (B : Nat) (w wr : World) (m : Mt) (G1 C1 G2 C2 G3 C3 : Nat) (pt : Option Addr) (k ct : Nat) (SL : List Slo) (EL : List Epo) (GL : List (Int × Int × Int)) (T T' : List Tk) : Prop where
  o1 : wr.ownsRow B 63 9 (.slice (some ⟨G1, 0, none⟩) m.sn C1) m.sn (SL.flatMap sloL)
  o2 : wr.ownsRow B 38 5 (.slice (some ⟨G2, 0, none⟩) m.en C2) m.en (EL.flatMap epoL)
  o3 : wr.ownsRow B 65 3 (.slice (some ⟨G3, 0, none⟩) m.gn C3) m.gn (GL.flatMap sgZ)
  o4 : wr.ownsRow B 61 4 (.slice pt k ct) k (T'.flatMap tkL)
  l4 : T'.length = k
  tk : TkO B w wr T' T
def CpR (w wr : World) (m : Mt) (G1 C1 G2 C2 G3 C3 k : Nat) (SL : List Slo) (EL : List Epo) (GL : List (Int × Int × Int)) (T : List Tk) : Prop :=
  ∃ pt ct T', Twn w wr m (cpM m G1 C1 G2 C2 G3 C3 pt k ct) ∧ CpO (w.heap.size + 3) w wr m G1 C1 G2 C2 G3 C3 pt k ct SL EL GL T T'
theorem Twn.grown {w W W' : World} {m n2 : Mt} {row : Option Nat} (h : Twn w W m n2) (g : W.grownBy W' row) (hr : ∀ j, row = some j → w.heap.size + 3 ≤ j) : Twn w W' m n2 := by
  have hs := h.sz
  have key : ∀ b, b < w.heap.size + 3 → W'.heap[b]? = W.heap[b]? := fun b hb => g.block b (by omega) (fun e => by have := hr b e.symm; omega)
  exact ⟨(key _ (by omega)).trans h.bx, (key _ (by omega)).trans h.rs, (key _ (by omega)).trans h.bn, h.bel.grown g (by omega) (fun j e => by have := hr j e; omega), Nat.le_trans h.sz g.size⟩
/-- What Copy answers. -/
def CpP (w : World) (m : Mt) (SL : List Slo) (EL : List Epo) (GL : List (Int × Int × Int)) (T : List Tk) (e : Ending) (w' : World) : Prop := ∃ (G1 C1 G2 C2 G3 C3 : Nat) (pt : Option Addr) (ct : Nat) (T' : List Tk), e = .returned (.agg (mtC (cpM m G1 C1 G2 C2 G3 C3 pt m.tn ct))) ∧ CpO (w.heap.size + 3) w w' m G1 C1 G2 C2 G3 C3 pt m.tn ct SL EL GL T T' ∧ Below w.heap.size w w'
theorem TkO.grown {B : Nat} {w u u' : World} {T' T : List Tk} {row : Option Nat} (h : TkO B w u T' T) (hg : u.grownBy u' row) (hr : ∀ (zs : List Int) (x : Tk), u.ownsRow B 3 1 (.slice x.p x.l x.c) x.l (cellsI zs) → (Value.slice x.p x.l x.c).ownBlock = none ∨ (Value.slice x.p x.l x.c).ownBlock ≠ row) : TkO B w u' T' T := fun i x y hx hy => by
  obtain ⟨a, b, c, zs, ho, hl, hv⟩ := h i x y hx hy
  exact ⟨a, b, c, zs, ho.kept hg (hr zs x ho), hl, hv⟩
theorem TkO.below {B : Nat} {w u u' : World} {T' T : List Tk} (h : TkO B w u T' T) (hb : Below u.heap.size u u') : TkO B w u' T' T :=
  h.grown (row := none) ⟨hb.os, hb.tape, hb.output, hb.size, fun k hk _ => hb.block k hk⟩ (fun zs x _ => by cases (Value.slice x.p x.l x.c).ownBlock <;> simp)
theorem CpO.below {B : Nat} {w u u' : World} {m : Mt} {G1 C1 G2 C2 G3 C3 k ct : Nat} {pt : Option Addr} {SL : List Slo} {EL : List Epo} {GL : List (Int × Int × Int)} {T T' : List Tk} (h : CpO B w u m G1 C1 G2 C2 G3 C3 pt k ct SL EL GL T T') (hb : Below u.heap.size u u') : CpO B w u' m G1 C1 G2 C2 G3 C3 pt k ct SL EL GL T T' :=
  ⟨own_keep h.o1 hb, own_keep h.o2 hb, own_keep h.o3 hb, own_keep h.o4 hb, h.l4, h.tk.below hb⟩
theorem CpO.stay {B : Nat} {w u u' : World} {m : Mt} {G1 C1 G2 C2 G3 C3 k ct b : Nat} {pt : Option Addr} {SL : List Slo} {EL : List Epo} {GL : List (Int × Int × Int)} {T T' : List Tk} (h : CpO B w u m G1 C1 G2 C2 G3 C3 pt k ct SL EL GL T T') (s : Stay b u u') (hb : b < B ∨ u.heap.size ≤ b) : CpO B w u' m G1 C1 G2 C2 G3 C3 pt k ct SL EL GL T T' := by
  have key : ∀ {e sz n : Nat} {v : Value} {xs : List Value}, u.ownsRow B e sz v n xs → v.ownBlock ≠ some b := fun ho q => by
    have := ho.lt b q
    omega
  refine ⟨own_stay h.o1 s (key h.o1), own_stay h.o2 s (key h.o2), own_stay h.o3 s (key h.o3), own_stay h.o4 s (key h.o4), h.l4, ?_⟩
  exact h.tk.grown (row := some b) ⟨s.os, s.tape, s.output, s.size, fun j hj hn => s.block j hj (fun e => hn (by rw [e]))⟩ (fun zs x ho => .inr (key ho))
theorem Twn.below {w W W' : World} {m n2 : Mt} (h : Twn w W m n2) (s : Below W.heap.size W W') : Twn w W' m n2 := by
  have := h.sz
  exact ⟨(s.block _ (by omega)).trans h.bx, (s.block _ (by omega)).trans h.rs, (s.block _ (by omega)).trans h.bn, h.bel.trans (s.mono (by omega)), Nat.le_trans h.sz s.size⟩
theorem Twn.stay5 {w W W' : World} {m n2 : Mt} {b : Nat} (h : Twn w W m n2) (s : Stay b W W') (hb : w.heap.size + 3 ≤ b) : Twn w W' m n2 := by
  have := h.sz
  exact ⟨(s.block _ (by omega) (by omega)).trans h.bx, (s.block _ (by omega) (by omega)).trans h.rs, (s.block _ (by omega) (by omega)).trans h.bn, h.bel.trans (s.below (by omega) (by omega)), Nat.le_trans h.sz s.size⟩
set_option maxHeartbeats 4000000 in
set_option maxRecDepth 100000 in
theorem copy_ok (m : Mt) (SL : List Slo) (EL : List Epo) (GL : List (Int × Int × Int)) (T : List Tk) (w : World) (hsn : Hid (SL.length = m.sn)) (hen : Hid (EL.length = m.en)) (hgn : Hid (GL.length = m.gn)) (htn : Hid (T.length = m.tn))
    (y1 : Hid ((m.sn + 2) * 88 ≤ 140737488355328)) (y2 : Hid ((m.en + 2) * 72 ≤ 140737488355328)) (y3 : Hid ((m.gn + 2) * 24 ≤ 140737488355328)) (y4 : Hid ((m.tn + 2) * 64 ≤ 140737488355328))
    (z1 : Hid (m.sp = none → m.sc = 0)) (z2 : Hid (m.ep = none → m.ec = 0)) (z3 : Hid (m.gp = none → m.gc = 0)) (z4 : Hid (m.tp = none → m.tc = 0))
    (s1 : Hid (RV sloL 9 w m.sp SL)) (e1 : Hid (RV epoL 5 w m.ep EL)) (g1 : Hid (RV sgZ 3 w m.gp GL)) (t1 : Hid (RV tkL 4 w m.tp T)) (tV : Hid (∀ (i : Nat) (x : Tk), T[i]? = some x → x.l * 8 ≤ 140737488355328 ∧ ∃ zs, View w (.slice x.p x.l x.c) zs)) :
    Calls Try.prog 16 #[.agg (mtC m)] w fun e w' => CpP w m SL EL GL T e w' := by
  have W0h : ∃ W0, W0 = (w.alloc (.cells (mtC m) 36)).alloc (.cells mt0 36) := ⟨_, rfl⟩
  obtain ⟨W0, hW0⟩ := W0h
  have R1 : Hid (W0.rangeAt w.heap.size 0 (mtC m).toList) := fun j u hj => by
    rw [Nat.zero_add, hW0]
    have bx : Bx (w.alloc (.cells (mtC m) 36)) w.heap.size m := World.alloc_heap_new w _
    exact (bx.below (below_alloc1 _ _)).c j u (by simpa using hj)
  have hs0 : W0.heap.size = w.heap.size + 2 := by rw [hW0]; simp
  have T0 : Hid (Bx W0 w.heap.size m ∧ W0.heap[w.heap.size + 1]? = some (.cells mt0 36 (0, 0)) ∧ Below w.heap.size w W0) := by
    have bx : Bx (w.alloc (.cells (mtC m) 36)) w.heap.size m := World.alloc_heap_new w _
    have rs : (w.alloc (.cells (mtC m) 36)).heap.size = w.heap.size + 1 := by simp
    refine ⟨?_, ?_, ?_⟩
    · rw [hW0]; exact bx.below (below_alloc1 _ _)
    · rw [hW0, ← rs]; exact World.alloc_heap_new _ _
    · rw [hW0]; exact ((Below.refl _ w).alloc (Nat.le_refl _) _).alloc (by simp) _
  go_enter Try.func16, Try.ntmps16
  go_upto_region 1 with fail
  rw [← hW0]
  clear hW0
  go_upto_region 2 with (first | (refine wpList_load_mid (by rfl) 36 (.tmp 1) (by rfl) w.heap.size 0 (by rfl) (mtC m).toList _ R1.out Try.underlying36 rfl (size36 m) ?_) | (refine wpList_alloc_box (by rfl) (by rfl) ?_; intro W1 bb hb1 hbl1 he1 hz1; rw [hs0] at he1; subst he1) | (refine wpList_store_box (by rfl) (.tmp 3) (.tmp 6) (by rfl) m (w.heap.size + 2) mt0 (by rfl) (by rfl) hb1 rfl ?_; intro W bn st))
  simp only [Act.put, List.setIfInBounds_toArray, List.set_cons_zero, List.set_cons_succ]
  have TW : Hid (Twn w W m m) := by
    refine ⟨?_, ?_, bn, ?_, ?_⟩
    · exact (st.block _ (by rw [hz1]; omega) (by omega)).trans (T0.out.1.below hbl1)
    · exact (st.block _ (by rw [hz1]; omega) (by omega)).trans ((hbl1.block _ (by omega)).trans T0.out.2.1)
    · exact (T0.out.2.2.trans (hbl1.mono (by omega))).trans (st.below (by omega) (by rw [hz1]; omega))
    · have := st.size; rw [hz1] at this; omega
  clear T0 R1 hs0 hb1 hbl1 hz1 bn st W1
  obtain ⟨i47, hi47, hz470, hz471, hz472⟩ := info_parts info47
  have Hi47 : Hid (_ ∧ _ ∧ _ ∧ _) := ⟨hi47, hz470, hz471, hz472⟩
  clear hi47 hz470 hz471 hz472
  obtain ⟨i49, hi49, hz490, hz491, hz492⟩ := info_parts info49
  have Hi49 : Hid (_ ∧ _ ∧ _ ∧ _) := ⟨hi49, hz490, hz491, hz492⟩
  clear hi49 hz490 hz491 hz492
  obtain ⟨i51, hi51, hz510, hz511, hz512⟩ := info_parts info51
  have Hi51 : Hid (_ ∧ _ ∧ _ ∧ _) := ⟨hi51, hz510, hz511, hz512⟩
  clear hi51 hz510 hz511 hz512
  obtain ⟨i45, hi45, hz450, hz451, hz452⟩ := info_parts info45
  have Hi45 : Hid (_ ∧ _ ∧ _ ∧ _) := ⟨hi45, hz450, hz451, hz452⟩
  clear hi45 hz450 hz451 hz452
  obtain ⟨i3, hi3, hz30, hz31, hz32⟩ := info_parts info3
  have Hi3 : Hid (_ ∧ _ ∧ _ ∧ _) := ⟨hi3, hz30, hz31, hz32⟩
  clear hi3 hz30 hz31 hz32
  have q11 := (TW.out.bx.below (below_alloc1 W (.cells #[] 63))).c 11 (.slice m.sp m.sn m.sc) rfl
  go_upto_region 3 with (at_builtin; go_must (refine wpList_append_rv (by rfl) (.tmp 7) (.tmp 9) 27 (by rfl) 63 i47 _ 9 88 Try.underlying27 Hi47.out.1 Hi47.out.2.1 Hi47.out.2.2.1 Hi47.out.2.2.2 rfl (by decide) sloL_len sloL_one (w.heap.size + 3) W.heap.size 0 0 [] rfl (own_empty (World.alloc_heap_new W _) TW.out.sz) m.sp m.sn m.sc SL rfl hsn.out (s1.out.below (TW.out.bel.alloc TW.out.bel.size _)) z1.out (by have := y1.out; unfold maxLen; omega) (by have := y1.out; omega) (by have := TW.out.sz; simp; omega) ?_); intro G1 C1 U1 ho1 hg1 ha1; rw [Nat.zero_add, List.nil_append] at ho1; have bU1 : Below W.heap.size W U1 := ((Below.refl _ W).alloc (Nat.le_refl _) _).grown hg1 (by simp) (by intro j hj; cases hj; exact Nat.le_refl _); have cU := (TW.out.bn.below bU1).c 11 (.slice m.sp m.sn m.sc) rfl; have fU := frozen_bx (o := 11) (TW.out.bn.below bU1))
  try rw [Nat.zero_add]
  have sW : Stay (w.heap.size + 2) W (U1.setCell ⟨w.heap.size + 2, 11, none⟩ (.slice (some ⟨G1, 0, none⟩) m.sn C1)) := (Stay.of bU1).set _ _
  have TX : Hid (Twn w (U1.setCell ⟨w.heap.size + 2, 11, none⟩ (.slice (some ⟨G1, 0, none⟩) m.sn C1)) m ({ m with sp := some ⟨G1, 0, none⟩, sc := C1 } : Mt)) := TW.out.stay sW (bx_set (TW.out.bn.below bU1) rfl)
  have S1 : Hid ((U1.setCell ⟨w.heap.size + 2, 11, none⟩ (.slice (some ⟨G1, 0, none⟩) m.sn C1)).ownsRow (w.heap.size + 3) 63 9 (.slice (some ⟨G1, 0, none⟩) m.sn C1) m.sn (SL.flatMap sloL)) := own_stay ho1 ((Stay.refl _ _).set _ _) (own_ne ho1 (by omega))
  clear TW q11 cU fU
  have TW := TX
  clear TX sW bU1 ho1 hg1 ha1
  generalize U1.setCell ⟨w.heap.size + 2, 11, none⟩ (.slice (some ⟨G1, 0, none⟩) m.sn C1) = Wa at *
  clear U1
  have q12 := (TW.out.bx.below (below_alloc1 Wa (.cells #[] 38))).c 12 (.slice m.ep m.en m.ec) rfl
  go_upto_region 4 with (at_builtin; go_must (refine wpList_append_rv (by rfl) (.tmp 12) (.tmp 14) 28 (by rfl) 38 i49 _ 5 72 Try.underlying28 Hi49.out.1 Hi49.out.2.1 Hi49.out.2.2.1 Hi49.out.2.2.2 rfl (by decide) epoL_len epoL_one (w.heap.size + 3) Wa.heap.size 0 0 [] rfl (own_empty (World.alloc_heap_new Wa _) TW.out.sz) m.ep m.en m.ec EL rfl hen.out (e1.out.below (TW.out.bel.alloc TW.out.bel.size _)) z2.out (by have := y2.out; unfold maxLen; omega) (by have := y2.out; omega) (by have := TW.out.sz; simp; omega) ?_); intro G2 C2 U2 ho2 hg2 ha2; rw [Nat.zero_add, List.nil_append] at ho2; have bU2 : Below Wa.heap.size Wa U2 := ((Below.refl _ Wa).alloc (Nat.le_refl _) _).grown hg2 (by simp) (by intro j hj; cases hj; exact Nat.le_refl _); have cU := (TW.out.bn.below bU2).c 12 (.slice m.ep m.en m.ec) rfl; have fU := frozen_bx (o := 12) (TW.out.bn.below bU2))
  try rw [Nat.zero_add]
  have sW : Stay (w.heap.size + 2) Wa (U2.setCell ⟨w.heap.size + 2, 12, none⟩ (.slice (some ⟨G2, 0, none⟩) m.en C2)) := (Stay.of bU2).set _ _
  have TX : Hid (Twn w (U2.setCell ⟨w.heap.size + 2, 12, none⟩ (.slice (some ⟨G2, 0, none⟩) m.en C2)) m ({ m with sp := some ⟨G1, 0, none⟩, sc := C1, ep := some ⟨G2, 0, none⟩, ec := C2 } : Mt)) := TW.out.stay sW (bx_set (TW.out.bn.below bU2) rfl)
  have S2 : Hid ((U2.setCell ⟨w.heap.size + 2, 12, none⟩ (.slice (some ⟨G2, 0, none⟩) m.en C2)).ownsRow (w.heap.size + 3) 38 5 (.slice (some ⟨G2, 0, none⟩) m.en C2) m.en (EL.flatMap epoL)) := own_stay ho2 ((Stay.refl _ _).set _ _) (own_ne ho2 (by omega))
  have S1n : Hid ((U2.setCell ⟨w.heap.size + 2, 12, none⟩ (.slice (some ⟨G2, 0, none⟩) m.en C2)).ownsRow (w.heap.size + 3) 63 9 (.slice (some ⟨G1, 0, none⟩) m.sn C1) m.sn (SL.flatMap sloL)) := own_stay S1.out sW (own_ne S1.out (by omega))
  clear S1
  have S1 := S1n
  clear S1n
  clear TW q12 cU fU
  have TW := TX
  clear TX sW bU2 ho2 hg2 ha2
  generalize U2.setCell ⟨w.heap.size + 2, 12, none⟩ (.slice (some ⟨G2, 0, none⟩) m.en C2) = Wb at *
  clear U2
  have q13 := (TW.out.bx.below (below_alloc1 Wb (.cells #[] 65))).c 13 (.slice m.gp m.gn m.gc) rfl
  go_upto_region 5 with (at_builtin; go_must (refine wpList_append_rv (by rfl) (.tmp 17) (.tmp 19) 29 (by rfl) 65 i51 _ 3 24 Try.underlying29 Hi51.out.1 Hi51.out.2.1 Hi51.out.2.2.1 Hi51.out.2.2.2 rfl (by decide) sgZ_len sgZ_one (w.heap.size + 3) Wb.heap.size 0 0 [] rfl (own_empty (World.alloc_heap_new Wb _) TW.out.sz) m.gp m.gn m.gc GL rfl hgn.out (g1.out.below (TW.out.bel.alloc TW.out.bel.size _)) z3.out (by have := y3.out; unfold maxLen; omega) (by have := y3.out; omega) (by have := TW.out.sz; simp; omega) ?_); intro G3 C3 U3 ho3 hg3 ha3; rw [Nat.zero_add, List.nil_append] at ho3; have bU3 : Below Wb.heap.size Wb U3 := ((Below.refl _ Wb).alloc (Nat.le_refl _) _).grown hg3 (by simp) (by intro j hj; cases hj; exact Nat.le_refl _); have cU := (TW.out.bn.below bU3).c 13 (.slice m.gp m.gn m.gc) rfl; have fU := frozen_bx (o := 13) (TW.out.bn.below bU3))
  try rw [Nat.zero_add]
  have sW : Stay (w.heap.size + 2) Wb (U3.setCell ⟨w.heap.size + 2, 13, none⟩ (.slice (some ⟨G3, 0, none⟩) m.gn C3)) := (Stay.of bU3).set _ _
  have TX : Hid (Twn w (U3.setCell ⟨w.heap.size + 2, 13, none⟩ (.slice (some ⟨G3, 0, none⟩) m.gn C3)) m ({ m with sp := some ⟨G1, 0, none⟩, sc := C1, ep := some ⟨G2, 0, none⟩, ec := C2, gp := some ⟨G3, 0, none⟩, gc := C3 } : Mt)) := TW.out.stay sW (bx_set (TW.out.bn.below bU3) rfl)
  have S3 : Hid ((U3.setCell ⟨w.heap.size + 2, 13, none⟩ (.slice (some ⟨G3, 0, none⟩) m.gn C3)).ownsRow (w.heap.size + 3) 65 3 (.slice (some ⟨G3, 0, none⟩) m.gn C3) m.gn (GL.flatMap sgZ)) := own_stay ho3 ((Stay.refl _ _).set _ _) (own_ne ho3 (by omega))
  have S1n : Hid ((U3.setCell ⟨w.heap.size + 2, 13, none⟩ (.slice (some ⟨G3, 0, none⟩) m.gn C3)).ownsRow (w.heap.size + 3) 63 9 (.slice (some ⟨G1, 0, none⟩) m.sn C1) m.sn (SL.flatMap sloL)) := own_stay S1.out sW (own_ne S1.out (by omega))
  clear S1
  have S1 := S1n
  clear S1n
  have S2n : Hid ((U3.setCell ⟨w.heap.size + 2, 13, none⟩ (.slice (some ⟨G3, 0, none⟩) m.gn C3)).ownsRow (w.heap.size + 3) 38 5 (.slice (some ⟨G2, 0, none⟩) m.en C2) m.en (EL.flatMap epoL)) := own_stay S2.out sW (own_ne S2.out (by omega))
  clear S2
  have S2 := S2n
  clear S2n
  clear TW q13 cU fU
  have TW := TX
  clear TX sW bU3 ho3 hg3 ha3
  generalize U3.setCell ⟨w.heap.size + 2, 13, none⟩ (.slice (some ⟨G3, 0, none⟩) m.gn C3) = Wc at *
  clear U3
  have c26 := TW.out.bn.c 26 (.slice m.tp m.tn m.tc) rfl
  have f26 := frozen_bx (o := 26) TW.out.bn
  go_upto_region 7 with fail
  have sW : Stay (w.heap.size + 2) Wc (Wc.setCell ⟨w.heap.size + 2, 26, none⟩ (.slice none 0 0)) := (Stay.refl _ _).set _ _
  have CR : Hid (CpR w (Wc.setCell ⟨w.heap.size + 2, 26, none⟩ (.slice none 0 0)) m G1 C1 G2 C2 G3 C3 0 SL EL GL T) := ⟨none, 0, [], TW.out.stay sW (bx_set TW.out.bn rfl), own_stay S1.out sW (own_ne S1.out (by omega)), own_stay S2.out sW (own_ne S2.out (by omega)), own_stay S3.out sW (own_ne S3.out (by omega)), World.ownsRow_nil _ _ _ _, rfl, fun i x y hx => by simp at hx⟩
  generalize Wc.setCell ⟨w.heap.size + 2, 26, none⟩ (.slice none 0 0) = Wd at *
  clear TW S1 S2 S3 sW c26 f26
  go_loopw [4] (fun i wr => ∃ k : Nat, k ≤ m.tn ∧ i = .int .i64 k ∧ Hid (CpR w wr m G1 C1 G2 C2 G3 C3 k SL EL GL T)) (fun i _ => m.tn - (intOf i).toNat)
  case atStart => exact ⟨0, Nat.zero_le _, rfl, CR⟩
  case round =>
    obtain ⟨k, hk, rfl, HR⟩ := hrel
    clear CR
    obtain ⟨pt, ct, T', TW, CO⟩ := HR.out
    have TWh : Hid (Twn w wr m (cpM m G1 C1 G2 C2 G3 C3 pt k ct)) := TW
    have COh : Hid (CpO (w.heap.size + 3) w wr m G1 C1 G2 C2 G3 C3 pt k ct SL EL GL T T') := CO
    clear TW CO HR
    have q26 := TWh.out.bx.c 26 (.slice m.tp m.tn m.tc) rfl
    by_cases hlt : k < m.tn
    · obtain ⟨y, hy⟩ : ∃ y, T[k]? = some y := ⟨T[k]'(by have := htn.out; omega), List.getElem?_eq_getElem _⟩
      obtain ⟨ba, oa, hpa, hba, ca⟩ := (t1.out.below TWh.out.bel).get hy
      obtain ⟨hyl, zs, hzv⟩ := tV.out k y hy
      have HV : Hid (View w (.slice y.p y.l y.c) zs) := hzv
      clear hzv
      rw [hpa] at q26
      have a0 : wr.cell? ⟨ba, oa + k * 4, none⟩ = some (.int .i64 y.n) := by have := ca 0 _ rfl; simpa using this
      have a1 : wr.cell? ⟨ba, oa + k * 4 + 1, none⟩ = some (.string y.s) := by have := ca 1 _ rfl; simpa using this
      have a2 : wr.cell? ⟨ba, oa + k * 4 + 2, none⟩ = some (.slice y.p y.l y.c) := by have := ca 2 _ rfl; simpa using this
      have a3 : wr.cell? ⟨ba, oa + k * 4 + 3, none⟩ = some (.string y.z) := by have := ca 3 _ rfl; simpa using this
      have HP : Hid (m.tp = some ⟨ba, oa, none⟩) := hpa
      have HY : Hid (T[k]? = some y) := hy
      clear hpa hy ca
      go_upto_region 10 with fail
      have b1 : Below wr.heap.size wr (wr.alloc (.cells #[.int .i64 y.n, .string y.s, .slice y.p y.l y.c, .string y.z] 61)) := below_alloc1 _ _
      have BK : Hid ((wr.alloc (.cells #[.int .i64 y.n, .string y.s, .slice y.p y.l y.c, .string y.z] 61)).heap[wr.heap.size]? = some (.cells #[.int .i64 y.n, .string y.s, .slice y.p y.l y.c, .string y.z] 61 (0, 0))) := World.alloc_heap_new wr _
      have hz1 : Hid ((wr.alloc (.cells #[.int .i64 y.n, .string y.s, .slice y.p y.l y.c, .string y.z] 61)).heap.size = wr.heap.size + 1) := World.size_alloc _ _
      generalize wr.alloc (.cells #[.int .i64 y.n, .string y.s, .slice y.p y.l y.c, .string y.z] 61) = W1 at *
      have TW1 : Hid (Twn w W1 m (cpM m G1 C1 G2 C2 G3 C3 pt k ct)) := TWh.out.below b1
      have CO1 : Hid (CpO (w.heap.size + 3) w W1 m G1 C1 G2 C2 G3 C3 pt k ct SL EL GL T T') := COh.out.below b1
      have bA : Below wr.heap.size wr (W1.alloc (.cells #[] 3)) := b1.alloc b1.size _
      have p26 : (W1.alloc (.cells #[] 3)).cell? ⟨w.heap.size, 26, none⟩ = some (.slice (some ⟨ba, oa, none⟩) m.tn m.tc) := cell_below bA q26
      have p2 : (W1.alloc (.cells #[] 3)).cell? ⟨ba, oa + k * 4 + 2, none⟩ = some (.slice y.p y.l y.c) := cell_below bA a2
      have RVI := rv_view (HV.out.kept (w' := W1.alloc (.cells #[] 3)) ((TW1.out.bel.alloc TW1.out.bel.size _).block))
      have hsz := TWh.out.sz
      clear q26 a0 a1 a2 a3 TWh
      go_upto_region 11 with (at_builtin; go_must (refine wpList_append_rv (by rfl) (.tmp 35) (.tmp 41) 59 (by rfl) 3 i3 _ 1 8 Try.underlying59 Hi3.out.1 Hi3.out.2.1 Hi3.out.2.2.1 Hi3.out.2.2.2 rfl (by decide) inL_len inL_one W1.heap.size W1.heap.size 0 0 [] rfl (own_empty (World.alloc_heap_new W1 _) (Nat.le_refl _)) y.p y.l y.c zs rfl RVI.1 RVI.2.1 RVI.2.2.1 (by unfold maxLen; omega) (by omega) (by simp) ?_); intro gz kz U hoz hgz haz; rw [Nat.zero_add, List.nil_append] at hoz; have bU : Below W1.heap.size W1 U := ((Below.refl _ W1).alloc (Nat.le_refl _) _).grown hgz (by simp) (by intro j hj; cases hj; exact Nat.le_refl _); have BKU : U.heap[wr.heap.size]? = some (.cells #[.int .i64 y.n, .string y.s, .slice y.p y.l y.c, .string y.z] 61 (0, 0)) := (bU.block _ (by rw [hz1.out]; omega)).trans BK.out; have cU : U.cell? ⟨wr.heap.size, 2, none⟩ = some (.slice y.p y.l y.c) := (by rw [cell_of_row U wr.heap.size 2 _ 61 (0, 0) BKU]; rfl); have fU := frozen_of_row U wr.heap.size 2 _ 61 BKU)
      have sU : Stay wr.heap.size U (U.setCell ⟨wr.heap.size, 2, none⟩ (.slice (some ⟨gz, 0, none⟩) y.l kz)) := (Stay.refl _ _).set _ _
      have TW2 : Hid (Twn w (U.setCell ⟨wr.heap.size, 2, none⟩ (.slice (some ⟨gz, 0, none⟩) y.l kz)) m (cpM m G1 C1 G2 C2 G3 C3 pt k ct)) := (TW1.out.below bU).stay5 sU hsz
      have CO2 : Hid (CpO (w.heap.size + 3) w (U.setCell ⟨wr.heap.size, 2, none⟩ (.slice (some ⟨gz, 0, none⟩) y.l kz)) m G1 C1 G2 C2 G3 C3 pt k ct SL EL GL T T') := COh.out.stay ((Stay.of (b1.trans (bU.mono b1.size))).set _ _) (.inr (Nat.le_refl _))
      have OI2 : Hid ((U.setCell ⟨wr.heap.size, 2, none⟩ (.slice (some ⟨gz, 0, none⟩) y.l kz)).ownsRow (w.heap.size + 3) 3 1 (.slice (some ⟨gz, 0, none⟩) y.l kz) y.l (cellsI zs)) := by
        have q := own_stay hoz sU (own_ne hoz (by rw [hz1.out]; omega))
        rw [inL_cells] at q
        exact ownsRow_below q TW1.out.sz
      have BK2 : Hid ((U.setCell ⟨wr.heap.size, 2, none⟩ (.slice (some ⟨gz, 0, none⟩) y.l kz)).heap[wr.heap.size]? = some (.cells #[.int .i64 y.n, .string y.s, .slice (some ⟨gz, 0, none⟩) y.l kz, .string y.z] 61 (0, 0))) := by
        show _ = _
        rw [heap_setCell_same U wr.heap.size 2 _ 61 _ BKU]
        rfl
      generalize U.setCell ⟨wr.heap.size, 2, none⟩ (.slice (some ⟨gz, 0, none⟩) y.l kz) = W2 at *
      clear sU cU fU BKU bU hoz hgz haz BK TW1 CO1 COh b1 bA p26 p2 RVI
      have p26 := TW2.out.bn.c 26 (.slice pt k ct) rfl
      have x0 : W2.cell? ⟨wr.heap.size, 0, none⟩ = some (.int .i64 y.n) := by rw [cell_of_row W2 wr.heap.size 0 _ 61 (0, 0) BK2.out]; rfl
      have x1 : W2.cell? ⟨wr.heap.size, 1, none⟩ = some (.string y.s) := by rw [cell_of_row W2 wr.heap.size 1 _ 61 (0, 0) BK2.out]; rfl
      have x2 : W2.cell? ⟨wr.heap.size, 2, none⟩ = some (.slice (some ⟨gz, 0, none⟩) y.l kz) := by rw [cell_of_row W2 wr.heap.size 2 _ 61 (0, 0) BK2.out]; rfl
      have x3 : W2.cell? ⟨wr.heap.size, 3, none⟩ = some (.string y.z) := by rw [cell_of_row W2 wr.heap.size 3 _ 61 (0, 0) BK2.out]; rfl
      have hsz2 := TW2.out.sz
      have hk4 : (k + 1) * 64 ≤ 140737488355328 := by have := y4.out; omega
      go_upto_region 8 with (at_builtin; go_must (refine wpList_append_own _ rfl (.tmp 45) (.tmp 47) 34 rfl (w.heap.size + 3) 61 i45 _ 4 64 Try.underlying34 Hi45.out.1 Hi45.out.2.1 Hi45.out.2.2.1 Hi45.out.2.2.2 rfl (by decide) (.slice pt k ct) k (T'.flatMap tkL) rfl (CO2.out.o4.alloc _) ⟨W2.heap.size, 0, none⟩ 1 1 (tkL ⟨y.n, y.s, some ⟨gz, 0, none⟩, y.l, kz, y.z⟩) rfl rfl (news_new W2 _ 61) (tkL_one _) (by unfold maxLen; omega) hk4 (by simp; omega) ?_); intro vt U hot hgt hnt; obtain ⟨gt, cap, rfl⟩ := ownsRow_succ hot; have TWU : Twn w U m (cpM m G1 C1 G2 C2 G3 C3 pt k ct) := (TW2.out.below (below_alloc1 W2 (.cells #[.int .i64 y.n, .string y.s, .slice (some ⟨gz, 0, none⟩) y.l kz, .string y.z] 61))).grown hgt (fun j hj => ((CO2.out.o4.alloc (.cells #[.int .i64 y.n, .string y.s, .slice (some ⟨gz, 0, none⟩) y.l kz, .string y.z] 61)).lt j hj).1); have cU := TWU.bn.c 26 (.slice pt k ct) rfl; have fU := frozen_bx (o := 26) TWU.bn)
      have sU : Stay (w.heap.size + 2) U (U.setCell ⟨w.heap.size + 2, 26, none⟩ (.slice (some ⟨gt, 0, none⟩) (k + 1) cap)) := (Stay.refl _ _).set _ _
      have CO3 := CO2.out.below (below_alloc1 W2 (.cells #[.int .i64 y.n, .string y.s, .slice (some ⟨gz, 0, none⟩) y.l kz, .string y.z] 61))
      have OI3 := own_keep OI2.out (below_alloc1 W2 (.cells #[.int .i64 y.n, .string y.s, .slice (some ⟨gz, 0, none⟩) y.l kz, .string y.z] 61))
      have CRn : Hid (CpR w (U.setCell ⟨w.heap.size + 2, 26, none⟩ (.slice (some ⟨gt, 0, none⟩) (k + 1) cap)) m G1 C1 G2 C2 G3 C3 (k + 1) SL EL GL T) := by
        refine ⟨some ⟨gt, 0, none⟩, cap, T' ++ [⟨y.n, y.s, some ⟨gz, 0, none⟩, y.l, kz, y.z⟩], TWU.stay sU (bx_set TWU.bn rfl), ?_⟩
        have nb : ∀ {e sz n : Nat} {v : Value} {xs : List Value}, U.ownsRow (w.heap.size + 3) e sz v n xs → v.ownBlock ≠ some (w.heap.size + 2) := fun ho => own_ne ho (by omega)
        have u1 := own_grown CO3.o1 hgt (own_apart CO3.o1 CO3.o4 (by decide))
        have u2 := own_grown CO3.o2 hgt (own_apart CO3.o2 CO3.o4 (by decide))
        have u3 := own_grown CO3.o3 hgt (own_apart CO3.o3 CO3.o4 (by decide))
        have u5 := own_grown OI3 hgt (own_apart OI3 CO3.o4 (by decide))
        have u4 := CO3.tk.grown hgt (fun zs x ho => own_apart ho CO3.o4 (by decide))
        refine ⟨own_stay u1 sU (nb u1), own_stay u2 sU (nb u2), own_stay u3 sU (nb u3), ?_, by simp [CO3.l4], ?_⟩
        · have q := own_stay hot sU (nb hot)
          rw [List.flatMap_append, List.flatMap_singleton]
          exact q
        · intro i x yy hx hyy
          by_cases hi : i < T'.length
          · rw [List.getElem?_append_left hi] at hx
            obtain ⟨a, b, c, zs', ho, hl, hv⟩ := u4 i x yy hx hyy
            exact ⟨a, b, c, zs', own_stay ho sU (nb ho), hl, hv⟩
          · have hl4 := CO3.l4
            have hi' : i = T'.length := by
              rw [List.getElem?_append_right (by omega)] at hx
              have := (List.getElem?_eq_some_iff.1 hx).1
              simp at this
              omega
            subst hi'
            rw [List.getElem?_append_right (Nat.le_refl _), Nat.sub_self] at hx
            simp only [List.getElem?_cons_zero, Option.some.injEq] at hx
            subst hx
            rw [hl4, HY.out] at hyy
            simp only [Option.some.injEq] at hyy
            subst hyy
            exact ⟨rfl, rfl, rfl, zs, own_stay u5 sU (nb u5), (rv_view HV.out).1, HV.out⟩
      generalize U.setCell ⟨w.heap.size + 2, 26, none⟩ (.slice (some ⟨gt, 0, none⟩) (k + 1) cap) = W3 at *
      clear CO3 OI3 sU cU fU TWU hot hgt hnt TW2 CO2 OI2 BK2 p26 x0 x1 x2 x3
      go_wp2
      go_roundw
      case rel => exact ⟨k + 1, by omega, by go_num, CRn⟩
      case measure => simp [intOf]; omega
    · have hkm : k = m.tn := by omega
      have CO1 : Hid (CpO (w.heap.size + 3) w wr m G1 C1 G2 C2 G3 C3 pt m.tn ct SL EL GL T T') := by rw [← hkm]; exact COh.out
      have TW1 : Hid (Twn w wr m (cpM m G1 C1 G2 C2 G3 C3 pt m.tn ct)) := by rw [← hkm]; exact TWh.out
      have hnlt : ¬ ((k : Int) < (m.tn : Int)) := by omega
      have hnd : decide ((k : Int) < (m.tn : Int)) = false := by simp; omega
      clear COh TWh hkm
      have R9 : Hid (wr.rangeAt (w.heap.size + 2) 0 (mtC (cpM m G1 C1 G2 C2 G3 C3 pt m.tn ct)).toList) := fun j u hj => by
        rw [Nat.zero_add]
        exact TW1.out.bn.c j u (by simpa using hj)
      have RS : Hid (wr.heap[w.heap.size + 1]? = some (.cells mt0 36 (0, 0))) := TW1.out.rs
      go_upto_region 99 with (first | (refine wpList_load_mid (by rfl) 36 (.tmp 3) (by rfl) (w.heap.size + 2) 0 (by rfl) (mtC (cpM m G1 C1 G2 C2 G3 C3 pt m.tn ct)).toList _ R9.out Try.underlying36 rfl (size36 _) ?_) | (refine wpList_store_box (by rfl) (.tmp 2) (.tmp 50) (by rfl) (cpM m G1 C1 G2 C2 G3 C3 pt m.tn ct) (w.heap.size + 1) mt0 (by rfl) (by rfl) RS.out rfl ?_; intro WF bnF stF))
      refine bodyPost_ret (results_cell_row (P := Try.prog) (p := 2) (ty := 36) rfl _ WF (w.heap.size + 1) 36 (mtC (cpM m G1 C1 G2 C2 G3 C3 pt m.tn ct)) (0, 0) _ rfl bnF Try.underlying36 rfl (by rw [info36s]; rfl)) rfl ?_
      show CpP w m SL EL GL T _ WF
      have bF : Below w.heap.size w WF := TW1.out.bel.trans (stF.below (by omega) (by have := TW1.out.sz; omega))
      exact ⟨G1, C1, G2, C2, G3, C3, pt, ct, T', rfl, CO1.out.stay stF (.inl (by omega)), bF⟩
end Go.Proofs.Ytmfnhdflmnmooaa
namespace Go.Proofs.Ytmfnhdflmnmooaa
set_option linter.unusedVariables false
variable {P : Program} {ops : Array Oper} {Q : Exit → Act → World → Prop} {md : Region.Mode} {S : World → Prop} {n : Nat}

/-- Whatever order is picked; S holds behind every operation of the head (the first n); the tail may do as it likes. -/
def wpTill (P : Program) (md : Region.Mode) (ops : Array Oper) (Q : Exit → Act → World → Prop) (S : World → Prop) (n : Nat) : Nat → Array Bool → Act → World → Prop
  | 0, l, a, w => Region.ready md ops l = [] ∧ Q .normal a w
  | f + 1, l, a, w =>
    (Region.ready md ops l = [] → Q .normal a w) ∧
    ∀ i, i ∈ Region.ready md ops l → wpOp P ops Q i (fun b u => (i < n → S u) ∧ wpTill P md ops Q S n f (l.setIfInBounds i true) b u) a w

theorem any_of_till (f : Nat) : ∀ (l : Array Bool) (a : Act) (w : World), wpTill P md ops Q S n f l a w → wpAny P md ops Q f l a w := by
  induction f with
  | zero => exact fun _ _ _ h => h
  | succ f ih => exact fun l a w h => ⟨h.1, fun i hi => wpOp_mono (fun b u k => ih _ b u k.2) (h.2 i hi)⟩

theorem till_first {i : Nat} {oi : Oper} {v : Value} (hi : ops[i]? = some oi) (hin : i < n) (hn : n < ops.size) (hsk : Region.sinkB md ops n = true) (hch : Region.chainB md ops n = true)
    (hsel : ∀ (j : Nat) (o : Oper) cs b, ops[j]? = some o → o.op ≠ .select cs b) (hQ : ∀ c a w, Q (.panic c) (a.put oi.dst v) w → Q (.panic c) a w) (f : Nat) :
    ∀ (l : Array Bool) (a : Act) (w : World), HeadInv md ops n l →
      (∀ j oj, ops[j]? = some oj → j ≠ i → l.getD j true = false → (∀ e ∈ oj.after, Region.binds md e = true → e.on ≠ i) → oi.apart ops oj = true) →
      i ∈ Region.ready md ops l → YieldsIf P ops S oi v a → S w → wpTill P md ops Q S n f (l.setIfInBounds i true) (a.put oi.dst v) w → wpTill P md ops Q S n (f + 1) l a w := by
  induction f with
  | zero =>
    intro l a w inv _ hr hy hS H
    refine ⟨fun h => (by rw [h] at hr; cases hr), fun j hj => ?_⟩
    by_cases hji : j = i
    · subst hji
      exact hy.wpOp hi hS ⟨fun _ => hS, H⟩
    · have h := ready_mono hj hji
      rw [H.1] at h
      cases h
  | succ f ih =>
    intro l a w inv hfree hr hy hS H
    refine ⟨fun h => (by rw [h] at hr; cases hr), fun j hj => ?_⟩
    by_cases hji : j = i
    · subst hji
      exact hy.wpOp hi hS ⟨fun _ => hS, H⟩
    have hun := (mem_ready.1 hr).1
    have hjn : j < n := by
      rcases Nat.lt_or_ge j n with h | h
      · exact h
      · exact absurd hj (tail_waits hsk hch hn inv _ i rfl hin hun j h)
    have h1 := H.2 j (ready_mono hj hji)
    obtain ⟨hjun, oj, hoj, hall⟩ := mem_ready.1 hj
    have hnot : ∀ e ∈ oj.after, Region.binds md e = true → e.on ≠ i := fun e he hb heq => by
      have h2 := hall e he hb
      rw [heq] at h2
      rw [getD_both hun] at h2
      cases h2
    have h2 := wpOp_putIf hoj (hfree j oj hoj hji hjun hnot) (fun cs b => hsel i oi cs b hi) (fun cs b => hsel j oj cs b hoj) hQ hy h1
    refine wpOp_mono (fun b u h3 => ?_) h2
    have hSu := h3.2.1 hjn
    refine ⟨fun _ => hSu, ih (l.setIfInBounds j true) b u (inv.set hj hjn) (fun k ok hk hki hku hno => ?_) (ready_mono hr (Ne.symm hji)) h3.1 hSu ?_⟩
    · refine hfree k ok hk hki ?_ hno
      by_cases hjk : j = k
      · subst hjk; exact hjun
      · rw [getD_set_ne true hjk] at hku; exact hku
    · rw [Array.setIfInBounds_comm _ _ hji]
      exact h3.2.2

/-- What is carried along: the head's invariant, and what the region's form gives once. -/
structure Inv (md : Region.Mode) (ops : Array Oper) (n : Nat) (l : Array Bool) : Prop where
  head : HeadInv md ops n l
  lt : n < ops.size
  sink : Region.sinkB md ops n = true
  chain : Region.chainB md ops n = true
  sel : Region.noSelect ops = true
theorem Inv.set {l : Array Bool} {i : Nat} (inv : Inv md ops n l) (hi : i ∈ Region.ready md ops l) (hin : i < n) : Inv md ops n (l.setIfInBounds i true) := ⟨inv.head.set hi hin, inv.lt, inv.sink, inv.chain, inv.sel⟩

/-- An operation of the head that yields under S is taken first. -/
theorem till_at (i d : Nat) (v : Value) {oi : Oper} {f : Nat} {l : Array Bool} {tmps : Array Value} {ds : List Deferred} {w : World} (inv : Inv md ops n l) (hi : ops[i]? = some oi) (hd : oi.dst = some d)
    (hin : i < n) (hf : Region.free md ops l i = true) (hr : (Region.ready md ops l).contains i = true)
    (hQ : ∀ c a w, Q (.panic c) (a.put oi.dst v) w → Q (.panic c) a w) (hS : S w) (hy : YieldsIf P ops S oi v ⟨tmps, ds⟩)
    (h : Inv md ops n (l.setIfInBounds i true) → wpTill P md ops Q S n f (l.setIfInBounds i true) ⟨tmps.setIfInBounds d v, ds⟩ w) : wpTill P md ops Q S n (f + 1) l ⟨tmps, ds⟩ w := by
  have hr' : i ∈ Region.ready md ops l := by simpa using hr
  refine till_first hi hin inv.lt inv.sink inv.chain (Region.noSelect_spec inv.sel) hQ f l _ w inv.head (Region.free_spec hi hf) hr' hy hS ?_
  rw [hd]
  exact h (inv.set hr' hin)

/-- A lone operation of the head comes up. -/
theorem till_head {i : Nat} {o : Oper} {f : Nat} {l : Array Bool} {a : Act} {w : World} (inv : Inv md ops n l) (hr : Region.ready md ops l = [i]) (hin : i < n) (ho : ops[i]? = some o)
    (h : ∀ K' : Act → World → Prop, Shut (∀ a w, S w → (Inv md ops n (l.setIfInBounds i true) → wpTill P md ops Q S n f (l.setIfInBounds i true) a w) → K' a w) → if Region.wanted o (yielded ops a.tmps) = true then Oper.wp P o a w K' Q else K' (a.put o.dst undef) w) :
    wpTill P md ops Q S n (f + 1) l a w := by
  have hi : i ∈ Region.ready md ops l := by rw [hr]; simp
  refine ⟨fun h0 => (by rw [hr] at h0; cases h0), fun j hj => ?_⟩
  rw [hr] at hj
  obtain rfl : j = i := by simpa using hj
  exact wpOp_step ho (fun K' hK => h K' (fun a w hS hW => hK a w ⟨fun _ => hS, hW (inv.set hi hin)⟩))

/-- A lone operation of the tail comes up. -/
theorem till_tail {i : Nat} {o : Oper} {f : Nat} {l : Array Bool} {a : Act} {w : World} (hr : Region.ready md ops l = [i]) (hin : n ≤ i) (ho : ops[i]? = some o)
    (h : ∀ K' : Act → World → Prop, Shut (∀ a w, wpTill P md ops Q S n f (l.setIfInBounds i true) a w → K' a w) → if Region.wanted o (yielded ops a.tmps) = true then Oper.wp P o a w K' Q else K' (a.put o.dst undef) w) :
    wpTill P md ops Q S n (f + 1) l a w := by
  refine ⟨fun h0 => (by rw [hr] at h0; cases h0), fun j hj => ?_⟩
  rw [hr] at hj
  obtain rfl : j = i := by simpa using hj
  exact wpOp_step ho (fun K' hK => h K' (fun a w hW => hK a w ⟨fun h => by omega, hW⟩))

theorem till_done {l : Array Bool} {a : Act} {w : World} (hr : Region.ready md ops l = []) (h : Q .normal a w) : ∀ f, wpTill P md ops Q S n f l a w
  | 0 => ⟨hr, h⟩
  | _ + 1 => ⟨fun _ => h, fun i hi => by rw [hr] at hi; cases hi⟩

theorem wp_region_till {id : Nat} {a : Act} {w : World} (S : World → Prop) (n : Nat) (hm : P.follows .mixedOrders = true) (hn : n < ops.size) (hsk : Region.sinkB .any ops n = true) (hch : Region.chainB .any ops n = true) (hs : Region.noSelect ops = true)
    (h : Inv .any ops n (Array.replicate ops.size false) → wpTill P .any ops Q S n ops.size (Array.replicate ops.size false) a w.drew) : (Code.region id ops true).wp P Q a w := by
  refine wp_region_any hm (any_of_till _ _ _ _ (h ⟨⟨by simp, fun j oj _ hl => ?_, fun t _ ht => ?_⟩, hn, hsk, hch, hs⟩))
  · rw [getD_replicate_false] at hl; cases hl
  · simp [ht]
end Go.Proofs.Ytmfnhdflmnmooaa
namespace Go.Proofs.Ytmfnhdflmnmooaa
open Go.RowKit
set_option linter.unusedVariables false
set_option linter.unusedSimpArgs false
/-- Four rows that the call owns. -/
structure R4 (B : Nat) (W : World) (v1 v2 v3 v4 : Value) (n1 n2 n3 n4 : Nat) (x1 x2 x3 x4 : List Value) : Prop where
  o1 : W.ownsRow B 63 9 v1 n1 x1
  o2 : W.ownsRow B 38 5 v2 n2 x2
  o3 : W.ownsRow B 65 3 v3 n3 x3
  o4 : W.ownsRow B 61 4 v4 n4 x4
theorem R4.below {B : Nat} {W W' : World} {v1 v2 v3 v4 : Value} {n1 n2 n3 n4 : Nat} {x1 x2 x3 x4 : List Value} (h : R4 B W v1 v2 v3 v4 n1 n2 n3 n4 x1 x2 x3 x4) (hb : Below W.heap.size W W') : R4 B W' v1 v2 v3 v4 n1 n2 n3 n4 x1 x2 x3 x4 := ⟨own_keep h.o1 hb, own_keep h.o2 hb, own_keep h.o3 hb, own_keep h.o4 hb⟩
theorem R4.stay {B b : Nat} {W W' : World} {v1 v2 v3 v4 : Value} {n1 n2 n3 n4 : Nat} {x1 x2 x3 x4 : List Value} (h : R4 B W v1 v2 v3 v4 n1 n2 n3 n4 x1 x2 x3 x4) (s : Stay b W W') (hb : ∀ {e sz n : Nat} {v : Value} {xs : List Value}, e ≠ 36 → W.ownsRow B e sz v n xs → v.ownBlock ≠ some b) : R4 B W' v1 v2 v3 v4 n1 n2 n3 n4 x1 x2 x3 x4 := ⟨own_stay h.o1 s (hb (by decide) h.o1), own_stay h.o2 s (hb (by decide) h.o2), own_stay h.o3 s (hb (by decide) h.o3), own_stay h.o4 s (hb (by decide) h.o4)⟩
/-- A box of metadata is no such row. -/
theorem own_bx {B : Nat} {W : World} {b : Nat} {m : Mt} (hb : Bx W b m) {e sz n : Nat} {v : Value} {xs : List Value} (he : e ≠ 36) (h : W.ownsRow B e sz v n xs) : v.ownBlock ≠ some b := by
  intro q
  rcases h.2 with ⟨rfl, _⟩ | ⟨g, c, cur, rfl, _, hh, _⟩
  · simp [Value.ownBlock] at q
  · simp only [Value.ownBlock, Option.some.injEq] at q
    subst q
    rw [show W.heap[g]? = _ from hb] at hh
    simp at hh
    exact he hh.2.symm
/-- The three variables of roomy. -/
structure RmS (w W : World) (bc : Nat) (m n2 : Mt) : Prop where
  bx : Bx W w.heap.size m
  rs : W.heap[w.heap.size + 1]? = some (.cells mt0 36 (0, 0))
  bn : Bx W bc n2
  bel : Below w.heap.size w W
  lo : w.heap.size + 2 ≤ bc
theorem Bx.lt {W : World} {b : Nat} {m : Mt} (h : Bx W b m) : b < W.heap.size := (Array.getElem?_eq_some_iff.1 h).1
theorem RmS.below {w W W' : World} {bc : Nat} {m n2 : Mt} (h : RmS w W bc m n2) (s : Below W.heap.size W W') : RmS w W' bc m n2 := by
  have h1 := h.bn.lt
  have h2 := h.lo
  exact ⟨h.bx.below s, (s.block _ (by omega)).trans h.rs, h.bn.below s, h.bel.trans (s.mono (by omega)), h.lo⟩
theorem RmS.grown {w W W' : World} {bc : Nat} {m n2 : Mt} {row : Option Nat} (h : RmS w W bc m n2) (g : W.grownBy W' row) (hr : ∀ j, row = some j → w.heap.size + 2 ≤ j ∧ j ≠ bc) : RmS w W' bc m n2 := by
  have h1 := h.bn.lt
  have h2 := h.lo
  have key : ∀ b, b < w.heap.size + 2 ∨ b = bc → W'.heap[b]? = W.heap[b]? := fun b hb => g.block b (by omega) (fun e => by have := hr b e.symm; omega)
  exact ⟨(key _ (.inl (by omega))).trans h.bx, (key _ (.inl (by omega))).trans h.rs, (key _ (.inr rfl)).trans h.bn, h.bel.grown g (by omega) (fun j e => by have := hr j e; omega), h.lo⟩
theorem RmS.put {w W W' : World} {bc : Nat} {m n2 n3 : Mt} (h : RmS w W bc m n2) (s : Stay bc W W') (hn : Bx W' bc n3) : RmS w W' bc m n3 := by
  have h1 := h.bn.lt
  have h2 := h.lo
  exact ⟨(s.block _ (by omega) (by omega)).trans h.bx, (s.block _ (by omega) (by omega)).trans h.rs, hn, h.bel.trans (s.below (by omega) (by omega)), h.lo⟩
/-- Tokens between two rounds: the first k bear marks. -/
def TkH (B : Nat) (w wr : World) (k : Nat) (T' T : List Tk) : Prop := ∀ (i : Nat) (x y : Tk), T'[i]? = some x → T[i]? = some y → x.n = y.n ∧ x.s = y.s ∧ x.z = y.z ∧ ∃ zs, View w (.slice y.p y.l y.c) zs ∧ (i < k → Marked B wr (.slice x.p x.l x.c) zs) ∧ (k ≤ i → wr.ownsRow B 3 1 (.slice x.p x.l x.c) x.l (cellsI zs) ∧ zs.length = x.l)
theorem TkO.first {B : Nat} {w wr : World} {T' T : List Tk} (h : TkO B w wr T' T) : TkH B w wr 0 T' T := fun i x y hx hy => by
  obtain ⟨a, b, c, zs, ho, hl, hv⟩ := h i x y hx hy
  exact ⟨a, b, c, zs, hv, fun h => by omega, fun _ => ⟨ho, hl⟩⟩
theorem own_view {B : Nat} {w : World} {v : Value} {n : Nat} {zs : List Int} (h : w.ownsRow B 3 1 v n (cellsI zs)) (hl : zs.length = n) : View w v zs := by
  subst hl
  rcases h.2 with ⟨rfl, h0⟩ | ⟨g, c, cur, rfl, hB, hh, h1, h2, h3, h4⟩
  · have : zs = [] := List.length_eq_zero_iff.1 h0
    subst this
    exact ⟨none, 0, rfl, Nat.le_refl _, by unfold maxLen; omega, fun _ => rfl, .inl rfl⟩
  · refine ⟨_, c, rfl, h1, h2, (fun q => by cases q), .inr ⟨g, 0, rfl, fun i hi => ?_⟩⟩
    have hc := h.cells (g := g) rfl i (.int .i64 (zs.getD i 0)) (by
      simp only [cellsI, List.getElem?_map]
      simp [List.getElem?_eq_getElem hi, List.getD])
    rw [Addr.add_lit] at hc
    simpa using hc
theorem Marked.grown {B : Nat} {w w' : World} {v : Value} {zs : List Int} {row : Option Nat} (h : Marked B w v zs) (hg : w.grownBy w' row) (hr : ∀ {sz n : Nat} {v : Value} {xs : List Value}, w.ownsRow B 3 sz v n xs → v.ownBlock = none ∨ v.ownBlock ≠ row) : Marked B w' v zs := by
  obtain ⟨p, c, rfl, ho⟩ := h
  exact ⟨p, c, rfl, ho.kept hg (hr ho)⟩
theorem TkH.grown {B k : Nat} {w u u' : World} {T' T : List Tk} {row : Option Nat} (h : TkH B w u k T' T) (hg : u.grownBy u' row) (hr : ∀ {sz n : Nat} {v : Value} {xs : List Value}, u.ownsRow B 3 sz v n xs → v.ownBlock = none ∨ v.ownBlock ≠ row) : TkH B w u' k T' T := fun i x y hx hy => by
  obtain ⟨a, b, c, zs, hv, h1, h2⟩ := h i x y hx hy
  exact ⟨a, b, c, zs, hv, fun hi => (h1 hi).grown hg hr, fun hi => ⟨(h2 hi).1.kept hg (hr (h2 hi).1), (h2 hi).2⟩⟩
theorem grown_of_below {u u' : World} (hb : Below u.heap.size u u') (row : Option Nat) : u.grownBy u' row := ⟨hb.os, hb.tape, hb.output, hb.size, fun k hk _ => hb.block k hk⟩
theorem grown_of_stay {u u' : World} {b : Nat} (s : Stay b u u') : u.grownBy u' (some b) := ⟨s.os, s.tape, s.output, s.size, fun j hj hn => s.block j hj (fun e => hn (by rw [e]))⟩
theorem TkH.below {B k : Nat} {w u u' : World} {T' T : List Tk} (h : TkH B w u k T' T) (hb : Below u.heap.size u u') : TkH B w u' k T' T := h.grown (row := none) (grown_of_below hb none) (fun {sz n v xs} _ => by cases v.ownBlock <;> simp)
theorem flat_set (l : List Tk) (k : Nat) (x : Tk) (p : Option Addr) (q c : Nat) (r : List Value) (hx : l[k]? = some x) : (l.flatMap tkL ++ r).set (k * 4 + 2) (.slice p q c) = (l.set k { x with p := p, l := q, c := c }).flatMap tkL ++ r := by
  induction l generalizing k with
  | nil => simp at hx
  | cons y l ih =>
    cases k with
    | zero =>
      simp at hx
      subst hx
      simp [tkL]
    | succ k =>
      have := ih k (by simpa using hx)
      rw [List.set_cons_succ, List.flatMap_cons, List.flatMap_cons, List.append_assoc, List.append_assoc, ← this, List.set_append_right _ _ (by rw [tkL_len, Nat.succ_mul]; omega), tkL_len, show (k + 1) * 4 + 2 - 4 = k * 4 + 2 by omega]
theorem view_same {w : World} {v : Value} {zs zs' : List Int} (h : View w v zs) (h' : View w v zs') : zs = zs' := by
  obtain ⟨a, c, hv, h1, h2, h3, h4⟩ := h
  obtain ⟨a', c', hv', h1', h2', h3', h4'⟩ := h'
  rw [hv] at hv'
  simp only [Value.slice.injEq] at hv'
  obtain ⟨rfl, hl, rfl⟩ := hv'
  refine ext_getD rfl hl.symm (fun j hj => ?_)
  rcases h4 with h4 | ⟨b, off, rfl, hc⟩
  · rw [h4] at hj; simp at hj
  · rcases h4' with h4' | ⟨b', off', e, hc'⟩
    · rw [h4'] at hl; simp at hl; rw [hl] at hj; simp at hj
    · simp only [Option.some.injEq, Addr.mk.injEq] at e
      obtain ⟨rfl, rfl, _⟩ := e
      have q := hc j hj
      rw [hc' j (by omega)] at q
      simpa using q.symm
theorem TkH.back {B k : Nat} {w w0 u : World} {T' T : List Tk} (h : TkH B w0 u k T' T) (hb : ∀ k, k < w.heap.size → w0.heap[k]? = w.heap[k]?) (tV : ∀ (i : Nat) (x : Tk), T[i]? = some x → ∃ zs, View w (.slice x.p x.l x.c) zs) : TkH B w u k T' T := fun i x y hx hy => by
  obtain ⟨a, b, c, zs, hv, h1, h2⟩ := h i x y hx hy
  obtain ⟨zs', hv'⟩ := tV i y hy
  have e := view_same hv (hv'.kept hb)
  subst e
  exact ⟨a, b, c, zs, hv', h1, h2⟩
theorem R4.app1 {B : Nat} {W W1 U : World} {v1 v2 v3 v4 v' : Value} {n1 n2 n3 n4 n' : Nat} {x1 x2 x3 x4 x' : List Value} (h : R4 B W v1 v2 v3 v4 n1 n2 n3 n4 x1 x2 x3 x4) (hb : Below W.heap.size W W1) (hg : W1.grownBy U v1.ownBlock) (ho : U.ownsRow B 63 9 v' n' x') : R4 B U v' v2 v3 v4 n' n2 n3 n4 x' x2 x3 x4 := ⟨ho, own_grown (own_keep h.o2 hb) hg (own_apart (own_keep h.o2 hb) (own_keep h.o1 hb) (by decide)), own_grown (own_keep h.o3 hb) hg (own_apart (own_keep h.o3 hb) (own_keep h.o1 hb) (by decide)), own_grown (own_keep h.o4 hb) hg (own_apart (own_keep h.o4 hb) (own_keep h.o1 hb) (by decide))⟩
theorem R4.app2 {B : Nat} {W W1 U : World} {v1 v2 v3 v4 v' : Value} {n1 n2 n3 n4 n' : Nat} {x1 x2 x3 x4 x' : List Value} (h : R4 B W v1 v2 v3 v4 n1 n2 n3 n4 x1 x2 x3 x4) (hb : Below W.heap.size W W1) (hg : W1.grownBy U v2.ownBlock) (ho : U.ownsRow B 38 5 v' n' x') : R4 B U v1 v' v3 v4 n1 n' n3 n4 x1 x' x3 x4 := ⟨own_grown (own_keep h.o1 hb) hg (own_apart (own_keep h.o1 hb) (own_keep h.o2 hb) (by decide)), ho, own_grown (own_keep h.o3 hb) hg (own_apart (own_keep h.o3 hb) (own_keep h.o2 hb) (by decide)), own_grown (own_keep h.o4 hb) hg (own_apart (own_keep h.o4 hb) (own_keep h.o2 hb) (by decide))⟩
theorem R4.app3 {B : Nat} {W W1 U : World} {v1 v2 v3 v4 v' : Value} {n1 n2 n3 n4 n' : Nat} {x1 x2 x3 x4 x' : List Value} (h : R4 B W v1 v2 v3 v4 n1 n2 n3 n4 x1 x2 x3 x4) (hb : Below W.heap.size W W1) (hg : W1.grownBy U v3.ownBlock) (ho : U.ownsRow B 65 3 v' n' x') : R4 B U v1 v2 v' v4 n1 n2 n' n4 x1 x2 x' x4 := ⟨own_grown (own_keep h.o1 hb) hg (own_apart (own_keep h.o1 hb) (own_keep h.o3 hb) (by decide)), own_grown (own_keep h.o2 hb) hg (own_apart (own_keep h.o2 hb) (own_keep h.o3 hb) (by decide)), ho, own_grown (own_keep h.o4 hb) hg (own_apart (own_keep h.o4 hb) (own_keep h.o3 hb) (by decide))⟩
theorem R4.app4 {B : Nat} {W W1 U : World} {v1 v2 v3 v4 v' : Value} {n1 n2 n3 n4 n' : Nat} {x1 x2 x3 x4 x' : List Value} (h : R4 B W v1 v2 v3 v4 n1 n2 n3 n4 x1 x2 x3 x4) (hb : Below W.heap.size W W1) (hg : W1.grownBy U v4.ownBlock) (ho : U.ownsRow B 61 4 v' n' x') : R4 B U v1 v2 v3 v' n1 n2 n3 n' x1 x2 x3 x' := ⟨own_grown (own_keep h.o1 hb) hg (own_apart (own_keep h.o1 hb) (own_keep h.o4 hb) (by decide)), own_grown (own_keep h.o2 hb) hg (own_apart (own_keep h.o2 hb) (own_keep h.o4 hb) (by decide)), own_grown (own_keep h.o3 hb) hg (own_apart (own_keep h.o3 hb) (own_keep h.o4 hb) (by decide)), ho⟩
theorem TkH.app {B k : Nat} {w W W1 U : World} {T' T : List Tk} {e sz n : Nat} {v : Value} {xs : List Value} (h : TkH B w W k T' T) (hb : Below W.heap.size W W1) (hg : W1.grownBy U v.ownBlock) (ho : W.ownsRow B e sz v n xs) (he : 3 ≠ e) : TkH B w U k T' T := (h.below hb).grown hg (fun h3 => own_apart h3 (own_keep ho hb) he)
theorem TkH.put {B k : Nat} {w W U : World} {T' T : List Tk} {b : Nat} {m : Mt} (h : TkH B w W k T' T) (hb : Bx W b m) (s : Stay b W U) : TkH B w U k T' T := h.grown (grown_of_stay s) (fun h3 => .inr (own_bx hb (by decide) h3))
/-- Between two rounds. -/
def RmR (B : Nat) (w w0 wr : World) (bc : Nat) (m : Mt) (g1 k1 g2 k2 g3 k3 g4 k4 k : Nat) (SL : List Slo) (EL : List Epo) (GL : List (Int × Int × Int)) (T : List Tk) : Prop :=
  RmS w wr bc m (cpM m g1 k1 g2 k2 g3 k3 (some ⟨g4, 0, none⟩) m.tn k4) ∧ ∃ T' : List Tk, T'.length = m.tn ∧ R4 B wr (.slice (some ⟨g1, 0, none⟩) (m.sn + 2) k1) (.slice (some ⟨g2, 0, none⟩) (m.en + 2) k2) (.slice (some ⟨g3, 0, none⟩) (m.gn + 2) k3) (.slice (some ⟨g4, 0, none⟩) (m.tn + 2) k4) (m.sn + 2) (m.en + 2) (m.gn + 2) (m.tn + 2) (SL.flatMap sloL ++ [mkA27, mkB27].flatMap sloL) (EL.flatMap epoL ++ [mkA28, mkB28].flatMap epoL) (GL.flatMap sgZ ++ [mkA29, mkB29].flatMap sgZ) (T'.flatMap tkL ++ [mkA34, mkB34].flatMap tkL) ∧ TkH B w0 wr k T' T
/-- What roomy answers. -/
def RmP (w : World) (m : Mt) (SL : List Slo) (EL : List Epo) (GL : List (Int × Int × Int)) (T : List Tk) (e : Ending) (w' : World) : Prop := ∃ (g1 k1 g2 k2 g3 k3 g4 k4 : Nat) (T' : List Tk), e = .returned (.agg (mtC (cpM m g1 k1 g2 k2 g3 k3 (some ⟨g4, 0, none⟩) m.tn k4))) ∧ T'.length = m.tn ∧ R4 (w.heap.size + 2) w' (.slice (some ⟨g1, 0, none⟩) (m.sn + 2) k1) (.slice (some ⟨g2, 0, none⟩) (m.en + 2) k2) (.slice (some ⟨g3, 0, none⟩) (m.gn + 2) k3) (.slice (some ⟨g4, 0, none⟩) (m.tn + 2) k4) (m.sn + 2) (m.en + 2) (m.gn + 2) (m.tn + 2) (SL.flatMap sloL ++ [mkA27, mkB27].flatMap sloL) (EL.flatMap epoL ++ [mkA28, mkB28].flatMap epoL) (GL.flatMap sgZ ++ [mkA29, mkB29].flatMap sgZ) (T'.flatMap tkL ++ [mkA34, mkB34].flatMap tkL) ∧ TkH (w.heap.size + 2) w w' m.tn T' T ∧ Below w.heap.size w w'
theorem RmR.step {B : Nat} {w w0 wr u : World} {bc : Nat} {m : Mt} {g1 k1 g2 k2 g3 k3 g4 k4 k : Nat} {SL : List Slo} {EL : List Epo} {GL : List (Int × Int × Int)} {T : List Tk} {x y : Tk} {p : Option Addr} {q cc : Nat} {zs : List Int} (h : RmR B w w0 wr bc m g1 k1 g2 k2 g3 k3 g4 k4 k SL EL GL T) (hB2 : w.heap.size + 2 ≤ B) (hBs : B ≤ wr.heap.size) (hy : T[k]? = some y) (hx : h.2.choose[k]? = some x) (hB : Below wr.heap.size wr u) (hM : Marked wr.heap.size u (.slice p q cc) zs) (hV : View w0 (.slice y.p y.l y.c) zs) : RmR B w w0 (u.setCell ⟨g4, k * 4 + 2, none⟩ (.slice p q cc)) bc m g1 k1 g2 k2 g3 k3 g4 k4 (k + 1) SL EL GL T := by
  obtain ⟨hl, hR, hH⟩ := h.2.choose_spec
  have hS := h.1
  generalize h.2.choose = T' at *
  have R1 := hR.below hB
  have S1 := hS.below hB
  have H1 := hH.below hB
  have hgl := R1.o4.lt g4 rfl
  have hne : g4 ≠ bc := fun e => own_bx S1.bn (by decide) R1.o4 (by simp [Value.ownBlock, e])
  have st : Stay g4 u (u.setCell ⟨g4, k * 4 + 2, none⟩ (.slice p q cc)) := (Stay.refl _ _).set _ _
  have ap : ∀ {e sz n : Nat} {v : Value} {xs : List Value}, u.ownsRow B e sz v n xs → e ≠ 61 → v.ownBlock = none ∨ v.ownBlock ≠ some g4 := fun ho he => own_apart ho R1.o4 he
  have ap2 : ∀ {e sz n : Nat} {v : Value} {xs : List Value}, u.ownsRow B e sz v n xs → e ≠ 61 → v.ownBlock ≠ some g4 := fun ho he => by
    rcases ap ho he with q | q
    · rw [q]; simp
    · exact q
  refine ⟨S1.grown (grown_of_stay st) (fun j hj => by cases hj; exact ⟨by have := hgl.1; omega, hne⟩), T'.set k { x with p := p, l := q, c := cc }, by simpa using hl, ⟨own_stay R1.o1 st (ap2 R1.o1 (by decide)), own_stay R1.o2 st (ap2 R1.o2 (by decide)), own_stay R1.o3 st (ap2 R1.o3 (by decide)), ?_⟩, ?_⟩
  · have h2 := (R1.o4.stored (k * 4 + 2) (.slice p q cc)).1
    rw [flat_set T' k x p q cc _ hx] at h2
    exact h2
  · have H2 := H1.grown (grown_of_stay st) (fun ho => ap ho (by decide))
    intro i x' y' hx' hy'
    by_cases hik : i = k
    · subst hik
      rw [List.getElem?_set_self (List.getElem?_eq_some_iff.1 hx).1] at hx'
      rw [hy] at hy'
      cases hx'
      cases hy'
      obtain ⟨a, b, c, _⟩ := H2 i x y hx hy
      refine ⟨a, b, c, zs, hV, fun _ => ?_, fun h => by omega⟩
      obtain ⟨pg, pc, pe, po⟩ := hM
      have hM' : Marked B u (.slice p q cc) zs := ⟨pg, pc, pe, ownsRow_below po hBs⟩
      exact hM'.grown (grown_of_stay st) (fun ho => ap ho (by decide))
    · rw [List.getElem?_set_ne (by omega)] at hx'
      obtain ⟨a, b, c, zs', hv, h1, h2⟩ := H2 i x' y' hx' hy'
      exact ⟨a, b, c, zs', hv, fun hi => h1 (by omega), fun hi => h2 (by omega)⟩
set_option maxHeartbeats 8000000 in
set_option maxRecDepth 100000 in
theorem roomy_ok (m : Mt) (SL : List Slo) (EL : List Epo) (GL : List (Int × Int × Int)) (T : List Tk) (w : World) (hsn : Hid (SL.length = m.sn)) (hen : Hid (EL.length = m.en)) (hgn : Hid (GL.length = m.gn)) (htn : Hid (T.length = m.tn))
    (y1 : Hid ((m.sn + 2) * 88 ≤ 140737488355328)) (y2 : Hid ((m.en + 2) * 72 ≤ 140737488355328)) (y3 : Hid ((m.gn + 2) * 24 ≤ 140737488355328)) (y4 : Hid ((m.tn + 2) * 64 ≤ 140737488355328))
    (z1 : Hid (m.sp = none → m.sc = 0)) (z2 : Hid (m.ep = none → m.ec = 0)) (z3 : Hid (m.gp = none → m.gc = 0)) (z4 : Hid (m.tp = none → m.tc = 0))
    (s1 : Hid (RV sloL 9 w m.sp SL)) (e1 : Hid (RV epoL 5 w m.ep EL)) (g1 : Hid (RV sgZ 3 w m.gp GL)) (t1 : Hid (RV tkL 4 w m.tp T)) (tV : Hid (∀ (i : Nat) (x : Tk), T[i]? = some x → x.l ≤ 65536 ∧ ∃ zs, View w (.slice x.p x.l x.c) zs)) :
    Calls Try.prog 6 #[.agg (mtC m)] w fun e w' => RmP w m SL EL GL T e w' := by
  have W0h : ∃ W0, W0 = (w.alloc (.cells (mtC m) 36)).alloc (.cells mt0 36) := ⟨_, rfl⟩
  obtain ⟨W0, hW0⟩ := W0h
  have R1 : Hid (W0.rangeAt w.heap.size 0 (mtC m).toList) := fun j u hj => by
    rw [Nat.zero_add, hW0]
    have bx : Bx (w.alloc (.cells (mtC m) 36)) w.heap.size m := World.alloc_heap_new w _
    exact (bx.below (below_alloc1 _ _)).c j u (by simpa using hj)
  have hs0 : W0.heap.size = w.heap.size + 2 := by rw [hW0]; simp
  have T0 : Hid (Bx W0 w.heap.size m ∧ W0.heap[w.heap.size + 1]? = some (.cells mt0 36 (0, 0)) ∧ Below w.heap.size w W0) := by
    have bx : Bx (w.alloc (.cells (mtC m) 36)) w.heap.size m := World.alloc_heap_new w _
    have rs : (w.alloc (.cells (mtC m) 36)).heap.size = w.heap.size + 1 := by simp
    refine ⟨?_, ?_, ?_⟩
    · rw [hW0]; exact bx.below (below_alloc1 _ _)
    · rw [hW0, ← rs]; exact World.alloc_heap_new _ _
    · rw [hW0]; exact ((Below.refl _ w).alloc (Nat.le_refl _) _).alloc (by simp) _
  go_enter Try.func6, Try.ntmps6
  go_upto_region 1 with fail
  rw [← hW0]
  clear hW0
  have HCp : Hid (Calls Try.prog 16 #[.agg (mtC m)] W0 fun e w' => CpP W0 m SL EL GL T e w') := copy_ok m SL EL GL T W0 hsn hen hgn htn y1 y2 y3 y4 z1 z2 z3 z4 (s1.out.below T0.out.2.2) (e1.out.below T0.out.2.2) (g1.out.below T0.out.2.2) (t1.out.below T0.out.2.2) (fun i x hx => by
    obtain ⟨q1, zs, q2⟩ := tV.out i x hx
    exact ⟨by omega, zs, q2.kept T0.out.2.2.block⟩)
  go_upto_region 2 with (first | (refine wpList_load_mid (by rfl) 36 (.tmp 1) (by rfl) w.heap.size 0 (by rfl) (mtC m).toList _ R1.out Try.underlying36 rfl (size36 m) ?_) | (go_at_call 16; refine HCp.out.mono ?_; rintro e5 Wq ⟨G1, C1, G2, C2, G3, C3, pt, ct, Tq, rfl, COq, bq⟩) | (refine wpList_alloc_box (by rfl) (by rfl) ?_; intro W1 bc hb1 hbl1 he1 hz1) | (refine wpList_store_box (by rfl) (.tmp 3) (.tmp 7) (by rfl) (cpM m G1 C1 G2 C2 G3 C3 pt m.tn ct) bc mt0 (by rfl) (by rfl) hb1 rfl ?_; intro W bn st))
  simp only [Act.put, List.setIfInBounds_toArray, List.set_cons_zero, List.set_cons_succ]
  have hs0' : W0.heap.size = w.heap.size + 2 := hs0
  have hsq := bq.size
  have BW : Hid (Below w.heap.size w W) := ((T0.out.2.2.trans (bq.mono (by omega))).trans (hbl1.mono (by omega))).trans (st.below (by omega) (by omega))
  have TW : Hid (RmS w W bc m (cpM m G1 C1 G2 C2 G3 C3 pt m.tn ct)) := by
    refine ⟨?_, ?_, bn, BW.out, by omega⟩
    · exact (st.block _ (by omega) (by omega)).trans ((hbl1.block _ (by omega)).trans ((bq.block _ (by omega)).trans T0.out.1))
    · exact (st.block _ (by omega) (by omega)).trans ((hbl1.block _ (by omega)).trans ((bq.block _ (by omega)).trans T0.out.2.1))
  have CO := COq.stay ((Stay.of hbl1).trans st) (.inr (by omega))
  have hBW : W0.heap.size + 3 ≤ W.heap.size := by have q := CO.o1.lt G1 rfl; omega
  have RR : Hid (R4 (W0.heap.size + 3) W (.slice (some ⟨G1, 0, none⟩) m.sn C1) (.slice (some ⟨G2, 0, none⟩) m.en C2) (.slice (some ⟨G3, 0, none⟩) m.gn C3) (.slice pt m.tn ct) m.sn m.en m.gn m.tn (SL.flatMap sloL) (EL.flatMap epoL) (GL.flatMap sgZ) (Tq.flatMap tkL)) := ⟨CO.o1, CO.o2, CO.o3, CO.o4⟩
  have TH : Hid (TkH (W0.heap.size + 3) W0 W 0 Tq T) := CO.tk.first
  have HL : Hid (Tq.length = m.tn) := CO.l4
  have H0 : Hid (Below w.heap.size w W0) := T0.out.2.2
  have HB : Hid (w.heap.size + 2 ≤ W0.heap.size + 3) := by show _ ≤ _; omega
  clear CO COq bn st hb1 hbl1 he1 hz1 hsq bq T0 R1 hs0 hs0' BW HCp W1 Wq
  generalize W0.heap.size + 3 = B at *
  obtain ⟨i47, hi47, hz470, hz471, hz472⟩ := info_parts info47
  have Hi47 : Hid (_ ∧ _ ∧ _ ∧ _) := ⟨hi47, hz470, hz471, hz472⟩
  clear hi47 hz470 hz471 hz472
  obtain ⟨i49, hi49, hz490, hz491, hz492⟩ := info_parts info49
  have Hi49 : Hid (_ ∧ _ ∧ _ ∧ _) := ⟨hi49, hz490, hz491, hz492⟩
  clear hi49 hz490 hz491 hz492
  obtain ⟨i51, hi51, hz510, hz511, hz512⟩ := info_parts info51
  have Hi51 : Hid (_ ∧ _ ∧ _ ∧ _) := ⟨hi51, hz510, hz511, hz512⟩
  clear hi51 hz510 hz511 hz512
  obtain ⟨i45, hi45, hz450, hz451, hz452⟩ := info_parts info45
  have Hi45 : Hid (_ ∧ _ ∧ _ ∧ _) := ⟨hi45, hz450, hz451, hz452⟩
  clear hi45 hz450 hz451 hz452
  obtain ⟨i3, hi3, hz30, hz31, hz32⟩ := info_parts info3
  have Hi3 : Hid (_ ∧ _ ∧ _ ∧ _) := ⟨hi3, hz30, hz31, hz32⟩
  clear hi3 hz30 hz31 hz32
  have c11 := TW.out.bn.c 11 (.slice (some ⟨G1, 0, none⟩) m.sn C1) rfl
  go_upto_region 3 with fail
  have d11 : ∀ o, (W.alloc o).cell? ⟨bc, 11, none⟩ = some (.slice (some ⟨G1, 0, none⟩) m.sn C1) := fun o => cell_below (below_alloc1 W o) c11
  have nl : ((m.sn : Nat) : Int) ≤ 9223372036854775807 := by have := y1.out; omega
  have n0 : (0 : Int) ≤ ((m.sn : Nat) : Int) := by omega
  go_upto_region 4 with (at_builtin; go_must (refine wpList_append_own _ rfl (.tmp 12) (.tmp 15) 27 rfl B 63 i47 _ 9 88 Try.underlying27 Hi47.out.1 Hi47.out.2.1 Hi47.out.2.2.1 Hi47.out.2.2.2 rfl (by decide) (.slice (some ⟨G1, 0, none⟩) m.sn C1) m.sn (SL.flatMap sloL) rfl (RR.out.o1.alloc _) ⟨W.heap.size, 0, none⟩ 2 2 ([mkA27, mkB27].flatMap sloL) rfl rfl (fun j u h => news_new W _ 63 j u h) (flat_one sloL sloL_one _) (by have := y1.out; unfold maxLen; omega) (by have := y1.out; omega) (by simp; omega) ?_); intro v' U ho hg hn; obtain ⟨g1, k1, rfl⟩ := ownsRow_succ ho; have TWU : RmS w U bc m (cpM m G1 C1 G2 C2 G3 C3 pt m.tn ct) := RmS.grown (TW.out.below (below_alloc1 W _)) hg (fun j hj => ⟨by have := (RR.out.o1.lt j hj).1; have := HB.out; omega, fun e => own_bx TW.out.bn (by decide) RR.out.o1 (by rw [hj, e])⟩); have cU := TWU.bn.c 11 (.slice (some ⟨G1, 0, none⟩) m.sn C1) rfl; have fU := frozen_bx (o := 11) TWU.bn; have hcp : m.sn + 2 ≤ k1 := (by rcases ho.2 with ⟨h, _⟩ | ⟨g9, c9, cur9, h9, _, _, h8, _⟩; cases h; cases h9; exact h8); have hci : ((m.sn : Nat) : Int) ≤ ((k1 : Nat) : Int) := (by omega))
  have sW : Stay bc U (U.setCell ⟨bc, 11, none⟩ (.slice (some ⟨g1, 0, none⟩) m.sn k1)) := (Stay.refl _ _).set _ _
  have TX : Hid (RmS w (U.setCell ⟨bc, 11, none⟩ (.slice (some ⟨g1, 0, none⟩) m.sn k1)) bc m (cpM m g1 k1 G2 C2 G3 C3 pt m.tn ct)) := TWU.put sW (bx_set TWU.bn rfl)
  have RU := RR.out.app1 (below_alloc1 W _) hg ho
  have RX : Hid (R4 B (U.setCell ⟨bc, 11, none⟩ (.slice (some ⟨g1, 0, none⟩) m.sn k1)) (.slice (some ⟨g1, 0, none⟩) (m.sn + 2) k1) (.slice (some ⟨G2, 0, none⟩) m.en C2) (.slice (some ⟨G3, 0, none⟩) m.gn C3) (.slice (pt) m.tn ct) (m.sn + 2) m.en m.gn m.tn (SL.flatMap sloL ++ [mkA27, mkB27].flatMap sloL) (EL.flatMap epoL) (GL.flatMap sgZ) (Tq.flatMap tkL)) := RU.stay sW (fun he h => own_bx TWU.bn he h)
  have THU := TH.out.app (below_alloc1 W _) hg RR.out.o1 (by decide)
  have THX : Hid (TkH B W0 (U.setCell ⟨bc, 11, none⟩ (.slice (some ⟨g1, 0, none⟩) m.sn k1)) 0 Tq T) := THU.put TWU.bn sW
  have hBX : B ≤ (U.setCell ⟨bc, 11, none⟩ (.slice (some ⟨g1, 0, none⟩) m.sn k1)).heap.size := by have q := RX.out.o1.lt g1 rfl; omega
  clear TW RR TH hBW c11 d11 cU fU TWU RU THU sW hcp hci ho hg hn nl n0
  have TW := TX
  have RR := RX
  have TH := THX
  have hBW := hBX
  clear TX RX THX hBX
  generalize (U.setCell ⟨bc, 11, none⟩ (.slice (some ⟨g1, 0, none⟩) m.sn k1)) = Wa at *
  clear U
  have c12 := TW.out.bn.c 12 (.slice (some ⟨G2, 0, none⟩) m.en C2) rfl
  go_upto_region 5 with fail
  have d12 : ∀ o, (Wa.alloc o).cell? ⟨bc, 12, none⟩ = some (.slice (some ⟨G2, 0, none⟩) m.en C2) := fun o => cell_below (below_alloc1 Wa o) c12
  have nl : ((m.en : Nat) : Int) ≤ 9223372036854775807 := by have := y2.out; omega
  have n0 : (0 : Int) ≤ ((m.en : Nat) : Int) := by omega
  go_upto_region 6 with (at_builtin; go_must (refine wpList_append_own _ rfl (.tmp 24) (.tmp 27) 28 rfl B 38 i49 _ 5 72 Try.underlying28 Hi49.out.1 Hi49.out.2.1 Hi49.out.2.2.1 Hi49.out.2.2.2 rfl (by decide) (.slice (some ⟨G2, 0, none⟩) m.en C2) m.en (EL.flatMap epoL) rfl (RR.out.o2.alloc _) ⟨Wa.heap.size, 0, none⟩ 2 2 ([mkA28, mkB28].flatMap epoL) rfl rfl (fun j u h => news_new Wa _ 38 j u h) (flat_one epoL epoL_one _) (by have := y2.out; unfold maxLen; omega) (by have := y2.out; omega) (by simp; omega) ?_); intro v' U ho hg hn; obtain ⟨g2, k2, rfl⟩ := ownsRow_succ ho; have TWU : RmS w U bc m (cpM m g1 k1 G2 C2 G3 C3 pt m.tn ct) := RmS.grown (TW.out.below (below_alloc1 Wa _)) hg (fun j hj => ⟨by have := (RR.out.o2.lt j hj).1; have := HB.out; omega, fun e => own_bx TW.out.bn (by decide) RR.out.o2 (by rw [hj, e])⟩); have cU := TWU.bn.c 12 (.slice (some ⟨G2, 0, none⟩) m.en C2) rfl; have fU := frozen_bx (o := 12) TWU.bn; have hcp : m.en + 2 ≤ k2 := (by rcases ho.2 with ⟨h, _⟩ | ⟨g9, c9, cur9, h9, _, _, h8, _⟩; cases h; cases h9; exact h8); have hci : ((m.en : Nat) : Int) ≤ ((k2 : Nat) : Int) := (by omega))
  have sW : Stay bc U (U.setCell ⟨bc, 12, none⟩ (.slice (some ⟨g2, 0, none⟩) m.en k2)) := (Stay.refl _ _).set _ _
  have TX : Hid (RmS w (U.setCell ⟨bc, 12, none⟩ (.slice (some ⟨g2, 0, none⟩) m.en k2)) bc m (cpM m g1 k1 g2 k2 G3 C3 pt m.tn ct)) := TWU.put sW (bx_set TWU.bn rfl)
  have RU := RR.out.app2 (below_alloc1 Wa _) hg ho
  have RX : Hid (R4 B (U.setCell ⟨bc, 12, none⟩ (.slice (some ⟨g2, 0, none⟩) m.en k2)) (.slice (some ⟨g1, 0, none⟩) (m.sn + 2) k1) (.slice (some ⟨g2, 0, none⟩) (m.en + 2) k2) (.slice (some ⟨G3, 0, none⟩) m.gn C3) (.slice (pt) m.tn ct) (m.sn + 2) (m.en + 2) m.gn m.tn (SL.flatMap sloL ++ [mkA27, mkB27].flatMap sloL) (EL.flatMap epoL ++ [mkA28, mkB28].flatMap epoL) (GL.flatMap sgZ) (Tq.flatMap tkL)) := RU.stay sW (fun he h => own_bx TWU.bn he h)
  have THU := TH.out.app (below_alloc1 Wa _) hg RR.out.o2 (by decide)
  have THX : Hid (TkH B W0 (U.setCell ⟨bc, 12, none⟩ (.slice (some ⟨g2, 0, none⟩) m.en k2)) 0 Tq T) := THU.put TWU.bn sW
  have hBX : B ≤ (U.setCell ⟨bc, 12, none⟩ (.slice (some ⟨g2, 0, none⟩) m.en k2)).heap.size := by have q := RX.out.o1.lt g1 rfl; omega
  clear TW RR TH hBW c12 d12 cU fU TWU RU THU sW hcp hci ho hg hn nl n0
  have TW := TX
  have RR := RX
  have TH := THX
  have hBW := hBX
  clear TX RX THX hBX
  generalize (U.setCell ⟨bc, 12, none⟩ (.slice (some ⟨g2, 0, none⟩) m.en k2)) = Wb at *
  clear U
  have c13 := TW.out.bn.c 13 (.slice (some ⟨G3, 0, none⟩) m.gn C3) rfl
  go_upto_region 7 with fail
  have d13 : ∀ o, (Wb.alloc o).cell? ⟨bc, 13, none⟩ = some (.slice (some ⟨G3, 0, none⟩) m.gn C3) := fun o => cell_below (below_alloc1 Wb o) c13
  have nl : ((m.gn : Nat) : Int) ≤ 9223372036854775807 := by have := y3.out; omega
  have n0 : (0 : Int) ≤ ((m.gn : Nat) : Int) := by omega
  go_upto_region 8 with (at_builtin; go_must (refine wpList_append_own _ rfl (.tmp 36) (.tmp 39) 29 rfl B 65 i51 _ 3 24 Try.underlying29 Hi51.out.1 Hi51.out.2.1 Hi51.out.2.2.1 Hi51.out.2.2.2 rfl (by decide) (.slice (some ⟨G3, 0, none⟩) m.gn C3) m.gn (GL.flatMap sgZ) rfl (RR.out.o3.alloc _) ⟨Wb.heap.size, 0, none⟩ 2 2 ([mkA29, mkB29].flatMap sgZ) rfl rfl (fun j u h => news_new Wb _ 65 j u h) (flat_one sgZ sgZ_one _) (by have := y3.out; unfold maxLen; omega) (by have := y3.out; omega) (by simp; omega) ?_); intro v' U ho hg hn; obtain ⟨g3, k3, rfl⟩ := ownsRow_succ ho; have TWU : RmS w U bc m (cpM m g1 k1 g2 k2 G3 C3 pt m.tn ct) := RmS.grown (TW.out.below (below_alloc1 Wb _)) hg (fun j hj => ⟨by have := (RR.out.o3.lt j hj).1; have := HB.out; omega, fun e => own_bx TW.out.bn (by decide) RR.out.o3 (by rw [hj, e])⟩); have cU := TWU.bn.c 13 (.slice (some ⟨G3, 0, none⟩) m.gn C3) rfl; have fU := frozen_bx (o := 13) TWU.bn; have hcp : m.gn + 2 ≤ k3 := (by rcases ho.2 with ⟨h, _⟩ | ⟨g9, c9, cur9, h9, _, _, h8, _⟩; cases h; cases h9; exact h8); have hci : ((m.gn : Nat) : Int) ≤ ((k3 : Nat) : Int) := (by omega))
  have sW : Stay bc U (U.setCell ⟨bc, 13, none⟩ (.slice (some ⟨g3, 0, none⟩) m.gn k3)) := (Stay.refl _ _).set _ _
  have TX : Hid (RmS w (U.setCell ⟨bc, 13, none⟩ (.slice (some ⟨g3, 0, none⟩) m.gn k3)) bc m (cpM m g1 k1 g2 k2 g3 k3 pt m.tn ct)) := TWU.put sW (bx_set TWU.bn rfl)
  have RU := RR.out.app3 (below_alloc1 Wb _) hg ho
  have RX : Hid (R4 B (U.setCell ⟨bc, 13, none⟩ (.slice (some ⟨g3, 0, none⟩) m.gn k3)) (.slice (some ⟨g1, 0, none⟩) (m.sn + 2) k1) (.slice (some ⟨g2, 0, none⟩) (m.en + 2) k2) (.slice (some ⟨g3, 0, none⟩) (m.gn + 2) k3) (.slice (pt) m.tn ct) (m.sn + 2) (m.en + 2) (m.gn + 2) m.tn (SL.flatMap sloL ++ [mkA27, mkB27].flatMap sloL) (EL.flatMap epoL ++ [mkA28, mkB28].flatMap epoL) (GL.flatMap sgZ ++ [mkA29, mkB29].flatMap sgZ) (Tq.flatMap tkL)) := RU.stay sW (fun he h => own_bx TWU.bn he h)
  have THU := TH.out.app (below_alloc1 Wb _) hg RR.out.o3 (by decide)
  have THX : Hid (TkH B W0 (U.setCell ⟨bc, 13, none⟩ (.slice (some ⟨g3, 0, none⟩) m.gn k3)) 0 Tq T) := THU.put TWU.bn sW
  have hBX : B ≤ (U.setCell ⟨bc, 13, none⟩ (.slice (some ⟨g3, 0, none⟩) m.gn k3)).heap.size := by have q := RX.out.o1.lt g1 rfl; omega
  clear TW RR TH hBW c13 d13 cU fU TWU RU THU sW hcp hci ho hg hn nl n0
  have TW := TX
  have RR := RX
  have TH := THX
  have hBW := hBX
  clear TX RX THX hBX
  generalize (U.setCell ⟨bc, 13, none⟩ (.slice (some ⟨g3, 0, none⟩) m.gn k3)) = Wc at *
  clear U
  have c26 := TW.out.bn.c 26 (.slice (pt) m.tn ct) rfl
  go_upto_region 9 with fail
  have d26 : ∀ o, (Wc.alloc o).cell? ⟨bc, 26, none⟩ = some (.slice (pt) m.tn ct) := fun o => cell_below (below_alloc1 Wc o) c26
  have nl : ((m.tn : Nat) : Int) ≤ 9223372036854775807 := by have := y4.out; omega
  have n0 : (0 : Int) ≤ ((m.tn : Nat) : Int) := by omega
  go_upto_region 10 with (at_builtin; go_must (refine wpList_append_own _ rfl (.tmp 48) (.tmp 51) 34 rfl B 61 i45 _ 4 64 Try.underlying34 Hi45.out.1 Hi45.out.2.1 Hi45.out.2.2.1 Hi45.out.2.2.2 rfl (by decide) (.slice (pt) m.tn ct) m.tn (Tq.flatMap tkL) rfl (RR.out.o4.alloc _) ⟨Wc.heap.size, 0, none⟩ 2 2 ([mkA34, mkB34].flatMap tkL) rfl rfl (fun j u h => news_new Wc _ 61 j u h) (flat_one tkL tkL_one _) (by have := y4.out; unfold maxLen; omega) (by have := y4.out; omega) (by simp; omega) ?_); intro v' U ho hg hn; obtain ⟨g4, k4, rfl⟩ := ownsRow_succ ho; have TWU : RmS w U bc m (cpM m g1 k1 g2 k2 g3 k3 pt m.tn ct) := RmS.grown (TW.out.below (below_alloc1 Wc _)) hg (fun j hj => ⟨by have := (RR.out.o4.lt j hj).1; have := HB.out; omega, fun e => own_bx TW.out.bn (by decide) RR.out.o4 (by rw [hj, e])⟩); have cU := TWU.bn.c 26 (.slice (pt) m.tn ct) rfl; have fU := frozen_bx (o := 26) TWU.bn; have hcp : m.tn + 2 ≤ k4 := (by rcases ho.2 with ⟨h, _⟩ | ⟨g9, c9, cur9, h9, _, _, h8, _⟩; cases h; cases h9; exact h8); have hci : ((m.tn : Nat) : Int) ≤ ((k4 : Nat) : Int) := (by omega))
  have sW : Stay bc U (U.setCell ⟨bc, 26, none⟩ (.slice (some ⟨g4, 0, none⟩) m.tn k4)) := (Stay.refl _ _).set _ _
  have TX : Hid (RmS w (U.setCell ⟨bc, 26, none⟩ (.slice (some ⟨g4, 0, none⟩) m.tn k4)) bc m (cpM m g1 k1 g2 k2 g3 k3 (some ⟨g4, 0, none⟩) m.tn k4)) := TWU.put sW (bx_set TWU.bn rfl)
  have RU := RR.out.app4 (below_alloc1 Wc _) hg ho
  have RX : Hid (R4 B (U.setCell ⟨bc, 26, none⟩ (.slice (some ⟨g4, 0, none⟩) m.tn k4)) (.slice (some ⟨g1, 0, none⟩) (m.sn + 2) k1) (.slice (some ⟨g2, 0, none⟩) (m.en + 2) k2) (.slice (some ⟨g3, 0, none⟩) (m.gn + 2) k3) (.slice (some ⟨g4, 0, none⟩) (m.tn + 2) k4) (m.sn + 2) (m.en + 2) (m.gn + 2) (m.tn + 2) (SL.flatMap sloL ++ [mkA27, mkB27].flatMap sloL) (EL.flatMap epoL ++ [mkA28, mkB28].flatMap epoL) (GL.flatMap sgZ ++ [mkA29, mkB29].flatMap sgZ) (Tq.flatMap tkL ++ [mkA34, mkB34].flatMap tkL)) := RU.stay sW (fun he h => own_bx TWU.bn he h)
  have THU := TH.out.app (below_alloc1 Wc _) hg RR.out.o4 (by decide)
  have THX : Hid (TkH B W0 (U.setCell ⟨bc, 26, none⟩ (.slice (some ⟨g4, 0, none⟩) m.tn k4)) 0 Tq T) := THU.put TWU.bn sW
  have hBX : B ≤ (U.setCell ⟨bc, 26, none⟩ (.slice (some ⟨g4, 0, none⟩) m.tn k4)).heap.size := by have q := RX.out.o1.lt g1 rfl; omega
  clear TW RR TH hBW c26 d26 cU fU TWU RU THU sW hcp hci ho hg hn nl n0
  have TW := TX
  have RR := RX
  have TH := THX
  have hBW := hBX
  clear TX RX THX hBX
  generalize (U.setCell ⟨bc, 26, none⟩ (.slice (some ⟨g4, 0, none⟩) m.tn k4)) = Wd at *
  clear U
  have HRs : Hid (RmR B w W0 Wd bc m g1 k1 g2 k2 g3 k3 g4 k4 0 SL EL GL T) := ⟨TW.out, Tq, HL.out, RR.out, TH.out⟩
  clear TW RR TH
  have hkb : m.tn ≤ 2199023255552 := by have := y4.out; omega
  go_upto_region 11 with fail
  go_loopw [5] (fun i wr => ∃ k : Nat, k ≤ m.tn ∧ i = .int .i64 k ∧ Hid (RmR B w W0 wr bc m g1 k1 g2 k2 g3 k3 g4 k4 k SL EL GL T)) (fun i _ => m.tn - (intOf i).toNat)
  case atStart => exact ⟨0, Nat.zero_le _, rfl, HRs⟩
  case round =>
    obtain ⟨k, hk, rfl, HR⟩ := hrel
    clear HRs
    have z26 := HR.out.1.bn.c 26 (.slice (some ⟨g4, 0, none⟩) m.tn k4) rfl
    by_cases hlt : k < m.tn
    · obtain ⟨y, hy⟩ : ∃ y, T[k]? = some y := ⟨T[k]'(by have := htn.out; omega), List.getElem?_eq_getElem _⟩
      obtain ⟨T', hT'⟩ : ∃ T', Hid (T' = HR.out.2.choose) := ⟨_, rfl⟩
      have hsp := HR.out.2.choose_spec
      rw [← hT'.out] at hsp
      obtain ⟨hl, hR, hH⟩ := hsp
      obtain ⟨x, hx⟩ : ∃ x, T'[k]? = some x := ⟨T'[k]'(by omega), List.getElem?_eq_getElem _⟩
      obtain ⟨_, _, _, zs, hV0, _, hzz⟩ := hH k x y hx hy
      obtain ⟨hoz, hzl0⟩ := hzz (Nat.le_refl _)
      have HV : Hid (View wr (.slice x.p x.l x.c) zs) := own_view hoz hzl0
      have HV0 : Hid (View W0 (.slice y.p y.l y.c) zs) := hV0
      have hzl : (zs.length + 70) * 8 ≤ 140737488355328 := by
        have q1 := (rv_view hV0).1
        have q2 := (tV.out k y hy).1
        omega
      have HO : Hid (wr.ownsRow B 61 4 (.slice (some ⟨g4, 0, none⟩) (m.tn + 2) k4) (m.tn + 2) (T'.flatMap tkL ++ [mkA34, mkB34].flatMap tkL)) := hR.o4
      have hBs : B ≤ wr.heap.size := by have q := hR.o4.lt g4 rfl; omega
      obtain ⟨ba, oa, hpa, hba, ca⟩ := (rv_own tkL_len hR.o4).get hx
      simp only [Option.some.injEq, Addr.mk.injEq] at hpa
      obtain ⟨rfl, rfl, _⟩ := hpa
      have ld1 : ∀ u, Below wr.heap.size wr u → u.cell? ⟨bc, 26, none⟩ = some (.slice (some ⟨g4, 0, none⟩) m.tn k4) := fun u hu => cell_below hu z26
      have ld3 : ∀ u, Below wr.heap.size wr u → u.cell? ⟨g4, k * 4 + 2, none⟩ = some (.slice x.p x.l x.c) := fun u hu => cell_below hu (by have q := ca 2 _ rfl; simpa using q)
      have q0 : (0 : Int) ≤ (k : Int) := by omega
      have q1 : (k : Int) < (m.tn : Int) := by omega
      have HX : Hid (HR.out.2.choose[k]? = some x) := by show _ = _; rw [← hT'.out]; exact hx
      have HY : Hid (T[k]? = some y) := hy
      have hS0 : Below wr.heap.size wr wr.drew := (Below.refl _ _).drew
      clear hx hy hH hR hl hoz hzl0 hzz hV0 ca hba
      go_upto_region 13 with fail
      refine wp_region_noPanic ?_
      refine wp_region_till (fun u => Below wr.heap.size wr u) 12 (by kernel_rfl) (by decide) (by decide +kernel) (by decide +kernel) (by decide +kernel) (fun inv => ?_)
      refine till_at 0 61 (.pointer (some ⟨bc, 26, none⟩)) inv rfl rfl (by decide) (by decide +kernel) (by decide +kernel) (fun _ _ _ h => h) (hS0) (Or.inl ⟨by rfl, fun w' hS' => by go_simp⟩) (fun inv' => ?_)
      clear inv; have inv := inv'; clear inv'
      simp only [List.setIfInBounds_toArray, List.set_cons_zero, List.set_cons_succ]
      refine till_at 1 62 (.slice (some ⟨g4, 0, none⟩) m.tn k4) inv rfl rfl (by decide) (by decide +kernel) (by decide +kernel) (fun _ _ _ h => h) (hS0) (Or.inl ⟨by rfl, fun w' hS' => by have q := ld1 w' hS'; go_simp⟩) (fun inv' => ?_)
      clear inv; have inv := inv'; clear inv'
      simp only [List.setIfInBounds_toArray, List.set_cons_zero, List.set_cons_succ]
      refine till_at 2 63 (.int .i64 (k : Nat)) inv rfl rfl (by decide) (by decide +kernel) (by decide +kernel) (fun _ _ _ h => h) (hS0) (Or.inl ⟨by rfl, fun w' hS' => by go_simp⟩) (fun inv' => ?_)
      clear inv; have inv := inv'; clear inv'
      simp only [List.setIfInBounds_toArray, List.set_cons_zero, List.set_cons_succ]
      refine till_at 3 64 (.pointer (some ⟨bc, 26, none⟩)) inv rfl rfl (by decide) (by decide +kernel) (by decide +kernel) (fun _ _ _ h => h) (hS0) (Or.inl ⟨by rfl, fun w' hS' => by go_simp⟩) (fun inv' => ?_)
      clear inv; have inv := inv'; clear inv'
      simp only [List.setIfInBounds_toArray, List.set_cons_zero, List.set_cons_succ]
      refine till_at 4 65 (.slice (some ⟨g4, 0, none⟩) m.tn k4) inv rfl rfl (by decide) (by decide +kernel) (by decide +kernel) (fun _ _ _ h => h) (hS0) (Or.inl ⟨by rfl, fun w' hS' => by have q := ld1 w' hS'; go_simp⟩) (fun inv' => ?_)
      clear inv; have inv := inv'; clear inv'
      simp only [List.setIfInBounds_toArray, List.set_cons_zero, List.set_cons_succ]
      refine till_at 5 66 (.int .i64 (k : Nat)) inv rfl rfl (by decide) (by decide +kernel) (by decide +kernel) (fun _ _ _ h => h) (hS0) (Or.inl ⟨by rfl, fun w' hS' => by go_simp⟩) (fun inv' => ?_)
      clear inv; have inv := inv'; clear inv'
      simp only [List.setIfInBounds_toArray, List.set_cons_zero, List.set_cons_succ]
      refine till_at 6 67 (.pointer (some ⟨g4, k * 4, none⟩)) inv rfl rfl (by decide) (by decide +kernel) (by decide +kernel) (fun _ _ _ h => h) (hS0) (Or.inl ⟨by rfl, fun w' hS' => by go_simp⟩) (fun inv' => ?_)
      clear inv; have inv := inv'; clear inv'
      simp only [List.setIfInBounds_toArray, List.set_cons_zero, List.set_cons_succ]
      refine till_at 7 68 (.pointer (some ⟨g4, k * 4 + 2, none⟩)) inv rfl rfl (by decide) (by decide +kernel) (by decide +kernel) (fun _ _ _ h => h) (hS0) (Or.inl ⟨by rfl, fun w' hS' => by go_simp⟩) (fun inv' => ?_)
      clear inv; have inv := inv'; clear inv'
      simp only [List.setIfInBounds_toArray, List.set_cons_zero, List.set_cons_succ]
      refine till_at 8 69 (.slice x.p x.l x.c) inv rfl rfl (by decide) (by decide +kernel) (by decide +kernel) (fun _ _ _ h => h) (hS0) (Or.inl ⟨by rfl, fun w' hS' => by have q := ld3 w' hS'; go_simp⟩) (fun inv' => ?_)
      clear inv; have inv := inv'; clear inv'
      simp only [List.setIfInBounds_toArray, List.set_cons_zero, List.set_cons_succ]
      refine till_head (i := 9) inv (by decide +kernel) (by decide) rfl (fun K hK => ?_)
      go_simp
      refine (copyI_any (.slice x.p x.l x.c) zs wr.drew hzl (View.kept HV.out (fun q hq => rfl))).mono ?_
      rintro e1 wq ⟨vq, rfl, hMq, hBq⟩
      have hBq2 : Below wr.heap.size wr wq := ⟨hBq.os, hBq.tape, hBq.output, hBq.size, hBq.block⟩
      have hMq2 : Marked wr.heap.size wq vq zs := hMq
      obtain ⟨pg, pc, rfl, hpo⟩ := hMq
      go_wp2_with fail
      refine hK.out _ _ hBq2 (fun inv' => ?_)
      clear hK K inv; have inv := inv'; clear inv'
      try simp only [List.setIfInBounds_toArray, List.set_cons_zero, List.set_cons_succ]
      refine till_at 10 71 (.pointer (some ⟨g4, k * 4, none⟩)) inv rfl rfl (by decide) (by decide +kernel) (by decide +kernel) (fun _ _ _ h => h) (hBq2) (Or.inl ⟨by rfl, fun w' hS' => by go_simp⟩) (fun inv' => ?_)
      clear inv; have inv := inv'; clear inv'
      simp only [List.setIfInBounds_toArray, List.set_cons_zero, List.set_cons_succ]
      refine till_at 11 72 (.pointer (some ⟨g4, k * 4 + 2, none⟩)) inv rfl rfl (by decide) (by decide +kernel) (by decide +kernel) (fun _ _ _ h => h) (hBq2) (Or.inl ⟨by rfl, fun w' hS' => by go_simp⟩) (fun inv' => ?_)
      clear inv; have inv := inv'; clear inv'
      simp only [List.setIfInBounds_toArray, List.set_cons_zero, List.set_cons_succ]
      have hoq := own_keep HO.out hBq2
      obtain ⟨vc, hvc⟩ : ∃ vc, wq.cell? ⟨g4, k * 4 + 2, none⟩ = some vc := by
        have hq := hoq.cellAt (k * 4 + 2) (by omega)
        rw [List.getElem?_eq_getElem (by rw [hoq.1]; omega)] at hq
        exact ⟨_, hq⟩
      have hfc : wq.frozen? ⟨g4, k * 4 + 2, none⟩ = false := hoq.frozenAt _
      refine till_tail (i := 12) (by decide +kernel) (by decide) rfl (fun K hK => ?_)
      go_simp
      refine hK.out _ _ ?_
      clear hK K inv
      try simp only [Act.put, List.setIfInBounds_toArray, List.set_cons_zero, List.set_cons_succ]
      refine till_done (by decide +kernel) ?_ _
      refine NoPanic.normal ?_
      have HR2 : Hid (RmR B w W0 (wq.setCell ⟨g4, k * 4 + 2, none⟩ (.slice (some ⟨pg, 0, none⟩) zs.length pc)) bc m g1 k1 g2 k2 g3 k3 g4 k4 (k + 1) SL EL GL T) := HR.out.step HB.out hBs HY.out HX.out hBq2 hMq2 HV0.out
      clear hMq2 hpo hoq hvc hfc hBq hBq2 HV ld1 ld3 hS0 z26 HX HO hT'
      go_wp2
      go_roundw
      case rel => exact ⟨k + 1, by omega, by go_num, HR2⟩
      case measure => simp [intOf]; omega
    · have hkm : k = m.tn := by omega
      have HR3 : Hid (RmR B w W0 wr bc m g1 k1 g2 k2 g3 k3 g4 k4 m.tn SL EL GL T) := by rw [← hkm]; exact HR.out
      have hnd : decide ((k : Int) < (m.tn : Int)) = false := by simp; omega
      clear HR hkm
      have R9 : Hid (wr.rangeAt bc 0 (mtC (cpM m g1 k1 g2 k2 g3 k3 (some ⟨g4, 0, none⟩) m.tn k4)).toList) := fun j u hj => by
        rw [Nat.zero_add]
        exact HR3.out.1.bn.c j u (by simpa using hj)
      have RS : Hid (wr.heap[w.heap.size + 1]? = some (.cells mt0 36 (0, 0))) := HR3.out.1.rs
      go_upto_region 99 with (first | (refine wpList_load_mid (by rfl) 36 (.tmp 3) (by rfl) bc 0 (by rfl) (mtC (cpM m g1 k1 g2 k2 g3 k3 (some ⟨g4, 0, none⟩) m.tn k4)).toList _ R9.out Try.underlying36 rfl (size36 _) ?_) | (refine wpList_store_box (by rfl) (.tmp 2) (.tmp 73) (by rfl) (cpM m g1 k1 g2 k2 g3 k3 (some ⟨g4, 0, none⟩) m.tn k4) (w.heap.size + 1) mt0 (by rfl) (by rfl) RS.out rfl ?_; intro WF bnF stF))
      refine bodyPost_ret (results_cell_row (P := Try.prog) (p := 2) (ty := 36) rfl _ WF (w.heap.size + 1) 36 (mtC (cpM m g1 k1 g2 k2 g3 k3 (some ⟨g4, 0, none⟩) m.tn k4)) (0, 0) _ rfl bnF Try.underlying36 rfl (by rw [info36s]; rfl)) rfl ?_
      show RmP w m SL EL GL T _ WF
      obtain ⟨S3, T', l3, R3, H3⟩ := HR3.out
      have nb : ∀ {e sz n : Nat} {v : Value} {xs : List Value}, wr.ownsRow B e sz v n xs → v.ownBlock ≠ some (w.heap.size + 1) := fun ho => own_ne ho (by have := HB.out; omega)
      have bF : Below w.heap.size w WF := S3.bel.trans (stF.below (by omega) (by have := S3.bn.lt; have := S3.lo; omega))
      have RF := R3.stay stF (fun _ h => nb h)
      have HF := (H3.grown (grown_of_stay stF) (fun h => .inr (nb h))).back H0.out.block (fun i x hx => (tV.out i x hx).2)
      refine ⟨g1, k1, g2, k2, g3, k3, g4, k4, T', rfl, l3, ⟨ownsRow_below RF.o1 HB.out, ownsRow_below RF.o2 HB.out, ownsRow_below RF.o3 HB.out, ownsRow_below RF.o4 HB.out⟩, ?_, bF⟩
      intro i x y hx hy
      obtain ⟨a, b, c, zs, hv, h1, h2⟩ := HF i x y hx hy
      refine ⟨a, b, c, zs, hv, fun hi => ?_, fun hi => ⟨ownsRow_below (h2 hi).1 HB.out, (h2 hi).2⟩⟩
      obtain ⟨pg, pc, pe, po⟩ := h1 hi
      exact ⟨pg, pc, pe, ownsRow_below po HB.out⟩
end Go.Proofs.Ytmfnhdflmnmooaa
namespace Go.Proofs.Ytmfnhdflmnmooaa
open Go.RowKit
set_option linter.unusedVariables false
set_option linter.unusedSimpArgs false
set_option maxHeartbeats 1600000 in
set_option maxRecDepth 100000 in
theorem list48_ok (p : Option Addr) (n c : Nat) (l : List (Slo)) (hl : Hid (l.length = n)) (hn : Hid (n * 88 ≤ 140737488355328)) (hz : Hid (p = none → c = 0)) (w : World) (h : Hid (RV sloL 9 w p l)) : Calls Try.prog 48 #[.slice p n c] w fun e w' => ∃ v, e = .returned v ∧ w'.ownsRow w.heap.size 63 9 v n (l.flatMap sloL) ∧ Below w.heap.size w w' := by
  obtain ⟨i0, hi, hz0, hz1, hz2⟩ := info_parts info47
  cases p with
  | none =>
    have h0 : l = [] := by
      rcases h.out with q | ⟨b, off, q, _⟩
      · exact q
      · cases q
    subst h0
    obtain rfl : n = 0 := by have := hl.out; simpa using this.symm
    obtain rfl : c = 0 := hz.out rfl
    go_enter Try.func48, Try.ntmps48
    go_wp2_with (at_builtin; go_must (refine wpList_append_own_none rfl _ _ 27 rfl w.heap.size 63 i0 9 Try.underlying27 hi (.slice none 0 0) 0 [] rfl (World.ownsRow_nil _ _ _ _) rfl ?_))
    go_ret
    exact ⟨_, rfl, World.ownsRow_nil _ _ _ _, Below.refl _ _⟩
  | some ad =>
    have hnews : ∀ j u, (l.flatMap sloL)[j]? = some u → w.cell? (ad.add j) = some u := by
      intro j u hj
      obtain ⟨i, x, r, q1, q2, q3⟩ := flat_split sloL 9 sloL_len l j u hj
      rcases h.out with q | ⟨b, off, q, _, hc⟩
      · subst q; simp at q1
      · simp only [Option.some.injEq] at q
        subst q
        have := hc i x q1 r u q2
        rw [Addr.add_mid, q3, ← Nat.add_assoc]
        exact this
    have hlen : (l.flatMap sloL).length = n * 9 := by rw [flat_len sloL 9 sloL_len, hl.out]
    go_enter Try.func48, Try.ntmps48
    go_wp2_with (at_builtin; go_must (refine wpList_append_own _ rfl _ _ 27 rfl w.heap.size 63 i0 _ 9 88 Try.underlying27 hi hz0 hz1 hz2 rfl (by decide) (.slice none 0 0) 0 [] rfl (World.ownsRow_nil _ _ _ _) ad n c (l.flatMap sloL) rfl hlen hnews (flat_one sloL sloL_one l) (by have := hn.out; unfold maxLen; omega) (by have := hn.out; omega) (Nat.le_refl _) ?_); intro v' U ho hg hn'; rw [Nat.zero_add, List.nil_append] at ho)
    go_ret
    exact ⟨_, rfl, ho, (Below.refl _ w).grown hg (Nat.le_refl _) (fun j hj => by simp [Value.ownBlock] at hj)⟩
set_option maxHeartbeats 1600000 in
set_option maxRecDepth 100000 in
theorem list49_ok (p : Option Addr) (n c : Nat) (l : List (Epo)) (hl : Hid (l.length = n)) (hn : Hid (n * 72 ≤ 140737488355328)) (hz : Hid (p = none → c = 0)) (w : World) (h : Hid (RV epoL 5 w p l)) : Calls Try.prog 49 #[.slice p n c] w fun e w' => ∃ v, e = .returned v ∧ w'.ownsRow w.heap.size 38 5 v n (l.flatMap epoL) ∧ Below w.heap.size w w' := by
  obtain ⟨i0, hi, hz0, hz1, hz2⟩ := info_parts info49
  cases p with
  | none =>
    have h0 : l = [] := by
      rcases h.out with q | ⟨b, off, q, _⟩
      · exact q
      · cases q
    subst h0
    obtain rfl : n = 0 := by have := hl.out; simpa using this.symm
    obtain rfl : c = 0 := hz.out rfl
    go_enter Try.func49, Try.ntmps49
    go_wp2_with (at_builtin; go_must (refine wpList_append_own_none rfl _ _ 28 rfl w.heap.size 38 i0 5 Try.underlying28 hi (.slice none 0 0) 0 [] rfl (World.ownsRow_nil _ _ _ _) rfl ?_))
    go_ret
    exact ⟨_, rfl, World.ownsRow_nil _ _ _ _, Below.refl _ _⟩
  | some ad =>
    have hnews : ∀ j u, (l.flatMap epoL)[j]? = some u → w.cell? (ad.add j) = some u := by
      intro j u hj
      obtain ⟨i, x, r, q1, q2, q3⟩ := flat_split epoL 5 epoL_len l j u hj
      rcases h.out with q | ⟨b, off, q, _, hc⟩
      · subst q; simp at q1
      · simp only [Option.some.injEq] at q
        subst q
        have := hc i x q1 r u q2
        rw [Addr.add_mid, q3, ← Nat.add_assoc]
        exact this
    have hlen : (l.flatMap epoL).length = n * 5 := by rw [flat_len epoL 5 epoL_len, hl.out]
    go_enter Try.func49, Try.ntmps49
    go_wp2_with (at_builtin; go_must (refine wpList_append_own _ rfl _ _ 28 rfl w.heap.size 38 i0 _ 5 72 Try.underlying28 hi hz0 hz1 hz2 rfl (by decide) (.slice none 0 0) 0 [] rfl (World.ownsRow_nil _ _ _ _) ad n c (l.flatMap epoL) rfl hlen hnews (flat_one epoL epoL_one l) (by have := hn.out; unfold maxLen; omega) (by have := hn.out; omega) (Nat.le_refl _) ?_); intro v' U ho hg hn'; rw [Nat.zero_add, List.nil_append] at ho)
    go_ret
    exact ⟨_, rfl, ho, (Below.refl _ w).grown hg (Nat.le_refl _) (fun j hj => by simp [Value.ownBlock] at hj)⟩
set_option maxHeartbeats 1600000 in
set_option maxRecDepth 100000 in
theorem list50_ok (p : Option Addr) (n c : Nat) (l : List (Int × Int × Int)) (hl : Hid (l.length = n)) (hn : Hid (n * 24 ≤ 140737488355328)) (hz : Hid (p = none → c = 0)) (w : World) (h : Hid (RV sgZ 3 w p l)) : Calls Try.prog 50 #[.slice p n c] w fun e w' => ∃ v, e = .returned v ∧ w'.ownsRow w.heap.size 65 3 v n (l.flatMap sgZ) ∧ Below w.heap.size w w' := by
  obtain ⟨i0, hi, hz0, hz1, hz2⟩ := info_parts info51
  cases p with
  | none =>
    have h0 : l = [] := by
      rcases h.out with q | ⟨b, off, q, _⟩
      · exact q
      · cases q
    subst h0
    obtain rfl : n = 0 := by have := hl.out; simpa using this.symm
    obtain rfl : c = 0 := hz.out rfl
    go_enter Try.func50, Try.ntmps50
    go_wp2_with (at_builtin; go_must (refine wpList_append_own_none rfl _ _ 29 rfl w.heap.size 65 i0 3 Try.underlying29 hi (.slice none 0 0) 0 [] rfl (World.ownsRow_nil _ _ _ _) rfl ?_))
    go_ret
    exact ⟨_, rfl, World.ownsRow_nil _ _ _ _, Below.refl _ _⟩
  | some ad =>
    have hnews : ∀ j u, (l.flatMap sgZ)[j]? = some u → w.cell? (ad.add j) = some u := by
      intro j u hj
      obtain ⟨i, x, r, q1, q2, q3⟩ := flat_split sgZ 3 sgZ_len l j u hj
      rcases h.out with q | ⟨b, off, q, _, hc⟩
      · subst q; simp at q1
      · simp only [Option.some.injEq] at q
        subst q
        have := hc i x q1 r u q2
        rw [Addr.add_mid, q3, ← Nat.add_assoc]
        exact this
    have hlen : (l.flatMap sgZ).length = n * 3 := by rw [flat_len sgZ 3 sgZ_len, hl.out]
    go_enter Try.func50, Try.ntmps50
    go_wp2_with (at_builtin; go_must (refine wpList_append_own _ rfl _ _ 29 rfl w.heap.size 65 i0 _ 3 24 Try.underlying29 hi hz0 hz1 hz2 rfl (by decide) (.slice none 0 0) 0 [] rfl (World.ownsRow_nil _ _ _ _) ad n c (l.flatMap sgZ) rfl hlen hnews (flat_one sgZ sgZ_one l) (by have := hn.out; unfold maxLen; omega) (by have := hn.out; omega) (Nat.le_refl _) ?_); intro v' U ho hg hn'; rw [Nat.zero_add, List.nil_append] at ho)
    go_ret
    exact ⟨_, rfl, ho, (Below.refl _ w).grown hg (Nat.le_refl _) (fun j hj => by simp [Value.ownBlock] at hj)⟩
set_option maxHeartbeats 1600000 in
set_option maxRecDepth 100000 in
theorem list51_ok (p : Option Addr) (n c : Nat) (l : List (Tk)) (hl : Hid (l.length = n)) (hn : Hid (n * 64 ≤ 140737488355328)) (hz : Hid (p = none → c = 0)) (w : World) (h : Hid (RV tkL 4 w p l)) : Calls Try.prog 51 #[.slice p n c] w fun e w' => ∃ v, e = .returned v ∧ w'.ownsRow w.heap.size 61 4 v n (l.flatMap tkL) ∧ Below w.heap.size w w' := by
  obtain ⟨i0, hi, hz0, hz1, hz2⟩ := info_parts info45
  cases p with
  | none =>
    have h0 : l = [] := by
      rcases h.out with q | ⟨b, off, q, _⟩
      · exact q
      · cases q
    subst h0
    obtain rfl : n = 0 := by have := hl.out; simpa using this.symm
    obtain rfl : c = 0 := hz.out rfl
    go_enter Try.func51, Try.ntmps51
    go_wp2_with (at_builtin; go_must (refine wpList_append_own_none rfl _ _ 34 rfl w.heap.size 61 i0 4 Try.underlying34 hi (.slice none 0 0) 0 [] rfl (World.ownsRow_nil _ _ _ _) rfl ?_))
    go_ret
    exact ⟨_, rfl, World.ownsRow_nil _ _ _ _, Below.refl _ _⟩
  | some ad =>
    have hnews : ∀ j u, (l.flatMap tkL)[j]? = some u → w.cell? (ad.add j) = some u := by
      intro j u hj
      obtain ⟨i, x, r, q1, q2, q3⟩ := flat_split tkL 4 tkL_len l j u hj
      rcases h.out with q | ⟨b, off, q, _, hc⟩
      · subst q; simp at q1
      · simp only [Option.some.injEq] at q
        subst q
        have := hc i x q1 r u q2
        rw [Addr.add_mid, q3, ← Nat.add_assoc]
        exact this
    have hlen : (l.flatMap tkL).length = n * 4 := by rw [flat_len tkL 4 tkL_len, hl.out]
    go_enter Try.func51, Try.ntmps51
    go_wp2_with (at_builtin; go_must (refine wpList_append_own _ rfl _ _ 34 rfl w.heap.size 61 i0 _ 4 64 Try.underlying34 hi hz0 hz1 hz2 rfl (by decide) (.slice none 0 0) 0 [] rfl (World.ownsRow_nil _ _ _ _) ad n c (l.flatMap tkL) rfl hlen hnews (flat_one tkL tkL_one l) (by have := hn.out; unfold maxLen; omega) (by have := hn.out; omega) (Nat.le_refl _) ?_); intro v' U ho hg hn'; rw [Nat.zero_add, List.nil_append] at ho)
    go_ret
    exact ⟨_, rfl, ho, (Below.refl _ w).grown hg (Nat.le_refl _) (fun j hj => by simp [Value.ownBlock] at hj)⟩
set_option maxHeartbeats 1600000 in
set_option maxRecDepth 100000 in
theorem list52_ok (p : Option Addr) (n c : Nat) (l : List (Int)) (hl : Hid (l.length = n)) (hn : Hid (n * 8 ≤ 140737488355328)) (hz : Hid (p = none → c = 0)) (w : World) (h : Hid (RV inL 1 w p l)) : Calls Try.prog 52 #[.slice p n c] w fun e w' => ∃ v, e = .returned v ∧ w'.ownsRow w.heap.size 3 1 v n (l.flatMap inL) ∧ Below w.heap.size w w' := by
  obtain ⟨i0, hi, hz0, hz1, hz2⟩ := info_parts info3
  cases p with
  | none =>
    have h0 : l = [] := by
      rcases h.out with q | ⟨b, off, q, _⟩
      · exact q
      · cases q
    subst h0
    obtain rfl : n = 0 := by have := hl.out; simpa using this.symm
    obtain rfl : c = 0 := hz.out rfl
    go_enter Try.func52, Try.ntmps52
    go_wp2_with (at_builtin; go_must (refine wpList_append_own_none rfl _ _ 59 rfl w.heap.size 3 i0 1 Try.underlying59 hi (.slice none 0 0) 0 [] rfl (World.ownsRow_nil _ _ _ _) rfl ?_))
    go_ret
    exact ⟨_, rfl, World.ownsRow_nil _ _ _ _, Below.refl _ _⟩
  | some ad =>
    have hnews : ∀ j u, (l.flatMap inL)[j]? = some u → w.cell? (ad.add j) = some u := by
      intro j u hj
      obtain ⟨i, x, r, q1, q2, q3⟩ := flat_split inL 1 inL_len l j u hj
      rcases h.out with q | ⟨b, off, q, _, hc⟩
      · subst q; simp at q1
      · simp only [Option.some.injEq] at q
        subst q
        have := hc i x q1 r u q2
        rw [Addr.add_mid, q3, ← Nat.add_assoc]
        exact this
    have hlen : (l.flatMap inL).length = n * 1 := by rw [flat_len inL 1 inL_len, hl.out]
    go_enter Try.func52, Try.ntmps52
    go_wp2_with (at_builtin; go_must (refine wpList_append_own _ rfl _ _ 59 rfl w.heap.size 3 i0 _ 1 8 Try.underlying59 hi hz0 hz1 hz2 rfl (by decide) (.slice none 0 0) 0 [] rfl (World.ownsRow_nil _ _ _ _) ad n c (l.flatMap inL) rfl hlen hnews (flat_one inL inL_one l) (by have := hn.out; unfold maxLen; omega) (by have := hn.out; omega) (Nat.le_refl _) ?_); intro v' U ho hg hn'; rw [Nat.zero_add, List.nil_append] at ho)
    go_ret
    exact ⟨_, rfl, ho, (Below.refl _ w).grown hg (Nat.le_refl _) (fun j hj => by simp [Value.ownBlock] at hj)⟩
end Go.Proofs.Ytmfnhdflmnmooaa
