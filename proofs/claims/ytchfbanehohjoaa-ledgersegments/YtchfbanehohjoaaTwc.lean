import Derived.Test.YtchfbanehohjoaaTwb
namespace Go.Proofs.Ytchfbanehohjoaa
open Go.RowKit
set_option linter.unusedVariables false
set_option linter.unusedSimpArgs false
theorem Marked.stay {B g : Nat} {w w' : World} {v : Value} {zs : List Int} (h : Marked B w v zs) (s : Stay g w w') (hg : g < B) : Marked B w' v zs := by
  obtain ⟨p, c, rfl, ho⟩ := h
  refine ⟨p, c, rfl, ho.kept (row := some g) ⟨s.os, s.tape, s.output, s.size, fun k hk hn => s.block k hk (fun e => hn (by rw [e]))⟩ (.inr ?_)⟩
  have := (ho.lt p rfl).1
  simp [Value.ownBlock]
  omega
theorem Stay.grown {g : Nat} {w w' : World} (s : Stay g w w') : w.grownBy w' (some g) := ⟨s.os, s.tape, s.output, s.size, fun k hk hn => s.block k hk (fun e => hn (by rw [e]))⟩
theorem Below.viewD {w w' : World} {v : Value} {zs : List Int} (h : View w v zs) (hb : Below w.heap.size w w') : View w' v zs := h.kept hb.block
/-- The tokens between two rounds: k of them bear copies. -/
def TkC (g : Nat) (w wr : World) (k : Nat) (T' T : List Tk) : Prop :=
  ∀ (i : Nat) (x y : Tk), T'[i]? = some x → T[i]? = some y → x.n = y.n ∧ x.s = y.s ∧ x.z = y.z ∧ (i < k → ∃ zs, Marked (g + 1) wr (.slice x.p x.l x.c) zs ∧ View w (.slice y.p y.l y.c) zs)
def TkW (B : Nat) (w wr : World) (T' T : List Tk) : Prop := ∀ (i : Nat) (x y : Tk), T'[i]? = some x → T[i]? = some y → x.n = y.n ∧ x.s = y.s ∧ x.z = y.z ∧ ∃ zs, Marked B wr (.slice x.p x.l x.c) zs ∧ View w (.slice y.p y.l y.c) zs
/-- What twin answers. -/
def TwP (w : World) (m : Mt) (SL : List Slo) (EL : List Epo) (GL : List (Int × Int × Int)) (T : List Tk) (e : Ending) (w' : World) : Prop := ∃ q T', e = .returned (.agg (mtC (m.at q))) ∧ Ls (w.heap.size + 2) sloL 9 (.int .i64 (-77)) w' q.sp m.sn q.sc SL ∧ Ls (w.heap.size + 2) epoL 5 (.int .u64 77) w' q.ep m.en q.ec EL ∧ Ls (w.heap.size + 2) sgZ 3 (.int .u64 77) w' q.gp m.gn q.gc GL ∧ RV tkL 4 w' q.tp T' ∧ T'.length = m.tn ∧ Mk w' q.tp m.tn q.tc 4 (.int .i64 (-77)) ∧ TkM w.heap.size w' T' T ∧ Below w.heap.size w w'
def TkR (w Wb wr : World) (m n4 : Mt) (g c k : Nat) (T : List Tk) : Prop :=
  Twn w wr m n4 ∧ Stay (w.heap.size + 2) Wb wr ∧ ∃ T' : List Tk, T'.length = m.tn ∧ wr.ownsRow Wb.heap.size 45 4 (.slice (some ⟨g, 0, none⟩) m.tn c) m.tn (T'.flatMap tkL) ∧ TkC g w wr k T' T ∧ ∀ i, k ≤ i → T'[i]? = T[i]?
theorem flat_set (l : List Tk) (k : Nat) (x : Tk) (p : Option Addr) (q c : Nat) (hx : l[k]? = some x) : (l.flatMap tkL).set (k * 4 + 2) (.slice p q c) = (l.set k { x with p := p, l := q, c := c }).flatMap tkL := by
  induction l generalizing k with
  | nil => simp at hx
  | cons y l ih =>
    cases k with
    | zero =>
      simp at hx
      subst hx
      simp [tkL]
    | succ k =>
      have := ih k (by simpa using hx)
      rw [List.set_cons_succ, List.flatMap_cons, List.flatMap_cons, ← this, List.set_append_right _ _ (by rw [tkL_len, Nat.succ_mul]; omega), tkL_len, show (k + 1) * 4 + 2 - 4 = k * 4 + 2 by omega]
theorem TkR.step {w Wb wr u : World} {m n4 : Mt} {g c k : Nat} {T : List Tk} {y : Tk} {p : Option Addr} {q cc : Nat} {zs : List Int} (h : TkR w Wb wr m n4 g c k T) (hy : T[k]? = some y) (hB : Below wr.heap.size wr u) (hM : Marked wr.heap.size u (.slice p q cc) zs) (hV : View w (.slice y.p y.l y.c) zs) (hn : w.heap.size + 3 ≤ Wb.heap.size) : TkR w Wb (u.setCell ⟨g, k * 4 + 2, none⟩ (.slice p q cc)) m n4 g c (k + 1) T := by
  obtain ⟨tw, st, T', hl, ho, hc, hr⟩ := h
  have hgl := ho.lt g rfl
  have st1 : Stay g wr (u.setCell ⟨g, k * 4 + 2, none⟩ (.slice p q cc)) := (Stay.of hB).set _ _
  have hxy : T'[k]? = some y := (hr k (Nat.le_refl _)).trans hy
  have hgw : w.heap.size + 3 ≤ g := Nat.le_trans hn hgl.1
  refine ⟨⟨(st1.block _ (by have := tw.sz; omega) (by omega)).trans tw.bx, (st1.block _ (by have := tw.sz; omega) (by omega)).trans tw.rs, (st1.block _ (by have := tw.sz; omega) (by omega)).trans tw.bn, tw.bel.trans (st1.below (by omega) (by have := tw.sz; omega)), Nat.le_trans tw.sz st1.size⟩, ?_, T'.set k { y with p := p, l := q, c := cc }, by simpa using hl, ?_, ?_, ?_⟩
  · exact ⟨st1.os.trans st.os, st1.tape.trans st.tape, st1.output.trans st.output, Nat.le_trans st.size st1.size, fun b hb hnb => (st1.block b (Nat.lt_of_lt_of_le hb st.size) (by omega)).trans (st.block b hb hnb)⟩
  · have h1 := own_keep ho hB
    have h2 := (h1.stored (k * 4 + 2) (.slice p q cc)).1
    rw [flat_set T' k y p q cc hxy] at h2
    exact h2
  · intro i x y' hx hy'
    by_cases hik : i = k
    · subst hik
      rw [List.getElem?_set_self (by have := (List.getElem?_eq_some_iff.1 hxy).1; exact this)] at hx
      rw [hy] at hy'
      cases hx
      cases hy'
      refine ⟨rfl, rfl, rfl, fun _ => ⟨zs, ?_, hV⟩⟩
      obtain ⟨pg, pc, pe, po⟩ := hM
      have hM' : Marked (g + 1) u (.slice p q cc) zs := ⟨pg, pc, pe, ownsRow_below po (by omega)⟩
      exact hM'.stay ((Stay.refl g u).set _ _) (by omega)
    · rw [List.getElem?_set_ne (by omega)] at hx
      obtain ⟨a, b, c', d⟩ := hc i x y' hx hy'
      refine ⟨a, b, c', fun hi => ?_⟩
      obtain ⟨zs', m1, v1⟩ := d (by omega)
      exact ⟨zs', m1.stay st1 (by omega), v1⟩
  · intro i hi
    rw [List.getElem?_set_ne (by omega)]
    exact hr i (by omega)
set_option maxHeartbeats 4000000 in
set_option maxRecDepth 100000 in
theorem twin_ok (m : Mt) (SL : List Slo) (EL : List Epo) (GL : List (Int × Int × Int)) (T : List Tk) (w : World) (hsn : Hid (SL.length = m.sn)) (hen : Hid (EL.length = m.en)) (hgn : Hid (GL.length = m.gn)) (htn : Hid (T.length = m.tn))
    (y1 : Hid ((m.sn + 1) * 88 ≤ 140737488355328)) (y2 : Hid ((m.en + 1) * 72 ≤ 140737488355328)) (y3 : Hid ((m.gn + 1) * 24 ≤ 140737488355328)) (y4 : Hid ((m.tn + 1) * 64 ≤ 140737488355328))
    (z1 : Hid (m.sp = none → m.sc = 0)) (z2 : Hid (m.ep = none → m.ec = 0)) (z3 : Hid (m.gp = none → m.gc = 0)) (z4 : Hid (m.tp = none → m.tc = 0))
    (s1 : Hid (RV sloL 9 w m.sp SL)) (e1 : Hid (RV epoL 5 w m.ep EL)) (g1 : Hid (RV sgZ 3 w m.gp GL)) (t1 : Hid (RV tkL 4 w m.tp T)) (tV : Hid (∀ (i : Nat) (x : Tk), T[i]? = some x → ∃ zs, (zs.length + 70) * 8 ≤ 140737488355328 ∧ View w (.slice x.p x.l x.c) zs)) :
    Calls Try.prog 5 #[.agg (mtC m)] w fun e w' => TwP w m SL EL GL T e w' := by
  have W0h : ∃ W0, W0 = (w.alloc (.cells (mtC m) 36)).alloc (.cells mt0 36) := ⟨_, rfl⟩
  obtain ⟨W0, hW0⟩ := W0h
  have R1 : Hid (W0.rangeAt w.heap.size 0 (mtC m).toList) := fun j u hj => by
    rw [Nat.zero_add, hW0]
    have bx : Bx (w.alloc (.cells (mtC m) 36)) w.heap.size m := World.alloc_heap_new w _
    exact (bx.below (below_alloc1 _ _)).c j u (by simpa using hj)
  have hs0 : W0.heap.size = w.heap.size + 2 := by rw [hW0]; simp
  have T0 : Hid (Bx W0 w.heap.size m ∧ W0.heap[w.heap.size + 1]? = some (.cells mt0 36 (0, 0)) ∧ Below w.heap.size w W0) := by
    have bx : Bx (w.alloc (.cells (mtC m) 36)) w.heap.size m := World.alloc_heap_new w _
    have rs : (w.alloc (.cells (mtC m) 36)).heap.size = w.heap.size + 1 := by simp
    refine ⟨?_, ?_, ?_⟩
    · rw [hW0]; exact bx.below (below_alloc1 _ _)
    · rw [hW0, ← rs]; exact World.alloc_heap_new _ _
    · rw [hW0]; exact ((Below.refl _ w).alloc (Nat.le_refl _) _).alloc (by simp) _
  go_enter Try.func5, Try.ntmps5
  go_upto_region 1 with fail
  rw [← hW0]
  clear hW0
  go_upto_region 2 with (first | (refine wpList_load_mid (by rfl) 36 (.tmp 1) (by rfl) w.heap.size 0 (by rfl) (mtC m).toList _ R1.out Try.underlying36 rfl (size36 m) ?_) | (refine wpList_alloc_box (by rfl) (by rfl) ?_; intro W1 bb hb1 hbl1 he1 hz1; rw [hs0] at he1; subst he1) | (refine wpList_store_box (by rfl) (.tmp 3) (.tmp 5) (by rfl) m (w.heap.size + 2) mt0 (by rfl) (by rfl) hb1 rfl ?_; intro W bn st))
  simp only [Act.put, List.setIfInBounds_toArray, List.set_cons_zero, List.set_cons_succ]
  have TW : Hid (Twn w W m m) := by
    refine ⟨?_, ?_, bn, ?_, ?_⟩
    · exact (st.block _ (by rw [hz1]; omega) (by omega)).trans (T0.out.1.below hbl1)
    · exact (st.block _ (by rw [hz1]; omega) (by omega)).trans ((hbl1.block _ (by omega)).trans T0.out.2.1)
    · exact (T0.out.2.2.trans (hbl1.mono (by omega))).trans (st.below (by omega) (by rw [hz1]; omega))
    · have := st.size; rw [hz1] at this; omega
  clear T0 R1 hs0 hb1 hbl1 hz1 bn st W1
  obtain ⟨i47, hi47, hz470, hz471, hz472⟩ := info_parts info47
  have Hi47 : Hid (_ ∧ _ ∧ _ ∧ _) := ⟨hi47, hz470, hz471, hz472⟩
  clear hi47 hz470 hz471 hz472
  obtain ⟨i49, hi49, hz490, hz491, hz492⟩ := info_parts info49
  have Hi49 : Hid (_ ∧ _ ∧ _ ∧ _) := ⟨hi49, hz490, hz491, hz492⟩
  clear hi49 hz490 hz491 hz492
  obtain ⟨i51, hi51, hz510, hz511, hz512⟩ := info_parts info51
  have Hi51 : Hid (_ ∧ _ ∧ _ ∧ _) := ⟨hi51, hz510, hz511, hz512⟩
  clear hi51 hz510 hz511 hz512
  obtain ⟨i45, hi45, hz450, hz451, hz452⟩ := info_parts info45
  have Hi45 : Hid (_ ∧ _ ∧ _ ∧ _) := ⟨hi45, hz450, hz451, hz452⟩
  clear hi45 hz450 hz451 hz452
  obtain ⟨n2, hn2⟩ : ∃ n2, Hid (n2 = m) := ⟨_, rfl⟩
  go_cut [] from 5 (fun wx => ∃ p1 c1, Hid (Twn w wx m ({ m with sp := p1, sc := c1 } : Mt) ∧ Stay (w.heap.size + 2) W wx ∧ Ls (w.heap.size + 2) sloL 9 (.int .i64 (-77)) wx p1 m.sn c1 SL))
  case first =>
    have hld : ∀ u, Stay (w.heap.size + 2) W u → u.cell? ⟨w.heap.size, 11, none⟩ = some (.slice m.sp m.sn m.sc) := fun u hu => (hu.cell (by have := TW.out.sz; omega) (by omega)).trans (TW.out.bx.c 11 _ rfl)
    have hS0 : Stay (w.heap.size + 2) W W.drew := Stay.of (Below.refl _ _).drew
    have hB0 : Below W.heap.size W W.drew := (Below.refl _ _).drew
    refine wp_region_noPanic ?_
    refine wp_region_held_drew (S := fun u => Stay (w.heap.size + 2) W u) (by kernel_rfl) (hS0) (fun _ => ?_)
    refine takeH_at 1 7 (.pointer (some ⟨w.heap.size, 11, none⟩)) rfl rfl (by kernel_rfl) (by kernel_rfl) (by kernel_rfl) (fun _ _ _ h => h) (hS0) (Or.inl ⟨by rfl, fun w' hS' => by go_simp⟩) ?_
    simp only [List.setIfInBounds_toArray, List.set_cons_zero, List.set_cons_succ]
    refine takeH_at 2 8 (.slice m.sp m.sn m.sc) rfl rfl (by kernel_rfl) (by kernel_rfl) (by kernel_rfl) (fun _ _ _ h => h) (hS0) (Or.inl ⟨by rfl, fun w' hS' => by have q := hld w' hS'; go_simp⟩) ?_
    simp only [List.setIfInBounds_toArray, List.set_cons_zero, List.set_cons_succ]
    refine takeH_at 4 10 (.agg #[.int .i64 (-77), .int .i64 0, .int .i64 0, .int .i64 0, .string ⟨#[]⟩, .string ⟨#[]⟩, .int .i64 0, .int .i64 0, .int .i64 0]) rfl rfl (by kernel_rfl) (by kernel_rfl) (by kernel_rfl) (fun _ _ _ h => h) (hS0) (Or.inl ⟨by rfl, fun w' hS' => by go_simp⟩) ?_
    simp only [List.setIfInBounds_toArray, List.set_cons_zero, List.set_cons_succ]
    refine takeH_at 7 13 (.pointer (some ⟨w.heap.size, 11, none⟩)) rfl rfl (by kernel_rfl) (by kernel_rfl) (by kernel_rfl) (fun _ _ _ h => h) (hS0) (Or.inl ⟨by rfl, fun w' hS' => by go_simp⟩) ?_
    simp only [List.setIfInBounds_toArray, List.set_cons_zero, List.set_cons_succ]
    refine takeH_at 8 14 (.slice m.sp m.sn m.sc) rfl rfl (by kernel_rfl) (by kernel_rfl) (by kernel_rfl) (fun _ _ _ h => h) (hS0) (Or.inl ⟨by rfl, fun w' hS' => by have q := hld w' hS'; go_simp⟩) ?_
    simp only [List.setIfInBounds_toArray, List.set_cons_zero, List.set_cons_succ]
    refine takeH_at 9 15 (.int .i64 (m.sn : Nat)) rfl rfl (by kernel_rfl) (by kernel_rfl) (by kernel_rfl) (fun _ _ _ h => h) (hS0) (Or.inl ⟨by rfl, fun w' hS' => by go_simp⟩) ?_
    simp only [List.setIfInBounds_toArray, List.set_cons_zero, List.set_cons_succ]
    refine wpAnyH_ready (rs := [0, 5]) (by kernel_rfl) (by simp) ?_
    refine AllReadyH.cons rfl (fun K hK => ?_) (AllReadyH.cons rfl (fun K hK => ?_) AllReadyH.nil)
    · skip
      refine step_bs rfl 6 rfl 27 47 0 #[] rfl #[] (by simp only [List.map_toArray, List.map_nil]) #[] (fun u => bs27_0 u) ?_
      intro wz1 bk1 hb1 hbl1 he1 hz1
      have hB1 : Below W.heap.size W wz1 := (hB0).trans (hbl1.mono ((hB0).size))
      refine hK.out _ _ (Stay.of hB1) (fun _ => ?_)
      clear hK K
      simp only [Act.put, List.setIfInBounds_toArray, List.set_cons_zero, List.set_cons_succ]
      refine wpAnyH_ready (rs := [3, 5]) (by kernel_rfl) (by simp) ?_
      refine AllReadyH.cons rfl (fun K hK => ?_) (AllReadyH.cons rfl (fun K hK => ?_) AllReadyH.nil)
      · skip
        have hoA : wz1.ownsRow W.heap.size 47 9 (.slice (some ⟨bk1, 0, none⟩) 0 0) 0 [] := own_empty hb1 (by rw [he1]; exact hB0.size)
        refine step_append_rv rfl 9 rfl (.tmp 6) (.tmp 8) 27 rfl 47 i47 _ 9 88 Try.underlying27 Hi47.out.1 Hi47.out.2.1 Hi47.out.2.2.1 Hi47.out.2.2.2 rfl (by decide) sloL_len sloL_one W.heap.size bk1 0 0 [] rfl hoA m.sp m.sn m.sc SL rfl hsn.out (s1.out.below (TW.out.bel.trans ((hB1).mono TW.out.bel.size))) z1.out (by have := y1.out; unfold maxLen; omega) (by have := y1.out; omega) ((hB1).size) ?_
        intro gz2 kc2 wz2 ho2 hg2 ha2
        rw [Nat.zero_add] at ho2
        rw [List.nil_append] at ho2
        try rw [Nat.zero_add]
        have hB2 : Below W.heap.size W wz2 := (hB1).grown hg2 ((hB1).size) (by intro q hq; cases hq; exact (hoA.lt bk1 rfl).1)
        refine hK.out _ _ (Stay.of hB2) (fun _ => ?_)
        clear hK K
        simp only [Act.put, List.setIfInBounds_toArray, List.set_cons_zero, List.set_cons_succ]
        refine wpAnyH_ready (rs := [5]) (by kernel_rfl) (by simp) ?_
        refine AllReadyH.cons rfl (fun K hK => ?_) AllReadyH.nil
        refine step_bs rfl 11 rfl 27 47 1 _ rfl #[(0, .agg #[.int .i64 (-77), .int .i64 0, .int .i64 0, .int .i64 0, .string ⟨#[]⟩, .string ⟨#[]⟩, .int .i64 0, .int .i64 0, .int .i64 0])] (by simp only [List.map_toArray, List.map_cons, List.map_nil]; rfl) (sloL mk47).toArray (fun u => bs27_1 u) ?_
        intro wz3 bk3 hb3 hbl3 he3 hz3
        have hB3 : Below W.heap.size W wz3 := (hB2).trans (hbl3.mono ((hB2).size))
        refine hK.out _ _ (Stay.of hB3) (fun _ => ?_)
        clear hK K
        simp only [Act.put, List.setIfInBounds_toArray, List.set_cons_zero, List.set_cons_succ]
        refine wpAnyH_ready (rs := [6]) (by kernel_rfl) (by simp) ?_
        refine AllReadyH.cons rfl (fun K hK => ?_) AllReadyH.nil
        have hoC : wz3.ownsRow W.heap.size 47 9 (.slice (some ⟨gz2, 0, none⟩) m.sn kc2) m.sn (SL.flatMap sloL) := own_keep ho2 hbl3
        refine step_append_rv rfl 12 rfl (.tmp 9) (.tmp 11) 27 rfl 47 i47 _ 9 88 Try.underlying27 Hi47.out.1 Hi47.out.2.1 Hi47.out.2.2.1 Hi47.out.2.2.2 rfl (by decide) sloL_len sloL_one W.heap.size gz2 m.sn kc2 (SL.flatMap sloL) rfl hoC (some ⟨bk3, 0, none⟩) 1 1 [mk47] rfl rfl (rv_block (hb3)) (by intro h; cases h) (by have := y1.out; unfold maxLen; omega) (by have := y1.out; omega) ((hB3).size) ?_
        intro gz4 kc4 wz4 ho4 hg4 ha4
        have hB4 : Below W.heap.size W wz4 := (hB3).grown hg4 ((hB3).size) (by intro q hq; cases hq; exact (hoC.lt gz2 rfl).1)
        refine hK.out _ _ (Stay.of hB4) (fun _ => ?_)
        clear hK K
        simp only [Act.put, List.setIfInBounds_toArray, List.set_cons_zero, List.set_cons_succ]
        have hcp : m.sn + 1 ≤ kc4 := by rcases ho4.2 with ⟨h, _⟩ | ⟨g9, c9, cur9, h9, _, _, h8, _⟩; cases h; cases h9; exact h8
        have hci : ((m.sn : Nat) : Int) ≤ ((kc4 : Nat) : Int) := by omega
        have hc0 : (0 : Int) ≤ ((m.sn : Nat) : Int) := by omega
        refine takeH_at 10 16 (.slice (some ⟨gz4, 0, none⟩) m.sn kc4) rfl rfl (by kernel_rfl) (by kernel_rfl) (by kernel_rfl) (fun _ _ _ h => h) ((Stay.of hB4)) (Or.inl ⟨by rfl, fun w' hS' => by go_simp⟩) ?_
        simp only [List.setIfInBounds_toArray, List.set_cons_zero, List.set_cons_succ]
        refine takeH_at 11 17 (.pointer (some ⟨w.heap.size + 2, 11, none⟩)) rfl rfl (by kernel_rfl) (by kernel_rfl) (by kernel_rfl) (fun _ _ _ h => h) ((Stay.of hB4)) (Or.inl ⟨by rfl, fun w' hS' => by go_simp⟩) ?_
        simp only [List.setIfInBounds_toArray, List.set_cons_zero, List.set_cons_succ]
        refine wpAnyH_ready (rs := [12]) (by kernel_rfl) (by simp) ?_
        refine AllReadyH.cons rfl (fun K hK => ?_) AllReadyH.nil
        have hbn : Bx wz4 (w.heap.size + 2) m := (hB4.block _ (by have := TW.out.sz; omega)).trans TW.out.bn
        have hcn := hbn.c 11 _ rfl
        have hfn : wz4.frozen? ⟨w.heap.size + 2, 11, none⟩ = false := frozen_bx hbn
        go_simp
        refine hK.out _ _ ((Stay.of hB4).set _ _) (fun _ => ?_)
        clear hK K
        try simp only [Act.put, List.setIfInBounds_toArray, List.set_cons_zero, List.set_cons_succ]
        refine wpAnyH_done (by kernel_rfl) ?_ _
        refine NoPanic.normal ?_
        go_wp2_with fail
        go_meet
        case rel => exact ⟨some ⟨gz4, 0, none⟩, kc4, (show Hid (_ ∧ _) from ⟨TW.out.stay ((Stay.of hB4).set _ _) (bx_set hbn rfl), (Stay.of hB4).set _ _, (Ls.own sloL_len hsn.out ho4 (by have := TW.out.sz; omega)).stay ((Stay.refl _ _).set _ _)⟩)⟩
      · skip
        refine step_bs rfl 11 rfl 27 47 1 _ rfl #[(0, .agg #[.int .i64 (-77), .int .i64 0, .int .i64 0, .int .i64 0, .string ⟨#[]⟩, .string ⟨#[]⟩, .int .i64 0, .int .i64 0, .int .i64 0])] (by simp only [List.map_toArray, List.map_cons, List.map_nil]; rfl) (sloL mk47).toArray (fun u => bs27_1 u) ?_
        intro wz2 bk2 hb2 hbl2 he2 hz2
        have hB2 : Below W.heap.size W wz2 := (hB1).trans (hbl2.mono ((hB1).size))
        refine hK.out _ _ (Stay.of hB2) (fun _ => ?_)
        clear hK K
        simp only [Act.put, List.setIfInBounds_toArray, List.set_cons_zero, List.set_cons_succ]
        refine wpAnyH_ready (rs := [3]) (by kernel_rfl) (by simp) ?_
        refine AllReadyH.cons rfl (fun K hK => ?_) AllReadyH.nil
        have hoA : wz2.ownsRow W.heap.size 47 9 (.slice (some ⟨bk1, 0, none⟩) 0 0) 0 [] := own_keep (own_empty hb1 (by rw [he1]; exact hB0.size)) hbl2
        refine step_append_rv rfl 9 rfl (.tmp 6) (.tmp 8) 27 rfl 47 i47 _ 9 88 Try.underlying27 Hi47.out.1 Hi47.out.2.1 Hi47.out.2.2.1 Hi47.out.2.2.2 rfl (by decide) sloL_len sloL_one W.heap.size bk1 0 0 [] rfl hoA m.sp m.sn m.sc SL rfl hsn.out (s1.out.below (TW.out.bel.trans ((hB2).mono TW.out.bel.size))) z1.out (by have := y1.out; unfold maxLen; omega) (by have := y1.out; omega) ((hB2).size) ?_
        intro gz3 kc3 wz3 ho3 hg3 ha3
        rw [Nat.zero_add] at ho3
        rw [List.nil_append] at ho3
        try rw [Nat.zero_add]
        have hB3 : Below W.heap.size W wz3 := (hB2).grown hg3 ((hB2).size) (by intro q hq; cases hq; exact (hoA.lt bk1 rfl).1)
        refine hK.out _ _ (Stay.of hB3) (fun _ => ?_)
        clear hK K
        simp only [Act.put, List.setIfInBounds_toArray, List.set_cons_zero, List.set_cons_succ]
        refine wpAnyH_ready (rs := [6]) (by kernel_rfl) (by simp) ?_
        refine AllReadyH.cons rfl (fun K hK => ?_) AllReadyH.nil
        have hoC : wz3.ownsRow W.heap.size 47 9 (.slice (some ⟨gz3, 0, none⟩) m.sn kc3) m.sn (SL.flatMap sloL) := ho3
        refine step_append_rv rfl 12 rfl (.tmp 9) (.tmp 11) 27 rfl 47 i47 _ 9 88 Try.underlying27 Hi47.out.1 Hi47.out.2.1 Hi47.out.2.2.1 Hi47.out.2.2.2 rfl (by decide) sloL_len sloL_one W.heap.size gz3 m.sn kc3 (SL.flatMap sloL) rfl hoC (some ⟨bk2, 0, none⟩) 1 1 [mk47] rfl rfl (rv_block ((hg3.block bk2 (by omega) (by intro q; cases q; omega)).trans hb2)) (by intro h; cases h) (by have := y1.out; unfold maxLen; omega) (by have := y1.out; omega) ((hB3).size) ?_
        intro gz4 kc4 wz4 ho4 hg4 ha4
        have hB4 : Below W.heap.size W wz4 := (hB3).grown hg4 ((hB3).size) (by intro q hq; cases hq; exact (hoC.lt gz3 rfl).1)
        refine hK.out _ _ (Stay.of hB4) (fun _ => ?_)
        clear hK K
        simp only [Act.put, List.setIfInBounds_toArray, List.set_cons_zero, List.set_cons_succ]
        have hcp : m.sn + 1 ≤ kc4 := by rcases ho4.2 with ⟨h, _⟩ | ⟨g9, c9, cur9, h9, _, _, h8, _⟩; cases h; cases h9; exact h8
        have hci : ((m.sn : Nat) : Int) ≤ ((kc4 : Nat) : Int) := by omega
        have hc0 : (0 : Int) ≤ ((m.sn : Nat) : Int) := by omega
        refine takeH_at 10 16 (.slice (some ⟨gz4, 0, none⟩) m.sn kc4) rfl rfl (by kernel_rfl) (by kernel_rfl) (by kernel_rfl) (fun _ _ _ h => h) ((Stay.of hB4)) (Or.inl ⟨by rfl, fun w' hS' => by go_simp⟩) ?_
        simp only [List.setIfInBounds_toArray, List.set_cons_zero, List.set_cons_succ]
        refine takeH_at 11 17 (.pointer (some ⟨w.heap.size + 2, 11, none⟩)) rfl rfl (by kernel_rfl) (by kernel_rfl) (by kernel_rfl) (fun _ _ _ h => h) ((Stay.of hB4)) (Or.inl ⟨by rfl, fun w' hS' => by go_simp⟩) ?_
        simp only [List.setIfInBounds_toArray, List.set_cons_zero, List.set_cons_succ]
        refine wpAnyH_ready (rs := [12]) (by kernel_rfl) (by simp) ?_
        refine AllReadyH.cons rfl (fun K hK => ?_) AllReadyH.nil
        have hbn : Bx wz4 (w.heap.size + 2) m := (hB4.block _ (by have := TW.out.sz; omega)).trans TW.out.bn
        have hcn := hbn.c 11 _ rfl
        have hfn : wz4.frozen? ⟨w.heap.size + 2, 11, none⟩ = false := frozen_bx hbn
        go_simp
        refine hK.out _ _ ((Stay.of hB4).set _ _) (fun _ => ?_)
        clear hK K
        try simp only [Act.put, List.setIfInBounds_toArray, List.set_cons_zero, List.set_cons_succ]
        refine wpAnyH_done (by kernel_rfl) ?_ _
        refine NoPanic.normal ?_
        go_wp2_with fail
        go_meet
        case rel => exact ⟨some ⟨gz4, 0, none⟩, kc4, (show Hid (_ ∧ _) from ⟨TW.out.stay ((Stay.of hB4).set _ _) (bx_set hbn rfl), (Stay.of hB4).set _ _, (Ls.own sloL_len hsn.out ho4 (by have := TW.out.sz; omega)).stay ((Stay.refl _ _).set _ _)⟩)⟩
    · skip
      refine step_bs rfl 11 rfl 27 47 1 _ rfl #[(0, .agg #[.int .i64 (-77), .int .i64 0, .int .i64 0, .int .i64 0, .string ⟨#[]⟩, .string ⟨#[]⟩, .int .i64 0, .int .i64 0, .int .i64 0])] (by simp only [List.map_toArray, List.map_cons, List.map_nil]; rfl) (sloL mk47).toArray (fun u => bs27_1 u) ?_
      intro wz1 bk1 hb1 hbl1 he1 hz1
      have hB1 : Below W.heap.size W wz1 := (hB0).trans (hbl1.mono ((hB0).size))
      refine hK.out _ _ (Stay.of hB1) (fun _ => ?_)
      clear hK K
      simp only [Act.put, List.setIfInBounds_toArray, List.set_cons_zero, List.set_cons_succ]
      refine wpAnyH_ready (rs := [0]) (by kernel_rfl) (by simp) ?_
      refine AllReadyH.cons rfl (fun K hK => ?_) AllReadyH.nil
      refine step_bs rfl 6 rfl 27 47 0 #[] rfl #[] (by simp only [List.map_toArray, List.map_nil]) #[] (fun u => bs27_0 u) ?_
      intro wz2 bk2 hb2 hbl2 he2 hz2
      have hB2 : Below W.heap.size W wz2 := (hB1).trans (hbl2.mono ((hB1).size))
      refine hK.out _ _ (Stay.of hB2) (fun _ => ?_)
      clear hK K
      simp only [Act.put, List.setIfInBounds_toArray, List.set_cons_zero, List.set_cons_succ]
      refine wpAnyH_ready (rs := [3]) (by kernel_rfl) (by simp) ?_
      refine AllReadyH.cons rfl (fun K hK => ?_) AllReadyH.nil
      have hoA : wz2.ownsRow W.heap.size 47 9 (.slice (some ⟨bk2, 0, none⟩) 0 0) 0 [] := own_empty hb2 (by rw [he2]; exact hB1.size)
      refine step_append_rv rfl 9 rfl (.tmp 6) (.tmp 8) 27 rfl 47 i47 _ 9 88 Try.underlying27 Hi47.out.1 Hi47.out.2.1 Hi47.out.2.2.1 Hi47.out.2.2.2 rfl (by decide) sloL_len sloL_one W.heap.size bk2 0 0 [] rfl hoA m.sp m.sn m.sc SL rfl hsn.out (s1.out.below (TW.out.bel.trans ((hB2).mono TW.out.bel.size))) z1.out (by have := y1.out; unfold maxLen; omega) (by have := y1.out; omega) ((hB2).size) ?_
      intro gz3 kc3 wz3 ho3 hg3 ha3
      rw [Nat.zero_add] at ho3
      rw [List.nil_append] at ho3
      try rw [Nat.zero_add]
      have hB3 : Below W.heap.size W wz3 := (hB2).grown hg3 ((hB2).size) (by intro q hq; cases hq; exact (hoA.lt bk2 rfl).1)
      refine hK.out _ _ (Stay.of hB3) (fun _ => ?_)
      clear hK K
      simp only [Act.put, List.setIfInBounds_toArray, List.set_cons_zero, List.set_cons_succ]
      refine wpAnyH_ready (rs := [6]) (by kernel_rfl) (by simp) ?_
      refine AllReadyH.cons rfl (fun K hK => ?_) AllReadyH.nil
      have hoC : wz3.ownsRow W.heap.size 47 9 (.slice (some ⟨gz3, 0, none⟩) m.sn kc3) m.sn (SL.flatMap sloL) := ho3
      refine step_append_rv rfl 12 rfl (.tmp 9) (.tmp 11) 27 rfl 47 i47 _ 9 88 Try.underlying27 Hi47.out.1 Hi47.out.2.1 Hi47.out.2.2.1 Hi47.out.2.2.2 rfl (by decide) sloL_len sloL_one W.heap.size gz3 m.sn kc3 (SL.flatMap sloL) rfl hoC (some ⟨bk1, 0, none⟩) 1 1 [mk47] rfl rfl (rv_block ((hg3.block bk1 (by omega) (by intro q; cases q; omega)).trans ((hbl2.block bk1 (by omega)).trans hb1))) (by intro h; cases h) (by have := y1.out; unfold maxLen; omega) (by have := y1.out; omega) ((hB3).size) ?_
      intro gz4 kc4 wz4 ho4 hg4 ha4
      have hB4 : Below W.heap.size W wz4 := (hB3).grown hg4 ((hB3).size) (by intro q hq; cases hq; exact (hoC.lt gz3 rfl).1)
      refine hK.out _ _ (Stay.of hB4) (fun _ => ?_)
      clear hK K
      simp only [Act.put, List.setIfInBounds_toArray, List.set_cons_zero, List.set_cons_succ]
      have hcp : m.sn + 1 ≤ kc4 := by rcases ho4.2 with ⟨h, _⟩ | ⟨g9, c9, cur9, h9, _, _, h8, _⟩; cases h; cases h9; exact h8
      have hci : ((m.sn : Nat) : Int) ≤ ((kc4 : Nat) : Int) := by omega
      have hc0 : (0 : Int) ≤ ((m.sn : Nat) : Int) := by omega
      refine takeH_at 10 16 (.slice (some ⟨gz4, 0, none⟩) m.sn kc4) rfl rfl (by kernel_rfl) (by kernel_rfl) (by kernel_rfl) (fun _ _ _ h => h) ((Stay.of hB4)) (Or.inl ⟨by rfl, fun w' hS' => by go_simp⟩) ?_
      simp only [List.setIfInBounds_toArray, List.set_cons_zero, List.set_cons_succ]
      refine takeH_at 11 17 (.pointer (some ⟨w.heap.size + 2, 11, none⟩)) rfl rfl (by kernel_rfl) (by kernel_rfl) (by kernel_rfl) (fun _ _ _ h => h) ((Stay.of hB4)) (Or.inl ⟨by rfl, fun w' hS' => by go_simp⟩) ?_
      simp only [List.setIfInBounds_toArray, List.set_cons_zero, List.set_cons_succ]
      refine wpAnyH_ready (rs := [12]) (by kernel_rfl) (by simp) ?_
      refine AllReadyH.cons rfl (fun K hK => ?_) AllReadyH.nil
      have hbn : Bx wz4 (w.heap.size + 2) m := (hB4.block _ (by have := TW.out.sz; omega)).trans TW.out.bn
      have hcn := hbn.c 11 _ rfl
      have hfn : wz4.frozen? ⟨w.heap.size + 2, 11, none⟩ = false := frozen_bx hbn
      go_simp
      refine hK.out _ _ ((Stay.of hB4).set _ _) (fun _ => ?_)
      clear hK K
      try simp only [Act.put, List.setIfInBounds_toArray, List.set_cons_zero, List.set_cons_succ]
      refine wpAnyH_done (by kernel_rfl) ?_ _
      refine NoPanic.normal ?_
      go_wp2_with fail
      go_meet
      case rel => exact ⟨some ⟨gz4, 0, none⟩, kc4, (show Hid (_ ∧ _) from ⟨TW.out.stay ((Stay.of hB4).set _ _) (bx_set hbn rfl), (Stay.of hB4).set _ _, (Ls.own sloL_len hsn.out ho4 (by have := TW.out.sz; omega)).stay ((Stay.refl _ _).set _ _)⟩)⟩
  obtain ⟨p1, c1, HC⟩ := hcut
  have TW2 : Hid (Twn w wc m ({ m with sp := p1, sc := c1 } : Mt)) := HC.out.1
  have L1 : Hid (Ls (w.heap.size + 2) sloL 9 (.int .i64 (-77)) wc p1 m.sn c1 SL) := HC.out.2.2
  clear HC TW 
  have TW := TW2; clear TW2
  clear W
  generalize wc = W at *
  go_upto_region 3 with fail
  go_cut [] from 5 (fun wx => ∃ p2 c2, Hid (Twn w wx m ({ m with sp := p1, sc := c1, ep := p2, ec := c2 } : Mt) ∧ Stay (w.heap.size + 2) W wx ∧ Ls (w.heap.size + 2) epoL 5 (.int .u64 77) wx p2 m.en c2 EL))
  case first =>
    have hld : ∀ u, Stay (w.heap.size + 2) W u → u.cell? ⟨w.heap.size, 12, none⟩ = some (.slice m.ep m.en m.ec) := fun u hu => (hu.cell (by have := TW.out.sz; omega) (by omega)).trans (TW.out.bx.c 12 _ rfl)
    have hS0 : Stay (w.heap.size + 2) W W.drew := Stay.of (Below.refl _ _).drew
    have hB0 : Below W.heap.size W W.drew := (Below.refl _ _).drew
    refine wp_region_noPanic ?_
    refine wp_region_held_drew (S := fun u => Stay (w.heap.size + 2) W u) (by kernel_rfl) (hS0) (fun _ => ?_)
    refine takeH_at 1 19 (.pointer (some ⟨w.heap.size, 12, none⟩)) rfl rfl (by kernel_rfl) (by kernel_rfl) (by kernel_rfl) (fun _ _ _ h => h) (hS0) (Or.inl ⟨by rfl, fun w' hS' => by go_simp⟩) ?_
    simp only [List.setIfInBounds_toArray, List.set_cons_zero, List.set_cons_succ]
    refine takeH_at 2 20 (.slice m.ep m.en m.ec) rfl rfl (by kernel_rfl) (by kernel_rfl) (by kernel_rfl) (fun _ _ _ h => h) (hS0) (Or.inl ⟨by rfl, fun w' hS' => by have q := hld w' hS'; go_simp⟩) ?_
    simp only [List.setIfInBounds_toArray, List.set_cons_zero, List.set_cons_succ]
    refine takeH_at 4 22 (.agg #[.int .u64 77, .string ⟨#[]⟩, .string ⟨#[]⟩, .string ⟨#[]⟩, .string ⟨#[]⟩]) rfl rfl (by kernel_rfl) (by kernel_rfl) (by kernel_rfl) (fun _ _ _ h => h) (hS0) (Or.inl ⟨by rfl, fun w' hS' => by go_simp⟩) ?_
    simp only [List.setIfInBounds_toArray, List.set_cons_zero, List.set_cons_succ]
    refine takeH_at 7 25 (.pointer (some ⟨w.heap.size, 12, none⟩)) rfl rfl (by kernel_rfl) (by kernel_rfl) (by kernel_rfl) (fun _ _ _ h => h) (hS0) (Or.inl ⟨by rfl, fun w' hS' => by go_simp⟩) ?_
    simp only [List.setIfInBounds_toArray, List.set_cons_zero, List.set_cons_succ]
    refine takeH_at 8 26 (.slice m.ep m.en m.ec) rfl rfl (by kernel_rfl) (by kernel_rfl) (by kernel_rfl) (fun _ _ _ h => h) (hS0) (Or.inl ⟨by rfl, fun w' hS' => by have q := hld w' hS'; go_simp⟩) ?_
    simp only [List.setIfInBounds_toArray, List.set_cons_zero, List.set_cons_succ]
    refine takeH_at 9 27 (.int .i64 (m.en : Nat)) rfl rfl (by kernel_rfl) (by kernel_rfl) (by kernel_rfl) (fun _ _ _ h => h) (hS0) (Or.inl ⟨by rfl, fun w' hS' => by go_simp⟩) ?_
    simp only [List.setIfInBounds_toArray, List.set_cons_zero, List.set_cons_succ]
    refine wpAnyH_ready (rs := [0, 5]) (by kernel_rfl) (by simp) ?_
    refine AllReadyH.cons rfl (fun K hK => ?_) (AllReadyH.cons rfl (fun K hK => ?_) AllReadyH.nil)
    · skip
      refine step_bs rfl 18 rfl 28 49 0 #[] rfl #[] (by simp only [List.map_toArray, List.map_nil]) #[] (fun u => bs28_0 u) ?_
      intro wz1 bk1 hb1 hbl1 he1 hz1
      have hB1 : Below W.heap.size W wz1 := (hB0).trans (hbl1.mono ((hB0).size))
      refine hK.out _ _ (Stay.of hB1) (fun _ => ?_)
      clear hK K
      simp only [Act.put, List.setIfInBounds_toArray, List.set_cons_zero, List.set_cons_succ]
      refine wpAnyH_ready (rs := [3, 5]) (by kernel_rfl) (by simp) ?_
      refine AllReadyH.cons rfl (fun K hK => ?_) (AllReadyH.cons rfl (fun K hK => ?_) AllReadyH.nil)
      · skip
        have hoA : wz1.ownsRow W.heap.size 49 5 (.slice (some ⟨bk1, 0, none⟩) 0 0) 0 [] := own_empty hb1 (by rw [he1]; exact hB0.size)
        refine step_append_rv rfl 21 rfl (.tmp 18) (.tmp 20) 28 rfl 49 i49 _ 5 72 Try.underlying28 Hi49.out.1 Hi49.out.2.1 Hi49.out.2.2.1 Hi49.out.2.2.2 rfl (by decide) epoL_len epoL_one W.heap.size bk1 0 0 [] rfl hoA m.ep m.en m.ec EL rfl hen.out (e1.out.below (TW.out.bel.trans ((hB1).mono TW.out.bel.size))) z2.out (by have := y2.out; unfold maxLen; omega) (by have := y2.out; omega) ((hB1).size) ?_
        intro gz2 kc2 wz2 ho2 hg2 ha2
        rw [Nat.zero_add] at ho2
        rw [List.nil_append] at ho2
        try rw [Nat.zero_add]
        have hB2 : Below W.heap.size W wz2 := (hB1).grown hg2 ((hB1).size) (by intro q hq; cases hq; exact (hoA.lt bk1 rfl).1)
        refine hK.out _ _ (Stay.of hB2) (fun _ => ?_)
        clear hK K
        simp only [Act.put, List.setIfInBounds_toArray, List.set_cons_zero, List.set_cons_succ]
        refine wpAnyH_ready (rs := [5]) (by kernel_rfl) (by simp) ?_
        refine AllReadyH.cons rfl (fun K hK => ?_) AllReadyH.nil
        refine step_bs rfl 23 rfl 28 49 1 _ rfl #[(0, .agg #[.int .u64 77, .string ⟨#[]⟩, .string ⟨#[]⟩, .string ⟨#[]⟩, .string ⟨#[]⟩])] (by simp only [List.map_toArray, List.map_cons, List.map_nil]; rfl) (epoL mk49).toArray (fun u => bs28_1 u) ?_
        intro wz3 bk3 hb3 hbl3 he3 hz3
        have hB3 : Below W.heap.size W wz3 := (hB2).trans (hbl3.mono ((hB2).size))
        refine hK.out _ _ (Stay.of hB3) (fun _ => ?_)
        clear hK K
        simp only [Act.put, List.setIfInBounds_toArray, List.set_cons_zero, List.set_cons_succ]
        refine wpAnyH_ready (rs := [6]) (by kernel_rfl) (by simp) ?_
        refine AllReadyH.cons rfl (fun K hK => ?_) AllReadyH.nil
        have hoC : wz3.ownsRow W.heap.size 49 5 (.slice (some ⟨gz2, 0, none⟩) m.en kc2) m.en (EL.flatMap epoL) := own_keep ho2 hbl3
        refine step_append_rv rfl 24 rfl (.tmp 21) (.tmp 23) 28 rfl 49 i49 _ 5 72 Try.underlying28 Hi49.out.1 Hi49.out.2.1 Hi49.out.2.2.1 Hi49.out.2.2.2 rfl (by decide) epoL_len epoL_one W.heap.size gz2 m.en kc2 (EL.flatMap epoL) rfl hoC (some ⟨bk3, 0, none⟩) 1 1 [mk49] rfl rfl (rv_block (hb3)) (by intro h; cases h) (by have := y2.out; unfold maxLen; omega) (by have := y2.out; omega) ((hB3).size) ?_
        intro gz4 kc4 wz4 ho4 hg4 ha4
        have hB4 : Below W.heap.size W wz4 := (hB3).grown hg4 ((hB3).size) (by intro q hq; cases hq; exact (hoC.lt gz2 rfl).1)
        refine hK.out _ _ (Stay.of hB4) (fun _ => ?_)
        clear hK K
        simp only [Act.put, List.setIfInBounds_toArray, List.set_cons_zero, List.set_cons_succ]
        have hcp : m.en + 1 ≤ kc4 := by rcases ho4.2 with ⟨h, _⟩ | ⟨g9, c9, cur9, h9, _, _, h8, _⟩; cases h; cases h9; exact h8
        have hci : ((m.en : Nat) : Int) ≤ ((kc4 : Nat) : Int) := by omega
        have hc0 : (0 : Int) ≤ ((m.en : Nat) : Int) := by omega
        refine takeH_at 10 28 (.slice (some ⟨gz4, 0, none⟩) m.en kc4) rfl rfl (by kernel_rfl) (by kernel_rfl) (by kernel_rfl) (fun _ _ _ h => h) ((Stay.of hB4)) (Or.inl ⟨by rfl, fun w' hS' => by go_simp⟩) ?_
        simp only [List.setIfInBounds_toArray, List.set_cons_zero, List.set_cons_succ]
        refine takeH_at 11 29 (.pointer (some ⟨w.heap.size + 2, 12, none⟩)) rfl rfl (by kernel_rfl) (by kernel_rfl) (by kernel_rfl) (fun _ _ _ h => h) ((Stay.of hB4)) (Or.inl ⟨by rfl, fun w' hS' => by go_simp⟩) ?_
        simp only [List.setIfInBounds_toArray, List.set_cons_zero, List.set_cons_succ]
        refine wpAnyH_ready (rs := [12]) (by kernel_rfl) (by simp) ?_
        refine AllReadyH.cons rfl (fun K hK => ?_) AllReadyH.nil
        have hbn : Bx wz4 (w.heap.size + 2) ({ m with sp := p1, sc := c1 } : Mt) := (hB4.block _ (by have := TW.out.sz; omega)).trans TW.out.bn
        have hcn := hbn.c 12 _ rfl
        have hfn : wz4.frozen? ⟨w.heap.size + 2, 12, none⟩ = false := frozen_bx hbn
        go_simp
        refine hK.out _ _ ((Stay.of hB4).set _ _) (fun _ => ?_)
        clear hK K
        try simp only [Act.put, List.setIfInBounds_toArray, List.set_cons_zero, List.set_cons_succ]
        refine wpAnyH_done (by kernel_rfl) ?_ _
        refine NoPanic.normal ?_
        go_wp2_with fail
        go_meet
        case rel => exact ⟨some ⟨gz4, 0, none⟩, kc4, (show Hid (_ ∧ _) from ⟨TW.out.stay ((Stay.of hB4).set _ _) (bx_set hbn rfl), (Stay.of hB4).set _ _, (Ls.own epoL_len hen.out ho4 (by have := TW.out.sz; omega)).stay ((Stay.refl _ _).set _ _)⟩)⟩
      · skip
        refine step_bs rfl 23 rfl 28 49 1 _ rfl #[(0, .agg #[.int .u64 77, .string ⟨#[]⟩, .string ⟨#[]⟩, .string ⟨#[]⟩, .string ⟨#[]⟩])] (by simp only [List.map_toArray, List.map_cons, List.map_nil]; rfl) (epoL mk49).toArray (fun u => bs28_1 u) ?_
        intro wz2 bk2 hb2 hbl2 he2 hz2
        have hB2 : Below W.heap.size W wz2 := (hB1).trans (hbl2.mono ((hB1).size))
        refine hK.out _ _ (Stay.of hB2) (fun _ => ?_)
        clear hK K
        simp only [Act.put, List.setIfInBounds_toArray, List.set_cons_zero, List.set_cons_succ]
        refine wpAnyH_ready (rs := [3]) (by kernel_rfl) (by simp) ?_
        refine AllReadyH.cons rfl (fun K hK => ?_) AllReadyH.nil
        have hoA : wz2.ownsRow W.heap.size 49 5 (.slice (some ⟨bk1, 0, none⟩) 0 0) 0 [] := own_keep (own_empty hb1 (by rw [he1]; exact hB0.size)) hbl2
        refine step_append_rv rfl 21 rfl (.tmp 18) (.tmp 20) 28 rfl 49 i49 _ 5 72 Try.underlying28 Hi49.out.1 Hi49.out.2.1 Hi49.out.2.2.1 Hi49.out.2.2.2 rfl (by decide) epoL_len epoL_one W.heap.size bk1 0 0 [] rfl hoA m.ep m.en m.ec EL rfl hen.out (e1.out.below (TW.out.bel.trans ((hB2).mono TW.out.bel.size))) z2.out (by have := y2.out; unfold maxLen; omega) (by have := y2.out; omega) ((hB2).size) ?_
        intro gz3 kc3 wz3 ho3 hg3 ha3
        rw [Nat.zero_add] at ho3
        rw [List.nil_append] at ho3
        try rw [Nat.zero_add]
        have hB3 : Below W.heap.size W wz3 := (hB2).grown hg3 ((hB2).size) (by intro q hq; cases hq; exact (hoA.lt bk1 rfl).1)
        refine hK.out _ _ (Stay.of hB3) (fun _ => ?_)
        clear hK K
        simp only [Act.put, List.setIfInBounds_toArray, List.set_cons_zero, List.set_cons_succ]
        refine wpAnyH_ready (rs := [6]) (by kernel_rfl) (by simp) ?_
        refine AllReadyH.cons rfl (fun K hK => ?_) AllReadyH.nil
        have hoC : wz3.ownsRow W.heap.size 49 5 (.slice (some ⟨gz3, 0, none⟩) m.en kc3) m.en (EL.flatMap epoL) := ho3
        refine step_append_rv rfl 24 rfl (.tmp 21) (.tmp 23) 28 rfl 49 i49 _ 5 72 Try.underlying28 Hi49.out.1 Hi49.out.2.1 Hi49.out.2.2.1 Hi49.out.2.2.2 rfl (by decide) epoL_len epoL_one W.heap.size gz3 m.en kc3 (EL.flatMap epoL) rfl hoC (some ⟨bk2, 0, none⟩) 1 1 [mk49] rfl rfl (rv_block ((hg3.block bk2 (by omega) (by intro q; cases q; omega)).trans hb2)) (by intro h; cases h) (by have := y2.out; unfold maxLen; omega) (by have := y2.out; omega) ((hB3).size) ?_
        intro gz4 kc4 wz4 ho4 hg4 ha4
        have hB4 : Below W.heap.size W wz4 := (hB3).grown hg4 ((hB3).size) (by intro q hq; cases hq; exact (hoC.lt gz3 rfl).1)
        refine hK.out _ _ (Stay.of hB4) (fun _ => ?_)
        clear hK K
        simp only [Act.put, List.setIfInBounds_toArray, List.set_cons_zero, List.set_cons_succ]
        have hcp : m.en + 1 ≤ kc4 := by rcases ho4.2 with ⟨h, _⟩ | ⟨g9, c9, cur9, h9, _, _, h8, _⟩; cases h; cases h9; exact h8
        have hci : ((m.en : Nat) : Int) ≤ ((kc4 : Nat) : Int) := by omega
        have hc0 : (0 : Int) ≤ ((m.en : Nat) : Int) := by omega
        refine takeH_at 10 28 (.slice (some ⟨gz4, 0, none⟩) m.en kc4) rfl rfl (by kernel_rfl) (by kernel_rfl) (by kernel_rfl) (fun _ _ _ h => h) ((Stay.of hB4)) (Or.inl ⟨by rfl, fun w' hS' => by go_simp⟩) ?_
        simp only [List.setIfInBounds_toArray, List.set_cons_zero, List.set_cons_succ]
        refine takeH_at 11 29 (.pointer (some ⟨w.heap.size + 2, 12, none⟩)) rfl rfl (by kernel_rfl) (by kernel_rfl) (by kernel_rfl) (fun _ _ _ h => h) ((Stay.of hB4)) (Or.inl ⟨by rfl, fun w' hS' => by go_simp⟩) ?_
        simp only [List.setIfInBounds_toArray, List.set_cons_zero, List.set_cons_succ]
        refine wpAnyH_ready (rs := [12]) (by kernel_rfl) (by simp) ?_
        refine AllReadyH.cons rfl (fun K hK => ?_) AllReadyH.nil
        have hbn : Bx wz4 (w.heap.size + 2) ({ m with sp := p1, sc := c1 } : Mt) := (hB4.block _ (by have := TW.out.sz; omega)).trans TW.out.bn
        have hcn := hbn.c 12 _ rfl
        have hfn : wz4.frozen? ⟨w.heap.size + 2, 12, none⟩ = false := frozen_bx hbn
        go_simp
        refine hK.out _ _ ((Stay.of hB4).set _ _) (fun _ => ?_)
        clear hK K
        try simp only [Act.put, List.setIfInBounds_toArray, List.set_cons_zero, List.set_cons_succ]
        refine wpAnyH_done (by kernel_rfl) ?_ _
        refine NoPanic.normal ?_
        go_wp2_with fail
        go_meet
        case rel => exact ⟨some ⟨gz4, 0, none⟩, kc4, (show Hid (_ ∧ _) from ⟨TW.out.stay ((Stay.of hB4).set _ _) (bx_set hbn rfl), (Stay.of hB4).set _ _, (Ls.own epoL_len hen.out ho4 (by have := TW.out.sz; omega)).stay ((Stay.refl _ _).set _ _)⟩)⟩
    · skip
      refine step_bs rfl 23 rfl 28 49 1 _ rfl #[(0, .agg #[.int .u64 77, .string ⟨#[]⟩, .string ⟨#[]⟩, .string ⟨#[]⟩, .string ⟨#[]⟩])] (by simp only [List.map_toArray, List.map_cons, List.map_nil]; rfl) (epoL mk49).toArray (fun u => bs28_1 u) ?_
      intro wz1 bk1 hb1 hbl1 he1 hz1
      have hB1 : Below W.heap.size W wz1 := (hB0).trans (hbl1.mono ((hB0).size))
      refine hK.out _ _ (Stay.of hB1) (fun _ => ?_)
      clear hK K
      simp only [Act.put, List.setIfInBounds_toArray, List.set_cons_zero, List.set_cons_succ]
      refine wpAnyH_ready (rs := [0]) (by kernel_rfl) (by simp) ?_
      refine AllReadyH.cons rfl (fun K hK => ?_) AllReadyH.nil
      refine step_bs rfl 18 rfl 28 49 0 #[] rfl #[] (by simp only [List.map_toArray, List.map_nil]) #[] (fun u => bs28_0 u) ?_
      intro wz2 bk2 hb2 hbl2 he2 hz2
      have hB2 : Below W.heap.size W wz2 := (hB1).trans (hbl2.mono ((hB1).size))
      refine hK.out _ _ (Stay.of hB2) (fun _ => ?_)
      clear hK K
      simp only [Act.put, List.setIfInBounds_toArray, List.set_cons_zero, List.set_cons_succ]
      refine wpAnyH_ready (rs := [3]) (by kernel_rfl) (by simp) ?_
      refine AllReadyH.cons rfl (fun K hK => ?_) AllReadyH.nil
      have hoA : wz2.ownsRow W.heap.size 49 5 (.slice (some ⟨bk2, 0, none⟩) 0 0) 0 [] := own_empty hb2 (by rw [he2]; exact hB1.size)
      refine step_append_rv rfl 21 rfl (.tmp 18) (.tmp 20) 28 rfl 49 i49 _ 5 72 Try.underlying28 Hi49.out.1 Hi49.out.2.1 Hi49.out.2.2.1 Hi49.out.2.2.2 rfl (by decide) epoL_len epoL_one W.heap.size bk2 0 0 [] rfl hoA m.ep m.en m.ec EL rfl hen.out (e1.out.below (TW.out.bel.trans ((hB2).mono TW.out.bel.size))) z2.out (by have := y2.out; unfold maxLen; omega) (by have := y2.out; omega) ((hB2).size) ?_
      intro gz3 kc3 wz3 ho3 hg3 ha3
      rw [Nat.zero_add] at ho3
      rw [List.nil_append] at ho3
      try rw [Nat.zero_add]
      have hB3 : Below W.heap.size W wz3 := (hB2).grown hg3 ((hB2).size) (by intro q hq; cases hq; exact (hoA.lt bk2 rfl).1)
      refine hK.out _ _ (Stay.of hB3) (fun _ => ?_)
      clear hK K
      simp only [Act.put, List.setIfInBounds_toArray, List.set_cons_zero, List.set_cons_succ]
      refine wpAnyH_ready (rs := [6]) (by kernel_rfl) (by simp) ?_
      refine AllReadyH.cons rfl (fun K hK => ?_) AllReadyH.nil
      have hoC : wz3.ownsRow W.heap.size 49 5 (.slice (some ⟨gz3, 0, none⟩) m.en kc3) m.en (EL.flatMap epoL) := ho3
      refine step_append_rv rfl 24 rfl (.tmp 21) (.tmp 23) 28 rfl 49 i49 _ 5 72 Try.underlying28 Hi49.out.1 Hi49.out.2.1 Hi49.out.2.2.1 Hi49.out.2.2.2 rfl (by decide) epoL_len epoL_one W.heap.size gz3 m.en kc3 (EL.flatMap epoL) rfl hoC (some ⟨bk1, 0, none⟩) 1 1 [mk49] rfl rfl (rv_block ((hg3.block bk1 (by omega) (by intro q; cases q; omega)).trans ((hbl2.block bk1 (by omega)).trans hb1))) (by intro h; cases h) (by have := y2.out; unfold maxLen; omega) (by have := y2.out; omega) ((hB3).size) ?_
      intro gz4 kc4 wz4 ho4 hg4 ha4
      have hB4 : Below W.heap.size W wz4 := (hB3).grown hg4 ((hB3).size) (by intro q hq; cases hq; exact (hoC.lt gz3 rfl).1)
      refine hK.out _ _ (Stay.of hB4) (fun _ => ?_)
      clear hK K
      simp only [Act.put, List.setIfInBounds_toArray, List.set_cons_zero, List.set_cons_succ]
      have hcp : m.en + 1 ≤ kc4 := by rcases ho4.2 with ⟨h, _⟩ | ⟨g9, c9, cur9, h9, _, _, h8, _⟩; cases h; cases h9; exact h8
      have hci : ((m.en : Nat) : Int) ≤ ((kc4 : Nat) : Int) := by omega
      have hc0 : (0 : Int) ≤ ((m.en : Nat) : Int) := by omega
      refine takeH_at 10 28 (.slice (some ⟨gz4, 0, none⟩) m.en kc4) rfl rfl (by kernel_rfl) (by kernel_rfl) (by kernel_rfl) (fun _ _ _ h => h) ((Stay.of hB4)) (Or.inl ⟨by rfl, fun w' hS' => by go_simp⟩) ?_
      simp only [List.setIfInBounds_toArray, List.set_cons_zero, List.set_cons_succ]
      refine takeH_at 11 29 (.pointer (some ⟨w.heap.size + 2, 12, none⟩)) rfl rfl (by kernel_rfl) (by kernel_rfl) (by kernel_rfl) (fun _ _ _ h => h) ((Stay.of hB4)) (Or.inl ⟨by rfl, fun w' hS' => by go_simp⟩) ?_
      simp only [List.setIfInBounds_toArray, List.set_cons_zero, List.set_cons_succ]
      refine wpAnyH_ready (rs := [12]) (by kernel_rfl) (by simp) ?_
      refine AllReadyH.cons rfl (fun K hK => ?_) AllReadyH.nil
      have hbn : Bx wz4 (w.heap.size + 2) ({ m with sp := p1, sc := c1 } : Mt) := (hB4.block _ (by have := TW.out.sz; omega)).trans TW.out.bn
      have hcn := hbn.c 12 _ rfl
      have hfn : wz4.frozen? ⟨w.heap.size + 2, 12, none⟩ = false := frozen_bx hbn
      go_simp
      refine hK.out _ _ ((Stay.of hB4).set _ _) (fun _ => ?_)
      clear hK K
      try simp only [Act.put, List.setIfInBounds_toArray, List.set_cons_zero, List.set_cons_succ]
      refine wpAnyH_done (by kernel_rfl) ?_ _
      refine NoPanic.normal ?_
      go_wp2_with fail
      go_meet
      case rel => exact ⟨some ⟨gz4, 0, none⟩, kc4, (show Hid (_ ∧ _) from ⟨TW.out.stay ((Stay.of hB4).set _ _) (bx_set hbn rfl), (Stay.of hB4).set _ _, (Ls.own epoL_len hen.out ho4 (by have := TW.out.sz; omega)).stay ((Stay.refl _ _).set _ _)⟩)⟩
  obtain ⟨p2, c2, HC⟩ := hcut
  have TW2 : Hid (Twn w wc m ({ m with sp := p1, sc := c1, ep := p2, ec := c2 } : Mt)) := HC.out.1
  have L2 : Hid (Ls (w.heap.size + 2) epoL 5 (.int .u64 77) wc p2 m.en c2 EL) := HC.out.2.2
  have L12 : Hid (Ls (w.heap.size + 2) sloL 9 (.int .i64 (-77)) wc p1 m.sn c1 SL) := L1.out.stay HC.out.2.1
  clear HC TW L1
  have L1 := L12; clear L12
  have TW := TW2; clear TW2
  clear W
  generalize wc = W at *
  go_upto_region 4 with fail
  go_cut [] from 5 (fun wx => ∃ p3 c3, Hid (Twn w wx m ({ m with sp := p1, sc := c1, ep := p2, ec := c2, gp := p3, gc := c3 } : Mt) ∧ Stay (w.heap.size + 2) W wx ∧ Ls (w.heap.size + 2) sgZ 3 (.int .u64 77) wx p3 m.gn c3 GL))
  case first =>
    have hld : ∀ u, Stay (w.heap.size + 2) W u → u.cell? ⟨w.heap.size, 13, none⟩ = some (.slice m.gp m.gn m.gc) := fun u hu => (hu.cell (by have := TW.out.sz; omega) (by omega)).trans (TW.out.bx.c 13 _ rfl)
    have hS0 : Stay (w.heap.size + 2) W W.drew := Stay.of (Below.refl _ _).drew
    have hB0 : Below W.heap.size W W.drew := (Below.refl _ _).drew
    refine wp_region_noPanic ?_
    refine wp_region_held_drew (S := fun u => Stay (w.heap.size + 2) W u) (by kernel_rfl) (hS0) (fun _ => ?_)
    refine takeH_at 1 31 (.pointer (some ⟨w.heap.size, 13, none⟩)) rfl rfl (by kernel_rfl) (by kernel_rfl) (by kernel_rfl) (fun _ _ _ h => h) (hS0) (Or.inl ⟨by rfl, fun w' hS' => by go_simp⟩) ?_
    simp only [List.setIfInBounds_toArray, List.set_cons_zero, List.set_cons_succ]
    refine takeH_at 2 32 (.slice m.gp m.gn m.gc) rfl rfl (by kernel_rfl) (by kernel_rfl) (by kernel_rfl) (fun _ _ _ h => h) (hS0) (Or.inl ⟨by rfl, fun w' hS' => by have q := hld w' hS'; go_simp⟩) ?_
    simp only [List.setIfInBounds_toArray, List.set_cons_zero, List.set_cons_succ]
    refine takeH_at 4 34 (.agg #[.int .u64 77, .int .u64 0, .int .u64 0]) rfl rfl (by kernel_rfl) (by kernel_rfl) (by kernel_rfl) (fun _ _ _ h => h) (hS0) (Or.inl ⟨by rfl, fun w' hS' => by go_simp⟩) ?_
    simp only [List.setIfInBounds_toArray, List.set_cons_zero, List.set_cons_succ]
    refine takeH_at 7 37 (.pointer (some ⟨w.heap.size, 13, none⟩)) rfl rfl (by kernel_rfl) (by kernel_rfl) (by kernel_rfl) (fun _ _ _ h => h) (hS0) (Or.inl ⟨by rfl, fun w' hS' => by go_simp⟩) ?_
    simp only [List.setIfInBounds_toArray, List.set_cons_zero, List.set_cons_succ]
    refine takeH_at 8 38 (.slice m.gp m.gn m.gc) rfl rfl (by kernel_rfl) (by kernel_rfl) (by kernel_rfl) (fun _ _ _ h => h) (hS0) (Or.inl ⟨by rfl, fun w' hS' => by have q := hld w' hS'; go_simp⟩) ?_
    simp only [List.setIfInBounds_toArray, List.set_cons_zero, List.set_cons_succ]
    refine takeH_at 9 39 (.int .i64 (m.gn : Nat)) rfl rfl (by kernel_rfl) (by kernel_rfl) (by kernel_rfl) (fun _ _ _ h => h) (hS0) (Or.inl ⟨by rfl, fun w' hS' => by go_simp⟩) ?_
    simp only [List.setIfInBounds_toArray, List.set_cons_zero, List.set_cons_succ]
    refine wpAnyH_ready (rs := [0, 5]) (by kernel_rfl) (by simp) ?_
    refine AllReadyH.cons rfl (fun K hK => ?_) (AllReadyH.cons rfl (fun K hK => ?_) AllReadyH.nil)
    · skip
      refine step_bs rfl 30 rfl 29 51 0 #[] rfl #[] (by simp only [List.map_toArray, List.map_nil]) #[] (fun u => bs29_0 u) ?_
      intro wz1 bk1 hb1 hbl1 he1 hz1
      have hB1 : Below W.heap.size W wz1 := (hB0).trans (hbl1.mono ((hB0).size))
      refine hK.out _ _ (Stay.of hB1) (fun _ => ?_)
      clear hK K
      simp only [Act.put, List.setIfInBounds_toArray, List.set_cons_zero, List.set_cons_succ]
      refine wpAnyH_ready (rs := [3, 5]) (by kernel_rfl) (by simp) ?_
      refine AllReadyH.cons rfl (fun K hK => ?_) (AllReadyH.cons rfl (fun K hK => ?_) AllReadyH.nil)
      · skip
        have hoA : wz1.ownsRow W.heap.size 51 3 (.slice (some ⟨bk1, 0, none⟩) 0 0) 0 [] := own_empty hb1 (by rw [he1]; exact hB0.size)
        refine step_append_rv rfl 33 rfl (.tmp 30) (.tmp 32) 29 rfl 51 i51 _ 3 24 Try.underlying29 Hi51.out.1 Hi51.out.2.1 Hi51.out.2.2.1 Hi51.out.2.2.2 rfl (by decide) sgZ_len sgZ_one W.heap.size bk1 0 0 [] rfl hoA m.gp m.gn m.gc GL rfl hgn.out (g1.out.below (TW.out.bel.trans ((hB1).mono TW.out.bel.size))) z3.out (by have := y3.out; unfold maxLen; omega) (by have := y3.out; omega) ((hB1).size) ?_
        intro gz2 kc2 wz2 ho2 hg2 ha2
        rw [Nat.zero_add] at ho2
        rw [List.nil_append] at ho2
        try rw [Nat.zero_add]
        have hB2 : Below W.heap.size W wz2 := (hB1).grown hg2 ((hB1).size) (by intro q hq; cases hq; exact (hoA.lt bk1 rfl).1)
        refine hK.out _ _ (Stay.of hB2) (fun _ => ?_)
        clear hK K
        simp only [Act.put, List.setIfInBounds_toArray, List.set_cons_zero, List.set_cons_succ]
        refine wpAnyH_ready (rs := [5]) (by kernel_rfl) (by simp) ?_
        refine AllReadyH.cons rfl (fun K hK => ?_) AllReadyH.nil
        refine step_bs rfl 35 rfl 29 51 1 _ rfl #[(0, .agg #[.int .u64 77, .int .u64 0, .int .u64 0])] (by simp only [List.map_toArray, List.map_cons, List.map_nil]; rfl) (sgZ mk51).toArray (fun u => bs29_1 u) ?_
        intro wz3 bk3 hb3 hbl3 he3 hz3
        have hB3 : Below W.heap.size W wz3 := (hB2).trans (hbl3.mono ((hB2).size))
        refine hK.out _ _ (Stay.of hB3) (fun _ => ?_)
        clear hK K
        simp only [Act.put, List.setIfInBounds_toArray, List.set_cons_zero, List.set_cons_succ]
        refine wpAnyH_ready (rs := [6]) (by kernel_rfl) (by simp) ?_
        refine AllReadyH.cons rfl (fun K hK => ?_) AllReadyH.nil
        have hoC : wz3.ownsRow W.heap.size 51 3 (.slice (some ⟨gz2, 0, none⟩) m.gn kc2) m.gn (GL.flatMap sgZ) := own_keep ho2 hbl3
        refine step_append_rv rfl 36 rfl (.tmp 33) (.tmp 35) 29 rfl 51 i51 _ 3 24 Try.underlying29 Hi51.out.1 Hi51.out.2.1 Hi51.out.2.2.1 Hi51.out.2.2.2 rfl (by decide) sgZ_len sgZ_one W.heap.size gz2 m.gn kc2 (GL.flatMap sgZ) rfl hoC (some ⟨bk3, 0, none⟩) 1 1 [mk51] rfl rfl (rv_block (hb3)) (by intro h; cases h) (by have := y3.out; unfold maxLen; omega) (by have := y3.out; omega) ((hB3).size) ?_
        intro gz4 kc4 wz4 ho4 hg4 ha4
        have hB4 : Below W.heap.size W wz4 := (hB3).grown hg4 ((hB3).size) (by intro q hq; cases hq; exact (hoC.lt gz2 rfl).1)
        refine hK.out _ _ (Stay.of hB4) (fun _ => ?_)
        clear hK K
        simp only [Act.put, List.setIfInBounds_toArray, List.set_cons_zero, List.set_cons_succ]
        have hcp : m.gn + 1 ≤ kc4 := by rcases ho4.2 with ⟨h, _⟩ | ⟨g9, c9, cur9, h9, _, _, h8, _⟩; cases h; cases h9; exact h8
        have hci : ((m.gn : Nat) : Int) ≤ ((kc4 : Nat) : Int) := by omega
        have hc0 : (0 : Int) ≤ ((m.gn : Nat) : Int) := by omega
        refine takeH_at 10 40 (.slice (some ⟨gz4, 0, none⟩) m.gn kc4) rfl rfl (by kernel_rfl) (by kernel_rfl) (by kernel_rfl) (fun _ _ _ h => h) ((Stay.of hB4)) (Or.inl ⟨by rfl, fun w' hS' => by go_simp⟩) ?_
        simp only [List.setIfInBounds_toArray, List.set_cons_zero, List.set_cons_succ]
        refine takeH_at 11 41 (.pointer (some ⟨w.heap.size + 2, 13, none⟩)) rfl rfl (by kernel_rfl) (by kernel_rfl) (by kernel_rfl) (fun _ _ _ h => h) ((Stay.of hB4)) (Or.inl ⟨by rfl, fun w' hS' => by go_simp⟩) ?_
        simp only [List.setIfInBounds_toArray, List.set_cons_zero, List.set_cons_succ]
        refine wpAnyH_ready (rs := [12]) (by kernel_rfl) (by simp) ?_
        refine AllReadyH.cons rfl (fun K hK => ?_) AllReadyH.nil
        have hbn : Bx wz4 (w.heap.size + 2) ({ m with sp := p1, sc := c1, ep := p2, ec := c2 } : Mt) := (hB4.block _ (by have := TW.out.sz; omega)).trans TW.out.bn
        have hcn := hbn.c 13 _ rfl
        have hfn : wz4.frozen? ⟨w.heap.size + 2, 13, none⟩ = false := frozen_bx hbn
        go_simp
        refine hK.out _ _ ((Stay.of hB4).set _ _) (fun _ => ?_)
        clear hK K
        try simp only [Act.put, List.setIfInBounds_toArray, List.set_cons_zero, List.set_cons_succ]
        refine wpAnyH_done (by kernel_rfl) ?_ _
        refine NoPanic.normal ?_
        go_wp2_with fail
        go_meet
        case rel => exact ⟨some ⟨gz4, 0, none⟩, kc4, (show Hid (_ ∧ _) from ⟨TW.out.stay ((Stay.of hB4).set _ _) (bx_set hbn rfl), (Stay.of hB4).set _ _, (Ls.own sgZ_len hgn.out ho4 (by have := TW.out.sz; omega)).stay ((Stay.refl _ _).set _ _)⟩)⟩
      · skip
        refine step_bs rfl 35 rfl 29 51 1 _ rfl #[(0, .agg #[.int .u64 77, .int .u64 0, .int .u64 0])] (by simp only [List.map_toArray, List.map_cons, List.map_nil]; rfl) (sgZ mk51).toArray (fun u => bs29_1 u) ?_
        intro wz2 bk2 hb2 hbl2 he2 hz2
        have hB2 : Below W.heap.size W wz2 := (hB1).trans (hbl2.mono ((hB1).size))
        refine hK.out _ _ (Stay.of hB2) (fun _ => ?_)
        clear hK K
        simp only [Act.put, List.setIfInBounds_toArray, List.set_cons_zero, List.set_cons_succ]
        refine wpAnyH_ready (rs := [3]) (by kernel_rfl) (by simp) ?_
        refine AllReadyH.cons rfl (fun K hK => ?_) AllReadyH.nil
        have hoA : wz2.ownsRow W.heap.size 51 3 (.slice (some ⟨bk1, 0, none⟩) 0 0) 0 [] := own_keep (own_empty hb1 (by rw [he1]; exact hB0.size)) hbl2
        refine step_append_rv rfl 33 rfl (.tmp 30) (.tmp 32) 29 rfl 51 i51 _ 3 24 Try.underlying29 Hi51.out.1 Hi51.out.2.1 Hi51.out.2.2.1 Hi51.out.2.2.2 rfl (by decide) sgZ_len sgZ_one W.heap.size bk1 0 0 [] rfl hoA m.gp m.gn m.gc GL rfl hgn.out (g1.out.below (TW.out.bel.trans ((hB2).mono TW.out.bel.size))) z3.out (by have := y3.out; unfold maxLen; omega) (by have := y3.out; omega) ((hB2).size) ?_
        intro gz3 kc3 wz3 ho3 hg3 ha3
        rw [Nat.zero_add] at ho3
        rw [List.nil_append] at ho3
        try rw [Nat.zero_add]
        have hB3 : Below W.heap.size W wz3 := (hB2).grown hg3 ((hB2).size) (by intro q hq; cases hq; exact (hoA.lt bk1 rfl).1)
        refine hK.out _ _ (Stay.of hB3) (fun _ => ?_)
        clear hK K
        simp only [Act.put, List.setIfInBounds_toArray, List.set_cons_zero, List.set_cons_succ]
        refine wpAnyH_ready (rs := [6]) (by kernel_rfl) (by simp) ?_
        refine AllReadyH.cons rfl (fun K hK => ?_) AllReadyH.nil
        have hoC : wz3.ownsRow W.heap.size 51 3 (.slice (some ⟨gz3, 0, none⟩) m.gn kc3) m.gn (GL.flatMap sgZ) := ho3
        refine step_append_rv rfl 36 rfl (.tmp 33) (.tmp 35) 29 rfl 51 i51 _ 3 24 Try.underlying29 Hi51.out.1 Hi51.out.2.1 Hi51.out.2.2.1 Hi51.out.2.2.2 rfl (by decide) sgZ_len sgZ_one W.heap.size gz3 m.gn kc3 (GL.flatMap sgZ) rfl hoC (some ⟨bk2, 0, none⟩) 1 1 [mk51] rfl rfl (rv_block ((hg3.block bk2 (by omega) (by intro q; cases q; omega)).trans hb2)) (by intro h; cases h) (by have := y3.out; unfold maxLen; omega) (by have := y3.out; omega) ((hB3).size) ?_
        intro gz4 kc4 wz4 ho4 hg4 ha4
        have hB4 : Below W.heap.size W wz4 := (hB3).grown hg4 ((hB3).size) (by intro q hq; cases hq; exact (hoC.lt gz3 rfl).1)
        refine hK.out _ _ (Stay.of hB4) (fun _ => ?_)
        clear hK K
        simp only [Act.put, List.setIfInBounds_toArray, List.set_cons_zero, List.set_cons_succ]
        have hcp : m.gn + 1 ≤ kc4 := by rcases ho4.2 with ⟨h, _⟩ | ⟨g9, c9, cur9, h9, _, _, h8, _⟩; cases h; cases h9; exact h8
        have hci : ((m.gn : Nat) : Int) ≤ ((kc4 : Nat) : Int) := by omega
        have hc0 : (0 : Int) ≤ ((m.gn : Nat) : Int) := by omega
        refine takeH_at 10 40 (.slice (some ⟨gz4, 0, none⟩) m.gn kc4) rfl rfl (by kernel_rfl) (by kernel_rfl) (by kernel_rfl) (fun _ _ _ h => h) ((Stay.of hB4)) (Or.inl ⟨by rfl, fun w' hS' => by go_simp⟩) ?_
        simp only [List.setIfInBounds_toArray, List.set_cons_zero, List.set_cons_succ]
        refine takeH_at 11 41 (.pointer (some ⟨w.heap.size + 2, 13, none⟩)) rfl rfl (by kernel_rfl) (by kernel_rfl) (by kernel_rfl) (fun _ _ _ h => h) ((Stay.of hB4)) (Or.inl ⟨by rfl, fun w' hS' => by go_simp⟩) ?_
        simp only [List.setIfInBounds_toArray, List.set_cons_zero, List.set_cons_succ]
        refine wpAnyH_ready (rs := [12]) (by kernel_rfl) (by simp) ?_
        refine AllReadyH.cons rfl (fun K hK => ?_) AllReadyH.nil
        have hbn : Bx wz4 (w.heap.size + 2) ({ m with sp := p1, sc := c1, ep := p2, ec := c2 } : Mt) := (hB4.block _ (by have := TW.out.sz; omega)).trans TW.out.bn
        have hcn := hbn.c 13 _ rfl
        have hfn : wz4.frozen? ⟨w.heap.size + 2, 13, none⟩ = false := frozen_bx hbn
        go_simp
        refine hK.out _ _ ((Stay.of hB4).set _ _) (fun _ => ?_)
        clear hK K
        try simp only [Act.put, List.setIfInBounds_toArray, List.set_cons_zero, List.set_cons_succ]
        refine wpAnyH_done (by kernel_rfl) ?_ _
        refine NoPanic.normal ?_
        go_wp2_with fail
        go_meet
        case rel => exact ⟨some ⟨gz4, 0, none⟩, kc4, (show Hid (_ ∧ _) from ⟨TW.out.stay ((Stay.of hB4).set _ _) (bx_set hbn rfl), (Stay.of hB4).set _ _, (Ls.own sgZ_len hgn.out ho4 (by have := TW.out.sz; omega)).stay ((Stay.refl _ _).set _ _)⟩)⟩
    · skip
      refine step_bs rfl 35 rfl 29 51 1 _ rfl #[(0, .agg #[.int .u64 77, .int .u64 0, .int .u64 0])] (by simp only [List.map_toArray, List.map_cons, List.map_nil]; rfl) (sgZ mk51).toArray (fun u => bs29_1 u) ?_
      intro wz1 bk1 hb1 hbl1 he1 hz1
      have hB1 : Below W.heap.size W wz1 := (hB0).trans (hbl1.mono ((hB0).size))
      refine hK.out _ _ (Stay.of hB1) (fun _ => ?_)
      clear hK K
      simp only [Act.put, List.setIfInBounds_toArray, List.set_cons_zero, List.set_cons_succ]
      refine wpAnyH_ready (rs := [0]) (by kernel_rfl) (by simp) ?_
      refine AllReadyH.cons rfl (fun K hK => ?_) AllReadyH.nil
      refine step_bs rfl 30 rfl 29 51 0 #[] rfl #[] (by simp only [List.map_toArray, List.map_nil]) #[] (fun u => bs29_0 u) ?_
      intro wz2 bk2 hb2 hbl2 he2 hz2
      have hB2 : Below W.heap.size W wz2 := (hB1).trans (hbl2.mono ((hB1).size))
      refine hK.out _ _ (Stay.of hB2) (fun _ => ?_)
      clear hK K
      simp only [Act.put, List.setIfInBounds_toArray, List.set_cons_zero, List.set_cons_succ]
      refine wpAnyH_ready (rs := [3]) (by kernel_rfl) (by simp) ?_
      refine AllReadyH.cons rfl (fun K hK => ?_) AllReadyH.nil
      have hoA : wz2.ownsRow W.heap.size 51 3 (.slice (some ⟨bk2, 0, none⟩) 0 0) 0 [] := own_empty hb2 (by rw [he2]; exact hB1.size)
      refine step_append_rv rfl 33 rfl (.tmp 30) (.tmp 32) 29 rfl 51 i51 _ 3 24 Try.underlying29 Hi51.out.1 Hi51.out.2.1 Hi51.out.2.2.1 Hi51.out.2.2.2 rfl (by decide) sgZ_len sgZ_one W.heap.size bk2 0 0 [] rfl hoA m.gp m.gn m.gc GL rfl hgn.out (g1.out.below (TW.out.bel.trans ((hB2).mono TW.out.bel.size))) z3.out (by have := y3.out; unfold maxLen; omega) (by have := y3.out; omega) ((hB2).size) ?_
      intro gz3 kc3 wz3 ho3 hg3 ha3
      rw [Nat.zero_add] at ho3
      rw [List.nil_append] at ho3
      try rw [Nat.zero_add]
      have hB3 : Below W.heap.size W wz3 := (hB2).grown hg3 ((hB2).size) (by intro q hq; cases hq; exact (hoA.lt bk2 rfl).1)
      refine hK.out _ _ (Stay.of hB3) (fun _ => ?_)
      clear hK K
      simp only [Act.put, List.setIfInBounds_toArray, List.set_cons_zero, List.set_cons_succ]
      refine wpAnyH_ready (rs := [6]) (by kernel_rfl) (by simp) ?_
      refine AllReadyH.cons rfl (fun K hK => ?_) AllReadyH.nil
      have hoC : wz3.ownsRow W.heap.size 51 3 (.slice (some ⟨gz3, 0, none⟩) m.gn kc3) m.gn (GL.flatMap sgZ) := ho3
      refine step_append_rv rfl 36 rfl (.tmp 33) (.tmp 35) 29 rfl 51 i51 _ 3 24 Try.underlying29 Hi51.out.1 Hi51.out.2.1 Hi51.out.2.2.1 Hi51.out.2.2.2 rfl (by decide) sgZ_len sgZ_one W.heap.size gz3 m.gn kc3 (GL.flatMap sgZ) rfl hoC (some ⟨bk1, 0, none⟩) 1 1 [mk51] rfl rfl (rv_block ((hg3.block bk1 (by omega) (by intro q; cases q; omega)).trans ((hbl2.block bk1 (by omega)).trans hb1))) (by intro h; cases h) (by have := y3.out; unfold maxLen; omega) (by have := y3.out; omega) ((hB3).size) ?_
      intro gz4 kc4 wz4 ho4 hg4 ha4
      have hB4 : Below W.heap.size W wz4 := (hB3).grown hg4 ((hB3).size) (by intro q hq; cases hq; exact (hoC.lt gz3 rfl).1)
      refine hK.out _ _ (Stay.of hB4) (fun _ => ?_)
      clear hK K
      simp only [Act.put, List.setIfInBounds_toArray, List.set_cons_zero, List.set_cons_succ]
      have hcp : m.gn + 1 ≤ kc4 := by rcases ho4.2 with ⟨h, _⟩ | ⟨g9, c9, cur9, h9, _, _, h8, _⟩; cases h; cases h9; exact h8
      have hci : ((m.gn : Nat) : Int) ≤ ((kc4 : Nat) : Int) := by omega
      have hc0 : (0 : Int) ≤ ((m.gn : Nat) : Int) := by omega
      refine takeH_at 10 40 (.slice (some ⟨gz4, 0, none⟩) m.gn kc4) rfl rfl (by kernel_rfl) (by kernel_rfl) (by kernel_rfl) (fun _ _ _ h => h) ((Stay.of hB4)) (Or.inl ⟨by rfl, fun w' hS' => by go_simp⟩) ?_
      simp only [List.setIfInBounds_toArray, List.set_cons_zero, List.set_cons_succ]
      refine takeH_at 11 41 (.pointer (some ⟨w.heap.size + 2, 13, none⟩)) rfl rfl (by kernel_rfl) (by kernel_rfl) (by kernel_rfl) (fun _ _ _ h => h) ((Stay.of hB4)) (Or.inl ⟨by rfl, fun w' hS' => by go_simp⟩) ?_
      simp only [List.setIfInBounds_toArray, List.set_cons_zero, List.set_cons_succ]
      refine wpAnyH_ready (rs := [12]) (by kernel_rfl) (by simp) ?_
      refine AllReadyH.cons rfl (fun K hK => ?_) AllReadyH.nil
      have hbn : Bx wz4 (w.heap.size + 2) ({ m with sp := p1, sc := c1, ep := p2, ec := c2 } : Mt) := (hB4.block _ (by have := TW.out.sz; omega)).trans TW.out.bn
      have hcn := hbn.c 13 _ rfl
      have hfn : wz4.frozen? ⟨w.heap.size + 2, 13, none⟩ = false := frozen_bx hbn
      go_simp
      refine hK.out _ _ ((Stay.of hB4).set _ _) (fun _ => ?_)
      clear hK K
      try simp only [Act.put, List.setIfInBounds_toArray, List.set_cons_zero, List.set_cons_succ]
      refine wpAnyH_done (by kernel_rfl) ?_ _
      refine NoPanic.normal ?_
      go_wp2_with fail
      go_meet
      case rel => exact ⟨some ⟨gz4, 0, none⟩, kc4, (show Hid (_ ∧ _) from ⟨TW.out.stay ((Stay.of hB4).set _ _) (bx_set hbn rfl), (Stay.of hB4).set _ _, (Ls.own sgZ_len hgn.out ho4 (by have := TW.out.sz; omega)).stay ((Stay.refl _ _).set _ _)⟩)⟩
  obtain ⟨p3, c3, HC⟩ := hcut
  have TW2 : Hid (Twn w wc m ({ m with sp := p1, sc := c1, ep := p2, ec := c2, gp := p3, gc := c3 } : Mt)) := HC.out.1
  have L3 : Hid (Ls (w.heap.size + 2) sgZ 3 (.int .u64 77) wc p3 m.gn c3 GL) := HC.out.2.2
  have L12 : Hid (Ls (w.heap.size + 2) sloL 9 (.int .i64 (-77)) wc p1 m.sn c1 SL) := L1.out.stay HC.out.2.1
  have L22 : Hid (Ls (w.heap.size + 2) epoL 5 (.int .u64 77) wc p2 m.en c2 EL) := L2.out.stay HC.out.2.1
  clear HC TW L1 L2
  have L1 := L12; clear L12
  have L2 := L22; clear L22
  have TW := TW2; clear TW2
  clear W
  generalize wc = W at *
  have x26 : (W.alloc (.cells #[] 45)).cell? ⟨w.heap.size, 26, none⟩ = some (.slice m.tp m.tn m.tc) := (TW.out.bx.below (below_alloc1 _ _)).c 26 _ rfl
  go_upto_region 6 with (at_builtin; go_must (refine wpList_append_rv rfl (.tmp 42) (.tmp 44) 34 rfl 45 i45 _ 4 64 Try.underlying34 Hi45.out.1 Hi45.out.2.1 Hi45.out.2.2.1 Hi45.out.2.2.2 rfl (by decide) tkL_len tkL_one W.heap.size W.heap.size 0 0 [] rfl (own_empty (heap_alloc_new W _) (Nat.le_refl _)) m.tp m.tn m.tc T rfl htn.out (t1.out.below (TW.out.bel.alloc TW.out.bel.size _)) z4.out (by have := y4.out; unfold maxLen; omega) (by have := y4.out; omega) (by simp) ?_); intro g4 c4 W5 ho5 hg5 ha5; rw [Nat.zero_add] at ho5; rw [List.nil_append] at ho5; rw [Nat.zero_add]; have hB5 : Below W.heap.size W W5 := ((Below.refl _ W).alloc (Nat.le_refl _) _).grown hg5 (by simp) (by intro q hq; cases hq; exact Nat.le_refl _); have hbn5 : Bx W5 (w.heap.size + 2) ({ m with sp := p1, sc := c1, ep := p2, ec := c2, gp := p3, gc := c3 } : Mt) := (hB5.block _ (by have := TW.out.sz; omega)).trans TW.out.bn; have hcn5 := hbn5.c 26 _ rfl; have hfn5 : W5.frozen? ⟨w.heap.size + 2, 26, none⟩ = false := frozen_bx hbn5)
  have TR : Hid (TkR w W (W5.setCell ⟨w.heap.size + 2, 26, none⟩ (.slice (some ⟨g4, 0, none⟩) m.tn c4)) m ({ m with sp := p1, sc := c1, ep := p2, ec := c2, gp := p3, gc := c3, tp := some ⟨g4, 0, none⟩, tc := c4 } : Mt) g4 c4 0 T) := by
    have st := (Stay.of (n := w.heap.size + 2) hB5).set 26 (.slice (some ⟨g4, 0, none⟩) m.tn c4)
    refine ⟨TW.out.stay st (bx_set hbn5 rfl), st, T, htn.out, ?_, ?_, fun _ _ => rfl⟩
    · exact ho5.kept (row := some (w.heap.size + 2)) ((Stay.refl _ _).set _ _).grown (.inr (by have := (ho5.lt g4 rfl).1; have := TW.out.sz; simp [Value.ownBlock]; omega))
    · intro i x y hx hy; rw [hx] at hy; cases hy; exact ⟨rfl, rfl, rfl, fun h => by omega⟩
  have HSZ : Hid (w.heap.size + 3 ≤ W.heap.size) := TW.out.sz
  clear TW ho5 hg5 ha5 hB5 hbn5 hcn5 hfn5 x26
  generalize W5.setCell ⟨w.heap.size + 2, 26, none⟩ (.slice (some ⟨g4, 0, none⟩) m.tn c4) = W6 at TR ⊢
  go_wp2
  go_loopw [4] (fun i wr => ∃ k : Nat, k ≤ m.tn ∧ i = .int .i64 k ∧ Hid (TkR w W wr m ({ m with sp := p1, sc := c1, ep := p2, ec := c2, gp := p3, gc := c3, tp := some ⟨g4, 0, none⟩, tc := c4 } : Mt) g4 c4 k T)) (fun i _ => m.tn - (intOf i).toNat)
  case atStart => exact ⟨0, Nat.zero_le _, rfl, TR⟩
  case round =>
    obtain ⟨k, hk, rfl, HR⟩ := hrel
    clear TR
    have z26 := HR.out.1.bn.c 26 (.slice (some ⟨g4, 0, none⟩) m.tn c4) rfl
    have hgl : W.heap.size ≤ g4 ∧ g4 < wr.heap.size := by obtain ⟨_, _, T9, _, ho9, _⟩ := HR.out; exact ho9.lt g4 rfl
    have hkb : m.tn ≤ 2199023255552 := by have := y4.out; omega
    by_cases hlt : k < m.tn
    · obtain ⟨y, hy⟩ : ∃ y, T[k]? = some y := ⟨T[k]'(by have := htn.out; omega), List.getElem?_eq_getElem _⟩
      obtain ⟨ba, oa, hpa, hba, ca⟩ := t1.out.get hy
      obtain ⟨zs, hzl, hV⟩ := tV.out k y hy
      have ld1 : ∀ u, Stay g4 wr u → u.cell? ⟨w.heap.size + 2, 26, none⟩ = some (.slice (some ⟨g4, 0, none⟩) m.tn c4) := fun u hu => (hu.cell (by have := HR.out.1.sz; omega) (by have := HSZ.out; omega)).trans z26
      have ld2 : ∀ u, Stay g4 wr u → u.cell? ⟨w.heap.size, 26, none⟩ = some (.slice (some ⟨ba, oa, none⟩) m.tn m.tc) := fun u hu => (hu.cell (by have := HR.out.1.sz; omega) (by have := HSZ.out; omega)).trans (by rw [← hpa]; exact HR.out.1.bx.c 26 _ rfl)
      have ld3 : ∀ u, Stay g4 wr u → u.cell? ⟨ba, oa + k * 4 + 2, none⟩ = some (.slice y.p y.l y.c) := fun u hu => (hu.cell (by have := HR.out.1.sz; omega) (by have := HSZ.out; omega)).trans ((HR.out.1.bel.cell (p := ⟨ba, oa + k * 4 + 2, none⟩) hba).trans (ca 2 _ rfl))
      have k0 : (0 : Int) ≤ (k : Int) := by omega
      have k1 : (k : Int) < (m.tn : Int) := by omega
      have HV : Hid (View wr (.slice y.p y.l y.c) zs) := hV.kept HR.out.1.bel.block
      have hS0 : Stay g4 wr wr.drew := Stay.of (Below.refl _ _).drew
      clear ca hpa
      go_upto_region 9 with fail
      refine wp_region_noPanic ?_
      refine wp_region_held_drew (S := fun u => Stay g4 wr u) (by kernel_rfl) (hS0) (fun _ => ?_)
      refine takeH_at 0 54 (.pointer (some ⟨w.heap.size + 2, 26, none⟩)) rfl rfl (by kernel_rfl) (by kernel_rfl) (by kernel_rfl) (fun _ _ _ h => h) (hS0) (Or.inl ⟨by rfl, fun w' hS' => by go_simp⟩) ?_
      simp only [List.setIfInBounds_toArray, List.set_cons_zero, List.set_cons_succ]
      refine takeH_at 1 55 (.slice (some ⟨g4, 0, none⟩) m.tn c4) rfl rfl (by kernel_rfl) (by kernel_rfl) (by kernel_rfl) (fun _ _ _ h => h) (hS0) (Or.inl ⟨by rfl, fun w' hS' => by have q := ld1 w' hS'; go_simp⟩) ?_
      simp only [List.setIfInBounds_toArray, List.set_cons_zero, List.set_cons_succ]
      refine takeH_at 2 56 (.int .i64 (k : Nat)) rfl rfl (by kernel_rfl) (by kernel_rfl) (by kernel_rfl) (fun _ _ _ h => h) (hS0) (Or.inl ⟨by rfl, fun w' hS' => by go_simp⟩) ?_
      simp only [List.setIfInBounds_toArray, List.set_cons_zero, List.set_cons_succ]
      refine takeH_at 3 57 (.pointer (some ⟨w.heap.size, 26, none⟩)) rfl rfl (by kernel_rfl) (by kernel_rfl) (by kernel_rfl) (fun _ _ _ h => h) (hS0) (Or.inl ⟨by rfl, fun w' hS' => by go_simp⟩) ?_
      simp only [List.setIfInBounds_toArray, List.set_cons_zero, List.set_cons_succ]
      refine takeH_at 4 58 (.slice (some ⟨ba, oa, none⟩) m.tn m.tc) rfl rfl (by kernel_rfl) (by kernel_rfl) (by kernel_rfl) (fun _ _ _ h => h) (hS0) (Or.inl ⟨by rfl, fun w' hS' => by have q := ld2 w' hS'; go_simp⟩) ?_
      simp only [List.setIfInBounds_toArray, List.set_cons_zero, List.set_cons_succ]
      refine takeH_at 5 59 (.int .i64 (k : Nat)) rfl rfl (by kernel_rfl) (by kernel_rfl) (by kernel_rfl) (fun _ _ _ h => h) (hS0) (Or.inl ⟨by rfl, fun w' hS' => by go_simp⟩) ?_
      simp only [List.setIfInBounds_toArray, List.set_cons_zero, List.set_cons_succ]
      refine takeH_at 6 60 (.pointer (some ⟨ba, oa + k * 4, none⟩)) rfl rfl (by kernel_rfl) (by kernel_rfl) (by kernel_rfl) (fun _ _ _ h => h) (hS0) (Or.inl ⟨by rfl, fun w' hS' => by go_simp⟩) ?_
      simp only [List.setIfInBounds_toArray, List.set_cons_zero, List.set_cons_succ]
      refine takeH_at 7 61 (.pointer (some ⟨ba, oa + k * 4 + 2, none⟩)) rfl rfl (by kernel_rfl) (by kernel_rfl) (by kernel_rfl) (fun _ _ _ h => h) (hS0) (Or.inl ⟨by rfl, fun w' hS' => by go_simp⟩) ?_
      simp only [List.setIfInBounds_toArray, List.set_cons_zero, List.set_cons_succ]
      refine takeH_at 8 62 (.slice y.p y.l y.c) rfl rfl (by kernel_rfl) (by kernel_rfl) (by kernel_rfl) (fun _ _ _ h => h) (hS0) (Or.inl ⟨by rfl, fun w' hS' => by have q := ld3 w' hS'; go_simp⟩) ?_
      simp only [List.setIfInBounds_toArray, List.set_cons_zero, List.set_cons_succ]
      refine wpAnyH_ready (rs := [9]) (by kernel_rfl) (by simp) ?_
      refine AllReadyH.cons rfl (fun K hK => ?_) AllReadyH.nil
      go_simp
      refine (copyI_any (.slice y.p y.l y.c) zs wr.drew hzl (View.kept HV.out (fun q hq => rfl))).mono ?_
      rintro e1 wq ⟨vq, rfl, hMq, hBq⟩
      have hBq2 : Below wr.heap.size wr wq := ⟨hBq.os, hBq.tape, hBq.output, hBq.size, hBq.block⟩
      have hMq2 : Marked wr.heap.size wq vq zs := hMq
      obtain ⟨pg, pc, rfl, hpo⟩ := hMq
      go_wp2_with fail
      refine hK.out _ _ (Stay.of hBq2) (fun _ => ?_)
      clear hK K
      try simp only [Act.put, List.setIfInBounds_toArray, List.set_cons_zero, List.set_cons_succ]
      refine takeH_at 10 64 (.pointer (some ⟨g4, k * 4, none⟩)) rfl rfl (by kernel_rfl) (by kernel_rfl) (by kernel_rfl) (fun _ _ _ h => h) ((Stay.of hBq2)) (Or.inl ⟨by rfl, fun w' hS' => by go_simp⟩) ?_
      simp only [List.setIfInBounds_toArray, List.set_cons_zero, List.set_cons_succ]
      refine takeH_at 11 65 (.pointer (some ⟨g4, k * 4 + 2, none⟩)) rfl rfl (by kernel_rfl) (by kernel_rfl) (by kernel_rfl) (fun _ _ _ h => h) ((Stay.of hBq2)) (Or.inl ⟨by rfl, fun w' hS' => by go_simp⟩) ?_
      simp only [List.setIfInBounds_toArray, List.set_cons_zero, List.set_cons_succ]
      have hoq : wq.ownsRow W.heap.size 45 4 (.slice (some ⟨g4, 0, none⟩) m.tn c4) m.tn _ := own_keep HR.out.2.2.choose_spec.2.1 hBq2
      obtain ⟨vc, hvc⟩ : ∃ vc, wq.cell? ⟨g4, k * 4 + 2, none⟩ = some vc := by
        have hq := hoq.cellAt (k * 4 + 2) (by omega)
        rw [List.getElem?_eq_getElem (by rw [hoq.1]; omega)] at hq
        exact ⟨_, hq⟩
      have hfc : wq.frozen? ⟨g4, k * 4 + 2, none⟩ = false := hoq.frozenAt _
      refine wpAnyH_ready (rs := [12]) (by kernel_rfl) (by simp) ?_
      refine AllReadyH.cons rfl (fun K hK => ?_) AllReadyH.nil
      go_simp
      refine hK.out _ _ ((Stay.of hBq2).set _ _) (fun _ => ?_)
      clear hK K
      try simp only [Act.put, List.setIfInBounds_toArray, List.set_cons_zero, List.set_cons_succ]
      refine wpAnyH_done (by kernel_rfl) ?_ _
      refine NoPanic.normal ?_
      have HR2 : Hid (TkR w W (wq.setCell ⟨g4, k * 4 + 2, none⟩ (.slice (some ⟨pg, 0, none⟩) zs.length pc)) m ({ m with sp := p1, sc := c1, ep := p2, ec := c2, gp := p3, gc := c3, tp := some ⟨g4, 0, none⟩, tc := c4 } : Mt) g4 c4 (k + 1) T) := HR.out.step hy hBq2 hMq2 hV HSZ.out
      clear HR hMq2 hpo hoq hvc hfc hBq hBq2 HV ld1 ld2 ld3 hS0 z26 hy hV
      go_wp2
      go_roundw
      case rel => exact ⟨k + 1, by omega, by go_num, HR2⟩
      case measure => simp [intOf]; omega
    · obtain rfl : k = m.tn := by omega
      clear hk hlt
      obtain ⟨TWx, STx, T9, hT9, ho9, hC9, _⟩ := HR.out
      have TW : Hid (Twn w wr m ({ m with sp := p1, sc := c1, ep := p2, ec := c2, gp := p3, gc := c3, tp := some ⟨g4, 0, none⟩, tc := c4 } : Mt)) := TWx
      have HST : Hid (Stay (w.heap.size + 2) W wr) := STx
      have HO : Hid (wr.ownsRow W.heap.size 45 4 (.slice (some ⟨g4, 0, none⟩) m.tn c4) m.tn (T9.flatMap tkL) ∧ T9.length = m.tn ∧ TkC g4 w wr m.tn T9 T) := ⟨ho9, hT9, hC9⟩
      clear TWx STx hT9 ho9 hC9 HR
      have hld0 : wr.cell? ⟨w.heap.size, 26, none⟩ = some (.slice m.tp m.tn m.tc) := TW.out.bx.c 26 _ rfl
      have hld : ∀ u : World, u.cell? ⟨w.heap.size, 26, none⟩ = some (.slice m.tp m.tn m.tc) → u.cell? ⟨w.heap.size, 26, none⟩ = some (.slice m.tp m.tn m.tc) := fun u hu => hu
      have hSB : ∀ u, Below wr.heap.size wr u → u.cell? ⟨w.heap.size, 26, none⟩ = some (.slice m.tp m.tn m.tc) := fun u hu => (hu.cell (p := ⟨w.heap.size, 26, none⟩) (by have := TW.out.sz; show w.heap.size < wr.heap.size; omega)).trans hld0
      have hB0 : Below wr.heap.size wr wr.drew := (Below.refl _ _).drew
      have hS0 := hSB _ hB0
      have hc0 : (0 : Int) ≤ ((m.tn : Nat) : Int) := by omega
      go_upto_region 10 with fail
      go_cut [] from 5 (fun wx => ∃ p4 cc4 T4, Hid (Twn w wx m ({ m with sp := p1, sc := c1, ep := p2, ec := c2, gp := p3, gc := c3, tp := p4, tc := cc4 } : Mt) ∧ Stay (w.heap.size + 2) W wx ∧ RV tkL 4 wx p4 T4 ∧ T4.length = m.tn ∧ Mk wx p4 m.tn cc4 4 (.int .i64 (-77)) ∧ TkW (w.heap.size + 2) w wx T4 T ∧ Ls (w.heap.size + 2) tkL 4 (.int .i64 (-77)) wx p4 m.tn cc4 T4))
      case first =>
        refine wp_region_noPanic ?_
        refine wp_region_held_drew (S := fun u => u.cell? ⟨w.heap.size, 26, none⟩ = some (.slice m.tp m.tn m.tc)) (by kernel_rfl) (hS0) (fun _ => ?_)
        refine takeH_at 0 66 (.pointer (some ⟨w.heap.size + 2, 26, none⟩)) rfl rfl (by kernel_rfl) (by kernel_rfl) (by kernel_rfl) (fun _ _ _ h => h) (hS0) (Or.inl ⟨by rfl, fun w' hS' => by go_simp⟩) ?_
        simp only [List.setIfInBounds_toArray, List.set_cons_zero, List.set_cons_succ]
        refine takeH_at 2 68 (.agg #[.int .i64 (-77), .string ⟨#[]⟩, .slice none 0 0, .string ⟨#[]⟩]) rfl rfl (by kernel_rfl) (by kernel_rfl) (by kernel_rfl) (fun _ _ _ h => h) (hS0) (Or.inl ⟨by rfl, fun w' hS' => by go_simp⟩) ?_
        simp only [List.setIfInBounds_toArray, List.set_cons_zero, List.set_cons_succ]
        refine takeH_at 5 71 (.pointer (some ⟨w.heap.size, 26, none⟩)) rfl rfl (by kernel_rfl) (by kernel_rfl) (by kernel_rfl) (fun _ _ _ h => h) (hS0) (Or.inl ⟨by rfl, fun w' hS' => by go_simp⟩) ?_
        simp only [List.setIfInBounds_toArray, List.set_cons_zero, List.set_cons_succ]
        refine takeH_at 6 72 (.slice m.tp m.tn m.tc) rfl rfl (by kernel_rfl) (by kernel_rfl) (by kernel_rfl) (fun _ _ _ h => h) (hS0) (Or.inl ⟨by rfl, fun w' hS' => by have q := hld w' hS'; go_simp⟩) ?_
        simp only [List.setIfInBounds_toArray, List.set_cons_zero, List.set_cons_succ]
        refine takeH_at 7 73 (.int .i64 (m.tn : Nat)) rfl rfl (by kernel_rfl) (by kernel_rfl) (by kernel_rfl) (fun _ _ _ h => h) (hS0) (Or.inl ⟨by rfl, fun w' hS' => by go_simp⟩) ?_
        simp only [List.setIfInBounds_toArray, List.set_cons_zero, List.set_cons_succ]
        refine wpAnyH_ready (rs := [1, 3]) (by kernel_rfl) (by simp) ?_
        refine AllReadyH.cons rfl (fun K hK => ?_) (AllReadyH.cons rfl (fun K hK => ?_) AllReadyH.nil)
        · skip
          have hbx : Bx wr.drew (w.heap.size + 2) ({ m with sp := p1, sc := c1, ep := p2, ec := c2, gp := p3, gc := c3, tp := some ⟨g4, 0, none⟩, tc := c4 } : Mt) := ((hB0).block _ (by have := TW.out.sz; omega)).trans TW.out.bn
          have hcx := hbx.c 26 (.slice (some ⟨g4, 0, none⟩) m.tn c4) rfl
          refine step_load1 rfl 67 rfl 34 (.tmp 66) rfl (.pointer (some ⟨w.heap.size + 2, 26, none⟩)) (.slice (some ⟨g4, 0, none⟩) m.tn c4) rfl (by go_simp) ?_
          refine hK.out _ _ (hSB _ (hB0)) (fun _ => ?_)
          clear hK K hcx hbx
          simp only [Act.put, List.setIfInBounds_toArray, List.set_cons_zero, List.set_cons_succ]
          refine wpAnyH_ready (rs := [3]) (by kernel_rfl) (by simp) ?_
          refine AllReadyH.cons rfl (fun K hK => ?_) AllReadyH.nil
          refine step_bs rfl 69 rfl 34 45 1 _ rfl #[(0, .agg #[.int .i64 (-77), .string ⟨#[]⟩, .slice none 0 0, .string ⟨#[]⟩])] (by simp only [List.map_toArray, List.map_cons, List.map_nil]; rfl) (tkL mk45).toArray (fun u => bs34_1 u) ?_
          intro wz1 bk1 hb1 hbl1 he1 hz1
          have hB1 : Below wr.heap.size wr wz1 := (hB0).trans (hbl1.mono ((hB0).size))
          refine hK.out _ _ (hSB _ hB1) (fun _ => ?_)
          clear hK K
          simp only [Act.put, List.setIfInBounds_toArray, List.set_cons_zero, List.set_cons_succ]
          refine wpAnyH_ready (rs := [4]) (by kernel_rfl) (by simp) ?_
          refine AllReadyH.cons rfl (fun K hK => ?_) AllReadyH.nil
          have hoC : wz1.ownsRow W.heap.size 45 4 (.slice (some ⟨g4, 0, none⟩) m.tn c4) m.tn (T9.flatMap tkL) := own_keep HO.out.1 hB1
          refine step_append_rv rfl 70 rfl (.tmp 67) (.tmp 69) 34 rfl 45 i45 _ 4 64 Try.underlying34 Hi45.out.1 Hi45.out.2.1 Hi45.out.2.2.1 Hi45.out.2.2.2 rfl (by decide) tkL_len tkL_one W.heap.size g4 m.tn c4 (T9.flatMap tkL) rfl hoC (some ⟨bk1, 0, none⟩) 1 1 [mk45] rfl rfl (rv_block hb1) (by intro h; cases h) (by have := y4.out; unfold maxLen; omega) (by have := y4.out; omega) (Nat.le_trans HST.out.size (hB1).size) ?_
          intro gz4 kc4 wz4 ho4 hg4 ha4
          have st4 : Stay g4 wr wz4 := ⟨hg4.os.trans (hB1).os, hg4.tape.trans (hB1).tape, hg4.output.trans (hB1).output, Nat.le_trans (hB1).size hg4.size, fun q hq hn => (hg4.block q (Nat.lt_of_lt_of_le hq (hB1).size) (by simpa using hn)).trans ((hB1).block q hq)⟩
          have sn4 : Stay (w.heap.size + 2) W wz4 := ⟨st4.os.trans HST.out.os, st4.tape.trans HST.out.tape, st4.output.trans HST.out.output, Nat.le_trans HST.out.size st4.size, fun q hq hn => (st4.block q (Nat.lt_of_lt_of_le hq HST.out.size) (by omega)).trans (HST.out.block q hq hn)⟩
          have hS4 : wz4.cell? ⟨w.heap.size, 26, none⟩ = some (.slice m.tp m.tn m.tc) := (st4.cell (by have := TW.out.sz; omega) (by have := HSZ.out; omega)).trans hld0
          refine hK.out _ _ hS4 (fun _ => ?_)
          clear hK K
          simp only [Act.put, List.setIfInBounds_toArray, List.set_cons_zero, List.set_cons_succ]
          have hcp : m.tn + 1 ≤ kc4 := by rcases ho4.2 with ⟨h, _⟩ | ⟨g9, c9, cur9, h9, _, _, h8, _⟩; cases h; cases h9; exact h8
          have hci : ((m.tn : Nat) : Int) ≤ ((kc4 : Nat) : Int) := by omega
          refine takeH_at 8 74 (.slice (some ⟨gz4, 0, none⟩) m.tn kc4) rfl rfl (by kernel_rfl) (by kernel_rfl) (by kernel_rfl) (fun _ _ _ h => h) (hS4) (Or.inl ⟨by rfl, fun w' hS' => by go_simp⟩) ?_
          simp only [List.setIfInBounds_toArray, List.set_cons_zero, List.set_cons_succ]
          refine takeH_at 9 75 (.pointer (some ⟨w.heap.size + 2, 26, none⟩)) rfl rfl (by kernel_rfl) (by kernel_rfl) (by kernel_rfl) (fun _ _ _ h => h) (hS4) (Or.inl ⟨by rfl, fun w' hS' => by go_simp⟩) ?_
          simp only [List.setIfInBounds_toArray, List.set_cons_zero, List.set_cons_succ]
          refine wpAnyH_ready (rs := [10]) (by kernel_rfl) (by simp) ?_
          refine AllReadyH.cons rfl (fun K hK => ?_) AllReadyH.nil
          have hbn : Bx wz4 (w.heap.size + 2) ({ m with sp := p1, sc := c1, ep := p2, ec := c2, gp := p3, gc := c3, tp := some ⟨g4, 0, none⟩, tc := c4 } : Mt) := (st4.block _ (by have := TW.out.sz; omega) (by have := HSZ.out; omega)).trans TW.out.bn
          have hcn := hbn.c 26 _ rfl
          have hfn : wz4.frozen? ⟨w.heap.size + 2, 26, none⟩ = false := frozen_bx hbn
          go_simp
          have st5 : Stay (w.heap.size + 2) wz4 (wz4.setCell ⟨w.heap.size + 2, 26, none⟩ (.slice (some ⟨gz4, 0, none⟩) m.tn kc4)) := (Stay.refl _ _).set _ _
          refine hK.out _ _ ((st5.cell (by have := TW.out.sz; have := st4.size; omega) (by omega)).trans hS4) (fun _ => ?_)
          clear hK K
          try simp only [Act.put, List.setIfInBounds_toArray, List.set_cons_zero, List.set_cons_succ]
          refine wpAnyH_done (by kernel_rfl) ?_ _
          refine NoPanic.normal ?_
          go_wp2_with fail
          go_meet
          case rel =>
            have hg4l := ho4.lt gz4 rfl
            have ls := (Ls.own (n := w.heap.size + 2) tkL_len HO.out.2.1 ho4 (by have := HSZ.out; omega)).stay st5
            refine ⟨some ⟨gz4, 0, none⟩, kc4, T9, (show Hid (_ ∧ _) from ⟨?_, sn4.trans st5, ls.1, HO.out.2.1, ls.2.1, ?_, ls⟩)⟩
            · have t4 : Twn w wz4 m ({ m with sp := p1, sc := c1, ep := p2, ec := c2, gp := p3, gc := c3, tp := some ⟨g4, 0, none⟩, tc := c4 } : Mt) := ⟨(st4.block _ (by have := TW.out.sz; omega) (by have := HSZ.out; omega)).trans TW.out.bx, (st4.block _ (by have := TW.out.sz; omega) (by have := HSZ.out; omega)).trans TW.out.rs, hbn, TW.out.bel.trans (st4.below (by have := HSZ.out; omega) (by have := TW.out.sz; omega)), Nat.le_trans TW.out.sz st4.size⟩
              exact t4.stay st5 (bx_set hbn rfl)
            · intro i x y hx hy
              obtain ⟨a, b, c, d⟩ := HO.out.2.2 i x y hx hy
              obtain ⟨zs, m1, v1⟩ := d (by have := (List.getElem?_eq_some_iff.1 hx).1; have := HO.out.2.1; omega)
              have m2 : Marked (g4 + 1) wz4 (.slice x.p x.l x.c) zs := m1.stay st4 (by omega)
              have m3 := m2.stay st5 (by have := HSZ.out; omega)
              obtain ⟨pg, pc, pe, po⟩ := m3
              exact ⟨a, b, c, zs, ⟨pg, pc, pe, ownsRow_below po (by have := HSZ.out; omega)⟩, v1⟩
        · skip
          refine step_bs rfl 69 rfl 34 45 1 _ rfl #[(0, .agg #[.int .i64 (-77), .string ⟨#[]⟩, .slice none 0 0, .string ⟨#[]⟩])] (by simp only [List.map_toArray, List.map_cons, List.map_nil]; rfl) (tkL mk45).toArray (fun u => bs34_1 u) ?_
          intro wz1 bk1 hb1 hbl1 he1 hz1
          have hB1 : Below wr.heap.size wr wz1 := (hB0).trans (hbl1.mono ((hB0).size))
          refine hK.out _ _ (hSB _ hB1) (fun _ => ?_)
          clear hK K
          simp only [Act.put, List.setIfInBounds_toArray, List.set_cons_zero, List.set_cons_succ]
          refine wpAnyH_ready (rs := [1]) (by kernel_rfl) (by simp) ?_
          refine AllReadyH.cons rfl (fun K hK => ?_) AllReadyH.nil
          have hbx : Bx wz1 (w.heap.size + 2) ({ m with sp := p1, sc := c1, ep := p2, ec := c2, gp := p3, gc := c3, tp := some ⟨g4, 0, none⟩, tc := c4 } : Mt) := ((hB1).block _ (by have := TW.out.sz; omega)).trans TW.out.bn
          have hcx := hbx.c 26 (.slice (some ⟨g4, 0, none⟩) m.tn c4) rfl
          refine step_load1 rfl 67 rfl 34 (.tmp 66) rfl (.pointer (some ⟨w.heap.size + 2, 26, none⟩)) (.slice (some ⟨g4, 0, none⟩) m.tn c4) rfl (by go_simp) ?_
          refine hK.out _ _ (hSB _ (hB1)) (fun _ => ?_)
          clear hK K hcx hbx
          simp only [Act.put, List.setIfInBounds_toArray, List.set_cons_zero, List.set_cons_succ]
          refine wpAnyH_ready (rs := [4]) (by kernel_rfl) (by simp) ?_
          refine AllReadyH.cons rfl (fun K hK => ?_) AllReadyH.nil
          have hoC : wz1.ownsRow W.heap.size 45 4 (.slice (some ⟨g4, 0, none⟩) m.tn c4) m.tn (T9.flatMap tkL) := own_keep HO.out.1 hB1
          refine step_append_rv rfl 70 rfl (.tmp 67) (.tmp 69) 34 rfl 45 i45 _ 4 64 Try.underlying34 Hi45.out.1 Hi45.out.2.1 Hi45.out.2.2.1 Hi45.out.2.2.2 rfl (by decide) tkL_len tkL_one W.heap.size g4 m.tn c4 (T9.flatMap tkL) rfl hoC (some ⟨bk1, 0, none⟩) 1 1 [mk45] rfl rfl (rv_block hb1) (by intro h; cases h) (by have := y4.out; unfold maxLen; omega) (by have := y4.out; omega) (Nat.le_trans HST.out.size (hB1).size) ?_
          intro gz4 kc4 wz4 ho4 hg4 ha4
          have st4 : Stay g4 wr wz4 := ⟨hg4.os.trans (hB1).os, hg4.tape.trans (hB1).tape, hg4.output.trans (hB1).output, Nat.le_trans (hB1).size hg4.size, fun q hq hn => (hg4.block q (Nat.lt_of_lt_of_le hq (hB1).size) (by simpa using hn)).trans ((hB1).block q hq)⟩
          have sn4 : Stay (w.heap.size + 2) W wz4 := ⟨st4.os.trans HST.out.os, st4.tape.trans HST.out.tape, st4.output.trans HST.out.output, Nat.le_trans HST.out.size st4.size, fun q hq hn => (st4.block q (Nat.lt_of_lt_of_le hq HST.out.size) (by omega)).trans (HST.out.block q hq hn)⟩
          have hS4 : wz4.cell? ⟨w.heap.size, 26, none⟩ = some (.slice m.tp m.tn m.tc) := (st4.cell (by have := TW.out.sz; omega) (by have := HSZ.out; omega)).trans hld0
          refine hK.out _ _ hS4 (fun _ => ?_)
          clear hK K
          simp only [Act.put, List.setIfInBounds_toArray, List.set_cons_zero, List.set_cons_succ]
          have hcp : m.tn + 1 ≤ kc4 := by rcases ho4.2 with ⟨h, _⟩ | ⟨g9, c9, cur9, h9, _, _, h8, _⟩; cases h; cases h9; exact h8
          have hci : ((m.tn : Nat) : Int) ≤ ((kc4 : Nat) : Int) := by omega
          refine takeH_at 8 74 (.slice (some ⟨gz4, 0, none⟩) m.tn kc4) rfl rfl (by kernel_rfl) (by kernel_rfl) (by kernel_rfl) (fun _ _ _ h => h) (hS4) (Or.inl ⟨by rfl, fun w' hS' => by go_simp⟩) ?_
          simp only [List.setIfInBounds_toArray, List.set_cons_zero, List.set_cons_succ]
          refine takeH_at 9 75 (.pointer (some ⟨w.heap.size + 2, 26, none⟩)) rfl rfl (by kernel_rfl) (by kernel_rfl) (by kernel_rfl) (fun _ _ _ h => h) (hS4) (Or.inl ⟨by rfl, fun w' hS' => by go_simp⟩) ?_
          simp only [List.setIfInBounds_toArray, List.set_cons_zero, List.set_cons_succ]
          refine wpAnyH_ready (rs := [10]) (by kernel_rfl) (by simp) ?_
          refine AllReadyH.cons rfl (fun K hK => ?_) AllReadyH.nil
          have hbn : Bx wz4 (w.heap.size + 2) ({ m with sp := p1, sc := c1, ep := p2, ec := c2, gp := p3, gc := c3, tp := some ⟨g4, 0, none⟩, tc := c4 } : Mt) := (st4.block _ (by have := TW.out.sz; omega) (by have := HSZ.out; omega)).trans TW.out.bn
          have hcn := hbn.c 26 _ rfl
          have hfn : wz4.frozen? ⟨w.heap.size + 2, 26, none⟩ = false := frozen_bx hbn
          go_simp
          have st5 : Stay (w.heap.size + 2) wz4 (wz4.setCell ⟨w.heap.size + 2, 26, none⟩ (.slice (some ⟨gz4, 0, none⟩) m.tn kc4)) := (Stay.refl _ _).set _ _
          refine hK.out _ _ ((st5.cell (by have := TW.out.sz; have := st4.size; omega) (by omega)).trans hS4) (fun _ => ?_)
          clear hK K
          try simp only [Act.put, List.setIfInBounds_toArray, List.set_cons_zero, List.set_cons_succ]
          refine wpAnyH_done (by kernel_rfl) ?_ _
          refine NoPanic.normal ?_
          go_wp2_with fail
          go_meet
          case rel =>
            have hg4l := ho4.lt gz4 rfl
            have ls := (Ls.own (n := w.heap.size + 2) tkL_len HO.out.2.1 ho4 (by have := HSZ.out; omega)).stay st5
            refine ⟨some ⟨gz4, 0, none⟩, kc4, T9, (show Hid (_ ∧ _) from ⟨?_, sn4.trans st5, ls.1, HO.out.2.1, ls.2.1, ?_, ls⟩)⟩
            · have t4 : Twn w wz4 m ({ m with sp := p1, sc := c1, ep := p2, ec := c2, gp := p3, gc := c3, tp := some ⟨g4, 0, none⟩, tc := c4 } : Mt) := ⟨(st4.block _ (by have := TW.out.sz; omega) (by have := HSZ.out; omega)).trans TW.out.bx, (st4.block _ (by have := TW.out.sz; omega) (by have := HSZ.out; omega)).trans TW.out.rs, hbn, TW.out.bel.trans (st4.below (by have := HSZ.out; omega) (by have := TW.out.sz; omega)), Nat.le_trans TW.out.sz st4.size⟩
              exact t4.stay st5 (bx_set hbn rfl)
            · intro i x y hx hy
              obtain ⟨a, b, c, d⟩ := HO.out.2.2 i x y hx hy
              obtain ⟨zs, m1, v1⟩ := d (by have := (List.getElem?_eq_some_iff.1 hx).1; have := HO.out.2.1; omega)
              have m2 : Marked (g4 + 1) wz4 (.slice x.p x.l x.c) zs := m1.stay st4 (by omega)
              have m3 := m2.stay st5 (by have := HSZ.out; omega)
              obtain ⟨pg, pc, pe, po⟩ := m3
              exact ⟨a, b, c, zs, ⟨pg, pc, pe, ownsRow_below po (by have := HSZ.out; omega)⟩, v1⟩
      obtain ⟨p4, cc4, T4, HC⟩ := hcut
      have TX : Hid (Twn w wc m ({ m with sp := p1, sc := c1, ep := p2, ec := c2, gp := p3, gc := c3, tp := p4, tc := cc4 } : Mt)) := HC.out.1
      have HF : Hid (Stay (w.heap.size + 2) W wc ∧ T4.length = m.tn ∧ Mk wc p4 m.tn cc4 4 (.int .i64 (-77)) ∧ TkW (w.heap.size + 2) w wc T4 T ∧ Ls (w.heap.size + 2) tkL 4 (.int .i64 (-77)) wc p4 m.tn cc4 T4) := ⟨HC.out.2.1, HC.out.2.2.2⟩
      clear HC TW HST HO hld hld0 hSB hB0 hS0
      have R9 : Hid (wc.rangeAt (w.heap.size + 2) 0 (mtC ({ m with sp := p1, sc := c1, ep := p2, ec := c2, gp := p3, gc := c3, tp := p4, tc := cc4 } : Mt)).toList) := fun j u hj => by
        rw [Nat.zero_add]
        exact TX.out.bn.c j u (by simpa using hj)
      have RS : Hid (wc.heap[w.heap.size + 1]? = some (.cells mt0 36 (0, 0))) := TX.out.rs
      go_upto_region 99 with (first | (refine wpList_load_mid (by rfl) 36 (.tmp 3) (by rfl) (w.heap.size + 2) 0 (by rfl) (mtC ({ m with sp := p1, sc := c1, ep := p2, ec := c2, gp := p3, gc := c3, tp := p4, tc := cc4 } : Mt)).toList _ R9.out Try.underlying36 rfl (size36 _) ?_) | (refine wpList_store_box (by rfl) (.tmp 2) (.tmp 76) (by rfl) ({ m with sp := p1, sc := c1, ep := p2, ec := c2, gp := p3, gc := c3, tp := p4, tc := cc4 } : Mt) (w.heap.size + 1) mt0 (by rfl) (by rfl) RS.out rfl ?_; intro WF bnF stF))
      refine bodyPost_ret (results_cell_row (P := Try.prog) (p := 2) (ty := 36) rfl _ WF (w.heap.size + 1) 36 (mtC ({ m with sp := p1, sc := c1, ep := p2, ec := c2, gp := p3, gc := c3, tp := p4, tc := cc4 } : Mt)) (0, 0) _ rfl bnF Try.underlying36 rfl (by rw [info36s]; rfl)) rfl ?_
      have sF : ∀ b, w.heap.size + 2 ≤ b → b < wc.heap.size → WF.heap[b]? = wc.heap[b]? := fun b h1 h2 => stF.block b h2 (by omega)
      have bF : Below w.heap.size w WF := TX.out.bel.trans (stF.below (by omega) (by have := TX.out.sz; omega))
      have gF : ∀ (α : Type) (L : α → List Value) (sz : Nat) (v : Value) (p : Option Addr) (k c : Nat) (l : List α), Ls (w.heap.size + 2) L sz v wc p k c l → Ls (w.heap.size + 2) L sz v WF p k c l := fun α L sz v p k c l h => ⟨h.1.stay stF (fun b o e => by have := (h.2.2 b o e).1; omega), h.2.1.stay stF (fun b o e => ⟨(h.2.2 b o e).2, by have := (h.2.2 b o e).1; omega⟩), fun b o e => ⟨(h.2.2 b o e).1, Nat.lt_of_lt_of_le (h.2.2 b o e).2 stF.size⟩⟩
      have LT : Ls (w.heap.size + 2) tkL 4 (.int .i64 (-77)) WF p4 m.tn cc4 T4 := gF _ _ _ _ _ _ _ _ HF.out.2.2.2.2
      show TwP w m SL EL GL T _ WF
      refine ⟨⟨p1, c1, p2, c2, p3, c3, p4, cc4⟩, T4, rfl, gF _ _ _ _ _ _ _ _ (L1.out.stay HF.out.1), gF _ _ _ _ _ _ _ _ (L2.out.stay HF.out.1), gF _ _ _ _ _ _ _ _ (L3.out.stay HF.out.1), LT.1, HF.out.2.1, LT.2.1, ?_, bF⟩
      intro i x y hx hy
      obtain ⟨a, b, c, zs, m1, v1⟩ := HF.out.2.2.2.1 i x y hx hy
      have m2 : Marked (w.heap.size + 2) WF (.slice x.p x.l x.c) zs := m1.stay stF (by omega)
      obtain ⟨pg, pc, pe, po⟩ := m2
      exact ⟨a, b, c, zs, ⟨pg, pc, pe, ownsRow_below po (by omega)⟩, v1.kept bF.block⟩
end Go.Proofs.Ytchfbanehohjoaa
