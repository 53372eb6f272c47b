import Derived.Test.YtmfnhdflmnmooaaPart07
import Derived.Test.YtmfnhdflmnmooaaPart00
namespace Go.Proofs.Ytmfnhdflmnmooaa
open Go.RowKit
set_option linter.unusedVariables false
set_option linter.unusedSimpArgs false
theorem own_form {w : World} {B e sz n : Nat} {v : Value} {xs : List Value} (h : w.ownsRow B e sz v n xs) : ∃ p c, v = .slice p n c := by
  rcases h.2 with ⟨rfl, rfl⟩ | ⟨g, c, _, rfl, _⟩
  · exact ⟨_, _, rfl⟩
  · exact ⟨_, _, rfl⟩
/-- The two variables of copied. -/
structure CdS (w W : World) (n2 : Mt) : Prop where
  bx : Bx W w.heap.size n2
  rs : W.heap[w.heap.size + 1]? = some (.cells mt0 36 (0, 0))
  bel : Below w.heap.size w W
  sz : w.heap.size + 2 ≤ W.heap.size
theorem CdS.below {w W W' : World} {n2 : Mt} (h : CdS w W n2) (s : Below W.heap.size W W') : CdS w W' n2 := by
  have := h.sz
  exact ⟨h.bx.below s, (s.block _ (by omega)).trans h.rs, h.bel.trans (s.mono (by omega)), Nat.le_trans h.sz s.size⟩
theorem CdS.put {w W W' : World} {n2 n3 : Mt} (h : CdS w W n2) (s : Stay w.heap.size W W') (hn : Bx W' w.heap.size n3) : CdS w W' n3 := by
  have := h.sz
  exact ⟨hn, (s.block _ (by omega) (by omega)).trans h.rs, h.bel.trans (s.below (Nat.le_refl _) (by omega)), Nat.le_trans h.sz s.size⟩
theorem CdS.grown {w W W' : World} {n2 : Mt} {row : Option Nat} (h : CdS w W n2) (g : W.grownBy W' row) (hr : ∀ j, row = some j → w.heap.size + 2 ≤ j) : CdS w W' n2 := by
  have hs := h.sz
  have key : ∀ b, b < w.heap.size + 2 → W'.heap[b]? = W.heap[b]? := fun b hb => g.block b (by omega) (fun e => by have := hr b e.symm; omega)
  exact ⟨(key _ (by omega)).trans h.bx, (key _ (by omega)).trans h.rs, h.bel.grown g (by omega) (fun j e => by have := hr j e; omega), Nat.le_trans h.sz g.size⟩
abbrev cdM (m : Mt) (p1 : Option Addr) (c1 : Nat) (p2 : Option Addr) (c2 : Nat) (p3 : Option Addr) (c3 : Nat) (p4 : Option Addr) (c4 : Nat) : Mt := { m with sp := p1, sc := c1, ep := p2, ec := c2, gp := p3, gc := c3, tp := p4, tc := c4 }
/-- No two tokens share a list. -/
def TkD (T' : List Tk) : Prop := ∀ (i j : Nat) (x y : Tk), j < i → T'[i]? = some x → T'[j]? = some y → (Value.slice y.p y.l y.c).ownBlock = none ∨ (Value.slice y.p y.l y.c).ownBlock ≠ (Value.slice x.p x.l x.c).ownBlock
/-- Tokens between two rounds: k of them bear copies. -/
structure TkG (B : Nat) (w wr : World) (k : Nat) (T' T : List Tk) : Prop where
  old : ∀ (i : Nat), k ≤ i → T'[i]? = T[i]?
  new : ∀ (i : Nat) (x y : Tk), i < k → T'[i]? = some x → T[i]? = some y → x.n = y.n ∧ x.s = y.s ∧ x.z = y.z ∧ ∃ zs, wr.ownsRow B 3 1 (.slice x.p x.l x.c) x.l (cellsI zs) ∧ zs.length = x.l ∧ View w (.slice y.p y.l y.c) zs
  dis : ∀ (i j : Nat) (x y : Tk), j < i → i < k → T'[i]? = some x → T'[j]? = some y → (Value.slice y.p y.l y.c).ownBlock = none ∨ (Value.slice y.p y.l y.c).ownBlock ≠ (Value.slice x.p x.l x.c).ownBlock
theorem TkG.grown {B k : Nat} {w u u' : World} {T' T : List Tk} {row : Option Nat} (h : TkG B w u k T' T) (hg : u.grownBy u' row) (hr : ∀ {sz n : Nat} {v : Value} {xs : List Value}, u.ownsRow B 3 sz v n xs → v.ownBlock = none ∨ v.ownBlock ≠ row) : TkG B w u' k T' T :=
  ⟨h.old, fun i x y hi hx hy => by
    obtain ⟨a, b, c, zs, ho, hl, hv⟩ := h.new i x y hi hx hy
    exact ⟨a, b, c, zs, ho.kept hg (hr ho), hl, hv⟩, h.dis⟩
theorem TkG.below {B k : Nat} {w u u' : World} {T' T : List Tk} (h : TkG B w u k T' T) (hb : Below u.heap.size u u') : TkG B w u' k T' T := h.grown (row := none) (grown_of_below hb none) (fun {sz n v xs} _ => by cases v.ownBlock <;> simp)
/-- Between two rounds. -/
structure CdR (w wr : World) (m : Mt) (p1 : Option Addr) (c1 : Nat) (p2 : Option Addr) (c2 : Nat) (p3 : Option Addr) (c3 : Nat) (p4 : Option Addr) (c4 k : Nat) (SL : List Slo) (EL : List Epo) (GL : List (Int × Int × Int)) (T T' : List Tk) : Prop where
  s : CdS w wr (cdM m p1 c1 p2 c2 p3 c3 p4 c4)
  r : R4 (w.heap.size + 2) wr (.slice p1 m.sn c1) (.slice p2 m.en c2) (.slice p3 m.gn c3) (.slice p4 m.tn c4) m.sn m.en m.gn m.tn (SL.flatMap sloL) (EL.flatMap epoL) (GL.flatMap sgZ) (T'.flatMap tkL)
  l : T'.length = m.tn
  g : TkG (w.heap.size + 2) w wr k T' T
/-- What copied answers. -/
def CdP (w : World) (m : Mt) (SL : List Slo) (EL : List Epo) (GL : List (Int × Int × Int)) (T : List Tk) (e : Ending) (w' : World) : Prop := ∃ (p1 : Option Addr) (c1 : Nat) (p2 : Option Addr) (c2 : Nat) (p3 : Option Addr) (c3 : Nat) (p4 : Option Addr) (c4 : Nat) (T' : List Tk), e = .returned (.agg (mtC (cdM m p1 c1 p2 c2 p3 c3 p4 c4))) ∧ R4 (w.heap.size + 2) w' (.slice p1 m.sn c1) (.slice p2 m.en c2) (.slice p3 m.gn c3) (.slice p4 m.tn c4) m.sn m.en m.gn m.tn (SL.flatMap sloL) (EL.flatMap epoL) (GL.flatMap sgZ) (T'.flatMap tkL) ∧ T'.length = m.tn ∧ TkO (w.heap.size + 2) w w' T' T ∧ TkD T' ∧ Below w.heap.size w w'
theorem CdR.step {w wr u : World} {m : Mt} {p1 p2 p3 : Option Addr} {c1 c2 c3 c4 g4 k : Nat} {SL : List Slo} {EL : List Epo} {GL : List (Int × Int × Int)} {T T' : List Tk} {y : Tk} {p : Option Addr} {q cc : Nat} {zs : List Int} (h : CdR w wr m p1 c1 p2 c2 p3 c3 (some ⟨g4, 0, none⟩) c4 k SL EL GL T T') (hy : T[k]? = some y) (hB : Below wr.heap.size wr u) (ho : u.ownsRow wr.heap.size 3 1 (.slice p q cc) q (cellsI zs)) (hz : zs.length = q) (hV : View w (.slice y.p y.l y.c) zs) : CdR w (u.setCell ⟨g4, k * 4 + 2, none⟩ (.slice p q cc)) m p1 c1 p2 c2 p3 c3 (some ⟨g4, 0, none⟩) c4 (k + 1) SL EL GL T (T'.set k { y with p := p, l := q, c := cc }) := by
  have R1 := h.r.below hB
  have S1 := h.s.below hB
  have G1 := h.g.below hB
  have hgl := R1.o4.lt g4 rfl
  have hxy : T'[k]? = some y := (h.g.old k (Nat.le_refl _)).trans hy
  have hkl : k < T'.length := (List.getElem?_eq_some_iff.1 hxy).1
  have st : Stay g4 u (u.setCell ⟨g4, k * 4 + 2, none⟩ (.slice p q cc)) := (Stay.refl _ _).set _ _
  have ap : ∀ {e sz n : Nat} {v : Value} {xs : List Value}, u.ownsRow (w.heap.size + 2) e sz v n xs → e ≠ 61 → v.ownBlock = none ∨ v.ownBlock ≠ some g4 := fun ho he => own_apart ho R1.o4 he
  have ap2 : ∀ {e sz n : Nat} {v : Value} {xs : List Value}, u.ownsRow (w.heap.size + 2) e sz v n xs → e ≠ 61 → v.ownBlock ≠ some g4 := fun ho he => by
    rcases ap ho he with q | q
    · rw [q]; simp
    · exact q
  have ho' : u.ownsRow (w.heap.size + 2) 3 1 (.slice p q cc) q (cellsI zs) := ownsRow_below ho h.s.sz
  have G2 := G1.grown (grown_of_stay st) (fun ho => ap ho (by decide))
  have far : ∀ (j : Nat) (y' : Tk), j < k → T'[j]? = some y' → (Value.slice y'.p y'.l y'.c).ownBlock = none ∨ (Value.slice y'.p y'.l y'.c).ownBlock ≠ (Value.slice p q cc).ownBlock := by
    intro j y' hj hyj
    obtain ⟨yt, hyt⟩ : ∃ yt, T[j]? = some yt := by
      by_cases c : j < T.length
      · exact ⟨T[j], List.getElem?_eq_getElem c⟩
      · have := (List.getElem?_eq_some_iff.1 hy).1
        omega
    obtain ⟨_, _, _, zs', ho2, _⟩ := h.g.new j y' yt hj hyj hyt
    cases hb : (Value.slice y'.p y'.l y'.c).ownBlock with
    | none => exact .inl rfl
    | some b =>
      right
      intro e
      have l1 := (ho2.lt b hb).2
      have l2 := (ho.lt b e.symm).1
      omega
  refine ⟨S1.grown (grown_of_stay st) (fun j hj => by cases hj; exact hgl.1), ⟨own_stay R1.o1 st (ap2 R1.o1 (by decide)), own_stay R1.o2 st (ap2 R1.o2 (by decide)), own_stay R1.o3 st (ap2 R1.o3 (by decide)), ?_⟩, by simpa using h.l, ⟨?_, ?_, ?_⟩⟩
  · have h2 := (R1.o4.stored (k * 4 + 2) (.slice p q cc)).1
    have hf := flat_set T' k y p q cc [] hxy
    rw [List.append_nil, List.append_nil] at hf
    rw [hf] at h2
    exact h2
  · intro i hi
    rw [List.getElem?_set_ne (by omega)]
    exact h.g.old i (by omega)
  · intro i x' y' hi hx' hy'
    by_cases hik : i = k
    · subst hik
      rw [List.getElem?_set_self hkl] at hx'
      rw [hy] at hy'
      cases hx'
      cases hy'
      exact ⟨rfl, rfl, rfl, zs, own_stay ho' st (ap2 ho' (by decide)), hz, hV⟩
    · rw [List.getElem?_set_ne (by omega)] at hx'
      exact G2.new i x' y' (by omega) hx' hy'
  · intro i j x' y' hji hi hx' hy'
    rw [List.getElem?_set_ne (by omega)] at hy'
    by_cases hik : i = k
    · subst hik
      rw [List.getElem?_set_self hkl] at hx'
      cases hx'
      exact far j y' hji hy'
    · rw [List.getElem?_set_ne (by omega)] at hx'
      exact h.g.dis i j x' y' hji (by omega) hx' hy'
set_option maxHeartbeats 8000000 in
set_option maxRecDepth 100000 in
theorem copied_ok (m : Mt) (SL : List Slo) (EL : List Epo) (GL : List (Int × Int × Int)) (T : List Tk) (w : World) (hsn : Hid (SL.length = m.sn)) (hen : Hid (EL.length = m.en)) (hgn : Hid (GL.length = m.gn)) (htn : Hid (T.length = m.tn))
    (y1 : Hid ((m.sn + 2) * 88 ≤ 140737488355328)) (y2 : Hid ((m.en + 2) * 72 ≤ 140737488355328)) (y3 : Hid ((m.gn + 2) * 24 ≤ 140737488355328)) (y4 : Hid ((m.tn + 2) * 64 ≤ 140737488355328))
    (z1 : Hid (m.sp = none → m.sc = 0)) (z2 : Hid (m.ep = none → m.ec = 0)) (z3 : Hid (m.gp = none → m.gc = 0)) (z4 : Hid (m.tp = none → m.tc = 0))
    (s1 : Hid (RV sloL 9 w m.sp SL)) (e1 : Hid (RV epoL 5 w m.ep EL)) (g1 : Hid (RV sgZ 3 w m.gp GL)) (t1 : Hid (RV tkL 4 w m.tp T)) (tV : Hid (∀ (i : Nat) (x : Tk), T[i]? = some x → x.l * 8 ≤ 140737488355328 ∧ ∃ zs, View w (.slice x.p x.l x.c) zs)) :
    Calls Try.prog 22 #[.agg (mtC m)] w fun e w' => CdP w m SL EL GL T e w' := by
  have TW : Hid (CdS w ((w.alloc (.cells (mtC m) 36)).alloc (.cells mt0 36)) m) := by
    have bx : Bx (w.alloc (.cells (mtC m) 36)) w.heap.size m := World.alloc_heap_new w _
    have rs : (w.alloc (.cells (mtC m) 36)).heap.size = w.heap.size + 1 := by simp
    refine ⟨bx.below (below_alloc1 _ _), ?_, ((Below.refl _ w).alloc (Nat.le_refl _) _).alloc (by simp) _, by simp⟩
    rw [← rs]; exact World.alloc_heap_new _ _
  go_enter Try.func22, Try.ntmps22
  go_upto_region 1 with fail
  generalize ((w.alloc (.cells (mtC m) 36)).alloc (.cells mt0 36)) = W at TW ⊢
  have c11 := TW.out.bx.c 11 (.slice m.sp m.sn m.sc) rfl
  have HL : Hid (Calls Try.prog 48 #[.slice m.sp m.sn m.sc] W fun e w' => ∃ v, e = .returned v ∧ w'.ownsRow W.heap.size 63 9 v m.sn (SL.flatMap sloL) ∧ Below W.heap.size W w') := list48_ok m.sp m.sn m.sc SL hsn (by have := y1.out; show _ ≤ _; omega) z1 W (s1.out.below TW.out.bel)
  go_upto_region 2 with (go_at_call 48; refine HL.out.mono ?_; rintro e1 U ⟨v, rfl, ho, hb⟩; obtain ⟨p1, c1, rfl⟩ := own_form ho; have cU := (TW.out.bx.below hb).c 11 (.slice m.sp m.sn m.sc) rfl; have fU := frozen_bx (o := 11) (TW.out.bx.below hb))
  have sW : Stay w.heap.size W (U.setCell ⟨w.heap.size, 11, none⟩ (.slice p1 m.sn c1)) := (Stay.of hb).set _ _
  have TX : Hid (CdS w (U.setCell ⟨w.heap.size, 11, none⟩ (.slice p1 m.sn c1)) (cdM m p1 c1 m.ep m.ec m.gp m.gc m.tp m.tc)) := TW.out.put sW (bx_set (TW.out.bx.below hb) rfl)
  have S1 : Hid ((U.setCell ⟨w.heap.size, 11, none⟩ (.slice p1 m.sn c1)).ownsRow (w.heap.size + 2) 63 9 (.slice p1 m.sn c1) m.sn (SL.flatMap sloL)) := by
    have q := ownsRow_below ho TW.out.sz
    exact own_stay q ((Stay.refl _ _).set _ _) (own_ne q (by omega))
  clear TW c11 cU fU HL sW ho hb
  have TW := TX
  clear TX
  generalize U.setCell ⟨w.heap.size, 11, none⟩ (.slice p1 m.sn c1) = Wa at *
  clear U
  have c12 := TW.out.bx.c 12 (.slice m.ep m.en m.ec) rfl
  have HL : Hid (Calls Try.prog 49 #[.slice m.ep m.en m.ec] Wa fun e w' => ∃ v, e = .returned v ∧ w'.ownsRow Wa.heap.size 38 5 v m.en (EL.flatMap epoL) ∧ Below Wa.heap.size Wa w') := list49_ok m.ep m.en m.ec EL hen (by have := y2.out; show _ ≤ _; omega) z2 Wa (e1.out.below TW.out.bel)
  go_upto_region 3 with (go_at_call 49; refine HL.out.mono ?_; rintro e2 U ⟨v, rfl, ho, hb⟩; obtain ⟨p2, c2, rfl⟩ := own_form ho; have cU := (TW.out.bx.below hb).c 12 (.slice m.ep m.en m.ec) rfl; have fU := frozen_bx (o := 12) (TW.out.bx.below hb))
  have sW : Stay w.heap.size Wa (U.setCell ⟨w.heap.size, 12, none⟩ (.slice p2 m.en c2)) := (Stay.of hb).set _ _
  have TX : Hid (CdS w (U.setCell ⟨w.heap.size, 12, none⟩ (.slice p2 m.en c2)) (cdM m p1 c1 p2 c2 m.gp m.gc m.tp m.tc)) := TW.out.put sW (bx_set (TW.out.bx.below hb) rfl)
  have S2 : Hid ((U.setCell ⟨w.heap.size, 12, none⟩ (.slice p2 m.en c2)).ownsRow (w.heap.size + 2) 38 5 (.slice p2 m.en c2) m.en (EL.flatMap epoL)) := by
    have q := ownsRow_below ho TW.out.sz
    exact own_stay q ((Stay.refl _ _).set _ _) (own_ne q (by omega))
  have S1n : Hid ((U.setCell ⟨w.heap.size, 12, none⟩ (.slice p2 m.en c2)).ownsRow (w.heap.size + 2) 63 9 (.slice p1 m.sn c1) m.sn (SL.flatMap sloL)) := own_stay S1.out sW (own_ne S1.out (by omega))
  clear S1
  have S1 := S1n
  clear S1n
  clear TW c12 cU fU HL sW ho hb
  have TW := TX
  clear TX
  generalize U.setCell ⟨w.heap.size, 12, none⟩ (.slice p2 m.en c2) = Wb at *
  clear U
  have c13 := TW.out.bx.c 13 (.slice m.gp m.gn m.gc) rfl
  have HL : Hid (Calls Try.prog 50 #[.slice m.gp m.gn m.gc] Wb fun e w' => ∃ v, e = .returned v ∧ w'.ownsRow Wb.heap.size 65 3 v m.gn (GL.flatMap sgZ) ∧ Below Wb.heap.size Wb w') := list50_ok m.gp m.gn m.gc GL hgn (by have := y3.out; show _ ≤ _; omega) z3 Wb (g1.out.below TW.out.bel)
  go_upto_region 4 with (go_at_call 50; refine HL.out.mono ?_; rintro e3 U ⟨v, rfl, ho, hb⟩; obtain ⟨p3, c3, rfl⟩ := own_form ho; have cU := (TW.out.bx.below hb).c 13 (.slice m.gp m.gn m.gc) rfl; have fU := frozen_bx (o := 13) (TW.out.bx.below hb))
  have sW : Stay w.heap.size Wb (U.setCell ⟨w.heap.size, 13, none⟩ (.slice p3 m.gn c3)) := (Stay.of hb).set _ _
  have TX : Hid (CdS w (U.setCell ⟨w.heap.size, 13, none⟩ (.slice p3 m.gn c3)) (cdM m p1 c1 p2 c2 p3 c3 m.tp m.tc)) := TW.out.put sW (bx_set (TW.out.bx.below hb) rfl)
  have S3 : Hid ((U.setCell ⟨w.heap.size, 13, none⟩ (.slice p3 m.gn c3)).ownsRow (w.heap.size + 2) 65 3 (.slice p3 m.gn c3) m.gn (GL.flatMap sgZ)) := by
    have q := ownsRow_below ho TW.out.sz
    exact own_stay q ((Stay.refl _ _).set _ _) (own_ne q (by omega))
  have S1n : Hid ((U.setCell ⟨w.heap.size, 13, none⟩ (.slice p3 m.gn c3)).ownsRow (w.heap.size + 2) 63 9 (.slice p1 m.sn c1) m.sn (SL.flatMap sloL)) := own_stay S1.out sW (own_ne S1.out (by omega))
  clear S1
  have S1 := S1n
  clear S1n
  have S2n : Hid ((U.setCell ⟨w.heap.size, 13, none⟩ (.slice p3 m.gn c3)).ownsRow (w.heap.size + 2) 38 5 (.slice p2 m.en c2) m.en (EL.flatMap epoL)) := own_stay S2.out sW (own_ne S2.out (by omega))
  clear S2
  have S2 := S2n
  clear S2n
  clear TW c13 cU fU HL sW ho hb
  have TW := TX
  clear TX
  generalize U.setCell ⟨w.heap.size, 13, none⟩ (.slice p3 m.gn c3) = Wc at *
  clear U
  have c26 := TW.out.bx.c 26 (.slice m.tp m.tn m.tc) rfl
  have HL : Hid (Calls Try.prog 51 #[.slice m.tp m.tn m.tc] Wc fun e w' => ∃ v, e = .returned v ∧ w'.ownsRow Wc.heap.size 61 4 v m.tn (T.flatMap tkL) ∧ Below Wc.heap.size Wc w') := list51_ok m.tp m.tn m.tc T htn (by have := y4.out; show _ ≤ _; omega) z4 Wc (t1.out.below TW.out.bel)
  go_upto_region 5 with (go_at_call 51; refine HL.out.mono ?_; rintro e4 U ⟨v, rfl, ho, hb⟩; obtain ⟨p4, c4, rfl⟩ := own_form ho; have cU := (TW.out.bx.below hb).c 26 (.slice m.tp m.tn m.tc) rfl; have fU := frozen_bx (o := 26) (TW.out.bx.below hb))
  have sW : Stay w.heap.size Wc (U.setCell ⟨w.heap.size, 26, none⟩ (.slice p4 m.tn c4)) := (Stay.of hb).set _ _
  have TX : Hid (CdS w (U.setCell ⟨w.heap.size, 26, none⟩ (.slice p4 m.tn c4)) (cdM m p1 c1 p2 c2 p3 c3 p4 c4)) := TW.out.put sW (bx_set (TW.out.bx.below hb) rfl)
  have S4 : Hid ((U.setCell ⟨w.heap.size, 26, none⟩ (.slice p4 m.tn c4)).ownsRow (w.heap.size + 2) 61 4 (.slice p4 m.tn c4) m.tn (T.flatMap tkL)) := by
    have q := ownsRow_below ho TW.out.sz
    exact own_stay q ((Stay.refl _ _).set _ _) (own_ne q (by omega))
  have S1n : Hid ((U.setCell ⟨w.heap.size, 26, none⟩ (.slice p4 m.tn c4)).ownsRow (w.heap.size + 2) 63 9 (.slice p1 m.sn c1) m.sn (SL.flatMap sloL)) := own_stay S1.out sW (own_ne S1.out (by omega))
  clear S1
  have S1 := S1n
  clear S1n
  have S2n : Hid ((U.setCell ⟨w.heap.size, 26, none⟩ (.slice p4 m.tn c4)).ownsRow (w.heap.size + 2) 38 5 (.slice p2 m.en c2) m.en (EL.flatMap epoL)) := own_stay S2.out sW (own_ne S2.out (by omega))
  clear S2
  have S2 := S2n
  clear S2n
  have S3n : Hid ((U.setCell ⟨w.heap.size, 26, none⟩ (.slice p4 m.tn c4)).ownsRow (w.heap.size + 2) 65 3 (.slice p3 m.gn c3) m.gn (GL.flatMap sgZ)) := own_stay S3.out sW (own_ne S3.out (by omega))
  clear S3
  have S3 := S3n
  clear S3n
  clear TW c26 cU fU HL sW ho hb
  have TW := TX
  clear TX
  generalize U.setCell ⟨w.heap.size, 26, none⟩ (.slice p4 m.tn c4) = Wd at *
  clear U
  have HR0 : Hid (∃ T', CdR w Wd m p1 c1 p2 c2 p3 c3 p4 c4 0 SL EL GL T T') := ⟨T, TW.out, ⟨S1.out, S2.out, S3.out, S4.out⟩, htn.out, fun i _ => rfl, fun i x y hi => by omega, fun i j x y _ hi => by omega⟩
  have c26 := TW.out.bx.c 26 (.slice p4 m.tn c4) rfl
  have hkb : m.tn ≤ 2199023255552 := by have := y4.out; omega
  clear S1 S2 S3 TW
  go_upto_region 6 with fail
  clear c26
  go_loopw [24] (fun i wr => ∃ k : Nat, k ≤ m.tn ∧ i = .int .i64 k ∧ Hid (∃ T', CdR w wr m p1 c1 p2 c2 p3 c3 p4 c4 k SL EL GL T T')) (fun i _ => m.tn - (intOf i).toNat)
  case atStart => exact ⟨0, Nat.zero_le _, rfl, HR0⟩
  case round =>
    obtain ⟨k, hk, rfl, HRx⟩ := hrel
    clear HR0
    obtain ⟨T', HR'⟩ := HRx.out
    have HR : Hid (CdR w wr m p1 c1 p2 c2 p3 c3 p4 c4 k SL EL GL T T') := HR'
    clear HR' HRx
    by_cases hlt : k < m.tn
    · obtain ⟨g4, hp4⟩ : ∃ g4, p4 = some ⟨g4, 0, none⟩ := by
        rcases S4.out.2 with ⟨h, h0⟩ | ⟨g, c, cur, h, _⟩
        · omega
        · cases h; exact ⟨g, rfl⟩
      subst hp4
      obtain ⟨y, hy⟩ : ∃ y, T[k]? = some y := ⟨T[k]'(by have := htn.out; omega), List.getElem?_eq_getElem _⟩
      have hxy : T'[k]? = some y := (HR.out.g.old k (Nat.le_refl _)).trans hy
      obtain ⟨hyl, zs, hV0⟩ := tV.out k y hy
      have HV : Hid (View w (.slice y.p y.l y.c) zs) := hV0
      have HY : Hid (T[k]? = some y) := hy
      obtain ⟨ba, oa, hpa, hba, ca⟩ := (rv_own (rest := []) tkL_len (by rw [List.append_nil]; exact HR.out.r.o4)).get hxy
      simp only [Option.some.injEq, Addr.mk.injEq] at hpa
      obtain ⟨rfl, rfl, _⟩ := hpa
      have a0 : wr.cell? ⟨g4, k * 4, none⟩ = some (.int .i64 y.n) := by have := ca 0 _ rfl; simpa using this
      have a1 : wr.cell? ⟨g4, k * 4 + 1, none⟩ = some (.string y.s) := by have := ca 1 _ rfl; simpa using this
      have a2 : wr.cell? ⟨g4, k * 4 + 2, none⟩ = some (.slice y.p y.l y.c) := by have := ca 2 _ rfl; simpa using this
      have a3 : wr.cell? ⟨g4, k * 4 + 3, none⟩ = some (.string y.z) := by have := ca 3 _ rfl; simpa using this
      clear hV0 hy hxy ca hba
      go_upto_region 8 with fail
      have b1 : Below wr.heap.size wr (wr.alloc (.cells #[.int .i64 y.n, .string y.s, .slice y.p y.l y.c, .string y.z] 61)) := below_alloc1 _ _
      have x2 : (wr.alloc (.cells #[.int .i64 y.n, .string y.s, .slice y.p y.l y.c, .string y.z] 61)).cell? ⟨wr.heap.size, 2, none⟩ = some (.slice y.p y.l y.c) := rangeAt_new wr _ 61 2 _ rfl
      generalize wr.alloc (.cells #[.int .i64 y.n, .string y.s, .slice y.p y.l y.c, .string y.z] 61) = W1 at *
      have ld1 : ∀ u, Below W1.heap.size W1 u → u.cell? ⟨w.heap.size, 26, none⟩ = some (.slice (some ⟨g4, 0, none⟩) m.tn c4) := fun u hu => cell_below hu (cell_below b1 (HR.out.s.bx.c 26 _ rfl))
      have ld2 : ∀ u, Below W1.heap.size W1 u → u.cell? ⟨wr.heap.size, 2, none⟩ = some (.slice y.p y.l y.c) := fun u hu => cell_below hu x2
      have HL5 : Hid (∀ u, Below W1.heap.size W1 u → Calls Try.prog 52 #[.slice y.p y.l y.c] u fun e w' => ∃ v, e = .returned v ∧ w'.ownsRow u.heap.size 3 1 v y.l (zs.flatMap inL) ∧ Below u.heap.size u w') := fun u hu => by
        have hbu : Below w.heap.size w u := (HR.out.s.bel.trans (b1.mono (by have := HR.out.s.sz; omega))).trans (hu.mono (by have := HR.out.s.sz; have := b1.size; omega))
        have q := rv_view (HV.out.kept hbu.block)
        exact list52_ok y.p y.l y.c zs q.1 hyl q.2.2.1 u q.2.1
      have q0 : (0 : Int) ≤ (k : Int) := by omega
      have q1 : (k : Int) < (m.tn : Int) := by omega
      have hS0 : Below W1.heap.size W1 W1.drew := (Below.refl _ _).drew
      clear a0 a1 a2 a3 x2
      refine wp_region_noPanic ?_
      refine wp_region_till (fun u => Below W1.heap.size W1 u) 8 (by kernel_rfl) (by decide) (by decide +kernel) (by decide +kernel) (by decide +kernel) (fun inv => ?_)
      refine till_at 0 29 (.pointer (some ⟨w.heap.size, 26, none⟩)) inv rfl rfl (by decide) (by decide +kernel) (by decide +kernel) (fun _ _ _ h => h) (hS0) (Or.inl ⟨by rfl, fun w' hS' => by go_simp⟩) (fun inv' => ?_)
      clear inv; have inv := inv'; clear inv'
      simp only [List.setIfInBounds_toArray, List.set_cons_zero, List.set_cons_succ]
      refine till_at 1 30 (.slice (some ⟨g4, 0, none⟩) m.tn c4) inv rfl rfl (by decide) (by decide +kernel) (by decide +kernel) (fun _ _ _ h => h) (hS0) (Or.inl ⟨by rfl, fun w' hS' => by have q := ld1 w' hS'; go_simp⟩) (fun inv' => ?_)
      clear inv; have inv := inv'; clear inv'
      simp only [List.setIfInBounds_toArray, List.set_cons_zero, List.set_cons_succ]
      refine till_at 2 31 (.int .i64 (k : Nat)) inv rfl rfl (by decide) (by decide +kernel) (by decide +kernel) (fun _ _ _ h => h) (hS0) (Or.inl ⟨by rfl, fun w' hS' => by go_simp⟩) (fun inv' => ?_)
      clear inv; have inv := inv'; clear inv'
      simp only [List.setIfInBounds_toArray, List.set_cons_zero, List.set_cons_succ]
      refine till_at 3 32 (.pointer (some ⟨wr.heap.size, 2, none⟩)) inv rfl rfl (by decide) (by decide +kernel) (by decide +kernel) (fun _ _ _ h => h) (hS0) (Or.inl ⟨by rfl, fun w' hS' => by go_simp⟩) (fun inv' => ?_)
      clear inv; have inv := inv'; clear inv'
      simp only [List.setIfInBounds_toArray, List.set_cons_zero, List.set_cons_succ]
      refine till_at 4 33 (.slice y.p y.l y.c) inv rfl rfl (by decide) (by decide +kernel) (by decide +kernel) (fun _ _ _ h => h) (hS0) (Or.inl ⟨by rfl, fun w' hS' => by have q := ld2 w' hS'; go_simp⟩) (fun inv' => ?_)
      clear inv; have inv := inv'; clear inv'
      simp only [List.setIfInBounds_toArray, List.set_cons_zero, List.set_cons_succ]
      refine till_head (i := 5) inv (by decide +kernel) (by decide) rfl (fun K hK => ?_)
      go_simp
      refine (HL5.out _ hS0).mono ?_
      rintro e1 wq ⟨vq, rfl, hoq, hBq⟩
      have hBq2 : Below W1.heap.size W1 wq := hS0.trans (hBq.mono hS0.size)
      obtain ⟨pq, cq, rfl⟩ := own_form hoq
      go_wp2_with fail
      refine hK.out _ _ hBq2 (fun inv' => ?_)
      clear hK K inv; have inv := inv'; clear inv'
      try simp only [List.setIfInBounds_toArray, List.set_cons_zero, List.set_cons_succ]
      refine till_at 6 35 (.pointer (some ⟨g4, k * 4, none⟩)) inv rfl rfl (by decide) (by decide +kernel) (by decide +kernel) (fun _ _ _ h => h) (hBq2) (Or.inl ⟨by rfl, fun w' hS' => by go_simp⟩) (fun inv' => ?_)
      clear inv; have inv := inv'; clear inv'
      simp only [List.setIfInBounds_toArray, List.set_cons_zero, List.set_cons_succ]
      refine till_at 7 36 (.pointer (some ⟨g4, k * 4 + 2, none⟩)) inv rfl rfl (by decide) (by decide +kernel) (by decide +kernel) (fun _ _ _ h => h) (hBq2) (Or.inl ⟨by rfl, fun w' hS' => by go_simp⟩) (fun inv' => ?_)
      clear inv; have inv := inv'; clear inv'
      simp only [List.setIfInBounds_toArray, List.set_cons_zero, List.set_cons_succ]
      have hBr : Below wr.heap.size wr wq := b1.trans (hBq2.mono b1.size)
      have hor := own_keep HR.out.r.o4 hBr
      obtain ⟨vc, hvc⟩ : ∃ vc, wq.cell? ⟨g4, k * 4 + 2, none⟩ = some vc := by
        have hq := hor.cellAt (k * 4 + 2) (by omega)
        rw [List.getElem?_eq_getElem (by rw [hor.1]; omega)] at hq
        exact ⟨_, hq⟩
      have hfc : wq.frozen? ⟨g4, k * 4 + 2, none⟩ = false := hor.frozenAt _
      refine till_tail (i := 8) (by decide +kernel) (by decide) rfl (fun K hK => ?_)
      go_simp
      refine hK.out _ _ ?_
      clear hK K inv
      try simp only [Act.put, List.setIfInBounds_toArray, List.set_cons_zero, List.set_cons_succ]
      refine till_done (by decide +kernel) ?_ _
      refine NoPanic.normal ?_
      have HR2 : Hid (∃ T', CdR w (wq.setCell ⟨g4, k * 4 + 2, none⟩ (.slice pq y.l cq)) m p1 c1 p2 c2 p3 c3 (some ⟨g4, 0, none⟩) c4 (k + 1) SL EL GL T T') := by
        have qo := ownsRow_below hoq (show wr.heap.size ≤ W1.drew.heap.size from b1.size)
        rw [inL_cells] at qo
        exact ⟨_, HR.out.step HY.out hBr qo (rv_view HV.out).1 HV.out⟩
      clear hoq hor hvc hfc hBq hBq2 hBr ld1 ld2 hS0 HV HL5 b1 HR
      go_wp2
      go_roundw
      case rel => exact ⟨k + 1, by omega, by go_num, HR2⟩
      case measure => simp [intOf]; omega
    · have hkm : k = m.tn := by omega
      have HR3 : Hid (CdR w wr m p1 c1 p2 c2 p3 c3 p4 c4 m.tn SL EL GL T T') := by rw [← hkm]; exact HR.out
      have hnd : decide ((k : Int) < (m.tn : Int)) = false := by simp; omega
      clear HR hkm
      have R9 : Hid (wr.rangeAt w.heap.size 0 (mtC (cdM m p1 c1 p2 c2 p3 c3 p4 c4)).toList) := fun j u hj => by
        rw [Nat.zero_add]
        exact HR3.out.s.bx.c j u (by simpa using hj)
      have RS : Hid (wr.heap[w.heap.size + 1]? = some (.cells mt0 36 (0, 0))) := HR3.out.s.rs
      go_upto_region 99 with (first | (refine wpList_load_mid (by rfl) 36 (.tmp 1) (by rfl) w.heap.size 0 (by rfl) (mtC (cdM m p1 c1 p2 c2 p3 c3 p4 c4)).toList _ R9.out Try.underlying36 rfl (size36 _) ?_) | (refine wpList_store_box (by rfl) (.tmp 2) (.tmp 38) (by rfl) (cdM m p1 c1 p2 c2 p3 c3 p4 c4) (w.heap.size + 1) mt0 (by rfl) (by rfl) RS.out rfl ?_; intro WF bnF stF))
      refine bodyPost_ret (results_cell_row (P := Try.prog) (p := 2) (ty := 36) rfl _ WF (w.heap.size + 1) 36 (mtC (cdM m p1 c1 p2 c2 p3 c3 p4 c4)) (0, 0) _ rfl bnF Try.underlying36 rfl (by rw [info36s]; rfl)) rfl ?_
      show CdP w m SL EL GL T _ WF
      have H := HR3.out
      have nb : ∀ {e sz n : Nat} {v : Value} {xs : List Value}, wr.ownsRow (w.heap.size + 2) e sz v n xs → v.ownBlock ≠ some (w.heap.size + 1) := fun ho => own_ne ho (by omega)
      have bF : Below w.heap.size w WF := H.s.bel.trans (stF.below (by omega) (by have := H.s.sz; omega))
      have RF := H.r.stay stF (fun _ h => nb h)
      have GF := H.g.grown (grown_of_stay stF) (fun h => .inr (nb h))
      refine ⟨p1, c1, p2, c2, p3, c3, p4, c4, T', rfl, RF, H.l, ?_, ?_, bF⟩
      · intro i x y hx hy
        have hi : i < T'.length := (List.getElem?_eq_some_iff.1 hx).1
        exact GF.new i x y (by have := H.l; omega) hx hy
      · intro i j x y hji hx hy
        have hi : i < T'.length := (List.getElem?_eq_some_iff.1 hx).1
        exact GF.dis i j x y hji (by have := H.l; omega) hx hy
end Go.Proofs.Ytmfnhdflmnmooaa
namespace Go.Proofs.Ytmfnhdflmnmooaa
open Go.RowKit
set_option linter.unusedVariables false
set_option linter.unusedSimpArgs false
/-- Only blocks from B up to U, and new ones, changed. -/
structure Kq (B U : Nat) (w W : World) : Prop where
  os : W.os = w.os
  tape : W.tape = w.tape
  output : W.output = w.output
  size : w.heap.size ≤ W.heap.size
  blk : ∀ k, k < w.heap.size → ¬ (B ≤ k ∧ k < U) → W.heap[k]? = w.heap[k]?
theorem Kq.grown {B U : Nat} {w W W' : World} {row : Option Nat} (h : Kq B U w W) (g : W.grownBy W' row) (hin : ∀ j, row = some j → B ≤ j ∧ (j < U ∨ w.heap.size ≤ j)) : Kq B U w W' :=
  ⟨g.os.trans h.os, g.tape.trans h.tape, g.output.trans h.output, Nat.le_trans h.size g.size, fun k hk hn => (g.block k (Nat.lt_of_lt_of_le hk h.size) (fun e => by have := hin k e.symm; omega)).trans (h.blk k hk hn)⟩
theorem Kq.below {B U : Nat} {w W W' : World} (h : Kq B U w W) (hb : Below W.heap.size W W') : Kq B U w W' := h.grown (row := none) (grown_of_below hb none) (fun j e => by cases e)
/-- spoil's box and what was kept. -/
structure SpI (B U : Nat) (w W : World) (m : Mt) : Prop where
  bx : Bx W w.heap.size m
  kq : Kq B U w W
  sz : w.heap.size < W.heap.size
theorem SpI.grown {B U : Nat} {w W W' : World} {m : Mt} {row : Option Nat} (h : SpI B U w W m) (g : W.grownBy W' row) (hin : ∀ j, row = some j → B ≤ j ∧ (j < U ∨ w.heap.size ≤ j) ∧ j ≠ w.heap.size) : SpI B U w W' m :=
  ⟨(g.block _ h.sz (fun e => (hin _ e.symm).2.2 rfl)).trans h.bx, h.kq.grown g (fun j e => ⟨(hin j e).1, (hin j e).2.1⟩), Nat.lt_of_lt_of_le h.sz g.size⟩
theorem SpI.below {B U : Nat} {w W W' : World} {m : Mt} (h : SpI B U w W m) (hb : Below W.heap.size W W') : SpI B U w W' m := h.grown (row := none) (grown_of_below hb none) (fun j e => by cases e)
/-- Tokens that are not spoilt yet. -/
def TkQ (B : Nat) (W : World) (T' Tt : List Tk) (k : Nat) : Prop := ∀ (i : Nat) (x y : Tk), k ≤ i → Tt[i]? = some x → T'[i]? = some y → x.p = y.p ∧ x.l = y.l ∧ x.c = y.c ∧ ∃ zs, W.ownsRow B 3 1 (.slice y.p y.l y.c) y.l (cellsI zs)
theorem TkQ.grown {B k : Nat} {u u' : World} {T' Tt : List Tk} {row : Option Nat} (h : TkQ B u T' Tt k) (hg : u.grownBy u' row) (hr : ∀ {sz n : Nat} {v : Value} {xs : List Value}, u.ownsRow B 3 sz v n xs → v.ownBlock = none ∨ v.ownBlock ≠ row) : TkQ B u' T' Tt k := fun i x y hi hx hy => by
  obtain ⟨a, b, c, zs, ho⟩ := h i x y hi hx hy
  exact ⟨a, b, c, zs, ho.kept hg (hr ho)⟩
theorem TkQ.below {B k : Nat} {u u' : World} {T' Tt : List Tk} (h : TkQ B u T' Tt k) (hb : Below u.heap.size u u') : TkQ B u' T' Tt k := h.grown (row := none) (grown_of_below hb none) (fun {sz n v xs} _ => by cases v.ownBlock <;> simp)
def SpR (B : Nat) (W : World) (m : Mt) (T' : List Tk) (k : Nat) : Prop := ∃ (x1 x2 x3 : List Value) (Tt : List Tk), R4 B W (.slice m.sp m.sn m.sc) (.slice m.ep m.en m.ec) (.slice m.gp m.gn m.gc) (.slice m.tp m.tn m.tc) m.sn m.en m.gn m.tn x1 x2 x3 (Tt.flatMap tkL) ∧ Tt.length = m.tn ∧ TkQ B W T' Tt k
/-- The rows lie below U. -/
structure SpU (U : Nat) (m : Mt) (T' : List Tk) : Prop where
  u1 : ∀ g, (Value.slice m.sp m.sn m.sc).ownBlock = some g → g < U
  u2 : ∀ g, (Value.slice m.ep m.en m.ec).ownBlock = some g → g < U
  u3 : ∀ g, (Value.slice m.gp m.gn m.gc).ownBlock = some g → g < U
  u4 : ∀ g, (Value.slice m.tp m.tn m.tc).ownBlock = some g → g < U
  u5 : ∀ (i : Nat) (x : Tk), T'[i]? = some x → ∀ g, (Value.slice x.p x.l x.c).ownBlock = some g → g < U
theorem own_some {w : World} {B e sz n c : Nat} {p : Option Addr} {xs : List Value} (h : w.ownsRow B e sz (.slice p n c) n xs) (hn : 0 < n) : ∃ g, p = some ⟨g, 0, none⟩ := by
  rcases h.2 with ⟨q, h0⟩ | ⟨g, c', cur, q, _⟩
  · omega
  · cases q; exact ⟨g, rfl⟩
theorem sp_put1 {B U : Nat} {w W : World} {m : Mt} {T' : List Tk} {k g : Nat} (h : SpI B U w W m) (r : SpR B W m T' k) (hU : SpU U m T') (hp : m.sp = some ⟨g, 0, none⟩) (o : Nat) (v : Value) : SpI B U w (W.setCell ⟨g, o, none⟩ v) m ∧ SpR B (W.setCell ⟨g, o, none⟩ v) m T' k := by
  obtain ⟨x1, x2, x3, Tt, R, hl, hq⟩ := r
  have hob : (Value.slice m.sp m.sn m.sc).ownBlock = some g := by rw [hp]; rfl
  have hgl := R.o1.lt g hob
  have st : Stay g W (W.setCell ⟨g, o, none⟩ v) := (Stay.refl _ _).set _ _
  have gr := grown_of_stay st
  have ne : g ≠ w.heap.size := fun e => own_bx h.bx (by decide) R.o1 (by rw [hob, e])
  have oj : (W.setCell ⟨g, o, none⟩ v).ownsRow B 63 9 (.slice m.sp m.sn m.sc) m.sn (x1.set o v) := by
    have q := R.o1
    rw [hp] at q ⊢
    exact (q.stored o v).1
  exact ⟨h.grown gr (fun i e => by cases e; exact ⟨hgl.1, .inl (hU.u1 _ hob), ne⟩), x1.set o v, x2, x3, Tt, ⟨oj, own_stay R.o2 st (by rcases own_apart R.o2 R.o1 (by decide) with q | q; (rw [q]; simp); (rw [hp] at q; exact q)), own_stay R.o3 st (by rcases own_apart R.o3 R.o1 (by decide) with q | q; (rw [q]; simp); (rw [hp] at q; exact q)), own_stay R.o4 st (by rcases own_apart R.o4 R.o1 (by decide) with q | q; (rw [q]; simp); (rw [hp] at q; exact q))⟩, hl, hq.grown gr (fun ho => by rw [← hob]; exact own_apart ho R.o1 (by decide))⟩
theorem sp_put2 {B U : Nat} {w W : World} {m : Mt} {T' : List Tk} {k g : Nat} (h : SpI B U w W m) (r : SpR B W m T' k) (hU : SpU U m T') (hp : m.ep = some ⟨g, 0, none⟩) (o : Nat) (v : Value) : SpI B U w (W.setCell ⟨g, o, none⟩ v) m ∧ SpR B (W.setCell ⟨g, o, none⟩ v) m T' k := by
  obtain ⟨x1, x2, x3, Tt, R, hl, hq⟩ := r
  have hob : (Value.slice m.ep m.en m.ec).ownBlock = some g := by rw [hp]; rfl
  have hgl := R.o2.lt g hob
  have st : Stay g W (W.setCell ⟨g, o, none⟩ v) := (Stay.refl _ _).set _ _
  have gr := grown_of_stay st
  have ne : g ≠ w.heap.size := fun e => own_bx h.bx (by decide) R.o2 (by rw [hob, e])
  have oj : (W.setCell ⟨g, o, none⟩ v).ownsRow B 38 5 (.slice m.ep m.en m.ec) m.en (x2.set o v) := by
    have q := R.o2
    rw [hp] at q ⊢
    exact (q.stored o v).1
  exact ⟨h.grown gr (fun i e => by cases e; exact ⟨hgl.1, .inl (hU.u2 _ hob), ne⟩), x1, x2.set o v, x3, Tt, ⟨own_stay R.o1 st (by rcases own_apart R.o1 R.o2 (by decide) with q | q; (rw [q]; simp); (rw [hp] at q; exact q)), oj, own_stay R.o3 st (by rcases own_apart R.o3 R.o2 (by decide) with q | q; (rw [q]; simp); (rw [hp] at q; exact q)), own_stay R.o4 st (by rcases own_apart R.o4 R.o2 (by decide) with q | q; (rw [q]; simp); (rw [hp] at q; exact q))⟩, hl, hq.grown gr (fun ho => by rw [← hob]; exact own_apart ho R.o2 (by decide))⟩
theorem sp_put3 {B U : Nat} {w W : World} {m : Mt} {T' : List Tk} {k g : Nat} (h : SpI B U w W m) (r : SpR B W m T' k) (hU : SpU U m T') (hp : m.gp = some ⟨g, 0, none⟩) (o : Nat) (v : Value) : SpI B U w (W.setCell ⟨g, o, none⟩ v) m ∧ SpR B (W.setCell ⟨g, o, none⟩ v) m T' k := by
  obtain ⟨x1, x2, x3, Tt, R, hl, hq⟩ := r
  have hob : (Value.slice m.gp m.gn m.gc).ownBlock = some g := by rw [hp]; rfl
  have hgl := R.o3.lt g hob
  have st : Stay g W (W.setCell ⟨g, o, none⟩ v) := (Stay.refl _ _).set _ _
  have gr := grown_of_stay st
  have ne : g ≠ w.heap.size := fun e => own_bx h.bx (by decide) R.o3 (by rw [hob, e])
  have oj : (W.setCell ⟨g, o, none⟩ v).ownsRow B 65 3 (.slice m.gp m.gn m.gc) m.gn (x3.set o v) := by
    have q := R.o3
    rw [hp] at q ⊢
    exact (q.stored o v).1
  exact ⟨h.grown gr (fun i e => by cases e; exact ⟨hgl.1, .inl (hU.u3 _ hob), ne⟩), x1, x2, x3.set o v, Tt, ⟨own_stay R.o1 st (by rcases own_apart R.o1 R.o3 (by decide) with q | q; (rw [q]; simp); (rw [hp] at q; exact q)), own_stay R.o2 st (by rcases own_apart R.o2 R.o3 (by decide) with q | q; (rw [q]; simp); (rw [hp] at q; exact q)), oj, own_stay R.o4 st (by rcases own_apart R.o4 R.o3 (by decide) with q | q; (rw [q]; simp); (rw [hp] at q; exact q))⟩, hl, hq.grown gr (fun ho => by rw [← hob]; exact own_apart ho R.o3 (by decide))⟩
theorem flat_setS (l : List Tk) (k : Nat) (x : Tk) (s : ByteArray) (hx : l[k]? = some x) : (l.flatMap tkL).set (k * 4 + 1) (.string s) = (l.set k { x with s := s }).flatMap tkL := by
  induction l generalizing k with
  | nil => simp at hx
  | cons y l ih =>
    cases k with
    | zero =>
      simp at hx
      subst hx
      simp [tkL]
    | succ k =>
      have := ih k (by simpa using hx)
      rw [List.set_cons_succ, List.flatMap_cons, List.flatMap_cons, ← this, List.set_append_right _ _ (by rw [tkL_len, Nat.succ_mul]; omega), tkL_len, show (k + 1) * 4 + 1 - 4 = k * 4 + 1 by omega]
theorem sp_call {B U : Nat} {w W u : World} {m : Mt} {T' : List Tk} {k : Nat} {y : Tk} {zs : List Int} (h : SpI B U w W m) (r : SpR B W m T' k) (hU : SpU U m T') (hD : TkD T') (hy : T'[k]? = some y) (ho : W.ownsRow B 3 1 (.slice y.p y.l y.c) y.l (cellsI zs)) (hg : W.grownBy u (Value.slice y.p y.l y.c).ownBlock) : SpI B U w u m ∧ SpR B u m T' (k + 1) := by
  obtain ⟨x1, x2, x3, Tt, R, hl, hq⟩ := r
  refine ⟨h.grown hg (fun j e => ⟨(ho.lt j e).1, .inl (hU.u5 k y hy j e), fun q => own_bx h.bx (by decide) ho (by rw [e, q])⟩), x1, x2, x3, Tt, ⟨own_grown R.o1 hg (own_apart R.o1 ho (by decide)), own_grown R.o2 hg (own_apart R.o2 ho (by decide)), own_grown R.o3 hg (own_apart R.o3 ho (by decide)), own_grown R.o4 hg (own_apart R.o4 ho (by decide))⟩, hl, fun i x y' hi hx hy' => ?_⟩
  obtain ⟨a, b, c, zs', ho'⟩ := hq i x y' (by omega) hx hy'
  refine ⟨a, b, c, zs', ho'.kept hg ?_⟩
  rcases hD i k y' y (by omega) hy' hy with q | q
  · rw [q]
    cases (Value.slice y'.p y'.l y'.c).ownBlock <;> simp
  · exact .inr (fun e => q e.symm)
theorem sp_put4 {B U : Nat} {w W : World} {m : Mt} {T' : List Tk} {k g i : Nat} (h : SpI B U w W m) (r : SpR B W m T' (k + 1)) (hU : SpU U m T') (hp : m.tp = some ⟨g, 0, none⟩) (hk : k < m.tn) (s : ByteArray) : SpI B U w (W.setCell ⟨g, k * 4 + 1, none⟩ (.string s)) m ∧ SpR B (W.setCell ⟨g, k * 4 + 1, none⟩ (.string s)) m T' (k + 1) := by
  obtain ⟨x1, x2, x3, Tt, R, hl, hq⟩ := r
  have hob : (Value.slice m.tp m.tn m.tc).ownBlock = some g := by rw [hp]; rfl
  have hgl := R.o4.lt g hob
  have st : Stay g W (W.setCell ⟨g, k * 4 + 1, none⟩ (.string s)) := (Stay.refl _ _).set _ _
  have gr := grown_of_stay st
  have ne : g ≠ w.heap.size := fun e => own_bx h.bx (by decide) R.o4 (by rw [hob, e])
  obtain ⟨x, hx⟩ : ∃ x, Tt[k]? = some x := ⟨Tt[k]'(by omega), List.getElem?_eq_getElem _⟩
  have oj : (W.setCell ⟨g, k * 4 + 1, none⟩ (.string s)).ownsRow B 61 4 (.slice m.tp m.tn m.tc) m.tn ((Tt.set k { x with s := s }).flatMap tkL) := by
    have q := R.o4
    rw [hp] at q ⊢
    have q2 := (q.stored (k * 4 + 1) (.string s)).1
    rw [flat_setS Tt k x s hx] at q2
    exact q2
  have ap : ∀ {e sz n : Nat} {v : Value} {xs : List Value}, W.ownsRow B e sz v n xs → e ≠ 61 → v.ownBlock ≠ some g := fun ho he => by
    rcases own_apart ho R.o4 he with q | q
    · rw [q]; simp
    · rw [hob] at q; exact q
  refine ⟨h.grown gr (fun i e => by cases e; exact ⟨hgl.1, .inl (hU.u4 _ hob), ne⟩), x1, x2, x3, Tt.set k { x with s := s }, ⟨own_stay R.o1 st (ap R.o1 (by decide)), own_stay R.o2 st (ap R.o2 (by decide)), own_stay R.o3 st (ap R.o3 (by decide)), oj⟩, by simpa using hl, fun i x' y' hi hx' hy' => ?_⟩
  rw [List.getElem?_set_ne (by omega)] at hx'
  obtain ⟨a, b, c, zs', ho'⟩ := hq i x' y' hi hx' hy'
  exact ⟨a, b, c, zs', own_stay ho' st (ap ho' (by decide))⟩
section
variable {α : Type} {L : α → List Value} {P : Program} {ops : Array Oper}
/-- append of some structs to a row that the call owns, nil or not. -/
theorem wpList_append_in {w : World} {rest : List Oper} {o : Oper} {a : Act} {Q : Exit → Act → World → Prop} (hgd : o.guard = none) (s x : Operand) (t : TypeId)
    (ho : o.op = .call { callee := .builtin .append, args := #[s, x], argTypes := #[t, t] }) (e : TypeId) (i : TypeInfo) (z : Value) (size bytes : Nat) (ht : P.underlying t = some (.slice e)) (hi : P.info? e = some i) (hz : i.zero = some z)
    (hsize : i.size = size) (hby : i.bytes = bytes) (hzs : z.cells.size = size) (hsz : 0 < size) (hL : ∀ x, (L x).length = size) (h1 : ∀ x, ∀ u ∈ L x, u.oneCell' = true)
    (base n : Nat) (v : Value) (xs : List Value) (hs : a.eval s = v) (hown : w.ownsRow base e size v n xs) (b m : Nat) (l : List α) (hx : a.eval x = .slice (some ⟨b, 0, none⟩) (m + 1) (m + 1)) (hl : l.length = m + 1) (hrv : RV L size w (some ⟨b, 0, none⟩) l)
    (h63 : n + (m + 1) ≤ maxLen) (hbytes : (n + (m + 1)) * bytes ≤ 140737488355328) (hbase : base ≤ w.heap.size)
    (h : ∀ g cap w', w'.ownsRow base e size (.slice (some ⟨g, 0, none⟩) (n + (m + 1)) cap) (n + (m + 1)) (xs ++ l.flatMap L) → w.grownBy w' v.ownBlock → (v.ownBlock = some g ∨ w.heap.size ≤ g) → wpList P ops Q rest (a.put o.dst (.slice (some ⟨g, 0, none⟩) (n + (m + 1)) cap)) w') : wpList P ops Q (o :: rest) a w := by
  rcases hown.2 with ⟨rfl, rfl⟩ | ⟨g0, c0, cur, rfl, hc⟩
  · have hx0 : xs = [] := List.length_eq_zero_iff.1 (by rw [hown.1]; simp)
    subst hx0
    refine wpList_append_own (P := P) w hgd s x t ho w.heap.size e i z size bytes ht hi hz hsize hby hzs hsz (.slice none 0 0) 0 [] hs (World.ownsRow_nil _ _ _ _) ⟨b, 0, none⟩ (m + 1) (m + 1) (l.flatMap L) hx (by rw [flat_len L size hL, hl]) ?_ (flat_one L h1 l) h63 hbytes (Nat.le_refl _) ?_
    · intro j u hj
      obtain ⟨i', x', r, q1, q2, q3⟩ := flat_split L size hL l j u hj
      rcases hrv with q | ⟨b', off, q, _, hc⟩
      · subst q; simp at q1
      · simp only [Option.some.injEq, Addr.mk.injEq] at q
        obtain ⟨rfl, rfl, _⟩ := q
        have := hc i' x' q1 r u q2
        rw [Addr.add_lit, q3, ← Nat.add_assoc]
        exact this
    · intro v' w' h2 h3 h4
      obtain ⟨g, cap, rfl⟩ := ownsRow_succ (k := 0 + m) (by rw [Nat.add_assoc]; exact h2)
      rw [Nat.add_assoc] at *
      have hg := (h2.lt g rfl).1
      exact h g cap w' (ownsRow_below h2 hbase) h3 (.inr hg)
  · refine wpList_append_rv (P := P) hgd s x t ho e i z size bytes ht hi hz hsize hby hzs hsz hL h1 base g0 n c0 xs hs hown (some ⟨b, 0, none⟩) (m + 1) (m + 1) l hx hl hrv (fun q => by cases q) h63 hbytes hbase ?_
    intro g cap w' h2 h3 h4
    exact h g cap w' h2 h3 (by rcases h4 with rfl | rfl; exact .inl rfl; exact .inr (Nat.le_refl _))
end
set_option maxHeartbeats 8000000 in
set_option maxRecDepth 100000 in
theorem spoil_ok (m : Mt) (B U : Nat) (T' : List Tk) (w : World) (hB : B ≤ w.heap.size) (hUw : U ≤ w.heap.size) (hU : Hid (SpU U m T')) (hT : Hid (TkD T')) (hr : Hid (SpR B w m T' 0)) (hl : Hid (T'.length = m.tn)) (y1 : Hid ((m.sn + 4) * 88 ≤ 140737488355328)) (y2 : Hid ((m.en + 4) * 72 ≤ 140737488355328)) (y3 : Hid ((m.gn + 4) * 24 ≤ 140737488355328)) (y4 : Hid ((m.tn + 4) * 64 ≤ 140737488355328)) (yl : Hid (∀ (i : Nat) (x : Tk), T'[i]? = some x → x.l ≤ 8796093022208)) : Calls Try.prog 12 #[.agg (mtC m)] w fun e w' => Hid (e = .returned (.tuple #[]) ∧ Kq B U w w') := by
  have HS : Hid (SpI B U w (w.alloc (.cells (mtC m) 36)) m ∧ SpR B (w.alloc (.cells (mtC m) 36)) m T' 0) := by
    have hb := below_alloc1 w (.cells (mtC m) 36)
    obtain ⟨x1, x2, x3, Tt, R, q1, q2⟩ := hr.out
    exact ⟨⟨World.alloc_heap_new w _, (⟨rfl, rfl, rfl, Nat.le_refl _, fun _ _ _ => rfl⟩ : Kq B U w w).below hb, by simp⟩, x1, x2, x3, Tt, R.below hb, q1, q2.below hb⟩
  clear hr
  go_enter Try.func12, Try.ntmps12
  go_upto_region 2 with fail
  generalize w.alloc (.cells (mtC m) 36) = W0 at HS ⊢
  go_loopw [2] (fun i wr => ∃ k : Nat, k ≤ m.sn ∧ i = .int .i64 k ∧ Hid (SpI B U w wr m ∧ SpR B wr m T' 0)) (fun i _ => m.sn - (intOf i).toNat)
  case atStart => exact ⟨0, Nat.zero_le _, rfl, HS⟩
  case round =>
    obtain ⟨k, hk, rfl, HR⟩ := hrel
    clear HS
    have y11 := HR.out.1.bx.c 11 (.slice m.sp m.sn m.sc) rfl
    by_cases hlt : k < m.sn
    · obtain ⟨g, hpg⟩ : ∃ g, m.sp = some ⟨g, 0, none⟩ := by
        obtain ⟨x1, x2, x3, Tt, R, _⟩ := HR.out.2
        exact own_some R.o1 (by omega)
      have hnb : (m.sn : Int) ≤ 9223372036854775807 := by have := y1.out; omega
      obtain ⟨vc, hvc, hfc⟩ : ∃ vc, wr.cell? ⟨g, k * 9, none⟩ = some vc ∧ wr.frozen? ⟨g, k * 9, none⟩ = false := by
        obtain ⟨x1, x2, x3, Tt, R, _⟩ := HR.out.2
        have q := R.o1
        rw [hpg] at q
        have hq := q.cellAt (k * 9) (by omega)
        rw [List.getElem?_eq_getElem (by rw [q.1]; omega)] at hq
        exact ⟨_, hq, q.frozenAt _⟩
      have HP : Hid (m.sp = some ⟨g, 0, none⟩) := hpg
      rw [hpg] at y11
      clear hpg
      go_wp2
      go_roundw
      case rel => exact ⟨k + 1, by omega, by go_num, sp_put1 HR.out.1 HR.out.2 hU.out HP.out _ _⟩
      case measure => simp [intOf]; omega
    · have hnd : decide ((k : Int) < (m.sn : Int)) = false := by simp; omega
      have HS := HR
      clear HR
      go_upto_region 6 with fail
      clear y11 hnd
      go_loopw [3] (fun i wr => ∃ k : Nat, k ≤ m.en ∧ i = .int .i64 k ∧ Hid (SpI B U w wr m ∧ SpR B wr m T' 0)) (fun i _ => m.en - (intOf i).toNat)
      case atStart => exact ⟨0, Nat.zero_le _, rfl, HS⟩
      case round =>
        obtain ⟨k, hk, rfl, HR⟩ := hrel
        clear HS
        have y12 := HR.out.1.bx.c 12 (.slice m.ep m.en m.ec) rfl
        by_cases hlt : k < m.en
        · obtain ⟨g, hpg⟩ : ∃ g, m.ep = some ⟨g, 0, none⟩ := by
            obtain ⟨x1, x2, x3, Tt, R, _⟩ := HR.out.2
            exact own_some R.o2 (by omega)
          have hnb : (m.en : Int) ≤ 9223372036854775807 := by have := y2.out; omega
          obtain ⟨vc, hvc, hfc⟩ : ∃ vc, wr.cell? ⟨g, k * 5, none⟩ = some vc ∧ wr.frozen? ⟨g, k * 5, none⟩ = false := by
            obtain ⟨x1, x2, x3, Tt, R, _⟩ := HR.out.2
            have q := R.o2
            rw [hpg] at q
            have hq := q.cellAt (k * 5) (by omega)
            rw [List.getElem?_eq_getElem (by rw [q.1]; omega)] at hq
            exact ⟨_, hq, q.frozenAt _⟩
          have HP : Hid (m.ep = some ⟨g, 0, none⟩) := hpg
          rw [hpg] at y12
          clear hpg
          go_wp2
          go_roundw
          case rel => exact ⟨k + 1, by omega, by go_num, sp_put2 HR.out.1 HR.out.2 hU.out HP.out _ _⟩
          case measure => simp [intOf]; omega
        · have hnd : decide ((k : Int) < (m.en : Int)) = false := by simp; omega
          have HS := HR
          clear HR
          go_upto_region 10 with fail
          clear y12 hnd
          go_loopw [4] (fun i wr => ∃ k : Nat, k ≤ m.gn ∧ i = .int .i64 k ∧ Hid (SpI B U w wr m ∧ SpR B wr m T' 0)) (fun i _ => m.gn - (intOf i).toNat)
          case atStart => exact ⟨0, Nat.zero_le _, rfl, HS⟩
          case round =>
            obtain ⟨k, hk, rfl, HR⟩ := hrel
            clear HS
            have y13 := HR.out.1.bx.c 13 (.slice m.gp m.gn m.gc) rfl
            by_cases hlt : k < m.gn
            · obtain ⟨g, hpg⟩ : ∃ g, m.gp = some ⟨g, 0, none⟩ := by
                obtain ⟨x1, x2, x3, Tt, R, _⟩ := HR.out.2
                exact own_some R.o3 (by omega)
              have hnb : (m.gn : Int) ≤ 9223372036854775807 := by have := y3.out; omega
              obtain ⟨vc, hvc, hfc⟩ : ∃ vc, wr.cell? ⟨g, k * 3 + 2, none⟩ = some vc ∧ wr.frozen? ⟨g, k * 3 + 2, none⟩ = false := by
                obtain ⟨x1, x2, x3, Tt, R, _⟩ := HR.out.2
                have q := R.o3
                rw [hpg] at q
                have hq := q.cellAt (k * 3 + 2) (by omega)
                rw [List.getElem?_eq_getElem (by rw [q.1]; omega)] at hq
                exact ⟨_, hq, q.frozenAt _⟩
              have HP : Hid (m.gp = some ⟨g, 0, none⟩) := hpg
              rw [hpg] at y13
              clear hpg
              go_wp2
              go_roundw
              case rel => exact ⟨k + 1, by omega, by go_num, sp_put3 HR.out.1 HR.out.2 hU.out HP.out _ _⟩
              case measure => simp [intOf]; omega
            · have hnd : decide ((k : Int) < (m.gn : Int)) = false := by simp; omega
              have HS := HR
              clear HR
              go_upto_region 14 with fail
              clear y13 hnd
              go_loopw [5] (fun i wr => ∃ k : Nat, k ≤ m.tn ∧ i = .int .i64 k ∧ Hid (SpI B U w wr m ∧ SpR B wr m T' k)) (fun i _ => m.tn - (intOf i).toNat)
              case atStart => exact ⟨0, Nat.zero_le _, rfl, HS⟩
              case round =>
                obtain ⟨k, hk, rfl, HR⟩ := hrel
                clear HS
                have y26 := HR.out.1.bx.c 26 (.slice m.tp m.tn m.tc) rfl
                by_cases hlt : k < m.tn
                · obtain ⟨g, hpg⟩ : ∃ g, m.tp = some ⟨g, 0, none⟩ := by
                    obtain ⟨x1, x2, x3, Tt, R, _⟩ := HR.out.2
                    exact own_some R.o4 (by omega)
                  have hnb : (m.tn : Int) ≤ 9223372036854775807 := by have := y4.out; omega
                  obtain ⟨y, hy⟩ : ∃ y, T'[k]? = some y := ⟨T'[k]'(by have := hl.out; omega), List.getElem?_eq_getElem _⟩
                  obtain ⟨zs, a2, ho⟩ : ∃ zs, wr.cell? ⟨g, k * 4 + 2, none⟩ = some (.slice y.p y.l y.c) ∧ wr.ownsRow B 3 1 (.slice y.p y.l y.c) y.l (cellsI zs) := by
                    obtain ⟨x1, x2, x3, Tt, R, hl', hq⟩ := HR.out.2
                    obtain ⟨x, hx⟩ : ∃ x, Tt[k]? = some x := ⟨Tt[k]'(by omega), List.getElem?_eq_getElem _⟩
                    obtain ⟨e1, e2, e3, zs, ho⟩ := hq k x y (Nat.le_refl _) hx hy
                    have q := R.o4
                    rw [hpg] at q
                    obtain ⟨ba, oa, hpa, _, ca⟩ := (rv_own (rest := []) tkL_len (by rw [List.append_nil]; exact q)).get hx
                    simp only [Option.some.injEq, Addr.mk.injEq] at hpa
                    obtain ⟨rfl, rfl, _⟩ := hpa
                    refine ⟨zs, ?_, ho⟩
                    have q2 := ca 2 _ rfl
                    rw [e1, e2, e3] at q2
                    simpa using q2
                  have HP : Hid (m.tp = some ⟨g, 0, none⟩) := hpg
                  have HY : Hid (T'[k]? = some y) := hy
                  have HO : Hid (wr.ownsRow B 3 1 (.slice y.p y.l y.c) y.l (cellsI zs)) := ho
                  have hBr : B ≤ wr.heap.size := Nat.le_trans hB HR.out.1.kq.size
                  have HC : Hid (Calls Try.prog 34 #[.slice y.p y.l y.c] wr fun e w' => e = .returned (.tuple #[]) ∧ wr.grownBy w' (Value.slice y.p y.l y.c).ownBlock) := spoilI_any B y.l _ zs wr (yl.out k y hy) hBr ho
                  rw [hpg] at y26
                  clear hpg hy ho
                  go_upto_region 17 with (go_at_call 34; refine HC.out.mono ?_; rintro e5 u ⟨rfl, hgu⟩)
                  have HS2 : Hid (SpI B U w u m ∧ SpR B u m T' (k + 1)) := sp_call HR.out.1 HR.out.2 hU.out hT.out HY.out HO.out hgu
                  clear HR HC HO hgu y26 a2
                  have y26 := HS2.out.1.bx.c 26 (.slice m.tp m.tn m.tc) rfl
                  rw [HP.out] at y26
                  obtain ⟨vc, hvc, hfc⟩ : ∃ vc, u.cell? ⟨g, k * 4 + 1, none⟩ = some vc ∧ u.frozen? ⟨g, k * 4 + 1, none⟩ = false := by
                    obtain ⟨x1, x2, x3, Tt, R, _⟩ := HS2.out.2
                    have q := R.o4
                    rw [HP.out] at q
                    have hq := q.cellAt (k * 4 + 1) (by omega)
                    rw [List.getElem?_eq_getElem (by rw [q.1]; omega)] at hq
                    exact ⟨_, hq, q.frozenAt _⟩
                  go_wp2
                  go_roundw
                  case rel => exact ⟨k + 1, by omega, by go_num, sp_put4 (i := 0) HS2.out.1 HS2.out.2 hU.out HP.out hlt _⟩
                  case measure => simp [intOf]; omega
                · have hnd : decide ((k : Int) < (m.tn : Int)) = false := by simp; omega
                  obtain ⟨x1, x2, x3, Tt, R, _⟩ := HR.out.2
                  have HI : Hid (SpI B U w wr m) := HR.out.1
                  have S1 : Hid (wr.ownsRow B 63 9 (.slice m.sp m.sn m.sc) m.sn x1) := R.o1
                  have S2 : Hid (wr.ownsRow B 38 5 (.slice m.ep m.en m.ec) m.en x2) := R.o2
                  have S3 : Hid (wr.ownsRow B 65 3 (.slice m.gp m.gn m.gc) m.gn x3) := R.o3
                  have S4 : Hid (wr.ownsRow B 61 4 (.slice m.tp m.tn m.tc) m.tn (Tt.flatMap tkL)) := R.o4
                  clear HR R
                  go_upto_region 18 with fail
                  clear y26 hnd
                  obtain ⟨i47, hi47, hz470, hz471, hz472⟩ := info_parts info47
                  have Hi47 : Hid (_ ∧ _ ∧ _ ∧ _) := ⟨hi47, hz470, hz471, hz472⟩
                  clear hi47 hz470 hz471 hz472
                  obtain ⟨i49, hi49, hz490, hz491, hz492⟩ := info_parts info49
                  have Hi49 : Hid (_ ∧ _ ∧ _ ∧ _) := ⟨hi49, hz490, hz491, hz492⟩
                  clear hi49 hz490 hz491 hz492
                  obtain ⟨i51, hi51, hz510, hz511, hz512⟩ := info_parts info51
                  have Hi51 : Hid (_ ∧ _ ∧ _ ∧ _) := ⟨hi51, hz510, hz511, hz512⟩
                  clear hi51 hz510 hz511 hz512
                  obtain ⟨i45, hi45, hz450, hz451, hz452⟩ := info_parts info45
                  have Hi45 : Hid (_ ∧ _ ∧ _ ∧ _) := ⟨hi45, hz450, hz451, hz452⟩
                  clear hi45 hz450 hz451 hz452
                  have y11 := HI.out.bx.c 11 (.slice m.sp m.sn m.sc) rfl
                  have HSZ : Hid (w.heap.size ≤ wr.heap.size) := HI.out.kq.size
                  have hBr1 : B ≤ wr.heap.size := Nat.le_trans hB HI.out.kq.size
                  go_upto_region 19 with (at_builtin; go_must (refine wpList_append_in (by rfl) (.tmp 66) (.tmp 71) 27 (by rfl) 63 i47 _ 9 88 Try.underlying27 Hi47.out.1 Hi47.out.2.1 Hi47.out.2.2.1 Hi47.out.2.2.2 rfl (by decide) sloL_len sloL_one B m.sn (.slice m.sp m.sn m.sc) x1 rfl (S1.out.alloc _) wr.heap.size 3 [(⟨-8, 0, 0, 0, ⟨#[]⟩, ⟨#[]⟩, 0, 0, 0⟩ : Slo), (⟨-9, 0, 0, 0, ⟨#[]⟩, ⟨#[]⟩, 0, 0, 0⟩ : Slo), (⟨0, 0, 0, 0, ⟨#[]⟩, ⟨#[]⟩, 0, 0, 0⟩ : Slo), (⟨0, 0, 0, 0, ⟨#[]⟩, ⟨#[]⟩, 0, 0, 0⟩ : Slo)] rfl rfl (rv_lit sloL_len (World.alloc_heap_new wr _)) (by have := y1.out; unfold maxLen; omega) (by have := y1.out; omega) (by simp; omega) ?_); intro g1 k1 V1 ho1 hg1 hd1)
                  have HI1 : Hid (SpI B U w V1 m) := (HI.out.below (below_alloc1 wr _)).grown hg1 (fun i e => ⟨(S1.out.lt i e).1, .inl (hU.out.u1 i e), fun q => own_bx HI.out.bx (by decide) S1.out (by rw [e, q])⟩)
                  have S2n : Hid (V1.ownsRow B 38 5 (.slice m.ep m.en m.ec) m.en x2) := own_grown (own_keep S2.out (below_alloc1 wr _)) hg1 (own_apart S2.out S1.out (by decide))
                  have S3n : Hid (V1.ownsRow B 65 3 (.slice m.gp m.gn m.gc) m.gn x3) := own_grown (own_keep S3.out (below_alloc1 wr _)) hg1 (own_apart S3.out S1.out (by decide))
                  have S4n : Hid (V1.ownsRow B 61 4 (.slice m.tp m.tn m.tc) m.tn (Tt.flatMap tkL)) := own_grown (own_keep S4.out (below_alloc1 wr _)) hg1 (own_apart S4.out S1.out (by decide))
                  clear HI y11 S2 S3 S4 S1
                  obtain ⟨X1, hX1⟩ : ∃ X1, Hid (V1.ownsRow B 63 9 (.slice (some ⟨g1, 0, none⟩) (m.sn + (3 + 1)) k1) (m.sn + (3 + 1)) X1) := ⟨_, ho1⟩
                  have S1 := hX1
                  clear hX1
                  have HD1 : Hid (B ≤ g1 ∧ (g1 < U ∨ w.heap.size ≤ g1)) := ⟨(ho1.lt g1 rfl).1, by rcases hd1 with q | q; exact .inl (hU.out.u1 g1 q); exact .inr (by have := HI1.out.sz; have := hBr1; simp at q; have := HSZ.out; omega)⟩
                  have S2 := S2n
                  have S3 := S3n
                  have S4 := S4n
                  clear hg1 hd1 ho1
                  have HI := HI1
                  clear HI1 S2n S3n S4n
                  have y12 := HI.out.bx.c 12 (.slice m.ep m.en m.ec) rfl
                  have hBr2 : B ≤ V1.heap.size := Nat.le_trans hB HI.out.kq.size
                  go_upto_region 20 with (at_builtin; go_must (refine wpList_append_in (by rfl) (.tmp 74) (.tmp 79) 28 (by rfl) 38 i49 _ 5 72 Try.underlying28 Hi49.out.1 Hi49.out.2.1 Hi49.out.2.2.1 Hi49.out.2.2.2 rfl (by decide) epoL_len epoL_one B m.en (.slice m.ep m.en m.ec) x2 rfl (S2.out.alloc _) V1.heap.size 3 [(⟨78, ⟨#[]⟩, ⟨#[]⟩, ⟨#[]⟩, ⟨#[]⟩⟩ : Epo), (⟨79, ⟨#[]⟩, ⟨#[]⟩, ⟨#[]⟩, ⟨#[]⟩⟩ : Epo), (⟨0, ⟨#[]⟩, ⟨#[]⟩, ⟨#[]⟩, ⟨#[]⟩⟩ : Epo), (⟨0, ⟨#[]⟩, ⟨#[]⟩, ⟨#[]⟩, ⟨#[]⟩⟩ : Epo)] rfl rfl (rv_lit epoL_len (World.alloc_heap_new V1 _)) (by have := y2.out; unfold maxLen; omega) (by have := y2.out; omega) (by simp; omega) ?_); intro g2 k2 V2 ho2 hg2 hd2)
                  have HI2 : Hid (SpI B U w V2 m) := (HI.out.below (below_alloc1 V1 _)).grown hg2 (fun i e => ⟨(S2.out.lt i e).1, .inl (hU.out.u2 i e), fun q => own_bx HI.out.bx (by decide) S2.out (by rw [e, q])⟩)
                  have S1n : Hid (V2.ownsRow B 63 9 (.slice (some ⟨g1, 0, none⟩) (m.sn + (3 + 1)) k1) (m.sn + (3 + 1)) X1) := own_grown (own_keep S1.out (below_alloc1 V1 _)) hg2 (own_apart S1.out S2.out (by decide))
                  have S3n : Hid (V2.ownsRow B 65 3 (.slice m.gp m.gn m.gc) m.gn x3) := own_grown (own_keep S3.out (below_alloc1 V1 _)) hg2 (own_apart S3.out S2.out (by decide))
                  have S4n : Hid (V2.ownsRow B 61 4 (.slice m.tp m.tn m.tc) m.tn (Tt.flatMap tkL)) := own_grown (own_keep S4.out (below_alloc1 V1 _)) hg2 (own_apart S4.out S2.out (by decide))
                  clear HI y12 S1 S2 S3 S4
                  have S1 := S1n
                  have S3 := S3n
                  have S4 := S4n
                  clear hg2 hd2 ho2
                  have HI := HI2
                  clear HI2 S1n S3n S4n
                  have y13 := HI.out.bx.c 13 (.slice m.gp m.gn m.gc) rfl
                  have hBr3 : B ≤ V2.heap.size := Nat.le_trans hB HI.out.kq.size
                  go_upto_region 21 with (at_builtin; go_must (refine wpList_append_in (by rfl) (.tmp 82) (.tmp 87) 29 (by rfl) 65 i51 _ 3 24 Try.underlying29 Hi51.out.1 Hi51.out.2.1 Hi51.out.2.2.1 Hi51.out.2.2.2 rfl (by decide) sgZ_len sgZ_one B m.gn (.slice m.gp m.gn m.gc) x3 rfl (S3.out.alloc _) V2.heap.size 3 [((0, 0, 778) : Int × Int × Int), ((0, 0, 779) : Int × Int × Int), ((0, 0, 0) : Int × Int × Int), ((0, 0, 0) : Int × Int × Int)] rfl rfl (rv_lit sgZ_len (World.alloc_heap_new V2 _)) (by have := y3.out; unfold maxLen; omega) (by have := y3.out; omega) (by simp; omega) ?_); intro g3 k3 V3 ho3 hg3 hd3)
                  have HI3 : Hid (SpI B U w V3 m) := (HI.out.below (below_alloc1 V2 _)).grown hg3 (fun i e => ⟨(S3.out.lt i e).1, .inl (hU.out.u3 i e), fun q => own_bx HI.out.bx (by decide) S3.out (by rw [e, q])⟩)
                  have S1n : Hid (V3.ownsRow B 63 9 (.slice (some ⟨g1, 0, none⟩) (m.sn + (3 + 1)) k1) (m.sn + (3 + 1)) X1) := own_grown (own_keep S1.out (below_alloc1 V2 _)) hg3 (own_apart S1.out S3.out (by decide))
                  have S4n : Hid (V3.ownsRow B 61 4 (.slice m.tp m.tn m.tc) m.tn (Tt.flatMap tkL)) := own_grown (own_keep S4.out (below_alloc1 V2 _)) hg3 (own_apart S4.out S3.out (by decide))
                  clear HI y13 S1 S3 S4
                  have S1 := S1n
                  have S4 := S4n
                  clear hg3 hd3 ho3
                  have HI := HI3
                  clear HI3 S1n S4n
                  have y26 := HI.out.bx.c 26 (.slice m.tp m.tn m.tc) rfl
                  have hBr4 : B ≤ V3.heap.size := Nat.le_trans hB HI.out.kq.size
                  go_upto_region 22 with (at_builtin; go_must (refine wpList_append_in (by rfl) (.tmp 90) (.tmp 95) 34 (by rfl) 61 i45 _ 4 64 Try.underlying34 Hi45.out.1 Hi45.out.2.1 Hi45.out.2.2.1 Hi45.out.2.2.2 rfl (by decide) tkL_len tkL_one B m.tn (.slice m.tp m.tn m.tc) (Tt.flatMap tkL) rfl (S4.out.alloc _) V3.heap.size 3 [(⟨-8, ⟨#[]⟩, none, 0, 0, ⟨#[]⟩⟩ : Tk), (⟨-9, ⟨#[]⟩, none, 0, 0, ⟨#[]⟩⟩ : Tk), (⟨0, ⟨#[]⟩, none, 0, 0, ⟨#[]⟩⟩ : Tk), (⟨0, ⟨#[]⟩, none, 0, 0, ⟨#[]⟩⟩ : Tk)] rfl rfl (rv_lit tkL_len (World.alloc_heap_new V3 _)) (by have := y4.out; unfold maxLen; omega) (by have := y4.out; omega) (by simp; omega) ?_); intro g4 k4 V4 ho4 hg4 hd4)
                  have HI4 : Hid (SpI B U w V4 m) := (HI.out.below (below_alloc1 V3 _)).grown hg4 (fun i e => ⟨(S4.out.lt i e).1, .inl (hU.out.u4 i e), fun q => own_bx HI.out.bx (by decide) S4.out (by rw [e, q])⟩)
                  have S1n : Hid (V4.ownsRow B 63 9 (.slice (some ⟨g1, 0, none⟩) (m.sn + (3 + 1)) k1) (m.sn + (3 + 1)) X1) := own_grown (own_keep S1.out (below_alloc1 V3 _)) hg4 (own_apart S1.out S4.out (by decide))
                  clear HI y26 S1 S4
                  have S1 := S1n
                  clear hg4 hd4 ho4
                  have HI := HI4
                  clear HI4 S1n
                  have hob := S1.out
                  obtain ⟨vc, hvc⟩ : ∃ vc, V4.cell? ⟨g1, (m.sn + 3) * 9, none⟩ = some vc := by
                    have hq := hob.cellAt ((m.sn + 3) * 9) (by omega)
                    rw [List.getElem?_eq_getElem (by rw [hob.1]; omega)] at hq
                    exact ⟨_, hq⟩
                  have hfc : V4.frozen? ⟨g1, (m.sn + 3) * 9, none⟩ = false := hob.frozenAt _
                  have n1 : m.sn ≤ 1599289640401 := by have := y1.out; omega
                  have n2 : m.en ≤ 1954687338268 := by have := y2.out; omega
                  have n3 : m.gn ≤ 5864062014805 := by have := y3.out; omega
                  have n4 : m.tn ≤ 2199023255552 := by have := y4.out; omega
                  clear hob
                  go_wp2
                  go_end0
                  exact ⟨rfl, HI.out.kq.grown (grown_of_stay ((Stay.refl g1 V4).set _ _)) (fun j e => by cases e; exact HD1.out)⟩
end Go.Proofs.Ytmfnhdflmnmooaa
