import Derived.Test.YtmfnhdflmnmooaaCpy
import Derived.Deep.AppendLies
import Derived.Test.YtmfnhdflmnmooaaTill
namespace Go.Proofs.Ytmfnhdflmnmooaa
open Go.RowKit
set_option linter.unusedVariables false
set_option linter.unusedSimpArgs false
/-- Four rows that the call owns. -/
structure R4 (B : Nat) (W : World) (v1 v2 v3 v4 : Value) (n1 n2 n3 n4 : Nat) (x1 x2 x3 x4 : List Value) : Prop where
  o1 : W.ownsRow B 63 9 v1 n1 x1
  o2 : W.ownsRow B 38 5 v2 n2 x2
  o3 : W.ownsRow B 65 3 v3 n3 x3
  o4 : W.ownsRow B 61 4 v4 n4 x4
theorem R4.below {B : Nat} {W W' : World} {v1 v2 v3 v4 : Value} {n1 n2 n3 n4 : Nat} {x1 x2 x3 x4 : List Value} (h : R4 B W v1 v2 v3 v4 n1 n2 n3 n4 x1 x2 x3 x4) (hb : Below W.heap.size W W') : R4 B W' v1 v2 v3 v4 n1 n2 n3 n4 x1 x2 x3 x4 := ⟨own_keep h.o1 hb, own_keep h.o2 hb, own_keep h.o3 hb, own_keep h.o4 hb⟩
theorem R4.stay {B b : Nat} {W W' : World} {v1 v2 v3 v4 : Value} {n1 n2 n3 n4 : Nat} {x1 x2 x3 x4 : List Value} (h : R4 B W v1 v2 v3 v4 n1 n2 n3 n4 x1 x2 x3 x4) (s : Stay b W W') (hb : ∀ {e sz n : Nat} {v : Value} {xs : List Value}, e ≠ 36 → W.ownsRow B e sz v n xs → v.ownBlock ≠ some b) : R4 B W' v1 v2 v3 v4 n1 n2 n3 n4 x1 x2 x3 x4 := ⟨own_stay h.o1 s (hb (by decide) h.o1), own_stay h.o2 s (hb (by decide) h.o2), own_stay h.o3 s (hb (by decide) h.o3), own_stay h.o4 s (hb (by decide) h.o4)⟩
/-- A box of metadata is no such row. -/
theorem own_bx {B : Nat} {W : World} {b : Nat} {m : Mt} (hb : Bx W b m) {e sz n : Nat} {v : Value} {xs : List Value} (he : e ≠ 36) (h : W.ownsRow B e sz v n xs) : v.ownBlock ≠ some b := by
  intro q
  rcases h.2 with ⟨rfl, _⟩ | ⟨g, c, cur, rfl, _, hh, _⟩
  · simp [Value.ownBlock] at q
  · simp only [Value.ownBlock, Option.some.injEq] at q
    subst q
    rw [show W.heap[g]? = _ from hb] at hh
    simp at hh
    exact he hh.2.symm
/-- The three variables of roomy. -/
structure RmS (w W : World) (bc : Nat) (m n2 : Mt) : Prop where
  bx : Bx W w.heap.size m
  rs : W.heap[w.heap.size + 1]? = some (.cells mt0 36 (0, 0))
  bn : Bx W bc n2
  bel : Below w.heap.size w W
  lo : w.heap.size + 2 ≤ bc
theorem Bx.lt {W : World} {b : Nat} {m : Mt} (h : Bx W b m) : b < W.heap.size := (Array.getElem?_eq_some_iff.1 h).1
theorem RmS.below {w W W' : World} {bc : Nat} {m n2 : Mt} (h : RmS w W bc m n2) (s : Below W.heap.size W W') : RmS w W' bc m n2 := by
  have h1 := h.bn.lt
  have h2 := h.lo
  exact ⟨h.bx.below s, (s.block _ (by omega)).trans h.rs, h.bn.below s, h.bel.trans (s.mono (by omega)), h.lo⟩
theorem RmS.grown {w W W' : World} {bc : Nat} {m n2 : Mt} {row : Option Nat} (h : RmS w W bc m n2) (g : W.grownBy W' row) (hr : ∀ j, row = some j → w.heap.size + 2 ≤ j ∧ j ≠ bc) : RmS w W' bc m n2 := by
  have h1 := h.bn.lt
  have h2 := h.lo
  have key : ∀ b, b < w.heap.size + 2 ∨ b = bc → W'.heap[b]? = W.heap[b]? := fun b hb => g.block b (by omega) (fun e => by have := hr b e.symm; omega)
  exact ⟨(key _ (.inl (by omega))).trans h.bx, (key _ (.inl (by omega))).trans h.rs, (key _ (.inr rfl)).trans h.bn, h.bel.grown g (by omega) (fun j e => by have := hr j e; omega), h.lo⟩
theorem RmS.put {w W W' : World} {bc : Nat} {m n2 n3 : Mt} (h : RmS w W bc m n2) (s : Stay bc W W') (hn : Bx W' bc n3) : RmS w W' bc m n3 := by
  have h1 := h.bn.lt
  have h2 := h.lo
  exact ⟨(s.block _ (by omega) (by omega)).trans h.bx, (s.block _ (by omega) (by omega)).trans h.rs, hn, h.bel.trans (s.below (by omega) (by omega)), h.lo⟩
/-- Tokens between two rounds: the first k bear marks. -/
def TkH (B : Nat) (w wr : World) (k : Nat) (T' T : List Tk) : Prop := ∀ (i : Nat) (x y : Tk), T'[i]? = some x → T[i]? = some y → x.n = y.n ∧ x.s = y.s ∧ x.z = y.z ∧ ∃ zs, View w (.slice y.p y.l y.c) zs ∧ (i < k → Marked B wr (.slice x.p x.l x.c) zs) ∧ (k ≤ i → wr.ownsRow B 3 1 (.slice x.p x.l x.c) x.l (cellsI zs) ∧ zs.length = x.l)
theorem TkO.first {B : Nat} {w wr : World} {T' T : List Tk} (h : TkO B w wr T' T) : TkH B w wr 0 T' T := fun i x y hx hy => by
  obtain ⟨a, b, c, zs, ho, hl, hv⟩ := h i x y hx hy
  exact ⟨a, b, c, zs, hv, fun h => by omega, fun _ => ⟨ho, hl⟩⟩
theorem own_view {B : Nat} {w : World} {v : Value} {n : Nat} {zs : List Int} (h : w.ownsRow B 3 1 v n (cellsI zs)) (hl : zs.length = n) : View w v zs := by
  subst hl
  rcases h.2 with ⟨rfl, h0⟩ | ⟨g, c, cur, rfl, hB, hh, h1, h2, h3, h4⟩
  · have : zs = [] := List.length_eq_zero_iff.1 h0
    subst this
    exact ⟨none, 0, rfl, Nat.le_refl _, by unfold maxLen; omega, fun _ => rfl, .inl rfl⟩
  · refine ⟨_, c, rfl, h1, h2, (fun q => by cases q), .inr ⟨g, 0, rfl, fun i hi => ?_⟩⟩
    have hc := h.cells (g := g) rfl i (.int .i64 (zs.getD i 0)) (by
      simp only [cellsI, List.getElem?_map]
      simp [List.getElem?_eq_getElem hi, List.getD])
    rw [Addr.add_lit] at hc
    simpa using hc
theorem Marked.grown {B : Nat} {w w' : World} {v : Value} {zs : List Int} {row : Option Nat} (h : Marked B w v zs) (hg : w.grownBy w' row) (hr : ∀ {sz n : Nat} {v : Value} {xs : List Value}, w.ownsRow B 3 sz v n xs → v.ownBlock = none ∨ v.ownBlock ≠ row) : Marked B w' v zs := by
  obtain ⟨p, c, rfl, ho⟩ := h
  exact ⟨p, c, rfl, ho.kept hg (hr ho)⟩
theorem TkH.grown {B k : Nat} {w u u' : World} {T' T : List Tk} {row : Option Nat} (h : TkH B w u k T' T) (hg : u.grownBy u' row) (hr : ∀ {sz n : Nat} {v : Value} {xs : List Value}, u.ownsRow B 3 sz v n xs → v.ownBlock = none ∨ v.ownBlock ≠ row) : TkH B w u' k T' T := fun i x y hx hy => by
  obtain ⟨a, b, c, zs, hv, h1, h2⟩ := h i x y hx hy
  exact ⟨a, b, c, zs, hv, fun hi => (h1 hi).grown hg hr, fun hi => ⟨(h2 hi).1.kept hg (hr (h2 hi).1), (h2 hi).2⟩⟩
theorem grown_of_below {u u' : World} (hb : Below u.heap.size u u') (row : Option Nat) : u.grownBy u' row := ⟨hb.os, hb.tape, hb.output, hb.size, fun k hk _ => hb.block k hk⟩
theorem grown_of_stay {u u' : World} {b : Nat} (s : Stay b u u') : u.grownBy u' (some b) := ⟨s.os, s.tape, s.output, s.size, fun j hj hn => s.block j hj (fun e => hn (by rw [e]))⟩
theorem TkH.below {B k : Nat} {w u u' : World} {T' T : List Tk} (h : TkH B w u k T' T) (hb : Below u.heap.size u u') : TkH B w u' k T' T := h.grown (row := none) (grown_of_below hb none) (fun {sz n v xs} _ => by cases v.ownBlock <;> simp)
theorem flat_set (l : List Tk) (k : Nat) (x : Tk) (p : Option Addr) (q c : Nat) (r : List Value) (hx : l[k]? = some x) : (l.flatMap tkL ++ r).set (k * 4 + 2) (.slice p q c) = (l.set k { x with p := p, l := q, c := c }).flatMap tkL ++ r := by
  induction l generalizing k with
  | nil => simp at hx
  | cons y l ih =>
    cases k with
    | zero =>
      simp at hx
      subst hx
      simp [tkL]
    | succ k =>
      have := ih k (by simpa using hx)
      rw [List.set_cons_succ, List.flatMap_cons, List.flatMap_cons, List.append_assoc, List.append_assoc, ← this, List.set_append_right _ _ (by rw [tkL_len, Nat.succ_mul]; omega), tkL_len, show (k + 1) * 4 + 2 - 4 = k * 4 + 2 by omega]
theorem view_same {w : World} {v : Value} {zs zs' : List Int} (h : View w v zs) (h' : View w v zs') : zs = zs' := by
  obtain ⟨a, c, hv, h1, h2, h3, h4⟩ := h
  obtain ⟨a', c', hv', h1', h2', h3', h4'⟩ := h'
  rw [hv] at hv'
  simp only [Value.slice.injEq] at hv'
  obtain ⟨rfl, hl, rfl⟩ := hv'
  refine ext_getD rfl hl.symm (fun j hj => ?_)
  rcases h4 with h4 | ⟨b, off, rfl, hc⟩
  · rw [h4] at hj; simp at hj
  · rcases h4' with h4' | ⟨b', off', e, hc'⟩
    · rw [h4'] at hl; simp at hl; rw [hl] at hj; simp at hj
    · simp only [Option.some.injEq, Addr.mk.injEq] at e
      obtain ⟨rfl, rfl, _⟩ := e
      have q := hc j hj
      rw [hc' j (by omega)] at q
      simpa using q.symm
theorem TkH.back {B k : Nat} {w w0 u : World} {T' T : List Tk} (h : TkH B w0 u k T' T) (hb : ∀ k, k < w.heap.size → w0.heap[k]? = w.heap[k]?) (tV : ∀ (i : Nat) (x : Tk), T[i]? = some x → ∃ zs, View w (.slice x.p x.l x.c) zs) : TkH B w u k T' T := fun i x y hx hy => by
  obtain ⟨a, b, c, zs, hv, h1, h2⟩ := h i x y hx hy
  obtain ⟨zs', hv'⟩ := tV i y hy
  have e := view_same hv (hv'.kept hb)
  subst e
  exact ⟨a, b, c, zs, hv', h1, h2⟩
theorem R4.app1 {B : Nat} {W W1 U : World} {v1 v2 v3 v4 v' : Value} {n1 n2 n3 n4 n' : Nat} {x1 x2 x3 x4 x' : List Value} (h : R4 B W v1 v2 v3 v4 n1 n2 n3 n4 x1 x2 x3 x4) (hb : Below W.heap.size W W1) (hg : W1.grownBy U v1.ownBlock) (ho : U.ownsRow B 63 9 v' n' x') : R4 B U v' v2 v3 v4 n' n2 n3 n4 x' x2 x3 x4 := ⟨ho, own_grown (own_keep h.o2 hb) hg (own_apart (own_keep h.o2 hb) (own_keep h.o1 hb) (by decide)), own_grown (own_keep h.o3 hb) hg (own_apart (own_keep h.o3 hb) (own_keep h.o1 hb) (by decide)), own_grown (own_keep h.o4 hb) hg (own_apart (own_keep h.o4 hb) (own_keep h.o1 hb) (by decide))⟩
theorem R4.app2 {B : Nat} {W W1 U : World} {v1 v2 v3 v4 v' : Value} {n1 n2 n3 n4 n' : Nat} {x1 x2 x3 x4 x' : List Value} (h : R4 B W v1 v2 v3 v4 n1 n2 n3 n4 x1 x2 x3 x4) (hb : Below W.heap.size W W1) (hg : W1.grownBy U v2.ownBlock) (ho : U.ownsRow B 38 5 v' n' x') : R4 B U v1 v' v3 v4 n1 n' n3 n4 x1 x' x3 x4 := ⟨own_grown (own_keep h.o1 hb) hg (own_apart (own_keep h.o1 hb) (own_keep h.o2 hb) (by decide)), ho, own_grown (own_keep h.o3 hb) hg (own_apart (own_keep h.o3 hb) (own_keep h.o2 hb) (by decide)), own_grown (own_keep h.o4 hb) hg (own_apart (own_keep h.o4 hb) (own_keep h.o2 hb) (by decide))⟩
theorem R4.app3 {B : Nat} {W W1 U : World} {v1 v2 v3 v4 v' : Value} {n1 n2 n3 n4 n' : Nat} {x1 x2 x3 x4 x' : List Value} (h : R4 B W v1 v2 v3 v4 n1 n2 n3 n4 x1 x2 x3 x4) (hb : Below W.heap.size W W1) (hg : W1.grownBy U v3.ownBlock) (ho : U.ownsRow B 65 3 v' n' x') : R4 B U v1 v2 v' v4 n1 n2 n' n4 x1 x2 x' x4 := ⟨own_grown (own_keep h.o1 hb) hg (own_apart (own_keep h.o1 hb) (own_keep h.o3 hb) (by decide)), own_grown (own_keep h.o2 hb) hg (own_apart (own_keep h.o2 hb) (own_keep h.o3 hb) (by decide)), ho, own_grown (own_keep h.o4 hb) hg (own_apart (own_keep h.o4 hb) (own_keep h.o3 hb) (by decide))⟩
theorem R4.app4 {B : Nat} {W W1 U : World} {v1 v2 v3 v4 v' : Value} {n1 n2 n3 n4 n' : Nat} {x1 x2 x3 x4 x' : List Value} (h : R4 B W v1 v2 v3 v4 n1 n2 n3 n4 x1 x2 x3 x4) (hb : Below W.heap.size W W1) (hg : W1.grownBy U v4.ownBlock) (ho : U.ownsRow B 61 4 v' n' x') : R4 B U v1 v2 v3 v' n1 n2 n3 n' x1 x2 x3 x' := ⟨own_grown (own_keep h.o1 hb) hg (own_apart (own_keep h.o1 hb) (own_keep h.o4 hb) (by decide)), own_grown (own_keep h.o2 hb) hg (own_apart (own_keep h.o2 hb) (own_keep h.o4 hb) (by decide)), own_grown (own_keep h.o3 hb) hg (own_apart (own_keep h.o3 hb) (own_keep h.o4 hb) (by decide)), ho⟩
theorem TkH.app {B k : Nat} {w W W1 U : World} {T' T : List Tk} {e sz n : Nat} {v : Value} {xs : List Value} (h : TkH B w W k T' T) (hb : Below W.heap.size W W1) (hg : W1.grownBy U v.ownBlock) (ho : W.ownsRow B e sz v n xs) (he : 3 ≠ e) : TkH B w U k T' T := (h.below hb).grown hg (fun h3 => own_apart h3 (own_keep ho hb) he)
theorem TkH.put {B k : Nat} {w W U : World} {T' T : List Tk} {b : Nat} {m : Mt} (h : TkH B w W k T' T) (hb : Bx W b m) (s : Stay b W U) : TkH B w U k T' T := h.grown (grown_of_stay s) (fun h3 => .inr (own_bx hb (by decide) h3))
/-- Between two rounds. -/
def RmR (B : Nat) (w w0 wr : World) (bc : Nat) (m : Mt) (g1 k1 g2 k2 g3 k3 g4 k4 k : Nat) (SL : List Slo) (EL : List Epo) (GL : List (Int × Int × Int)) (T : List Tk) : Prop :=
  RmS w wr bc m (cpM m g1 k1 g2 k2 g3 k3 (some ⟨g4, 0, none⟩) m.tn k4) ∧ ∃ T' : List Tk, T'.length = m.tn ∧ R4 B wr (.slice (some ⟨g1, 0, none⟩) (m.sn + 2) k1) (.slice (some ⟨g2, 0, none⟩) (m.en + 2) k2) (.slice (some ⟨g3, 0, none⟩) (m.gn + 2) k3) (.slice (some ⟨g4, 0, none⟩) (m.tn + 2) k4) (m.sn + 2) (m.en + 2) (m.gn + 2) (m.tn + 2) (SL.flatMap sloL ++ [mkA27, mkB27].flatMap sloL) (EL.flatMap epoL ++ [mkA28, mkB28].flatMap epoL) (GL.flatMap sgZ ++ [mkA29, mkB29].flatMap sgZ) (T'.flatMap tkL ++ [mkA34, mkB34].flatMap tkL) ∧ TkH B w0 wr k T' T
/-- What roomy answers. -/
def RmP (w : World) (m : Mt) (SL : List Slo) (EL : List Epo) (GL : List (Int × Int × Int)) (T : List Tk) (e : Ending) (w' : World) : Prop := ∃ (g1 k1 g2 k2 g3 k3 g4 k4 : Nat) (T' : List Tk), e = .returned (.agg (mtC (cpM m g1 k1 g2 k2 g3 k3 (some ⟨g4, 0, none⟩) m.tn k4))) ∧ T'.length = m.tn ∧ R4 (w.heap.size + 2) w' (.slice (some ⟨g1, 0, none⟩) (m.sn + 2) k1) (.slice (some ⟨g2, 0, none⟩) (m.en + 2) k2) (.slice (some ⟨g3, 0, none⟩) (m.gn + 2) k3) (.slice (some ⟨g4, 0, none⟩) (m.tn + 2) k4) (m.sn + 2) (m.en + 2) (m.gn + 2) (m.tn + 2) (SL.flatMap sloL ++ [mkA27, mkB27].flatMap sloL) (EL.flatMap epoL ++ [mkA28, mkB28].flatMap epoL) (GL.flatMap sgZ ++ [mkA29, mkB29].flatMap sgZ) (T'.flatMap tkL ++ [mkA34, mkB34].flatMap tkL) ∧ TkH (w.heap.size + 2) w w' m.tn T' T ∧ Below w.heap.size w w'
theorem RmR.step {B : Nat} {w w0 wr u : World} {bc : Nat} {m : Mt} {g1 k1 g2 k2 g3 k3 g4 k4 k : Nat} {SL : List Slo} {EL : List Epo} {GL : List (Int × Int × Int)} {T : List Tk} {x y : Tk} {p : Option Addr} {q cc : Nat} {zs : List Int} (h : RmR B w w0 wr bc m g1 k1 g2 k2 g3 k3 g4 k4 k SL EL GL T) (hB2 : w.heap.size + 2 ≤ B) (hBs : B ≤ wr.heap.size) (hy : T[k]? = some y) (hx : h.2.choose[k]? = some x) (hB : Below wr.heap.size wr u) (hM : Marked wr.heap.size u (.slice p q cc) zs) (hV : View w0 (.slice y.p y.l y.c) zs) : RmR B w w0 (u.setCell ⟨g4, k * 4 + 2, none⟩ (.slice p q cc)) bc m g1 k1 g2 k2 g3 k3 g4 k4 (k + 1) SL EL GL T := by
  obtain ⟨hl, hR, hH⟩ := h.2.choose_spec
  have hS := h.1
  generalize h.2.choose = T' at *
  have R1 := hR.below hB
  have S1 := hS.below hB
  have H1 := hH.below hB
  have hgl := R1.o4.lt g4 rfl
  have hne : g4 ≠ bc := fun e => own_bx S1.bn (by decide) R1.o4 (by simp [Value.ownBlock, e])
  have st : Stay g4 u (u.setCell ⟨g4, k * 4 + 2, none⟩ (.slice p q cc)) := (Stay.refl _ _).set _ _
  have ap : ∀ {e sz n : Nat} {v : Value} {xs : List Value}, u.ownsRow B e sz v n xs → e ≠ 61 → v.ownBlock = none ∨ v.ownBlock ≠ some g4 := fun ho he => own_apart ho R1.o4 he
  have ap2 : ∀ {e sz n : Nat} {v : Value} {xs : List Value}, u.ownsRow B e sz v n xs → e ≠ 61 → v.ownBlock ≠ some g4 := fun ho he => by
    rcases ap ho he with q | q
    · rw [q]; simp
    · exact q
  refine ⟨S1.grown (grown_of_stay st) (fun j hj => by cases hj; exact ⟨by have := hgl.1; omega, hne⟩), T'.set k { x with p := p, l := q, c := cc }, by simpa using hl, ⟨own_stay R1.o1 st (ap2 R1.o1 (by decide)), own_stay R1.o2 st (ap2 R1.o2 (by decide)), own_stay R1.o3 st (ap2 R1.o3 (by decide)), ?_⟩, ?_⟩
  · have h2 := (R1.o4.stored (k * 4 + 2) (.slice p q cc)).1
    rw [flat_set T' k x p q cc _ hx] at h2
    exact h2
  · have H2 := H1.grown (grown_of_stay st) (fun ho => ap ho (by decide))
    intro i x' y' hx' hy'
    by_cases hik : i = k
    · subst hik
      rw [List.getElem?_set_self (List.getElem?_eq_some_iff.1 hx).1] at hx'
      rw [hy] at hy'
      cases hx'
      cases hy'
      obtain ⟨a, b, c, _⟩ := H2 i x y hx hy
      refine ⟨a, b, c, zs, hV, fun _ => ?_, fun h => by omega⟩
      obtain ⟨pg, pc, pe, po⟩ := hM
      have hM' : Marked B u (.slice p q cc) zs := ⟨pg, pc, pe, ownsRow_below po hBs⟩
      exact hM'.grown (grown_of_stay st) (fun ho => ap ho (by decide))
    · rw [List.getElem?_set_ne (by omega)] at hx'
      obtain ⟨a, b, c, zs', hv, h1, h2⟩ := H2 i x' y' hx' hy'
      exact ⟨a, b, c, zs', hv, fun hi => h1 (by omega), fun hi => h2 (by omega)⟩
set_option maxHeartbeats 8000000 in
set_option maxRecDepth 100000 in
theorem roomy_ok (m : Mt) (SL : List Slo) (EL : List Epo) (GL : List (Int × Int × Int)) (T : List Tk) (w : World) (hsn : Hid (SL.length = m.sn)) (hen : Hid (EL.length = m.en)) (hgn : Hid (GL.length = m.gn)) (htn : Hid (T.length = m.tn))
    (y1 : Hid ((m.sn + 2) * 88 ≤ 140737488355328)) (y2 : Hid ((m.en + 2) * 72 ≤ 140737488355328)) (y3 : Hid ((m.gn + 2) * 24 ≤ 140737488355328)) (y4 : Hid ((m.tn + 2) * 64 ≤ 140737488355328))
    (z1 : Hid (m.sp = none → m.sc = 0)) (z2 : Hid (m.ep = none → m.ec = 0)) (z3 : Hid (m.gp = none → m.gc = 0)) (z4 : Hid (m.tp = none → m.tc = 0))
    (s1 : Hid (RV sloL 9 w m.sp SL)) (e1 : Hid (RV epoL 5 w m.ep EL)) (g1 : Hid (RV sgZ 3 w m.gp GL)) (t1 : Hid (RV tkL 4 w m.tp T)) (tV : Hid (∀ (i : Nat) (x : Tk), T[i]? = some x → x.l ≤ 65536 ∧ ∃ zs, View w (.slice x.p x.l x.c) zs)) :
    Calls Try.prog 6 #[.agg (mtC m)] w fun e w' => RmP w m SL EL GL T e w' := by
  have W0h : ∃ W0, W0 = (w.alloc (.cells (mtC m) 36)).alloc (.cells mt0 36) := ⟨_, rfl⟩
  obtain ⟨W0, hW0⟩ := W0h
  have R1 : Hid (W0.rangeAt w.heap.size 0 (mtC m).toList) := fun j u hj => by
    rw [Nat.zero_add, hW0]
    have bx : Bx (w.alloc (.cells (mtC m) 36)) w.heap.size m := World.alloc_heap_new w _
    exact (bx.below (below_alloc1 _ _)).c j u (by simpa using hj)
  have hs0 : W0.heap.size = w.heap.size + 2 := by rw [hW0]; simp
  have T0 : Hid (Bx W0 w.heap.size m ∧ W0.heap[w.heap.size + 1]? = some (.cells mt0 36 (0, 0)) ∧ Below w.heap.size w W0) := by
    have bx : Bx (w.alloc (.cells (mtC m) 36)) w.heap.size m := World.alloc_heap_new w _
    have rs : (w.alloc (.cells (mtC m) 36)).heap.size = w.heap.size + 1 := by simp
    refine ⟨?_, ?_, ?_⟩
    · rw [hW0]; exact bx.below (below_alloc1 _ _)
    · rw [hW0, ← rs]; exact World.alloc_heap_new _ _
    · rw [hW0]; exact ((Below.refl _ w).alloc (Nat.le_refl _) _).alloc (by simp) _
  go_enter Try.func6, Try.ntmps6
  go_upto_region 1 with fail
  rw [← hW0]
  clear hW0
  have HCp : Hid (Calls Try.prog 16 #[.agg (mtC m)] W0 fun e w' => CpP W0 m SL EL GL T e w') := copy_ok m SL EL GL T W0 hsn hen hgn htn y1 y2 y3 y4 z1 z2 z3 z4 (s1.out.below T0.out.2.2) (e1.out.below T0.out.2.2) (g1.out.below T0.out.2.2) (t1.out.below T0.out.2.2) (fun i x hx => by
    obtain ⟨q1, zs, q2⟩ := tV.out i x hx
    exact ⟨by omega, zs, q2.kept T0.out.2.2.block⟩)
  go_upto_region 2 with (first | (refine wpList_load_mid (by rfl) 36 (.tmp 1) (by rfl) w.heap.size 0 (by rfl) (mtC m).toList _ R1.out Try.underlying36 rfl (size36 m) ?_) | (go_at_call 16; refine HCp.out.mono ?_; rintro e5 Wq ⟨G1, C1, G2, C2, G3, C3, pt, ct, Tq, rfl, COq, bq⟩) | (refine wpList_alloc_box (by rfl) (by rfl) ?_; intro W1 bc hb1 hbl1 he1 hz1) | (refine wpList_store_box (by rfl) (.tmp 3) (.tmp 7) (by rfl) (cpM m G1 C1 G2 C2 G3 C3 pt m.tn ct) bc mt0 (by rfl) (by rfl) hb1 rfl ?_; intro W bn st))
  simp only [Act.put, List.setIfInBounds_toArray, List.set_cons_zero, List.set_cons_succ]
  have hs0' : W0.heap.size = w.heap.size + 2 := hs0
  have hsq := bq.size
  have BW : Hid (Below w.heap.size w W) := ((T0.out.2.2.trans (bq.mono (by omega))).trans (hbl1.mono (by omega))).trans (st.below (by omega) (by omega))
  have TW : Hid (RmS w W bc m (cpM m G1 C1 G2 C2 G3 C3 pt m.tn ct)) := by
    refine ⟨?_, ?_, bn, BW.out, by omega⟩
    · exact (st.block _ (by omega) (by omega)).trans ((hbl1.block _ (by omega)).trans ((bq.block _ (by omega)).trans T0.out.1))
    · exact (st.block _ (by omega) (by omega)).trans ((hbl1.block _ (by omega)).trans ((bq.block _ (by omega)).trans T0.out.2.1))
  have CO := COq.stay ((Stay.of hbl1).trans st) (.inr (by omega))
  have hBW : W0.heap.size + 3 ≤ W.heap.size := by have q := CO.o1.lt G1 rfl; omega
  have RR : Hid (R4 (W0.heap.size + 3) W (.slice (some ⟨G1, 0, none⟩) m.sn C1) (.slice (some ⟨G2, 0, none⟩) m.en C2) (.slice (some ⟨G3, 0, none⟩) m.gn C3) (.slice pt m.tn ct) m.sn m.en m.gn m.tn (SL.flatMap sloL) (EL.flatMap epoL) (GL.flatMap sgZ) (Tq.flatMap tkL)) := ⟨CO.o1, CO.o2, CO.o3, CO.o4⟩
  have TH : Hid (TkH (W0.heap.size + 3) W0 W 0 Tq T) := CO.tk.first
  have HL : Hid (Tq.length = m.tn) := CO.l4
  have H0 : Hid (Below w.heap.size w W0) := T0.out.2.2
  have HB : Hid (w.heap.size + 2 ≤ W0.heap.size + 3) := by show _ ≤ _; omega
  clear CO COq bn st hb1 hbl1 he1 hz1 hsq bq T0 R1 hs0 hs0' BW HCp W1 Wq
  generalize W0.heap.size + 3 = B at *
  obtain ⟨i47, hi47, hz470, hz471, hz472⟩ := info_parts info47
  have Hi47 : Hid (_ ∧ _ ∧ _ ∧ _) := ⟨hi47, hz470, hz471, hz472⟩
  clear hi47 hz470 hz471 hz472
  obtain ⟨i49, hi49, hz490, hz491, hz492⟩ := info_parts info49
  have Hi49 : Hid (_ ∧ _ ∧ _ ∧ _) := ⟨hi49, hz490, hz491, hz492⟩
  clear hi49 hz490 hz491 hz492
  obtain ⟨i51, hi51, hz510, hz511, hz512⟩ := info_parts info51
  have Hi51 : Hid (_ ∧ _ ∧ _ ∧ _) := ⟨hi51, hz510, hz511, hz512⟩
  clear hi51 hz510 hz511 hz512
  obtain ⟨i45, hi45, hz450, hz451, hz452⟩ := info_parts info45
  have Hi45 : Hid (_ ∧ _ ∧ _ ∧ _) := ⟨hi45, hz450, hz451, hz452⟩
  clear hi45 hz450 hz451 hz452
  obtain ⟨i3, hi3, hz30, hz31, hz32⟩ := info_parts info3
  have Hi3 : Hid (_ ∧ _ ∧ _ ∧ _) := ⟨hi3, hz30, hz31, hz32⟩
  clear hi3 hz30 hz31 hz32
  have c11 := TW.out.bn.c 11 (.slice (some ⟨G1, 0, none⟩) m.sn C1) rfl
  go_upto_region 3 with fail
  have d11 : ∀ o, (W.alloc o).cell? ⟨bc, 11, none⟩ = some (.slice (some ⟨G1, 0, none⟩) m.sn C1) := fun o => cell_below (below_alloc1 W o) c11
  have nl : ((m.sn : Nat) : Int) ≤ 9223372036854775807 := by have := y1.out; omega
  have n0 : (0 : Int) ≤ ((m.sn : Nat) : Int) := by omega
  go_upto_region 4 with (at_builtin; go_must (refine wpList_append_own _ rfl (.tmp 12) (.tmp 15) 27 rfl B 63 i47 _ 9 88 Try.underlying27 Hi47.out.1 Hi47.out.2.1 Hi47.out.2.2.1 Hi47.out.2.2.2 rfl (by decide) (.slice (some ⟨G1, 0, none⟩) m.sn C1) m.sn (SL.flatMap sloL) rfl (RR.out.o1.alloc _) ⟨W.heap.size, 0, none⟩ 2 2 ([mkA27, mkB27].flatMap sloL) rfl rfl (fun j u h => news_new W _ 63 j u h) (flat_one sloL sloL_one _) (by have := y1.out; unfold maxLen; omega) (by have := y1.out; omega) (by simp; omega) ?_); intro v' U ho hg hn; obtain ⟨g1, k1, rfl⟩ := ownsRow_succ ho; have TWU : RmS w U bc m (cpM m G1 C1 G2 C2 G3 C3 pt m.tn ct) := RmS.grown (TW.out.below (below_alloc1 W _)) hg (fun j hj => ⟨by have := (RR.out.o1.lt j hj).1; have := HB.out; omega, fun e => own_bx TW.out.bn (by decide) RR.out.o1 (by rw [hj, e])⟩); have cU := TWU.bn.c 11 (.slice (some ⟨G1, 0, none⟩) m.sn C1) rfl; have fU := frozen_bx (o := 11) TWU.bn; have hcp : m.sn + 2 ≤ k1 := (by rcases ho.2 with ⟨h, _⟩ | ⟨g9, c9, cur9, h9, _, _, h8, _⟩; cases h; cases h9; exact h8); have hci : ((m.sn : Nat) : Int) ≤ ((k1 : Nat) : Int) := (by omega))
  have sW : Stay bc U (U.setCell ⟨bc, 11, none⟩ (.slice (some ⟨g1, 0, none⟩) m.sn k1)) := (Stay.refl _ _).set _ _
  have TX : Hid (RmS w (U.setCell ⟨bc, 11, none⟩ (.slice (some ⟨g1, 0, none⟩) m.sn k1)) bc m (cpM m g1 k1 G2 C2 G3 C3 pt m.tn ct)) := TWU.put sW (bx_set TWU.bn rfl)
  have RU := RR.out.app1 (below_alloc1 W _) hg ho
  have RX : Hid (R4 B (U.setCell ⟨bc, 11, none⟩ (.slice (some ⟨g1, 0, none⟩) m.sn k1)) (.slice (some ⟨g1, 0, none⟩) (m.sn + 2) k1) (.slice (some ⟨G2, 0, none⟩) m.en C2) (.slice (some ⟨G3, 0, none⟩) m.gn C3) (.slice (pt) m.tn ct) (m.sn + 2) m.en m.gn m.tn (SL.flatMap sloL ++ [mkA27, mkB27].flatMap sloL) (EL.flatMap epoL) (GL.flatMap sgZ) (Tq.flatMap tkL)) := RU.stay sW (fun he h => own_bx TWU.bn he h)
  have THU := TH.out.app (below_alloc1 W _) hg RR.out.o1 (by decide)
  have THX : Hid (TkH B W0 (U.setCell ⟨bc, 11, none⟩ (.slice (some ⟨g1, 0, none⟩) m.sn k1)) 0 Tq T) := THU.put TWU.bn sW
  have hBX : B ≤ (U.setCell ⟨bc, 11, none⟩ (.slice (some ⟨g1, 0, none⟩) m.sn k1)).heap.size := by have q := RX.out.o1.lt g1 rfl; omega
  clear TW RR TH hBW c11 d11 cU fU TWU RU THU sW hcp hci ho hg hn nl n0
  have TW := TX
  have RR := RX
  have TH := THX
  have hBW := hBX
  clear TX RX THX hBX
  generalize (U.setCell ⟨bc, 11, none⟩ (.slice (some ⟨g1, 0, none⟩) m.sn k1)) = Wa at *
  clear U
  have c12 := TW.out.bn.c 12 (.slice (some ⟨G2, 0, none⟩) m.en C2) rfl
  go_upto_region 5 with fail
  have d12 : ∀ o, (Wa.alloc o).cell? ⟨bc, 12, none⟩ = some (.slice (some ⟨G2, 0, none⟩) m.en C2) := fun o => cell_below (below_alloc1 Wa o) c12
  have nl : ((m.en : Nat) : Int) ≤ 9223372036854775807 := by have := y2.out; omega
  have n0 : (0 : Int) ≤ ((m.en : Nat) : Int) := by omega
  go_upto_region 6 with (at_builtin; go_must (refine wpList_append_own _ rfl (.tmp 24) (.tmp 27) 28 rfl B 38 i49 _ 5 72 Try.underlying28 Hi49.out.1 Hi49.out.2.1 Hi49.out.2.2.1 Hi49.out.2.2.2 rfl (by decide) (.slice (some ⟨G2, 0, none⟩) m.en C2) m.en (EL.flatMap epoL) rfl (RR.out.o2.alloc _) ⟨Wa.heap.size, 0, none⟩ 2 2 ([mkA28, mkB28].flatMap epoL) rfl rfl (fun j u h => news_new Wa _ 38 j u h) (flat_one epoL epoL_one _) (by have := y2.out; unfold maxLen; omega) (by have := y2.out; omega) (by simp; omega) ?_); intro v' U ho hg hn; obtain ⟨g2, k2, rfl⟩ := ownsRow_succ ho; have TWU : RmS w U bc m (cpM m g1 k1 G2 C2 G3 C3 pt m.tn ct) := RmS.grown (TW.out.below (below_alloc1 Wa _)) hg (fun j hj => ⟨by have := (RR.out.o2.lt j hj).1; have := HB.out; omega, fun e => own_bx TW.out.bn (by decide) RR.out.o2 (by rw [hj, e])⟩); have cU := TWU.bn.c 12 (.slice (some ⟨G2, 0, none⟩) m.en C2) rfl; have fU := frozen_bx (o := 12) TWU.bn; have hcp : m.en + 2 ≤ k2 := (by rcases ho.2 with ⟨h, _⟩ | ⟨g9, c9, cur9, h9, _, _, h8, _⟩; cases h; cases h9; exact h8); have hci : ((m.en : Nat) : Int) ≤ ((k2 : Nat) : Int) := (by omega))
  have sW : Stay bc U (U.setCell ⟨bc, 12, none⟩ (.slice (some ⟨g2, 0, none⟩) m.en k2)) := (Stay.refl _ _).set _ _
  have TX : Hid (RmS w (U.setCell ⟨bc, 12, none⟩ (.slice (some ⟨g2, 0, none⟩) m.en k2)) bc m (cpM m g1 k1 g2 k2 G3 C3 pt m.tn ct)) := TWU.put sW (bx_set TWU.bn rfl)
  have RU := RR.out.app2 (below_alloc1 Wa _) hg ho
  have RX : Hid (R4 B (U.setCell ⟨bc, 12, none⟩ (.slice (some ⟨g2, 0, none⟩) m.en k2)) (.slice (some ⟨g1, 0, none⟩) (m.sn + 2) k1) (.slice (some ⟨g2, 0, none⟩) (m.en + 2) k2) (.slice (some ⟨G3, 0, none⟩) m.gn C3) (.slice (pt) m.tn ct) (m.sn + 2) (m.en + 2) m.gn m.tn (SL.flatMap sloL ++ [mkA27, mkB27].flatMap sloL) (EL.flatMap epoL ++ [mkA28, mkB28].flatMap epoL) (GL.flatMap sgZ) (Tq.flatMap tkL)) := RU.stay sW (fun he h => own_bx TWU.bn he h)
  have THU := TH.out.app (below_alloc1 Wa _) hg RR.out.o2 (by decide)
  have THX : Hid (TkH B W0 (U.setCell ⟨bc, 12, none⟩ (.slice (some ⟨g2, 0, none⟩) m.en k2)) 0 Tq T) := THU.put TWU.bn sW
  have hBX : B ≤ (U.setCell ⟨bc, 12, none⟩ (.slice (some ⟨g2, 0, none⟩) m.en k2)).heap.size := by have q := RX.out.o1.lt g1 rfl; omega
  clear TW RR TH hBW c12 d12 cU fU TWU RU THU sW hcp hci ho hg hn nl n0
  have TW := TX
  have RR := RX
  have TH := THX
  have hBW := hBX
  clear TX RX THX hBX
  generalize (U.setCell ⟨bc, 12, none⟩ (.slice (some ⟨g2, 0, none⟩) m.en k2)) = Wb at *
  clear U
  have c13 := TW.out.bn.c 13 (.slice (some ⟨G3, 0, none⟩) m.gn C3) rfl
  go_upto_region 7 with fail
  have d13 : ∀ o, (Wb.alloc o).cell? ⟨bc, 13, none⟩ = some (.slice (some ⟨G3, 0, none⟩) m.gn C3) := fun o => cell_below (below_alloc1 Wb o) c13
  have nl : ((m.gn : Nat) : Int) ≤ 9223372036854775807 := by have := y3.out; omega
  have n0 : (0 : Int) ≤ ((m.gn : Nat) : Int) := by omega
  go_upto_region 8 with (at_builtin; go_must (refine wpList_append_own _ rfl (.tmp 36) (.tmp 39) 29 rfl B 65 i51 _ 3 24 Try.underlying29 Hi51.out.1 Hi51.out.2.1 Hi51.out.2.2.1 Hi51.out.2.2.2 rfl (by decide) (.slice (some ⟨G3, 0, none⟩) m.gn C3) m.gn (GL.flatMap sgZ) rfl (RR.out.o3.alloc _) ⟨Wb.heap.size, 0, none⟩ 2 2 ([mkA29, mkB29].flatMap sgZ) rfl rfl (fun j u h => news_new Wb _ 65 j u h) (flat_one sgZ sgZ_one _) (by have := y3.out; unfold maxLen; omega) (by have := y3.out; omega) (by simp; omega) ?_); intro v' U ho hg hn; obtain ⟨g3, k3, rfl⟩ := ownsRow_succ ho; have TWU : RmS w U bc m (cpM m g1 k1 g2 k2 G3 C3 pt m.tn ct) := RmS.grown (TW.out.below (below_alloc1 Wb _)) hg (fun j hj => ⟨by have := (RR.out.o3.lt j hj).1; have := HB.out; omega, fun e => own_bx TW.out.bn (by decide) RR.out.o3 (by rw [hj, e])⟩); have cU := TWU.bn.c 13 (.slice (some ⟨G3, 0, none⟩) m.gn C3) rfl; have fU := frozen_bx (o := 13) TWU.bn; have hcp : m.gn + 2 ≤ k3 := (by rcases ho.2 with ⟨h, _⟩ | ⟨g9, c9, cur9, h9, _, _, h8, _⟩; cases h; cases h9; exact h8); have hci : ((m.gn : Nat) : Int) ≤ ((k3 : Nat) : Int) := (by omega))
  have sW : Stay bc U (U.setCell ⟨bc, 13, none⟩ (.slice (some ⟨g3, 0, none⟩) m.gn k3)) := (Stay.refl _ _).set _ _
  have TX : Hid (RmS w (U.setCell ⟨bc, 13, none⟩ (.slice (some ⟨g3, 0, none⟩) m.gn k3)) bc m (cpM m g1 k1 g2 k2 g3 k3 pt m.tn ct)) := TWU.put sW (bx_set TWU.bn rfl)
  have RU := RR.out.app3 (below_alloc1 Wb _) hg ho
  have RX : Hid (R4 B (U.setCell ⟨bc, 13, none⟩ (.slice (some ⟨g3, 0, none⟩) m.gn k3)) (.slice (some ⟨g1, 0, none⟩) (m.sn + 2) k1) (.slice (some ⟨g2, 0, none⟩) (m.en + 2) k2) (.slice (some ⟨g3, 0, none⟩) (m.gn + 2) k3) (.slice (pt) m.tn ct) (m.sn + 2) (m.en + 2) (m.gn + 2) m.tn (SL.flatMap sloL ++ [mkA27, mkB27].flatMap sloL) (EL.flatMap epoL ++ [mkA28, mkB28].flatMap epoL) (GL.flatMap sgZ ++ [mkA29, mkB29].flatMap sgZ) (Tq.flatMap tkL)) := RU.stay sW (fun he h => own_bx TWU.bn he h)
  have THU := TH.out.app (below_alloc1 Wb _) hg RR.out.o3 (by decide)
  have THX : Hid (TkH B W0 (U.setCell ⟨bc, 13, none⟩ (.slice (some ⟨g3, 0, none⟩) m.gn k3)) 0 Tq T) := THU.put TWU.bn sW
  have hBX : B ≤ (U.setCell ⟨bc, 13, none⟩ (.slice (some ⟨g3, 0, none⟩) m.gn k3)).heap.size := by have q := RX.out.o1.lt g1 rfl; omega
  clear TW RR TH hBW c13 d13 cU fU TWU RU THU sW hcp hci ho hg hn nl n0
  have TW := TX
  have RR := RX
  have TH := THX
  have hBW := hBX
  clear TX RX THX hBX
  generalize (U.setCell ⟨bc, 13, none⟩ (.slice (some ⟨g3, 0, none⟩) m.gn k3)) = Wc at *
  clear U
  have c26 := TW.out.bn.c 26 (.slice (pt) m.tn ct) rfl
  go_upto_region 9 with fail
  have d26 : ∀ o, (Wc.alloc o).cell? ⟨bc, 26, none⟩ = some (.slice (pt) m.tn ct) := fun o => cell_below (below_alloc1 Wc o) c26
  have nl : ((m.tn : Nat) : Int) ≤ 9223372036854775807 := by have := y4.out; omega
  have n0 : (0 : Int) ≤ ((m.tn : Nat) : Int) := by omega
  go_upto_region 10 with (at_builtin; go_must (refine wpList_append_own _ rfl (.tmp 48) (.tmp 51) 34 rfl B 61 i45 _ 4 64 Try.underlying34 Hi45.out.1 Hi45.out.2.1 Hi45.out.2.2.1 Hi45.out.2.2.2 rfl (by decide) (.slice (pt) m.tn ct) m.tn (Tq.flatMap tkL) rfl (RR.out.o4.alloc _) ⟨Wc.heap.size, 0, none⟩ 2 2 ([mkA34, mkB34].flatMap tkL) rfl rfl (fun j u h => news_new Wc _ 61 j u h) (flat_one tkL tkL_one _) (by have := y4.out; unfold maxLen; omega) (by have := y4.out; omega) (by simp; omega) ?_); intro v' U ho hg hn; obtain ⟨g4, k4, rfl⟩ := ownsRow_succ ho; have TWU : RmS w U bc m (cpM m g1 k1 g2 k2 g3 k3 pt m.tn ct) := RmS.grown (TW.out.below (below_alloc1 Wc _)) hg (fun j hj => ⟨by have := (RR.out.o4.lt j hj).1; have := HB.out; omega, fun e => own_bx TW.out.bn (by decide) RR.out.o4 (by rw [hj, e])⟩); have cU := TWU.bn.c 26 (.slice (pt) m.tn ct) rfl; have fU := frozen_bx (o := 26) TWU.bn; have hcp : m.tn + 2 ≤ k4 := (by rcases ho.2 with ⟨h, _⟩ | ⟨g9, c9, cur9, h9, _, _, h8, _⟩; cases h; cases h9; exact h8); have hci : ((m.tn : Nat) : Int) ≤ ((k4 : Nat) : Int) := (by omega))
  have sW : Stay bc U (U.setCell ⟨bc, 26, none⟩ (.slice (some ⟨g4, 0, none⟩) m.tn k4)) := (Stay.refl _ _).set _ _
  have TX : Hid (RmS w (U.setCell ⟨bc, 26, none⟩ (.slice (some ⟨g4, 0, none⟩) m.tn k4)) bc m (cpM m g1 k1 g2 k2 g3 k3 (some ⟨g4, 0, none⟩) m.tn k4)) := TWU.put sW (bx_set TWU.bn rfl)
  have RU := RR.out.app4 (below_alloc1 Wc _) hg ho
  have RX : Hid (R4 B (U.setCell ⟨bc, 26, none⟩ (.slice (some ⟨g4, 0, none⟩) m.tn k4)) (.slice (some ⟨g1, 0, none⟩) (m.sn + 2) k1) (.slice (some ⟨g2, 0, none⟩) (m.en + 2) k2) (.slice (some ⟨g3, 0, none⟩) (m.gn + 2) k3) (.slice (some ⟨g4, 0, none⟩) (m.tn + 2) k4) (m.sn + 2) (m.en + 2) (m.gn + 2) (m.tn + 2) (SL.flatMap sloL ++ [mkA27, mkB27].flatMap sloL) (EL.flatMap epoL ++ [mkA28, mkB28].flatMap epoL) (GL.flatMap sgZ ++ [mkA29, mkB29].flatMap sgZ) (Tq.flatMap tkL ++ [mkA34, mkB34].flatMap tkL)) := RU.stay sW (fun he h => own_bx TWU.bn he h)
  have THU := TH.out.app (below_alloc1 Wc _) hg RR.out.o4 (by decide)
  have THX : Hid (TkH B W0 (U.setCell ⟨bc, 26, none⟩ (.slice (some ⟨g4, 0, none⟩) m.tn k4)) 0 Tq T) := THU.put TWU.bn sW
  have hBX : B ≤ (U.setCell ⟨bc, 26, none⟩ (.slice (some ⟨g4, 0, none⟩) m.tn k4)).heap.size := by have q := RX.out.o1.lt g1 rfl; omega
  clear TW RR TH hBW c26 d26 cU fU TWU RU THU sW hcp hci ho hg hn nl n0
  have TW := TX
  have RR := RX
  have TH := THX
  have hBW := hBX
  clear TX RX THX hBX
  generalize (U.setCell ⟨bc, 26, none⟩ (.slice (some ⟨g4, 0, none⟩) m.tn k4)) = Wd at *
  clear U
  have HRs : Hid (RmR B w W0 Wd bc m g1 k1 g2 k2 g3 k3 g4 k4 0 SL EL GL T) := ⟨TW.out, Tq, HL.out, RR.out, TH.out⟩
  clear TW RR TH
  have hkb : m.tn ≤ 2199023255552 := by have := y4.out; omega
  go_upto_region 11 with fail
  go_loopw [5] (fun i wr => ∃ k : Nat, k ≤ m.tn ∧ i = .int .i64 k ∧ Hid (RmR B w W0 wr bc m g1 k1 g2 k2 g3 k3 g4 k4 k SL EL GL T)) (fun i _ => m.tn - (intOf i).toNat)
  case atStart => exact ⟨0, Nat.zero_le _, rfl, HRs⟩
  case round =>
    obtain ⟨k, hk, rfl, HR⟩ := hrel
    clear HRs
    have z26 := HR.out.1.bn.c 26 (.slice (some ⟨g4, 0, none⟩) m.tn k4) rfl
    by_cases hlt : k < m.tn
    · obtain ⟨y, hy⟩ : ∃ y, T[k]? = some y := ⟨T[k]'(by have := htn.out; omega), List.getElem?_eq_getElem _⟩
      obtain ⟨T', hT'⟩ : ∃ T', Hid (T' = HR.out.2.choose) := ⟨_, rfl⟩
      have hsp := HR.out.2.choose_spec
      rw [← hT'.out] at hsp
      obtain ⟨hl, hR, hH⟩ := hsp
      obtain ⟨x, hx⟩ : ∃ x, T'[k]? = some x := ⟨T'[k]'(by omega), List.getElem?_eq_getElem _⟩
      obtain ⟨_, _, _, zs, hV0, _, hzz⟩ := hH k x y hx hy
      obtain ⟨hoz, hzl0⟩ := hzz (Nat.le_refl _)
      have HV : Hid (View wr (.slice x.p x.l x.c) zs) := own_view hoz hzl0
      have HV0 : Hid (View W0 (.slice y.p y.l y.c) zs) := hV0
      have hzl : (zs.length + 70) * 8 ≤ 140737488355328 := by
        have q1 := (rv_view hV0).1
        have q2 := (tV.out k y hy).1
        omega
      have HO : Hid (wr.ownsRow B 61 4 (.slice (some ⟨g4, 0, none⟩) (m.tn + 2) k4) (m.tn + 2) (T'.flatMap tkL ++ [mkA34, mkB34].flatMap tkL)) := hR.o4
      have hBs : B ≤ wr.heap.size := by have q := hR.o4.lt g4 rfl; omega
      obtain ⟨ba, oa, hpa, hba, ca⟩ := (rv_own tkL_len hR.o4).get hx
      simp only [Option.some.injEq, Addr.mk.injEq] at hpa
      obtain ⟨rfl, rfl, _⟩ := hpa
      have ld1 : ∀ u, Below wr.heap.size wr u → u.cell? ⟨bc, 26, none⟩ = some (.slice (some ⟨g4, 0, none⟩) m.tn k4) := fun u hu => cell_below hu z26
      have ld3 : ∀ u, Below wr.heap.size wr u → u.cell? ⟨g4, k * 4 + 2, none⟩ = some (.slice x.p x.l x.c) := fun u hu => cell_below hu (by have q := ca 2 _ rfl; simpa using q)
      have q0 : (0 : Int) ≤ (k : Int) := by omega
      have q1 : (k : Int) < (m.tn : Int) := by omega
      have HX : Hid (HR.out.2.choose[k]? = some x) := by show _ = _; rw [← hT'.out]; exact hx
      have HY : Hid (T[k]? = some y) := hy
      have hS0 : Below wr.heap.size wr wr.drew := (Below.refl _ _).drew
      clear hx hy hH hR hl hoz hzl0 hzz hV0 ca hba
      go_upto_region 13 with fail
      refine wp_region_noPanic ?_
      refine wp_region_till (fun u => Below wr.heap.size wr u) 12 (by kernel_rfl) (by decide) (by decide +kernel) (by decide +kernel) (by decide +kernel) (fun inv => ?_)
      refine till_at 0 61 (.pointer (some ⟨bc, 26, none⟩)) inv rfl rfl (by decide) (by decide +kernel) (by decide +kernel) (fun _ _ _ h => h) (hS0) (Or.inl ⟨by rfl, fun w' hS' => by go_simp⟩) (fun inv' => ?_)
      clear inv; have inv := inv'; clear inv'
      simp only [List.setIfInBounds_toArray, List.set_cons_zero, List.set_cons_succ]
      refine till_at 1 62 (.slice (some ⟨g4, 0, none⟩) m.tn k4) inv rfl rfl (by decide) (by decide +kernel) (by decide +kernel) (fun _ _ _ h => h) (hS0) (Or.inl ⟨by rfl, fun w' hS' => by have q := ld1 w' hS'; go_simp⟩) (fun inv' => ?_)
      clear inv; have inv := inv'; clear inv'
      simp only [List.setIfInBounds_toArray, List.set_cons_zero, List.set_cons_succ]
      refine till_at 2 63 (.int .i64 (k : Nat)) inv rfl rfl (by decide) (by decide +kernel) (by decide +kernel) (fun _ _ _ h => h) (hS0) (Or.inl ⟨by rfl, fun w' hS' => by go_simp⟩) (fun inv' => ?_)
      clear inv; have inv := inv'; clear inv'
      simp only [List.setIfInBounds_toArray, List.set_cons_zero, List.set_cons_succ]
      refine till_at 3 64 (.pointer (some ⟨bc, 26, none⟩)) inv rfl rfl (by decide) (by decide +kernel) (by decide +kernel) (fun _ _ _ h => h) (hS0) (Or.inl ⟨by rfl, fun w' hS' => by go_simp⟩) (fun inv' => ?_)
      clear inv; have inv := inv'; clear inv'
      simp only [List.setIfInBounds_toArray, List.set_cons_zero, List.set_cons_succ]
      refine till_at 4 65 (.slice (some ⟨g4, 0, none⟩) m.tn k4) inv rfl rfl (by decide) (by decide +kernel) (by decide +kernel) (fun _ _ _ h => h) (hS0) (Or.inl ⟨by rfl, fun w' hS' => by have q := ld1 w' hS'; go_simp⟩) (fun inv' => ?_)
      clear inv; have inv := inv'; clear inv'
      simp only [List.setIfInBounds_toArray, List.set_cons_zero, List.set_cons_succ]
      refine till_at 5 66 (.int .i64 (k : Nat)) inv rfl rfl (by decide) (by decide +kernel) (by decide +kernel) (fun _ _ _ h => h) (hS0) (Or.inl ⟨by rfl, fun w' hS' => by go_simp⟩) (fun inv' => ?_)
      clear inv; have inv := inv'; clear inv'
      simp only [List.setIfInBounds_toArray, List.set_cons_zero, List.set_cons_succ]
      refine till_at 6 67 (.pointer (some ⟨g4, k * 4, none⟩)) inv rfl rfl (by decide) (by decide +kernel) (by decide +kernel) (fun _ _ _ h => h) (hS0) (Or.inl ⟨by rfl, fun w' hS' => by go_simp⟩) (fun inv' => ?_)
      clear inv; have inv := inv'; clear inv'
      simp only [List.setIfInBounds_toArray, List.set_cons_zero, List.set_cons_succ]
      refine till_at 7 68 (.pointer (some ⟨g4, k * 4 + 2, none⟩)) inv rfl rfl (by decide) (by decide +kernel) (by decide +kernel) (fun _ _ _ h => h) (hS0) (Or.inl ⟨by rfl, fun w' hS' => by go_simp⟩) (fun inv' => ?_)
      clear inv; have inv := inv'; clear inv'
      simp only [List.setIfInBounds_toArray, List.set_cons_zero, List.set_cons_succ]
      refine till_at 8 69 (.slice x.p x.l x.c) inv rfl rfl (by decide) (by decide +kernel) (by decide +kernel) (fun _ _ _ h => h) (hS0) (Or.inl ⟨by rfl, fun w' hS' => by have q := ld3 w' hS'; go_simp⟩) (fun inv' => ?_)
      clear inv; have inv := inv'; clear inv'
      simp only [List.setIfInBounds_toArray, List.set_cons_zero, List.set_cons_succ]
      refine till_head (i := 9) inv (by decide +kernel) (by decide) rfl (fun K hK => ?_)
      go_simp
      refine (copyI_any (.slice x.p x.l x.c) zs wr.drew hzl (View.kept HV.out (fun q hq => rfl))).mono ?_
      rintro e1 wq ⟨vq, rfl, hMq, hBq⟩
      have hBq2 : Below wr.heap.size wr wq := ⟨hBq.os, hBq.tape, hBq.output, hBq.size, hBq.block⟩
      have hMq2 : Marked wr.heap.size wq vq zs := hMq
      obtain ⟨pg, pc, rfl, hpo⟩ := hMq
      go_wp2_with fail
      refine hK.out _ _ hBq2 (fun inv' => ?_)
      clear hK K inv; have inv := inv'; clear inv'
      try simp only [List.setIfInBounds_toArray, List.set_cons_zero, List.set_cons_succ]
      refine till_at 10 71 (.pointer (some ⟨g4, k * 4, none⟩)) inv rfl rfl (by decide) (by decide +kernel) (by decide +kernel) (fun _ _ _ h => h) (hBq2) (Or.inl ⟨by rfl, fun w' hS' => by go_simp⟩) (fun inv' => ?_)
      clear inv; have inv := inv'; clear inv'
      simp only [List.setIfInBounds_toArray, List.set_cons_zero, List.set_cons_succ]
      refine till_at 11 72 (.pointer (some ⟨g4, k * 4 + 2, none⟩)) inv rfl rfl (by decide) (by decide +kernel) (by decide +kernel) (fun _ _ _ h => h) (hBq2) (Or.inl ⟨by rfl, fun w' hS' => by go_simp⟩) (fun inv' => ?_)
      clear inv; have inv := inv'; clear inv'
      simp only [List.setIfInBounds_toArray, List.set_cons_zero, List.set_cons_succ]
      have hoq := own_keep HO.out hBq2
      obtain ⟨vc, hvc⟩ : ∃ vc, wq.cell? ⟨g4, k * 4 + 2, none⟩ = some vc := by
        have hq := hoq.cellAt (k * 4 + 2) (by omega)
        rw [List.getElem?_eq_getElem (by rw [hoq.1]; omega)] at hq
        exact ⟨_, hq⟩
      have hfc : wq.frozen? ⟨g4, k * 4 + 2, none⟩ = false := hoq.frozenAt _
      refine till_tail (i := 12) (by decide +kernel) (by decide) rfl (fun K hK => ?_)
      go_simp
      refine hK.out _ _ ?_
      clear hK K inv
      try simp only [Act.put, List.setIfInBounds_toArray, List.set_cons_zero, List.set_cons_succ]
      refine till_done (by decide +kernel) ?_ _
      refine NoPanic.normal ?_
      have HR2 : Hid (RmR B w W0 (wq.setCell ⟨g4, k * 4 + 2, none⟩ (.slice (some ⟨pg, 0, none⟩) zs.length pc)) bc m g1 k1 g2 k2 g3 k3 g4 k4 (k + 1) SL EL GL T) := HR.out.step HB.out hBs HY.out HX.out hBq2 hMq2 HV0.out
      clear hMq2 hpo hoq hvc hfc hBq hBq2 HV ld1 ld3 hS0 z26 HX HO hT'
      go_wp2
      go_roundw
      case rel => exact ⟨k + 1, by omega, by go_num, HR2⟩
      case measure => simp [intOf]; omega
    · have hkm : k = m.tn := by omega
      have HR3 : Hid (RmR B w W0 wr bc m g1 k1 g2 k2 g3 k3 g4 k4 m.tn SL EL GL T) := by rw [← hkm]; exact HR.out
      have hnd : decide ((k : Int) < (m.tn : Int)) = false := by simp; omega
      clear HR hkm
      have R9 : Hid (wr.rangeAt bc 0 (mtC (cpM m g1 k1 g2 k2 g3 k3 (some ⟨g4, 0, none⟩) m.tn k4)).toList) := fun j u hj => by
        rw [Nat.zero_add]
        exact HR3.out.1.bn.c j u (by simpa using hj)
      have RS : Hid (wr.heap[w.heap.size + 1]? = some (.cells mt0 36 (0, 0))) := HR3.out.1.rs
      go_upto_region 99 with (first | (refine wpList_load_mid (by rfl) 36 (.tmp 3) (by rfl) bc 0 (by rfl) (mtC (cpM m g1 k1 g2 k2 g3 k3 (some ⟨g4, 0, none⟩) m.tn k4)).toList _ R9.out Try.underlying36 rfl (size36 _) ?_) | (refine wpList_store_box (by rfl) (.tmp 2) (.tmp 73) (by rfl) (cpM m g1 k1 g2 k2 g3 k3 (some ⟨g4, 0, none⟩) m.tn k4) (w.heap.size + 1) mt0 (by rfl) (by rfl) RS.out rfl ?_; intro WF bnF stF))
      refine bodyPost_ret (results_cell_row (P := Try.prog) (p := 2) (ty := 36) rfl _ WF (w.heap.size + 1) 36 (mtC (cpM m g1 k1 g2 k2 g3 k3 (some ⟨g4, 0, none⟩) m.tn k4)) (0, 0) _ rfl bnF Try.underlying36 rfl (by rw [info36s]; rfl)) rfl ?_
      show RmP w m SL EL GL T _ WF
      obtain ⟨S3, T', l3, R3, H3⟩ := HR3.out
      have nb : ∀ {e sz n : Nat} {v : Value} {xs : List Value}, wr.ownsRow B e sz v n xs → v.ownBlock ≠ some (w.heap.size + 1) := fun ho => own_ne ho (by have := HB.out; omega)
      have bF : Below w.heap.size w WF := S3.bel.trans (stF.below (by omega) (by have := S3.bn.lt; have := S3.lo; omega))
      have RF := R3.stay stF (fun _ h => nb h)
      have HF := (H3.grown (grown_of_stay stF) (fun h => .inr (nb h))).back H0.out.block (fun i x hx => (tV.out i x hx).2)
      refine ⟨g1, k1, g2, k2, g3, k3, g4, k4, T', rfl, l3, ⟨ownsRow_below RF.o1 HB.out, ownsRow_below RF.o2 HB.out, ownsRow_below RF.o3 HB.out, ownsRow_below RF.o4 HB.out⟩, ?_, bF⟩
      intro i x y hx hy
      obtain ⟨a, b, c, zs, hv, h1, h2⟩ := HF i x y hx hy
      refine ⟨a, b, c, zs, hv, fun hi => ?_, fun hi => ⟨ownsRow_below (h2 hi).1 HB.out, (h2 hi).2⟩⟩
      obtain ⟨pg, pc, pe, po⟩ := h1 hi
      exact ⟨pg, pc, pe, ownsRow_below po HB.out⟩
end Go.Proofs.Ytmfnhdflmnmooaa
