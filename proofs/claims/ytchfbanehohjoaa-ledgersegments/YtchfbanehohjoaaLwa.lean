import Derived.Test.YtchfbanehohjoaaTwc
import Derived.Test.YtchfbanehohjoaaRsg
namespace Go.Proofs.Ytchfbanehohjoaa
open Go.RowKit
set_option linter.unusedVariables false
set_option linter.unusedSimpArgs false
theorem wpList_load_want {P : Program} {ops : Array Oper} {rest : List Oper} {op : Oper} {a : Act} {w : World} {Q : Exit → Act → World → Prop} (hw : Region.wanted op (yielded ops a.tmps) = true) (ty : TypeId) (x : Operand) (ho : op.op = .load ty x)
    (b o : Nat) (hx : a.eval x = .pointer (some ⟨b, o, none⟩)) (cs : List Value) (d : TypeDesc) (hc : w.rangeAt b o cs) (hu : P.underlying ty = some d) (hd : d.isRow = true) (hi : (P.info? ty).map (·.size) = some cs.length)
    (h : wpList P ops Q rest (a.put op.dst (.agg cs.toArray)) w) : wpList P ops Q (op :: rest) a w :=
  wpList_step fun K hK => by
    rw [if_pos hw]
    exact wp_load_mid ty x ho b o hx cs d hc hu hd hi (hK _ _ h)
theorem Bx.range {W : World} {b : Nat} {m : Mt} (h : Bx W b m) : W.rangeAt b 0 (mtC m).toList := fun j u hj => by
  rw [Nat.zero_add]
  exact h.c j u (by simpa using hj)
theorem Last.below {w w' : World} {m : Mt} {E : Nat} (h : Last w m E) (hb : Below w.heap.size w w') : Last w' m E := fun hn => by
  obtain ⟨b, off, hp, hb', hc⟩ := h hn
  exact ⟨b, off, hp, Nat.lt_of_lt_of_le hb' hb.size, (hb.cell (p := ⟨b, off + (m.en - 1) * 5, none⟩) hb').trans hc⟩
theorem Last.of {w : World} {m : Mt} {EL : List Epo} {E : Nat} (h : RV epoL 5 w m.ep EL) (hl : EL.length = m.en) (hE : ∀ x, EL[m.en - 1]? = some x → x.n = (E : Nat)) : Last w m E := fun hn => by
  obtain ⟨x, hx⟩ : ∃ x, EL[m.en - 1]? = some x := ⟨EL[m.en - 1]'(by omega), List.getElem?_eq_getElem _⟩
  obtain ⟨b, off, hp, hb, hc⟩ := h.get hx
  refine ⟨b, off, hp, hb, ?_⟩
  have := hc 0 (.int .u64 x.n) rfl
  rw [hE x hx] at this
  exact this
theorem SegV.of {w : World} {p : Option Addr} {c n : Nat} {GL : List (Int × Int × Int)} (h : RV sgZ 3 w p GL) (hl : GL.length = n) : SegV w (.slice p n c) n (fun i => GL.getD i (0, 0, 0)) := by
  refine ⟨p, c, rfl, fun hn => ?_⟩
  rcases h with rfl | ⟨b, off, hp, hb, hc⟩
  · simp at hl; omega
  · refine ⟨b, off, hp, fun i hi => ?_⟩
    have hx : GL[i]? = some (GL.getD i (0, 0, 0)) := by
      rw [List.getD_eq_getElem?_getD, List.getElem?_eq_getElem (by omega)]
      rfl
    exact ⟨by simpa using hc i _ hx 0 _ rfl, hc i _ hx 1 _ rfl, hc i _ hx 2 _ rfl⟩
abbrev Mt.own (m : Mt) : Ptr := ⟨m.sp, m.sc, m.ep, m.ec, m.gp, m.gc, m.tp, m.tc⟩
/-- What stands between two calls of the law. -/
structure Fx (B b0 b3 : Nat) (m : Mt) (q : Ptr) (SL : List Slo) (EL : List Epo) (GL : List (Int × Int × Int)) (T T' : List Tk) (E : Nat) (W : World) : Prop where
  bx : Bx W b0 m
  bn : Bx W b3 (m.at q)
  s1 : RV sloL 9 W m.sp SL
  s2 : RV sloL 9 W q.sp SL
  e1 : RV epoL 5 W m.ep EL
  e2 : RV epoL 5 W q.ep EL
  g1 : RV sgZ 3 W m.gp GL
  g2 : RV sgZ 3 W q.gp GL
  t1 : RV tkL 4 W m.tp T
  t2 : RV tkL 4 W q.tp T'
  tm : TkM B W T' T
  k1 : Mk W q.sp m.sn q.sc 9 (.int .i64 (-77))
  k2 : Mk W q.ep m.en q.ec 5 (.int .u64 77)
  k3 : Mk W q.gp m.gn q.gc 3 (.int .u64 77)
  k4 : Mk W q.tp m.tn q.tc 4 (.int .i64 (-77))
  l1 : SL.length = m.sn
  l2 : EL.length = m.en
  l3 : GL.length = m.gn
  l4 : T.length = m.tn
  l5 : T'.length = m.tn
  la : ∀ x, EL[m.en - 1]? = some x → x.n = (E : Nat)
theorem Fx.below {B b0 b3 : Nat} {m : Mt} {q : Ptr} {SL : List Slo} {EL : List Epo} {GL : List (Int × Int × Int)} {T T' : List Tk} {E : Nat} {W W' : World} (h : Fx B b0 b3 m q SL EL GL T T' E W) (hb : Below W.heap.size W W') : Fx B b0 b3 m q SL EL GL T T' E W' :=
  ⟨h.bx.below hb, h.bn.below hb, h.s1.below hb, h.s2.below hb, h.e1.below hb, h.e2.below hb, h.g1.below hb, h.g2.below hb, h.t1.below hb, h.t2.below hb, fun i x y hx hy => by
    obtain ⟨a, b, c, zs, m1, v1⟩ := h.tm i x y hx hy
    exact ⟨a, b, c, zs, m1.kept hb.block, v1.kept hb.block⟩, h.k1.below hb, h.k2.below hb, h.k3.below hb, h.k4.below hb, h.l1, h.l2, h.l3, h.l4, h.l5, h.la⟩
theorem Fx.whole {B b0 b3 : Nat} {m : Mt} {q : Ptr} {SL : List Slo} {EL : List Epo} {GL : List (Int × Int × Int)} {T T' : List Tk} {E : Nat} {W : World} (h : Fx B b0 b3 m q SL EL GL T T' E W) (b1 : m.sn ≤ 1000000000000000) (b2 : m.en ≤ 1000000000000000) (b3' : m.gn ≤ 1000000000000000) (b4 : m.tn ≤ 1000000000000000) :
    Calls Try.prog 9 #[.agg (mtC (m.at q)), .agg (mtC m)] W fun e w' => e = .returned (.bool true) ∧ Below W.heap.size W w' :=
  whole9 (m.at q) m.own SL EL (fun i => GL.getD i (0, 0, 0)) T' T B h.l1 h.l2 h.l5 h.l4 b1 b2 b3' b4 W h.s2 h.s1 h.e2 h.e1 (SegV.of h.g2 h.l3) (SegV.of h.g1 h.l3) h.t2 h.t1 h.tm h.k1 h.k2 h.k3 h.k4
theorem Fx.seg {B b0 b3 : Nat} {m : Mt} {q : Ptr} {SL : List Slo} {EL : List Epo} {GL : List (Int × Int × Int)} {T T' : List Tk} {E : Nat} {W : World} (h : Fx B b0 b3 m q SL EL GL T T' E W) (h0 : 0 ≤ m.C) (he : m.en ≤ 1000000000000000) :
    Calls Try.prog 7 #[.agg (mtC (m.at q))] W fun e w' => ∃ v, e = .returned v ∧ w'.ownsRow W.heap.size 51 3 v (segF m E).length (sgs (segF m E)) ∧ Below W.heap.size W w' :=
  seg_ok (m.at q) E h0 he W (Last.of h.e2 h.l2 h.la)
theorem segF_len (m : Mt) (E : Nat) : (segF m E).length ≤ 2 := by
  unfold segF
  split
  · split
    · split
      · split
        · rw [inRow_both]; split <;> split <;> simp
        · rw [inRow_both]; split <;> split <;> simp
      · simp
    · simp [inRowF]; split <;> simp
  · simp
/-- spoil of a list of segments that the call owns. -/
theorem spoil_own (b : Nat) (v : Value) (n : Nat) (xs : List Value) (w : World) (hn : n ≤ 1000) (hbw : b ≤ w.heap.size) (hown : w.ownsRow b 51 3 v n xs) :
    Calls Try.prog 10 #[.agg (metaC v)] w fun e w' => e = .returned (.tuple #[]) ∧ w.grownBy w' v.ownBlock := by
  have h0 := hown
  rcases hown.2 with ⟨rfl, rfl⟩ | ⟨g, cap, cur, rfl, _⟩
  · exact spoilM_nil w
  · exact spoilM_some b g n cap xs w hn hbw (h0.lt g rfl).2 h0
end Go.Proofs.Ytchfbanehohjoaa
