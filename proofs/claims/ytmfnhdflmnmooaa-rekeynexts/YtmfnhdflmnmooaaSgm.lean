import Derived.Test.YtmfnhdflmnmooaaShe
import Derived.Test.YtmfnhdflmnmooaaIna
namespace Go.Proofs.Ytmfnhdflmnmooaa
open Go.RowKit
set_option linter.unusedVariables false
set_option linter.unusedSimpArgs false
/-- Metadata as a value; lists as slices. -/
structure Mt where
  lab : ByteArray
  sub : ByteArray
  uid : ByteArray
  hst : ByteArray
  U : Int
  C : Int
  H : Int
  K : Int
  tur : Int
  slt : ByteArray
  dig : ByteArray
  sp : Option Addr
  sn : Nat
  sc : Nat
  ep : Option Addr
  en : Nat
  ec : Nat
  gp : Option Addr
  gn : Nat
  gc : Nat
  on : Bool
  fr : Nat
  to : Nat
  back : Bool
  mode : Int
  hot : Int
  done : Nat
  ao : Int
  az : Int
  act : Bool
  cnt : Int
  sum : ByteArray
  tp : Option Addr
  tn : Nat
  tc : Nat
abbrev mtC (m : Mt) : Array Value := #[.string m.lab, .string m.sub, .string m.uid, .string m.hst, .int .i64 m.U, .int .u64 m.C, .int .i64 m.H, .int .i64 m.K, .int .i64 m.tur, .string m.slt, .string m.dig, .slice m.sp m.sn m.sc, .slice m.ep m.en m.ec, .slice m.gp m.gn m.gc,
  .bool m.on, .int .u64 (m.fr : Nat), .int .u64 (m.to : Nat), .bool m.back, .int .i64 m.mode, .int .u64 m.hot, .int .u64 (m.done : Nat), .int .i64 m.ao, .int .i64 m.az, .bool m.act, .int .u64 m.cnt, .string m.sum, .slice m.tp m.tn m.tc]
/-- The last epoch's number. -/
def Last (w : World) (m : Mt) (E : Nat) : Prop := 0 < m.en → ∃ b off, m.ep = some ⟨b, off, none⟩ ∧ b < w.heap.size ∧ w.cell? ⟨b, off + (m.en - 1) * 5, none⟩ = some (.int .u64 (E : Nat))
def secM (m : Mt) : Nat := (secN m.U m.C m.H m.K).toNat
/-- What a rotation makes of the data. -/
def segF (m : Mt) (E : Nat) : List Sg :=
  if mayB m.U m.C m.H m.K = true ∧ 0 < m.en then (if m.on = true then (if m.done ≤ secM m then (if m.back = true then inRowF [(secM m - m.done, m.fr), (m.done, m.to)] 0 else inRowF [(m.done, m.to), (secM m - m.done, m.fr)] 0) else []) else inRowF [(secM m, E)] 0) else []
theorem sec_range {U C H K : Int} (hm : mayB U C H K = true) (h0 : 0 ≤ C) : 0 ≤ secN U C H K ∧ secN U C H K ≤ 4294967296 := by
  obtain ⟨hu, hh, k1, k2, _, hc, hlt⟩ := mayB_all hm
  have hr := headB_range hh
  unfold secN
  rw [if_pos hm]
  rcases unitB_cases hu with rfl | rfl | rfl | rfl <;> omega
def Bx (W : World) (b : Nat) (m : Mt) : Prop := W.heap[b]? = some (.cells (mtC m) 36 (0, 0))
theorem Bx.c {W : World} {b : Nat} {m : Mt} (h : Bx W b m) (k : Nat) (v : Value) (hk : (mtC m)[k]? = some v) : W.cell? ⟨b, k, none⟩ = some v := by
  simp only [World.cell?]
  rw [show W.heap[b]? = _ from h]
  exact hk
theorem Bx.below {W W' : World} {b : Nat} {m : Mt} (h : Bx W b m) (hb : Below W.heap.size W W') : Bx W' b m := (hb.block b (Array.getElem?_eq_some_iff.1 h).1).trans h
theorem six_at (W : World) (g : Nat) (hg : W.heap.size = g) (cs : Array Value) (k : Nat) (v : Value) (hk : cs[k]? = some v) : (W.alloc (.cells cs 51)).cell? ⟨g, k, none⟩ = some v := by
  subst hg
  simp only [World.cell?]
  rw [World.alloc_heap_new W (.cells cs 51)]
  exact hk
theorem ownsRow_below {W : World} {B B' e size L : Nat} {v : Value} {xs : List Value} (h : W.ownsRow B e size v L xs) (hB : B' ≤ B) : W.ownsRow B' e size v L xs := by
  obtain ⟨hl, h1 | ⟨g, cap, cur, hv, hb, r⟩⟩ := h
  · exact ⟨hl, .inl h1⟩
  · exact ⟨hl, .inr ⟨g, cap, cur, hv, Nat.le_trans hB hb, r⟩⟩
end Go.Proofs.Ytmfnhdflmnmooaa
