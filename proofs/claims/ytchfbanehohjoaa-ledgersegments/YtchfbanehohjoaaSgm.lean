import Derived.Test.YtchfbanehohjoaaShe
import Derived.Test.YtchfbanehohjoaaIna
namespace Go.Proofs.Ytchfbanehohjoaa
open Go.RowKit
set_option linter.unusedVariables false
set_option linter.unusedSimpArgs false
/-- Metadata as a value; lists as slices. -/
structure Mt where
  lab : ByteArray
  sub : ByteArray
  uid : ByteArray
  hst : ByteArray
  U : Int
  C : Int
  H : Int
  K : Int
  tur : Int
  slt : ByteArray
  dig : ByteArray
  sp : Option Addr
  sn : Nat
  sc : Nat
  ep : Option Addr
  en : Nat
  ec : Nat
  gp : Option Addr
  gn : Nat
  gc : Nat
  on : Bool
  fr : Nat
  to : Nat
  back : Bool
  mode : Int
  hot : Int
  done : Nat
  ao : Int
  az : Int
  act : Bool
  cnt : Int
  sum : ByteArray
  tp : Option Addr
  tn : Nat
  tc : Nat
abbrev mtC (m : Mt) : Array Value := #[.string m.lab, .string m.sub, .string m.uid, .string m.hst, .int .i64 m.U, .int .u64 m.C, .int .i64 m.H, .int .i64 m.K, .int .i64 m.tur, .string m.slt, .string m.dig, .slice m.sp m.sn m.sc, .slice m.ep m.en m.ec, .slice m.gp m.gn m.gc,
  .bool m.on, .int .u64 (m.fr : Nat), .int .u64 (m.to : Nat), .bool m.back, .int .i64 m.mode, .int .u64 m.hot, .int .u64 (m.done : Nat), .int .i64 m.ao, .int .i64 m.az, .bool m.act, .int .u64 m.cnt, .string m.sum, .slice m.tp m.tn m.tc]
/-- The last epoch's number. -/
def Last (w : World) (m : Mt) (E : Nat) : Prop := 0 < m.en → ∃ b off, m.ep = some ⟨b, off, none⟩ ∧ b < w.heap.size ∧ w.cell? ⟨b, off + (m.en - 1) * 5, none⟩ = some (.int .u64 (E : Nat))
def secM (m : Mt) : Nat := (secN m.U m.C m.H m.K).toNat
/-- What a rotation makes of the data. -/
def segF (m : Mt) (E : Nat) : List Sg :=
  if mayB m.U m.C m.H m.K = true ∧ 0 < m.en then (if m.on = true then (if m.done ≤ secM m then (if m.back = true then inRowF [(secM m - m.done, m.fr), (m.done, m.to)] 0 else inRowF [(m.done, m.to), (secM m - m.done, m.fr)] 0) else []) else inRowF [(secM m, E)] 0) else []
theorem sec_range {U C H K : Int} (hm : mayB U C H K = true) (h0 : 0 ≤ C) : 0 ≤ secN U C H K ∧ secN U C H K ≤ 4294967296 := by
  obtain ⟨hu, hh, k1, k2, _, hc, hlt⟩ := mayB_all hm
  have hr := headB_range hh
  unfold secN
  rw [if_pos hm]
  rcases unitB_cases hu with rfl | rfl | rfl | rfl <;> omega
def Bx (W : World) (b : Nat) (m : Mt) : Prop := W.heap[b]? = some (.cells (mtC m) 36 (0, 0))
theorem Bx.c {W : World} {b : Nat} {m : Mt} (h : Bx W b m) (k : Nat) (v : Value) (hk : (mtC m)[k]? = some v) : W.cell? ⟨b, k, none⟩ = some v := by
  simp only [World.cell?]
  rw [show W.heap[b]? = _ from h]
  exact hk
theorem Bx.below {W W' : World} {b : Nat} {m : Mt} (h : Bx W b m) (hb : Below W.heap.size W W') : Bx W' b m := (hb.block b (Array.getElem?_eq_some_iff.1 h).1).trans h
theorem six_at (W : World) (g : Nat) (hg : W.heap.size = g) (cs : Array Value) (k : Nat) (v : Value) (hk : cs[k]? = some v) : (W.alloc (.cells cs 51)).cell? ⟨g, k, none⟩ = some v := by
  subst hg
  simp only [World.cell?]
  rw [World.alloc_heap_new W (.cells cs 51)]
  exact hk
theorem ownsRow_below {W : World} {B B' e size L : Nat} {v : Value} {xs : List Value} (h : W.ownsRow B e size v L xs) (hB : B' ≤ B) : W.ownsRow B' e size v L xs := by
  obtain ⟨hl, h1 | ⟨g, cap, cur, hv, hb, r⟩⟩ := h
  · exact ⟨hl, .inl h1⟩
  · exact ⟨hl, .inr ⟨g, cap, cur, hv, Nat.le_trans hB hb, r⟩⟩
theorem inRow_two (a b : Nat × Nat) (ha : a.1 ≤ 4294967296) (hb : b.1 ≤ 4294967296) (W : World) (g : Nat) (hg : W.heap.size = g) :
    Calls Try.prog 14 #[.slice (some ⟨g, 0, none⟩) 2 2] (W.alloc (.cells #[.int .u64 0, .int .u64 (a.1 : Nat), .int .u64 (a.2 : Nat), .int .u64 0, .int .u64 (b.1 : Nat), .int .u64 (b.2 : Nat)] 51)) fun e w' => ∃ v, e = .returned v ∧ w'.ownsRow g 51 3 v (inRowF [a, b] 0).length (sgs (inRowF [a, b] 0)) ∧ Below g W w' := by
  have hs : (W.alloc (.cells #[.int .u64 0, .int .u64 (a.1 : Nat), .int .u64 (a.2 : Nat), .int .u64 0, .int .u64 (b.1 : Nat), .int .u64 (b.2 : Nat)] 51)).heap.size = g + 1 := by simp [hg]
  refine (inRow_ok [a, b] 2 g rfl (by omega) (by intro x hx; simp at hx; rcases hx with rfl | rfl; exact ha; exact hb) _ (by omega) (fun i hi => ?_)).mono ?_
  · match i, hi with
    | 0, _ => exact ⟨six_at W g hg _ 0 _ rfl, six_at W g hg _ 1 _ rfl, six_at W g hg _ 2 _ rfl⟩
    | 1, _ => exact ⟨six_at W g hg _ 3 _ rfl, six_at W g hg _ 4 _ rfl, six_at W g hg _ 5 _ rfl⟩
  · rintro e w' ⟨v, rfl, hrow, hbel⟩
    refine ⟨v, rfl, ownsRow_below hrow (by omega), ?_⟩
    have h1 : Below g W (W.alloc (.cells #[.int .u64 0, .int .u64 (a.1 : Nat), .int .u64 (a.2 : Nat), .int .u64 0, .int .u64 (b.1 : Nat), .int .u64 (b.2 : Nat)] 51)) := (Below.refl _ W).alloc (by omega) _
    exact h1.trans (hbel.mono (by omega))
theorem inRow_one (a : Nat × Nat) (ha : a.1 ≤ 4294967296) (W : World) (g : Nat) (hg : W.heap.size = g) :
    Calls Try.prog 14 #[.slice (some ⟨g, 0, none⟩) 1 1] (W.alloc (.cells #[.int .u64 0, .int .u64 (a.1 : Nat), .int .u64 (a.2 : Nat)] 51)) fun e w' => ∃ v, e = .returned v ∧ w'.ownsRow g 51 3 v (inRowF [a] 0).length (sgs (inRowF [a] 0)) ∧ Below g W w' := by
  have hs : (W.alloc (.cells #[.int .u64 0, .int .u64 (a.1 : Nat), .int .u64 (a.2 : Nat)] 51)).heap.size = g + 1 := by simp [hg]
  refine (inRow_ok [a] 1 g rfl (by omega) (by intro x hx; simp at hx; subst hx; exact ha) _ (by omega) (fun i hi => ?_)).mono ?_
  · match i, hi with
    | 0, _ => exact ⟨six_at W g hg _ 0 _ rfl, six_at W g hg _ 1 _ rfl, six_at W g hg _ 2 _ rfl⟩
  · rintro e w' ⟨v, rfl, hrow, hbel⟩
    refine ⟨v, rfl, ownsRow_below hrow (by omega), ?_⟩
    have h1 : Below g W (W.alloc (.cells #[.int .u64 0, .int .u64 (a.1 : Nat), .int .u64 (a.2 : Nat)] 51)) := (Below.refl _ W).alloc (by omega) _
    exact h1.trans (hbel.mono (by omega))
set_option maxHeartbeats 4000000 in
set_option maxRecDepth 100000 in
theorem seg_ok (m : Mt) (E : Nat) (h0 : 0 ≤ m.C) (he : m.en ≤ 1000000000000000) (w : World) (hL : Last w m E) : Calls Try.prog 7 #[.agg (mtC m)] w fun e w' => ∃ v, e = .returned v ∧ w'.ownsRow w.heap.size 51 3 v (segF m E).length (sgs (segF m E)) ∧ Below w.heap.size w w' := by
  have bx : Bx (w.alloc (.cells (mtC m) 36)) w.heap.size m := World.alloc_heap_new w _
  have b0 : Below w.heap.size w (w.alloc (.cells (mtC m) 36)) := (Below.refl _ w).alloc (Nat.le_refl _) _
  have y4 := bx.c 4 (.int .i64 m.U) rfl
  have y5 := bx.c 5 (.int .u64 m.C) rfl
  have y6 := bx.c 6 (.int .i64 m.H) rfl
  have y7 := bx.c 7 (.int .i64 m.K) rfl
  have hS := sect_ok m.U m.C m.H m.K h0 (w.alloc (.cells (mtC m) 36))
  by_cases hm : mayB m.U m.C m.H m.K = true
  · have hE : secE m.U m.C m.H m.K = 0 := by unfold secE; rw [if_pos hm]
    have hr := sec_range hm h0
    have hN : secN m.U m.C m.H m.K = ((secM m : Nat) : Int) := by unfold secM; omega
    rw [hE, hN] at hS
    have hM : secM m ≤ 4294967296 := by unfold secM; omega
    by_cases hen : 0 < m.en
    · have qe : ((m.en : Int) == 0) = false := by rw [beq_eq_false_iff_ne]; omega
      by_cases hon : m.on = true
      · by_cases hd : m.done ≤ secM m
        · have qd : decide (((secM m : Nat) : Int) < (m.done : Int)) = false := by simp; omega
          have ws : IntKind.u64.wrap (((secM m : Nat) : Int) - (m.done : Int)) = ((secM m - m.done : Nat) : Int) := by rw [IntKind.wrap_u64]; omega
          obtain ⟨X, hX⟩ : ∃ X, secM m - m.done = X := ⟨_, rfl⟩
          rw [hX] at ws
          by_cases hbk : m.back = true
          · have hF : segF m E = inRowF [(X, m.fr), (m.done, m.to)] 0 := by unfold segF; rw [if_pos ⟨hm, hen⟩, if_pos hon, if_pos hd, if_pos hbk, hX]
            rw [hF]
            clear hF
            go_enter Try.func7, Try.ntmps7
            go_wp2_with (first
              | (go_at_call 13; refine hS.mono ?_; rintro e w1 ⟨he1, b1⟩; subst he1; have bx1 := bx.below b1; have y12 := bx1.c 12 (.slice m.ep m.en m.ec) rfl; have y14 := bx1.c 14 (.bool m.on) rfl; have y15 := bx1.c 15 (.int .u64 (m.fr : Nat)) rfl; have y16 := bx1.c 16 (.int .u64 (m.to : Nat)) rfl; have y17 := bx1.c 17 (.bool m.back) rfl; have y18 := bx1.c 18 (.int .i64 m.mode) rfl; have y19 := bx1.c 19 (.int .u64 m.hot) rfl; have y20 := bx1.c 20 (.int .u64 (m.done : Nat)) rfl; have y21 := bx1.c 21 (.int .i64 m.ao) rfl; have y22 := bx1.c 22 (.int .i64 m.az) rfl; have y23 := bx1.c 23 (.bool m.act) rfl; have y24 := bx1.c 24 (.int .u64 m.cnt) rfl; have y25 := bx1.c 25 (.string m.sum) rfl; have b2 : Below w.heap.size w w1 := b0.trans (b1.mono b0.size))
              | (go_at_call 14; refine (inRow_two (X, m.fr) (m.done, m.to) (by simp only; omega) (by simp only; omega) _ _ (by simp)).mono ?_; rintro e w4 ⟨v, rfl, hrow, hb4⟩))
            go_ret
            have hs4 := b2.size
            exact ⟨v, rfl, ownsRow_below hrow (by omega), (((b2.alloc hs4 _).alloc (by simp; omega) _).alloc (by simp; omega) _).trans (hb4.mono (by omega))⟩
          · have hF : segF m E = inRowF [(m.done, m.to), (X, m.fr)] 0 := by unfold segF; rw [if_pos ⟨hm, hen⟩, if_pos hon, if_pos hd, if_neg hbk, hX]
            have hbk2 : m.back = false := by simpa using hbk
            clear hbk
            rw [hF]
            clear hF
            go_enter Try.func7, Try.ntmps7
            go_wp2_with (first
              | (go_at_call 13; refine hS.mono ?_; rintro e w1 ⟨he1, b1⟩; subst he1; have bx1 := bx.below b1; have y12 := bx1.c 12 (.slice m.ep m.en m.ec) rfl; have y14 := bx1.c 14 (.bool m.on) rfl; have y15 := bx1.c 15 (.int .u64 (m.fr : Nat)) rfl; have y16 := bx1.c 16 (.int .u64 (m.to : Nat)) rfl; have y17 := bx1.c 17 (.bool m.back) rfl; have y18 := bx1.c 18 (.int .i64 m.mode) rfl; have y19 := bx1.c 19 (.int .u64 m.hot) rfl; have y20 := bx1.c 20 (.int .u64 (m.done : Nat)) rfl; have y21 := bx1.c 21 (.int .i64 m.ao) rfl; have y22 := bx1.c 22 (.int .i64 m.az) rfl; have y23 := bx1.c 23 (.bool m.act) rfl; have y24 := bx1.c 24 (.int .u64 m.cnt) rfl; have y25 := bx1.c 25 (.string m.sum) rfl; have b2 : Below w.heap.size w w1 := b0.trans (b1.mono b0.size))
              | (go_at_call 14; refine (inRow_two (m.done, m.to) (X, m.fr) (by simp only; omega) (by simp only; omega) _ _ (by simp)).mono ?_; rintro e w4 ⟨v, rfl, hrow, hb4⟩))
            go_ret
            have hs4 := b2.size
            exact ⟨v, rfl, ownsRow_below hrow (by omega), (((b2.alloc hs4 _).alloc (by simp; omega) _).alloc (by simp; omega) _).trans (hb4.mono (by omega))⟩
        · have hF : segF m E = [] := by unfold segF; rw [if_pos ⟨hm, hen⟩, if_pos hon, if_neg hd]
          have qd : decide (((secM m : Nat) : Int) < (m.done : Int)) = true := by simp; omega
          rw [hF]
          clear hF
          go_enter Try.func7, Try.ntmps7
          go_wp2_with (go_at_call 13; refine hS.mono ?_; rintro e w1 ⟨he1, b1⟩; subst he1; have bx1 := bx.below b1; have y12 := bx1.c 12 (.slice m.ep m.en m.ec) rfl; have y14 := bx1.c 14 (.bool m.on) rfl; have y15 := bx1.c 15 (.int .u64 (m.fr : Nat)) rfl; have y16 := bx1.c 16 (.int .u64 (m.to : Nat)) rfl; have y17 := bx1.c 17 (.bool m.back) rfl; have y18 := bx1.c 18 (.int .i64 m.mode) rfl; have y19 := bx1.c 19 (.int .u64 m.hot) rfl; have y20 := bx1.c 20 (.int .u64 (m.done : Nat)) rfl; have y21 := bx1.c 21 (.int .i64 m.ao) rfl; have y22 := bx1.c 22 (.int .i64 m.az) rfl; have y23 := bx1.c 23 (.bool m.act) rfl; have y24 := bx1.c 24 (.int .u64 m.cnt) rfl; have y25 := bx1.c 25 (.string m.sum) rfl; have b2 : Below w.heap.size w w1 := b0.trans (b1.mono b0.size))
          go_ret
          exact ⟨_, rfl, World.ownsRow_nil _ _ _ _, b2.alloc b2.size _⟩
      · have hF : segF m E = inRowF [(secM m, E)] 0 := by unfold segF; rw [if_pos ⟨hm, hen⟩, if_neg hon]
        have hon2 : m.on = false := by simpa using hon
        clear hon
        rw [hF]
        clear hF
        obtain ⟨bb, off, hep, hbb, hcell⟩ := hL hen
        have qi : IntKind.i64.wrap ((m.en : Int) - 1) = (m.en : Int) - 1 := by rw [IntKind.wrap_i64]; omega
        have qj : ((m.en : Int) - 1).toNat = m.en - 1 := by omega
        have qk : (m.en : Int) - 1 < (m.en : Int) := by omega
        have ql : (0 : Int) ≤ (m.en : Int) - 1 := by omega
        go_enter Try.func7, Try.ntmps7
        go_wp2_with (first
          | (go_at_call 13; refine hS.mono ?_; rintro e w1 ⟨he1, b1⟩; subst he1; have bx1 := bx.below b1; have y12 := bx1.c 12 (.slice m.ep m.en m.ec) rfl; have y14 := bx1.c 14 (.bool m.on) rfl; have y15 := bx1.c 15 (.int .u64 (m.fr : Nat)) rfl; have y16 := bx1.c 16 (.int .u64 (m.to : Nat)) rfl; have y17 := bx1.c 17 (.bool m.back) rfl; have y18 := bx1.c 18 (.int .i64 m.mode) rfl; have y19 := bx1.c 19 (.int .u64 m.hot) rfl; have y20 := bx1.c 20 (.int .u64 (m.done : Nat)) rfl; have y21 := bx1.c 21 (.int .i64 m.ao) rfl; have y22 := bx1.c 22 (.int .i64 m.az) rfl; have y23 := bx1.c 23 (.bool m.act) rfl; have y24 := bx1.c 24 (.int .u64 m.cnt) rfl; have y25 := bx1.c 25 (.string m.sum) rfl; have b2 : Below w.heap.size w w1 := b0.trans (b1.mono b0.size); have y12b : (w1.alloc (.cells #[.bool false, .int .u64 (m.fr : Nat), .int .u64 (m.to : Nat), .bool m.back, .int .i64 m.mode, .int .u64 m.hot, .int .u64 (m.done : Nat), .int .i64 m.ao, .int .i64 m.az, .bool m.act, .int .u64 m.cnt, .string m.sum] 33)).cell? ⟨w.heap.size, 12, none⟩ = some (.slice m.ep m.en m.ec) := (World.grownBy_alloc w1 _ none).cell y12 (by simp); have yE : (w1.alloc (.cells #[.bool false, .int .u64 (m.fr : Nat), .int .u64 (m.to : Nat), .bool m.back, .int .i64 m.mode, .int .u64 m.hot, .int .u64 (m.done : Nat), .int .i64 m.ao, .int .i64 m.az, .bool m.act, .int .u64 m.cnt, .string m.sum] 33)).cell? ⟨bb, off + (m.en - 1) * 5, none⟩ = some (.int .u64 (E : Nat)) := (World.grownBy_alloc w1 _ none).cell ((b2.cell (p := ⟨bb, off + (m.en - 1) * 5, none⟩) hbb).trans hcell) (by simp))
          | (go_at_call 14; refine (inRow_one (secM m, E) (by simp only; omega) _ _ (by simp)).mono ?_; rintro e w4 ⟨v, rfl, hrow, hb4⟩))
        go_ret
        have hs4 := b2.size
        exact ⟨v, rfl, ownsRow_below hrow (by omega), (b2.alloc hs4 _).trans (hb4.mono (by omega))⟩
    · have hF : segF m E = [] := by unfold segF; rw [if_neg (fun h => hen h.2)]
      have qe : ((m.en : Int) == 0) = true := by rw [beq_iff_eq]; omega
      rw [hF]
      clear hF
      go_enter Try.func7, Try.ntmps7
      go_wp2_with (go_at_call 13; refine hS.mono ?_; rintro e w1 ⟨he1, b1⟩; subst he1; have bx1 := bx.below b1; have y12 := bx1.c 12 (.slice m.ep m.en m.ec) rfl; have y14 := bx1.c 14 (.bool m.on) rfl; have y15 := bx1.c 15 (.int .u64 (m.fr : Nat)) rfl; have y16 := bx1.c 16 (.int .u64 (m.to : Nat)) rfl; have y17 := bx1.c 17 (.bool m.back) rfl; have y18 := bx1.c 18 (.int .i64 m.mode) rfl; have y19 := bx1.c 19 (.int .u64 m.hot) rfl; have y20 := bx1.c 20 (.int .u64 (m.done : Nat)) rfl; have y21 := bx1.c 21 (.int .i64 m.ao) rfl; have y22 := bx1.c 22 (.int .i64 m.az) rfl; have y23 := bx1.c 23 (.bool m.act) rfl; have y24 := bx1.c 24 (.int .u64 m.cnt) rfl; have y25 := bx1.c 25 (.string m.sum) rfl; have b2 : Below w.heap.size w w1 := b0.trans (b1.mono b0.size))
      go_ret
      exact ⟨_, rfl, World.ownsRow_nil _ _ _ _, b2⟩
  · have hE : secE m.U m.C m.H m.K = 90 := by unfold secE; rw [if_neg hm]
    have hF : segF m E = [] := by unfold segF; rw [if_neg (fun h => hm h.1)]
    rw [hE] at hS
    rw [hF]
    clear hF
    go_enter Try.func7, Try.ntmps7
    go_wp2_with (go_at_call 13; refine hS.mono ?_; rintro e w1 ⟨he1, b1⟩; subst he1; have bx1 := bx.below b1; have y12 := bx1.c 12 (.slice m.ep m.en m.ec) rfl; have y14 := bx1.c 14 (.bool m.on) rfl; have y15 := bx1.c 15 (.int .u64 (m.fr : Nat)) rfl; have y16 := bx1.c 16 (.int .u64 (m.to : Nat)) rfl; have y17 := bx1.c 17 (.bool m.back) rfl; have y18 := bx1.c 18 (.int .i64 m.mode) rfl; have y19 := bx1.c 19 (.int .u64 m.hot) rfl; have y20 := bx1.c 20 (.int .u64 (m.done : Nat)) rfl; have y21 := bx1.c 21 (.int .i64 m.ao) rfl; have y22 := bx1.c 22 (.int .i64 m.az) rfl; have y23 := bx1.c 23 (.bool m.act) rfl; have y24 := bx1.c 24 (.int .u64 m.cnt) rfl; have y25 := bx1.c 25 (.string m.sum) rfl; have b2 : Below w.heap.size w w1 := b0.trans (b1.mono b0.size))
    go_ret
    exact ⟨_, rfl, World.ownsRow_nil _ _ _ _, b2⟩
end Go.Proofs.Ytchfbanehohjoaa
