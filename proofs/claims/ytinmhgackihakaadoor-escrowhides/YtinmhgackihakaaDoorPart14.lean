import Derived.Test.YtinmhgackihakaaDoorPart12
import Derived.Deep.Cut
import Derived.Deep.DeepMust
import Derived.Deep.Upon
import Derived.Test.YtinmhgackihakaaDoorPart13
import Derived.Deep.AppendLies
namespace Go.Proofs.YtinmhgackihakaaDoor
open Go.RowKit
set_option linter.unusedVariables false
set_option linter.unusedSimpArgs false
set_option maxRecDepth 100000
theorem wpList_append_zero {w : World} {ops : Array Oper} {rest : List Oper} {o : Oper} {a : Act} {Q : Exit → Act → World → Prop} (hgd : o.guard = none) (s x : Operand)
    (ho : o.op = .call { callee := .builtin .append, args := #[s, x], argTypes := #[23, 23] }) (base : Option Addr) (c : Nat) (hs : a.eval s = .slice base 0 c) (a2 : Option Addr) (c2 : Nat) (hx : a.eval x = .slice a2 0 c2)
    (h : wpList Tryd.prog ops Q rest (a.put o.dst (.slice base 0 c)) w) : wpList Tryd.prog ops Q (o :: rest) a w := by
  refine wpList_plain hgd fun K hK => ?_
  obtain ⟨i0, hi, hz0, hz1, hz2⟩ := info_parts Tryd.infoB
  have hsrc : Src Tryd.prog i0.size 23 (.slice a2 0 c2) 0 [] w := by
    cases a2 with
    | none => exact Src.ofNil w Tryd.underlying23' c2
    | some a2 => exact Src.ofSlice w Tryd.underlying23' a2 0 c2 [] (by simp) (fun j u hu => by simp at hu) (fun u hu => by cases hu)
  have hrun := run_append_nothing (P := Tryd.prog) w 23 23 o.type 5 i0 Tryd.underlying23' hi base 0 c (Nat.zero_le _) _ hsrc
  unfold Oper.wp
  simp [execOp, ho, resolve, invoke, builtin, hs, hx, hrun, Result.andThen]
  exact hK _ _ h
/-- A Deal's zero. -/
def Z25 : List Value := [.int .u16 0, .slice none 0 0, .int .i64 0, .int .i64 0, .bool false, .slice none 0 0]
/-- The secret that is shared. -/
def sec5 (l : List F) : List F := if l = [] then [5] else l.take 64
def nd5 (nd : Int) : Nat := 1 + (IntKind.u64.wrap nd % 16).toNat
def ct5 (nd ct : Int) : Nat := nd5 nd + (IntKind.u64.wrap ct % 9).toNat
theorem sec5_len (l : List F) : 1 ≤ (sec5 l).length ∧ (sec5 l).length ≤ 64 := by
  unfold sec5
  split
  · simp
  · rename_i h
    have : 0 < l.length := by cases l with | nil => exact absurd rfl h | cons => simp
    rw [List.length_take]
    omega
theorem nd5_le (nd : Int) : 1 ≤ nd5 nd ∧ nd5 nd ≤ 16 := by
  unfold nd5
  have := Int.emod_lt_of_pos (IntKind.u64.wrap nd) (show (0 : Int) < 16 by decide)
  have := Int.emod_nonneg (IntKind.u64.wrap nd) (show (16 : Int) ≠ 0 by decide)
  omega
theorem ct5_le (nd ct : Int) : nd5 nd ≤ ct5 nd ct ∧ ct5 nd ct ≤ 24 := by
  have := nd5_le nd
  unfold ct5
  have := Int.emod_lt_of_pos (IntKind.u64.wrap ct) (show (0 : Int) < 9 by decide)
  have := Int.emod_nonneg (IntKind.u64.wrap ct) (show (9 : Int) ≠ 0 by decide)
  omega
theorem ret_agg_tmp2 {P : Program} {fn : Func} {p t t2 : Tmp} {ty : TypeId} {d : TypeDesc} {Q : Ending → World → Prop} {tmps : Array Value} {w : World} {b : Nat} (cs : List Value) (v v2 : Value) (h : fn.results = #[.cell p ty, .tmp t, .tmp t2])
    (hp : tmps.getD p undef = .pointer (some ⟨b, 0, none⟩)) (ht : tmps.getD t undef = v) (ht2 : tmps.getD t2 undef = v2) (hr : w.rangeAt b 0 cs) (hu : P.underlying ty = some d) (hd : d.isRow = true) (hi : (P.info? ty).map (·.size) = some cs.length)
    (hq : Q (.returned (.tuple #[.agg cs.toArray, v, v2])) w) : bodyPost P fn Q .ret ⟨tmps, []⟩ w := by
  refine bodyPost_ret (v := .tuple #[.agg cs.toArray, v, v2]) ?_ rfl hq
  have hr2 : (results fn tmps).run P w = ((asAddr (tmps.getD p undef)).run P w).andThen fun a w₁ => ((loadVar ty a).run P w₁).andThen fun v w₂ => .ok (.tuple #[v, tmps.getD t undef, tmps.getD t2 undef]) w₂ := by
    simp only [results, h]
    simp [Sem.run_bind, Result.andThen]
  rw [hr2]
  have hl := run_loadVar_mid (P := P) w b 0 ty cs d hr hu hd hi
  simp [hp, asAddr, hl, ht, ht2]
theorem u64_wrap (x : Int) : 0 ≤ IntKind.u64.wrap x := by
  simp [IntKind.wrap, IntKind.bits, IntKind.signed]
  omega
theorem own_rc {w : World} {B : Nat} {v : Value} {l : List F} (h : w.ownsRow B 5 1 v l.length (fc l)) (h1 : 1 ≤ l.length) : ∃ g c, v = .slice (some ⟨g, 0, none⟩) l.length c ∧ Hid (Rx w g l ∧ B ≤ g ∧ l.length ≤ c ∧ c ≤ maxLen) := by
  rcases h.2 with ⟨e, _⟩ | ⟨g, cap, cur, q, hB, hh, h3, h4, h5, h6⟩
  · omega
  · refine ⟨g, cap, q, ⟨cur.toList.drop l.length, ?_⟩, hB, h3, h4⟩
    unfold Bx
    rw [hh, ← h6, Nat.mul_one, List.take_append_drop]
set_option maxHeartbeats 3200000 in
/-- dealt. -/
theorem dealt_ok (sn : Nat) (hsn : Hid (sn < 65536)) (nd ct : Int) (own : Bool) (sv : Value) (ra : Option Addr) (rl rc : Nat) (S Rd : List F) (w : World) (hT : Hid (Tables w)) (h : Hid (Vf w sv S)) (hr : Hid (Vf w (.slice ra rl rc) Rd)) :
    Calls Tryd.prog 5 #[.agg #[.int .u16 (sn : Nat), sv, .int .i64 nd, .int .i64 ct, .bool own, .slice ra rl rc]] w fun e w' => Hid (∃ g c tg, e = .returned (.tuple #[.agg #[.int .u16 (sn : Nat), .slice (some ⟨g, 0, none⟩) (sec5 S).length c, .int .i64 (nd5 nd : Nat), .int .i64 (ct5 nd ct : Nat), .bool false, .slice ra rl rc], .slice (some ⟨tg, 0, none⟩) (ct5 nd ct) (ct5 nd ct), .bool true]) ∧ (sec5 S).length ≤ c ∧ c ≤ maxLen ∧ w.heap.size ≤ g ∧ Rx w' g (sec5 S) ∧ w.heap.size ≤ tg ∧ Bx w' tg 9 (tcs (dealT sn (sec5 S) (rnd5 false Rd (nd5 nd) (sec5 S).length) (nd5 nd)) (ct5 nd ct)) ∧ Below w.heap.size w w') := by
  obtain ⟨M, HMM⟩ : ∃ M, Hid (w.heap.size = M) := ⟨_, rfl⟩
  obtain ⟨w1, hw1⟩ : ∃ u, u = (w.alloc (.cells #[.int .u16 (sn : Nat), sv, .int .i64 nd, .int .i64 ct, .bool own, .slice ra rl rc] 25)).alloc (.cells #[.int .u16 0, .slice none 0 0, .int .i64 0, .int .i64 0, .bool false, .slice none 0 0] 25) := ⟨_, rfl⟩
  have H1 : Hid (Bx w1 M 25 [.int .u16 (sn : Nat), sv, .int .i64 nd, .int .i64 ct, .bool own, .slice ra rl rc] ∧ Bx w1 (M + 1) 25 Z25 ∧ Below M w w1 ∧ w1.heap.size = M + 2) := by
    have hb : Below M w (w.alloc (.cells #[.int .u16 (sn : Nat), sv, .int .i64 nd, .int .i64 ct, .bool own, .slice ra rl rc] 25)) := (Below.refl _ _).alloc (Nat.le_of_eq HMM.out.symm) _
    have h0 : (w.alloc (.cells #[.int .u16 (sn : Nat), sv, .int .i64 nd, .int .i64 ct, .bool own, .slice ra rl rc] 25)).heap.size = M + 1 := by rw [← HMM.out]; simp
    have hb2 : Below (M + 1) (w.alloc (.cells #[.int .u16 (sn : Nat), sv, .int .i64 nd, .int .i64 ct, .bool own, .slice ra rl rc] 25)) w1 := by rw [hw1]; exact (Below.refl _ _).alloc (Nat.le_of_eq h0.symm) _
    have hx : Bx (w.alloc (.cells #[.int .u16 (sn : Nat), sv, .int .i64 nd, .int .i64 ct, .bool own, .slice ra rl rc] 25)) M 25 [.int .u16 (sn : Nat), sv, .int .i64 nd, .int .i64 ct, .bool own, .slice ra rl rc] := by rw [← HMM.out]; exact Bx.new w 25 _
    refine ⟨hx.keep (hb2.block M (by omega)), ?_, hb.trans (hb2.mono (by omega)), ?_⟩
    · rw [hw1, ← h0]; exact Bx.new _ 25 Z25
    · rw [hw1]; simp [← HMM.out]
  obtain ⟨w2, hw2⟩ : ∃ u, u = w1.setCell ⟨M, 4, none⟩ (.bool false) := ⟨_, rfl⟩
  have H2 : Hid (Bx w2 M 25 [.int .u16 (sn : Nat), sv, .int .i64 nd, .int .i64 ct, .bool false, .slice ra rl rc] ∧ Bx w2 (M + 1) 25 Z25 ∧ Below M w w2 ∧ w2.heap.size = M + 2) := by
    rw [hw2]
    refine ⟨H1.out.1.set 4 _, H1.out.2.1.keep ?_, H1.out.2.2.1.setCell (Nat.le_refl _) _, ?_⟩
    · exact (set_gb _ _ _ _).block (M + 1) H1.out.2.1.lt (fun e => by injection e with e; omega)
    · rw [← H1.out.2.2.2]; simp [World.setCell]
  obtain ⟨w3, hw3⟩ : ∃ u, u = w2.alloc (.cells #[] 5) := ⟨_, rfl⟩
  have H3 : Hid (Below (M + 2) w2 w3 ∧ w3.heap[M + 2]? = some (.cells #[] 5 (0, 0)) ∧ w3.heap.size = M + 3) := by
    rw [hw3]
    refine ⟨(Below.refl _ _).alloc (Nat.le_of_eq H2.out.2.2.2.symm) _, ?_, by simp [H2.out.2.2.2]⟩
    rw [← H2.out.2.2.2]
    exact new_none w2
  have HS3 : Hid (Vf w3 sv S) := h.out.below (by rw [HMM.out]; exact H2.out.2.2.1.trans (H3.out.1.mono (by omega)))
  have H14 : Hid (Calls Tryd.prog 6 #[sv, .int .i64 64] w3 fun e w' => CutQ S 64 e w3 w') := cut_any sv S 64 (by omega) w3 HS3.out
  have c4 := H1.out.1.cell 4 _ rfl
  have f4 := H1.out.1.frozen 4
  have H3x : Hid (Bx w3 M 25 [.int .u16 (sn : Nat), sv, .int .i64 nd, .int .i64 ct, .bool false, .slice ra rl rc]) := H2.out.1.keep (H3.out.1.block M (by omega))
  have c1 := H3x.out.cell 1 _ rfl
  have f1 := H3x.out.frozen 1
  obtain ⟨S2, HS2⟩ : ∃ z : List F, Hid (sec5 S = z) := ⟨_, rfl⟩
  have HSL : Hid (1 ≤ S2.length ∧ S2.length ≤ 64) := by rw [← HS2.out]; exact sec5_len S
  obtain ⟨N, HN⟩ : ∃ z, Hid (nd5 nd = z) := ⟨_, rfl⟩
  obtain ⟨K, HK⟩ : ∃ z, Hid (ct5 nd ct = z) := ⟨_, rfl⟩
  have HNK : Hid (1 ≤ N ∧ N ≤ 16 ∧ N ≤ K ∧ K ≤ 24) := by rw [← HN.out, ← HK.out]; exact ⟨(nd5_le nd).1, (nd5_le nd).2, (ct5_le nd ct).1, (ct5_le nd ct).2⟩
  have HN16 : Hid (RowKit.wrap64 (1 + RowKit.wrap64 ((IntKind.u64.wrap nd).tmod 16)) = (N : Nat)) := by
    show _ = _
    rw [← HN.out, Int.tmod_eq_emod_of_nonneg (u64_wrap nd)]
    unfold nd5
    have := Int.emod_lt_of_pos (IntKind.u64.wrap nd) (show (0 : Int) < 16 by decide)
    have := Int.emod_nonneg (IntKind.u64.wrap nd) (show (16 : Int) ≠ 0 by decide)
    generalize IntKind.u64.wrap nd % 16 = y at *
    simp [RowKit.wrap64]
    omega
  have HK9 : Hid (RowKit.wrap64 ((N : Nat) + RowKit.wrap64 ((IntKind.u64.wrap ct).tmod 9)) = (K : Nat)) := by
    show _ = _
    rw [← HK.out, Int.tmod_eq_emod_of_nonneg (u64_wrap ct)]
    unfold ct5
    rw [HN.out]
    have := HNK.out
    have := Int.emod_lt_of_pos (IntKind.u64.wrap ct) (show (0 : Int) < 9 by decide)
    have := Int.emod_nonneg (IntKind.u64.wrap ct) (show (9 : Int) ≠ 0 by decide)
    generalize IntKind.u64.wrap ct % 9 = y at *
    simp [RowKit.wrap64]
    omega
  obtain ⟨R, HRR⟩ : ∃ z : List F, Hid (rnd5 false Rd (N : Nat) (S2.length : Nat) = z) := ⟨_, rfl⟩
  obtain ⟨T, HTT⟩ : ∃ z, Hid (dealT sn S2 R N = z) := ⟨_, rfl⟩
  have HRd : Hid (rl = Rd.length) := (vf_rw hr.out).1
  have HER : Hid (dealE S2.length (N : Nat) (K : Nat) R.length = 0) := by
    show _ = _
    unfold dealE
    have hm : mayN S2.length (N : Nat) (K : Nat) = 0 := by
      unfold mayN
      rw [if_pos (by have := HSL.out; omega), if_pos (by have := HNK.out; omega)]
    rw [if_neg (by rw [hm]; simp), if_neg]
    rw [← HRR.out]
    unfold rnd5
    rw [if_neg (by decide), rndL_len]
    obtain ⟨z, hz, _⟩ := rnd_few (N : Nat) (S2.length : Nat)
    rw [hz]
    simp
  have HKK : Hid (dealC S2.length (N : Nat) (K : Nat) R.length = K) := by
    show _ = _
    unfold dealC
    rw [if_pos HER.out]
    rfl
  rw [HS2.out, HN.out, HK.out, HRR.out, HTT.out]
  subst hw3
  rw [HMM.out]
  go_enter Tryd.func5, Tryd.ntmps5
  go_upto_region 1 with fail
  rw [HMM.out]
  rw [← hw1]
  clear hw1
  go_upto_region 2 with fail
  rw [← hw2]
  clear hw2 c4 f4
  have hfr : w2.heap.size = M + 2 := H2.out.2.2.2
  by_cases hS : S = []
  · have HS0 : Hid (S2 = [5]) := by show _ = _; rw [← HS2.out, hS]; rfl
    subst hS
    go_upto_region 3 with (first
      | (go_at_call 6; refine H14.out.mono ?_; intro e4 w4 h4; obtain ⟨v4, rfl, h5, hw⟩ := h4; obtain rfl := hw.symm; obtain ⟨a4, c4, rfl, _⟩ := h5.parts; clear h5 hw)
      | (refine wpList_append_zero (by rfl) (.tmp 8) (.tmp 11) (by rfl) _ _ (by rfl) _ _ (by rfl) ?_)
      | fail)
    obtain ⟨w4, hw4⟩ : ∃ u, u = (w2.setCell ⟨M, 1, none⟩ (.slice (some ⟨M + 2, 0, none⟩) 0 0)).alloc (.cells #[] 5) := ⟨_, rfl⟩
    rw [← hw4]
    have H4 : Hid (Bx w4 M 25 [.int .u16 (sn : Nat), .slice (some ⟨M + 2, 0, none⟩) 0 0, .int .i64 nd, .int .i64 ct, .bool false, .slice ra rl rc] ∧ Bx w4 (M + 1) 25 Z25 ∧ Below M w w4 ∧ w4.heap.size = M + 3) := by
      have e0 : (w2.setCell ⟨M, 1, none⟩ (.slice (some ⟨M + 2, 0, none⟩) 0 0)).heap.size = M + 2 := by rw [← H2.out.2.2.2]; simp [World.setCell]
      have hb : Below (M + 2) (w2.setCell ⟨M, 1, none⟩ (.slice (some ⟨M + 2, 0, none⟩) 0 0)) w4 := by rw [hw4]; exact (Below.refl _ _).alloc (Nat.le_of_eq e0.symm) _
      refine ⟨(H2.out.1.set 1 _).keep (hb.block M (by omega)), (H2.out.2.1.keep ((set_gb _ _ _ _).block (M + 1) H2.out.2.1.lt (fun e => by injection e with e; omega))).keep (hb.block (M + 1) (by omega)), (H2.out.2.2.1.setCell (Nat.le_refl _) _).trans (hb.mono (by omega)), ?_⟩
      rw [hw4]
      simp [e0]
    clear hw4 c1 f1 hfr
    have hfr4 : w4.heap.size = M + 3 := H4.out.2.2.2
    have c1 := H4.out.1.cell 1 _ rfl
    have f1 := H4.out.1.frozen 1
    go_upto_region 5 with fail
    obtain ⟨w5, hw5⟩ : ∃ u, u = (w4.setCell ⟨M, 1, none⟩ (.slice (some ⟨M + 3, 0, none⟩) 1 1)).alloc (.cells #[.int .u8 5] 5) := ⟨_, rfl⟩
    rw [← hw5]
    have H5 : Hid (Bx w5 M 25 [.int .u16 (sn : Nat), .slice (some ⟨M + 3, 0, none⟩) S2.length 1, .int .i64 nd, .int .i64 ct, .bool false, .slice ra rl rc] ∧ Bx w5 (M + 1) 25 Z25 ∧ Below M w w5 ∧ M + 2 ≤ M + 3 ∧ Rx w5 (M + 3) S2 ∧ S2.length ≤ 1 ∧ 1 ≤ maxLen) := by
      have e0 : (w4.setCell ⟨M, 1, none⟩ (.slice (some ⟨M + 3, 0, none⟩) 1 1)).heap.size = M + 3 := by rw [← H4.out.2.2.2]; simp [World.setCell]
      have hb : Below (M + 3) (w4.setCell ⟨M, 1, none⟩ (.slice (some ⟨M + 3, 0, none⟩) 1 1)) w5 := by rw [hw5]; exact (Below.refl _ _).alloc (Nat.le_of_eq e0.symm) _
      rw [HS0.out]
      refine ⟨(H4.out.1.set 1 _).keep (hb.block M (by omega)), (H4.out.2.1.keep ((set_gb _ _ _ _).block (M + 1) H4.out.2.1.lt (fun e => by injection e with e; omega))).keep (hb.block (M + 1) (by omega)), (H4.out.2.2.1.setCell (Nat.le_refl _) _).trans (hb.mono (by omega)), by omega, ⟨[], ?_⟩, by simp, by unfold maxLen; omega⟩
      have z := Bx.new (w4.setCell ⟨M, 1, none⟩ (.slice (some ⟨M + 3, 0, none⟩) 1 1)) 5 [.int .u8 5]
      rw [e0] at z
      rw [hw5]
      exact z
    clear hw5 c1 f1 hfr4 H4
    have c2 := H5.out.1.cell 2 _ rfl
    have f2 := H5.out.1.frozen 2
    have c3 := H5.out.1.cell 3 _ rfl
    have f3 := H5.out.1.frozen 3
    go_upto_region 7 with fail
    rw [HN16.out, HK9.out]
    have H7 : Hid (Bx ((w5.setCell ⟨M, 2, none⟩ (.int .i64 (N : Nat))).setCell ⟨M, 3, none⟩ (.int .i64 (K : Nat))) M 25 [.int .u16 (sn : Nat), .slice (some ⟨M + 3, 0, none⟩) S2.length 1, .int .i64 (N : Nat), .int .i64 (K : Nat), .bool false, .slice ra rl rc] ∧ Bx ((w5.setCell ⟨M, 2, none⟩ (.int .i64 (N : Nat))).setCell ⟨M, 3, none⟩ (.int .i64 (K : Nat))) (M + 1) 25 Z25 ∧ Below M w ((w5.setCell ⟨M, 2, none⟩ (.int .i64 (N : Nat))).setCell ⟨M, 3, none⟩ (.int .i64 (K : Nat))) ∧ Rx ((w5.setCell ⟨M, 2, none⟩ (.int .i64 (N : Nat))).setCell ⟨M, 3, none⟩ (.int .i64 (K : Nat))) (M + 3) S2) := by
      have hg : w5.grownBy ((w5.setCell ⟨M, 2, none⟩ (.int .i64 (N : Nat))).setCell ⟨M, 3, none⟩ (.int .i64 (K : Nat))) (some M) := (set_gb _ _ _ _).trans (set_gb _ _ _ _)
      obtain ⟨x1, x2, x3, x5, ⟨sp, x4⟩, x6, x7⟩ := H5.out
      exact ⟨(x1.set 2 _).set 3 _, x2.keep (hg.block (M + 1) x2.lt (fun e => by injection e with e; omega)), (x3.setCell (Nat.le_refl _) _).setCell (Nat.le_refl _) _, ⟨sp, x4.keep (hg.block _ x4.lt (fun e => by injection e with e; omega))⟩⟩
    have HCP : Hid (S2.length ≤ 1 ∧ 1 ≤ maxLen ∧ M ≤ M + 3) := ⟨H5.out.2.2.2.2.2.1, H5.out.2.2.2.2.2.2, by have := H5.out.2.2.2.1; omega⟩
    clear c2 f2 c3 f3 H5
    first | (clear c1 f1) | skip
    generalize (w5.setCell ⟨M, 2, none⟩ (.int .i64 (N : Nat))).setCell ⟨M, 3, none⟩ (.int .i64 (K : Nat)) = w7 at H7 ⊢
    obtain ⟨D2, HD2⟩ : ∃ z : List Value, Hid ([.int .u16 (sn : Nat), .slice (some ⟨M + 3, 0, none⟩) S2.length 1, .int .i64 (N : Nat), .int .i64 (K : Nat), .bool false, .slice ra rl rc] = z) := ⟨_, rfl⟩
    have HD6 : Hid (D2.length = 6 ∧ ∀ v ∈ D2, v.oneCell' = true) := by
      rw [← HD2.out]
      refine ⟨rfl, fun v hv => ?_⟩
      simp at hv
      rcases hv with rfl | rfl | rfl | rfl | rfl | rfl <;> rfl
    have hiD : (Tryd.prog.info? 25).map (·.size) = some D2.length := by rw [HD6.out.1]; kernel_rfl
    rw [HD2.out] at H7
    have HC7 : Hid (∀ u, Bx u M 25 D2 → u.cell? ⟨M, 0, none⟩ = some (.int .u16 (sn : Nat)) ∧ u.cell? ⟨M, 1, none⟩ = some (.slice (some ⟨M + 3, 0, none⟩) S2.length 1) ∧ u.cell? ⟨M, 2, none⟩ = some (.int .i64 (N : Nat)) ∧ u.cell? ⟨M, 3, none⟩ = some (.int .i64 (K : Nat))) := fun u hu => by
      rw [← HD2.out] at hu
      exact ⟨hu.cell 0 _ rfl, hu.cell 1 _ rfl, hu.cell 2 _ rfl, hu.cell 3 _ rfl⟩
    have H13 : Hid (∀ u, Below M w u → Calls Tryd.prog 12 #[.agg D2.toArray] u fun e w' => Hid (∃ v, e = .returned v ∧ Vf w' v R ∧ Below u.heap.size u w')) := fun u hu => by
      rw [← HD2.out, ← HRR.out]
      exact (random5_ok (sn : Int) (N : Nat) (K : Nat) false (some ⟨M + 3, 0, none⟩) ra S2.length 1 rl rc Rd u HRd.out (hr.out.below (by rw [HMM.out]; exact hu))).mono fun e w' hh => hh
    have H12 : Hid (∀ u v, Below M w u → Vf u v R → Rx u (M + 3) S2 → Calls Tryd.prog 9 #[.int .u16 (sn : Nat), .slice (some ⟨M + 3, 0, none⟩) S2.length 1, .int .i64 (N : Nat), .int .i64 (K : Nat), v] u fun e w' => Hid (∃ tg, e = .returned (.tuple #[.slice (some ⟨tg, 0, none⟩) K K, .int .i64 0]) ∧ u.heap.size ≤ tg ∧ Bx w' tg 9 (tcs T K) ∧ Below u.heap.size u w')) := fun u v hu hv hx => by
      have hvs : Vf u (.slice (some ⟨M + 3, 0, none⟩) S2.length 1) S2 := vf_mk rfl HCP.out.1 HCP.out.2.1 (fun e => by cases e) (.inr ⟨_, _, rfl, hx.rw⟩)
      have z := deal_any sn hsn.out (N : Nat) (K : Nat) _ v S2 R u (hT.out.below hu (by rw [← HMM.out]; exact hT.out.size)) hvs hv
      rw [HER.out, HKK.out, show ((N : Nat) : Int).toNat = N from rfl, HTT.out] at z
      refine z.mono ?_
      rintro e w' ⟨v', rfl, h1, h2⟩
      rcases h1 with ⟨h0, _⟩ | ⟨tg, rfl, h3, h4⟩
      · exact absurd h0 (by have := HNK.out; omega)
      · exact ⟨tg, rfl, h3, h4, h2⟩
    have H11 : Hid (∀ u, Calls Tryd.prog 10 #[.int .i64 0] u fun e w' => e = .returned (.int .i64 0) ∧ w' = u) := fun u => numE_ok 0 u
    have hS0 : Bx w7.drew M 25 D2 ∧ Bx w7.drew (M + 1) 25 Z25 ∧ Below M w w7.drew ∧ Rx w7.drew (M + 3) S2 := by
      obtain ⟨x1, x2, x3, sp, x4⟩ := H7.out
      exact ⟨x1.keep rfl, x2.keep rfl, x3.drew, sp, x4.keep rfl⟩
    refine wp_region_noPanic ?_
    refine wp_region_held_drew (S := (fun u => Bx u M 25 D2 ∧ Bx u (M + 1) 25 Z25 ∧ Below M w u ∧ Rx u (M + 3) S2)) (by kernel_rfl) (hS0) (fun _ => ?_)
    refine takeH_at 0 37 (.pointer (some ⟨M, 0, none⟩)) rfl rfl (by kernel_rfl) (by kernel_rfl) (by kernel_rfl) (fun _ _ _ h => h) (hS0) (Or.inl ⟨by rfl, fun w' hS' => by obtain ⟨k0, k1, k2, k3⟩ := HC7.out _ hS'.1; go_simp⟩) ?_
    try simp only [List.setIfInBounds_toArray, List.set_cons_zero, List.set_cons_succ]
    refine takeH_at 1 38 (.int .u16 (sn : Nat)) rfl rfl (by kernel_rfl) (by kernel_rfl) (by kernel_rfl) (fun _ _ _ h => h) (hS0) (Or.inl ⟨by rfl, fun w' hS' => by obtain ⟨k0, k1, k2, k3⟩ := HC7.out _ hS'.1; go_simp⟩) ?_
    try simp only [List.setIfInBounds_toArray, List.set_cons_zero, List.set_cons_succ]
    refine takeH_at 2 39 (.pointer (some ⟨M, 1, none⟩)) rfl rfl (by kernel_rfl) (by kernel_rfl) (by kernel_rfl) (fun _ _ _ h => h) (hS0) (Or.inl ⟨by rfl, fun w' hS' => by obtain ⟨k0, k1, k2, k3⟩ := HC7.out _ hS'.1; go_simp⟩) ?_
    try simp only [List.setIfInBounds_toArray, List.set_cons_zero, List.set_cons_succ]
    refine takeH_at 3 40 (.slice (some ⟨M + 3, 0, none⟩) S2.length 1) rfl rfl (by kernel_rfl) (by kernel_rfl) (by kernel_rfl) (fun _ _ _ h => h) (hS0) (Or.inl ⟨by rfl, fun w' hS' => by obtain ⟨k0, k1, k2, k3⟩ := HC7.out _ hS'.1; go_simp⟩) ?_
    try simp only [List.setIfInBounds_toArray, List.set_cons_zero, List.set_cons_succ]
    refine takeH_at 4 41 (.pointer (some ⟨M, 2, none⟩)) rfl rfl (by kernel_rfl) (by kernel_rfl) (by kernel_rfl) (fun _ _ _ h => h) (hS0) (Or.inl ⟨by rfl, fun w' hS' => by obtain ⟨k0, k1, k2, k3⟩ := HC7.out _ hS'.1; go_simp⟩) ?_
    try simp only [List.setIfInBounds_toArray, List.set_cons_zero, List.set_cons_succ]
    refine takeH_at 5 42 (.int .i64 (N : Nat)) rfl rfl (by kernel_rfl) (by kernel_rfl) (by kernel_rfl) (fun _ _ _ h => h) (hS0) (Or.inl ⟨by rfl, fun w' hS' => by obtain ⟨k0, k1, k2, k3⟩ := HC7.out _ hS'.1; go_simp⟩) ?_
    try simp only [List.setIfInBounds_toArray, List.set_cons_zero, List.set_cons_succ]
    refine takeH_at 6 43 (.pointer (some ⟨M, 3, none⟩)) rfl rfl (by kernel_rfl) (by kernel_rfl) (by kernel_rfl) (fun _ _ _ h => h) (hS0) (Or.inl ⟨by rfl, fun w' hS' => by obtain ⟨k0, k1, k2, k3⟩ := HC7.out _ hS'.1; go_simp⟩) ?_
    try simp only [List.setIfInBounds_toArray, List.set_cons_zero, List.set_cons_succ]
    refine takeH_at 7 44 (.int .i64 (K : Nat)) rfl rfl (by kernel_rfl) (by kernel_rfl) (by kernel_rfl) (fun _ _ _ h => h) (hS0) (Or.inl ⟨by rfl, fun w' hS' => by obtain ⟨k0, k1, k2, k3⟩ := HC7.out _ hS'.1; go_simp⟩) ?_
    try simp only [List.setIfInBounds_toArray, List.set_cons_zero, List.set_cons_succ]
    refine takeH_at 8 45 (.agg D2.toArray) rfl rfl (by kernel_rfl) (by kernel_rfl) (by kernel_rfl) (fun _ _ _ h => h) (hS0) (yieldsIf_load_mid (by rfl) 25 (.tmp 1) rfl M 0 rfl D2 _ (fun u hu => hu.1.range) Tryd.underlying25 rfl hiD) ?_
    try simp only [List.setIfInBounds_toArray, List.set_cons_zero, List.set_cons_succ]
    refine wpAnyH_ready (rs := [9]) (by kernel_rfl) (by simp) ?_
    refine AllReadyH.cons rfl (fun KK hK => ?_) AllReadyH.nil
    go_simp
    refine (H13.out _ hS0.2.2.1).mono ?_
    intro e q1 hh
    obtain ⟨vr, rfl, hv, hb⟩ := hh.out
    have HQ1 : Hid (Bx q1 M 25 D2 ∧ Bx q1 (M + 1) 25 Z25 ∧ Below M w q1 ∧ Rx q1 (M + 3) S2) := ⟨hS0.1.below hb, hS0.2.1.below hb, hS0.2.2.1.trans (hb.mono (Nat.le_of_lt hS0.1.lt)), hS0.2.2.2.below hb⟩
    have HVR : Hid (Vf q1 vr R) := hv
    clear hh hb hv
    go_wp2_with fail
    refine hK.out _ _ (HQ1.out) (fun _ => ?_)
    clear hK KK
    try simp only [List.setIfInBounds_toArray, List.set_cons_zero, List.set_cons_succ]
    refine wpAnyH_ready (rs := [10]) (by kernel_rfl) (by simp) ?_
    refine AllReadyH.cons rfl (fun KK hK => ?_) AllReadyH.nil
    go_simp
    refine (H12.out _ _ HQ1.out.2.2.1 HVR.out HQ1.out.2.2.2).mono ?_
    intro e q2 hh
    obtain ⟨tg, rfl, hge, hv, hb⟩ := hh.out
    have HQ2 : Hid (Bx q2 M 25 D2 ∧ Bx q2 (M + 1) 25 Z25 ∧ Below M w q2 ∧ Rx q2 (M + 3) S2) := ⟨HQ1.out.1.below hb, HQ1.out.2.1.below hb, HQ1.out.2.2.1.trans (hb.mono (Nat.le_of_lt HQ1.out.1.lt)), HQ1.out.2.2.2.below hb⟩
    have HTG : Hid (Bx q2 tg 9 (tcs T K) ∧ M ≤ tg) := ⟨hv, Nat.le_trans (Nat.le_of_lt HQ1.out.1.lt) hge⟩
    clear hh hb hv hge
    go_wp2_with fail
    refine hK.out _ _ (HQ2.out) (fun _ => ?_)
    clear hK KK
    try simp only [List.setIfInBounds_toArray, List.set_cons_zero, List.set_cons_succ]
    refine takeH_at 11 36 (.tuple #[.slice (some ⟨tg, 0, none⟩) K K, .int .i64 0]) rfl rfl (by kernel_rfl) (by kernel_rfl) (by kernel_rfl) (fun _ _ _ h => h) (HQ2.out) (Or.inl ⟨by rfl, fun w' hS' => by go_simp⟩) ?_
    try simp only [List.setIfInBounds_toArray, List.set_cons_zero, List.set_cons_succ]
    refine takeH_at 12 48 (.slice (some ⟨tg, 0, none⟩) K K) rfl rfl (by kernel_rfl) (by kernel_rfl) (by kernel_rfl) (fun _ _ _ h => h) (HQ2.out) (Or.inl ⟨by rfl, fun w' hS' => by go_simp⟩) ?_
    try simp only [List.setIfInBounds_toArray, List.set_cons_zero, List.set_cons_succ]
    refine takeH_at 13 49 (.int .i64 0) rfl rfl (by kernel_rfl) (by kernel_rfl) (by kernel_rfl) (fun _ _ _ h => h) (HQ2.out) (Or.inl ⟨by rfl, fun w' hS' => by go_simp⟩) ?_
    try simp only [List.setIfInBounds_toArray, List.set_cons_zero, List.set_cons_succ]
    refine wpAnyH_ready (rs := [14]) (by kernel_rfl) (by simp) ?_
    refine AllReadyH.cons rfl (fun KK hK => ?_) AllReadyH.nil
    go_simp
    refine hK.out _ _ (HQ2.out) (fun _ => ?_)
    clear hK KK
    try simp only [List.setIfInBounds_toArray, List.set_cons_zero, List.set_cons_succ]
    refine wpAnyH_ready (rs := [15]) (by kernel_rfl) (by simp) ?_
    refine AllReadyH.cons rfl (fun KK hK => ?_) AllReadyH.nil
    go_simp
    refine hK.out _ _ (HQ2.out) (fun _ => ?_)
    clear hK KK
    try simp only [List.setIfInBounds_toArray, List.set_cons_zero, List.set_cons_succ]
    refine wpAnyH_done (by kernel_rfl) ?_ _
    refine NoPanic.normal ?_
    have H8 : Hid (Bx q2 M 25 D2 ∧ Bx q2 (M + 1) 25 Z25 ∧ Below M w q2 ∧ Rx q2 (M + 3) S2) := HQ2.out
    go_upto_region 8 with fail
    have hZ8 : Bx q2.drew (M + 1) 25 Z25 := H8.out.2.1.keep rfl
    have hS8 : Bx q2.drew M 25 D2 ∧ ∃ z, Bx q2.drew (M + 1) 25 z := ⟨H8.out.1.keep rfl, _, hZ8⟩
    refine wp_region_noPanic ?_
    refine wp_region_held_drew (S := (fun u => Bx u M 25 D2 ∧ ∃ z, Bx u (M + 1) 25 z)) (by kernel_rfl) (hS8) (fun _ => ?_)
    refine takeH_at 0 50 (.agg D2.toArray) rfl rfl (by kernel_rfl) (by kernel_rfl) (by kernel_rfl) (fun _ _ _ h => h) (hS8) (yieldsIf_load_mid (by rfl) 25 (.tmp 1) rfl M 0 rfl D2 _ (fun u hu => hu.1.range) Tryd.underlying25 rfl hiD) ?_
    try simp only [List.setIfInBounds_toArray, List.set_cons_zero, List.set_cons_succ]
    refine takeH_at 1 51 (.slice (some ⟨tg, 0, none⟩) K K) rfl rfl (by kernel_rfl) (by kernel_rfl) (by kernel_rfl) (fun _ _ _ h => h) (hS8) (Or.inl ⟨by rfl, fun w' hS' => by go_simp⟩) ?_
    try simp only [List.setIfInBounds_toArray, List.set_cons_zero, List.set_cons_succ]
    refine takeH_at 2 52 (.int .i64 0) rfl rfl (by kernel_rfl) (by kernel_rfl) (by kernel_rfl) (fun _ _ _ h => h) (hS8) (Or.inl ⟨by rfl, fun w' hS' => by go_simp⟩) ?_
    try simp only [List.setIfInBounds_toArray, List.set_cons_zero, List.set_cons_succ]
    refine wpAnyH_ready (rs := [3]) (by kernel_rfl) (by simp) ?_
    refine AllReadyH.cons rfl (fun KK hK => ?_) AllReadyH.nil
    go_simp
    refine (H11.out _).mono ?_
    rintro e q3 ⟨rfl, hw⟩
    obtain rfl := hw.symm
    clear hw
    go_wp2_with fail
    refine hK.out _ _ (hS8) (fun _ => ?_)
    clear hK KK
    try simp only [List.setIfInBounds_toArray, List.set_cons_zero, List.set_cons_succ]
    refine takeH_at 4 54 (.bool true) rfl rfl (by kernel_rfl) (by kernel_rfl) (by kernel_rfl) (fun _ _ _ h => h) (hS8) (Or.inl ⟨by rfl, fun w' hS' => by go_simp⟩) ?_
    try simp only [List.setIfInBounds_toArray, List.set_cons_zero, List.set_cons_succ]
    refine takeH_at 5 55 (.bool true) rfl rfl (by kernel_rfl) (by kernel_rfl) (by kernel_rfl) (fun _ _ _ h => h) (hS8) (Or.inl ⟨by rfl, fun w' hS' => by go_simp⟩) ?_
    try simp only [List.setIfInBounds_toArray, List.set_cons_zero, List.set_cons_succ]
    refine takeH_at 6 56 (.slice (some ⟨tg, 0, none⟩) K K) rfl rfl (by kernel_rfl) (by kernel_rfl) (by kernel_rfl) (fun _ _ _ h => h) (hS8) (Or.inl ⟨by rfl, fun w' hS' => by go_simp⟩) ?_
    try simp only [List.setIfInBounds_toArray, List.set_cons_zero, List.set_cons_succ]
    refine takeH_at 7 57 (.int .i64 (K : Nat)) rfl rfl (by kernel_rfl) (by kernel_rfl) (by kernel_rfl) (fun _ _ _ h => h) (hS8) (Or.inl ⟨by rfl, fun w' hS' => by go_simp⟩) ?_
    try simp only [List.setIfInBounds_toArray, List.set_cons_zero, List.set_cons_succ]
    refine takeH_at 8 58 (.pointer (some ⟨M, 3, none⟩)) rfl rfl (by kernel_rfl) (by kernel_rfl) (by kernel_rfl) (fun _ _ _ h => h) (hS8) (Or.inl ⟨by rfl, fun w' hS' => by go_simp⟩) ?_
    try simp only [List.setIfInBounds_toArray, List.set_cons_zero, List.set_cons_succ]
    refine takeH_at 9 59 (.int .i64 (K : Nat)) rfl rfl (by kernel_rfl) (by kernel_rfl) (by kernel_rfl) (fun _ _ _ h => h) (hS8) (Or.inl ⟨by rfl, fun w' hS' => by obtain ⟨k0, k1, k2, k3⟩ := HC7.out _ hS'.1; go_simp⟩) ?_
    try simp only [List.setIfInBounds_toArray, List.set_cons_zero, List.set_cons_succ]
    refine takeH_at 10 60 (.bool true) rfl rfl (by kernel_rfl) (by kernel_rfl) (by kernel_rfl) (fun _ _ _ h => h) (hS8) (Or.inl ⟨by rfl, fun w' hS' => by go_simp⟩) ?_
    try simp only [List.setIfInBounds_toArray, List.set_cons_zero, List.set_cons_succ]
    refine takeH_at 11 61 (.bool true) rfl rfl (by kernel_rfl) (by kernel_rfl) (by kernel_rfl) (fun _ _ _ h => h) (hS8) (Or.inl ⟨by rfl, fun w' hS' => by go_simp⟩) ?_
    try simp only [List.setIfInBounds_toArray, List.set_cons_zero, List.set_cons_succ]
    refine wpAnyH_ready (rs := [12]) (by kernel_rfl) (by simp) ?_
    refine AllReadyH.cons rfl (fun KK hK => ?_) AllReadyH.nil
    refine step_store_bx rfl 25 (.tmp 2) (.tmp 50) rfl Z25 D2 (M + 1) rfl rfl hZ8 (by rw [HD6.out.1]; rfl) hiD HD6.out.2 ?_
    intro u9 HB9 HG9
    have H9 : Hid (Bx u9 M 25 D2 ∧ Bx u9 (M + 1) 25 D2 ∧ Below M w u9 ∧ Rx u9 (M + 3) S2 ∧ Bx u9 tg 9 (tcs T K)) := by
      have hn : ∀ b, b ≠ M + 1 → some b ≠ some (M + 1) := fun b hb e => hb (by injection e)
      obtain ⟨sp, x4⟩ := H8.out.2.2.2
      have hne : ∀ {b t cs}, t ≠ 25 → Bx q2 b t cs → b ≠ M + 1 := fun ht hbx e => by
        subst e
        have a1 := H8.out.2.1
        unfold Bx at hbx a1
        rw [hbx] at a1
        injection a1 with z
        injection z with _ z _
        exact ht z
      exact ⟨hS8.1.keep (HG9.out.block M hS8.1.lt (hn M (by omega))), HB9.out, (H8.out.2.2.1.drew).trans (below_gb HG9.out (Nat.le_of_lt hS8.1.lt) (Nat.le_succ _)), ⟨sp, (x4.keep (w' := q2.drew) rfl).keep (HG9.out.block _ (show _ < q2.heap.size from x4.lt) (hn _ (hne (by decide) x4)))⟩, (HTG.out.1.keep (w' := q2.drew) rfl).keep (HG9.out.block _ (show _ < q2.heap.size from HTG.out.1.lt) (hn _ (hne (by decide) HTG.out.1)))⟩
    clear HB9 HG9
    refine hK.out _ _ (⟨H9.out.1, _, H9.out.2.1⟩) (fun _ => ?_)
    clear hK KK
    try simp only [List.setIfInBounds_toArray, List.set_cons_zero, List.set_cons_succ]
    refine wpAnyH_ready (rs := [13]) (by kernel_rfl) (by simp) ?_
    refine AllReadyH.cons rfl (fun KK hK => ?_) AllReadyH.nil
    go_simp
    refine hK.out _ _ (⟨H9.out.1, _, H9.out.2.1⟩) (fun _ => ?_)
    clear hK KK
    try simp only [List.setIfInBounds_toArray, List.set_cons_zero, List.set_cons_succ]
    refine wpAnyH_ready (rs := [14]) (by kernel_rfl) (by simp) ?_
    refine AllReadyH.cons rfl (fun KK hK => ?_) AllReadyH.nil
    go_simp
    refine hK.out _ _ (⟨H9.out.1, _, H9.out.2.1⟩) (fun _ => ?_)
    clear hK KK
    try simp only [List.setIfInBounds_toArray, List.set_cons_zero, List.set_cons_succ]
    refine wpAnyH_done (by kernel_rfl) ?_ _
    refine NoPanic.normal ?_
    go_wp2
    refine ret_agg_tmp2 (b := M + 1) D2 _ _ rfl rfl rfl rfl H9.out.2.1.range Tryd.underlying25 rfl hiD ?_
    refine ⟨M + 3, 1, tg, ?_, HCP.out.1, HCP.out.2.1, HCP.out.2.2, H9.out.2.2.2.1, HTG.out.2, H9.out.2.2.2.2, H9.out.2.2.1⟩
    rw [← HD2.out]
    rfl
  · have HS0 : Hid (S2 = S.take 64) := by show _ = _; rw [← HS2.out]; unfold sec5; rw [if_neg hS]
    have H14' : Hid (Calls Tryd.prog 6 #[sv, .int .i64 64] (w2.alloc (.cells #[] 5)) fun e w' => ∃ v, e = .returned v ∧ Vf (w2.alloc (.cells #[] 5)) v S2 ∧ w' = w2.alloc (.cells #[] 5)) := by rw [HS0.out]; exact H14.out
    clear H14
    clear hS
    go_upto_region 3 with (first
      | (go_at_call 6; refine H14'.out.mono ?_; intro e4 w4 h4; obtain ⟨v4, rfl, h5, hw⟩ := h4; obtain rfl := hw.symm; obtain ⟨a4, c4, rfl, q1, q2, q3, q4⟩ := h5.parts; obtain ⟨b4, o4, rfl, q5⟩ := (q4.resolve_left (fun e => by have := HSL.out.1; rw [e] at this; simp at this)); clear h5 hw q4 q3)
      | (refine wpList_clone_own (by rfl) (.tmp 8) (.tmp 11) (by rfl) (M + 2) (by rfl) H3.out.2.1 b4 o4 S2.length c4 S2 (by rfl) rfl HSL.out.1 (by have := HSL.out; omega) q5 ?_; intro v5 w5 ho hb; obtain ⟨g5, c5, rfl, hx⟩ := own_rc ho HSL.out.1; have hbz : Below (M + 2) w2 w5 := H3.out.1.trans hb; have H5 : Hid (Bx w5 M 25 [.int .u16 (sn : Nat), sv, .int .i64 nd, .int .i64 ct, .bool false, .slice ra rl rc] ∧ Bx w5 (M + 1) 25 Z25 ∧ Below M w w5 ∧ Rx w5 g5 S2 ∧ M + 2 ≤ g5 ∧ S2.length ≤ c5 ∧ c5 ≤ maxLen) := ⟨H2.out.1.keep (hbz.block M (by omega)), H2.out.2.1.keep (hbz.block (M + 1) (by omega)), H2.out.2.2.1.trans (hbz.mono (by omega)), hx.out⟩; have c1' := H5.out.1.cell 1 _ rfl; have f1' := H5.out.1.frozen 1; clear hx hbz hb ho)
      | fail)
    obtain ⟨w6, hw6⟩ : ∃ u, u = w5.setCell ⟨M, 1, none⟩ (.slice (some ⟨g5, 0, none⟩) S2.length c5) := ⟨_, rfl⟩
    rw [← hw6]
    have H6 : Hid (Bx w6 M 25 [.int .u16 (sn : Nat), .slice (some ⟨g5, 0, none⟩) S2.length c5, .int .i64 nd, .int .i64 ct, .bool false, .slice ra rl rc] ∧ Bx w6 (M + 1) 25 Z25 ∧ Below M w w6 ∧ M + 2 ≤ g5 ∧ Rx w6 g5 S2 ∧ S2.length ≤ c5 ∧ c5 ≤ maxLen) := by
      have hg : w5.grownBy w6 (some M) := by rw [hw6]; exact set_gb _ _ _ _
      obtain ⟨x1, x2, x3, ⟨sp, x4⟩, x5, x6, x7⟩ := H5.out
      refine ⟨by rw [hw6]; exact x1.set 1 _, x2.keep (hg.block (M + 1) x2.lt (fun e => by injection e with e; omega)), by rw [hw6]; exact x3.setCell (Nat.le_refl _) _, x5, ⟨sp, x4.keep (hg.block g5 x4.lt (fun e => by injection e with e; omega))⟩, x6, x7⟩
    clear hw6 c1 f1 hfr c1' f1' H5
    have c1 := H6.out.1.cell 1 _ rfl
    have f1 := H6.out.1.frozen 1
    have g0 : ¬ ((S2.length : Int) = 0) := by have := HSL.out; omega
    go_upto_region 5 with fail
    have c2 := H6.out.1.cell 2 _ rfl
    have f2 := H6.out.1.frozen 2
    have c3 := H6.out.1.cell 3 _ rfl
    have f3 := H6.out.1.frozen 3
    go_upto_region 7 with fail
    rw [HN16.out, HK9.out]
    have H7 : Hid (Bx ((w6.setCell ⟨M, 2, none⟩ (.int .i64 (N : Nat))).setCell ⟨M, 3, none⟩ (.int .i64 (K : Nat))) M 25 [.int .u16 (sn : Nat), .slice (some ⟨g5, 0, none⟩) S2.length c5, .int .i64 (N : Nat), .int .i64 (K : Nat), .bool false, .slice ra rl rc] ∧ Bx ((w6.setCell ⟨M, 2, none⟩ (.int .i64 (N : Nat))).setCell ⟨M, 3, none⟩ (.int .i64 (K : Nat))) (M + 1) 25 Z25 ∧ Below M w ((w6.setCell ⟨M, 2, none⟩ (.int .i64 (N : Nat))).setCell ⟨M, 3, none⟩ (.int .i64 (K : Nat))) ∧ Rx ((w6.setCell ⟨M, 2, none⟩ (.int .i64 (N : Nat))).setCell ⟨M, 3, none⟩ (.int .i64 (K : Nat))) (g5) S2) := by
      have hg : w6.grownBy ((w6.setCell ⟨M, 2, none⟩ (.int .i64 (N : Nat))).setCell ⟨M, 3, none⟩ (.int .i64 (K : Nat))) (some M) := (set_gb _ _ _ _).trans (set_gb _ _ _ _)
      obtain ⟨x1, x2, x3, x5, ⟨sp, x4⟩, x6, x7⟩ := H6.out
      exact ⟨(x1.set 2 _).set 3 _, x2.keep (hg.block (M + 1) x2.lt (fun e => by injection e with e; omega)), (x3.setCell (Nat.le_refl _) _).setCell (Nat.le_refl _) _, ⟨sp, x4.keep (hg.block _ x4.lt (fun e => by injection e with e; omega))⟩⟩
    have HCP : Hid (S2.length ≤ c5 ∧ c5 ≤ maxLen ∧ M ≤ g5) := ⟨H6.out.2.2.2.2.2.1, H6.out.2.2.2.2.2.2, by have := H6.out.2.2.2.1; omega⟩
    clear c2 f2 c3 f3 H6
    first | (clear c1 f1) | skip
    generalize (w6.setCell ⟨M, 2, none⟩ (.int .i64 (N : Nat))).setCell ⟨M, 3, none⟩ (.int .i64 (K : Nat)) = w7 at H7 ⊢
    obtain ⟨D2, HD2⟩ : ∃ z : List Value, Hid ([.int .u16 (sn : Nat), .slice (some ⟨g5, 0, none⟩) S2.length c5, .int .i64 (N : Nat), .int .i64 (K : Nat), .bool false, .slice ra rl rc] = z) := ⟨_, rfl⟩
    have HD6 : Hid (D2.length = 6 ∧ ∀ v ∈ D2, v.oneCell' = true) := by
      rw [← HD2.out]
      refine ⟨rfl, fun v hv => ?_⟩
      simp at hv
      rcases hv with rfl | rfl | rfl | rfl | rfl | rfl <;> rfl
    have hiD : (Tryd.prog.info? 25).map (·.size) = some D2.length := by rw [HD6.out.1]; kernel_rfl
    rw [HD2.out] at H7
    have HC7 : Hid (∀ u, Bx u M 25 D2 → u.cell? ⟨M, 0, none⟩ = some (.int .u16 (sn : Nat)) ∧ u.cell? ⟨M, 1, none⟩ = some (.slice (some ⟨g5, 0, none⟩) S2.length c5) ∧ u.cell? ⟨M, 2, none⟩ = some (.int .i64 (N : Nat)) ∧ u.cell? ⟨M, 3, none⟩ = some (.int .i64 (K : Nat))) := fun u hu => by
      rw [← HD2.out] at hu
      exact ⟨hu.cell 0 _ rfl, hu.cell 1 _ rfl, hu.cell 2 _ rfl, hu.cell 3 _ rfl⟩
    have H13 : Hid (∀ u, Below M w u → Calls Tryd.prog 12 #[.agg D2.toArray] u fun e w' => Hid (∃ v, e = .returned v ∧ Vf w' v R ∧ Below u.heap.size u w')) := fun u hu => by
      rw [← HD2.out, ← HRR.out]
      exact (random5_ok (sn : Int) (N : Nat) (K : Nat) false (some ⟨g5, 0, none⟩) ra S2.length c5 rl rc Rd u HRd.out (hr.out.below (by rw [HMM.out]; exact hu))).mono fun e w' hh => hh
    have H12 : Hid (∀ u v, Below M w u → Vf u v R → Rx u (g5) S2 → Calls Tryd.prog 9 #[.int .u16 (sn : Nat), .slice (some ⟨g5, 0, none⟩) S2.length c5, .int .i64 (N : Nat), .int .i64 (K : Nat), v] u fun e w' => Hid (∃ tg, e = .returned (.tuple #[.slice (some ⟨tg, 0, none⟩) K K, .int .i64 0]) ∧ u.heap.size ≤ tg ∧ Bx w' tg 9 (tcs T K) ∧ Below u.heap.size u w')) := fun u v hu hv hx => by
      have hvs : Vf u (.slice (some ⟨g5, 0, none⟩) S2.length c5) S2 := vf_mk rfl HCP.out.1 HCP.out.2.1 (fun e => by cases e) (.inr ⟨_, _, rfl, hx.rw⟩)
      have z := deal_any sn hsn.out (N : Nat) (K : Nat) _ v S2 R u (hT.out.below hu (by rw [← HMM.out]; exact hT.out.size)) hvs hv
      rw [HER.out, HKK.out, show ((N : Nat) : Int).toNat = N from rfl, HTT.out] at z
      refine z.mono ?_
      rintro e w' ⟨v', rfl, h1, h2⟩
      rcases h1 with ⟨h0, _⟩ | ⟨tg, rfl, h3, h4⟩
      · exact absurd h0 (by have := HNK.out; omega)
      · exact ⟨tg, rfl, h3, h4, h2⟩
    have H11 : Hid (∀ u, Calls Tryd.prog 10 #[.int .i64 0] u fun e w' => e = .returned (.int .i64 0) ∧ w' = u) := fun u => numE_ok 0 u
    have hS0 : Bx w7.drew M 25 D2 ∧ Bx w7.drew (M + 1) 25 Z25 ∧ Below M w w7.drew ∧ Rx w7.drew (g5) S2 := by
      obtain ⟨x1, x2, x3, sp, x4⟩ := H7.out
      exact ⟨x1.keep rfl, x2.keep rfl, x3.drew, sp, x4.keep rfl⟩
    refine wp_region_noPanic ?_
    refine wp_region_held_drew (S := (fun u => Bx u M 25 D2 ∧ Bx u (M + 1) 25 Z25 ∧ Below M w u ∧ Rx u (g5) S2)) (by kernel_rfl) (hS0) (fun _ => ?_)
    refine takeH_at 0 37 (.pointer (some ⟨M, 0, none⟩)) rfl rfl (by kernel_rfl) (by kernel_rfl) (by kernel_rfl) (fun _ _ _ h => h) (hS0) (Or.inl ⟨by rfl, fun w' hS' => by obtain ⟨k0, k1, k2, k3⟩ := HC7.out _ hS'.1; go_simp⟩) ?_
    try simp only [List.setIfInBounds_toArray, List.set_cons_zero, List.set_cons_succ]
    refine takeH_at 1 38 (.int .u16 (sn : Nat)) rfl rfl (by kernel_rfl) (by kernel_rfl) (by kernel_rfl) (fun _ _ _ h => h) (hS0) (Or.inl ⟨by rfl, fun w' hS' => by obtain ⟨k0, k1, k2, k3⟩ := HC7.out _ hS'.1; go_simp⟩) ?_
    try simp only [List.setIfInBounds_toArray, List.set_cons_zero, List.set_cons_succ]
    refine takeH_at 2 39 (.pointer (some ⟨M, 1, none⟩)) rfl rfl (by kernel_rfl) (by kernel_rfl) (by kernel_rfl) (fun _ _ _ h => h) (hS0) (Or.inl ⟨by rfl, fun w' hS' => by obtain ⟨k0, k1, k2, k3⟩ := HC7.out _ hS'.1; go_simp⟩) ?_
    try simp only [List.setIfInBounds_toArray, List.set_cons_zero, List.set_cons_succ]
    refine takeH_at 3 40 (.slice (some ⟨g5, 0, none⟩) S2.length c5) rfl rfl (by kernel_rfl) (by kernel_rfl) (by kernel_rfl) (fun _ _ _ h => h) (hS0) (Or.inl ⟨by rfl, fun w' hS' => by obtain ⟨k0, k1, k2, k3⟩ := HC7.out _ hS'.1; go_simp⟩) ?_
    try simp only [List.setIfInBounds_toArray, List.set_cons_zero, List.set_cons_succ]
    refine takeH_at 4 41 (.pointer (some ⟨M, 2, none⟩)) rfl rfl (by kernel_rfl) (by kernel_rfl) (by kernel_rfl) (fun _ _ _ h => h) (hS0) (Or.inl ⟨by rfl, fun w' hS' => by obtain ⟨k0, k1, k2, k3⟩ := HC7.out _ hS'.1; go_simp⟩) ?_
    try simp only [List.setIfInBounds_toArray, List.set_cons_zero, List.set_cons_succ]
    refine takeH_at 5 42 (.int .i64 (N : Nat)) rfl rfl (by kernel_rfl) (by kernel_rfl) (by kernel_rfl) (fun _ _ _ h => h) (hS0) (Or.inl ⟨by rfl, fun w' hS' => by obtain ⟨k0, k1, k2, k3⟩ := HC7.out _ hS'.1; go_simp⟩) ?_
    try simp only [List.setIfInBounds_toArray, List.set_cons_zero, List.set_cons_succ]
    refine takeH_at 6 43 (.pointer (some ⟨M, 3, none⟩)) rfl rfl (by kernel_rfl) (by kernel_rfl) (by kernel_rfl) (fun _ _ _ h => h) (hS0) (Or.inl ⟨by rfl, fun w' hS' => by obtain ⟨k0, k1, k2, k3⟩ := HC7.out _ hS'.1; go_simp⟩) ?_
    try simp only [List.setIfInBounds_toArray, List.set_cons_zero, List.set_cons_succ]
    refine takeH_at 7 44 (.int .i64 (K : Nat)) rfl rfl (by kernel_rfl) (by kernel_rfl) (by kernel_rfl) (fun _ _ _ h => h) (hS0) (Or.inl ⟨by rfl, fun w' hS' => by obtain ⟨k0, k1, k2, k3⟩ := HC7.out _ hS'.1; go_simp⟩) ?_
    try simp only [List.setIfInBounds_toArray, List.set_cons_zero, List.set_cons_succ]
    refine takeH_at 8 45 (.agg D2.toArray) rfl rfl (by kernel_rfl) (by kernel_rfl) (by kernel_rfl) (fun _ _ _ h => h) (hS0) (yieldsIf_load_mid (by rfl) 25 (.tmp 1) rfl M 0 rfl D2 _ (fun u hu => hu.1.range) Tryd.underlying25 rfl hiD) ?_
    try simp only [List.setIfInBounds_toArray, List.set_cons_zero, List.set_cons_succ]
    refine wpAnyH_ready (rs := [9]) (by kernel_rfl) (by simp) ?_
    refine AllReadyH.cons rfl (fun KK hK => ?_) AllReadyH.nil
    go_simp
    refine (H13.out _ hS0.2.2.1).mono ?_
    intro e q1 hh
    obtain ⟨vr, rfl, hv, hb⟩ := hh.out
    have HQ1 : Hid (Bx q1 M 25 D2 ∧ Bx q1 (M + 1) 25 Z25 ∧ Below M w q1 ∧ Rx q1 (g5) S2) := ⟨hS0.1.below hb, hS0.2.1.below hb, hS0.2.2.1.trans (hb.mono (Nat.le_of_lt hS0.1.lt)), hS0.2.2.2.below hb⟩
    have HVR : Hid (Vf q1 vr R) := hv
    clear hh hb hv
    go_wp2_with fail
    refine hK.out _ _ (HQ1.out) (fun _ => ?_)
    clear hK KK
    try simp only [List.setIfInBounds_toArray, List.set_cons_zero, List.set_cons_succ]
    refine wpAnyH_ready (rs := [10]) (by kernel_rfl) (by simp) ?_
    refine AllReadyH.cons rfl (fun KK hK => ?_) AllReadyH.nil
    go_simp
    refine (H12.out _ _ HQ1.out.2.2.1 HVR.out HQ1.out.2.2.2).mono ?_
    intro e q2 hh
    obtain ⟨tg, rfl, hge, hv, hb⟩ := hh.out
    have HQ2 : Hid (Bx q2 M 25 D2 ∧ Bx q2 (M + 1) 25 Z25 ∧ Below M w q2 ∧ Rx q2 (g5) S2) := ⟨HQ1.out.1.below hb, HQ1.out.2.1.below hb, HQ1.out.2.2.1.trans (hb.mono (Nat.le_of_lt HQ1.out.1.lt)), HQ1.out.2.2.2.below hb⟩
    have HTG : Hid (Bx q2 tg 9 (tcs T K) ∧ M ≤ tg) := ⟨hv, Nat.le_trans (Nat.le_of_lt HQ1.out.1.lt) hge⟩
    clear hh hb hv hge
    go_wp2_with fail
    refine hK.out _ _ (HQ2.out) (fun _ => ?_)
    clear hK KK
    try simp only [List.setIfInBounds_toArray, List.set_cons_zero, List.set_cons_succ]
    refine takeH_at 11 36 (.tuple #[.slice (some ⟨tg, 0, none⟩) K K, .int .i64 0]) rfl rfl (by kernel_rfl) (by kernel_rfl) (by kernel_rfl) (fun _ _ _ h => h) (HQ2.out) (Or.inl ⟨by rfl, fun w' hS' => by go_simp⟩) ?_
    try simp only [List.setIfInBounds_toArray, List.set_cons_zero, List.set_cons_succ]
    refine takeH_at 12 48 (.slice (some ⟨tg, 0, none⟩) K K) rfl rfl (by kernel_rfl) (by kernel_rfl) (by kernel_rfl) (fun _ _ _ h => h) (HQ2.out) (Or.inl ⟨by rfl, fun w' hS' => by go_simp⟩) ?_
    try simp only [List.setIfInBounds_toArray, List.set_cons_zero, List.set_cons_succ]
    refine takeH_at 13 49 (.int .i64 0) rfl rfl (by kernel_rfl) (by kernel_rfl) (by kernel_rfl) (fun _ _ _ h => h) (HQ2.out) (Or.inl ⟨by rfl, fun w' hS' => by go_simp⟩) ?_
    try simp only [List.setIfInBounds_toArray, List.set_cons_zero, List.set_cons_succ]
    refine wpAnyH_ready (rs := [14]) (by kernel_rfl) (by simp) ?_
    refine AllReadyH.cons rfl (fun KK hK => ?_) AllReadyH.nil
    go_simp
    refine hK.out _ _ (HQ2.out) (fun _ => ?_)
    clear hK KK
    try simp only [List.setIfInBounds_toArray, List.set_cons_zero, List.set_cons_succ]
    refine wpAnyH_ready (rs := [15]) (by kernel_rfl) (by simp) ?_
    refine AllReadyH.cons rfl (fun KK hK => ?_) AllReadyH.nil
    go_simp
    refine hK.out _ _ (HQ2.out) (fun _ => ?_)
    clear hK KK
    try simp only [List.setIfInBounds_toArray, List.set_cons_zero, List.set_cons_succ]
    refine wpAnyH_done (by kernel_rfl) ?_ _
    refine NoPanic.normal ?_
    have H8 : Hid (Bx q2 M 25 D2 ∧ Bx q2 (M + 1) 25 Z25 ∧ Below M w q2 ∧ Rx q2 (g5) S2) := HQ2.out
    go_upto_region 8 with fail
    have hZ8 : Bx q2.drew (M + 1) 25 Z25 := H8.out.2.1.keep rfl
    have hS8 : Bx q2.drew M 25 D2 ∧ ∃ z, Bx q2.drew (M + 1) 25 z := ⟨H8.out.1.keep rfl, _, hZ8⟩
    refine wp_region_noPanic ?_
    refine wp_region_held_drew (S := (fun u => Bx u M 25 D2 ∧ ∃ z, Bx u (M + 1) 25 z)) (by kernel_rfl) (hS8) (fun _ => ?_)
    refine takeH_at 0 50 (.agg D2.toArray) rfl rfl (by kernel_rfl) (by kernel_rfl) (by kernel_rfl) (fun _ _ _ h => h) (hS8) (yieldsIf_load_mid (by rfl) 25 (.tmp 1) rfl M 0 rfl D2 _ (fun u hu => hu.1.range) Tryd.underlying25 rfl hiD) ?_
    try simp only [List.setIfInBounds_toArray, List.set_cons_zero, List.set_cons_succ]
    refine takeH_at 1 51 (.slice (some ⟨tg, 0, none⟩) K K) rfl rfl (by kernel_rfl) (by kernel_rfl) (by kernel_rfl) (fun _ _ _ h => h) (hS8) (Or.inl ⟨by rfl, fun w' hS' => by go_simp⟩) ?_
    try simp only [List.setIfInBounds_toArray, List.set_cons_zero, List.set_cons_succ]
    refine takeH_at 2 52 (.int .i64 0) rfl rfl (by kernel_rfl) (by kernel_rfl) (by kernel_rfl) (fun _ _ _ h => h) (hS8) (Or.inl ⟨by rfl, fun w' hS' => by go_simp⟩) ?_
    try simp only [List.setIfInBounds_toArray, List.set_cons_zero, List.set_cons_succ]
    refine wpAnyH_ready (rs := [3]) (by kernel_rfl) (by simp) ?_
    refine AllReadyH.cons rfl (fun KK hK => ?_) AllReadyH.nil
    go_simp
    refine (H11.out _).mono ?_
    rintro e q3 ⟨rfl, hw⟩
    obtain rfl := hw.symm
    clear hw
    go_wp2_with fail
    refine hK.out _ _ (hS8) (fun _ => ?_)
    clear hK KK
    try simp only [List.setIfInBounds_toArray, List.set_cons_zero, List.set_cons_succ]
    refine takeH_at 4 54 (.bool true) rfl rfl (by kernel_rfl) (by kernel_rfl) (by kernel_rfl) (fun _ _ _ h => h) (hS8) (Or.inl ⟨by rfl, fun w' hS' => by go_simp⟩) ?_
    try simp only [List.setIfInBounds_toArray, List.set_cons_zero, List.set_cons_succ]
    refine takeH_at 5 55 (.bool true) rfl rfl (by kernel_rfl) (by kernel_rfl) (by kernel_rfl) (fun _ _ _ h => h) (hS8) (Or.inl ⟨by rfl, fun w' hS' => by go_simp⟩) ?_
    try simp only [List.setIfInBounds_toArray, List.set_cons_zero, List.set_cons_succ]
    refine takeH_at 6 56 (.slice (some ⟨tg, 0, none⟩) K K) rfl rfl (by kernel_rfl) (by kernel_rfl) (by kernel_rfl) (fun _ _ _ h => h) (hS8) (Or.inl ⟨by rfl, fun w' hS' => by go_simp⟩) ?_
    try simp only [List.setIfInBounds_toArray, List.set_cons_zero, List.set_cons_succ]
    refine takeH_at 7 57 (.int .i64 (K : Nat)) rfl rfl (by kernel_rfl) (by kernel_rfl) (by kernel_rfl) (fun _ _ _ h => h) (hS8) (Or.inl ⟨by rfl, fun w' hS' => by go_simp⟩) ?_
    try simp only [List.setIfInBounds_toArray, List.set_cons_zero, List.set_cons_succ]
    refine takeH_at 8 58 (.pointer (some ⟨M, 3, none⟩)) rfl rfl (by kernel_rfl) (by kernel_rfl) (by kernel_rfl) (fun _ _ _ h => h) (hS8) (Or.inl ⟨by rfl, fun w' hS' => by go_simp⟩) ?_
    try simp only [List.setIfInBounds_toArray, List.set_cons_zero, List.set_cons_succ]
    refine takeH_at 9 59 (.int .i64 (K : Nat)) rfl rfl (by kernel_rfl) (by kernel_rfl) (by kernel_rfl) (fun _ _ _ h => h) (hS8) (Or.inl ⟨by rfl, fun w' hS' => by obtain ⟨k0, k1, k2, k3⟩ := HC7.out _ hS'.1; go_simp⟩) ?_
    try simp only [List.setIfInBounds_toArray, List.set_cons_zero, List.set_cons_succ]
    refine takeH_at 10 60 (.bool true) rfl rfl (by kernel_rfl) (by kernel_rfl) (by kernel_rfl) (fun _ _ _ h => h) (hS8) (Or.inl ⟨by rfl, fun w' hS' => by go_simp⟩) ?_
    try simp only [List.setIfInBounds_toArray, List.set_cons_zero, List.set_cons_succ]
    refine takeH_at 11 61 (.bool true) rfl rfl (by kernel_rfl) (by kernel_rfl) (by kernel_rfl) (fun _ _ _ h => h) (hS8) (Or.inl ⟨by rfl, fun w' hS' => by go_simp⟩) ?_
    try simp only [List.setIfInBounds_toArray, List.set_cons_zero, List.set_cons_succ]
    refine wpAnyH_ready (rs := [12]) (by kernel_rfl) (by simp) ?_
    refine AllReadyH.cons rfl (fun KK hK => ?_) AllReadyH.nil
    refine step_store_bx rfl 25 (.tmp 2) (.tmp 50) rfl Z25 D2 (M + 1) rfl rfl hZ8 (by rw [HD6.out.1]; rfl) hiD HD6.out.2 ?_
    intro u9 HB9 HG9
    have H9 : Hid (Bx u9 M 25 D2 ∧ Bx u9 (M + 1) 25 D2 ∧ Below M w u9 ∧ Rx u9 (g5) S2 ∧ Bx u9 tg 9 (tcs T K)) := by
      have hn : ∀ b, b ≠ M + 1 → some b ≠ some (M + 1) := fun b hb e => hb (by injection e)
      obtain ⟨sp, x4⟩ := H8.out.2.2.2
      have hne : ∀ {b t cs}, t ≠ 25 → Bx q2 b t cs → b ≠ M + 1 := fun ht hbx e => by
        subst e
        have a1 := H8.out.2.1
        unfold Bx at hbx a1
        rw [hbx] at a1
        injection a1 with z
        injection z with _ z _
        exact ht z
      exact ⟨hS8.1.keep (HG9.out.block M hS8.1.lt (hn M (by omega))), HB9.out, (H8.out.2.2.1.drew).trans (below_gb HG9.out (Nat.le_of_lt hS8.1.lt) (Nat.le_succ _)), ⟨sp, (x4.keep (w' := q2.drew) rfl).keep (HG9.out.block _ (show _ < q2.heap.size from x4.lt) (hn _ (hne (by decide) x4)))⟩, (HTG.out.1.keep (w' := q2.drew) rfl).keep (HG9.out.block _ (show _ < q2.heap.size from HTG.out.1.lt) (hn _ (hne (by decide) HTG.out.1)))⟩
    clear HB9 HG9
    refine hK.out _ _ (⟨H9.out.1, _, H9.out.2.1⟩) (fun _ => ?_)
    clear hK KK
    try simp only [List.setIfInBounds_toArray, List.set_cons_zero, List.set_cons_succ]
    refine wpAnyH_ready (rs := [13]) (by kernel_rfl) (by simp) ?_
    refine AllReadyH.cons rfl (fun KK hK => ?_) AllReadyH.nil
    go_simp
    refine hK.out _ _ (⟨H9.out.1, _, H9.out.2.1⟩) (fun _ => ?_)
    clear hK KK
    try simp only [List.setIfInBounds_toArray, List.set_cons_zero, List.set_cons_succ]
    refine wpAnyH_ready (rs := [14]) (by kernel_rfl) (by simp) ?_
    refine AllReadyH.cons rfl (fun KK hK => ?_) AllReadyH.nil
    go_simp
    refine hK.out _ _ (⟨H9.out.1, _, H9.out.2.1⟩) (fun _ => ?_)
    clear hK KK
    try simp only [List.setIfInBounds_toArray, List.set_cons_zero, List.set_cons_succ]
    refine wpAnyH_done (by kernel_rfl) ?_ _
    refine NoPanic.normal ?_
    go_wp2
    refine ret_agg_tmp2 (b := M + 1) D2 _ _ rfl rfl rfl rfl H9.out.2.1.range Tryd.underlying25 rfl hiD ?_
    refine ⟨g5, c5, tg, ?_, HCP.out.1, HCP.out.2.1, HCP.out.2.2, H9.out.2.2.2.1, HTG.out.2, H9.out.2.2.2.2, H9.out.2.2.1⟩
    rw [← HD2.out]
    rfl
end Go.Proofs.YtinmhgackihakaaDoor
namespace Go.Proofs.YtinmhgackihakaaDoor
open Go.RowKit
set_option linter.unusedVariables false
set_option linter.unusedSimpArgs false
set_option maxRecDepth 100000
/-- What bytes gives of a line. -/
def BytQ (l : List F) (M : Nat) (e : Ending) (w w' : World) : Prop := ∃ g c, e = .returned (.tuple #[.slice (some ⟨g, 0, none⟩) l.length c, .bool true]) ∧ l.length ≤ c ∧ c ≤ maxLen ∧ M ≤ g ∧ Rx w' g l ∧ Below M w w'
theorem con_ix (j : Nat) (hj : j < 16) (u : World) : (Instr.index 9 (.string ⟨#[98, 100, 102, 103, 104, 106, 107, 108, 109, 110, 112, 114, 115, 116, 118, 122]⟩) (.int .i64 (j : Nat))).run Tryd.prog u = .ok (.int .u8 ((conU j).toNat : Nat)) u := index_str ⟨#[98, 100, 102, 103, 104, 106, 107, 108, 109, 110, 112, 114, 115, 116, 118, 122]⟩ j hj u
theorem vow_ix (j : Nat) (hj : j < 4) (u : World) : (Instr.index 9 (.string ⟨#[97, 105, 111, 117]⟩) (.int .i64 (j : Nat))).run Tryd.prog u = .ok (.int .u8 ((vowU j).toNat : Nat)) u := index_str ⟨#[97, 105, 111, 117]⟩ j hj u
theorem take_two (l : List F) (p : Nat) (h : 2 * p + 1 < l.length) : l.take (2 * (p + 1)) = l.take (2 * p) ++ [l.getD (2 * p) 0, l.getD (2 * p + 1) 0] := by
  rw [show 2 * (p + 1) = 2 * p + 1 + 1 by omega, List.getD_eq_getElem?_getD, List.getD_eq_getElem?_getD, List.getElem?_eq_getElem (show 2 * p < l.length by omega), List.getElem?_eq_getElem h, Option.getD_some, Option.getD_some]
  rw [show [l[2 * p]'(by omega), l[2 * p + 1]'h] = [l[2 * p]'(by omega)] ++ [l[2 * p + 1]'h] from rfl, ← List.append_assoc, List.take_append_getElem, List.take_append_getElem]
def atI (d j : Nat) : Int := if d < j then (d : Nat) else -1
theorem s_lt (l : List F) (s : ByteArray) (hs : WLs l = s) (p k : Nat) (hp : p < l.length / 2) (hk : k < 5) (h2 : 2 ≤ l.length) (u : World) : (Instr.index 9 (.string s) (.int .i64 ((6 * p + k : Nat) : Int))).run Tryd.prog u = .ok (.int .u8 ((ltW (vP l p) k).toNat : Nat)) u := by
  subst hs
  have hz := words_sz l h2
  have hlt : 6 * p + k < (WLs l).size := by omega
  rw [index_str _ _ hlt u, ← getU _ _ hlt, words_lt l p k hp hk hlt]
theorem s_gap (l : List F) (s : ByteArray) (hs : WLs l = s) (p : Nat) (hp : p + 1 < l.length / 2) (h2 : 2 ≤ l.length) (u : World) : (Instr.index 9 (.string s) (.int .i64 ((6 * p + 5 : Nat) : Int))).run Tryd.prog u = .ok (.int .u8 32) u := by
  subst hs
  have hz := words_sz l h2
  have hlt : 6 * p + 5 < (WLs l).size := by omega
  rw [index_str _ _ hlt u, ← getU _ _ hlt, wordsG_at l p hp hlt]
  rfl
theorem two_cellB (w : World) (a b : Nat) (t : TypeId) : ∀ j u, ([.int .u8 (a : Nat), .int .u8 (b : Nat)] : List Value)[j]? = some u → (w.alloc (.cells #[.int .u8 (a : Nat), .int .u8 (b : Nat)] t)).cell? ((⟨w.heap.size, 0, none⟩ : Addr).add j) = some u := fun j u hu =>
  World.news_of_block (w := w.alloc (.cells #[.int .u8 (a : Nat), .int .u8 (b : Nat)] t)) (cs := #[.int .u8 (a : Nat), .int .u8 (b : Nat)]) (heap_alloc_new w _) j u (by simpa using hu)
theorem two_oneB (a b : Nat) : ∀ u ∈ ([.int .u8 (a : Nat), .int .u8 (b : Nat)] : List Value), u.oneCell' = true := by intro u hu; simp at hu; rcases hu with rfl | rfl <;> rfl
theorem own_drwN {w : World} {B n : Nat} {t : TypeId} {v : Value} {cs : List Value} (h : w.ownsRow B t 1 v n cs) (m : Nat) : (w.drewN m).ownsRow B t 1 v n cs := h
set_option maxHeartbeats 3200000 in
theorem bytes_ok (l : List F) (s : ByteArray) (hl : Hid (2 ≤ l.length ∧ l.length ≤ 78 ∧ l.length % 2 = 0)) (hs : Hid (WLs l = s)) (w : World) : Calls Tryd.prog 8 #[.string s] w fun e w' => BytQ l w.heap.size e w w' := by
  obtain ⟨B, HB⟩ : ∃ z, Hid (w.heap.size = z) := ⟨_, rfl⟩
  obtain ⟨Z, HZ⟩ : ∃ z, Hid (s.size = z) := ⟨_, rfl⟩
  obtain ⟨K, HK⟩ : ∃ z, Hid (l.length / 2 = z) := ⟨_, rfl⟩
  have HZK : Hid (Z + 1 = 6 * K ∧ 1 ≤ K ∧ K ≤ 39 ∧ l.length = 2 * K) := by
    have h1 := words_sz l hl.out.1
    rw [hs.out, HZ.out, HK.out] at h1
    have := hl.out
    have := HK.out
    exact ⟨h1, by omega, by omega, by omega⟩
  have HLX : Hid (∀ p k x, x = 6 * p + k → p < K → k < 5 → ∀ u, (Instr.index 9 (.string s) (.int .i64 (x : Nat))).run Tryd.prog u = .ok (.int .u8 ((ltW (vP l p) k).toNat : Nat)) u) := fun p k x hx hp hk u => by subst hx; exact s_lt l s hs.out p k (by rw [HK.out]; exact hp) hk hl.out.1 u
  have HGX : Hid (∀ p x, x + 1 = 6 * p → 1 ≤ p → p < K → ∀ u, (Instr.index 9 (.string s) (.int .i64 (x : Nat))).run Tryd.prog u = .ok (.int .u8 32) u) := fun p x hx h1 hp u => by
    obtain ⟨q, rfl⟩ : ∃ q, p = q + 1 := ⟨p - 1, by omega⟩
    rw [show x = 6 * q + 5 by omega]
    exact s_gap l s hs.out q (by rw [HK.out]; exact hp) hl.out.1 u
  obtain ⟨i0, hi0, hz0, hz1, hz2⟩ := info_parts Tryd.infoB
  have HI0 : Hid (Tryd.prog.info? 5 = some i0 ∧ i0.zero = some (.int .u8 0) ∧ i0.size = 1 ∧ i0.bytes = 1) := ⟨hi0, hz0, hz1, hz2⟩
  clear hi0 hz0 hz1 hz2
  rw [HB.out]
  go_enter Tryd.func8, Tryd.ntmps8
  go_wp2
  go_loopw [6, 7] (fun vo vi wr => ∃ p x : Nat, p ≤ K ∧ vi = .int .i64 (x : Nat) ∧ Hid (x = 6 * p) ∧ Hid (wr.ownsRow B 5 1 vo (2 * p) (fc (l.take (2 * p))) ∧ Below B w wr ∧ B ≤ wr.heap.size)) (fun _ vi _ => 6 * K - (intOf vi).toNat)
  case atStart => exact ⟨0, 0, Nat.zero_le _, rfl, rfl, by rw [Nat.mul_zero, List.take_zero]; exact World.ownsRow_nil _ _ _ _, Below.refl _ _, Nat.le_of_eq HB.out.symm⟩
  case round =>
    obtain ⟨p, x, hp, rfl, hx, HI⟩ := hrel
    obtain ⟨wo, hwo⟩ : ∃ wo : World, wo = wr := ⟨_, rfl⟩
    subst hwo
    by_cases hlt : p < K
    · have HP : Hid (p < K) := hlt
      have g1 : (x : Int) < (s.size : Int) := by have := HZ.out; have := HZK.out; have := hx.out; omega
      obtain ⟨V, HV⟩ : ∃ z, Hid (vP l p = z) := ⟨_, rfl⟩
      have HV6 : Hid (V < 65536) := by rw [← HV.out]; exact vP_lt l p
      clear hlt hp
      go_upto_region 7 with fail
      go_cut [35] from 20 to 35 (fun c wx => c = .bool false ∧ wx = wo)
      case first =>
        have e1 : IntKind.i64.wrap ((x : Int) + 5) = (x : Int) + 5 := by rw [IntKind.wrap_i64]; have := hx.out; have := HP.out; have := HZK.out; omega
        have g2 : ¬ (s.size : Int) < (x : Int) + 5 := by have := HZ.out; have := HZK.out; have := HP.out; have := hx.out; omega
        by_cases h0 : p = 0
        · have g3 : ¬ (0 : Int) < (x : Int) := by have := hx.out; omega
          clear h0
          go_wp2
          go_meet
          exact ⟨rfl, rfl⟩
        · have g3 : (0 : Int) < (x : Int) := by have := hx.out; omega
          obtain ⟨y, HY⟩ : ∃ y, Hid (y + 1 = x) := ⟨x - 1, show _ = _ by have := hx.out; omega⟩
          have e2 : IntKind.i64.wrap ((x : Int) - 1) = (y : Nat) := by rw [IntKind.wrap_i64]; have := HY.out; have := hx.out; have := HP.out; have := HZK.out; omega
          have hgx := HGX.out p y (by rw [HY.out, hx.out]) (by omega) HP.out
          clear h0
          go_wp2
          go_meet
          exact ⟨rfl, rfl⟩
      case rest =>
      obtain ⟨rfl, hwc⟩ := hcut
      obtain rfl := hwc.symm
      go_upto_region 11 with fail
      go_loopw [8, 9] (fun vv vk wx => ∃ k v : Nat, k ≤ 5 ∧ vv = .int .i64 (v : Nat) ∧ vk = .int .i64 (k : Nat) ∧ Hid (v = preW V k) ∧ ∃ m, Hid (wx = wo.drewN m)) (fun _ vk _ => 5 - (intOf vk).toNat)
      case atStart => exact ⟨0, 0, by omega, rfl, rfl, rfl, 0, rfl⟩
      case round =>
        obtain ⟨k, v, hk, rfl, rfl, hv, m, hm⟩ := hrel
        obtain rfl := hm.out.symm
        by_cases hk5 : k < 5
        · have HK5 : Hid (k < 5) := hk5
          have g3 : (k : Int) < 5 := by omega
          obtain ⟨c, HCC⟩ : ∃ z, Hid ((ltW V k).toNat = z) := ⟨_, rfl⟩
          obtain ⟨d, HD⟩ : ∃ z, Hid (dgW V k = z) := ⟨_, rfl⟩
          have HD2 : Hid (d < if k % 2 = 1 then 4 else 16) := by rw [← HD.out]; exact dgW_lt V k HV6.out hk5
          have HIX : Hid (∀ u, (Instr.index 9 (.string s) (.int .i64 (((x : Int) + (k : Int))))).run Tryd.prog u = .ok (.int .u8 (c : Nat)) u) := by
            intro u
            have q := HLX.out p k (x + k) (by rw [hx.out]) HP.out hk5 u
            rw [HV.out, HCC.out, Int.natCast_add] at q
            exact q
          have e1 : IntKind.i64.wrap ((x : Int) + (k : Int)) = (x : Int) + (k : Int) := by rw [IntKind.wrap_i64]; have := hx.out; have := HP.out; have := HZK.out; omega
          have HKK : Hid (IntKind.i64.wrap ((k : Int) + 1) = ((k + 1 : Nat) : Int)) := by show _ = _; rw [IntKind.wrap_i64]; omega
          have hkk : k % 2 = 0 ∨ k % 2 = 1 := by omega
          clear hk5 hk
          rcases hkk with h2 | h2
          · have HDN : Hid (d < 16) := by have z := HD2.out; rw [if_neg (by omega)] at z; exact z
            have HCE : Hid ((conU d).toNat = c) := by
              show _ = _
              rw [← HCC.out, ← HD.out]
              unfold ltW
              rw [if_neg (by omega)]
            have r0 : (k : Int).tmod 2 = 0 := by rw [Int.tmod_eq_emod_of_nonneg (by omega)]; omega
            have HPS : Hid (preW V (k + 1) = v * 16 + d) := by
              show _ = _
              rw [preW_step V k HK5.out, if_neg (by omega), HD.out, ← hv.out]
            have HVL : Hid (v * 16 + d < 65536) := by show _ < _; rw [← HPS.out]; exact Nat.lt_of_le_of_lt (preW_le V (k + 1)) HV6.out
            clear h2
            go_upto_region 20 with fail
            go_loopw [12, 13] (fun va vj wy => ∃ j : Nat, ∃ a : Int, j ≤ 16 ∧ va = .int .i64 a ∧ vj = .int .i64 (j : Nat) ∧ Hid (a = atI d j) ∧ ∃ q, Hid (wy = wo.drewN q)) (fun _ vj _ => 16 - (intOf vj).toNat)
            case atStart => exact ⟨0, -1, by omega, rfl, rfl, by show _ = _; unfold atI; rw [if_neg (by omega)], m, rfl⟩
            case round =>
              obtain ⟨j, a, hj, rfl, rfl, ha, q, hq⟩ := hrel
              obtain rfl := hq.out.symm
              by_cases hjn : j < 16
              · have HJN : Hid (j < 16) := hjn
                have g4 : (j : Int) < 16 := by omega
                obtain ⟨y, HY⟩ : ∃ z, Hid ((conU j).toNat = z) := ⟨_, rfl⟩
                have hcx : ∀ u, (Instr.index 9 (.string ⟨#[98, 100, 102, 103, 104, 106, 107, 108, 109, 110, 112, 114, 115, 116, 118, 122]⟩) (.int .i64 (j : Nat))).run Tryd.prog u = .ok (.int .u8 (y : Nat)) u := fun u => by rw [← HY.out]; exact con_ix j hjn u
                have hix := HIX.out
                have ej : IntKind.i64.wrap ((j : Int) + 1) = ((j + 1 : Nat) : Int) := by rw [IntKind.wrap_i64]; omega
                by_cases hjd : j = d
                · have hyc : y = c := by rw [← HY.out, hjd, HCE.out]
                  subst hyc
                  have HNX : Hid (atI d (j + 1) = ((j : Nat) : Int)) := by show _ = _; unfold atI; rw [if_pos (by omega), hjd]
                  clear hjd hjn hj
                  go_wp2
                  go_quiet (fail)
                  go_wp2
                  go_roundw
                  case rel => exact ⟨j + 1, _, by have := HJN.out; omega, rfl, by go_num, HNX.out.symm, _, rfl⟩
                  case measure => simp [intOf]; have := HJN.out; omega
                · have hne : ¬ ((y : Nat) : Int) = ((c : Nat) : Int) := fun e => hjd (by
                    rw [← HY.out, ← HCE.out] at e
                    have z := con_only ⟨j, hjn⟩ ⟨d, HDN.out⟩ e
                    exact congrArg (fun (i : Fin 16) => i.1) z)
                  have HNX : Hid (atI d (j + 1) = a) := by
                    show _ = _
                    rw [ha.out]
                    unfold atI
                    by_cases h : d < j
                    · rw [if_pos h, if_pos (by omega)]
                    · rw [if_neg h, if_neg (by omega)]
                  clear hjd hjn hj
                  go_wp2
                  go_quiet (fail)
                  go_wp2
                  go_roundw
                  case rel => exact ⟨j + 1, _, by have := HJN.out; omega, rfl, by go_num, HNX.out.symm, _, rfl⟩
                  case measure => simp [intOf]; have := HJN.out; omega
              · obtain rfl : j = 16 := by omega
                have g4 : ¬ ((16 : Nat) : Int) < 16 := by omega
                have ha2 : a = (d : Nat) := by rw [ha.out]; unfold atI; rw [if_pos HDN.out]
                subst ha2
                have g5 : ¬ ((d : Nat) : Int) < 0 := by omega
                obtain ⟨vb, HVB⟩ : ∃ z, Hid (v * 16 = z) := ⟨_, rfl⟩
                obtain ⟨vn, HVN⟩ : ∃ z, Hid (vb + d = z) := ⟨_, rfl⟩
                have HNV : Hid (vn = preW V (k + 1)) := by show _ = _; rw [HPS.out, ← HVN.out, ← HVB.out]
                have m1 : IntKind.i64.wrap ((v : Int) * 16) = (vb : Nat) := by rw [IntKind.wrap_i64]; have := HVL.out; have := HVB.out; omega
                have m2 : IntKind.i64.wrap ((vb : Int) + (d : Int)) = (vn : Nat) := by rw [IntKind.wrap_i64]; have := HVL.out; have := HVB.out; have := HVN.out; omega
                have ek := HKK.out
                clear ha hjn hj
                go_wp2
                go_roundw
                case rel => exact ⟨k + 1, vn, by have := HK5.out; omega, rfl, by go_num, HNV.out, _, rfl⟩
                case measure => simp [intOf]; have := HK5.out; omega
          · have HDN : Hid (d < 4) := by have z := HD2.out; rw [if_pos (by omega)] at z; exact z
            have HCE : Hid ((vowU d).toNat = c) := by
              show _ = _
              rw [← HCC.out, ← HD.out]
              unfold ltW
              rw [if_pos (by omega)]
            have r0 : (k : Int).tmod 2 = 1 := by rw [Int.tmod_eq_emod_of_nonneg (by omega)]; omega
            have HPS : Hid (preW V (k + 1) = v * 4 + d) := by
              show _ = _
              rw [preW_step V k HK5.out, if_pos (by omega), HD.out, ← hv.out]
            have HVL : Hid (v * 4 + d < 65536) := by show _ < _; rw [← HPS.out]; exact Nat.lt_of_le_of_lt (preW_le V (k + 1)) HV6.out
            clear h2
            go_upto_region 20 with fail
            go_loopw [12, 13] (fun va vj wy => ∃ j : Nat, ∃ a : Int, j ≤ 4 ∧ va = .int .i64 a ∧ vj = .int .i64 (j : Nat) ∧ Hid (a = atI d j) ∧ ∃ q, Hid (wy = wo.drewN q)) (fun _ vj _ => 4 - (intOf vj).toNat)
            case atStart => exact ⟨0, -1, by omega, rfl, rfl, by show _ = _; unfold atI; rw [if_neg (by omega)], m, rfl⟩
            case round =>
              obtain ⟨j, a, hj, rfl, rfl, ha, q, hq⟩ := hrel
              obtain rfl := hq.out.symm
              by_cases hjn : j < 4
              · have HJN : Hid (j < 4) := hjn
                have g4 : (j : Int) < 4 := by omega
                obtain ⟨y, HY⟩ : ∃ z, Hid ((vowU j).toNat = z) := ⟨_, rfl⟩
                have hcx : ∀ u, (Instr.index 9 (.string ⟨#[97, 105, 111, 117]⟩) (.int .i64 (j : Nat))).run Tryd.prog u = .ok (.int .u8 (y : Nat)) u := fun u => by rw [← HY.out]; exact vow_ix j hjn u
                have hix := HIX.out
                have ej : IntKind.i64.wrap ((j : Int) + 1) = ((j + 1 : Nat) : Int) := by rw [IntKind.wrap_i64]; omega
                by_cases hjd : j = d
                · have hyc : y = c := by rw [← HY.out, hjd, HCE.out]
                  subst hyc
                  have HNX : Hid (atI d (j + 1) = ((j : Nat) : Int)) := by show _ = _; unfold atI; rw [if_pos (by omega), hjd]
                  clear hjd hjn hj
                  go_wp2
                  go_quiet (fail)
                  go_wp2
                  go_roundw
                  case rel => exact ⟨j + 1, _, by have := HJN.out; omega, rfl, by go_num, HNX.out.symm, _, rfl⟩
                  case measure => simp [intOf]; have := HJN.out; omega
                · have hne : ¬ ((y : Nat) : Int) = ((c : Nat) : Int) := fun e => hjd (by
                    rw [← HY.out, ← HCE.out] at e
                    have z := vow_only ⟨j, hjn⟩ ⟨d, HDN.out⟩ e
                    exact congrArg (fun (i : Fin 4) => i.1) z)
                  have HNX : Hid (atI d (j + 1) = a) := by
                    show _ = _
                    rw [ha.out]
                    unfold atI
                    by_cases h : d < j
                    · rw [if_pos h, if_pos (by omega)]
                    · rw [if_neg h, if_neg (by omega)]
                  clear hjd hjn hj
                  go_wp2
                  go_quiet (fail)
                  go_wp2
                  go_roundw
                  case rel => exact ⟨j + 1, _, by have := HJN.out; omega, rfl, by go_num, HNX.out.symm, _, rfl⟩
                  case measure => simp [intOf]; have := HJN.out; omega
              · obtain rfl : j = 4 := by omega
                have g4 : ¬ ((4 : Nat) : Int) < 4 := by omega
                have ha2 : a = (d : Nat) := by rw [ha.out]; unfold atI; rw [if_pos HDN.out]
                subst ha2
                have g5 : ¬ ((d : Nat) : Int) < 0 := by omega
                obtain ⟨vb, HVB⟩ : ∃ z, Hid (v * 4 = z) := ⟨_, rfl⟩
                obtain ⟨vn, HVN⟩ : ∃ z, Hid (vb + d = z) := ⟨_, rfl⟩
                have HNV : Hid (vn = preW V (k + 1)) := by show _ = _; rw [HPS.out, ← HVN.out, ← HVB.out]
                have m1 : IntKind.i64.wrap ((v : Int) * 4) = (vb : Nat) := by rw [IntKind.wrap_i64]; have := HVL.out; have := HVB.out; omega
                have m2 : IntKind.i64.wrap ((vb : Int) + (d : Int)) = (vn : Nat) := by rw [IntKind.wrap_i64]; have := HVL.out; have := HVB.out; have := HVN.out; omega
                have ek := HKK.out
                clear ha hjn hj
                go_wp2
                go_roundw
                case rel => exact ⟨k + 1, vn, by have := HK5.out; omega, rfl, by go_num, HNV.out, _, rfl⟩
                case measure => simp [intOf]; have := HK5.out; omega
        · obtain rfl : k = 5 := by omega
          have hv5 : v = V := hv.out
          subst hv5
          have g3 : ¬ ((5 : Nat) : Int) < 5 := by omega
          have hd1 : ((v : Nat) : Int).tdiv 256 = ((v / 256 : Nat) : Int) := by rw [Int.tdiv_eq_ediv_of_nonneg (by omega)]; omega
          have hd2 : ((v : Nat) : Int).tmod 256 = ((v % 256 : Nat) : Int) := by rw [Int.tmod_eq_emod_of_nonneg (by omega)]; omega
          obtain ⟨a, HA⟩ : ∃ z, Hid (v / 256 = z) := ⟨_, rfl⟩
          obtain ⟨b, HBB⟩ : ∃ z, Hid (v % 256 = z) := ⟨_, rfl⟩
          rw [HA.out] at hd1
          rw [HBB.out] at hd2
          have wa : RowKit.wrap64 ((a : Nat) : Int) % 256 = (a : Nat) := by have := HA.out; have := HV6.out; simp [RowKit.wrap64]; omega
          have wb : IntKind.u8.wrap ((b : Nat) : Int) = (b : Nat) := wraps_u8 _ (by omega) (by have := HBB.out; omega)
          have HAB : Hid (fc (l.take (2 * (p + 1))) = fc (l.take (2 * p)) ++ [.int .u8 (a : Nat), .int .u8 (b : Nat)]) := by
            show _ = _
            obtain ⟨z1, z2⟩ := pair_back l p
            rw [HV.out] at z1 z2
            have f1 : (l.getD (2 * p) 0).1 = a := by rw [← z1, ← HA.out]; exact fN_val _ (by have := HV6.out; omega)
            have f2 : (l.getD (2 * p + 1) 0).1 = b := by rw [← z2, ← HBB.out]; rfl
            rw [take_two l p (by have := HZK.out; have := HP.out; omega), fc_appD]
            congr 1
            simp only [fc, List.map_cons, List.map_nil, f1, f2]
          have ex : IntKind.i64.wrap ((x : Int) + 6) = ((x + 6 : Nat) : Int) := by rw [IntKind.wrap_i64]; have := hx.out; have := HP.out; have := HZK.out; omega
          have HO : Hid ((wo.drewN m).ownsRow B 5 1 _ (2 * p) (fc (l.take (2 * p))) ∧ Below B w (wo.drewN m) ∧ B ≤ (wo.drewN m).heap.size) := ⟨own_drwN HI.out.1 m, below_drewN0 HI.out.2.1 m, HI.out.2.2⟩
          obtain ⟨wk, hwk⟩ : ∃ u, Hid (u = wo.drewN m) := ⟨_, rfl⟩
          rw [← hwk.out] at HO ⊢
          go_wp2_with (first
            | (at_builtin; go_must (refine wpList_append_own _ rfl (.tmp 67) (.tmp 74) 23 rfl B 5 i0 (.int .u8 0) 1 1 (by kernel_rfl) HI0.out.1 HI0.out.2.1 HI0.out.2.2.1 HI0.out.2.2.2 rfl (by decide) _ (2 * p) _ rfl (HO.out.1.alloc _) ⟨wk.heap.size, 0, none⟩ 2 2 [.int .u8 (a : Nat), .int .u8 (b : Nat)] rfl rfl (two_cellB wk a b 5) (two_oneB a b) (by have := HP.out; have := HZK.out; unfold maxLen; omega) (by have := HP.out; have := HZK.out; omega) (by have := HO.out.2.2; simp; omega) ?_; intro v9 w9 hown hgrow hnil; have H9 : Hid (w9.ownsRow B 5 1 v9 (2 * (p + 1)) (fc (l.take (2 * (p + 1)))) ∧ Below B w w9 ∧ B ≤ w9.heap.size) := (by
                have hb9 := (HO.out.2.1.alloc HO.out.2.2 (.cells #[.int .u8 (a : Nat), .int .u8 (b : Nat)] 5)).grown hgrow (by have := HO.out.2.2; simp; omega) (fun q hq => (HO.out.1.lt q hq).1)
                rw [HAB.out]
                exact ⟨hown, hb9, by rw [← HB.out]; exact hb9.size⟩); clear hown hgrow hnil))
            | fail)
          go_roundw
          case rel => exact ⟨p + 1, x + 6, HP.out, by go_num, by show _ = _; rw [hx.out]; omega, H9.out⟩
          case measure => simp [intOf]; have := HP.out; have := hx.out; omega
    · obtain rfl : p = K := by omega
      have g1 : ¬ (x : Int) < (s.size : Int) := by have := HZ.out; have := HZK.out; have := hx.out; omega
      have hr : ((s.size : Nat) : Int).tmod 6 = 5 := by rw [Int.tmod_eq_emod_of_nonneg (by omega)]; have := HZ.out; have := HZK.out; omega
      go_wp2
      go_ret2
      rw [show 2 * p = l.length from HZK.out.2.2.2.symm, List.take_length] at HI
      obtain ⟨g, c, rfl, hx2⟩ := own_rc HI.out.1 (by have := hl.out; omega)
      exact ⟨g, c, rfl, hx2.out.2.2.1, hx2.out.2.2.2, hx2.out.2.1, hx2.out.1, HI.out.2.1⟩
end Go.Proofs.YtinmhgackihakaaDoor
namespace Go.Proofs.YtinmhgackihakaaDoor
open Go.RowKit
set_option linter.unusedVariables false
set_option linter.unusedSimpArgs false
set_option maxRecDepth 100000
def lvL : List F := [1, 2, 3]
def lvR : List F := [9, 8, 7, 6, 5, 4, 3]
def lvZ : Shg := shD 7 lvL lvR 2
def lvT : Nat → ByteArray := dealT 7 lvL lvR 2
theorem lvZ_ok : lvZ.ok := shD_ok 7 lvL lvR 2 (by decide) (by decide) (by decide) (by decide)
theorem lv_good (i : Nat) (hi : i < 255) : MGood (lvT i) (lvZ.at' (fN (i + 1))) 0 := by
  unfold lvT
  rw [dealT_at 7 lvL lvR 2 i (by decide)]
  exact Shg.good lvZ_ok _ (by rw [fN_val _ (by omega)]; omega)
/-- Shares of a sharing, by their numbers. -/
theorem lns_of {z : Shg} {T : Nat → ByteArray} (hz : z.ok) (hT : ∀ i, i < 255 → MGood (T i) (z.at' (fN (i + 1))) 0) (n : Nat) (f : Nat → Nat) (hf : ∀ i, i < n → f i < 255) : Lns z (fun i => T (f i)) n (fun i => fN (f i + 1)) :=
  ⟨hz, fun i hi => ⟨0, hT (f i) (hf i hi)⟩, fun i hi => by rw [fN_val _ (by have := hf i hi; omega)]; omega⟩
theorem lns_on {z : Shg} {T : Nat → ByteArray} (hz : z.ok) (hT : ∀ i, i < 255 → MGood (T i) (z.at' (fN (i + 1))) 0) (n : Nat) (f : Nat → Nat) (hf : ∀ i, i < n → f i < 255) (i : Nat) (hi : i < n) : ((gR (T (f i))).getD 3 0).1 = f i + 1 := by
  have e := (lns_of hz hT n f hf).eq i hi
  rw [e, z.at_3, fN_val _ (by have := hf i hi; omega)]
def lvF (i : Nat) : Nat := if i = 0 then 2 else 0
theorem lv_two : Lns lvZ (fun i => lvT (lvF i)) 2 (fun i => fN (lvF i + 1)) := lns_of lvZ_ok lv_good 2 lvF (fun i _ => by unfold lvF; split <;> omega)
theorem lv_one : Lns lvZ (fun _ => lvT 1) 1 (fun _ => fN 2) := lns_of lvZ_ok lv_good 1 (fun _ => 1) (fun i _ => by omega)
theorem lv_on2 : lvZ.bn.1 ≤ onN (fun i => gR (lvT (lvF i))) 2 := by
  refine Nat.le_trans (Nat.le_refl 2) (onN_ge [3, 1] (by decide) fun j hj => ?_)
  have hF : ∀ i, i < 2 → lvF i < 255 := fun i _ => by unfold lvF; split <;> omega
  simp only [List.mem_cons, List.not_mem_nil, or_false] at hj
  rcases hj with rfl | rfl
  · exact ⟨by omega, by omega, 0, by omega, lns_on lvZ_ok lv_good 2 lvF hF 0 (by omega)⟩
  · exact ⟨by omega, by omega, 1, by omega, lns_on lvZ_ok lv_good 2 lvF hF 1 (by omega)⟩
theorem lv_on1 : onN (fun _ => gR (lvT 1)) 1 < lvZ.bn.1 := by
  refine Nat.lt_of_le_of_lt (onN_le [2] fun k hk => ?_) (show 1 < 2 by omega)
  have e := lns_on lvZ_ok lv_good 1 (fun _ => 1) (fun i _ => by omega) 0 (by omega)
  rw [e]
  simp
theorem lvT_eq : dealT 7 lvL lvR (2 : Int).toNat = lvT := by unfold lvT; rw [show (2 : Int).toNat = 2 from rfl]
attribute [irreducible] lvT
set_option maxHeartbeats 3200000 in
/-- live. -/
theorem live_ok (w : World) (hT : Hid (Tables w)) : Calls Tryd.prog 7 #[] w fun e w' => Hid (e = .returned (.bool true) ∧ Below w.heap.size w w') := by
  obtain ⟨M, HMM⟩ : ∃ M, Hid (w.heap.size = M) := ⟨_, rfl⟩
  obtain ⟨w1, hw1⟩ : ∃ u, u = (w.alloc (.cells #[.int .u8 1, .int .u8 2, .int .u8 3] 5)).alloc (.cells #[.int .u8 9, .int .u8 8, .int .u8 7, .int .u8 6, .int .u8 5, .int .u8 4, .int .u8 3] 5) := ⟨_, rfl⟩
  have H1 : Hid (Bx w1 M 5 (fc lvL) ∧ Bx w1 (M + 1) 5 (fc lvR) ∧ Below M w w1 ∧ M ≤ w1.heap.size) := by
    have hb : Below M w (w.alloc (.cells #[.int .u8 1, .int .u8 2, .int .u8 3] 5)) := (Below.refl _ _).alloc (Nat.le_of_eq HMM.out.symm) _
    have h0 : (w.alloc (.cells #[.int .u8 1, .int .u8 2, .int .u8 3] 5)).heap.size = M + 1 := by rw [← HMM.out]; simp
    have hb2 : Below (M + 1) (w.alloc (.cells #[.int .u8 1, .int .u8 2, .int .u8 3] 5)) w1 := by rw [hw1]; exact (Below.refl _ _).alloc (Nat.le_of_eq h0.symm) _
    have hx : Bx (w.alloc (.cells #[.int .u8 1, .int .u8 2, .int .u8 3] 5)) M 5 (fc lvL) := by rw [← HMM.out]; exact Bx.new w 5 (fc lvL)
    refine ⟨hx.keep (hb2.block M (by omega)), ?_, hb.trans (hb2.mono (by omega)), ?_⟩
    · have z := Bx.new (w.alloc (.cells #[.int .u8 1, .int .u8 2, .int .u8 3] 5)) 5 (fc lvR)
      rw [h0] at z
      rw [hw1]
      exact z
    · rw [hw1, ← HMM.out, World.size_alloc, World.size_alloc]; omega
  have HTB : Hid (∀ u, Below M w u → Tables u) := fun u hu => hT.out.below hu (by rw [← HMM.out]; exact hT.out.size)
  obtain ⟨T, HTT⟩ : ∃ z, Hid (lvT = z) := ⟨_, rfl⟩
  have H12 : Hid (Calls Tryd.prog 9 #[.int .u16 7, .slice (some ⟨M, 0, none⟩) 3 3, .int .i64 2, .int .i64 3, .slice (some ⟨M + 1, 0, none⟩) 7 7] w1 fun e w' => Hid (∃ tg, e = .returned (.tuple #[.slice (some ⟨tg, 0, none⟩) 3 3, .int .i64 0]) ∧ w1.heap.size ≤ tg ∧ Bx w' tg 9 (tcs T 3) ∧ Below w1.heap.size w1 w')) := by
    have z := deal_any 7 (by decide) 2 3 (.slice (some ⟨M, 0, none⟩) 3 3) (.slice (some ⟨M + 1, 0, none⟩) 7 7) lvL lvR w1 (HTB.out w1 H1.out.2.2.1) (vf_mk rfl (by decide) (by unfold maxLen; omega) (fun e => by cases e) (.inr ⟨_, _, rfl, bx_rw H1.out.1⟩)) (vf_mk rfl (by decide) (by unfold maxLen; omega) (fun e => by cases e) (.inr ⟨_, _, rfl, bx_rw H1.out.2.1⟩))
    have e1 : dealE lvL.length 2 3 lvR.length = 0 := by decide +kernel
    have e2 : dealC lvL.length 2 3 lvR.length = 3 := by decide +kernel
    rw [e1, e2, lvT_eq, HTT.out] at z
    refine z.mono ?_
    rintro e w' ⟨v', rfl, h1, h2⟩
    rcases h1 with ⟨h0, _⟩ | ⟨tg, rfl, h3, h4⟩
    · exact absurd h0 (by decide)
    · exact ⟨tg, rfl, h3, h4, h2⟩
  have H11 : Hid (∀ x u, Calls Tryd.prog 10 #[.int .i64 x] u fun e w' => e = .returned (.int .i64 x) ∧ w' = u) := fun x u => numE_ok x u
  have HJ2 : Hid (∀ u g, Below M w u → Bx u g 9 [.string (T 2), .string (T 0)] → Calls Tryd.prog 13 #[.slice (some ⟨g, 0, none⟩) 2 2] u fun e w' => Hid (∃ b, e = .returned (.tuple #[.slice (some ⟨b, 0, none⟩) 3 3, .int .i64 0]) ∧ u.heap.size ≤ b ∧ Bx w' b 5 (fc lvL) ∧ Below u.heap.size u w')) := fun u g hu hg => by
    rw [← HTT.out] at hg
    refine (Join_ok (some ⟨g, 0, none⟩) 2 2 (fun i => lvT (lvF i)) u (show 2 ≤ 100000 by omega) (show ∀ i, i < 2 → _ from fun i hi => ⟨g, 0, rfl, ?_⟩) (HTB.out u hu)).mono fun e w' hh => ?_
    · match i, hi with
      | 0, _ => exact hg.cell 0 _ rfl
      | 1, _ => exact hg.cell 1 _ rfl
    · obtain ⟨b, h1, h2, h3, h4⟩ := lv_two.join lv_on2 hh
      exact ⟨b, h1, h2, h3, h4⟩
  have HJ1 : Hid (∀ u g, Below M w u → Bx u g 9 [.string (T 1)] → Calls Tryd.prog 13 #[.slice (some ⟨g, 0, none⟩) 1 1] u fun e w' => Hid (e = .returned (.tuple #[.slice none 0 0, .int .i64 114]) ∧ Below u.heap.size u w')) := fun u g hu hg => by
    rw [← HTT.out] at hg
    refine (Join_ok (some ⟨g, 0, none⟩) 1 1 (fun _ => lvT 1) u (show 1 ≤ 100000 by omega) (show ∀ i, i < 1 → _ from fun i hi => ⟨g, 0, rfl, ?_⟩) (HTB.out u hu)).mono fun e w' hh => lv_one.few lv_on1 hh
    obtain rfl : i = 0 := by omega
    exact hg.cell 0 _ rfl
  rw [HMM.out]
  go_enter Tryd.func7, Tryd.ntmps7
  go_upto_region 2 with (first
    | (go_at_call 9; rw [← hw1, HMM.out]; clear hw1; refine H12.out.mono ?_; intro e2 w2 hh; obtain ⟨tg, rfl, h1, h2, h3⟩ := hh.out; have H2 : Hid (Bx w2 tg 9 (tcs T 3) ∧ Below M w w2 ∧ M ≤ w2.heap.size) := ⟨h2, H1.out.2.2.1.trans (h3.mono H1.out.2.2.2), Nat.le_trans H1.out.2.2.2 h3.size⟩; clear hh h1 h2 h3)
    | fail)
  clear H12
  go_upto_region 4 with (first
    | (go_at_call 10; refine (H11.out _ _).mono ?_; rintro e1 wn ⟨rfl, hw⟩; obtain rfl := hw.symm; clear hw)
    | fail)
  have HC : Hid (∀ u, Bx u tg 9 (tcs T 3) → u.cell? ⟨tg, 0, none⟩ = some (.string (T 0)) ∧ u.cell? ⟨tg, 1, none⟩ = some (.string (T 1)) ∧ u.cell? ⟨tg, 2, none⟩ = some (.string (T 2))) := fun u hu => ⟨hu.cell 0 _ (tcs_at T 3 0 (by decide)), hu.cell 1 _ (tcs_at T 3 1 (by decide)), hu.cell 2 _ (tcs_at T 3 2 (by decide))⟩
  have hS0 : Bx w2.drew tg 9 (tcs T 3) ∧ Below M w w2.drew ∧ M ≤ w2.drew.heap.size := ⟨H2.out.1.keep rfl, H2.out.2.1.drew, H2.out.2.2⟩
  refine wp_region_noPanic ?_
  refine wp_region_held_drew (S := (fun u => Bx u tg 9 (tcs T 3) ∧ Below M w u ∧ M ≤ u.heap.size)) (by kernel_rfl) (hS0) (fun _ => ?_)
  refine takeH_at 0 22 (.slice (some ⟨tg, 0, none⟩) 3 3) rfl rfl (by kernel_rfl) (by kernel_rfl) (by kernel_rfl) (fun _ _ _ h => h) (hS0) (Or.inl ⟨by rfl, fun w' hS' => by obtain ⟨k0, k1, k2⟩ := HC.out _ hS'.1; go_simp⟩) ?_
  try simp only [List.setIfInBounds_toArray, List.set_cons_zero, List.set_cons_succ]
  refine takeH_at 1 23 (.pointer (some ⟨tg, 2, none⟩)) rfl rfl (by kernel_rfl) (by kernel_rfl) (by kernel_rfl) (fun _ _ _ h => h) (hS0) (Or.inl ⟨by rfl, fun w' hS' => by obtain ⟨k0, k1, k2⟩ := HC.out _ hS'.1; go_simp⟩) ?_
  try simp only [List.setIfInBounds_toArray, List.set_cons_zero, List.set_cons_succ]
  refine takeH_at 2 24 (.string (T 2)) rfl rfl (by kernel_rfl) (by kernel_rfl) (by kernel_rfl) (fun _ _ _ h => h) (hS0) (Or.inl ⟨by rfl, fun w' hS' => by obtain ⟨k0, k1, k2⟩ := HC.out _ hS'.1; go_simp⟩) ?_
  try simp only [List.setIfInBounds_toArray, List.set_cons_zero, List.set_cons_succ]
  refine takeH_at 3 25 (.slice (some ⟨tg, 0, none⟩) 3 3) rfl rfl (by kernel_rfl) (by kernel_rfl) (by kernel_rfl) (fun _ _ _ h => h) (hS0) (Or.inl ⟨by rfl, fun w' hS' => by obtain ⟨k0, k1, k2⟩ := HC.out _ hS'.1; go_simp⟩) ?_
  try simp only [List.setIfInBounds_toArray, List.set_cons_zero, List.set_cons_succ]
  refine takeH_at 4 26 (.pointer (some ⟨tg, 0, none⟩)) rfl rfl (by kernel_rfl) (by kernel_rfl) (by kernel_rfl) (fun _ _ _ h => h) (hS0) (Or.inl ⟨by rfl, fun w' hS' => by obtain ⟨k0, k1, k2⟩ := HC.out _ hS'.1; go_simp⟩) ?_
  try simp only [List.setIfInBounds_toArray, List.set_cons_zero, List.set_cons_succ]
  refine takeH_at 5 27 (.string (T 0)) rfl rfl (by kernel_rfl) (by kernel_rfl) (by kernel_rfl) (fun _ _ _ h => h) (hS0) (Or.inl ⟨by rfl, fun w' hS' => by obtain ⟨k0, k1, k2⟩ := HC.out _ hS'.1; go_simp⟩) ?_
  try simp only [List.setIfInBounds_toArray, List.set_cons_zero, List.set_cons_succ]
  refine wpAnyH_ready (rs := [6]) (by kernel_rfl) (by simp) ?_
  refine AllReadyH.cons rfl (fun KK hK => ?_) AllReadyH.nil
  go_simp
  obtain ⟨w3, hw3⟩ : ∃ u, u = w2.drew.alloc (.cells #[.string (T 2), .string (T 0)] 9) := ⟨_, rfl⟩
  have H3 : Hid ((Bx w3 tg 9 (tcs T 3) ∧ Below M w w3 ∧ M ≤ w3.heap.size) ∧ Bx w3 w2.heap.size 9 [.string (T 2), .string (T 0)]) := by
    have hb : Below w2.drew.heap.size w2.drew w3 := by rw [hw3]; exact (Below.refl _ _).alloc (Nat.le_refl _) _
    exact ⟨⟨hS0.1.below hb, hS0.2.1.trans (hb.mono hS0.2.2), Nat.le_trans hS0.2.2 hb.size⟩, by rw [hw3]; exact Bx.new w2.drew 9 [.string (T 2), .string (T 0)]⟩
  first | (rw [← hw3]) | (rw [show (w2.alloc (.cells #[.string (T 2), .string (T 0)] 9)).drew = w3 from hw3.symm]) | (trace_state)
  clear hw3
  refine hK.out _ _ (H3.out.1) (fun _ => ?_)
  clear hK KK
  try simp only [List.setIfInBounds_toArray, List.set_cons_zero, List.set_cons_succ]
  refine wpAnyH_ready (rs := [7]) (by kernel_rfl) (by simp) ?_
  refine AllReadyH.cons rfl (fun KK hK => ?_) AllReadyH.nil
  go_simp
  refine (HJ2.out w3 w2.heap.size H3.out.1.2.1 H3.out.2).mono ?_
  intro e w4 hh
  obtain ⟨jb, rfl, h1, h2, h3⟩ := hh.out
  have H4 : Hid ((Bx w4 tg 9 (tcs T 3) ∧ Below M w w4 ∧ M ≤ w4.heap.size) ∧ Bx w4 jb 5 (fc lvL)) := ⟨⟨H3.out.1.1.below h3, H3.out.1.2.1.trans (h3.mono H3.out.1.2.2), Nat.le_trans H3.out.1.2.2 h3.size⟩, h2⟩
  clear hh h1 h2 h3
  go_wp2_with fail
  refine hK.out _ _ (H4.out.1) (fun _ => ?_)
  clear hK KK
  try simp only [List.setIfInBounds_toArray, List.set_cons_zero, List.set_cons_succ]
  refine takeH_at 8 21 (.tuple #[.slice (some ⟨jb, 0, none⟩) 3 3, .int .i64 0]) rfl rfl (by kernel_rfl) (by kernel_rfl) (by kernel_rfl) (fun _ _ _ h => h) (H4.out.1) (Or.inl ⟨by rfl, fun w' hS' => by go_simp⟩) ?_
  try simp only [List.setIfInBounds_toArray, List.set_cons_zero, List.set_cons_succ]
  refine takeH_at 9 30 (.slice (some ⟨jb, 0, none⟩) 3 3) rfl rfl (by kernel_rfl) (by kernel_rfl) (by kernel_rfl) (fun _ _ _ h => h) (H4.out.1) (Or.inl ⟨by rfl, fun w' hS' => by go_simp⟩) ?_
  try simp only [List.setIfInBounds_toArray, List.set_cons_zero, List.set_cons_succ]
  refine takeH_at 10 31 (.int .i64 0) rfl rfl (by kernel_rfl) (by kernel_rfl) (by kernel_rfl) (fun _ _ _ h => h) (H4.out.1) (Or.inl ⟨by rfl, fun w' hS' => by go_simp⟩) ?_
  try simp only [List.setIfInBounds_toArray, List.set_cons_zero, List.set_cons_succ]
  refine wpAnyH_ready (rs := [11]) (by kernel_rfl) (by simp) ?_
  refine AllReadyH.cons rfl (fun KK hK => ?_) AllReadyH.nil
  go_simp
  refine hK.out _ _ (H4.out.1) (fun _ => ?_)
  clear hK KK
  try simp only [List.setIfInBounds_toArray, List.set_cons_zero, List.set_cons_succ]
  refine wpAnyH_ready (rs := [12]) (by kernel_rfl) (by simp) ?_
  refine AllReadyH.cons rfl (fun KK hK => ?_) AllReadyH.nil
  go_simp
  refine hK.out _ _ (H4.out.1) (fun _ => ?_)
  clear hK KK
  try simp only [List.setIfInBounds_toArray, List.set_cons_zero, List.set_cons_succ]
  refine wpAnyH_done (by kernel_rfl) ?_ _
  refine NoPanic.normal ?_
  clear hS0 H3 H2
  obtain ⟨k0, k1, k2⟩ := HC.out _ H4.out.1.1
  go_upto_region 6 with (first
    | (go_at_call 13; refine (HJ1.out _ w4.heap.size (H4.out.1.2.1.trans (((Below.refl _ _).alloc (Nat.le_refl _) _).mono H4.out.1.2.2)) (Bx.new w4 9 [.string (T 1)])).mono ?_; intro e w5 hh; obtain ⟨rfl, h3⟩ := hh.out; have H5 : Hid (Below M w w5 ∧ Bx w5 jb 5 (fc lvL) ∧ M ≤ w5.heap.size) := (by
        have hb : Below w4.heap.size w4 w5 := ((Below.refl _ _).alloc (Nat.le_refl _) _).trans (h3.mono (by simp))
        exact ⟨H4.out.1.2.1.trans (hb.mono H4.out.1.2.2), H4.out.2.below hb, Nat.le_trans H4.out.1.2.2 hb.size⟩); clear hh h3)
    | fail)
  have H17 : Hid (Calls Tryd.prog 14 #[.slice (some ⟨jb, 0, none⟩) 3 3, .slice (some ⟨w5.heap.size, 0, none⟩) 3 3] (w5.alloc (.cells #[.int .u8 1, .int .u8 2, .int .u8 3] 5)) fun e w' => Hid (e = .returned (.bool true) ∧ Below M w w')) := by
    have hb : Below w5.heap.size w5 (w5.alloc (.cells #[.int .u8 1, .int .u8 2, .int .u8 3] 5)) := (Below.refl _ _).alloc (Nat.le_refl _) _
    have h1 : Vf (w5.alloc (.cells #[.int .u8 1, .int .u8 2, .int .u8 3] 5)) (.slice (some ⟨jb, 0, none⟩) 3 3) lvL := vf_mk rfl (by decide) (by unfold maxLen; omega) (fun e => by cases e) (.inr ⟨_, _, rfl, bx_rw (H5.out.2.1.below hb)⟩)
    have h2 : Vf (w5.alloc (.cells #[.int .u8 1, .int .u8 2, .int .u8 3] 5)) (.slice (some ⟨w5.heap.size, 0, none⟩) 3 3) lvL := vf_mk rfl (by decide) (by unfold maxLen; omega) (fun e => by cases e) (.inr ⟨_, _, rfl, bx_rw (Bx.new w5 5 (fc lvL))⟩)
    refine (same_any _ _ _ _ _ h1 h2).mono ?_
    rintro e w' ⟨he, k, hw⟩
    rw [decide_eq_true rfl] at he
    exact ⟨he, by rw [hw]; exact below_drewN0 (H5.out.1.trans (hb.mono H5.out.2.2)) k⟩
  go_wp2_with (first
    | (go_at_call 14; refine H17.out.mono ?_; intro e w6 hh; obtain ⟨rfl, h6⟩ := hh.out; have H6 : Hid (Below M w w6) := h6; clear hh h6)
    | (go_at_call 10; refine (H11.out _ _).mono ?_; rintro e1 wn ⟨rfl, hw⟩; obtain rfl := hw.symm; clear hw)
    | fail)
  go_ret
  exact ⟨rfl, H6.out⟩
end Go.Proofs.YtinmhgackihakaaDoor
namespace Go.Proofs.YtinmhgackihakaaDoor
open Go.RowKit
set_option linter.unusedVariables false
set_option linter.unusedSimpArgs false
set_option maxRecDepth 100000
theorem cyc_inj {a c n i j : Nat} (hn : n ≤ c) (hi : i < n) (hj : j < n) (h : (a + i) % c = (a + j) % c) : i = j := by
  have h1 := Nat.sub_mod_eq_zero_of_mod_eq h
  have h2 := Nat.sub_mod_eq_zero_of_mod_eq h.symm
  rw [show a + i - (a + j) = i - j by omega, Nat.mod_eq_of_lt (show i - j < c by omega)] at h1
  rw [show a + j - (a + i) = j - i by omega, Nat.mod_eq_of_lt (show j - i < c by omega)] at h2
  omega
/-- As many as the unlike numbers among them. -/
theorem some_on {z : Shg} {T : Nat → ByteArray} (hz : z.ok) (hT : ∀ i, i < 255 → MGood (T i) (z.at' (fN (i + 1))) 0) (n m : Nat) (f g : Nat → Nat) (hf : ∀ i, i < n → f i < 255) (hg : ∀ i, i < m → ∃ k, k < n ∧ f k = g i) (hi : ∀ i j, i < m → j < m → g i = g j → i = j) :
    m ≤ onN (fun i => gR (T (f i))) n := by
  have hl : ((List.range m).map fun i => g i + 1).length = m := by simp
  have hnd : ((List.range m).map fun i => g i + 1).Nodup := by
    unfold List.Nodup
    rw [List.pairwise_iff_getElem]
    intro i j hi' hj' hij e
    simp only [List.getElem_map, List.getElem_range] at e
    rw [hl] at hi' hj'
    have := hi i j hi' hj' (by omega)
    omega
  have z := onN_ge (R := fun i => gR (T (f i))) (n := n) _ hnd fun j hj => by
    obtain ⟨i, hi1, rfl⟩ := List.mem_map.1 hj
    obtain ⟨k, hk, e⟩ := hg i (List.mem_range.1 hi1)
    have h1 := lns_on hz hT n f hf k hk
    have h2 := hf k hk
    exact ⟨by omega, by omega, k, hk, by rw [h1, e]⟩
  rw [hl] at z
  exact z
/-- Shares that follow one another, round and round. -/
theorem cyc_on {z : Shg} {T : Nat → ByteArray} (hz : z.ok) (hT : ∀ i, i < 255 → MGood (T i) (z.at' (fN (i + 1))) 0) (a c n : Nat) (hn : n ≤ c) (hc : c ≤ 255) (h0 : 0 < c) : n ≤ onN (fun i => gR (T ((a + i) % c))) n :=
  some_on hz hT n n (fun i => (a + i) % c) (fun i => (a + i) % c) (fun i _ => Nat.lt_of_lt_of_le (Nat.mod_lt _ h0) hc) (fun i hi => ⟨i, hi, rfl⟩) fun i j hi hj h => cyc_inj hn hi hj h
/-- The lines that go round, without the first, one more behind them, the first. -/
def rndF2 (a c n x : Nat) : Nat → Nat := fun i => if i + 1 < n then (a + (i + 1)) % c else if i + 1 = n then x else (a + 0) % c
theorem rnd_on {z : Shg} {T : Nat → ByteArray} (hz : z.ok) (hT : ∀ i, i < 255 → MGood (T i) (z.at' (fN (i + 1))) 0) (a c n x : Nat) (hn : n ≤ c) (hc : c ≤ 255) (h0 : 0 < c) (h1 : 1 ≤ n) (hx : x < 255) : n ≤ onN (fun i => gR (T (rndF2 a c n x i))) (n + 1) := by
  have hf : ∀ i, rndF2 a c n x i < 255 := fun i => by
    have hm : ∀ q, q % c < 255 := fun q => Nat.lt_of_lt_of_le (Nat.mod_lt _ h0) hc
    unfold rndF2
    split
    · exact hm _
    · split
      · exact hx
      · exact hm _
  refine some_on hz hT (n + 1) n _ (fun i => (a + i) % c) (fun i _ => hf i) (fun i hi => ?_) fun i j hi hj h => cyc_inj hn hi hj h
  by_cases hz0 : i = 0
  · subst hz0
    exact ⟨n, by omega, by unfold rndF2; rw [if_neg (by omega), if_neg (by omega)]⟩
  · refine ⟨i - 1, by omega, ?_⟩
    unfold rndF2
    rw [if_pos (by omega), show i - 1 + 1 = i by omega]
/-- The lines of Deal are good. -/
theorem deal_good_at (sn : Nat) (l R : List F) (nd : Nat) (h1 : 1 ≤ l.length) (h2 : l.length ≤ 64) (h3 : 1 ≤ nd) (h4 : nd ≤ 16) : ∀ i, i < 255 → MGood (dealT sn l R nd i) ((shD sn l R nd).at' (fN (i + 1))) 0 := fun i hi => by
  rw [dealT_at sn l R nd i h4]
  exact Shg.good (shD_ok sn l R nd h1 h2 h3 h4) _ (by rw [fN_val _ (by omega)]; omega)
end Go.Proofs.YtinmhgackihakaaDoor
namespace Go.Proofs.YtinmhgackihakaaDoor
open Go.RowKit
set_option linter.unusedVariables false
set_option linter.unusedSimpArgs false
set_option maxRecDepth 100000
/-- The numbers of the shares that are taken. -/
def tkN (a K q : Nat) : Nat := (a + q) % K
theorem tkN_lt (a K q : Nat) (h : 0 < K) : tkN a K q < K := Nat.mod_lt _ h
theorem tkN_apart (a K p q : Nat) (hp : p < q) (hq : q < K) : tkN a K q ≠ tkN a K p := fun e => by
  have z := Nat.sub_mod_eq_zero_of_mod_eq e
  rw [show a + q - (a + p) = q - p by omega, Nat.mod_eq_of_lt (by omega)] at z
  omega
/-- The points of the polynomial through the given secret and them. -/
def ptF (a K : Nat) : Nat → F
  | 0 => 0
  | q + 1 => fN (tkN a K q + 1)
theorem ptF_apart (a K N : Nat) (hN : N ≤ K) (hK : K ≤ 24) : ∀ i j, i < j → j < N → ptF a K j ≠ ptF a K i := fun i j h1 h2 e => by
  obtain ⟨q, rfl⟩ : ∃ q, j = q + 1 := ⟨j - 1, by omega⟩
  have hq := tkN_lt a K q (by omega)
  have e1 := congrArg (fun x : F => x.1) e
  have e2 : (ptF a K (q + 1)).1 = tkN a K q + 1 := fN_val _ (by omega)
  cases i with
  | zero =>
    have e3 : (ptF a K 0).1 = 0 := rfl
    simp only [e2, e3] at e1
    omega
  | succ p =>
    have hp := tkN_lt a K p (by omega)
    have e3 : (ptF a K (p + 1)).1 = tkN a K p + 1 := fN_val _ (by omega)
    simp only [e2, e3] at e1
    exact tkN_apart a K p q (by omega) (by omega) (by omega)
def ptY (z : Shg) (row : List F) (a K i : Nat) : Nat → F
  | 0 => row.getD i 0
  | q + 1 => (z.at' (fN (tkN a K q + 1))).getD (5 + i) 0
def hpL (z : Shg) (row : List F) (a K N i : Nat) : List F := newtL (ptF a K) (ptY z row a K i) N
/-- The random bytes that deal the given secret to the same shares. -/
def hdR (z : Shg) (row : List F) (a K N n : Nat) : List F := genL ((N - 1) * n) fun m => (hpL z row a K N (m % n)).getD (m / n + 1) 0
theorem hdR_len (z : Shg) (row : List F) (a K N n : Nat) : (hdR z row a K N n).length = (N - 1) * n := genL_len _ _
theorem valF_zero (l : List F) : valF l 0 = l.getD 0 0 := by
  rw [← valF_rev]
  cases l with
  | nil => rfl
  | cons c l => rw [List.reverse_cons, pv_snoc, fm_zero, zero_fa]; rfl
theorem mod_col (k n i : Nat) (h : i < n) : (k * n + i) % n = i ∧ (k * n + i) / n = k := by
  constructor
  · rw [Nat.add_comm, Nat.add_mul_mod_self_right, Nat.mod_eq_of_lt h]
  · rw [Nat.add_comm, Nat.add_mul_div_right _ _ (by omega), Nat.div_eq_of_lt h, Nat.zero_add]
theorem col_lt (k n N i : Nat) (hi : i < n) (hk : k + 1 < N) : k * n + i < (N - 1) * n := by
  obtain ⟨m, rfl⟩ : ∃ m, N = k + 1 + 1 + m := ⟨N - (k + 2), by omega⟩
  have e : (k + 1 + 1 + m - 1) * n = k * n + n + m * n := by
    rw [show k + 1 + 1 + m - 1 = k + 1 + m by omega, Nat.add_mul, Nat.add_mul, Nat.one_mul]
  omega
theorem hides_same (sn : Nat) (S2 X2 R : List F) (N K a : Nat) (hl : X2.length = S2.length) (hN : 1 ≤ N ∧ N ≤ 16 ∧ N ≤ K ∧ K ≤ 24) (q : Nat) (hq : q + 1 < N) :
    dealT sn X2 (hdR (shD sn S2 R N) (rowS (fN (sn / 256)) (fN (sn % 256)) X2) a K N (S2.length + 4)) N (tkN a K q) = dealT sn S2 R N (tkN a K q) := by
  have hz : (shD sn S2 R N).bn.1 = N := fN_val _ (by omega)
  unfold dealT lineT
  rw [hl]
  have e : valsL (hdR (shD sn S2 R N) (rowS (fN (sn / 256)) (fN (sn % 256)) X2) a K N (S2.length + 4)) (rowS (fN (sn / 256)) (fN (sn % 256)) X2) (S2.length + 4) N (fN (tkN a K q + 1)) = valsL R (rowS (fN (sn / 256)) (fN (sn % 256)) S2) (S2.length + 4) N (fN (tkN a K q + 1)) := by
    refine List.map_congr_left fun i hi => ?_
    have hi2 := List.mem_range.1 hi
    have e2 : (fN (tkN a K q + 1)) = ptF a K (q + 1) := rfl
    rw [← cf_val _ _ _ _ _ _ hN.1]
    have e1 : cfR (hdR (shD sn S2 R N) (rowS (fN (sn / 256)) (fN (sn % 256)) X2) a K N (S2.length + 4)) (rowS (fN (sn / 256)) (fN (sn % 256)) X2) (S2.length + 4) i (N - 1) = hpL (shD sn S2 R N) (rowS (fN (sn / 256)) (fN (sn % 256)) X2) a K N i := by
      refine list_same (by rw [cfR_len]; show _ = (newtL _ _ N).length; rw [newt_len]; omega) fun k hk => ?_
      have hk : k < N := by
        have e9 : (hpL (shD sn S2 R N) (rowS (fN (sn / 256)) (fN (sn % 256)) X2) a K N i).length = N := newt_len _ _ _
        rw [e9] at hk
        exact hk
      cases k with
      | zero =>
        have z := newt_at (ptF a K) (ptY (shD sn S2 R N) (rowS (fN (sn / 256)) (fN (sn % 256)) X2) a K i) N hN.1 (ptF_apart a K N hN.2.2.1 hN.2.2.2) 0 (by omega)
        rw [show ptF a K 0 = 0 from rfl, valF_zero] at z
        exact z.symm
      | succ k =>
        have hkn : k < N - 1 := by omega
        show ((List.range (N - 1)).map fun j => (hdR _ _ a K N (S2.length + 4)).getD (j * (S2.length + 4) + i) 0).getD k 0 = _
        rw [List.getD_eq_getElem?_getD, List.getElem?_map, List.getElem?_range hkn]
        show (hdR _ _ a K N (S2.length + 4)).getD (k * (S2.length + 4) + i) 0 = _
        unfold hdR
        rw [genL_at _ _ _ (col_lt k _ N i hi2 (by omega)), (mod_col k _ i hi2).1, (mod_col k _ i hi2).2]
    rw [e1, e2]
    have z := newt_at (ptF a K) (ptY (shD sn S2 R N) (rowS (fN (sn / 256)) (fN (sn % 256)) X2) a K i) N hN.1 (ptF_apart a K N hN.2.2.1 hN.2.2.2) (q + 1) (by omega)
    refine z.trans ?_
    show ((shD sn S2 R N).at' (fN (tkN a K q + 1))).getD (5 + i) 0 = _
    rw [(shD sn S2 R N).at_v _ i hi2]
    unfold Shg.cf
    rw [hz]
    rfl
  rw [e]
/-- Of a sharing of degree nought, every share holds the row. -/
theorem one_v (z : Shg) (x : F) (i : Nat) (h : z.bn.1 = 1) (hi : i < z.l.length + 4) : (z.at' x).getD (5 + i) 0 = z.row.getD i 0 := by
  rw [z.at_v x i hi]
  have e : z.cf i = [] ++ [z.row.getD i 0] := by
    unfold Shg.cf cfL
    rw [h]
    rfl
  rw [e, pv_snoc]
  show fa (fm 0 x) _ = _
  rw [zero_fm, zero_fa]
theorem at_len (z : Shg) (x : F) : 5 + (z.l.length + 4) ≤ (z.at' x).length := by
  unfold Shg.at'
  rw [full_eq]
  simp [valsL_len]
  omega
end Go.Proofs.YtinmhgackihakaaDoor
