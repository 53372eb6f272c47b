import Derived.Test.YtjcdhfkilnbjgaaDoorTlr
import Derived.Test.YtjcdhfkilnbjgaaDoorJug
import Derived.Test.YtjcdhfkilnbjgaaDoorJuc
import Derived.Test.YtjcdhfkilnbjgaaDoorPart13
import Derived.Deep.Cut
namespace Go.Proofs.YtjcdhfkilnbjgaaDoor
open Go.RowKit
set_option linter.unusedVariables false
set_option linter.unusedSimpArgs false
set_option maxRecDepth 100000
/-- cut, of bytes that are seen: its answer hangs on the slice alone. -/
theorem cut_det (v : Value) (l : List F) (w : World) (h : Vf w v l) : ∃ a n c, n = (l.take 64).length ∧ (∀ u, Calls Tryd.prog 14 #[v, .int .i64 64] u fun e w' => e = .returned (.slice a n c) ∧ w' = u) ∧ ∀ u, Below w.heap.size w u → Vf u (.slice a n c) (l.take 64) := by
  obtain ⟨a, c, rfl, h1, h2, h3, h4⟩ := h.parts
  by_cases hl : l.length ≤ 64
  · refine ⟨a, l.length, c, by rw [List.take_of_length_le hl], fun u => cut_le a l.length c 64 hl u, fun u hu => ?_⟩
    rw [List.take_of_length_le hl]
    exact h.below hu
  · rcases h4 with h4 | ⟨b, off, rfl, h5⟩
    · rw [h4] at hl; simp at hl
    · refine ⟨some ⟨b, off, none⟩, 64, c, by rw [List.length_take]; omega, fun u => (cut_ok b off l.length c 64 (by omega) h1 u).mono fun e w' hh => ?_, fun u hu => ?_⟩
      · rw [Nat.min_eq_right (by omega)] at hh
        exact hh
      · exact (vf_mk (by rw [List.length_take]; omega) (by omega) h2 (fun e => by cases e) (.inr ⟨b, off, rfl, rw_take h5 64⟩) : Vf w _ _).below hu
/-- A row of one's own behind block k. -/
def OwB (w : World) (B : Nat) (v : Value) (l : List F) : Prop := ∃ k, B ≤ k ∧ k ≤ w.heap.size ∧ w.ownsRow k 5 1 v l.length (fc l)
theorem OwB.keep {w u : World} {B b : Nat} {v : Value} {l : List F} (h : OwB w B v l) (hg : w.grownBy u (some b)) (hb : b < B) : OwB u B v l := by
  obtain ⟨k, h1, h2, h3⟩ := h
  refine ⟨k, h1, Nat.le_trans h2 hg.size, h3.kept hg ?_⟩
  cases hv : v.ownBlock with
  | none => exact .inl rfl
  | some q => exact .inr (fun e => by have z := (h3.lt q hv).1; injection e with e; omega)
theorem OwB.below {w u : World} {B : Nat} {v : Value} {l : List F} (h : OwB w B v l) (hb : Below w.heap.size w u) : OwB u B v l := by
  obtain ⟨k, h1, h2, h3⟩ := h
  exact ⟨k, h1, Nat.le_trans h2 hb.size, h3.kept (row := none) ⟨hb.os, hb.tape, hb.output, hb.size, fun k hk _ => hb.block k hk⟩ (by cases hv : v.ownBlock <;> simp)⟩
theorem OwB.vf {w : World} {B : Nat} {v : Value} {l : List F} (h : OwB w B v l) : Vf w v l := by
  obtain ⟨k, _, _, h3⟩ := h
  exact own_vf h3 rfl
theorem OwB.none (w : World) (B : Nat) (hB : B ≤ w.heap.size) : OwB (w.alloc (.cells #[] 5)) B (.slice (some ⟨w.heap.size, 0, none⟩) 0 0) [] := ⟨w.heap.size, hB, by simp, own_none (new_none w)⟩
theorem OwB.form {w : World} {B : Nat} {v : Value} {l : List F} (h : OwB w B v l) : ∃ a c, v = .slice a l.length c := by
  obtain ⟨k, _, _, h3⟩ := h
  rcases h3.2 with ⟨e, e0⟩ | ⟨g, cap, cur, e, _⟩
  · exact ⟨_, 0, by rw [e, e0]⟩
  · exact ⟨_, cap, e⟩
theorem OwB.form2 {w : World} {B : Nat} {v : Value} {l : List F} (h : OwB w B v l) : ∃ a n c, Hid (n = l.length) ∧ v = .slice a n c := by
  obtain ⟨a, c, e⟩ := h.form
  exact ⟨a, _, c, rfl, e⟩
theorem step_app_ob {ops : Array Oper} {o : Oper} {a : Act} {K : Act → World → Prop} {Q : Exit → Act → World → Prop} {E : Prop} {w : World} (hgd : o.guard = none) (s x : Operand)
    (ho : o.op = .call { callee := .builtin .append, args := #[s, x], argTypes := #[23, 23] }) (B : Nat) (v : Value) (hs : a.eval s = v) (l1 : List F) (hv : OwB w B v l1) (vx : Value) (hx : a.eval x = vx) (l2 : List F) (hvx : Vf w vx l2) (hn : l1.length + l2.length ≤ 100000)
    (h : ∀ v' w', OwB w' B v' (l1 ++ l2) → Below B w w' → K (a.put o.dst v') w') :
    if Region.wanted o (yielded ops a.tmps) = true then Oper.wp Tryd.prog o a w K Q else E := by
  obtain ⟨k, h1, h2, h3⟩ := hv
  refine step_app_vf hgd s x ho k v hs l1.length l1 h3 rfl h2 vx hx l2 hvx hn fun v' w' q1 q2 => ?_
  refine h v' w' ⟨k, h1, Nat.le_trans h2 q2.size, by rw [List.length_append]; exact q1⟩ (q2.mono h1)
set_option maxHeartbeats 3200000 in
/-- The law Far. -/
theorem far_ok (sn : Nat) (hsn : Hid (sn < 65536)) (nd ct : Int) (own : Bool) (sv : Value) (ra : Option Addr) (rl rc : Nat) (S Rd : List F) (sn2 : Nat) (hsn2 : Hid (sn2 < 65536)) (nd2 ct2 : Int) (own2 : Bool) (sv2 : Value) (ra2 : Option Addr) (rl2 rc2 : Nat) (S3 Rd2 : List F) (ia ka : Int) (w : World) (hT : Hid (Tables w)) (h : Hid (Vf w sv S)) (hr : Hid (Vf w (.slice ra rl rc) Rd)) (hone : Hid (sv.oneCell' = true)) (h2 : Hid (Vf w sv2 S3)) (hr2 : Hid (Vf w (.slice ra2 rl2 rc2) Rd2)) (hone2 : Hid (sv2.oneCell' = true)) :
    Calls Tryd.prog 4 #[.agg #[.int .u16 (sn : Nat), sv, .int .i64 nd, .int .i64 ct, .bool own, .slice ra rl rc], .agg #[.int .u16 (sn2 : Nat), sv2, .int .i64 nd2, .int .i64 ct2, .bool own2, .slice ra2 rl2 rc2], .int .i64 ia, .int .i64 ka] w fun e w' => e = .returned (.bool true) ∧ Below w.heap.size w w' := by
  obtain ⟨M, HMM⟩ : ∃ M, Hid (w.heap.size = M) := ⟨_, rfl⟩
  obtain ⟨D1, HD1⟩ : ∃ z : List Value, Hid ([.int .u16 (sn : Nat), sv, .int .i64 nd, .int .i64 ct, .bool own, .slice ra rl rc] = z) := ⟨_, rfl⟩
  have hi1 : (Tryd.prog.info? 25).map (·.size) = some D1.length := by rw [← HD1.out]; kernel_rfl
  have HTB : Hid (∀ u, Below M w u → Tables u) := fun u hu => hT.out.below hu (by rw [← HMM.out]; exact hT.out.size)
  have HRV : Hid (∀ u, Below M w u → Vf u (.slice ra rl rc) Rd) := fun u hu => hr.out.below (by rw [HMM.out]; exact hu)
  obtain ⟨S2, HS2⟩ : ∃ z : List F, Hid (sec5 S = z) := ⟨_, rfl⟩
  have HSL : Hid (1 ≤ S2.length ∧ S2.length ≤ 64) := by rw [← HS2.out]; exact sec5_len S
  obtain ⟨N, HN⟩ : ∃ z, Hid (nd5 nd = z) := ⟨_, rfl⟩
  obtain ⟨K, HK⟩ : ∃ z, Hid (ct5 nd ct = z) := ⟨_, rfl⟩
  have HNK : Hid (1 ≤ N ∧ N ≤ 16 ∧ N ≤ K ∧ K ≤ 24) := by rw [← HN.out, ← HK.out]; exact ⟨(nd5_le nd).1, (nd5_le nd).2, (ct5_le nd ct).1, (ct5_le nd ct).2⟩
  obtain ⟨R, HRR⟩ : ∃ z : List F, Hid (rnd5 false Rd (N : Nat) (S2.length : Nat) = z) := ⟨_, rfl⟩
  obtain ⟨T, HTT⟩ : ∃ z, Hid (dealT sn S2 R N = z) := ⟨_, rfl⟩
  have HTG : Hid (∀ i, i < 255 → MGood (T i) ((shD sn S2 R N).at' (fN (i + 1))) 0) := by rw [← HTT.out]; exact deal_good_at sn S2 R N HSL.out.1 HSL.out.2 HNK.out.1 HNK.out.2.1
  have HZO : Hid ((shD sn S2 R N).ok) := shD_ok sn S2 R N HSL.out.1 HSL.out.2 HNK.out.1 HNK.out.2.1
  have HZN : Hid ((shD sn S2 R N).bn.1 = N) := fN_val _ (by have := HNK.out; omega)
  have H9 : Hid (∀ u, Below M w u → Calls Tryd.prog 9 #[] u fun e w' => Hid (e = .returned (.bool true) ∧ Below u.heap.size u w')) := fun u hu => live_ok u (HTB.out u hu)
  have H11 : Hid (∀ x u, Calls Tryd.prog 11 #[.int .i64 x] u fun e w' => e = .returned (.int .i64 x) ∧ w' = u) := fun x u => numE_ok x u
  obtain ⟨E1, HE1⟩ : ∃ z : List Value, Hid ([.int .u16 (sn2 : Nat), sv2, .int .i64 nd2, .int .i64 ct2, .bool own2, .slice ra2 rl2 rc2] = z) := ⟨_, rfl⟩
  have HRV2 : Hid (∀ u, Below M w u → Vf u (.slice ra2 rl2 rc2) Rd2) := fun u hu => hr2.out.below (by rw [HMM.out]; exact hu)
  obtain ⟨w1, hw1⟩ : ∃ u, u = (w.alloc (.cells #[.int .u16 (sn : Nat), sv, .int .i64 nd, .int .i64 ct, .bool own, .slice ra rl rc] 25)).alloc (.cells #[.int .u16 (sn2 : Nat), sv2, .int .i64 nd2, .int .i64 ct2, .bool own2, .slice ra2 rl2 rc2] 25) := ⟨_, rfl⟩
  have H1 : Hid (Bx w1 M 25 D1 ∧ Below M w w1 ∧ M ≤ w1.heap.size ∧ Bx w1 (M + 1) 25 E1) := by
    have hb : Below M w (w.alloc (.cells #[.int .u16 (sn : Nat), sv, .int .i64 nd, .int .i64 ct, .bool own, .slice ra rl rc] 25)) := (Below.refl _ _).alloc (Nat.le_of_eq HMM.out.symm) _
    have h0 : (w.alloc (.cells #[.int .u16 (sn : Nat), sv, .int .i64 nd, .int .i64 ct, .bool own, .slice ra rl rc] 25)).heap.size = M + 1 := by rw [← HMM.out]; simp
    have hb2 : Below (M + 1) (w.alloc (.cells #[.int .u16 (sn : Nat), sv, .int .i64 nd, .int .i64 ct, .bool own, .slice ra rl rc] 25)) w1 := by rw [hw1]; exact (Below.refl _ _).alloc (Nat.le_of_eq h0.symm) _
    have hx : Bx (w.alloc (.cells #[.int .u16 (sn : Nat), sv, .int .i64 nd, .int .i64 ct, .bool own, .slice ra rl rc] 25)) M 25 D1 := by rw [← HMM.out, ← HD1.out]; exact Bx.new w 25 _
    have hz := hb2.size
    refine ⟨hx.keep (hb2.block M (by omega)), hb.trans (hb2.mono (by omega)), by omega, ?_⟩
    rw [hw1, ← h0, ← HE1.out]
    exact Bx.new _ 25 [.int .u16 (sn2 : Nat), sv2, .int .i64 nd2, .int .i64 ct2, .bool own2, .slice ra2 rl2 rc2]
  have H8 : Hid (Calls Tryd.prog 8 #[.agg D1.toArray] w1 fun e w' => Hid (∃ g c tg, e = .returned (.tuple #[.agg #[.int .u16 (sn : Nat), .slice (some ⟨g, 0, none⟩) S2.length c, .int .i64 (N : Nat), .int .i64 (K : Nat), .bool false, .slice ra rl rc], .slice (some ⟨tg, 0, none⟩) K K, .bool true]) ∧ S2.length ≤ c ∧ c ≤ maxLen ∧ w1.heap.size ≤ g ∧ Rx w' g S2 ∧ w1.heap.size ≤ tg ∧ Bx w' tg 9 (tcs T K) ∧ Below w1.heap.size w1 w')) := by
    have z := dealt_ok sn hsn nd ct own sv ra rl rc S Rd w1 (HTB.out w1 H1.out.2.1) (h.out.below (by rw [HMM.out]; exact H1.out.2.1)) (HRV.out w1 H1.out.2.1)
    rw [HS2.out, HN.out, HK.out, HRR.out, HTT.out] at z
    rw [← HD1.out]
    exact z
  have HRG := H1.out.1.range
  rw [HMM.out]
  go_enter Tryd.func4, Tryd.ntmps4
  go_upto_region 1 with fail
  rw [← hw1, HMM.out]
  clear hw1
  go_upto_region 2 with (first
    | (refine wpList_load_mid (by rfl) 25 (.tmp 4) (by rfl) M 0 (by rfl) D1 _ HRG Tryd.underlying25 rfl hi1 ?_)
    | (go_at_call 8; refine H8.out.mono ?_; intro e2 w2 hh; obtain ⟨g, c, tg, rfl, q1, q2, q3, q4, q5, q6, q7⟩ := hh.out; have H2 : Hid (Bx w2 tg 9 (tcs T K) ∧ Below M w w2 ∧ Bx w2 M 25 D1 ∧ Bx w2 (M + 1) 25 E1) := ⟨q6, H1.out.2.1.trans (q7.mono H1.out.2.2.1), H1.out.1.below q7, H1.out.2.2.2.below q7⟩; clear hh q1 q2 q3 q4 q5 q6 q7)
    | (refine wpList_store_bx (by rfl) 25 (.tmp 9) (.tmp 24) (by rfl) Z25 [.int .u16 (sn : Nat), .slice (some ⟨g, 0, none⟩) S2.length c, .int .i64 (N : Nat), .int .i64 (K : Nat), .bool false, .slice ra rl rc] w2.heap.size (by rfl) (by rfl) (Bx.new w2 25 Z25) (by rfl) (by kernel_rfl) (by intro v hv; simp at hv; rcases hv with rfl | rfl | rfl | rfl | rfl | rfl <;> rfl) ?_; intro w3 h7 h8; have H3 : Hid (Bx w3 M 25 D1 ∧ Bx w3 (M + 1) 25 E1 ∧ Bx w3 tg 9 (tcs T K) ∧ Below M w w3) := (by
        have hb : Below w2.heap.size w2 w3 := ((Below.refl _ _).alloc (Nat.le_refl _) _).trans (below_gb h8 (by simp) (Nat.le_refl _))
        exact ⟨H2.out.2.2.1.below hb, H2.out.2.2.2.below hb, H2.out.1.below hb, H2.out.2.1.trans (hb.mono (Nat.le_of_lt H2.out.2.2.1.lt))⟩); clear h7 h8)
    | fail)
  clear HRG H8 H2
  obtain ⟨B3, HB3⟩ : ∃ z, Hid (w3.heap.size = z) := ⟨_, rfl⟩
  have HLT3 : Hid (M + 1 < B3 ∧ tg < B3) := by rw [← HB3.out]; exact ⟨H3.out.2.1.lt, H3.out.2.2.1.lt⟩
  have HC3 : Hid (∀ u, Below B3 w3 u → u.cell? ⟨M + 1, 1, none⟩ = some sv2 ∧ u.cell? ⟨M, 1, none⟩ = some sv) := fun u hu => by
    rw [← HB3.out] at hu
    have x1 := H3.out.1.below hu
    have x2 := H3.out.2.1.below hu
    rw [← HD1.out] at x1
    rw [← HE1.out] at x2
    exact ⟨x2.cell 1 _ rfl, x1.cell 1 _ rfl⟩
  have hmw : Below w.heap.size w w3 := by rw [HMM.out]; exact H3.out.2.2.2
  obtain ⟨a4, n4, c4, hn4, H14b, hv4⟩ := cut_det sv2 S3 w3 (h2.out.below hmw)
  obtain ⟨a7, n7, c7, hn7, H14a, hv7⟩ := cut_det sv S w3 (h.out.below hmw)
  have HV4 : Hid (∀ u, Below B3 w3 u → Vf u (.slice a4 n4 c4) (S3.take 64)) := fun u hu => hv4 u (by rw [HB3.out]; exact hu)
  have HV7 : Hid (∀ u, Below B3 w3 u → Vf u (.slice a7 n7 c7) (S.take 64)) := fun u hu => hv7 u (by rw [HB3.out]; exact hu)
  have HN7 : Hid (n7 = (S.take 64).length) := hn7
  have HA7 : Hid (∀ u, Calls Tryd.prog 14 #[sv, .int .i64 64] u fun e w' => e = .returned (.slice a7 n7 c7) ∧ w' = u) := H14a
  have HA4 : Hid (∀ u, Calls Tryd.prog 14 #[sv2, .int .i64 64] u fun e w' => e = .returned (.slice a4 n4 c4) ∧ w' = u) := H14b
  clear hmw hn4 hn7 hv4 hv7 H14a H14b
  have HNE : Hid (tg ≠ M + 1) := fun e => by
    have a1 := H3.out.2.1
    have a2 := H3.out.2.2.1
    unfold Bx at a1 a2
    rw [e, a1] at a2
    injection a2 with z
    injection z with _ z _
    exact absurd z (by decide)
  go_cut [36] from 27 to 36 (fun cz wx => cz = .pointer (some ⟨M + 1, 1, none⟩) ∧ ∃ vn : Value, Hid (Bx wx (M + 1) 25 [.int .u16 (sn2 : Nat), vn, .int .i64 nd2, .int .i64 ct2, .bool own2, .slice ra2 rl2 rc2] ∧ OwB wx B3 vn (S3.take 64 ++ S.take 64) ∧ Bx wx M 25 D1 ∧ Bx wx tg 9 (tcs T K) ∧ Below M w wx))
  case first =>
    have hS0 : Below B3 w3 w3.drew := (Below.refl _ _).drew
    refine wp_region_noPanic ?_
    refine wp_region_till (fun u => Below B3 w3 u) 10 (by kernel_rfl) (by decide) (by decide +kernel) (by decide +kernel) (by decide +kernel) (fun inv => ?_)
    refine till_at 1 28 (.pointer (some ⟨M + 1, 1, none⟩)) inv rfl rfl (by decide) (by decide +kernel) (by decide +kernel) (fun _ _ _ h => h) (hS0) (Or.inl ⟨by rfl, fun w' hS' => by obtain ⟨k0, k1⟩ := HC3.out _ hS'; go_simp⟩) (fun inv' => ?_)
    clear inv; have inv := inv'; clear inv'
    try simp only [List.setIfInBounds_toArray, List.set_cons_zero, List.set_cons_succ]
    refine till_at 2 29 (sv2) inv rfl rfl (by decide) (by decide +kernel) (by decide +kernel) (fun _ _ _ h => h) (hS0) (Or.inl ⟨by rfl, fun w' hS' => by obtain ⟨k0, k1⟩ := HC3.out _ hS'; go_simp⟩) (fun inv' => ?_)
    clear inv; have inv := inv'; clear inv'
    try simp only [List.setIfInBounds_toArray, List.set_cons_zero, List.set_cons_succ]
    refine till_at 5 32 (.pointer (some ⟨M, 1, none⟩)) inv rfl rfl (by decide) (by decide +kernel) (by decide +kernel) (fun _ _ _ h => h) (hS0) (Or.inl ⟨by rfl, fun w' hS' => by obtain ⟨k0, k1⟩ := HC3.out _ hS'; go_simp⟩) (fun inv' => ?_)
    clear inv; have inv := inv'; clear inv'
    try simp only [List.setIfInBounds_toArray, List.set_cons_zero, List.set_cons_succ]
    refine till_at 6 33 (sv) inv rfl rfl (by decide) (by decide +kernel) (by decide +kernel) (fun _ _ _ h => h) (hS0) (Or.inl ⟨by rfl, fun w' hS' => by obtain ⟨k0, k1⟩ := HC3.out _ hS'; go_simp⟩) (fun inv' => ?_)
    clear inv; have inv := inv'; clear inv'
    try simp only [List.setIfInBounds_toArray, List.set_cons_zero, List.set_cons_succ]
    refine till_ready (rs := [0, 3]) (by decide +kernel) (by simp) ?_
    refine AllTill.cons (i := 0) inv rfl (by decide +kernel) (by decide) (fun KK hK => ?_) (AllTill.cons (i := 3) inv rfl (by decide +kernel) (by decide) (fun KK hK => ?_) AllTill.nil)
    · skip
      go_simp
      obtain ⟨wz1, hwz1⟩ : ∃ q, q = w3.drew.alloc (.cells #[] 5) := ⟨_, rfl⟩
      have HZ2 : Hid (Below B3 w3 wz1 ∧ OwB wz1 B3 (.slice (some ⟨w3.drew.heap.size, 0, none⟩) 0 0) []) := by
        rw [hwz1]
        exact ⟨Below.alloc (hS0) (by rw [← HB3.out]; exact (show Below B3 w3 w3.drew from hS0).size) _, OwB.none w3.drew B3 (by rw [← HB3.out]; exact (show Below B3 w3 w3.drew from hS0).size)⟩
      first | (rw [← hwz1]) | (rw [show (w3.alloc (.cells #[] 5)).drew = wz1 from hwz1.symm])
      clear hwz1
      refine hK.out _ _ (HZ2.out.1) (fun inv' => ?_)
      clear hK KK inv; have inv := inv'; clear inv'
      try simp only [List.setIfInBounds_toArray, List.set_cons_zero, List.set_cons_succ]
      refine till_ready (rs := [3]) (by decide +kernel) (by simp) ?_
      refine AllTill.cons (i := 3) inv rfl (by decide +kernel) (by decide) (fun KK hK => ?_) AllTill.nil
      go_simp
      refine (HA4.out _).mono ?_
      rintro e wn ⟨rfl, hw⟩
      obtain rfl := hw.symm
      clear hw
      go_wp2_with fail
      refine hK.out _ _ (HZ2.out.1) (fun inv' => ?_)
      clear hK KK inv; have inv := inv'; clear inv'
      try simp only [List.setIfInBounds_toArray, List.set_cons_zero, List.set_cons_succ]
      refine till_ready (rs := [4]) (by decide +kernel) (by simp) ?_
      refine AllTill.cons (i := 4) inv rfl (by decide +kernel) (by decide) (fun KK hK => ?_) AllTill.nil
      refine step_app_ob rfl (.tmp 27) (.tmp 30) rfl B3 _ rfl ([]) (HZ2.out.2) _ rfl (S3.take 64) (HV4.out _ (HZ2.out.1)) (by simp [List.length_take]; omega) ?_
      intro va5 wa3 ho hb
      try rw [List.nil_append] at ho
      obtain ⟨xva5, nva5, cva5, lva5, rfl⟩ := ho.form2
      have HZ4 : Hid (Below B3 w3 wa3 ∧ OwB wa3 B3 (.slice xva5 nva5 cva5) (S3.take 64)) := ⟨(show Below B3 w3 wz1 from HZ2.out.1).trans hb, ho⟩
      clear ho hb
      refine hK.out _ _ (HZ4.out.1) (fun inv' => ?_)
      clear hK KK inv; have inv := inv'; clear inv'
      try simp only [List.setIfInBounds_toArray, List.set_cons_zero, List.set_cons_succ]
      refine till_ready (rs := [7]) (by decide +kernel) (by simp) ?_
      refine AllTill.cons (i := 7) inv rfl (by decide +kernel) (by decide) (fun KK hK => ?_) AllTill.nil
      go_simp
      refine (HA7.out _).mono ?_
      rintro e wn ⟨rfl, hw⟩
      obtain rfl := hw.symm
      clear hw
      go_wp2_with fail
      refine hK.out _ _ (HZ4.out.1) (fun inv' => ?_)
      clear hK KK inv; have inv := inv'; clear inv'
      try simp only [List.setIfInBounds_toArray, List.set_cons_zero, List.set_cons_succ]
      refine till_ready (rs := [8]) (by decide +kernel) (by simp) ?_
      refine AllTill.cons (i := 8) inv rfl (by decide +kernel) (by decide) (fun KK hK => ?_) AllTill.nil
      refine step_app_ob rfl (.tmp 31) (.tmp 34) rfl B3 _ rfl (S3.take 64) (HZ4.out.2) _ rfl (S.take 64) (HV7.out _ (HZ4.out.1)) (by simp [List.length_take]; omega) ?_
      intro va8 wa6 ho hb
      try rw [List.nil_append] at ho
      obtain ⟨xva8, nva8, cva8, lva8, rfl⟩ := ho.form2
      have HZ7 : Hid (Below B3 w3 wa6 ∧ OwB wa6 B3 (.slice xva8 nva8 cva8) (S3.take 64 ++ S.take 64)) := ⟨(show Below B3 w3 wa3 from HZ4.out.1).trans hb, ho⟩
      clear ho hb
      refine hK.out _ _ (HZ7.out.1) (fun inv' => ?_)
      clear hK KK inv; have inv := inv'; clear inv'
      try simp only [List.setIfInBounds_toArray, List.set_cons_zero, List.set_cons_succ]
      refine till_at 9 36 (.pointer (some ⟨M + 1, 1, none⟩)) inv rfl rfl (by decide) (by decide +kernel) (by decide +kernel) (fun _ _ _ h => h) (HZ7.out.1) (Or.inl ⟨by rfl, fun w' hS' => by obtain ⟨k0, k1⟩ := HC3.out _ hS'; go_simp⟩) (fun inv' => ?_)
      clear inv; have inv := inv'; clear inv'
      try simp only [List.setIfInBounds_toArray, List.set_cons_zero, List.set_cons_succ]
      refine till_tail (i := 10) (by decide +kernel) (by decide) rfl (fun KK hK => ?_)
      have hfz : wa6.frozen? ⟨M + 1, 1, none⟩ = false := (H3.out.2.1.below (by rw [HB3.out]; exact HZ7.out.1)).frozen 1
      obtain ⟨k0, k1⟩ := HC3.out _ (HZ7.out.1)
      go_simp
      obtain ⟨wb9, hwb9⟩ : ∃ q, q = wa6.setCell ⟨M + 1, 1, none⟩ (.slice xva8 nva8 cva8) := ⟨_, rfl⟩
      have HZ10 : Hid (Bx wb9 (M + 1) 25 [.int .u16 (sn2 : Nat), (.slice xva8 nva8 cva8), .int .i64 nd2, .int .i64 ct2, .bool own2, .slice ra2 rl2 rc2] ∧ OwB wb9 B3 (.slice xva8 nva8 cva8) (S3.take 64 ++ S.take 64) ∧ Bx wb9 M 25 D1 ∧ Bx wb9 tg 9 (tcs T K) ∧ Below M w wb9) := by
        have hb : Below w3.heap.size w3 wa6 := by rw [HB3.out]; exact HZ7.out.1
        have hg := set_gb wa6 (M + 1) 1 (.slice xva8 nva8 cva8)
        have x2 := (H3.out.2.1.below hb).set 1 (.slice xva8 nva8 cva8)
        rw [← HE1.out] at x2
        rw [hwb9]
        exact ⟨x2, OwB.keep (HZ7.out.2) hg HLT3.out.1, (H3.out.1.below hb).keep (hg.block M (H3.out.1.below hb).lt (fun e => by injection e with e; omega)), (H3.out.2.2.1.below hb).keep (hg.block tg (H3.out.2.2.1.below hb).lt (fun e => HNE.out (by injection e))), (H3.out.2.2.2.trans (hb.mono (by rw [HB3.out]; have := HLT3.out; omega))).trans (below_gb hg (by have := hb.size; rw [HB3.out] at this; have := HLT3.out; omega) (by omega))⟩
      first | (rw [← hwb9]) | skip
      clear hwb9 hfz k0 k1
      refine hK.out _ _ ?_
      clear hK KK
      try simp only [List.setIfInBounds_toArray, List.set_cons_zero, List.set_cons_succ]
      refine till_done (by decide +kernel) ?_ _
      refine NoPanic.normal ?_
      go_wp2_with fail
      go_meet
      exact ⟨rfl, (.slice xva8 nva8 cva8), HZ10⟩
    · skip
      go_simp
      refine (HA4.out _).mono ?_
      rintro e wn ⟨rfl, hw⟩
      obtain rfl := hw.symm
      clear hw
      go_wp2_with fail
      refine hK.out _ _ (hS0) (fun inv' => ?_)
      clear hK KK inv; have inv := inv'; clear inv'
      try simp only [List.setIfInBounds_toArray, List.set_cons_zero, List.set_cons_succ]
      refine till_ready (rs := [0]) (by decide +kernel) (by simp) ?_
      refine AllTill.cons (i := 0) inv rfl (by decide +kernel) (by decide) (fun KK hK => ?_) AllTill.nil
      go_simp
      obtain ⟨wz11, hwz11⟩ : ∃ q, q = w3.drew.alloc (.cells #[] 5) := ⟨_, rfl⟩
      have HZ12 : Hid (Below B3 w3 wz11 ∧ OwB wz11 B3 (.slice (some ⟨w3.drew.heap.size, 0, none⟩) 0 0) []) := by
        rw [hwz11]
        exact ⟨Below.alloc (hS0) (by rw [← HB3.out]; exact (show Below B3 w3 w3.drew from hS0).size) _, OwB.none w3.drew B3 (by rw [← HB3.out]; exact (show Below B3 w3 w3.drew from hS0).size)⟩
      first | (rw [← hwz11]) | (rw [show (w3.alloc (.cells #[] 5)).drew = wz11 from hwz11.symm])
      clear hwz11
      refine hK.out _ _ (HZ12.out.1) (fun inv' => ?_)
      clear hK KK inv; have inv := inv'; clear inv'
      try simp only [List.setIfInBounds_toArray, List.set_cons_zero, List.set_cons_succ]
      refine till_ready (rs := [4]) (by decide +kernel) (by simp) ?_
      refine AllTill.cons (i := 4) inv rfl (by decide +kernel) (by decide) (fun KK hK => ?_) AllTill.nil
      refine step_app_ob rfl (.tmp 27) (.tmp 30) rfl B3 _ rfl ([]) (HZ12.out.2) _ rfl (S3.take 64) (HV4.out _ (HZ12.out.1)) (by simp [List.length_take]; omega) ?_
      intro va15 wa13 ho hb
      try rw [List.nil_append] at ho
      obtain ⟨xva15, nva15, cva15, lva15, rfl⟩ := ho.form2
      have HZ14 : Hid (Below B3 w3 wa13 ∧ OwB wa13 B3 (.slice xva15 nva15 cva15) (S3.take 64)) := ⟨(show Below B3 w3 wz11 from HZ12.out.1).trans hb, ho⟩
      clear ho hb
      refine hK.out _ _ (HZ14.out.1) (fun inv' => ?_)
      clear hK KK inv; have inv := inv'; clear inv'
      try simp only [List.setIfInBounds_toArray, List.set_cons_zero, List.set_cons_succ]
      refine till_ready (rs := [7]) (by decide +kernel) (by simp) ?_
      refine AllTill.cons (i := 7) inv rfl (by decide +kernel) (by decide) (fun KK hK => ?_) AllTill.nil
      go_simp
      refine (HA7.out _).mono ?_
      rintro e wn ⟨rfl, hw⟩
      obtain rfl := hw.symm
      clear hw
      go_wp2_with fail
      refine hK.out _ _ (HZ14.out.1) (fun inv' => ?_)
      clear hK KK inv; have inv := inv'; clear inv'
      try simp only [List.setIfInBounds_toArray, List.set_cons_zero, List.set_cons_succ]
      refine till_ready (rs := [8]) (by decide +kernel) (by simp) ?_
      refine AllTill.cons (i := 8) inv rfl (by decide +kernel) (by decide) (fun KK hK => ?_) AllTill.nil
      refine step_app_ob rfl (.tmp 31) (.tmp 34) rfl B3 _ rfl (S3.take 64) (HZ14.out.2) _ rfl (S.take 64) (HV7.out _ (HZ14.out.1)) (by simp [List.length_take]; omega) ?_
      intro va18 wa16 ho hb
      try rw [List.nil_append] at ho
      obtain ⟨xva18, nva18, cva18, lva18, rfl⟩ := ho.form2
      have HZ17 : Hid (Below B3 w3 wa16 ∧ OwB wa16 B3 (.slice xva18 nva18 cva18) (S3.take 64 ++ S.take 64)) := ⟨(show Below B3 w3 wa13 from HZ14.out.1).trans hb, ho⟩
      clear ho hb
      refine hK.out _ _ (HZ17.out.1) (fun inv' => ?_)
      clear hK KK inv; have inv := inv'; clear inv'
      try simp only [List.setIfInBounds_toArray, List.set_cons_zero, List.set_cons_succ]
      refine till_at 9 36 (.pointer (some ⟨M + 1, 1, none⟩)) inv rfl rfl (by decide) (by decide +kernel) (by decide +kernel) (fun _ _ _ h => h) (HZ17.out.1) (Or.inl ⟨by rfl, fun w' hS' => by obtain ⟨k0, k1⟩ := HC3.out _ hS'; go_simp⟩) (fun inv' => ?_)
      clear inv; have inv := inv'; clear inv'
      try simp only [List.setIfInBounds_toArray, List.set_cons_zero, List.set_cons_succ]
      refine till_tail (i := 10) (by decide +kernel) (by decide) rfl (fun KK hK => ?_)
      have hfz : wa16.frozen? ⟨M + 1, 1, none⟩ = false := (H3.out.2.1.below (by rw [HB3.out]; exact HZ17.out.1)).frozen 1
      obtain ⟨k0, k1⟩ := HC3.out _ (HZ17.out.1)
      go_simp
      obtain ⟨wb19, hwb19⟩ : ∃ q, q = wa16.setCell ⟨M + 1, 1, none⟩ (.slice xva18 nva18 cva18) := ⟨_, rfl⟩
      have HZ20 : Hid (Bx wb19 (M + 1) 25 [.int .u16 (sn2 : Nat), (.slice xva18 nva18 cva18), .int .i64 nd2, .int .i64 ct2, .bool own2, .slice ra2 rl2 rc2] ∧ OwB wb19 B3 (.slice xva18 nva18 cva18) (S3.take 64 ++ S.take 64) ∧ Bx wb19 M 25 D1 ∧ Bx wb19 tg 9 (tcs T K) ∧ Below M w wb19) := by
        have hb : Below w3.heap.size w3 wa16 := by rw [HB3.out]; exact HZ17.out.1
        have hg := set_gb wa16 (M + 1) 1 (.slice xva18 nva18 cva18)
        have x2 := (H3.out.2.1.below hb).set 1 (.slice xva18 nva18 cva18)
        rw [← HE1.out] at x2
        rw [hwb19]
        exact ⟨x2, OwB.keep (HZ17.out.2) hg HLT3.out.1, (H3.out.1.below hb).keep (hg.block M (H3.out.1.below hb).lt (fun e => by injection e with e; omega)), (H3.out.2.2.1.below hb).keep (hg.block tg (H3.out.2.2.1.below hb).lt (fun e => HNE.out (by injection e))), (H3.out.2.2.2.trans (hb.mono (by rw [HB3.out]; have := HLT3.out; omega))).trans (below_gb hg (by have := hb.size; rw [HB3.out] at this; have := HLT3.out; omega) (by omega))⟩
      first | (rw [← hwb19]) | skip
      clear hwb19 hfz k0 k1
      refine hK.out _ _ ?_
      clear hK KK
      try simp only [List.setIfInBounds_toArray, List.set_cons_zero, List.set_cons_succ]
      refine till_done (by decide +kernel) ?_ _
      refine NoPanic.normal ?_
      go_wp2_with fail
      go_meet
      exact ⟨rfl, (.slice xva18 nva18 cva18), HZ20⟩
  case rest =>
  obtain ⟨rfl, vn, HR⟩ := hcut
  obtain ⟨xn, nn, cn, hnn, rfl⟩ := HR.out.2.1.form2
  obtain ⟨Z, HZZ⟩ : ∃ z : List F, Hid (S3.take 64 ++ S.take 64 = z) := ⟨_, rfl⟩
  rw [HZZ.out] at HR hnn
  have HZ7 : Hid (nn = Z.length ∧ n7 ≤ Z.length ∧ Z.length ≤ 128 ∧ n7 ≤ 64) := by
    refine ⟨hnn.out, ?_, ?_, ?_⟩
    · rw [← HZZ.out, List.length_append, HN7.out]; omega
    · rw [← HZZ.out, List.length_append]; simp only [List.length_take]; omega
    · rw [HN7.out, List.length_take]; omega
  have kk : wc.cell? ⟨M, 1, none⟩ = some sv := by
    have x1 := HR.out.2.2.1
    rw [← HD1.out] at x1
    exact x1.cell 1 _ rfl
  go_upto_if 41 with (first
    | (go_at_call 14; refine (HA7.out _).mono ?_; rintro e wn ⟨rfl, hw⟩; obtain rfl := hw.symm; clear hw)
    | fail)
  go_cut [36] from 41 to 49 (fun cz wx => cz = .pointer (some ⟨M + 1, 1, none⟩) ∧ ∃ xa xl xc Zx, Hid (Bx wx (M + 1) 25 [.int .u16 (sn2 : Nat), .slice xa xl xc, .int .i64 nd2, .int .i64 ct2, .bool own2, .slice ra2 rl2 rc2] ∧ Vf wx (.slice xa xl xc) Zx ∧ Bx wx M 25 D1 ∧ Bx wx tg 9 (tcs T K) ∧ Below M w wx))
  case first =>
    by_cases h0 : n7 = 0
    · subst h0
      go_wp2
      go_meet
      exact ⟨rfl, _, _, _, Z, HR.out.1, HR.out.2.1.vf, HR.out.2.2⟩
    · obtain ⟨gb, rfl⟩ : ∃ gb, xn = some ⟨gb, 0, none⟩ := by
        obtain ⟨k, _, _, h3⟩ := HR.out.2.1
        rcases h3.2 with ⟨e, e0⟩ | ⟨gb, cap, cur, e, _⟩
        · exact absurd e0 (by have := HZ7.out; omega)
        · injection e with e _ _
          exact ⟨gb, e⟩
      obtain ⟨pa, pc, hpe, hp1, hp2, hp3, hp4⟩ := HR.out.2.1.vf.parts
      have HCP : Hid (nn ≤ cn ∧ cn ≤ maxLen) := by
        injection hpe with e1 e2 e3
        rw [e2, e3]
        exact ⟨hp1, hp2⟩
      clear hpe hp1 hp2 hp3 hp4 pa pc
      have g1 : (0 : Int) < (n7 : Int) := by omega
      have g2 : (n7 : Int) ≤ (cn : Int) := by have := HZ7.out; have := HCP.out; omega
      have g3 : (0 : Int) ≤ (n7 : Int) := by omega
      have HN0 : Hid (0 < n7) := by show _ < _; omega
      clear h0
      go_upto_region 4 with fail
      have HCR : Hid (∀ u, Below wc.heap.size wc u → u.cell? ⟨M + 1, 1, none⟩ = some (.slice (some ⟨gb, 0, none⟩) nn cn) ∧ u.cell? ⟨M, 1, none⟩ = some sv ∧ u.frozen? ⟨M + 1, 1, none⟩ = false) := fun u hu => by
        have x1 := HR.out.2.2.1.below hu
        rw [← HD1.out] at x1
        exact ⟨(HR.out.1.below hu).cell 1 _ rfl, x1.cell 1 _ rfl, (HR.out.1.below hu).frozen 1⟩
      have hS1 : Below wc.heap.size wc wc.drew := (Below.refl _ _).drew
      refine wp_region_noPanic ?_
      refine wp_region_till (fun u => Below wc.heap.size wc u) 8 (by kernel_rfl) (by decide) (by decide +kernel) (by decide +kernel) (by decide +kernel) (fun inv => ?_)
      refine till_at 0 42 (.pointer (some ⟨M + 1, 1, none⟩)) inv rfl rfl (by decide) (by decide +kernel) (by decide +kernel) (fun _ _ _ h => h) (hS1) (Or.inl ⟨by rfl, fun w' hS' => by obtain ⟨k0, k1, k2⟩ := HCR.out _ hS'; go_simp⟩) (fun inv' => ?_)
      clear inv; have inv := inv'; clear inv'
      try simp only [List.setIfInBounds_toArray, List.set_cons_zero, List.set_cons_succ]
      refine till_at 1 43 (.slice (some ⟨gb, 0, none⟩) nn cn) inv rfl rfl (by decide) (by decide +kernel) (by decide +kernel) (fun _ _ _ h => h) (hS1) (Or.inl ⟨by rfl, fun w' hS' => by obtain ⟨k0, k1, k2⟩ := HCR.out _ hS'; go_simp⟩) (fun inv' => ?_)
      clear inv; have inv := inv'; clear inv'
      try simp only [List.setIfInBounds_toArray, List.set_cons_zero, List.set_cons_succ]
      refine till_at 2 44 (.pointer (some ⟨M, 1, none⟩)) inv rfl rfl (by decide) (by decide +kernel) (by decide +kernel) (fun _ _ _ h => h) (hS1) (Or.inl ⟨by rfl, fun w' hS' => by obtain ⟨k0, k1, k2⟩ := HCR.out _ hS'; go_simp⟩) (fun inv' => ?_)
      clear inv; have inv := inv'; clear inv'
      try simp only [List.setIfInBounds_toArray, List.set_cons_zero, List.set_cons_succ]
      refine till_at 3 45 (sv) inv rfl rfl (by decide) (by decide +kernel) (by decide +kernel) (fun _ _ _ h => h) (hS1) (Or.inl ⟨by rfl, fun w' hS' => by obtain ⟨k0, k1, k2⟩ := HCR.out _ hS'; go_simp⟩) (fun inv' => ?_)
      clear inv; have inv := inv'; clear inv'
      try simp only [List.setIfInBounds_toArray, List.set_cons_zero, List.set_cons_succ]
      refine till_ready (rs := [4]) (by decide +kernel) (by simp) ?_
      refine AllTill.cons (i := 4) inv rfl (by decide +kernel) (by decide) (fun KK hK => ?_) AllTill.nil
      go_simp
      refine (HA7.out _).mono ?_
      rintro e wn ⟨rfl, hw⟩
      obtain rfl := hw.symm
      clear hw
      go_wp2_with fail
      refine hK.out _ _ (hS1) (fun inv' => ?_)
      clear hK KK inv; have inv := inv'; clear inv'
      try simp only [List.setIfInBounds_toArray, List.set_cons_zero, List.set_cons_succ]
      refine till_at 5 47 (.int .i64 (n7 : Nat)) inv rfl rfl (by decide) (by decide +kernel) (by decide +kernel) (fun _ _ _ h => h) (hS1) (Or.inl ⟨by rfl, fun w' hS' => by go_simp⟩) (fun inv' => ?_)
      clear inv; have inv := inv'; clear inv'
      try simp only [List.setIfInBounds_toArray, List.set_cons_zero, List.set_cons_succ]
      refine till_at 6 48 (.slice (some ⟨gb, 0, none⟩) n7 cn) inv rfl rfl (by decide) (by decide +kernel) (by decide +kernel) (fun _ _ _ h => h) (hS1) (Or.inl ⟨by rfl, fun w' hS' => by go_simp⟩) (fun inv' => ?_)
      clear inv; have inv := inv'; clear inv'
      try simp only [List.setIfInBounds_toArray, List.set_cons_zero, List.set_cons_succ]
      refine till_at 7 49 (.pointer (some ⟨M + 1, 1, none⟩)) inv rfl rfl (by decide) (by decide +kernel) (by decide +kernel) (fun _ _ _ h => h) (hS1) (Or.inl ⟨by rfl, fun w' hS' => by go_simp⟩) (fun inv' => ?_)
      clear inv; have inv := inv'; clear inv'
      try simp only [List.setIfInBounds_toArray, List.set_cons_zero, List.set_cons_succ]
      refine till_tail (i := 8) (by decide +kernel) (by decide) rfl (fun KK hK => ?_)
      obtain ⟨k0, k1, k2⟩ := HCR.out _ hS1
      go_simp
      obtain ⟨wb, hwb⟩ : ∃ q, q = wc.drew.setCell ⟨M + 1, 1, none⟩ (.slice (some ⟨gb, 0, none⟩) n7 cn) := ⟨_, rfl⟩
      have HQ : Hid (Bx wb (M + 1) 25 [.int .u16 (sn2 : Nat), .slice (some ⟨gb, 0, none⟩) n7 cn, .int .i64 nd2, .int .i64 ct2, .bool own2, .slice ra2 rl2 rc2] ∧ Vf wb (.slice (some ⟨gb, 0, none⟩) n7 cn) (Z.take n7) ∧ Bx wb M 25 D1 ∧ Bx wb tg 9 (tcs T K) ∧ Below M w wb) := by
        have hg := set_gb wc.drew (M + 1) 1 (.slice (some ⟨gb, 0, none⟩) n7 cn)
        have x2 := (HR.out.1.below hS1).set 1 (.slice (some ⟨gb, 0, none⟩) n7 cn)
        have hvz : Vf wb (.slice (some ⟨gb, 0, none⟩) nn cn) Z := by
          rw [hwb]
          exact ((HR.out.2.1.below hS1).keep hg HLT3.out.1).vf
        have hvx : Vf wb (.slice (some ⟨gb, 0, none⟩) n7 cn) (Z.take n7) := by
          obtain ⟨pa, pc, hpe, hp1, hp2, hp3, hp4⟩ := hvz.parts
          injection hpe with e1 e2 e3
          have hz := HZ7.out
          refine vf_mk (by rw [List.length_take]; omega) (by have := HCP.out; omega) HCP.out.2 (fun e => by cases e) (.inr ⟨gb, 0, rfl, ?_⟩)
          rcases hp4 with hp4 | ⟨b, off, e, hrw⟩
          · rw [hp4] at hz
            have := HN0.out
            simp at hz
            omega
          · rw [← e1] at e
            injection e with e
            injection e with e5 e6
            rw [e5, e6]
            exact rw_take hrw n7
        rw [hwb] at hvx ⊢
        exact ⟨x2, hvx, (HR.out.2.2.1.below hS1).keep (hg.block M (HR.out.2.2.1.below hS1).lt (fun e => by injection e with e; omega)), (HR.out.2.2.2.1.below hS1).keep (hg.block tg (HR.out.2.2.2.1.below hS1).lt (fun e => HNE.out (by injection e))), HR.out.2.2.2.2.drew.trans (below_gb hg (Nat.le_trans (by rw [← HMM.out]; exact Nat.le_refl _) HR.out.2.2.2.2.drew.size) (by omega))⟩
      first | (rw [← hwb]) | (rw [show (wc.setCell ⟨M + 1, 1, none⟩ (.slice (some ⟨gb, 0, none⟩) n7 cn)).drew = wb from hwb.symm])
      clear hwb k0 k1 k2
      refine hK.out _ _ ?_
      clear hK KK
      try simp only [List.setIfInBounds_toArray, List.set_cons_zero, List.set_cons_succ]
      refine till_done (by decide +kernel) ?_ _
      refine NoPanic.normal ?_
      go_wp2_with fail
      go_meet
      exact ⟨rfl, _, _, _, _, HQ⟩
  case rest =>
  obtain ⟨rfl, xa, xl, xc, Zx, HX⟩ := hcut
  clear HR HN7 HA7 HA4 HV4 HV7 HC3 kk HLT3 HZ7 HZZ hnn
  obtain ⟨E3, HE3⟩ : ∃ z : List Value, Hid ([.int .u16 (sn2 : Nat), .slice xa xl xc, .int .i64 nd2, .int .i64 ct2, .bool own2, .slice ra2 rl2 rc2] = z) := ⟨_, rfl⟩
  have hi3 : (Tryd.prog.info? 25).map (·.size) = some E3.length := by rw [← HE3.out]; kernel_rfl
  obtain ⟨S4, HS4⟩ : ∃ z : List F, Hid (sec5 Zx = z) := ⟨_, rfl⟩
  have HSL4 : Hid (1 ≤ S4.length ∧ S4.length ≤ 64) := by rw [← HS4.out]; exact sec5_len Zx
  obtain ⟨N2, HN2⟩ : ∃ z, Hid (nd5 nd2 = z) := ⟨_, rfl⟩
  obtain ⟨K2, HK2⟩ : ∃ z, Hid (ct5 nd2 ct2 = z) := ⟨_, rfl⟩
  have HNK2 : Hid (1 ≤ N2 ∧ N2 ≤ 16 ∧ N2 ≤ K2 ∧ K2 ≤ 24) := by rw [← HN2.out, ← HK2.out]; exact ⟨(nd5_le nd2).1, (nd5_le nd2).2, (ct5_le nd2 ct2).1, (ct5_le nd2 ct2).2⟩
  obtain ⟨R2, HRR2⟩ : ∃ z : List F, Hid (rnd5 false Rd2 (N2 : Nat) (S4.length : Nat) = z) := ⟨_, rfl⟩
  obtain ⟨T2, HTT2⟩ : ∃ z, Hid (dealT sn2 S4 R2 N2 = z) := ⟨_, rfl⟩
  have H8b : Hid (Calls Tryd.prog 8 #[.agg E3.toArray] wc fun e w' => Hid (∃ g2 c2 tg2, e = .returned (.tuple #[.agg #[.int .u16 (sn2 : Nat), .slice (some ⟨g2, 0, none⟩) S4.length c2, .int .i64 (N2 : Nat), .int .i64 (K2 : Nat), .bool false, .slice ra2 rl2 rc2], .slice (some ⟨tg2, 0, none⟩) K2 K2, .bool true]) ∧ wc.heap.size ≤ tg2 ∧ Bx w' tg2 9 (tcs T2 K2) ∧ Below wc.heap.size wc w')) := by
    have z := dealt_ok sn2 hsn2 nd2 ct2 own2 (.slice xa xl xc) ra2 rl2 rc2 Zx Rd2 wc (HTB.out wc HX.out.2.2.2.2) HX.out.2.1 (HRV2.out wc HX.out.2.2.2.2)
    rw [HS4.out, HN2.out, HK2.out, HRR2.out, HTT2.out] at z
    rw [← HE3.out]
    refine z.mono fun e w' hh => ?_
    obtain ⟨g2, c2, tg2, he, q1, q2, q3, q4, q5, q6, q7⟩ := hh.out
    exact ⟨g2, c2, tg2, he, q5, q6, q7⟩
  rw [HE3.out] at HX
  have HRG := HX.out.1.range
  go_upto_region 6 with (first
    | (refine wpList_load_mid (by rfl) 25 (.tmp 5) (by rfl) (M + 1) 0 (by rfl) E3 _ HRG Tryd.underlying25 rfl hi3 ?_)
    | (go_at_call 8; refine H8b.out.mono ?_; intro e4 w4 hh; obtain ⟨g2, c2, tg2, rfl, q1, q2, q3⟩ := hh.out; have H4 : Hid (Bx w4 tg2 9 (tcs T2 K2) ∧ Bx w4 tg 9 (tcs T K) ∧ Below M w w4) := ⟨q2, HX.out.2.2.2.1.below q3, HX.out.2.2.2.2.trans (q3.mono (by rw [← HMM.out]; exact HX.out.2.2.2.2.size))⟩; clear hh q1 q2 q3)
    | (refine wpList_store_bx (by rfl) 25 (.tmp 12) (.tmp 53) (by rfl) Z25 [.int .u16 (sn2 : Nat), .slice (some ⟨g2, 0, none⟩) S4.length c2, .int .i64 (N2 : Nat), .int .i64 (K2 : Nat), .bool false, .slice ra2 rl2 rc2] w4.heap.size (by rfl) (by rfl) (Bx.new w4 25 Z25) (by rfl) (by kernel_rfl) (by intro v hv; simp at hv; rcases hv with rfl | rfl | rfl | rfl | rfl | rfl <;> rfl) ?_; intro w5 h7 h8; have H5 : Hid (Bx w5 tg2 9 (tcs T2 K2) ∧ Bx w5 tg 9 (tcs T K) ∧ Below M w w5) := (by
        have hb : Below w4.heap.size w4 w5 := ((Below.refl _ _).alloc (Nat.le_refl _) _).trans (below_gb h8 (by simp) (Nat.le_refl _))
        exact ⟨H4.out.1.below hb, H4.out.2.1.below hb, H4.out.2.2.trans (hb.mono (by rw [← HMM.out]; exact H4.out.2.2.size))⟩); clear h7 h8)
    | fail)
  clear HRG H8b HX H4
  go_upto_region 8 with (first
    | (go_at_call 9; refine (H9.out _ H5.out.2.2).mono ?_; intro e6 w6 hh; obtain ⟨rfl, h4⟩ := hh.out; have H6 : Hid (Bx w6 tg2 9 (tcs T2 K2) ∧ Bx w6 tg 9 (tcs T K) ∧ Below M w w6) := ⟨H5.out.1.below h4, H5.out.2.1.below h4, H5.out.2.2.trans (h4.mono (by rw [← HMM.out]; exact H5.out.2.2.size))⟩; clear hh h4)
    | fail)
  clear H5
  obtain ⟨A, HA⟩ : ∃ z, Hid (idxW ia K = z) := ⟨_, rfl⟩
  obtain ⟨C, HC⟩ : ∃ z, Hid (idxW ka K2 = z) := ⟨_, rfl⟩
  have HAC : Hid (((IntKind.u64.wrap ia).tmod (K : Nat) = (A : Nat) ∧ A < K) ∧ (IntKind.u64.wrap ka).tmod (K2 : Nat) = (C : Nat) ∧ C < K2) := by
    rw [← HA.out, ← HC.out]
    exact ⟨idxW_tmod ia K (by have := HNK.out; omega), idxW_tmod ka K2 (by have := HNK2.out; omega)⟩
  have row : ∀ (sn N K A : Nat) (S2 R : List F), 1 ≤ S2.length ∧ S2.length ≤ 64 → 1 ≤ N ∧ N ≤ 16 ∧ N ≤ K ∧ K ≤ 24 → A < K → ∃ X : List F, (2 ≤ X.length ∧ X.length ≤ 78 ∧ X.length % 2 = 0) ∧ sumL X = [0, 0, 0, 0] ∧ WLs X = dealT sn S2 R N A := fun sn N K A S2 R h1 h2 h3 => by
    have hok := shD_ok sn S2 R N h1.1 h1.2 h2.1 h2.2.1
    have hs := okF_size (Shg.okR hok (fN (A + 1)) (by rw [fN_val _ (by omega)]; omega))
    exact ⟨(shD sn S2 R N).at' (fN (A + 1)), ⟨by omega, hs.2.1, hs.2.2⟩, Shg.zero _ _, (dealT_at sn S2 R N A h2.2.1).symm⟩
  obtain ⟨X, hX1, hX2, hX3⟩ := row sn N K A S2 R HSL.out HNK.out HAC.out.1.2
  obtain ⟨Y, hY1, hY2, hY3⟩ := row sn2 N2 K2 C S4 R2 HSL4.out HNK2.out HAC.out.2.2
  rw [HTT.out] at hX3
  rw [HTT2.out] at hY3
  obtain ⟨nx, HNX⟩ : ∃ z, Hid (X.length = z) := ⟨_, rfl⟩
  obtain ⟨ny, HNY⟩ : ∃ z, Hid (Y.length = z) := ⟨_, rfl⟩
  have HXY : Hid (sumL X = [0, 0, 0, 0] ∧ sumL Y = [0, 0, 0, 0] ∧ nx ≤ 78) := ⟨hX2, hY2, by rw [← HNX.out]; exact hX1.2.1⟩
  have HBX : Hid (∀ u, Calls Tryd.prog 15 #[.string (T A)] u fun e w' => BytQ X u.heap.size e u w') := fun u => bytes_ok X (T A) hX1 hX3 u
  have HBY : Hid (∀ u, Calls Tryd.prog 15 #[.string (T2 C)] u fun e w' => BytQ Y u.heap.size e u w') := fun u => bytes_ok Y (T2 C) hY1 hY3 u
  clear row hX1 hX2 hX3 hY1 hY2 hY3
  have e1 : IntKind.u64.wrap ((K : Nat) : Int) = (K : Nat) := u64_nat K (by have := HNK.out; omega)
  have e2 := HAC.out.1.1
  have e3 : IntKind.i64.wrap ((A : Nat) : Int) = (A : Nat) := by rw [IntKind.wrap_i64]; have := HAC.out; have := HNK.out; omega
  have HKZ : ¬ ((K : Nat) : Int) = 0 := by have := HNK.out; omega
  have g3 : (0 : Int) ≤ (A : Int) := by omega
  have g4 : (A : Int) < (K : Int) := by have := HAC.out; omega
  have cj : w6.cell? ⟨tg, A, none⟩ = some (.string (T A)) := H6.out.2.1.cell A _ (tcs_at T K A HAC.out.1.2)
  go_upto_region 9 with (first
    | (go_at_call 15; refine (HBX.out _).mono ?_; intro e7 w7 hh; obtain ⟨gx, cx, rfl, q1, q2, q3, q4, q5⟩ := hh; have H7 : Hid (Rx w7 gx X ∧ Bx w7 tg2 9 (tcs T2 K2) ∧ Below M w w7 ∧ nx ≤ cx) := ⟨q4, H6.out.1.below q5, H6.out.2.2.trans (q5.mono (by rw [← HMM.out]; exact H6.out.2.2.size)), by rw [← HNX.out]; exact q1⟩; clear q1 q2 q3 q4 q5; rw [HNX.out])
    | fail)
  clear e1 e2 e3 HKZ g3 g4 cj H6 HBX
  have e1 : IntKind.u64.wrap ((K2 : Nat) : Int) = (K2 : Nat) := u64_nat K2 (by have := HNK2.out; omega)
  have e2 := HAC.out.2.1
  have e3 : IntKind.i64.wrap ((C : Nat) : Int) = (C : Nat) := by rw [IntKind.wrap_i64]; have := HAC.out; have := HNK2.out; omega
  have HKZ : ¬ ((K2 : Nat) : Int) = 0 := by have := HNK2.out; omega
  have g3 : (0 : Int) ≤ (C : Int) := by omega
  have g4 : (C : Int) < (K2 : Int) := by have := HAC.out; omega
  have cj : w7.cell? ⟨tg2, C, none⟩ = some (.string (T2 C)) := H7.out.2.1.cell C _ (tcs_at T2 K2 C HAC.out.2.2)
  go_upto_region 10 with (first
    | (go_at_call 15; refine (HBY.out _).mono ?_; intro e8 w8 hh; obtain ⟨gy, cy, rfl, q1, q2, q3, q4, q5⟩ := hh; have H8 : Hid (Rx w8 gx X ∧ Rx w8 gy Y ∧ Below M w w8) := ⟨H7.out.1.below q5, q4, H7.out.2.2.1.trans (q5.mono (by rw [← HMM.out]; exact H7.out.2.2.1.size))⟩; clear q1 q2 q3 q4 q5; rw [HNY.out])
    | fail)
  clear e1 e2 e3 HKZ g3 g4 cj H7 HBY
  by_cases hne : nx = ny
  · subst hne
    go_upto_region 14 with fail
    go_loopw [19, 20] (fun vd vj wr => ∃ j d : Nat, j ≤ nx ∧ vd = .int .i64 (d : Nat) ∧ vj = .int .i64 (j : Nat) ∧ Hid (d = dif X Y j) ∧ ∃ q, Hid (wr = w8.drewN q)) (fun _ vj _ => nx - (intOf vj).toNat)
    case atStart => exact ⟨0, 0, Nat.zero_le _, rfl, rfl, rfl, 0, rfl⟩
    case round =>
      obtain ⟨j, d, hj, rfl, rfl, hd, q, hq⟩ := hrel
      obtain rfl := hq.out.symm
      by_cases hlt : j < nx
      · have HJ : Hid (j < nx) := hlt
        have g1 : (j : Int) < (nx : Int) := by omega
        have g0 : (0 : Int) ≤ (j : Int) := by omega
        have ej : IntKind.i64.wrap ((j : Int) + 1) = ((j + 1 : Nat) : Int) := by rw [IntKind.wrap_i64]; have := HXY.out; omega
        have HDL : Hid (d ≤ 78) := by show _ ≤ _; rw [hd.out]; have := dif_le X Y j; have := HXY.out; omega
        have ed : IntKind.i64.wrap ((d : Int) + 1) = ((d + 1 : Nat) : Int) := by rw [IntKind.wrap_i64]; have := HDL.out; omega
        have c1 : w8.cell? ⟨gx, j, none⟩ = some (.int .u8 ((X.getD j 0).1 : Nat)) := H8.out.1.cell j (by rw [HNX.out]; exact hlt)
        have c2 : w8.cell? ⟨gy, j, none⟩ = some (.int .u8 ((Y.getD j 0).1 : Nat)) := H8.out.2.1.cell j (by rw [HNY.out]; exact hlt)
        have HDS : Hid (dif X Y (j + 1) = if X.getD j 0 = Y.getD j 0 then dif X Y j else dif X Y j + 1) := rfl
        by_cases hxy : X.getD j 0 = Y.getD j 0
        · have HDN : Hid (d = dif X Y (j + 1)) := by show _ = _; rw [HDS.out, if_pos hxy]; exact hd.out
          rw [hxy] at c1
          generalize ((Y.getD j 0).1 : Nat) = y at c1 c2
          clear hxy hlt hj ed
          go_wp2
          go_quiet (fail)
          go_wp2
          go_roundw
          case rel => exact ⟨j + 1, d, HJ.out, rfl, by go_num, HDN.out, _, rfl⟩
          case measure => simp [intOf]; have := HJ.out; omega
        · have HDN : Hid (d + 1 = dif X Y (j + 1)) := by show _ = _; rw [HDS.out, if_neg hxy, ← hd.out]
          have hny : ¬ (((X.getD j 0).1 : Nat) : Int) = (((Y.getD j 0).1 : Nat) : Int) := fun e => hxy (Fin.ext (by omega))
          generalize ((Y.getD j 0).1 : Nat) = y at c2 hny
          generalize ((X.getD j 0).1 : Nat) = x at c1 hny
          clear hxy hlt hj
          go_wp2
          go_quiet (fail)
          go_wp2
          go_roundw
          case rel => exact ⟨j + 1, d + 1, HJ.out, by go_num, by go_num, HDN.out, _, rfl⟩
          case measure => simp [intOf]; have := HJ.out; omega
      · obtain rfl : j = nx := by omega
        have g1 : ¬ (j : Int) < (j : Int) := by omega
        have hf := dif_far X Y (by rw [HNX.out, HNY.out]) (by rw [HNX.out]; have := HXY.out; omega) HXY.out.1 HXY.out.2.1
        rw [HNX.out, ← hd.out] at hf
        clear hlt hj hd
        rcases hf with hf | hf
        · subst hf
          go_wp2
          go_ret
          exact ⟨rfl, below_drewN0 H8.out.2.2 q⟩
        · have g5 : ¬ (d : Int) = 0 := by omega
          have g6 : (5 : Int) ≤ (d : Int) := by omega
          clear hf
          go_wp2
          go_ret
          exact ⟨rfl, below_drewN0 H8.out.2.2 q⟩
  · have g1 : ¬ (nx : Int) = (ny : Int) := by omega
    clear hne
    go_wp2
    go_ret
    exact ⟨rfl, H8.out.2.2⟩
end Go.Proofs.YtjcdhfkilnbjgaaDoor
