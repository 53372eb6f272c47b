import Derived.Test.YtjcdhfkilnbjgaaDoorJui
import Derived.Test.YtjcdhfkilnbjgaaDoorPart13
import Derived.Test.YtjcdhfkilnbjgaaDoorJud
import Derived.Deep.Cut
namespace Go.Proofs.YtjcdhfkilnbjgaaDoor
open Go.RowKit
set_option linter.unusedVariables false
set_option linter.unusedSimpArgs false
set_option maxRecDepth 100000
theorem or_odd : ∀ x : Fin 256, x.1 ||| 1 < 256 ∧ x.1 ||| 1 ≠ 0 := by decide +kernel
theorem bx_unlike {w : World} {a b s u : Nat} {cs ds : List Value} (h : Bx w a s cs) (k : Bx w b u ds) (hne : s ≠ u) : a ≠ b := fun e => by
  subst e
  unfold Bx at h k
  rw [h] at k
  injection k with z
  injection z with _ z _
  exact hne z
theorem OwC.bx {w : World} {B n g c : Nat} {cs : List Value} (h : OwC w B (.slice (some ⟨g, 0, none⟩) n c) n cs) (h0 : 0 < n) : ∃ sp, Bx w g 9 (cs ++ sp) ∧ B ≤ g := by
  obtain ⟨k, h1, h2, h3⟩ := h
  rcases h3.2 with ⟨e, _⟩ | ⟨g', cap, cur, e, hB, hh, h4, h5, h6, h7⟩
  · cases e
  · injection e with e _ _
    injection e with e
    injection e with e _
    subst e
    refine ⟨cur.toList.drop n, ?_, Nat.le_trans h1 hB⟩
    unfold Bx
    rw [hh, ← h7, Nat.mul_one, List.take_append_drop]
theorem wpList_app_e {ops : Array Oper} {rest : List Oper} {o : Oper} {a : Act} {Q : Exit → Act → World → Prop} {w : World} (hgd : o.guard = none) (s x : Operand)
    (ho : o.op = .call { callee := .builtin .append, args := #[s, x], argTypes := #[26, 26] }) (B : Nat) (v : Value) (hs : a.eval s = v) (hv : OwC w B v 0 []) (b off m c : Nat) (ds : List Value) (hx : a.eval x = .slice (some ⟨b, off, none⟩) m c) (hm : ds.length = m) (h0 : 0 < m) (hds : ∀ j u, ds[j]? = some u → w.cell? ⟨b, off + j, none⟩ = some u) (hone : ∀ u ∈ ds, u.oneCell' = true) (hn : m ≤ 100000)
    (h : ∀ g cap w', OwC w' B (.slice (some ⟨g, 0, none⟩) m cap) m ds → Below B w w' → wpList Tryd.prog ops Q rest (a.put o.dst (.slice (some ⟨g, 0, none⟩) m cap)) w') : wpList Tryd.prog ops Q (o :: rest) a w :=
  wpList_app_oc hgd s x ho B v hs 0 [] hv b off m c ds hx hm h0 hds hone (by omega) fun g cap w' h1 h2 => by
    rw [Nat.zero_add, List.nil_append] at h1
    rw [Nat.zero_add]
    exact h g cap w' h1 h2
set_option maxHeartbeats 6400000 in
/-- The law Stray. -/
theorem stray_ok (sn : Nat) (hsn : Hid (sn < 65536)) (nd ct : Int) (own : Bool) (sv : Value) (ra : Option Addr) (rl rc : Nat) (S Rd : List F) (st : Nat) (hst : Hid (st < 65536)) (ia : Int) (by0 : Nat) (hby : Hid (by0 < 256)) (w : World) (hT : Hid (Tables w)) (h : Hid (Vf w sv S)) (hr : Hid (Vf w (.slice ra rl rc) Rd)) (hone : Hid (sv.oneCell' = true)) :
    Calls Tryd.prog 3 #[.agg #[.int .u16 (sn : Nat), sv, .int .i64 nd, .int .i64 ct, .bool own, .slice ra rl rc], .int .u16 (st : Nat), .int .i64 ia, .int .u8 (by0 : Nat)] w fun e w' => e = .returned (.bool true) ∧ Below w.heap.size w w' := by
  obtain ⟨M, HMM⟩ : ∃ M, Hid (w.heap.size = M) := ⟨_, rfl⟩
  obtain ⟨D1, HD1⟩ : ∃ z : List Value, Hid ([.int .u16 (sn : Nat), sv, .int .i64 nd, .int .i64 ct, .bool own, .slice ra rl rc] = z) := ⟨_, rfl⟩
  have hi1 : (Tryd.prog.info? 25).map (·.size) = some D1.length := by rw [← HD1.out]; kernel_rfl
  have HTB : Hid (∀ u, Below M w u → Tables u) := fun u hu => hT.out.below hu (by rw [← HMM.out]; exact hT.out.size)
  have HRV : Hid (∀ u, Below M w u → Vf u (.slice ra rl rc) Rd) := fun u hu => hr.out.below (by rw [HMM.out]; exact hu)
  obtain ⟨S2, HS2⟩ : ∃ z : List F, Hid (sec5 S = z) := ⟨_, rfl⟩
  have HSL : Hid (1 ≤ S2.length ∧ S2.length ≤ 64) := by rw [← HS2.out]; exact sec5_len S
  obtain ⟨N, HN⟩ : ∃ z, Hid (nd5 nd = z) := ⟨_, rfl⟩
  obtain ⟨K, HK⟩ : ∃ z, Hid (ct5 nd ct = z) := ⟨_, rfl⟩
  have HNK : Hid (1 ≤ N ∧ N ≤ 16 ∧ N ≤ K ∧ K ≤ 24) := by rw [← HN.out, ← HK.out]; exact ⟨(nd5_le nd).1, (nd5_le nd).2, (ct5_le nd ct).1, (ct5_le nd ct).2⟩
  obtain ⟨R, HRR⟩ : ∃ z : List F, Hid (rnd5 false Rd (N : Nat) (S2.length : Nat) = z) := ⟨_, rfl⟩
  obtain ⟨T, HTT⟩ : ∃ z, Hid (dealT sn S2 R N = z) := ⟨_, rfl⟩
  have HTG : Hid (∀ i, i < 255 → MGood (T i) ((shD sn S2 R N).at' (fN (i + 1))) 0) := by rw [← HTT.out]; exact deal_good_at sn S2 R N HSL.out.1 HSL.out.2 HNK.out.1 HNK.out.2.1
  have HZO : Hid ((shD sn S2 R N).ok) := shD_ok sn S2 R N HSL.out.1 HSL.out.2 HNK.out.1 HNK.out.2.1
  have HZN : Hid ((shD sn S2 R N).bn.1 = N) := fN_val _ (by have := HNK.out; omega)
  have H9 : Hid (∀ u, Below M w u → Calls Tryd.prog 9 #[] u fun e w' => Hid (e = .returned (.bool true) ∧ Below u.heap.size u w')) := fun u hu => live_ok u (HTB.out u hu)
  have H11 : Hid (∀ x u, Calls Tryd.prog 11 #[.int .i64 x] u fun e w' => e = .returned (.int .i64 x) ∧ w' = u) := fun x u => numE_ok x u
  obtain ⟨w1, hw1⟩ : ∃ u, u = w.alloc (.cells #[.int .u16 (sn : Nat), sv, .int .i64 nd, .int .i64 ct, .bool own, .slice ra rl rc] 25) := ⟨_, rfl⟩
  have H1 : Hid (Bx w1 M 25 D1 ∧ Below M w w1 ∧ M ≤ w1.heap.size) := by
    rw [← HD1.out, ← HMM.out, hw1]
    exact ⟨Bx.new w 25 _, (Below.refl _ _).alloc (Nat.le_refl _) _, by simp⟩
  have H8 : Hid (Calls Tryd.prog 8 #[.agg D1.toArray] w1 fun e w' => Hid (∃ g c tg, e = .returned (.tuple #[.agg #[.int .u16 (sn : Nat), .slice (some ⟨g, 0, none⟩) S2.length c, .int .i64 (N : Nat), .int .i64 (K : Nat), .bool false, .slice ra rl rc], .slice (some ⟨tg, 0, none⟩) K K, .bool true]) ∧ S2.length ≤ c ∧ c ≤ maxLen ∧ w1.heap.size ≤ g ∧ Rx w' g S2 ∧ w1.heap.size ≤ tg ∧ Bx w' tg 9 (tcs T K) ∧ Below w1.heap.size w1 w')) := by
    have z := dealt_ok sn hsn nd ct own sv ra rl rc S Rd w1 (HTB.out w1 H1.out.2.1) (h.out.below (by rw [HMM.out]; exact H1.out.2.1)) (HRV.out w1 H1.out.2.1)
    rw [HS2.out, HN.out, HK.out, HRR.out, HTT.out] at z
    rw [← HD1.out]
    exact z
  have HRG := H1.out.1.range
  rw [HMM.out]
  go_enter Tryd.func3, Tryd.ntmps3
  go_upto_region 1 with fail
  rw [← hw1, HMM.out]
  clear hw1
  go_upto_region 2 with (first
    | (refine wpList_load_mid (by rfl) 25 (.tmp 4) (by rfl) M 0 (by rfl) D1 _ HRG Tryd.underlying25 rfl hi1 ?_)
    | (go_at_call 8; refine H8.out.mono ?_; intro e2 w2 hh; obtain ⟨g, c, tg, rfl, q1, q2, q3, q4, q5, q6, q7⟩ := hh.out; have HCP : Hid (S2.length ≤ c ∧ c ≤ maxLen ∧ M ≤ g ∧ M < tg) := ⟨q1, q2, Nat.le_trans H1.out.2.2 q3, Nat.lt_of_lt_of_le H1.out.1.lt q5⟩; have H2 : Hid (Rx w2 g S2 ∧ Bx w2 tg 9 (tcs T K) ∧ Below M w w2 ∧ Bx w2 M 25 D1) := ⟨q4, q6, H1.out.2.1.trans (q7.mono H1.out.2.2), H1.out.1.below q7⟩; clear hh q1 q2 q3 q4 q5 q6 q7)
    | (refine wpList_store_bx (by rfl) 25 (.tmp 4) (.tmp 24) (by rfl) D1 [.int .u16 (sn : Nat), .slice (some ⟨g, 0, none⟩) S2.length c, .int .i64 (N : Nat), .int .i64 (K : Nat), .bool false, .slice ra rl rc] M (by rfl) (by rfl) H2.out.2.2.2 (by rw [← HD1.out]; rfl) (by kernel_rfl) (by intro v hv; simp at hv; rcases hv with rfl | rfl | rfl | rfl | rfl | rfl <;> rfl) ?_; intro w3 h7 h8; have H3 : Hid (Bx w3 M 25 [.int .u16 (sn : Nat), .slice (some ⟨g, 0, none⟩) S2.length c, .int .i64 (N : Nat), .int .i64 (K : Nat), .bool false, .slice ra rl rc] ∧ Rx w3 g S2 ∧ Bx w3 tg 9 (tcs T K) ∧ Below M w w3) := (by
        obtain ⟨⟨sp, x1⟩, x2, x3, x4⟩ := H2.out
        exact ⟨h7, ⟨sp, x1.keep (h8.block _ x1.lt (fun e => bx_unlike x1 x4 (by decide) (by injection e)))⟩, x2.keep (h8.block _ x2.lt (fun e => bx_unlike x2 x4 (by decide) (by injection e))), x3.trans (below_gb h8 (Nat.le_of_lt x4.lt) (Nat.le_refl _))⟩); clear h7 h8)
    | fail)
  clear HRG H8 H2
  obtain ⟨D2, HD2⟩ : ∃ z : List Value, Hid ([.int .u16 (sn : Nat), .slice (some ⟨g, 0, none⟩) S2.length c, .int .i64 (N : Nat), .int .i64 (K : Nat), .bool false, .slice ra rl rc] = z) := ⟨_, rfl⟩
  have HD26 : Hid (D2.length = 6 ∧ ∀ v ∈ D2, v.oneCell' = true) := by
    rw [← HD2.out]
    exact ⟨rfl, (by intro v hv; simp at hv; rcases hv with rfl | rfl | rfl | rfl | rfl | rfl <;> rfl)⟩
  have hi2 : (Tryd.prog.info? 25).map (·.size) = some D2.length := by rw [HD26.out.1]; kernel_rfl
  rw [HD2.out] at H3
  have HL9 : Hid (Calls Tryd.prog 9 #[] w3 fun e w' => Hid (e = .returned (.bool true) ∧ Below w3.heap.size w3 w')) := H9.out w3 H3.out.2.2.2
  go_upto_region 4 with (first
    | (go_at_call 9; refine HL9.out.mono ?_; intro e4 w4 hh; obtain ⟨rfl, h4⟩ := hh.out; have H4 : Hid (Bx w4 M 25 D2 ∧ Rx w4 g S2 ∧ Bx w4 tg 9 (tcs T K) ∧ Below M w w4) := ⟨H3.out.1.below h4, H3.out.2.1.below h4, H3.out.2.2.1.below h4, H3.out.2.2.2.trans (h4.mono (Nat.le_of_lt H3.out.1.lt))⟩; clear hh h4)
    | fail)
  clear HL9 H3
  obtain ⟨XB, HXB⟩ : ∃ z, Hid (w4.heap.size = z) := ⟨_, rfl⟩
  have HRG := H4.out.1.range
  go_upto_region 5 with (first
    | (refine wpList_load_mid (by rfl) 25 (.tmp 4) (by rfl) M 0 (by rfl) D2 _ HRG Tryd.underlying25 rfl hi2 ?_)
    | (refine wpList_store_bx (by rfl) 25 (.tmp 11) (.tmp 33) (by rfl) Z25 D2 w4.heap.size (by rfl) (by rfl) (Bx.new w4 25 Z25) (by rw [HD26.out.1]; rfl) hi2 HD26.out.2 ?_; intro w5 h7 h8; have H5 : Hid (Bx w5 XB 25 D2 ∧ Bx w5 M 25 D2 ∧ Rx w5 g S2 ∧ Bx w5 tg 9 (tcs T K) ∧ Below M w w5) := (by
        have hb : Below w4.heap.size w4 w5 := ((Below.refl _ _).alloc (Nat.le_refl _) _).trans (below_gb h8 (by simp) (Nat.le_refl _))
        exact ⟨by rw [← HXB.out]; exact h7, H4.out.1.below hb, H4.out.2.1.below hb, H4.out.2.2.1.below hb, H4.out.2.2.2.trans (hb.mono (Nat.le_of_lt H4.out.1.lt))⟩); clear h7 h8)
    | fail)
  have HLX : Hid (M < XB ∧ g < XB ∧ tg < XB) := by rw [← HXB.out]; exact ⟨H4.out.1.lt, H4.out.2.1.lt, H4.out.2.2.1.lt⟩
  rw [HXB.out]
  clear HRG H4 HXB
  obtain ⟨w6, hw6⟩ : ∃ u, u = w5.setCell ⟨XB, 0, none⟩ (.int .u16 (st : Nat)) := ⟨_, rfl⟩
  have H6 : Hid (Bx w6 XB 25 [.int .u16 (st : Nat), .slice (some ⟨g, 0, none⟩) S2.length c, .int .i64 (N : Nat), .int .i64 (K : Nat), .bool false, .slice ra rl rc] ∧ Bx w6 M 25 D2 ∧ Rx w6 g S2 ∧ Bx w6 tg 9 (tcs T K) ∧ Below M w w6) := by
    have hg := set_gb w5 XB 0 (.int .u16 (st : Nat))
    obtain ⟨x1, x2, ⟨sp, x3⟩, x4, x5⟩ := H5.out
    have hl := HLX.out
    have y1 := x1.set 0 (.int .u16 (st : Nat))
    rw [← HD2.out] at y1
    rw [hw6]
    exact ⟨y1, x2.keep (hg.block M x2.lt (fun e => by injection e with e; omega)), ⟨sp, x3.keep (hg.block g x3.lt (fun e => by injection e with e; omega))⟩, x4.keep (hg.block tg x4.lt (fun e => by injection e with e; omega)), x5.trans (below_gb hg (by rw [← HMM.out]; exact x5.size) (by omega))⟩
  have k0 : w5.cell? ⟨XB, 0, none⟩ = some (.int .u16 (sn : Nat)) := by
    have x1 := H5.out.1
    rw [← HD2.out] at x1
    exact x1.cell 0 _ rfl
  have f0 := H5.out.1.frozen 0
  go_upto_region 6 with fail
  rw [← hw6]
  clear hw6 k0 f0 H5
  obtain ⟨D3, HD3⟩ : ∃ z : List Value, Hid ([.int .u16 (st : Nat), .slice (some ⟨g, 0, none⟩) S2.length c, .int .i64 (N : Nat), .int .i64 (K : Nat), .bool false, .slice ra rl rc] = z) := ⟨_, rfl⟩
  have hi3 : (Tryd.prog.info? 25).map (·.size) = some D3.length := by rw [← HD3.out]; kernel_rfl
  obtain ⟨S5, HS5⟩ : ∃ z : List F, Hid (sec5 S2 = z) := ⟨_, rfl⟩
  have HSL5 : Hid (1 ≤ S5.length ∧ S5.length ≤ 64) := by rw [← HS5.out]; exact sec5_len S2
  obtain ⟨N2, HN2⟩ : ∃ z, Hid (nd5 (N : Nat) = z) := ⟨_, rfl⟩
  obtain ⟨K2, HK2⟩ : ∃ z, Hid (ct5 (N : Nat) (K : Nat) = z) := ⟨_, rfl⟩
  have HNK2 : Hid (1 ≤ N2 ∧ N2 ≤ 16 ∧ N2 ≤ K2 ∧ K2 ≤ 24) := by rw [← HN2.out, ← HK2.out]; exact ⟨(nd5_le _).1, (nd5_le _).2, (ct5_le _ _).1, (ct5_le _ _).2⟩
  have HNN : Hid (N2 ≠ N) := by
    show _ ≠ _
    rw [← HN2.out]
    have e : IntKind.u64.wrap ((N : Nat) : Int) = (N : Nat) := u64_nat N (by have := HNK.out; omega)
    unfold nd5
    rw [e]
    have := HNK.out
    omega
  obtain ⟨R2, HRR2⟩ : ∃ z : List F, Hid (rnd5 false Rd (N2 : Nat) (S5.length : Nat) = z) := ⟨_, rfl⟩
  obtain ⟨T2, HTT2⟩ : ∃ z, Hid (dealT st S5 R2 N2 = z) := ⟨_, rfl⟩
  have HTG2 : Hid (∀ i, i < 255 → MGood (T2 i) ((shD st S5 R2 N2).at' (fN (i + 1))) 0) := by rw [← HTT2.out]; exact deal_good_at st S5 R2 N2 HSL5.out.1 HSL5.out.2 HNK2.out.1 HNK2.out.2.1
  have HZN2 : Hid ((shD st S5 R2 N2).bn.1 = N2) := fN_val _ (by have := HNK2.out; omega)
  have H8b : Hid (Calls Tryd.prog 8 #[.agg D3.toArray] w6 fun e w' => Hid (∃ g4 c4 tg4, e = .returned (.tuple #[.agg #[.int .u16 (st : Nat), .slice (some ⟨g4, 0, none⟩) S5.length c4, .int .i64 (N2 : Nat), .int .i64 (K2 : Nat), .bool false, .slice ra rl rc], .slice (some ⟨tg4, 0, none⟩) K2 K2, .bool true]) ∧ Bx w' tg4 9 (tcs T2 K2) ∧ Below w6.heap.size w6 w')) := by
    have z := dealt_ok st hst (N : Nat) (K : Nat) false (.slice (some ⟨g, 0, none⟩) S2.length c) ra rl rc S2 Rd w6 (HTB.out w6 H6.out.2.2.2.2) (vf_mk rfl HCP.out.1 HCP.out.2.1 (fun e => by cases e) (.inr ⟨_, _, rfl, H6.out.2.2.1.rw⟩)) (HRV.out w6 H6.out.2.2.2.2)
    rw [HS5.out, HN2.out, HK2.out, HRR2.out, HTT2.out] at z
    rw [← HD3.out]
    refine z.mono fun e w' hh => ?_
    obtain ⟨g4, c4, tg4, he, q1, q2, q3, q4, q5, q6, q7⟩ := hh.out
    exact ⟨g4, c4, tg4, he, q6, q7⟩
  rw [HD3.out] at H6
  have HRG := H6.out.1.range
  go_upto_region 9 with (first
    | (refine wpList_load_mid (by rfl) 25 (.tmp 11) (by rfl) XB 0 (by rfl) D3 _ HRG Tryd.underlying25 rfl hi3 ?_)
    | (go_at_call 8; refine H8b.out.mono ?_; intro e7 w7 hh; obtain ⟨g4, c4, tg4, rfl, q2, q3⟩ := hh.out; have H7 : Hid (Bx w7 tg4 9 (tcs T2 K2) ∧ Bx w7 XB 25 D3 ∧ Bx w7 M 25 D2 ∧ Rx w7 g S2 ∧ Bx w7 tg 9 (tcs T K) ∧ Below M w w7) := (by
        obtain ⟨x1, x2, x3, x4, x5⟩ := H6.out
        exact ⟨q2, x1.below q3, x2.below q3, x3.below q3, x4.below q3, x5.trans (q3.mono (by rw [← HMM.out]; exact x5.size))⟩); clear hh q2 q3)
    | (refine wpList_store_bx (by rfl) 25 (.tmp 12) (.tmp 39) (by rfl) Z25 [.int .u16 (st : Nat), .slice (some ⟨g4, 0, none⟩) S5.length c4, .int .i64 (N2 : Nat), .int .i64 (K2 : Nat), .bool false, .slice ra rl rc] w7.heap.size (by rfl) (by rfl) (Bx.new w7 25 Z25) (by rfl) (by kernel_rfl) (by intro v hv; simp at hv; rcases hv with rfl | rfl | rfl | rfl | rfl | rfl <;> rfl) ?_; intro w8 h7 h8; have H8 : Hid (Bx w8 tg4 9 (tcs T2 K2) ∧ Bx w8 XB 25 D3 ∧ Bx w8 M 25 D2 ∧ Rx w8 g S2 ∧ Bx w8 tg 9 (tcs T K) ∧ Below M w w8) := (by
        have hb : Below w7.heap.size w7 w8 := ((Below.refl _ _).alloc (Nat.le_refl _) _).trans (below_gb h8 (by simp) (Nat.le_refl _))
        obtain ⟨x0, x1, x2, x3, x4, x5⟩ := H7.out
        exact ⟨x0.below hb, x1.below hb, x2.below hb, x3.below hb, x4.below hb, x5.trans (hb.mono (by rw [← HMM.out]; exact x5.size))⟩); clear h7 h8)
    | fail)
  clear HRG H8b H6 H7
  obtain ⟨A, HA⟩ : ∃ z, Hid (idxW ia K = z) := ⟨_, rfl⟩
  have HAK : Hid ((IntKind.u64.wrap ia).tmod (K : Nat) = (A : Nat) ∧ A < K) := by
    rw [← HA.out]
    exact idxW_tmod ia K (by have := HNK.out; omega)
  have e1 : IntKind.u64.wrap ((K : Nat) : Int) = (K : Nat) := u64_nat K (by have := HNK.out; omega)
  have e2 := HAK.out.1
  have e3 : IntKind.i64.wrap ((A : Nat) : Int) = (A : Nat) := by rw [IntKind.wrap_i64]; have := HAK.out; have := HNK.out; omega
  have HKZ : ¬ ((K : Nat) : Int) = 0 := by have := HNK.out; omega
  go_upto_region 10 with fail
  clear e1 e2 e3 HKZ
  obtain ⟨B8, HB8⟩ : ∃ z, Hid (w8.heap.size = z) := ⟨_, rfl⟩
  have HS8 : Hid (∀ u, Below B8 w8 u → Bx u tg4 9 (tcs T2 K2) ∧ Bx u XB 25 D3 ∧ Bx u M 25 D2 ∧ Rx u g S2 ∧ Bx u tg 9 (tcs T K) ∧ Below M w u) := fun u hu => by
    obtain ⟨x0, x1, x2, x3, x4, x5⟩ := H8.out
    rw [← HB8.out] at hu
    exact ⟨x0.below hu, x1.below hu, x2.below hu, x3.below hu, x4.below hu, x5.trans (hu.mono (by rw [← HMM.out]; exact x5.size))⟩
  obtain ⟨Q, HQ⟩ : ∃ z, Hid (A % K2 = z) := ⟨_, rfl⟩
  have HQK : Hid (Q < K2) := by show _ < _; rw [← HQ.out]; exact Nat.mod_lt _ (by have := HNK2.out; omega)
  have r1 : ((A : Nat) : Int).tmod ((K2 : Nat) : Int) = (Q : Nat) := by
    rw [Int.tmod_eq_emod_of_nonneg (by omega), ← HQ.out]
    exact (Int.natCast_emod A K2).symm
  have HKZ : ¬ ((K2 : Nat) : Int) = 0 := by have := HNK2.out; omega
  have HKZ2 : ¬ K2 = 0 := by have := HNK2.out; omega
  have g3 : (0 : Int) ≤ (Q : Int) := by omega
  have g4 : (Q : Int) < (K2 : Int) := by have := HQK.out; omega
  have HW0 : Hid (∀ u, Below B8 w8 u → Below M w u) := fun u hu => (HS8.out u hu).2.2.2.2.2
  go_cut [16, 17] from 51 to 66 (fun va vb wx => va = .slice none 0 0 ∧ vb = .int .i64 115 ∧ Hid (Below B8 w8 wx))
  case first =>
    have hS0 : Below B8 w8 w8.drew := (Below.refl _ _).drew
    refine wp_region_noPanic ?_
    refine wp_region_held_drew (S := (fun u => Below B8 w8 u)) (by kernel_rfl) (hS0) (fun _ => ?_)
    refine takeH_at 1 53 (.slice (some ⟨tg, 0, none⟩) K K) rfl rfl (by kernel_rfl) (by kernel_rfl) (by kernel_rfl) (fun _ _ _ h => h) (hS0) (Or.inl ⟨by rfl, fun w' hS' => by have kq := (HS8.out _ hS').1.cell Q _ (tcs_at T2 K2 Q HQK.out); go_simp⟩) ?_
    try simp only [List.setIfInBounds_toArray, List.set_cons_zero, List.set_cons_succ]
    refine takeH_at 3 55 (.slice (some ⟨tg4, 0, none⟩) K2 K2) rfl rfl (by kernel_rfl) (by kernel_rfl) (by kernel_rfl) (fun _ _ _ h => h) (hS0) (Or.inl ⟨by rfl, fun w' hS' => by have kq := (HS8.out _ hS').1.cell Q _ (tcs_at T2 K2 Q HQK.out); go_simp⟩) ?_
    try simp only [List.setIfInBounds_toArray, List.set_cons_zero, List.set_cons_succ]
    refine takeH_at 4 56 (.int .i64 (A : Nat)) rfl rfl (by kernel_rfl) (by kernel_rfl) (by kernel_rfl) (fun _ _ _ h => h) (hS0) (Or.inl ⟨by rfl, fun w' hS' => by have kq := (HS8.out _ hS').1.cell Q _ (tcs_at T2 K2 Q HQK.out); go_simp⟩) ?_
    try simp only [List.setIfInBounds_toArray, List.set_cons_zero, List.set_cons_succ]
    refine takeH_at 5 57 (.slice (some ⟨tg4, 0, none⟩) K2 K2) rfl rfl (by kernel_rfl) (by kernel_rfl) (by kernel_rfl) (fun _ _ _ h => h) (hS0) (Or.inl ⟨by rfl, fun w' hS' => by have kq := (HS8.out _ hS').1.cell Q _ (tcs_at T2 K2 Q HQK.out); go_simp⟩) ?_
    try simp only [List.setIfInBounds_toArray, List.set_cons_zero, List.set_cons_succ]
    refine takeH_at 6 58 (.int .i64 (K2 : Nat)) rfl rfl (by kernel_rfl) (by kernel_rfl) (by kernel_rfl) (fun _ _ _ h => h) (hS0) (Or.inl ⟨by rfl, fun w' hS' => by have kq := (HS8.out _ hS').1.cell Q _ (tcs_at T2 K2 Q HQK.out); go_simp⟩) ?_
    try simp only [List.setIfInBounds_toArray, List.set_cons_zero, List.set_cons_succ]
    refine takeH_at 7 59 (.int .i64 (Q : Nat)) rfl rfl (by kernel_rfl) (by kernel_rfl) (by kernel_rfl) (fun _ _ _ h => h) (hS0) (Or.inl ⟨by rfl, fun w' hS' => by have kq := (HS8.out _ hS').1.cell Q _ (tcs_at T2 K2 Q HQK.out); go_simp⟩) ?_
    try simp only [List.setIfInBounds_toArray, List.set_cons_zero, List.set_cons_succ]
    refine takeH_at 8 60 (.pointer (some ⟨tg4, Q, none⟩)) rfl rfl (by kernel_rfl) (by kernel_rfl) (by kernel_rfl) (fun _ _ _ h => h) (hS0) (Or.inl ⟨by rfl, fun w' hS' => by have kq := (HS8.out _ hS').1.cell Q _ (tcs_at T2 K2 Q HQK.out); go_simp⟩) ?_
    try simp only [List.setIfInBounds_toArray, List.set_cons_zero, List.set_cons_succ]
    refine takeH_at 9 61 (.string (T2 Q)) rfl rfl (by kernel_rfl) (by kernel_rfl) (by kernel_rfl) (fun _ _ _ h => h) (hS0) (Or.inl ⟨by rfl, fun w' hS' => by have kq := (HS8.out _ hS').1.cell Q _ (tcs_at T2 K2 Q HQK.out); go_simp⟩) ?_
    try simp only [List.setIfInBounds_toArray, List.set_cons_zero, List.set_cons_succ]
    refine wpAnyH_ready (rs := [0, 10]) (by kernel_rfl) (by simp) ?_
    refine AllReadyH.cons rfl (fun KK hK => ?_) (AllReadyH.cons rfl (fun KK hK => ?_) AllReadyH.nil)
    · skip
      go_simp
      obtain ⟨kz3, hkz3⟩ : ∃ z, Hid (w8.drew.heap.size = z) := ⟨_, rfl⟩
      obtain ⟨wz1, hwz1⟩ : ∃ q, q = w8.drew.alloc (.cells #[] 9) := ⟨_, rfl⟩
      have HZ2 : Hid (Below B8 w8 wz1 ∧ (Bx wz1 kz3 9 [] ∧ B8 ≤ kz3)) := by
        rw [hwz1, ← hkz3.out]
        have hsz := (show Below B8 w8 w8.drew from hS0).size
        rw [HB8.out] at hsz
        exact ⟨Below.alloc (hS0) hsz _, ⟨Bx.new w8.drew 9 [], hsz⟩⟩
      first | (rw [← hwz1]) | (rw [show (w8.alloc (.cells #[] 9)).drew = wz1 from hwz1.symm])
      first | (rw [hkz3.out]) | (rw [show w8.heap.size = kz3 from hkz3.out]) | skip
      clear hwz1
      refine hK.out _ _ (HZ2.out.1) (fun _ => ?_)
      clear hK KK
      try simp only [List.setIfInBounds_toArray, List.set_cons_zero, List.set_cons_succ]
      refine wpAnyH_ready (rs := [2, 10]) (by kernel_rfl) (by simp) ?_
      refine AllReadyH.cons rfl (fun KK hK => ?_) (AllReadyH.cons rfl (fun KK hK => ?_) AllReadyH.nil)
      · skip
        refine step_app_e rfl (.tmp 52) (.tmp 53) rfl B8 kz3 rfl (HZ2.out.2).1 (HZ2.out.2).2 tg 0 K K (tcs T K) rfl (tcs_len _ _) (by have := HNK.out; omega) (fun j u hu => by rw [Nat.zero_add]; exact (HS8.out _ (HZ2.out.1)).2.2.2.2.1.cell j u hu) (tcs_one _ _) (by have := HNK.out; omega) ?_
        intro ag6 ac7 wp4 ho hb hgr
        have HZ5 : Hid (Below B8 w8 wp4 ∧ OwC wp4 B8 (.slice (some ⟨ag6, 0, none⟩) K ac7) K (tcs T K)) := ⟨(show Below B8 w8 wz1 from HZ2.out.1).trans hb, ho⟩
        clear ho hb hgr
        refine hK.out _ _ (HZ5.out.1) (fun _ => ?_)
        clear hK KK
        try simp only [List.setIfInBounds_toArray, List.set_cons_zero, List.set_cons_succ]
        refine wpAnyH_ready (rs := [10]) (by kernel_rfl) (by simp) ?_
        refine AllReadyH.cons rfl (fun KK hK => ?_) AllReadyH.nil
        go_simp
        obtain ⟨ob10, hob10⟩ : ∃ z, Hid (wp4.heap.size = z) := ⟨_, rfl⟩
        obtain ⟨wo8, hwo8⟩ : ∃ q, q = wp4.alloc (.cells #[.string (T2 Q)] 9) := ⟨_, rfl⟩
        have HZ9 : Hid (Below B8 w8 wo8 ∧ Bx wo8 ob10 9 [.string (T2 Q)] ∧ OwC wo8 B8 (.slice (some ⟨ag6, 0, none⟩) K ac7) (K) (tcs T K)) := by
          rw [hwo8, ← hob10.out]
          have hsz := (show Below B8 w8 wp4 from HZ5.out.1).size
          rw [HB8.out] at hsz
          exact ⟨Below.alloc (HZ5.out.1) hsz _, Bx.new wp4 9 [.string (T2 Q)], (HZ5.out.2).below ((Below.refl _ _).alloc (Nat.le_refl _) _)⟩
        first | (rw [← hwo8]) | (rw [show (w8.alloc (.cells #[.string (T2 Q)] 9)).drew = wo8 from hwo8.symm])
        first | (rw [hob10.out]) | (rw [show w8.heap.size = ob10 from hob10.out]) | skip
        clear hwo8
        refine hK.out _ _ (HZ9.out.1) (fun _ => ?_)
        clear hK KK
        try simp only [List.setIfInBounds_toArray, List.set_cons_zero, List.set_cons_succ]
        refine wpAnyH_ready (rs := [11]) (by kernel_rfl) (by simp) ?_
        refine AllReadyH.cons rfl (fun KK hK => ?_) AllReadyH.nil
        refine step_app_oc rfl (.tmp 54) (.tmp 62) rfl B8 _ rfl K (tcs T K) (HZ9.out.2.2) ob10 0 1 1 [.string (T2 Q)] rfl rfl (by decide) (fun j u hu => by rw [Nat.zero_add]; exact (HZ9.out.2.1).cell j u hu) (one_str _) (by have := HNK.out; omega) ?_
        intro ag13 ac14 wq11 ho hb
        rw [plus_tcs] at ho
        have HZ12 : Hid (Below B8 w8 wq11 ∧ OwC wq11 B8 (.slice (some ⟨ag13, 0, none⟩) (K + 1) ac14) (K + 1) (tcs (plusT T K (T2 Q)) (K + 1))) := ⟨(show Below B8 w8 wo8 from HZ9.out.1).trans hb, ho⟩
        clear ho hb
        refine hK.out _ _ (HZ12.out.1) (fun _ => ?_)
        clear hK KK
        try simp only [List.setIfInBounds_toArray, List.set_cons_zero, List.set_cons_succ]
        refine wpAnyH_ready (rs := [12]) (by kernel_rfl) (by simp) ?_
        refine AllReadyH.cons rfl (fun KK hK => ?_) AllReadyH.nil
        go_simp
        have HJ : Hid (Calls Tryd.prog 10 #[.slice (some ⟨ag13, 0, none⟩) (K + 1) ac14] wq11 fun e w' => Hid (e = .returned (.tuple #[.slice none 0 0, .int .i64 115]) ∧ Below wq11.heap.size wq11 w')) :=
          (Join_ok (some ⟨ag13, 0, none⟩) (K + 1) ac14 (plusT T K (T2 Q)) wq11 (show _ ≤ _ by have := HNK.out; omega) (show ∀ k, k < K + 1 → _ from fun k hk => ⟨_, 0, rfl, by rw [Nat.zero_add]; exact (HZ12.out.2).cell k _ (tcs_at _ _ k hk)⟩) (HTB.out _ (HW0.out _ (HZ12.out.1)))).mono fun e w' hj => join_115 (z2 := shD st S5 R2 N2) HTG.out HTG2.out ⟨by have := HNK.out; omega, by have := HNK.out; omega⟩ (by have := HQK.out; have := HNK2.out; omega) (by rw [HZN.out, HZN2.out]; exact HNN.out) hj
        refine HJ.out.mono ?_
        intro e w9 hh
        obtain ⟨rfl, hb⟩ := hh.out
        have H9 : Hid (Below B8 w8 w9) := (show Below B8 w8 wq11 from HZ12.out.1).trans (hb.mono (by rw [← HB8.out]; exact (show Below B8 w8 wq11 from HZ12.out.1).size))
        clear hh hb HJ
        go_wp2_with fail
        refine hK.out _ _ (H9.out) (fun _ => ?_)
        clear hK KK
        try simp only [List.setIfInBounds_toArray, List.set_cons_zero, List.set_cons_succ]
        refine takeH_at 13 51 (.tuple #[.slice none 0 0, .int .i64 115]) rfl rfl (by kernel_rfl) (by kernel_rfl) (by kernel_rfl) (fun _ _ _ h => h) (H9.out) (Or.inl ⟨by rfl, fun w' hS' => by go_simp⟩) ?_
        try simp only [List.setIfInBounds_toArray, List.set_cons_zero, List.set_cons_succ]
        refine takeH_at 14 65 (.slice none 0 0) rfl rfl (by kernel_rfl) (by kernel_rfl) (by kernel_rfl) (fun _ _ _ h => h) (H9.out) (Or.inl ⟨by rfl, fun w' hS' => by go_simp⟩) ?_
        try simp only [List.setIfInBounds_toArray, List.set_cons_zero, List.set_cons_succ]
        refine takeH_at 15 66 (.int .i64 115) rfl rfl (by kernel_rfl) (by kernel_rfl) (by kernel_rfl) (fun _ _ _ h => h) (H9.out) (Or.inl ⟨by rfl, fun w' hS' => by go_simp⟩) ?_
        try simp only [List.setIfInBounds_toArray, List.set_cons_zero, List.set_cons_succ]
        refine wpAnyH_ready (rs := [16]) (by kernel_rfl) (by simp) ?_
        refine AllReadyH.cons rfl (fun KK hK => ?_) AllReadyH.nil
        go_simp
        refine hK.out _ _ (H9.out) (fun _ => ?_)
        clear hK KK
        try simp only [List.setIfInBounds_toArray, List.set_cons_zero, List.set_cons_succ]
        refine wpAnyH_ready (rs := [17]) (by kernel_rfl) (by simp) ?_
        refine AllReadyH.cons rfl (fun KK hK => ?_) AllReadyH.nil
        go_simp
        refine hK.out _ _ (H9.out) (fun _ => ?_)
        clear hK KK
        try simp only [List.setIfInBounds_toArray, List.set_cons_zero, List.set_cons_succ]
        refine wpAnyH_done (by kernel_rfl) ?_ _
        refine NoPanic.normal ?_
        go_wp2_with fail
        go_meet
        exact ⟨rfl, rfl, H9⟩
      · skip
        go_simp
        obtain ⟨ob17, hob17⟩ : ∃ z, Hid (wz1.heap.size = z) := ⟨_, rfl⟩
        obtain ⟨wo15, hwo15⟩ : ∃ q, q = wz1.alloc (.cells #[.string (T2 Q)] 9) := ⟨_, rfl⟩
        have HZ16 : Hid (Below B8 w8 wo15 ∧ Bx wo15 ob17 9 [.string (T2 Q)] ∧ (Bx wo15 kz3 9 [] ∧ B8 ≤ kz3)) := by
          rw [hwo15, ← hob17.out]
          have hsz := (show Below B8 w8 wz1 from HZ2.out.1).size
          rw [HB8.out] at hsz
          exact ⟨Below.alloc (HZ2.out.1) hsz _, Bx.new wz1 9 [.string (T2 Q)], ⟨(HZ2.out.2).1.below ((Below.refl _ _).alloc (Nat.le_refl _) _), (HZ2.out.2).2⟩⟩
        first | (rw [← hwo15]) | (rw [show (w8.alloc (.cells #[.string (T2 Q)] 9)).drew = wo15 from hwo15.symm])
        first | (rw [hob17.out]) | (rw [show w8.heap.size = ob17 from hob17.out]) | skip
        clear hwo15
        refine hK.out _ _ (HZ16.out.1) (fun _ => ?_)
        clear hK KK
        try simp only [List.setIfInBounds_toArray, List.set_cons_zero, List.set_cons_succ]
        refine wpAnyH_ready (rs := [2]) (by kernel_rfl) (by simp) ?_
        refine AllReadyH.cons rfl (fun KK hK => ?_) AllReadyH.nil
        refine step_app_e rfl (.tmp 52) (.tmp 53) rfl B8 kz3 rfl (HZ16.out.2.2).1 (HZ16.out.2.2).2 tg 0 K K (tcs T K) rfl (tcs_len _ _) (by have := HNK.out; omega) (fun j u hu => by rw [Nat.zero_add]; exact (HS8.out _ (HZ16.out.1)).2.2.2.2.1.cell j u hu) (tcs_one _ _) (by have := HNK.out; omega) ?_
        intro ag20 ac21 wp18 ho hb hgr
        have HZ19 : Hid (Below B8 w8 wp18 ∧ OwC wp18 B8 (.slice (some ⟨ag20, 0, none⟩) K ac21) K (tcs T K) ∧ Bx wp18 ob17 9 [.string (T2 Q)]) := ⟨(show Below B8 w8 wo15 from HZ16.out.1).trans hb, ho, (HZ16.out.2.1).keep (hgr.block _ (HZ16.out.2.1).lt (fun e => Bx.ne_list (HZ16.out.2.1) (HZ16.out.2.2).1 (by simp) (by injection e)))⟩
        clear ho hb hgr
        refine hK.out _ _ (HZ19.out.1) (fun _ => ?_)
        clear hK KK
        try simp only [List.setIfInBounds_toArray, List.set_cons_zero, List.set_cons_succ]
        refine wpAnyH_ready (rs := [11]) (by kernel_rfl) (by simp) ?_
        refine AllReadyH.cons rfl (fun KK hK => ?_) AllReadyH.nil
        refine step_app_oc rfl (.tmp 54) (.tmp 62) rfl B8 _ rfl K (tcs T K) (HZ19.out.2.1) ob17 0 1 1 [.string (T2 Q)] rfl rfl (by decide) (fun j u hu => by rw [Nat.zero_add]; exact (HZ19.out.2.2).cell j u hu) (one_str _) (by have := HNK.out; omega) ?_
        intro ag24 ac25 wq22 ho hb
        rw [plus_tcs] at ho
        have HZ23 : Hid (Below B8 w8 wq22 ∧ OwC wq22 B8 (.slice (some ⟨ag24, 0, none⟩) (K + 1) ac25) (K + 1) (tcs (plusT T K (T2 Q)) (K + 1))) := ⟨(show Below B8 w8 wp18 from HZ19.out.1).trans hb, ho⟩
        clear ho hb
        refine hK.out _ _ (HZ23.out.1) (fun _ => ?_)
        clear hK KK
        try simp only [List.setIfInBounds_toArray, List.set_cons_zero, List.set_cons_succ]
        refine wpAnyH_ready (rs := [12]) (by kernel_rfl) (by simp) ?_
        refine AllReadyH.cons rfl (fun KK hK => ?_) AllReadyH.nil
        go_simp
        have HJ : Hid (Calls Tryd.prog 10 #[.slice (some ⟨ag24, 0, none⟩) (K + 1) ac25] wq22 fun e w' => Hid (e = .returned (.tuple #[.slice none 0 0, .int .i64 115]) ∧ Below wq22.heap.size wq22 w')) :=
          (Join_ok (some ⟨ag24, 0, none⟩) (K + 1) ac25 (plusT T K (T2 Q)) wq22 (show _ ≤ _ by have := HNK.out; omega) (show ∀ k, k < K + 1 → _ from fun k hk => ⟨_, 0, rfl, by rw [Nat.zero_add]; exact (HZ23.out.2).cell k _ (tcs_at _ _ k hk)⟩) (HTB.out _ (HW0.out _ (HZ23.out.1)))).mono fun e w' hj => join_115 (z2 := shD st S5 R2 N2) HTG.out HTG2.out ⟨by have := HNK.out; omega, by have := HNK.out; omega⟩ (by have := HQK.out; have := HNK2.out; omega) (by rw [HZN.out, HZN2.out]; exact HNN.out) hj
        refine HJ.out.mono ?_
        intro e w9 hh
        obtain ⟨rfl, hb⟩ := hh.out
        have H9 : Hid (Below B8 w8 w9) := (show Below B8 w8 wq22 from HZ23.out.1).trans (hb.mono (by rw [← HB8.out]; exact (show Below B8 w8 wq22 from HZ23.out.1).size))
        clear hh hb HJ
        go_wp2_with fail
        refine hK.out _ _ (H9.out) (fun _ => ?_)
        clear hK KK
        try simp only [List.setIfInBounds_toArray, List.set_cons_zero, List.set_cons_succ]
        refine takeH_at 13 51 (.tuple #[.slice none 0 0, .int .i64 115]) rfl rfl (by kernel_rfl) (by kernel_rfl) (by kernel_rfl) (fun _ _ _ h => h) (H9.out) (Or.inl ⟨by rfl, fun w' hS' => by go_simp⟩) ?_
        try simp only [List.setIfInBounds_toArray, List.set_cons_zero, List.set_cons_succ]
        refine takeH_at 14 65 (.slice none 0 0) rfl rfl (by kernel_rfl) (by kernel_rfl) (by kernel_rfl) (fun _ _ _ h => h) (H9.out) (Or.inl ⟨by rfl, fun w' hS' => by go_simp⟩) ?_
        try simp only [List.setIfInBounds_toArray, List.set_cons_zero, List.set_cons_succ]
        refine takeH_at 15 66 (.int .i64 115) rfl rfl (by kernel_rfl) (by kernel_rfl) (by kernel_rfl) (fun _ _ _ h => h) (H9.out) (Or.inl ⟨by rfl, fun w' hS' => by go_simp⟩) ?_
        try simp only [List.setIfInBounds_toArray, List.set_cons_zero, List.set_cons_succ]
        refine wpAnyH_ready (rs := [16]) (by kernel_rfl) (by simp) ?_
        refine AllReadyH.cons rfl (fun KK hK => ?_) AllReadyH.nil
        go_simp
        refine hK.out _ _ (H9.out) (fun _ => ?_)
        clear hK KK
        try simp only [List.setIfInBounds_toArray, List.set_cons_zero, List.set_cons_succ]
        refine wpAnyH_ready (rs := [17]) (by kernel_rfl) (by simp) ?_
        refine AllReadyH.cons rfl (fun KK hK => ?_) AllReadyH.nil
        go_simp
        refine hK.out _ _ (H9.out) (fun _ => ?_)
        clear hK KK
        try simp only [List.setIfInBounds_toArray, List.set_cons_zero, List.set_cons_succ]
        refine wpAnyH_done (by kernel_rfl) ?_ _
        refine NoPanic.normal ?_
        go_wp2_with fail
        go_meet
        exact ⟨rfl, rfl, H9⟩
    · skip
      go_simp
      obtain ⟨ob28, hob28⟩ : ∃ z, Hid (w8.drew.heap.size = z) := ⟨_, rfl⟩
      obtain ⟨wo26, hwo26⟩ : ∃ q, q = w8.drew.alloc (.cells #[.string (T2 Q)] 9) := ⟨_, rfl⟩
      have HZ27 : Hid (Below B8 w8 wo26 ∧ Bx wo26 ob28 9 [.string (T2 Q)]) := by
        rw [hwo26, ← hob28.out]
        have hsz := (show Below B8 w8 w8.drew from hS0).size
        rw [HB8.out] at hsz
        exact ⟨Below.alloc (hS0) hsz _, Bx.new w8.drew 9 [.string (T2 Q)]⟩
      first | (rw [← hwo26]) | (rw [show (w8.alloc (.cells #[.string (T2 Q)] 9)).drew = wo26 from hwo26.symm])
      first | (rw [hob28.out]) | (rw [show w8.heap.size = ob28 from hob28.out]) | skip
      clear hwo26
      refine hK.out _ _ (HZ27.out.1) (fun _ => ?_)
      clear hK KK
      try simp only [List.setIfInBounds_toArray, List.set_cons_zero, List.set_cons_succ]
      refine wpAnyH_ready (rs := [0]) (by kernel_rfl) (by simp) ?_
      refine AllReadyH.cons rfl (fun KK hK => ?_) AllReadyH.nil
      go_simp
      obtain ⟨kz31, hkz31⟩ : ∃ z, Hid (wo26.heap.size = z) := ⟨_, rfl⟩
      obtain ⟨wz29, hwz29⟩ : ∃ q, q = wo26.alloc (.cells #[] 9) := ⟨_, rfl⟩
      have HZ30 : Hid (Below B8 w8 wz29 ∧ (Bx wz29 kz31 9 [] ∧ B8 ≤ kz31) ∧ Bx wz29 ob28 9 [.string (T2 Q)]) := by
        rw [hwz29, ← hkz31.out]
        have hsz := (show Below B8 w8 wo26 from HZ27.out.1).size
        rw [HB8.out] at hsz
        exact ⟨Below.alloc (HZ27.out.1) hsz _, ⟨Bx.new wo26 9 [], hsz⟩, (HZ27.out.2).below ((Below.refl _ _).alloc (Nat.le_refl _) _)⟩
      first | (rw [← hwz29]) | (rw [show (w8.alloc (.cells #[] 9)).drew = wz29 from hwz29.symm])
      first | (rw [hkz31.out]) | (rw [show w8.heap.size = kz31 from hkz31.out]) | skip
      clear hwz29
      refine hK.out _ _ (HZ30.out.1) (fun _ => ?_)
      clear hK KK
      try simp only [List.setIfInBounds_toArray, List.set_cons_zero, List.set_cons_succ]
      refine wpAnyH_ready (rs := [2]) (by kernel_rfl) (by simp) ?_
      refine AllReadyH.cons rfl (fun KK hK => ?_) AllReadyH.nil
      refine step_app_e rfl (.tmp 52) (.tmp 53) rfl B8 kz31 rfl (HZ30.out.2.1).1 (HZ30.out.2.1).2 tg 0 K K (tcs T K) rfl (tcs_len _ _) (by have := HNK.out; omega) (fun j u hu => by rw [Nat.zero_add]; exact (HS8.out _ (HZ30.out.1)).2.2.2.2.1.cell j u hu) (tcs_one _ _) (by have := HNK.out; omega) ?_
      intro ag34 ac35 wp32 ho hb hgr
      have HZ33 : Hid (Below B8 w8 wp32 ∧ OwC wp32 B8 (.slice (some ⟨ag34, 0, none⟩) K ac35) K (tcs T K) ∧ Bx wp32 ob28 9 [.string (T2 Q)]) := ⟨(show Below B8 w8 wz29 from HZ30.out.1).trans hb, ho, (HZ30.out.2.2).keep (hgr.block _ (HZ30.out.2.2).lt (fun e => Bx.ne_list (HZ30.out.2.2) (HZ30.out.2.1).1 (by simp) (by injection e)))⟩
      clear ho hb hgr
      refine hK.out _ _ (HZ33.out.1) (fun _ => ?_)
      clear hK KK
      try simp only [List.setIfInBounds_toArray, List.set_cons_zero, List.set_cons_succ]
      refine wpAnyH_ready (rs := [11]) (by kernel_rfl) (by simp) ?_
      refine AllReadyH.cons rfl (fun KK hK => ?_) AllReadyH.nil
      refine step_app_oc rfl (.tmp 54) (.tmp 62) rfl B8 _ rfl K (tcs T K) (HZ33.out.2.1) ob28 0 1 1 [.string (T2 Q)] rfl rfl (by decide) (fun j u hu => by rw [Nat.zero_add]; exact (HZ33.out.2.2).cell j u hu) (one_str _) (by have := HNK.out; omega) ?_
      intro ag38 ac39 wq36 ho hb
      rw [plus_tcs] at ho
      have HZ37 : Hid (Below B8 w8 wq36 ∧ OwC wq36 B8 (.slice (some ⟨ag38, 0, none⟩) (K + 1) ac39) (K + 1) (tcs (plusT T K (T2 Q)) (K + 1))) := ⟨(show Below B8 w8 wp32 from HZ33.out.1).trans hb, ho⟩
      clear ho hb
      refine hK.out _ _ (HZ37.out.1) (fun _ => ?_)
      clear hK KK
      try simp only [List.setIfInBounds_toArray, List.set_cons_zero, List.set_cons_succ]
      refine wpAnyH_ready (rs := [12]) (by kernel_rfl) (by simp) ?_
      refine AllReadyH.cons rfl (fun KK hK => ?_) AllReadyH.nil
      go_simp
      have HJ : Hid (Calls Tryd.prog 10 #[.slice (some ⟨ag38, 0, none⟩) (K + 1) ac39] wq36 fun e w' => Hid (e = .returned (.tuple #[.slice none 0 0, .int .i64 115]) ∧ Below wq36.heap.size wq36 w')) :=
        (Join_ok (some ⟨ag38, 0, none⟩) (K + 1) ac39 (plusT T K (T2 Q)) wq36 (show _ ≤ _ by have := HNK.out; omega) (show ∀ k, k < K + 1 → _ from fun k hk => ⟨_, 0, rfl, by rw [Nat.zero_add]; exact (HZ37.out.2).cell k _ (tcs_at _ _ k hk)⟩) (HTB.out _ (HW0.out _ (HZ37.out.1)))).mono fun e w' hj => join_115 (z2 := shD st S5 R2 N2) HTG.out HTG2.out ⟨by have := HNK.out; omega, by have := HNK.out; omega⟩ (by have := HQK.out; have := HNK2.out; omega) (by rw [HZN.out, HZN2.out]; exact HNN.out) hj
      refine HJ.out.mono ?_
      intro e w9 hh
      obtain ⟨rfl, hb⟩ := hh.out
      have H9 : Hid (Below B8 w8 w9) := (show Below B8 w8 wq36 from HZ37.out.1).trans (hb.mono (by rw [← HB8.out]; exact (show Below B8 w8 wq36 from HZ37.out.1).size))
      clear hh hb HJ
      go_wp2_with fail
      refine hK.out _ _ (H9.out) (fun _ => ?_)
      clear hK KK
      try simp only [List.setIfInBounds_toArray, List.set_cons_zero, List.set_cons_succ]
      refine takeH_at 13 51 (.tuple #[.slice none 0 0, .int .i64 115]) rfl rfl (by kernel_rfl) (by kernel_rfl) (by kernel_rfl) (fun _ _ _ h => h) (H9.out) (Or.inl ⟨by rfl, fun w' hS' => by go_simp⟩) ?_
      try simp only [List.setIfInBounds_toArray, List.set_cons_zero, List.set_cons_succ]
      refine takeH_at 14 65 (.slice none 0 0) rfl rfl (by kernel_rfl) (by kernel_rfl) (by kernel_rfl) (fun _ _ _ h => h) (H9.out) (Or.inl ⟨by rfl, fun w' hS' => by go_simp⟩) ?_
      try simp only [List.setIfInBounds_toArray, List.set_cons_zero, List.set_cons_succ]
      refine takeH_at 15 66 (.int .i64 115) rfl rfl (by kernel_rfl) (by kernel_rfl) (by kernel_rfl) (fun _ _ _ h => h) (H9.out) (Or.inl ⟨by rfl, fun w' hS' => by go_simp⟩) ?_
      try simp only [List.setIfInBounds_toArray, List.set_cons_zero, List.set_cons_succ]
      refine wpAnyH_ready (rs := [16]) (by kernel_rfl) (by simp) ?_
      refine AllReadyH.cons rfl (fun KK hK => ?_) AllReadyH.nil
      go_simp
      refine hK.out _ _ (H9.out) (fun _ => ?_)
      clear hK KK
      try simp only [List.setIfInBounds_toArray, List.set_cons_zero, List.set_cons_succ]
      refine wpAnyH_ready (rs := [17]) (by kernel_rfl) (by simp) ?_
      refine AllReadyH.cons rfl (fun KK hK => ?_) AllReadyH.nil
      go_simp
      refine hK.out _ _ (H9.out) (fun _ => ?_)
      clear hK KK
      try simp only [List.setIfInBounds_toArray, List.set_cons_zero, List.set_cons_succ]
      refine wpAnyH_done (by kernel_rfl) ?_ _
      refine NoPanic.normal ?_
      go_wp2_with fail
      go_meet
      exact ⟨rfl, rfl, H9⟩
  case rest =>
  obtain ⟨rfl, rfl, HB⟩ := hcut
  clear HKZ HKZ2 g3 g4 r1 HQ HTG2 HNN HZN2
  have HC9 := HS8.out wc HB.out
  have kc : wc.cell? ⟨M, 0, none⟩ = some (.int .u16 (sn : Nat)) := by
    have x1 := HC9.2.2.1
    rw [← HD2.out] at x1
    exact x1.cell 0 _ rfl
  go_upto_region 11 with fail
  go_cut [80] from 67 to 80 (fun cz wx => cz = .bool false ∧ wx = wc)
  case first =>
    by_cases hss : st = sn
    · subst hss
      go_wp2_with (first
        | (go_at_call 11; refine (H11.out _ _).mono ?_; rintro e1 wn ⟨rfl, hw⟩; obtain rfl := hw.symm; clear hw)
        | fail)
      go_meet
      exact ⟨rfl, rfl⟩
    · have hne : ¬ ((st : Nat) : Int) = ((sn : Nat) : Int) := by omega
      clear hss
      go_wp2_with (first
        | (go_at_call 11; refine (H11.out _ _).mono ?_; rintro e1 wn ⟨rfl, hw⟩; obtain rfl := hw.symm; clear hw)
        | fail)
      go_meet
      exact ⟨rfl, rfl⟩
  case rest =>
  obtain ⟨rfl, hwc⟩ := hcut
  rename World => wz
  obtain rfl := hwc.symm
  clear kc HB HS8 HW0 H8
  have HRG := HC9.2.2.1.range
  have HRX := HC9.2.1
  have HLXX := HLX
  go_upto_region 14 with (first
    | (refine wpList_load_mid (by rfl) 25 (.tmp 4) (by rfl) M 0 (by rfl) D2 _ HRG Tryd.underlying25 rfl hi2 ?_)
    | (refine wpList_store_bx (by rfl) 25 (.tmp 11) (.tmp 81) (by rfl) D3 D2 XB (by rfl) (by rfl) HRX (by rw [HD26.out.1, ← HD3.out]; rfl) hi2 HD26.out.2 ?_; intro w10 h7 h8; have H10 : Hid (Bx w10 XB 25 D2 ∧ Bx w10 M 25 D2 ∧ Rx w10 g S2 ∧ Bx w10 tg 9 (tcs T K) ∧ Below M w w10) := (by
        obtain ⟨x0, x1, x2, ⟨sp, x3⟩, x4, x5⟩ := HC9
        have hl := HLXX.out
        exact ⟨h7, x2.keep (h8.block M x2.lt (fun e => by injection e with e; omega)), ⟨sp, x3.keep (h8.block g x3.lt (fun e => by injection e with e; omega))⟩, x4.keep (h8.block tg x4.lt (fun e => by injection e with e; omega)), x5.trans (below_gb h8 (by rw [← HMM.out]; exact x5.size) (by omega))⟩); clear h7 h8)
    | fail)
  clear HRG HRX HC9 hi3 HD3
  obtain ⟨b1, HB1⟩ : ∃ z : F, Hid ((⟨by0 ||| 1, (or_odd ⟨by0, hby.out⟩).1⟩ : F) = z) := ⟨_, rfl⟩
  have HB10 : Hid (b1 ≠ 0) := fun e => (or_odd ⟨by0, hby.out⟩).2 (by have z := congrArg (fun a : F => a.1) (HB1.out.trans e); exact z)
  have hor : bits .or .u8 ((by0 : Nat) : Int) 1 = ((b1.1 : Nat) : Int) := by
    rw [← HB1.out]
    exact u8_or_nat by0 1 hby.out (by decide)
  obtain ⟨s0, HS0⟩ : ∃ z : F, Hid (S2.getD 0 0 = z) := ⟨_, rfl⟩
  obtain ⟨s1, HS1⟩ : ∃ z : F, Hid (fa s0 b1 = z) := ⟨_, rfl⟩
  obtain ⟨s2, HS2x⟩ : ∃ z : F, Hid (fa s1 b1 = z) := ⟨_, rfl⟩
  have hx1 : bits .xor .u8 ((s0.1 : Nat) : Int) ((b1.1 : Nat) : Int) = ((s1.1 : Nat) : Int) := by rw [xorF, HS1.out]
  have hx2 : bits .xor .u8 ((s1.1 : Nat) : Int) ((b1.1 : Nat) : Int) = ((s2.1 : Nat) : Int) := by rw [xorF, HS2x.out]
  obtain ⟨S6, HS6⟩ : ∃ z : List F, Hid (S2.set 0 s1 = z) := ⟨_, rfl⟩
  have HL6 : Hid (S6.length = S2.length ∧ S6.getD 0 0 = s1 ∧ S6.getD 0 0 ≠ S2.getD 0 0) := by
    have e1 : S6.length = S2.length := by rw [← HS6.out, List.length_set]
    have e2 : S6.getD 0 0 = s1 := by
      rw [← HS6.out, set_getD _ _ _ _ (by have := HSL.out; omega), if_pos rfl]
    refine ⟨e1, e2, ?_⟩
    rw [e2, HS0.out, ← HS1.out]
    intro e
    apply HB10.out
    have z := fa_canc s0 b1
    rw [e, fa_self] at z
    exact z.symm
  obtain ⟨B10, HB10s⟩ : ∃ z, Hid (w10.heap.size = z) := ⟨_, rfl⟩
  have HD2c : Hid (∀ u, Bx u XB 25 D2 → u.cell? ⟨XB, 0, none⟩ = some (.int .u16 (sn : Nat)) ∧ u.cell? ⟨XB, 1, none⟩ = some (.slice (some ⟨g, 0, none⟩) S2.length c) ∧ u.cell? ⟨XB, 2, none⟩ = some (.int .i64 (N : Nat)) ∧ u.cell? ⟨XB, 3, none⟩ = some (.int .i64 (K : Nat))) := fun u hu => by
    rw [← HD2.out] at hu
    exact ⟨hu.cell 0 _ rfl, hu.cell 1 _ rfl, hu.cell 2 _ rfl, hu.cell 3 _ rfl⟩
  have HCA : Hid (∀ u, Below B10 w10 u → u.cell? ⟨XB, 1, none⟩ = some (.slice (some ⟨g, 0, none⟩) S2.length c) ∧ u.cell? ⟨g, 0, none⟩ = some (.int .u8 (s0.1 : Nat)) ∧ u.frozen? ⟨g, 0, none⟩ = false) := fun u hu => by
    rw [← HB10s.out] at hu
    have x := H10.out.2.2.1.below hu
    refine ⟨(HD2c.out u (H10.out.1.below hu)).2.1, ?_, x.frozen 0⟩
    rw [← HS0.out]
    exact x.cell 0 (by have := HSL.out; omega)
  have g1 : (0 : Int) < (S2.length : Int) := by have := HSL.out; omega
  have hS2n : ¬ S2 = [] := fun e => by have z := HSL.out.1; rw [e] at z; simp at z
  have hSA : Below B10 w10 w10.drew := (Below.refl _ _).drew
  refine wp_region_noPanic ?_
  refine wp_region_till (fun u => Below B10 w10 u) 10 (by kernel_rfl) (by decide) (by decide +kernel) (by decide +kernel) (by decide +kernel) (fun inv => ?_)
  refine till_at 0 82 (.pointer (some ⟨XB, 1, none⟩)) inv rfl rfl (by decide) (by decide +kernel) (by decide +kernel) (fun _ _ _ h => h) (hSA) (Or.inl ⟨by rfl, fun w' hS' => by obtain ⟨k0, k1, k2⟩ := HCA.out _ hS'; go_simp⟩) (fun inv' => ?_)
  clear inv; have inv := inv'; clear inv'
  try simp only [List.setIfInBounds_toArray, List.set_cons_zero, List.set_cons_succ]
  refine till_at 1 83 (.slice (some ⟨g, 0, none⟩) S2.length c) inv rfl rfl (by decide) (by decide +kernel) (by decide +kernel) (fun _ _ _ h => h) (hSA) (Or.inl ⟨by rfl, fun w' hS' => by obtain ⟨k0, k1, k2⟩ := HCA.out _ hS'; go_simp⟩) (fun inv' => ?_)
  clear inv; have inv := inv'; clear inv'
  try simp only [List.setIfInBounds_toArray, List.set_cons_zero, List.set_cons_succ]
  refine till_at 2 84 (.pointer (some ⟨XB, 1, none⟩)) inv rfl rfl (by decide) (by decide +kernel) (by decide +kernel) (fun _ _ _ h => h) (hSA) (Or.inl ⟨by rfl, fun w' hS' => by obtain ⟨k0, k1, k2⟩ := HCA.out _ hS'; go_simp⟩) (fun inv' => ?_)
  clear inv; have inv := inv'; clear inv'
  try simp only [List.setIfInBounds_toArray, List.set_cons_zero, List.set_cons_succ]
  refine till_at 3 85 (.slice (some ⟨g, 0, none⟩) S2.length c) inv rfl rfl (by decide) (by decide +kernel) (by decide +kernel) (fun _ _ _ h => h) (hSA) (Or.inl ⟨by rfl, fun w' hS' => by obtain ⟨k0, k1, k2⟩ := HCA.out _ hS'; go_simp⟩) (fun inv' => ?_)
  clear inv; have inv := inv'; clear inv'
  try simp only [List.setIfInBounds_toArray, List.set_cons_zero, List.set_cons_succ]
  refine till_at 4 86 (.pointer (some ⟨g, 0, none⟩)) inv rfl rfl (by decide) (by decide +kernel) (by decide +kernel) (fun _ _ _ h => h) (hSA) (Or.inl ⟨by rfl, fun w' hS' => by obtain ⟨k0, k1, k2⟩ := HCA.out _ hS'; go_simp⟩) (fun inv' => ?_)
  clear inv; have inv := inv'; clear inv'
  try simp only [List.setIfInBounds_toArray, List.set_cons_zero, List.set_cons_succ]
  refine till_at 5 87 (.int .u8 (s0.1 : Nat)) inv rfl rfl (by decide) (by decide +kernel) (by decide +kernel) (fun _ _ _ h => h) (hSA) (Or.inl ⟨by rfl, fun w' hS' => by obtain ⟨k0, k1, k2⟩ := HCA.out _ hS'; go_simp⟩) (fun inv' => ?_)
  clear inv; have inv := inv'; clear inv'
  try simp only [List.setIfInBounds_toArray, List.set_cons_zero, List.set_cons_succ]
  refine till_at 6 88 (.int .u8 (by0 : Nat)) inv rfl rfl (by decide) (by decide +kernel) (by decide +kernel) (fun _ _ _ h => h) (hSA) (Or.inl ⟨by rfl, fun w' hS' => by obtain ⟨k0, k1, k2⟩ := HCA.out _ hS'; go_simp⟩) (fun inv' => ?_)
  clear inv; have inv := inv'; clear inv'
  try simp only [List.setIfInBounds_toArray, List.set_cons_zero, List.set_cons_succ]
  refine till_at 7 89 (.int .u8 (b1.1 : Nat)) inv rfl rfl (by decide) (by decide +kernel) (by decide +kernel) (fun _ _ _ h => h) (hSA) (Or.inl ⟨by rfl, fun w' hS' => by obtain ⟨k0, k1, k2⟩ := HCA.out _ hS'; go_simp⟩) (fun inv' => ?_)
  clear inv; have inv := inv'; clear inv'
  try simp only [List.setIfInBounds_toArray, List.set_cons_zero, List.set_cons_succ]
  refine till_at 8 90 (.int .u8 (s1.1 : Nat)) inv rfl rfl (by decide) (by decide +kernel) (by decide +kernel) (fun _ _ _ h => h) (hSA) (Or.inl ⟨by rfl, fun w' hS' => by obtain ⟨k0, k1, k2⟩ := HCA.out _ hS'; go_simp⟩) (fun inv' => ?_)
  clear inv; have inv := inv'; clear inv'
  try simp only [List.setIfInBounds_toArray, List.set_cons_zero, List.set_cons_succ]
  refine till_at 9 91 (.pointer (some ⟨g, 0, none⟩)) inv rfl rfl (by decide) (by decide +kernel) (by decide +kernel) (fun _ _ _ h => h) (hSA) (Or.inl ⟨by rfl, fun w' hS' => by obtain ⟨k0, k1, k2⟩ := HCA.out _ hS'; go_simp⟩) (fun inv' => ?_)
  clear inv; have inv := inv'; clear inv'
  try simp only [List.setIfInBounds_toArray, List.set_cons_zero, List.set_cons_succ]
  refine till_tail (i := 10) (by decide +kernel) (by decide) rfl (fun KK hK => ?_)
  obtain ⟨k0, k1, k2⟩ := HCA.out _ hSA
  go_simp
  obtain ⟨w11, hw11⟩ : ∃ q, q = w10.drew.setCell ⟨g, 0, none⟩ (.int .u8 (s1.1 : Nat)) := ⟨_, rfl⟩
  first | (rw [← hw11]) | (rw [show (w10.setCell ⟨g, 0, none⟩ (.int .u8 (s1.1 : Nat))).drew = w11 from hw11.symm])
  clear k0 k1 k2
  refine hK.out _ _ ?_
  clear hK KK
  try simp only [List.setIfInBounds_toArray, List.set_cons_zero, List.set_cons_succ]
  refine till_done (by decide +kernel) ?_ _
  refine NoPanic.normal ?_

  have H11x : Hid (Rx w11 g S6 ∧ Bx w11 XB 25 D2 ∧ Bx w11 M 25 D2 ∧ Bx w11 tg 9 (tcs T K) ∧ Below M w w11) := by
    obtain ⟨x1, x2, x3, x4, x5⟩ := H10.out
    have hg := set_gb w10.drew g 0 (.int .u8 (s1.1 : Nat))
    have x3d : Rx w10.drew g S2 := by obtain ⟨sp, z⟩ := x3; exact ⟨sp, z.keep rfl⟩
    have y3 := x3d.set 0 (by have := HSL.out; omega) s1
    rw [HS6.out] at y3
    have x1d : Bx w10.drew XB 25 D2 := x1.keep rfl
    have x2d : Bx w10.drew M 25 D2 := x2.keep rfl
    have x4d : Bx w10.drew tg 9 (tcs T K) := x4.keep rfl
    obtain ⟨sp, zg⟩ := x3d
    rw [hw11]
    exact ⟨y3, x1d.keep (hg.block XB x1d.lt (fun e => bx_unlike x1d zg (by decide) (by injection e))), x2d.keep (hg.block M x2d.lt (fun e => bx_unlike x2d zg (by decide) (by injection e))), x4d.keep (hg.block tg x4d.lt (fun e => bx_unlike x4d zg (by decide) (by injection e))), x5.drew.trans (below_gb hg (by rw [← HMM.out]; exact x5.drew.size) HCP.out.2.2.1)⟩
  clear hw11 hSA HCA HB10s H10
  go_upto_region 15 with fail
  obtain ⟨T3, HTT3⟩ : ∃ z, Hid (dealT sn S6 R N = z) := ⟨_, rfl⟩
  have HSL6 : Hid (1 ≤ S6.length ∧ S6.length ≤ 64) := by show _ ∧ _; rw [HL6.out.1]; exact HSL.out
  have HTG3 : Hid (∀ i, i < 255 → MGood (T3 i) (((shD sn S2 R N).sec S6).at' (fN (i + 1))) 0) := by
    rw [← HTT3.out, shD_sec sn S2 S6 R N HL6.out.1]
    exact deal_good_at sn S6 R N HSL6.out.1 HSL6.out.2 HNK.out.1 HNK.out.2.1
  obtain ⟨B11, HB11⟩ : ∃ z, Hid (w11.heap.size = z) := ⟨_, rfl⟩
  have HW11 : Hid (∀ u, Below B11 w11 u → Rx u g S6 ∧ Bx u XB 25 D2 ∧ Bx u M 25 D2 ∧ Bx u tg 9 (tcs T K) ∧ Below M w u) := fun u hu => by
    rw [← HB11.out] at hu
    obtain ⟨x1, x2, x3, x4, x5⟩ := H11x.out
    exact ⟨x1.below hu, x2.below hu, x3.below hu, x4.below hu, x5.trans (hu.mono (by rw [← HMM.out]; exact x5.size))⟩
  have H13 : Hid (∀ u, Below M w u → Calls Tryd.prog 13 #[.agg D2.toArray] u fun e w' => Hid (∃ v, e = .returned v ∧ Vf w' v R ∧ Below u.heap.size u w')) := fun u hu => by
    rw [← HD2.out, ← HRR.out]
    exact (random5_ok (sn : Int) (N : Nat) (K : Nat) false (some ⟨g, 0, none⟩) ra S2.length c rl rc Rd u (vf_rw hr.out).1 (HRV.out u hu)).mono fun e w' hh => hh
  have H12 : Hid (∀ u v, Below M w u → Vf u v R → Rx u g S6 → Calls Tryd.prog 12 #[.int .u16 (sn : Nat), .slice (some ⟨g, 0, none⟩) S2.length c, .int .i64 (N : Nat), .int .i64 (K : Nat), v] u fun e w' => Hid (∃ tg, e = .returned (.tuple #[.slice (some ⟨tg, 0, none⟩) K K, .int .i64 0]) ∧ u.heap.size ≤ tg ∧ Bx w' tg 9 (tcs T3 K) ∧ Below u.heap.size u w')) := fun u v hu hv hx2 => by
    have z := deal_use sn N K hsn.out S6 R T3 g c v u HSL6.out ⟨HNK.out.1, HNK.out.2.1, HNK.out.2.2.1, by have := HNK.out; omega⟩ (by rw [HL6.out.1, ← HRR.out]; exact rnd5_len _ _ _) HTT3.out (HTB.out u hu) ⟨by rw [HL6.out.1]; exact HCP.out.1, HCP.out.2.1⟩ hx2 hv
    rw [HL6.out.1] at z
    exact z
  have hSB : Below B11 w11 w11.drew := (Below.refl _ _).drew
  refine wp_region_noPanic ?_
  refine wp_region_held_drew (S := (fun u => Below B11 w11 u)) (by kernel_rfl) (hSB) (fun _ => ?_)
  refine takeH_at 0 93 (.pointer (some ⟨XB, 0, none⟩)) rfl rfl (by kernel_rfl) (by kernel_rfl) (by kernel_rfl) (fun _ _ _ h => h) (hSB) (Or.inl ⟨by rfl, fun w' hS' => by obtain ⟨k0, k1, k2, k3⟩ := HD2c.out _ (HW11.out _ hS').2.1; go_simp⟩) ?_
  try simp only [List.setIfInBounds_toArray, List.set_cons_zero, List.set_cons_succ]
  refine takeH_at 1 94 (.int .u16 (sn : Nat)) rfl rfl (by kernel_rfl) (by kernel_rfl) (by kernel_rfl) (fun _ _ _ h => h) (hSB) (Or.inl ⟨by rfl, fun w' hS' => by obtain ⟨k0, k1, k2, k3⟩ := HD2c.out _ (HW11.out _ hS').2.1; go_simp⟩) ?_
  try simp only [List.setIfInBounds_toArray, List.set_cons_zero, List.set_cons_succ]
  refine takeH_at 2 95 (.pointer (some ⟨XB, 1, none⟩)) rfl rfl (by kernel_rfl) (by kernel_rfl) (by kernel_rfl) (fun _ _ _ h => h) (hSB) (Or.inl ⟨by rfl, fun w' hS' => by obtain ⟨k0, k1, k2, k3⟩ := HD2c.out _ (HW11.out _ hS').2.1; go_simp⟩) ?_
  try simp only [List.setIfInBounds_toArray, List.set_cons_zero, List.set_cons_succ]
  refine takeH_at 3 96 (.slice (some ⟨g, 0, none⟩) S2.length c) rfl rfl (by kernel_rfl) (by kernel_rfl) (by kernel_rfl) (fun _ _ _ h => h) (hSB) (Or.inl ⟨by rfl, fun w' hS' => by obtain ⟨k0, k1, k2, k3⟩ := HD2c.out _ (HW11.out _ hS').2.1; go_simp⟩) ?_
  try simp only [List.setIfInBounds_toArray, List.set_cons_zero, List.set_cons_succ]
  refine takeH_at 4 97 (.pointer (some ⟨XB, 2, none⟩)) rfl rfl (by kernel_rfl) (by kernel_rfl) (by kernel_rfl) (fun _ _ _ h => h) (hSB) (Or.inl ⟨by rfl, fun w' hS' => by obtain ⟨k0, k1, k2, k3⟩ := HD2c.out _ (HW11.out _ hS').2.1; go_simp⟩) ?_
  try simp only [List.setIfInBounds_toArray, List.set_cons_zero, List.set_cons_succ]
  refine takeH_at 5 98 (.int .i64 (N : Nat)) rfl rfl (by kernel_rfl) (by kernel_rfl) (by kernel_rfl) (fun _ _ _ h => h) (hSB) (Or.inl ⟨by rfl, fun w' hS' => by obtain ⟨k0, k1, k2, k3⟩ := HD2c.out _ (HW11.out _ hS').2.1; go_simp⟩) ?_
  try simp only [List.setIfInBounds_toArray, List.set_cons_zero, List.set_cons_succ]
  refine takeH_at 6 99 (.pointer (some ⟨XB, 3, none⟩)) rfl rfl (by kernel_rfl) (by kernel_rfl) (by kernel_rfl) (fun _ _ _ h => h) (hSB) (Or.inl ⟨by rfl, fun w' hS' => by obtain ⟨k0, k1, k2, k3⟩ := HD2c.out _ (HW11.out _ hS').2.1; go_simp⟩) ?_
  try simp only [List.setIfInBounds_toArray, List.set_cons_zero, List.set_cons_succ]
  refine takeH_at 7 100 (.int .i64 (K : Nat)) rfl rfl (by kernel_rfl) (by kernel_rfl) (by kernel_rfl) (fun _ _ _ h => h) (hSB) (Or.inl ⟨by rfl, fun w' hS' => by obtain ⟨k0, k1, k2, k3⟩ := HD2c.out _ (HW11.out _ hS').2.1; go_simp⟩) ?_
  try simp only [List.setIfInBounds_toArray, List.set_cons_zero, List.set_cons_succ]
  refine takeH_at 8 101 (.agg D2.toArray) rfl rfl (by kernel_rfl) (by kernel_rfl) (by kernel_rfl) (fun _ _ _ h => h) (hSB) (yieldsIf_load_mid (by rfl) 25 (.tmp 11) rfl XB 0 rfl D2 _ (fun u hu => (HW11.out u hu).2.1.range) Tryd.underlying25 rfl hi2) ?_
  try simp only [List.setIfInBounds_toArray, List.set_cons_zero, List.set_cons_succ]
  refine wpAnyH_ready (rs := [9]) (by kernel_rfl) (by simp) ?_
  refine AllReadyH.cons rfl (fun KK hK => ?_) AllReadyH.nil
  go_simp
  refine (H13.out _ (HW11.out _ hSB).2.2.2.2).mono ?_
  intro e w12 hh
  obtain ⟨vr, rfl, hv, hb⟩ := hh.out
  have H12x : Hid (Below B11 w11 w12 ∧ Vf w12 vr R) := ⟨hSB.trans (hb.mono (by rw [← HB11.out]; exact hSB.size)), hv⟩
  clear hh hb hv
  go_wp2_with fail
  refine hK.out _ _ (H12x.out.1) (fun _ => ?_)
  clear hK KK
  try simp only [List.setIfInBounds_toArray, List.set_cons_zero, List.set_cons_succ]
  refine wpAnyH_ready (rs := [10]) (by kernel_rfl) (by simp) ?_
  refine AllReadyH.cons rfl (fun KK hK => ?_) AllReadyH.nil
  go_simp
  refine (H12.out _ _ (HW11.out _ H12x.out.1).2.2.2.2 H12x.out.2 (HW11.out _ H12x.out.1).1).mono ?_
  intro e w13 hh
  obtain ⟨tg3, rfl, hge, hv, hb⟩ := hh.out
  have H13x : Hid (Below B11 w11 w13 ∧ Bx w13 tg3 9 (tcs T3 K)) := ⟨H12x.out.1.trans (hb.mono (by rw [← HB11.out]; exact H12x.out.1.size)), hv⟩
  clear hh hb hv hge
  go_wp2_with fail
  refine hK.out _ _ (H13x.out.1) (fun _ => ?_)
  clear hK KK
  try simp only [List.setIfInBounds_toArray, List.set_cons_zero, List.set_cons_succ]
  refine takeH_at 11 92 (.tuple #[.slice (some ⟨tg3, 0, none⟩) K K, .int .i64 0]) rfl rfl (by kernel_rfl) (by kernel_rfl) (by kernel_rfl) (fun _ _ _ h => h) (H13x.out.1) (Or.inl ⟨by rfl, fun w' hS' => by go_simp⟩) ?_
  try simp only [List.setIfInBounds_toArray, List.set_cons_zero, List.set_cons_succ]
  refine takeH_at 12 104 (.slice (some ⟨tg3, 0, none⟩) K K) rfl rfl (by kernel_rfl) (by kernel_rfl) (by kernel_rfl) (fun _ _ _ h => h) (H13x.out.1) (Or.inl ⟨by rfl, fun w' hS' => by go_simp⟩) ?_
  try simp only [List.setIfInBounds_toArray, List.set_cons_zero, List.set_cons_succ]
  refine takeH_at 13 105 (.int .i64 0) rfl rfl (by kernel_rfl) (by kernel_rfl) (by kernel_rfl) (fun _ _ _ h => h) (H13x.out.1) (Or.inl ⟨by rfl, fun w' hS' => by go_simp⟩) ?_
  try simp only [List.setIfInBounds_toArray, List.set_cons_zero, List.set_cons_succ]
  refine wpAnyH_ready (rs := [14]) (by kernel_rfl) (by simp) ?_
  refine AllReadyH.cons rfl (fun KK hK => ?_) AllReadyH.nil
  go_simp
  refine hK.out _ _ (H13x.out.1) (fun _ => ?_)
  clear hK KK
  try simp only [List.setIfInBounds_toArray, List.set_cons_zero, List.set_cons_succ]
  refine wpAnyH_ready (rs := [15]) (by kernel_rfl) (by simp) ?_
  refine AllReadyH.cons rfl (fun KK hK => ?_) AllReadyH.nil
  go_simp
  refine hK.out _ _ (H13x.out.1) (fun _ => ?_)
  clear hK KK
  try simp only [List.setIfInBounds_toArray, List.set_cons_zero, List.set_cons_succ]
  refine wpAnyH_done (by kernel_rfl) ?_ _
  refine NoPanic.normal ?_

  clear hSB H12x H12 H13 hi1
  go_upto_region 16 with fail
  obtain ⟨B13, HB13⟩ : ∃ z, Hid (w13.heap.size = z) := ⟨_, rfl⟩
  have HCB : Hid (∀ u, Below B13 w13 u → u.cell? ⟨XB, 1, none⟩ = some (.slice (some ⟨g, 0, none⟩) S2.length c) ∧ u.cell? ⟨g, 0, none⟩ = some (.int .u8 (s1.1 : Nat)) ∧ u.frozen? ⟨g, 0, none⟩ = false) := fun u hu => by
    have hu2 : Below B11 w11 u := H13x.out.1.trans (hu.mono (by rw [← HB11.out, ← HB13.out]; exact H13x.out.1.size))
    have x := (HW11.out u hu2).1
    refine ⟨(HD2c.out u (HW11.out u hu2).2.1).2.1, ?_, x.frozen 0⟩
    rw [← HL6.out.2.1]
    exact x.cell 0 (by have := HSL6.out; omega)
  have hSC : Below B13 w13 w13.drew := (Below.refl _ _).drew
  refine wp_region_noPanic ?_
  refine wp_region_till (fun u => Below B13 w13 u) 10 (by kernel_rfl) (by decide) (by decide +kernel) (by decide +kernel) (by decide +kernel) (fun inv => ?_)
  refine till_at 0 106 (.pointer (some ⟨XB, 1, none⟩)) inv rfl rfl (by decide) (by decide +kernel) (by decide +kernel) (fun _ _ _ h => h) (hSC) (Or.inl ⟨by rfl, fun w' hS' => by obtain ⟨k0, k1, k2⟩ := HCB.out _ hS'; go_simp⟩) (fun inv' => ?_)
  clear inv; have inv := inv'; clear inv'
  try simp only [List.setIfInBounds_toArray, List.set_cons_zero, List.set_cons_succ]
  refine till_at 1 107 (.slice (some ⟨g, 0, none⟩) S2.length c) inv rfl rfl (by decide) (by decide +kernel) (by decide +kernel) (fun _ _ _ h => h) (hSC) (Or.inl ⟨by rfl, fun w' hS' => by obtain ⟨k0, k1, k2⟩ := HCB.out _ hS'; go_simp⟩) (fun inv' => ?_)
  clear inv; have inv := inv'; clear inv'
  try simp only [List.setIfInBounds_toArray, List.set_cons_zero, List.set_cons_succ]
  refine till_at 2 108 (.pointer (some ⟨XB, 1, none⟩)) inv rfl rfl (by decide) (by decide +kernel) (by decide +kernel) (fun _ _ _ h => h) (hSC) (Or.inl ⟨by rfl, fun w' hS' => by obtain ⟨k0, k1, k2⟩ := HCB.out _ hS'; go_simp⟩) (fun inv' => ?_)
  clear inv; have inv := inv'; clear inv'
  try simp only [List.setIfInBounds_toArray, List.set_cons_zero, List.set_cons_succ]
  refine till_at 3 109 (.slice (some ⟨g, 0, none⟩) S2.length c) inv rfl rfl (by decide) (by decide +kernel) (by decide +kernel) (fun _ _ _ h => h) (hSC) (Or.inl ⟨by rfl, fun w' hS' => by obtain ⟨k0, k1, k2⟩ := HCB.out _ hS'; go_simp⟩) (fun inv' => ?_)
  clear inv; have inv := inv'; clear inv'
  try simp only [List.setIfInBounds_toArray, List.set_cons_zero, List.set_cons_succ]
  refine till_at 4 110 (.pointer (some ⟨g, 0, none⟩)) inv rfl rfl (by decide) (by decide +kernel) (by decide +kernel) (fun _ _ _ h => h) (hSC) (Or.inl ⟨by rfl, fun w' hS' => by obtain ⟨k0, k1, k2⟩ := HCB.out _ hS'; go_simp⟩) (fun inv' => ?_)
  clear inv; have inv := inv'; clear inv'
  try simp only [List.setIfInBounds_toArray, List.set_cons_zero, List.set_cons_succ]
  refine till_at 5 111 (.int .u8 (s1.1 : Nat)) inv rfl rfl (by decide) (by decide +kernel) (by decide +kernel) (fun _ _ _ h => h) (hSC) (Or.inl ⟨by rfl, fun w' hS' => by obtain ⟨k0, k1, k2⟩ := HCB.out _ hS'; go_simp⟩) (fun inv' => ?_)
  clear inv; have inv := inv'; clear inv'
  try simp only [List.setIfInBounds_toArray, List.set_cons_zero, List.set_cons_succ]
  refine till_at 6 112 (.int .u8 (by0 : Nat)) inv rfl rfl (by decide) (by decide +kernel) (by decide +kernel) (fun _ _ _ h => h) (hSC) (Or.inl ⟨by rfl, fun w' hS' => by obtain ⟨k0, k1, k2⟩ := HCB.out _ hS'; go_simp⟩) (fun inv' => ?_)
  clear inv; have inv := inv'; clear inv'
  try simp only [List.setIfInBounds_toArray, List.set_cons_zero, List.set_cons_succ]
  refine till_at 7 113 (.int .u8 (b1.1 : Nat)) inv rfl rfl (by decide) (by decide +kernel) (by decide +kernel) (fun _ _ _ h => h) (hSC) (Or.inl ⟨by rfl, fun w' hS' => by obtain ⟨k0, k1, k2⟩ := HCB.out _ hS'; go_simp⟩) (fun inv' => ?_)
  clear inv; have inv := inv'; clear inv'
  try simp only [List.setIfInBounds_toArray, List.set_cons_zero, List.set_cons_succ]
  refine till_at 8 114 (.int .u8 (s2.1 : Nat)) inv rfl rfl (by decide) (by decide +kernel) (by decide +kernel) (fun _ _ _ h => h) (hSC) (Or.inl ⟨by rfl, fun w' hS' => by obtain ⟨k0, k1, k2⟩ := HCB.out _ hS'; go_simp⟩) (fun inv' => ?_)
  clear inv; have inv := inv'; clear inv'
  try simp only [List.setIfInBounds_toArray, List.set_cons_zero, List.set_cons_succ]
  refine till_at 9 115 (.pointer (some ⟨g, 0, none⟩)) inv rfl rfl (by decide) (by decide +kernel) (by decide +kernel) (fun _ _ _ h => h) (hSC) (Or.inl ⟨by rfl, fun w' hS' => by obtain ⟨k0, k1, k2⟩ := HCB.out _ hS'; go_simp⟩) (fun inv' => ?_)
  clear inv; have inv := inv'; clear inv'
  try simp only [List.setIfInBounds_toArray, List.set_cons_zero, List.set_cons_succ]
  refine till_tail (i := 10) (by decide +kernel) (by decide) rfl (fun KK hK => ?_)
  obtain ⟨k0, k1, k2⟩ := HCB.out _ hSC
  go_simp
  obtain ⟨w14, hw14⟩ : ∃ q, q = w13.drew.setCell ⟨g, 0, none⟩ (.int .u8 (s2.1 : Nat)) := ⟨_, rfl⟩
  first | (rw [← hw14]) | (rw [show (w13.setCell ⟨g, 0, none⟩ (.int .u8 (s2.1 : Nat))).drew = w14 from hw14.symm])
  clear k0 k1 k2
  refine hK.out _ _ ?_
  clear hK KK
  try simp only [List.setIfInBounds_toArray, List.set_cons_zero, List.set_cons_succ]
  refine till_done (by decide +kernel) ?_ _
  refine NoPanic.normal ?_

  have H14 : Hid (Bx w14 tg3 9 (tcs T3 K) ∧ Bx w14 M 25 D2 ∧ Bx w14 tg 9 (tcs T K) ∧ Below M w w14) := by
    obtain ⟨x1, x2, x3, x4, x5⟩ := HW11.out _ H13x.out.1
    have hg := set_gb w13.drew g 0 (.int .u8 (s2.1 : Nat))
    obtain ⟨sp, zg⟩ := x1
    have zgd : Bx w13.drew g 5 (fc S6 ++ sp) := zg.keep rfl
    have x0d : Bx w13.drew tg3 9 (tcs T3 K) := H13x.out.2.keep rfl
    have x3d : Bx w13.drew M 25 D2 := x3.keep rfl
    have x4d : Bx w13.drew tg 9 (tcs T K) := x4.keep rfl
    rw [hw14]
    exact ⟨x0d.keep (hg.block tg3 x0d.lt (fun e => bx_unlike x0d zgd (by decide) (by injection e))), x3d.keep (hg.block M x3d.lt (fun e => bx_unlike x3d zgd (by decide) (by injection e))), x4d.keep (hg.block tg x4d.lt (fun e => bx_unlike x4d zgd (by decide) (by injection e))), x5.drew.trans (below_gb hg (by rw [← HMM.out]; exact x5.drew.size) HCP.out.2.2.1)⟩
  clear hw14 hSC HCB HB13 H13x HW11 H11x HB11
  go_upto_region 19 with (first
    | (go_at_call 11; refine (H11.out _ _).mono ?_; rintro e1 wn ⟨rfl, hw⟩; obtain rfl := hw.symm; clear hw)
    | fail)
  obtain ⟨B14, HB14⟩ : ∃ z, Hid (w14.heap.size = z) := ⟨_, rfl⟩
  have HS14 : Hid (∀ u, Below B14 w14 u → Bx u tg3 9 (tcs T3 K) ∧ Bx u M 25 D2 ∧ Bx u tg 9 (tcs T K) ∧ Below M w u) := fun u hu => by
    rw [← HB14.out] at hu
    obtain ⟨x1, x2, x3, x4⟩ := H14.out
    exact ⟨x1.below hu, x2.below hu, x3.below hu, x4.trans (hu.mono (by rw [← HMM.out]; exact x4.size))⟩
  have HW0 : Hid (∀ u, Below B14 w14 u → Below M w u) := fun u hu => (HS14.out u hu).2.2.2
  have g3 : (0 : Int) ≤ (A : Int) := by omega
  have g4 : (A : Int) < (K : Int) := by have := HAK.out; omega
  go_cut [16, 17] from 126 to 138 (fun va vb wx => va = .slice none 0 0 ∧ vb = .int .i64 116 ∧ Hid (Below B14 w14 wx))
  case first =>
    have hSD : Below B14 w14 w14.drew := (Below.refl _ _).drew
    refine wp_region_noPanic ?_
    refine wp_region_held_drew (S := (fun u => Below B14 w14 u)) (by kernel_rfl) (hSD) (fun _ => ?_)
    refine takeH_at 1 128 (.slice (some ⟨tg, 0, none⟩) K K) rfl rfl (by kernel_rfl) (by kernel_rfl) (by kernel_rfl) (fun _ _ _ h => h) (hSD) (Or.inl ⟨by rfl, fun w' hS' => by have kq := (HS14.out _ hS').1.cell A _ (tcs_at T3 K A HAK.out.2); go_simp⟩) ?_
    try simp only [List.setIfInBounds_toArray, List.set_cons_zero, List.set_cons_succ]
    refine takeH_at 3 130 (.slice (some ⟨tg3, 0, none⟩) K K) rfl rfl (by kernel_rfl) (by kernel_rfl) (by kernel_rfl) (fun _ _ _ h => h) (hSD) (Or.inl ⟨by rfl, fun w' hS' => by have kq := (HS14.out _ hS').1.cell A _ (tcs_at T3 K A HAK.out.2); go_simp⟩) ?_
    try simp only [List.setIfInBounds_toArray, List.set_cons_zero, List.set_cons_succ]
    refine takeH_at 4 131 (.int .i64 (A : Nat)) rfl rfl (by kernel_rfl) (by kernel_rfl) (by kernel_rfl) (fun _ _ _ h => h) (hSD) (Or.inl ⟨by rfl, fun w' hS' => by have kq := (HS14.out _ hS').1.cell A _ (tcs_at T3 K A HAK.out.2); go_simp⟩) ?_
    try simp only [List.setIfInBounds_toArray, List.set_cons_zero, List.set_cons_succ]
    refine takeH_at 5 132 (.pointer (some ⟨tg3, A, none⟩)) rfl rfl (by kernel_rfl) (by kernel_rfl) (by kernel_rfl) (fun _ _ _ h => h) (hSD) (Or.inl ⟨by rfl, fun w' hS' => by have kq := (HS14.out _ hS').1.cell A _ (tcs_at T3 K A HAK.out.2); go_simp⟩) ?_
    try simp only [List.setIfInBounds_toArray, List.set_cons_zero, List.set_cons_succ]
    refine takeH_at 6 133 (.string (T3 A)) rfl rfl (by kernel_rfl) (by kernel_rfl) (by kernel_rfl) (fun _ _ _ h => h) (hSD) (Or.inl ⟨by rfl, fun w' hS' => by have kq := (HS14.out _ hS').1.cell A _ (tcs_at T3 K A HAK.out.2); go_simp⟩) ?_
    try simp only [List.setIfInBounds_toArray, List.set_cons_zero, List.set_cons_succ]
    refine wpAnyH_ready (rs := [0, 7]) (by kernel_rfl) (by simp) ?_
    refine AllReadyH.cons rfl (fun KK hK => ?_) (AllReadyH.cons rfl (fun KK hK => ?_) AllReadyH.nil)
    · skip
      go_simp
      obtain ⟨kz42, hkz42⟩ : ∃ z, Hid (w14.drew.heap.size = z) := ⟨_, rfl⟩
      obtain ⟨wz40, hwz40⟩ : ∃ q, q = w14.drew.alloc (.cells #[] 9) := ⟨_, rfl⟩
      have HZ41 : Hid (Below B14 w14 wz40 ∧ (Bx wz40 kz42 9 [] ∧ B14 ≤ kz42)) := by
        rw [hwz40, ← hkz42.out]
        have hsz := (show Below B14 w14 w14.drew from hSD).size
        rw [HB14.out] at hsz
        exact ⟨Below.alloc (hSD) hsz _, ⟨Bx.new w14.drew 9 [], hsz⟩⟩
      first | (rw [← hwz40]) | (rw [show (w14.alloc (.cells #[] 9)).drew = wz40 from hwz40.symm])
      first | (rw [hkz42.out]) | (rw [show w14.heap.size = kz42 from hkz42.out]) | skip
      clear hwz40
      refine hK.out _ _ (HZ41.out.1) (fun _ => ?_)
      clear hK KK
      try simp only [List.setIfInBounds_toArray, List.set_cons_zero, List.set_cons_succ]
      refine wpAnyH_ready (rs := [2, 7]) (by kernel_rfl) (by simp) ?_
      refine AllReadyH.cons rfl (fun KK hK => ?_) (AllReadyH.cons rfl (fun KK hK => ?_) AllReadyH.nil)
      · skip
        refine step_app_e rfl (.tmp 127) (.tmp 128) rfl B14 kz42 rfl (HZ41.out.2).1 (HZ41.out.2).2 tg 0 K K (tcs T K) rfl (tcs_len _ _) (by have := HNK.out; omega) (fun j u hu => by rw [Nat.zero_add]; exact (HS14.out _ (HZ41.out.1)).2.2.1.cell j u hu) (tcs_one _ _) (by have := HNK.out; omega) ?_
        intro ag45 ac46 wp43 ho hb hgr
        have HZ44 : Hid (Below B14 w14 wp43 ∧ OwC wp43 B14 (.slice (some ⟨ag45, 0, none⟩) K ac46) K (tcs T K)) := ⟨(show Below B14 w14 wz40 from HZ41.out.1).trans hb, ho⟩
        clear ho hb hgr
        refine hK.out _ _ (HZ44.out.1) (fun _ => ?_)
        clear hK KK
        try simp only [List.setIfInBounds_toArray, List.set_cons_zero, List.set_cons_succ]
        refine wpAnyH_ready (rs := [7]) (by kernel_rfl) (by simp) ?_
        refine AllReadyH.cons rfl (fun KK hK => ?_) AllReadyH.nil
        go_simp
        obtain ⟨ob49, hob49⟩ : ∃ z, Hid (wp43.heap.size = z) := ⟨_, rfl⟩
        obtain ⟨wo47, hwo47⟩ : ∃ q, q = wp43.alloc (.cells #[.string (T3 A)] 9) := ⟨_, rfl⟩
        have HZ48 : Hid (Below B14 w14 wo47 ∧ Bx wo47 ob49 9 [.string (T3 A)] ∧ OwC wo47 B14 (.slice (some ⟨ag45, 0, none⟩) K ac46) (K) (tcs T K)) := by
          rw [hwo47, ← hob49.out]
          have hsz := (show Below B14 w14 wp43 from HZ44.out.1).size
          rw [HB14.out] at hsz
          exact ⟨Below.alloc (HZ44.out.1) hsz _, Bx.new wp43 9 [.string (T3 A)], (HZ44.out.2).below ((Below.refl _ _).alloc (Nat.le_refl _) _)⟩
        first | (rw [← hwo47]) | (rw [show (w14.alloc (.cells #[.string (T3 A)] 9)).drew = wo47 from hwo47.symm])
        first | (rw [hob49.out]) | (rw [show w14.heap.size = ob49 from hob49.out]) | skip
        clear hwo47
        refine hK.out _ _ (HZ48.out.1) (fun _ => ?_)
        clear hK KK
        try simp only [List.setIfInBounds_toArray, List.set_cons_zero, List.set_cons_succ]
        refine wpAnyH_ready (rs := [8]) (by kernel_rfl) (by simp) ?_
        refine AllReadyH.cons rfl (fun KK hK => ?_) AllReadyH.nil
        refine step_app_oc rfl (.tmp 129) (.tmp 134) rfl B14 _ rfl K (tcs T K) (HZ48.out.2.2) ob49 0 1 1 [.string (T3 A)] rfl rfl (by decide) (fun j u hu => by rw [Nat.zero_add]; exact (HZ48.out.2.1).cell j u hu) (one_str _) (by have := HNK.out; omega) ?_
        intro ag52 ac53 wq50 ho hb
        rw [plus_tcs] at ho
        have HZ51 : Hid (Below B14 w14 wq50 ∧ OwC wq50 B14 (.slice (some ⟨ag52, 0, none⟩) (K + 1) ac53) (K + 1) (tcs (plusT T K (T3 A)) (K + 1))) := ⟨(show Below B14 w14 wo47 from HZ48.out.1).trans hb, ho⟩
        clear ho hb
        refine hK.out _ _ (HZ51.out.1) (fun _ => ?_)
        clear hK KK
        try simp only [List.setIfInBounds_toArray, List.set_cons_zero, List.set_cons_succ]
        refine wpAnyH_ready (rs := [9]) (by kernel_rfl) (by simp) ?_
        refine AllReadyH.cons rfl (fun KK hK => ?_) AllReadyH.nil
        go_simp
        have HJ : Hid (Calls Tryd.prog 10 #[.slice (some ⟨ag52, 0, none⟩) (K + 1) ac53] wq50 fun e w' => Hid (e = .returned (.tuple #[.slice none 0 0, .int .i64 116]) ∧ Below wq50.heap.size wq50 w')) :=
          (Join_ok (some ⟨ag52, 0, none⟩) (K + 1) ac53 (plusT T K (T3 A)) wq50 (show _ ≤ _ by have := HNK.out; omega) (show ∀ k, k < K + 1 → _ from fun k hk => ⟨_, 0, rfl, by rw [Nat.zero_add]; exact (HZ51.out.2).cell k _ (tcs_at _ _ k hk)⟩) (HTB.out _ (HW0.out _ (HZ51.out.1)))).mono fun e w' hj => join_116 HZO.out HL6.out.1 HL6.out.2.2 HTG.out HTG3.out (by have := HNK.out; omega) HAK.out.2 hj
        refine HJ.out.mono ?_
        intro e w15 hh
        obtain ⟨rfl, hb⟩ := hh.out
        have H15 : Hid (Below B14 w14 w15) := (show Below B14 w14 wq50 from HZ51.out.1).trans (hb.mono (by rw [← HB14.out]; exact (show Below B14 w14 wq50 from HZ51.out.1).size))
        clear hh hb HJ
        go_wp2_with fail
        refine hK.out _ _ (H15.out) (fun _ => ?_)
        clear hK KK
        try simp only [List.setIfInBounds_toArray, List.set_cons_zero, List.set_cons_succ]
        refine takeH_at 10 126 (.tuple #[.slice none 0 0, .int .i64 116]) rfl rfl (by kernel_rfl) (by kernel_rfl) (by kernel_rfl) (fun _ _ _ h => h) (H15.out) (Or.inl ⟨by rfl, fun w' hS' => by go_simp⟩) ?_
        try simp only [List.setIfInBounds_toArray, List.set_cons_zero, List.set_cons_succ]
        refine takeH_at 11 137 (.slice none 0 0) rfl rfl (by kernel_rfl) (by kernel_rfl) (by kernel_rfl) (fun _ _ _ h => h) (H15.out) (Or.inl ⟨by rfl, fun w' hS' => by go_simp⟩) ?_
        try simp only [List.setIfInBounds_toArray, List.set_cons_zero, List.set_cons_succ]
        refine takeH_at 12 138 (.int .i64 116) rfl rfl (by kernel_rfl) (by kernel_rfl) (by kernel_rfl) (fun _ _ _ h => h) (H15.out) (Or.inl ⟨by rfl, fun w' hS' => by go_simp⟩) ?_
        try simp only [List.setIfInBounds_toArray, List.set_cons_zero, List.set_cons_succ]
        refine wpAnyH_ready (rs := [13]) (by kernel_rfl) (by simp) ?_
        refine AllReadyH.cons rfl (fun KK hK => ?_) AllReadyH.nil
        go_simp
        refine hK.out _ _ (H15.out) (fun _ => ?_)
        clear hK KK
        try simp only [List.setIfInBounds_toArray, List.set_cons_zero, List.set_cons_succ]
        refine wpAnyH_ready (rs := [14]) (by kernel_rfl) (by simp) ?_
        refine AllReadyH.cons rfl (fun KK hK => ?_) AllReadyH.nil
        go_simp
        refine hK.out _ _ (H15.out) (fun _ => ?_)
        clear hK KK
        try simp only [List.setIfInBounds_toArray, List.set_cons_zero, List.set_cons_succ]
        refine wpAnyH_done (by kernel_rfl) ?_ _
        refine NoPanic.normal ?_
        go_wp2_with fail
        go_meet
        exact ⟨rfl, rfl, H15⟩
      · skip
        go_simp
        obtain ⟨ob56, hob56⟩ : ∃ z, Hid (wz40.heap.size = z) := ⟨_, rfl⟩
        obtain ⟨wo54, hwo54⟩ : ∃ q, q = wz40.alloc (.cells #[.string (T3 A)] 9) := ⟨_, rfl⟩
        have HZ55 : Hid (Below B14 w14 wo54 ∧ Bx wo54 ob56 9 [.string (T3 A)] ∧ (Bx wo54 kz42 9 [] ∧ B14 ≤ kz42)) := by
          rw [hwo54, ← hob56.out]
          have hsz := (show Below B14 w14 wz40 from HZ41.out.1).size
          rw [HB14.out] at hsz
          exact ⟨Below.alloc (HZ41.out.1) hsz _, Bx.new wz40 9 [.string (T3 A)], ⟨(HZ41.out.2).1.below ((Below.refl _ _).alloc (Nat.le_refl _) _), (HZ41.out.2).2⟩⟩
        first | (rw [← hwo54]) | (rw [show (w14.alloc (.cells #[.string (T3 A)] 9)).drew = wo54 from hwo54.symm])
        first | (rw [hob56.out]) | (rw [show w14.heap.size = ob56 from hob56.out]) | skip
        clear hwo54
        refine hK.out _ _ (HZ55.out.1) (fun _ => ?_)
        clear hK KK
        try simp only [List.setIfInBounds_toArray, List.set_cons_zero, List.set_cons_succ]
        refine wpAnyH_ready (rs := [2]) (by kernel_rfl) (by simp) ?_
        refine AllReadyH.cons rfl (fun KK hK => ?_) AllReadyH.nil
        refine step_app_e rfl (.tmp 127) (.tmp 128) rfl B14 kz42 rfl (HZ55.out.2.2).1 (HZ55.out.2.2).2 tg 0 K K (tcs T K) rfl (tcs_len _ _) (by have := HNK.out; omega) (fun j u hu => by rw [Nat.zero_add]; exact (HS14.out _ (HZ55.out.1)).2.2.1.cell j u hu) (tcs_one _ _) (by have := HNK.out; omega) ?_
        intro ag59 ac60 wp57 ho hb hgr
        have HZ58 : Hid (Below B14 w14 wp57 ∧ OwC wp57 B14 (.slice (some ⟨ag59, 0, none⟩) K ac60) K (tcs T K) ∧ Bx wp57 ob56 9 [.string (T3 A)]) := ⟨(show Below B14 w14 wo54 from HZ55.out.1).trans hb, ho, (HZ55.out.2.1).keep (hgr.block _ (HZ55.out.2.1).lt (fun e => Bx.ne_list (HZ55.out.2.1) (HZ55.out.2.2).1 (by simp) (by injection e)))⟩
        clear ho hb hgr
        refine hK.out _ _ (HZ58.out.1) (fun _ => ?_)
        clear hK KK
        try simp only [List.setIfInBounds_toArray, List.set_cons_zero, List.set_cons_succ]
        refine wpAnyH_ready (rs := [8]) (by kernel_rfl) (by simp) ?_
        refine AllReadyH.cons rfl (fun KK hK => ?_) AllReadyH.nil
        refine step_app_oc rfl (.tmp 129) (.tmp 134) rfl B14 _ rfl K (tcs T K) (HZ58.out.2.1) ob56 0 1 1 [.string (T3 A)] rfl rfl (by decide) (fun j u hu => by rw [Nat.zero_add]; exact (HZ58.out.2.2).cell j u hu) (one_str _) (by have := HNK.out; omega) ?_
        intro ag63 ac64 wq61 ho hb
        rw [plus_tcs] at ho
        have HZ62 : Hid (Below B14 w14 wq61 ∧ OwC wq61 B14 (.slice (some ⟨ag63, 0, none⟩) (K + 1) ac64) (K + 1) (tcs (plusT T K (T3 A)) (K + 1))) := ⟨(show Below B14 w14 wp57 from HZ58.out.1).trans hb, ho⟩
        clear ho hb
        refine hK.out _ _ (HZ62.out.1) (fun _ => ?_)
        clear hK KK
        try simp only [List.setIfInBounds_toArray, List.set_cons_zero, List.set_cons_succ]
        refine wpAnyH_ready (rs := [9]) (by kernel_rfl) (by simp) ?_
        refine AllReadyH.cons rfl (fun KK hK => ?_) AllReadyH.nil
        go_simp
        have HJ : Hid (Calls Tryd.prog 10 #[.slice (some ⟨ag63, 0, none⟩) (K + 1) ac64] wq61 fun e w' => Hid (e = .returned (.tuple #[.slice none 0 0, .int .i64 116]) ∧ Below wq61.heap.size wq61 w')) :=
          (Join_ok (some ⟨ag63, 0, none⟩) (K + 1) ac64 (plusT T K (T3 A)) wq61 (show _ ≤ _ by have := HNK.out; omega) (show ∀ k, k < K + 1 → _ from fun k hk => ⟨_, 0, rfl, by rw [Nat.zero_add]; exact (HZ62.out.2).cell k _ (tcs_at _ _ k hk)⟩) (HTB.out _ (HW0.out _ (HZ62.out.1)))).mono fun e w' hj => join_116 HZO.out HL6.out.1 HL6.out.2.2 HTG.out HTG3.out (by have := HNK.out; omega) HAK.out.2 hj
        refine HJ.out.mono ?_
        intro e w15 hh
        obtain ⟨rfl, hb⟩ := hh.out
        have H15 : Hid (Below B14 w14 w15) := (show Below B14 w14 wq61 from HZ62.out.1).trans (hb.mono (by rw [← HB14.out]; exact (show Below B14 w14 wq61 from HZ62.out.1).size))
        clear hh hb HJ
        go_wp2_with fail
        refine hK.out _ _ (H15.out) (fun _ => ?_)
        clear hK KK
        try simp only [List.setIfInBounds_toArray, List.set_cons_zero, List.set_cons_succ]
        refine takeH_at 10 126 (.tuple #[.slice none 0 0, .int .i64 116]) rfl rfl (by kernel_rfl) (by kernel_rfl) (by kernel_rfl) (fun _ _ _ h => h) (H15.out) (Or.inl ⟨by rfl, fun w' hS' => by go_simp⟩) ?_
        try simp only [List.setIfInBounds_toArray, List.set_cons_zero, List.set_cons_succ]
        refine takeH_at 11 137 (.slice none 0 0) rfl rfl (by kernel_rfl) (by kernel_rfl) (by kernel_rfl) (fun _ _ _ h => h) (H15.out) (Or.inl ⟨by rfl, fun w' hS' => by go_simp⟩) ?_
        try simp only [List.setIfInBounds_toArray, List.set_cons_zero, List.set_cons_succ]
        refine takeH_at 12 138 (.int .i64 116) rfl rfl (by kernel_rfl) (by kernel_rfl) (by kernel_rfl) (fun _ _ _ h => h) (H15.out) (Or.inl ⟨by rfl, fun w' hS' => by go_simp⟩) ?_
        try simp only [List.setIfInBounds_toArray, List.set_cons_zero, List.set_cons_succ]
        refine wpAnyH_ready (rs := [13]) (by kernel_rfl) (by simp) ?_
        refine AllReadyH.cons rfl (fun KK hK => ?_) AllReadyH.nil
        go_simp
        refine hK.out _ _ (H15.out) (fun _ => ?_)
        clear hK KK
        try simp only [List.setIfInBounds_toArray, List.set_cons_zero, List.set_cons_succ]
        refine wpAnyH_ready (rs := [14]) (by kernel_rfl) (by simp) ?_
        refine AllReadyH.cons rfl (fun KK hK => ?_) AllReadyH.nil
        go_simp
        refine hK.out _ _ (H15.out) (fun _ => ?_)
        clear hK KK
        try simp only [List.setIfInBounds_toArray, List.set_cons_zero, List.set_cons_succ]
        refine wpAnyH_done (by kernel_rfl) ?_ _
        refine NoPanic.normal ?_
        go_wp2_with fail
        go_meet
        exact ⟨rfl, rfl, H15⟩
    · skip
      go_simp
      obtain ⟨ob67, hob67⟩ : ∃ z, Hid (w14.drew.heap.size = z) := ⟨_, rfl⟩
      obtain ⟨wo65, hwo65⟩ : ∃ q, q = w14.drew.alloc (.cells #[.string (T3 A)] 9) := ⟨_, rfl⟩
      have HZ66 : Hid (Below B14 w14 wo65 ∧ Bx wo65 ob67 9 [.string (T3 A)]) := by
        rw [hwo65, ← hob67.out]
        have hsz := (show Below B14 w14 w14.drew from hSD).size
        rw [HB14.out] at hsz
        exact ⟨Below.alloc (hSD) hsz _, Bx.new w14.drew 9 [.string (T3 A)]⟩
      first | (rw [← hwo65]) | (rw [show (w14.alloc (.cells #[.string (T3 A)] 9)).drew = wo65 from hwo65.symm])
      first | (rw [hob67.out]) | (rw [show w14.heap.size = ob67 from hob67.out]) | skip
      clear hwo65
      refine hK.out _ _ (HZ66.out.1) (fun _ => ?_)
      clear hK KK
      try simp only [List.setIfInBounds_toArray, List.set_cons_zero, List.set_cons_succ]
      refine wpAnyH_ready (rs := [0]) (by kernel_rfl) (by simp) ?_
      refine AllReadyH.cons rfl (fun KK hK => ?_) AllReadyH.nil
      go_simp
      obtain ⟨kz70, hkz70⟩ : ∃ z, Hid (wo65.heap.size = z) := ⟨_, rfl⟩
      obtain ⟨wz68, hwz68⟩ : ∃ q, q = wo65.alloc (.cells #[] 9) := ⟨_, rfl⟩
      have HZ69 : Hid (Below B14 w14 wz68 ∧ (Bx wz68 kz70 9 [] ∧ B14 ≤ kz70) ∧ Bx wz68 ob67 9 [.string (T3 A)]) := by
        rw [hwz68, ← hkz70.out]
        have hsz := (show Below B14 w14 wo65 from HZ66.out.1).size
        rw [HB14.out] at hsz
        exact ⟨Below.alloc (HZ66.out.1) hsz _, ⟨Bx.new wo65 9 [], hsz⟩, (HZ66.out.2).below ((Below.refl _ _).alloc (Nat.le_refl _) _)⟩
      first | (rw [← hwz68]) | (rw [show (w14.alloc (.cells #[] 9)).drew = wz68 from hwz68.symm])
      first | (rw [hkz70.out]) | (rw [show w14.heap.size = kz70 from hkz70.out]) | skip
      clear hwz68
      refine hK.out _ _ (HZ69.out.1) (fun _ => ?_)
      clear hK KK
      try simp only [List.setIfInBounds_toArray, List.set_cons_zero, List.set_cons_succ]
      refine wpAnyH_ready (rs := [2]) (by kernel_rfl) (by simp) ?_
      refine AllReadyH.cons rfl (fun KK hK => ?_) AllReadyH.nil
      refine step_app_e rfl (.tmp 127) (.tmp 128) rfl B14 kz70 rfl (HZ69.out.2.1).1 (HZ69.out.2.1).2 tg 0 K K (tcs T K) rfl (tcs_len _ _) (by have := HNK.out; omega) (fun j u hu => by rw [Nat.zero_add]; exact (HS14.out _ (HZ69.out.1)).2.2.1.cell j u hu) (tcs_one _ _) (by have := HNK.out; omega) ?_
      intro ag73 ac74 wp71 ho hb hgr
      have HZ72 : Hid (Below B14 w14 wp71 ∧ OwC wp71 B14 (.slice (some ⟨ag73, 0, none⟩) K ac74) K (tcs T K) ∧ Bx wp71 ob67 9 [.string (T3 A)]) := ⟨(show Below B14 w14 wz68 from HZ69.out.1).trans hb, ho, (HZ69.out.2.2).keep (hgr.block _ (HZ69.out.2.2).lt (fun e => Bx.ne_list (HZ69.out.2.2) (HZ69.out.2.1).1 (by simp) (by injection e)))⟩
      clear ho hb hgr
      refine hK.out _ _ (HZ72.out.1) (fun _ => ?_)
      clear hK KK
      try simp only [List.setIfInBounds_toArray, List.set_cons_zero, List.set_cons_succ]
      refine wpAnyH_ready (rs := [8]) (by kernel_rfl) (by simp) ?_
      refine AllReadyH.cons rfl (fun KK hK => ?_) AllReadyH.nil
      refine step_app_oc rfl (.tmp 129) (.tmp 134) rfl B14 _ rfl K (tcs T K) (HZ72.out.2.1) ob67 0 1 1 [.string (T3 A)] rfl rfl (by decide) (fun j u hu => by rw [Nat.zero_add]; exact (HZ72.out.2.2).cell j u hu) (one_str _) (by have := HNK.out; omega) ?_
      intro ag77 ac78 wq75 ho hb
      rw [plus_tcs] at ho
      have HZ76 : Hid (Below B14 w14 wq75 ∧ OwC wq75 B14 (.slice (some ⟨ag77, 0, none⟩) (K + 1) ac78) (K + 1) (tcs (plusT T K (T3 A)) (K + 1))) := ⟨(show Below B14 w14 wp71 from HZ72.out.1).trans hb, ho⟩
      clear ho hb
      refine hK.out _ _ (HZ76.out.1) (fun _ => ?_)
      clear hK KK
      try simp only [List.setIfInBounds_toArray, List.set_cons_zero, List.set_cons_succ]
      refine wpAnyH_ready (rs := [9]) (by kernel_rfl) (by simp) ?_
      refine AllReadyH.cons rfl (fun KK hK => ?_) AllReadyH.nil
      go_simp
      have HJ : Hid (Calls Tryd.prog 10 #[.slice (some ⟨ag77, 0, none⟩) (K + 1) ac78] wq75 fun e w' => Hid (e = .returned (.tuple #[.slice none 0 0, .int .i64 116]) ∧ Below wq75.heap.size wq75 w')) :=
        (Join_ok (some ⟨ag77, 0, none⟩) (K + 1) ac78 (plusT T K (T3 A)) wq75 (show _ ≤ _ by have := HNK.out; omega) (show ∀ k, k < K + 1 → _ from fun k hk => ⟨_, 0, rfl, by rw [Nat.zero_add]; exact (HZ76.out.2).cell k _ (tcs_at _ _ k hk)⟩) (HTB.out _ (HW0.out _ (HZ76.out.1)))).mono fun e w' hj => join_116 HZO.out HL6.out.1 HL6.out.2.2 HTG.out HTG3.out (by have := HNK.out; omega) HAK.out.2 hj
      refine HJ.out.mono ?_
      intro e w15 hh
      obtain ⟨rfl, hb⟩ := hh.out
      have H15 : Hid (Below B14 w14 w15) := (show Below B14 w14 wq75 from HZ76.out.1).trans (hb.mono (by rw [← HB14.out]; exact (show Below B14 w14 wq75 from HZ76.out.1).size))
      clear hh hb HJ
      go_wp2_with fail
      refine hK.out _ _ (H15.out) (fun _ => ?_)
      clear hK KK
      try simp only [List.setIfInBounds_toArray, List.set_cons_zero, List.set_cons_succ]
      refine takeH_at 10 126 (.tuple #[.slice none 0 0, .int .i64 116]) rfl rfl (by kernel_rfl) (by kernel_rfl) (by kernel_rfl) (fun _ _ _ h => h) (H15.out) (Or.inl ⟨by rfl, fun w' hS' => by go_simp⟩) ?_
      try simp only [List.setIfInBounds_toArray, List.set_cons_zero, List.set_cons_succ]
      refine takeH_at 11 137 (.slice none 0 0) rfl rfl (by kernel_rfl) (by kernel_rfl) (by kernel_rfl) (fun _ _ _ h => h) (H15.out) (Or.inl ⟨by rfl, fun w' hS' => by go_simp⟩) ?_
      try simp only [List.setIfInBounds_toArray, List.set_cons_zero, List.set_cons_succ]
      refine takeH_at 12 138 (.int .i64 116) rfl rfl (by kernel_rfl) (by kernel_rfl) (by kernel_rfl) (fun _ _ _ h => h) (H15.out) (Or.inl ⟨by rfl, fun w' hS' => by go_simp⟩) ?_
      try simp only [List.setIfInBounds_toArray, List.set_cons_zero, List.set_cons_succ]
      refine wpAnyH_ready (rs := [13]) (by kernel_rfl) (by simp) ?_
      refine AllReadyH.cons rfl (fun KK hK => ?_) AllReadyH.nil
      go_simp
      refine hK.out _ _ (H15.out) (fun _ => ?_)
      clear hK KK
      try simp only [List.setIfInBounds_toArray, List.set_cons_zero, List.set_cons_succ]
      refine wpAnyH_ready (rs := [14]) (by kernel_rfl) (by simp) ?_
      refine AllReadyH.cons rfl (fun KK hK => ?_) AllReadyH.nil
      go_simp
      refine hK.out _ _ (H15.out) (fun _ => ?_)
      clear hK KK
      try simp only [List.setIfInBounds_toArray, List.set_cons_zero, List.set_cons_succ]
      refine wpAnyH_done (by kernel_rfl) ?_ _
      refine NoPanic.normal ?_
      go_wp2_with fail
      go_meet
      exact ⟨rfl, rfl, H15⟩
  case rest =>
  obtain ⟨rfl, rfl, HB⟩ := hcut
  rename World => wy
  have HY := HS14.out wy HB.out
  have kN : wy.cell? ⟨M, 2, none⟩ = some (.int .i64 (N : Nat)) ∧ wy.cell? ⟨M, 3, none⟩ = some (.int .i64 (K : Nat)) := by
    have x1 := HY.2.1
    rw [← HD2.out] at x1
    exact ⟨x1.cell 2 _ rfl, x1.cell 3 _ rfl⟩
  obtain ⟨kn1, kn2⟩ := kN
  go_upto_region 22 with (first
    | (go_at_call 11; refine (H11.out _ _).mono ?_; rintro e1 wn ⟨rfl, hw⟩; obtain rfl := hw.symm; clear hw)
    | fail)
  by_cases hKN : K = N
  · have g7 : ((K : Nat) : Int) = ((N : Nat) : Int) := by rw [hKN]
    clear hKN
    go_wp2
    go_ret
    exact ⟨rfl, HY.2.2.2⟩
  · have g7 : ¬ ((K : Nat) : Int) = ((N : Nat) : Int) := by omega
    have HKN : Hid (N < K) := by show _ < _; have := HNK.out; omega
    clear hKN
    have HEM : Hid (OwC (wy.alloc (.cells #[] 9)) wy.heap.size (.slice (some ⟨wy.heap.size, 0, none⟩) 0 0) 0 [] ∧ Bx (wy.alloc (.cells #[] 9)) tg 9 (tcs T K) ∧ Bx (wy.alloc (.cells #[] 9)) tg3 9 (tcs T3 K) ∧ Below M w (wy.alloc (.cells #[] 9)) ∧ M ≤ wy.heap.size) := by
      have hb : Below wy.heap.size wy (wy.alloc (.cells #[] 9)) := (Below.refl _ _).alloc (Nat.le_refl _) _
      have hm : M ≤ wy.heap.size := by rw [← HMM.out]; exact HY.2.2.2.size
      exact ⟨OwC.new0 wy wy.heap.size (Nat.le_refl _), HY.2.2.1.below hb, HY.1.below hb, HY.2.2.2.trans (hb.mono hm), hm⟩
    go_upto_region 24 with fail
    clear kn1 kn2 g7 HS14 HW0
    go_upto_region 25 with (first
      | (at_builtin; go_must (refine wpList_app_e rfl (.tmp 152) (.tmp 153) rfl wy.heap.size _ rfl HEM.out.1 tg 0 K K (tcs T K) rfl (tcs_len _ _) (by have := HNK.out; omega) (fun j u hu => by rw [Nat.zero_add]; exact HEM.out.2.1.cell j u hu) (tcs_one _ _) (by have := HNK.out; omega) ?_; intro ag ac w16 ho hb; have H16 : Hid (OwC w16 wy.heap.size (.slice (some ⟨ag, 0, none⟩) K ac) K (tcs T K) ∧ Bx w16 tg3 9 (tcs T3 K) ∧ Below M w w16 ∧ M ≤ wy.heap.size) := (by
          obtain ⟨x1, x2, x3, x4, x5⟩ := HEM.out
          refine ⟨ho, ?_, x4.trans (hb.mono x5), x5⟩
          exact x3.keep (hb.block tg3 (by have := HY.1.lt; omega))); clear ho hb))
      | fail)
    obtain ⟨sp, HSP⟩ : ∃ sp, Hid (Bx w16 ag 9 (tcs T K ++ sp) ∧ M ≤ ag) := by
      obtain ⟨sp, z1, z2⟩ := H16.out.1.bx (by have := HNK.out; omega)
      exact ⟨sp, z1, Nat.le_trans H16.out.2.2.2 z2⟩
    have kT : w16.cell? ⟨tg3, A, none⟩ = some (.string (T3 A)) := H16.out.2.1.cell A _ (tcs_at T3 K A HAK.out.2)
    have ca : w16.cell? ⟨ag, A, none⟩ = some (.string (T A)) := H16.out.1.cell A _ (tcs_at T K A HAK.out.2)
    have fz : w16.frozen? ⟨ag, A, none⟩ = false := HSP.out.1.frozen A
    obtain ⟨w17, hw17⟩ : ∃ u, u = w16.setCell ⟨ag, A, none⟩ (.string (T3 A)) := ⟨_, rfl⟩
    have H17 : Hid ((∀ i, i < K → w17.cell? ⟨ag, i, none⟩ = some (.string (mixT T T3 A i))) ∧ Below M w w17) := by
      have y := HSP.out.1.set A (.string (T3 A))
      rw [hw17]
      refine ⟨fun i hi => y.cell i _ ?_, H16.out.2.2.1.trans (below_gb (set_gb _ _ _ _) (by rw [← HMM.out]; exact H16.out.2.2.1.size) HSP.out.2)⟩
      have hl : (tcs T K).length = K := tcs_len T K
      rw [List.getElem?_set]
      unfold mixT
      by_cases e : A = i
      · subst e
        rw [if_pos rfl, if_pos (by rw [List.length_append, hl]; omega), if_pos rfl]
      · rw [if_neg e, if_neg (fun q => e q.symm), List.getElem?_append_left (by rw [hl]; exact hi), tcs_at T K i hi]
    go_upto_region 26 with fail
    rw [← hw17]
    clear hw17 kT ca fz
    have HJ : Hid (Calls Tryd.prog 10 #[.slice (some ⟨ag, 0, none⟩) K ac] w17 fun e w' => Hid (e = .returned (.tuple #[.slice none 0 0, .int .i64 117]) ∧ Below w17.heap.size w17 w')) :=
      (Join_ok (some ⟨ag, 0, none⟩) K ac (mixT T T3 A) w17 (show _ ≤ _ by have := HNK.out; omega) (show ∀ k, k < K → _ from fun k hk => ⟨_, 0, rfl, by rw [Nat.zero_add]; exact H17.out.1 k hk⟩) (HTB.out _ H17.out.2)).mono fun e w' hj => join_117 HZO.out HL6.out.1 HL6.out.2.2 HTG.out HTG3.out ⟨by rw [HZN.out]; exact HKN.out, by have := HNK.out; omega⟩ HAK.out.2 hj
    go_wp2_with (first
      | (go_at_call 10; refine HJ.out.mono ?_; intro e w18 hh; obtain ⟨rfl, hb⟩ := hh.out; have H18 : Hid (Below M w w18) := H17.out.2.trans (hb.mono (by rw [← HMM.out]; exact H17.out.2.size)); clear hh hb)
      | (go_at_call 11; refine (H11.out _ _).mono ?_; rintro e1 wn ⟨rfl, hw⟩; obtain rfl := hw.symm; clear hw)
      | fail)
    go_ret
    exact ⟨rfl, H18.out⟩
end Go.Proofs.YtjcdhfkilnbjgaaDoor
