import Derived.Test.YtjcdhfkilnbjgaaDoorJue
import Derived.Test.YtjcdhfkilnbjgaaDoorPart13
import Derived.Deep.Cut
namespace Go.Proofs.YtjcdhfkilnbjgaaDoor
open Go.RowKit
set_option linter.unusedVariables false
set_option linter.unusedSimpArgs false
set_option maxRecDepth 100000
/-- A pick's cells. -/
def pkV (a i k : Int) (x y : F) : List Value := [.int .i64 a, .int .i64 i, .int .i64 k, .int .u8 (x.1 : Nat), .int .u8 (y.1 : Nat)]
def Z50 : List Value := [.int .i64 0, .int .i64 0, .int .i64 0, .int .u8 0, .int .u8 0]
set_option maxHeartbeats 3200000 in
/-- The law Any. -/
theorem any_ok (sn : Nat) (hsn : Hid (sn < 65536)) (nd ct : Int) (own : Bool) (sv : Value) (ra : Option Addr) (rl rc : Nat) (S Rd : List F) (pa : Option Addr) (pl pc : Nat) (pA pI pK : Nat → Int) (pB pT : Nat → F) (w : World) (hT : Hid (Tables w)) (h : Hid (Vf w sv S)) (hr : Hid (Vf w (.slice ra rl rc) Rd)) (hone : Hid (sv.oneCell' = true)) (hpk : Hid (∀ i, i < pl → i < 40 → ∃ b off, pa = some ⟨b, off, none⟩ ∧ w.rangeAt b (off + i * 5) (pkV (pA i) (pI i) (pK i) (pB i) (pT i)))) :
    Calls Tryd.prog 6 #[.agg #[.int .u16 (sn : Nat), sv, .int .i64 nd, .int .i64 ct, .bool own, .slice ra rl rc], .slice pa pl pc] w fun e w' => e = .returned (.bool true) ∧ Below w.heap.size w w' := by
  obtain ⟨M, HMM⟩ : ∃ M, Hid (w.heap.size = M) := ⟨_, rfl⟩
  obtain ⟨D1, HD1⟩ : ∃ z : List Value, Hid ([.int .u16 (sn : Nat), sv, .int .i64 nd, .int .i64 ct, .bool own, .slice ra rl rc] = z) := ⟨_, rfl⟩
  have hi1 : (Tryd.prog.info? 25).map (·.size) = some D1.length := by rw [← HD1.out]; kernel_rfl
  have HTB : Hid (∀ u, Below M w u → Tables u) := fun u hu => hT.out.below hu (by rw [← HMM.out]; exact hT.out.size)
  have HRV : Hid (∀ u, Below M w u → Vf u (.slice ra rl rc) Rd) := fun u hu => hr.out.below (by rw [HMM.out]; exact hu)
  obtain ⟨S2, HS2⟩ : ∃ z : List F, Hid (sec5 S = z) := ⟨_, rfl⟩
  have HSL : Hid (1 ≤ S2.length ∧ S2.length ≤ 64) := by rw [← HS2.out]; exact sec5_len S
  obtain ⟨N, HN⟩ : ∃ z, Hid (nd5 nd = z) := ⟨_, rfl⟩
  obtain ⟨K, HK⟩ : ∃ z, Hid (ct5 nd ct = z) := ⟨_, rfl⟩
  have HNK : Hid (1 ≤ N ∧ N ≤ 16 ∧ N ≤ K ∧ K ≤ 24) := by rw [← HN.out, ← HK.out]; exact ⟨(nd5_le nd).1, (nd5_le nd).2, (ct5_le nd ct).1, (ct5_le nd ct).2⟩
  obtain ⟨R, HRR⟩ : ∃ z : List F, Hid (rnd5 false Rd (N : Nat) (S2.length : Nat) = z) := ⟨_, rfl⟩
  obtain ⟨T, HTT⟩ : ∃ z, Hid (dealT sn S2 R N = z) := ⟨_, rfl⟩
  have HTG : Hid (∀ i, i < 255 → MGood (T i) ((shD sn S2 R N).at' (fN (i + 1))) 0) := by rw [← HTT.out]; exact deal_good_at sn S2 R N HSL.out.1 HSL.out.2 HNK.out.1 HNK.out.2.1
  have HZO : Hid ((shD sn S2 R N).ok) := shD_ok sn S2 R N HSL.out.1 HSL.out.2 HNK.out.1 HNK.out.2.1
  have HZN : Hid ((shD sn S2 R N).bn.1 = N) := fN_val _ (by have := HNK.out; omega)
  have H9 : Hid (∀ u, Below M w u → Calls Tryd.prog 9 #[] u fun e w' => Hid (e = .returned (.bool true) ∧ Below u.heap.size u w')) := fun u hu => live_ok u (HTB.out u hu)
  have H11 : Hid (∀ x u, Calls Tryd.prog 11 #[.int .i64 x] u fun e w' => e = .returned (.int .i64 x) ∧ w' = u) := fun x u => numE_ok x u
  obtain ⟨w1, hw1⟩ : ∃ u, u = w.alloc (.cells #[.int .u16 (sn : Nat), sv, .int .i64 nd, .int .i64 ct, .bool own, .slice ra rl rc] 25) := ⟨_, rfl⟩
  have H1 : Hid (Bx w1 M 25 D1 ∧ Below M w w1 ∧ M ≤ w1.heap.size) := by
    rw [← HD1.out, ← HMM.out, hw1]
    exact ⟨Bx.new w 25 _, (Below.refl _ _).alloc (Nat.le_refl _) _, by simp⟩
  have H8 : Hid (Calls Tryd.prog 8 #[.agg D1.toArray] w1 fun e w' => Hid (∃ g c tg, e = .returned (.tuple #[.agg #[.int .u16 (sn : Nat), .slice (some ⟨g, 0, none⟩) S2.length c, .int .i64 (N : Nat), .int .i64 (K : Nat), .bool false, .slice ra rl rc], .slice (some ⟨tg, 0, none⟩) K K, .bool true]) ∧ S2.length ≤ c ∧ c ≤ maxLen ∧ w1.heap.size ≤ g ∧ Rx w' g S2 ∧ w1.heap.size ≤ tg ∧ Bx w' tg 9 (tcs T K) ∧ Below w1.heap.size w1 w')) := by
    have z := dealt_ok sn hsn nd ct own sv ra rl rc S Rd w1 (HTB.out w1 H1.out.2.1) (h.out.below (by rw [HMM.out]; exact H1.out.2.1)) (HRV.out w1 H1.out.2.1)
    rw [HS2.out, HN.out, HK.out, HRR.out, HTT.out] at z
    rw [← HD1.out]
    exact z
  have HRG := H1.out.1.range
  have HPK : Hid (∀ u, Below M w u → ∀ i, i < pl → i < 40 → ∃ b off, pa = some ⟨b, off, none⟩ ∧ u.rangeAt b (off + i * 5) (pkV (pA i) (pI i) (pK i) (pB i) (pT i))) := fun u hu i h1 h2 => by
    obtain ⟨b, off, e1, e2⟩ := hpk.out i h1 h2
    refine ⟨b, off, e1, fun j v hj => ?_⟩
    have z := e2 j v hj
    exact (hu.cell (by rw [← HMM.out]; exact World.block_lt_of_cell? _ _ z)).trans z
  have hi50 : (Tryd.prog.info? 50).map (·.size) = some 5 := by kernel_rfl
  rw [HMM.out]
  go_enter Tryd.func6, Tryd.ntmps6
  go_upto_region 1 with fail
  rw [← hw1, HMM.out]
  clear hw1
  go_upto_region 2 with (first
    | (refine wpList_load_mid (by rfl) 25 (.tmp 2) (by rfl) M 0 (by rfl) D1 _ HRG Tryd.underlying25 rfl hi1 ?_)
    | (go_at_call 8; refine H8.out.mono ?_; intro e2 w2 hh; obtain ⟨g, c, tg, rfl, q1, q2, q3, q4, q5, q6, q7⟩ := hh.out; have HCP : Hid (S2.length ≤ c ∧ c ≤ maxLen ∧ M ≤ g ∧ M < tg) := ⟨q1, q2, Nat.le_trans H1.out.2.2 q3, Nat.lt_of_lt_of_le H1.out.1.lt q5⟩; have H2 : Hid (Rx w2 g S2 ∧ Bx w2 tg 9 (tcs T K) ∧ Below M w w2 ∧ Bx w2 M 25 D1) := ⟨q4, q6, H1.out.2.1.trans (q7.mono H1.out.2.2), H1.out.1.below q7⟩; clear hh q1 q2 q3 q4 q5 q6 q7)
    | (refine wpList_store_bx (by rfl) 25 (.tmp 2) (.tmp 19) (by rfl) D1 [.int .u16 (sn : Nat), .slice (some ⟨g, 0, none⟩) S2.length c, .int .i64 (N : Nat), .int .i64 (K : Nat), .bool false, .slice ra rl rc] M (by rfl) (by rfl) H2.out.2.2.2 (by rw [← HD1.out]; rfl) (by kernel_rfl) (by intro v hv; simp at hv; rcases hv with rfl | rfl | rfl | rfl | rfl | rfl <;> rfl) ?_; intro w3 h7 h8; have H3 : Hid (Bx w3 M 25 [.int .u16 (sn : Nat), .slice (some ⟨g, 0, none⟩) S2.length c, .int .i64 (N : Nat), .int .i64 (K : Nat), .bool false, .slice ra rl rc] ∧ Rx w3 g S2 ∧ Bx w3 tg 9 (tcs T K) ∧ Below M w w3) := (by
        have hne : ∀ {b t cs}, t ≠ 25 → Bx w2 b t cs → b ≠ M := fun ht hbx e => by
          subst e
          have a1 := H2.out.2.2.2
          unfold Bx at hbx a1
          rw [hbx] at a1
          injection a1 with z
          injection z with _ z _
          exact ht z
        obtain ⟨⟨sp, x1⟩, x2, x3, x4⟩ := H2.out
        exact ⟨h7, ⟨sp, x1.keep (h8.block _ x1.lt (fun e => hne (by decide) x1 (by injection e)))⟩, x2.keep (h8.block _ x2.lt (fun e => hne (by decide) x2 (by injection e))), x3.trans (below_gb h8 (Nat.le_of_lt x4.lt) (Nat.le_refl _))⟩); clear h7 h8)
    | fail)
  clear HRG H8 H2
  obtain ⟨D2, HD2⟩ : ∃ z : List Value, Hid ([.int .u16 (sn : Nat), .slice (some ⟨g, 0, none⟩) S2.length c, .int .i64 (N : Nat), .int .i64 (K : Nat), .bool false, .slice ra rl rc] = z) := ⟨_, rfl⟩
  have hi2 : (Tryd.prog.info? 25).map (·.size) = some D2.length := by rw [← HD2.out]; kernel_rfl
  rw [HD2.out] at H3
  have HC : Hid (∀ u, Bx u M 25 D2 → u.cell? ⟨M, 1, none⟩ = some (.slice (some ⟨g, 0, none⟩) S2.length c) ∧ u.cell? ⟨M, 2, none⟩ = some (.int .i64 (N : Nat))) := fun u hu => by
    rw [← HD2.out] at hu
    exact ⟨hu.cell 1 _ rfl, hu.cell 2 _ rfl⟩
  have HL9 : Hid (Calls Tryd.prog 9 #[] w3 fun e w' => Hid (e = .returned (.bool true) ∧ Below w3.heap.size w3 w')) := H9.out w3 H3.out.2.2.2
  go_upto_region 4 with (first
    | (go_at_call 9; refine HL9.out.mono ?_; intro e4 w4 hh; obtain ⟨rfl, h4⟩ := hh.out; have H4 : Hid (Bx w4 M 25 D2 ∧ Rx w4 g S2 ∧ Bx w4 tg 9 (tcs T K) ∧ Below M w w4) := ⟨H3.out.1.below h4, H3.out.2.1.below h4, H3.out.2.2.1.below h4, H3.out.2.2.2.trans (h4.mono (Nat.le_of_lt H3.out.1.lt))⟩; clear hh h4)
    | fail)
  clear HL9 H3 H9
  obtain ⟨MB, HMB⟩ : ∃ z, Hid (w4.heap.size = z) := ⟨_, rfl⟩
  obtain ⟨w5, hw5⟩ : ∃ u, u = w4.alloc (.map #[] 0) := ⟨_, rfl⟩
  have H5 : Hid (MpU w5 MB 0 [] ∧ Below MB w4 w5 ∧ w5.heap.size = MB + 1) := by
    rw [hw5, ← HMB.out]
    exact ⟨MpU.new w4, (Below.refl _ _).alloc (Nat.le_refl _) _, by simp⟩
  have hmm := @run_makeMap Tryd.prog
  go_upto_region 6 with fail
  rw [← hw5, HMB.out]
  clear hw5 hmm
  have HM4 : Hid (M < MB ∧ g < MB ∧ tg < MB) := ⟨by rw [← HMB.out]; exact H4.out.1.lt, by rw [← HMB.out]; exact H4.out.2.1.lt, by rw [← HMB.out]; exact H4.out.2.2.1.lt⟩
  obtain ⟨i9, hi9, hz9, hs9, hb9⟩ := info_parts Tryd.infoT9
  have HI9 : Hid (Tryd.prog.info? 9 = some i9 ∧ i9.zero = some (.string ⟨#[]⟩) ∧ i9.size = 1 ∧ i9.bytes = 16) := ⟨hi9, hz9, hs9, hb9⟩
  clear hi9 hz9 hs9 hb9
  obtain ⟨PA, HPA⟩ : ∃ z : Nat → Nat, Hid ((fun i => idxW (pA i) K) = z) := ⟨_, rfl⟩
  have HPA2 : Hid (∀ i, idxW (pA i) K = PA i) := fun i => by rw [← HPA.out]
  have HPL : Hid (∀ i, PA i < K) := fun i => by rw [← HPA2.out]; exact (idxW_tmod (pA i) K (by have := HNK.out; omega)).2
  obtain ⟨TT, HTT2⟩ : ∃ z : Nat → ByteArray, Hid (hurtT (shD sn S2 R N) PA pI pK pB pT = z) := ⟨_, rfl⟩
  have H18 : Hid (∀ i u, Calls Tryd.prog 18 #[.string (T (PA i)), .int .i64 (pI i), .int .u8 ((pB i).1 : Nat), .int .i64 (pK i), .int .u8 ((pT i).1 : Nat)] u fun e w' => Hid (e = .returned (.tuple #[.string (TT i), .bool true]) ∧ Below u.heap.size u w')) := fun i u => by
    have hk := HPL.out i
    have hkk := HNK.out
    have hok := Shg.okR HZO.out (fN (PA i + 1)) (by rw [fN_val _ (by omega)]; omega)
    have hs := okF_size hok
    have z := hurt_ok ((shD sn S2 R N).at' (fN (PA i + 1))) (T (PA i)) ⟨by omega, hs.2.1, hs.2.2⟩ (by show _ = _; rw [← HTT.out, dealT_at sn S2 R N (PA i) hkk.2.1]) (pI i) (pK i) (pB i) (pT i) u
    rw [← HTT2.out]
    exact z
  go_wp2
  go_loopw [7, 9] (fun vv vi wr => ∃ i : Nat, i ≤ pl ∧ i ≤ 40 ∧ vi = .int .i64 (i : Nat) ∧ Hid (wr.ownsRow (MB + 1) 9 1 vv i (tcs TT i) ∧ MpU wr MB i (uqL PA i) ∧ Below MB w4 wr ∧ MB + 1 ≤ wr.heap.size)) (fun _ vi _ => 40 - (intOf vi).toNat)
  case atStart => exact ⟨0, by omega, by omega, rfl, World.ownsRow_nil _ _ _ _, H5.out.1, H5.out.2.1, Nat.le_of_eq H5.out.2.2.symm⟩
  case round =>
    obtain ⟨i, hi, hi40, rfl, HI⟩ := hrel
    rename World => wo
    have HB4 : Hid (Bx wo M 25 D2 ∧ Bx wo tg 9 (tcs T K) ∧ Rx wo g S2 ∧ Below M w wo) := by
      obtain ⟨sp, z⟩ := H4.out.2.1
      exact ⟨H4.out.1.keep (HI.out.2.2.1.block M HM4.out.1), H4.out.2.2.1.keep (HI.out.2.2.1.block tg HM4.out.2.2), ⟨sp, z.keep (HI.out.2.2.1.block g HM4.out.2.1)⟩, H4.out.2.2.2.trans (HI.out.2.2.1.mono (Nat.le_of_lt HM4.out.1))⟩
    by_cases hlt : i < pl ∧ i < 40
    · obtain ⟨pb, po, rfl, hrg⟩ := HPK.out wo HB4.out.2.2.2 i hlt.1 hlt.2
      have HLT : Hid (i < pl ∧ i < 40) := hlt
      have g1 : (i : Int) < (pl : Int) := by omega
      have g2 : (i : Int) < 40 := by omega
      have g0 : (0 : Int) ≤ (i : Int) := by omega
      have gi : IntKind.i64.wrap ((i : Int) + 1) = ((i + 1 : Nat) : Int) := by rw [IntKind.wrap_i64]; omega
      obtain ⟨L5, HL5⟩ : ∃ z : List Value, Hid (pkV (pA i) (pI i) (pK i) (pB i) (pT i) = z) := ⟨_, rfl⟩
      have HLL : Hid (L5.length = 5 ∧ ∀ v ∈ L5, v.oneCell' = true) := by rw [← HL5.out]; exact ⟨rfl, by intro v hv; simp [pkV] at hv; rcases hv with rfl | rfl | rfl | rfl | rfl <;> rfl⟩
      have hiL : (Tryd.prog.info? 50).map (·.size) = some L5.length := by rw [HLL.out.1]; exact hi50
      rw [HL5.out] at hrg
      obtain ⟨P, HP⟩ : ∃ z, Hid (wo.heap.size = z) := ⟨_, rfl⟩
      clear hlt hi hi40
      go_upto_region 10 with (first
        | (refine wpList_load_mid (by rfl) 50 (.tmp 41) (by rfl) pb (po + i * 5) (by rfl) L5 _ hrg Tryd.underlying50 rfl hiL ?_)
        | (refine wpList_store_bx (by rfl) 50 (.tmp 10) (.tmp 42) (by rfl) Z50 L5 wo.heap.size (by rfl) (by rfl) (Bx.new wo 50 Z50) (by rw [HLL.out.1]; rfl) hiL HLL.out.2 ?_; intro w6 h5 h6; have H6 : Hid (Bx w6 P 50 L5 ∧ Below P wo w6 ∧ P < w6.heap.size) := (by
            have hb : Below wo.heap.size wo w6 := ((Below.refl _ _).alloc (Nat.le_refl _) _).trans (below_gb h6 (by simp) (Nat.le_refl _))
            rw [← HP.out]
            exact ⟨h5, hb, h5.lt⟩); clear h5 h6)
        | fail)
      rw [HP.out]
      clear hrg
      have HC6 : Hid (∀ u, Bx u P 50 L5 → u.cell? ⟨P, 0, none⟩ = some (.int .i64 (pA i)) ∧ u.cell? ⟨P, 1, none⟩ = some (.int .i64 (pI i)) ∧ u.cell? ⟨P, 2, none⟩ = some (.int .i64 (pK i)) ∧ u.cell? ⟨P, 3, none⟩ = some (.int .u8 ((pB i).1 : Nat)) ∧ u.cell? ⟨P, 4, none⟩ = some (.int .u8 ((pT i).1 : Nat))) := fun u hu => by
        rw [← HL5.out] at hu
        exact ⟨hu.cell 0 _ rfl, hu.cell 1 _ rfl, hu.cell 2 _ rfl, hu.cell 3 _ rfl, hu.cell 4 _ rfl⟩
      obtain ⟨A, HA⟩ : ∃ z, Hid (PA i = z) := ⟨_, rfl⟩
      have HAK : Hid ((IntKind.u64.wrap (pA i)).tmod (K : Nat) = (A : Nat) ∧ A < K) := by
        have z := idxW_tmod (pA i) K (by have := HNK.out; omega)
        rw [HPA2.out, HA.out] at z
        exact z
      have H18i : Hid (∀ u, Calls Tryd.prog 18 #[.string (T A), .int .i64 (pI i), .int .u8 ((pB i).1 : Nat), .int .i64 (pK i), .int .u8 ((pT i).1 : Nat)] u fun e w' => Hid (e = .returned (.tuple #[.string (TT i), .bool true]) ∧ Below u.heap.size u w')) := fun u => by rw [← HA.out]; exact H18.out i u
      obtain ⟨xa, hxa⟩ : ∃ z, Hid (pA i = z) := ⟨_, rfl⟩
      obtain ⟨xi, hxi⟩ : ∃ z, Hid (pI i = z) := ⟨_, rfl⟩
      obtain ⟨xk, hxk⟩ : ∃ z, Hid (pK i = z) := ⟨_, rfl⟩
      obtain ⟨xb, hxb⟩ : ∃ z, Hid ((pB i).1 = z) := ⟨_, rfl⟩
      obtain ⟨xt, hxt⟩ : ∃ z, Hid ((pT i).1 = z) := ⟨_, rfl⟩
      rw [hxa.out, hxi.out, hxk.out, hxb.out, hxt.out] at HC6
      rw [hxa.out] at HAK
      rw [hxi.out, hxk.out, hxb.out, hxt.out] at H18i
      obtain ⟨k0, k1, k2, k3, k4⟩ := HC6.out w6 H6.out.1
      have e1 : IntKind.u64.wrap ((K : Nat) : Int) = ((K : Nat) : Int) := u64_nat K (by have := HNK.out; omega)
      have e2 := HAK.out.1
      have e3 : IntKind.i64.wrap ((A : Nat) : Int) = (A : Nat) := by rw [IntKind.wrap_i64]; have := HAK.out; have := HNK.out; omega
      have HKZ : ¬ ((K : Nat) : Int) = 0 := by have := HNK.out; omega
      go_upto_region 11 with fail
      clear k0 k1 k2 k3 k4 e1 e2 HKZ
      have g3 : (0 : Int) ≤ (A : Int) := by omega
      have g4 : (A : Int) < (K : Int) := by have := HAK.out; omega
      have cj : Bx w6 tg 9 (tcs T K) := HB4.out.2.1.below (by rw [HP.out]; exact H6.out.2.1)
      have HCT : Hid (∀ u, Bx u tg 9 (tcs T K) → u.cell? ⟨tg, A, none⟩ = some (.string (T A))) := fun u hu => hu.cell A _ (tcs_at T K A HAK.out.2)
      have hS0 : Bx w6.drew P 50 L5 ∧ Bx w6.drew tg 9 (tcs T K) := ⟨H6.out.1.keep rfl, cj.keep rfl⟩
      refine wp_region_noPanic ?_
      refine wp_region_held_drew (S := (fun u => Bx u P 50 L5 ∧ Bx u tg 9 (tcs T K))) (by kernel_rfl) (hS0) (fun _ => ?_)
      refine takeH_at 0 52 (.slice (some ⟨tg, 0, none⟩) K K) rfl rfl (by kernel_rfl) (by kernel_rfl) (by kernel_rfl) (fun _ _ _ h => h) (hS0) (Or.inl ⟨by rfl, fun w' hS' => by obtain ⟨k0, k1, k2, k3, k4⟩ := HC6.out _ hS'.1; have k5 := HCT.out _ hS'.2; go_simp⟩) ?_
      try simp only [List.setIfInBounds_toArray, List.set_cons_zero, List.set_cons_succ]
      refine takeH_at 1 53 (.int .i64 (A : Nat)) rfl rfl (by kernel_rfl) (by kernel_rfl) (by kernel_rfl) (fun _ _ _ h => h) (hS0) (Or.inl ⟨by rfl, fun w' hS' => by obtain ⟨k0, k1, k2, k3, k4⟩ := HC6.out _ hS'.1; have k5 := HCT.out _ hS'.2; go_simp⟩) ?_
      try simp only [List.setIfInBounds_toArray, List.set_cons_zero, List.set_cons_succ]
      refine takeH_at 2 54 (.pointer (some ⟨tg, A, none⟩)) rfl rfl (by kernel_rfl) (by kernel_rfl) (by kernel_rfl) (fun _ _ _ h => h) (hS0) (Or.inl ⟨by rfl, fun w' hS' => by obtain ⟨k0, k1, k2, k3, k4⟩ := HC6.out _ hS'.1; have k5 := HCT.out _ hS'.2; go_simp⟩) ?_
      try simp only [List.setIfInBounds_toArray, List.set_cons_zero, List.set_cons_succ]
      refine takeH_at 3 55 (.string (T A)) rfl rfl (by kernel_rfl) (by kernel_rfl) (by kernel_rfl) (fun _ _ _ h => h) (hS0) (Or.inl ⟨by rfl, fun w' hS' => by obtain ⟨k0, k1, k2, k3, k4⟩ := HC6.out _ hS'.1; have k5 := HCT.out _ hS'.2; go_simp⟩) ?_
      try simp only [List.setIfInBounds_toArray, List.set_cons_zero, List.set_cons_succ]
      refine takeH_at 4 56 (.pointer (some ⟨P, 1, none⟩)) rfl rfl (by kernel_rfl) (by kernel_rfl) (by kernel_rfl) (fun _ _ _ h => h) (hS0) (Or.inl ⟨by rfl, fun w' hS' => by obtain ⟨k0, k1, k2, k3, k4⟩ := HC6.out _ hS'.1; have k5 := HCT.out _ hS'.2; go_simp⟩) ?_
      try simp only [List.setIfInBounds_toArray, List.set_cons_zero, List.set_cons_succ]
      refine takeH_at 5 57 (.int .i64 xi) rfl rfl (by kernel_rfl) (by kernel_rfl) (by kernel_rfl) (fun _ _ _ h => h) (hS0) (Or.inl ⟨by rfl, fun w' hS' => by obtain ⟨k0, k1, k2, k3, k4⟩ := HC6.out _ hS'.1; have k5 := HCT.out _ hS'.2; go_simp⟩) ?_
      try simp only [List.setIfInBounds_toArray, List.set_cons_zero, List.set_cons_succ]
      refine takeH_at 6 58 (.pointer (some ⟨P, 3, none⟩)) rfl rfl (by kernel_rfl) (by kernel_rfl) (by kernel_rfl) (fun _ _ _ h => h) (hS0) (Or.inl ⟨by rfl, fun w' hS' => by obtain ⟨k0, k1, k2, k3, k4⟩ := HC6.out _ hS'.1; have k5 := HCT.out _ hS'.2; go_simp⟩) ?_
      try simp only [List.setIfInBounds_toArray, List.set_cons_zero, List.set_cons_succ]
      refine takeH_at 7 59 (.int .u8 (xb : Nat)) rfl rfl (by kernel_rfl) (by kernel_rfl) (by kernel_rfl) (fun _ _ _ h => h) (hS0) (Or.inl ⟨by rfl, fun w' hS' => by obtain ⟨k0, k1, k2, k3, k4⟩ := HC6.out _ hS'.1; have k5 := HCT.out _ hS'.2; go_simp⟩) ?_
      try simp only [List.setIfInBounds_toArray, List.set_cons_zero, List.set_cons_succ]
      refine takeH_at 8 60 (.pointer (some ⟨P, 2, none⟩)) rfl rfl (by kernel_rfl) (by kernel_rfl) (by kernel_rfl) (fun _ _ _ h => h) (hS0) (Or.inl ⟨by rfl, fun w' hS' => by obtain ⟨k0, k1, k2, k3, k4⟩ := HC6.out _ hS'.1; have k5 := HCT.out _ hS'.2; go_simp⟩) ?_
      try simp only [List.setIfInBounds_toArray, List.set_cons_zero, List.set_cons_succ]
      refine takeH_at 9 61 (.int .i64 xk) rfl rfl (by kernel_rfl) (by kernel_rfl) (by kernel_rfl) (fun _ _ _ h => h) (hS0) (Or.inl ⟨by rfl, fun w' hS' => by obtain ⟨k0, k1, k2, k3, k4⟩ := HC6.out _ hS'.1; have k5 := HCT.out _ hS'.2; go_simp⟩) ?_
      try simp only [List.setIfInBounds_toArray, List.set_cons_zero, List.set_cons_succ]
      refine takeH_at 10 62 (.pointer (some ⟨P, 4, none⟩)) rfl rfl (by kernel_rfl) (by kernel_rfl) (by kernel_rfl) (fun _ _ _ h => h) (hS0) (Or.inl ⟨by rfl, fun w' hS' => by obtain ⟨k0, k1, k2, k3, k4⟩ := HC6.out _ hS'.1; have k5 := HCT.out _ hS'.2; go_simp⟩) ?_
      try simp only [List.setIfInBounds_toArray, List.set_cons_zero, List.set_cons_succ]
      refine takeH_at 11 63 (.int .u8 (xt : Nat)) rfl rfl (by kernel_rfl) (by kernel_rfl) (by kernel_rfl) (fun _ _ _ h => h) (hS0) (Or.inl ⟨by rfl, fun w' hS' => by obtain ⟨k0, k1, k2, k3, k4⟩ := HC6.out _ hS'.1; have k5 := HCT.out _ hS'.2; go_simp⟩) ?_
      try simp only [List.setIfInBounds_toArray, List.set_cons_zero, List.set_cons_succ]
      refine wpAnyH_ready (rs := [12]) (by kernel_rfl) (by simp) ?_
      refine AllReadyH.cons rfl (fun KK hK => ?_) AllReadyH.nil
      go_simp
      refine (H18i.out _).mono ?_
      intro e w7 hh
      obtain ⟨rfl, hb⟩ := hh.out
      have H7 : Hid ((Bx w7 P 50 L5 ∧ Bx w7 tg 9 (tcs T K)) ∧ Below w6.heap.size w6 w7) := ⟨⟨hS0.1.below hb, hS0.2.below hb⟩, (Below.refl _ _).drew.trans hb⟩
      clear hh hb
      go_wp2_with fail
      refine hK.out _ _ (H7.out.1) (fun _ => ?_)
      clear hK KK
      try simp only [List.setIfInBounds_toArray, List.set_cons_zero, List.set_cons_succ]
      refine takeH_at 13 51 (.tuple #[.string (TT i), .bool true]) rfl rfl (by kernel_rfl) (by kernel_rfl) (by kernel_rfl) (fun _ _ _ h => h) (H7.out.1) (Or.inl ⟨by rfl, fun w' hS' => by go_simp⟩) ?_
      try simp only [List.setIfInBounds_toArray, List.set_cons_zero, List.set_cons_succ]
      refine takeH_at 14 65 (.string (TT i)) rfl rfl (by kernel_rfl) (by kernel_rfl) (by kernel_rfl) (fun _ _ _ h => h) (H7.out.1) (Or.inl ⟨by rfl, fun w' hS' => by go_simp⟩) ?_
      try simp only [List.setIfInBounds_toArray, List.set_cons_zero, List.set_cons_succ]
      refine takeH_at 15 66 (.bool true) rfl rfl (by kernel_rfl) (by kernel_rfl) (by kernel_rfl) (fun _ _ _ h => h) (H7.out.1) (Or.inl ⟨by rfl, fun w' hS' => by go_simp⟩) ?_
      try simp only [List.setIfInBounds_toArray, List.set_cons_zero, List.set_cons_succ]
      refine wpAnyH_ready (rs := [16]) (by kernel_rfl) (by simp) ?_
      refine AllReadyH.cons rfl (fun KK hK => ?_) AllReadyH.nil
      go_simp
      refine hK.out _ _ (H7.out.1) (fun _ => ?_)
      clear hK KK
      try simp only [List.setIfInBounds_toArray, List.set_cons_zero, List.set_cons_succ]
      refine wpAnyH_ready (rs := [17]) (by kernel_rfl) (by simp) ?_
      refine AllReadyH.cons rfl (fun KK hK => ?_) AllReadyH.nil
      go_simp
      refine hK.out _ _ (H7.out.1) (fun _ => ?_)
      clear hK KK
      try simp only [List.setIfInBounds_toArray, List.set_cons_zero, List.set_cons_succ]
      refine wpAnyH_done (by kernel_rfl) ?_ _
      refine NoPanic.normal ?_
      clear hS0 HC6 HCT cj g3 g4 e3
      have HO : Hid (w7.ownsRow (MB + 1) 9 1 u7 i (tcs TT i) ∧ MpU w7 MB i (uqL PA i) ∧ Below MB w4 w7 ∧ MB + 1 ≤ w7.heap.size) := by
        have hb : Below wo.heap.size wo w7 := by
          rw [HP.out]
          exact H6.out.2.1.trans (H7.out.2.mono (Nat.le_of_lt H6.out.2.2))
        have hgw : wo.grownBy w7 none := ⟨hb.os, hb.tape, hb.output, hb.size, fun g hg _ => hb.block g hg⟩
        exact ⟨HI.out.1.kept hgw (by cases hv : Value.ownBlock u7 <;> simp), HI.out.2.1.below hb, HI.out.2.2.1.trans (hb.mono (Nat.le_of_succ_le HI.out.2.2.2)), Nat.le_trans HI.out.2.2.2 hb.size⟩
      clear H6 H7 HI HB4
      go_wp2_with (first
        | (at_mapUpdate; refine wpList_putU rfl _ _ _ rfl HO.out.2.1 (by have := HLT.out; omega) rfl A (by have := HAK.out; have := HNK.out; omega) rfl rfl ?_; intro w8 h7 h8; have H8 : Hid (w8.ownsRow (MB + 1) 9 1 u7 i (tcs TT i) ∧ MpU w8 MB (i + 1) (uqL PA (i + 1)) ∧ Below MB w4 w8 ∧ MB + 1 ≤ w8.heap.size) := ⟨HO.out.1.kept h8 (by cases hv : Value.ownBlock u7 with | none => exact .inl rfl | some q => exact .inr (fun e => by have z := (HO.out.1.lt q hv).1; injection e with e; omega)), (by rw [← HA.out] at h7; exact h7), HO.out.2.2.1.trans (below_gb h8 (by have := HO.out.2.2.2; omega) (Nat.le_refl _)), Nat.le_trans HO.out.2.2.2 h8.size⟩; clear h7 h8 HO)
        | (at_builtin; go_must (refine wpList_append_own _ rfl (.tmp 71) (.tmp 73) 26 rfl (MB + 1) 9 i9 (.string ⟨#[]⟩) 1 16 (by kernel_rfl) HI9.out.1 HI9.out.2.1 HI9.out.2.2.1 HI9.out.2.2.2 rfl (by decide) _ i _ rfl (H8.out.1.alloc _) ⟨w8.heap.size, 0, none⟩ 1 1 [.string (TT i)] rfl rfl (one_cell w8 _ 9) (one_str _) (by have := HLT.out; unfold maxLen; omega) (by have := HLT.out; omega) (by have := H8.out.2.2.2; simp; omega) ?_; intro v9 w9 hown hgrow hnil; have H9' : Hid (w9.ownsRow (MB + 1) 9 1 v9 (i + 1) (tcs TT (i + 1)) ∧ MpU w9 MB (i + 1) (uqL PA (i + 1)) ∧ Below MB w4 w9 ∧ MB + 1 ≤ w9.heap.size) := (by
              have hal : MpU (w8.alloc (.cells #[.string (TT i)] 9)) MB (i + 1) (uqL PA (i + 1)) := H8.out.2.1.below ((Below.refl _ _).alloc (Nat.le_refl _) _)
              have hba : Below (MB + 1) w8 (w8.alloc (.cells #[.string (TT i)] 9)) := (Below.refl _ _).alloc H8.out.2.2.2 _
              have hb9 : Below (MB + 1) w8 w9 := hba.grown hgrow (by have := H8.out.2.2.2; simp; omega) (fun q hq => (H8.out.1.lt q hq).1)
              exact ⟨own_more hown rfl, hal.kept hgrow (fun e => by have z := (H8.out.1.lt MB e.symm).1; omega), H8.out.2.2.1.trans (hb9.mono (by omega)), Nat.le_trans H8.out.2.2.2 hb9.size⟩); clear hown hgrow hnil))
        | fail)
      go_roundw
      case rel => exact ⟨i + 1, HLT.out.1, HLT.out.2, by go_num, H9'.out⟩
      case measure => simp [intOf]; have := HLT.out; omega
    · have HND : Hid (¬ (i < pl ∧ i < 40)) := hlt
      have g0 : (0 : Int) ≤ (i : Int) := by omega
      have HI40 : Hid (i ≤ 40) := hi40
      by_cases h1 : i < pl
      · have g1 : (i : Int) < (pl : Int) := by omega
        have g2 : ¬ (i : Int) < 40 := by omega
        clear h1 hlt hi hi40 HPK
        go_upto_region 16 with fail
        clear g1 g2 g0
        obtain ⟨ja, jc, rfl, HJR⟩ : ∃ ja jc, u7 = .slice ja i jc ∧ Hid (∀ k, k < i → ∃ b off, ja = some ⟨b, off, none⟩ ∧ wo.cell? ⟨b, off + k, none⟩ = some (.string (TT k))) := by
          rcases HI.out.1.2 with ⟨e, e0⟩ | ⟨mg, cap, cur, e, hB, hh, h3, h4, h5, h6⟩
          · exact ⟨none, 0, by rw [e, e0], fun k hk => absurd hk (by omega)⟩
          · refine ⟨some ⟨mg, 0, none⟩, cap, e, fun k hk => ⟨mg, 0, rfl, ?_⟩⟩
            have z := HI.out.1.cells (g := mg) (by rw [e]; rfl) k _ (tcs_at TT i k hk)
            rw [Addr.add_lit] at z
            exact z
        have HJ : Hid (Calls Tryd.prog 10 #[.slice ja i jc] wo fun e w' => JoQ TT i wo.heap.size e wo w') := Join_ok ja i jc TT wo (show _ ≤ _ by have := HI40.out; omega) HJR.out (HTB.out wo HB4.out.2.2.2)
        have HLN : Hid (Lns (shD sn S2 R N) TT i (fun i => fN (PA i + 1))) := by
          rw [← HTT2.out]
          exact hurt_lns HZO.out PA pI pK pB pT i (fun k _ => by have := HPL.out k; have := HNK.out; omega)
        have HON : Hid (onN (fun i => gR (TT i)) i = (uqL PA i).length) := by
          rw [← HTT2.out]
          exact hurt_on HZO.out PA pI pK pB pT i (fun k _ => by have := HPL.out k; have := HNK.out; omega)
        obtain ⟨UL, HUL⟩ : ∃ z, Hid (uqL PA i = z) := ⟨_, rfl⟩
        rw [HUL.out] at HON HI
        obtain ⟨un, HUN⟩ : ∃ z, Hid (UL.length = z) := ⟨_, rfl⟩
        have HMU : Hid (∀ u, Below wo.heap.size wo u → MpU u MB i UL) := fun u hu => HI.out.2.1.below hu
        have HS4 : Hid (∀ u, Below wo.heap.size wo u → Bx u M 25 D2 ∧ Rx u g S2 ∧ Below M w u) := fun u hu => ⟨HB4.out.1.below hu, HB4.out.2.2.1.below hu, HB4.out.2.2.2.trans (hu.mono (by have := HI.out.2.2.2; have := HM4.out.1; omega))⟩
        by_cases hfew : un < N
        · have HFW : Hid (onN (fun i => gR (TT i)) i < (shD sn S2 R N).bn.1) := by show _ < _; rw [HON.out, HUN.out, HZN.out]; exact hfew
          have g3 : (un : Int) < (N : Int) := by omega
          clear hfew
          go_upto_region 17 with (first
            | (go_at_call 10; refine HJ.out.mono ?_; intro e6 w6 hj; obtain ⟨rfl, hb⟩ := HLN.out.few HFW.out hj; have H6 : Hid (Below wo.heap.size wo w6) := hb; clear hj hb)
            | fail)
          have hk2 := (HC.out w6 (HS4.out w6 H6.out).1).2
          go_wp2_with (first
            | (at_len; refine wpList_lenU rfl _ rfl (HMU.out w6 H6.out) rfl ?_; rw [HUN.out])
            | (go_at_call 11; refine (H11.out _ _).mono ?_; rintro e1 wn ⟨rfl, hw⟩; obtain rfl := hw.symm; clear hw)
            | fail)
          go_ret
          exact ⟨rfl, (HS4.out w6 H6.out).2.2⟩
        · have HGE : Hid ((shD sn S2 R N).bn.1 ≤ onN (fun i => gR (TT i)) i) := by show _ ≤ _; rw [HON.out, HUN.out, HZN.out]; omega
          have g3 : ¬ (un : Int) < (N : Int) := by omega
          clear hfew
          go_upto_region 17 with (first
            | (go_at_call 10; refine HJ.out.mono ?_; intro e6 w6 hj; obtain ⟨jb, rfl, _, h2, hb⟩ := HLN.out.join HGE.out hj; have H6 : Hid (Below wo.heap.size wo w6 ∧ Bx w6 jb 5 (fc S2)) := ⟨hb, h2⟩; clear hj hb h2; rw [show (shD sn S2 R N).l.length = S2.length from rfl])
            | fail)
          obtain ⟨hk1, hk2⟩ := HC.out w6 (HS4.out w6 H6.out.1).1
          have H17 : Hid (Calls Tryd.prog 17 #[.slice (some ⟨jb, 0, none⟩) S2.length S2.length, .slice (some ⟨g, 0, none⟩) S2.length c] w6 fun e w' => Hid (e = .returned (.bool true) ∧ Below M w w')) := by
            have v1 : Vf w6 (.slice (some ⟨jb, 0, none⟩) S2.length S2.length) S2 := vf_mk rfl (Nat.le_refl _) (by have := HSL.out; unfold maxLen; omega) (fun e => by cases e) (.inr ⟨_, _, rfl, bx_rw H6.out.2⟩)
            have v2 : Vf w6 (.slice (some ⟨g, 0, none⟩) S2.length c) S2 := vf_mk rfl HCP.out.1 HCP.out.2.1 (fun e => by cases e) (.inr ⟨_, _, rfl, (HS4.out w6 H6.out.1).2.1.rw⟩)
            refine (same_any _ _ _ _ _ v1 v2).mono ?_
            rintro e w' ⟨he, k, hw⟩
            rw [decide_eq_true rfl] at he
            exact ⟨he, by rw [hw]; exact below_drewN0 (HS4.out w6 H6.out.1).2.2 k⟩
          go_wp2_with (first
            | (at_len; refine wpList_lenU rfl _ rfl (HMU.out w6 H6.out.1) rfl ?_; rw [HUN.out])
            | (go_at_call 17; refine H17.out.mono ?_; intro e w11 hh; obtain ⟨rfl, h6⟩ := hh.out; have H12 : Hid (Below M w w11) := h6; clear hh h6)
            | (go_at_call 11; refine (H11.out _ _).mono ?_; rintro e1 wn ⟨rfl, hw⟩; obtain rfl := hw.symm; clear hw)
            | fail)
          go_ret
          exact ⟨rfl, H12.out⟩
      · have g1 : ¬ (i : Int) < (pl : Int) := by omega
        clear h1 hlt hi hi40 HPK
        go_upto_region 16 with fail
        clear g1 g0
        obtain ⟨ja, jc, rfl, HJR⟩ : ∃ ja jc, u7 = .slice ja i jc ∧ Hid (∀ k, k < i → ∃ b off, ja = some ⟨b, off, none⟩ ∧ wo.cell? ⟨b, off + k, none⟩ = some (.string (TT k))) := by
          rcases HI.out.1.2 with ⟨e, e0⟩ | ⟨mg, cap, cur, e, hB, hh, h3, h4, h5, h6⟩
          · exact ⟨none, 0, by rw [e, e0], fun k hk => absurd hk (by omega)⟩
          · refine ⟨some ⟨mg, 0, none⟩, cap, e, fun k hk => ⟨mg, 0, rfl, ?_⟩⟩
            have z := HI.out.1.cells (g := mg) (by rw [e]; rfl) k _ (tcs_at TT i k hk)
            rw [Addr.add_lit] at z
            exact z
        have HJ : Hid (Calls Tryd.prog 10 #[.slice ja i jc] wo fun e w' => JoQ TT i wo.heap.size e wo w') := Join_ok ja i jc TT wo (show _ ≤ _ by have := HI40.out; omega) HJR.out (HTB.out wo HB4.out.2.2.2)
        have HLN : Hid (Lns (shD sn S2 R N) TT i (fun i => fN (PA i + 1))) := by
          rw [← HTT2.out]
          exact hurt_lns HZO.out PA pI pK pB pT i (fun k _ => by have := HPL.out k; have := HNK.out; omega)
        have HON : Hid (onN (fun i => gR (TT i)) i = (uqL PA i).length) := by
          rw [← HTT2.out]
          exact hurt_on HZO.out PA pI pK pB pT i (fun k _ => by have := HPL.out k; have := HNK.out; omega)
        obtain ⟨UL, HUL⟩ : ∃ z, Hid (uqL PA i = z) := ⟨_, rfl⟩
        rw [HUL.out] at HON HI
        obtain ⟨un, HUN⟩ : ∃ z, Hid (UL.length = z) := ⟨_, rfl⟩
        have HMU : Hid (∀ u, Below wo.heap.size wo u → MpU u MB i UL) := fun u hu => HI.out.2.1.below hu
        have HS4 : Hid (∀ u, Below wo.heap.size wo u → Bx u M 25 D2 ∧ Rx u g S2 ∧ Below M w u) := fun u hu => ⟨HB4.out.1.below hu, HB4.out.2.2.1.below hu, HB4.out.2.2.2.trans (hu.mono (by have := HI.out.2.2.2; have := HM4.out.1; omega))⟩
        by_cases hfew : un < N
        · have HFW : Hid (onN (fun i => gR (TT i)) i < (shD sn S2 R N).bn.1) := by show _ < _; rw [HON.out, HUN.out, HZN.out]; exact hfew
          have g3 : (un : Int) < (N : Int) := by omega
          clear hfew
          go_upto_region 17 with (first
            | (go_at_call 10; refine HJ.out.mono ?_; intro e6 w6 hj; obtain ⟨rfl, hb⟩ := HLN.out.few HFW.out hj; have H6 : Hid (Below wo.heap.size wo w6) := hb; clear hj hb)
            | fail)
          have hk2 := (HC.out w6 (HS4.out w6 H6.out).1).2
          go_wp2_with (first
            | (at_len; refine wpList_lenU rfl _ rfl (HMU.out w6 H6.out) rfl ?_; rw [HUN.out])
            | (go_at_call 11; refine (H11.out _ _).mono ?_; rintro e1 wn ⟨rfl, hw⟩; obtain rfl := hw.symm; clear hw)
            | fail)
          go_ret
          exact ⟨rfl, (HS4.out w6 H6.out).2.2⟩
        · have HGE : Hid ((shD sn S2 R N).bn.1 ≤ onN (fun i => gR (TT i)) i) := by show _ ≤ _; rw [HON.out, HUN.out, HZN.out]; omega
          have g3 : ¬ (un : Int) < (N : Int) := by omega
          clear hfew
          go_upto_region 17 with (first
            | (go_at_call 10; refine HJ.out.mono ?_; intro e6 w6 hj; obtain ⟨jb, rfl, _, h2, hb⟩ := HLN.out.join HGE.out hj; have H6 : Hid (Below wo.heap.size wo w6 ∧ Bx w6 jb 5 (fc S2)) := ⟨hb, h2⟩; clear hj hb h2; rw [show (shD sn S2 R N).l.length = S2.length from rfl])
            | fail)
          obtain ⟨hk1, hk2⟩ := HC.out w6 (HS4.out w6 H6.out.1).1
          have H17 : Hid (Calls Tryd.prog 17 #[.slice (some ⟨jb, 0, none⟩) S2.length S2.length, .slice (some ⟨g, 0, none⟩) S2.length c] w6 fun e w' => Hid (e = .returned (.bool true) ∧ Below M w w')) := by
            have v1 : Vf w6 (.slice (some ⟨jb, 0, none⟩) S2.length S2.length) S2 := vf_mk rfl (Nat.le_refl _) (by have := HSL.out; unfold maxLen; omega) (fun e => by cases e) (.inr ⟨_, _, rfl, bx_rw H6.out.2⟩)
            have v2 : Vf w6 (.slice (some ⟨g, 0, none⟩) S2.length c) S2 := vf_mk rfl HCP.out.1 HCP.out.2.1 (fun e => by cases e) (.inr ⟨_, _, rfl, (HS4.out w6 H6.out.1).2.1.rw⟩)
            refine (same_any _ _ _ _ _ v1 v2).mono ?_
            rintro e w' ⟨he, k, hw⟩
            rw [decide_eq_true rfl] at he
            exact ⟨he, by rw [hw]; exact below_drewN0 (HS4.out w6 H6.out.1).2.2 k⟩
          go_wp2_with (first
            | (at_len; refine wpList_lenU rfl _ rfl (HMU.out w6 H6.out.1) rfl ?_; rw [HUN.out])
            | (go_at_call 17; refine H17.out.mono ?_; intro e w11 hh; obtain ⟨rfl, h6⟩ := hh.out; have H12 : Hid (Below M w w11) := h6; clear hh h6)
            | (go_at_call 11; refine (H11.out _ _).mono ?_; rintro e1 wn ⟨rfl, hw⟩; obtain rfl := hw.symm; clear hw)
            | fail)
          go_ret
          exact ⟨rfl, H12.out⟩
end Go.Proofs.YtjcdhfkilnbjgaaDoor
