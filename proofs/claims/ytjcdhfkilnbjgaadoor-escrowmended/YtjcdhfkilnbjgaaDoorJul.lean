import Derived.Test.YtjcdhfkilnbjgaaDoorJuk
import Derived.Test.YtjcdhfkilnbjgaaDoorJuf
import Derived.Test.YtjcdhfkilnbjgaaDoorPart13
import Derived.Deep.Cut
namespace Go.Proofs.YtjcdhfkilnbjgaaDoor
open Go.RowKit
set_option linter.unusedVariables false
set_option linter.unusedSimpArgs false
set_option maxRecDepth 100000
theorem ext_to (s : ByteArray) (a : Nat) : (s.extract 0 a).data.toList = s.data.toList.take a := by
  rw [ByteArray.data_extract, Array.toList_extract]
  simp [List.extract]
theorem ext_from (s : ByteArray) (a : Nat) : (s.extract a s.size).data.toList = s.data.toList.drop a := by
  rw [ByteArray.data_extract, Array.toList_extract]
  simp [List.extract]
  exact List.take_of_length_le (by rw [List.length_drop, Array.length_toList]; exact Nat.le_refl _)
theorem eq57 (x0 x1 x2 x3 : Int) (w : World) : (Op.equalIn 10000 57 (.agg #[.int .u16 x0, .int .i64 x1, .int .i64 x2, .int .i64 x3]) (.agg #[.int .u16 x0, .int .i64 x1, .int .i64 x2, .int .i64 x3])).run Tryd.prog w = .ok true w := by
  have e3 : ∀ x : Int, (Op.equalIn 9999 3 (.int .i64 x) (.int .i64 x)).run Tryd.prog w = .ok true w := fun x => by
    rw [show (9999 : Nat) = 9998 + 1 from rfl, run_equalIn_int w 9998 3 .i64 .i64 x x Tryd.underlying3]
    simp
  have e22 : ∀ x : Int, (Op.equalIn 9999 22 (.int .u16 x) (.int .u16 x)).run Tryd.prog w = .ok true w := fun x => by
    rw [show (9999 : Nat) = 9998 + 1 from rfl, run_equalIn_int w 9998 22 .u16 .u16 x x Tryd.underlying22]
    simp
  rw [show (10000 : Nat) = 9999 + 1 from rfl, Op.equalIn]
  simp only [Sem.run_bind, run_underlying Tryd.underlying57, Result.andThen_ok]
  go_simp
theorem neq57 (x0 x1 x2 x3 : Int) (w : World) : (binOp .neq 57 (.agg #[.int .u16 x0, .int .i64 x1, .int .i64 x2, .int .i64 x3]) (.agg #[.int .u16 x0, .int .i64 x1, .int .i64 x2, .int .i64 x3])).run Tryd.prog w = .ok (.bool false) w := by
  rw [run_neq_struct, eq57, Result.andThen_ok]
  rfl
theorem men_good {s : ByteArray} {m : List F} {d : Nat} (hg : MGood s m d) (u : World) : Calls Tryd.prog 19 #[.string s] u fun e w' => Hid (e = .returned (.tuple #[.string (WLs m), .int .i64 (d : Nat), .int .i64 0]) ∧ Below u.heap.size u w') :=
  (mend_ok s u).mono (by
    rintro e w' ⟨h, hb⟩
    rcases h with ⟨k, hk, _⟩ | ⟨m', d', h', rfl⟩
    · exact (bad_good hk hg).elim
    · have e1 := (gR_eq h').symm.trans (gR_eq hg)
      subst e1
      have e2 : d' = d := h'.2.2.2.2.2.2.trans hg.2.2.2.2.2.2.symm
      rw [e2]
      exact ⟨rfl, hb⟩)
theorem tel_good {s : ByteArray} {m : List F} {d : Nat} (hg : MGood s m d) (u : World) : Calls Tryd.prog 20 #[.string s] u fun e w' => Hid (e = .returned (.tuple #[.agg (tds m).toArray, .int .i64 0]) ∧ Below u.heap.size u w') :=
  (tell_ok s u).mono (by
    rintro e w' ⟨h, hb⟩
    rcases h with ⟨k, hk, _⟩ | ⟨m', d', h', rfl⟩
    · exact (bad_good hk hg).elim
    · have e1 := (gR_eq h').symm.trans (gR_eq hg)
      subst e1
      exact ⟨rfl, hb⟩)
set_option maxHeartbeats 6400000 in
/-- The law Mended. -/
theorem lawmended_ok (sn : Nat) (hsn : Hid (sn < 65536)) (nd ct : Int) (own : Bool) (sv : Value) (ra : Option Addr) (rl rc : Nat) (S Rd : List F) (pa pi pq : Int) (px pz : F) (wd : ByteArray) (hwd : Hid (wd.size ≤ 9223372036854775807)) (w : World) (hT : Hid (Tables w)) (h : Hid (Vf w sv S)) (hr : Hid (Vf w (.slice ra rl rc) Rd)) (hone : Hid (sv.oneCell' = true)) :
    Calls Tryd.prog 7 #[.agg #[.int .u16 (sn : Nat), sv, .int .i64 nd, .int .i64 ct, .bool own, .slice ra rl rc], .agg (pkV pa pi pq px pz).toArray, .string wd] w fun e w' => e = .returned (.bool true) ∧ Below w.heap.size w w' := by
  obtain ⟨M, HMM⟩ : ∃ M, Hid (w.heap.size = M) := ⟨_, rfl⟩
  obtain ⟨D1, HD1⟩ : ∃ z : List Value, Hid ([.int .u16 (sn : Nat), sv, .int .i64 nd, .int .i64 ct, .bool own, .slice ra rl rc] = z) := ⟨_, rfl⟩
  have hi1 : (Tryd.prog.info? 25).map (·.size) = some D1.length := by rw [← HD1.out]; kernel_rfl
  have HTB : Hid (∀ u, Below M w u → Tables u) := fun u hu => hT.out.below hu (by rw [← HMM.out]; exact hT.out.size)
  have HRV : Hid (∀ u, Below M w u → Vf u (.slice ra rl rc) Rd) := fun u hu => hr.out.below (by rw [HMM.out]; exact hu)
  obtain ⟨S2, HS2⟩ : ∃ z : List F, Hid (sec5 S = z) := ⟨_, rfl⟩
  have HSL : Hid (1 ≤ S2.length ∧ S2.length ≤ 64) := by rw [← HS2.out]; exact sec5_len S
  obtain ⟨N, HN⟩ : ∃ z, Hid (nd5 nd = z) := ⟨_, rfl⟩
  obtain ⟨K, HK⟩ : ∃ z, Hid (ct5 nd ct = z) := ⟨_, rfl⟩
  have HNK : Hid (1 ≤ N ∧ N ≤ 16 ∧ N ≤ K ∧ K ≤ 24) := by rw [← HN.out, ← HK.out]; exact ⟨(nd5_le nd).1, (nd5_le nd).2, (ct5_le nd ct).1, (ct5_le nd ct).2⟩
  obtain ⟨R, HRR⟩ : ∃ z : List F, Hid (rnd5 false Rd (N : Nat) (S2.length : Nat) = z) := ⟨_, rfl⟩
  obtain ⟨T, HTT⟩ : ∃ z, Hid (dealT sn S2 R N = z) := ⟨_, rfl⟩
  have HTG : Hid (∀ i, i < 255 → MGood (T i) ((shD sn S2 R N).at' (fN (i + 1))) 0) := by rw [← HTT.out]; exact deal_good_at sn S2 R N HSL.out.1 HSL.out.2 HNK.out.1 HNK.out.2.1
  have HZO : Hid ((shD sn S2 R N).ok) := shD_ok sn S2 R N HSL.out.1 HSL.out.2 HNK.out.1 HNK.out.2.1
  have HZN : Hid ((shD sn S2 R N).bn.1 = N) := fN_val _ (by have := HNK.out; omega)
  have H9 : Hid (∀ u, Below M w u → Calls Tryd.prog 9 #[] u fun e w' => Hid (e = .returned (.bool true) ∧ Below u.heap.size u w')) := fun u hu => live_ok u (HTB.out u hu)
  have H11 : Hid (∀ x u, Calls Tryd.prog 11 #[.int .i64 x] u fun e w' => e = .returned (.int .i64 x) ∧ w' = u) := fun x u => numE_ok x u
  obtain ⟨w1, hw1⟩ : ∃ u, u = (w.alloc (.cells #[.int .u16 (sn : Nat), sv, .int .i64 nd, .int .i64 ct, .bool own, .slice ra rl rc] 25)).alloc (.cells #[.int .i64 pa, .int .i64 pi, .int .i64 pq, .int .u8 (px.1 : Nat), .int .u8 (pz.1 : Nat)] 50) := ⟨_, rfl⟩
  have H1 : Hid (Bx w1 M 25 D1 ∧ Below M w w1 ∧ M ≤ w1.heap.size ∧ Bx w1 (M + 1) 50 (pkV pa pi pq px pz)) := by
    have hb : Below M w (w.alloc (.cells #[.int .u16 (sn : Nat), sv, .int .i64 nd, .int .i64 ct, .bool own, .slice ra rl rc] 25)) := (Below.refl _ _).alloc (Nat.le_of_eq HMM.out.symm) _
    have h0 : (w.alloc (.cells #[.int .u16 (sn : Nat), sv, .int .i64 nd, .int .i64 ct, .bool own, .slice ra rl rc] 25)).heap.size = M + 1 := by rw [← HMM.out]; simp
    have hb2 : Below (M + 1) (w.alloc (.cells #[.int .u16 (sn : Nat), sv, .int .i64 nd, .int .i64 ct, .bool own, .slice ra rl rc] 25)) w1 := by rw [hw1]; exact (Below.refl _ _).alloc (Nat.le_of_eq h0.symm) _
    have hx : Bx (w.alloc (.cells #[.int .u16 (sn : Nat), sv, .int .i64 nd, .int .i64 ct, .bool own, .slice ra rl rc] 25)) M 25 D1 := by rw [← HMM.out, ← HD1.out]; exact Bx.new w 25 _
    have hz := hb2.size
    refine ⟨hx.keep (hb2.block M (by omega)), hb.trans (hb2.mono (by omega)), by omega, ?_⟩
    rw [hw1, ← h0]
    exact Bx.new _ 50 (pkV pa pi pq px pz)
  have H8 : Hid (Calls Tryd.prog 8 #[.agg D1.toArray] w1 fun e w' => Hid (∃ g c tg, e = .returned (.tuple #[.agg #[.int .u16 (sn : Nat), .slice (some ⟨g, 0, none⟩) S2.length c, .int .i64 (N : Nat), .int .i64 (K : Nat), .bool false, .slice ra rl rc], .slice (some ⟨tg, 0, none⟩) K K, .bool true]) ∧ S2.length ≤ c ∧ c ≤ maxLen ∧ w1.heap.size ≤ g ∧ Rx w' g S2 ∧ w1.heap.size ≤ tg ∧ Bx w' tg 9 (tcs T K) ∧ Below w1.heap.size w1 w')) := by
    have z := dealt_ok sn hsn nd ct own sv ra rl rc S Rd w1 (HTB.out w1 H1.out.2.1) (h.out.below (by rw [HMM.out]; exact H1.out.2.1)) (HRV.out w1 H1.out.2.1)
    rw [HS2.out, HN.out, HK.out, HRR.out, HTT.out] at z
    rw [← HD1.out]
    exact z
  have HRG := H1.out.1.range
  have hpk : (pkV pa pi pq px pz).toArray = #[.int .i64 pa, .int .i64 pi, .int .i64 pq, .int .u8 (px.1 : Nat), .int .u8 (pz.1 : Nat)] := rfl
  rw [HMM.out, hpk]
  go_enter Tryd.func7, Tryd.ntmps7
  go_upto_region 1 with fail
  rw [← hw1, HMM.out]
  clear hw1 hpk
  go_upto_region 2 with (first
    | (refine wpList_load_mid (by rfl) 25 (.tmp 3) (by rfl) M 0 (by rfl) D1 _ HRG Tryd.underlying25 rfl hi1 ?_)
    | (go_at_call 8; refine H8.out.mono ?_; intro e2 w2 hh; obtain ⟨g, c, tg, rfl, q1, q2, q3, q4, q5, q6, q7⟩ := hh.out; have H2 : Hid (Bx w2 tg 9 (tcs T K) ∧ Below M w w2 ∧ Bx w2 (M + 1) 50 (pkV pa pi pq px pz)) := ⟨q6, H1.out.2.1.trans (q7.mono H1.out.2.2.1), H1.out.2.2.2.below q7⟩; clear hh q1 q2 q3 q4 q5 q6 q7)
    | (refine wpList_store_bx (by rfl) 25 (.tmp 7) (.tmp 34) (by rfl) Z25 [.int .u16 (sn : Nat), .slice (some ⟨g, 0, none⟩) S2.length c, .int .i64 (N : Nat), .int .i64 (K : Nat), .bool false, .slice ra rl rc] w2.heap.size (by rfl) (by rfl) (Bx.new w2 25 Z25) (by rfl) (by kernel_rfl) (by intro v hv; simp at hv; rcases hv with rfl | rfl | rfl | rfl | rfl | rfl <;> rfl) ?_; intro w3 h7 h8; have H3 : Hid (Bx w3 tg 9 (tcs T K) ∧ Below M w w3 ∧ Bx w3 (M + 1) 50 (pkV pa pi pq px pz)) := (by
        have hb : Below w2.heap.size w2 w3 := ((Below.refl _ _).alloc (Nat.le_refl _) _).trans (below_gb h8 (by simp) (Nat.le_refl _))
        exact ⟨H2.out.1.below hb, H2.out.2.1.trans (hb.mono (by rw [← HMM.out]; exact H2.out.2.1.size)), H2.out.2.2.below hb⟩); clear h7 h8)
    | fail)
  clear HRG H8 H2
  have HL9 : Hid (Calls Tryd.prog 9 #[] w3 fun e w' => Hid (e = .returned (.bool true) ∧ Below w3.heap.size w3 w')) := H9.out w3 H3.out.2.1
  go_upto_region 4 with (first
    | (go_at_call 9; refine HL9.out.mono ?_; intro e4 w4 hh; obtain ⟨rfl, h4⟩ := hh.out; have H4 : Hid (Bx w4 tg 9 (tcs T K) ∧ Below M w w4 ∧ Bx w4 (M + 1) 50 (pkV pa pi pq px pz)) := ⟨H3.out.1.below h4, H3.out.2.1.trans (h4.mono (by rw [← HMM.out]; exact H3.out.2.1.size)), H3.out.2.2.below h4⟩; clear hh h4)
    | fail)
  clear HL9 H3
  obtain ⟨A, HA⟩ : ∃ z, Hid (idxW pa K = z) := ⟨_, rfl⟩
  have HAK : Hid ((IntKind.u64.wrap pa).tmod (K : Nat) = (A : Nat) ∧ A < K) := by
    rw [← HA.out]
    exact idxW_tmod pa K (by have := HNK.out; omega)
  obtain ⟨X, HX⟩ : ∃ z, Hid ((shD sn S2 R N).at' (fN (A + 1)) = z) := ⟨_, rfl⟩
  have HXO : Hid (okF X ∧ sumL X = [0, 0, 0, 0]) := by
    rw [← HX.out]
    exact ⟨Shg.okR HZO.out _ (by rw [fN_val _ (by have := HAK.out; have := HNK.out; omega)]; omega), Shg.zero _ _⟩
  obtain ⟨n, HNX⟩ : ∃ z, Hid (X.length = z) := ⟨_, rfl⟩
  have HNL : Hid (14 ≤ n ∧ n ≤ 78 ∧ n % 2 = 0) := by rw [← HNX.out]; exact okF_size HXO.out.1
  obtain ⟨tA, HTA⟩ : ∃ z, Hid (T A = z) := ⟨_, rfl⟩
  have HWX : Hid (WLs X = tA) := by
    show _ = _
    rw [← HTA.out, ← HTT.out, dealT_at sn S2 R N A HNK.out.2.1, HX.out]
  have HG0 : Hid (MGood tA X 0) := by
    show MGood _ _ _
    rw [← HWX.out]
    exact self_good X HXO.out.1 HXO.out.2
  obtain ⟨Y, HY⟩ : ∃ z, Hid (hurtL X pi px pq pz = z) := ⟨_, rfl⟩
  have HYL : Hid (Y.length = n) := by show _ = _; rw [← HY.out, hurtL_len, HNX.out]
  obtain ⟨tB, HTB2⟩ : ∃ z, Hid (WLs Y = z) := ⟨_, rfl⟩
  obtain ⟨dh, HDH⟩ : ∃ z, Hid (dif X Y n = z) := ⟨_, rfl⟩
  have HG1 : Hid (MGood tB X dh) := by
    show MGood _ _ _
    rw [← HTB2.out, ← HDH.out, ← HYL.out]
    refine near_good Y X HXO.out.1 ?_
    rw [← HY.out]
    exact hurt_nr X HXO.out.2 (by rw [HNX.out]; have := HNL.out; omega) pi px pq pz
  obtain ⟨x0, x1, x2, x3, HX4⟩ : ∃ x0 x1 x2 x3 : Int, Hid ((tds X).toArray = #[.int .u16 x0, .int .i64 x1, .int .i64 x2, .int .i64 x3]) := ⟨_, _, _, _, rfl⟩
  have H18 : Hid (∀ u, Calls Tryd.prog 18 #[.string tA, .int .i64 pi, .int .u8 (px.1 : Nat), .int .i64 pq, .int .u8 (pz.1 : Nat)] u fun e w' => Hid (e = .returned (.tuple #[.string tB, .bool true]) ∧ Below u.heap.size u w')) := fun u => by
    have z := hurt_ok X tA (by rw [HNX.out]; have := HNL.out; exact ⟨by omega, this.2.1, this.2.2⟩) HWX pi pq px pz u
    rw [HY.out] at z
    refine z.mono fun e w' hh => ?_
    rw [← HTB2.out]
    exact hh
  have H19a : Hid (∀ u, Calls Tryd.prog 19 #[.string tB] u fun e w' => Hid (e = .returned (.tuple #[.string tA, .int .i64 (dh : Nat), .int .i64 0]) ∧ Below u.heap.size u w')) := fun u => by
    have z := men_good HG1.out u
    rw [HWX.out] at z
    exact z
  have H19b : Hid (∀ u, Calls Tryd.prog 19 #[.string tA] u fun e w' => Hid (e = .returned (.tuple #[.string tA, .int .i64 0, .int .i64 0]) ∧ Below u.heap.size u w')) := fun u => by
    have z := men_good HG0.out u
    rw [HWX.out] at z
    exact z
  have H20a : Hid (∀ u, Calls Tryd.prog 20 #[.string tB] u fun e w' => Hid (e = .returned (.tuple #[.agg #[.int .u16 x0, .int .i64 x1, .int .i64 x2, .int .i64 x3], .int .i64 0]) ∧ Below u.heap.size u w')) := fun u => by rw [← HX4.out]; exact tel_good HG1.out u
  have H20b : Hid (∀ u, Calls Tryd.prog 20 #[.string tA] u fun e w' => Hid (e = .returned (.tuple #[.agg #[.int .u16 x0, .int .i64 x1, .int .i64 x2, .int .i64 x3], .int .i64 0]) ∧ Below u.heap.size u w')) := fun u => by rw [← HX4.out]; exact tel_good HG0.out u
  have hz4 : (Tryd.prog.info? 57).map (·.size) = some 4 := by kernel_rfl
  have hone4 : ∀ v ∈ ([.int .u16 x0, .int .i64 x1, .int .i64 x2, .int .i64 x3] : List Value), v.oneCell' = true := by intro v hv; simp at hv; rcases hv with rfl | rfl | rfl | rfl <;> rfl
  have HPC : Hid (∀ u, Bx u (M + 1) 50 (pkV pa pi pq px pz) → u.cell? ⟨M + 1, 0, none⟩ = some (.int .i64 pa) ∧ u.cell? ⟨M + 1, 1, none⟩ = some (.int .i64 pi) ∧ u.cell? ⟨M + 1, 2, none⟩ = some (.int .i64 pq) ∧ u.cell? ⟨M + 1, 3, none⟩ = some (.int .u8 (px.1 : Nat)) ∧ u.cell? ⟨M + 1, 4, none⟩ = some (.int .u8 (pz.1 : Nat))) := fun u hu => ⟨hu.cell 0 _ rfl, hu.cell 1 _ rfl, hu.cell 2 _ rfl, hu.cell 3 _ rfl, hu.cell 4 _ rfl⟩
  obtain ⟨k0, k1, k2, k3, k4⟩ := HPC.out w4 H4.out.2.2
  have e1 : IntKind.u64.wrap ((K : Nat) : Int) = (K : Nat) := u64_nat K (by have := HNK.out; omega)
  have e2 := HAK.out.1
  have e3 : IntKind.i64.wrap ((A : Nat) : Int) = (A : Nat) := by rw [IntKind.wrap_i64]; have := HAK.out; have := HNK.out; omega
  have HKZ : ¬ ((K : Nat) : Int) = 0 := by have := HNK.out; omega
  have g3 : (0 : Int) ≤ (A : Int) := by omega
  have g4 : (A : Int) < (K : Int) := by have := HAK.out; omega
  have cj : w4.cell? ⟨tg, A, none⟩ = some (.string tA) := by rw [← HTA.out]; exact H4.out.1.cell A _ (tcs_at T K A HAK.out.2)
  have WS : Hid (∀ u v, Below M w u → Below u.heap.size u v → Below M w v) := fun u v h1 h2 => h1.trans (h2.mono (by rw [← HMM.out]; exact h1.size))
  go_upto_region 5 with fail
  clear e1 e2 e3 HKZ g3 g4 cj
  generalize hxx : (px.1 : Nat) = xb at H18 k3
  generalize hzz : (pz.1 : Nat) = zb at H18 k4
  go_upto_region 6 with (first
    | (go_at_call 18; refine (H18.out _).mono ?_; intro e5 w5 hh; obtain ⟨rfl, hb⟩ := hh.out; have H5 : Hid (Below M w w5 ∧ Bx w5 (M + 1) 50 (pkV pa pi pq px pz)) := ⟨WS.out _ _ H4.out.2.1 hb, H4.out.2.2.below hb⟩; clear hh hb)
    | fail)
  clear k0 k1 k2 k3 k4 H4 H18
  go_upto_region 7 with (first
    | (go_at_call 19; refine (H19a.out _).mono ?_; intro e6 w6 hh; obtain ⟨rfl, hb⟩ := hh.out; have H6 : Hid (Below M w w6 ∧ Bx w6 (M + 1) 50 (pkV pa pi pq px pz)) := ⟨WS.out _ _ H5.out.1 hb, H5.out.2.below hb⟩; clear hh hb)
    | fail)
  clear H5 H19a
  go_upto_region 8 with (first
    | (go_at_call 20; refine (H20a.out _).mono ?_; intro e7 w7 hh; obtain ⟨rfl, hb⟩ := hh.out; have H7 : Hid (Below M w w7 ∧ Bx w7 (M + 1) 50 (pkV pa pi pq px pz)) := ⟨WS.out _ _ H6.out.1 hb, H6.out.2.below hb⟩; clear hh hb)
    | (refine wpList_store_bx (by rfl) 57 (.tmp 16) (.tmp 76) (by rfl) Z4l [.int .u16 x0, .int .i64 x1, .int .i64 x2, .int .i64 x3] w7.heap.size (by rfl) (by rfl) (Bx.new w7 57 Z4l) (by rfl) hz4 hone4 ?_; intro w8 h7 h8; have H8 : Hid (Below M w w8 ∧ Bx w8 (M + 1) 50 (pkV pa pi pq px pz) ∧ Bx w8 w7.heap.size 57 [.int .u16 x0, .int .i64 x1, .int .i64 x2, .int .i64 x3]) := (by
        have hb : Below w7.heap.size w7 w8 := ((Below.refl _ _).alloc (Nat.le_refl _) _).trans (below_gb h8 (by simp) (Nat.le_refl _))
        exact ⟨WS.out _ _ H7.out.1 hb, H7.out.2.below hb, h7⟩); clear h7 h8)
    | fail)
  clear H6 H20a H7
  obtain ⟨Q1, HQ1⟩ : ∃ z, Hid (w7.heap.size = z) := ⟨_, rfl⟩
  rw [HQ1.out] at H8 ⊢
  go_upto_region 9 with (first
    | (go_at_call 20; refine (H20b.out _).mono ?_; intro e9 w9 hh; obtain ⟨rfl, hb⟩ := hh.out; have H9x : Hid (Below M w w9 ∧ Bx w9 (M + 1) 50 (pkV pa pi pq px pz) ∧ Bx w9 Q1 57 [.int .u16 x0, .int .i64 x1, .int .i64 x2, .int .i64 x3]) := ⟨WS.out _ _ H8.out.1 hb, H8.out.2.1.below hb, H8.out.2.2.below hb⟩; clear hh hb)
    | (refine wpList_store_bx (by rfl) 57 (.tmp 18) (.tmp 81) (by rfl) Z4l [.int .u16 x0, .int .i64 x1, .int .i64 x2, .int .i64 x3] w9.heap.size (by rfl) (by rfl) (Bx.new w9 57 Z4l) (by rfl) hz4 hone4 ?_; intro w10 h7 h8; have H10 : Hid (Below M w w10 ∧ Bx w10 (M + 1) 50 (pkV pa pi pq px pz) ∧ Bx w10 Q1 57 [.int .u16 x0, .int .i64 x1, .int .i64 x2, .int .i64 x3] ∧ Bx w10 w9.heap.size 57 [.int .u16 x0, .int .i64 x1, .int .i64 x2, .int .i64 x3]) := (by
        have hb : Below w9.heap.size w9 w10 := ((Below.refl _ _).alloc (Nat.le_refl _) _).trans (below_gb h8 (by simp) (Nat.le_refl _))
        exact ⟨WS.out _ _ H9x.out.1 hb, H9x.out.2.1.below hb, H9x.out.2.2.below hb, h7⟩); clear h7 h8)
    | fail)
  clear H8 H20b H9x
  obtain ⟨Q2, HQ2⟩ : ∃ z, Hid (w9.heap.size = z) := ⟨_, rfl⟩
  rw [HQ2.out] at H10 ⊢
  go_upto_region 10 with (first
    | (go_at_call 19; refine (H19b.out _).mono ?_; intro e11 w11 hh; obtain ⟨rfl, hb⟩ := hh.out; have H11x : Hid (Below M w w11 ∧ Bx w11 (M + 1) 50 (pkV pa pi pq px pz) ∧ Bx w11 Q1 57 [.int .u16 x0, .int .i64 x1, .int .i64 x2, .int .i64 x3] ∧ Bx w11 Q2 57 [.int .u16 x0, .int .i64 x1, .int .i64 x2, .int .i64 x3]) := ⟨WS.out _ _ H10.out.1 hb, H10.out.2.1.below hb, H10.out.2.2.1.below hb, H10.out.2.2.2.below hb⟩; clear hh hb)
    | fail)
  clear H10 H19b
  have heq57 := fun u => neq57 x0 x1 x2 x3 u
  have HR1 := H11x.out.2.2.1.range
  have HR2 := H11x.out.2.2.2.range
  go_upto_region 12 with (first
    | (go_at_call 11; refine (H11.out _ _).mono ?_; rintro e1 wn ⟨rfl, hw⟩; obtain rfl := hw.symm; clear hw)
    | (refine wpList_load_gd (by rfl) 57 (.tmp 16) (by rfl) Q1 0 (by rfl) [.int .u16 x0, .int .i64 x1, .int .i64 x2, .int .i64 x3] _ HR1 Tryd.underlying57 rfl hz4 ?_)
    | (refine wpList_load_gd (by rfl) 57 (.tmp 18) (by rfl) Q2 0 (by rfl) [.int .u16 x0, .int .i64 x1, .int .i64 x2, .int .i64 x3] _ HR2 Tryd.underlying57 rfl hz4 ?_)
    | fail)
  clear heq57 HR1 HR2
  have HBX : Hid (∀ u, Calls Tryd.prog 15 #[.string tA] u fun e w' => BytQ X u.heap.size e u w') := fun u => bytes_ok X tA (by rw [HNX.out]; have := HNL.out; exact ⟨by omega, this.2.1, this.2.2⟩) HWX u
  have HBY : Hid (∀ u, Calls Tryd.prog 15 #[.string tB] u fun e w' => BytQ Y u.heap.size e u w') := fun u => bytes_ok Y tB (by rw [HYL.out]; have := HNL.out; exact ⟨by omega, this.2.1, this.2.2⟩) HTB2 u
  go_upto_region 13 with (first
    | (go_at_call 15; refine (HBX.out _).mono ?_; intro e7 w12 hh; obtain ⟨gx, cx, rfl, q1, q2, q3, q4, q5⟩ := hh; have H12 : Hid (Below M w w12 ∧ Bx w12 (M + 1) 50 (pkV pa pi pq px pz) ∧ Rx w12 gx X) := ⟨WS.out _ _ H11x.out.1 q5, H11x.out.2.1.below q5, q4⟩; clear q1 q2 q3 q4 q5; rw [HNX.out])
    | fail)
  clear H11x HBX
  go_upto_region 14 with (first
    | (go_at_call 15; refine (HBY.out _).mono ?_; intro e8 w13 hh; obtain ⟨gy, cy, rfl, q1, q2, q3, q4, q5⟩ := hh; have H13 : Hid (Below M w w13 ∧ Bx w13 (M + 1) 50 (pkV pa pi pq px pz) ∧ Rx w13 gx X ∧ Rx w13 gy Y) := ⟨WS.out _ _ H12.out.1 q5, H12.out.2.1.below q5, H12.out.2.2.below q5, q4⟩; clear q1 q2 q3 q4 q5; rw [HYL.out])
    | fail)
  clear H12 HBY
  go_upto_region 16 with fail
  go_loopw [27, 28] (fun vd vj wr => ∃ j d : Nat, j ≤ n ∧ vd = .int .i64 (d : Nat) ∧ vj = .int .i64 (j : Nat) ∧ Hid (d = dif X Y j) ∧ ∃ q, Hid (wr = w13.drewN q)) (fun _ vj _ => n - (intOf vj).toNat)
  case atStart => exact ⟨0, 0, Nat.zero_le _, rfl, rfl, rfl, 0, rfl⟩
  case round =>
    obtain ⟨j, d, hj, rfl, rfl, hd, q, hq⟩ := hrel
    obtain rfl := hq.out.symm
    by_cases hlt : j < n
    · have HJ : Hid (j < n) := hlt
      have g1 : (j : Int) < (n : Int) := by omega
      have g0 : (0 : Int) ≤ (j : Int) := by omega
      have ej : IntKind.i64.wrap ((j : Int) + 1) = ((j + 1 : Nat) : Int) := by rw [IntKind.wrap_i64]; have := HNL.out; omega
      have HDL : Hid (d ≤ 78) := by show _ ≤ _; rw [hd.out]; have := dif_le X Y j; have := HNL.out; omega
      have ed : IntKind.i64.wrap ((d : Int) + 1) = ((d + 1 : Nat) : Int) := by rw [IntKind.wrap_i64]; have := HDL.out; omega
      have c1 : w13.cell? ⟨gx, j, none⟩ = some (.int .u8 ((X.getD j 0).1 : Nat)) := H13.out.2.2.1.cell j (by rw [HNX.out]; exact hlt)
      have c2 : w13.cell? ⟨gy, j, none⟩ = some (.int .u8 ((Y.getD j 0).1 : Nat)) := H13.out.2.2.2.cell j (by rw [HYL.out]; exact hlt)
      have HDS : Hid (dif X Y (j + 1) = if X.getD j 0 = Y.getD j 0 then dif X Y j else dif X Y j + 1) := rfl
      by_cases hxy : X.getD j 0 = Y.getD j 0
      · have HDN : Hid (d = dif X Y (j + 1)) := by show _ = _; rw [HDS.out, if_pos hxy]; exact hd.out
        rw [hxy] at c1
        generalize ((Y.getD j 0).1 : Nat) = y at c1 c2
        clear hxy hlt hj ed
        go_wp2
        go_quiet (fail)
        go_wp2
        go_roundw
        case rel => exact ⟨j + 1, d, HJ.out, rfl, by go_num, HDN.out, _, rfl⟩
        case measure => simp [intOf]; have := HJ.out; omega
      · have HDN : Hid (d + 1 = dif X Y (j + 1)) := by show _ = _; rw [HDS.out, if_neg hxy, ← hd.out]
        have hny : ¬ (((X.getD j 0).1 : Nat) : Int) = (((Y.getD j 0).1 : Nat) : Int) := fun e => hxy (Fin.ext (by omega))
        generalize ((Y.getD j 0).1 : Nat) = y at c2 hny
        generalize ((X.getD j 0).1 : Nat) = x at c1 hny
        clear hxy hlt hj
        go_wp2
        go_quiet (fail)
        go_wp2
        go_roundw
        case rel => exact ⟨j + 1, d + 1, HJ.out, by go_num, by go_num, HDN.out, _, rfl⟩
        case measure => simp [intOf]; have := HJ.out; omega
    · obtain rfl : j = n := by omega
      have hdd : d = dh := by rw [hd.out, HDH.out]
      subst hdd
      have g1 : ¬ (j : Int) < (j : Int) := by omega
      clear hlt hj hd
      have HW : Hid (∀ m, Below M w (w13.drewN m) ∧ Bx (w13.drewN m) (M + 1) 50 (pkV pa pi pq px pz)) := fun m => ⟨below_drewN0 H13.out.1 m, H13.out.2.1⟩
      obtain ⟨ws, hws⟩ : ∃ u, Hid (u = w13.drewN q) := ⟨_, rfl⟩
      have HWs : Hid (Below M w ws ∧ Bx ws (M + 1) 50 (pkV pa pi pq px pz)) := by rw [hws.out]; exact HW.out q
      rw [← hws.out]
      clear HW H13 hws
      obtain ⟨W, HWD⟩ : ∃ z, Hid (wd.data.toList = z) := ⟨_, rfl⟩
      have HWZ : Hid (wd.size = W.length) := by show _ = _; rw [← HWD.out, Array.length_toList]; rfl
      have HIX : Hid (∀ (k : Nat) u, k < wd.size → (Instr.index 9 (.string wd) (.int .i64 (k : Nat))).run Tryd.prog u = .ok (.int .u8 ((W.getD k 0).toNat : Nat)) u) := fun k u hk => by rw [← HWD.out]; exact index_str wd k hk u
      go_upto_region 23 with fail
      go_loopw [29] (fun vi wr => ∃ k : Nat, k ≤ wd.size ∧ vi = .int .i64 (k : Nat) ∧ Hid ((∀ i, i < k → gapU (W.getD i 0) = false) ∧ wr = ws)) (fun vi _ => wd.size - (intOf vi).toNat)
      case atStart => exact ⟨0, Nat.zero_le _, rfl, fun i hi => absurd hi (Nat.not_lt_zero i), rfl⟩
      case round =>
        obtain ⟨k, hk, rfl, HI⟩ := hrel
        obtain rfl := HI.out.2.symm
        by_cases hlt : k < wd.size
        · have HKL : Hid (k < wd.size) := hlt
          have g5 : (k : Int) < (wd.size : Int) := by omega
          have g6 : (0 : Int) ≤ (k : Int) := by omega
          have hix := fun u => HIX.out k u hlt
          have ek : IntKind.i64.wrap ((k : Int) + 1) = ((k + 1 : Nat) : Int) := by rw [IntKind.wrap_i64]; have := hwd.out; omega
          obtain ⟨c, HC⟩ : ∃ z, Hid ((W.getD k 0).toNat = z) := ⟨_, rfl⟩
          rw [HC.out] at hix
          have HGP : Hid (gapU (W.getD k 0) = gapN c) := by show _ = _; rw [← HC.out]; rfl
          clear hlt hk
          by_cases h1 : c = 32
          · subst h1
            go_wp2
            go_ret
            exact ⟨rfl, HWs.out.1⟩
          by_cases h2 : c = 9
          · subst h2
            go_wp2
            go_ret
            exact ⟨rfl, HWs.out.1⟩
          by_cases h3 : c = 10
          · subst h3
            go_wp2
            go_ret
            exact ⟨rfl, HWs.out.1⟩
          by_cases h4 : c = 13
          · subst h4
            go_wp2
            go_ret
            exact ⟨rfl, HWs.out.1⟩
          by_cases h5 : c = 45
          · subst h5
            go_wp2
            go_ret
            exact ⟨rfl, HWs.out.1⟩
          have HNG : Hid (gapU (W.getD k 0) = false) := by
            show _ = _
            rw [HGP.out]
            unfold gapN
            simp [h1, h2, h3, h4, h5]
          have n1 : ¬ (c : Int) = 32 := by omega
          have n2 : ¬ (c : Int) = 9 := by omega
          have n3 : ¬ (c : Int) = 10 := by omega
          have n4 : ¬ (c : Int) = 13 := by omega
          have n5 : ¬ (c : Int) = 45 := by omega
          have HNX2 : Hid (∀ i, i < k + 1 → gapU (W.getD i 0) = false) := fun i hi => by
            by_cases e : i = k
            · rw [e]; exact HNG.out
            · exact HI.out.1 i (by omega)
          clear h1 h2 h3 h4 h5
          go_wp2
          · go_ret
            exact ⟨rfl, HWs.out.1⟩
          · have hkl := HKL.out
            refine ⟨⟨k + 1, HKL.out, by first | rfl | go_num | (simp; done), HNX2.out, trivial⟩, ?_⟩
            simp [intOf]
            omega
        · obtain rfl : k = wd.size := by omega
          have g5 : ¬ (wd.size : Int) < (wd.size : Int) := by omega
          have HGA : Hid (∀ c ∈ W, gapU c = false) := fun c hc => by
            obtain ⟨i, hi, rfl⟩ := List.mem_iff_getElem.1 hc
            have z := HI.out.1 i (by rw [HWZ.out]; exact hi)
            rw [List.getD_eq_getElem?_getD, List.getElem?_eq_getElem hi, Option.getD_some] at z
            exact z
          clear hlt hk HIX
          by_cases h5 : wd.size = 5
          · have g6 : ((wd.size : Nat) : Int) = 5 := by omega
            have HW5 : Hid (W.length = 5) := by show _ = _; rw [← HWZ.out]; exact h5
            clear h5
            obtain ⟨kn, HKN⟩ : ∃ z, Hid (j / 2 = z) := ⟨_, rfl⟩
            have HSZ : Hid (tA.size + 1 = 6 * kn ∧ 7 ≤ kn ∧ kn ≤ 39) := by
              have z := words_sz X (by rw [HNX.out]; have := HNL.out; omega)
              rw [HWX.out, HNX.out, HKN.out] at z
              have h1 := HNL.out
              have h2 := HKN.out
              exact ⟨z, by omega, by omega⟩
            obtain ⟨p, HPX⟩ : ∃ z, Hid (idxW pi kn = z) := ⟨_, rfl⟩
            have HPK : Hid ((IntKind.u64.wrap pi).tmod (kn : Nat) = (p : Nat) ∧ p < kn) := by
              rw [← HPX.out]
              exact idxW_tmod pi kn (by have := HSZ.out; omega)
            obtain ⟨a, HAA⟩ : ∃ z, Hid (6 * p = z) := ⟨_, rfl⟩
            obtain ⟨b, HBB⟩ : ∃ z, Hid (a + 5 = z) := ⟨_, rfl⟩
            have f1 : IntKind.i64.wrap ((tA.size : Int) + 1) = ((6 * kn : Nat) : Int) := by rw [IntKind.wrap_i64]; have := HSZ.out; omega
            have f2 : ((6 * kn : Nat) : Int).tdiv 6 = ((kn : Nat) : Int) := by rw [Int.tdiv_eq_ediv_of_nonneg (by omega)]; omega
            have f3 : RowKit.wrap64 ((kn : Nat) : Int) = (kn : Nat) := by have := HSZ.out; simp [RowKit.wrap64]; omega
            have f4 : IntKind.u64.wrap ((kn : Nat) : Int) = (kn : Nat) := u64_nat kn (by have := HSZ.out; omega)
            have f5 := HPK.out.1
            have f6 : IntKind.i64.wrap ((p : Nat) : Int) = (p : Nat) := by rw [IntKind.wrap_i64]; have := HPK.out; have := HSZ.out; omega
            have f7 : IntKind.i64.wrap (6 * ((p : Nat) : Int)) = (a : Nat) := by rw [IntKind.wrap_i64]; have := HPK.out; have := HSZ.out; have := HAA.out; omega
            have f8 : ¬ ((kn : Nat) : Int) = 0 := by have := HSZ.out; omega
            have f9 : ¬ kn = 0 := by have := HSZ.out; omega
            obtain ⟨k0, k1, k2, k3, k4⟩ := HPC.out ws HWs.out.2
            obtain ⟨s1, HS1⟩ : ∃ z, Hid (tA.extract 0 a = z) := ⟨_, rfl⟩
            obtain ⟨s12, HS12⟩ : ∃ z, Hid (s1 ++ wd = z) := ⟨_, rfl⟩
            obtain ⟨s4, HS4⟩ : ∃ z, Hid (tA.extract b tA.size = z) := ⟨_, rfl⟩
            obtain ⟨s3, HS3⟩ : ∃ z, Hid (s12 ++ s4 = z) := ⟨_, rfl⟩
            have HAL : Hid (a ≤ tA.size ∧ b ≤ tA.size ∧ tA.size ≤ 300) := by
              have h1 := HSZ.out
              have h2 := HPK.out
              have h3 := HAA.out
              have h4 := HBB.out
              exact ⟨by omega, by omega, by omega⟩
            have HLS : Hid (s3.data.toList = putW tA p W) := by
              show _ = _
              rw [← HS3.out, ← HS12.out, ← HS1.out, ← HS4.out, ByteArray.data_append, ByteArray.data_append, Array.toList_append, Array.toList_append, ext_to, ext_from, HWD.out, ← HBB.out, ← HAA.out]
              rfl
            have sz1 : s1.size ≤ 300 := by
              have e : s1.data.toList.length ≤ 300 := by rw [← HS1.out, ext_to, List.length_take, Array.length_toList]; have := HAL.out; exact Nat.le_trans (Nat.min_le_right _ _) this.2.2
              rwa [Array.length_toList] at e
            have sz4 : s4.size ≤ 300 := by
              have e : s4.data.toList.length ≤ 300 := by rw [← HS4.out, ext_from, List.length_drop, Array.length_toList]; have := HAL.out; exact Nat.le_trans (Nat.sub_le _ _) this.2.2
              rwa [Array.length_toList] at e
            have sz12 : s12.size ≤ 305 := by
              rw [← HS12.out, ByteArray.size_append, HWZ.out, HW5.out]
              omega
            have hsl1 : ∀ u, (Instr.slice 9 (.string tA) none (some (.int .i64 (a : Nat))) none).run Tryd.prog u = .ok (.string s1) u := fun u => by
              rw [run_slice_string_to_if u 9 tA .i64 (a : Nat) (by kernel_rfl), if_pos ⟨by omega, by have := HAL.out; omega⟩, Int.toNat_natCast, HS1.out]
            have hsl2 : ∀ u, (Instr.slice 9 (.string tA) (some (.int .i64 (b : Nat))) none none).run Tryd.prog u = .ok (.string s4) u := fun u => by
              rw [run_slice_string_from_if u 9 tA .i64 (b : Nat) (by kernel_rfl), if_pos ⟨by omega, by have := HAL.out; omega⟩, Int.toNat_natCast, HS4.out]
            have had1 : ∀ u, (Op.stringOp .add s1 wd).run Tryd.prog u = .ok (.string s12) u := fun u => by
              rw [run_string_add_sum u s1 wd (by rw [HWZ.out, HW5.out]; omega), HS12.out]
            have had2 : ∀ u, (Op.stringOp .add s12 s4).run Tryd.prog u = .ok (.string s3) u := fun u => by
              rw [run_string_add_sum u s12 s4 (by omega), HS3.out]
            have HSL : Hid ((∀ u, (Instr.slice 9 (.string tA) none (some (.int .i64 (a : Nat))) none).run Tryd.prog u = .ok (.string s1) u) ∧ (∀ u, (Instr.slice 9 (.string tA) (some (.int .i64 (b : Nat))) none none).run Tryd.prog u = .ok (.string s4) u) ∧ (∀ u, (Op.stringOp .add s1 wd).run Tryd.prog u = .ok (.string s12) u) ∧ ∀ u, (Op.stringOp .add s12 s4).run Tryd.prog u = .ok (.string s3) u) := ⟨hsl1, hsl2, had1, had2⟩
            clear hsl1 hsl2 had1 had2 sz1 sz4 sz12
            obtain ⟨d3, hg3, hd3⟩ := putW_good X HXO.out.1 HXO.out.2 p (by rw [HNX.out, HKN.out]; exact HPK.out.2) W HW5.out HGA.out s3 (by rw [HWX.out]; exact HLS.out)
            have H19c : Hid (∀ u, Calls Tryd.prog 19 #[.string s3] u fun e w' => Hid (e = .returned (.tuple #[.string tA, .int .i64 (d3 : Nat), .int .i64 0]) ∧ Below u.heap.size u w')) := fun u => by
              have z := men_good hg3 u
              rw [HWX.out] at z
              exact z
            have HD3 : Hid (d3 ≤ 2) := hd3
            clear hg3 hd3
            go_upto_region 30 with fail
            clear f1 f2 f3 f4 f5 f6 f7 f8 f9 k0 k1 k2 k3 k4 g5
            have f10 : IntKind.i64.wrap ((a : Nat) + 5 : Int) = (b : Nat) := by rw [IntKind.wrap_i64]; have := HAL.out; have := HBB.out; omega
            have hS0 : Below ws.heap.size ws ws.drew := (Below.refl _ _).drew
            refine wp_region_noPanic ?_
            refine wp_region_held_drew (S := (fun u => Below ws.heap.size ws u)) (by kernel_rfl) (hS0) (fun _ => ?_)
            refine takeH_at 0 209 (.string tA) rfl rfl (by kernel_rfl) (by kernel_rfl) (by kernel_rfl) (fun _ _ _ h => h) (hS0) (Or.inl ⟨by rfl, fun w' hS' => by have q1 := HSL.out.1 w'; have q2 := HSL.out.2.1 w'; have q3 := HSL.out.2.2.1 w'; have q4 := HSL.out.2.2.2 w'; go_simp⟩) ?_
            try simp only [List.setIfInBounds_toArray, List.set_cons_zero, List.set_cons_succ]
            refine takeH_at 1 210 (.int .i64 (a : Nat)) rfl rfl (by kernel_rfl) (by kernel_rfl) (by kernel_rfl) (fun _ _ _ h => h) (hS0) (Or.inl ⟨by rfl, fun w' hS' => by have q1 := HSL.out.1 w'; have q2 := HSL.out.2.1 w'; have q3 := HSL.out.2.2.1 w'; have q4 := HSL.out.2.2.2 w'; go_simp⟩) ?_
            try simp only [List.setIfInBounds_toArray, List.set_cons_zero, List.set_cons_succ]
            refine takeH_at 2 211 (.string s1) rfl rfl (by kernel_rfl) (by kernel_rfl) (by kernel_rfl) (fun _ _ _ h => h) (hS0) (Or.inl ⟨by rfl, fun w' hS' => by have q1 := HSL.out.1 w'; have q2 := HSL.out.2.1 w'; have q3 := HSL.out.2.2.1 w'; have q4 := HSL.out.2.2.2 w'; go_simp⟩) ?_
            try simp only [List.setIfInBounds_toArray, List.set_cons_zero, List.set_cons_succ]
            refine takeH_at 3 212 (.string wd) rfl rfl (by kernel_rfl) (by kernel_rfl) (by kernel_rfl) (fun _ _ _ h => h) (hS0) (Or.inl ⟨by rfl, fun w' hS' => by have q1 := HSL.out.1 w'; have q2 := HSL.out.2.1 w'; have q3 := HSL.out.2.2.1 w'; have q4 := HSL.out.2.2.2 w'; go_simp⟩) ?_
            try simp only [List.setIfInBounds_toArray, List.set_cons_zero, List.set_cons_succ]
            refine takeH_at 4 213 (.string s12) rfl rfl (by kernel_rfl) (by kernel_rfl) (by kernel_rfl) (fun _ _ _ h => h) (hS0) (Or.inl ⟨by rfl, fun w' hS' => by have q1 := HSL.out.1 w'; have q2 := HSL.out.2.1 w'; have q3 := HSL.out.2.2.1 w'; have q4 := HSL.out.2.2.2 w'; go_simp⟩) ?_
            try simp only [List.setIfInBounds_toArray, List.set_cons_zero, List.set_cons_succ]
            refine takeH_at 5 214 (.string tA) rfl rfl (by kernel_rfl) (by kernel_rfl) (by kernel_rfl) (fun _ _ _ h => h) (hS0) (Or.inl ⟨by rfl, fun w' hS' => by have q1 := HSL.out.1 w'; have q2 := HSL.out.2.1 w'; have q3 := HSL.out.2.2.1 w'; have q4 := HSL.out.2.2.2 w'; go_simp⟩) ?_
            try simp only [List.setIfInBounds_toArray, List.set_cons_zero, List.set_cons_succ]
            refine takeH_at 6 215 (.int .i64 (a : Nat)) rfl rfl (by kernel_rfl) (by kernel_rfl) (by kernel_rfl) (fun _ _ _ h => h) (hS0) (Or.inl ⟨by rfl, fun w' hS' => by have q1 := HSL.out.1 w'; have q2 := HSL.out.2.1 w'; have q3 := HSL.out.2.2.1 w'; have q4 := HSL.out.2.2.2 w'; go_simp⟩) ?_
            try simp only [List.setIfInBounds_toArray, List.set_cons_zero, List.set_cons_succ]
            refine takeH_at 7 216 (.int .i64 (b : Nat)) rfl rfl (by kernel_rfl) (by kernel_rfl) (by kernel_rfl) (fun _ _ _ h => h) (hS0) (Or.inl ⟨by rfl, fun w' hS' => by have q1 := HSL.out.1 w'; have q2 := HSL.out.2.1 w'; have q3 := HSL.out.2.2.1 w'; have q4 := HSL.out.2.2.2 w'; go_simp⟩) ?_
            try simp only [List.setIfInBounds_toArray, List.set_cons_zero, List.set_cons_succ]
            refine takeH_at 8 217 (.string s4) rfl rfl (by kernel_rfl) (by kernel_rfl) (by kernel_rfl) (fun _ _ _ h => h) (hS0) (Or.inl ⟨by rfl, fun w' hS' => by have q1 := HSL.out.1 w'; have q2 := HSL.out.2.1 w'; have q3 := HSL.out.2.2.1 w'; have q4 := HSL.out.2.2.2 w'; go_simp⟩) ?_
            try simp only [List.setIfInBounds_toArray, List.set_cons_zero, List.set_cons_succ]
            refine takeH_at 9 218 (.string s3) rfl rfl (by kernel_rfl) (by kernel_rfl) (by kernel_rfl) (fun _ _ _ h => h) (hS0) (Or.inl ⟨by rfl, fun w' hS' => by have q1 := HSL.out.1 w'; have q2 := HSL.out.2.1 w'; have q3 := HSL.out.2.2.1 w'; have q4 := HSL.out.2.2.2 w'; go_simp⟩) ?_
            try simp only [List.setIfInBounds_toArray, List.set_cons_zero, List.set_cons_succ]
            refine wpAnyH_ready (rs := [10]) (by kernel_rfl) (by simp) ?_
            refine AllReadyH.cons rfl (fun KK hK => ?_) AllReadyH.nil
            go_simp
            refine (H19c.out _).mono ?_
            intro e w20 hh
            obtain ⟨rfl, hb⟩ := hh.out
            have H20 : Hid (Below ws.heap.size ws w20) := hS0.trans hb
            clear hh hb
            go_wp2_with fail
            refine hK.out _ _ (H20.out) (fun _ => ?_)
            clear hK KK
            try simp only [List.setIfInBounds_toArray, List.set_cons_zero, List.set_cons_succ]
            refine takeH_at 11 208 (.tuple #[.string tA, .int .i64 (d3 : Nat), .int .i64 0]) rfl rfl (by kernel_rfl) (by kernel_rfl) (by kernel_rfl) (fun _ _ _ h => h) (H20.out) (Or.inl ⟨by rfl, fun w' hS' => by go_simp⟩) ?_
            try simp only [List.setIfInBounds_toArray, List.set_cons_zero, List.set_cons_succ]
            refine takeH_at 12 220 (.string tA) rfl rfl (by kernel_rfl) (by kernel_rfl) (by kernel_rfl) (fun _ _ _ h => h) (H20.out) (Or.inl ⟨by rfl, fun w' hS' => by go_simp⟩) ?_
            try simp only [List.setIfInBounds_toArray, List.set_cons_zero, List.set_cons_succ]
            refine takeH_at 13 221 (.int .i64 (d3 : Nat)) rfl rfl (by kernel_rfl) (by kernel_rfl) (by kernel_rfl) (fun _ _ _ h => h) (H20.out) (Or.inl ⟨by rfl, fun w' hS' => by go_simp⟩) ?_
            try simp only [List.setIfInBounds_toArray, List.set_cons_zero, List.set_cons_succ]
            refine takeH_at 14 222 (.int .i64 0) rfl rfl (by kernel_rfl) (by kernel_rfl) (by kernel_rfl) (fun _ _ _ h => h) (H20.out) (Or.inl ⟨by rfl, fun w' hS' => by go_simp⟩) ?_
            try simp only [List.setIfInBounds_toArray, List.set_cons_zero, List.set_cons_succ]
            refine wpAnyH_ready (rs := [15]) (by kernel_rfl) (by simp) ?_
            refine AllReadyH.cons rfl (fun KK hK => ?_) AllReadyH.nil
            go_simp
            refine hK.out _ _ (H20.out) (fun _ => ?_)
            clear hK KK
            try simp only [List.setIfInBounds_toArray, List.set_cons_zero, List.set_cons_succ]
            refine wpAnyH_ready (rs := [16]) (by kernel_rfl) (by simp) ?_
            refine AllReadyH.cons rfl (fun KK hK => ?_) AllReadyH.nil
            go_simp
            refine hK.out _ _ (H20.out) (fun _ => ?_)
            clear hK KK
            try simp only [List.setIfInBounds_toArray, List.set_cons_zero, List.set_cons_succ]
            refine wpAnyH_ready (rs := [17]) (by kernel_rfl) (by simp) ?_
            refine AllReadyH.cons rfl (fun KK hK => ?_) AllReadyH.nil
            go_simp
            refine hK.out _ _ (H20.out) (fun _ => ?_)
            clear hK KK
            try simp only [List.setIfInBounds_toArray, List.set_cons_zero, List.set_cons_succ]
            refine wpAnyH_done (by kernel_rfl) ?_ _
            refine NoPanic.normal ?_
            clear hS0
            have z1 : (0 : Int) ≤ (d3 : Int) := by omega
            have z2 : (d3 : Int) ≤ 2 := by have := HD3.out; omega

            go_wp2_with (first
              | (go_at_call 11; refine (H11.out _ _).mono ?_; rintro e1 wn ⟨rfl, hw⟩; obtain rfl := hw.symm; clear hw)
              | fail)
            go_ret
            exact ⟨rfl, WS.out _ _ HWs.out.1 H20.out⟩
          · have g6 : ¬ ((wd.size : Nat) : Int) = 5 := by omega
            go_wp2
            go_ret
            exact ⟨rfl, HWs.out.1⟩
end Go.Proofs.YtjcdhfkilnbjgaaDoor
