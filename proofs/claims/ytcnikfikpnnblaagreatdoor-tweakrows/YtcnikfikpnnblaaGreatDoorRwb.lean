import Derived.Test.YtcnikfikpnnblaaGreatDoorRwa
import Derived.Test.YtcnikfikpnnblaaGreatDoorMak
namespace Go.Proofs.YtcnikfikpnnblaaGreatDoor
open Go.RowKit
set_option linter.unusedVariables false
set_option linter.unusedSimpArgs false
theorem lrw_first : ∀ i : Fin 3, ∀ j : Fin 52, j.1 < 1 + 17 * i.1 + 14 → spN j.1 ≠ sxN i.1 14 := by decide +kernel
theorem ftN_parts (nn : Int) : ∃ m, ftN nn true = 16 * m ∧ 0 < m ∧ m ≤ 32 := by
  unfold ftN
  have h : (IntKind.u64.wrap nn % 497).toNat < 497 := by omega
  refine ⟨(16 + (IntKind.u64.wrap nn % 497).toNat) / 16, ?_, by omega, by omega⟩
  simp; omega
/-- The law's numbers. -/
theorem rw_num (s m : Nat) (x : Int) (h0 : 0 ≤ x) (hx : x < 18446744073709551616) (hm0 : 0 < m) (hm : m ≤ 32) (hs : s < 18446744073709551616) : ∃ j q : Nat, j < m ∧ x % (m : Int) = (j : Int) ∧ x.tmod (m : Int) = (j : Int) ∧ IntKind.i64.wrap (j : Int) = (j : Int) ∧ IntKind.u64.wrap (m : Int) = (m : Int) ∧ IntKind.u64.wrap (j : Int) = (j : Int) ∧ s % 288230376151711744 = q ∧ (s : Int).tmod 288230376151711744 = (q : Int) ∧ q < 288230376151711744 ∧ IntKind.u64.wrap ((q : Int) * (m : Int)) = ((q * m : Nat) : Int) ∧ IntKind.u64.wrap (((q * m : Nat) : Int) + (j : Int)) = ((q * m + j : Nat) : Int) ∧ q * m + j < 18446744073709551616 ∧ IntKind.i64.wrap (16 * (j : Int)) = ((16 * j : Nat) : Int) ∧ IntKind.i64.wrap (((16 * j : Nat) : Int) + 16) = ((16 * j + 16 : Nat) : Int) := by
  have e1 : 0 ≤ x % (m : Int) := Int.emod_nonneg _ (by omega)
  have e2 : x % (m : Int) < (m : Int) := Int.emod_lt_of_pos _ (by omega)
  obtain ⟨j, hj⟩ : ∃ j : Nat, x % (m : Int) = (j : Int) := ⟨(x % (m : Int)).toNat, by omega⟩
  have hjm : j < m := by omega
  have hq : s % 288230376151711744 < 288230376151711744 := by omega
  have hM : s % 288230376151711744 * m ≤ 288230376151711743 * 32 := Nat.mul_le_mul (by omega) hm
  refine ⟨j, s % 288230376151711744, hjm, hj, ?_, ?_, ?_, ?_, rfl, ?_, hq, ?_, ?_, ?_, ?_, ?_⟩
  · rw [Int.tmod_eq_emod_of_nonneg h0]; exact hj
  · rw [IntKind.wrap_i64]; omega
  · exact wrap_u64_nat m (by omega)
  · exact wrap_u64_nat j (by omega)
  · rw [Int.tmod_eq_emod_of_nonneg (by omega)]; omega
  · rw [show ((s % 288230376151711744 : Nat) : Int) * (m : Int) = ((s % 288230376151711744 * m : Nat) : Int) from (Int.natCast_mul _ _).symm]
    exact wrap_u64_nat _ (by omega)
  · rw [show ((s % 288230376151711744 * m : Nat) : Int) + (j : Int) = ((s % 288230376151711744 * m + j : Nat) : Int) from (Int.natCast_add _ _).symm]
    exact wrap_u64_nat _ (by omega)
  · omega
  · rw [IntKind.wrap_i64]; omega
  · rw [IntKind.wrap_i64]; omega
theorem view_at {w : World} {b off n c : Nat} {zs : List Int} (h : View w (.slice (some ⟨b, off, none⟩) n c) zs) : ∀ i, i < zs.length → w.cell? ⟨b, off + i, none⟩ = some (.int .u8 (zs.getD i 0)) := by
  obtain ⟨a, cap, he, _, _, _, h4⟩ := h
  injection he with h1 h2 h3
  subst h1
  rcases h4 with h4 | ⟨b', o', e, h4⟩
  · intro i hi; rw [h4] at hi; simp at hi
  · injection e with e; injection e with e1 e2; subst e1 e2; exact h4
theorem part_bytes {L : List Int} (h : AllBytes L) (J : Nat) : AllBytes ((L.drop J).take 16) := fun i => by
  rw [List.getD_eq_getElem?_getD, List.getElem?_take]
  split
  · rw [List.getElem?_drop, ← List.getD_eq_getElem?_getD]; exact h _
  · simp
theorem part_at (L : List Int) (J i : Nat) (hi : i < 16) : ((L.drop J).take 16).getD i 0 = L.getD (J + i) 0 := by
  rw [List.getD_eq_getElem?_getD, List.getElem?_take, if_pos hi, List.getElem?_drop, ← List.getD_eq_getElem?_getD]
/-- A block's place as a slice. -/
theorem slice16 (u : World) (b n d J J2 : Nat) (h : J2 = J + 16) (hd : J2 ≤ d) : (Instr.slice 24 (.slice (some ⟨b, 0, none⟩) n d) (some (.int .i64 (J : Nat))) (some (.int .i64 (J2 : Nat))) none).run Tryz.prog u = .ok (.slice (some ⟨b, J, none⟩) 16 (d - J)) u := by
  rw [slice_lh u (some ⟨b, 0, none⟩) n d J J2 (by omega) hd]
  unfold sliced
  rw [if_neg (by omega), Option.map_some, Addr.add_mid, show J2 - J = 16 by omega, Nat.mul_one, Nat.zero_add]
/-- The two Seals, in the law's numbers. -/
theorem rw_seal1 {B c sh g nr : Nat} {K : Nat → Nat} {S : ByteArray} {t : Nat} {kz : List Int} {kv ov fv pv : Value} {w : World} {q b d m n : Nat} {L : List Int} (h : LrW B c sh g nr K S (16 + 8 * t) kz kv ov fv pv w) (ht : t < 3) (hkl : kz.length = 16 + 8 * t + 16 ∧ AllBytes kz) (hq : q < 18446744073709551616) (hL : L.length = n ∧ AllBytes L) (hn : n = 16 * m) (hm0 : 0 < m) (hm : m ≤ 32) (hnd : n ≤ d) (hbg : b ≠ g) (hv : View w (.slice (some ⟨b, 0, none⟩) n d) L) :
    Calls Tryz.prog 29 #[.pointer (some ⟨c, 0, none⟩), .int .u64 (q : Nat), .slice (some ⟨b, 0, none⟩) n d] w fun e w' => Hid (∃ x, e = .returned (.tuple #[.slice (some ⟨x, 0, none⟩) n n, .int .i64 0]) ∧ LsP B c sh g nr K S (16 + 8 * t) kz kv ov fv pv q m n L w w' x) := by
  have z := lseal_ok B c sh g nr K S (16 + 8 * t) kz kv ov fv pv q b 0 d m L w h (by omega) (by omega) hq hkl.2 (by omega) hm0 (by omega) (by omega) hL.2 hbg (view_at hv)
  rw [hL.1] at z
  exact z
theorem rw_seal2 {B c sh g nr : Nat} {K : Nat → Nat} {S : ByteArray} {t : Nat} {kz : List Int} {kv ov fv pv : Value} {w w2 : World} {q b d n J : Nat} {L : List Int} (h : LrW B c sh g nr K S (16 + 8 * t) kz kv ov fv pv w2) (ht : t < 3) (hkl : kz.length = 16 + 8 * t + 16 ∧ AllBytes kz) (hq : q < 18446744073709551616) (hL : L.length = n ∧ AllBytes L) (hJ : J + 16 ≤ n) (hnd : n ≤ d) (hbg : b ≠ g) (hv : View w (.slice (some ⟨b, 0, none⟩) n d) L) (hg : w.grownBy w2 (some g)) :
    Calls Tryz.prog 29 #[.pointer (some ⟨c, 0, none⟩), .int .u64 (q : Nat), .slice (some ⟨b, J, none⟩) 16 (d - J)] w2 fun e w' => Hid (∃ x, e = .returned (.tuple #[.slice (some ⟨x, 0, none⟩) 16 16, .int .i64 0]) ∧ LsP B c sh g nr K S (16 + 8 * t) kz kv ov fv pv q 1 16 ((L.drop J).take 16) w2 w' x) := by
  have hl : ((L.drop J).take 16).length = 16 := by rw [List.length_take, List.length_drop]; omega
  have z := lseal_ok B c sh g nr K S (16 + 8 * t) kz kv ov fv pv q b J (d - J) 1 ((L.drop J).take 16) w2 h (by omega) (by omega) hq hkl.2 (by omega) (by decide) (by decide) (by omega) (part_bytes hL.2 J) hbg (fun i hi => by
    rw [hl] at hi
    have p := view_at hv (J + i) (by omega)
    rw [part_at L J i hi, World.cell?_of_block (a := ⟨b, J + i, none⟩) (hg.block b (World.block_lt_of_cell? w _ p) (fun e => hbg (by injection e)))]
    rw [Nat.zero_add] at p
    exact p)
  rw [hl] at z
  exact z
/-- Both give the same block. -/
theorem rw_same {B c sh g nr : Nat} {K : Nat → Nat} {S : ByteArray} {wd : Nat} {kz : List Int} {kv ov fv pv : Value} {w w2 w3 : World} {q QJ m n j J x1 x2 : Nat} {L : List Int} (h1 : LsP B c sh g nr K S wd kz kv ov fv pv q m n L w w2 x1) (h2 : LsP B c sh g nr K S wd kz kv ov fv pv QJ 1 16 ((L.drop J).take 16) w2 w3 x2) (hJ : J = 16 * j) (hj : j < m) (hm : m ≤ 32) (hn : n = 16 * m) (hq : QJ = q * m + j) (hg : g < w.heap.size) :
    Calls Tryz.prog 30 #[.slice (some ⟨x1, J, none⟩) 16 (n - J), .slice (some ⟨x2, 0, none⟩) 16 16] w3 fun e w' => e = .returned (.bool true) ∧ ∃ m, w' = w3.drewN m := by
  obtain ⟨a1, a2, a3, a4⟩ := h1
  obtain ⟨b1, b2, b3, b4⟩ := h2
  have a5 : Bx w3 x1 5 _ := a2.keep (b4.block x1 a2.lt (fun e => by injection e with e; omega))
  have v1 := bk_view a5 j (n - J) hj (by omega) (by unfold maxLen; omega)
  have v2 := bk_view b2 0 16 (by decide) (by decide) (by decide)
  have z := same_any _ _ _ _ w3 v1 v2
  rw [show 16 * 0 = 0 from rfl, ← hJ] at z
  refine z.mono fun e w' hh => ?_
  refine ⟨?_, hh.2⟩
  rw [hh.1]
  congr 2
  apply decide_eq_true
  rw [hJ, cutV_part, hq, show (q * m + j) * 1 + 1 + 0 = q * m + 1 + j by omega]
set_option maxHeartbeats 3200000 in
set_option maxRecDepth 100000 in
/-- The law TweakRows. -/
theorem lawRows_ok (nm : Int) (v : Value) (bs : List Int) (s : Nat) (bv : Value) (ys : List Int) (nn at' : Int) (w : World) (G o cp : Nat) (hE : Env w G o cp) (hv : View w v bs) (hbb : AllBytes bs) (hbv : View w bv ys) (hyb : AllBytes ys) (hs : s < 18446744073709551616) :
    Calls Tryz.prog 5 #[.agg #[.int .i64 nm, v], .int .u64 (s : Nat), bv, .int .i64 nn, .int .i64 at'] w fun e w' => Hid (e = .returned (.bool true) ∧ Below w.heap.size w w') := by
  obtain ⟨va, vc, he, hvr⟩ := id hv
  clear hvr
  obtain ⟨nl, HNL⟩ : ∃ n, Hid (bs.length = n) := ⟨_, rfl⟩
  rw [HNL.out] at he
  subst he
  obtain ⟨N, HN⟩ : ∃ N : Nat, Hid (IntKind.u64.wrap nm % 3000 = (N : Int)) := ⟨(IntKind.u64.wrap nm % 3000).toNat, by show _ = _; omega⟩
  obtain ⟨t, HT⟩ : ∃ t : Nat, Hid (N / 1 % 3 = t) := ⟨_, rfl⟩
  have ht3 : t < 3 := by rw [← HT.out]; omega
  obtain ⟨T, HTT⟩ : ∃ T : Nat, Hid (15 + 17 * t = T) := ⟨_, rfl⟩
  have hx0 : 0 ≤ IntKind.u64.wrap at' ∧ IntKind.u64.wrap at' < 18446744073709551616 := by unfold IntKind.wrap; simp [IntKind.signed, IntKind.bits]; omega
  obtain ⟨x, HX⟩ : ∃ x, Hid (IntKind.u64.wrap at' = x) := ⟨_, rfl⟩
  obtain ⟨m, hm16, hm0, hm32⟩ := ftN_parts nn
  rw [HX.out] at hx0
  obtain ⟨j, q, hjm, e1, e2, e3, e4, e5, e6, e7, e8, e9, e10, e11, e12, e13⟩ := rw_num s m x hx0.1 hx0.2 hm0 hm32 hs
  have hxx : IntKind.u64.wrap at' = x := HX.out
  have H26 : Hid (∀ u, (u.cell? ⟨w.heap.size + 1, 0, none⟩ = some (.int .i64 15)) → Calls Tryz.prog 26 #[.agg #[.int .i64 nm, .slice va nl vc], .slice (some ⟨w.heap.size + 1, 0, none⟩) 1 1] u fun e w' => Hid (e = .returned (.agg #[.int .i64 (T : Nat), .slice va nl vc]) ∧ Below u.heap.size u w')) := fun u hu => by
    have p := of_ok nm va nl vc (w.heap.size + 1) 1 1 (fun _ => 15) u N HN.out (by decide) (by decide) (fun i hi => by
      obtain rfl : i = 0 := by omega
      exact hu) (fun _ _ => by decide)
    rw [HT.out, HTT.out] at p
    exact p
  obtain ⟨kz, HKZ⟩ : ∃ kz, Hid (kyL bs (16 + 8 * t + 16) = kz) := ⟨_, rfl⟩
  have HKL : Hid (kz.length = 16 + 8 * t + 16 ∧ AllBytes kz) := by rw [← HKZ.out]; exact ⟨kyL_len _ _, kyL_bytes hbb _⟩
  have H27 : Hid (∀ u, Below w.heap.size w u → Calls Tryz.prog 27 #[.agg #[.int .i64 (T : Nat), .slice va nl vc]] u fun e w' => MadeP u (sxN t 14) 16 (16 + 8 * t) kz lrwV e w') := fun u hu => by
    have hEu := hE.below hu
    have hky : kyN (1 + 17 * t + 14) = 16 + 8 * t + 16 := by rw [kyN_lit t 14 (by omega)]; show 1 * (16 + 8 * t) + 16 = _; omega
    have hf : ∀ j, j < 1 + 17 * t + 14 → spN j ≠ sxN t 14 := fun j hj => lrw_first ⟨t, ht3⟩ ⟨j, by omega⟩ hj
    have p := made_ok (15 + 17 * t : Nat) (1 + 17 * t + 14) (.slice va nl vc) bs u G o cp 16 (16 + 8 * t) lrwV hEu.md (by omega) (by rw [wrap_u64_nat _ (by omega)]; omega) (hv.below hu) ?_ ?_
    · rw [hky, spN_lit t 14 (by omega), HKZ.out, HTT.out] at p
      exact p
    · intro u2 x2 hu2 hv2
      have hE2 := hEu.below hu2
      rw [hky, spN_lit t 14 (by omega)] at *
      exact newLRW t ht3 x2 _ u2 hf hv2 (kyL_bytes hbb _) (by rw [kyL_len]; omega) hE2.pow hE2.rc
    · intro u2 x2 hu2 hv2
      have hE2 := hEu.below hu2
      rw [hky, spN_lit t 14 (by omega)] at *
      exact rnewR1 t 14 ht3 (by omega) rfl x2 _ u2 G o cp hf hv2 (kyL_bytes hbb _) (by rw [kyL_len]; show _ = 1 * (16 + 8 * t) + 16; omega) hE2.md
  obtain ⟨L, HLL⟩ : ∃ L, Hid (ftL ys (16 * m) = L) := ⟨_, rfl⟩
  have HLB : Hid (L.length = 16 * m ∧ AllBytes L) := by rw [← HLL.out]; exact ⟨ftL_len _ _, ftL_bytes hyb _⟩
  have H28 : Hid (∀ u, Below w.heap.size w u → Calls Tryz.prog 28 #[bv, .int .i64 nn, .bool true] u fun e w' => Hid (∃ b d, e = .returned (.slice (some ⟨b, 0, none⟩) (16 * m) d) ∧ u.heap.size ≤ b ∧ 16 * m ≤ d ∧ d ≤ maxLen ∧ View w' (.slice (some ⟨b, 0, none⟩) (16 * m) d) L ∧ Below u.heap.size u w')) := fun u hu => by
    refine (fit_ok bv ys nn true u (hbv.below hu)).mono fun e w' hh => ?_
    obtain ⟨y, d, rfl, ho, hbl⟩ := hh.out
    rw [hm16] at ho ⊢
    rw [HLL.out] at ho
    have hvw := view_owns ho HLB.out.1
    rcases ho.2 with ⟨_, z⟩ | ⟨b, c2, cur, z, z1, _, z3, z4, _⟩
    · omega
    · injection z with z5 z6 z7
      subst z5 z7
      exact ⟨b, _, rfl, z1, z3, z4, hvw, hbl⟩
  have H17 : Hid (∀ u, Calls Tryz.prog 17 #[.int .i64 0] u fun e w' => e = .returned (.int .i64 0) ∧ w' = u) := fun u => num_ok 0 u
  obtain ⟨n, HNN⟩ : ∃ n, Hid (16 * m = n) := ⟨_, rfl⟩
  obtain ⟨J, HJJ⟩ : ∃ J, Hid (16 * j = J) := ⟨_, rfl⟩
  obtain ⟨J2, HJ2⟩ : ∃ J2, Hid (16 * j + 16 = J2) := ⟨_, rfl⟩
  obtain ⟨QM, HQM⟩ : ∃ QM, Hid (q * m = QM) := ⟨_, rfl⟩
  obtain ⟨QJ, HQJ⟩ : ∃ QJ, Hid (QM + j = QJ) := ⟨_, rfl⟩
  rw [HJJ.out] at e12 e13
  rw [show J + 16 = J2 by rw [← HJ2.out, ← HJJ.out]] at e13
  rw [HQM.out] at e9 e10 e11
  rw [HQJ.out] at e10 e11
  rw [HNN.out] at H28 HLB
  have f1 : (n : Int).tdiv 16 = (m : Int) := by rw [← HNN.out, Int.tdiv_eq_ediv_of_nonneg (by omega)]; omega
  have f2 : IntKind.i64.wrap (m : Int) = (m : Int) := by rw [IntKind.wrap_i64]; omega
  have f3 : (n : Int) / 16 = (m : Int) := by rw [← HNN.out]; omega
  have f4 : ((m : Int) == 0) = false := by simp; omega
  have f5 : (m : Int) ≠ 0 := by omega
  have f6 : ¬ m = 0 := by omega
  have f7 : IntKind.u64.wrap (q : Int) = (q : Int) := wrap_u64_nat q (by omega)
  have HNJ : Hid (n = 16 * m ∧ J = 16 * j ∧ J2 = 16 * j + 16 ∧ j < m ∧ m ≤ 32 ∧ 0 < m ∧ t < 3 ∧ q < 18446744073709551616 ∧ QJ < 18446744073709551616 ∧ QJ = q * m + j) := ⟨HNN.out.symm, HJJ.out.symm, HJ2.out.symm, hjm, hm32, hm0, ht3, by omega, e11, by rw [← HQJ.out, ← HQM.out]⟩
  clear hv hbb hbv hyb hs hE e1 e6 e8 e11 hjm hm16 hm0 hm32 ht3 hx0 HNN HJJ HJ2 HQM HQJ
  have c15 : ((w.alloc (.cells #[.int .i64 nm, .slice va nl vc] 57)).alloc (.cells #[.int .i64 15] 3)).cell? ⟨w.heap.size + 1, 0, none⟩ = some (.int .i64 15) := by simp
  have HBX : Hid (Bx ((w.alloc (.cells #[.int .i64 nm, .slice va nl vc] 57)).alloc (.cells #[.int .i64 15] 3)) w.heap.size 57 [.int .i64 nm, .slice va nl vc] ∧ Below w.heap.size w ((w.alloc (.cells #[.int .i64 nm, .slice va nl vc] 57)).alloc (.cells #[.int .i64 15] 3))) :=
    ⟨(Bx.new w 57 [.int .i64 nm, .slice va nl vc]).below ((Below.refl _ _).alloc (Nat.le_refl _) _), ((Below.refl _ _).alloc (Nat.le_refl _) _).alloc (by simp) _⟩
  go_enter Tryz.func5, Tryz.ntmps5
  go_upto_region 2 with (first
    | (go_at_call 26; refine (H26.out _ c15).mono ?_; intro e2 w2 hh; obtain ⟨rfl, hb2⟩ := hh.out; have HB2 : Hid (Bx w2 w.heap.size 57 [.int .i64 nm, .slice va nl vc] ∧ Below w.heap.size w w2) := ⟨HBX.out.1.below hb2, HBX.out.2.trans (hb2.mono HBX.out.2.size)⟩; clear hh hb2 H26 HBX c15)
    | (refine wpList_store_bx (by rfl) 57 (.tmp 5) (.tmp 22) (by rfl) [.int .i64 nm, .slice va nl vc] [.int .i64 (T : Nat), .slice va nl vc] w.heap.size (by rfl) (by rfl) HB2.out.1 rfl (by kernel_rfl) (by intro v hv; simp at hv; rcases hv with rfl | rfl <;> rfl) ?_; intro w3 hb3 hg3; have HB3 : Hid (Bx w3 w.heap.size 57 [.int .i64 (T : Nat), .slice va nl vc] ∧ Below w.heap.size w w3) := ⟨hb3, HB2.out.2.trans (below_gb hg3 HB2.out.2.size (Nat.le_refl _))⟩; clear hb3 hg3))
  have d0 : w3.cell? ⟨w.heap.size, 0, none⟩ = some (.int .i64 (T : Nat)) := HB3.out.1.cell 0 _ rfl
  have d1 : w3.cell? ⟨w.heap.size, 1, none⟩ = some (.slice va nl vc) := HB3.out.1.cell 1 _ rfl
  go_upto_region 5 with (first
    | (go_at_call 27; refine (H27.out _ HB3.out.2).mono ?_; intro e4 w4 hh; obtain ⟨c, r, sh, kv, mp, ov, fv, sv, pv, rfl, hc0, hcb, hsh, hps, hbel⟩ := hh; obtain ⟨g, nr, K, hmp, hBg, hLr⟩ := LrW.of hsh hcb hps (by omega); have HL4 : Hid (LrW w3.heap.size c sh g nr K (sxN t 14) (16 + 8 * t) kz kv ov fv pv w4 ∧ Below w.heap.size w w4 ∧ w.heap.size ≤ g) := ⟨hLr, HB3.out.2.trans (hbel.mono HB3.out.2.size), Nat.le_trans HB3.out.2.size hBg⟩; clear hc0 hcb hsh hps hbel hmp hBg hLr H27 d0 d1 HB3))
  go_upto_region 6 with (first
    | (go_at_call 28; refine (H28.out _ HL4.out.2.1).mono ?_; intro e5 w5 hh; obtain ⟨b, d, rfl, p1, p2, p3, p4, p5⟩ := hh.out; have HV5 : Hid (View w5 (.slice (some ⟨b, 0, none⟩) n d) L ∧ n ≤ d ∧ d ≤ maxLen ∧ b ≠ g) := ⟨p4, p2, p3, by have := HL4.out.1.key.ciph.here; omega⟩; have HL5 : Hid (LrW w3.heap.size c sh g nr K (sxN t 14) (16 + 8 * t) kz kv ov fv pv w5 ∧ Below w.heap.size w w5) := ⟨HL4.out.1.below p5, HL4.out.2.1.trans (p5.mono HL4.out.2.1.size)⟩; clear hh p1 p2 p3 p4 p5 H28))
  go_upto_region 9 with fail
  have HS1 : Hid (Calls Tryz.prog 29 #[.pointer (some ⟨c, 0, none⟩), .int .u64 (q : Nat), .slice (some ⟨b, 0, none⟩) n d] w5 fun e w' => Hid (∃ x, e = .returned (.tuple #[.slice (some ⟨x, 0, none⟩) n n, .int .i64 0]) ∧ LsP w3.heap.size c sh g nr K (sxN t 14) (16 + 8 * t) kz kv ov fv pv q m n L w5 w' x)) :=
    rw_seal1 HL5.out.1 HNJ.out.2.2.2.2.2.2.1 HKL.out HNJ.out.2.2.2.2.2.2.2.1 HLB.out HNJ.out.1 HNJ.out.2.2.2.2.2.1 HNJ.out.2.2.2.2.1 HV5.out.2.1 HV5.out.2.2.2 HV5.out.1
  go_upto_region 10 with (first
    | (go_at_call 29; refine HS1.out.mono ?_; intro e6 w6 hh; obtain ⟨x1, rfl, hp6⟩ := hh.out; have HP6 : Hid (LsP w3.heap.size c sh g nr K (sxN t 14) (16 + 8 * t) kz kv ov fv pv q m n L w5 w6 x1) := hp6; clear hh hp6 HS1))
  have HJn : Hid (J + 16 ≤ n ∧ J2 = J + 16 ∧ J2 ≤ d ∧ J2 ≤ n) := by have := HNJ.out; have := HV5.out.2.1; show _ ∧ _; omega
  have HS2 : Hid (Calls Tryz.prog 29 #[.pointer (some ⟨c, 0, none⟩), .int .u64 (QJ : Nat), .slice (some ⟨b, J, none⟩) 16 (d - J)] w6 fun e w' => Hid (∃ x, e = .returned (.tuple #[.slice (some ⟨x, 0, none⟩) 16 16, .int .i64 0]) ∧ LsP w3.heap.size c sh g nr K (sxN t 14) (16 + 8 * t) kz kv ov fv pv QJ 1 16 ((L.drop J).take 16) w6 w' x)) :=
    rw_seal2 HP6.out.2.2.1 HNJ.out.2.2.2.2.2.2.1 HKL.out HNJ.out.2.2.2.2.2.2.2.2.1 HLB.out HJn.out.1 HV5.out.2.1 HV5.out.2.2.2 HV5.out.1 HP6.out.2.2.2
  have hsl1 : ∀ u : World, (Instr.slice 24 (.slice (some ⟨b, 0, none⟩) n d) (some (.int .i64 (J : Nat))) (some (.int .i64 (J2 : Nat))) none).run Tryz.prog u = .ok (.slice (some ⟨b, J, none⟩) 16 (d - J)) u := fun u => slice16 u b n d J J2 HJn.out.2.1 HJn.out.2.2.1
  have hsl2 : ∀ u : World, (Instr.slice 24 (.slice (some ⟨x1, 0, none⟩) n n) (some (.int .i64 (J : Nat))) (some (.int .i64 (J2 : Nat))) none).run Tryz.prog u = .ok (.slice (some ⟨x1, J, none⟩) 16 (n - J)) u := fun u => slice16 u x1 n n J J2 HJn.out.2.1 HJn.out.2.2.2
  go_upto_region 11 with (first
    | (go_at_call 29; refine HS2.out.mono ?_; intro e7 w7 hh; obtain ⟨x2, rfl, hp7⟩ := hh.out; have HP7 : Hid (LsP w3.heap.size c sh g nr K (sxN t 14) (16 + 8 * t) kz kv ov fv pv QJ 1 16 ((L.drop J).take 16) w6 w7 x2) := hp7; clear hh hp7 HS2))
  have HSM : Hid (Calls Tryz.prog 30 #[.slice (some ⟨x1, J, none⟩) 16 (n - J), .slice (some ⟨x2, 0, none⟩) 16 16] w7 fun e w' => e = .returned (.bool true) ∧ ∃ m, w' = w7.drewN m) :=
    rw_same HP6.out HP7.out HNJ.out.2.1 HNJ.out.2.2.2.1 HNJ.out.2.2.2.2.1 HNJ.out.1 HNJ.out.2.2.2.2.2.2.2.2.2 HL5.out.1.key.ciph.here
  go_wp2_with (first
    | (go_at_call 17; refine (H17.out _).mono ?_; rintro e8 w8 ⟨rfl, hw⟩; obtain rfl := hw.symm; clear hw)
    | (go_at_call 30; refine HSM.out.mono ?_; rintro e9 w9 ⟨rfl, mm, rfl⟩))
  go_ret
  have hgs := HL4.out.2.2
  have z5 := HL5.out.2
  refine ⟨rfl, ?_⟩
  exact Below.drewN (z5.trans ((below_gb HP6.out.2.2.2 z5.size hgs).trans (below_gb HP7.out.2.2.2 (Nat.le_trans z5.size HP6.out.2.2.2.size) hgs))) _
end Go.Proofs.YtcnikfikpnnblaaGreatDoor
