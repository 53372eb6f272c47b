import Derived.Test.YtcnikfikpnnblaaGreatDoorPart00
import Derived.Test.YtcnikfikpnnblaaGreatDoorPart50
namespace Go.Proofs.YtcnikfikpnnblaaGreatDoor
open Go.RowKit
set_option linter.unusedVariables false
set_option linter.unusedSimpArgs false
theorem wd_num (N : Nat) : ∃ k t T, k < 2 ∧ t < 3 ∧ N % 2 = k ∧ N / 2 % 3 = t ∧ 16 + k + 17 * t = T ∧ T = 1 + 17 * t + (15 + k) ∧ T < 52 := ⟨N % 2, N / 2 % 3, _, by omega, by omega, rfl, rfl, rfl, by omega, by omega⟩
/-- What the law keeps at hand behind Seal and IV. -/
structure WdI (M : Nat) (T : Nat) (pv : Value) (bv uv iv : Value) (L U I : List Int) (w u : World) : Prop where
 box : Bx u M 57 [.int .i64 (T : Nat), pv]
 vb : View u bv L
 vu : View u uv U
 vi : View u iv I
 bel : Below M w u
theorem WdI.below {M T : Nat} {pv bv uv iv : Value} {L U I : List Int} {w u u2 : World} (h : WdI M T pv bv uv iv L U I w u) (hb : Below u.heap.size u u2) : WdI M T pv bv uv iv L U I w u2 :=
 ⟨h.box.below hb, h.vb.below hb, h.vu.below hb, h.vi.below hb, h.bel.trans (hb.mono (Nat.le_of_lt h.box.lt))⟩
theorem WdI.putNew {M T : Nat} {pv : Value} {b n d y dy yi : Nat} {L U I : List Int} {w u u2 : World} {B : Nat} (h : WdI M T pv (.slice (some ⟨b, 0, none⟩) n d) (.slice (some ⟨y, 0, none⟩) n dy) (.slice (some ⟨yi, 0, none⟩) 16 16) L U I w u) (hg : u.grownBy u2 (some B)) (hM : M < B) (h1 : b < B) (h2 : y < B) (h3 : yi < B) : WdI M T pv (.slice (some ⟨b, 0, none⟩) n d) (.slice (some ⟨y, 0, none⟩) n dy) (.slice (some ⟨yi, 0, none⟩) 16 16) L U I w u2 := by
 have hv : ∀ x n d, x < B → ∀ b off l c, (Value.slice (some ⟨x, 0, none⟩) n d) = .slice (some ⟨b, off, none⟩) l c → b ≠ B := fun x n d hx b off l c e => by
  injection e with e; injection e with e; injection e with e1 e2; omega
 exact ⟨h.box.keep (hg.block M h.box.lt (fun e => by injection e with e; omega)), view_gb h.vb (hv b n d h1) hg, view_gb h.vu (hv y n dy h2) hg, view_gb h.vi (hv yi 16 16 h3) hg, h.bel.trans (below_gb hg (Nat.le_of_lt h.box.lt) (Nat.le_of_lt hM))⟩
theorem wdi_lt {M T : Nat} {pv : Value} {b n d y dy yi : Nat} {L U : List Int} {fi : BitVec 128} {w u : World} (h : WdI M T pv (.slice (some ⟨b, 0, none⟩) n d) (.slice (some ⟨y, 0, none⟩) n dy) (.slice (some ⟨yi, 0, none⟩) 16 16) L U (blB fi) w u) (hL : L.length = n) (hU : U.length = n) (hn : 16 ≤ n) : b < u.heap.size ∧ y < u.heap.size ∧ yi < u.heap.size := by
 refine ⟨view_lt h.vb (fun e => by rw [e] at hL; simp at hL; omega) b 0 _ _ rfl, view_lt h.vu (fun e => by rw [e] at hU; simp at hU; omega) y 0 _ _ rfl, view_lt h.vi (fun e => by have := blB_len fi; rw [e] at this; simp at this) yi 0 _ _ rfl⟩
theorem slice_to16 (u : World) (b n d : Nat) (hd : 16 ≤ d) : (Instr.slice 24 (.slice (some ⟨b, 0, none⟩) n d) none (some (.int .i64 16)) none).run Tryz.prog u = .ok (.slice (some ⟨b, 0, none⟩) 16 d) u := by
 have q := slice_h u (some ⟨b, 0, none⟩) n d 16 hd
 have e : sliced (some ⟨b, 0, none⟩) 0 16 d 1 = .slice (some ⟨b, 0, none⟩) 16 d := by
  unfold sliced
  rw [if_neg (by omega), Option.map_some, Addr.add_mid, Nat.zero_mul]
  rfl
 rw [e] at q
 exact q
theorem view_to16 {u : World} {b n d : Nat} {zs : List Int} (h : View u (.slice (some ⟨b, 0, none⟩) n d) zs) (hn : 16 ≤ n) (hd : 16 ≤ d) : View u (.slice (some ⟨b, 0, none⟩) 16 d) (zs.take 16) := by
 have q := view_sliced h 0 16 (Nat.zero_le _) hn
 have e : sliced (some ⟨b, 0, none⟩) 0 16 d 1 = .slice (some ⟨b, 0, none⟩) 16 d := by
  unfold sliced
  rw [if_neg (by omega), Option.map_some, Addr.add_mid, Nat.zero_mul]
  rfl
 rw [e, List.drop_zero] at q
 exact q
theorem slice_from16 (b n d : Nat) (h16 : 16 ≤ n) (hd : n ≤ d) : ∃ ro rc, (∀ u : World, (Instr.slice 24 (.slice (some ⟨b, 0, none⟩) n d) (some (.int .i64 16)) none none).run Tryz.prog u = .ok (.slice (some ⟨b, ro, none⟩) (n - 16) rc) u) ∧ ∀ u zs, zs.length = n → View u (.slice (some ⟨b, 0, none⟩) n d) zs → View u (.slice (some ⟨b, ro, none⟩) (n - 16) rc) (zs.drop 16) := by
 obtain ⟨ro, rc, hsl⟩ : ∃ ro rc, sliced (some ⟨b, 0, none⟩) 16 n d 1 = .slice (some ⟨b, ro, none⟩) (n - 16) rc := by
  unfold sliced
  by_cases h : d = 16
  ·rw [if_pos h]; exact ⟨0, _, rfl⟩
  ·rw [if_neg h, Option.map_some, Addr.add_mid]; exact ⟨_, _, rfl⟩
 refine ⟨ro, rc, fun u => ?_, fun u zs hl hv => ?_⟩
 ·have q := slice_l u (some ⟨b, 0, none⟩) n d 16 h16 hd
  rw [hsl] at q
  exact q
 ·have q := view_sliced hv 16 n h16 (Nat.le_refl _)
  rw [hsl, List.take_of_length_le (by rw [List.length_drop, hl]; omega)] at q
  exact q
theorem view_lens {u : World} {b n d : Nat} {zs : List Int} (h : View u (.slice (some ⟨b, 0, none⟩) n d) zs) : zs.length = n ∧ n ≤ d := by
 obtain ⟨a, c, e, h1, _⟩ := h
 injection e with e1 e2 e3
 subst e3
 exact ⟨e2.symm, by omega⟩
theorem cutV_take (zs : List Int) : cutV (zs.take 16) 0 = cutV zs 0 := by
 have := cutV_part zs 0
 rw [Nat.mul_zero, List.drop_zero] at this
 exact this
set_option maxHeartbeats 6400000 in
set_option maxRecDepth 100000 in
/-- The law TweakWide. -/
theorem lawWide_ok (nm : Int) (v : Value) (bs : List Int) (s : Nat) (bv : Value) (ys : List Int) (nn : Int) (w : World) (G o cp : Nat) (hE : Env w G o cp) (hv : View w v bs) (hbb : AllBytes bs) (hbv : View w bv ys) (hyb : AllBytes ys) (hs : s < 18446744073709551616) :
  Calls Tryz.prog 7 #[.agg #[.int .i64 nm, v], .int .u64 (s : Nat), bv, .int .i64 nn] w fun e w' => Hid (e = .returned (.bool true) ∧ Below w.heap.size w w') := by
 obtain ⟨va, vc, he, hvr⟩ := id hv
 clear hvr
 obtain ⟨nl, HNL⟩ : ∃ n, Hid (bs.length = n) := ⟨_, rfl⟩
 rw [HNL.out] at he
 subst he
 obtain ⟨N, HN⟩ : ∃ N : Nat, Hid (IntKind.u64.wrap nm % 3000 = (N : Int)) := ⟨(IntKind.u64.wrap nm % 3000).toNat, by show _ = _; omega⟩
 obtain ⟨k, t, T, hk2, ht3, e1, e2, e3, hT, hT52⟩ := wd_num N
 have H26 : Hid (∀ u, (∀ i, i < 2 → u.cell? ⟨w.heap.size + 1, i, none⟩ = some (.int .i64 ((16 + i : Nat) : Int))) → Calls Tryz.prog 26 #[.agg #[.int .i64 nm, .slice va nl vc], .slice (some ⟨w.heap.size + 1, 0, none⟩) 2 2] u fun e w' => Hid (e = .returned (.agg #[.int .i64 (T : Nat), .slice va nl vc]) ∧ Below u.heap.size u w')) := fun u hu => by
  have p := of_ok nm va nl vc (w.heap.size + 1) 2 2 (fun i => 16 + i) u N HN.out (by decide) (by decide) hu (fun i hi => by omega)
  rw [e1, e2, e3] at p
  exact p
 obtain ⟨kz, HKZ⟩ : ∃ kz, Hid (kyL bs (16 + 8 * t) = kz) := ⟨_, rfl⟩
 have HKL : Hid (kz.length = 16 + 8 * t ∧ AllBytes kz ∧ k < 2 ∧ t < 3 ∧ s < 18446744073709551616) := by rw [← HKZ.out]; exact ⟨kyL_len _ _, kyL_bytes hbb _, hk2, ht3, hs⟩
 have hky : kyN (1 + 17 * t + (15 + k)) = 16 + 8 * t := by
  rw [kyN_lit t (15 + k) (by omega)]
  match k, hk2 with
  | 0, _ => show 1 * (16 + 8 * t) + 0 = _; omega
  | 1, _ => show 1 * (16 + 8 * t) + 0 = _; omega
 have HMK : Hid (16 + 8 * t = mK (15 + k) * (16 + 8 * t) + mM (15 + k)) := by show _ = _; rw [← kyN_lit t (15 + k) (by omega), hky]
 have hf : ∀ j, j < 1 + 17 * t + (15 + k) → spN j ≠ sxN t (15 + k) := fun j hj => hc_first ⟨t, ht3⟩ ⟨k, hk2⟩ ⟨j, by omega⟩ hj
 have H27 : Hid (∀ u, Below w.heap.size w u → Calls Tryz.prog 27 #[.agg #[.int .i64 (T : Nat), .slice va nl vc]] u fun e w' => MadeP u (sxN t (15 + k)) 1 (16 + 8 * t) kz (hcV (hcFn k)) e w') := fun u hu => by
  have hEu := hE.below hu
  have p := made_ok (T : Nat) (1 + 17 * t + (15 + k)) (.slice va nl vc) bs u G o cp 1 (16 + 8 * t) (hcV (hcFn k)) hEu.md (by omega) (by rw [wrap_u64_nat _ (by omega)]; omega) (hv.below hu) ?_ ?_
  ·rw [hky, spN_lit t (15 + k) (by omega), HKZ.out] at p
   exact p
  ·intro u2 x2 hu2 hv2
   have hE2 := hEu.below hu2
   rw [hky, spN_lit t (15 + k) (by omega)] at *
   exact newHC t k ht3 hk2 x2 _ u2 hv2 (kyL_bytes hbb _) (kyL_len _ _) hE2.pow hE2.rc
  ·intro u2 x2 hu2 hv2
   have hE2 := hEu.below hu2
   rw [hky, spN_lit t (15 + k) (by omega)] at *
   exact rnewR1 t (15 + k) ht3 (by omega) (by omega) x2 _ u2 G o cp hf hv2 (kyL_bytes hbb _) (by rw [kyL_len]; exact HMK.out) hE2.md
 have H35 : Hid (∀ u, Below w.heap.size w u → Calls Tryz.prog 35 #[.agg #[.int .i64 (T : Nat), .slice va nl vc]] u fun e w' => Hid (∃ y d, e = .returned (.slice y (16 + 8 * t) d) ∧ View w' (.slice y (16 + 8 * t) d) kz ∧ Below u.heap.size u w')) := fun u hu => by
  have p := pkey_ok (T : Nat) (1 + 17 * t + (15 + k)) (.slice va nl vc) bs u G o cp (hE.below hu).md (by omega) (by rw [wrap_u64_nat _ (by omega)]; omega) (hv.below hu)
  rw [hky, HKZ.out] at p
  exact p
 obtain ⟨n, HNN⟩ : ∃ n, Hid (ftN nn false = n) := ⟨_, rfl⟩
 obtain ⟨L, HLL⟩ : ∃ L, Hid (ftL ys n = L) := ⟨_, rfl⟩
 have HLB : Hid (L.length = n ∧ AllBytes L ∧ 16 ≤ n ∧ n ≤ 4096) := by
  have q := ftN_loose nn
  rw [HNN.out] at q
  rw [← HLL.out]; exact ⟨ftL_len _ _, ftL_bytes hyb _, q.1, by omega⟩
 have H28 : Hid (∀ u, Below w.heap.size w u → Calls Tryz.prog 28 #[bv, .int .i64 nn, .bool false] u fun e w' => Hid (∃ b d, e = .returned (.slice (some ⟨b, 0, none⟩) n d) ∧ u.heap.size ≤ b ∧ n ≤ d ∧ View w' (.slice (some ⟨b, 0, none⟩) n d) L ∧ Below u.heap.size u w')) := fun u hu => by
  refine (fit_ok bv ys nn false u (hbv.below hu)).mono fun e w' hh => ?_
  obtain ⟨y, d, rfl, ho, hbl⟩ := hh.out
  rw [HNN.out] at ho ⊢
  rw [HLL.out] at ho
  have hvw := view_owns ho HLB.out.1
  rcases ho.2 with ⟨_, z⟩ | ⟨b, c2, cur, z, z1, _, z3, z4, _⟩
  ·have := HLB.out; omega
  ·injection z with z5 z6 z7
   subst z5 z7
   exact ⟨b, _, rfl, z1, z3, hvw, hbl⟩
 have H17 : Hid (∀ u, Calls Tryz.prog 17 #[.int .i64 0] u fun e w' => e = .returned (.int .i64 0) ∧ w' = u) := fun u => num_ok 0 u
 obtain ⟨nr, HNR⟩ : ∃ nr, Hid (4 + 2 * t + 6 = nr) := ⟨_, rfl⟩
 obtain ⟨K, HK⟩ : ∃ K, Hid (schedK (4 + 2 * t) (nat8 kz) = K) := ⟨_, rfl⟩
 have H34 : Hid (∀ u y d x, Below w.heap.size w u → View u (.slice y (16 + 8 * t) d) kz → Calls Tryz.prog 34 #[.slice y (16 + 8 * t) d, Fd.BV x] u fun e w' => Hid (e = .returned (.tuple #[Fd.BV (encV nr K x), .bool true]) ∧ Below u.heap.size u w')) := fun u y d x hu hvk => by
  have hr := (hE.below hu).rc
  have p := aes_ok _ kz (4 + 2 * t) x u (by omega) (by rw [HKL.out.1]; omega) hvk HKL.out.2.1 hr (World.block_lt_of_cell? u ⟨3, 0, none⟩ (hr 0 (by decide)))
  rw [HNR.out, HK.out] at p
  exact p
 obtain ⟨fi, HFI⟩ : ∃ fi, Hid (plV (k = 1) s = fi) := ⟨_, rfl⟩
 have HE : Hid (Env w G o cp) := hE
 clear hv hbb hbv hyb hs hE e1 e2 e3 hT hT52 hky hf hk2 ht3
 have c16 : ∀ i, i < 2 → ((w.alloc (.cells #[.int .i64 nm, .slice va nl vc] 57)).alloc (.cells #[.int .i64 16, .int .i64 17] 3)).cell? ⟨w.heap.size + 1, i, none⟩ = some (.int .i64 ((16 + i : Nat) : Int)) := by
  intro i hi
  match i, hi with
  | 0, _ => simp
  | 1, _ => simp
 have HBX : Hid (Bx ((w.alloc (.cells #[.int .i64 nm, .slice va nl vc] 57)).alloc (.cells #[.int .i64 16, .int .i64 17] 3)) w.heap.size 57 [.int .i64 nm, .slice va nl vc] ∧ Below w.heap.size w ((w.alloc (.cells #[.int .i64 nm, .slice va nl vc] 57)).alloc (.cells #[.int .i64 16, .int .i64 17] 3)) ∧ (∀ i, i < 2 → ((w.alloc (.cells #[.int .i64 nm, .slice va nl vc] 57)).alloc (.cells #[.int .i64 16, .int .i64 17] 3)).cell? ⟨w.heap.size + 1, i, none⟩ = some (.int .i64 ((16 + i : Nat) : Int)))) :=
  ⟨(Bx.new w 57 [.int .i64 nm, .slice va nl vc]).below ((Below.refl _ _).alloc (Nat.le_refl _) _), ((Below.refl _ _).alloc (Nat.le_refl _) _).alloc (by simp) _, c16⟩
 clear c16
 go_enter Tryz.func7, Tryz.ntmps7
 go_upto_region 2 with (first
  | (go_at_call 26; refine (H26.out _ HBX.out.2.2).mono ?_; intro e2 w2 hh; obtain ⟨rfl, hb2⟩ := hh.out; have HB2 : Hid (Bx w2 w.heap.size 57 [.int .i64 nm, .slice va nl vc] ∧ Below w.heap.size w w2) := ⟨HBX.out.1.below hb2, HBX.out.2.1.trans (hb2.mono HBX.out.2.1.size)⟩; clear hh hb2 H26 HBX)
  | (refine wpList_store_bx (by rfl) 57 (.tmp 4) (.tmp 22) (by rfl) [.int .i64 nm, .slice va nl vc] [.int .i64 (T : Nat), .slice va nl vc] w.heap.size (by rfl) (by rfl) HB2.out.1 rfl (by kernel_rfl) (by intro v hv; simp at hv; rcases hv with rfl | rfl <;> rfl) ?_; intro w3 hb3 hg3; have HB3 : Hid (Bx w3 w.heap.size 57 [.int .i64 (T : Nat), .slice va nl vc] ∧ Below w.heap.size w w3) := ⟨hb3, HB2.out.2.trans (below_gb hg3 HB2.out.2.size (Nat.le_refl _))⟩; clear hb3 hg3))
 have d0 : w3.cell? ⟨w.heap.size, 0, none⟩ = some (.int .i64 (T : Nat)) := HB3.out.1.cell 0 _ rfl
 have d1 : w3.cell? ⟨w.heap.size, 1, none⟩ = some (.slice va nl vc) := HB3.out.1.cell 1 _ rfl
 go_upto_region 5 with (first
  | (go_at_call 27; refine (H27.out _ HB3.out.2).mono ?_; intro e4 w4 hh; obtain ⟨c, r, sh, kv, mp, ov, fv, sv, pv, rfl, hc0, hcb, hsh, hps, hbel⟩ := hh; obtain ⟨g, hBg, hLr⟩ := HcW.of hsh hcb hps HKL.out.1; rw [HNR.out, HK.out] at hLr; have HL4 : Hid (HcW c sh g nr K (sxN t (15 + k)) (16 + 8 * t) (hcFn k) kv ov pv w4 ∧ Below w.heap.size w w4 ∧ w.heap.size < g ∧ Bx w4 w.heap.size 57 [.int .i64 (T : Nat), .slice va nl vc]) := ⟨hLr, HB3.out.2.trans (hbel.mono HB3.out.2.size), Nat.lt_of_lt_of_le HB3.out.1.lt hBg, HB3.out.1.below hbel⟩; clear hc0 hcb hsh hps hbel hBg hLr H27 d0 d1))
 clear HB3
 go_upto_region 6 with (first
  | (go_at_call 28; refine (H28.out _ HL4.out.2.1).mono ?_; intro e5 w5 hh; obtain ⟨b, d, rfl, p1, p2, p4, p5⟩ := hh.out; have HV5 : Hid (View w5 (.slice (some ⟨b, 0, none⟩) n d) L ∧ n ≤ d ∧ b ≠ g) := ⟨p4, p2, by have := HL4.out.1.key.ciph.here; omega⟩; have HL5 : Hid (HcW c sh g nr K (sxN t (15 + k)) (16 + 8 * t) (hcFn k) kv ov pv w5 ∧ Below w.heap.size w w5 ∧ Bx w5 w.heap.size 57 [.int .i64 (T : Nat), .slice va nl vc]) := ⟨HL4.out.1.below p5, HL4.out.2.1.trans (p5.mono HL4.out.2.1.size), HL4.out.2.2.2.below p5⟩; clear hh p1 p2 p4 p5 H28))
 obtain ⟨U, HU⟩ : ∃ U, Hid (blB (hcX nr K fi L) ++ hcCt nr K fi L = U) := ⟨_, rfl⟩
 have H29 : Hid (Calls Tryz.prog 29 #[.pointer (some ⟨c, 0, none⟩), .int .u64 (s : Nat), .slice (some ⟨b, 0, none⟩) n d] w5 fun e w' => Hid (∃ y dy, e = .returned (.tuple #[.slice (some ⟨y, 0, none⟩) n dy, .int .i64 0]) ∧ w5.heap.size ≤ y ∧ View w' (.slice (some ⟨y, 0, none⟩) n dy) U ∧ HcW c sh g nr K (sxN t (15 + k)) (16 + 8 * t) (hcFn k) kv ov pv w' ∧ w5.grownBy w' (some g))) := by
  have q := hcSeal c sh g nr K (sxN t (15 + k)) (16 + 8 * t) k HKL.out.2.2.1 kv ov pv s HKL.out.2.2.2.2 b 0 d L w5 HL5.out.1 (by rw [HLB.out.1]; exact HV5.out.1) HLB.out.2.1 (by rw [HLB.out.1]; exact HLB.out.2.2.1) (by rw [HLB.out.1]; exact HLB.out.2.2.2) HV5.out.2.2
  rw [HLB.out.1, HFI.out, HU.out] at q
  exact q
 go_upto_region 7 with (first
  | (go_at_call 29; refine H29.out.mono ?_; intro e6 w6 hh; obtain ⟨y, dy, rfl, p1, p2, p3, p4⟩ := hh.out; have HL6 : Hid (HcW c sh g nr K (sxN t (15 + k)) (16 + 8 * t) (hcFn k) kv ov pv w6 ∧ Below w.heap.size w w6 ∧ Bx w6 w.heap.size 57 [.int .i64 (T : Nat), .slice va nl vc] ∧ View w6 (.slice (some ⟨b, 0, none⟩) n d) L ∧ View w6 (.slice (some ⟨y, 0, none⟩) n dy) U) := ⟨p3, HL5.out.2.1.trans (below_gb p4 HL5.out.2.1.size (Nat.le_of_lt HL4.out.2.2.1)), HL5.out.2.2.keep (p4.block w.heap.size HL5.out.2.2.lt (fun e => by injection e with e; exact absurd e (Nat.ne_of_lt HL4.out.2.2.1))), view_gb HV5.out.1 (fun b' o' l c e => by injection e with e; injection e with e; injection e with e1 e2; rw [← e1]; exact HV5.out.2.2) p4, p2⟩; clear hh p1 p2 p3 p4 H29))
 have H33 : Hid (Calls Tryz.prog 33 #[.pointer (some ⟨c, 0, none⟩), .int .u64 (s : Nat), .int .i64 (n : Nat)] w6 fun e w' => Hid (∃ y, e = .returned (.tuple #[.slice (some ⟨y, 0, none⟩) 16 16, .int .i64 0]) ∧ View w' (.slice (some ⟨y, 0, none⟩) 16 16) (blB fi) ∧ w6.heap.size ≤ y ∧ Below w6.heap.size w6 w')) := by
  have q := hcIV c sh g nr K (sxN t (15 + k)) (16 + 8 * t) k HKL.out.2.2.1 kv ov pv s HKL.out.2.2.2.2 n w6 HL6.out.1 HLB.out.2.2.1 HLB.out.2.2.2
  rw [HFI.out] at q
  exact q
 go_upto_region 8 with (first
  | (go_at_call 33; refine H33.out.mono ?_; intro e7 w7 hh; obtain ⟨yi, rfl, p1, p2, p3⟩ := hh.out; have HW7 : Hid (WdI w.heap.size T (.slice va nl vc) (.slice (some ⟨b, 0, none⟩) n d) (.slice (some ⟨y, 0, none⟩) n dy) (.slice (some ⟨yi, 0, none⟩) 16 16) L U (blB fi) w w7) := ⟨HL6.out.2.2.1.below p3, HL6.out.2.2.2.1.below p3, HL6.out.2.2.2.2.below p3, p1, HL6.out.2.1.trans (p3.mono HL6.out.2.1.size)⟩; clear hh p1 p2 p3 H33))
 obtain ⟨M, HMM⟩ : ∃ M, Hid (w.heap.size = M) := ⟨_, rfl⟩
 have HND : Hid (n ≤ d) := HV5.out.2.1
 clear HL4 HL5 HL6 HV5
 rw [HMM.out] at HW7 H35 H34 ⊢
 go_upto_region 10 with (first
  | (go_at_call 17; refine (H17.out _).mono ?_; rintro e8 w8 ⟨rfl, hw⟩; obtain rfl := hw.symm; clear hw))
 obtain ⟨hV, HhV⟩ : ∃ x, Hid (encV nr K 0#128 = x) := ⟨_, rfl⟩
 obtain ⟨HV, HHV⟩ : ∃ L, Hid (L = Fd.BL hV) := ⟨_, rfl⟩
 have H34z : Hid (∀ u y d, Below M w u → View u (.slice y (16 + 8 * t) d) kz → Calls Tryz.prog 34 #[.slice y (16 + 8 * t) d, .agg ZZ.toArray] u fun e w' => Hid (e = .returned (.tuple #[.agg HV.toArray, .bool true]) ∧ Below u.heap.size u w')) := fun u y d hu hvk => by
  have q := H34.out u y d 0#128 hu hvk
  rw [HhV.out] at q
  unfold Fd.BV at q
  rw [HHV.out]
  have e : Value.agg ZZ.toArray = .agg (Fd.BL 0#128).toArray := by rw [Fd.BL_zero]
  rw [e]
  exact q
 have HLV : Hid (HV.length = 16 ∧ (∀ x ∈ HV, x.oneCell' = true)) := by rw [HHV.out]; exact ⟨Fd.BL_length _, BL_one8 _⟩
 have d0 : w7.cell? ⟨M, 0, none⟩ = some (.int .i64 (T : Nat)) := HW7.out.box.cell 0 _ rfl
 have d1 : w7.cell? ⟨M, 1, none⟩ = some (.slice va nl vc) := HW7.out.box.cell 1 _ rfl
 go_upto_region 11 with (first
  | (go_at_call 35; refine (H35.out _ HW7.out.bel).mono ?_; intro e w8 hh; obtain ⟨yk, dk, rfl, hvk, hb⟩ := hh.out; have HW8 : Hid (WdI M T (.slice va nl vc) (.slice (some ⟨b, 0, none⟩) n d) (.slice (some ⟨y, 0, none⟩) n dy) (.slice (some ⟨yi, 0, none⟩) 16 16) L U (blB fi) w w8 ∧ View w8 (.slice yk (16 + 8 * t) dk) kz) := ⟨HW7.out.below hb, hvk⟩; clear hh hb hvk d0 d1)
  | (go_at_call 34; refine (H34z.out _ yk dk HW8.out.1.bel HW8.out.2).mono ?_; intro e w9 hh; obtain ⟨rfl, hb⟩ := hh.out; have HW9 : Hid (WdI M T (.slice va nl vc) (.slice (some ⟨b, 0, none⟩) n d) (.slice (some ⟨y, 0, none⟩) n dy) (.slice (some ⟨yi, 0, none⟩) 16 16) L U (blB fi) w w9) := HW8.out.1.below hb; clear hh hb)
  | (refine wpList_store_bx (by rfl) 29 (.tmp 16) (.tmp 74) (by rfl) ZZ HV w9.heap.size (by rfl) (by rfl) (Bx.new w9 29 ZZ) (by rw [HLV.out.1]; rfl) (by rw [HLV.out.1]; kernel_rfl) HLV.out.2 ?_; intro wA hbA hgA; have HWA : Hid (WdI M T (.slice va nl vc) (.slice (some ⟨b, 0, none⟩) n d) (.slice (some ⟨y, 0, none⟩) n dy) (.slice (some ⟨yi, 0, none⟩) 16 16) L U (blB fi) w wA ∧ Bx wA w9.heap.size 29 HV) := ⟨HW9.out.below (((Below.refl _ _).alloc (Nat.le_refl _) _).trans (below_gb hgA (by simp) (Nat.le_refl _))), hbA⟩; clear hbA hgA))
 obtain ⟨b16, HB16⟩ : ∃ b16, Hid (w9.heap.size = b16) := ⟨_, rfl⟩
 rw [HB16.out] at HWA ⊢
 clear HB16 HW7 HW8 HW9
 try simp only [Act.put]
 have hdy : n ≤ dy := (view_lens HWA.out.1.vu).2
 have HUL : Hid (U.length = n ∧ AllBytes U ∧ cutV U 0 = hcX nr K fi L ∧ U.drop 16 = hcCt nr K fi L) := by
  rw [← HU.out]
  refine ⟨by rw [HU.out]; exact (view_lens HWA.out.1.vu).1, fun i => ?_, cutV_blB _ _, List.drop_left' (blB_len _)⟩
  rw [List.getD_eq_getElem?_getD]
  by_cases hi : i < (blB (hcX nr K fi L)).length
  ·rw [List.getElem?_append_left hi, ← List.getD_eq_getElem?_getD]; exact blB_bytes _ i
  ·rw [List.getElem?_append_right (by omega), ← List.getD_eq_getElem?_getD]; exact ctL_bytes _ (drop_bytes HLB.out.2.1 16) _ _
 obtain ⟨ro, rc, hsb, hvb⟩ := slice_from16 b n d HLB.out.2.2.1 HND.out
 obtain ⟨uo, uc, hsu, hvu⟩ := slice_from16 y n dy HLB.out.2.2.1 hdy
 have HVB : Hid (∀ u, View u (.slice (some ⟨b, 0, none⟩) n d) L → View u (.slice (some ⟨b, ro, none⟩) (n - 16) rc) (L.drop 16)) := fun u hu => hvb u L HLB.out.1 hu
 have HVU : Hid (∀ u, View u (.slice (some ⟨y, 0, none⟩) n dy) U → View u (.slice (some ⟨y, uo, none⟩) (n - 16) uc) (U.drop 16)) := fun u hu => hvu u U HUL.out.1 hu
 have hs1 : ∀ u : World, (Instr.slice 24 (.slice (some ⟨b, 0, none⟩) n d) none (some (.int .i64 16)) none).run Tryz.prog u = .ok (.slice (some ⟨b, 0, none⟩) 16 d) u := fun u => slice_to16 u b n d (Nat.le_trans HLB.out.2.2.1 HND.out)
 have hs2 : ∀ u : World, (Instr.slice 24 (.slice (some ⟨y, 0, none⟩) n dy) none (some (.int .i64 16)) none).run Tryz.prog u = .ok (.slice (some ⟨y, 0, none⟩) 16 dy) u := fun u => slice_to16 u y n dy (Nat.le_trans HLB.out.2.2.1 hdy)
 obtain ⟨B0, HB0⟩ : ∃ A, Hid (A = Fd.BL (cutV L 0)) := ⟨_, rfl⟩
 obtain ⟨R1, HR1⟩ : ∃ A, Hid (A = Fd.BL (hsV hV fi (L.drop 16))) := ⟨_, rfl⟩
 obtain ⟨P1, HP1⟩ : ∃ A, Hid (A = Fd.BL (hcIn nr K fi L)) := ⟨_, rfl⟩
 obtain ⟨OU, HOU⟩ : ∃ A, Hid (A = Fd.BL (encV nr K (hcIn nr K fi L))) := ⟨_, rfl⟩
 obtain ⟨X0, HX0⟩ : ∃ A, Hid (A = Fd.BL (hcX nr K fi L)) := ⟨_, rfl⟩
 obtain ⟨R2, HR2⟩ : ∃ A, Hid (A = Fd.BL (hsV hV fi (hcCt nr K fi L))) := ⟨_, rfl⟩
 have H12b : Hid (∀ u, View u (.slice (some ⟨b, 0, none⟩) n d) L → Calls Tryz.prog 12 #[.slice (some ⟨b, 0, none⟩) 16 d] u fun e w' => Hid (e = .returned (.agg B0.toArray) ∧ Below u.heap.size u w')) := fun u hu => by
  have q := block_ok _ _ u (view_to16 hu HLB.out.2.2.1 (Nat.le_trans HLB.out.2.2.1 HND.out)) (take_bytes HLB.out.2.1 16)
  rw [cutV_take] at q
  rw [HB0.out]; exact q
 have H12u : Hid (∀ u, View u (.slice (some ⟨y, 0, none⟩) n dy) U → Calls Tryz.prog 12 #[.slice (some ⟨y, 0, none⟩) 16 dy] u fun e w' => Hid (e = .returned (.agg X0.toArray) ∧ Below u.heap.size u w')) := fun u hu => by
  have q := block_ok _ _ u (view_to16 hu HLB.out.2.2.1 (Nat.le_trans HLB.out.2.2.1 hdy)) (take_bytes HUL.out.2.1 16)
  rw [cutV_take, HUL.out.2.2.1] at q
  rw [HX0.out]; exact q
 have H37b : Hid (∀ u, View u (.slice (some ⟨b, 0, none⟩) n d) L → View u (.slice (some ⟨yi, 0, none⟩) 16 16) (blB fi) → Calls Tryz.prog 37 #[.agg HV.toArray, .slice (some ⟨yi, 0, none⟩) 16 16, .slice (some ⟨b, ro, none⟩) (n - 16) rc] u fun e w' => Hid (e = .returned (.agg R1.toArray) ∧ Below u.heap.size u w')) := fun u hu hi => by
  rw [HHV.out, HR1.out]
  exact rest_hc hV fi _ _ (L.drop 16) u hi (HVB.out u hu) (drop_bytes HLB.out.2.1 16) (by rw [List.length_drop, HLB.out.1]; have := HLB.out.2.2.2; omega)
 have H37u : Hid (∀ u, View u (.slice (some ⟨y, 0, none⟩) n dy) U → View u (.slice (some ⟨yi, 0, none⟩) 16 16) (blB fi) → Calls Tryz.prog 37 #[.agg HV.toArray, .slice (some ⟨yi, 0, none⟩) 16 16, .slice (some ⟨y, uo, none⟩) (n - 16) uc] u fun e w' => Hid (e = .returned (.agg R2.toArray) ∧ Below u.heap.size u w')) := fun u hu hi => by
  have q := rest_hc hV fi _ _ (U.drop 16) u hi (HVU.out u hu) (drop_bytes HUL.out.2.1 16) (by rw [List.length_drop, HUL.out.1]; have := HLB.out.2.2.2; omega)
  rw [HUL.out.2.2.2] at q
  rw [HHV.out, HR2.out]; exact q
 have H36b : Hid (∀ u, Calls Tryz.prog 36 #[.agg B0.toArray, .agg R1.toArray] u fun e w' => Hid (e = .returned (.agg P1.toArray) ∧ Below u.heap.size u w')) := fun u => by
  rw [HB0.out, HR1.out, HP1.out]
  unfold hcIn
  rw [HhV.out]
  exact (Fd.plusB_ok _ _ u).mono fun e w' hh => hh
 have H36u : Hid (∀ u, Calls Tryz.prog 36 #[.agg X0.toArray, .agg R2.toArray] u fun e w' => Hid (e = .returned (.agg OU.toArray) ∧ Below u.heap.size u w')) := fun u => by
  have q := Fd.plusB_ok (hcX nr K fi L) (hsV hV fi (hcCt nr K fi L)) u
  have e : hcX nr K fi L ^^^ hsV hV fi (hcCt nr K fi L) = encV nr K (hcIn nr K fi L) := by
   unfold hcX
   rw [HhV.out, BitVec.xor_assoc, BitVec.xor_self, BitVec.xor_zero]
  rw [e] at q
  rw [HX0.out, HR2.out, HOU.out]
  exact q.mono fun e w' hh => hh
 have H34b : Hid (∀ u y d, Below M w u → View u (.slice y (16 + 8 * t) d) kz → Calls Tryz.prog 34 #[.slice y (16 + 8 * t) d, .agg P1.toArray] u fun e w' => Hid (e = .returned (.tuple #[.agg OU.toArray, .bool true]) ∧ Below u.heap.size u w')) := fun u y d hu hvk => by
  rw [HP1.out, HOU.out]; exact H34.out u y d _ hu hvk
 have HLO : Hid (OU.length = 16 ∧ (∀ x ∈ OU, x.oneCell' = true)) := by rw [HOU.out]; exact ⟨Fd.BL_length _, BL_one8 _⟩
 have hEQ : ∀ u : World, (Op.equalIn 10000 29 (.agg OU.toArray) (.agg OU.toArray)).run Tryz.prog u = .ok true u := fun u => by rw [HOU.out]; exact Fd.eqB_same _ u
 have hiV : (Tryz.prog.info? 29).map (·.size) = some HV.length := by rw [HLV.out.1]; kernel_rfl
 have hiO : (Tryz.prog.info? 29).map (·.size) = some OU.length := by rw [HLO.out.1]; kernel_rfl
 clear hvb hvu hdy
 go_cut [18, 19] from 76 to 90 (fun v18 v19 wx => ∃ b18 : Nat, v18 = .pointer (some ⟨b18, 0, none⟩) ∧ v19 = .bool true ∧ Hid (WdI M T (.slice va nl vc) (.slice (some ⟨b, 0, none⟩) n d) (.slice (some ⟨y, 0, none⟩) n dy) (.slice (some ⟨yi, 0, none⟩) 16 16) L U (blB fi) w wx ∧ Bx wx b16 29 HV ∧ Bx wx b18 29 OU))
 case first =>
  have HS0 : Hid (WdI M T (.slice va nl vc) (.slice (some ⟨b, 0, none⟩) n d) (.slice (some ⟨y, 0, none⟩) n dy) (.slice (some ⟨yi, 0, none⟩) 16 16) L U (blB fi) w wA.drew ∧ Bx wA.drew b16 29 HV) := ⟨HWA.out.1.below (Below.refl _ _).drew, HWA.out.2.below (Below.refl _ _).drew⟩
  have HIB : Hid (∀ u, WdI M T (.slice va nl vc) (.slice (some ⟨b, 0, none⟩) n d) (.slice (some ⟨y, 0, none⟩) n dy) (.slice (some ⟨yi, 0, none⟩) 16 16) L U (blB fi) w u ∧ Bx u b16 29 HV → (u.cell? ⟨M, 0, none⟩ = some (.int .i64 (T : Nat)) ∧ u.cell? ⟨M, 1, none⟩ = some (.slice va nl vc) ∧ u.rangeAt b16 0 HV)) := fun u hu => ⟨hu.1.box.cell 0 _ rfl, hu.1.box.cell 1 _ rfl, hu.2.range⟩
  have hS0 := HIB.out _ HS0.out
  refine wp_region_noPanic ?_
  refine wp_region_held_drew (S := (fun u => u.cell? ⟨M, 0, none⟩ = some (.int .i64 (T : Nat)) ∧ u.cell? ⟨M, 1, none⟩ = some (.slice va nl vc) ∧ u.rangeAt b16 0 HV)) (by kernel_rfl) (hS0) (fun _ => ?_)
  refine tH 0 77 (.agg #[.int .i64 (T : Nat), .slice va nl vc]) rfl rfl (by kernel_rfl) (hS0) (Or.inl ⟨by rfl, fun w' hS' => by obtain ⟨c1, c2, c3⟩ := hS'; go_simp⟩) ?_
  try simp only [pU]
  refine tH 2 79 (.slice (some ⟨b, 0, none⟩) n d) rfl rfl (by kernel_rfl) (hS0) (Or.inl ⟨by rfl, fun w' hS' => by obtain ⟨c1, c2, c3⟩ := hS'; go_simp⟩) ?_
  try simp only [pU]
  refine tH 3 80 (.slice (some ⟨b, 0, none⟩) 16 d) rfl rfl (by kernel_rfl) (hS0) (Or.inl ⟨by rfl, fun w' hS' => by obtain ⟨c1, c2, c3⟩ := hS'; go_simp⟩) ?_
  try simp only [pU]
  refine tH 5 82 (.agg HV.toArray) rfl rfl (by kernel_rfl) (hS0) (yieldsIf_load_mid (by rfl) 29 (.tmp 16) rfl b16 0 rfl HV _ (fun u hu => hu.2.2) Tryz.underlying29 rfl hiV) ?_
  try simp only [pU]
  refine tH 6 83 (.slice (some ⟨yi, 0, none⟩) 16 16) rfl rfl (by kernel_rfl) (hS0) (Or.inl ⟨by rfl, fun w' hS' => by obtain ⟨c1, c2, c3⟩ := hS'; go_simp⟩) ?_
  try simp only [pU]
  refine tH 7 84 (.slice (some ⟨b, 0, none⟩) n d) rfl rfl (by kernel_rfl) (hS0) (Or.inl ⟨by rfl, fun w' hS' => by obtain ⟨c1, c2, c3⟩ := hS'; go_simp⟩) ?_
  try simp only [pU]
  refine tH 8 85 (.slice (some ⟨b, ro, none⟩) (n - 16) rc) rfl rfl (by kernel_rfl) (hS0) (Or.inl ⟨by rfl, fun w' hS' => by obtain ⟨c1, c2, c3⟩ := hS'; go_simp⟩) ?_
  try simp only [pU]
  refine wpAnyH_ready (rs := [1, 15]) (by kernel_rfl) (by simp) ?_
  refine AllReadyH.cons rfl (fun KK hK => ?_) (AllReadyH.cons rfl (fun KK hK => ?_) AllReadyH.nil)
  ·skip
   go_simp
   refine (H35.out _ HS0.out.1.bel).mono ?_
   intro e q1 hh
   obtain ⟨yk2, dk2, rfl, hvk, hb⟩ := hh.out
   have HQ1 : Hid (WdI M T (.slice va nl vc) (.slice (some ⟨b, 0, none⟩) n d) (.slice (some ⟨y, 0, none⟩) n dy) (.slice (some ⟨yi, 0, none⟩) 16 16) L U (blB fi) w q1 ∧ Bx q1 b16 29 HV) := ⟨HS0.out.1.below hb, HS0.out.2.below hb⟩
   have HY1 : Hid (View q1 (.slice yk2 (16 + 8 * t) dk2) kz) := hvk
   clear hvk
   clear hh hb
   go_wp2_with fail
   refine hK.out _ _ (HIB.out _ HQ1.out) (fun _ => ?_)
   clear hK KK
   try simp only [pU]
   refine wpAnyH_ready (rs := [4, 15]) (by kernel_rfl) (by simp) ?_
   refine AllReadyH.cons rfl (fun KK hK => ?_) (AllReadyH.cons rfl (fun KK hK => ?_) AllReadyH.nil)
   ·skip
    go_simp
    refine (H12b.out _ HQ1.out.1.vb).mono ?_
    intro e q2 hh
    obtain ⟨rfl, hb⟩ := hh.out
    have HQ2 : Hid (WdI M T (.slice va nl vc) (.slice (some ⟨b, 0, none⟩) n d) (.slice (some ⟨y, 0, none⟩) n dy) (.slice (some ⟨yi, 0, none⟩) 16 16) L U (blB fi) w q2 ∧ Bx q2 b16 29 HV) := ⟨HQ1.out.1.below hb, HQ1.out.2.below hb⟩
    have HY2 : Hid (View q2 (.slice yk2 (16 + 8 * t) dk2) kz) := HY1.out.below hb
    clear hh hb
    go_wp2_with fail
    refine hK.out _ _ (HIB.out _ HQ2.out) (fun _ => ?_)
    clear hK KK
    try simp only [pU]
    refine wpAnyH_ready (rs := [9, 15]) (by kernel_rfl) (by simp) ?_
    refine AllReadyH.cons rfl (fun KK hK => ?_) (AllReadyH.cons rfl (fun KK hK => ?_) AllReadyH.nil)
    ·skip
     go_simp
     refine (H37b.out _ HQ2.out.1.vb HQ2.out.1.vi).mono ?_
     intro e q3 hh
     obtain ⟨rfl, hb⟩ := hh.out
     have HQ3 : Hid (WdI M T (.slice va nl vc) (.slice (some ⟨b, 0, none⟩) n d) (.slice (some ⟨y, 0, none⟩) n dy) (.slice (some ⟨yi, 0, none⟩) 16 16) L U (blB fi) w q3 ∧ Bx q3 b16 29 HV) := ⟨HQ2.out.1.below hb, HQ2.out.2.below hb⟩
     have HY3 : Hid (View q3 (.slice yk2 (16 + 8 * t) dk2) kz) := HY2.out.below hb
     clear hh hb
     go_wp2_with fail
     refine hK.out _ _ (HIB.out _ HQ3.out) (fun _ => ?_)
     clear hK KK
     try simp only [pU]
     refine wpAnyH_ready (rs := [10, 15]) (by kernel_rfl) (by simp) ?_
     refine AllReadyH.cons rfl (fun KK hK => ?_) (AllReadyH.cons rfl (fun KK hK => ?_) AllReadyH.nil)
     ·skip
      go_simp
      refine (H36b.out _).mono ?_
      intro e q4 hh
      obtain ⟨rfl, hb⟩ := hh.out
      have HQ4 : Hid (WdI M T (.slice va nl vc) (.slice (some ⟨b, 0, none⟩) n d) (.slice (some ⟨y, 0, none⟩) n dy) (.slice (some ⟨yi, 0, none⟩) 16 16) L U (blB fi) w q4 ∧ Bx q4 b16 29 HV) := ⟨HQ3.out.1.below hb, HQ3.out.2.below hb⟩
      have HY4 : Hid (View q4 (.slice yk2 (16 + 8 * t) dk2) kz) := HY3.out.below hb
      clear hh hb
      go_wp2_with fail
      refine hK.out _ _ (HIB.out _ HQ4.out) (fun _ => ?_)
      clear hK KK
      try simp only [pU]
      refine wpAnyH_ready (rs := [11, 15]) (by kernel_rfl) (by simp) ?_
      refine AllReadyH.cons rfl (fun KK hK => ?_) (AllReadyH.cons rfl (fun KK hK => ?_) AllReadyH.nil)
      ·skip
       go_simp
       refine (H34b.out _ yk2 dk2 HQ4.out.1.bel HY4.out).mono ?_
       intro e q5 hh
       obtain ⟨rfl, hb⟩ := hh.out
       have HQ5 : Hid (WdI M T (.slice va nl vc) (.slice (some ⟨b, 0, none⟩) n d) (.slice (some ⟨y, 0, none⟩) n dy) (.slice (some ⟨yi, 0, none⟩) 16 16) L U (blB fi) w q5 ∧ Bx q5 b16 29 HV) := ⟨HQ4.out.1.below hb, HQ4.out.2.below hb⟩
       have HY5 : Hid (View q5 (.slice yk2 (16 + 8 * t) dk2) kz) := HY4.out.below hb
       clear hh hb
       go_wp2_with fail
       refine hK.out _ _ (HIB.out _ HQ5.out) (fun _ => ?_)
       clear hK KK
       try simp only [pU]
       refine tH 12 76 (.tuple #[.agg OU.toArray, .bool true]) rfl rfl (by kernel_rfl) (HIB.out _ HQ5.out) (Or.inl ⟨by rfl, fun w' hS' => by obtain ⟨c1, c2, c3⟩ := hS'; go_simp⟩) ?_
       try simp only [pU]
       refine tH 13 89 (.agg OU.toArray) rfl rfl (by kernel_rfl) (HIB.out _ HQ5.out) (Or.inl ⟨by rfl, fun w' hS' => by obtain ⟨c1, c2, c3⟩ := hS'; go_simp⟩) ?_
       try simp only [pU]
       refine tH 14 90 (.bool true) rfl rfl (by kernel_rfl) (HIB.out _ HQ5.out) (Or.inl ⟨by rfl, fun w' hS' => by obtain ⟨c1, c2, c3⟩ := hS'; go_simp⟩) ?_
       try simp only [pU]
       refine wpAnyH_ready (rs := [15]) (by kernel_rfl) (by simp) ?_
       refine AllReadyH.cons rfl (fun KK hK => ?_) AllReadyH.nil
       refine step_alloc29 rfl 18 rfl rfl ?_
       intro q6 b106 hu hbb
       have hb : Below q5.heap.size q5 q6 := by rw [hu.out]; exact (Below.refl _ _).alloc (Nat.le_refl _) _
       have HQ6 : Hid (WdI M T (.slice va nl vc) (.slice (some ⟨b, 0, none⟩) n d) (.slice (some ⟨y, 0, none⟩) n dy) (.slice (some ⟨yi, 0, none⟩) 16 16) L U (blB fi) w q6 ∧ Bx q6 b16 29 HV) := ⟨HQ5.out.1.below hb, HQ5.out.2.below hb⟩
       have HZ6 : Hid (Bx q6 b106 29 ZZ ∧ b16 < b106 ∧ M < b106 ∧ b < b106 ∧ y < b106 ∧ yi < b106) := by rw [hu.out, hbb.out]; exact ⟨Bx.new _ 29 ZZ, HQ5.out.2.lt, HQ5.out.1.box.lt, wdi_lt HQ5.out.1 HLB.out.1 HUL.out.1 HLB.out.2.2.1⟩
       have HY6 : Hid (View q6 (.slice yk2 (16 + 8 * t) dk2) kz) := HY5.out.below hb
       clear hu hbb hb
       refine hK.out _ _ (HIB.out _ HQ6.out) (fun _ => ?_)
       clear hK KK
       try simp only [pU]
       refine wpAnyH_ready (rs := [16]) (by kernel_rfl) (by simp) ?_
       refine AllReadyH.cons rfl (fun KK hK => ?_) AllReadyH.nil
       refine step_store_bx rfl 29 (.tmp 18) (.tmp 89) rfl ZZ OU b106 rfl rfl HZ6.out.1 (by rw [HLO.out.1]; rfl) (by rw [HLO.out.1]; kernel_rfl) HLO.out.2 ?_
       intro u9 HB9 HG9
       have H9 : Hid (WdI M T (.slice va nl vc) (.slice (some ⟨b, 0, none⟩) n d) (.slice (some ⟨y, 0, none⟩) n dy) (.slice (some ⟨yi, 0, none⟩) 16 16) L U (blB fi) w u9 ∧ Bx u9 b16 29 HV) := ⟨HQ6.out.1.putNew HG9.out HZ6.out.2.2.1 HZ6.out.2.2.2.1 HZ6.out.2.2.2.2.1 HZ6.out.2.2.2.2.2, HQ6.out.2.keep (HG9.out.block b16 HQ6.out.2.lt (fun e => by injection e with e; exact absurd e (Nat.ne_of_lt HZ6.out.2.1)))⟩
       refine hK.out _ _ (HIB.out _ H9.out) (fun _ => ?_)
       clear hK KK
       try simp only [pU]
       refine wpAnyH_ready (rs := [17]) (by kernel_rfl) (by simp) ?_
       refine AllReadyH.cons rfl (fun KK hK => ?_) AllReadyH.nil
       rw [if_pos (by rfl)]
       go_simp
       refine hK.out _ _ (HIB.out _ H9.out) (fun _ => ?_)
       clear hK KK
       try simp only [pU]
       refine wpAnyH_done (by kernel_rfl) ?_ _
       refine NoPanic.normal ?_
       go_wp2_with fail
       go_meet
       exact ⟨b106, rfl, rfl, H9.out.1, H9.out.2, HB9.out⟩
      ·skip
       refine step_alloc29 rfl 18 rfl rfl ?_
       intro q7 b107 hu hbb
       have hb : Below q4.heap.size q4 q7 := by rw [hu.out]; exact (Below.refl _ _).alloc (Nat.le_refl _) _
       have HQ7 : Hid (WdI M T (.slice va nl vc) (.slice (some ⟨b, 0, none⟩) n d) (.slice (some ⟨y, 0, none⟩) n dy) (.slice (some ⟨yi, 0, none⟩) 16 16) L U (blB fi) w q7 ∧ Bx q7 b16 29 HV) := ⟨HQ4.out.1.below hb, HQ4.out.2.below hb⟩
       have HZ7 : Hid (Bx q7 b107 29 ZZ ∧ b16 < b107 ∧ M < b107 ∧ b < b107 ∧ y < b107 ∧ yi < b107) := by rw [hu.out, hbb.out]; exact ⟨Bx.new _ 29 ZZ, HQ4.out.2.lt, HQ4.out.1.box.lt, wdi_lt HQ4.out.1 HLB.out.1 HUL.out.1 HLB.out.2.2.1⟩
       have HY7 : Hid (View q7 (.slice yk2 (16 + 8 * t) dk2) kz) := HY4.out.below hb
       clear hu hbb hb
       refine hK.out _ _ (HIB.out _ HQ7.out) (fun _ => ?_)
       clear hK KK
       try simp only [pU]
       refine wpAnyH_ready (rs := [11]) (by kernel_rfl) (by simp) ?_
       refine AllReadyH.cons rfl (fun KK hK => ?_) AllReadyH.nil
       go_simp
       refine (H34b.out _ yk2 dk2 HQ7.out.1.bel HY7.out).mono ?_
       intro e q8 hh
       obtain ⟨rfl, hb⟩ := hh.out
       have HQ8 : Hid (WdI M T (.slice va nl vc) (.slice (some ⟨b, 0, none⟩) n d) (.slice (some ⟨y, 0, none⟩) n dy) (.slice (some ⟨yi, 0, none⟩) 16 16) L U (blB fi) w q8 ∧ Bx q8 b16 29 HV) := ⟨HQ7.out.1.below hb, HQ7.out.2.below hb⟩
       have HY8 : Hid (View q8 (.slice yk2 (16 + 8 * t) dk2) kz) := HY7.out.below hb
       have HZ8 : Hid (Bx q8 b107 29 ZZ ∧ b16 < b107 ∧ M < b107 ∧ b < b107 ∧ y < b107 ∧ yi < b107) := ⟨HZ7.out.1.below hb, HZ7.out.2⟩
       clear hh hb
       go_wp2_with fail
       refine hK.out _ _ (HIB.out _ HQ8.out) (fun _ => ?_)
       clear hK KK
       try simp only [pU]
       refine tH 12 76 (.tuple #[.agg OU.toArray, .bool true]) rfl rfl (by kernel_rfl) (HIB.out _ HQ8.out) (Or.inl ⟨by rfl, fun w' hS' => by obtain ⟨c1, c2, c3⟩ := hS'; go_simp⟩) ?_
       try simp only [pU]
       refine tH 13 89 (.agg OU.toArray) rfl rfl (by kernel_rfl) (HIB.out _ HQ8.out) (Or.inl ⟨by rfl, fun w' hS' => by obtain ⟨c1, c2, c3⟩ := hS'; go_simp⟩) ?_
       try simp only [pU]
       refine tH 14 90 (.bool true) rfl rfl (by kernel_rfl) (HIB.out _ HQ8.out) (Or.inl ⟨by rfl, fun w' hS' => by obtain ⟨c1, c2, c3⟩ := hS'; go_simp⟩) ?_
       try simp only [pU]
       refine wpAnyH_ready (rs := [16]) (by kernel_rfl) (by simp) ?_
       refine AllReadyH.cons rfl (fun KK hK => ?_) AllReadyH.nil
       refine step_store_bx rfl 29 (.tmp 18) (.tmp 89) rfl ZZ OU b107 rfl rfl HZ8.out.1 (by rw [HLO.out.1]; rfl) (by rw [HLO.out.1]; kernel_rfl) HLO.out.2 ?_
       intro u9 HB9 HG9
       have H9 : Hid (WdI M T (.slice va nl vc) (.slice (some ⟨b, 0, none⟩) n d) (.slice (some ⟨y, 0, none⟩) n dy) (.slice (some ⟨yi, 0, none⟩) 16 16) L U (blB fi) w u9 ∧ Bx u9 b16 29 HV) := ⟨HQ8.out.1.putNew HG9.out HZ8.out.2.2.1 HZ8.out.2.2.2.1 HZ8.out.2.2.2.2.1 HZ8.out.2.2.2.2.2, HQ8.out.2.keep (HG9.out.block b16 HQ8.out.2.lt (fun e => by injection e with e; exact absurd e (Nat.ne_of_lt HZ8.out.2.1)))⟩
       refine hK.out _ _ (HIB.out _ H9.out) (fun _ => ?_)
       clear hK KK
       try simp only [pU]
       refine wpAnyH_ready (rs := [17]) (by kernel_rfl) (by simp) ?_
       refine AllReadyH.cons rfl (fun KK hK => ?_) AllReadyH.nil
       rw [if_pos (by rfl)]
       go_simp
       refine hK.out _ _ (HIB.out _ H9.out) (fun _ => ?_)
       clear hK KK
       try simp only [pU]
       refine wpAnyH_done (by kernel_rfl) ?_ _
       refine NoPanic.normal ?_
       go_wp2_with fail
       go_meet
       exact ⟨b107, rfl, rfl, H9.out.1, H9.out.2, HB9.out⟩
     ·skip
      refine step_alloc29 rfl 18 rfl rfl ?_
      intro q9 b109 hu hbb
      have hb : Below q3.heap.size q3 q9 := by rw [hu.out]; exact (Below.refl _ _).alloc (Nat.le_refl _) _
      have HQ9 : Hid (WdI M T (.slice va nl vc) (.slice (some ⟨b, 0, none⟩) n d) (.slice (some ⟨y, 0, none⟩) n dy) (.slice (some ⟨yi, 0, none⟩) 16 16) L U (blB fi) w q9 ∧ Bx q9 b16 29 HV) := ⟨HQ3.out.1.below hb, HQ3.out.2.below hb⟩
      have HZ9 : Hid (Bx q9 b109 29 ZZ ∧ b16 < b109 ∧ M < b109 ∧ b < b109 ∧ y < b109 ∧ yi < b109) := by rw [hu.out, hbb.out]; exact ⟨Bx.new _ 29 ZZ, HQ3.out.2.lt, HQ3.out.1.box.lt, wdi_lt HQ3.out.1 HLB.out.1 HUL.out.1 HLB.out.2.2.1⟩
      have HY9 : Hid (View q9 (.slice yk2 (16 + 8 * t) dk2) kz) := HY3.out.below hb
      clear hu hbb hb
      refine hK.out _ _ (HIB.out _ HQ9.out) (fun _ => ?_)
      clear hK KK
      try simp only [pU]
      refine wpAnyH_ready (rs := [10]) (by kernel_rfl) (by simp) ?_
      refine AllReadyH.cons rfl (fun KK hK => ?_) AllReadyH.nil
      go_simp
      refine (H36b.out _).mono ?_
      intro e q10 hh
      obtain ⟨rfl, hb⟩ := hh.out
      have HQ10 : Hid (WdI M T (.slice va nl vc) (.slice (some ⟨b, 0, none⟩) n d) (.slice (some ⟨y, 0, none⟩) n dy) (.slice (some ⟨yi, 0, none⟩) 16 16) L U (blB fi) w q10 ∧ Bx q10 b16 29 HV) := ⟨HQ9.out.1.below hb, HQ9.out.2.below hb⟩
      have HY10 : Hid (View q10 (.slice yk2 (16 + 8 * t) dk2) kz) := HY9.out.below hb
      have HZ10 : Hid (Bx q10 b109 29 ZZ ∧ b16 < b109 ∧ M < b109 ∧ b < b109 ∧ y < b109 ∧ yi < b109) := ⟨HZ9.out.1.below hb, HZ9.out.2⟩
      clear hh hb
      go_wp2_with fail
      refine hK.out _ _ (HIB.out _ HQ10.out) (fun _ => ?_)
      clear hK KK
      try simp only [pU]
      refine wpAnyH_ready (rs := [11]) (by kernel_rfl) (by simp) ?_
      refine AllReadyH.cons rfl (fun KK hK => ?_) AllReadyH.nil
      go_simp
      refine (H34b.out _ yk2 dk2 HQ10.out.1.bel HY10.out).mono ?_
      intro e q11 hh
      obtain ⟨rfl, hb⟩ := hh.out
      have HQ11 : Hid (WdI M T (.slice va nl vc) (.slice (some ⟨b, 0, none⟩) n d) (.slice (some ⟨y, 0, none⟩) n dy) (.slice (some ⟨yi, 0, none⟩) 16 16) L U (blB fi) w q11 ∧ Bx q11 b16 29 HV) := ⟨HQ10.out.1.below hb, HQ10.out.2.below hb⟩
      have HY11 : Hid (View q11 (.slice yk2 (16 + 8 * t) dk2) kz) := HY10.out.below hb
      have HZ11 : Hid (Bx q11 b109 29 ZZ ∧ b16 < b109 ∧ M < b109 ∧ b < b109 ∧ y < b109 ∧ yi < b109) := ⟨HZ10.out.1.below hb, HZ10.out.2⟩
      clear hh hb
      go_wp2_with fail
      refine hK.out _ _ (HIB.out _ HQ11.out) (fun _ => ?_)
      clear hK KK
      try simp only [pU]
      refine tH 12 76 (.tuple #[.agg OU.toArray, .bool true]) rfl rfl (by kernel_rfl) (HIB.out _ HQ11.out) (Or.inl ⟨by rfl, fun w' hS' => by obtain ⟨c1, c2, c3⟩ := hS'; go_simp⟩) ?_
      try simp only [pU]
      refine tH 13 89 (.agg OU.toArray) rfl rfl (by kernel_rfl) (HIB.out _ HQ11.out) (Or.inl ⟨by rfl, fun w' hS' => by obtain ⟨c1, c2, c3⟩ := hS'; go_simp⟩) ?_
      try simp only [pU]
      refine tH 14 90 (.bool true) rfl rfl (by kernel_rfl) (HIB.out _ HQ11.out) (Or.inl ⟨by rfl, fun w' hS' => by obtain ⟨c1, c2, c3⟩ := hS'; go_simp⟩) ?_
      try simp only [pU]
      refine wpAnyH_ready (rs := [16]) (by kernel_rfl) (by simp) ?_
      refine AllReadyH.cons rfl (fun KK hK => ?_) AllReadyH.nil
      refine step_store_bx rfl 29 (.tmp 18) (.tmp 89) rfl ZZ OU b109 rfl rfl HZ11.out.1 (by rw [HLO.out.1]; rfl) (by rw [HLO.out.1]; kernel_rfl) HLO.out.2 ?_
      intro u9 HB9 HG9
      have H9 : Hid (WdI M T (.slice va nl vc) (.slice (some ⟨b, 0, none⟩) n d) (.slice (some ⟨y, 0, none⟩) n dy) (.slice (some ⟨yi, 0, none⟩) 16 16) L U (blB fi) w u9 ∧ Bx u9 b16 29 HV) := ⟨HQ11.out.1.putNew HG9.out HZ11.out.2.2.1 HZ11.out.2.2.2.1 HZ11.out.2.2.2.2.1 HZ11.out.2.2.2.2.2, HQ11.out.2.keep (HG9.out.block b16 HQ11.out.2.lt (fun e => by injection e with e; exact absurd e (Nat.ne_of_lt HZ11.out.2.1)))⟩
      refine hK.out _ _ (HIB.out _ H9.out) (fun _ => ?_)
      clear hK KK
      try simp only [pU]
      refine wpAnyH_ready (rs := [17]) (by kernel_rfl) (by simp) ?_
      refine AllReadyH.cons rfl (fun KK hK => ?_) AllReadyH.nil
      rw [if_pos (by rfl)]
      go_simp
      refine hK.out _ _ (HIB.out _ H9.out) (fun _ => ?_)
      clear hK KK
      try simp only [pU]
      refine wpAnyH_done (by kernel_rfl) ?_ _
      refine NoPanic.normal ?_
      go_wp2_with fail
      go_meet
      exact ⟨b109, rfl, rfl, H9.out.1, H9.out.2, HB9.out⟩
    ·skip
     refine step_alloc29 rfl 18 rfl rfl ?_
     intro q12 b112 hu hbb
     have hb : Below q2.heap.size q2 q12 := by rw [hu.out]; exact (Below.refl _ _).alloc (Nat.le_refl _) _
     have HQ12 : Hid (WdI M T (.slice va nl vc) (.slice (some ⟨b, 0, none⟩) n d) (.slice (some ⟨y, 0, none⟩) n dy) (.slice (some ⟨yi, 0, none⟩) 16 16) L U (blB fi) w q12 ∧ Bx q12 b16 29 HV) := ⟨HQ2.out.1.below hb, HQ2.out.2.below hb⟩
     have HZ12 : Hid (Bx q12 b112 29 ZZ ∧ b16 < b112 ∧ M < b112 ∧ b < b112 ∧ y < b112 ∧ yi < b112) := by rw [hu.out, hbb.out]; exact ⟨Bx.new _ 29 ZZ, HQ2.out.2.lt, HQ2.out.1.box.lt, wdi_lt HQ2.out.1 HLB.out.1 HUL.out.1 HLB.out.2.2.1⟩
     have HY12 : Hid (View q12 (.slice yk2 (16 + 8 * t) dk2) kz) := HY2.out.below hb
     clear hu hbb hb
     refine hK.out _ _ (HIB.out _ HQ12.out) (fun _ => ?_)
     clear hK KK
     try simp only [pU]
     refine wpAnyH_ready (rs := [9]) (by kernel_rfl) (by simp) ?_
     refine AllReadyH.cons rfl (fun KK hK => ?_) AllReadyH.nil
     go_simp
     refine (H37b.out _ HQ12.out.1.vb HQ12.out.1.vi).mono ?_
     intro e q13 hh
     obtain ⟨rfl, hb⟩ := hh.out
     have HQ13 : Hid (WdI M T (.slice va nl vc) (.slice (some ⟨b, 0, none⟩) n d) (.slice (some ⟨y, 0, none⟩) n dy) (.slice (some ⟨yi, 0, none⟩) 16 16) L U (blB fi) w q13 ∧ Bx q13 b16 29 HV) := ⟨HQ12.out.1.below hb, HQ12.out.2.below hb⟩
     have HY13 : Hid (View q13 (.slice yk2 (16 + 8 * t) dk2) kz) := HY12.out.below hb
     have HZ13 : Hid (Bx q13 b112 29 ZZ ∧ b16 < b112 ∧ M < b112 ∧ b < b112 ∧ y < b112 ∧ yi < b112) := ⟨HZ12.out.1.below hb, HZ12.out.2⟩
     clear hh hb
     go_wp2_with fail
     refine hK.out _ _ (HIB.out _ HQ13.out) (fun _ => ?_)
     clear hK KK
     try simp only [pU]
     refine wpAnyH_ready (rs := [10]) (by kernel_rfl) (by simp) ?_
     refine AllReadyH.cons rfl (fun KK hK => ?_) AllReadyH.nil
     go_simp
     refine (H36b.out _).mono ?_
     intro e q14 hh
     obtain ⟨rfl, hb⟩ := hh.out
     have HQ14 : Hid (WdI M T (.slice va nl vc) (.slice (some ⟨b, 0, none⟩) n d) (.slice (some ⟨y, 0, none⟩) n dy) (.slice (some ⟨yi, 0, none⟩) 16 16) L U (blB fi) w q14 ∧ Bx q14 b16 29 HV) := ⟨HQ13.out.1.below hb, HQ13.out.2.below hb⟩
     have HY14 : Hid (View q14 (.slice yk2 (16 + 8 * t) dk2) kz) := HY13.out.below hb
     have HZ14 : Hid (Bx q14 b112 29 ZZ ∧ b16 < b112 ∧ M < b112 ∧ b < b112 ∧ y < b112 ∧ yi < b112) := ⟨HZ13.out.1.below hb, HZ13.out.2⟩
     clear hh hb
     go_wp2_with fail
     refine hK.out _ _ (HIB.out _ HQ14.out) (fun _ => ?_)
     clear hK KK
     try simp only [pU]
     refine wpAnyH_ready (rs := [11]) (by kernel_rfl) (by simp) ?_
     refine AllReadyH.cons rfl (fun KK hK => ?_) AllReadyH.nil
     go_simp
     refine (H34b.out _ yk2 dk2 HQ14.out.1.bel HY14.out).mono ?_
     intro e q15 hh
     obtain ⟨rfl, hb⟩ := hh.out
     have HQ15 : Hid (WdI M T (.slice va nl vc) (.slice (some ⟨b, 0, none⟩) n d) (.slice (some ⟨y, 0, none⟩) n dy) (.slice (some ⟨yi, 0, none⟩) 16 16) L U (blB fi) w q15 ∧ Bx q15 b16 29 HV) := ⟨HQ14.out.1.below hb, HQ14.out.2.below hb⟩
     have HY15 : Hid (View q15 (.slice yk2 (16 + 8 * t) dk2) kz) := HY14.out.below hb
     have HZ15 : Hid (Bx q15 b112 29 ZZ ∧ b16 < b112 ∧ M < b112 ∧ b < b112 ∧ y < b112 ∧ yi < b112) := ⟨HZ14.out.1.below hb, HZ14.out.2⟩
     clear hh hb
     go_wp2_with fail
     refine hK.out _ _ (HIB.out _ HQ15.out) (fun _ => ?_)
     clear hK KK
     try simp only [pU]
     refine tH 12 76 (.tuple #[.agg OU.toArray, .bool true]) rfl rfl (by kernel_rfl) (HIB.out _ HQ15.out) (Or.inl ⟨by rfl, fun w' hS' => by obtain ⟨c1, c2, c3⟩ := hS'; go_simp⟩) ?_
     try simp only [pU]
     refine tH 13 89 (.agg OU.toArray) rfl rfl (by kernel_rfl) (HIB.out _ HQ15.out) (Or.inl ⟨by rfl, fun w' hS' => by obtain ⟨c1, c2, c3⟩ := hS'; go_simp⟩) ?_
     try simp only [pU]
     refine tH 14 90 (.bool true) rfl rfl (by kernel_rfl) (HIB.out _ HQ15.out) (Or.inl ⟨by rfl, fun w' hS' => by obtain ⟨c1, c2, c3⟩ := hS'; go_simp⟩) ?_
     try simp only [pU]
     refine wpAnyH_ready (rs := [16]) (by kernel_rfl) (by simp) ?_
     refine AllReadyH.cons rfl (fun KK hK => ?_) AllReadyH.nil
     refine step_store_bx rfl 29 (.tmp 18) (.tmp 89) rfl ZZ OU b112 rfl rfl HZ15.out.1 (by rw [HLO.out.1]; rfl) (by rw [HLO.out.1]; kernel_rfl) HLO.out.2 ?_
     intro u9 HB9 HG9
     have H9 : Hid (WdI M T (.slice va nl vc) (.slice (some ⟨b, 0, none⟩) n d) (.slice (some ⟨y, 0, none⟩) n dy) (.slice (some ⟨yi, 0, none⟩) 16 16) L U (blB fi) w u9 ∧ Bx u9 b16 29 HV) := ⟨HQ15.out.1.putNew HG9.out HZ15.out.2.2.1 HZ15.out.2.2.2.1 HZ15.out.2.2.2.2.1 HZ15.out.2.2.2.2.2, HQ15.out.2.keep (HG9.out.block b16 HQ15.out.2.lt (fun e => by injection e with e; exact absurd e (Nat.ne_of_lt HZ15.out.2.1)))⟩
     refine hK.out _ _ (HIB.out _ H9.out) (fun _ => ?_)
     clear hK KK
     try simp only [pU]
     refine wpAnyH_ready (rs := [17]) (by kernel_rfl) (by simp) ?_
     refine AllReadyH.cons rfl (fun KK hK => ?_) AllReadyH.nil
     rw [if_pos (by rfl)]
     go_simp
     refine hK.out _ _ (HIB.out _ H9.out) (fun _ => ?_)
     clear hK KK
     try simp only [pU]
     refine wpAnyH_done (by kernel_rfl) ?_ _
     refine NoPanic.normal ?_
     go_wp2_with fail
     go_meet
     exact ⟨b112, rfl, rfl, H9.out.1, H9.out.2, HB9.out⟩
   ·skip
    refine step_alloc29 rfl 18 rfl rfl ?_
    intro q16 b116 hu hbb
    have hb : Below q1.heap.size q1 q16 := by rw [hu.out]; exact (Below.refl _ _).alloc (Nat.le_refl _) _
    have HQ16 : Hid (WdI M T (.slice va nl vc) (.slice (some ⟨b, 0, none⟩) n d) (.slice (some ⟨y, 0, none⟩) n dy) (.slice (some ⟨yi, 0, none⟩) 16 16) L U (blB fi) w q16 ∧ Bx q16 b16 29 HV) := ⟨HQ1.out.1.below hb, HQ1.out.2.below hb⟩
    have HZ16 : Hid (Bx q16 b116 29 ZZ ∧ b16 < b116 ∧ M < b116 ∧ b < b116 ∧ y < b116 ∧ yi < b116) := by rw [hu.out, hbb.out]; exact ⟨Bx.new _ 29 ZZ, HQ1.out.2.lt, HQ1.out.1.box.lt, wdi_lt HQ1.out.1 HLB.out.1 HUL.out.1 HLB.out.2.2.1⟩
    have HY16 : Hid (View q16 (.slice yk2 (16 + 8 * t) dk2) kz) := HY1.out.below hb
    clear hu hbb hb
    refine hK.out _ _ (HIB.out _ HQ16.out) (fun _ => ?_)
    clear hK KK
    try simp only [pU]
    refine wpAnyH_ready (rs := [4]) (by kernel_rfl) (by simp) ?_
    refine AllReadyH.cons rfl (fun KK hK => ?_) AllReadyH.nil
    go_simp
    refine (H12b.out _ HQ16.out.1.vb).mono ?_
    intro e q17 hh
    obtain ⟨rfl, hb⟩ := hh.out
    have HQ17 : Hid (WdI M T (.slice va nl vc) (.slice (some ⟨b, 0, none⟩) n d) (.slice (some ⟨y, 0, none⟩) n dy) (.slice (some ⟨yi, 0, none⟩) 16 16) L U (blB fi) w q17 ∧ Bx q17 b16 29 HV) := ⟨HQ16.out.1.below hb, HQ16.out.2.below hb⟩
    have HY17 : Hid (View q17 (.slice yk2 (16 + 8 * t) dk2) kz) := HY16.out.below hb
    have HZ17 : Hid (Bx q17 b116 29 ZZ ∧ b16 < b116 ∧ M < b116 ∧ b < b116 ∧ y < b116 ∧ yi < b116) := ⟨HZ16.out.1.below hb, HZ16.out.2⟩
    clear hh hb
    go_wp2_with fail
    refine hK.out _ _ (HIB.out _ HQ17.out) (fun _ => ?_)
    clear hK KK
    try simp only [pU]
    refine wpAnyH_ready (rs := [9]) (by kernel_rfl) (by simp) ?_
    refine AllReadyH.cons rfl (fun KK hK => ?_) AllReadyH.nil
    go_simp
    refine (H37b.out _ HQ17.out.1.vb HQ17.out.1.vi).mono ?_
    intro e q18 hh
    obtain ⟨rfl, hb⟩ := hh.out
    have HQ18 : Hid (WdI M T (.slice va nl vc) (.slice (some ⟨b, 0, none⟩) n d) (.slice (some ⟨y, 0, none⟩) n dy) (.slice (some ⟨yi, 0, none⟩) 16 16) L U (blB fi) w q18 ∧ Bx q18 b16 29 HV) := ⟨HQ17.out.1.below hb, HQ17.out.2.below hb⟩
    have HY18 : Hid (View q18 (.slice yk2 (16 + 8 * t) dk2) kz) := HY17.out.below hb
    have HZ18 : Hid (Bx q18 b116 29 ZZ ∧ b16 < b116 ∧ M < b116 ∧ b < b116 ∧ y < b116 ∧ yi < b116) := ⟨HZ17.out.1.below hb, HZ17.out.2⟩
    clear hh hb
    go_wp2_with fail
    refine hK.out _ _ (HIB.out _ HQ18.out) (fun _ => ?_)
    clear hK KK
    try simp only [pU]
    refine wpAnyH_ready (rs := [10]) (by kernel_rfl) (by simp) ?_
    refine AllReadyH.cons rfl (fun KK hK => ?_) AllReadyH.nil
    go_simp
    refine (H36b.out _).mono ?_
    intro e q19 hh
    obtain ⟨rfl, hb⟩ := hh.out
    have HQ19 : Hid (WdI M T (.slice va nl vc) (.slice (some ⟨b, 0, none⟩) n d) (.slice (some ⟨y, 0, none⟩) n dy) (.slice (some ⟨yi, 0, none⟩) 16 16) L U (blB fi) w q19 ∧ Bx q19 b16 29 HV) := ⟨HQ18.out.1.below hb, HQ18.out.2.below hb⟩
    have HY19 : Hid (View q19 (.slice yk2 (16 + 8 * t) dk2) kz) := HY18.out.below hb
    have HZ19 : Hid (Bx q19 b116 29 ZZ ∧ b16 < b116 ∧ M < b116 ∧ b < b116 ∧ y < b116 ∧ yi < b116) := ⟨HZ18.out.1.below hb, HZ18.out.2⟩
    clear hh hb
    go_wp2_with fail
    refine hK.out _ _ (HIB.out _ HQ19.out) (fun _ => ?_)
    clear hK KK
    try simp only [pU]
    refine wpAnyH_ready (rs := [11]) (by kernel_rfl) (by simp) ?_
    refine AllReadyH.cons rfl (fun KK hK => ?_) AllReadyH.nil
    go_simp
    refine (H34b.out _ yk2 dk2 HQ19.out.1.bel HY19.out).mono ?_
    intro e q20 hh
    obtain ⟨rfl, hb⟩ := hh.out
    have HQ20 : Hid (WdI M T (.slice va nl vc) (.slice (some ⟨b, 0, none⟩) n d) (.slice (some ⟨y, 0, none⟩) n dy) (.slice (some ⟨yi, 0, none⟩) 16 16) L U (blB fi) w q20 ∧ Bx q20 b16 29 HV) := ⟨HQ19.out.1.below hb, HQ19.out.2.below hb⟩
    have HY20 : Hid (View q20 (.slice yk2 (16 + 8 * t) dk2) kz) := HY19.out.below hb
    have HZ20 : Hid (Bx q20 b116 29 ZZ ∧ b16 < b116 ∧ M < b116 ∧ b < b116 ∧ y < b116 ∧ yi < b116) := ⟨HZ19.out.1.below hb, HZ19.out.2⟩
    clear hh hb
    go_wp2_with fail
    refine hK.out _ _ (HIB.out _ HQ20.out) (fun _ => ?_)
    clear hK KK
    try simp only [pU]
    refine tH 12 76 (.tuple #[.agg OU.toArray, .bool true]) rfl rfl (by kernel_rfl) (HIB.out _ HQ20.out) (Or.inl ⟨by rfl, fun w' hS' => by obtain ⟨c1, c2, c3⟩ := hS'; go_simp⟩) ?_
    try simp only [pU]
    refine tH 13 89 (.agg OU.toArray) rfl rfl (by kernel_rfl) (HIB.out _ HQ20.out) (Or.inl ⟨by rfl, fun w' hS' => by obtain ⟨c1, c2, c3⟩ := hS'; go_simp⟩) ?_
    try simp only [pU]
    refine tH 14 90 (.bool true) rfl rfl (by kernel_rfl) (HIB.out _ HQ20.out) (Or.inl ⟨by rfl, fun w' hS' => by obtain ⟨c1, c2, c3⟩ := hS'; go_simp⟩) ?_
    try simp only [pU]
    refine wpAnyH_ready (rs := [16]) (by kernel_rfl) (by simp) ?_
    refine AllReadyH.cons rfl (fun KK hK => ?_) AllReadyH.nil
    refine step_store_bx rfl 29 (.tmp 18) (.tmp 89) rfl ZZ OU b116 rfl rfl HZ20.out.1 (by rw [HLO.out.1]; rfl) (by rw [HLO.out.1]; kernel_rfl) HLO.out.2 ?_
    intro u9 HB9 HG9
    have H9 : Hid (WdI M T (.slice va nl vc) (.slice (some ⟨b, 0, none⟩) n d) (.slice (some ⟨y, 0, none⟩) n dy) (.slice (some ⟨yi, 0, none⟩) 16 16) L U (blB fi) w u9 ∧ Bx u9 b16 29 HV) := ⟨HQ20.out.1.putNew HG9.out HZ20.out.2.2.1 HZ20.out.2.2.2.1 HZ20.out.2.2.2.2.1 HZ20.out.2.2.2.2.2, HQ20.out.2.keep (HG9.out.block b16 HQ20.out.2.lt (fun e => by injection e with e; exact absurd e (Nat.ne_of_lt HZ20.out.2.1)))⟩
    refine hK.out _ _ (HIB.out _ H9.out) (fun _ => ?_)
    clear hK KK
    try simp only [pU]
    refine wpAnyH_ready (rs := [17]) (by kernel_rfl) (by simp) ?_
    refine AllReadyH.cons rfl (fun KK hK => ?_) AllReadyH.nil
    rw [if_pos (by rfl)]
    go_simp
    refine hK.out _ _ (HIB.out _ H9.out) (fun _ => ?_)
    clear hK KK
    try simp only [pU]
    refine wpAnyH_done (by kernel_rfl) ?_ _
    refine NoPanic.normal ?_
    go_wp2_with fail
    go_meet
    exact ⟨b116, rfl, rfl, H9.out.1, H9.out.2, HB9.out⟩
  ·skip
   refine step_alloc29 rfl 18 rfl rfl ?_
   intro q21 b121 hu hbb
   have hb : Below wA.drew.heap.size wA.drew q21 := by rw [hu.out]; exact (Below.refl _ _).alloc (Nat.le_refl _) _
   have HQ21 : Hid (WdI M T (.slice va nl vc) (.slice (some ⟨b, 0, none⟩) n d) (.slice (some ⟨y, 0, none⟩) n dy) (.slice (some ⟨yi, 0, none⟩) 16 16) L U (blB fi) w q21 ∧ Bx q21 b16 29 HV) := ⟨HS0.out.1.below hb, HS0.out.2.below hb⟩
   have HZ21 : Hid (Bx q21 b121 29 ZZ ∧ b16 < b121 ∧ M < b121 ∧ b < b121 ∧ y < b121 ∧ yi < b121) := by rw [hu.out, hbb.out]; exact ⟨Bx.new _ 29 ZZ, HS0.out.2.lt, HS0.out.1.box.lt, wdi_lt HS0.out.1 HLB.out.1 HUL.out.1 HLB.out.2.2.1⟩
   clear hu hbb hb
   refine hK.out _ _ (HIB.out _ HQ21.out) (fun _ => ?_)
   clear hK KK
   try simp only [pU]
   refine wpAnyH_ready (rs := [1]) (by kernel_rfl) (by simp) ?_
   refine AllReadyH.cons rfl (fun KK hK => ?_) AllReadyH.nil
   go_simp
   refine (H35.out _ HQ21.out.1.bel).mono ?_
   intro e q22 hh
   obtain ⟨yk2, dk2, rfl, hvk, hb⟩ := hh.out
   have HQ22 : Hid (WdI M T (.slice va nl vc) (.slice (some ⟨b, 0, none⟩) n d) (.slice (some ⟨y, 0, none⟩) n dy) (.slice (some ⟨yi, 0, none⟩) 16 16) L U (blB fi) w q22 ∧ Bx q22 b16 29 HV) := ⟨HQ21.out.1.below hb, HQ21.out.2.below hb⟩
   have HY22 : Hid (View q22 (.slice yk2 (16 + 8 * t) dk2) kz) := hvk
   clear hvk
   have HZ22 : Hid (Bx q22 b121 29 ZZ ∧ b16 < b121 ∧ M < b121 ∧ b < b121 ∧ y < b121 ∧ yi < b121) := ⟨HZ21.out.1.below hb, HZ21.out.2⟩
   clear hh hb
   go_wp2_with fail
   refine hK.out _ _ (HIB.out _ HQ22.out) (fun _ => ?_)
   clear hK KK
   try simp only [pU]
   refine wpAnyH_ready (rs := [4]) (by kernel_rfl) (by simp) ?_
   refine AllReadyH.cons rfl (fun KK hK => ?_) AllReadyH.nil
   go_simp
   refine (H12b.out _ HQ22.out.1.vb).mono ?_
   intro e q23 hh
   obtain ⟨rfl, hb⟩ := hh.out
   have HQ23 : Hid (WdI M T (.slice va nl vc) (.slice (some ⟨b, 0, none⟩) n d) (.slice (some ⟨y, 0, none⟩) n dy) (.slice (some ⟨yi, 0, none⟩) 16 16) L U (blB fi) w q23 ∧ Bx q23 b16 29 HV) := ⟨HQ22.out.1.below hb, HQ22.out.2.below hb⟩
   have HY23 : Hid (View q23 (.slice yk2 (16 + 8 * t) dk2) kz) := HY22.out.below hb
   have HZ23 : Hid (Bx q23 b121 29 ZZ ∧ b16 < b121 ∧ M < b121 ∧ b < b121 ∧ y < b121 ∧ yi < b121) := ⟨HZ22.out.1.below hb, HZ22.out.2⟩
   clear hh hb
   go_wp2_with fail
   refine hK.out _ _ (HIB.out _ HQ23.out) (fun _ => ?_)
   clear hK KK
   try simp only [pU]
   refine wpAnyH_ready (rs := [9]) (by kernel_rfl) (by simp) ?_
   refine AllReadyH.cons rfl (fun KK hK => ?_) AllReadyH.nil
   go_simp
   refine (H37b.out _ HQ23.out.1.vb HQ23.out.1.vi).mono ?_
   intro e q24 hh
   obtain ⟨rfl, hb⟩ := hh.out
   have HQ24 : Hid (WdI M T (.slice va nl vc) (.slice (some ⟨b, 0, none⟩) n d) (.slice (some ⟨y, 0, none⟩) n dy) (.slice (some ⟨yi, 0, none⟩) 16 16) L U (blB fi) w q24 ∧ Bx q24 b16 29 HV) := ⟨HQ23.out.1.below hb, HQ23.out.2.below hb⟩
   have HY24 : Hid (View q24 (.slice yk2 (16 + 8 * t) dk2) kz) := HY23.out.below hb
   have HZ24 : Hid (Bx q24 b121 29 ZZ ∧ b16 < b121 ∧ M < b121 ∧ b < b121 ∧ y < b121 ∧ yi < b121) := ⟨HZ23.out.1.below hb, HZ23.out.2⟩
   clear hh hb
   go_wp2_with fail
   refine hK.out _ _ (HIB.out _ HQ24.out) (fun _ => ?_)
   clear hK KK
   try simp only [pU]
   refine wpAnyH_ready (rs := [10]) (by kernel_rfl) (by simp) ?_
   refine AllReadyH.cons rfl (fun KK hK => ?_) AllReadyH.nil
   go_simp
   refine (H36b.out _).mono ?_
   intro e q25 hh
   obtain ⟨rfl, hb⟩ := hh.out
   have HQ25 : Hid (WdI M T (.slice va nl vc) (.slice (some ⟨b, 0, none⟩) n d) (.slice (some ⟨y, 0, none⟩) n dy) (.slice (some ⟨yi, 0, none⟩) 16 16) L U (blB fi) w q25 ∧ Bx q25 b16 29 HV) := ⟨HQ24.out.1.below hb, HQ24.out.2.below hb⟩
   have HY25 : Hid (View q25 (.slice yk2 (16 + 8 * t) dk2) kz) := HY24.out.below hb
   have HZ25 : Hid (Bx q25 b121 29 ZZ ∧ b16 < b121 ∧ M < b121 ∧ b < b121 ∧ y < b121 ∧ yi < b121) := ⟨HZ24.out.1.below hb, HZ24.out.2⟩
   clear hh hb
   go_wp2_with fail
   refine hK.out _ _ (HIB.out _ HQ25.out) (fun _ => ?_)
   clear hK KK
   try simp only [pU]
   refine wpAnyH_ready (rs := [11]) (by kernel_rfl) (by simp) ?_
   refine AllReadyH.cons rfl (fun KK hK => ?_) AllReadyH.nil
   go_simp
   refine (H34b.out _ yk2 dk2 HQ25.out.1.bel HY25.out).mono ?_
   intro e q26 hh
   obtain ⟨rfl, hb⟩ := hh.out
   have HQ26 : Hid (WdI M T (.slice va nl vc) (.slice (some ⟨b, 0, none⟩) n d) (.slice (some ⟨y, 0, none⟩) n dy) (.slice (some ⟨yi, 0, none⟩) 16 16) L U (blB fi) w q26 ∧ Bx q26 b16 29 HV) := ⟨HQ25.out.1.below hb, HQ25.out.2.below hb⟩
   have HY26 : Hid (View q26 (.slice yk2 (16 + 8 * t) dk2) kz) := HY25.out.below hb
   have HZ26 : Hid (Bx q26 b121 29 ZZ ∧ b16 < b121 ∧ M < b121 ∧ b < b121 ∧ y < b121 ∧ yi < b121) := ⟨HZ25.out.1.below hb, HZ25.out.2⟩
   clear hh hb
   go_wp2_with fail
   refine hK.out _ _ (HIB.out _ HQ26.out) (fun _ => ?_)
   clear hK KK
   try simp only [pU]
   refine tH 12 76 (.tuple #[.agg OU.toArray, .bool true]) rfl rfl (by kernel_rfl) (HIB.out _ HQ26.out) (Or.inl ⟨by rfl, fun w' hS' => by obtain ⟨c1, c2, c3⟩ := hS'; go_simp⟩) ?_
   try simp only [pU]
   refine tH 13 89 (.agg OU.toArray) rfl rfl (by kernel_rfl) (HIB.out _ HQ26.out) (Or.inl ⟨by rfl, fun w' hS' => by obtain ⟨c1, c2, c3⟩ := hS'; go_simp⟩) ?_
   try simp only [pU]
   refine tH 14 90 (.bool true) rfl rfl (by kernel_rfl) (HIB.out _ HQ26.out) (Or.inl ⟨by rfl, fun w' hS' => by obtain ⟨c1, c2, c3⟩ := hS'; go_simp⟩) ?_
   try simp only [pU]
   refine wpAnyH_ready (rs := [16]) (by kernel_rfl) (by simp) ?_
   refine AllReadyH.cons rfl (fun KK hK => ?_) AllReadyH.nil
   refine step_store_bx rfl 29 (.tmp 18) (.tmp 89) rfl ZZ OU b121 rfl rfl HZ26.out.1 (by rw [HLO.out.1]; rfl) (by rw [HLO.out.1]; kernel_rfl) HLO.out.2 ?_
   intro u9 HB9 HG9
   have H9 : Hid (WdI M T (.slice va nl vc) (.slice (some ⟨b, 0, none⟩) n d) (.slice (some ⟨y, 0, none⟩) n dy) (.slice (some ⟨yi, 0, none⟩) 16 16) L U (blB fi) w u9 ∧ Bx u9 b16 29 HV) := ⟨HQ26.out.1.putNew HG9.out HZ26.out.2.2.1 HZ26.out.2.2.2.1 HZ26.out.2.2.2.2.1 HZ26.out.2.2.2.2.2, HQ26.out.2.keep (HG9.out.block b16 HQ26.out.2.lt (fun e => by injection e with e; exact absurd e (Nat.ne_of_lt HZ26.out.2.1)))⟩
   refine hK.out _ _ (HIB.out _ H9.out) (fun _ => ?_)
   clear hK KK
   try simp only [pU]
   refine wpAnyH_ready (rs := [17]) (by kernel_rfl) (by simp) ?_
   refine AllReadyH.cons rfl (fun KK hK => ?_) AllReadyH.nil
   rw [if_pos (by rfl)]
   go_simp
   refine hK.out _ _ (HIB.out _ H9.out) (fun _ => ?_)
   clear hK KK
   try simp only [pU]
   refine wpAnyH_done (by kernel_rfl) ?_ _
   refine NoPanic.normal ?_
   go_wp2_with fail
   go_meet
   exact ⟨b121, rfl, rfl, H9.out.1, H9.out.2, HB9.out⟩
 case rest =>
  obtain ⟨b18, rfl, rfl, HR⟩ := hcut
  go_upto_region 12 with fail
  have HIB : Hid (∀ u, (WdI M T (.slice va nl vc) (.slice (some ⟨b, 0, none⟩) n d) (.slice (some ⟨y, 0, none⟩) n dy) (.slice (some ⟨yi, 0, none⟩) 16 16) L U (blB fi) w u ∧ Bx u b16 29 HV) ∧ Bx u b18 29 OU → u.rangeAt b16 0 HV ∧ u.rangeAt b18 0 OU) := fun u hu => ⟨hu.1.2.range, hu.2.range⟩
  have HS0 : Hid ((WdI M T (.slice va nl vc) (.slice (some ⟨b, 0, none⟩) n d) (.slice (some ⟨y, 0, none⟩) n dy) (.slice (some ⟨yi, 0, none⟩) 16 16) L U (blB fi) w wc.drew ∧ Bx wc.drew b16 29 HV) ∧ Bx wc.drew b18 29 OU) := ⟨⟨HR.out.1.below (Below.refl _ _).drew, HR.out.2.1.below (Below.refl _ _).drew⟩, HR.out.2.2.below (Below.refl _ _).drew⟩
  have hS0 := HIB.out _ HS0.out
  refine wp_region_noPanic ?_
  refine wp_region_held_drew (S := (fun u => u.rangeAt b16 0 HV ∧ u.rangeAt b18 0 OU)) (by kernel_rfl) (hS0) (fun _ => ?_)
  refine tH 0 91 (.bool true) rfl rfl (by kernel_rfl) (hS0) (Or.inl ⟨by rfl, fun w' hS' => by obtain ⟨c1, c2⟩ := hS'; go_simp⟩) ?_
  try simp only [pU]
  refine tH 1 92 (.bool true) rfl rfl (by kernel_rfl) (hS0) (Or.inl ⟨by rfl, fun w' hS' => by obtain ⟨c1, c2⟩ := hS'; go_simp⟩) ?_
  try simp only [pU]
  refine tH 2 93 (.bool true) rfl rfl (by kernel_rfl) (hS0) (Or.inl ⟨by rfl, fun w' hS' => by obtain ⟨c1, c2⟩ := hS'; go_simp⟩) ?_
  try simp only [pU]
  refine tH 3 94 (.bool true) rfl rfl (by kernel_rfl) (hS0) (Or.inl ⟨by rfl, fun w' hS' => by obtain ⟨c1, c2⟩ := hS'; go_simp⟩) ?_
  try simp only [pU]
  refine tH 4 95 (.bool true) rfl rfl (by kernel_rfl) (hS0) (Or.inl ⟨by rfl, fun w' hS' => by obtain ⟨c1, c2⟩ := hS'; go_simp⟩) ?_
  try simp only [pU]
  refine tH 5 96 (.agg OU.toArray) rfl rfl (by kernel_rfl) (hS0) (yieldsIf_load_mid (by rfl) 29 (.tmp 18) rfl b18 0 rfl OU _ (fun u hu => hu.2) Tryz.underlying29 rfl hiO) ?_
  try simp only [pU]
  refine tH 6 97 (.slice (some ⟨y, 0, none⟩) n dy) rfl rfl (by kernel_rfl) (hS0) (Or.inl ⟨by rfl, fun w' hS' => by obtain ⟨c1, c2⟩ := hS'; go_simp⟩) ?_
  try simp only [pU]
  refine tH 7 98 (.slice (some ⟨y, 0, none⟩) 16 dy) rfl rfl (by kernel_rfl) (hS0) (Or.inl ⟨by rfl, fun w' hS' => by obtain ⟨c1, c2⟩ := hS'; go_simp⟩) ?_
  try simp only [pU]
  refine tH 9 100 (.agg HV.toArray) rfl rfl (by kernel_rfl) (hS0) (yieldsIf_load_mid (by rfl) 29 (.tmp 16) rfl b16 0 rfl HV _ (fun u hu => hu.1) Tryz.underlying29 rfl hiV) ?_
  try simp only [pU]
  refine tH 10 101 (.slice (some ⟨yi, 0, none⟩) 16 16) rfl rfl (by kernel_rfl) (hS0) (Or.inl ⟨by rfl, fun w' hS' => by obtain ⟨c1, c2⟩ := hS'; go_simp⟩) ?_
  try simp only [pU]
  refine tH 11 102 (.slice (some ⟨y, 0, none⟩) n dy) rfl rfl (by kernel_rfl) (hS0) (Or.inl ⟨by rfl, fun w' hS' => by obtain ⟨c1, c2⟩ := hS'; go_simp⟩) ?_
  try simp only [pU]
  refine tH 12 103 (.slice (some ⟨y, uo, none⟩) (n - 16) uc) rfl rfl (by kernel_rfl) (hS0) (Or.inl ⟨by rfl, fun w' hS' => by obtain ⟨c1, c2⟩ := hS'; go_simp⟩) ?_
  try simp only [pU]
  refine wpAnyH_ready (rs := [8]) (by kernel_rfl) (by simp) ?_
  refine AllReadyH.cons rfl (fun KK hK => ?_) AllReadyH.nil
  go_simp
  refine (H12u.out _ HS0.out.1.1.vu).mono ?_
  intro e q27 hh
  obtain ⟨rfl, hb⟩ := hh.out
  have HQ27 : Hid ((WdI M T (.slice va nl vc) (.slice (some ⟨b, 0, none⟩) n d) (.slice (some ⟨y, 0, none⟩) n dy) (.slice (some ⟨yi, 0, none⟩) 16 16) L U (blB fi) w q27 ∧ Bx q27 b16 29 HV) ∧ Bx q27 b18 29 OU) := ⟨⟨HS0.out.1.1.below hb, HS0.out.1.2.below hb⟩, HS0.out.2.below hb⟩
  clear hh hb
  go_wp2_with fail
  refine hK.out _ _ (HIB.out _ HQ27.out) (fun _ => ?_)
  clear hK KK
  try simp only [pU]
  refine wpAnyH_ready (rs := [13]) (by kernel_rfl) (by simp) ?_
  refine AllReadyH.cons rfl (fun KK hK => ?_) AllReadyH.nil
  go_simp
  refine (H37u.out _ HQ27.out.1.1.vu HQ27.out.1.1.vi).mono ?_
  intro e q28 hh
  obtain ⟨rfl, hb⟩ := hh.out
  have HQ28 : Hid ((WdI M T (.slice va nl vc) (.slice (some ⟨b, 0, none⟩) n d) (.slice (some ⟨y, 0, none⟩) n dy) (.slice (some ⟨yi, 0, none⟩) 16 16) L U (blB fi) w q28 ∧ Bx q28 b16 29 HV) ∧ Bx q28 b18 29 OU) := ⟨⟨HQ27.out.1.1.below hb, HQ27.out.1.2.below hb⟩, HQ27.out.2.below hb⟩
  clear hh hb
  go_wp2_with fail
  refine hK.out _ _ (HIB.out _ HQ28.out) (fun _ => ?_)
  clear hK KK
  try simp only [pU]
  refine wpAnyH_ready (rs := [14]) (by kernel_rfl) (by simp) ?_
  refine AllReadyH.cons rfl (fun KK hK => ?_) AllReadyH.nil
  go_simp
  refine (H36u.out _).mono ?_
  intro e q29 hh
  obtain ⟨rfl, hb⟩ := hh.out
  have HQ29 : Hid ((WdI M T (.slice va nl vc) (.slice (some ⟨b, 0, none⟩) n d) (.slice (some ⟨y, 0, none⟩) n dy) (.slice (some ⟨yi, 0, none⟩) 16 16) L U (blB fi) w q29 ∧ Bx q29 b16 29 HV) ∧ Bx q29 b18 29 OU) := ⟨⟨HQ28.out.1.1.below hb, HQ28.out.1.2.below hb⟩, HQ28.out.2.below hb⟩
  clear hh hb
  go_wp2_with fail
  refine hK.out _ _ (HIB.out _ HQ29.out) (fun _ => ?_)
  clear hK KK
  try simp only [pU]
  refine tH 15 106 (.bool true) rfl rfl (by kernel_rfl) (HIB.out _ HQ29.out) (Or.inl ⟨by rfl, fun w' hS' => by obtain ⟨c1, c2⟩ := hS'; go_simp⟩) ?_
  try simp only [pU]
  refine tH 16 107 (.bool true) rfl rfl (by kernel_rfl) (HIB.out _ HQ29.out) (Or.inl ⟨by rfl, fun w' hS' => by obtain ⟨c1, c2⟩ := hS'; go_simp⟩) ?_
  try simp only [pU]
  refine wpAnyH_ready (rs := [17]) (by kernel_rfl) (by simp) ?_
  refine AllReadyH.cons rfl (fun KK hK => ?_) AllReadyH.nil
  rw [if_pos (by rfl)]
  go_simp
  refine hK.out _ _ (HIB.out _ HQ29.out) (fun _ => ?_)
  clear hK KK
  try simp only [pU]
  refine wpAnyH_done (by kernel_rfl) ?_ _
  refine NoPanic.normal ?_
  go_wp2
  go_ret
  exact ⟨rfl, by rw [HMM.out]; exact HQ29.out.1.1.bel⟩
end Go.Proofs.YtcnikfikpnnblaaGreatDoor
