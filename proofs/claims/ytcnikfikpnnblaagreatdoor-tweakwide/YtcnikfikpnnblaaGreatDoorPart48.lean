import Derived.Test.YtcnikfikpnnblaaGreatDoorPart00
import Derived.Test.YtcnikfikpnnblaaGreatDoorHcf
import Derived.Test.YtcnikfikpnnblaaGreatDoorPart40
namespace Go.Proofs.YtcnikfikpnnblaaGreatDoor
open Go.RowKit
set_option linter.unusedVariables false
set_option linter.unusedSimpArgs false
set_option maxHeartbeats 3200000 in
set_option maxRecDepth 100000 in
/-- The law's aes. -/
theorem aes_ok (v : Value) (ks : List Int) (nk : Nat) (x : BitVec 128) (w : World) (hnk : nk = 4 ∨ nk = 6 ∨ nk = 8) (hl : ks.length = 4 * nk) (hv : View w v ks) (hb : AllBytes ks) (hrc : RC w) (hpos : 3 < w.heap.size) :
  Calls Tryz.prog 34 #[v, Fd.BV x] w fun e w' => Hid (e = .returned (.tuple #[Fd.BV (encV (nk + 6) (schedK nk (nat8 ks)) x), .bool true]) ∧ Below w.heap.size w w') := by
 obtain ⟨nr, HNR⟩ : ∃ nr, Hid (nk + 6 = nr) := ⟨_, rfl⟩
 obtain ⟨K, HK⟩ : ∃ K, Hid (schedK nk (nat8 ks) = K) := ⟨_, rfl⟩
 obtain ⟨L, HL⟩ : ∃ L, Hid (L = Fd.BL x) := ⟨_, rfl⟩
 obtain ⟨E, HE⟩ : ∃ L, Hid (L = Fd.BL (encV nr K x)) := ⟨_, rfl⟩
 have HNW : Hid (∀ u, Below w.heap.size w u → Calls Tryz.prog 54 #[v] u fun e w' => Hid (∃ g, e = .returned (.tuple #[.pointer (some ⟨g, 0, none⟩), .int .i64 0]) ∧ u.heap.size ≤ g ∧ KeyAt w' g nr K ∧ Below u.heap.size u w')) := fun u hu => by
  refine (new_view v ks nk u hnk hl (hv.below hu) hb (hrc.belowB hu hpos) (Nat.lt_of_lt_of_le hpos hu.size)).mono fun e w' hh => ?_
  obtain ⟨g, e1, e2, e3, e4, _⟩ := hh.out
  rw [HNR.out, HK.out] at e3
  exact ⟨g, e1, e2, e3, e4⟩
 have HEN : Hid (∀ u g, KeyAt u g nr K → Calls Tryz.prog 55 #[.pointer (some ⟨g, 0, none⟩), .agg L.toArray] u fun e w' => Hid (e = .returned (.tuple #[.agg E.toArray, .int .i64 0]) ∧ KeyAt w' g nr K ∧ u.grownBy w' (some g))) := fun u g hu => by
  rw [HL.out, HE.out]; exact kencV g nr K x u hu
 have H17 : Hid (∀ u, Calls Tryz.prog 17 #[.int .i64 0] u fun e w' => e = .returned (.int .i64 0) ∧ w' = u) := fun u => num_ok 0 u
 have HLN : Hid (E.length = 16 ∧ (∀ x ∈ E, x.oneCell' = true) ∧ L.length = 16) := by rw [HE.out, HL.out]; exact ⟨Fd.BL_length _, BL_one8 _, Fd.BL_length _⟩
 rw [HNR.out, HK.out]
 show Calls Tryz.prog 34 #[_, .agg (Fd.BL x).toArray] w fun e w' => Hid (e = .returned (.tuple #[.agg (Fd.BL (encV nr K x)).toArray, .bool true]) ∧ _)
 rw [← HL.out, ← HE.out]
 obtain ⟨w1, hw1⟩ : ∃ w1, w1 = (w.alloc (.cells L.toArray 29)).alloc (.cells ZZ.toArray 29) := ⟨_, rfl⟩
 have HB1 : Hid (Bx w1 w.heap.size 29 L ∧ Bx w1 (w.heap.size + 1) 29 ZZ ∧ Below w.heap.size w w1) := by
  have hb : Below w.heap.size w w1 := by rw [hw1]; exact ((Below.refl _ _).alloc (Nat.le_refl _) _).alloc (by simp) _
  refine ⟨?_, ?_, hb⟩
  ·rw [hw1]; exact (Bx.new w 29 L).below ((Below.refl _ _).alloc (Nat.le_refl _) _)
  ·rw [hw1]; have q := Bx.new (w.alloc (.cells L.toArray 29)) 29 ZZ; simpa using q
 clear hnk hl hv hb hrc hpos
 go_enter Tryz.func34, Tryz.ntmps34
 go_upto_region 1 with fail
 rw [show (w.alloc (.cells _ 29)).alloc (.cells _ 29) = w1 from hw1.symm]
 clear hw1
 obtain ⟨M, HMM⟩ : ∃ M, Hid (w.heap.size = M) := ⟨_, rfl⟩
 rw [HMM.out] at HB1 HNW ⊢
 have hiL : (Tryz.prog.info? 29).map (·.size) = some L.length := by rw [HLN.out.2.2]; kernel_rfl
 have hiE : (Tryz.prog.info? 29).map (·.size) = some E.length := by rw [HLN.out.1]; kernel_rfl
 go_upto_region 5 with (first
  | (go_at_call 54; refine (HNW.out _ HB1.out.2.2).mono ?_; intro e w2 hh; obtain ⟨g, rfl, hg0, hk, hb2⟩ := hh.out; have HB2 : Hid (KeyAt w2 g nr K ∧ Bx w2 M 29 L ∧ Bx w2 (M + 1) 29 ZZ ∧ Below M w w2 ∧ M + 1 < g) := ⟨hk, HB1.out.1.below hb2, HB1.out.2.1.below hb2, HB1.out.2.2.trans (hb2.mono (Nat.le_of_lt HB1.out.1.lt)), Nat.lt_of_lt_of_le HB1.out.2.1.lt hg0⟩; clear hh hg0 hk hb2)
  | (go_at_call 17; refine (H17.out _).mono ?_; rintro e w3 ⟨rfl, hw⟩; obtain rfl := hw.symm; clear hw)
  | (refine wpList_load_mid (by rfl) 29 (.tmp 3) (by rfl) M 0 (by rfl) L _ HB2.out.2.1.range Tryz.underlying29 rfl hiL ?_)
  | (go_at_call 55; refine (HEN.out _ g HB2.out.1).mono ?_; intro e w4 hh; obtain ⟨rfl, hk, hg⟩ := hh.out; have HB4 : Hid (Bx w4 (M + 1) 29 ZZ ∧ Below M w w4) := ⟨HB2.out.2.2.1.keep (hg.block (M + 1) HB2.out.2.2.1.lt (fun e => by injection e with e; exact absurd e (Nat.ne_of_lt HB2.out.2.2.2.2))), HB2.out.2.2.2.1.trans (below_gb hg (Nat.le_of_lt HB2.out.2.1.lt) (Nat.le_of_lt (Nat.lt_of_succ_lt HB2.out.2.2.2.2)))⟩; clear hh hk hg)
  | (refine wpList_store_bx (by rfl) 29 (.tmp 8) (.tmp 27) (by rfl) ZZ E w4.heap.size (by rfl) (by rfl) (Bx.new w4 29 ZZ) (by rw [HLN.out.1]; rfl) hiE HLN.out.2.1 ?_; intro w5 hb5 hg5; have HB5 : Hid (Bx w5 w4.heap.size 29 E ∧ Bx w5 (M + 1) 29 ZZ ∧ Below M w w5 ∧ M + 1 < w4.heap.size) := ⟨hb5, (HB4.out.1.below ((Below.refl _ _).alloc (Nat.le_refl _) _)).keep (hg5.block (M + 1) (ct_lt HB4.out.1.lt) (fun e => by injection e with e; exact absurd e (Nat.ne_of_lt HB4.out.1.lt))), HB4.out.2.trans (((Below.refl _ _).alloc (Nat.le_refl _) _).mono (Nat.le_of_lt (Nat.lt_of_succ_lt HB4.out.1.lt)) |>.trans (below_gb hg5 (Nat.le_of_lt (ct_lt (Nat.lt_of_succ_lt HB4.out.1.lt))) (Nat.le_of_lt (Nat.lt_of_succ_lt HB4.out.1.lt)))), HB4.out.1.lt⟩; clear hb5 hg5))
 obtain ⟨b8, HB8⟩ : ∃ b8, Hid (w4.heap.size = b8) := ⟨_, rfl⟩
 rw [HB8.out] at HB5 ⊢
 clear HB8
 try simp only [Act.put]
 have hS0 : w5.drew.rangeAt b8 0 E := by simpa using HB5.out.1.range
 refine wp_region_noPanic ?_
 refine wp_region_held_drew (S := (fun u => u.rangeAt b8 0 E)) (by kernel_rfl) (hS0) (fun _ => ?_)
 refine tH 0 29 (.agg E.toArray) rfl rfl (by kernel_rfl) (hS0) (yieldsIf_load_mid (by rfl) 29 (.tmp 8) rfl b8 0 rfl E _ (fun u hu => hu) Tryz.underlying29 rfl hiE) ?_
 try simp only [pU]
 refine tH 1 30 (.int .i64 0) rfl rfl (by kernel_rfl) (hS0) (Or.inl ⟨by rfl, fun w' hS' => by first | go_simp | (obtain ⟨c1, c2⟩ := hS'; go_simp) | (obtain ⟨c1, c2, c3⟩ := hS'; go_simp)⟩) ?_
 try simp only [pU]
 refine wpAnyH_ready (rs := [2]) (by kernel_rfl) (by simp) ?_
 refine AllReadyH.cons rfl (fun KK hK => ?_) AllReadyH.nil
 go_simp
 refine (H17.out _).mono ?_
 rintro e u2 ⟨rfl, hw⟩
 obtain rfl := hw.symm
 clear hw
 go_wp2_with fail
 refine hK.out _ _ (hS0) (fun _ => ?_)
 clear hK KK
 try simp only [pU]
 refine tH 3 32 (.bool true) rfl rfl (by kernel_rfl) (hS0) (Or.inl ⟨by rfl, fun w' hS' => by first | go_simp | (obtain ⟨c1, c2⟩ := hS'; go_simp) | (obtain ⟨c1, c2, c3⟩ := hS'; go_simp)⟩) ?_
 try simp only [pU]
 refine wpAnyH_ready (rs := [4]) (by kernel_rfl) (by simp) ?_
 refine AllReadyH.cons rfl (fun KK hK => ?_) AllReadyH.nil
 refine step_store_bx rfl 29 (.tmp 4) (.tmp 29) rfl ZZ E (M + 1) rfl rfl (HB5.out.2.1.below (Below.refl _ _).drew) (by rw [HLN.out.1]; rfl) hiE HLN.out.2.1 ?_
 intro u9 HB9 HG9
 refine hK.out _ _ ((Bx.keep (HB5.out.1.below (Below.refl _ _).drew) (HG9.out.block b8 (HB5.out.1.below (Below.refl _ _).drew).lt (fun e => by injection e with e; exact absurd e.symm (Nat.ne_of_lt HB5.out.2.2.2)))).range) (fun _ => ?_)
 clear hK KK
 try simp only [pU]
 refine wpAnyH_ready (rs := [5]) (by kernel_rfl) (by simp) ?_
 refine AllReadyH.cons rfl (fun KK hK => ?_) AllReadyH.nil
 rw [if_pos (by rfl)]
 go_simp
 refine hK.out _ _ ((Bx.keep (HB5.out.1.below (Below.refl _ _).drew) (HG9.out.block b8 (HB5.out.1.below (Below.refl _ _).drew).lt (fun e => by injection e with e; exact absurd e.symm (Nat.ne_of_lt HB5.out.2.2.2)))).range) (fun _ => ?_)
 clear hK KK
 try simp only [pU]
 refine wpAnyH_done (by kernel_rfl) ?_ _
 refine NoPanic.normal ?_
 skip
 go_wp2
 refine ret_agg_tmp (b := M + 1) E (.bool true) rfl rfl rfl HB9.out.range Tryz.underlying29 rfl hiE ⟨rfl, ?_⟩
 have hfin : Below M w u9 := HB5.out.2.2.1.trans (((Below.refl _ _).drew).mono (Nat.le_of_lt (Nat.lt_of_succ_lt HB5.out.2.1.lt)) |>.trans (below_gb HG9.out (Nat.le_of_lt (Nat.lt_of_succ_lt (HB5.out.2.1.below (Below.refl _ _).drew).lt)) (Nat.le_succ _)))
 first | exact hfin | (rw [HMM.out]; exact hfin)
end Go.Proofs.YtcnikfikpnnblaaGreatDoor
namespace Go.Proofs.YtcnikfikpnnblaaGreatDoor
open Go.RowKit
set_option linter.unusedVariables false
set_option linter.unusedSimpArgs false
theorem cutV_blB (v : BitVec 128) (r : List Int) : cutV (blB v ++ r) 0 = v := by
  have h : AllBytes (blB v) := fun i => by
    by_cases hi : i < 16
    · rw [blB_at v i hi]; have := Fd.byV_lt v i; omega
    · rw [List.getD_eq_getElem?_getD, List.getElem?_eq_none (by rw [blB_len]; omega)]; simp
  have e : cutV (blB v ++ r) 0 = BitVec.ofNat 128 (Fd.pk (fun i => Fd.byV v i) 16) := by
    unfold cutV
    rw [pk_congr _ (fun i => Fd.byV v i) 16 fun i hi => by
      unfold nat8
      rw [Nat.mul_zero, Nat.zero_add, List.getD_eq_getElem?_getD, List.getElem?_append_left (by rw [blB_len]; exact hi), ← List.getD_eq_getElem?_getD, blB_at v i hi]
      exact Int.toNat_natCast _]
  rw [e]
  exact Fd.ext_bytes fun i hi => Fd.byV_pk _ (fun _ => Fd.byV_lt _ _) i hi
theorem blB_bytes (v : BitVec 128) : AllBytes (blB v) := fun i => by
  by_cases hi : i < 16
  · rw [blB_at v i hi]; have := Fd.byV_lt v i; omega
  · rw [List.getD_eq_getElem?_getD, List.getElem?_eq_none (by rw [blB_len]; omega)]; simp
set_option maxHeartbeats 1600000 in
set_option maxRecDepth 100000 in
/-- Cipher.IV, where a sector's first block is told. -/
theorem iv_ok (c sh fn : Nat) (fi : BitVec 128) (s n st : Nat) (w : World) (h0 : w.cell? ⟨c, 0, none⟩ = some (.pointer (some ⟨sh, 0, none⟩))) (hf : w.cell? ⟨c, 1, none⟩ = some (.func (.func fn) #[] #[])) (h1 : w.cell? ⟨sh, 1, none⟩ = some (.int .i64 (st : Nat))) (h6 : w.cell? ⟨sh, 6, none⟩ = some (.bool false)) (hn : 16 ≤ n) (hm : n ≤ 4096) (hs : n % st = 0) (hst : 0 < st)
    (hE : ∀ args u, (callFunc fn args).run Tryz.prog u = .ok (.enter fn args) u) (HFN : Hid (∀ u, Calls Tryz.prog fn #[.int .u64 (s : Nat), .int .i64 (n : Nat)] u fun e w' => Hid (e = .returned (Fd.BV fi) ∧ Below u.heap.size u w'))) :
    Calls Tryz.prog 33 #[.pointer (some ⟨c, 0, none⟩), .int .u64 (s : Nat), .int .i64 (n : Nat)] w fun e w' => Hid (∃ y, e = .returned (.tuple #[.slice (some ⟨y, 0, none⟩) 16 16, .int .i64 0]) ∧ View w' (.slice (some ⟨y, 0, none⟩) 16 16) (blB fi) ∧ w.heap.size ≤ y ∧ Below w.heap.size w w') := by
  obtain ⟨FI, HFI⟩ : ∃ L, Hid (L = Fd.BL fi) := ⟨_, rfl⟩
  have HF1 : Hid (∀ u, Calls Tryz.prog fn #[.int .u64 (s : Nat), .int .i64 (n : Nat)] u fun e w' => Hid (e = .returned (.agg FI.toArray) ∧ Below u.heap.size u w')) := fun u => by rw [HFI.out]; exact HFN.out u
  have HM : Hid (Calls Tryz.prog 53 #[.pointer (some ⟨c, 0, none⟩), .int .i64 (n : Nat)] w fun e w' => e = .returned (.int .i64 0) ∧ w' = w) := may_ok c sh n st w h0 h1 h6 hn hm hs hst
  have HLN : Hid (FI.length = 16 ∧ (∀ x ∈ FI, x.oneCell' = true)) := by rw [HFI.out]; exact ⟨Fd.BL_length _, BL_one8 _⟩
  have hNil : ∀ w : World, (binOp BinOp.eql 93 (.func (.func fn) #[] #[]) .nilFunc).run Tryz.prog w = .ok (.bool false) w := fun w => by kernel_rfl
  clear h0 h1 h6 hn hm hs hst HFN
  go_enter Tryz.func33, Tryz.ntmps33
  go_wp2_with (first
    | (go_at_call 53; refine HM.out.mono ?_; rintro e1 w1 ⟨rfl, hw⟩; obtain rfl := hw.symm; clear hw HM)
    | (refine (HF1.out _).mono ?_; intro e w2 hh; obtain ⟨rfl, hb⟩ := hh.out; have HB2 : Hid (Below w.heap.size w w2) := hb; clear hh hb HF1)
    | (refine wpList_store_bx (by rfl) 29 (.tmp 9) (.tmp 27) (by rfl) ZZ FI w2.heap.size (by rfl) (by rfl) (Bx.new w2 29 ZZ) (by rw [HLN.out.1]; rfl) (by rw [HLN.out.1]; kernel_rfl) HLN.out.2 ?_; intro w3 hb3 hg3; have HB3 : Hid (Bx w3 w2.heap.size 29 FI ∧ Below w.heap.size w w3) := ⟨hb3, HB2.out.trans ((((Below.refl _ _).alloc (Nat.le_refl _) _).trans (below_gb hg3 (by simp) (Nat.le_refl _))).mono HB2.out.size)⟩; clear hb3 hg3))
  go_ret2
  refine ⟨w2.heap.size, rfl, ?_, HB2.out.size, HB3.out.2⟩
  refine ⟨some ⟨w2.heap.size, 0, none⟩, 16, by rw [blB_len], by rw [blB_len]; exact Nat.le_refl _, by decide, (fun e => by cases e), .inr ⟨_, 0, rfl, fun i hi => ?_⟩⟩
  rw [blB_len] at hi
  rw [blB_at _ i hi, Nat.zero_add]
  have q := HB3.out.1
  rw [HFI.out] at q
  exact q.cell i _ (Fd.BL_at _ i hi)
end Go.Proofs.YtcnikfikpnnblaaGreatDoor
