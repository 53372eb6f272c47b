import Derived.Test.YtcnikfikpnnblaaGreatDoorPart00
import Derived.Test.YtcnikfikpnnblaaGreatDoorPart48
namespace Go.Proofs.YtcnikfikpnnblaaGreatDoor
open Go.RowKit
set_option linter.unusedVariables false
set_option linter.unusedSimpArgs false
theorem BL514 : Fd.BL (BitVec.ofNat 128 514) = [.int .u8 2, .int .u8 2, .int .u8 0, .int .u8 0, .int .u8 0, .int .u8 0, .int .u8 0, .int .u8 0, .int .u8 0, .int .u8 0, .int .u8 0, .int .u8 0, .int .u8 0, .int .u8 0, .int .u8 0, .int .u8 0] := by kernel_rfl
theorem BL515 : Fd.BL (BitVec.ofNat 128 515) = [.int .u8 3, .int .u8 2, .int .u8 0, .int .u8 0, .int .u8 0, .int .u8 0, .int .u8 0, .int .u8 0, .int .u8 0, .int .u8 0, .int .u8 0, .int .u8 0, .int .u8 0, .int .u8 0, .int .u8 0, .int .u8 0] := by kernel_rfl
theorem part_flV (zs : List Int) (j : Nat) (h : 16 * j + 16 ≤ zs.length) : cutV ((zs.drop (16 * j)).take 16) 0 = flV zs j := by rw [cutV_part, flV_full zs j h]
theorem part_bytesH {L : List Int} (h : AllBytes L) (J : Nat) : AllBytes ((L.drop J).take 16) := fun i => by
  rw [List.getD_eq_getElem?_getD, List.getElem?_take]
  split
  · rw [List.getElem?_drop, ← List.getD_eq_getElem?_getD]; exact h _
  · simp
/-- rest's world: the list of blocks so far. -/
structure RsI (M : Nat) (HH : List Value) (f : Nat → BitVec 128) (w u : World) (y d j : Nat) : Prop where
  bel : Below M w u
  bh : Bx u M 29 HH
  br : Bx u (M + 1) 29 ZZ
  own : u.ownsRow (M + 2) 29 16 (.slice (some ⟨y, 0, none⟩) (3 + j) d) (3 + j) (bkL f (3 + j))
  sz : M + 2 ≤ u.heap.size
theorem RsI.below {M : Nat} {HH : List Value} {f : Nat → BitVec 128} {w u u2 : World} {y d j : Nat} (h : RsI M HH f w u y d j) (hb : Below u.heap.size u u2) : RsI M HH f w u2 y d j :=
  ⟨h.bel.trans (hb.mono (Nat.le_trans (Nat.le_add_right _ _) h.sz)), h.bh.below hb, h.br.below hb, ownsRow_below h.own hb, Nat.le_trans h.sz hb.size⟩
/-- A block is appended. -/
theorem RsI.app {M : Nat} {HH : List Value} {f : Nat → BitVec 128} {w u u2 : World} {y d j : Nat} {v2 : Value} (h : RsI M HH f w u y d j) (ho : u2.ownsRow (M + 2) 29 16 v2 (3 + j + 1) (bkL f (3 + j) ++ Fd.BL (f (3 + j)))) (hg : u.grownBy u2 (some y)) : ∃ y2 d2, v2 = .slice (some ⟨y2, 0, none⟩) (3 + (j + 1)) d2 ∧ RsI M HH f w u2 y2 d2 (j + 1) := by
  have hy : M + 2 ≤ y := (ownsRow_lt h.own rfl).1
  have hs := h.sz
  rw [← bkL_succ] at ho
  have e : 3 + j + 1 = 3 + (j + 1) := by omega
  rw [e] at ho
  obtain ⟨y2, d2, rfl⟩ : ∃ y2 d2, v2 = .slice (some ⟨y2, 0, none⟩) (3 + (j + 1)) d2 := by
    rcases ho.2 with ⟨_, q⟩ | ⟨g, c, _, q, _⟩
    · omega
    · exact ⟨g, c, q⟩
  refine ⟨y2, d2, rfl, h.bel.trans (below_gb hg (by omega) (by omega)), h.bh.keep (hg.block M h.bh.lt (fun e => by injection e with e; omega)), h.br.keep (hg.block (M + 1) h.br.lt (fun e => by injection e with e; omega)), ho, Nat.le_trans hs hg.size⟩
theorem rs_num (j n : Nat) (h : 16 * j < n) (hn : n ≤ 4096) : j < flN n ∧ (16 * j : Nat) < n ∧ IntKind.i64.wrap (((16 * j : Nat) : Int) + 16) = ((16 * j + 16 : Nat) : Int) ∧ wrap64 (((16 * j : Nat) : Int) + 16) = ((16 * j + 16 : Nat) : Int) ∧ 3 + j + 1 ≤ maxLen ∧ (3 + j + 1) * 16 ≤ 140737488355328 ∧ j + 1 ≤ flN n := by
  unfold flN maxLen
  refine ⟨by omega, by omega, ?_, ?_, by omega, by omega, by omega⟩
  · rw [IntKind.wrap_i64]; omega
  · unfold wrap64; omega
set_option maxHeartbeats 6400000 in
set_option maxRecDepth 100000 in
/-- The law's rest. -/
theorem rest_hc (h fi : BitVec 128) (iv v : Value) (zs : List Int) (w : World) (hiv : View w iv (blB fi)) (hv : View w v zs) (hb : AllBytes zs) (hm : zs.length ≤ 4096) :
    Calls Tryz.prog 37 #[Fd.BV h, iv, v] w fun e w' => Hid (e = .returned (Fd.BV (hsV h fi zs)) ∧ Below w.heap.size w w') := by
  obtain ⟨a, c, rfl, p1, p2, p3, p4⟩ := id hv
  obtain ⟨n, HNL⟩ : ∃ n, Hid (zs.length = n) := ⟨_, rfl⟩
  obtain ⟨HH, HHH⟩ : ∃ L, Hid (L = Fd.BL h) := ⟨_, rfl⟩
  obtain ⟨KD, HKD⟩ : ∃ L, Hid (L = Fd.BL (kdV n)) := ⟨_, rfl⟩
  obtain ⟨FI, HFI⟩ : ∃ L, Hid (L = Fd.BL fi) := ⟨_, rfl⟩
  obtain ⟨RS, HRS⟩ : ∃ L, Hid (L = Fd.BL (hsV h fi zs)) := ⟨_, rfl⟩
  obtain ⟨f, Hf⟩ : ∃ f, Hid (f = hsF (kdV n) fi zs) := ⟨_, rfl⟩
  have HNN : Hid (zs.length = n ∧ n ≤ 4096 ∧ AllBytes zs ∧ n ≤ c) := ⟨HNL.out, by rw [← HNL.out]; exact hm, hb, by rw [← HNL.out]; exact p1⟩
  have HV : Hid (∀ u, Below w.heap.size w u → View u (.slice a n c) zs) := fun u hu => by have q := hv.below hu; rw [HNL.out] at q; exact q
  have HB1 : Hid (∀ u, Below w.heap.size w u → Calls Tryz.prog 12 #[iv] u fun e w' => Hid (e = .returned (.agg FI.toArray) ∧ Below u.heap.size u w')) := fun u hu => by
    have q := block_ok iv (blB fi) u (hiv.below hu) (blB_bytes fi)
    have e := cutV_blB fi []
    rw [List.append_nil] at e
    rw [e] at q
    rw [HFI.out]; exact q
  have HP1 : Hid (∀ u y d, u.ownsRow (w.heap.size + 2) 29 16 (.slice (some ⟨y, 0, none⟩) (3 + flN n) d) (3 + flN n) (bkL f (3 + flN n)) → Calls Tryz.prog 11 #[.agg HH.toArray, .slice (some ⟨y, 0, none⟩) (3 + flN n) d] u fun e w' => Hid (e = .returned (.agg RS.toArray) ∧ Below u.heap.size u w')) := fun u y d hu => by
    obtain ⟨q1, q2, q3⟩ := own_blks hu (by omega)
    rw [HHH.out, HRS.out]
    unfold hsV
    rw [HNL.out, ← Hf.out]
    exact (Fd.polyval_ok h _ (3 + flN n) d _ u q1 q2 (by unfold maxLen at q3; omega)).mono fun e w' hh => hh
  have HLN : Hid (RS.length = 16 ∧ (∀ x ∈ RS, x.oneCell' = true) ∧ FI.length = 16 ∧ HH.length = 16 ∧ KD.length = 16 ∧ (∀ x ∈ KD, x.oneCell' = true)) := by rw [HRS.out, HFI.out, HHH.out, HKD.out]; exact ⟨Fd.BL_length _, BL_one8 _, Fd.BL_length _, Fd.BL_length _, Fd.BL_length _, BL_one8 _⟩
  have HBS : Hid (∀ u : World, (Instr.buildSlice 77 3 #[(0, .agg KD.toArray), (1, .agg FI.toArray), (2, .agg ZZ.toArray)]).run Tryz.prog u = .ok (.slice (some ⟨u.heap.size, 0, none⟩) 3 3) (u.alloc (.cells (KD ++ FI ++ ZZ).toArray 29))) := fun u => by
    have z := slice3B u (kdV n) fi 0#128
    rw [Fd.BL_zero, ← HKD.out, ← HFI.out] at z
    exact z
  have HF3 : Hid (KD ++ FI ++ ZZ = bkL f 3) := by
    show _ = _
    rw [Hf.out, show (3 : Nat) = 3 + 0 from rfl, hsF_list, HKD.out, HFI.out, Fd.BL_zero]; simp [bkL]
  obtain ⟨r, HR⟩ : ∃ r : Nat, Hid (n % 16 = r) := ⟨_, rfl⟩
  have e1 : (n : Int).tmod 16 = (r : Int) := by rw [← HR.out, Int.tmod_eq_emod_of_nonneg (by omega)]; omega
  have e2 : (n : Int) % 16 = (r : Int) := by rw [← HR.out]; omega
  rw [HNL.out]
  show Calls Tryz.prog 37 #[.agg (Fd.BL h).toArray, _, _] w fun e w' => Hid (e = .returned (.agg (Fd.BL (hsV h fi zs)).toArray) ∧ _)
  rw [← HHH.out, ← HRS.out]
  obtain ⟨w1, hw1⟩ : ∃ w1, w1 = (w.alloc (.cells HH.toArray 29)).alloc (.cells ZZ.toArray 29) := ⟨_, rfl⟩
  have HW1 : Hid (Bx w1 w.heap.size 29 HH ∧ Bx w1 (w.heap.size + 1) 29 ZZ ∧ Below w.heap.size w w1 ∧ w1.heap.size = w.heap.size + 2) := by
    have hb : Below w.heap.size w w1 := by rw [hw1]; exact ((Below.refl _ _).alloc (Nat.le_refl _) _).alloc (by simp) _
    refine ⟨?_, ?_, hb, by rw [hw1]; simp⟩
    · rw [hw1]; exact (Bx.new w 29 HH).below ((Below.refl _ _).alloc (Nat.le_refl _) _)
    · rw [hw1]; have q := Bx.new (w.alloc (.cells HH.toArray 29)) 29 ZZ; simpa using q
  clear hv hiv hb hm p1 p2 p3 p4
  go_enter Tryz.func37, Tryz.ntmps37
  go_upto_region 1 with fail
  rw [show (w.alloc (.cells _ 29)).alloc (.cells _ 29) = w1 from hw1.symm]
  clear hw1
  obtain ⟨M, HMM⟩ : ∃ M, Hid (w.heap.size = M) := ⟨_, rfl⟩
  rw [HMM.out] at HW1 HB1 HP1 HV ⊢
  have hiK : (Tryz.prog.info? 29).map (·.size) = some KD.length := by rw [HLN.out.2.2.2.2.1]; kernel_rfl
  obtain ⟨L4, HL4⟩ : ∃ L : List Value, Hid (L = [.int .u8 2, .int .u8 2, .int .u8 0, .int .u8 0, .int .u8 0, .int .u8 0, .int .u8 0, .int .u8 0, .int .u8 0, .int .u8 0, .int .u8 0, .int .u8 0, .int .u8 0, .int .u8 0, .int .u8 0, .int .u8 0]) := ⟨_, rfl⟩
  obtain ⟨L5, HL5⟩ : ∃ L : List Value, Hid (L = [.int .u8 3, .int .u8 2, .int .u8 0, .int .u8 0, .int .u8 0, .int .u8 0, .int .u8 0, .int .u8 0, .int .u8 0, .int .u8 0, .int .u8 0, .int .u8 0, .int .u8 0, .int .u8 0, .int .u8 0, .int .u8 0]) := ⟨_, rfl⟩
  have HLL : Hid ((r = 0 → KD = L4) ∧ (r ≠ 0 → KD = L5)) := by
    refine ⟨fun h0 => ?_, fun h0 => ?_⟩
    · rw [HKD.out, HL4.out]; unfold kdV; rw [if_pos (by rw [HR.out]; exact h0)]; exact BL514
    · rw [HKD.out, HL5.out]; unfold kdV; rw [if_neg (by rw [HR.out]; exact h0)]; exact BL515
  have HSZ : Hid (w1.heap.size = M + 2) := HW1.out.2.2.2
  go_upto_if 15 with (first
    | (refine wpList_store_bx (by rfl) 29 (.tmp 7) (.tmp 11) (by rfl) ZZ [.int .u8 2, .int .u8 2, .int .u8 0, .int .u8 0, .int .u8 0, .int .u8 0, .int .u8 0, .int .u8 0, .int .u8 0, .int .u8 0, .int .u8 0, .int .u8 0, .int .u8 0, .int .u8 0, .int .u8 0, .int .u8 0] w1.heap.size (by rfl) (by rfl) (Bx.new w1 29 ZZ) rfl (by kernel_rfl) (by decide) ?_; intro w2 hb2 hg2; have HW2 : Hid (Bx w2 w1.heap.size 29 [.int .u8 2, .int .u8 2, .int .u8 0, .int .u8 0, .int .u8 0, .int .u8 0, .int .u8 0, .int .u8 0, .int .u8 0, .int .u8 0, .int .u8 0, .int .u8 0, .int .u8 0, .int .u8 0, .int .u8 0, .int .u8 0] ∧ Bx w2 M 29 HH ∧ Bx w2 (M + 1) 29 ZZ ∧ Below M w w2) := ⟨hb2, (HW1.out.1.below ((Below.refl _ _).alloc (Nat.le_refl _) _)).keep (hg2.block M (ct_lt HW1.out.1.lt) (fun e => by injection e with e; exact absurd e (Nat.ne_of_lt HW1.out.1.lt))), (HW1.out.2.1.below ((Below.refl _ _).alloc (Nat.le_refl _) _)).keep (hg2.block (M + 1) (ct_lt HW1.out.2.1.lt) (fun e => by injection e with e; exact absurd e (Nat.ne_of_lt HW1.out.2.1.lt))), HW1.out.2.2.1.trans ((((Below.refl _ _).alloc (Nat.le_refl _) _).trans (below_gb hg2 (by simp) (Nat.le_refl _))).mono (Nat.le_of_lt HW1.out.1.lt))⟩; clear hb2 hg2))
  rw [HSZ.out] at HW2 ⊢
  go_cut [16] from 11 to 15 (fun _ wx => Hid (Bx wx (M + 2) 29 KD ∧ Bx wx M 29 HH ∧ Bx wx (M + 1) 29 ZZ ∧ Below M w wx))
  case first =>
    by_cases hr : r = 0
    · have hr1 : ((r : Int) != 0) = false := by simp; omega
      have hr2 : (r : Int) = 0 := by omega
      have HK4 : Hid (KD = [.int .u8 2, .int .u8 2, .int .u8 0, .int .u8 0, .int .u8 0, .int .u8 0, .int .u8 0, .int .u8 0, .int .u8 0, .int .u8 0, .int .u8 0, .int .u8 0, .int .u8 0, .int .u8 0, .int .u8 0, .int .u8 0]) := by rw [← HL4.out]; exact HLL.out.1 hr
      clear hr
      go_wp2
      go_meet
      rw [HK4.out]
      exact HW2
    · have hr1 : ((r : Int) != 0) = true := by simp; omega
      have hr2 : ¬ (r : Int) = 0 := by omega
      have HK5 : Hid (KD = [.int .u8 3, .int .u8 2, .int .u8 0, .int .u8 0, .int .u8 0, .int .u8 0, .int .u8 0, .int .u8 0, .int .u8 0, .int .u8 0, .int .u8 0, .int .u8 0, .int .u8 0, .int .u8 0, .int .u8 0, .int .u8 0]) := by rw [← HL5.out]; exact HLL.out.2 hr
      clear hr
      go_wp2_with (first
        | (refine wpList_store_bx (by rfl) 29 (.tmp 7) (.tmp 16) (by rfl) [.int .u8 2, .int .u8 2, .int .u8 0, .int .u8 0, .int .u8 0, .int .u8 0, .int .u8 0, .int .u8 0, .int .u8 0, .int .u8 0, .int .u8 0, .int .u8 0, .int .u8 0, .int .u8 0, .int .u8 0, .int .u8 0] [.int .u8 3, .int .u8 2, .int .u8 0, .int .u8 0, .int .u8 0, .int .u8 0, .int .u8 0, .int .u8 0, .int .u8 0, .int .u8 0, .int .u8 0, .int .u8 0, .int .u8 0, .int .u8 0, .int .u8 0, .int .u8 0] (M + 2) (by rfl) (by rfl) HW2.out.1 rfl (by kernel_rfl) (by decide) ?_; intro w3 hb3 hg3; have HW3 : Hid (Bx w3 (M + 2) 29 [.int .u8 3, .int .u8 2, .int .u8 0, .int .u8 0, .int .u8 0, .int .u8 0, .int .u8 0, .int .u8 0, .int .u8 0, .int .u8 0, .int .u8 0, .int .u8 0, .int .u8 0, .int .u8 0, .int .u8 0, .int .u8 0] ∧ Bx w3 M 29 HH ∧ Bx w3 (M + 1) 29 ZZ ∧ Below M w w3) := ⟨hb3, HW2.out.2.1.keep (hg3.block M HW2.out.2.1.lt (fun e => by injection e with e; omega)), HW2.out.2.2.1.keep (hg3.block (M + 1) HW2.out.2.2.1.lt (fun e => by injection e with e; omega)), HW2.out.2.2.2.trans (below_gb hg3 (Nat.le_of_lt HW2.out.2.1.lt) (by omega))⟩; clear hb3 hg3))
      go_meet
      rw [HK5.out]
      exact HW3
  case rest =>
    have HC : Hid (Bx wc (M + 2) 29 KD ∧ Bx wc M 29 HH ∧ Bx wc (M + 1) 29 ZZ ∧ Below M w wc) := hcut
    clear hcut
    go_upto_region 4 with fail
    have hS0 : wc.drew.rangeAt (M + 2) 0 KD := by simpa using HC.out.1.range
    have HWD : Hid (Below M w wc.drew) := HC.out.2.2.2.trans (((Below.refl wc.heap.size wc).drew).mono (Nat.le_of_lt HC.out.2.1.lt))
    refine wp_region_noPanic ?_
    refine Fd.wp_region_till (fun u => u.rangeAt (M + 2) 0 KD) 4 (by kernel_rfl) (by decide) (by decide +kernel) (by decide +kernel) (by decide +kernel) (fun inv => ?_)
    refine Fd.till_at 0 17 (.agg KD.toArray) inv rfl rfl (by decide) (by decide +kernel) (by decide +kernel) (fun _ _ _ h => h) hS0 (yieldsIf_load_mid (by rfl) 29 (.tmp 7) rfl (M + 2) 0 rfl KD _ (fun u hu => hu) Tryz.underlying29 rfl hiK) (fun inv' => ?_)
    clear inv; have inv := inv'; clear inv'
    try simp only [pU]
    refine Fd.till_at 1 18 (iv) inv rfl rfl (by decide) (by decide +kernel) (by decide +kernel) (fun _ _ _ h => h) hS0 (Or.inl ⟨by rfl, fun w' hS' => by go_simp⟩) (fun inv' => ?_)
    clear inv; have inv := inv'; clear inv'
    try simp only [pU]
    refine Fd.till_at 3 20 (.agg ZZ.toArray) inv rfl rfl (by decide) (by decide +kernel) (by decide +kernel) (fun _ _ _ h => h) hS0 (Or.inl ⟨by rfl, fun w' hS' => by go_simp⟩) (fun inv' => ?_)
    clear inv; have inv := inv'; clear inv'
    try simp only [pU]
    refine Fd.till_head (i := 2) inv (by decide +kernel) (by decide) rfl (fun KK hK => ?_)
    go_simp
    refine (HB1.out _ HWD.out).mono ?_
    intro e2 w4 hh
    obtain ⟨rfl, hb4⟩ := hh.out
    have HB4 : Hid (Below wc.heap.size wc w4) := (Below.refl _ _).drew.trans hb4
    clear hh hb4
    go_wp2_with fail
    refine hK.out _ _ ((HC.out.1.below HB4.out).range) (fun inv' => ?_)
    clear hK KK inv; have inv := inv'; clear inv'
    try simp only [pU]
    refine Fd.till_tail (i := 4) (by decide +kernel) (by decide) rfl (fun KK hK => ?_)
    refine step_bs rfl 21 rfl 77 29 3 #[(0, .tmp 17), (1, .tmp 19), (2, .tmp 20)] rfl #[(0, .agg KD.toArray), (1, .agg FI.toArray), (2, .agg ZZ.toArray)] (by simp [Act.eval]) (KD ++ FI ++ ZZ).toArray HBS.out ?_
    refine hK.out _ _ ?_
    clear hK KK
    try simp only [pU]
    refine Fd.till_tail (i := 5) (by decide +kernel) (by decide) rfl (fun KK hK => ?_)
    rw [if_pos (by rfl)]
    go_simp
    refine hK.out _ _ ?_
    clear hK KK
    try simp only [pU]
    refine Fd.till_done (by decide +kernel) ?_ _
    refine NoPanic.normal ?_
    obtain ⟨w5, hw5⟩ : ∃ w5, w5 = w4.alloc (.cells (KD ++ (FI ++ ZZ)).toArray 29) := ⟨_, rfl⟩
    obtain ⟨X, HX⟩ : ∃ X, Hid (w4.heap.size = X) := ⟨_, rfl⟩
    have HI5 : Hid (RsI M HH f w w5 X 3 0) := by
      have s1 := HC.out.2.2.1.lt
      have s2 := HB4.out.size
      have hal : Below w4.heap.size w4 w5 := by rw [hw5]; exact (Below.refl _ _).alloc (Nat.le_refl _) _
      have hll : (KD ++ FI ++ ZZ).length = 48 := by simp [HLN.out.2.2.1, HLN.out.2.2.2.2.1]
      refine ⟨HC.out.2.2.2.trans ((HB4.out.mono (by omega)).trans (hal.mono (by omega))), (HC.out.2.1.below HB4.out).below hal, (HC.out.2.2.1.below HB4.out).below hal, ?_, by have := hal.size; omega⟩
      refine ⟨by rw [bkL_len], .inr ⟨X, 3, (KD ++ FI ++ ZZ).toArray, rfl, by rw [← HX.out]; omega, ?_, by decide, by decide, by rw [List.size_toArray, hll], ?_⟩⟩
      · rw [hw5, ← HX.out, ← List.append_assoc]
        exact Bx.new w4 29 _
      · rw [List.take_of_length_le (by show (KD ++ FI ++ ZZ).length ≤ 48; omega)]
        exact HF3.out
    rw [← hw5, HX.out]
    clear hw5 HX HB4 HC HWD hS0
    obtain ⟨i0, hi0, hz0, hz1, hz2⟩ := info_parts Tryz.info29b
    have HI0 : Hid (Tryz.prog.info? 29 = some i0 ∧ i0.zero = some (.agg ZZ.toArray) ∧ i0.size = 16 ∧ i0.bytes = 16) := ⟨hi0, hz0, hz1, hz2⟩
    clear hi0 hz0 hz1 hz2
    go_upto_region 6 with fail
    go_loopw [8, 9] (fun v vi wr => ∃ j y d J : Nat, vi = .int .i64 (J : Nat) ∧ v = .slice (some ⟨y, 0, none⟩) (3 + j) d ∧ Hid (J = 16 * j ∧ j ≤ flN n ∧ RsI M HH f w wr y d j)) (fun _ vi _ => n + 16 - (intOf vi).toNat)
    case atStart => exact ⟨0, X, 3, 0, rfl, rfl, rfl, Nat.zero_le _, HI5.out⟩
    case round =>
     as_aux_lemma =>
      obtain ⟨j, y, d, J, rfl, rfl, HRJ⟩ := hrel
      by_cases hlt : J < n
      · have g1 : (J : Int) < (n : Int) := by omega
        have HNU : Hid (j < flN n ∧ 16 * j < n ∧ IntKind.i64.wrap ((J : Int) + 16) = ((J + 16 : Nat) : Int) ∧ wrap64 ((J : Int) + 16) = ((J + 16 : Nat) : Int) ∧ 3 + j + 1 ≤ maxLen ∧ (3 + j + 1) * 16 ≤ 140737488355328 ∧ j + 1 ≤ flN n) := by
          have e := HRJ.out.1
          have q := rs_num j n (by rw [← e]; exact hlt) HNN.out.2.1
          rw [← e] at q
          exact ⟨q.1, by rw [← e]; exact hlt, q.2.2.1, q.2.2.2.1, q.2.2.2.2.1, q.2.2.2.2.2.1, q.2.2.2.2.2.2⟩
        obtain ⟨J2, HJ2⟩ : ∃ J2 : Nat, Hid (J + 16 = J2) := ⟨_, rfl⟩
        have ew : IntKind.i64.wrap ((J : Int) + 16) = (J2 : Int) := by rw [HNU.out.2.2.1, HJ2.out]
        have ew2 : wrap64 ((J : Int) + 16) = (J2 : Int) := by rw [HNU.out.2.2.2.1, HJ2.out]
        have HMS : Hid (n + 16 - (intOf (.int .i64 (J2 : Int))).toNat < n + 16 - (intOf (.int .i64 (J : Int))).toNat ∧ J2 = 16 * (j + 1)) := by
          have h1 := HJ2.out; have h2 := HRJ.out.1
          refine ⟨?_, by omega⟩
          simp only [intOf, Int.toNat_natCast]; omega
        obtain ⟨L, HFj⟩ : ∃ L, Hid (Fd.BL (f (3 + j)) = L) := ⟨_, rfl⟩
        have HLf : Hid (L = Fd.BL (flV zs j)) := by show _ = _; rw [← HFj.out, Hf.out, show 3 + j = j + 3 by omega]; rfl
        have HL16 : Hid (L.length = 16 ∧ ∀ v ∈ L, v.oneCell' = true) := by rw [HLf.out]; exact ⟨Fd.BL_length _, BL_one8 _⟩
        have hL16 : L.length = 16 := HL16.out.1
        have hfo : List.foldl (fun (cs : Array Value) (x : Value × Nat) => cs.setIfInBounds x.snd x.fst) #[.int .u8 0, .int .u8 0, .int .u8 0, .int .u8 0, .int .u8 0, .int .u8 0, .int .u8 0, .int .u8 0, .int .u8 0, .int .u8 0, .int .u8 0, .int .u8 0, .int .u8 0, .int .u8 0, .int .u8 0, .int .u8 0] L.zipIdx = L.toArray := by rw [HLf.out]; exact foldB _
        by_cases hfull : J2 ≤ n
        · have g2 : (J2 : Int) ≤ (n : Int) := by omega
          obtain ⟨sa, sc, hsl⟩ : ∃ y d, sliced a J J2 c 1 = .slice y 16 d := ⟨_, _, by unfold sliced; rw [show J2 - J = 16 by have := HJ2.out; omega]⟩
          have hSL : ∀ u : World, (Instr.slice 24 (.slice a n c) (some (.int .i64 (J : Nat))) (some (.int .i64 (J2 : Nat))) none).run Tryz.prog u = .ok (.slice sa 16 sc) u := fun u => by
            rw [slice_lh u a n c J J2 (by have := HJ2.out; omega) (Nat.le_trans hfull HNN.out.2.2.2), hsl]
          have HBK : Hid (∀ u, Below M w u → Calls Tryz.prog 12 #[.slice sa 16 sc] u fun e w' => Hid (e = .returned (.agg L.toArray) ∧ Below u.heap.size u w')) := fun u hu => by
            have q := view_sliced (HV.out u hu) J J2 (by have := HJ2.out; omega) hfull
            rw [hsl, show J2 - J = 16 by have := HJ2.out; omega, HRJ.out.1] at q
            have q2 := block_ok _ _ u q (part_bytesH HNN.out.2.2.1 (16 * j))
            rw [part_flV zs j (by have h1 := HJ2.out; have h2 := HRJ.out.1; have h3 := HNN.out.1; omega)] at q2
            rw [HLf.out]; exact q2
          clear hsl hfull hlt
          go_wp2_with (first
            | (go_at_call 12; refine (HBK.out _ HRJ.out.2.2.bel).mono ?_; intro e w8 hh; obtain ⟨rfl, hb⟩ := hh.out; have HR8 : Hid (RsI M HH f w w8 y d j) := HRJ.out.2.2.below hb; clear hh hb)
            | (at_builtin; go_must (refine wpList_append_own _ rfl (.tmp 33) (.tmp 40) 77 rfl (M + 2) 29 i0 (.agg ZZ.toArray) 16 16 Tryz.underlying77b HI0.out.1 HI0.out.2.1 HI0.out.2.2.1 HI0.out.2.2.2 rfl (by decide) _ (3 + j) (bkL f (3 + j)) rfl (HR8.out.own.alloc _) ⟨w8.heap.size, 0, none⟩ 1 1 L rfl HL16.out.1 (fun jj u hj => by rw [Addr.add_mid]; exact (Bx.new w8 29 L).range jj u hj) HL16.out.2 HNU.out.2.2.2.2.1 HNU.out.2.2.2.2.2.1 (ct_base HR8.out.sz) ?_; intro v2 w9 hown hgrow hnil; have HX9 : Hid (∃ y2 d2, v2 = .slice (some ⟨y2, 0, none⟩) (3 + (j + 1)) d2 ∧ RsI M HH f w w9 y2 d2 (j + 1)) := (HR8.out.below ((Below.refl _ _).alloc (Nat.le_refl _) _)).app (by rw [HFj.out]; exact hown) hgrow; clear hown hgrow hnil)))
          obtain ⟨y2, d2, hv2, hr2⟩ := HX9.out
          exact ⟨⟨j + 1, y2, d2, J2, rfl, hv2, HMS.out.2, HNU.out.2.2.2.2.2.2, hr2⟩, HMS.out.1⟩
        · have g2 : ¬ (J2 : Int) ≤ (n : Int) := by omega
          obtain ⟨rr, HRR⟩ : ∃ rr, Hid (n - J = rr) := ⟨_, rfl⟩
          have HR0 : Hid (0 < rr ∧ rr < 16 ∧ n = 16 * j + rr ∧ J + rr = n) := by have h1 := HRR.out; have h2 := HJ2.out; have h3 := HRJ.out.1; show _ ∧ _; omega
          have es : IntKind.i64.wrap ((n : Int) - (J : Int)) = (rr : Int) := by have := HR0.out; have := HNN.out.2.1; rw [IntKind.wrap_i64]; omega
          have es2 : wrap64 ((n : Int) - (J : Int)) = (rr : Int) := by have := HR0.out; have := HNN.out.2.1; unfold wrap64; omega
          have es3 : (n : Int) - (J : Int) = (rr : Int) := by have := HR0.out; omega
          have k1 : (rr : Int) < 16 := by have := HR0.out; omega
          have k0 : (0 : Int) ≤ (rr : Int) := by omega
          obtain ⟨PB, HPB⟩ : ∃ L, Hid (L = Fd.BL (cutV (zs.drop (16 * j)) 0)) := ⟨_, rfl⟩
          have HPL : Hid (PB.length = 16 ∧ (∀ v ∈ PB, v.oneCell' = true) ∧ PB[rr]? = some (.int .u8 0) ∧ PB.set rr (.int .u8 1) = L) := by
            have hd : AllBytes (zs.drop (16 * j)) := drop_bytes HNN.out.2.2.1 _
            rw [HPB.out]
            refine ⟨Fd.BL_length _, BL_one8 _, ?_, ?_⟩
            · rw [Fd.BL_at _ rr HR0.out.2.1, cutV_at hd 0 rr HR0.out.2.1, List.getD_eq_getElem?_getD, List.getElem?_eq_none (by rw [List.length_drop, HNN.out.1]; have := HR0.out; omega)]; rfl
            · rw [HLf.out, ← BL_mark HNN.out.2.2.1 j rr (by rw [HNN.out.1]; exact HR0.out.2.2.1) HR0.out.1 HR0.out.2.1]
              congr 1
              have e := BL_head hd rr (by rw [List.length_drop, HNN.out.1, show n - 16 * j = rr by have := HR0.out; omega]; exact (Nat.min_eq_left (Nat.le_of_lt HR0.out.2.1)).symm)
              rw [← e, List.take_of_length_le (by simp [cellsU8]; have := HR0.out; have := HNN.out.1; omega)]
          obtain ⟨sa, sc, hsl⟩ : ∃ y d, sliced a J n c 1 = .slice y rr d := ⟨_, _, by unfold sliced; rw [HRR.out]⟩
          have hSL : ∀ u : World, (Instr.slice 24 (.slice a n c) (some (.int .i64 (J : Nat))) none none).run Tryz.prog u = .ok (.slice sa rr sc) u := fun u => by
            rw [slice_l u a n c J (Nat.le_of_lt hlt) HNN.out.2.2.2, hsl]
          have HBK : Hid (∀ u, Below M w u → Calls Tryz.prog 12 #[.slice sa rr sc] u fun e w' => Hid (e = .returned (.agg PB.toArray) ∧ Below u.heap.size u w')) := fun u hu => by
            have q := view_sliced (HV.out u hu) J n (Nat.le_of_lt hlt) (Nat.le_refl _)
            rw [hsl, List.take_of_length_le (by rw [List.length_drop, HNN.out.1]; omega), HRJ.out.1] at q
            rw [HPB.out]
            exact block_ok _ _ u q (drop_bytes HNN.out.2.2.1 _)
          clear hsl hfull hlt
          go_upto_region 12 with (first
            | (go_at_call 12; refine (HBK.out _ HRJ.out.2.2.bel).mono ?_; intro e w8 hh; obtain ⟨rfl, hb⟩ := hh.out; have HR8 : Hid (RsI M HH f w w8 y d j) := HRJ.out.2.2.below hb; clear hh hb)
            | (refine wpList_store_bx (by rfl) 29 (.tmp 10) (.tmp 45) (by rfl) ZZ PB w8.heap.size (by rfl) (by rfl) (Bx.new w8 29 ZZ) (by rw [HPL.out.1]; rfl) (by rw [HPL.out.1]; kernel_rfl) HPL.out.2.1 ?_; intro w7 hb7 hg7; have HB7 : Hid (Bx w7 w8.heap.size 29 PB ∧ RsI M HH f w w7 y d j) := ⟨hb7, HR8.out.below (((Below.refl _ _).alloc (Nat.le_refl _) _).trans (below_gb hg7 (by simp) (Nat.le_refl _)))⟩; have c7 : w7.cell? ⟨w8.heap.size, rr, none⟩ = some (.int .u8 0) := hb7.cell rr _ HPL.out.2.2.1; have f7 : w7.frozen? ⟨w8.heap.size, rr, none⟩ = false := hb7.frozen rr; have HB6 : Hid (Bx (w7.setCell ⟨w8.heap.size, rr, none⟩ (.int .u8 1)) w8.heap.size 29 L) := (by have q := hb7.set rr (.int .u8 1); rw [HPL.out.2.2.2] at q; exact q); clear hb7 hg7))
          obtain ⟨w6, hw6⟩ : ∃ w6, w6 = w7.setCell ⟨w8.heap.size, rr, none⟩ (.int .u8 1) := ⟨_, rfl⟩
          obtain ⟨X8, HX8⟩ : ∃ X, Hid (w8.heap.size = X) := ⟨_, rfl⟩
          have HW6 : Hid (Bx w6 X8 29 L ∧ RsI M HH f w w6 y d j) := by
            refine ⟨by rw [hw6, ← HX8.out]; exact HB6.out, ?_⟩
            have z := HB7.out.2
            have hg := set_gb w7 w8.heap.size rr (.int .u8 1)
            rw [← hw6] at hg
            have zs1 := HR8.out.bh.lt
            have zs2 := HR8.out.br.lt
            have zs3 : y < w8.heap.size := (ownsRow_lt HR8.out.own rfl).2
            have zs4 := HR8.out.sz
            exact ⟨z.bel.trans (below_gb hg (Nat.le_of_lt z.bh.lt) (Nat.le_of_lt zs1)), z.bh.keep (hg.block M z.bh.lt (fun e => by injection e with e; omega)), z.br.keep (hg.block (M + 1) z.br.lt (fun e => by injection e with e; omega)), ownsRow_keep z.own (fun q e => hg.block q (ownsRow_lt z.own e).2 (fun e2 => by injection e2 with e2; have e3 : y = q := (by injection e); omega)), Nat.le_trans z.sz hg.size⟩
          rw [← hw6, HX8.out]
          clear hw6 HX8 HB6 c7 f7 HB7 HR8
          go_wp2_with (first
            | (refine wpList_load_mid (by rfl) 29 (.tmp 10) (by rfl) X8 0 (by rfl) L _ HW6.out.1.range Tryz.underlying29 rfl (by rw [HL16.out.1]; kernel_rfl) ?_)
            | (at_builtin; go_must (refine wpList_append_own _ rfl (.tmp 51) (.tmp 53) 77 rfl (M + 2) 29 i0 (.agg ZZ.toArray) 16 16 Tryz.underlying77b HI0.out.1 HI0.out.2.1 HI0.out.2.2.1 HI0.out.2.2.2 rfl (by decide) _ (3 + j) (bkL f (3 + j)) rfl (HW6.out.2.own.alloc _) ⟨w6.heap.size, 0, none⟩ 1 1 L rfl HL16.out.1 (fun jj u hj => by rw [Addr.add_mid]; exact (Bx.new w6 29 L).range jj u hj) HL16.out.2 HNU.out.2.2.2.2.1 HNU.out.2.2.2.2.2.1 (ct_base HW6.out.2.sz) ?_; intro v2 w9 hown hgrow hnil; have HX9 : Hid (∃ y2 d2, v2 = .slice (some ⟨y2, 0, none⟩) (3 + (j + 1)) d2 ∧ RsI M HH f w w9 y2 d2 (j + 1)) := (HW6.out.2.below ((Below.refl _ _).alloc (Nat.le_refl _) _)).app (by rw [HFj.out]; exact hown) hgrow; clear hown hgrow hnil)))
          obtain ⟨y2, d2, hv2, hr2⟩ := HX9.out
          exact ⟨⟨j + 1, y2, d2, J2, rfl, hv2, HMS.out.2, HNU.out.2.2.2.2.2.2, hr2⟩, HMS.out.1⟩
      · have g1 : ¬ (J : Int) < (n : Int) := by omega
        have HF : Hid (3 + j = 3 + flN n ∧ RsI M HH f w wr y d (flN n)) := by
          have h1 := HRJ.out.1
          have h2 := HRJ.out.2.1
          have e : j = flN n := by unfold flN at h2 ⊢; omega
          have q := HRJ.out.2.2
          rw [e] at q
          exact ⟨by rw [e], q⟩
        rw [HF.out.1]
        clear HRJ hlt
        have hiH : (Tryz.prog.info? 29).map (·.size) = some HH.length := by rw [HLN.out.2.2.2.1]; kernel_rfl
        go_wp2_with (first
          | (refine wpList_load_mid (by rfl) 29 (.tmp 3) (by rfl) M 0 (by rfl) HH _ HF.out.2.bh.range Tryz.underlying29 rfl hiH ?_)
          | (go_at_call 11; refine (HP1.out _ y d HF.out.2.own).mono ?_; intro e w7 hh; obtain ⟨rfl, hb⟩ := hh.out; have HB7 : Hid (Bx w7 (M + 1) 29 ZZ ∧ Below M w w7) := ⟨HF.out.2.br.below hb, HF.out.2.bel.trans (hb.mono (Nat.le_of_lt HF.out.2.bh.lt))⟩; clear hh hb)
          | (refine wpList_store_bx (by rfl) 29 (.tmp 6) (.tmp 57) (by rfl) ZZ RS (M + 1) (by rfl) (by rfl) HB7.out.1 (by rw [HLN.out.1]; rfl) (by rw [HLN.out.1]; kernel_rfl) HLN.out.2.1 ?_; intro u9 hb9 hg9))
        refine ret_agg (b := M + 1) RS rfl rfl hb9.range Tryz.underlying29 rfl (by rw [HLN.out.1]; kernel_rfl) ⟨rfl, ?_⟩
        have hfin : Below M w u9 := HB7.out.2.trans (below_gb hg9 (Nat.le_of_lt (Nat.lt_of_succ_lt HB7.out.1.lt)) (Nat.le_succ _))
        first | exact hfin | (rw [HMM.out]; exact hfin)
end Go.Proofs.YtcnikfikpnnblaaGreatDoor
