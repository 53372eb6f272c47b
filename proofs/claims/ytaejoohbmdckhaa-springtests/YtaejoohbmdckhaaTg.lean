import Derived.Test.YtaejoohbmdckhaaTf
import Derived.Test.YtaejoohbmdckhaaTd
import Derived.Test.YtaejoohbmdckhaaTold
namespace Go.Proofs.Ytaejoohbmdckhaa
open Go.RowKit
set_option linter.unusedVariables false
set_option linter.unusedSimpArgs false
theorem wpList_load_want {P : Program} {ops : Array Oper} {rest : List Oper} {op : Oper} {a : Act} {w : World} {Q : Exit → Act → World → Prop} (hw : Region.wanted op (yielded ops a.tmps) = true) (ty : TypeId) (x : Operand) (ho : op.op = .load ty x)
    (b o : Nat) (hx : a.eval x = .pointer (some ⟨b, o, none⟩)) (cs : List Value) (d : TypeDesc) (hc : w.rangeAt b o cs) (hu : P.underlying ty = some d) (hd : d.isRow = true) (hi : (P.info? ty).map (·.size) = some cs.length)
    (h : wpList P ops Q rest (a.put op.dst (.agg cs.toArray)) w) : wpList P ops Q (op :: rest) a w :=
  wpList_step fun K hK => by
    rw [if_pos hw]
    exact wp_load_mid ty x ho b o hx cs d hc hu hd hi (hK _ _ h)
theorem view_by {w : World} {v : Value} {zs : List Int} (h : View w v zs) (hz : ∀ z ∈ zs, 0 ≤ z ∧ z < 256) : ∃ a c, v = .slice a zs.length c ∧ By w a zs.length (fun i => (zs.getD i 0).toNat) := by
  obtain ⟨a, c, rfl, h1, h2, h3, h4⟩ := h
  refine ⟨a, c, rfl, fun hn => ?_⟩
  rcases h4 with rfl | ⟨b, off, rfl, hc⟩
  · simp at hn
  · refine ⟨b, off, rfl, World.block_lt_of_cell? w _ (hc 0 hn), fun i hi => ?_⟩
    have hm : 0 ≤ zs.getD i 0 ∧ zs.getD i 0 < 256 := by
      rw [List.getD_eq_getElem?_getD, List.getElem?_eq_getElem hi]
      exact hz _ (List.getElem_mem hi)
    refine ⟨?_, by simp only; omega⟩
    rw [hc i hi]
    simp only
    rw [Int.toNat_of_nonneg hm.1]
def tmF (times : Int) (n : Nat) : Nat := if 1 ≤ times ∧ times ≤ 64 ∧ times * (n : Int) ≤ 131072 then times.toNat else 1
set_option maxRecDepth 100000 in
set_option maxHeartbeats 40000000 in
theorem law5_ok (a : Option Addr) (n c : Nat) (times : Int) (zs : List Int) (w : World) (hlen : zs.length = n) (hz : ∀ z ∈ zs, 0 ≤ z ∧ z < 256) (hn : n ≤ 9223372036854775807) (hv : View w (.slice a n c) zs) : Calls Try.prog 5 #[.slice a n c, .int .i64 times] w fun e w' => e = .returned (.bool true) ∧ Below w.heap.size w w' := by
  have HV : Hid (View w (.slice a n c) zs ∧ zs.length = n) := ⟨hv, hlen⟩
  clear hv hlen
  by_cases hbig : 65536 < n
  · go_enter Try.func5, Try.ntmps5
    have hb1 : decide ((65536 : Int) < (n : Int)) = true := by simp; omega
    go_wp2
    go_ret
    exact ⟨rfl, Below.refl _ _⟩
  have hb1 : decide ((65536 : Int) < (n : Int)) = false := by simp; omega
  obtain ⟨t, ht⟩ : ∃ t, Hid (t = tmF times n) := ⟨_, rfl⟩
  have HT : Hid (t ≤ 64 ∧ t * n ≤ 131072) := by
    show t ≤ 64 ∧ t * n ≤ 131072
    rw [ht.out]
    unfold tmF
    split
    · rename_i h
      refine ⟨by omega, ?_⟩
      have e : ((times.toNat * n : Nat) : Int) = times * (n : Int) := by rw [Int.natCast_mul, Int.toNat_of_nonneg (by omega)]
      omega
    · omega
  obtain ⟨zsA, hzA⟩ : ∃ zsA, Hid (zsA = rp zs t) := ⟨_, rfl⟩
  have HA : Hid (zsA.length ≤ 131072 ∧ ∀ z ∈ zsA, 0 ≤ z ∧ z < 256) := by
    show zsA.length ≤ 131072 ∧ ∀ z ∈ zsA, 0 ≤ z ∧ z < 256
    rw [hzA.out]
    refine ⟨?_, fun z h => hz z (rp_mem zs t z h)⟩
    rw [rp_length, HV.out.2]
    exact HT.out.2
  have C12 : Hid (Calls Try.prog 12 #[.slice a n c, .int .i64 (t : Int)] w fun e w' => ∃ v', e = .returned v' ∧ View w' v' zsA ∧ Below w.heap.size w w') := by
    rw [hzA.out]
    exact again_any _ zs t w (by rw [HV.out.2]; omega) HT.out.1 HV.out.1
  have C13 : Hid (∀ u v, View u v zsA → Calls Try.prog 13 #[v] u fun e w' => ∃ v', e = .returned v' ∧ Marked u.heap.size w' v' zsA ∧ Below u.heap.size u w') := fun u v h => copy_any v zsA u (by have := HA.out.1; omega) h
  obtain ⟨TC, hTC⟩ : ∃ TC, Hid (TC = teC (fun i => (zsA.getD i 0).toNat) zsA.length) := ⟨_, rfl⟩
  have C6 : Hid (∀ u v, View u v zsA → Calls Try.prog 6 #[v] u fun e w' => e = .returned (.tuple #[.agg TC, .int .i64 0]) ∧ Below u.heap.size u w') := fun u v h => by
    obtain ⟨a, c, rfl, hb⟩ := view_by h HA.out.2
    rw [hTC.out]
    exact test_ok a zsA.length c _ HA.out.1 u hb
  have C14 : Hid (∀ u v, View u v zsA → Calls Try.prog 14 #[v] u fun e w' => e = .returned (.tuple #[.agg TC, .int .i64 0]) ∧ Below u.heap.size u w') := fun u v h => by
    obtain ⟨a, c, rfl, hb⟩ := view_by h HA.out.2
    rw [hTC.out]
    exact rtest_ok a zsA.length c _ HA.out.1 u hb
  have C7 : Hid (∀ (x : Int) u, Calls Try.prog 7 #[.int .i64 x] u fun e w' => e = .returned (.int .i64 x) ∧ w' = u) := fun x u => j_num_ok x u
  have C10 : Hid (∀ u, Calls Try.prog 10 #[.agg TC, .agg TC] u fun e w' => e = .returned (.bool true) ∧ Below u.heap.size u w') := fun u => by
    rw [hTC.out]
    exact like_ok _ _ _ _ _ _ _ _ _ _ _ _ _ _ _ u
  obtain ⟨J, hJ⟩ : ∃ J : Int, Hid ((∀ u, Calls Try.prog 8 #[.agg TC] u fun e w' => e = .returned (.int .i64 J) ∧ Below u.heap.size u w') ∧ (∀ u, Calls Try.prog 9 #[.agg TC] u fun e w' => e = .returned (.int .i64 J) ∧ Below u.heap.size u w')) := by
    rw [hTC.out]
    exact ⟨_, fun u => judge_ok _ _ _ _ _ _ _ _ _ _ _ _ _ _ _ u, fun u => rjudge_ok _ _ _ _ _ _ _ _ _ _ _ _ _ _ _ u⟩
  have C8 : Hid (∀ u, Calls Try.prog 8 #[.agg TC] u fun e w' => e = .returned (.int .i64 J) ∧ Below u.heap.size u w') := hJ.out.1
  have C9 : Hid (∀ u, Calls Try.prog 9 #[.agg TC] u fun e w' => e = .returned (.int .i64 J) ∧ Below u.heap.size u w') := hJ.out.2
  have C15 : Hid (∀ u v1 v2 B, Marked B u v1 zsA → View u v2 zsA → Calls Try.prog 15 #[v1, v2] u fun e w' => e = .returned (.bool true) ∧ Below u.heap.size u w') := fun u v1 v2 B h1 h2 =>
    (whole_any v1 v2 zsA B u h1 h2).mono fun e w' q => ⟨q.1, by obtain ⟨m, hm⟩ := q.2; rw [hm]; exact ⟨rfl, rfl, rfl, Nat.le_refl _, fun _ _ => rfl⟩⟩
  have hTs : Hid (TC.size = 15 ∧ TC.all (·.oneCell') = true) := by rw [hTC.out]; exact ⟨rfl, by simp [teC, heC, Value.oneCell']⟩
  clear hJ hTC HA HV hzA HT hz
  go_enter Try.func5, Try.ntmps5
  by_cases t1 : times < 1
  · have hT1 : (t : Int) = 1 := by rw [ht.out]; unfold tmF; rw [if_neg (by omega)]; rfl
    rw [hT1] at C12
    have d1 : decide (times < 1) = true := by simp; omega
    clear ht hT1
    go_upto_region 7 with (first
      | (go_at_call 12; refine C12.out.mono ?_; rintro ea w1 ⟨v1, rfl, hv1, hb1⟩; have V1 : Hid (View w1 v1 zsA ∧ Below w.heap.size w w1) := ⟨hv1, hb1⟩; clear hv1 hb1)
      | (go_at_call 13; refine (C13.out _ _ V1.out.1).mono ?_; rintro eb w2 ⟨v2, rfl, hv2, hb2⟩; have V2 : Hid (View w2 v1 zsA ∧ Marked w1.heap.size w2 v2 zsA ∧ Below w.heap.size w w2) := ⟨V1.out.1.kept hb2.block, hv2, V1.out.2.trans (hb2.mono V1.out.2.size)⟩; clear hv2 hb2 V1))
    try simp only [Act.put, List.setIfInBounds_toArray, List.set_cons_zero, List.set_cons_succ]
    go_upto_region 8 with (first
      | (go_at_call 6; refine (C6.out _ _ V2.out.2.1.view).mono ?_; rintro ec w3 ⟨rfl, hb3⟩)
      | (refine wpList_alloc_arr (by rfl) 27 15 (by rfl) zero27 ?_; intro W4 G4 ht4 hb4 hG4 hz4; subst hG4)
      | (refine wpList_store_mid (by rfl) 27 (.tmp 7) (.tmp 35) (by rfl) w3.heap.size 0 TC (by rfl) (by rfl) (by rw [hTs.out.1]; exact ht4.there) (by rw [size27, hTs.out.1]) hTs.out.2 ?_))
    try simp only [Act.put, List.setIfInBounds_toArray, List.set_cons_zero, List.set_cons_succ]
    have H5 : Hid (View (W4.setCells w3.heap.size 0 TC.toList) v1 zsA ∧ Marked w1.heap.size (W4.setCells w3.heap.size 0 TC.toList) v2 zsA ∧ Below w.heap.size w (W4.setCells w3.heap.size 0 TC.toList) ∧ (W4.setCells w3.heap.size 0 TC.toList).rangeAt w3.heap.size 0 TC.toList ∧ w3.heap.size < (W4.setCells w3.heap.size 0 TC.toList).heap.size) := by
      have bx : Below w3.heap.size w3 (W4.setCells w3.heap.size 0 TC.toList) := hb4.trans (setCells_below _ _ _ _ _ (Nat.le_refl _))
      have by2 : Below w2.heap.size w2 (W4.setCells w3.heap.size 0 TC.toList) := hb3.trans (bx.mono hb3.size)
      refine ⟨V2.out.1.kept by2.block, V2.out.2.1.kept by2.block, V2.out.2.2.trans (by2.mono V2.out.2.2.size), World.rangeAt_setCells_same W4 w3.heap.size 0 TC.toList (by rw [Array.length_toList, hTs.out.1]; exact ht4.there), ?_⟩
      have := (setCells_below w3.heap.size TC.toList 0 W4 w3.heap.size (Nat.le_refl _)).size
      omega
    clear ht4 hb4 hz4 hb3 V2
    generalize W4.setCells w3.heap.size 0 TC.toList = w5 at H5 ⊢
    generalize w3.heap.size = g5 at H5 ⊢
    go_upto_region 9 with (first
      | (go_at_call 14; refine (C14.out _ _ H5.out.1).mono ?_; rintro ec w6 ⟨rfl, hb6⟩)
      | (refine wpList_alloc_arr (by rfl) 36 15 (by rfl) zero36 ?_; intro W7 G7 ht7 hb7 hG7 hz7; subst hG7)
      | (refine wpList_store_mid (by rfl) 36 (.tmp 9) (.tmp 40) (by rfl) w6.heap.size 0 TC (by rfl) (by rfl) (by rw [hTs.out.1]; exact ht7.there) (by rw [size36, hTs.out.1]) hTs.out.2 ?_))
    try simp only [Act.put, List.setIfInBounds_toArray, List.set_cons_zero, List.set_cons_succ]
    have H8 : Hid (View (W7.setCells w6.heap.size 0 TC.toList) v1 zsA ∧ Marked w1.heap.size (W7.setCells w6.heap.size 0 TC.toList) v2 zsA ∧ Below w.heap.size w (W7.setCells w6.heap.size 0 TC.toList) ∧ (W7.setCells w6.heap.size 0 TC.toList).rangeAt g5 0 TC.toList ∧ (W7.setCells w6.heap.size 0 TC.toList).rangeAt w6.heap.size 0 TC.toList ∧ g5 < (W7.setCells w6.heap.size 0 TC.toList).heap.size ∧ w6.heap.size < (W7.setCells w6.heap.size 0 TC.toList).heap.size) := by
      have bx : Below w6.heap.size w6 (W7.setCells w6.heap.size 0 TC.toList) := hb7.trans (setCells_below _ _ _ _ _ (Nat.le_refl _))
      have by2 : Below w5.heap.size w5 (W7.setCells w6.heap.size 0 TC.toList) := hb6.trans (bx.mono hb6.size)
      have hz8 : w6.heap.size < (W7.setCells w6.heap.size 0 TC.toList).heap.size := by
        have := (setCells_below w6.heap.size TC.toList 0 W7 w6.heap.size (Nat.le_refl _)).size
        omega
      refine ⟨H5.out.1.kept by2.block, H5.out.2.1.kept by2.block, H5.out.2.2.1.trans (by2.mono H5.out.2.2.1.size), fun j u hj => (by2.cell (p := ⟨g5, 0 + j, none⟩) H5.out.2.2.2.2).trans (H5.out.2.2.2.1 j u hj), World.rangeAt_setCells_same W7 w6.heap.size 0 TC.toList (by rw [Array.length_toList, hTs.out.1]; exact ht7.there), Nat.lt_of_lt_of_le H5.out.2.2.2.2 by2.size, hz8⟩
    clear ht7 hb7 hz7 hb6 H5
    generalize W7.setCells w6.heap.size 0 TC.toList = w8 at H8 ⊢
    generalize w6.heap.size = g8 at H8 ⊢
    have hr5 : ∀ u, Below w8.heap.size w8 u → u.rangeAt g5 0 TC.toList := fun u hu j v hj => (hu.cell (p := ⟨g5, 0 + j, none⟩) H8.out.2.2.2.2.2.1).trans (H8.out.2.2.2.1 j v hj)
    have hr8 : ∀ u, Below w8.heap.size w8 u → u.rangeAt g8 0 TC.toList := fun u hu j v hj => (hu.cell (p := ⟨g8, 0 + j, none⟩) H8.out.2.2.2.2.2.2).trans (H8.out.2.2.2.2.1 j v hj)
    have hk7 : (Try.prog.info? 27).map (·.size) = some TC.toList.length := by rw [size27, Array.length_toList, hTs.out.1]
    have hk6 : (Try.prog.info? 36).map (·.size) = some TC.toList.length := by rw [size36, Array.length_toList, hTs.out.1]
    have HR5 : Hid (∀ u, Below w8.heap.size w8 u → u.rangeAt g5 0 TC.toList) := hr5
    have HR8 : Hid (∀ u, Below w8.heap.size w8 u → u.rangeAt g8 0 TC.toList) := hr8
    clear hr5 hr8
    have HK : Hid ((Try.prog.info? 27).map (·.size) = some TC.toList.length ∧ (Try.prog.info? 36).map (·.size) = some TC.toList.length) := ⟨hk7, hk6⟩
    clear hk7 hk6
    go_upto_region 11 with (first
      | (go_at_call 7; refine (C7.out 0 _).mono ?_; rintro ed w9 ⟨rfl, hw9⟩; obtain rfl := hw9.symm)
      | (refine wpList_load_want (by rfl) 27 (.tmp 7) (by rfl) g5 0 (by rfl) TC.toList _ (HR5.out _ (Below.refl _ _)) Try.underlying27 rfl HK.out.1 ?_)
      | (refine wpList_load_want (by rfl) 36 (.tmp 9) (by rfl) g8 0 (by rfl) TC.toList _ (HR8.out _ (Below.refl _ _)) Try.underlying36 rfl HK.out.2 ?_)
      | (go_at_call 10; refine (C10.out _).mono ?_; rintro ee w10 ⟨rfl, hb10⟩; have B10 : Hid (Below w8.heap.size w8 w10) := hb10; clear hb10)
      | (go_at_call 15; refine (C15.out _ _ _ _ (H8.out.2.1.kept B10.out.block) (H8.out.1.kept B10.out.block)).mono ?_; rintro ef w11 ⟨rfl, hb11⟩; have B11 : Hid (Below w8.heap.size w8 w11) := B10.out.trans (hb11.mono B10.out.size); clear hb11))
    try simp only [Act.put, List.setIfInBounds_toArray, List.set_cons_zero, List.set_cons_succ]
    have hS0 : Below w8.heap.size w8 w11.drew := B11.out.drew
    refine wp_region_noPanic ?_
    refine wp_region_held_drew (S := fun u => Below w8.heap.size w8 u) (by kernel_rfl) (hS0) (fun _ => ?_)
    refine takeH_at 0 58 (.agg TC.toList.toArray) rfl rfl (by kernel_rfl) (by kernel_rfl) (by kernel_rfl) (fun _ _ _ h => h) hS0 (yieldsIf_load_mid (by rfl) 27 (.tmp 7) rfl g5 0 rfl TC.toList _ HR5.out Try.underlying27 rfl HK.out.1) ?_
    simp only [List.setIfInBounds_toArray, List.set_cons_zero, List.set_cons_succ]
    refine takeH_at 3 61 (.agg TC.toList.toArray) rfl rfl (by kernel_rfl) (by kernel_rfl) (by kernel_rfl) (fun _ _ _ h => h) hS0 (yieldsIf_load_mid (by rfl) 36 (.tmp 9) rfl g8 0 rfl TC.toList _ HR8.out Try.underlying36 rfl HK.out.2) ?_
    simp only [List.setIfInBounds_toArray, List.set_cons_zero, List.set_cons_succ]
    refine wpAnyH_ready (rs := [1]) (by kernel_rfl) (by simp) ?_
    refine AllReadyH.cons rfl (fun K hK => ?_) AllReadyH.nil
    go_simp
    refine (C8.out _).mono ?_
    rintro e91 q1 ⟨rfl, hq1⟩
    have hS1 : Below w8.heap.size w8 q1 := hS0.trans (hq1.mono hS0.size)
    go_wp2_with fail
    refine hK.out _ _ hS1 (fun _ => ?_)
    clear hK K
    try simp only [Act.put, List.setIfInBounds_toArray, List.set_cons_zero, List.set_cons_succ]
    refine wpAnyH_ready (rs := [2]) (by kernel_rfl) (by simp) ?_
    refine AllReadyH.cons rfl (fun K hK => ?_) AllReadyH.nil
    go_simp
    refine (C7.out J _).mono ?_
    rintro e92 q2 ⟨rfl, hq2⟩
    obtain rfl := hq2.symm
    have hS2 : Below w8.heap.size w8 q1 := hS1
    go_wp2_with fail
    refine hK.out _ _ hS2 (fun _ => ?_)
    clear hK K
    try simp only [Act.put, List.setIfInBounds_toArray, List.set_cons_zero, List.set_cons_succ]
    refine wpAnyH_ready (rs := [4]) (by kernel_rfl) (by simp) ?_
    refine AllReadyH.cons rfl (fun K hK => ?_) AllReadyH.nil
    go_simp
    refine (C9.out _).mono ?_
    rintro e93 q3 ⟨rfl, hq3⟩
    have hS3 : Below w8.heap.size w8 q3 := hS2.trans (hq3.mono hS2.size)
    go_wp2_with fail
    refine hK.out _ _ hS3 (fun _ => ?_)
    clear hK K
    try simp only [Act.put, List.setIfInBounds_toArray, List.set_cons_zero, List.set_cons_succ]
    refine takeH_at 5 63 (.bool true) rfl rfl (by kernel_rfl) (by kernel_rfl) (by kernel_rfl) (fun _ _ _ h => h) (hS3) (Or.inl ⟨by rfl, fun w' hS' => by go_simp⟩) ?_
    simp only [List.setIfInBounds_toArray, List.set_cons_zero, List.set_cons_succ]
    refine takeH_at 6 4 (.bool true) rfl rfl (by kernel_rfl) (by kernel_rfl) (by kernel_rfl) (fun _ _ _ h => h) (hS3) (Or.inl ⟨by rfl, fun w' hS' => by go_simp⟩) ?_
    simp only [List.setIfInBounds_toArray, List.set_cons_zero, List.set_cons_succ]
    refine wpAnyH_done (by kernel_rfl) ?_ _
    refine NoPanic.normal ?_
    go_wp2_with fail
    go_ret
    exact ⟨rfl, H8.out.2.2.1.trans (hS3.mono H8.out.2.2.1.size)⟩
  by_cases t2 : 64 < times
  · have hT1 : (t : Int) = 1 := by rw [ht.out]; unfold tmF; rw [if_neg (by omega)]; rfl
    rw [hT1] at C12
    have d1 : decide (times < 1) = false := by simp; omega
    have d2 : decide (64 < times) = true := by simp; omega
    clear ht hT1
    go_upto_region 7 with (first
      | (go_at_call 12; refine C12.out.mono ?_; rintro ea w1 ⟨v1, rfl, hv1, hb1⟩; have V1 : Hid (View w1 v1 zsA ∧ Below w.heap.size w w1) := ⟨hv1, hb1⟩; clear hv1 hb1)
      | (go_at_call 13; refine (C13.out _ _ V1.out.1).mono ?_; rintro eb w2 ⟨v2, rfl, hv2, hb2⟩; have V2 : Hid (View w2 v1 zsA ∧ Marked w1.heap.size w2 v2 zsA ∧ Below w.heap.size w w2) := ⟨V1.out.1.kept hb2.block, hv2, V1.out.2.trans (hb2.mono V1.out.2.size)⟩; clear hv2 hb2 V1))
    try simp only [Act.put, List.setIfInBounds_toArray, List.set_cons_zero, List.set_cons_succ]
    go_upto_region 8 with (first
      | (go_at_call 6; refine (C6.out _ _ V2.out.2.1.view).mono ?_; rintro ec w3 ⟨rfl, hb3⟩)
      | (refine wpList_alloc_arr (by rfl) 27 15 (by rfl) zero27 ?_; intro W4 G4 ht4 hb4 hG4 hz4; subst hG4)
      | (refine wpList_store_mid (by rfl) 27 (.tmp 7) (.tmp 35) (by rfl) w3.heap.size 0 TC (by rfl) (by rfl) (by rw [hTs.out.1]; exact ht4.there) (by rw [size27, hTs.out.1]) hTs.out.2 ?_))
    try simp only [Act.put, List.setIfInBounds_toArray, List.set_cons_zero, List.set_cons_succ]
    have H5 : Hid (View (W4.setCells w3.heap.size 0 TC.toList) v1 zsA ∧ Marked w1.heap.size (W4.setCells w3.heap.size 0 TC.toList) v2 zsA ∧ Below w.heap.size w (W4.setCells w3.heap.size 0 TC.toList) ∧ (W4.setCells w3.heap.size 0 TC.toList).rangeAt w3.heap.size 0 TC.toList ∧ w3.heap.size < (W4.setCells w3.heap.size 0 TC.toList).heap.size) := by
      have bx : Below w3.heap.size w3 (W4.setCells w3.heap.size 0 TC.toList) := hb4.trans (setCells_below _ _ _ _ _ (Nat.le_refl _))
      have by2 : Below w2.heap.size w2 (W4.setCells w3.heap.size 0 TC.toList) := hb3.trans (bx.mono hb3.size)
      refine ⟨V2.out.1.kept by2.block, V2.out.2.1.kept by2.block, V2.out.2.2.trans (by2.mono V2.out.2.2.size), World.rangeAt_setCells_same W4 w3.heap.size 0 TC.toList (by rw [Array.length_toList, hTs.out.1]; exact ht4.there), ?_⟩
      have := (setCells_below w3.heap.size TC.toList 0 W4 w3.heap.size (Nat.le_refl _)).size
      omega
    clear ht4 hb4 hz4 hb3 V2
    generalize W4.setCells w3.heap.size 0 TC.toList = w5 at H5 ⊢
    generalize w3.heap.size = g5 at H5 ⊢
    go_upto_region 9 with (first
      | (go_at_call 14; refine (C14.out _ _ H5.out.1).mono ?_; rintro ec w6 ⟨rfl, hb6⟩)
      | (refine wpList_alloc_arr (by rfl) 36 15 (by rfl) zero36 ?_; intro W7 G7 ht7 hb7 hG7 hz7; subst hG7)
      | (refine wpList_store_mid (by rfl) 36 (.tmp 9) (.tmp 40) (by rfl) w6.heap.size 0 TC (by rfl) (by rfl) (by rw [hTs.out.1]; exact ht7.there) (by rw [size36, hTs.out.1]) hTs.out.2 ?_))
    try simp only [Act.put, List.setIfInBounds_toArray, List.set_cons_zero, List.set_cons_succ]
    have H8 : Hid (View (W7.setCells w6.heap.size 0 TC.toList) v1 zsA ∧ Marked w1.heap.size (W7.setCells w6.heap.size 0 TC.toList) v2 zsA ∧ Below w.heap.size w (W7.setCells w6.heap.size 0 TC.toList) ∧ (W7.setCells w6.heap.size 0 TC.toList).rangeAt g5 0 TC.toList ∧ (W7.setCells w6.heap.size 0 TC.toList).rangeAt w6.heap.size 0 TC.toList ∧ g5 < (W7.setCells w6.heap.size 0 TC.toList).heap.size ∧ w6.heap.size < (W7.setCells w6.heap.size 0 TC.toList).heap.size) := by
      have bx : Below w6.heap.size w6 (W7.setCells w6.heap.size 0 TC.toList) := hb7.trans (setCells_below _ _ _ _ _ (Nat.le_refl _))
      have by2 : Below w5.heap.size w5 (W7.setCells w6.heap.size 0 TC.toList) := hb6.trans (bx.mono hb6.size)
      have hz8 : w6.heap.size < (W7.setCells w6.heap.size 0 TC.toList).heap.size := by
        have := (setCells_below w6.heap.size TC.toList 0 W7 w6.heap.size (Nat.le_refl _)).size
        omega
      refine ⟨H5.out.1.kept by2.block, H5.out.2.1.kept by2.block, H5.out.2.2.1.trans (by2.mono H5.out.2.2.1.size), fun j u hj => (by2.cell (p := ⟨g5, 0 + j, none⟩) H5.out.2.2.2.2).trans (H5.out.2.2.2.1 j u hj), World.rangeAt_setCells_same W7 w6.heap.size 0 TC.toList (by rw [Array.length_toList, hTs.out.1]; exact ht7.there), Nat.lt_of_lt_of_le H5.out.2.2.2.2 by2.size, hz8⟩
    clear ht7 hb7 hz7 hb6 H5
    generalize W7.setCells w6.heap.size 0 TC.toList = w8 at H8 ⊢
    generalize w6.heap.size = g8 at H8 ⊢
    have hr5 : ∀ u, Below w8.heap.size w8 u → u.rangeAt g5 0 TC.toList := fun u hu j v hj => (hu.cell (p := ⟨g5, 0 + j, none⟩) H8.out.2.2.2.2.2.1).trans (H8.out.2.2.2.1 j v hj)
    have hr8 : ∀ u, Below w8.heap.size w8 u → u.rangeAt g8 0 TC.toList := fun u hu j v hj => (hu.cell (p := ⟨g8, 0 + j, none⟩) H8.out.2.2.2.2.2.2).trans (H8.out.2.2.2.2.1 j v hj)
    have hk7 : (Try.prog.info? 27).map (·.size) = some TC.toList.length := by rw [size27, Array.length_toList, hTs.out.1]
    have hk6 : (Try.prog.info? 36).map (·.size) = some TC.toList.length := by rw [size36, Array.length_toList, hTs.out.1]
    have HR5 : Hid (∀ u, Below w8.heap.size w8 u → u.rangeAt g5 0 TC.toList) := hr5
    have HR8 : Hid (∀ u, Below w8.heap.size w8 u → u.rangeAt g8 0 TC.toList) := hr8
    clear hr5 hr8
    have HK : Hid ((Try.prog.info? 27).map (·.size) = some TC.toList.length ∧ (Try.prog.info? 36).map (·.size) = some TC.toList.length) := ⟨hk7, hk6⟩
    clear hk7 hk6
    go_upto_region 11 with (first
      | (go_at_call 7; refine (C7.out 0 _).mono ?_; rintro ed w9 ⟨rfl, hw9⟩; obtain rfl := hw9.symm)
      | (refine wpList_load_want (by rfl) 27 (.tmp 7) (by rfl) g5 0 (by rfl) TC.toList _ (HR5.out _ (Below.refl _ _)) Try.underlying27 rfl HK.out.1 ?_)
      | (refine wpList_load_want (by rfl) 36 (.tmp 9) (by rfl) g8 0 (by rfl) TC.toList _ (HR8.out _ (Below.refl _ _)) Try.underlying36 rfl HK.out.2 ?_)
      | (go_at_call 10; refine (C10.out _).mono ?_; rintro ee w10 ⟨rfl, hb10⟩; have B10 : Hid (Below w8.heap.size w8 w10) := hb10; clear hb10)
      | (go_at_call 15; refine (C15.out _ _ _ _ (H8.out.2.1.kept B10.out.block) (H8.out.1.kept B10.out.block)).mono ?_; rintro ef w11 ⟨rfl, hb11⟩; have B11 : Hid (Below w8.heap.size w8 w11) := B10.out.trans (hb11.mono B10.out.size); clear hb11))
    try simp only [Act.put, List.setIfInBounds_toArray, List.set_cons_zero, List.set_cons_succ]
    have hS0 : Below w8.heap.size w8 w11.drew := B11.out.drew
    refine wp_region_noPanic ?_
    refine wp_region_held_drew (S := fun u => Below w8.heap.size w8 u) (by kernel_rfl) (hS0) (fun _ => ?_)
    refine takeH_at 0 58 (.agg TC.toList.toArray) rfl rfl (by kernel_rfl) (by kernel_rfl) (by kernel_rfl) (fun _ _ _ h => h) hS0 (yieldsIf_load_mid (by rfl) 27 (.tmp 7) rfl g5 0 rfl TC.toList _ HR5.out Try.underlying27 rfl HK.out.1) ?_
    simp only [List.setIfInBounds_toArray, List.set_cons_zero, List.set_cons_succ]
    refine takeH_at 3 61 (.agg TC.toList.toArray) rfl rfl (by kernel_rfl) (by kernel_rfl) (by kernel_rfl) (fun _ _ _ h => h) hS0 (yieldsIf_load_mid (by rfl) 36 (.tmp 9) rfl g8 0 rfl TC.toList _ HR8.out Try.underlying36 rfl HK.out.2) ?_
    simp only [List.setIfInBounds_toArray, List.set_cons_zero, List.set_cons_succ]
    refine wpAnyH_ready (rs := [1]) (by kernel_rfl) (by simp) ?_
    refine AllReadyH.cons rfl (fun K hK => ?_) AllReadyH.nil
    go_simp
    refine (C8.out _).mono ?_
    rintro e91 q1 ⟨rfl, hq1⟩
    have hS1 : Below w8.heap.size w8 q1 := hS0.trans (hq1.mono hS0.size)
    go_wp2_with fail
    refine hK.out _ _ hS1 (fun _ => ?_)
    clear hK K
    try simp only [Act.put, List.setIfInBounds_toArray, List.set_cons_zero, List.set_cons_succ]
    refine wpAnyH_ready (rs := [2]) (by kernel_rfl) (by simp) ?_
    refine AllReadyH.cons rfl (fun K hK => ?_) AllReadyH.nil
    go_simp
    refine (C7.out J _).mono ?_
    rintro e92 q2 ⟨rfl, hq2⟩
    obtain rfl := hq2.symm
    have hS2 : Below w8.heap.size w8 q1 := hS1
    go_wp2_with fail
    refine hK.out _ _ hS2 (fun _ => ?_)
    clear hK K
    try simp only [Act.put, List.setIfInBounds_toArray, List.set_cons_zero, List.set_cons_succ]
    refine wpAnyH_ready (rs := [4]) (by kernel_rfl) (by simp) ?_
    refine AllReadyH.cons rfl (fun K hK => ?_) AllReadyH.nil
    go_simp
    refine (C9.out _).mono ?_
    rintro e93 q3 ⟨rfl, hq3⟩
    have hS3 : Below w8.heap.size w8 q3 := hS2.trans (hq3.mono hS2.size)
    go_wp2_with fail
    refine hK.out _ _ hS3 (fun _ => ?_)
    clear hK K
    try simp only [Act.put, List.setIfInBounds_toArray, List.set_cons_zero, List.set_cons_succ]
    refine takeH_at 5 63 (.bool true) rfl rfl (by kernel_rfl) (by kernel_rfl) (by kernel_rfl) (fun _ _ _ h => h) (hS3) (Or.inl ⟨by rfl, fun w' hS' => by go_simp⟩) ?_
    simp only [List.setIfInBounds_toArray, List.set_cons_zero, List.set_cons_succ]
    refine takeH_at 6 4 (.bool true) rfl rfl (by kernel_rfl) (by kernel_rfl) (by kernel_rfl) (fun _ _ _ h => h) (hS3) (Or.inl ⟨by rfl, fun w' hS' => by go_simp⟩) ?_
    simp only [List.setIfInBounds_toArray, List.set_cons_zero, List.set_cons_succ]
    refine wpAnyH_done (by kernel_rfl) ?_ _
    refine NoPanic.normal ?_
    go_wp2_with fail
    go_ret
    exact ⟨rfl, H8.out.2.2.1.trans (hS3.mono H8.out.2.2.1.size)⟩
  have pm : 0 ≤ times * (n : Int) ∧ times * (n : Int) ≤ 4194304 := by
    have e : times * (n : Int) = ((times.toNat * n : Nat) : Int) := by rw [Int.natCast_mul, Int.toNat_of_nonneg (by omega)]
    have := Nat.mul_le_mul (show times.toNat ≤ 64 by omega) (show n ≤ 65536 by omega)
    omega
  have ew : wrap64 (times * (n : Int)) = times * (n : Int) := wrap64_small _ (by omega) (by omega)
  have d1 : decide (times < 1) = false := by simp; omega
  have d2 : decide (64 < times) = false := by simp; omega
  by_cases t3 : 131072 < times * (n : Int)
  · have hT1 : (t : Int) = 1 := by rw [ht.out]; unfold tmF; rw [if_neg (by omega)]; rfl
    rw [hT1] at C12
    have d3 : decide (131072 < times * (n : Int)) = true := by simp; omega
    clear ht hT1
    go_upto_region 7 with (first
      | (go_at_call 12; refine C12.out.mono ?_; rintro ea w1 ⟨v1, rfl, hv1, hb1⟩; have V1 : Hid (View w1 v1 zsA ∧ Below w.heap.size w w1) := ⟨hv1, hb1⟩; clear hv1 hb1)
      | (go_at_call 13; refine (C13.out _ _ V1.out.1).mono ?_; rintro eb w2 ⟨v2, rfl, hv2, hb2⟩; have V2 : Hid (View w2 v1 zsA ∧ Marked w1.heap.size w2 v2 zsA ∧ Below w.heap.size w w2) := ⟨V1.out.1.kept hb2.block, hv2, V1.out.2.trans (hb2.mono V1.out.2.size)⟩; clear hv2 hb2 V1))
    try simp only [Act.put, List.setIfInBounds_toArray, List.set_cons_zero, List.set_cons_succ]
    go_upto_region 8 with (first
      | (go_at_call 6; refine (C6.out _ _ V2.out.2.1.view).mono ?_; rintro ec w3 ⟨rfl, hb3⟩)
      | (refine wpList_alloc_arr (by rfl) 27 15 (by rfl) zero27 ?_; intro W4 G4 ht4 hb4 hG4 hz4; subst hG4)
      | (refine wpList_store_mid (by rfl) 27 (.tmp 7) (.tmp 35) (by rfl) w3.heap.size 0 TC (by rfl) (by rfl) (by rw [hTs.out.1]; exact ht4.there) (by rw [size27, hTs.out.1]) hTs.out.2 ?_))
    try simp only [Act.put, List.setIfInBounds_toArray, List.set_cons_zero, List.set_cons_succ]
    have H5 : Hid (View (W4.setCells w3.heap.size 0 TC.toList) v1 zsA ∧ Marked w1.heap.size (W4.setCells w3.heap.size 0 TC.toList) v2 zsA ∧ Below w.heap.size w (W4.setCells w3.heap.size 0 TC.toList) ∧ (W4.setCells w3.heap.size 0 TC.toList).rangeAt w3.heap.size 0 TC.toList ∧ w3.heap.size < (W4.setCells w3.heap.size 0 TC.toList).heap.size) := by
      have bx : Below w3.heap.size w3 (W4.setCells w3.heap.size 0 TC.toList) := hb4.trans (setCells_below _ _ _ _ _ (Nat.le_refl _))
      have by2 : Below w2.heap.size w2 (W4.setCells w3.heap.size 0 TC.toList) := hb3.trans (bx.mono hb3.size)
      refine ⟨V2.out.1.kept by2.block, V2.out.2.1.kept by2.block, V2.out.2.2.trans (by2.mono V2.out.2.2.size), World.rangeAt_setCells_same W4 w3.heap.size 0 TC.toList (by rw [Array.length_toList, hTs.out.1]; exact ht4.there), ?_⟩
      have := (setCells_below w3.heap.size TC.toList 0 W4 w3.heap.size (Nat.le_refl _)).size
      omega
    clear ht4 hb4 hz4 hb3 V2
    generalize W4.setCells w3.heap.size 0 TC.toList = w5 at H5 ⊢
    generalize w3.heap.size = g5 at H5 ⊢
    go_upto_region 9 with (first
      | (go_at_call 14; refine (C14.out _ _ H5.out.1).mono ?_; rintro ec w6 ⟨rfl, hb6⟩)
      | (refine wpList_alloc_arr (by rfl) 36 15 (by rfl) zero36 ?_; intro W7 G7 ht7 hb7 hG7 hz7; subst hG7)
      | (refine wpList_store_mid (by rfl) 36 (.tmp 9) (.tmp 40) (by rfl) w6.heap.size 0 TC (by rfl) (by rfl) (by rw [hTs.out.1]; exact ht7.there) (by rw [size36, hTs.out.1]) hTs.out.2 ?_))
    try simp only [Act.put, List.setIfInBounds_toArray, List.set_cons_zero, List.set_cons_succ]
    have H8 : Hid (View (W7.setCells w6.heap.size 0 TC.toList) v1 zsA ∧ Marked w1.heap.size (W7.setCells w6.heap.size 0 TC.toList) v2 zsA ∧ Below w.heap.size w (W7.setCells w6.heap.size 0 TC.toList) ∧ (W7.setCells w6.heap.size 0 TC.toList).rangeAt g5 0 TC.toList ∧ (W7.setCells w6.heap.size 0 TC.toList).rangeAt w6.heap.size 0 TC.toList ∧ g5 < (W7.setCells w6.heap.size 0 TC.toList).heap.size ∧ w6.heap.size < (W7.setCells w6.heap.size 0 TC.toList).heap.size) := by
      have bx : Below w6.heap.size w6 (W7.setCells w6.heap.size 0 TC.toList) := hb7.trans (setCells_below _ _ _ _ _ (Nat.le_refl _))
      have by2 : Below w5.heap.size w5 (W7.setCells w6.heap.size 0 TC.toList) := hb6.trans (bx.mono hb6.size)
      have hz8 : w6.heap.size < (W7.setCells w6.heap.size 0 TC.toList).heap.size := by
        have := (setCells_below w6.heap.size TC.toList 0 W7 w6.heap.size (Nat.le_refl _)).size
        omega
      refine ⟨H5.out.1.kept by2.block, H5.out.2.1.kept by2.block, H5.out.2.2.1.trans (by2.mono H5.out.2.2.1.size), fun j u hj => (by2.cell (p := ⟨g5, 0 + j, none⟩) H5.out.2.2.2.2).trans (H5.out.2.2.2.1 j u hj), World.rangeAt_setCells_same W7 w6.heap.size 0 TC.toList (by rw [Array.length_toList, hTs.out.1]; exact ht7.there), Nat.lt_of_lt_of_le H5.out.2.2.2.2 by2.size, hz8⟩
    clear ht7 hb7 hz7 hb6 H5
    generalize W7.setCells w6.heap.size 0 TC.toList = w8 at H8 ⊢
    generalize w6.heap.size = g8 at H8 ⊢
    have hr5 : ∀ u, Below w8.heap.size w8 u → u.rangeAt g5 0 TC.toList := fun u hu j v hj => (hu.cell (p := ⟨g5, 0 + j, none⟩) H8.out.2.2.2.2.2.1).trans (H8.out.2.2.2.1 j v hj)
    have hr8 : ∀ u, Below w8.heap.size w8 u → u.rangeAt g8 0 TC.toList := fun u hu j v hj => (hu.cell (p := ⟨g8, 0 + j, none⟩) H8.out.2.2.2.2.2.2).trans (H8.out.2.2.2.2.1 j v hj)
    have hk7 : (Try.prog.info? 27).map (·.size) = some TC.toList.length := by rw [size27, Array.length_toList, hTs.out.1]
    have hk6 : (Try.prog.info? 36).map (·.size) = some TC.toList.length := by rw [size36, Array.length_toList, hTs.out.1]
    have HR5 : Hid (∀ u, Below w8.heap.size w8 u → u.rangeAt g5 0 TC.toList) := hr5
    have HR8 : Hid (∀ u, Below w8.heap.size w8 u → u.rangeAt g8 0 TC.toList) := hr8
    clear hr5 hr8
    have HK : Hid ((Try.prog.info? 27).map (·.size) = some TC.toList.length ∧ (Try.prog.info? 36).map (·.size) = some TC.toList.length) := ⟨hk7, hk6⟩
    clear hk7 hk6
    go_upto_region 11 with (first
      | (go_at_call 7; refine (C7.out 0 _).mono ?_; rintro ed w9 ⟨rfl, hw9⟩; obtain rfl := hw9.symm)
      | (refine wpList_load_want (by rfl) 27 (.tmp 7) (by rfl) g5 0 (by rfl) TC.toList _ (HR5.out _ (Below.refl _ _)) Try.underlying27 rfl HK.out.1 ?_)
      | (refine wpList_load_want (by rfl) 36 (.tmp 9) (by rfl) g8 0 (by rfl) TC.toList _ (HR8.out _ (Below.refl _ _)) Try.underlying36 rfl HK.out.2 ?_)
      | (go_at_call 10; refine (C10.out _).mono ?_; rintro ee w10 ⟨rfl, hb10⟩; have B10 : Hid (Below w8.heap.size w8 w10) := hb10; clear hb10)
      | (go_at_call 15; refine (C15.out _ _ _ _ (H8.out.2.1.kept B10.out.block) (H8.out.1.kept B10.out.block)).mono ?_; rintro ef w11 ⟨rfl, hb11⟩; have B11 : Hid (Below w8.heap.size w8 w11) := B10.out.trans (hb11.mono B10.out.size); clear hb11))
    try simp only [Act.put, List.setIfInBounds_toArray, List.set_cons_zero, List.set_cons_succ]
    have hS0 : Below w8.heap.size w8 w11.drew := B11.out.drew
    refine wp_region_noPanic ?_
    refine wp_region_held_drew (S := fun u => Below w8.heap.size w8 u) (by kernel_rfl) (hS0) (fun _ => ?_)
    refine takeH_at 0 58 (.agg TC.toList.toArray) rfl rfl (by kernel_rfl) (by kernel_rfl) (by kernel_rfl) (fun _ _ _ h => h) hS0 (yieldsIf_load_mid (by rfl) 27 (.tmp 7) rfl g5 0 rfl TC.toList _ HR5.out Try.underlying27 rfl HK.out.1) ?_
    simp only [List.setIfInBounds_toArray, List.set_cons_zero, List.set_cons_succ]
    refine takeH_at 3 61 (.agg TC.toList.toArray) rfl rfl (by kernel_rfl) (by kernel_rfl) (by kernel_rfl) (fun _ _ _ h => h) hS0 (yieldsIf_load_mid (by rfl) 36 (.tmp 9) rfl g8 0 rfl TC.toList _ HR8.out Try.underlying36 rfl HK.out.2) ?_
    simp only [List.setIfInBounds_toArray, List.set_cons_zero, List.set_cons_succ]
    refine wpAnyH_ready (rs := [1]) (by kernel_rfl) (by simp) ?_
    refine AllReadyH.cons rfl (fun K hK => ?_) AllReadyH.nil
    go_simp
    refine (C8.out _).mono ?_
    rintro e91 q1 ⟨rfl, hq1⟩
    have hS1 : Below w8.heap.size w8 q1 := hS0.trans (hq1.mono hS0.size)
    go_wp2_with fail
    refine hK.out _ _ hS1 (fun _ => ?_)
    clear hK K
    try simp only [Act.put, List.setIfInBounds_toArray, List.set_cons_zero, List.set_cons_succ]
    refine wpAnyH_ready (rs := [2]) (by kernel_rfl) (by simp) ?_
    refine AllReadyH.cons rfl (fun K hK => ?_) AllReadyH.nil
    go_simp
    refine (C7.out J _).mono ?_
    rintro e92 q2 ⟨rfl, hq2⟩
    obtain rfl := hq2.symm
    have hS2 : Below w8.heap.size w8 q1 := hS1
    go_wp2_with fail
    refine hK.out _ _ hS2 (fun _ => ?_)
    clear hK K
    try simp only [Act.put, List.setIfInBounds_toArray, List.set_cons_zero, List.set_cons_succ]
    refine wpAnyH_ready (rs := [4]) (by kernel_rfl) (by simp) ?_
    refine AllReadyH.cons rfl (fun K hK => ?_) AllReadyH.nil
    go_simp
    refine (C9.out _).mono ?_
    rintro e93 q3 ⟨rfl, hq3⟩
    have hS3 : Below w8.heap.size w8 q3 := hS2.trans (hq3.mono hS2.size)
    go_wp2_with fail
    refine hK.out _ _ hS3 (fun _ => ?_)
    clear hK K
    try simp only [Act.put, List.setIfInBounds_toArray, List.set_cons_zero, List.set_cons_succ]
    refine takeH_at 5 63 (.bool true) rfl rfl (by kernel_rfl) (by kernel_rfl) (by kernel_rfl) (fun _ _ _ h => h) (hS3) (Or.inl ⟨by rfl, fun w' hS' => by go_simp⟩) ?_
    simp only [List.setIfInBounds_toArray, List.set_cons_zero, List.set_cons_succ]
    refine takeH_at 6 4 (.bool true) rfl rfl (by kernel_rfl) (by kernel_rfl) (by kernel_rfl) (fun _ _ _ h => h) (hS3) (Or.inl ⟨by rfl, fun w' hS' => by go_simp⟩) ?_
    simp only [List.setIfInBounds_toArray, List.set_cons_zero, List.set_cons_succ]
    refine wpAnyH_done (by kernel_rfl) ?_ _
    refine NoPanic.normal ?_
    go_wp2_with fail
    go_ret
    exact ⟨rfl, H8.out.2.2.1.trans (hS3.mono H8.out.2.2.1.size)⟩
  · have hT1 : (t : Int) = times := by rw [ht.out]; unfold tmF; rw [if_pos (by omega)]; omega
    rw [hT1] at C12
    have d3 : decide (131072 < times * (n : Int)) = false := by simp; omega
    clear ht hT1
    go_upto_region 7 with (first
      | (go_at_call 12; refine C12.out.mono ?_; rintro ea w1 ⟨v1, rfl, hv1, hb1⟩; have V1 : Hid (View w1 v1 zsA ∧ Below w.heap.size w w1) := ⟨hv1, hb1⟩; clear hv1 hb1)
      | (go_at_call 13; refine (C13.out _ _ V1.out.1).mono ?_; rintro eb w2 ⟨v2, rfl, hv2, hb2⟩; have V2 : Hid (View w2 v1 zsA ∧ Marked w1.heap.size w2 v2 zsA ∧ Below w.heap.size w w2) := ⟨V1.out.1.kept hb2.block, hv2, V1.out.2.trans (hb2.mono V1.out.2.size)⟩; clear hv2 hb2 V1))
    try simp only [Act.put, List.setIfInBounds_toArray, List.set_cons_zero, List.set_cons_succ]
    go_upto_region 8 with (first
      | (go_at_call 6; refine (C6.out _ _ V2.out.2.1.view).mono ?_; rintro ec w3 ⟨rfl, hb3⟩)
      | (refine wpList_alloc_arr (by rfl) 27 15 (by rfl) zero27 ?_; intro W4 G4 ht4 hb4 hG4 hz4; subst hG4)
      | (refine wpList_store_mid (by rfl) 27 (.tmp 7) (.tmp 35) (by rfl) w3.heap.size 0 TC (by rfl) (by rfl) (by rw [hTs.out.1]; exact ht4.there) (by rw [size27, hTs.out.1]) hTs.out.2 ?_))
    try simp only [Act.put, List.setIfInBounds_toArray, List.set_cons_zero, List.set_cons_succ]
    have H5 : Hid (View (W4.setCells w3.heap.size 0 TC.toList) v1 zsA ∧ Marked w1.heap.size (W4.setCells w3.heap.size 0 TC.toList) v2 zsA ∧ Below w.heap.size w (W4.setCells w3.heap.size 0 TC.toList) ∧ (W4.setCells w3.heap.size 0 TC.toList).rangeAt w3.heap.size 0 TC.toList ∧ w3.heap.size < (W4.setCells w3.heap.size 0 TC.toList).heap.size) := by
      have bx : Below w3.heap.size w3 (W4.setCells w3.heap.size 0 TC.toList) := hb4.trans (setCells_below _ _ _ _ _ (Nat.le_refl _))
      have by2 : Below w2.heap.size w2 (W4.setCells w3.heap.size 0 TC.toList) := hb3.trans (bx.mono hb3.size)
      refine ⟨V2.out.1.kept by2.block, V2.out.2.1.kept by2.block, V2.out.2.2.trans (by2.mono V2.out.2.2.size), World.rangeAt_setCells_same W4 w3.heap.size 0 TC.toList (by rw [Array.length_toList, hTs.out.1]; exact ht4.there), ?_⟩
      have := (setCells_below w3.heap.size TC.toList 0 W4 w3.heap.size (Nat.le_refl _)).size
      omega
    clear ht4 hb4 hz4 hb3 V2
    generalize W4.setCells w3.heap.size 0 TC.toList = w5 at H5 ⊢
    generalize w3.heap.size = g5 at H5 ⊢
    go_upto_region 9 with (first
      | (go_at_call 14; refine (C14.out _ _ H5.out.1).mono ?_; rintro ec w6 ⟨rfl, hb6⟩)
      | (refine wpList_alloc_arr (by rfl) 36 15 (by rfl) zero36 ?_; intro W7 G7 ht7 hb7 hG7 hz7; subst hG7)
      | (refine wpList_store_mid (by rfl) 36 (.tmp 9) (.tmp 40) (by rfl) w6.heap.size 0 TC (by rfl) (by rfl) (by rw [hTs.out.1]; exact ht7.there) (by rw [size36, hTs.out.1]) hTs.out.2 ?_))
    try simp only [Act.put, List.setIfInBounds_toArray, List.set_cons_zero, List.set_cons_succ]
    have H8 : Hid (View (W7.setCells w6.heap.size 0 TC.toList) v1 zsA ∧ Marked w1.heap.size (W7.setCells w6.heap.size 0 TC.toList) v2 zsA ∧ Below w.heap.size w (W7.setCells w6.heap.size 0 TC.toList) ∧ (W7.setCells w6.heap.size 0 TC.toList).rangeAt g5 0 TC.toList ∧ (W7.setCells w6.heap.size 0 TC.toList).rangeAt w6.heap.size 0 TC.toList ∧ g5 < (W7.setCells w6.heap.size 0 TC.toList).heap.size ∧ w6.heap.size < (W7.setCells w6.heap.size 0 TC.toList).heap.size) := by
      have bx : Below w6.heap.size w6 (W7.setCells w6.heap.size 0 TC.toList) := hb7.trans (setCells_below _ _ _ _ _ (Nat.le_refl _))
      have by2 : Below w5.heap.size w5 (W7.setCells w6.heap.size 0 TC.toList) := hb6.trans (bx.mono hb6.size)
      have hz8 : w6.heap.size < (W7.setCells w6.heap.size 0 TC.toList).heap.size := by
        have := (setCells_below w6.heap.size TC.toList 0 W7 w6.heap.size (Nat.le_refl _)).size
        omega
      refine ⟨H5.out.1.kept by2.block, H5.out.2.1.kept by2.block, H5.out.2.2.1.trans (by2.mono H5.out.2.2.1.size), fun j u hj => (by2.cell (p := ⟨g5, 0 + j, none⟩) H5.out.2.2.2.2).trans (H5.out.2.2.2.1 j u hj), World.rangeAt_setCells_same W7 w6.heap.size 0 TC.toList (by rw [Array.length_toList, hTs.out.1]; exact ht7.there), Nat.lt_of_lt_of_le H5.out.2.2.2.2 by2.size, hz8⟩
    clear ht7 hb7 hz7 hb6 H5
    generalize W7.setCells w6.heap.size 0 TC.toList = w8 at H8 ⊢
    generalize w6.heap.size = g8 at H8 ⊢
    have hr5 : ∀ u, Below w8.heap.size w8 u → u.rangeAt g5 0 TC.toList := fun u hu j v hj => (hu.cell (p := ⟨g5, 0 + j, none⟩) H8.out.2.2.2.2.2.1).trans (H8.out.2.2.2.1 j v hj)
    have hr8 : ∀ u, Below w8.heap.size w8 u → u.rangeAt g8 0 TC.toList := fun u hu j v hj => (hu.cell (p := ⟨g8, 0 + j, none⟩) H8.out.2.2.2.2.2.2).trans (H8.out.2.2.2.2.1 j v hj)
    have hk7 : (Try.prog.info? 27).map (·.size) = some TC.toList.length := by rw [size27, Array.length_toList, hTs.out.1]
    have hk6 : (Try.prog.info? 36).map (·.size) = some TC.toList.length := by rw [size36, Array.length_toList, hTs.out.1]
    have HR5 : Hid (∀ u, Below w8.heap.size w8 u → u.rangeAt g5 0 TC.toList) := hr5
    have HR8 : Hid (∀ u, Below w8.heap.size w8 u → u.rangeAt g8 0 TC.toList) := hr8
    clear hr5 hr8
    have HK : Hid ((Try.prog.info? 27).map (·.size) = some TC.toList.length ∧ (Try.prog.info? 36).map (·.size) = some TC.toList.length) := ⟨hk7, hk6⟩
    clear hk7 hk6
    go_upto_region 11 with (first
      | (go_at_call 7; refine (C7.out 0 _).mono ?_; rintro ed w9 ⟨rfl, hw9⟩; obtain rfl := hw9.symm)
      | (refine wpList_load_want (by rfl) 27 (.tmp 7) (by rfl) g5 0 (by rfl) TC.toList _ (HR5.out _ (Below.refl _ _)) Try.underlying27 rfl HK.out.1 ?_)
      | (refine wpList_load_want (by rfl) 36 (.tmp 9) (by rfl) g8 0 (by rfl) TC.toList _ (HR8.out _ (Below.refl _ _)) Try.underlying36 rfl HK.out.2 ?_)
      | (go_at_call 10; refine (C10.out _).mono ?_; rintro ee w10 ⟨rfl, hb10⟩; have B10 : Hid (Below w8.heap.size w8 w10) := hb10; clear hb10)
      | (go_at_call 15; refine (C15.out _ _ _ _ (H8.out.2.1.kept B10.out.block) (H8.out.1.kept B10.out.block)).mono ?_; rintro ef w11 ⟨rfl, hb11⟩; have B11 : Hid (Below w8.heap.size w8 w11) := B10.out.trans (hb11.mono B10.out.size); clear hb11))
    try simp only [Act.put, List.setIfInBounds_toArray, List.set_cons_zero, List.set_cons_succ]
    have hS0 : Below w8.heap.size w8 w11.drew := B11.out.drew
    refine wp_region_noPanic ?_
    refine wp_region_held_drew (S := fun u => Below w8.heap.size w8 u) (by kernel_rfl) (hS0) (fun _ => ?_)
    refine takeH_at 0 58 (.agg TC.toList.toArray) rfl rfl (by kernel_rfl) (by kernel_rfl) (by kernel_rfl) (fun _ _ _ h => h) hS0 (yieldsIf_load_mid (by rfl) 27 (.tmp 7) rfl g5 0 rfl TC.toList _ HR5.out Try.underlying27 rfl HK.out.1) ?_
    simp only [List.setIfInBounds_toArray, List.set_cons_zero, List.set_cons_succ]
    refine takeH_at 3 61 (.agg TC.toList.toArray) rfl rfl (by kernel_rfl) (by kernel_rfl) (by kernel_rfl) (fun _ _ _ h => h) hS0 (yieldsIf_load_mid (by rfl) 36 (.tmp 9) rfl g8 0 rfl TC.toList _ HR8.out Try.underlying36 rfl HK.out.2) ?_
    simp only [List.setIfInBounds_toArray, List.set_cons_zero, List.set_cons_succ]
    refine wpAnyH_ready (rs := [1]) (by kernel_rfl) (by simp) ?_
    refine AllReadyH.cons rfl (fun K hK => ?_) AllReadyH.nil
    go_simp
    refine (C8.out _).mono ?_
    rintro e91 q1 ⟨rfl, hq1⟩
    have hS1 : Below w8.heap.size w8 q1 := hS0.trans (hq1.mono hS0.size)
    go_wp2_with fail
    refine hK.out _ _ hS1 (fun _ => ?_)
    clear hK K
    try simp only [Act.put, List.setIfInBounds_toArray, List.set_cons_zero, List.set_cons_succ]
    refine wpAnyH_ready (rs := [2]) (by kernel_rfl) (by simp) ?_
    refine AllReadyH.cons rfl (fun K hK => ?_) AllReadyH.nil
    go_simp
    refine (C7.out J _).mono ?_
    rintro e92 q2 ⟨rfl, hq2⟩
    obtain rfl := hq2.symm
    have hS2 : Below w8.heap.size w8 q1 := hS1
    go_wp2_with fail
    refine hK.out _ _ hS2 (fun _ => ?_)
    clear hK K
    try simp only [Act.put, List.setIfInBounds_toArray, List.set_cons_zero, List.set_cons_succ]
    refine wpAnyH_ready (rs := [4]) (by kernel_rfl) (by simp) ?_
    refine AllReadyH.cons rfl (fun K hK => ?_) AllReadyH.nil
    go_simp
    refine (C9.out _).mono ?_
    rintro e93 q3 ⟨rfl, hq3⟩
    have hS3 : Below w8.heap.size w8 q3 := hS2.trans (hq3.mono hS2.size)
    go_wp2_with fail
    refine hK.out _ _ hS3 (fun _ => ?_)
    clear hK K
    try simp only [Act.put, List.setIfInBounds_toArray, List.set_cons_zero, List.set_cons_succ]
    refine takeH_at 5 63 (.bool true) rfl rfl (by kernel_rfl) (by kernel_rfl) (by kernel_rfl) (fun _ _ _ h => h) (hS3) (Or.inl ⟨by rfl, fun w' hS' => by go_simp⟩) ?_
    simp only [List.setIfInBounds_toArray, List.set_cons_zero, List.set_cons_succ]
    refine takeH_at 6 4 (.bool true) rfl rfl (by kernel_rfl) (by kernel_rfl) (by kernel_rfl) (fun _ _ _ h => h) (hS3) (Or.inl ⟨by rfl, fun w' hS' => by go_simp⟩) ?_
    simp only [List.setIfInBounds_toArray, List.set_cons_zero, List.set_cons_succ]
    refine wpAnyH_done (by kernel_rfl) ?_ _
    refine NoPanic.normal ?_
    go_wp2_with fail
    go_ret
    exact ⟨rfl, H8.out.2.2.1.trans (hS3.mono H8.out.2.2.1.size)⟩
end Go.Proofs.Ytaejoohbmdckhaa
