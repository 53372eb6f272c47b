import Derived.Test.YtcnikfikpnnblaaGreatDoorPart41
import Derived.Test.YtcnikfikpnnblaaGreatDoorFdPval
namespace Go.Proofs.YtcnikfikpnnblaaGreatDoor
open Go.RowKit
set_option linter.unusedVariables false
set_option linter.unusedSimpArgs false
theorem nV_parts (n : Nat) (h : n < 18446744073709551616) : Fd.hiV (BitVec.ofNat 128 n) = 0 ∧ Fd.loV (BitVec.ofNat 128 n) = n := by
  unfold Fd.hiV Fd.loV
  rw [BitVec.toNat_ofNat]
  constructor <;> omega
theorem little0_ok (n : Nat) (h : n < 18446744073709551616) (w : World) : Calls Tryz.prog 64 #[.int .u64 0, .int .u64 (n : Nat)] w fun e w' => Hid (e = .returned (Fd.BV (BitVec.ofNat 128 n)) ∧ Below w.heap.size w w') := by
  have q := Fd.little_ok (BitVec.ofNat 128 n) w
  rw [(nV_parts n h).1, (nV_parts n h).2] at q
  exact q.mono fun e w' hh => hh
/-- The first block of plain. -/
def plV (b : Bool) (s : Nat) : BitVec 128 := BitVec.ofNat 128 (if b then s else s % 4294967296)
set_option maxHeartbeats 800000 in
set_option maxRecDepth 100000 in
theorem plain_ok (s : Nat) (n : Int) (w : World) (hs : s < 18446744073709551616) :
    Calls Tryz.prog 136 #[.int .u64 (s : Nat), .int .i64 n] w fun e w' => Hid (e = .returned (Fd.BV (plV false s)) ∧ Below w.heap.size w w') := by
  obtain ⟨x, HX⟩ : ∃ x, Hid (s % 4294967296 = x) := ⟨_, rfl⟩
  have hx : bits BinOp.and IntKind.u64 (s : Int) 4294967295 = (x : Int) := by rw [u64_and32 s hs, HX.out]
  obtain ⟨M, HMM⟩ : ∃ M, Hid (M = Fd.BL (plV false s)) := ⟨_, rfl⟩
  have HG : Hid (∀ u, Calls Tryz.prog 64 #[.int .u64 0, .int .u64 (x : Nat)] u fun e w' => Hid (e = .returned (.agg M.toArray) ∧ Below u.heap.size u w')) := fun u => by
    rw [HMM.out]; unfold plV; rw [if_neg (by decide), HX.out]; exact little0_ok x (by rw [← HX.out]; omega) u
  have HLN : Hid (M.length = 16 ∧ (∀ x ∈ M, x.oneCell' = true)) := by rw [HMM.out]; exact ⟨rfl, BL_one8 _⟩
  show Calls Tryz.prog 136 #[_, _] w fun e w' => Hid (e = .returned (.agg (Fd.BL (plV false s)).toArray) ∧ _)
  rw [← HMM.out]
  obtain ⟨w1, hw1⟩ : ∃ w1, w1 = w.alloc (.cells ZZ.toArray 29) := ⟨_, rfl⟩
  have HB1 : Hid (Bx w1 w.heap.size 29 ZZ ∧ Below w.heap.size w w1) := by rw [hw1]; exact ⟨Bx.new w 29 ZZ, (Below.refl _ _).alloc (Nat.le_refl _) _⟩
  clear hs
  go_enter Tryz.func136, Tryz.ntmps136
  go_upto_region 1 with fail
  rw [show w.alloc (.cells _ 29) = w1 from hw1.symm]
  clear hw1
  obtain ⟨m, HM2⟩ : ∃ m, Hid (w.heap.size = m) := ⟨_, rfl⟩
  rw [HM2.out] at HB1 ⊢
  go_wp2_with (first
    | (go_at_call 64; refine (HG.out _).mono ?_; intro e4 w4 hh; obtain ⟨rfl, hb4⟩ := hh.out; have HB4 : Hid (Bx w4 m 29 ZZ ∧ Below m w w4) := ⟨HB1.out.1.below hb4, HB1.out.2.trans (hb4.mono (by have := HB1.out.1.lt; omega))⟩; clear hh hb4)
    | (refine wpList_store_bx (by rfl) 29 (.tmp 4) (.tmp 7) (by rfl) ZZ M m (by rfl) (by rfl) HB4.out.1 (by rw [HLN.out.1]; rfl) (by rw [HLN.out.1]; kernel_rfl) HLN.out.2 ?_; intro u9 hb9 hg9))
  refine ret_agg (b := m) M rfl rfl hb9.range Tryz.underlying29 rfl (by rw [HLN.out.1]; kernel_rfl) ⟨rfl, ?_⟩
  have hfin : Below m w u9 := HB4.out.2.trans (below_gb hg9 (by have := HB4.out.1.lt; omega) (by omega))
  first | exact hfin | (rw [HM2.out]; exact hfin)
set_option maxHeartbeats 800000 in
set_option maxRecDepth 100000 in
theorem plain64_ok (s : Nat) (n : Int) (w : World) (hs : s < 18446744073709551616) :
    Calls Tryz.prog 137 #[.int .u64 (s : Nat), .int .i64 n] w fun e w' => Hid (e = .returned (Fd.BV (plV true s)) ∧ Below w.heap.size w w') := by
  obtain ⟨M, HMM⟩ : ∃ M, Hid (M = Fd.BL (plV true s)) := ⟨_, rfl⟩
  have HG : Hid (∀ u, Calls Tryz.prog 64 #[.int .u64 0, .int .u64 (s : Nat)] u fun e w' => Hid (e = .returned (.agg M.toArray) ∧ Below u.heap.size u w')) := fun u => by
    rw [HMM.out]; unfold plV; rw [if_pos rfl]; exact little0_ok s hs u
  have HLN : Hid (M.length = 16 ∧ (∀ x ∈ M, x.oneCell' = true)) := by rw [HMM.out]; exact ⟨rfl, BL_one8 _⟩
  show Calls Tryz.prog 137 #[_, _] w fun e w' => Hid (e = .returned (.agg (Fd.BL (plV true s)).toArray) ∧ _)
  rw [← HMM.out]
  obtain ⟨w1, hw1⟩ : ∃ w1, w1 = w.alloc (.cells ZZ.toArray 29) := ⟨_, rfl⟩
  have HB1 : Hid (Bx w1 w.heap.size 29 ZZ ∧ Below w.heap.size w w1) := by rw [hw1]; exact ⟨Bx.new w 29 ZZ, (Below.refl _ _).alloc (Nat.le_refl _) _⟩
  clear hs
  go_enter Tryz.func137, Tryz.ntmps137
  go_upto_region 1 with fail
  rw [show w.alloc (.cells _ 29) = w1 from hw1.symm]
  clear hw1
  obtain ⟨m, HM2⟩ : ∃ m, Hid (w.heap.size = m) := ⟨_, rfl⟩
  rw [HM2.out] at HB1 ⊢
  go_wp2_with (first
    | (go_at_call 64; refine (HG.out _).mono ?_; intro e4 w4 hh; obtain ⟨rfl, hb4⟩ := hh.out; have HB4 : Hid (Bx w4 m 29 ZZ ∧ Below m w w4) := ⟨HB1.out.1.below hb4, HB1.out.2.trans (hb4.mono (by have := HB1.out.1.lt; omega))⟩; clear hh hb4)
    | (refine wpList_store_bx (by rfl) 29 (.tmp 4) (.tmp 6) (by rfl) ZZ M m (by rfl) (by rfl) HB4.out.1 (by rw [HLN.out.1]; rfl) (by rw [HLN.out.1]; kernel_rfl) HLN.out.2 ?_; intro u9 hb9 hg9))
  refine ret_agg (b := m) M rfl rfl hb9.range Tryz.underlying29 rfl (by rw [HLN.out.1]; kernel_rfl) ⟨rfl, ?_⟩
  have hfin : Below m w u9 := HB4.out.2.trans (below_gb hg9 (by have := HB4.out.1.lt; omega) (by omega))
  first | exact hfin | (rw [HM2.out]; exact hfin)
/-- The block ahead of the hashed ones. -/
def kdV (n : Nat) : BitVec 128 := BitVec.ofNat 128 (if n % 16 = 0 then 514 else 515)
set_option maxHeartbeats 800000 in
set_option maxRecDepth 100000 in
theorem kind_ok (a : Option Addr) (n c : Nat) (w : World) (hn : n ≤ 4096) :
    Calls Tryz.prog 249 #[.slice a n c] w fun e w' => Hid (e = .returned (Fd.BV (kdV n)) ∧ Below w.heap.size w w') := by
  obtain ⟨M, HMM⟩ : ∃ M, Hid (M = Fd.BL (kdV n)) := ⟨_, rfl⟩
  have HLN : Hid (M.length = 16 ∧ (∀ x ∈ M, x.oneCell' = true)) := by rw [HMM.out]; exact ⟨rfl, BL_one8 _⟩
  show Calls Tryz.prog 249 #[_] w fun e w' => Hid (e = .returned (.agg (Fd.BL (kdV n)).toArray) ∧ _)
  obtain ⟨w1, hw1⟩ : ∃ w1, w1 = w.alloc (.cells ZZ.toArray 29) := ⟨_, rfl⟩
  have HB1 : Hid (Bx w1 w.heap.size 29 ZZ ∧ Below w.heap.size w w1) := by rw [hw1]; exact ⟨Bx.new w 29 ZZ, (Below.refl _ _).alloc (Nat.le_refl _) _⟩
  obtain ⟨r, HR⟩ : ∃ r : Nat, Hid (n % 16 = r) := ⟨_, rfl⟩
  have e1 : (n : Int).tmod 16 = (r : Int) := by rw [← HR.out, Int.tmod_eq_emod_of_nonneg (by omega)]; omega
  have e2 : (n : Int) % 16 = (r : Int) := by rw [← HR.out]; omega
  by_cases hr : r = 0
  · have HG : Hid (∀ u, Calls Tryz.prog 64 #[.int .u64 0, .int .u64 514] u fun e w' => Hid (e = .returned (.agg M.toArray) ∧ Below u.heap.size u w')) := fun u => by
      rw [HMM.out]; unfold kdV; rw [if_pos (by rw [HR.out]; exact hr)]; exact little0_ok 514 (by decide) u
    have hr' : (r : Int) = 0 := by omega
    rw [← HMM.out]
    clear hn
    go_enter Tryz.func249, Tryz.ntmps249
    go_upto_region 1 with fail
    rw [show w.alloc (.cells _ 29) = w1 from hw1.symm]
    clear hw1
    obtain ⟨m, HM2⟩ : ∃ m, Hid (w.heap.size = m) := ⟨_, rfl⟩
    rw [HM2.out] at HB1 ⊢
    go_wp2_with (first
      | (go_at_call 64; refine (HG.out _).mono ?_; intro e4 w4 hh; obtain ⟨rfl, hb4⟩ := hh.out; have HB4 : Hid (Bx w4 m 29 ZZ ∧ Below m w w4) := ⟨HB1.out.1.below hb4, HB1.out.2.trans (hb4.mono (by have := HB1.out.1.lt; omega))⟩; clear hh hb4)
      | (refine wpList_store_bx (by rfl) 29 (.tmp 2) (.tmp 8) (by rfl) ZZ M m (by rfl) (by rfl) HB4.out.1 (by rw [HLN.out.1]; rfl) (by rw [HLN.out.1]; kernel_rfl) HLN.out.2 ?_; intro u9 hb9 hg9))
    refine ret_agg (b := m) M rfl rfl hb9.range Tryz.underlying29 rfl (by rw [HLN.out.1]; kernel_rfl) ⟨rfl, ?_⟩
    have hfin : Below m w u9 := HB4.out.2.trans (below_gb hg9 (by have := HB4.out.1.lt; omega) (by omega))
    first | exact hfin | (rw [HM2.out]; exact hfin)
  · have HG : Hid (∀ u, Calls Tryz.prog 64 #[.int .u64 0, .int .u64 515] u fun e w' => Hid (e = .returned (.agg M.toArray) ∧ Below u.heap.size u w')) := fun u => by
      rw [HMM.out]; unfold kdV; rw [if_neg (by rw [HR.out]; exact hr)]; exact little0_ok 515 (by decide) u
    have hr' : ¬ (r : Int) = 0 := by omega
    rw [← HMM.out]
    clear hn
    go_enter Tryz.func249, Tryz.ntmps249
    go_upto_region 1 with fail
    rw [show w.alloc (.cells _ 29) = w1 from hw1.symm]
    clear hw1
    obtain ⟨m, HM2⟩ : ∃ m, Hid (w.heap.size = m) := ⟨_, rfl⟩
    rw [HM2.out] at HB1 ⊢
    go_wp2_with (first
      | (go_at_call 64; refine (HG.out _).mono ?_; intro e4 w4 hh; obtain ⟨rfl, hb4⟩ := hh.out; have HB4 : Hid (Bx w4 m 29 ZZ ∧ Below m w w4) := ⟨HB1.out.1.below hb4, HB1.out.2.trans (hb4.mono (by have := HB1.out.1.lt; omega))⟩; clear hh hb4)
      | (refine wpList_store_bx (by rfl) 29 (.tmp 2) (.tmp 7) (by rfl) ZZ M m (by rfl) (by rfl) HB4.out.1 (by rw [HLN.out.1]; rfl) (by rw [HLN.out.1]; kernel_rfl) HLN.out.2 ?_; intro u9 hb9 hg9))
    refine ret_agg (b := m) M rfl rfl hb9.range Tryz.underlying29 rfl (by rw [HLN.out.1]; kernel_rfl) ⟨rfl, ?_⟩
    have hfin : Below m w u9 := HB4.out.2.trans (below_gb hg9 (by have := HB4.out.1.lt; omega) (by omega))
    first | exact hfin | (rw [HM2.out]; exact hfin)
/-- Bytes that lie at the beginning of a block. -/
theorem BL_head {zs : List Int} (hb : AllBytes zs) (n : Nat) (hn : n = Nat.min zs.length 16) : splice ZZ 0 ((cellsU8 zs).take n) = Fd.BL (cutV zs 0) := by
  have hl : (cellsU8 zs).length = zs.length := by simp [cellsU8]
  have hn16 : n ≤ 16 := by rw [hn]; exact Nat.min_le_right _ _
  have hnl : n ≤ zs.length := by rw [hn]; exact Nat.min_le_left _ _
  apply List.ext_getElem?
  intro i
  by_cases hi : i < 16
  · rw [Fd.BL_at _ i hi, cutV_at hb 0 i hi, Nat.mul_zero, Nat.zero_add, splice, List.take_zero, List.nil_append, List.length_take, Nat.min_eq_left (by omega), Nat.zero_add]
    by_cases h : i < n
    · rw [List.getElem?_append_left (by rw [List.length_take]; omega), List.getElem?_take, if_pos h]
      simp only [cellsU8, List.getElem?_map, List.getD_eq_getElem?_getD]
      rw [List.getElem?_eq_getElem (by omega)]; rfl
    · have hz : zs.length ≤ i := by
        have : n = zs.length ∨ n = 16 := by rw [hn]; rcases Nat.le_total zs.length 16 with q | q
                                            · exact .inl (Nat.min_eq_left q)
                                            · exact .inr (Nat.min_eq_right q)
        omega
      rw [List.getElem?_append_right (by rw [List.length_take]; omega), List.length_take, hl, Nat.min_eq_left hnl, List.getElem?_drop, show n + (i - n) = i by omega, List.getD_eq_getElem?_getD, List.getElem?_eq_none hz]
      rw [show ZZ = List.replicate 16 (.int .u8 0) from rfl, List.getElem?_replicate, if_pos hi]; rfl
  · rw [List.getElem?_eq_none (by rw [length_splice _ _ _ (by rw [List.length_take]; simp; omega)]; simp; omega), List.getElem?_eq_none (by rw [Fd.BL_length]; omega)]
set_option maxHeartbeats 800000 in
set_option maxRecDepth 100000 in
/-- The law's block: the first bytes of a list, zeros behind them. -/
theorem block_ok (v : Value) (zs : List Int) (w : World) (hv : View w v zs) (hb : AllBytes zs) :
    Calls Tryz.prog 12 #[v] w fun e w' => Hid (e = .returned (Fd.BV (cutV zs 0)) ∧ Below w.heap.size w w') := by
  obtain ⟨a, c, rfl, h1, h2, h3, h4⟩ := id hv
  obtain ⟨L, HL⟩ : ∃ L, Hid (L = Fd.BL (cutV zs 0)) := ⟨_, rfl⟩
  obtain ⟨n, HN⟩ : ∃ n, Hid (n = Nat.min zs.length 16) := ⟨_, rfl⟩
  obtain ⟨cs, HCS⟩ : ∃ cs, Hid (cs = (cellsU8 zs).take n) := ⟨_, rfl⟩
  obtain ⟨N, HNL⟩ : ∃ N, Hid (zs.length = N) := ⟨_, rfl⟩
  have HLL : Hid (L.length = 16 ∧ ∀ x ∈ L, x.oneCell' = true) := by rw [HL.out]; exact ⟨Fd.BL_length _, BL_one8 _⟩
  have HSP : Hid (splice ZZ 0 cs = L) := by rw [HCS.out, HL.out]; exact BL_head hb n HN.out
  have hcl : cs.length = Nat.min N 16 := by rw [HCS.out, List.length_take, ← HNL.out, HN.out, show (cellsU8 zs).length = zs.length by simp [cellsU8]]; simp only [Nat.min_def]; split <;> split <;> omega
  have HCL : Hid (cs.length = Nat.min N 16 ∧ cs.length ≤ 16 ∧ ∀ v ∈ cs, v.oneCell' = true) := ⟨hcl, by rw [hcl]; exact Nat.min_le_right _ _, fun v hv => by
    rw [HCS.out] at hv
    have hv := List.mem_of_mem_take hv
    simp only [cellsU8, List.mem_map] at hv
    obtain ⟨z, _, rfl⟩ := hv
    rfl⟩
  have HSR : Hid (∀ u, Below w.heap.size w u → 0 < cs.length → ∃ ad, a = some ad ∧ ∀ j v, cs[j]? = some v → u.cell? (ad.add j) = some v) := fun u hu hp => by
    rcases h4 with h4 | ⟨b, off, rfl, h4⟩
    · rw [hcl, ← HNL.out, h4] at hp; simp at hp
    · refine ⟨_, rfl, fun j v hj => ?_⟩
      rw [HCS.out] at hj
      have hj2 : (cellsU8 zs)[j]? = some v := by
        rw [List.getElem?_take] at hj; split at hj
        · exact hj
        · cases hj
      have q := vcells (hv.below hu) j v hj2
      exact q
  rw [HNL.out]
  show Calls Tryz.prog 12 #[_] w fun e w' => Hid (e = .returned (.agg (Fd.BL (cutV zs 0)).toArray) ∧ _)
  rw [← HL.out]
  clear hv hb h1 h2 h3 h4 hcl
  obtain ⟨w1, hw1⟩ : ∃ w1, w1 = (w.alloc (.cells ZZ.toArray 29)).alloc (.cells ZZ.toArray 29) := ⟨_, rfl⟩
  have HB1 : Hid (Bx w1 w.heap.size 29 ZZ ∧ Bx w1 (w.heap.size + 1) 29 ZZ ∧ Below w.heap.size w w1) := by
    refine ⟨?_, ?_, ?_⟩
    · rw [hw1]; exact (Bx.new w 29 ZZ).below ((Below.refl _ _).alloc (Nat.le_refl _) _)
    · rw [hw1]; have q := Bx.new (w.alloc (.cells ZZ.toArray 29)) 29 ZZ; simpa using q
    · rw [hw1]; exact ((Below.refl _ _).alloc (Nat.le_refl _) _).alloc (by simp) _
  go_enter Tryz.func12, Tryz.ntmps12
  go_upto_region 2 with fail
  rw [show (w.alloc (.cells _ 29)).alloc (.cells _ 29) = w1 from hw1.symm]
  clear hw1
  obtain ⟨m, HM⟩ : ∃ m, Hid (w.heap.size = m) := ⟨_, rfl⟩
  rw [HM.out] at HB1 HSR ⊢
  go_upto_region 3 with (refine wpList_copy_splice rfl (.tmp 4) (.tmp 5) 24 24 rfl 5 Tryz.underlying24 (by kernel_rfl) _ _ 16 16 N _ rfl rfl (m + 1) 0 ZZ 29 HB1.out.2.1 cs HCL.out.1 (fun hp => ⟨rfl, HSR.out w1 HB1.out.2.2 hp⟩) (by have := HCL.out.2.1; simp; omega) HCL.out.2.2 (m + 1) w1 (Below.refl _ _) (Nat.le_refl _) ?_; intro w3 HG3 hb3; have HB3 : Hid (Below (m + 1) w1 w3) := hb3; clear hb3)
  have HX3 : Hid (Bx w3 (m + 1) 29 L ∧ Bx w3 m 29 ZZ ∧ Below m w w3) := by
    refine ⟨?_, HB1.out.1.keep (HB3.out.block m (by omega)), HB1.out.2.2.trans (HB3.out.mono (by omega))⟩
    have q := HG3.out
    rw [HSP.out] at q
    exact q
  clear HG3 HB3 HB1
  go_wp2_with (first
    | (refine wpList_load_mid (by rfl) 29 (.tmp 3) (by rfl) (m + 1) 0 (by rfl) L _ HX3.out.1.range Tryz.underlying29 rfl (by rw [HLL.out.1]; kernel_rfl) ?_)
    | (refine wpList_store_bx (by rfl) 29 (.tmp 2) (.tmp 7) (by rfl) ZZ L m (by rfl) (by rfl) HX3.out.2.1 (by rw [HLL.out.1]; rfl) (by rw [HLL.out.1]; kernel_rfl) HLL.out.2 ?_; intro u9 hb9 hg9))
  refine ret_agg (b := m) L rfl rfl hb9.range Tryz.underlying29 rfl (by rw [HLL.out.1]; kernel_rfl) ⟨rfl, ?_⟩
  have hfin : Below m w u9 := HX3.out.2.2.trans (below_gb hg9 (by have := HX3.out.2.1.lt; omega) (by omega))
  first | exact hfin | (rw [HM.out]; exact hfin)
end Go.Proofs.YtcnikfikpnnblaaGreatDoor
