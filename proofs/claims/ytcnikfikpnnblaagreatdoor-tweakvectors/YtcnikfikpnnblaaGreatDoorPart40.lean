import Derived.Test.YtcnikfikpnnblaaGreatDoorXbk
import Derived.Test.YtcnikfikpnnblaaGreatDoorPart38
import Derived.Test.YtcnikfikpnnblaaGreatDoorFdPval
import Derived.Great.BuildSlice
import Derived.WalkKit
import Derived.Deep.RegionHeld3
import Derived.Maps.AppendAt
import Derived.Below
namespace Go.Proofs.YtcnikfikpnnblaaGreatDoor
open Go.RowKit
set_option linter.unusedVariables false
set_option linter.unusedSimpArgs false
/-- Only key blocks changed, and what is new. -/
structure Gk (Ks : Nat → Prop) (u v : World) : Prop where
  os : v.os = u.os
  tape : v.tape = u.tape
  output : v.output = u.output
  size : u.heap.size ≤ v.heap.size
  block : ∀ c, c < u.heap.size → ¬ Ks c → v.heap[c]? = u.heap[c]?
theorem Gk.refl (Ks : Nat → Prop) (u : World) : Gk Ks u u := ⟨rfl, rfl, rfl, Nat.le_refl _, fun _ _ _ => rfl⟩
theorem Gk.trans {Ks : Nat → Prop} {u v x : World} (h : Gk Ks u v) (k : Gk Ks v x) : Gk Ks u x :=
  ⟨k.os.trans h.os, k.tape.trans h.tape, k.output.trans h.output, Nat.le_trans h.size k.size, fun c hc hn => (k.block c (Nat.lt_of_lt_of_le hc h.size) hn).trans (h.block c hc hn)⟩
theorem Gk.of_below {Ks : Nat → Prop} {u v : World} (h : Below u.heap.size u v) : Gk Ks u v := ⟨h.os, h.tape, h.output, h.size, fun c hc _ => h.block c hc⟩
theorem Gk.of_gb {Ks : Nat → Prop} {u v : World} {g : Nat} (h : u.grownBy v (some g)) (hg : Ks g) : Gk Ks u v := ⟨h.os, h.tape, h.output, h.size, fun c hc hn => h.block c hc (fun e => hn (by injection e with e; rw [e]; exact hg))⟩
theorem Gk.below {Ks : Nat → Prop} {u v x : World} (h : Gk Ks u v) (hb : Below v.heap.size v x) : Gk Ks u x := h.trans (Gk.of_below hb)
/-- A change of a block that was not there. -/
theorem Gk.gb {Ks : Nat → Prop} {u v x : World} {g : Nat} (h : Gk Ks u v) (hb : v.grownBy x (some g)) (hg : u.heap.size ≤ g) : Gk Ks u x :=
  ⟨hb.os.trans h.os, hb.tape.trans h.tape, hb.output.trans h.output, Nat.le_trans h.size hb.size, fun c hc hn => (hb.block c (Nat.lt_of_lt_of_le hc h.size) (fun e => by injection e with e; omega)).trans (h.block c hc hn)⟩
theorem Gk.cell {Ks : Nat → Prop} {u v : World} (h : Gk Ks u v) {b o : Nat} {x : Value} (hb : ¬ Ks b) (hx : u.cell? ⟨b, o, none⟩ = some x) : v.cell? ⟨b, o, none⟩ = some x := by
  rw [World.cell?_of_block (a := ⟨b, o, none⟩) (h.block b (World.block_lt_of_cell? u _ hx) hb)]; exact hx
theorem Bx.gk {Ks : Nat → Prop} {u v : World} {b : Nat} {t : TypeId} {cs : List Value} (h : Bx u b t cs) (hg : Gk Ks u v) (hb : ¬ Ks b) : Bx v b t cs := h.keep (hg.block b h.lt hb)
theorem Kp.of_gk {Ks : Nat → Prop} {B : Nat} {u v : World} (h : Gk Ks u v) (hK : ∀ c, Ks c → c < B) : Kp B u v := ⟨h.os, h.tape, h.output, h.size, fun c hc hl => h.block c hl (fun e => by have := hK c e; omega)⟩
/-- A cipher's state: it lies below B, its keys' blocks are Ks. -/
structure Cst (B : Nat) (Ks : Nat → Prop) (I : World → Prop) : Prop where
  low : ∀ c, Ks c → c < B
  size : ∀ u, I u → B ≤ u.heap.size
  stay : ∀ u v, I u → (∀ c, c < B → v.heap[c]? = u.heap[c]?) → u.heap.size ≤ v.heap.size → I v
theorem Cst.below {B : Nat} {Ks : Nat → Prop} {I : World → Prop} (h : Cst B Ks I) {u v : World} (hu : I u) (hb : Below u.heap.size u v) : I v := h.stay u v hu (fun c hc => hb.block c (Nat.lt_of_lt_of_le hc (h.size u hu))) hb.size
theorem Cst.gb {B : Nat} {Ks : Nat → Prop} {I : World → Prop} (h : Cst B Ks I) {u v : World} {g : Nat} (hu : I u) (hb : u.grownBy v (some g)) (hg : B ≤ g) : I v := h.stay u v hu (fun c hc => hb.block c (Nat.lt_of_lt_of_le hc (h.size u hu)) (fun e => by injection e with e; omega)) hb.size
theorem Cst.new {B : Nat} {Ks : Nat → Prop} {I : World → Prop} (h : Cst B Ks I) {c : Nat} (hc : B ≤ c) : ¬ Ks c := fun e => by have := h.low c e; omega
/-- What a function does with a block. -/
def DoI (Ks : Nat → Prop) (I : World → Prop) (fn : Nat) (pre : Value) (E : BitVec 128 → BitVec 128) : Prop := ∀ v u, I u → Calls Tryz.prog fn #[pre, Fd.BV v] u fun e w' => Hid (e = .returned (Fd.BV (E v)) ∧ I w' ∧ Gk Ks u w')
end Go.Proofs.YtcnikfikpnnblaaGreatDoor
namespace Go.Proofs.YtcnikfikpnnblaaGreatDoor
open Go.RowKit
set_option linter.unusedVariables false
set_option linter.unusedSimpArgs false
theorem nV_parts (n : Nat) (h : n < 18446744073709551616) : Fd.hiV (BitVec.ofNat 128 n) = 0 ∧ Fd.loV (BitVec.ofNat 128 n) = n := by
  unfold Fd.hiV Fd.loV
  rw [BitVec.toNat_ofNat]
  constructor <;> omega
theorem little0_ok (n : Nat) (h : n < 18446744073709551616) (w : World) : Calls Tryz.prog 64 #[.int .u64 0, .int .u64 (n : Nat)] w fun e w' => Hid (e = .returned (Fd.BV (BitVec.ofNat 128 n)) ∧ Below w.heap.size w w') := by
  have q := Fd.little_ok (BitVec.ofNat 128 n) w
  rw [(nV_parts n h).1, (nV_parts n h).2] at q
  exact q.mono fun e w' hh => hh
/-- The first block of plain. -/
def plV (b : Bool) (s : Nat) : BitVec 128 := BitVec.ofNat 128 (if b then s else s % 4294967296)
set_option maxHeartbeats 800000 in
set_option maxRecDepth 100000 in
theorem plain64_ok (s : Nat) (n : Int) (w : World) (hs : s < 18446744073709551616) :
    Calls Tryz.prog 137 #[.int .u64 (s : Nat), .int .i64 n] w fun e w' => Hid (e = .returned (Fd.BV (plV true s)) ∧ Below w.heap.size w w') := by
  obtain ⟨M, HMM⟩ : ∃ M, Hid (M = Fd.BL (plV true s)) := ⟨_, rfl⟩
  have HG : Hid (∀ u, Calls Tryz.prog 64 #[.int .u64 0, .int .u64 (s : Nat)] u fun e w' => Hid (e = .returned (.agg M.toArray) ∧ Below u.heap.size u w')) := fun u => by
    rw [HMM.out]; unfold plV; rw [if_pos rfl]; exact little0_ok s hs u
  have HLN : Hid (M.length = 16 ∧ (∀ x ∈ M, x.oneCell' = true)) := by rw [HMM.out]; exact ⟨rfl, BL_one8 _⟩
  show Calls Tryz.prog 137 #[_, _] w fun e w' => Hid (e = .returned (.agg (Fd.BL (plV true s)).toArray) ∧ _)
  rw [← HMM.out]
  obtain ⟨w1, hw1⟩ : ∃ w1, w1 = w.alloc (.cells ZZ.toArray 29) := ⟨_, rfl⟩
  have HB1 : Hid (Bx w1 w.heap.size 29 ZZ ∧ Below w.heap.size w w1) := by rw [hw1]; exact ⟨Bx.new w 29 ZZ, (Below.refl _ _).alloc (Nat.le_refl _) _⟩
  clear hs
  go_enter Tryz.func137, Tryz.ntmps137
  go_upto_region 1 with fail
  rw [show w.alloc (.cells _ 29) = w1 from hw1.symm]
  clear hw1
  obtain ⟨m, HM2⟩ : ∃ m, Hid (w.heap.size = m) := ⟨_, rfl⟩
  rw [HM2.out] at HB1 ⊢
  go_wp2_with (first
    | (go_at_call 64; refine (HG.out _).mono ?_; intro e4 w4 hh; obtain ⟨rfl, hb4⟩ := hh.out; have HB4 : Hid (Bx w4 m 29 ZZ ∧ Below m w w4) := ⟨HB1.out.1.below hb4, HB1.out.2.trans (hb4.mono (by have := HB1.out.1.lt; omega))⟩; clear hh hb4)
    | (refine wpList_store_bx (by rfl) 29 (.tmp 4) (.tmp 6) (by rfl) ZZ M m (by rfl) (by rfl) HB4.out.1 (by rw [HLN.out.1]; rfl) (by rw [HLN.out.1]; kernel_rfl) HLN.out.2 ?_; intro u9 hb9 hg9))
  refine ret_agg (b := m) M rfl rfl hb9.range Tryz.underlying29 rfl (by rw [HLN.out.1]; kernel_rfl) ⟨rfl, ?_⟩
  have hfin : Below m w u9 := HB4.out.2.trans (below_gb hg9 (by have := HB4.out.1.lt; omega) (by omega))
  first | exact hfin | (rw [HM2.out]; exact hfin)
/-- Bytes that lie at the beginning of a block. -/
theorem BL_head {zs : List Int} (hb : AllBytes zs) (n : Nat) (hn : n = Nat.min zs.length 16) : splice ZZ 0 ((cellsU8 zs).take n) = Fd.BL (cutV zs 0) := by
  have hl : (cellsU8 zs).length = zs.length := by simp [cellsU8]
  have hn16 : n ≤ 16 := by rw [hn]; exact Nat.min_le_right _ _
  have hnl : n ≤ zs.length := by rw [hn]; exact Nat.min_le_left _ _
  apply List.ext_getElem?
  intro i
  by_cases hi : i < 16
  · rw [Fd.BL_at _ i hi, cutV_at hb 0 i hi, Nat.mul_zero, Nat.zero_add, splice, List.take_zero, List.nil_append, List.length_take, Nat.min_eq_left (by omega), Nat.zero_add]
    by_cases h : i < n
    · rw [List.getElem?_append_left (by rw [List.length_take]; omega), List.getElem?_take, if_pos h]
      simp only [cellsU8, List.getElem?_map, List.getD_eq_getElem?_getD]
      rw [List.getElem?_eq_getElem (by omega)]; rfl
    · have hz : zs.length ≤ i := by
        have : n = zs.length ∨ n = 16 := by rw [hn]; rcases Nat.le_total zs.length 16 with q | q
                                            · exact .inl (Nat.min_eq_left q)
                                            · exact .inr (Nat.min_eq_right q)
        omega
      rw [List.getElem?_append_right (by rw [List.length_take]; omega), List.length_take, hl, Nat.min_eq_left hnl, List.getElem?_drop, show n + (i - n) = i by omega, List.getD_eq_getElem?_getD, List.getElem?_eq_none hz]
      rw [show ZZ = List.replicate 16 (.int .u8 0) from rfl, List.getElem?_replicate, if_pos hi]; rfl
  · rw [List.getElem?_eq_none (by rw [length_splice _ _ _ (by rw [List.length_take]; simp; omega)]; simp; omega), List.getElem?_eq_none (by rw [Fd.BL_length]; omega)]
set_option maxHeartbeats 800000 in
set_option maxRecDepth 100000 in
/-- The law's block: the first bytes of a list, zeros behind them. -/
theorem block_ok (v : Value) (zs : List Int) (w : World) (hv : View w v zs) (hb : AllBytes zs) :
    Calls Tryz.prog 12 #[v] w fun e w' => Hid (e = .returned (Fd.BV (cutV zs 0)) ∧ Below w.heap.size w w') := by
  obtain ⟨a, c, rfl, h1, h2, h3, h4⟩ := id hv
  obtain ⟨L, HL⟩ : ∃ L, Hid (L = Fd.BL (cutV zs 0)) := ⟨_, rfl⟩
  obtain ⟨n, HN⟩ : ∃ n, Hid (n = Nat.min zs.length 16) := ⟨_, rfl⟩
  obtain ⟨cs, HCS⟩ : ∃ cs, Hid (cs = (cellsU8 zs).take n) := ⟨_, rfl⟩
  obtain ⟨N, HNL⟩ : ∃ N, Hid (zs.length = N) := ⟨_, rfl⟩
  have HLL : Hid (L.length = 16 ∧ ∀ x ∈ L, x.oneCell' = true) := by rw [HL.out]; exact ⟨Fd.BL_length _, BL_one8 _⟩
  have HSP : Hid (splice ZZ 0 cs = L) := by rw [HCS.out, HL.out]; exact BL_head hb n HN.out
  have hcl : cs.length = Nat.min N 16 := by rw [HCS.out, List.length_take, ← HNL.out, HN.out, show (cellsU8 zs).length = zs.length by simp [cellsU8]]; simp only [Nat.min_def]; split <;> split <;> omega
  have HCL : Hid (cs.length = Nat.min N 16 ∧ cs.length ≤ 16 ∧ ∀ v ∈ cs, v.oneCell' = true) := ⟨hcl, by rw [hcl]; exact Nat.min_le_right _ _, fun v hv => by
    rw [HCS.out] at hv
    have hv := List.mem_of_mem_take hv
    simp only [cellsU8, List.mem_map] at hv
    obtain ⟨z, _, rfl⟩ := hv
    rfl⟩
  have HSR : Hid (∀ u, Below w.heap.size w u → 0 < cs.length → ∃ ad, a = some ad ∧ ∀ j v, cs[j]? = some v → u.cell? (ad.add j) = some v) := fun u hu hp => by
    rcases h4 with h4 | ⟨b, off, rfl, h4⟩
    · rw [hcl, ← HNL.out, h4] at hp; simp at hp
    · refine ⟨_, rfl, fun j v hj => ?_⟩
      rw [HCS.out] at hj
      have hj2 : (cellsU8 zs)[j]? = some v := by
        rw [List.getElem?_take] at hj; split at hj
        · exact hj
        · cases hj
      have q := vcells (hv.below hu) j v hj2
      exact q
  rw [HNL.out]
  show Calls Tryz.prog 12 #[_] w fun e w' => Hid (e = .returned (.agg (Fd.BL (cutV zs 0)).toArray) ∧ _)
  rw [← HL.out]
  clear hv hb h1 h2 h3 h4 hcl
  obtain ⟨w1, hw1⟩ : ∃ w1, w1 = (w.alloc (.cells ZZ.toArray 29)).alloc (.cells ZZ.toArray 29) := ⟨_, rfl⟩
  have HB1 : Hid (Bx w1 w.heap.size 29 ZZ ∧ Bx w1 (w.heap.size + 1) 29 ZZ ∧ Below w.heap.size w w1) := by
    refine ⟨?_, ?_, ?_⟩
    · rw [hw1]; exact (Bx.new w 29 ZZ).below ((Below.refl _ _).alloc (Nat.le_refl _) _)
    · rw [hw1]; have q := Bx.new (w.alloc (.cells ZZ.toArray 29)) 29 ZZ; simpa using q
    · rw [hw1]; exact ((Below.refl _ _).alloc (Nat.le_refl _) _).alloc (by simp) _
  go_enter Tryz.func12, Tryz.ntmps12
  go_upto_region 2 with fail
  rw [show (w.alloc (.cells _ 29)).alloc (.cells _ 29) = w1 from hw1.symm]
  clear hw1
  obtain ⟨m, HM⟩ : ∃ m, Hid (w.heap.size = m) := ⟨_, rfl⟩
  rw [HM.out] at HB1 HSR ⊢
  go_upto_region 3 with (refine wpList_copy_splice rfl (.tmp 4) (.tmp 5) 24 24 rfl 5 Tryz.underlying24 (by kernel_rfl) _ _ 16 16 N _ rfl rfl (m + 1) 0 ZZ 29 HB1.out.2.1 cs HCL.out.1 (fun hp => ⟨rfl, HSR.out w1 HB1.out.2.2 hp⟩) (by have := HCL.out.2.1; simp; omega) HCL.out.2.2 (m + 1) w1 (Below.refl _ _) (Nat.le_refl _) ?_; intro w3 HG3 hb3; have HB3 : Hid (Below (m + 1) w1 w3) := hb3; clear hb3)
  have HX3 : Hid (Bx w3 (m + 1) 29 L ∧ Bx w3 m 29 ZZ ∧ Below m w w3) := by
    refine ⟨?_, HB1.out.1.keep (HB3.out.block m (by omega)), HB1.out.2.2.trans (HB3.out.mono (by omega))⟩
    have q := HG3.out
    rw [HSP.out] at q
    exact q
  clear HG3 HB3 HB1
  go_wp2_with (first
    | (refine wpList_load_mid (by rfl) 29 (.tmp 3) (by rfl) (m + 1) 0 (by rfl) L _ HX3.out.1.range Tryz.underlying29 rfl (by rw [HLL.out.1]; kernel_rfl) ?_)
    | (refine wpList_store_bx (by rfl) 29 (.tmp 2) (.tmp 7) (by rfl) ZZ L m (by rfl) (by rfl) HX3.out.2.1 (by rw [HLL.out.1]; rfl) (by rw [HLL.out.1]; kernel_rfl) HLL.out.2 ?_; intro u9 hb9 hg9))
  refine ret_agg (b := m) L rfl rfl hb9.range Tryz.underlying29 rfl (by rw [HLL.out.1]; kernel_rfl) ⟨rfl, ?_⟩
  have hfin : Below m w u9 := HX3.out.2.2.trans (below_gb hg9 (by have := HX3.out.2.1.lt; omega) (by omega))
  first | exact hfin | (rw [HM.out]; exact hfin)
end Go.Proofs.YtcnikfikpnnblaaGreatDoor
namespace Go.Proofs.YtcnikfikpnnblaaGreatDoor
open Go.RowKit
set_option linter.unusedVariables false
set_option linter.unusedSimpArgs false
/-- A list's blocks, a byte 1 behind the last one. -/
def flV (zs : List Int) (j : Nat) : BitVec 128 := cutV (zs ++ [1]) j
structure FlI (f : Nat → BitVec 128) (x k : Nat) (w u : World) (j : Nat) : Prop where
  row : ∃ T, Bx u x 29 (bkL f j ++ T) ∧ T.length = 16 * (k - j)
  bel : Below w.heap.size w u
theorem FlI.below {f : Nat → BitVec 128} {x k : Nat} {w u v : World} {j : Nat} (h : FlI f x k w u j) (hb : Below u.heap.size u v) : FlI f x k w v j := by
  obtain ⟨T, h1, h2⟩ := h.row
  exact ⟨⟨T, h1.below hb, h2⟩, h.bel.trans (hb.mono h.bel.size)⟩
theorem FlI.there {f : Nat → BitVec 128} {x k : Nat} {w u : World} {j : Nat} (h : FlI f x k w u j) (hj : j < k) : u.there x (j * 16) 16 := by
  obtain ⟨T, h1, h2⟩ := h.row
  intro i hi
  have hl : j * 16 + i < (bkL f j ++ T).length := by rw [List.length_append, bkL_len, h2]; omega
  exact ⟨by rw [h1.cell _ _ (List.getElem?_eq_getElem hl)]; rfl, h1.frozen _⟩
theorem FlI.store {f : Nat → BitVec 128} {x k : Nat} {w u : World} {j : Nat} (h : FlI f x k w u j) (hj : j < k) (hx : w.heap.size ≤ x) : FlI f x k w (u.setCells x (j * 16) (Fd.BL (f j))) (j + 1) := by
  obtain ⟨T, h1, h2⟩ := h.row
  have hg := setCells_gb x (Fd.BL (f j)) (j * 16) u
  refine ⟨⟨T.drop 16, ?_, by rw [List.length_drop, h2]; omega⟩, h.bel.trans (below_gb hg h.bel.size hx)⟩
  have q := h1.storeAt (o := j * 16) (L := Fd.BL (f j)) (by rw [Fd.BL_length, List.length_append, bkL_len, h2]; omega)
  have e : splice (bkL f j ++ T) (j * 16) (Fd.BL (f j)) = bkL f (j + 1) ++ T.drop 16 := by
    simp only [splice, Fd.BL_length]
    rw [bkL_succ, List.take_append_of_le_length (by rw [bkL_len]; omega), List.take_of_length_le (by rw [bkL_len]; omega), List.drop_append, bkL_len, List.drop_of_length_le (by rw [bkL_len]; omega), show j * 16 + 16 - 16 * j = 16 by omega]
    simp
  rw [e] at q
  exact q
end Go.Proofs.YtcnikfikpnnblaaGreatDoor
namespace Go.Proofs.YtcnikfikpnnblaaGreatDoor
open Go.RowKit
set_option linter.unusedVariables false
set_option linter.unusedSimpArgs false
/-- The blocks that hctr2 hashes. -/
def hsF (kd fi : BitVec 128) (zs : List Int) : Nat → BitVec 128
  | 0 => kd
  | 1 => fi
  | 2 => 0#128
  | i + 3 => flV zs i
end Go.Proofs.YtcnikfikpnnblaaGreatDoor
