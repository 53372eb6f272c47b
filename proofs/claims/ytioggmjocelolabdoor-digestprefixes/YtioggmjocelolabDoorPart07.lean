import Derived.Test.YtioggmjocelolabDoorPart04
import Derived.Test.YtioggmjocelolabDoorPart06
import Derived.Lib.SlBytesConst
import Derived.Test.YtioggmjocelolabDoorRows
import Derived.Test.YtioggmjocelolabDoorPart00
import Derived.ProofKit
import Derived.OpenShut
import Derived.ShutString
import Derived.ChangeOld
import Derived.Below
import Derived.SizedLaws
import Derived.Lib.LaidTab
import Derived.Deep.DeepHandedRow
import Derived.Deep.Slices
namespace Go.Proofs.YtioggmjocelolabDoor
open Go.RowKit
set_option linter.unusedVariables false
set_option linter.unusedSimpArgs false
instance (h : Int) : Decidable (Known h) := by unfold Known; infer_instance
/-- What Sum answers. -/
def smL (h : Int) (zs : List Int) : List Int := if Known h then sumD h zs else []
def smE (h : Int) : Int := if Known h then 0 else 10
theorem smL_length (h : Int) (zs : List Int) : (smL h zs).length ≤ 64 := by
  unfold smL
  split
  · rename_i k
    rw [sumD_length h k]
    exact (szOf_pos k).2
  · simp
theorem bad_of {h : Int} (k : ¬ Known h) : (h == 224) = false ∧ (h == 256) = false ∧ (h == 384) = false ∧ (h == 512) = false := by
  refine ⟨?_, ?_, ?_, ?_⟩ <;> rw [beq_eq_false_iff_ne] <;> intro e <;> apply k <;> unfold Known <;> omega
set_option maxHeartbeats 400000 in
theorem dsum_bad {h : Int} (k : ¬ Known h) (v : Value) (w : World) : Calls Tryd.prog 17 #[.int .i64 h, v] w fun e w' => e = .returned (.tuple #[.slice none 0 0, .int .i64 10]) ∧ Below w.heap.size w w' := by
  obtain ⟨h1, h2, h3, h4⟩ := bad_of k
  have H22 : Hid (Calls Tryd.prog 22 #[.int .i64 h] w fun e w' => e = .returned (.tuple #[.pointer none, .int .i64 10]) ∧ Below w.heap.size w w') := new_bad h w h1 h2 h3 h4
  clear h1 h2 h3 h4 k
  go_enter Tryd.func17, Tryd.ntmps17
  go_wp2_with (go_at_call 22; refine H22.out.mono ?_)
  rintro e w1 ⟨rfl, hb⟩
  have HB : Hid (Below w.heap.size w w1) := hb
  clear hb H22
  go_wp2
  go_ret2
  exact ⟨rfl, HB.out⟩
theorem sm_ok (h : Int) (v : Value) (xs : List Value) (yss : List (List Int)) (w : World) (hT : Tables w) (hP : PV w v xs yss) (hs : yss.flatten.length ≤ 33554432) :
    Calls Tryd.prog 17 #[.int .i64 h, v] w fun e w' => ∃ v', e = .returned (.tuple #[v', .int .i64 (smE h)]) ∧ w'.ownsRow w.heap.size 5 1 v' (smL h yss.flatten).length (cellsU8 (smL h yss.flatten)) ∧ Below w.heap.size w w' := by
  by_cases k : Known h
  · have e1 : smE h = 0 := by unfold smE; rw [if_pos k]
    have e2 : smL h yss.flatten = sumD h yss.flatten := by unfold smL; rw [if_pos k]
    rw [e1, e2, sumD_length h k]
    refine (dsum h yss v w k (fun u g hb hg => parts_keep (hP.parts g hg) (fun q hq => hb.block q hq)) hT hs).mono ?_
    rintro e w' ⟨b, rfl, ho, hb⟩
    exact ⟨_, rfl, ho, hb⟩
  · have e1 : smE h = 10 := by unfold smE; rw [if_neg k]
    have e2 : smL h yss.flatten = [] := by unfold smL; rw [if_neg k]
    rw [e1, e2]
    refine (dsum_bad k v w).mono ?_
    rintro e w' ⟨rfl, hb⟩
    exact ⟨_, rfl, World.ownsRow_nil _ _ _ _, hb⟩
set_option maxHeartbeats 400000 in
theorem rsum_bad {h : Int} (k : ¬ Known h) (v : Value) (w : World) : Calls Tryd.prog 40 #[.int .i64 h, v] w fun e w' => e = .returned (.slice none 0 0) ∧ w' = w := by
  have H55 : Hid (∀ u, Calls Tryd.prog 55 #[.int .i64 h] u fun e w' => e = .returned (.int .i64 0) ∧ w' = u) := fun u => by
    have d1 : ¬ h = 224 := fun e => k (.inl e)
    have d2 : ¬ h = 256 := fun e => k (.inr (.inl e))
    have d3 : ¬ h = 384 := fun e => k (.inr (.inr (.inl e)))
    have d4 : ¬ h = 512 := fun e => k (.inr (.inr (.inr e)))
    clear k
    go_enter Tryd.func55, Tryd.ntmps55
    go_wp2
    go_ret
    exact ⟨rfl, rfl⟩
  go_enter Tryd.func40, Tryd.ntmps40
  go_wp2_with (go_at_call 55; refine (H55.out _).mono ?_; rintro e1 wx ⟨rfl, hwx⟩; obtain rfl := hwx.symm)
  go_ret
  exact ⟨rfl, rfl⟩
theorem rs_ok (h : Int) (v : Value) (zs : List Int) (w : World) (hR : RTab w) (hv : View w v zs) (hn : zs.length ≤ 1099511627776) :
    Calls Tryd.prog 40 #[.int .i64 h, v] w fun e w' => ∃ v', e = .returned v' ∧ w'.ownsRow w.heap.size 5 1 v' (smL h zs).length (cellsU8 (smL h zs)) ∧ Below w.heap.size w w' := by
  by_cases k : Known h
  · have e2 : smL h zs = sumD h zs := by unfold smL; rw [if_pos k]
    rw [e2, sumD_length h k]
    exact rsum_ok k v zs w hR hv hn
  · have e2 : smL h zs = [] := by unfold smL; rw [if_neg k]
    rw [e2]
    refine (rsum_bad k v w).mono ?_
    rintro e w' ⟨rfl, rfl⟩
    exact ⟨_, rfl, World.ownsRow_nil _ _ _ _, Below.refl _ _⟩
theorem View.grown {w w' : World} {v : Value} {zs : List Int} {ob : Option Nat} (hv : View w v zs) (hg : w.grownBy w' ob) (hne : ∀ b off l c, v = .slice (some ⟨b, off, none⟩) l c → some b ≠ ob) : View w' v zs := by
  obtain ⟨a, c, rfl, h1, h2, h3, h4⟩ := hv
  refine ⟨a, c, rfl, h1, h2, h3, ?_⟩
  rcases h4 with h4 | ⟨b, off, rfl, hc⟩
  · exact .inl h4
  · refine .inr ⟨b, off, rfl, fun i hi => ?_⟩
    have hb := lt_of_cell (hc i hi)
    rw [World.cell?_of_block (w := w) (hg.block b hb (hne b off _ c rfl))]
    exact hc i hi
theorem owns_apart {B n : Nat} {w : World} {v v2 : Value} {xs : List Value} (h : w.ownsRow B 5 1 v n xs) (hb : ∀ b, v2.ownBlock = some b → b < B) : ∀ b off l c, v = .slice (some ⟨b, off, none⟩) l c → some b ≠ v2.ownBlock := by
  intro b off l c e e2
  have h1 := (h.lt b (by rw [e]; rfl)).1
  have h2 := hb b e2.symm
  omega
theorem owns_lit (w : World) (zs : List Int) (n : Nat) (hz : zs.length = n) (hl : n ≤ maxLen) : (w.alloc (.cells (cellsU8 zs).toArray 5)).ownsRow w.heap.size 5 1 (.slice (some ⟨w.heap.size, 0, none⟩) n n) n (cellsU8 zs) := by
  subst hz
  have hh : (w.alloc (.cells (cellsU8 zs).toArray 5)).heap[w.heap.size]? = some (.cells (cellsU8 zs).toArray 5 (0, 0)) := by
    show (w.heap.push _)[w.heap.size]? = _
    simp
  refine ⟨by rw [cellsU8_length, Nat.mul_one], .inr ⟨_, _, _, rfl, Nat.le_refl _, hh, Nat.le_refl _, hl, by simp [cellsU8_length], ?_⟩⟩
  rw [List.take_of_length_le (by simp [cellsU8_length])]
theorem view_abc (w : World) : View (w.alloc (.cells #[.int .u8 97, .int .u8 98, .int .u8 99] 5 (3, 4))) (.slice (some ⟨w.heap.size, 0, none⟩) 3 3) [97, 98, 99] := by
  refine ⟨_, 3, rfl, by decide, by decide, fun h => by simp at h, .inr ⟨w.heap.size, 0, rfl, fun i hi => ?_⟩⟩
  rw [World.cell?_alloc_mark]
  match i, hi with
  | 0, _ => rfl
  | 1, _ => rfl
  | 2, _ => rfl
/-- 'abc', in a list of lists. -/
def abcW (w : World) : World := (w.alloc (.cells #[.int .u8 97, .int .u8 98, .int .u8 99] 5 (3, 4))).alloc (.cells #[.slice (some ⟨w.heap.size, 0, none⟩) 3 3] 22)
theorem abc_size (w : World) : (abcW w).heap.size = w.heap.size + 2 := by unfold abcW; rw [size_alloc, size_alloc]
theorem abc_below (w : World) : Below w.heap.size w (abcW w) := ((Below.refl w.heap.size w).alloc (Nat.le_refl _) _).alloc (by rw [size_alloc]; omega) _
theorem abc_pv (w : World) : PV (abcW w) (.slice (some ⟨w.heap.size + 1, 0, none⟩) 1 1) [.slice (some ⟨w.heap.size, 0, none⟩) 3 3] [[97, 98, 99]] := by
  refine ⟨_, 1, rfl, Nat.le_refl _, by decide, rfl, fun i x hx => ?_, .inr ⟨w.heap.size + 1, 0, rfl, fun i x hx => ?_⟩⟩
  · match i, hx with
    | 0, hx =>
      simp at hx
      subst hx
      exact (view_abc w).kept fun b hb => Below.heap_alloc _ _ b hb
  · have r := rangeAt_new (w.alloc (.cells #[.int .u8 97, .int .u8 98, .int .u8 99] 5 (3, 4))) #[.slice (some ⟨w.heap.size, 0, none⟩) 3 3] 22
    rw [size_alloc] at r
    exact r i x (by simpa using hx)
theorem smE256 : smE 256 = 0 := by decide
set_option maxHeartbeats 3200000 in
set_option maxRecDepth 100000 in
theorem sums_known (h : Int) (k : Known h) (a : Option Addr) (n c : Nat) (xs : List Value) (yss : List (List Int)) (w : World) (hT : Hid (Tables w)) (hR : Hid (RTab w)) (hP : Hid (PV w (.slice a n c) xs yss)) (hxn : Hid (xs.length = n)) (hs : Hid (yss.flatten.length ≤ 1048576)) (hn : n ≤ 1048576) :
    Calls Tryd.prog 8 #[.int .i64 h, .slice a n c] w fun e w' => e = .returned (.bool true) ∧ Below w.heap.size w w' := by
  have hT4 := hT.out.size
  have hR2 := hR.out.size
  have hyn : Hid (yss.length = n) := by
    obtain ⟨_, _, _, _, _, h3, _⟩ := hP.out
    show _ = _
    rw [← h3, hxn.out]
  have hp := szOf_pos k
  have HSz : Hid (∀ u, Calls Tryd.prog 41 #[.int .i64 h] u fun e w' => e = .returned (.int .i64 (szOf h : Nat)) ∧ w' = u) := fun u => rsize_ok h k u
  have HEs : Hid (smE h = 0) := by show _ = _; unfold smE; rw [if_pos k]
  have H38 := joined_ok a n c xs yss w hP hxn hs hn
  have HK38 : Hid (Calls Tryd.prog 38 #[.slice a n c] w fun e w' => Hid (∃ v' zs, e = .returned v' ∧ w'.ownsRow w.heap.size 5 1 v' zs.length (cellsU8 zs) ∧ Below w.heap.size w w' ∧ (zs = yss.flatten ∨ 65536 < zs.length) ∧ zs.length ≤ 1048576)) := H38
  clear H38 k
  have kc := fun (w : World) (C : Array Value) (n c : Nat) => Lib.run_convert_bytes_const (P := Tryd.prog) w 22 5 C n c Tryd.underlying22 Tryd.underlying5
  go_enter Tryd.func8, Tryd.ntmps8
  go_upto_region 2 with (go_at_call 38; refine HK38.out.mono ?_)
  intro e1 w1 hh
  obtain ⟨va, zs, rfl, ho1, hb1, hz1, hl1⟩ : ∃ v' zs, e1 = .returned v' ∧ w1.ownsRow w.heap.size 5 1 v' zs.length (cellsU8 zs) ∧ Below w.heap.size w w1 ∧ (zs = yss.flatten ∨ 65536 < zs.length) ∧ zs.length ≤ 1048576 := by
    have := hh.out
    grind
  obtain ⟨aa, ca, rfl⟩ := owns_slice ho1
  obtain ⟨lz, hlz⟩ : ∃ lz, lz = zs.length := ⟨_, rfl⟩
  rw [← hlz] at ho1 hl1 ⊢
  have HLz : Hid (zs.length = lz) := hlz.symm
  have HO1 : Hid (w1.ownsRow w.heap.size 5 1 (.slice aa lz ca) lz (cellsU8 zs)) := ho1
  have HB1 : Hid (Below w.heap.size w w1) := hb1
  have HZ1 : Hid (zs = yss.flatten ∨ 65536 < zs.length) := hz1
  clear hh ho1 hb1 hz1 hlz HK38
  by_cases hlong : 65536 < lz
  · have d1 : (65536 : Int) < (lz : Nat) := by omega
    go_wp2
    go_ret
    exact ⟨rfl, HB1.out⟩
  · have d1 : ¬ (65536 : Int) < (lz : Nat) := by omega
    have HZ : Hid (zs = yss.flatten) := by
      rcases HZ1.out with h | h
      · exact h
      · rw [HLz.out] at h; omega
    have HP1 : Hid (PV w1 (.slice a n c) xs yss) := hP.out.kept fun b hb => HB1.out.block b hb
    have H39 : Hid (Calls Tryd.prog 39 #[.slice a n c] w1 fun e w' => Hid (∃ v', e = .returned v' ∧ ∃ vs, vs.length = n ∧ w'.ownsRow w1.heap.size 22 1 v' n vs ∧ Lent w1.heap.size w' vs yss ∧ Below w1.heap.size w1 w')) := lent_ok a n c xs yss w1 HP1 hxn hs hn
    clear HZ1
    go_upto_region 5 with (go_at_call 39; refine H39.out.mono ?_)
    intro e2 w2 hh
    obtain ⟨vl, rfl, vs, hvn, ho2, hL2, hb2⟩ := hh.out
    have HB2 : Hid (Below w1.heap.size w1 w2) := hb2
    have HB02 : Hid (Below w.heap.size w w2) := HB1.out.trans (hb2.mono HB1.out.size)
    have HPL : Hid (PV w2 vl vs yss) := lent_pv ho2 hvn hyn.out hL2
    have HL2 : Hid (Lent w1.heap.size w2 vs yss) := hL2
    have HO2 : Hid (w2.ownsRow w.heap.size 5 1 (.slice aa lz ca) lz (cellsU8 zs)) := owns_kept HO1.out hb2
    clear hh hvn ho2 hL2 hb2 H39 HO1
    have hs2 : Hid (yss.flatten.length ≤ 33554432) := by have := hs.out; show _ ≤ _; omega
    have H17 : Hid (∀ u, Below w2.heap.size w2 u → Calls Tryd.prog 17 #[.int .i64 h, vl] u fun e w' => Hid (∃ v', e = .returned (.tuple #[v', .int .i64 0]) ∧ w'.ownsRow u.heap.size 5 1 v' (smL h zs).length (cellsU8 (smL h zs)) ∧ Below u.heap.size u w')) := fun u hu => by
      have q := sm_ok h vl vs yss u ((hT.out.below HB02.out hT4).below hu (by have := HB02.out.size; omega)) (HPL.out.kept fun b hb => hu.block b hb) hs2.out
      rw [HEs.out, ← HZ.out] at q
      exact q
    go_upto_region 6 with (go_at_call 17; refine (H17.out w2 (Below.refl _ _)).mono ?_)
    intro e3 w3 hh
    obtain ⟨vx, rfl, hox, hb3⟩ := hh.out
    have HB3 : Hid (Below w2.heap.size w2 w3) := hb3
    have HX3 : Hid (w3.ownsRow w2.heap.size 5 1 vx (smL h zs).length (cellsU8 (smL h zs))) := hox
    clear hh hox hb3
    have H17b : Hid (Calls Tryd.prog 17 #[.int .i64 256, .slice (some ⟨w3.heap.size + 1, 0, none⟩) 1 1] ((w3.alloc (.cells #[.int .u8 97, .int .u8 98, .int .u8 99] 5 (3, 4))).alloc (.cells #[.slice (some ⟨w3.heap.size, 0, none⟩) 3 3] 22)) fun e w' => Hid (∃ v', e = .returned (.tuple #[v', .int .i64 0]) ∧ w'.ownsRow (w3.heap.size + 2) 5 1 v' (smL 256 [97, 98, 99]).length (cellsU8 (smL 256 [97, 98, 99])) ∧ Below w3.heap.size w3 w')) := by
      have hb := abc_below w3
      have h1 := HB02.out.size
      have h2 := HB3.out.size
      have q := sm_ok 256 _ _ [[97, 98, 99]] (abcW w3) (((hT.out.below HB02.out hT4).below HB3.out (by omega)).below hb (by omega)) (abc_pv w3) (by decide)
      rw [smE256, abc_size] at q
      exact q.mono fun e w' hh => by
        obtain ⟨v', q1, q2, q3⟩ := hh
        exact ⟨v', q1, q2, hb.trans (q3.mono (by omega))⟩
    go_upto_region 7 with (go_at_call 17; refine H17b.out.mono ?_)
    intro e4 w4 hh
    obtain ⟨vc, rfl, hoc, hb4⟩ := hh.out
    have HB4 : Hid (Below w3.heap.size w3 w4) := hb4
    have HC4 : Hid (w4.ownsRow (w3.heap.size + 2) 5 1 vc (smL 256 [97, 98, 99]).length (cellsU8 (smL 256 [97, 98, 99]))) := hoc
    clear hh hoc hb4 H17b
    have HB24 : Hid (Below w2.heap.size w2 w4) := HB3.out.trans (HB4.out.mono HB3.out.size)
    go_upto_region 8 with (go_at_call 17; refine (H17.out w4 HB24.out).mono ?_)
    intro e5 w5 hh
    obtain ⟨vy, rfl, hoy, hb5⟩ := hh.out
    have HB5 : Hid (Below w4.heap.size w4 w5) := hb5
    have HY5 : Hid (w5.ownsRow w4.heap.size 5 1 vy (smL h zs).length (cellsU8 (smL h zs))) := hoy
    clear hh hoy hb5
    have HB25 : Hid (Below w2.heap.size w2 w5) := HB24.out.trans (HB5.out.mono HB24.out.size)
    have HB05 : Hid (Below w.heap.size w w5) := HB02.out.trans (HB25.out.mono HB02.out.size)
    have H40 : Hid (Calls Tryd.prog 40 #[.int .i64 h, .slice aa lz ca] w5 fun e w' => Hid (∃ v', e = .returned v' ∧ w'.ownsRow w5.heap.size 5 1 v' (smL h zs).length (cellsU8 (smL h zs)) ∧ Below w5.heap.size w5 w')) := rs_ok h _ zs w5 (hR.out.below HB05.out hR2) ((viewOwns HO2.out HLz.out).kept fun b hb => HB25.out.block b hb) (by rw [HLz.out]; omega)
    go_upto_region 9 with (go_at_call 40; refine H40.out.mono ?_)
    intro e6 w6 hh
    obtain ⟨vw, rfl, how, hb6⟩ := hh.out
    have HB6 : Hid (Below w5.heap.size w5 w6) := hb6
    have HW6 : Hid (w6.ownsRow w5.heap.size 5 1 vw (smL h zs).length (cellsU8 (smL h zs))) := how
    clear hh how hb6 H40
    have HB26 : Hid (Below w2.heap.size w2 w6) := HB25.out.trans (HB6.out.mono HB25.out.size)
    have HB46 : Hid (Below w4.heap.size w4 w6) := HB5.out.trans (HB6.out.mono HB5.out.size)
    have HB36 : Hid (Below w3.heap.size w3 w6) := HB4.out.trans (HB46.out.mono HB4.out.size)
    have HB06 : Hid (Below w.heap.size w w6) := HB02.out.trans (HB26.out.mono HB02.out.size)
    have HS : Hid (w.heap.size ≤ w2.heap.size ∧ w2.heap.size ≤ w3.heap.size ∧ w3.heap.size ≤ w4.heap.size ∧ w4.heap.size ≤ w5.heap.size ∧ w5.heap.size ≤ w6.heap.size) := ⟨HB02.out.size, HB3.out.size, HB4.out.size, HB5.out.size, HB6.out.size⟩
    have HX : Hid (w6.ownsRow w2.heap.size 5 1 vx (smL h zs).length (cellsU8 (smL h zs))) := owns_kept HX3.out HB36.out
    have HC : Hid (w6.ownsRow (w3.heap.size + 2) 5 1 vc (smL 256 [97, 98, 99]).length (cellsU8 (smL 256 [97, 98, 99]))) := owns_kept HC4.out HB46.out
    have HY : Hid (w6.ownsRow w4.heap.size 5 1 vy (smL h zs).length (cellsU8 (smL h zs))) := owns_kept HY5.out HB6.out
    have HXb : Hid (∀ b, vx.ownBlock = some b → w2.heap.size ≤ b ∧ b < w3.heap.size) := fun b hb => HX3.out.lt b hb
    have HVX : Hid (View w6 vx (smL h zs)) := viewOwns HX.out rfl
    have HVY : Hid (View w6 vy (smL h zs)) := viewOwns HY.out rfl
    have HVC : Hid (View w6 vc (smL 256 [97, 98, 99])) := viewOwns HC.out rfl
    have HVW : Hid (View w6 vw (smL h zs)) := viewOwns HW6.out rfl
    have HPL6 : Hid (PV w6 vl vs yss) := HPL.out.kept fun b hb => HB26.out.block b hb
    have HL6 : Hid (Lent w1.heap.size w6 vs yss) := fun i x hx => (HL2.out i x hx).kept fun b hb => HB26.out.block b hb
    have HP6 : Hid (PV w6 (.slice a n c) xs yss) := hP.out.kept fun b hb => HB06.out.block b hb
    have hsm := smL_length h zs
    have C1 : Hid (∀ u : World, u.heap = w6.heap → Calls Tryd.prog 12 #[vx, vw] u fun e w' => e = .returned (.bool true) ∧ ∃ m, w' = u.drewN m) := fun u hu => by
      have q := same_any vx vw (smL h zs) (smL h zs) u (HVX.out.kept fun b _ => by rw [hu]) (HVW.out.kept fun b _ => by rw [hu])
      rw [show decide (smL h zs = smL h zs) = true from decide_eq_true rfl] at q
      exact q
    have C2 : Hid (∀ u : World, u.heap = w6.heap → Calls Tryd.prog 12 #[vy, vw] u fun e w' => e = .returned (.bool true) ∧ ∃ m, w' = u.drewN m) := fun u hu => by
      have q := same_any vy vw (smL h zs) (smL h zs) u (HVY.out.kept fun b _ => by rw [hu]) (HVW.out.kept fun b _ => by rw [hu])
      rw [show decide (smL h zs = smL h zs) = true from decide_eq_true rfl] at q
      exact q
    have C3 : Hid (∀ u : World, u.heap = w6.heap → Calls Tryd.prog 42 #[vl, .slice a n c] u fun e w' => e = .returned (.bool true) ∧ ∃ m, w' = u.drewN m) := fun u hu =>
      wholes_ok vl _ vs xs yss w1.heap.size u (HPL6.out.kept fun b _ => by rw [hu]) (HP6.out.kept fun b _ => by rw [hu]) (fun i x hx => (HL6.out i x hx).kept fun b _ => by rw [hu]) (by rw [hxn.out]; exact hn)
    clear HX3 HC4 HY5 HB3 HB4 HB5 HB6 HB24 HB25 HB05 HB46 HB36 HO2 HB1 HB2
    go_wp2_with (first
      | (go_at_call 41; refine (HSz.out _).mono ?_; rintro e1 wx ⟨rfl, hwx⟩; obtain rfl := hwx.symm)
      | (go_at_call 11; refine (num_any _ _ (by decide) (by decide)).mono ?_; rintro e1 wx ⟨rfl, hwx⟩; obtain rfl := hwx.symm))
    refine (C1.out _ ?_).mono ?_
    · rfl
    rintro e7 w7 ⟨rfl, m7, rfl⟩
    go_wp2_with fail
    refine (C2.out _ ?_).mono ?_
    · rfl
    rintro e8 w8 ⟨rfl, m8, rfl⟩
    go_wp2_with fail
    refine (C3.out _ ?_).mono ?_
    · rfl
    rintro e9 w9 ⟨rfl, m9, rfl⟩
    have C4 : Hid (∀ u : World, Below w6.heap.size w6 u → u.heap.size = w6.heap.size → Calls Tryd.prog 40 #[.int .i64 256, .slice (some ⟨w6.heap.size, 0, none⟩) 3 3] (u.alloc (.cells #[.int .u8 97, .int .u8 98, .int .u8 99] 5 (3, 4))) fun e w' => Hid (∃ v', e = .returned v' ∧ w'.ownsRow (w6.heap.size + 1) 5 1 v' (smL 256 [97, 98, 99]).length (cellsU8 (smL 256 [97, 98, 99])) ∧ Below w6.heap.size w6 w')) := fun u hu hz => by
      have hb : Below w6.heap.size w6 (u.alloc (.cells #[.int .u8 97, .int .u8 98, .int .u8 99] 5 (3, 4))) := hu.alloc (by omega) _
      have hv := view_abc u
      rw [hz] at hv
      have h1 := HB06.out.size
      have q := rs_ok 256 _ [97, 98, 99] (u.alloc (.cells #[.int .u8 97, .int .u8 98, .int .u8 99] 5 (3, 4))) ((hR.out.below HB06.out hR2).below hb (by omega)) hv (by decide)
      rw [size_alloc, hz] at q
      exact q.mono fun e w' hh => by
        obtain ⟨v', q1, q2, q3⟩ := hh
        exact ⟨v', q1, q2, hb.trans (q3.mono (by omega))⟩
    have kd : ∀ (m : Nat) (C : Array Value) (n c : Nat), (convert 22 22 (.slice (some ⟨w6.heap.size, 0, none⟩) n c)).run Tryd.prog ((w6.drewN m).alloc (.cells C 5)) = .ok (.slice (some ⟨w6.heap.size, 0, none⟩) n c) ((w6.drewN m).alloc (.cells C 5 (C.size, C.size + 1))) := fun m C n c => Lib.run_convert_bytes_const (P := Tryd.prog) (w6.drewN m) 22 5 C n c Tryd.underlying22 Tryd.underlying5
    go_wp2_with fail
    refine (C4.out _ ?_ ?_).mono ?_
    · exact ⟨rfl, rfl, rfl, Nat.le_refl _, fun _ _ => rfl⟩
    · rfl
    intro e10 w10 hh
    obtain ⟨vb, rfl, hob, hb10⟩ := hh.out
    have HB10 : Hid (Below w6.heap.size w6 w10) := hb10
    have HBb : Hid (w10.ownsRow (w6.heap.size + 1) 5 1 vb (smL 256 [97, 98, 99]).length (cellsU8 (smL 256 [97, 98, 99]))) := hob
    clear hh hob hb10 C1 C2 C3 C4 HSz
    have H25 : Hid (Calls Tryd.prog 25 #[vx] w10 fun e w' => e = .returned (.tuple #[]) ∧ w10.grownBy w' vx.ownBlock) :=
      spoil_any w2.heap.size _ vx (smL h zs) w10 (by omega) (by have := HS.out; have := HB10.out.size; omega) (owns_kept HX.out HB10.out)
    go_wp2_with fail
    refine H25.out.mono ?_
    rintro e11 w11 ⟨rfl, hg⟩
    have HZ10 := HB10.out.size
    have HVY2 : Hid (View w11 vy (smL h zs)) := (HVY.out.kept fun b hb => HB10.out.block b hb).grown hg (owns_apart HY.out fun b hb => by have := (HXb.out b hb).2; have := HS.out; omega)
    have HVW2 : Hid (View w11 vw (smL h zs)) := (HVW.out.kept fun b hb => HB10.out.block b hb).grown hg (owns_apart HW6.out fun b hb => by have := (HXb.out b hb).2; have := HS.out; omega)
    have HVC2 : Hid (View w11 vc (smL 256 [97, 98, 99])) := (HVC.out.kept fun b hb => HB10.out.block b hb).grown hg (owns_apart HC.out fun b hb => by have := (HXb.out b hb).2; have := HS.out; omega)
    have HVB2 : Hid (View w11 vb (smL 256 [97, 98, 99])) := (viewOwns HBb.out rfl).grown hg (owns_apart HBb.out fun b hb => by have := (HXb.out b hb).2; have := HS.out; omega)
    have HB211 : Hid (Below w2.heap.size w2 w11) := by
      have hb : Below w2.heap.size w2 w10 := HB26.out.trans (HB10.out.mono HB26.out.size)
      exact hb.grown hg hb.size (fun b hb => (HXb.out b hb).1)
    have HB011 : Hid (Below w.heap.size w w11) := HB02.out.trans (HB211.out.mono HB02.out.size)
    have C5 : Hid (∀ u : World, u.heap = w11.heap → Calls Tryd.prog 12 #[vy, vw] u fun e w' => e = .returned (.bool true) ∧ ∃ m, w' = u.drewN m) := fun u hu => by
      have q := same_any vy vw (smL h zs) (smL h zs) u (HVY2.out.kept fun b _ => by rw [hu]) (HVW2.out.kept fun b _ => by rw [hu])
      rw [show decide (smL h zs = smL h zs) = true from decide_eq_true rfl] at q
      exact q
    have C6 : Hid (∀ u : World, u.heap = w11.heap → Calls Tryd.prog 12 #[vc, vb] u fun e w' => e = .returned (.bool true) ∧ ∃ m, w' = u.drewN m) := fun u hu => by
      have q := same_any vc vb (smL 256 [97, 98, 99]) (smL 256 [97, 98, 99]) u (HVC2.out.kept fun b _ => by rw [hu]) (HVB2.out.kept fun b _ => by rw [hu])
      rw [show decide (smL 256 [97, 98, 99] = smL 256 [97, 98, 99]) = true from decide_eq_true rfl] at q
      exact q
    clear hg H25
    go_wp2_with fail
    refine (C5.out _ ?_).mono ?_
    · rfl
    rintro e12 w12 ⟨rfl, m12, rfl⟩
    go_wp2_with fail
    refine (C6.out _ ?_).mono ?_
    · rfl
    rintro e13 w13 ⟨rfl, m13, rfl⟩
    go_wp2_with fail
    refine (H17.out _ ?_).mono ?_
    · exact ⟨HB211.out.os, HB211.out.tape, HB211.out.output, HB211.out.size, HB211.out.block⟩
    intro e14 w14 hh
    obtain ⟨vd, rfl, hod, hb14⟩ := hh.out
    have HB14 : Hid (Below w11.heap.size w11 w14) := ⟨hb14.os, hb14.tape, hb14.output, hb14.size, hb14.block⟩
    have HVD : Hid (View w14 vd (smL h zs)) := viewOwns hod rfl
    have HVW3 : Hid (View w14 vw (smL h zs)) := HVW2.out.kept fun b hb => HB14.out.block b hb
    have HB014 : Hid (Below w.heap.size w w14) := HB011.out.trans (HB14.out.mono HB011.out.size)
    have C8 : Hid (∀ u : World, u.heap = w14.heap → Calls Tryd.prog 12 #[vd, vw] u fun e w' => e = .returned (.bool true) ∧ ∃ m, w' = u.drewN m) := fun u hu => by
      have q := same_any vd vw (smL h zs) (smL h zs) u (HVD.out.kept fun b _ => by rw [hu]) (HVW3.out.kept fun b _ => by rw [hu])
      rw [show decide (smL h zs = smL h zs) = true from decide_eq_true rfl] at q
      exact q
    clear hh hod hb14 C5 C6
    go_wp2_with (go_at_call 11; refine (num_any _ _ (by decide) (by decide)).mono ?_; rintro e1 wx ⟨rfl, hwx⟩; obtain rfl := hwx.symm)
    refine (C8.out _ ?_).mono ?_
    · rfl
    rintro e15 w15 ⟨rfl, m15, rfl⟩
    go_wp2_with fail
    go_ret
    exact ⟨rfl, ⟨HB014.out.os, HB014.out.tape, HB014.out.output, HB014.out.size, HB014.out.block⟩⟩
set_option maxHeartbeats 3200000 in
set_option maxRecDepth 100000 in
theorem sums_bad (h : Int) (k : ¬ Known h) (a : Option Addr) (n c : Nat) (xs : List Value) (yss : List (List Int)) (w : World) (hT : Hid (Tables w)) (hR : Hid (RTab w)) (hP : Hid (PV w (.slice a n c) xs yss)) (hxn : Hid (xs.length = n)) (hs : Hid (yss.flatten.length ≤ 1048576)) (hn : n ≤ 1048576) :
    Calls Tryd.prog 8 #[.int .i64 h, .slice a n c] w fun e w' => e = .returned (.bool true) ∧ Below w.heap.size w w' := by
  have hT4 := hT.out.size
  have hR2 := hR.out.size
  have hyn : Hid (yss.length = n) := by
    obtain ⟨_, _, _, _, _, h3, _⟩ := hP.out
    show _ = _
    rw [← h3, hxn.out]
  have HSz : Hid (∀ u, Calls Tryd.prog 41 #[.int .i64 h] u fun e w' => e = .returned (.int .i64 0) ∧ w' = u) := fun u => rsize_bad h k u
  have HEs : Hid (smE h = 10) := by show _ = _; unfold smE; rw [if_neg k]
  have H38 := joined_ok a n c xs yss w hP hxn hs hn
  have HK38 : Hid (Calls Tryd.prog 38 #[.slice a n c] w fun e w' => Hid (∃ v' zs, e = .returned v' ∧ w'.ownsRow w.heap.size 5 1 v' zs.length (cellsU8 zs) ∧ Below w.heap.size w w' ∧ (zs = yss.flatten ∨ 65536 < zs.length) ∧ zs.length ≤ 1048576)) := H38
  clear H38 k
  have kc := fun (w : World) (C : Array Value) (n c : Nat) => Lib.run_convert_bytes_const (P := Tryd.prog) w 22 5 C n c Tryd.underlying22 Tryd.underlying5
  go_enter Tryd.func8, Tryd.ntmps8
  go_upto_region 2 with (go_at_call 38; refine HK38.out.mono ?_)
  intro e1 w1 hh
  obtain ⟨va, zs, rfl, ho1, hb1, hz1, hl1⟩ : ∃ v' zs, e1 = .returned v' ∧ w1.ownsRow w.heap.size 5 1 v' zs.length (cellsU8 zs) ∧ Below w.heap.size w w1 ∧ (zs = yss.flatten ∨ 65536 < zs.length) ∧ zs.length ≤ 1048576 := by
    have := hh.out
    grind
  obtain ⟨aa, ca, rfl⟩ := owns_slice ho1
  obtain ⟨lz, hlz⟩ : ∃ lz, lz = zs.length := ⟨_, rfl⟩
  rw [← hlz] at ho1 hl1 ⊢
  have HLz : Hid (zs.length = lz) := hlz.symm
  have HO1 : Hid (w1.ownsRow w.heap.size 5 1 (.slice aa lz ca) lz (cellsU8 zs)) := ho1
  have HB1 : Hid (Below w.heap.size w w1) := hb1
  have HZ1 : Hid (zs = yss.flatten ∨ 65536 < zs.length) := hz1
  clear hh ho1 hb1 hz1 hlz HK38
  by_cases hlong : 65536 < lz
  · have d1 : (65536 : Int) < (lz : Nat) := by omega
    go_wp2
    go_ret
    exact ⟨rfl, HB1.out⟩
  · have d1 : ¬ (65536 : Int) < (lz : Nat) := by omega
    have HZ : Hid (zs = yss.flatten) := by
      rcases HZ1.out with h | h
      · exact h
      · rw [HLz.out] at h; omega
    have HP1 : Hid (PV w1 (.slice a n c) xs yss) := hP.out.kept fun b hb => HB1.out.block b hb
    have H39 : Hid (Calls Tryd.prog 39 #[.slice a n c] w1 fun e w' => Hid (∃ v', e = .returned v' ∧ ∃ vs, vs.length = n ∧ w'.ownsRow w1.heap.size 22 1 v' n vs ∧ Lent w1.heap.size w' vs yss ∧ Below w1.heap.size w1 w')) := lent_ok a n c xs yss w1 HP1 hxn hs hn
    clear HZ1
    go_upto_region 5 with (go_at_call 39; refine H39.out.mono ?_)
    intro e2 w2 hh
    obtain ⟨vl, rfl, vs, hvn, ho2, hL2, hb2⟩ := hh.out
    have HB2 : Hid (Below w1.heap.size w1 w2) := hb2
    have HB02 : Hid (Below w.heap.size w w2) := HB1.out.trans (hb2.mono HB1.out.size)
    have HPL : Hid (PV w2 vl vs yss) := lent_pv ho2 hvn hyn.out hL2
    have HL2 : Hid (Lent w1.heap.size w2 vs yss) := hL2
    have HO2 : Hid (w2.ownsRow w.heap.size 5 1 (.slice aa lz ca) lz (cellsU8 zs)) := owns_kept HO1.out hb2
    clear hh hvn ho2 hL2 hb2 H39 HO1
    have hs2 : Hid (yss.flatten.length ≤ 33554432) := by have := hs.out; show _ ≤ _; omega
    have H17 : Hid (∀ u, Below w2.heap.size w2 u → Calls Tryd.prog 17 #[.int .i64 h, vl] u fun e w' => Hid (∃ v', e = .returned (.tuple #[v', .int .i64 10]) ∧ w'.ownsRow u.heap.size 5 1 v' (smL h zs).length (cellsU8 (smL h zs)) ∧ Below u.heap.size u w')) := fun u hu => by
      have q := sm_ok h vl vs yss u ((hT.out.below HB02.out hT4).below hu (by have := HB02.out.size; omega)) (HPL.out.kept fun b hb => hu.block b hb) hs2.out
      rw [HEs.out, ← HZ.out] at q
      exact q
    go_upto_region 6 with (go_at_call 17; refine (H17.out w2 (Below.refl _ _)).mono ?_)
    intro e3 w3 hh
    obtain ⟨vx, rfl, hox, hb3⟩ := hh.out
    have HB3 : Hid (Below w2.heap.size w2 w3) := hb3
    have HX3 : Hid (w3.ownsRow w2.heap.size 5 1 vx (smL h zs).length (cellsU8 (smL h zs))) := hox
    clear hh hox hb3
    have H17b : Hid (Calls Tryd.prog 17 #[.int .i64 256, .slice (some ⟨w3.heap.size + 1, 0, none⟩) 1 1] ((w3.alloc (.cells #[.int .u8 97, .int .u8 98, .int .u8 99] 5 (3, 4))).alloc (.cells #[.slice (some ⟨w3.heap.size, 0, none⟩) 3 3] 22)) fun e w' => Hid (∃ v', e = .returned (.tuple #[v', .int .i64 0]) ∧ w'.ownsRow (w3.heap.size + 2) 5 1 v' (smL 256 [97, 98, 99]).length (cellsU8 (smL 256 [97, 98, 99])) ∧ Below w3.heap.size w3 w')) := by
      have hb := abc_below w3
      have h1 := HB02.out.size
      have h2 := HB3.out.size
      have q := sm_ok 256 _ _ [[97, 98, 99]] (abcW w3) (((hT.out.below HB02.out hT4).below HB3.out (by omega)).below hb (by omega)) (abc_pv w3) (by decide)
      rw [smE256, abc_size] at q
      exact q.mono fun e w' hh => by
        obtain ⟨v', q1, q2, q3⟩ := hh
        exact ⟨v', q1, q2, hb.trans (q3.mono (by omega))⟩
    go_upto_region 7 with (go_at_call 17; refine H17b.out.mono ?_)
    intro e4 w4 hh
    obtain ⟨vc, rfl, hoc, hb4⟩ := hh.out
    have HB4 : Hid (Below w3.heap.size w3 w4) := hb4
    have HC4 : Hid (w4.ownsRow (w3.heap.size + 2) 5 1 vc (smL 256 [97, 98, 99]).length (cellsU8 (smL 256 [97, 98, 99]))) := hoc
    clear hh hoc hb4 H17b
    have HB24 : Hid (Below w2.heap.size w2 w4) := HB3.out.trans (HB4.out.mono HB3.out.size)
    go_upto_region 8 with (go_at_call 17; refine (H17.out w4 HB24.out).mono ?_)
    intro e5 w5 hh
    obtain ⟨vy, rfl, hoy, hb5⟩ := hh.out
    have HB5 : Hid (Below w4.heap.size w4 w5) := hb5
    have HY5 : Hid (w5.ownsRow w4.heap.size 5 1 vy (smL h zs).length (cellsU8 (smL h zs))) := hoy
    clear hh hoy hb5
    have HB25 : Hid (Below w2.heap.size w2 w5) := HB24.out.trans (HB5.out.mono HB24.out.size)
    have HB05 : Hid (Below w.heap.size w w5) := HB02.out.trans (HB25.out.mono HB02.out.size)
    have H40 : Hid (Calls Tryd.prog 40 #[.int .i64 h, .slice aa lz ca] w5 fun e w' => Hid (∃ v', e = .returned v' ∧ w'.ownsRow w5.heap.size 5 1 v' (smL h zs).length (cellsU8 (smL h zs)) ∧ Below w5.heap.size w5 w')) := rs_ok h _ zs w5 (hR.out.below HB05.out hR2) ((viewOwns HO2.out HLz.out).kept fun b hb => HB25.out.block b hb) (by rw [HLz.out]; omega)
    go_upto_region 9 with (go_at_call 40; refine H40.out.mono ?_)
    intro e6 w6 hh
    obtain ⟨vw, rfl, how, hb6⟩ := hh.out
    have HB6 : Hid (Below w5.heap.size w5 w6) := hb6
    have HW6 : Hid (w6.ownsRow w5.heap.size 5 1 vw (smL h zs).length (cellsU8 (smL h zs))) := how
    clear hh how hb6 H40
    have HB26 : Hid (Below w2.heap.size w2 w6) := HB25.out.trans (HB6.out.mono HB25.out.size)
    have HB46 : Hid (Below w4.heap.size w4 w6) := HB5.out.trans (HB6.out.mono HB5.out.size)
    have HB36 : Hid (Below w3.heap.size w3 w6) := HB4.out.trans (HB46.out.mono HB4.out.size)
    have HB06 : Hid (Below w.heap.size w w6) := HB02.out.trans (HB26.out.mono HB02.out.size)
    have HS : Hid (w.heap.size ≤ w2.heap.size ∧ w2.heap.size ≤ w3.heap.size ∧ w3.heap.size ≤ w4.heap.size ∧ w4.heap.size ≤ w5.heap.size ∧ w5.heap.size ≤ w6.heap.size) := ⟨HB02.out.size, HB3.out.size, HB4.out.size, HB5.out.size, HB6.out.size⟩
    have HX : Hid (w6.ownsRow w2.heap.size 5 1 vx (smL h zs).length (cellsU8 (smL h zs))) := owns_kept HX3.out HB36.out
    have HC : Hid (w6.ownsRow (w3.heap.size + 2) 5 1 vc (smL 256 [97, 98, 99]).length (cellsU8 (smL 256 [97, 98, 99]))) := owns_kept HC4.out HB46.out
    have HY : Hid (w6.ownsRow w4.heap.size 5 1 vy (smL h zs).length (cellsU8 (smL h zs))) := owns_kept HY5.out HB6.out
    have HXb : Hid (∀ b, vx.ownBlock = some b → w2.heap.size ≤ b ∧ b < w3.heap.size) := fun b hb => HX3.out.lt b hb
    have HVX : Hid (View w6 vx (smL h zs)) := viewOwns HX.out rfl
    have HVY : Hid (View w6 vy (smL h zs)) := viewOwns HY.out rfl
    have HVC : Hid (View w6 vc (smL 256 [97, 98, 99])) := viewOwns HC.out rfl
    have HVW : Hid (View w6 vw (smL h zs)) := viewOwns HW6.out rfl
    have HPL6 : Hid (PV w6 vl vs yss) := HPL.out.kept fun b hb => HB26.out.block b hb
    have HL6 : Hid (Lent w1.heap.size w6 vs yss) := fun i x hx => (HL2.out i x hx).kept fun b hb => HB26.out.block b hb
    have HP6 : Hid (PV w6 (.slice a n c) xs yss) := hP.out.kept fun b hb => HB06.out.block b hb
    have hsm := smL_length h zs
    have C1 : Hid (∀ u : World, u.heap = w6.heap → Calls Tryd.prog 12 #[vx, vw] u fun e w' => e = .returned (.bool true) ∧ ∃ m, w' = u.drewN m) := fun u hu => by
      have q := same_any vx vw (smL h zs) (smL h zs) u (HVX.out.kept fun b _ => by rw [hu]) (HVW.out.kept fun b _ => by rw [hu])
      rw [show decide (smL h zs = smL h zs) = true from decide_eq_true rfl] at q
      exact q
    have C2 : Hid (∀ u : World, u.heap = w6.heap → Calls Tryd.prog 12 #[vy, vw] u fun e w' => e = .returned (.bool true) ∧ ∃ m, w' = u.drewN m) := fun u hu => by
      have q := same_any vy vw (smL h zs) (smL h zs) u (HVY.out.kept fun b _ => by rw [hu]) (HVW.out.kept fun b _ => by rw [hu])
      rw [show decide (smL h zs = smL h zs) = true from decide_eq_true rfl] at q
      exact q
    have C3 : Hid (∀ u : World, u.heap = w6.heap → Calls Tryd.prog 42 #[vl, .slice a n c] u fun e w' => e = .returned (.bool true) ∧ ∃ m, w' = u.drewN m) := fun u hu =>
      wholes_ok vl _ vs xs yss w1.heap.size u (HPL6.out.kept fun b _ => by rw [hu]) (HP6.out.kept fun b _ => by rw [hu]) (fun i x hx => (HL6.out i x hx).kept fun b _ => by rw [hu]) (by rw [hxn.out]; exact hn)
    clear HX3 HC4 HY5 HB3 HB4 HB5 HB6 HB24 HB25 HB05 HB46 HB36 HO2 HB1 HB2
    go_wp2_with (first
      | (go_at_call 41; refine (HSz.out _).mono ?_; rintro e1 wx ⟨rfl, hwx⟩; obtain rfl := hwx.symm)
      | (go_at_call 11; refine (num_any _ _ (by decide) (by decide)).mono ?_; rintro e1 wx ⟨rfl, hwx⟩; obtain rfl := hwx.symm))
    refine (C1.out _ ?_).mono ?_
    · rfl
    rintro e7 w7 ⟨rfl, m7, rfl⟩
    go_wp2_with fail
    refine (C2.out _ ?_).mono ?_
    · rfl
    rintro e8 w8 ⟨rfl, m8, rfl⟩
    go_wp2_with fail
    refine (C3.out _ ?_).mono ?_
    · rfl
    rintro e9 w9 ⟨rfl, m9, rfl⟩
    have C4 : Hid (∀ u : World, Below w6.heap.size w6 u → u.heap.size = w6.heap.size → Calls Tryd.prog 40 #[.int .i64 256, .slice (some ⟨w6.heap.size, 0, none⟩) 3 3] (u.alloc (.cells #[.int .u8 97, .int .u8 98, .int .u8 99] 5 (3, 4))) fun e w' => Hid (∃ v', e = .returned v' ∧ w'.ownsRow (w6.heap.size + 1) 5 1 v' (smL 256 [97, 98, 99]).length (cellsU8 (smL 256 [97, 98, 99])) ∧ Below w6.heap.size w6 w')) := fun u hu hz => by
      have hb : Below w6.heap.size w6 (u.alloc (.cells #[.int .u8 97, .int .u8 98, .int .u8 99] 5 (3, 4))) := hu.alloc (by omega) _
      have hv := view_abc u
      rw [hz] at hv
      have h1 := HB06.out.size
      have q := rs_ok 256 _ [97, 98, 99] (u.alloc (.cells #[.int .u8 97, .int .u8 98, .int .u8 99] 5 (3, 4))) ((hR.out.below HB06.out hR2).below hb (by omega)) hv (by decide)
      rw [size_alloc, hz] at q
      exact q.mono fun e w' hh => by
        obtain ⟨v', q1, q2, q3⟩ := hh
        exact ⟨v', q1, q2, hb.trans (q3.mono (by omega))⟩
    have kd : ∀ (m : Nat) (C : Array Value) (n c : Nat), (convert 22 22 (.slice (some ⟨w6.heap.size, 0, none⟩) n c)).run Tryd.prog ((w6.drewN m).alloc (.cells C 5)) = .ok (.slice (some ⟨w6.heap.size, 0, none⟩) n c) ((w6.drewN m).alloc (.cells C 5 (C.size, C.size + 1))) := fun m C n c => Lib.run_convert_bytes_const (P := Tryd.prog) (w6.drewN m) 22 5 C n c Tryd.underlying22 Tryd.underlying5
    go_wp2_with fail
    refine (C4.out _ ?_ ?_).mono ?_
    · exact ⟨rfl, rfl, rfl, Nat.le_refl _, fun _ _ => rfl⟩
    · rfl
    intro e10 w10 hh
    obtain ⟨vb, rfl, hob, hb10⟩ := hh.out
    have HB10 : Hid (Below w6.heap.size w6 w10) := hb10
    have HBb : Hid (w10.ownsRow (w6.heap.size + 1) 5 1 vb (smL 256 [97, 98, 99]).length (cellsU8 (smL 256 [97, 98, 99]))) := hob
    clear hh hob hb10 C1 C2 C3 C4 HSz
    have H25 : Hid (Calls Tryd.prog 25 #[vx] w10 fun e w' => e = .returned (.tuple #[]) ∧ w10.grownBy w' vx.ownBlock) :=
      spoil_any w2.heap.size _ vx (smL h zs) w10 (by omega) (by have := HS.out; have := HB10.out.size; omega) (owns_kept HX.out HB10.out)
    go_wp2_with fail
    refine H25.out.mono ?_
    rintro e11 w11 ⟨rfl, hg⟩
    have HZ10 := HB10.out.size
    have HVY2 : Hid (View w11 vy (smL h zs)) := (HVY.out.kept fun b hb => HB10.out.block b hb).grown hg (owns_apart HY.out fun b hb => by have := (HXb.out b hb).2; have := HS.out; omega)
    have HVW2 : Hid (View w11 vw (smL h zs)) := (HVW.out.kept fun b hb => HB10.out.block b hb).grown hg (owns_apart HW6.out fun b hb => by have := (HXb.out b hb).2; have := HS.out; omega)
    have HVC2 : Hid (View w11 vc (smL 256 [97, 98, 99])) := (HVC.out.kept fun b hb => HB10.out.block b hb).grown hg (owns_apart HC.out fun b hb => by have := (HXb.out b hb).2; have := HS.out; omega)
    have HVB2 : Hid (View w11 vb (smL 256 [97, 98, 99])) := (viewOwns HBb.out rfl).grown hg (owns_apart HBb.out fun b hb => by have := (HXb.out b hb).2; have := HS.out; omega)
    have HB211 : Hid (Below w2.heap.size w2 w11) := by
      have hb : Below w2.heap.size w2 w10 := HB26.out.trans (HB10.out.mono HB26.out.size)
      exact hb.grown hg hb.size (fun b hb => (HXb.out b hb).1)
    have HB011 : Hid (Below w.heap.size w w11) := HB02.out.trans (HB211.out.mono HB02.out.size)
    have C5 : Hid (∀ u : World, u.heap = w11.heap → Calls Tryd.prog 12 #[vy, vw] u fun e w' => e = .returned (.bool true) ∧ ∃ m, w' = u.drewN m) := fun u hu => by
      have q := same_any vy vw (smL h zs) (smL h zs) u (HVY2.out.kept fun b _ => by rw [hu]) (HVW2.out.kept fun b _ => by rw [hu])
      rw [show decide (smL h zs = smL h zs) = true from decide_eq_true rfl] at q
      exact q
    have C6 : Hid (∀ u : World, u.heap = w11.heap → Calls Tryd.prog 12 #[vc, vb] u fun e w' => e = .returned (.bool true) ∧ ∃ m, w' = u.drewN m) := fun u hu => by
      have q := same_any vc vb (smL 256 [97, 98, 99]) (smL 256 [97, 98, 99]) u (HVC2.out.kept fun b _ => by rw [hu]) (HVB2.out.kept fun b _ => by rw [hu])
      rw [show decide (smL 256 [97, 98, 99] = smL 256 [97, 98, 99]) = true from decide_eq_true rfl] at q
      exact q
    clear hg H25
    go_wp2_with fail
    refine (C5.out _ ?_).mono ?_
    · rfl
    rintro e12 w12 ⟨rfl, m12, rfl⟩
    go_wp2_with fail
    refine (C6.out _ ?_).mono ?_
    · rfl
    rintro e13 w13 ⟨rfl, m13, rfl⟩
    go_wp2_with fail
    refine (H17.out _ ?_).mono ?_
    · exact ⟨HB211.out.os, HB211.out.tape, HB211.out.output, HB211.out.size, HB211.out.block⟩
    intro e14 w14 hh
    obtain ⟨vd, rfl, hod, hb14⟩ := hh.out
    have HB14 : Hid (Below w11.heap.size w11 w14) := ⟨hb14.os, hb14.tape, hb14.output, hb14.size, hb14.block⟩
    have HVD : Hid (View w14 vd (smL h zs)) := viewOwns hod rfl
    have HVW3 : Hid (View w14 vw (smL h zs)) := HVW2.out.kept fun b hb => HB14.out.block b hb
    have HB014 : Hid (Below w.heap.size w w14) := HB011.out.trans (HB14.out.mono HB011.out.size)
    have C8 : Hid (∀ u : World, u.heap = w14.heap → Calls Tryd.prog 12 #[vd, vw] u fun e w' => e = .returned (.bool true) ∧ ∃ m, w' = u.drewN m) := fun u hu => by
      have q := same_any vd vw (smL h zs) (smL h zs) u (HVD.out.kept fun b _ => by rw [hu]) (HVW3.out.kept fun b _ => by rw [hu])
      rw [show decide (smL h zs = smL h zs) = true from decide_eq_true rfl] at q
      exact q
    clear hh hod hb14 C5 C6
    go_wp2_with (go_at_call 11; refine (num_any _ _ (by decide) (by decide)).mono ?_; rintro e1 wx ⟨rfl, hwx⟩; obtain rfl := hwx.symm)
    refine (C8.out _ ?_).mono ?_
    · rfl
    rintro e15 w15 ⟨rfl, m15, rfl⟩
    go_wp2_with fail
    go_ret
    exact ⟨rfl, ⟨HB014.out.os, HB014.out.tape, HB014.out.output, HB014.out.size, HB014.out.block⟩⟩
theorem sums_ok (h : Int) (a : Option Addr) (n c : Nat) (xs : List Value) (yss : List (List Int)) (w : World) (hT : Tables w) (hR : RTab w) (hP : PV w (.slice a n c) xs yss) (hxn : xs.length = n) (hs : yss.flatten.length ≤ 1048576) (hn : n ≤ 1048576) :
    Calls Tryd.prog 8 #[.int .i64 h, .slice a n c] w fun e w' => e = .returned (.bool true) ∧ Below w.heap.size w w' := by
  by_cases k : Known h
  · exact sums_known h k a n c xs yss w hT hR hP hxn hs hn
  · exact sums_bad h k a n c xs yss w hT hR hP hxn hs hn
end Go.Proofs.YtioggmjocelolabDoor
namespace Go.Proofs.YtioggmjocelolabDoor
open Go.ChangeShapes Go.WideShapes Go.ChangeAt Go.RowKit

theorem own : ownKnob Tryd.prog.godebug = none := by kernel_rfl
theorem laidOut : laidOutB Tryd.prog = true := by kernel_rfl
theorem cells5 : Tryd.prog.cellsOf 5 = 1 := by kernel_rfl
theorem bytes5 : Tryd.prog.bytesOf 5 = 1 := by kernel_rfl

/-- What came in as a list of bytes. -/
theorem open_bytes {H : Type} {enc : TypeId × Value → H} {W : World} {a : Option Addr} {len cap : Nat} {d : DataW H} {p : List MemPlace}
    (h : DataW.Trod enc Tryd.prog W 0 (fun _ => true) true 22 (.slice a len cap) d p) :
    ∃ xs : List Int, xs.length = len ∧ AllBytes xs ∧ View W (.slice a len cap) xs ∧ (d = .nil ∧ xs = [] ∨ ∃ sp, d = .slice (lits .u8 xs) sp) := by
  obtain ⟨fuel, hf⟩ := h
  rcases open_ints Tryd.underlying22 Tryd.underlying5 cells5 hf with ⟨hcs, hx⟩ | ⟨x, l, c, zs, hcs, _, hl, hm, hz, hx, hcell, hwz⟩
  · simp [Value.cells] at hcs
    obtain ⟨rfl, rfl, rfl⟩ := hcs
    simp only [Prod.mk.injEq] at hx
    refine ⟨[], rfl, fun i => by simp, ⟨none, 0, rfl, Nat.le_refl _, by simp, fun _ => rfl, .inl rfl⟩, .inl ⟨hx.1, rfl⟩⟩
  · simp [Value.cells] at hcs
    obtain ⟨rfl, rfl, rfl⟩ := hcs
    simp only [Prod.mk.injEq] at hx
    have hzl : zs.length = cap := by simpa using hz
    have hlen : (zs.take len).length = len := by simp; omega
    have hw : ∀ n ∈ zs, 0 ≤ n ∧ n < 256 := by
      intro n hn
      have := hwz n hn
      have h1 : IntKind.u8.min = 0 := rfl
      have h2 : IntKind.u8.max = 255 := rfl
      simp only [Lit.wf, Bool.and_eq_true, decide_eq_true_eq] at this
      omega
    refine ⟨zs.take len, hlen, ?_, ⟨some x, cap, by rw [hlen], by omega, hm, (fun h => by cases h), ?_⟩, .inr ⟨_, hx.1⟩⟩
    · intro i
      rw [List.getD_eq_getElem?_getD]
      cases hg : (zs.take len)[i]? with
      | none => simp
      | some n =>
        have hn : n ∈ zs := List.mem_of_mem_take (List.mem_of_getElem? hg)
        simpa using hw n hn
    · by_cases h0 : len = 0
      · left
        subst h0
        simp
      · right
        obtain ⟨b, off, spot⟩ := x
        have hc0 := hcell 0 (by omega)
        have hspot : spot = none := by simpa [Addr.add] using World.cell?_spot hc0
        subst hspot
        refine ⟨b, off, rfl, fun i hi => ?_⟩
        rw [hlen] at hi
        have := hcell i (by omega)
        rw [Addr.add_lit] at this
        rw [this]
        congr 2
        simp [List.getD_eq_getElem?_getD, hi]

/-- The reach of it. -/
theorem reach_bytes {H : Type} {ts : List TypeId} {ds : List (DataW H)} (hsz : (DataW.weightsEach Tryd.prog ts ds).all (· ≤ reachBytes) = true) {j : Nat} {d : DataW H} {xs : List Int}
    (ht : ts[j]? = some 22) (hd : ds[j]? = some d) (h : d = .nil ∧ xs = [] ∨ ∃ sp, d = .slice (lits .u8 xs) sp) : xs.length ≤ 140737488351232 := by
  rcases h with ⟨_, rfl⟩ | ⟨sp, rfl⟩
  · simp
  · have := sized_slice hsz (j := j) (t := 22) (e := 5) ht hd Tryd.underlying22
    rw [bytes5] at this
    simp only [lits, List.length_map, reachBytes] at this
    omega
end Go.Proofs.YtioggmjocelolabDoor
namespace Go.Proofs.YtioggmjocelolabDoor
open Go.ChangeShapes Go.WideShapes Go.ChangeAt Go.RowKit
set_option linter.unusedVariables false

theorem cells3 : Tryd.prog.cellsOf 3 = 1 := by kernel_rfl
theorem cells22 : Tryd.prog.cellsOf 22 = 1 := by kernel_rfl
theorem cells34 : Tryd.prog.cellsOf 34 = 1 := by kernel_rfl
theorem cells36 : Tryd.prog.cellsOf 36 = 5 := by kernel_rfl
theorem array5 {α : Type} {cs : Array α} (h : cs.size = 5) : ∃ c0 c1 c2 c3 c4, cs = #[c0, c1, c2, c3, c4] := by
  obtain ⟨l⟩ := cs
  match l, h with
  | [c0, c1, c2, c3, c4], _ => exact ⟨c0, c1, c2, c3, c4, rfl⟩
set_option maxRecDepth 100000 in
/-- An int's cell. -/
theorem cell_int {H : Type} {enc : TypeId × Value → H} {W : World} {n : Nat} {c : Value} {y : DataW H × List MemPlace} (h : DataW.trod enc Tryd.prog W 0 (fun _ => true) true n 3 [c] = some y) : ∃ z, c = .int .i64 z := by
  obtain ⟨z, hz, _⟩ := DataW.trod_int Tryd.underlying3 h
  exact ⟨z, by simpa using hz⟩
theorem cell_bytes {H : Type} {enc : TypeId × Value → H} {W : World} {n : Nat} {c : Value} {y : DataW H × List MemPlace} (h : DataW.trod enc Tryd.prog W 0 (fun _ => true) true n 22 [c] = some y) : ∃ a l cap xs, c = .slice a l cap ∧ View W (.slice a l cap) xs := by
  have hc : ∃ a l cap, c = .slice a l cap := by
    rcases open_ints Tryd.underlying22 Tryd.underlying5 cells5 h with ⟨hcs, _⟩ | ⟨a, l, cap, zs, hcs, _⟩
    · exact ⟨none, 0, 0, by simpa using hcs⟩
    · exact ⟨some a, l, cap, by simpa using hcs⟩
  obtain ⟨a, l, cap, rfl⟩ := hc
  obtain ⟨xs, _, _, hv, _⟩ := open_bytes (enc := enc) (W := W) (a := a) (len := l) (cap := cap) (d := y.1) (p := y.2) ⟨n, by simpa [Value.cells] using h⟩
  exact ⟨a, l, cap, xs, rfl, hv⟩
theorem cell_cuts {H : Type} {enc : TypeId × Value → H} {W : World} {n : Nat} {c : Value} {y : DataW H × List MemPlace} (h : DataW.trod enc Tryd.prog W 0 (fun _ => true) true n 34 [c] = some y) :
    ∃ a l cap, ∃ cz : Nat → Int, c = .slice a l cap ∧ l ≤ cap ∧ cap ≤ maxLen ∧ ∀ i, i < l → ∃ b p, a = some ⟨b, p, none⟩ ∧ W.cell? ⟨b, p + i, none⟩ = some (.int .i64 (cz i)) := by
  rcases open_ints Tryd.underlying34 Tryd.underlying3 cells3 h with ⟨hcs, _⟩ | ⟨x, l, cap, zs, hcs, _, hl, hm, hz, _, hcell, _⟩
  · exact ⟨none, 0, 0, fun _ => 0, by simpa using hcs, Nat.le_refl _, by simp, fun i hi => by omega⟩
  · have hzl : zs.length = cap := by simpa using hz
    refine ⟨some x, l, cap, fun i => zs.getD i 0, by simpa using hcs, hl, hm, fun i hi => ?_⟩
    obtain ⟨b, off, spot⟩ := x
    have hc0 := hcell i (by omega)
    have hspot : spot = none := by
      have h0 := hcell 0 (by omega)
      simpa [Addr.add] using World.cell?_spot h0
    subst hspot
    rw [Addr.add_lit] at hc0
    exact ⟨b, off, rfl, hc0⟩
set_option maxRecDepth 100000 in
/-- A Feeding that came in. -/
theorem open_feeding {H : Type} {enc : TypeId × Value → H} {W : World} {r : Reach} {b0 : Nat} {v : Value} {d : DataW H} {p : List MemPlace} (hv : Value.okWide Tryd.prog W r b0 36 v) (h : DataW.Trod enc Tryd.prog W 0 (fun _ => true) true 36 v d p) :
    ∃ (hh z : Int) (ka ba ca : Option Addr) (kn kc bn bc cn cc : Nat) (key bs : List Int) (cz : Nat → Int), v = .agg #[.int .i64 hh, .slice ka kn kc, .slice ba bn bc, .slice ca cn cc, .int .i64 z] ∧ View W (.slice ka kn kc) key ∧ View W (.slice ba bn bc) bs ∧
      (∀ i, i < cn → ∃ b p, ca = some ⟨b, p, none⟩ ∧ W.cell? ⟨b, p + i, none⟩ = some (.int .i64 (cz i))) ∧ cn ≤ cc ∧ cc ≤ maxLen := by
  obtain ⟨cs, rfl, hsz⟩ := okWide_struct Tryd.underlying36 hv
  obtain ⟨c0, c1, c2, c3, c4, rfl⟩ := array5 (hsz.trans cells36)
  obtain ⟨fuel, hf⟩ := h
  obtain ⟨xs, n, _, hx, _, hlen, hfs⟩ := DataW.trod_struct Tryd.underlying36 hf
  match xs, hlen with
  | [y0, y1, y2, y3, y4], _ =>
    have h0 := hfs 0 _ rfl
    have h1 := hfs 1 _ rfl
    have h2 := hfs 2 _ rfl
    have h3 := hfs 3 _ rfl
    have h4 := hfs 4 _ rfl
    simp [Value.cells, cells3, cells22, cells34] at h0 h1 h2 h3 h4
    obtain ⟨hh, rfl⟩ := cell_int h0
    obtain ⟨z, rfl⟩ := cell_int h4
    obtain ⟨ka, kn, kc, key, rfl, hk⟩ := cell_bytes h1
    obtain ⟨ba, bn, bc, bs, rfl, hb⟩ := cell_bytes h2
    obtain ⟨ca, cn, cc, cz, rfl, q1, q2, q3⟩ := cell_cuts h3
    exact ⟨hh, z, ka, ba, ca, kn, kc, bn, bc, cn, cc, key, bs, cz, rfl, hk, hb, q3, q1, q2⟩
/-- The tables, as the row lays them. -/
theorem tables_of {W : World} (h : laidMet Tryd.prog [("coffer/digest.roots", Lib.tabData .u64 rootsL), ("coffer/digest.cubes", Lib.tabData .u64 cubesL)] W) : Tables W := by
  have hr : Lib.TabIs Tryd.prog W "coffer/digest.roots" .u64 rootsL := Lib.tabIs_of_head (g := 2) (t := 94) (e := 52) (n := 16) (by kernel_rfl) (by kernel_rfl) (by kernel_rfl) (by kernel_rfl) (by kernel_rfl) (by kernel_rfl) h
  have hc : Lib.TabIs Tryd.prog W "coffer/digest.cubes" .u64 cubesL := by
    obtain ⟨ps, ⟨g1, t1, cs1, fuel1, p1, q1, _, _, _, _, hrest, _⟩, _⟩ := h
    obtain ⟨g', t', cs, fuel, p, q, hg', ht', hvar, hd, _, _⟩ := hrest
    have hg : Tryd.prog.globalNamed "coffer/digest.cubes" = some 3 := by kernel_rfl
    obtain rfl := Option.some.inj (hg.symm.trans hg')
    have hty : (Tryd.prog.globals[3]?).map (·.type) = some 97 := by kernel_rfl
    obtain rfl := Option.some.inj (hty.symm.trans ht')
    unfold Lib.TabIs
    rw [hvar, ← Lib.cells_of_tab (n := 80) (e := 52) (by kernel_rfl) (by kernel_rfl) (by kernel_rfl) (by kernel_rfl) hd]
  exact ⟨fun t ht => hc.cell (by kernel_rfl) t (by simpa [cubesL] using ht), fun t ht => hr.cell (by kernel_rfl) t (by simpa [rootsL] using ht)⟩
end Go.Proofs.YtioggmjocelolabDoor
namespace Go.Proofs.YtioggmjocelolabDoor
open Go.Deep Go.ChangeShapes Go.WideShapes Go.ChangeAt Go.RowKit
set_option linter.unusedVariables false
theorem und56 : Tryd.prog.underlying 56 = some (.slice 22) := by kernel_rfl
theorem bulk_pos {H : Type} : (d : DataW H) → 1 ≤ Rows.uptoBulk d
  | .lit l => by cases l <;> simp [Rows.uptoBulk]
  | .nil | .ptr _ | .slice _ _ | .agg _ | .iface _ _ | .map _ | .held _ => by simp [Rows.uptoBulk]
theorem bulk_lits {H : Type} (ys : List Int) : Rows.uptoBulkAll (H := H) (lits .u8 ys) = ys.length := by
  induction ys with
  | nil => rfl
  | cons y ys ih =>
    have : lits (H := H) .u8 (y :: ys) = .lit (.int .u8 y) :: lits .u8 ys := rfl
    rw [this]
    simp only [Rows.uptoBulkAll, Rows.uptoBulk, ih, List.length_cons]
    omega
theorem bulk_flat {H : Type} (Y : Nat → List Int) (D : Nat → DataW H) (l : List Nat) (h : ∀ i, i ∈ l → (Y i).length ≤ Rows.uptoBulk (D i)) : l.length ≤ Rows.uptoBulkAll (l.map D) ∧ (l.map Y).flatten.length ≤ Rows.uptoBulkAll (l.map D) := by
  induction l with
  | nil => exact ⟨Nat.le_refl _, Nat.le_refl _⟩
  | cons x l ih =>
    obtain ⟨h1, h2⟩ := ih fun i hi => h i (List.mem_cons_of_mem _ hi)
    have h3 := h x (List.mem_cons_self ..)
    have h4 := bulk_pos (D x)
    simp only [List.map_cons, Rows.uptoBulkAll, List.flatten_cons, List.length_append, List.length_cons]
    omega
theorem one_bytes {H : Type} {enc : TypeId × Value → H} {W : World} {n : Nat} {c : Value} {d : DataW H} {p : List MemPlace} (h : DataW.trod enc Tryd.prog W 0 (fun _ => true) true n 22 [c] = some (d, p)) : ∃ xs, View W c xs ∧ xs.length ≤ Rows.uptoBulk d := by
  have hc : ∃ a l cap, c = .slice a l cap := by
    rcases open_ints Tryd.underlying22 Tryd.underlying5 cells5 h with ⟨hcs, _⟩ | ⟨a, l, cap, zs, hcs, _⟩
    · exact ⟨none, 0, 0, by simpa using hcs⟩
    · exact ⟨some a, l, cap, by simpa using hcs⟩
  obtain ⟨a, l, cap, rfl⟩ := hc
  obtain ⟨xs, hl, hb, hv, hd⟩ := open_bytes (enc := enc) (W := W) (a := a) (len := l) (cap := cap) (d := d) (p := p) ⟨n, by simpa [Value.cells] using h⟩
  refine ⟨xs, hv, ?_⟩
  rcases hd with ⟨_, rfl⟩ | ⟨sp, rfl⟩
  · simp
  · simp only [Rows.uptoBulk, bulk_lits]
    omega
/-- What came in as a list of lists of bytes. -/
theorem open_parts {H : Type} {enc : TypeId × Value → H} {W : World} {a : Option Addr} {n c : Nat} {d : DataW H} {p : List MemPlace}
    (h : DataW.Trod enc Tryd.prog W 0 (fun _ => true) true 56 (.slice a n c) d p) :
    ∃ xs yss, xs.length = n ∧ PV W (.slice a n c) xs yss ∧ n ≤ Rows.uptoBulk d ∧ yss.flatten.length ≤ Rows.uptoBulk d := by
  obtain ⟨fuel, hf⟩ := h
  rcases open_slice1 und56 cells22 hf with ⟨hcs, hx⟩ | ⟨a', len, cap, m, k, V, D, Pl, hcs, hb, hl, hm, hmm, hx, hc⟩
  · simp [Value.cells] at hcs
    obtain ⟨rfl, rfl, rfl⟩ := hcs
    exact ⟨[], [], rfl, ⟨none, 0, rfl, Nat.le_refl _, by simp, rfl, fun i x hx => by simp at hx, .inl rfl⟩, by omega, by simp⟩
  · simp [Value.cells] at hcs
    obtain ⟨rfl, rfl, rfl⟩ := hcs
    simp only [if_true] at hmm
    have hmm' := hmm.symm
    subst hmm'
    simp only [Prod.mk.injEq] at hx
    obtain ⟨rfl, _⟩ := hx
    obtain ⟨Y, hY⟩ := choose_lt (n := c) (α := List Int) (p := fun i ys => View W (V i) ys ∧ ys.length ≤ Rows.uptoBulk (D i)) fun i hi => one_bytes (hc i hi).2
    have hbf := bulk_flat Y D (List.range n) fun i hi => (hY i (by have := List.mem_range.1 hi; omega)).2
    rw [List.length_range] at hbf
    refine ⟨(List.range n).map V, (List.range n).map Y, by simp, ⟨some a', c, by simp, by simpa using hl, hm, by simp, fun i x hx => ?_, ?_⟩, ?_, ?_⟩
    · simp only [List.getElem?_map, Option.map_eq_some_iff] at hx
      obtain ⟨j, hj, rfl⟩ := hx
      obtain ⟨hj1, rfl⟩ := List.getElem?_eq_some_iff.1 hj
      simp only [List.length_range] at hj1
      have := (hY i (by omega)).1
      simpa [List.getD_eq_getElem?_getD, hj1] using this
    · by_cases h0 : n = 0
      · left
        subst h0
        rfl
      · right
        obtain ⟨b, off, spot⟩ := a'
        have hc0 := (hc 0 (by omega)).1
        have hspot : spot = none := by simpa [Addr.add] using World.cell?_spot hc0
        subst hspot
        refine ⟨b, off, rfl, fun i x hx => ?_⟩
        simp only [List.getElem?_map, Option.map_eq_some_iff] at hx
        obtain ⟨j, hj, rfl⟩ := hx
        obtain ⟨hj1, rfl⟩ := List.getElem?_eq_some_iff.1 hj
        simp only [List.length_range] at hj1
        have := (hc i (by omega)).1
        rw [Addr.add_lit] at this
        simpa using this
    · simp only [Rows.uptoBulk]; omega
    · simp only [Rows.uptoBulk]; omega
end Go.Proofs.YtioggmjocelolabDoor
namespace Go.Proofs.YtioggmjocelolabDoor
open Go.ChangeShapes Go.WideShapes Go.ChangeAt Go.RowKit
set_option linter.unusedVariables false
/-- A block that holds a table. -/
def refilled2 (zs : List Int) : Obj → Obj
  | .cells _ t frozen => .cells (zs.map (Value.int .u64)).toArray t frozen
  | o => o
/-- The four tables, as the row lays them. -/
theorem tables_of4 {W : World} (h : laidMet Tryd.prog [("coffer/cofferref01.cubes", Lib.tabData .u64 cubesL), ("coffer/cofferref01.squares", Lib.tabData .u64 rootsL), ("coffer/digest.roots", Lib.tabData .u64 rootsL), ("coffer/digest.cubes", Lib.tabData .u64 cubesL)] W) : Tables W ∧ RTab W := by
  have h1 : Lib.TabIs Tryd.prog W "coffer/cofferref01.cubes" .u64 cubesL := Lib.tabIs_of_head (g := 1) (t := 97) (e := 52) (n := 80) (by kernel_rfl) (by kernel_rfl) (by kernel_rfl) (by kernel_rfl) (by kernel_rfl) (by kernel_rfl) h
  obtain ⟨ps, ⟨g1, t1, cs1, fuel1, p1, q1, _, _, _, _, hr2, _⟩, _⟩ := h
  obtain ⟨g2, t2, cs2, fuel2, p2, q2, hg2, ht2, hvar2, hd2, hr3, _⟩ := hr2
  obtain ⟨g3, t3, cs3, fuel3, p3, q3, hg3, ht3, hvar3, hd3, hr4, _⟩ := hr3
  obtain ⟨g4, t4, cs4, fuel4, p4, q4, hg4, ht4, hvar4, hd4, _, _⟩ := hr4
  have h2 : Lib.TabIs Tryd.prog W "coffer/cofferref01.squares" .u64 rootsL := by
    have hg : Tryd.prog.globalNamed "coffer/cofferref01.squares" = some 0 := by kernel_rfl
    obtain rfl := Option.some.inj (hg.symm.trans hg2)
    have hty : (Tryd.prog.globals[0]?).map (·.type) = some 94 := by kernel_rfl
    obtain rfl := Option.some.inj (hty.symm.trans ht2)
    unfold Lib.TabIs
    rw [hvar2, ← Lib.cells_of_tab (n := 16) (e := 52) (by kernel_rfl) (by kernel_rfl) (by kernel_rfl) (by kernel_rfl) hd2]
  have h3 : Lib.TabIs Tryd.prog W "coffer/digest.roots" .u64 rootsL := by
    have hg : Tryd.prog.globalNamed "coffer/digest.roots" = some 2 := by kernel_rfl
    obtain rfl := Option.some.inj (hg.symm.trans hg3)
    have hty : (Tryd.prog.globals[2]?).map (·.type) = some 94 := by kernel_rfl
    obtain rfl := Option.some.inj (hty.symm.trans ht3)
    unfold Lib.TabIs
    rw [hvar3, ← Lib.cells_of_tab (n := 16) (e := 52) (by kernel_rfl) (by kernel_rfl) (by kernel_rfl) (by kernel_rfl) hd3]
  have h4 : Lib.TabIs Tryd.prog W "coffer/digest.cubes" .u64 cubesL := by
    have hg : Tryd.prog.globalNamed "coffer/digest.cubes" = some 3 := by kernel_rfl
    obtain rfl := Option.some.inj (hg.symm.trans hg4)
    have hty : (Tryd.prog.globals[3]?).map (·.type) = some 97 := by kernel_rfl
    obtain rfl := Option.some.inj (hty.symm.trans ht4)
    unfold Lib.TabIs
    rw [hvar4, ← Lib.cells_of_tab (n := 80) (e := 52) (by kernel_rfl) (by kernel_rfl) (by kernel_rfl) (by kernel_rfl) hd4]
  exact ⟨⟨fun t ht => h4.cell (by kernel_rfl) t (by simpa [cubesL] using ht), fun t ht => h3.cell (by kernel_rfl) t (by simpa [rootsL] using ht)⟩, ⟨fun t ht => h1.cell (by kernel_rfl) t (by simpa [cubesL] using ht), fun t ht => h2.cell (by kernel_rfl) t (by simpa [rootsL] using ht)⟩⟩

end Go.Proofs.YtioggmjocelolabDoor
