import Derived.Test.YtioggmjocelolacDoorPart06
import Derived.Lib.SlBytesConst
import Derived.Test.YtioggmjocelolacDoorRows
import Derived.Test.YtioggmjocelolacDoorPart00
import Derived.ProofKit
import Derived.OpenShut
import Derived.ShutString
import Derived.ChangeOld
import Derived.Below
import Derived.SizedLaws
import Derived.Lib.LaidTab
import Derived.Deep.DeepHandedRow
import Derived.Test.YtioggmjocelolacDoorPart04
import Derived.Deep.Slices
import Derived.Test.YtioggmjocelolacDoorPart05
namespace Go.Proofs.YtioggmjocelolacDoor
open Go.RowKit
set_option linter.unusedVariables false
set_option linter.unusedSimpArgs false
instance (h : Int) : Decidable (Known h) := by unfold Known; infer_instance
set_option maxHeartbeats 400000 in
theorem num_any (e : Int) (w : World) (_h0 : -9223372036854775808 ≤ e) (_h1 : e ≤ 9223372036854775807) : Calls Tryd.prog 11 #[.int .i64 e] w fun r w' => r = .returned (.int .i64 e) ∧ w' = w := by
  go_enter Tryd.func11, Tryd.ntmps11
  go_wp2
  go_ret
  exact ⟨rfl, rfl⟩
/-- What Code answers. -/
def cmL (h : Int) (key zs : List Int) : List Int := if Known h then hmac h key zs else []
def cmE (h : Int) : Int := if Known h then 0 else 10
theorem hmac_length {h : Int} (k : Known h) (key zs : List Int) : (hmac h key zs).length = szOf h := by rw [hmac_eq]; exact sumD_length h k _
theorem cmL_length (h : Int) (key zs : List Int) : (cmL h key zs).length ≤ 64 := by
  unfold cmL
  split
  · rename_i k
    rw [hmac_length k]
    exact (szOf_pos k).2
  · simp
theorem bad_of {h : Int} (k : ¬ Known h) : (h == 224) = false ∧ (h == 256) = false ∧ (h == 384) = false ∧ (h == 512) = false := by
  refine ⟨?_, ?_, ?_, ?_⟩ <;> rw [beq_eq_false_iff_ne] <;> intro e <;> apply k <;> unfold Known <;> omega
set_option maxHeartbeats 400000 in
theorem dcode_bad {h : Int} (k : ¬ Known h) (kv v : Value) (w : World) : Calls Tryd.prog 10 #[.int .i64 h, kv, v] w fun e w' => e = .returned (.tuple #[.slice none 0 0, .int .i64 10]) ∧ Below w.heap.size w w' := by
  obtain ⟨h1, h2, h3, h4⟩ := bad_of k
  have H32 : Hid (Calls Tryd.prog 32 #[.int .i64 h, kv] w fun e w' => e = .returned (.tuple #[.pointer none, .int .i64 10]) ∧ Below w.heap.size w w') := newMac_bad h kv w h1 h2 h3 h4
  clear h1 h2 h3 h4 k
  go_enter Tryd.func10, Tryd.ntmps10
  go_wp2_with (go_at_call 32; refine H32.out.mono ?_)
  rintro e w1 ⟨rfl, hb⟩
  have HB : Hid (Below w.heap.size w w1) := hb
  clear hb H32
  go_wp2
  go_ret2
  exact ⟨rfl, HB.out⟩
theorem cm_ok (h : Int) (kv : Value) (key : List Int) (v : Value) (xs : List Value) (yss : List (List Int)) (w : World) (hT : Tables w) (hkv : View w kv key) (hkl : key.length ≤ 33554432) (hP : PV w v xs yss) (hs : yss.flatten.length ≤ 33554432) :
    Calls Tryd.prog 10 #[.int .i64 h, kv, v] w fun e w' => ∃ v', e = .returned (.tuple #[v', .int .i64 (cmE h)]) ∧ w'.ownsRow w.heap.size 5 1 v' (cmL h key yss.flatten).length (cellsU8 (cmL h key yss.flatten)) ∧ Below w.heap.size w w' := by
  by_cases k : Known h
  · have e1 : cmE h = 0 := by unfold cmE; rw [if_pos k]
    have e2 : cmL h key yss.flatten = hmac h key yss.flatten := by unfold cmL; rw [if_pos k]
    rw [e1, e2, hmac_length k]
    refine (dcode h kv key yss v w k hkv hkl (fun u g hb hg => parts_keep (hP.parts g hg) (fun q hq => hb.block q hq)) hT hs).mono ?_
    rintro e w' ⟨b, rfl, ho, hb⟩
    exact ⟨_, rfl, ho, hb⟩
  · have e1 : cmE h = 10 := by unfold cmE; rw [if_neg k]
    have e2 : cmL h key yss.flatten = [] := by unfold cmL; rw [if_neg k]
    rw [e1, e2]
    refine (dcode_bad k kv v w).mono ?_
    rintro e w' ⟨rfl, hb⟩
    exact ⟨_, rfl, World.ownsRow_nil _ _ _ _, hb⟩
set_option maxHeartbeats 400000 in
theorem rcode_bad {h : Int} (k : ¬ Known h) (kv v : Value) (w : World) : Calls Tryd.prog 24 #[.int .i64 h, kv, v] w fun e w' => e = .returned (.slice none 0 0) ∧ w' = w := by
  have H40 : Hid (∀ u, Calls Tryd.prog 40 #[.int .i64 h] u fun e w' => e = .returned (.int .i64 0) ∧ w' = u) := fun u => by
    have d1 : ¬ h = 224 := fun e => k (.inl e)
    have d2 : ¬ h = 256 := fun e => k (.inr (.inl e))
    have d3 : ¬ h = 384 := fun e => k (.inr (.inr (.inl e)))
    have d4 : ¬ h = 512 := fun e => k (.inr (.inr (.inr e)))
    clear k
    go_enter Tryd.func40, Tryd.ntmps40
    go_wp2
    go_ret
    exact ⟨rfl, rfl⟩
  go_enter Tryd.func24, Tryd.ntmps24
  go_wp2_with (go_at_call 40; refine (H40.out _).mono ?_; rintro e1 wx ⟨rfl, hwx⟩; obtain rfl := hwx.symm)
  go_ret
  exact ⟨rfl, rfl⟩
theorem rc_ok (h : Int) (kv : Value) (key : List Int) (v : Value) (zs : List Int) (w : World) (hR : RTab w) (hk : View w kv key) (hkl : key.length ≤ 1099511627776) (hv : View w v zs) (hn : zs.length ≤ 1099511627000) :
    Calls Tryd.prog 24 #[.int .i64 h, kv, v] w fun e w' => ∃ v', e = .returned v' ∧ w'.ownsRow w.heap.size 5 1 v' (cmL h key zs).length (cellsU8 (cmL h key zs)) ∧ Below w.heap.size w w' := by
  by_cases k : Known h
  · have e2 : cmL h key zs = hmac h key zs := by unfold cmL; rw [if_pos k]
    rw [e2, hmac_length k]
    have hk' := hk
    have hv' := hv
    obtain ⟨a1, c1, rfl, _⟩ := hk
    obtain ⟨a2, c2, rfl, _⟩ := hv
    exact rcode_walk h a1 key.length c1 a2 zs.length c2 key zs w k hR hk' rfl hv' rfl hkl hn
  · have e2 : cmL h key zs = [] := by unfold cmL; rw [if_neg k]
    rw [e2]
    refine (rcode_bad k kv v w).mono ?_
    rintro e w' ⟨rfl, rfl⟩
    exact ⟨_, rfl, World.ownsRow_nil _ _ _ _, Below.refl _ _⟩
theorem View.grown {w w' : World} {v : Value} {zs : List Int} {ob : Option Nat} (hv : View w v zs) (hg : w.grownBy w' ob) (hne : ∀ b off l c, v = .slice (some ⟨b, off, none⟩) l c → some b ≠ ob) : View w' v zs := by
  obtain ⟨a, c, rfl, h1, h2, h3, h4⟩ := hv
  refine ⟨a, c, rfl, h1, h2, h3, ?_⟩
  rcases h4 with h4 | ⟨b, off, rfl, hc⟩
  · exact .inl h4
  · refine .inr ⟨b, off, rfl, fun i hi => ?_⟩
    have hb := lt_of_cell (hc i hi)
    rw [World.cell?_of_block (w := w) (hg.block b hb (hne b off _ c rfl))]
    exact hc i hi
theorem owns_apart {B n : Nat} {w : World} {v v2 : Value} {xs : List Value} (h : w.ownsRow B 5 1 v n xs) (hb : ∀ b, v2.ownBlock = some b → b < B) : ∀ b off l c, v = .slice (some ⟨b, off, none⟩) l c → some b ≠ v2.ownBlock := by
  intro b off l c e e2
  have h1 := (h.lt b (by rw [e]; rfl)).1
  have h2 := hb b e2.symm
  omega
theorem view_k (w : World) : View (w.alloc (.cells #[.int .u8 107] 5 (1, 2))) (.slice (some ⟨w.heap.size, 0, none⟩) 1 1) [107] := by
  refine ⟨_, 1, rfl, by decide, by decide, fun h => by simp at h, .inr ⟨w.heap.size, 0, rfl, fun i hi => ?_⟩⟩
  rw [World.cell?_alloc_mark]
  match i, hi with
  | 0, _ => rfl
/-- A list of one list. -/
theorem pv_one (w : World) (v : Value) (zs : List Int) (hv : View w v zs) : PV (w.alloc (.cells #[v] 22)) (.slice (some ⟨w.heap.size, 0, none⟩) 1 1) [v] [zs] := by
  refine ⟨_, 1, rfl, Nat.le_refl _, by decide, rfl, fun i x hx => ?_, .inr ⟨w.heap.size, 0, rfl, fun i x hx => ?_⟩⟩
  · match i, hx with
    | 0, hx =>
      simp at hx
      subst hx
      exact hv.kept fun b hb => Below.heap_alloc _ _ b hb
  · have r := rangeAt_new w #[v] 22
    exact r i x (by simpa using hx)
theorem cmE512 : cmE 512 = 0 := by decide
set_option maxHeartbeats 6400000 in
set_option maxRecDepth 100000 in
theorem codes_known (h : Int) (k : Known h) (ka : Option Addr) (kn kc : Nat) (key : List Int) (a : Option Addr) (n c : Nat) (xs : List Value) (yss : List (List Int)) (w : World) (hT : Hid (Tables w)) (hR : Hid (RTab w)) (hkv : Hid (View w (.slice ka kn kc) key)) (HKl : Hid (key.length = kn)) (hkn : kn ≤ 1048576) (hP : Hid (PV w (.slice a n c) xs yss)) (hxn : Hid (xs.length = n)) (hs : Hid (yss.flatten.length ≤ 1048576)) (hn : n ≤ 1048576) :
    Calls Tryd.prog 5 #[.int .i64 h, .slice ka kn kc, .slice a n c] w fun e w' => e = .returned (.bool true) ∧ Below w.heap.size w w' := by
  have hT4 := hT.out.size
  have hR2 := hR.out.size
  have hyn : Hid (yss.length = n) := by
    obtain ⟨_, _, _, _, _, h3, _⟩ := hP.out
    show _ = _
    rw [← h3, hxn.out]
  have hp := szOf_pos k
  have HSz : Hid (∀ u, Calls Tryd.prog 16 #[.int .i64 h] u fun e w' => e = .returned (.int .i64 (szOf h : Nat)) ∧ w' = u) := fun u => rsize_ok h k u
  have HEs : Hid (cmE h = 0) := by show _ = _; unfold cmE; rw [if_pos k]
  have HK22 : Hid (Calls Tryd.prog 22 #[.slice a n c] w fun e w' => Hid (∃ v' zs, e = .returned v' ∧ w'.ownsRow w.heap.size 5 1 v' zs.length (cellsU8 zs) ∧ Below w.heap.size w w' ∧ (zs = yss.flatten ∨ 65536 < zs.length) ∧ zs.length ≤ 1048576)) := joined_ok a n c xs yss w hP hxn hs hn
  clear k
  have kcv := fun (w : World) (C : Array Value) (n c : Nat) => Lib.run_convert_bytes_const (P := Tryd.prog) w 22 5 C n c Tryd.underlying22 Tryd.underlying5
  go_enter Tryd.func5, Tryd.ntmps5
  go_upto_region 2 with (go_at_call 22; refine HK22.out.mono ?_)
  intro e1 w1 hh
  obtain ⟨va, zs, rfl, ho1, hb1, hz1, hl1⟩ : ∃ v' zs, e1 = .returned v' ∧ w1.ownsRow w.heap.size 5 1 v' zs.length (cellsU8 zs) ∧ Below w.heap.size w w1 ∧ (zs = yss.flatten ∨ 65536 < zs.length) ∧ zs.length ≤ 1048576 := by
    have := hh.out
    grind
  obtain ⟨aa, ca, rfl⟩ := owns_slice ho1
  obtain ⟨lz, hlz⟩ : ∃ lz, lz = zs.length := ⟨_, rfl⟩
  rw [← hlz] at ho1 hl1 ⊢
  have HLz : Hid (zs.length = lz) := hlz.symm
  have HO1 : Hid (w1.ownsRow w.heap.size 5 1 (.slice aa lz ca) lz (cellsU8 zs)) := ho1
  have HB01 : Hid (Below w.heap.size w w1) := hb1
  have HZ1 : Hid (zs = yss.flatten ∨ 65536 < zs.length) := hz1
  clear hh ho1 hb1 hz1 hlz HK22
  by_cases hlong : 65536 < lz + kn
  · have d1 : (65536 : Int) < (lz : Nat) + (kn : Nat) := by omega
    go_wp2
    go_ret
    exact ⟨rfl, HB01.out⟩
  · have d1 : ¬ (65536 : Int) < (lz : Nat) + (kn : Nat) := by omega
    have HZ : Hid (zs = yss.flatten) := by
      rcases HZ1.out with h | h
      · exact h
      · rw [HLz.out] at h; omega
    have HP1 : Hid (PV w1 (.slice a n c) xs yss) := hP.out.kept fun b hb => HB01.out.block b hb
    have H23 : Hid (Calls Tryd.prog 23 #[.slice a n c] w1 fun e w' => Hid (∃ v', e = .returned v' ∧ ∃ vs, vs.length = n ∧ w'.ownsRow w1.heap.size 22 1 v' n vs ∧ Lent w1.heap.size w' vs yss ∧ Below w1.heap.size w1 w')) := lent_ok a n c xs yss w1 HP1 hxn hs hn
    clear HZ1
    go_upto_region 5 with (go_at_call 23; refine H23.out.mono ?_)
    intro e2 w2 hh
    obtain ⟨vl, rfl, vs, hvn, ho2, hL2, hb2⟩ := hh.out
    have HB12 : Hid (Below w1.heap.size w1 w2) := hb2
    have HB02 : Hid (Below w.heap.size w w2) := HB01.out.trans (hb2.mono HB01.out.size)
    have HPL2 : Hid (PV w2 vl vs yss) := lent_pv ho2 hvn hyn.out hL2
    have HL2 : Hid (Lent w1.heap.size w2 vs yss) := hL2
    clear hh hvn ho2 hL2 hb2 H23
    have H17 : Hid (Calls Tryd.prog 17 #[.slice ka kn kc] w2 fun e w' => Hid (∃ v', e = .returned v' ∧ Marked w2.heap.size w' v' key ∧ Below w2.heap.size w2 w')) := copy_any _ key w2 (by rw [HKl.out]; omega) (hkv.out.kept fun b hb => HB02.out.block b hb)
    go_upto_region 6 with (go_at_call 17; refine H17.out.mono ?_)
    intro e3 w3 hh
    obtain ⟨vk, rfl, hm3, hb3⟩ := hh.out
    have HB23 : Hid (Below w2.heap.size w2 w3) := hb3
    obtain ⟨gk, ck, hvk⟩ : ∃ g c, vk = .slice (some ⟨g, 0, none⟩) kn c := by
      obtain ⟨g, c, e, _⟩ := hm3
      exact ⟨g, c, by rw [e, HKl.out]⟩
    subst hvk
    have HM3 : Hid (Marked w2.heap.size w3 (.slice (some ⟨gk, 0, none⟩) kn ck) key) := hm3
    have HVK : Hid (View w3 (.slice (some ⟨gk, 0, none⟩) kn ck) key) := hm3.view
    clear hh hm3 hb3 H17
    have HB03 : Hid (Below w.heap.size w w3) := HB02.out.trans (HB23.out.mono HB02.out.size)
    have HPL : Hid (PV w3 vl vs yss) := HPL2.out.kept fun b hb => HB23.out.block b hb
    have HL3 : Hid (Lent w1.heap.size w3 vs yss) := fun i x hx => (HL2.out i x hx).kept fun b hb => HB23.out.block b hb
    have hs2 : Hid (yss.flatten.length ≤ 33554432) := by have := hs.out; show _ ≤ _; omega
    have hk2 : Hid (key.length ≤ 33554432) := by show _ ≤ _; rw [HKl.out]; omega
    have H10 : Hid (∀ u, Below w3.heap.size w3 u → Calls Tryd.prog 10 #[.int .i64 h, .slice (some ⟨gk, 0, none⟩) kn ck, vl] u fun e w' => Hid (∃ v', e = .returned (.tuple #[v', .int .i64 0]) ∧ w'.ownsRow u.heap.size 5 1 v' (cmL h key zs).length (cellsU8 (cmL h key zs)) ∧ Below u.heap.size u w')) := fun u hu => by
      have q := cm_ok h _ key vl vs yss u ((hT.out.below HB03.out hT4).below hu (by have := HB03.out.size; omega)) (HVK.out.kept fun b hb => hu.block b hb) hk2.out (HPL.out.kept fun b hb => hu.block b hb) hs2.out
      rw [HEs.out, ← HZ.out] at q
      exact q
    go_upto_region 7 with (go_at_call 10; refine (H10.out w3 (Below.refl _ _)).mono ?_)
    intro e4 w4 hh
    obtain ⟨vx, rfl, hox, hb4⟩ := hh.out
    have HB34 : Hid (Below w3.heap.size w3 w4) := hb4
    have HX4 : Hid (w4.ownsRow w3.heap.size 5 1 vx (cmL h key zs).length (cellsU8 (cmL h key zs))) := hox
    clear hh hox hb4
    have HB04 : Hid (Below w.heap.size w w4) := HB03.out.trans (HB34.out.mono HB03.out.size)
    have H10b : Hid (Calls Tryd.prog 10 #[.int .i64 512, .slice (some ⟨w4.heap.size, 0, none⟩) 1 1, .slice (some ⟨w4.heap.size + 1, 0, none⟩) 1 1] ((w4.alloc (.cells #[.int .u8 107] 5 (1, 2))).alloc (.cells #[.slice (some ⟨gk, 0, none⟩) kn ck] 22)) fun e w' => Hid (∃ v', e = .returned (.tuple #[v', .int .i64 0]) ∧ w'.ownsRow (w4.heap.size + 2) 5 1 v' (cmL 512 [107] key).length (cellsU8 (cmL 512 [107] key)) ∧ Below w4.heap.size w4 w')) := by
      have hb1 : Below w4.heap.size w4 (w4.alloc (.cells #[.int .u8 107] 5 (1, 2))) := (Below.refl _ _).alloc (Nat.le_refl _) _
      have hb : Below w4.heap.size w4 ((w4.alloc (.cells #[.int .u8 107] 5 (1, 2))).alloc (.cells #[.slice (some ⟨gk, 0, none⟩) kn ck] 22)) := hb1.alloc (by rw [size_alloc]; omega) _
      have h1 := HB04.out.size
      have q := cm_ok 512 (.slice (some ⟨w4.heap.size, 0, none⟩) 1 1) [107] _ _ [key] _ ((hT.out.below HB04.out hT4).below hb (by omega)) ((view_k w4).kept fun b hb => Below.heap_alloc _ _ b hb) (by decide) (pv_one (w4.alloc (.cells #[.int .u8 107] 5 (1, 2))) (.slice (some ⟨gk, 0, none⟩) kn ck) key (HVK.out.kept fun b hb => by rw [Below.heap_alloc _ _ b (Nat.lt_of_lt_of_le hb HB34.out.size)]; exact HB34.out.block b hb)) (by simpa using hk2.out)
      have hz : ((w4.alloc (.cells #[.int .u8 107] 5 (1, 2))).alloc (.cells #[.slice (some ⟨gk, 0, none⟩) kn ck] 22)).heap.size = w4.heap.size + 2 := by rw [size_alloc, size_alloc]
      rw [cmE512, hz, size_alloc, List.flatten_singleton] at q
      exact q.mono fun e w' hh => by
        obtain ⟨v', q1, q2, q3⟩ := hh
        exact ⟨v', q1, q2, hb.trans (q3.mono (by omega))⟩
    go_upto_region 8 with (go_at_call 10; refine H10b.out.mono ?_)
    intro e5 w5 hh
    obtain ⟨vc, rfl, hoc, hb5⟩ := hh.out
    have HB45 : Hid (Below w4.heap.size w4 w5) := hb5
    have HC5 : Hid (w5.ownsRow (w4.heap.size + 2) 5 1 vc (cmL 512 [107] key).length (cellsU8 (cmL 512 [107] key))) := hoc
    clear hh hoc hb5 H10b
    have HB35 : Hid (Below w3.heap.size w3 w5) := HB34.out.trans (HB45.out.mono HB34.out.size)
    go_upto_region 9 with (go_at_call 10; refine (H10.out w5 HB35.out).mono ?_)
    intro e6 w6 hh
    obtain ⟨vy, rfl, hoy, hb6⟩ := hh.out
    have HB56 : Hid (Below w5.heap.size w5 w6) := hb6
    have HY6 : Hid (w6.ownsRow w5.heap.size 5 1 vy (cmL h key zs).length (cellsU8 (cmL h key zs))) := hoy
    clear hh hoy hb6 H10
    have HB36 : Hid (Below w3.heap.size w3 w6) := HB35.out.trans (HB56.out.mono HB35.out.size)
    have HB06 : Hid (Below w.heap.size w w6) := HB03.out.trans (HB36.out.mono HB03.out.size)
    have HB16 : Hid (Below w1.heap.size w1 w6) := HB12.out.trans ((HB23.out.trans (HB36.out.mono HB23.out.size)).mono HB12.out.size)
    have H24 : Hid (Calls Tryd.prog 24 #[.int .i64 h, .slice ka kn kc, .slice aa lz ca] w6 fun e w' => Hid (∃ v', e = .returned v' ∧ w'.ownsRow w6.heap.size 5 1 v' (cmL h key zs).length (cellsU8 (cmL h key zs)) ∧ Below w6.heap.size w6 w')) := rc_ok h _ key _ zs w6 (hR.out.below HB06.out hR2) (hkv.out.kept fun b hb => HB06.out.block b hb) (by rw [HKl.out]; omega) ((viewOwns HO1.out HLz.out).kept fun b hb => HB16.out.block b hb) (by rw [HLz.out]; omega)
    go_upto_region 10 with (go_at_call 24; refine H24.out.mono ?_)
    intro e7 w7 hh
    obtain ⟨vw, rfl, how, hb7⟩ := hh.out
    have HB67 : Hid (Below w6.heap.size w6 w7) := hb7
    have HW7 : Hid (w7.ownsRow w6.heap.size 5 1 vw (cmL h key zs).length (cellsU8 (cmL h key zs))) := how
    clear hh how hb7 H24
    have HB07 : Hid (Below w.heap.size w w7) := HB06.out.trans (HB67.out.mono HB06.out.size)
    have H24b : Hid (Calls Tryd.prog 24 #[.int .i64 512, .slice (some ⟨w7.heap.size, 0, none⟩) 1 1, .slice ka kn kc] (w7.alloc (.cells #[.int .u8 107] 5 (1, 2))) fun e w' => Hid (∃ v', e = .returned v' ∧ w'.ownsRow (w7.heap.size + 1) 5 1 v' (cmL 512 [107] key).length (cellsU8 (cmL 512 [107] key)) ∧ Below w7.heap.size w7 w')) := by
      have hb : Below w7.heap.size w7 (w7.alloc (.cells #[.int .u8 107] 5 (1, 2))) := (Below.refl _ _).alloc (Nat.le_refl _) _
      have h1 := HB07.out.size
      have q := rc_ok 512 (.slice (some ⟨w7.heap.size, 0, none⟩) 1 1) [107] (.slice ka kn kc) key _ ((hR.out.below HB07.out hR2).below hb (by omega)) (view_k w7) (by decide) ((hkv.out.kept fun b hb => HB07.out.block b hb).kept fun b hb => Below.heap_alloc _ _ b hb) (by rw [HKl.out]; omega)
      rw [size_alloc] at q
      exact q.mono fun e w' hh => by
        obtain ⟨v', q1, q2, q3⟩ := hh
        exact ⟨v', q1, q2, hb.trans (q3.mono (by omega))⟩
    go_upto_region 11 with (go_at_call 24; refine H24b.out.mono ?_)
    intro e8 w8 hh
    obtain ⟨vb, rfl, hob, hb8⟩ := hh.out
    have HB78 : Hid (Below w7.heap.size w7 w8) := hb8
    have HV8 : Hid (w8.ownsRow (w7.heap.size + 1) 5 1 vb (cmL 512 [107] key).length (cellsU8 (cmL 512 [107] key))) := hob
    clear hh hob hb8 H24b
    have HB68 : Hid (Below w6.heap.size w6 w8) := HB67.out.trans (HB78.out.mono HB67.out.size)
    have HB58 : Hid (Below w5.heap.size w5 w8) := HB56.out.trans (HB68.out.mono HB56.out.size)
    have HB48 : Hid (Below w4.heap.size w4 w8) := HB45.out.trans (HB58.out.mono HB45.out.size)
    have HB38 : Hid (Below w3.heap.size w3 w8) := HB34.out.trans (HB48.out.mono HB34.out.size)
    have HB08 : Hid (Below w.heap.size w w8) := HB03.out.trans (HB38.out.mono HB03.out.size)
    have HS : Hid (w.heap.size ≤ w3.heap.size ∧ w3.heap.size ≤ w4.heap.size ∧ w4.heap.size ≤ w5.heap.size ∧ w5.heap.size ≤ w6.heap.size ∧ w6.heap.size ≤ w7.heap.size ∧ w7.heap.size ≤ w8.heap.size) := ⟨HB03.out.size, HB34.out.size, HB45.out.size, HB56.out.size, HB67.out.size, HB78.out.size⟩
    have HX : Hid (w8.ownsRow w3.heap.size 5 1 vx (cmL h key zs).length (cellsU8 (cmL h key zs))) := owns_kept HX4.out HB48.out
    have HC : Hid (w8.ownsRow (w4.heap.size + 2) 5 1 vc (cmL 512 [107] key).length (cellsU8 (cmL 512 [107] key))) := owns_kept HC5.out HB58.out
    have HY : Hid (w8.ownsRow w5.heap.size 5 1 vy (cmL h key zs).length (cellsU8 (cmL h key zs))) := owns_kept HY6.out HB68.out
    have HW : Hid (w8.ownsRow w6.heap.size 5 1 vw (cmL h key zs).length (cellsU8 (cmL h key zs))) := owns_kept HW7.out HB78.out
    have HXb : Hid (∀ b, vx.ownBlock = some b → w3.heap.size ≤ b ∧ b < w4.heap.size) := fun b hb => HX4.out.lt b hb
    have HVX : Hid (View w8 vx (cmL h key zs)) := viewOwns HX.out rfl
    have HVY : Hid (View w8 vy (cmL h key zs)) := viewOwns HY.out rfl
    have HVC : Hid (View w8 vc (cmL 512 [107] key)) := viewOwns HC.out rfl
    have HVW : Hid (View w8 vw (cmL h key zs)) := viewOwns HW.out rfl
    have HVV : Hid (View w8 vb (cmL 512 [107] key)) := viewOwns HV8.out rfl
    have HPL8 : Hid (PV w8 vl vs yss) := HPL.out.kept fun b hb => HB38.out.block b hb
    have HL8 : Hid (Lent w1.heap.size w8 vs yss) := fun i x hx => (HL3.out i x hx).kept fun b hb => HB38.out.block b hb
    have HP8 : Hid (PV w8 (.slice a n c) xs yss) := hP.out.kept fun b hb => HB08.out.block b hb
    have HM8 : Hid (Marked w2.heap.size w8 (.slice (some ⟨gk, 0, none⟩) kn ck) key) := HM3.out.kept fun b hb => HB38.out.block b hb
    have hK8 : Hid (View w8 (.slice ka kn kc) key) := hkv.out.kept fun b hb => HB08.out.block b hb
    have hsm := cmL_length h key zs
    have C1 : Hid (∀ u : World, u.heap = w8.heap → Calls Tryd.prog 20 #[vx, vw] u fun e w' => e = .returned (.bool true) ∧ ∃ m, w' = u.drewN m) := fun u hu => by
      have q := same_any vx vw (cmL h key zs) (cmL h key zs) u (HVX.out.kept fun b _ => by rw [hu]) (HVW.out.kept fun b _ => by rw [hu])
      rw [show decide (cmL h key zs = cmL h key zs) = true from decide_eq_true rfl] at q
      exact q
    have C2 : Hid (∀ u : World, u.heap = w8.heap → Calls Tryd.prog 20 #[vy, vw] u fun e w' => e = .returned (.bool true) ∧ ∃ m, w' = u.drewN m) := fun u hu => by
      have q := same_any vy vw (cmL h key zs) (cmL h key zs) u (HVY.out.kept fun b _ => by rw [hu]) (HVW.out.kept fun b _ => by rw [hu])
      rw [show decide (cmL h key zs = cmL h key zs) = true from decide_eq_true rfl] at q
      exact q
    have C3 : Hid (∀ u : World, u.heap = w8.heap → Calls Tryd.prog 25 #[vl, .slice a n c] u fun e w' => e = .returned (.bool true) ∧ ∃ m, w' = u.drewN m) := fun u hu =>
      wholes_ok vl _ vs xs yss w1.heap.size u (HPL8.out.kept fun b _ => by rw [hu]) (HP8.out.kept fun b _ => by rw [hu]) (fun i x hx => (HL8.out i x hx).kept fun b _ => by rw [hu]) (by rw [hxn.out]; exact hn)
    have C4 : Hid (∀ u : World, u.heap = w8.heap → Calls Tryd.prog 18 #[.slice (some ⟨gk, 0, none⟩) kn ck, .slice ka kn kc] u fun e w' => e = .returned (.bool true) ∧ ∃ m, w' = u.drewN m) := fun u hu =>
      whole_any _ _ key w2.heap.size u (HM8.out.kept fun b _ => by rw [hu]) (hK8.out.kept fun b _ => by rw [hu])
    have C5 : Hid (∀ u : World, u.heap = w8.heap → Calls Tryd.prog 21 #[vx] u fun e w' => e = .returned (.tuple #[]) ∧ u.grownBy w' vx.ownBlock) := fun u hu =>
      spoil_any w3.heap.size (cmL h key zs).length vx (cmL h key zs) u (by omega) (by rw [hu]; have := HS.out; omega) (by
        obtain ⟨q1, q2⟩ := HX.out
        refine ⟨q1, ?_⟩
        rw [hu]
        exact q2)
    clear HX4 HC5 HY6 HW7 HB12 HB23 HB34 HB45 HB56 HB67 HB78 HB68 HB58 HB48 HB35 HB36 HB06 HB16 HB07 HO1 HM3 HL3 HL2 HPL2
    go_wp2_with (first
      | (go_at_call 16; refine (HSz.out _).mono ?_; rintro e1 wx ⟨rfl, hwx⟩; obtain rfl := hwx.symm)
      | (go_at_call 11; refine (num_any _ _ (by decide) (by decide)).mono ?_; rintro e1 wx ⟨rfl, hwx⟩; obtain rfl := hwx.symm))
    refine (C1.out _ ?_).mono ?_
    · rfl
    rintro e9 w9 ⟨rfl, m9, rfl⟩
    go_wp2_with fail
    refine (C2.out _ ?_).mono ?_
    · rfl
    rintro e10 w10 ⟨rfl, m10, rfl⟩
    go_wp2_with fail
    refine (C3.out _ ?_).mono ?_
    · rfl
    rintro e11 w11 ⟨rfl, m11, rfl⟩
    go_wp2_with fail
    refine (C4.out _ ?_).mono ?_
    · rfl
    rintro e12 w12 ⟨rfl, m12, rfl⟩
    go_wp2_with fail
    refine (C5.out _ ?_).mono ?_
    · rfl
    rintro e13 w13 ⟨rfl, hg⟩
    have HVY2 : Hid (View w13 vy (cmL h key zs)) := (HVY.out.kept (w' := w8.drewN (m9 + m10 + m11 + m12)) fun b _ => rfl).grown hg (owns_apart HY.out fun b hb => by have := (HXb.out b hb).2; have := HS.out; omega)
    have HVW2 : Hid (View w13 vw (cmL h key zs)) := (HVW.out.kept (w' := w8.drewN (m9 + m10 + m11 + m12)) fun b _ => rfl).grown hg (owns_apart HW.out fun b hb => by have := (HXb.out b hb).2; have := HS.out; omega)
    have HVC2 : Hid (View w13 vc (cmL 512 [107] key)) := (HVC.out.kept (w' := w8.drewN (m9 + m10 + m11 + m12)) fun b _ => rfl).grown hg (owns_apart HC.out fun b hb => by have := (HXb.out b hb).2; have := HS.out; omega)
    have HVV2 : Hid (View w13 vb (cmL 512 [107] key)) := (HVV.out.kept (w' := w8.drewN (m9 + m10 + m11 + m12)) fun b _ => rfl).grown hg (owns_apart HV8.out fun b hb => by have := (HXb.out b hb).2; have := HS.out; omega)
    have HB013 : Hid (Below w.heap.size w w13) := by
      have hb : Below w.heap.size w (w8.drewN (m9 + m10 + m11 + m12)) := ⟨HB08.out.os, HB08.out.tape, HB08.out.output, HB08.out.size, HB08.out.block⟩
      exact hb.grown hg hb.size (fun b hb => Nat.le_trans HS.out.1 (HXb.out b hb).1)
    have C6 : Hid (∀ u : World, u.heap = w13.heap → Calls Tryd.prog 20 #[vy, vw] u fun e w' => e = .returned (.bool true) ∧ ∃ m, w' = u.drewN m) := fun u hu => by
      have q := same_any vy vw (cmL h key zs) (cmL h key zs) u (HVY2.out.kept fun b _ => by rw [hu]) (HVW2.out.kept fun b _ => by rw [hu])
      rw [show decide (cmL h key zs = cmL h key zs) = true from decide_eq_true rfl] at q
      exact q
    have C7 : Hid (∀ u : World, u.heap = w13.heap → Calls Tryd.prog 20 #[vc, vb] u fun e w' => e = .returned (.bool true) ∧ ∃ m, w' = u.drewN m) := fun u hu => by
      have q := same_any vc vb (cmL 512 [107] key) (cmL 512 [107] key) u (HVC2.out.kept fun b _ => by rw [hu]) (HVV2.out.kept fun b _ => by rw [hu])
      rw [show decide (cmL 512 [107] key = cmL 512 [107] key) = true from decide_eq_true rfl] at q
      exact q
    clear hg C1 C2 C3 C4 C5
    go_wp2_with fail
    refine (C6.out _ ?_).mono ?_
    · rfl
    rintro e14 w14 ⟨rfl, m14, rfl⟩
    go_wp2_with fail
    refine (C7.out _ ?_).mono ?_
    · rfl
    rintro e15 w15 ⟨rfl, m15, rfl⟩
    go_wp2_with fail
    go_ret
    exact ⟨rfl, ⟨HB013.out.os, HB013.out.tape, HB013.out.output, HB013.out.size, HB013.out.block⟩⟩
set_option maxHeartbeats 6400000 in
set_option maxRecDepth 100000 in
theorem codes_bad (h : Int) (k : ¬ Known h) (ka : Option Addr) (kn kc : Nat) (key : List Int) (a : Option Addr) (n c : Nat) (xs : List Value) (yss : List (List Int)) (w : World) (hT : Hid (Tables w)) (hR : Hid (RTab w)) (hkv : Hid (View w (.slice ka kn kc) key)) (HKl : Hid (key.length = kn)) (hkn : kn ≤ 1048576) (hP : Hid (PV w (.slice a n c) xs yss)) (hxn : Hid (xs.length = n)) (hs : Hid (yss.flatten.length ≤ 1048576)) (hn : n ≤ 1048576) :
    Calls Tryd.prog 5 #[.int .i64 h, .slice ka kn kc, .slice a n c] w fun e w' => e = .returned (.bool true) ∧ Below w.heap.size w w' := by
  have hT4 := hT.out.size
  have hR2 := hR.out.size
  have hyn : Hid (yss.length = n) := by
    obtain ⟨_, _, _, _, _, h3, _⟩ := hP.out
    show _ = _
    rw [← h3, hxn.out]
  have HSz : Hid (∀ u, Calls Tryd.prog 16 #[.int .i64 h] u fun e w' => e = .returned (.int .i64 0) ∧ w' = u) := fun u => rsize_bad h k u
  have HEs : Hid (cmE h = 10) := by show _ = _; unfold cmE; rw [if_neg k]
  have HK22 : Hid (Calls Tryd.prog 22 #[.slice a n c] w fun e w' => Hid (∃ v' zs, e = .returned v' ∧ w'.ownsRow w.heap.size 5 1 v' zs.length (cellsU8 zs) ∧ Below w.heap.size w w' ∧ (zs = yss.flatten ∨ 65536 < zs.length) ∧ zs.length ≤ 1048576)) := joined_ok a n c xs yss w hP hxn hs hn
  clear k
  have kcv := fun (w : World) (C : Array Value) (n c : Nat) => Lib.run_convert_bytes_const (P := Tryd.prog) w 22 5 C n c Tryd.underlying22 Tryd.underlying5
  go_enter Tryd.func5, Tryd.ntmps5
  go_upto_region 2 with (go_at_call 22; refine HK22.out.mono ?_)
  intro e1 w1 hh
  obtain ⟨va, zs, rfl, ho1, hb1, hz1, hl1⟩ : ∃ v' zs, e1 = .returned v' ∧ w1.ownsRow w.heap.size 5 1 v' zs.length (cellsU8 zs) ∧ Below w.heap.size w w1 ∧ (zs = yss.flatten ∨ 65536 < zs.length) ∧ zs.length ≤ 1048576 := by
    have := hh.out
    grind
  obtain ⟨aa, ca, rfl⟩ := owns_slice ho1
  obtain ⟨lz, hlz⟩ : ∃ lz, lz = zs.length := ⟨_, rfl⟩
  rw [← hlz] at ho1 hl1 ⊢
  have HLz : Hid (zs.length = lz) := hlz.symm
  have HO1 : Hid (w1.ownsRow w.heap.size 5 1 (.slice aa lz ca) lz (cellsU8 zs)) := ho1
  have HB01 : Hid (Below w.heap.size w w1) := hb1
  have HZ1 : Hid (zs = yss.flatten ∨ 65536 < zs.length) := hz1
  clear hh ho1 hb1 hz1 hlz HK22
  by_cases hlong : 65536 < lz + kn
  · have d1 : (65536 : Int) < (lz : Nat) + (kn : Nat) := by omega
    go_wp2
    go_ret
    exact ⟨rfl, HB01.out⟩
  · have d1 : ¬ (65536 : Int) < (lz : Nat) + (kn : Nat) := by omega
    have HZ : Hid (zs = yss.flatten) := by
      rcases HZ1.out with h | h
      · exact h
      · rw [HLz.out] at h; omega
    have HP1 : Hid (PV w1 (.slice a n c) xs yss) := hP.out.kept fun b hb => HB01.out.block b hb
    have H23 : Hid (Calls Tryd.prog 23 #[.slice a n c] w1 fun e w' => Hid (∃ v', e = .returned v' ∧ ∃ vs, vs.length = n ∧ w'.ownsRow w1.heap.size 22 1 v' n vs ∧ Lent w1.heap.size w' vs yss ∧ Below w1.heap.size w1 w')) := lent_ok a n c xs yss w1 HP1 hxn hs hn
    clear HZ1
    go_upto_region 5 with (go_at_call 23; refine H23.out.mono ?_)
    intro e2 w2 hh
    obtain ⟨vl, rfl, vs, hvn, ho2, hL2, hb2⟩ := hh.out
    have HB12 : Hid (Below w1.heap.size w1 w2) := hb2
    have HB02 : Hid (Below w.heap.size w w2) := HB01.out.trans (hb2.mono HB01.out.size)
    have HPL2 : Hid (PV w2 vl vs yss) := lent_pv ho2 hvn hyn.out hL2
    have HL2 : Hid (Lent w1.heap.size w2 vs yss) := hL2
    clear hh hvn ho2 hL2 hb2 H23
    have H17 : Hid (Calls Tryd.prog 17 #[.slice ka kn kc] w2 fun e w' => Hid (∃ v', e = .returned v' ∧ Marked w2.heap.size w' v' key ∧ Below w2.heap.size w2 w')) := copy_any _ key w2 (by rw [HKl.out]; omega) (hkv.out.kept fun b hb => HB02.out.block b hb)
    go_upto_region 6 with (go_at_call 17; refine H17.out.mono ?_)
    intro e3 w3 hh
    obtain ⟨vk, rfl, hm3, hb3⟩ := hh.out
    have HB23 : Hid (Below w2.heap.size w2 w3) := hb3
    obtain ⟨gk, ck, hvk⟩ : ∃ g c, vk = .slice (some ⟨g, 0, none⟩) kn c := by
      obtain ⟨g, c, e, _⟩ := hm3
      exact ⟨g, c, by rw [e, HKl.out]⟩
    subst hvk
    have HM3 : Hid (Marked w2.heap.size w3 (.slice (some ⟨gk, 0, none⟩) kn ck) key) := hm3
    have HVK : Hid (View w3 (.slice (some ⟨gk, 0, none⟩) kn ck) key) := hm3.view
    clear hh hm3 hb3 H17
    have HB03 : Hid (Below w.heap.size w w3) := HB02.out.trans (HB23.out.mono HB02.out.size)
    have HPL : Hid (PV w3 vl vs yss) := HPL2.out.kept fun b hb => HB23.out.block b hb
    have HL3 : Hid (Lent w1.heap.size w3 vs yss) := fun i x hx => (HL2.out i x hx).kept fun b hb => HB23.out.block b hb
    have hs2 : Hid (yss.flatten.length ≤ 33554432) := by have := hs.out; show _ ≤ _; omega
    have hk2 : Hid (key.length ≤ 33554432) := by show _ ≤ _; rw [HKl.out]; omega
    have H10 : Hid (∀ u, Below w3.heap.size w3 u → Calls Tryd.prog 10 #[.int .i64 h, .slice (some ⟨gk, 0, none⟩) kn ck, vl] u fun e w' => Hid (∃ v', e = .returned (.tuple #[v', .int .i64 10]) ∧ w'.ownsRow u.heap.size 5 1 v' (cmL h key zs).length (cellsU8 (cmL h key zs)) ∧ Below u.heap.size u w')) := fun u hu => by
      have q := cm_ok h _ key vl vs yss u ((hT.out.below HB03.out hT4).below hu (by have := HB03.out.size; omega)) (HVK.out.kept fun b hb => hu.block b hb) hk2.out (HPL.out.kept fun b hb => hu.block b hb) hs2.out
      rw [HEs.out, ← HZ.out] at q
      exact q
    go_upto_region 7 with (go_at_call 10; refine (H10.out w3 (Below.refl _ _)).mono ?_)
    intro e4 w4 hh
    obtain ⟨vx, rfl, hox, hb4⟩ := hh.out
    have HB34 : Hid (Below w3.heap.size w3 w4) := hb4
    have HX4 : Hid (w4.ownsRow w3.heap.size 5 1 vx (cmL h key zs).length (cellsU8 (cmL h key zs))) := hox
    clear hh hox hb4
    have HB04 : Hid (Below w.heap.size w w4) := HB03.out.trans (HB34.out.mono HB03.out.size)
    have H10b : Hid (Calls Tryd.prog 10 #[.int .i64 512, .slice (some ⟨w4.heap.size, 0, none⟩) 1 1, .slice (some ⟨w4.heap.size + 1, 0, none⟩) 1 1] ((w4.alloc (.cells #[.int .u8 107] 5 (1, 2))).alloc (.cells #[.slice (some ⟨gk, 0, none⟩) kn ck] 22)) fun e w' => Hid (∃ v', e = .returned (.tuple #[v', .int .i64 0]) ∧ w'.ownsRow (w4.heap.size + 2) 5 1 v' (cmL 512 [107] key).length (cellsU8 (cmL 512 [107] key)) ∧ Below w4.heap.size w4 w')) := by
      have hb1 : Below w4.heap.size w4 (w4.alloc (.cells #[.int .u8 107] 5 (1, 2))) := (Below.refl _ _).alloc (Nat.le_refl _) _
      have hb : Below w4.heap.size w4 ((w4.alloc (.cells #[.int .u8 107] 5 (1, 2))).alloc (.cells #[.slice (some ⟨gk, 0, none⟩) kn ck] 22)) := hb1.alloc (by rw [size_alloc]; omega) _
      have h1 := HB04.out.size
      have q := cm_ok 512 (.slice (some ⟨w4.heap.size, 0, none⟩) 1 1) [107] _ _ [key] _ ((hT.out.below HB04.out hT4).below hb (by omega)) ((view_k w4).kept fun b hb => Below.heap_alloc _ _ b hb) (by decide) (pv_one (w4.alloc (.cells #[.int .u8 107] 5 (1, 2))) (.slice (some ⟨gk, 0, none⟩) kn ck) key (HVK.out.kept fun b hb => by rw [Below.heap_alloc _ _ b (Nat.lt_of_lt_of_le hb HB34.out.size)]; exact HB34.out.block b hb)) (by simpa using hk2.out)
      have hz : ((w4.alloc (.cells #[.int .u8 107] 5 (1, 2))).alloc (.cells #[.slice (some ⟨gk, 0, none⟩) kn ck] 22)).heap.size = w4.heap.size + 2 := by rw [size_alloc, size_alloc]
      rw [cmE512, hz, size_alloc, List.flatten_singleton] at q
      exact q.mono fun e w' hh => by
        obtain ⟨v', q1, q2, q3⟩ := hh
        exact ⟨v', q1, q2, hb.trans (q3.mono (by omega))⟩
    go_upto_region 8 with (go_at_call 10; refine H10b.out.mono ?_)
    intro e5 w5 hh
    obtain ⟨vc, rfl, hoc, hb5⟩ := hh.out
    have HB45 : Hid (Below w4.heap.size w4 w5) := hb5
    have HC5 : Hid (w5.ownsRow (w4.heap.size + 2) 5 1 vc (cmL 512 [107] key).length (cellsU8 (cmL 512 [107] key))) := hoc
    clear hh hoc hb5 H10b
    have HB35 : Hid (Below w3.heap.size w3 w5) := HB34.out.trans (HB45.out.mono HB34.out.size)
    go_upto_region 9 with (go_at_call 10; refine (H10.out w5 HB35.out).mono ?_)
    intro e6 w6 hh
    obtain ⟨vy, rfl, hoy, hb6⟩ := hh.out
    have HB56 : Hid (Below w5.heap.size w5 w6) := hb6
    have HY6 : Hid (w6.ownsRow w5.heap.size 5 1 vy (cmL h key zs).length (cellsU8 (cmL h key zs))) := hoy
    clear hh hoy hb6 H10
    have HB36 : Hid (Below w3.heap.size w3 w6) := HB35.out.trans (HB56.out.mono HB35.out.size)
    have HB06 : Hid (Below w.heap.size w w6) := HB03.out.trans (HB36.out.mono HB03.out.size)
    have HB16 : Hid (Below w1.heap.size w1 w6) := HB12.out.trans ((HB23.out.trans (HB36.out.mono HB23.out.size)).mono HB12.out.size)
    have H24 : Hid (Calls Tryd.prog 24 #[.int .i64 h, .slice ka kn kc, .slice aa lz ca] w6 fun e w' => Hid (∃ v', e = .returned v' ∧ w'.ownsRow w6.heap.size 5 1 v' (cmL h key zs).length (cellsU8 (cmL h key zs)) ∧ Below w6.heap.size w6 w')) := rc_ok h _ key _ zs w6 (hR.out.below HB06.out hR2) (hkv.out.kept fun b hb => HB06.out.block b hb) (by rw [HKl.out]; omega) ((viewOwns HO1.out HLz.out).kept fun b hb => HB16.out.block b hb) (by rw [HLz.out]; omega)
    go_upto_region 10 with (go_at_call 24; refine H24.out.mono ?_)
    intro e7 w7 hh
    obtain ⟨vw, rfl, how, hb7⟩ := hh.out
    have HB67 : Hid (Below w6.heap.size w6 w7) := hb7
    have HW7 : Hid (w7.ownsRow w6.heap.size 5 1 vw (cmL h key zs).length (cellsU8 (cmL h key zs))) := how
    clear hh how hb7 H24
    have HB07 : Hid (Below w.heap.size w w7) := HB06.out.trans (HB67.out.mono HB06.out.size)
    have H24b : Hid (Calls Tryd.prog 24 #[.int .i64 512, .slice (some ⟨w7.heap.size, 0, none⟩) 1 1, .slice ka kn kc] (w7.alloc (.cells #[.int .u8 107] 5 (1, 2))) fun e w' => Hid (∃ v', e = .returned v' ∧ w'.ownsRow (w7.heap.size + 1) 5 1 v' (cmL 512 [107] key).length (cellsU8 (cmL 512 [107] key)) ∧ Below w7.heap.size w7 w')) := by
      have hb : Below w7.heap.size w7 (w7.alloc (.cells #[.int .u8 107] 5 (1, 2))) := (Below.refl _ _).alloc (Nat.le_refl _) _
      have h1 := HB07.out.size
      have q := rc_ok 512 (.slice (some ⟨w7.heap.size, 0, none⟩) 1 1) [107] (.slice ka kn kc) key _ ((hR.out.below HB07.out hR2).below hb (by omega)) (view_k w7) (by decide) ((hkv.out.kept fun b hb => HB07.out.block b hb).kept fun b hb => Below.heap_alloc _ _ b hb) (by rw [HKl.out]; omega)
      rw [size_alloc] at q
      exact q.mono fun e w' hh => by
        obtain ⟨v', q1, q2, q3⟩ := hh
        exact ⟨v', q1, q2, hb.trans (q3.mono (by omega))⟩
    go_upto_region 11 with (go_at_call 24; refine H24b.out.mono ?_)
    intro e8 w8 hh
    obtain ⟨vb, rfl, hob, hb8⟩ := hh.out
    have HB78 : Hid (Below w7.heap.size w7 w8) := hb8
    have HV8 : Hid (w8.ownsRow (w7.heap.size + 1) 5 1 vb (cmL 512 [107] key).length (cellsU8 (cmL 512 [107] key))) := hob
    clear hh hob hb8 H24b
    have HB68 : Hid (Below w6.heap.size w6 w8) := HB67.out.trans (HB78.out.mono HB67.out.size)
    have HB58 : Hid (Below w5.heap.size w5 w8) := HB56.out.trans (HB68.out.mono HB56.out.size)
    have HB48 : Hid (Below w4.heap.size w4 w8) := HB45.out.trans (HB58.out.mono HB45.out.size)
    have HB38 : Hid (Below w3.heap.size w3 w8) := HB34.out.trans (HB48.out.mono HB34.out.size)
    have HB08 : Hid (Below w.heap.size w w8) := HB03.out.trans (HB38.out.mono HB03.out.size)
    have HS : Hid (w.heap.size ≤ w3.heap.size ∧ w3.heap.size ≤ w4.heap.size ∧ w4.heap.size ≤ w5.heap.size ∧ w5.heap.size ≤ w6.heap.size ∧ w6.heap.size ≤ w7.heap.size ∧ w7.heap.size ≤ w8.heap.size) := ⟨HB03.out.size, HB34.out.size, HB45.out.size, HB56.out.size, HB67.out.size, HB78.out.size⟩
    have HX : Hid (w8.ownsRow w3.heap.size 5 1 vx (cmL h key zs).length (cellsU8 (cmL h key zs))) := owns_kept HX4.out HB48.out
    have HC : Hid (w8.ownsRow (w4.heap.size + 2) 5 1 vc (cmL 512 [107] key).length (cellsU8 (cmL 512 [107] key))) := owns_kept HC5.out HB58.out
    have HY : Hid (w8.ownsRow w5.heap.size 5 1 vy (cmL h key zs).length (cellsU8 (cmL h key zs))) := owns_kept HY6.out HB68.out
    have HW : Hid (w8.ownsRow w6.heap.size 5 1 vw (cmL h key zs).length (cellsU8 (cmL h key zs))) := owns_kept HW7.out HB78.out
    have HXb : Hid (∀ b, vx.ownBlock = some b → w3.heap.size ≤ b ∧ b < w4.heap.size) := fun b hb => HX4.out.lt b hb
    have HVX : Hid (View w8 vx (cmL h key zs)) := viewOwns HX.out rfl
    have HVY : Hid (View w8 vy (cmL h key zs)) := viewOwns HY.out rfl
    have HVC : Hid (View w8 vc (cmL 512 [107] key)) := viewOwns HC.out rfl
    have HVW : Hid (View w8 vw (cmL h key zs)) := viewOwns HW.out rfl
    have HVV : Hid (View w8 vb (cmL 512 [107] key)) := viewOwns HV8.out rfl
    have HPL8 : Hid (PV w8 vl vs yss) := HPL.out.kept fun b hb => HB38.out.block b hb
    have HL8 : Hid (Lent w1.heap.size w8 vs yss) := fun i x hx => (HL3.out i x hx).kept fun b hb => HB38.out.block b hb
    have HP8 : Hid (PV w8 (.slice a n c) xs yss) := hP.out.kept fun b hb => HB08.out.block b hb
    have HM8 : Hid (Marked w2.heap.size w8 (.slice (some ⟨gk, 0, none⟩) kn ck) key) := HM3.out.kept fun b hb => HB38.out.block b hb
    have hK8 : Hid (View w8 (.slice ka kn kc) key) := hkv.out.kept fun b hb => HB08.out.block b hb
    have hsm := cmL_length h key zs
    have C1 : Hid (∀ u : World, u.heap = w8.heap → Calls Tryd.prog 20 #[vx, vw] u fun e w' => e = .returned (.bool true) ∧ ∃ m, w' = u.drewN m) := fun u hu => by
      have q := same_any vx vw (cmL h key zs) (cmL h key zs) u (HVX.out.kept fun b _ => by rw [hu]) (HVW.out.kept fun b _ => by rw [hu])
      rw [show decide (cmL h key zs = cmL h key zs) = true from decide_eq_true rfl] at q
      exact q
    have C2 : Hid (∀ u : World, u.heap = w8.heap → Calls Tryd.prog 20 #[vy, vw] u fun e w' => e = .returned (.bool true) ∧ ∃ m, w' = u.drewN m) := fun u hu => by
      have q := same_any vy vw (cmL h key zs) (cmL h key zs) u (HVY.out.kept fun b _ => by rw [hu]) (HVW.out.kept fun b _ => by rw [hu])
      rw [show decide (cmL h key zs = cmL h key zs) = true from decide_eq_true rfl] at q
      exact q
    have C3 : Hid (∀ u : World, u.heap = w8.heap → Calls Tryd.prog 25 #[vl, .slice a n c] u fun e w' => e = .returned (.bool true) ∧ ∃ m, w' = u.drewN m) := fun u hu =>
      wholes_ok vl _ vs xs yss w1.heap.size u (HPL8.out.kept fun b _ => by rw [hu]) (HP8.out.kept fun b _ => by rw [hu]) (fun i x hx => (HL8.out i x hx).kept fun b _ => by rw [hu]) (by rw [hxn.out]; exact hn)
    have C4 : Hid (∀ u : World, u.heap = w8.heap → Calls Tryd.prog 18 #[.slice (some ⟨gk, 0, none⟩) kn ck, .slice ka kn kc] u fun e w' => e = .returned (.bool true) ∧ ∃ m, w' = u.drewN m) := fun u hu =>
      whole_any _ _ key w2.heap.size u (HM8.out.kept fun b _ => by rw [hu]) (hK8.out.kept fun b _ => by rw [hu])
    have C5 : Hid (∀ u : World, u.heap = w8.heap → Calls Tryd.prog 21 #[vx] u fun e w' => e = .returned (.tuple #[]) ∧ u.grownBy w' vx.ownBlock) := fun u hu =>
      spoil_any w3.heap.size (cmL h key zs).length vx (cmL h key zs) u (by omega) (by rw [hu]; have := HS.out; omega) (by
        obtain ⟨q1, q2⟩ := HX.out
        refine ⟨q1, ?_⟩
        rw [hu]
        exact q2)
    clear HX4 HC5 HY6 HW7 HB12 HB23 HB34 HB45 HB56 HB67 HB78 HB68 HB58 HB48 HB35 HB36 HB06 HB16 HB07 HO1 HM3 HL3 HL2 HPL2
    go_wp2_with (first
      | (go_at_call 16; refine (HSz.out _).mono ?_; rintro e1 wx ⟨rfl, hwx⟩; obtain rfl := hwx.symm)
      | (go_at_call 11; refine (num_any _ _ (by decide) (by decide)).mono ?_; rintro e1 wx ⟨rfl, hwx⟩; obtain rfl := hwx.symm))
    refine (C1.out _ ?_).mono ?_
    · rfl
    rintro e9 w9 ⟨rfl, m9, rfl⟩
    go_wp2_with fail
    refine (C2.out _ ?_).mono ?_
    · rfl
    rintro e10 w10 ⟨rfl, m10, rfl⟩
    go_wp2_with fail
    refine (C3.out _ ?_).mono ?_
    · rfl
    rintro e11 w11 ⟨rfl, m11, rfl⟩
    go_wp2_with fail
    refine (C4.out _ ?_).mono ?_
    · rfl
    rintro e12 w12 ⟨rfl, m12, rfl⟩
    go_wp2_with fail
    refine (C5.out _ ?_).mono ?_
    · rfl
    rintro e13 w13 ⟨rfl, hg⟩
    have HVY2 : Hid (View w13 vy (cmL h key zs)) := (HVY.out.kept (w' := w8.drewN (m9 + m10 + m11 + m12)) fun b _ => rfl).grown hg (owns_apart HY.out fun b hb => by have := (HXb.out b hb).2; have := HS.out; omega)
    have HVW2 : Hid (View w13 vw (cmL h key zs)) := (HVW.out.kept (w' := w8.drewN (m9 + m10 + m11 + m12)) fun b _ => rfl).grown hg (owns_apart HW.out fun b hb => by have := (HXb.out b hb).2; have := HS.out; omega)
    have HVC2 : Hid (View w13 vc (cmL 512 [107] key)) := (HVC.out.kept (w' := w8.drewN (m9 + m10 + m11 + m12)) fun b _ => rfl).grown hg (owns_apart HC.out fun b hb => by have := (HXb.out b hb).2; have := HS.out; omega)
    have HVV2 : Hid (View w13 vb (cmL 512 [107] key)) := (HVV.out.kept (w' := w8.drewN (m9 + m10 + m11 + m12)) fun b _ => rfl).grown hg (owns_apart HV8.out fun b hb => by have := (HXb.out b hb).2; have := HS.out; omega)
    have HB013 : Hid (Below w.heap.size w w13) := by
      have hb : Below w.heap.size w (w8.drewN (m9 + m10 + m11 + m12)) := ⟨HB08.out.os, HB08.out.tape, HB08.out.output, HB08.out.size, HB08.out.block⟩
      exact hb.grown hg hb.size (fun b hb => Nat.le_trans HS.out.1 (HXb.out b hb).1)
    have C6 : Hid (∀ u : World, u.heap = w13.heap → Calls Tryd.prog 20 #[vy, vw] u fun e w' => e = .returned (.bool true) ∧ ∃ m, w' = u.drewN m) := fun u hu => by
      have q := same_any vy vw (cmL h key zs) (cmL h key zs) u (HVY2.out.kept fun b _ => by rw [hu]) (HVW2.out.kept fun b _ => by rw [hu])
      rw [show decide (cmL h key zs = cmL h key zs) = true from decide_eq_true rfl] at q
      exact q
    have C7 : Hid (∀ u : World, u.heap = w13.heap → Calls Tryd.prog 20 #[vc, vb] u fun e w' => e = .returned (.bool true) ∧ ∃ m, w' = u.drewN m) := fun u hu => by
      have q := same_any vc vb (cmL 512 [107] key) (cmL 512 [107] key) u (HVC2.out.kept fun b _ => by rw [hu]) (HVV2.out.kept fun b _ => by rw [hu])
      rw [show decide (cmL 512 [107] key = cmL 512 [107] key) = true from decide_eq_true rfl] at q
      exact q
    clear hg C1 C2 C3 C4 C5
    go_wp2_with fail
    refine (C6.out _ ?_).mono ?_
    · rfl
    rintro e14 w14 ⟨rfl, m14, rfl⟩
    go_wp2_with fail
    refine (C7.out _ ?_).mono ?_
    · rfl
    rintro e15 w15 ⟨rfl, m15, rfl⟩
    go_wp2_with fail
    go_ret
    exact ⟨rfl, ⟨HB013.out.os, HB013.out.tape, HB013.out.output, HB013.out.size, HB013.out.block⟩⟩
theorem codes_ok (h : Int) (ka : Option Addr) (kn kc : Nat) (key : List Int) (a : Option Addr) (n c : Nat) (xs : List Value) (yss : List (List Int)) (w : World) (hT : Tables w) (hR : RTab w) (hkv : View w (.slice ka kn kc) key) (HKl : key.length = kn) (hkn : kn ≤ 1048576) (hP : PV w (.slice a n c) xs yss) (hxn : xs.length = n) (hs : yss.flatten.length ≤ 1048576) (hn : n ≤ 1048576) :
    Calls Tryd.prog 5 #[.int .i64 h, .slice ka kn kc, .slice a n c] w fun e w' => e = .returned (.bool true) ∧ Below w.heap.size w w' := by
  by_cases k : Known h
  · exact codes_known h k ka kn kc key a n c xs yss w hT hR hkv HKl hkn hP hxn hs hn
  · exact codes_bad h k ka kn kc key a n c xs yss w hT hR hkv HKl hkn hP hxn hs hn
end Go.Proofs.YtioggmjocelolacDoor
namespace Go.Proofs.YtioggmjocelolacDoor
open Go.ChangeShapes Go.WideShapes Go.ChangeAt Go.RowKit

theorem own : ownKnob Tryd.prog.godebug = none := by kernel_rfl
theorem laidOut : laidOutB Tryd.prog = true := by kernel_rfl
theorem cells5 : Tryd.prog.cellsOf 5 = 1 := by kernel_rfl
theorem bytes5 : Tryd.prog.bytesOf 5 = 1 := by kernel_rfl

/-- What came in as a list of bytes. -/
theorem open_bytes {H : Type} {enc : TypeId × Value → H} {W : World} {a : Option Addr} {len cap : Nat} {d : DataW H} {p : List MemPlace}
    (h : DataW.Trod enc Tryd.prog W 0 (fun _ => true) true 22 (.slice a len cap) d p) :
    ∃ xs : List Int, xs.length = len ∧ AllBytes xs ∧ View W (.slice a len cap) xs ∧ (d = .nil ∧ xs = [] ∨ ∃ sp, d = .slice (lits .u8 xs) sp) := by
  obtain ⟨fuel, hf⟩ := h
  rcases open_ints Tryd.underlying22 Tryd.underlying5 cells5 hf with ⟨hcs, hx⟩ | ⟨x, l, c, zs, hcs, _, hl, hm, hz, hx, hcell, hwz⟩
  · simp [Value.cells] at hcs
    obtain ⟨rfl, rfl, rfl⟩ := hcs
    simp only [Prod.mk.injEq] at hx
    refine ⟨[], rfl, fun i => by simp, ⟨none, 0, rfl, Nat.le_refl _, by simp, fun _ => rfl, .inl rfl⟩, .inl ⟨hx.1, rfl⟩⟩
  · simp [Value.cells] at hcs
    obtain ⟨rfl, rfl, rfl⟩ := hcs
    simp only [Prod.mk.injEq] at hx
    have hzl : zs.length = cap := by simpa using hz
    have hlen : (zs.take len).length = len := by simp; omega
    have hw : ∀ n ∈ zs, 0 ≤ n ∧ n < 256 := by
      intro n hn
      have := hwz n hn
      have h1 : IntKind.u8.min = 0 := rfl
      have h2 : IntKind.u8.max = 255 := rfl
      simp only [Lit.wf, Bool.and_eq_true, decide_eq_true_eq] at this
      omega
    refine ⟨zs.take len, hlen, ?_, ⟨some x, cap, by rw [hlen], by omega, hm, (fun h => by cases h), ?_⟩, .inr ⟨_, hx.1⟩⟩
    · intro i
      rw [List.getD_eq_getElem?_getD]
      cases hg : (zs.take len)[i]? with
      | none => simp
      | some n =>
        have hn : n ∈ zs := List.mem_of_mem_take (List.mem_of_getElem? hg)
        simpa using hw n hn
    · by_cases h0 : len = 0
      · left
        subst h0
        simp
      · right
        obtain ⟨b, off, spot⟩ := x
        have hc0 := hcell 0 (by omega)
        have hspot : spot = none := by simpa [Addr.add] using World.cell?_spot hc0
        subst hspot
        refine ⟨b, off, rfl, fun i hi => ?_⟩
        rw [hlen] at hi
        have := hcell i (by omega)
        rw [Addr.add_lit] at this
        rw [this]
        congr 2
        simp [List.getD_eq_getElem?_getD, hi]

/-- The reach of it. -/
theorem reach_bytes {H : Type} {ts : List TypeId} {ds : List (DataW H)} (hsz : (DataW.weightsEach Tryd.prog ts ds).all (· ≤ reachBytes) = true) {j : Nat} {d : DataW H} {xs : List Int}
    (ht : ts[j]? = some 22) (hd : ds[j]? = some d) (h : d = .nil ∧ xs = [] ∨ ∃ sp, d = .slice (lits .u8 xs) sp) : xs.length ≤ 140737488351232 := by
  rcases h with ⟨_, rfl⟩ | ⟨sp, rfl⟩
  · simp
  · have := sized_slice hsz (j := j) (t := 22) (e := 5) ht hd Tryd.underlying22
    rw [bytes5] at this
    simp only [lits, List.length_map, reachBytes] at this
    omega
end Go.Proofs.YtioggmjocelolacDoor
namespace Go.Proofs.YtioggmjocelolacDoor
open Go.ChangeShapes Go.WideShapes Go.ChangeAt Go.RowKit
set_option linter.unusedVariables false

theorem cells3 : Tryd.prog.cellsOf 3 = 1 := by kernel_rfl
theorem cells22 : Tryd.prog.cellsOf 22 = 1 := by kernel_rfl
theorem array5 {α : Type} {cs : Array α} (h : cs.size = 5) : ∃ c0 c1 c2 c3 c4, cs = #[c0, c1, c2, c3, c4] := by
  obtain ⟨l⟩ := cs
  match l, h with
  | [c0, c1, c2, c3, c4], _ => exact ⟨c0, c1, c2, c3, c4, rfl⟩
set_option maxRecDepth 100000 in
/-- An int's cell. -/
theorem cell_int {H : Type} {enc : TypeId × Value → H} {W : World} {n : Nat} {c : Value} {y : DataW H × List MemPlace} (h : DataW.trod enc Tryd.prog W 0 (fun _ => true) true n 3 [c] = some y) : ∃ z, c = .int .i64 z := by
  obtain ⟨z, hz, _⟩ := DataW.trod_int Tryd.underlying3 h
  exact ⟨z, by simpa using hz⟩
theorem cell_bytes {H : Type} {enc : TypeId × Value → H} {W : World} {n : Nat} {c : Value} {y : DataW H × List MemPlace} (h : DataW.trod enc Tryd.prog W 0 (fun _ => true) true n 22 [c] = some y) : ∃ a l cap xs, c = .slice a l cap ∧ View W (.slice a l cap) xs := by
  have hc : ∃ a l cap, c = .slice a l cap := by
    rcases open_ints Tryd.underlying22 Tryd.underlying5 cells5 h with ⟨hcs, _⟩ | ⟨a, l, cap, zs, hcs, _⟩
    · exact ⟨none, 0, 0, by simpa using hcs⟩
    · exact ⟨some a, l, cap, by simpa using hcs⟩
  obtain ⟨a, l, cap, rfl⟩ := hc
  obtain ⟨xs, _, _, hv, _⟩ := open_bytes (enc := enc) (W := W) (a := a) (len := l) (cap := cap) (d := y.1) (p := y.2) ⟨n, by simpa [Value.cells] using h⟩
  exact ⟨a, l, cap, xs, rfl, hv⟩
/-- The tables, as the row lays them. -/
theorem tables_of {W : World} (h : laidMet Tryd.prog [("coffer/digest.roots", Lib.tabData .u64 rootsL), ("coffer/digest.cubes", Lib.tabData .u64 cubesL)] W) : Tables W := by
  have hr : Lib.TabIs Tryd.prog W "coffer/digest.roots" .u64 rootsL := Lib.tabIs_of_head (g := 2) (t := 113) (e := 64) (n := 16) (by kernel_rfl) (by kernel_rfl) (by kernel_rfl) (by kernel_rfl) (by kernel_rfl) (by kernel_rfl) h
  have hc : Lib.TabIs Tryd.prog W "coffer/digest.cubes" .u64 cubesL := by
    obtain ⟨ps, ⟨g1, t1, cs1, fuel1, p1, q1, _, _, _, _, hrest, _⟩, _⟩ := h
    obtain ⟨g', t', cs, fuel, p, q, hg', ht', hvar, hd, _, _⟩ := hrest
    have hg : Tryd.prog.globalNamed "coffer/digest.cubes" = some 3 := by kernel_rfl
    obtain rfl := Option.some.inj (hg.symm.trans hg')
    have hty : (Tryd.prog.globals[3]?).map (·.type) = some 116 := by kernel_rfl
    obtain rfl := Option.some.inj (hty.symm.trans ht')
    unfold Lib.TabIs
    rw [hvar, ← Lib.cells_of_tab (n := 80) (e := 64) (by kernel_rfl) (by kernel_rfl) (by kernel_rfl) (by kernel_rfl) hd]
  exact ⟨fun t ht => hc.cell (by kernel_rfl) t (by simpa [cubesL] using ht), fun t ht => hr.cell (by kernel_rfl) t (by simpa [rootsL] using ht)⟩
end Go.Proofs.YtioggmjocelolacDoor
namespace Go.Proofs.YtioggmjocelolacDoor
open Go.Deep Go.ChangeShapes Go.WideShapes Go.ChangeAt Go.RowKit
set_option linter.unusedVariables false
theorem und56 : Tryd.prog.underlying 40 = some (.slice 22) := by kernel_rfl
theorem bulk_pos {H : Type} : (d : DataW H) → 1 ≤ Rows.uptoBulk d
  | .lit l => by cases l <;> simp [Rows.uptoBulk]
  | .nil | .ptr _ | .slice _ _ | .agg _ | .iface _ _ | .map _ | .held _ => by simp [Rows.uptoBulk]
theorem bulk_lits {H : Type} (ys : List Int) : Rows.uptoBulkAll (H := H) (lits .u8 ys) = ys.length := by
  induction ys with
  | nil => rfl
  | cons y ys ih =>
    have : lits (H := H) .u8 (y :: ys) = .lit (.int .u8 y) :: lits .u8 ys := rfl
    rw [this]
    simp only [Rows.uptoBulkAll, Rows.uptoBulk, ih, List.length_cons]
    omega
theorem bulk_flat {H : Type} (Y : Nat → List Int) (D : Nat → DataW H) (l : List Nat) (h : ∀ i, i ∈ l → (Y i).length ≤ Rows.uptoBulk (D i)) : l.length ≤ Rows.uptoBulkAll (l.map D) ∧ (l.map Y).flatten.length ≤ Rows.uptoBulkAll (l.map D) := by
  induction l with
  | nil => exact ⟨Nat.le_refl _, Nat.le_refl _⟩
  | cons x l ih =>
    obtain ⟨h1, h2⟩ := ih fun i hi => h i (List.mem_cons_of_mem _ hi)
    have h3 := h x (List.mem_cons_self ..)
    have h4 := bulk_pos (D x)
    simp only [List.map_cons, Rows.uptoBulkAll, List.flatten_cons, List.length_append, List.length_cons]
    omega
theorem one_bytes {H : Type} {enc : TypeId × Value → H} {W : World} {n : Nat} {c : Value} {d : DataW H} {p : List MemPlace} (h : DataW.trod enc Tryd.prog W 0 (fun _ => true) true n 22 [c] = some (d, p)) : ∃ xs, View W c xs ∧ xs.length ≤ Rows.uptoBulk d := by
  have hc : ∃ a l cap, c = .slice a l cap := by
    rcases open_ints Tryd.underlying22 Tryd.underlying5 cells5 h with ⟨hcs, _⟩ | ⟨a, l, cap, zs, hcs, _⟩
    · exact ⟨none, 0, 0, by simpa using hcs⟩
    · exact ⟨some a, l, cap, by simpa using hcs⟩
  obtain ⟨a, l, cap, rfl⟩ := hc
  obtain ⟨xs, hl, hb, hv, hd⟩ := open_bytes (enc := enc) (W := W) (a := a) (len := l) (cap := cap) (d := d) (p := p) ⟨n, by simpa [Value.cells] using h⟩
  refine ⟨xs, hv, ?_⟩
  rcases hd with ⟨_, rfl⟩ | ⟨sp, rfl⟩
  · simp
  · simp only [Rows.uptoBulk, bulk_lits]
    omega
/-- What came in as a list of lists of bytes. -/
theorem open_parts {H : Type} {enc : TypeId × Value → H} {W : World} {a : Option Addr} {n c : Nat} {d : DataW H} {p : List MemPlace}
    (h : DataW.Trod enc Tryd.prog W 0 (fun _ => true) true 40 (.slice a n c) d p) :
    ∃ xs yss, xs.length = n ∧ PV W (.slice a n c) xs yss ∧ n ≤ Rows.uptoBulk d ∧ yss.flatten.length ≤ Rows.uptoBulk d := by
  obtain ⟨fuel, hf⟩ := h
  rcases open_slice1 und56 cells22 hf with ⟨hcs, hx⟩ | ⟨a', len, cap, m, k, V, D, Pl, hcs, hb, hl, hm, hmm, hx, hc⟩
  · simp [Value.cells] at hcs
    obtain ⟨rfl, rfl, rfl⟩ := hcs
    exact ⟨[], [], rfl, ⟨none, 0, rfl, Nat.le_refl _, by simp, rfl, fun i x hx => by simp at hx, .inl rfl⟩, by omega, by simp⟩
  · simp [Value.cells] at hcs
    obtain ⟨rfl, rfl, rfl⟩ := hcs
    simp only [if_true] at hmm
    have hmm' := hmm.symm
    subst hmm'
    simp only [Prod.mk.injEq] at hx
    obtain ⟨rfl, _⟩ := hx
    obtain ⟨Y, hY⟩ := choose_lt (n := c) (α := List Int) (p := fun i ys => View W (V i) ys ∧ ys.length ≤ Rows.uptoBulk (D i)) fun i hi => one_bytes (hc i hi).2
    have hbf := bulk_flat Y D (List.range n) fun i hi => (hY i (by have := List.mem_range.1 hi; omega)).2
    rw [List.length_range] at hbf
    refine ⟨(List.range n).map V, (List.range n).map Y, by simp, ⟨some a', c, by simp, by simpa using hl, hm, by simp, fun i x hx => ?_, ?_⟩, ?_, ?_⟩
    · simp only [List.getElem?_map, Option.map_eq_some_iff] at hx
      obtain ⟨j, hj, rfl⟩ := hx
      obtain ⟨hj1, rfl⟩ := List.getElem?_eq_some_iff.1 hj
      simp only [List.length_range] at hj1
      have := (hY i (by omega)).1
      simpa [List.getD_eq_getElem?_getD, hj1] using this
    · by_cases h0 : n = 0
      · left
        subst h0
        rfl
      · right
        obtain ⟨b, off, spot⟩ := a'
        have hc0 := (hc 0 (by omega)).1
        have hspot : spot = none := by simpa [Addr.add] using World.cell?_spot hc0
        subst hspot
        refine ⟨b, off, rfl, fun i x hx => ?_⟩
        simp only [List.getElem?_map, Option.map_eq_some_iff] at hx
        obtain ⟨j, hj, rfl⟩ := hx
        obtain ⟨hj1, rfl⟩ := List.getElem?_eq_some_iff.1 hj
        simp only [List.length_range] at hj1
        have := (hc i (by omega)).1
        rw [Addr.add_lit] at this
        simpa using this
    · simp only [Rows.uptoBulk]; omega
    · simp only [Rows.uptoBulk]; omega
end Go.Proofs.YtioggmjocelolacDoor
namespace Go.Proofs.YtioggmjocelolacDoor
open Go.ChangeShapes Go.WideShapes Go.ChangeAt Go.RowKit
set_option linter.unusedVariables false
/-- A block that holds a table. -/
def refilled2 (zs : List Int) : Obj → Obj
  | .cells _ t frozen => .cells (zs.map (Value.int .u64)).toArray t frozen
  | o => o
/-- The four tables, as the row lays them. -/
theorem tables_of4 {W : World} (h : laidMet Tryd.prog [("coffer/cofferref01.cubes", Lib.tabData .u64 cubesL), ("coffer/cofferref01.squares", Lib.tabData .u64 rootsL), ("coffer/digest.roots", Lib.tabData .u64 rootsL), ("coffer/digest.cubes", Lib.tabData .u64 cubesL)] W) : Tables W ∧ RTab W := by
  have h1 : Lib.TabIs Tryd.prog W "coffer/cofferref01.cubes" .u64 cubesL := Lib.tabIs_of_head (g := 1) (t := 116) (e := 64) (n := 80) (by kernel_rfl) (by kernel_rfl) (by kernel_rfl) (by kernel_rfl) (by kernel_rfl) (by kernel_rfl) h
  obtain ⟨ps, ⟨g1, t1, cs1, fuel1, p1, q1, _, _, _, _, hr2, _⟩, _⟩ := h
  obtain ⟨g2, t2, cs2, fuel2, p2, q2, hg2, ht2, hvar2, hd2, hr3, _⟩ := hr2
  obtain ⟨g3, t3, cs3, fuel3, p3, q3, hg3, ht3, hvar3, hd3, hr4, _⟩ := hr3
  obtain ⟨g4, t4, cs4, fuel4, p4, q4, hg4, ht4, hvar4, hd4, _, _⟩ := hr4
  have h2 : Lib.TabIs Tryd.prog W "coffer/cofferref01.squares" .u64 rootsL := by
    have hg : Tryd.prog.globalNamed "coffer/cofferref01.squares" = some 0 := by kernel_rfl
    obtain rfl := Option.some.inj (hg.symm.trans hg2)
    have hty : (Tryd.prog.globals[0]?).map (·.type) = some 113 := by kernel_rfl
    obtain rfl := Option.some.inj (hty.symm.trans ht2)
    unfold Lib.TabIs
    rw [hvar2, ← Lib.cells_of_tab (n := 16) (e := 64) (by kernel_rfl) (by kernel_rfl) (by kernel_rfl) (by kernel_rfl) hd2]
  have h3 : Lib.TabIs Tryd.prog W "coffer/digest.roots" .u64 rootsL := by
    have hg : Tryd.prog.globalNamed "coffer/digest.roots" = some 2 := by kernel_rfl
    obtain rfl := Option.some.inj (hg.symm.trans hg3)
    have hty : (Tryd.prog.globals[2]?).map (·.type) = some 113 := by kernel_rfl
    obtain rfl := Option.some.inj (hty.symm.trans ht3)
    unfold Lib.TabIs
    rw [hvar3, ← Lib.cells_of_tab (n := 16) (e := 64) (by kernel_rfl) (by kernel_rfl) (by kernel_rfl) (by kernel_rfl) hd3]
  have h4 : Lib.TabIs Tryd.prog W "coffer/digest.cubes" .u64 cubesL := by
    have hg : Tryd.prog.globalNamed "coffer/digest.cubes" = some 3 := by kernel_rfl
    obtain rfl := Option.some.inj (hg.symm.trans hg4)
    have hty : (Tryd.prog.globals[3]?).map (·.type) = some 116 := by kernel_rfl
    obtain rfl := Option.some.inj (hty.symm.trans ht4)
    unfold Lib.TabIs
    rw [hvar4, ← Lib.cells_of_tab (n := 80) (e := 64) (by kernel_rfl) (by kernel_rfl) (by kernel_rfl) (by kernel_rfl) hd4]
  exact ⟨⟨fun t ht => h4.cell (by kernel_rfl) t (by simpa [cubesL] using ht), fun t ht => h3.cell (by kernel_rfl) t (by simpa [rootsL] using ht)⟩, ⟨fun t ht => h1.cell (by kernel_rfl) t (by simpa [cubesL] using ht), fun t ht => h2.cell (by kernel_rfl) t (by simpa [rootsL] using ht)⟩⟩

end Go.Proofs.YtioggmjocelolacDoor
