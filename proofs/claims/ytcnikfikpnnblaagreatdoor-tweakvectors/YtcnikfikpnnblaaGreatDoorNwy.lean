import Derived.Test.YtcnikfikpnnblaaGreatDoorNwx
import Derived.Test.YtcnikfikpnnblaaGreatDoorPart31
namespace Go.Proofs.YtcnikfikpnnblaaGreatDoor
open Go.RowKit
set_option linter.unusedVariables false
set_option linter.unusedSimpArgs false
set_option maxHeartbeats 800000 in
set_option maxRecDepth 100000 in
theorem buildXTS2_ok (B sh : Nat) (S : ByteArray) (st nk : Nat) (zs : List Int) (kv : Value) (mp : Option Addr) (ov : Value) (fn : Nat) (xs ys : Array Value) (w : World) (h : ShA B w sh S st (4 * nk) zs kv mp ov) (hB : B ≤ w.heap.size) (hfew : ∃ n os, n ≤ 1 ∧ w.ownsRow B 105 1 ov n os)
    (hnk : nk = 4 ∨ nk = 6 ∨ nk = 8) (hl : zs.length = 2 * (4 * nk)) (hb : AllBytes zs) (hrc : RC w) (hpos : 3 < w.heap.size) :
    Calls Tryz.prog 98 #[.pointer (some ⟨sh, 0, none⟩), .func (.func fn) xs ys] w fun e w' => Hid (∃ go ov', e = .returned (.tuple #[bV 158 [.pointer (some ⟨sh, 0, none⟩), .func (.func fn) xs ys, .pointer (some ⟨go, 0, none⟩)], bV 159 [.pointer (some ⟨sh, 0, none⟩), .func (.func fn) xs ys, .pointer (some ⟨go, 0, none⟩)]]) ∧ w.heap.size ≤ go ∧ KeyAt w' go (nk + 6) (schedK nk (nat8 (zs.drop (4 * nk)))) ∧ (∃ R : Array Value, w'.heap[go]? = some (.cells R 160 (0, 0))) ∧ ShA B w' sh S st (4 * nk) zs kv mp ov' ∧ Fs B sh w w') := by
  have HR : Hid (Calls Tryz.prog 150 #[.pointer (some ⟨sh, 0, none⟩)] w fun e w' => Hid (∃ y d, e = .returned (.slice y (zs.length - 4 * nk) d) ∧ View w' (.slice y (zs.length - 4 * nk) d) (zs.drop (4 * nk)) ∧ Below w.heap.size w w')) := rest_ok B sh S st (4 * nk) zs kv mp ov w h (by omega)
  have hb' : AllBytes (zs.drop (4 * nk)) := fun i => by
    rw [List.getD_eq_getElem?_getD, List.getElem?_drop, ← List.getD_eq_getElem?_getD]; exact hb _
  have HK : Hid (∀ u v, Below w.heap.size w u → View u v (zs.drop (4 * nk)) → Calls Tryz.prog 144 #[.pointer (some ⟨sh, 0, none⟩), v] u fun e w' => Hid (∃ g ov', e = .returned (.pointer (some ⟨g, 0, none⟩)) ∧ u.heap.size ≤ g ∧ KeyAt w' g (nk + 6) (schedK nk (nat8 (zs.drop (4 * nk)))) ∧ (∃ R : Array Value, w'.heap[g]? = some (.cells R 160 (0, 0))) ∧ ShA B w' sh S st (4 * nk) zs kv mp ov' ∧ (∀ n os, u.ownsRow B 105 1 ov n os → ∃ os', w'.ownsRow B 105 1 ov' (n + 1) os') ∧ Fs B sh u w')) := fun u v hu hv => by
    obtain ⟨n0, os0, hn0, ho0⟩ := hfew
    exact schedule_ok B sh S st (4 * nk) zs kv mp ov v (zs.drop (4 * nk)) nk u (h.below hu) (Nat.le_trans hB hu.size) ⟨n0, os0, by omega, ownsRow_below ho0 hu⟩ hnk (by rw [List.length_drop]; omega) hv hb' (fun i hi => (hu.cell (p := ⟨3, i, none⟩) hpos).trans (hrc i hi)) (Nat.lt_of_lt_of_le hpos hu.size)
  have HB0 : Hid (B ≤ w.heap.size) := hB
  clear h hfew hl hb hrc hpos hB hb'
  go_enter Tryz.func98, Tryz.ntmps98
  go_upto_region 2 with (first
    | (go_at_call 150; refine HR.out.mono ?_; intro e1 w1 hh; obtain ⟨y, d, rfl, hv1, hb1⟩ := hh.out; have HV1 : Hid (View w1 (.slice y (zs.length - 4 * nk) d) (zs.drop (4 * nk)) ∧ Below w.heap.size w w1) := ⟨hv1, hb1⟩; clear hh hv1 hb1)
    | (go_at_call 144; refine (HK.out _ _ HV1.out.2 HV1.out.1).mono ?_; intro e2 w2 hh; obtain ⟨go, ov', rfl, hg2, hK2, hR2, hS2, hO2, hF2⟩ := hh.out; have HS2 : Hid (w1.heap.size ≤ go ∧ KeyAt w2 go (nk + 6) (schedK nk (nat8 (zs.drop (4 * nk)))) ∧ ShA B w2 sh S st (4 * nk) zs kv mp ov' ∧ Fs B sh w1 w2 ∧ ∃ R : Array Value, w2.heap[go]? = some (.cells R 160 (0, 0))) := ⟨hg2, hK2, hS2, hF2, hR2⟩; clear hh hg2 hK2 hR2 hS2 hO2 hF2))
  obtain ⟨w3, hw3⟩ : ∃ w3, w3 = w2.alloc (.cells #[.pointer (some ⟨sh, 0, none⟩), .func (.func fn) xs ys, .pointer (some ⟨go, 0, none⟩)] 210) := ⟨_, rfl⟩
  have HW : Hid (Bx w3 w2.heap.size 210 [.pointer (some ⟨sh, 0, none⟩), .func (.func fn) xs ys, .pointer (some ⟨go, 0, none⟩)] ∧ Below w2.heap.size w2 w3) := by rw [hw3]; exact ⟨Bx.new w2 210 _, (Below.refl _ _).alloc (Nat.le_refl _) _⟩
  rw [← hw3]
  clear hw3
  have d0 : w3.cell? ⟨w2.heap.size, 0, none⟩ = some (.pointer (some ⟨sh, 0, none⟩)) := HW.out.1.cell 0 _ rfl
  have d1 : w3.cell? ⟨w2.heap.size, 1, none⟩ = some (.func (.func fn) xs ys) := HW.out.1.cell 1 _ rfl
  have d2 : w3.cell? ⟨w2.heap.size, 2, none⟩ = some (.pointer (some ⟨go, 0, none⟩)) := HW.out.1.cell 2 _ rfl
  go_region
  all_goals go_wp2
  all_goals go_ret2
  all_goals (
    have hb := HW.out.2.drew
    exact ⟨go, ov', rfl, Nat.le_trans HV1.out.2.size HS2.out.1, HS2.out.2.1.sameK (hb.block go HS2.out.2.1.ciph.here) hb.size, (by obtain ⟨R, hR⟩ := HS2.out.2.2.2.2; exact ⟨R, (hb.block go HS2.out.2.1.ciph.here).trans hR⟩), HS2.out.2.2.1.below hb, (Fs.of_below HV1.out.2 HB0.out).trans (HS2.out.2.2.2.1.trans (Fs.of_below hb (Nat.le_trans (Nat.le_trans HB0.out HV1.out.2.size) HS2.out.2.2.2.1.bel.size)))⟩)
/-- What a cipher of xts seals and opens with, and its second key. -/
def xtV (B0 fn nk : Nat) (zs : List Int) (u : World) (sh : Nat) (fv sv pv : Value) : Prop :=
  ∃ go, B0 ≤ go ∧ fv = fV fn ∧ sv = bV 158 [.pointer (some ⟨sh, 0, none⟩), fV fn, .pointer (some ⟨go, 0, none⟩)] ∧ pv = bV 159 [.pointer (some ⟨sh, 0, none⟩), fV fn, .pointer (some ⟨go, 0, none⟩)] ∧ KeyAt u go (nk + 6) (schedK nk (nat8 (zs.drop (4 * nk)))) ∧ (∃ R : Array Value, u.heap[go]? = some (.cells R 160 (0, 0))) ∧ ∃ g, u.cell? ⟨sh, 4, none⟩ = some (.pointer (some ⟨g, 0, none⟩)) ∧ g ≠ go
theorem xtV_oc {B0 fn nk : Nat} {zs : List Int} {u u' : World} {sh : Nat} {fv sv pv : Value} (hs : ∃ cs fr, u.heap[sh]? = some (.cells cs 108 fr)) (h : Oc u u') (k : xtV B0 fn nk zs u sh fv sv pv) : xtV B0 fn nk zs u' sh fv sv pv := by
  obtain ⟨hz, c, cs, fr, hc, hk⟩ := h
  obtain ⟨go, h0, h1, h2, h3, h4, ⟨R, h5⟩, g, h6, h7⟩ := k
  obtain ⟨cs2, fr2, hs⟩ := hs
  have e := hk go (type_ne h5 hc (by decide))
  exact ⟨go, h0, h1, h2, h3, h4.sameK e hz, ⟨R, e.trans h5⟩, g, (World.cell?_of_block (a := ⟨sh, 4, none⟩) (hk sh (type_ne hs hc (by decide)))).trans h6, h7⟩
theorem newXTS11 (i : Nat) (hi : i < 3) (v : Value) (zs : List Int) (w : World) (hf : ∀ j, j < 1 + 17 * i + 11 → spN j ≠ sxN i 11) (hv : View w v zs) (hb : AllBytes zs) (hl : zs.length = 2 * (16 + 8 * i) + 0) (hP : Pow w) (hrc : RC w) :
    Calls Tryz.prog 21 #[.string (sxN i 11), v] w fun e w' => NewPW w (sxN i 11) 1 (16 + 8 * i) zs (fun u sh a b c => (∃ cs fr, u.heap[sh]? = some (.cells cs 108 fr)) ∧ xtV w.heap.size 137 (4 + 2 * i) zs u sh a b c) e w' := by
  have q8 : 16 + 8 * i = 4 * (4 + 2 * i) := by omega
  have hpos : 3 < w.heap.size := World.block_lt_of_cell? w ⟨3, 0, none⟩ (hrc 0 (by decide))
  refine new_coreW (sxN i 11) (nmB 11) (16 + 8 * i) 2 0 1 98 (fV 90) v zs w (fun _ fv => fv = fV 137) _ (fun _ _ _ _ h => h) (fun u u' sh a b c ho h => ?_) (.inr ⟨_, rfl⟩) hv (by omega) (by omega) (by omega) hl ?_ ?_ (fun args w => enter_ok Tryz.func98 (by rfl) (by rfl) args w) ?_ ?_ ?_ ?_
  · obtain ⟨⟨cs, fr, hs⟩, hx⟩ := h
    refine ⟨⟨cs, fr, ?_⟩, xtV_oc ⟨cs, fr, hs⟩ ho hx⟩
    obtain ⟨hz, c, cs2, fr2, hc, hk⟩ := ho
    exact (hk sh (type_ne hs hc (by decide))).trans hs
  · have q := find_at (sxN i 11) (1 + 17 * i + 11) w hP (by omega) (spN_lit i 11 (by omega)) hf
    rw [sxF_lit i 11 (by omega)] at q
    exact q
  · intro u hu
    have q := share_ok (sxN i 11) (nmB 11) (4 + 2 * i) 2 0 1 (fV 90) (fV 98) v zs u rfl rfl (hv.below hu) hb (by omega) (by omega) (by omega) (hrc.belowB hu hpos) (Nat.lt_of_lt_of_le hpos hu.size)
    rw [← q8] at q
    exact q.mono fun e u' h => h
  · intro bg hbg
    obtain rfl : bg = 90 := by injection hbg with e; injection e with e; exact e.symm
    exact fun args w => enter_ok Tryz.func90 (by rfl) (by rfl) args w
  · intro q; cases q
  · intro bg hbg B sh kv mp u hu hB1 hB2 hA
    obtain rfl : bg = 90 := by injection hbg with e; injection e with e; exact e.symm
    refine (beginPlain64_ok _ u).mono ?_
    rintro e u' ⟨rfl, hw⟩
    obtain rfl := hw.symm
    exact ⟨_, _, _, _, rfl, hA, ⟨0, [], by omega, World.ownsRow_nil _ _ _ _⟩, Fs.of_below (Below.refl _ _) hB2, rfl⟩
  · intro fv B sh kv mp ov u _ hΦ hu hB1 hB2 hA few
    subst hΦ
    have hA2 := hA
    rw [q8] at hA2
    refine (buildXTS2_ok B sh (sxN i 11) 1 (4 + 2 * i) zs kv mp ov 137 #[] #[] u hA2 hB2 few (by omega) (by omega) hb (hrc.belowB hu hpos) (Nat.lt_of_lt_of_le hpos hu.size)).mono ?_
    intro e u' hh
    obtain ⟨go, ov', rfl, hgo, hK, hR, hS, hF⟩ := hh.out
    rw [← q8] at hS
    refine ⟨_, _, _, _, _, _, ov', rfl, hS, hF, ⟨_, _, hS.box⟩, go, Nat.le_trans hu.size hgo, rfl, rfl, rfl, hK, hR, ?_⟩
    rcases hA.main with ⟨q, _⟩ | ⟨g, nk, hm, _, _, _, hg, _⟩
    · omega
    · refine ⟨g, ?_, by have := hg.ciph.here; omega⟩
      rw [← hm]
      exact hS.box.cell 4 _ rfl
/-- What a cipher of ecb seals and opens with. -/
def ecV (sh : Nat) (fv sv pv : Value) : Prop := fv = .nilFunc ∧ sv = bV 131 [.pointer (some ⟨sh, 0, none⟩)] ∧ pv = bV 132 [.pointer (some ⟨sh, 0, none⟩)]
theorem newECB0 (i : Nat) (hi : i < 3) (v : Value) (zs : List Int) (w : World) (hf : ∀ j, j < 1 + 17 * i + 0 → spN j ≠ sxN i 0) (hv : View w v zs) (hb : AllBytes zs) (hl : zs.length = 1 * (16 + 8 * i) + 0) (hP : Pow w) (hrc : RC w) :
    Calls Tryz.prog 21 #[.string (sxN i 0), v] w fun e w' => NewP w (sxN i 0) 16 (16 + 8 * i) zs ecV e w' := by
  have q8 : 16 + 8 * i = 4 * (4 + 2 * i) := by omega
  have hpos : 3 < w.heap.size := World.block_lt_of_cell? w ⟨3, 0, none⟩ (hrc 0 (by decide))
  refine new_core (sxN i 0) (nmB 0) (16 + 8 * i) 1 0 16 86 .nilFunc v zs w (fun fv => fv = .nilFunc) ecV (.inl rfl) hv (by omega) (by omega) (by omega) hl ?_ ?_ (fun args w => enter_ok Tryz.func86 (by rfl) (by rfl) args w) ?_ ?_ ?_ ?_
  · have q := find_at (sxN i 0) (1 + 17 * i + 0) w hP (by omega) (spN_lit i 0 (by omega)) hf
    rw [sxF_lit i 0 (by omega)] at q
    exact q
  · intro u hu
    have q := share_ok (sxN i 0) (nmB 0) (4 + 2 * i) 1 0 16 .nilFunc (fV 86) v zs u rfl rfl (hv.below hu) hb (by omega) (by omega) (by omega) (hrc.belowB hu hpos) (Nat.lt_of_lt_of_le hpos hu.size)
    rw [← q8] at q
    exact q.mono fun e u' h => h
  · intro bg hbg; cases hbg
  · intro _; rfl
  · intro bg hbg; cases hbg
  · intro fv B sh kv mp ov u _ hΦ hu hB1 hB2 hA few
    subst hΦ
    refine (buildECB_ok sh .nilFunc u).mono ?_
    intro e u' hh
    obtain ⟨rfl, hb⟩ := hh.out
    exact ⟨_, _, _, _, _, _, _, rfl, hA.below hb, Fs.of_below hb hB2, rfl, rfl, rfl⟩
end Go.Proofs.YtcnikfikpnnblaaGreatDoor
