import Derived.Test.YtcnikfikpnnblaaGreatDoorPart26
import Derived.WalkSmall
namespace Go.Proofs.YtcnikfikpnnblaaGreatDoor
open Go.RowKit
set_option linter.unusedVariables false
set_option linter.unusedSimpArgs false
/-- A method value. -/
def bV (n : Nat) (cs : List Value) : Value := .func (.func n) #[.agg cs.toArray] #[]
theorem beginNull_ok (p : Value) (w : World) : Calls Tryz.prog 87 #[p] w fun e w' => e = .returned (fV 133) ∧ w' = w := by
 go_enter Tryz.func87, Tryz.ntmps87
 go_wp2
 go_ret
 exact ⟨rfl, rfl⟩
theorem beginPlain_ok (p : Value) (w : World) : Calls Tryz.prog 89 #[p] w fun e w' => e = .returned (fV 136) ∧ w' = w := by
 go_enter Tryz.func89, Tryz.ntmps89
 go_wp2
 go_ret
 exact ⟨rfl, rfl⟩
theorem beginPlain64_ok (p : Value) (w : World) : Calls Tryz.prog 90 #[p] w fun e w' => e = .returned (fV 137) ∧ w' = w := by
 go_enter Tryz.func90, Tryz.ntmps90
 go_wp2
 go_ret
 exact ⟨rfl, rfl⟩
theorem beginPlain64BE_ok (p : Value) (w : World) : Calls Tryz.prog 91 #[p] w fun e w' => e = .returned (fV 138) ∧ w' = w := by
 go_enter Tryz.func91, Tryz.ntmps91
 go_wp2
 go_ret
 exact ⟨rfl, rfl⟩
theorem beginBenbi_ok (p : Value) (w : World) : Calls Tryz.prog 92 #[p] w fun e w' => e = .returned (fV 140) ∧ w' = w := by
 go_enter Tryz.func92, Tryz.ntmps92
 go_wp2
 go_ret
 exact ⟨rfl, rfl⟩
theorem beginEBOIV_ok (sh : Nat) (w : World) : Calls Tryz.prog 94 #[.pointer (some ⟨sh, 0, none⟩)] w fun e w' => e = .returned (.func (.func 147) #[] #[.pointer (some ⟨w.heap.size, 0, none⟩)]) ∧ Bx w' w.heap.size 90 [.pointer (some ⟨sh, 0, none⟩)] ∧ Below w.heap.size w w' := by
 go_enter Tryz.func94, Tryz.ntmps94
 go_wp2
 go_ret
 exact ⟨rfl, Bx.new w 90 _, (Below.refl _ _).alloc (Nat.le_refl _) _⟩
theorem beginTCW_ok (sh : Nat) (w : World) : Calls Tryz.prog 96 #[.pointer (some ⟨sh, 0, none⟩)] w fun e w' => e = .returned (.func (.func 153) #[] #[.pointer (some ⟨w.heap.size, 0, none⟩)]) ∧ Bx w' w.heap.size 90 [.pointer (some ⟨sh, 0, none⟩)] ∧ Below w.heap.size w w' := by
 go_enter Tryz.func96, Tryz.ntmps96
 go_wp2
 go_ret
 exact ⟨rfl, Bx.new w 90 _, (Below.refl _ _).alloc (Nat.le_refl _) _⟩
theorem buildNull_ok (p f : Value) (w : World) : Calls Tryz.prog 65 #[p, f] w fun e w' => e = .returned (.tuple #[fV 85, fV 85]) ∧ w' = w := by
 go_enter Tryz.func65, Tryz.ntmps65
 go_wp2
 go_ret2
 exact ⟨rfl, rfl⟩
set_option maxHeartbeats 800000 in
set_option maxRecDepth 100000 in
theorem buildECB_ok (sh : Nat) (f : Value) (w : World) : Calls Tryz.prog 86 #[.pointer (some ⟨sh, 0, none⟩), f] w fun e w' => Hid (e = .returned (.tuple #[bV 131 [.pointer (some ⟨sh, 0, none⟩)], bV 132 [.pointer (some ⟨sh, 0, none⟩)]]) ∧ Below w.heap.size w w') := by
 go_enter Tryz.func86, Tryz.ntmps86
 go_upto_region 2 with fail
 obtain ⟨w1, hw1⟩ : ∃ w1, w1 = w.alloc (.cells #[.pointer (some ⟨sh, 0, none⟩)] 196) := ⟨_, rfl⟩
 have HW : Hid (Bx w1 w.heap.size 196 [.pointer (some ⟨sh, 0, none⟩)] ∧ Below w.heap.size w w1) := by rw [hw1]; exact ⟨Bx.new w 196 _, (Below.refl _ _).alloc (Nat.le_refl _) _⟩
 rw [← hw1]
 clear hw1
 have d0 : w1.cell? ⟨w.heap.size, 0, none⟩ = some (.pointer (some ⟨sh, 0, none⟩)) := HW.out.1.cell 0 _ rfl
 go_region
 all_goals go_wp2
 all_goals go_ret2
 all_goals exact ⟨rfl, HW.out.2.drew⟩
set_option maxHeartbeats 800000 in
set_option maxRecDepth 100000 in
theorem buildCBC_ok (sh : Nat) (fn : Nat) (xs ys : Array Value) (w : World) : Calls Tryz.prog 88 #[.pointer (some ⟨sh, 0, none⟩), .func (.func fn) xs ys] w fun e w' => Hid (e = .returned (.tuple #[bV 134 [.pointer (some ⟨sh, 0, none⟩), .func (.func fn) xs ys], bV 135 [.pointer (some ⟨sh, 0, none⟩), .func (.func fn) xs ys]]) ∧ Below w.heap.size w w') := by
 go_enter Tryz.func88, Tryz.ntmps88
 go_upto_region 2 with fail
 obtain ⟨w1, hw1⟩ : ∃ w1, w1 = w.alloc (.cells #[.pointer (some ⟨sh, 0, none⟩), .func (.func fn) xs ys] 198) := ⟨_, rfl⟩
 have HW : Hid (Bx w1 w.heap.size 198 [.pointer (some ⟨sh, 0, none⟩), .func (.func fn) xs ys] ∧ Below w.heap.size w w1) := by rw [hw1]; exact ⟨Bx.new w 198 _, (Below.refl _ _).alloc (Nat.le_refl _) _⟩
 rw [← hw1]
 clear hw1
 have d0 : w1.cell? ⟨w.heap.size, 0, none⟩ = some (.pointer (some ⟨sh, 0, none⟩)) := HW.out.1.cell 0 _ rfl
 have d1 : w1.cell? ⟨w.heap.size, 1, none⟩ = some (.func (.func fn) xs ys) := HW.out.1.cell 1 _ rfl
 go_region
 all_goals go_wp2
 all_goals go_ret2
 all_goals exact ⟨rfl, HW.out.2.drew⟩
set_option maxHeartbeats 800000 in
set_option maxRecDepth 100000 in
theorem buildTCW_ok (sh : Nat) (fn : Nat) (xs ys : Array Value) (w : World) : Calls Tryz.prog 97 #[.pointer (some ⟨sh, 0, none⟩), .func (.func fn) xs ys] w fun e w' => Hid (e = .returned (.tuple #[bV 156 [.pointer (some ⟨sh, 0, none⟩), .func (.func fn) xs ys], bV 157 [.pointer (some ⟨sh, 0, none⟩), .func (.func fn) xs ys]]) ∧ Below w.heap.size w w') := by
 go_enter Tryz.func97, Tryz.ntmps97
 go_upto_region 2 with fail
 obtain ⟨w1, hw1⟩ : ∃ w1, w1 = w.alloc (.cells #[.pointer (some ⟨sh, 0, none⟩), .func (.func fn) xs ys] 208) := ⟨_, rfl⟩
 have HW : Hid (Bx w1 w.heap.size 208 [.pointer (some ⟨sh, 0, none⟩), .func (.func fn) xs ys] ∧ Below w.heap.size w w1) := by rw [hw1]; exact ⟨Bx.new w 208 _, (Below.refl _ _).alloc (Nat.le_refl _) _⟩
 rw [← hw1]
 clear hw1
 have d0 : w1.cell? ⟨w.heap.size, 0, none⟩ = some (.pointer (some ⟨sh, 0, none⟩)) := HW.out.1.cell 0 _ rfl
 have d1 : w1.cell? ⟨w.heap.size, 1, none⟩ = some (.func (.func fn) xs ys) := HW.out.1.cell 1 _ rfl
 go_region
 all_goals go_wp2
 all_goals go_ret2
 all_goals exact ⟨rfl, HW.out.2.drew⟩
set_option maxHeartbeats 800000 in
set_option maxRecDepth 100000 in
theorem buildLRW_ok (sh : Nat) (fn : Nat) (xs ys : Array Value) (w : World) : Calls Tryz.prog 99 #[.pointer (some ⟨sh, 0, none⟩), .func (.func fn) xs ys] w fun e w' => Hid (e = .returned (.tuple #[bV 160 [.pointer (some ⟨sh, 0, none⟩), .func (.func fn) xs ys], bV 161 [.pointer (some ⟨sh, 0, none⟩), .func (.func fn) xs ys]]) ∧ Below w.heap.size w w') := by
 go_enter Tryz.func99, Tryz.ntmps99
 go_upto_region 2 with fail
 obtain ⟨w1, hw1⟩ : ∃ w1, w1 = w.alloc (.cells #[.pointer (some ⟨sh, 0, none⟩), .func (.func fn) xs ys] 211) := ⟨_, rfl⟩
 have HW : Hid (Bx w1 w.heap.size 211 [.pointer (some ⟨sh, 0, none⟩), .func (.func fn) xs ys] ∧ Below w.heap.size w w1) := by rw [hw1]; exact ⟨Bx.new w 211 _, (Below.refl _ _).alloc (Nat.le_refl _) _⟩
 rw [← hw1]
 clear hw1
 have d0 : w1.cell? ⟨w.heap.size, 0, none⟩ = some (.pointer (some ⟨sh, 0, none⟩)) := HW.out.1.cell 0 _ rfl
 have d1 : w1.cell? ⟨w.heap.size, 1, none⟩ = some (.func (.func fn) xs ys) := HW.out.1.cell 1 _ rfl
 go_region
 all_goals go_wp2
 all_goals go_ret2
 all_goals exact ⟨rfl, HW.out.2.drew⟩
set_option maxHeartbeats 800000 in
set_option maxRecDepth 100000 in
theorem buildHCTR2_ok (sh : Nat) (fn : Nat) (xs ys : Array Value) (w : World) : Calls Tryz.prog 100 #[.pointer (some ⟨sh, 0, none⟩), .func (.func fn) xs ys] w fun e w' => Hid (e = .returned (.tuple #[bV 162 [.pointer (some ⟨sh, 0, none⟩), .func (.func fn) xs ys], bV 163 [.pointer (some ⟨sh, 0, none⟩), .func (.func fn) xs ys]]) ∧ Below w.heap.size w w') := by
 go_enter Tryz.func100, Tryz.ntmps100
 go_upto_region 2 with fail
 obtain ⟨w1, hw1⟩ : ∃ w1, w1 = w.alloc (.cells #[.pointer (some ⟨sh, 0, none⟩), .func (.func fn) xs ys] 212) := ⟨_, rfl⟩
 have HW : Hid (Bx w1 w.heap.size 212 [.pointer (some ⟨sh, 0, none⟩), .func (.func fn) xs ys] ∧ Below w.heap.size w w1) := by rw [hw1]; exact ⟨Bx.new w 212 _, (Below.refl _ _).alloc (Nat.le_refl _) _⟩
 rw [← hw1]
 clear hw1
 have d0 : w1.cell? ⟨w.heap.size, 0, none⟩ = some (.pointer (some ⟨sh, 0, none⟩)) := HW.out.1.cell 0 _ rfl
 have d1 : w1.cell? ⟨w.heap.size, 1, none⟩ = some (.func (.func fn) xs ys) := HW.out.1.cell 1 _ rfl
 go_region
 all_goals go_wp2
 all_goals go_ret2
 all_goals exact ⟨rfl, HW.out.2.drew⟩
end Go.Proofs.YtcnikfikpnnblaaGreatDoor
namespace Go.Proofs.YtcnikfikpnnblaaGreatDoor
open Go.RowKit
set_option linter.unusedVariables false
set_option linter.unusedSimpArgs false
set_option maxHeartbeats 800000 in
set_option maxRecDepth 100000 in
theorem buildXTS_ok (B sh : Nat) (S : ByteArray) (st nk : Nat) (zs : List Int) (kv : Value) (mp : Option Addr) (ov : Value) (fn : Nat) (xs ys : Array Value) (w : World) (h : ShA B w sh S st (4 * nk) zs kv mp ov) (hB : B ≤ w.heap.size) (hfew : ∃ n os, n ≤ 1 ∧ w.ownsRow B 105 1 ov n os)
  (hnk : nk = 4 ∨ nk = 6 ∨ nk = 8) (hl : zs.length = 2 * (4 * nk)) (hb : AllBytes zs) (hrc : RC w) (hpos : 3 < w.heap.size) :
  Calls Tryz.prog 98 #[.pointer (some ⟨sh, 0, none⟩), .func (.func fn) xs ys] w fun e w' => Hid (∃ go ov', e = .returned (.tuple #[bV 158 [.pointer (some ⟨sh, 0, none⟩), .func (.func fn) xs ys, .pointer (some ⟨go, 0, none⟩)], bV 159 [.pointer (some ⟨sh, 0, none⟩), .func (.func fn) xs ys, .pointer (some ⟨go, 0, none⟩)]]) ∧ w.heap.size ≤ go ∧ KeyAt w' go (nk + 6) (schedK nk (nat8 (zs.drop (4 * nk)))) ∧ ShA B w' sh S st (4 * nk) zs kv mp ov' ∧ Fs B sh w w') := by
 have HR : Hid (Calls Tryz.prog 150 #[.pointer (some ⟨sh, 0, none⟩)] w fun e w' => Hid (∃ y d, e = .returned (.slice y (zs.length - 4 * nk) d) ∧ View w' (.slice y (zs.length - 4 * nk) d) (zs.drop (4 * nk)) ∧ Below w.heap.size w w')) := rest_ok B sh S st (4 * nk) zs kv mp ov w h (by omega)
 have hb' : AllBytes (zs.drop (4 * nk)) := fun i => by
  rw [List.getD_eq_getElem?_getD, List.getElem?_drop, ← List.getD_eq_getElem?_getD]; exact hb _
 have HK : Hid (∀ u v, Below w.heap.size w u → View u v (zs.drop (4 * nk)) → Calls Tryz.prog 144 #[.pointer (some ⟨sh, 0, none⟩), v] u fun e w' => Hid (∃ g ov', e = .returned (.pointer (some ⟨g, 0, none⟩)) ∧ u.heap.size ≤ g ∧ KeyAt w' g (nk + 6) (schedK nk (nat8 (zs.drop (4 * nk)))) ∧ (∃ R : Array Value, w'.heap[g]? = some (.cells R 160 (0, 0))) ∧ ShA B w' sh S st (4 * nk) zs kv mp ov' ∧ (∀ n os, u.ownsRow B 105 1 ov n os → ∃ os', w'.ownsRow B 105 1 ov' (n + 1) os') ∧ Fs B sh u w')) := fun u v hu hv => by
  obtain ⟨n0, os0, hn0, ho0⟩ := hfew
  exact schedule_ok B sh S st (4 * nk) zs kv mp ov v (zs.drop (4 * nk)) nk u (h.below hu) (Nat.le_trans hB hu.size) ⟨n0, os0, by omega, ownsRow_below ho0 hu⟩ hnk (by rw [List.length_drop]; omega) hv hb' (fun i hi => (hu.cell (p := ⟨3, i, none⟩) hpos).trans (hrc i hi)) (Nat.lt_of_lt_of_le hpos hu.size)
 have HB0 : Hid (B ≤ w.heap.size) := hB
 clear h hfew hl hb hrc hpos hB hb'
 go_enter Tryz.func98, Tryz.ntmps98
 go_upto_region 2 with (first
  | (go_at_call 150; refine HR.out.mono ?_; intro e1 w1 hh; obtain ⟨y, d, rfl, hv1, hb1⟩ := hh.out; have HV1 : Hid (View w1 (.slice y (zs.length - 4 * nk) d) (zs.drop (4 * nk)) ∧ Below w.heap.size w w1) := ⟨hv1, hb1⟩; clear hh hv1 hb1)
  | (go_at_call 144; refine (HK.out _ _ HV1.out.2 HV1.out.1).mono ?_; intro e2 w2 hh; obtain ⟨go, ov', rfl, hg2, hK2, hR2, hS2, hO2, hF2⟩ := hh.out; have HS2 : Hid (w1.heap.size ≤ go ∧ KeyAt w2 go (nk + 6) (schedK nk (nat8 (zs.drop (4 * nk)))) ∧ ShA B w2 sh S st (4 * nk) zs kv mp ov' ∧ Fs B sh w1 w2) := ⟨hg2, hK2, hS2, hF2⟩; clear hh hg2 hK2 hR2 hS2 hO2 hF2))
 obtain ⟨w3, hw3⟩ : ∃ w3, w3 = w2.alloc (.cells #[.pointer (some ⟨sh, 0, none⟩), .func (.func fn) xs ys, .pointer (some ⟨go, 0, none⟩)] 210) := ⟨_, rfl⟩
 have HW : Hid (Bx w3 w2.heap.size 210 [.pointer (some ⟨sh, 0, none⟩), .func (.func fn) xs ys, .pointer (some ⟨go, 0, none⟩)] ∧ Below w2.heap.size w2 w3) := by rw [hw3]; exact ⟨Bx.new w2 210 _, (Below.refl _ _).alloc (Nat.le_refl _) _⟩
 rw [← hw3]
 clear hw3
 have d0 : w3.cell? ⟨w2.heap.size, 0, none⟩ = some (.pointer (some ⟨sh, 0, none⟩)) := HW.out.1.cell 0 _ rfl
 have d1 : w3.cell? ⟨w2.heap.size, 1, none⟩ = some (.func (.func fn) xs ys) := HW.out.1.cell 1 _ rfl
 have d2 : w3.cell? ⟨w2.heap.size, 2, none⟩ = some (.pointer (some ⟨go, 0, none⟩)) := HW.out.1.cell 2 _ rfl
 go_region
 all_goals go_wp2
 all_goals go_ret2
 all_goals (
  have hb := HW.out.2.drew
  exact ⟨go, ov', rfl, Nat.le_trans HV1.out.2.size HS2.out.1, HS2.out.2.1.sameK (hb.block go HS2.out.2.1.ciph.here) hb.size, HS2.out.2.2.1.below hb, (Fs.of_below HV1.out.2 HB0.out).trans (HS2.out.2.2.2.trans (Fs.of_below hb (Nat.le_trans (Nat.le_trans HB0.out HV1.out.2.size) HS2.out.2.2.2.bel.size)))⟩)
set_option maxHeartbeats 800000 in
set_option maxRecDepth 100000 in
theorem buildElephant_ok (B sh : Nat) (S : ByteArray) (st nk : Nat) (zs : List Int) (kv : Value) (mp : Option Addr) (ov : Value) (fn : Nat) (xs ys : Array Value) (w : World) (h : ShA B w sh S st (4 * nk) zs kv mp ov) (hB : B ≤ w.heap.size) (hfew : ∃ n os, n ≤ 1 ∧ w.ownsRow B 105 1 ov n os)
  (hnk : nk = 4 ∨ nk = 6 ∨ nk = 8) (hl : zs.length = 2 * (4 * nk)) (hb : AllBytes zs) (hrc : RC w) (hpos : 3 < w.heap.size) :
  Calls Tryz.prog 95 #[.pointer (some ⟨sh, 0, none⟩), .func (.func fn) xs ys] w fun e w' => Hid (∃ go ov', e = .returned (.tuple #[bV 151 [.pointer (some ⟨sh, 0, none⟩), .func (.func fn) xs ys, .pointer (some ⟨go, 0, none⟩)], bV 152 [.pointer (some ⟨sh, 0, none⟩), .func (.func fn) xs ys, .pointer (some ⟨go, 0, none⟩)]]) ∧ w.heap.size ≤ go ∧ KeyAt w' go (nk + 6) (schedK nk (nat8 (zs.drop (4 * nk)))) ∧ ShA B w' sh S st (4 * nk) zs kv mp ov' ∧ Fs B sh w w') := by
 have HR : Hid (Calls Tryz.prog 150 #[.pointer (some ⟨sh, 0, none⟩)] w fun e w' => Hid (∃ y d, e = .returned (.slice y (zs.length - 4 * nk) d) ∧ View w' (.slice y (zs.length - 4 * nk) d) (zs.drop (4 * nk)) ∧ Below w.heap.size w w')) := rest_ok B sh S st (4 * nk) zs kv mp ov w h (by omega)
 have hb' : AllBytes (zs.drop (4 * nk)) := fun i => by
  rw [List.getD_eq_getElem?_getD, List.getElem?_drop, ← List.getD_eq_getElem?_getD]; exact hb _
 have HK : Hid (∀ u v, Below w.heap.size w u → View u v (zs.drop (4 * nk)) → Calls Tryz.prog 144 #[.pointer (some ⟨sh, 0, none⟩), v] u fun e w' => Hid (∃ g ov', e = .returned (.pointer (some ⟨g, 0, none⟩)) ∧ u.heap.size ≤ g ∧ KeyAt w' g (nk + 6) (schedK nk (nat8 (zs.drop (4 * nk)))) ∧ (∃ R : Array Value, w'.heap[g]? = some (.cells R 160 (0, 0))) ∧ ShA B w' sh S st (4 * nk) zs kv mp ov' ∧ (∀ n os, u.ownsRow B 105 1 ov n os → ∃ os', w'.ownsRow B 105 1 ov' (n + 1) os') ∧ Fs B sh u w')) := fun u v hu hv => by
  obtain ⟨n0, os0, hn0, ho0⟩ := hfew
  exact schedule_ok B sh S st (4 * nk) zs kv mp ov v (zs.drop (4 * nk)) nk u (h.below hu) (Nat.le_trans hB hu.size) ⟨n0, os0, by omega, ownsRow_below ho0 hu⟩ hnk (by rw [List.length_drop]; omega) hv hb' (fun i hi => (hu.cell (p := ⟨3, i, none⟩) hpos).trans (hrc i hi)) (Nat.lt_of_lt_of_le hpos hu.size)
 have HB0 : Hid (B ≤ w.heap.size) := hB
 clear h hfew hl hb hrc hpos hB hb'
 go_enter Tryz.func95, Tryz.ntmps95
 go_upto_region 2 with (first
  | (go_at_call 150; refine HR.out.mono ?_; intro e1 w1 hh; obtain ⟨y, d, rfl, hv1, hb1⟩ := hh.out; have HV1 : Hid (View w1 (.slice y (zs.length - 4 * nk) d) (zs.drop (4 * nk)) ∧ Below w.heap.size w w1) := ⟨hv1, hb1⟩; clear hh hv1 hb1)
  | (go_at_call 144; refine (HK.out _ _ HV1.out.2 HV1.out.1).mono ?_; intro e2 w2 hh; obtain ⟨go, ov', rfl, hg2, hK2, hR2, hS2, hO2, hF2⟩ := hh.out; have HS2 : Hid (w1.heap.size ≤ go ∧ KeyAt w2 go (nk + 6) (schedK nk (nat8 (zs.drop (4 * nk)))) ∧ ShA B w2 sh S st (4 * nk) zs kv mp ov' ∧ Fs B sh w1 w2) := ⟨hg2, hK2, hS2, hF2⟩; clear hh hg2 hK2 hR2 hS2 hO2 hF2))
 obtain ⟨w3, hw3⟩ : ∃ w3, w3 = w2.alloc (.cells #[.pointer (some ⟨sh, 0, none⟩), .func (.func fn) xs ys, .pointer (some ⟨go, 0, none⟩)] 205) := ⟨_, rfl⟩
 have HW : Hid (Bx w3 w2.heap.size 205 [.pointer (some ⟨sh, 0, none⟩), .func (.func fn) xs ys, .pointer (some ⟨go, 0, none⟩)] ∧ Below w2.heap.size w2 w3) := by rw [hw3]; exact ⟨Bx.new w2 205 _, (Below.refl _ _).alloc (Nat.le_refl _) _⟩
 rw [← hw3]
 clear hw3
 have d0 : w3.cell? ⟨w2.heap.size, 0, none⟩ = some (.pointer (some ⟨sh, 0, none⟩)) := HW.out.1.cell 0 _ rfl
 have d1 : w3.cell? ⟨w2.heap.size, 1, none⟩ = some (.func (.func fn) xs ys) := HW.out.1.cell 1 _ rfl
 have d2 : w3.cell? ⟨w2.heap.size, 2, none⟩ = some (.pointer (some ⟨go, 0, none⟩)) := HW.out.1.cell 2 _ rfl
 go_region
 all_goals go_wp2
 all_goals go_ret2
 all_goals (
  have hb := HW.out.2.drew
  exact ⟨go, ov', rfl, Nat.le_trans HV1.out.2.size HS2.out.1, HS2.out.2.1.sameK (hb.block go HS2.out.2.1.ciph.here) hb.size, HS2.out.2.2.1.below hb, (Fs.of_below HV1.out.2 HB0.out).trans (HS2.out.2.2.2.trans (Fs.of_below hb (Nat.le_trans (Nat.le_trans HB0.out HV1.out.2.size) HS2.out.2.2.2.bel.size)))⟩)
end Go.Proofs.YtcnikfikpnnblaaGreatDoor
