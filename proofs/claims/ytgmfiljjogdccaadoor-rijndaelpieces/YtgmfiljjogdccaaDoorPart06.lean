import Derived.Test.YtgmfiljjogdccaaDoorPart05
import Derived.Test.YtgmfiljjogdccaaDoorPart02
import Derived.Test.YtgmfiljjogdccaaDoorPart01
import Derived.ProofKit
import Derived.OpenShut
import Derived.ChangeOld
import Derived.Deep.DeepHandedRow
import Derived.Lib.LaidTab
namespace Go.Proofs.YtgmfiljjogdccaaDoor
open Go.RowKit
set_option linter.unusedVariables false
theorem key16_cnt : ∀ i : Fin 16, i.1 * 1 % 256 = key16 i.1 := by decide +kernel
theorem key32_cnt : ∀ i : Fin 32, i.1 * 1 % 256 = key32 i.1 := by decide +kernel
theorem key16_lt (i : Nat) : key16 i < 256 := Nat.mod_lt _ (by decide)
theorem key32_lt (i : Nat) : key32 i < 256 := Nat.mod_lt _ (by decide)
def f17 (i : Nat) : Nat := i * 17 % 256
theorem f17_lt (i : Nat) : f17 i < 256 := Nat.mod_lt _ (by decide)
/-- The first example's bytes. -/
def rfcA : List Int := [31, 166, 139, 10, 129, 18, 180, 71, 174, 243, 75, 216, 251, 90, 123, 130, 157, 62, 134, 35, 113, 210, 207, 229]
theorem rfcA_ok : ∀ i : Fin 24, ((wrB (2280663138541155399, fun j => ([12606503177242180482, 11330641199302365157] : List Nat).getD j 0) i.1 : Nat) : Int) = rfcA.getD i.1 0 := by decide +kernel
theorem f17_halfs : halfs f17 0 = ([4822678189205111, 9843086184167632639] : List Nat).getD 0 0 ∧ halfs f17 1 = ([4822678189205111, 9843086184167632639] : List Nat).getD 1 0 := by decide +kernel
theorem rfcA_wrap (i : Nat) (hi : i < 24) : ((wrB (wrapF 10 (schedK 4 key16) 2 f17 12) i : Nat) : Int) = rfcA.getD i 0 := by
  rw [wrapF_congr (by decide) sched16]
  unfold wrapF
  rw [wrB_lit (n := 2) (ra12 _ ⟨rfl, fun j hj => by
    match j, hj with
    | 0, _ => exact f17_halfs.1
    | 1, _ => exact f17_halfs.2⟩) i (by omega)]
  exact rfcA_ok ⟨i, hi⟩
def rfcB : List Int := [40, 201, 244, 4, 196, 184, 16, 244, 203, 204, 179, 92, 251, 135, 248, 38, 63, 87, 134, 226, 216, 14, 211, 38, 203, 199, 240, 231, 26, 153, 244, 59, 251, 152, 139, 155, 122, 2, 221, 33]
def f32 (i : Nat) : Nat := if i < 16 then i * 17 % 256 else (i - 16) * 1 % 256
theorem f32_lt (i : Nat) : f32 i < 256 := by unfold f32; split <;> exact Nat.mod_lt _ (by decide)
theorem rfcB_ok : ∀ i : Fin 40, ((wrB (2939148533153403124, fun j => ([14685309696886700070, 4564265056208868134, 14683969985439200315, 18129393799863131425] : List Nat).getD j 0) i.1 : Nat) : Int) = rfcB.getD i.1 0 := by decide +kernel
theorem f32_halfs : ∀ j : Fin 4, halfs f32 j.1 = ([4822678189205111, 9843086184167632639, 283686952306183, 579005069656919567] : List Nat).getD j.1 0 := by decide +kernel
theorem rfcB_wrap (i : Nat) (hi : i < 40) : ((wrB (wrapF 14 (schedK 8 key32) 4 f32 24) i : Nat) : Int) = rfcB.getD i 0 := by
  rw [wrapF_congr (by decide) sched32]
  unfold wrapF
  rw [wrB_lit (n := 4) (rb24 _ ⟨rfl, fun j hj => f32_halfs ⟨j, hj⟩⟩) i (by omega)]
  exact rfcB_ok ⟨i, hi⟩
theorem ownsRow_below {B : Nat} {w w' : World} {base e size g n c : Nat} {xs : List Value} (h : w.ownsRow base e size (.slice (some ⟨g, 0, none⟩) n c) n xs) (hb : Below B w w') (hg : g < B) : w'.ownsRow base e size (.slice (some ⟨g, 0, none⟩) n c) n xs := by
  obtain ⟨h1, ⟨h2, _⟩ | ⟨g', c', cur, h2, h3, h4, h5⟩⟩ := h
  · cases h2
  · cases h2
    exact ⟨h1, Or.inr ⟨g, c, cur, rfl, h3, (hb.block g hg).trans h4, h5⟩⟩
theorem f32_cells : cellsU8 (cnt 17 16) ++ cellsU8 (cnt 1 16) = (List.range 32).map fun i => Value.int .u8 (f32 i : Nat) := by rfl
/-- A slice that is written out, new in the world. -/
theorem written (w : World) (L : List Int) (C : Array Value) (hC : C = (cellsU8 L).toArray) (i : Nat) (hi : i < L.length) : (w.alloc (.cells C 5)).cell? ⟨w.heap.size, 0 + i, none⟩ = some (.int .u8 (L.getD i 0)) := by
  rw [World.cell?_alloc_at C 5 _ _ rfl, hC]
  simp [cellsU8, List.getD, hi]
theorem counted_all (n step : Nat) (w : World) (hn : n ≤ 64) (hn1 : 1 ≤ n) (hs : step ≤ 256) :
    Calls Tryd.prog 26 #[.int .i64 (n : Nat), .int .i64 (step : Nat)] w fun e w' => ∃ g c, e = .returned (.slice (some ⟨g, 0, none⟩) n c) ∧ w.heap.size ≤ g ∧ g < w'.heap.size ∧ (∀ i, i < n → w'.cell? ⟨g, i, none⟩ = some (.int .u8 ((i * step % 256 : Nat) : Int))) ∧ Below w.heap.size w w' ∧ n ≤ c ∧ w'.ownsRow w.heap.size 5 1 (.slice (some ⟨g, 0, none⟩) n c) n (cellsU8 (cnt step n)) := by
  refine (counted_own n step w hn hn1 hs).mono ?_
  rintro e w' ⟨v, rfl, hown, hb⟩
  have hown0 := hown
  obtain ⟨hlen, ⟨_, hc⟩ | ⟨g, c, cur, rfl, hg1, hg2, hg3, hg4, hg5, hg6⟩⟩ := hown
  · omega
  refine ⟨g, c, rfl, hg1, (Array.getElem?_eq_some_iff.1 hg2).1, fun i hik => ?_, hb, hg3, hown0⟩
  have hr := World.rangeAt_of_block hg2 0 n i (.int .u8 ((i * step % 256 : Nat) : Int)) (by
    have h1 := cnt_at step n i hik
    rw [← hg6, Nat.mul_one] at h1
    simpa using h1)
  rw [Nat.zero_add] at hr
  exact hr
set_option maxHeartbeats 3200000 in
set_option maxRecDepth 100000 in
theorem wraps_ok (w : World) (hrc : RC w) (hpos : 0 < w.heap.size) : Calls Tryd.prog 31 #[] w fun e w' => e = .returned (.bool true) ∧ Below w.heap.size w w' := by
  have HRC : Hid (RC w ∧ 0 < w.heap.size) := ⟨hrc, hpos⟩
  have K1 : Hid (∀ u, Calls Tryd.prog 26 #[.int .i64 16, .int .i64 1] u fun e w' => ∃ g c, e = .returned (.slice (some ⟨g, 0, none⟩) 16 c) ∧ u.heap.size ≤ g ∧ g < w'.heap.size ∧ (∀ i, i < 16 → w'.cell? ⟨g, i, none⟩ = some (.int .u8 ((i * 1 % 256 : Nat) : Int))) ∧ Below u.heap.size u w') := fun u => counted_ok 16 1 u (by decide) (by decide) (by decide)
  have K2 : Hid (∀ u, Calls Tryd.prog 26 #[.int .i64 32, .int .i64 1] u fun e w' => ∃ g c, e = .returned (.slice (some ⟨g, 0, none⟩) 32 c) ∧ u.heap.size ≤ g ∧ g < w'.heap.size ∧ (∀ i, i < 32 → w'.cell? ⟨g, i, none⟩ = some (.int .u8 ((i * 1 % 256 : Nat) : Int))) ∧ Below u.heap.size u w') := fun u => counted_ok 32 1 u (by decide) (by decide) (by decide)
  have K3 : Hid (∀ u, Calls Tryd.prog 26 #[.int .i64 16, .int .i64 17] u fun e w' => ∃ g c, e = .returned (.slice (some ⟨g, 0, none⟩) 16 c) ∧ u.heap.size ≤ g ∧ g < w'.heap.size ∧ (∀ i, i < 16 → w'.cell? ⟨g, i, none⟩ = some (.int .u8 ((i * 17 % 256 : Nat) : Int))) ∧ Below u.heap.size u w' ∧ 16 ≤ c ∧ w'.ownsRow u.heap.size 5 1 (.slice (some ⟨g, 0, none⟩) 16 c) 16 (cellsU8 (cnt 17 16))) := fun u => counted_all 16 17 u (by decide) (by decide) (by decide)
  clear hrc hpos
  go_enter Tryd.func31, Tryd.ntmps31
  go_wp2_with (first | (go_at_call 26; refine (K1.out _).mono ?_))
  rintro e1 w1 ⟨g1, c1, rfl, hg1, hl1, hc1, hb1⟩
  have H1 : Hid (RC w1 ∧ 0 < w1.heap.size ∧ Below w.heap.size w w1) := ⟨HRC.out.1.below hb1 HRC.out.2, Nat.lt_of_lt_of_le HRC.out.2 hb1.size, hb1⟩
  have KA : Hid (Calls Tryd.prog 9 #[.slice (some ⟨g1, 0, none⟩) 16 c1] w1 fun e w' => ∃ g, e = .returned (.tuple #[.pointer (some ⟨g, 0, none⟩), .int .i64 0]) ∧ w1.heap.size ≤ g ∧ KeyAt w' g 10 (schedK 4 key16) ∧ Below w1.heap.size w1 w') :=
    new_ok g1 0 16 c1 4 key16 w1 (by decide) (by decide) hl1 (fun i hi => by rw [Nat.zero_add, hc1 i hi, key16_cnt ⟨i, hi⟩]) key16_lt H1.out.1 H1.out.2.1
  clear hg1 hl1 hc1 hb1
  go_wp2_with (first | (go_at_call 9; refine KA.out.mono ?_))
  rintro e2 w2 ⟨ka, rfl, hg2, hk2, hb2⟩
  have H2 : Hid (RC w2 ∧ 0 < w2.heap.size ∧ Below w.heap.size w w2 ∧ KeyAt w2 ka 10 (schedK 4 key16) ∧ w.heap.size ≤ ka) := ⟨H1.out.1.below hb2 H1.out.2.1, Nat.lt_of_lt_of_le H1.out.2.1 hb2.size, H1.out.2.2.trans (hb2.mono H1.out.2.2.size), hk2, Nat.le_trans H1.out.2.2.size hg2⟩
  clear hg2 hk2 hb2 KA H1
  go_wp2_with (first | (go_at_call 26; refine (K2.out _).mono ?_))
  rintro e3 w3 ⟨g3, c3, rfl, hg3, hl3, hc3, hb3⟩
  have H3 : Hid (RC w3 ∧ 0 < w3.heap.size ∧ Below w.heap.size w w3 ∧ KeyAt w3 ka 10 (schedK 4 key16) ∧ w.heap.size ≤ ka ∧ ka < w3.heap.size) := by
    obtain ⟨q1, q2, q3, q4, q5⟩ := H2.out
    exact ⟨q1.below hb3 q2, Nat.lt_of_lt_of_le q2 hb3.size, q3.trans (hb3.mono q3.size), q4.below hb3 q4.ciph.here, q5, Nat.lt_of_lt_of_le q4.ciph.here hb3.size⟩
  have KB : Hid (Calls Tryd.prog 9 #[.slice (some ⟨g3, 0, none⟩) 32 c3] w3 fun e w' => ∃ g, e = .returned (.tuple #[.pointer (some ⟨g, 0, none⟩), .int .i64 0]) ∧ w3.heap.size ≤ g ∧ KeyAt w' g 14 (schedK 8 key32) ∧ Below w3.heap.size w3 w') :=
    new_ok g3 0 32 c3 8 key32 w3 (by decide) (by decide) hl3 (fun i hi => by rw [Nat.zero_add, hc3 i hi, key32_cnt ⟨i, hi⟩]) key32_lt H3.out.1 H3.out.2.1
  clear hg3 hl3 hc3 hb3 H2
  go_wp2_with (first | (go_at_call 9; refine KB.out.mono ?_))
  rintro e4 w4 ⟨kb, rfl, hg4, hk4, hb4⟩
  have H4 : Hid (Below w.heap.size w w4 ∧ KeyAt w4 ka 10 (schedK 4 key16) ∧ KeyAt w4 kb 14 (schedK 8 key32) ∧ w.heap.size ≤ ka ∧ ka < kb) := by
    obtain ⟨q1, q2, q3, q4, q5, q6⟩ := H3.out
    exact ⟨q3.trans (hb4.mono q3.size), q4.below hb4 q6, hk4, q5, Nat.lt_of_lt_of_le q6 hg4⟩
  clear hg4 hk4 hb4 KB H3
  go_wp2_with (first
    | (go_at_call 11; refine (num_ok _ _).mono ?_; rintro e9 w9 ⟨rfl, hw9⟩; obtain rfl := hw9.symm)
    | (go_at_call 26; refine (K3.out _).mono ?_))
  rintro e5 w5 ⟨g5, c5, rfl, hg5, hl5, hc5, hb5, hn5, _⟩
  have H5 : Hid (Below w.heap.size w w5 ∧ KeyAt w5 ka 10 (schedK 4 key16) ∧ KeyAt w5 kb 14 (schedK 8 key32) ∧ w.heap.size ≤ ka ∧ ka < kb) := by
    obtain ⟨q1, q2, q3, q4, q5⟩ := H4.out
    exact ⟨q1.trans (hb5.mono q1.size), q2.below hb5 q2.ciph.here, q3.below hb5 q3.ciph.here, q4, q5⟩
  have KW : Hid (Calls Tryd.prog 34 #[.pointer (some ⟨ka, 0, none⟩), .slice (some ⟨g5, 0, none⟩) 16 c5] w5 fun e w' => ∃ s, e = .returned (.tuple #[.slice (some ⟨s, 0, none⟩) 24 24, .int .i64 0]) ∧ w5.heap.size ≤ s ∧ Halves w' s 8 2 (wrapF 10 (schedK 4 key16) 2 f17 12).2 ∧ (∀ k, k < 8 → w'.cell? ⟨s, k, none⟩ = some (.int .u8 (byteK (wrapF 10 (schedK 4 key16) 2 f17 12).1 k : Nat))) ∧ KeyAt w' ka 10 (schedK 4 key16) ∧ Touch w5 w' ka 4 1) := by
    have hka := H4.out.2.1.ciph.here
    exact kwrap_ok ka 10 2 g5 0 c5 (schedK 4 key16) f17 w5 H5.out.2.1 (by decide) (by decide) hn5 hl5 (by omega) (fun i hi => by rw [Nat.zero_add]; exact hc5 i hi) f17_lt
  clear hg5 hl5 hc5 hb5 hn5 H4
  go_wp2_with (first | (go_at_call 34; refine KW.out.mono ?_))
  rintro e6 w6 ⟨s6, rfl, hs6, hh6, hc6, hk6, ht6⟩
  have H6 : Hid (Below w.heap.size w w6 ∧ KeyAt w6 kb 14 (schedK 8 key32) ∧ w.heap.size ≤ kb ∧ s6 < w6.heap.size ∧ ∀ i, i < 24 → w6.cell? ⟨s6, 0 + i, none⟩ = some (.int .u8 (rfcA.getD i 0))) := by
    obtain ⟨q1, q2, q3, q4, q5⟩ := H5.out
    refine ⟨q1.trans (ht6.toBelow q4 q1.size), q3.far ht6 (by omega), by omega, hh6.here, fun i hi => ?_⟩
    rw [Nat.zero_add, halves_wrB hh6 hc6 i (by omega), rfcA_wrap i hi]
  clear hs6 hh6 hc6 hk6 ht6 KW H5
  have KS : Hid (Calls Tryd.prog 30 #[.slice (some ⟨s6, 0, none⟩) 24 24, .slice (some ⟨w6.heap.size, 0, none⟩) 24 24] (w6.alloc (.cells #[.int .u8 31, .int .u8 166, .int .u8 139, .int .u8 10, .int .u8 129, .int .u8 18, .int .u8 180, .int .u8 71, .int .u8 174, .int .u8 243, .int .u8 75, .int .u8 216, .int .u8 251, .int .u8 90, .int .u8 123, .int .u8 130, .int .u8 157, .int .u8 62, .int .u8 134, .int .u8 35, .int .u8 113, .int .u8 210, .int .u8 207, .int .u8 229] 5)) fun e w' => e = .returned (.bool true) ∧ ∃ m, w' = (w6.alloc (.cells #[.int .u8 31, .int .u8 166, .int .u8 139, .int .u8 10, .int .u8 129, .int .u8 18, .int .u8 180, .int .u8 71, .int .u8 174, .int .u8 243, .int .u8 75, .int .u8 216, .int .u8 251, .int .u8 90, .int .u8 123, .int .u8 130, .int .u8 157, .int .u8 62, .int .u8 134, .int .u8 35, .int .u8 113, .int .u8 210, .int .u8 207, .int .u8 229] 5)).drewN m) := by
    have h := same_core s6 0 w6.heap.size 0 24 24 24 rfcA rfcA (w6.alloc (.cells #[.int .u8 31, .int .u8 166, .int .u8 139, .int .u8 10, .int .u8 129, .int .u8 18, .int .u8 180, .int .u8 71, .int .u8 174, .int .u8 243, .int .u8 75, .int .u8 216, .int .u8 251, .int .u8 90, .int .u8 123, .int .u8 130, .int .u8 157, .int .u8 62, .int .u8 134, .int .u8 35, .int .u8 113, .int .u8 210, .int .u8 207, .int .u8 229] 5)) rfl rfl (by decide) (fun i hi => by rw [World.cell?_alloc_lt _ _ _ (show s6 < _ from H6.out.2.2.2.1)]; exact H6.out.2.2.2.2 i hi) (fun i hi => written w6 rfcA _ rfl i hi)
    rw [decide_eq_true (rfl : rfcA = rfcA)] at h
    exact h
  go_wp2_with (first
    | (go_at_call 11; refine (num_ok _ _).mono ?_; rintro e9 w9 ⟨rfl, hw9⟩; obtain rfl := hw9.symm)
    | (go_at_call 30; refine KS.out.mono ?_))
  rintro e7 w7 ⟨rfl, m7, hw7⟩
  have H7 : Hid (Below w.heap.size w w7 ∧ KeyAt w7 kb 14 (schedK 8 key32) ∧ w.heap.size ≤ kb) := by
    obtain ⟨q1, q2, q3, q4, q5⟩ := H6.out
    have hb : Below w6.heap.size w6 w7 := by rw [hw7]; exact Below.drewN ((Below.refl _ w6).alloc (Nat.le_refl _) _) m7
    exact ⟨q1.trans (hb.mono q1.size), q2.below hb q2.ciph.here, q3⟩
  clear hw7 KS H6
  go_wp2_with (first | (go_at_call 26; refine (K3.out _).mono ?_))
  rintro e8 w8 ⟨g8, c8, rfl, hg8, hl8, hc8, hb8, hn8, ho8⟩
  have H8 : Hid (Below w.heap.size w w8 ∧ KeyAt w8 kb 14 (schedK 8 key32) ∧ w.heap.size ≤ kb ∧ kb < g8 ∧ g8 < w8.heap.size ∧ w8.ownsRow w7.heap.size 5 1 (.slice (some ⟨g8, 0, none⟩) 16 c8) 16 (cellsU8 (cnt 17 16)) ∧ kb < w7.heap.size ∧ w.heap.size ≤ w7.heap.size ∧ w7.heap.size ≤ w8.heap.size) := by
    obtain ⟨q1, q2, q3⟩ := H7.out
    have := q2.ciph.here
    exact ⟨q1.trans (hb8.mono q1.size), q2.below hb8 q2.ciph.here, q3, by omega, hl8, ho8, q2.ciph.here, q1.size, hb8.size⟩
  clear hg8 hl8 hc8 hb8 ho8 H7
  obtain ⟨i0, hi, hz0, hz1, hz2⟩ := info_parts Tryd.info5
  go_wp2_with (first | (go_at_call 26; refine (K1.out _).mono ?_))
  rintro e9 w9 ⟨g9, c9, rfl, hg9, hl9, hc9, hb9⟩
  have H9 : Hid (Below w.heap.size w w9 ∧ KeyAt w9 kb 14 (schedK 8 key32) ∧ w.heap.size ≤ kb ∧ kb < w7.heap.size ∧ w.heap.size ≤ w7.heap.size ∧ w7.heap.size ≤ w9.heap.size) := by
    obtain ⟨q1, q2, q3, q4, q5, q6, q7, q8, q9⟩ := H8.out
    exact ⟨q1.trans (hb9.mono q1.size), q2.below hb9 q2.ciph.here, q3, q7, q8, Nat.le_trans q9 hb9.size⟩
  have ho9 : w9.ownsRow w7.heap.size 5 1 (.slice (some ⟨g8, 0, none⟩) 16 c8) 16 (cellsU8 (cnt 17 16)) := ownsRow_below H8.out.2.2.2.2.2.1 hb9 H8.out.2.2.2.2.1
  have HC9 : Hid (∀ j u, (cellsU8 (cnt 1 16))[j]? = some u → w9.cell? ((⟨g9, 0, none⟩ : Addr).add j) = some u) := by
    intro j u hj
    have hj16 : j < 16 := by have := (List.getElem?_eq_some_iff.1 hj).1; simpa [cellsU8, cnt] using this
    rw [Addr.add_mid, Nat.zero_add, hc9 j hj16, ← hj, cnt_at 1 16 j hj16]
  have HL9 : Hid ((cellsU8 (cnt 1 16)).length = 16 * 1 ∧ ∀ u ∈ cellsU8 (cnt 1 16), u.oneCell' = true) := ⟨by simp [cellsU8, cnt], by intro u hu; simp [cellsU8] at hu; obtain ⟨x, _, rfl⟩ := hu; rfl⟩
  obtain ⟨N9, HN9⟩ : ∃ N, Hid (N = cellsU8 (cnt 1 16)) := ⟨_, rfl⟩
  rw [← HN9.out] at HC9 HL9
  clear hg9 hl9 hc9 hb9 H8
  go_wp2_with (first
    | (at_builtin; go_must (refine wpList_append_own _ rfl (.tmp 49) (.tmp 50) 22 rfl w7.heap.size 5 i0 (.int .u8 0) 1 1 Tryd.underlying22 hi hz0 hz1 hz2 rfl (by decide) _ _ _ rfl ho9 ⟨g9, 0, none⟩ 16 c9 N9 rfl HL9.out.1 ?_ ?_ ?_ ?_ ?_ ?_)))
  · exact HC9.out
  · exact HL9.out.2
  · unfold maxLen; decide
  · decide
  · exact H9.out.2.2.2.2.2
  intro v10 w10 ho10 hgr10 hnil10
  have hg8b : ∀ k, (Value.slice (some ⟨g8, 0, none⟩) 16 c8).ownBlock = some k → w7.heap.size ≤ k := fun k hk => by
    obtain ⟨_, ⟨h2, _⟩ | ⟨g', c', cur, h2, h3, _⟩⟩ := ho9
    · cases h2
    · cases h2; cases hk; exact h3
  have hb10 : Below w7.heap.size w9 w10 := (Below.refl _ _).grown hgr10 H9.out.2.2.2.2.2 hg8b
  obtain ⟨g10, c10, rfl, HA⟩ : ∃ g c, v10 = .slice (some ⟨g, 0, none⟩) 32 c ∧ Hid (w7.heap.size ≤ g ∧ g < w10.heap.size ∧ 32 ≤ c ∧ ∀ i, i < 32 → w10.cell? ⟨g, i, none⟩ = some (.int .u8 (f32 i : Nat))) := by
    rw [HN9.out, f32_cells] at ho10
    obtain ⟨_, ⟨_, h2⟩ | ⟨g, c, cur, h2, h3, h4, h5, h6, h7, h8⟩⟩ := ho10
    · omega
    · refine ⟨g, c, h2, h3, (Array.getElem?_eq_some_iff.1 h4).1, h5, fun i hi => ?_⟩
      have hr := World.rangeAt_of_block h4 0 32 i (.int .u8 (f32 i : Nat)) (by
        have h9 : (cur.toList.take (32 * 1))[i]? = some (.int .u8 (f32 i : Nat)) := by rw [h8, List.getElem?_map, List.getElem?_range hi]; rfl
        simpa using h9)
      rw [Nat.zero_add] at hr
      exact hr
  have H10 : Hid (Below w.heap.size w w10 ∧ KeyAt w10 kb 14 (schedK 8 key32) ∧ w.heap.size ≤ kb ∧ kb < w7.heap.size) := by
    obtain ⟨q1, q2, q3, q4, q5, q6⟩ := H9.out
    exact ⟨q1.trans (hb10.mono q5), q2.below hb10 q4, q3, q4⟩
  clear ho10 hgr10 hnil10 hg8b hb10 ho9 H9 HC9 HL9
  have KW2 : Hid (Calls Tryd.prog 34 #[.pointer (some ⟨kb, 0, none⟩), .slice (some ⟨g10, 0, none⟩) 32 c10] w10 fun e w' => ∃ s, e = .returned (.tuple #[.slice (some ⟨s, 0, none⟩) 40 40, .int .i64 0]) ∧ w10.heap.size ≤ s ∧ Halves w' s 8 4 (wrapF 14 (schedK 8 key32) 4 f32 24).2 ∧ (∀ k, k < 8 → w'.cell? ⟨s, k, none⟩ = some (.int .u8 (byteK (wrapF 14 (schedK 8 key32) 4 f32 24).1 k : Nat))) ∧ KeyAt w' kb 14 (schedK 8 key32) ∧ Touch w10 w' kb 4 1) := by
    obtain ⟨q1, q2, q3, q4⟩ := H10.out
    obtain ⟨r1, r2, r3, r4⟩ := HA.out
    exact kwrap_ok kb 14 4 g10 0 c10 (schedK 8 key32) f32 w10 q2 (by decide) (by decide) r3 r2 (by omega) (fun i hi => by rw [Nat.zero_add]; exact r4 i hi) f32_lt
  go_wp2_with (first | (go_at_call 34; refine KW2.out.mono ?_))
  rintro e11 w11 ⟨s11, rfl, hs11, hh11, hc11, hk11, ht11⟩
  have H11 : Hid (Below w.heap.size w w11 ∧ s11 < w11.heap.size ∧ ∀ i, i < 40 → w11.cell? ⟨s11, 0 + i, none⟩ = some (.int .u8 (rfcB.getD i 0))) := by
    obtain ⟨q1, q2, q3, q4⟩ := H10.out
    refine ⟨q1.trans (ht11.toBelow q3 q1.size), hh11.here, fun i hi => ?_⟩
    rw [Nat.zero_add, halves_wrB hh11 hc11 i (by omega), rfcB_wrap i hi]
  clear hs11 hh11 hc11 hk11 ht11 KW2 H10 HA
  have KS2 : Hid (Calls Tryd.prog 30 #[.slice (some ⟨s11, 0, none⟩) 40 40, .slice (some ⟨w11.heap.size, 0, none⟩) 40 40] (w11.alloc (.cells #[.int .u8 40, .int .u8 201, .int .u8 244, .int .u8 4, .int .u8 196, .int .u8 184, .int .u8 16, .int .u8 244, .int .u8 203, .int .u8 204, .int .u8 179, .int .u8 92, .int .u8 251, .int .u8 135, .int .u8 248, .int .u8 38, .int .u8 63, .int .u8 87, .int .u8 134, .int .u8 226, .int .u8 216, .int .u8 14, .int .u8 211, .int .u8 38, .int .u8 203, .int .u8 199, .int .u8 240, .int .u8 231, .int .u8 26, .int .u8 153, .int .u8 244, .int .u8 59, .int .u8 251, .int .u8 152, .int .u8 139, .int .u8 155, .int .u8 122, .int .u8 2, .int .u8 221, .int .u8 33] 5)) fun e w' => e = .returned (.bool true) ∧ ∃ m, w' = (w11.alloc (.cells #[.int .u8 40, .int .u8 201, .int .u8 244, .int .u8 4, .int .u8 196, .int .u8 184, .int .u8 16, .int .u8 244, .int .u8 203, .int .u8 204, .int .u8 179, .int .u8 92, .int .u8 251, .int .u8 135, .int .u8 248, .int .u8 38, .int .u8 63, .int .u8 87, .int .u8 134, .int .u8 226, .int .u8 216, .int .u8 14, .int .u8 211, .int .u8 38, .int .u8 203, .int .u8 199, .int .u8 240, .int .u8 231, .int .u8 26, .int .u8 153, .int .u8 244, .int .u8 59, .int .u8 251, .int .u8 152, .int .u8 139, .int .u8 155, .int .u8 122, .int .u8 2, .int .u8 221, .int .u8 33] 5)).drewN m) := by
    have hC : (#[.int .u8 40, .int .u8 201, .int .u8 244, .int .u8 4, .int .u8 196, .int .u8 184, .int .u8 16, .int .u8 244, .int .u8 203, .int .u8 204, .int .u8 179, .int .u8 92, .int .u8 251, .int .u8 135, .int .u8 248, .int .u8 38, .int .u8 63, .int .u8 87, .int .u8 134, .int .u8 226, .int .u8 216, .int .u8 14, .int .u8 211, .int .u8 38, .int .u8 203, .int .u8 199, .int .u8 240, .int .u8 231, .int .u8 26, .int .u8 153, .int .u8 244, .int .u8 59, .int .u8 251, .int .u8 152, .int .u8 139, .int .u8 155, .int .u8 122, .int .u8 2, .int .u8 221, .int .u8 33] : Array Value) = (cellsU8 rfcB).toArray := rfl
    rw [hC]
    have h := same_core s11 0 w11.heap.size 0 40 40 40 rfcB rfcB (w11.alloc (.cells (cellsU8 rfcB).toArray 5)) rfl rfl (by decide) (fun i hi => by rw [World.cell?_alloc_lt _ _ _ (show s11 < _ from H11.out.2.1)]; exact H11.out.2.2 i hi) (fun i hi => written w11 rfcB _ rfl i hi)
    rw [decide_eq_true (rfl : rfcB = rfcB)] at h
    exact h
  go_wp2_with (first
    | (go_at_call 11; refine (num_ok _ _).mono ?_; rintro e9 w9 ⟨rfl, hw9⟩; obtain rfl := hw9.symm)
    | (go_at_call 30; refine KS2.out.mono ?_))
  rintro e12 w12 ⟨rfl, m12, hw12⟩
  have H12 : Hid (Below w.heap.size w w12) := by
    have hb : Below w11.heap.size w11 w12 := by rw [hw12]; exact Below.drewN ((Below.refl _ w11).alloc (Nat.le_refl _) _) m12
    exact H11.out.1.trans (hb.mono H11.out.1.size)
  clear hw12 KS2 H11
  go_wp2
  go_ret
  exact ⟨rfl, H12.out⟩
end Go.Proofs.YtgmfiljjogdccaaDoor
namespace Go.Proofs.YtgmfiljjogdccaaDoor
open Go.RowKit
set_option linter.unusedVariables false
/-- Sixteen bytes as a state. -/
def ofF (f : Nat → Nat) : W4 := ⟨wd (f 0) (f 1) (f 2) (f 3), wd (f 4) (f 5) (f 6) (f 7), wd (f 8) (f 9) (f 10) (f 11), wd (f 12) (f 13) (f 14) (f 15)⟩
theorem ofF_ok {f : Nat → Nat} (hf : ∀ i, f i < 256) : (ofF f).ok := ⟨wd_lt (hf _) (hf _) (hf _) (hf _), wd_lt (hf _) (hf _) (hf _) (hf _), wd_lt (hf _) (hf _) (hf _) (hf _), wd_lt (hf _) (hf _) (hf _) (hf _)⟩
theorem ofF_bt {f : Nat → Nat} (hf : ∀ i, f i < 256) (a b c d : Nat) : bt0 (wd (f a) (f b) (f c) (f d)) = f a ∧ bt1 (wd (f a) (f b) (f c) (f d)) = f b ∧ bt2 (wd (f a) (f b) (f c) (f d)) = f c ∧ bt3 (wd (f a) (f b) (f c) (f d)) = f d := by
  have h1 := hf a
  have h2 := hf b
  have h3 := hf c
  have h4 := hf d
  unfold bt0 bt1 bt2 bt3 wd
  omega
theorem ofF_blk {f : Nat → Nat} (hf : ∀ i, f i < 256) : (ofF f).blk = .agg ([.int .u8 (f 0 : Nat), .int .u8 (f 1 : Nat), .int .u8 (f 2 : Nat), .int .u8 (f 3 : Nat), .int .u8 (f 4 : Nat), .int .u8 (f 5 : Nat), .int .u8 (f 6 : Nat), .int .u8 (f 7 : Nat), .int .u8 (f 8 : Nat), .int .u8 (f 9 : Nat), .int .u8 (f 10 : Nat), .int .u8 (f 11 : Nat), .int .u8 (f 12 : Nat), .int .u8 (f 13 : Nat), .int .u8 (f 14 : Nat), .int .u8 (f 15 : Nat)]).toArray := by
  unfold W4.blk ofF
  simp only [(ofF_bt hf _ _ _ _).1, (ofF_bt hf _ _ _ _).2.1, (ofF_bt hf _ _ _ _).2.2.1, (ofF_bt hf _ _ _ _).2.2.2]
  rfl
theorem cell_other2 (w : World) (g i j : Nat) (v : Value) (h : i ≠ j) : (w.setCell ⟨g, i, none⟩ v).cell? ⟨g, j, none⟩ = w.cell? ⟨g, j, none⟩ :=
  World.cell?_setCell_other w ⟨g, i, none⟩ ⟨g, j, none⟩ v (fun e => h (by cases e; rfl))
set_option maxHeartbeats 1600000 in
set_option maxRecDepth 100000 in
theorem blockOf_ok (b o cap : Nat) (f : Nat → Nat) (w : World) (hb : b < w.heap.size) (hc : ∀ i, i < 16 → w.cell? ⟨b, o + i, none⟩ = some (.int .u8 (f i : Nat))) (hf : ∀ i, f i < 256) :
    Calls Tryd.prog 25 #[.slice (some ⟨b, o, none⟩) 16 cap] w fun e w' => e = .returned (ofF f).blk ∧ Below w.heap.size w w' := by
  rw [ofF_blk hf]
  have HB : Hid (b < w.heap.size) := hb
  have HC : Hid (∀ i, i < 16 → w.cell? ⟨b, o + i, none⟩ = some (.int .u8 (f i : Nat))) := hc
  have HT : Hid (((w.alloc (.cells #[.int .u8 0, .int .u8 0, .int .u8 0, .int .u8 0, .int .u8 0, .int .u8 0, .int .u8 0, .int .u8 0, .int .u8 0, .int .u8 0, .int .u8 0, .int .u8 0, .int .u8 0, .int .u8 0, .int .u8 0, .int .u8 0] 42)).alloc (.cells #[.int .u8 0, .int .u8 0, .int .u8 0, .int .u8 0, .int .u8 0, .int .u8 0, .int .u8 0, .int .u8 0, .int .u8 0, .int .u8 0, .int .u8 0, .int .u8 0, .int .u8 0, .int .u8 0, .int .u8 0, .int .u8 0] 42)).there (w.heap.size + 1) 0 16 ∧ ((w.alloc (.cells #[.int .u8 0, .int .u8 0, .int .u8 0, .int .u8 0, .int .u8 0, .int .u8 0, .int .u8 0, .int .u8 0, .int .u8 0, .int .u8 0, .int .u8 0, .int .u8 0, .int .u8 0, .int .u8 0, .int .u8 0, .int .u8 0] 42)).alloc (.cells #[.int .u8 0, .int .u8 0, .int .u8 0, .int .u8 0, .int .u8 0, .int .u8 0, .int .u8 0, .int .u8 0, .int .u8 0, .int .u8 0, .int .u8 0, .int .u8 0, .int .u8 0, .int .u8 0, .int .u8 0, .int .u8 0] 42)).there w.heap.size 0 16 ∧ Below w.heap.size w ((w.alloc (.cells #[.int .u8 0, .int .u8 0, .int .u8 0, .int .u8 0, .int .u8 0, .int .u8 0, .int .u8 0, .int .u8 0, .int .u8 0, .int .u8 0, .int .u8 0, .int .u8 0, .int .u8 0, .int .u8 0, .int .u8 0, .int .u8 0] 42)).alloc (.cells #[.int .u8 0, .int .u8 0, .int .u8 0, .int .u8 0, .int .u8 0, .int .u8 0, .int .u8 0, .int .u8 0, .int .u8 0, .int .u8 0, .int .u8 0, .int .u8 0, .int .u8 0, .int .u8 0, .int .u8 0, .int .u8 0] 42)) ∧ ((w.alloc (.cells #[.int .u8 0, .int .u8 0, .int .u8 0, .int .u8 0, .int .u8 0, .int .u8 0, .int .u8 0, .int .u8 0, .int .u8 0, .int .u8 0, .int .u8 0, .int .u8 0, .int .u8 0, .int .u8 0, .int .u8 0, .int .u8 0] 42)).alloc (.cells #[.int .u8 0, .int .u8 0, .int .u8 0, .int .u8 0, .int .u8 0, .int .u8 0, .int .u8 0, .int .u8 0, .int .u8 0, .int .u8 0, .int .u8 0, .int .u8 0, .int .u8 0, .int .u8 0, .int .u8 0, .int .u8 0] 42)).heap.size = w.heap.size + 2) :=
    ⟨there_two w _ _ 42 42 rfl, World.there_alloc (there_new w _ 42 16 (Nat.le_refl _)) _, (two_allocs w _ _ 42 42).1, by simp⟩
  clear hb hc hf
  go_enter Tryd.func25, Tryd.ntmps25
  go_upto_region 2 with fail
  generalize (w.alloc (.cells #[.int .u8 0, .int .u8 0, .int .u8 0, .int .u8 0, .int .u8 0, .int .u8 0, .int .u8 0, .int .u8 0, .int .u8 0, .int .u8 0, .int .u8 0, .int .u8 0, .int .u8 0, .int .u8 0, .int .u8 0, .int .u8 0] 42)).alloc (.cells #[.int .u8 0, .int .u8 0, .int .u8 0, .int .u8 0, .int .u8 0, .int .u8 0, .int .u8 0, .int .u8 0, .int .u8 0, .int .u8 0, .int .u8 0, .int .u8 0, .int .u8 0, .int .u8 0, .int .u8 0, .int .u8 0] 42) = w2 at HT ⊢
  go_wp2
  go_loopw [4] (fun i wr => ∃ k : Nat, k ≤ 16 ∧ i = .int .i64 k ∧ Hid (Touch w2 wr (w.heap.size + 1) 0 16 ∧ ∀ j, j < k → wr.cell? ⟨w.heap.size + 1, j, none⟩ = some (.int .u8 (f j : Nat)))) (fun i _ => 16 - (intOf i).toNat)
  case atStart => exact ⟨0, by omega, rfl, Touch.refl _ _ _ _, fun j hj => by omega⟩
  case round =>
    obtain ⟨k, hk, rfl, HR⟩ := hrel
    by_cases hlt : k < 16
    · have ht := HR.out.1
      have ck : wr.cell? ⟨b, o + k, none⟩ = some (.int .u8 (f k : Nat)) := by
        have hbw := HB.out
        have hz := HT.out.2.2.2
        rw [ht.far (p := ⟨b, o + k, none⟩) (show b < _ by omega) (show b ≠ _ by omega), HT.out.2.2.1.cell (p := ⟨b, o + k, none⟩) hbw]
        exact HC.out k hlt
      have t := ht.there _ _ HT.out.1 k hlt
      rw [Nat.zero_add] at t
      obtain ⟨t1, t2⟩ := t
      obtain ⟨v, c1⟩ := Option.isSome_iff_exists.1 t1
      clear t1 ht
      have hki : ((k : Nat) : Int) < 16 := by omega
      go_wp2
      refine ⟨⟨k + 1, by omega, rfl, HR.out.1.setCell k _ (by omega) (by omega), fun j hj => ?_⟩, ?_⟩
      · by_cases hjk : j = k
        · subst hjk
          exact World.cell?_setCell_same' _ _ _ (by rw [c1]; rfl)
        · rw [cell_other2 _ _ _ _ _ (Ne.symm hjk)]
          exact HR.out.2 j (by omega)
      · simp only [intOf]; omega
    · obtain rfl : k = 16 := by omega
      have H4 : Hid (wr.rangeAt (w.heap.size + 1) 0 [.int .u8 (f 0 : Nat), .int .u8 (f 1 : Nat), .int .u8 (f 2 : Nat), .int .u8 (f 3 : Nat), .int .u8 (f 4 : Nat), .int .u8 (f 5 : Nat), .int .u8 (f 6 : Nat), .int .u8 (f 7 : Nat), .int .u8 (f 8 : Nat), .int .u8 (f 9 : Nat), .int .u8 (f 10 : Nat), .int .u8 (f 11 : Nat), .int .u8 (f 12 : Nat), .int .u8 (f 13 : Nat), .int .u8 (f 14 : Nat), .int .u8 (f 15 : Nat)] ∧ wr.there w.heap.size 0 16 ∧ Below w.heap.size w wr) := by
        obtain ⟨t1, t2, t3, t4⟩ := HT.out
        obtain ⟨p1, p2⟩ := HR.out
        refine ⟨fun j v hv => ?_, fun j hj => ?_, t3.trans (p1.toBelow (Nat.le_succ _) (by omega))⟩
        · have hj : j < 16 := (List.getElem?_eq_some_iff.1 hv).1
          have h16 : j = 0 ∨ j = 1 ∨ j = 2 ∨ j = 3 ∨ j = 4 ∨ j = 5 ∨ j = 6 ∨ j = 7 ∨ j = 8 ∨ j = 9 ∨ j = 10 ∨ j = 11 ∨ j = 12 ∨ j = 13 ∨ j = 14 ∨ j = 15 := by omega
          have q := p2 j hj
          rw [Nat.zero_add, q]
          rcases h16 with rfl | rfl | rfl | rfl | rfl | rfl | rfl | rfl | rfl | rfl | rfl | rfl | rfl | rfl | rfl | rfl <;> exact hv
        · rw [p1.far (p := ⟨w.heap.size, 0 + j, none⟩) (show w.heap.size < _ by omega) (show w.heap.size ≠ _ by omega), p1.farFrozen (p := ⟨w.heap.size, 0 + j, none⟩) (show w.heap.size < _ by omega) (show w.heap.size ≠ _ by omega)]
          exact t2 j hj
      clear HR hlt hk
      go_wp2_with (first
        | (refine wpList_load_mid (by rfl) 42 (.tmp 3) (by rfl) (w.heap.size + 1) 0 (by rfl) [.int .u8 (f 0 : Nat), .int .u8 (f 1 : Nat), .int .u8 (f 2 : Nat), .int .u8 (f 3 : Nat), .int .u8 (f 4 : Nat), .int .u8 (f 5 : Nat), .int .u8 (f 6 : Nat), .int .u8 (f 7 : Nat), .int .u8 (f 8 : Nat), .int .u8 (f 9 : Nat), .int .u8 (f 10 : Nat), .int .u8 (f 11 : Nat), .int .u8 (f 12 : Nat), .int .u8 (f 13 : Nat), .int .u8 (f 14 : Nat), .int .u8 (f 15 : Nat)] _ H4.out.1 Tryd.underlying42 rfl size42 ?_)
        | (refine wpList_store_mid (by rfl) 42 (.tmp 2) (.tmp 21) (by rfl) w.heap.size 0 ([.int .u8 (f 0 : Nat), .int .u8 (f 1 : Nat), .int .u8 (f 2 : Nat), .int .u8 (f 3 : Nat), .int .u8 (f 4 : Nat), .int .u8 (f 5 : Nat), .int .u8 (f 6 : Nat), .int .u8 (f 7 : Nat), .int .u8 (f 8 : Nat), .int .u8 (f 9 : Nat), .int .u8 (f 10 : Nat), .int .u8 (f 11 : Nat), .int .u8 (f 12 : Nat), .int .u8 (f 13 : Nat), .int .u8 (f 14 : Nat), .int .u8 (f 15 : Nat)]).toArray (by rfl) (by rfl) H4.out.2.1 size42 (by kernel_rfl) ?_)
        | fail)
      exact ret_array [.int .u8 (f 0 : Nat), .int .u8 (f 1 : Nat), .int .u8 (f 2 : Nat), .int .u8 (f 3 : Nat), .int .u8 (f 4 : Nat), .int .u8 (f 5 : Nat), .int .u8 (f 6 : Nat), .int .u8 (f 7 : Nat), .int .u8 (f 8 : Nat), .int .u8 (f 9 : Nat), .int .u8 (f 10 : Nat), .int .u8 (f 11 : Nat), .int .u8 (f 12 : Nat), .int .u8 (f 13 : Nat), .int .u8 (f 14 : Nat), .int .u8 (f 15 : Nat)] Tryd.results25 rfl (World.rangeAt_setCells_same _ _ _ _ H4.out.2.1) Tryd.underlying42 rfl size42 ⟨rfl, belowB_setCells _ (Nat.le_refl _) _ _ _ H4.out.2.2⟩
end Go.Proofs.YtgmfiljjogdccaaDoor
namespace Go.Proofs.YtgmfiljjogdccaaDoor
open Go.RowKit Go.RwLone
set_option linter.unusedVariables false
set_option linter.unusedSimpArgs false
def s3 : W4 := ⟨4042388211, 4109760247, 4177132283, 4244504319⟩
theorem vec3 : encW 10 (wordT W3) s3 = ⟨3968655219, 2556460208, 4073854581, 3936264676⟩ := by
  have h : (encW 10 (wordT W3) s3).a = 3968655219 ∧ (encW 10 (wordT W3) s3).b = 2556460208 ∧ (encW 10 (wordT W3) s3).c = 4073854581 ∧ (encW 10 (wordT W3) s3).d = 3936264676 := by decide +kernel
  obtain ⟨a, b, c, d⟩ := h
  generalize encW 10 (wordT W3) s3 = x at a b c d
  cases x
  simp only at a b c d
  rw [a, b, c, d]
theorem ctr3 : ctrW s3 0 = s3 := by
  have h : (ctrW s3 0).a = s3.a ∧ (ctrW s3 0).b = s3.b ∧ (ctrW s3 0).c = s3.c ∧ (ctrW s3 0).d = s3.d := by decide +kernel
  obtain ⟨a, b, c, d⟩ := h
  generalize ctrW s3 0 = x at a b c d
  cases x
  simp only at a b c d
  rw [a, b, c, d]
theorem s3_ok : s3.ok := by unfold W4.ok s3; decide
def d3 (i : Nat) : Nat := Nat.mod (Nat.shiftRight 55949989281577055826901839314960695659 (Nat.mul 8 i)) 256
theorem d3_lt (i : Nat) : d3 i < 256 := Nat.mod_lt _ (by decide)
theorem key3_lt (i : Nat) : key3 i < 256 := Nat.mod_lt _ (by decide)
theorem key24_lt (i : Nat) : key24 i < 256 := Nat.mod_lt _ (by decide)
theorem key24_cnt : ∀ i : Fin 24, i.1 * 1 % 256 = key24 i.1 := by decide +kernel
def o3 : List Int := [135, 77, 97, 145, 182, 32, 227, 38, 27, 239, 104, 100, 153, 13, 182, 206]
def d3L : List Int := [107, 193, 190, 226, 46, 64, 159, 150, 233, 61, 126, 17, 115, 147, 23, 42]
def k3L : List Int := [43, 126, 21, 22, 40, 174, 210, 166, 171, 247, 21, 136, 9, 207, 79, 60]
theorem d3_at : ∀ i : Fin 16, d3L.getD i.1 0 = (d3 i.1 : Nat) := by decide +kernel
theorem k3_at : ∀ i : Fin 16, k3L.getD i.1 0 = (key3 i.1 : Nat) := by decide +kernel
theorem o3_at : ∀ i : Fin 16, ((Nat.xor (d3 i.1) ((⟨3968655219, 2556460208, 4073854581, 3936264676⟩ : W4).by i.1) : Nat) : Int) = o3.getD i.1 0 := by decide +kernel
theorem o3_xor : xorL 10 (schedK 4 key3) s3 0 d3 16 = o3 := by
  refine ext_getD (xorL_length _ _ _ _ _ _) rfl (fun j hj => ?_)
  rw [← o3_at ⟨j, hj⟩]
  have h1 : (xorL 10 (schedK 4 key3) s3 0 d3 16).getD j 0 = ((Nat.xor (d3 j) (ksb 10 (schedK 4 key3) s3 (0 + j)) : Nat) : Int) := by simp [xorL, List.getD, hj]
  rw [h1, ksb, Nat.zero_add, Nat.div_eq_of_lt hj, Nat.mod_eq_of_lt hj, ctr3, encW_congr (by decide) sched3, vec3]
theorem in17 : ofF f17 = ⟨1122867, 1146447479, 2291772091, 3437096703⟩ := by
  have h : (ofF f17).a = 1122867 ∧ (ofF f17).b = 1146447479 ∧ (ofF f17).c = 2291772091 ∧ (ofF f17).d = 3437096703 := by decide +kernel
  obtain ⟨a, b, c, d⟩ := h
  generalize ofF f17 = x at a b c d
  cases x
  simp only at a b c d
  rw [a, b, c, d]
theorem want16 : (encW 10 (schedK 4 key16) (ofF f17)).blk = .agg #[.int .u8 105, .int .u8 196, .int .u8 224, .int .u8 216, .int .u8 106, .int .u8 123, .int .u8 4, .int .u8 48, .int .u8 216, .int .u8 205, .int .u8 183, .int .u8 128, .int .u8 112, .int .u8 180, .int .u8 197, .int .u8 90] := by rw [in17, encW_congr (by decide) sched16, vec16]; rfl
theorem want24 : (encW 12 (schedK 6 key24) (ofF f17)).blk = .agg #[.int .u8 221, .int .u8 169, .int .u8 124, .int .u8 164, .int .u8 134, .int .u8 76, .int .u8 223, .int .u8 224, .int .u8 110, .int .u8 175, .int .u8 112, .int .u8 160, .int .u8 236, .int .u8 13, .int .u8 113, .int .u8 145] := by rw [in17, encW_congr (by decide) sched24, vec24]; rfl
theorem want32 : (encW 14 (schedK 8 key32) (ofF f17)).blk = .agg #[.int .u8 142, .int .u8 162, .int .u8 183, .int .u8 202, .int .u8 81, .int .u8 103, .int .u8 69, .int .u8 191, .int .u8 234, .int .u8 252, .int .u8 73, .int .u8 144, .int .u8 75, .int .u8 73, .int .u8 96, .int .u8 137] := by rw [in17, encW_congr (by decide) sched32, vec32]; rfl
theorem word4 : schedK 4 key3 4 = 2700803607 := by rw [sched3 4 (by decide)]; decide +kernel
theorem word43 : schedK 4 key3 43 = 3059944614 := by rw [sched3 43 (by decide)]; decide +kernel
/-- A world behind w in which the table stands. -/
structure Inn (w u : World) : Prop where
  rc : RC u
  pos : 0 < u.heap.size
  old : Below w.heap.size w u
theorem Inn.below {w u u' : World} (h : Inn w u) (hb : Below u.heap.size u u') : Inn w u' := ⟨h.rc.below hb h.pos, Nat.lt_of_lt_of_le h.pos hb.size, h.old.trans (hb.mono h.old.size)⟩
theorem RC.touch {u u' : World} {g o n : Nat} (h : RC u) (ht : Touch u u' g o n) (h0 : 0 < u.heap.size) (hg : 0 < g) : RC u' := fun i hi => (ht.far (p := ⟨0, i, none⟩) h0 (by show 0 ≠ g; omega)).trans (h i hi)
theorem Inn.touch {w u u' : World} {g o n : Nat} (h : Inn w u) (ht : Touch u u' g o n) (hg : w.heap.size ≤ g) (h0 : 0 < w.heap.size) : Inn w u' := ⟨h.rc.touch ht h.pos (by omega), Nat.lt_of_lt_of_le h.pos ht.size, h.old.trans (ht.toBelow hg h.old.size)⟩
theorem Inn.touch2 {w u u' : World} {g t : Nat} (h : Inn w u) (ht : Touch2 u u' g t) (hg : w.heap.size ≤ g) (hgt : w.heap.size ≤ t) (h0 : 0 < w.heap.size) : Inn w u' :=
  ⟨fun i hi => (World.cell?_of_block (ht.block 0 h.pos (by omega) (by omega))).trans (h.rc i hi), Nat.lt_of_lt_of_le h.pos ht.size, h.old.trans (ht.toBelow hg hgt h.old.size)⟩
theorem there_one16 (w : World) : (w.alloc (.cells #[.int .u8 0, .int .u8 0, .int .u8 0, .int .u8 0, .int .u8 0, .int .u8 0, .int .u8 0, .int .u8 0, .int .u8 0, .int .u8 0, .int .u8 0, .int .u8 0, .int .u8 0, .int .u8 0, .int .u8 0, .int .u8 0] 42)).there w.heap.size 0 16 := there_own16 w _ 42 rfl
set_option maxHeartbeats 6400000 in
set_option maxRecDepth 100000 in
theorem vectors_ok (w : World) (hrc : RC w) (hpos : 0 < w.heap.size) : Calls Tryd.prog 5 #[] w fun e w' => e = .returned (.bool true) ∧ Below w.heap.size w w' := by
  have HI0 : Hid (Inn w w) := ⟨hrc, hpos, Below.refl _ _⟩
  have HP : Hid (0 < w.heap.size) := hpos
  clear hrc hpos
  have C17 : Hid (∀ u, Calls Tryd.prog 26 #[.int .i64 16, .int .i64 17] u fun e w' => ∃ g c, e = .returned (.slice (some ⟨g, 0, none⟩) 16 c) ∧ u.heap.size ≤ g ∧ g < w'.heap.size ∧ (∀ i, i < 16 → w'.cell? ⟨g, i, none⟩ = some (.int .u8 ((i * 17 % 256 : Nat) : Int))) ∧ Below u.heap.size u w') := fun u => counted_ok 16 17 u (by decide) (by decide) (by decide)
  obtain ⟨L, HL⟩ : ∃ L, Hid (L = (ofF f17).bytes) := ⟨_, rfl⟩
  have HLl : Hid (L.length = 16) := by show _ = _; rw [HL.out]; rfl
  have HLo : Hid (L.toArray.all (·.oneCell') = true) := by show _ = _; rw [HL.out]; kernel_rfl
  go_enter Tryd.func5, Tryd.ntmps5
  go_wp2_with (first | (go_at_call 26; refine (C17.out _).mono ?_))
  rintro e1 w1 ⟨g1, c1, rfl, hg1, hl1, hc1, hb1⟩
  have HI1 : Hid (Inn w w1) := HI0.out.below hb1
  have KB : Hid (Calls Tryd.prog 25 #[.slice (some ⟨g1, 0, none⟩) 16 c1] w1 fun e w' => e = .returned (.agg L.toArray) ∧ Below w1.heap.size w1 w') := by
    rw [HL.out]
    exact blockOf_ok g1 0 c1 f17 w1 hl1 (fun i hi => by rw [Nat.zero_add]; exact hc1 i hi) f17_lt
  clear hg1 hl1 hc1 hb1 HI0 C17
  go_wp2_with (first | (go_at_call 25; refine KB.out.mono ?_))
  rintro e2 w2 ⟨rfl, hb2⟩
  have HI2 : Hid (Inn w w2) := HI1.out.below hb2
  clear hb2 KB HI1
  have hTH : ((w2.alloc (.cells #[.int .u8 0, .int .u8 0, .int .u8 0, .int .u8 0, .int .u8 0, .int .u8 0, .int .u8 0, .int .u8 0, .int .u8 0, .int .u8 0, .int .u8 0, .int .u8 0, .int .u8 0, .int .u8 0, .int .u8 0, .int .u8 0] 42)).there w2.heap.size 0 L.length) := by rw [HLl.out]; exact there_one16 w2
  go_wp2_with (first
    | (refine wpList_store_mid (by rfl) 42 (.tmp 1) (.tmp 11) (by rfl) w2.heap.size 0 L.toArray (by rfl) (by rfl) (by simpa using hTH) (by rw [List.size_toArray, HLl.out]; exact size42) HLo.out ?_)
    | fail)
  have H3 : Hid (Inn w ((w2.alloc (.cells #[.int .u8 0, .int .u8 0, .int .u8 0, .int .u8 0, .int .u8 0, .int .u8 0, .int .u8 0, .int .u8 0, .int .u8 0, .int .u8 0, .int .u8 0, .int .u8 0, .int .u8 0, .int .u8 0, .int .u8 0, .int .u8 0] 42)).setCells w2.heap.size 0 L) ∧ ((w2.alloc (.cells #[.int .u8 0, .int .u8 0, .int .u8 0, .int .u8 0, .int .u8 0, .int .u8 0, .int .u8 0, .int .u8 0, .int .u8 0, .int .u8 0, .int .u8 0, .int .u8 0, .int .u8 0, .int .u8 0, .int .u8 0, .int .u8 0] 42)).setCells w2.heap.size 0 L).rangeAt w2.heap.size 0 L ∧ w2.heap.size < ((w2.alloc (.cells #[.int .u8 0, .int .u8 0, .int .u8 0, .int .u8 0, .int .u8 0, .int .u8 0, .int .u8 0, .int .u8 0, .int .u8 0, .int .u8 0, .int .u8 0, .int .u8 0, .int .u8 0, .int .u8 0, .int .u8 0, .int .u8 0] 42)).setCells w2.heap.size 0 L).heap.size) :=
    ⟨HI2.out.below (below_setCells _ (Nat.le_refl _) _ _ _ ((Below.refl _ w2).alloc (Nat.le_refl _) _)), World.rangeAt_setCells_same _ _ _ _ hTH, by rw [size_setCells]; simp⟩
  generalize (w2.alloc (.cells #[.int .u8 0, .int .u8 0, .int .u8 0, .int .u8 0, .int .u8 0, .int .u8 0, .int .u8 0, .int .u8 0, .int .u8 0, .int .u8 0, .int .u8 0, .int .u8 0, .int .u8 0, .int .u8 0, .int .u8 0, .int .u8 0] 42)).setCells w2.heap.size 0 L = w3 at H3 ⊢
  generalize w2.heap.size = B at H3 ⊢
  clear hTH HI2
  have gl : Hid (∀ u, Below w3.heap.size w3 u → u.rangeAt B 0 L) := fun u hu j v hv => (hu.cell (p := ⟨B, 0 + j, none⟩) H3.out.2.2).trans (H3.out.2.1 j v hv)
  have C1 : Hid (∀ u, Calls Tryd.prog 26 #[.int .i64 16, .int .i64 1] u fun e w' => ∃ g c, e = .returned (.slice (some ⟨g, 0, none⟩) 16 c) ∧ u.heap.size ≤ g ∧ g < w'.heap.size ∧ (∀ i, i < 16 → w'.cell? ⟨g, i, none⟩ = some (.int .u8 ((i * 1 % 256 : Nat) : Int))) ∧ Below u.heap.size u w') := fun u => counted_ok 16 1 u (by decide) (by decide) (by decide)
  have hS0 : Below w3.heap.size w3 w3.drew := (Below.refl _ _).drew
  refine wp_region_noPanic ?_
  refine wp_region_held_drew (S := fun u => Below w3.heap.size w3 u) (by kernel_rfl) (hS0) (fun _ => ?_)
  refine takeH_at 1 13 (.agg L.toArray) rfl rfl (by kernel_rfl) (by kernel_rfl) (by kernel_rfl) (fun _ _ _ h => h) (hS0) (yieldsIf_load_mid (by rfl) 42 (.tmp 1) rfl B 0 rfl L _ (fun u hu => gl.out u hu) Tryd.underlying42 rfl (by rw [HLl.out]; exact size42)) ?_
  simp only [List.setIfInBounds_toArray, List.set_cons_zero, List.set_cons_succ]
  refine takeH_at 2 14 (.agg #[.int .u8 105, .int .u8 196, .int .u8 224, .int .u8 216, .int .u8 106, .int .u8 123, .int .u8 4, .int .u8 48, .int .u8 216, .int .u8 205, .int .u8 183, .int .u8 128, .int .u8 112, .int .u8 180, .int .u8 197, .int .u8 90]) rfl rfl (by kernel_rfl) (by kernel_rfl) (by kernel_rfl) (fun _ _ _ h => h) (hS0) (yieldsIf_build (by rfl) 42 #[(0, .const (.int .u8 105)), (1, .const (.int .u8 196)), (2, .const (.int .u8 224)), (3, .const (.int .u8 216)), (4, .const (.int .u8 106)), (5, .const (.int .u8 123)), (6, .const (.int .u8 4)), (7, .const (.int .u8 48)), (8, .const (.int .u8 216)), (9, .const (.int .u8 205)), (10, .const (.int .u8 183)), (11, .const (.int .u8 128)), (12, .const (.int .u8 112)), (13, .const (.int .u8 180)), (14, .const (.int .u8 197)), (15, .const (.int .u8 90))] rfl _ (by simp only [List.map_toArray, List.map_cons, List.map_nil]; kernel_rfl)) ?_
  simp only [List.setIfInBounds_toArray, List.set_cons_zero, List.set_cons_succ]
  refine wpAnyH_ready (rs := [0]) (by kernel_rfl) (by simp) ?_
  refine AllReadyH.cons rfl (fun K hK => ?_) AllReadyH.nil
  go_simp
  refine (C1.out _).mono ?_
  rintro e1 v1 ⟨g1, c1, rfl, hg1, hl1, hc1, hb1⟩
  have hS1 : Below w3.heap.size w3 v1 := hS0.trans (hb1.mono hS0.size)
  have KD : Hid (Calls Tryd.prog 27 #[.slice (some ⟨g1, 0, none⟩) 16 c1, .agg L.toArray, .agg #[.int .u8 105, .int .u8 196, .int .u8 224, .int .u8 216, .int .u8 106, .int .u8 123, .int .u8 4, .int .u8 48, .int .u8 216, .int .u8 205, .int .u8 183, .int .u8 128, .int .u8 112, .int .u8 180, .int .u8 197, .int .u8 90]] v1 fun e w' => e = .returned (.bool true) ∧ Below v1.heap.size v1 w') := by
    have hin := H3.out.1.below hS1
    rw [HL.out, ← want16]
    exact does_ok g1 0 16 c1 4 key16 (ofF f17) v1 (by decide) (by decide) hl1 (fun i hi => by rw [Nat.zero_add, hc1 i hi, key16_cnt ⟨i, hi⟩]) key16_lt hin.rc hin.pos (ofF_ok f17_lt)
  clear hg1 hl1 hc1
  go_wp2_with fail
  refine hK.out _ _ hS1 (fun _ => ?_)
  clear hK K
  try simp only [List.setIfInBounds_toArray, List.set_cons_zero, List.set_cons_succ]
  refine wpAnyH_ready (rs := [3]) (by kernel_rfl) (by simp) ?_
  refine AllReadyH.cons rfl (fun K hK => ?_) AllReadyH.nil
  go_simp
  refine KD.out.mono ?_
  rintro e1 v2 ⟨rfl, hb2⟩
  have hS2 : Below w3.heap.size w3 v2 := hS1.trans (hb2.mono hS1.size)
  go_wp2_with fail
  refine hK.out _ _ hS2 (fun _ => ?_)
  clear hK K
  try simp only [List.setIfInBounds_toArray, List.set_cons_zero, List.set_cons_succ]
  refine wpAnyH_ready (rs := [4]) (by kernel_rfl) (by simp) ?_
  refine AllReadyH.cons rfl (fun K hK => ?_) AllReadyH.nil
  go_simp
  refine hK.out _ _ hS2 (fun _ => ?_)
  clear hK K
  try simp only [List.setIfInBounds_toArray, List.set_cons_zero, List.set_cons_succ]
  refine wpAnyH_done (by kernel_rfl) ?_ _
  refine NoPanic.normal ?_
  have H4 : Hid (Inn w v2 ∧ v2.rangeAt B 0 L ∧ B < v2.heap.size) := ⟨H3.out.1.below hS2, gl.out v2 hS2, Nat.lt_of_lt_of_le H3.out.2.2 hS2.size⟩
  clear gl C1 hS0 hS1 hS2 hb1 hb2 KD H3
  generalize v2 = w4 at H4 ⊢
  go_wp2_with fail
  have gl : Hid (∀ u, Below w4.heap.size w4 u → u.rangeAt B 0 L) := fun u hu j v hv => (hu.cell (p := ⟨B, 0 + j, none⟩) H4.out.2.2).trans (H4.out.2.1 j v hv)
  have C1 : Hid (∀ u, Calls Tryd.prog 26 #[.int .i64 24, .int .i64 1] u fun e w' => ∃ g c, e = .returned (.slice (some ⟨g, 0, none⟩) 24 c) ∧ u.heap.size ≤ g ∧ g < w'.heap.size ∧ (∀ i, i < 24 → w'.cell? ⟨g, i, none⟩ = some (.int .u8 ((i * 1 % 256 : Nat) : Int))) ∧ Below u.heap.size u w') := fun u => counted_ok 24 1 u (by decide) (by decide) (by decide)
  have hS0 : Below w4.heap.size w4 w4.drew := (Below.refl _ _).drew
  refine wp_region_noPanic ?_
  refine wp_region_held_drew (S := fun u => Below w4.heap.size w4 u) (by kernel_rfl) (hS0) (fun _ => ?_)
  refine takeH_at 1 18 (.agg L.toArray) rfl rfl (by kernel_rfl) (by kernel_rfl) (by kernel_rfl) (fun _ _ _ h => h) (hS0) (yieldsIf_load_mid (by rfl) 42 (.tmp 1) rfl B 0 rfl L _ (fun u hu => gl.out u hu) Tryd.underlying42 rfl (by rw [HLl.out]; exact size42)) ?_
  simp only [List.setIfInBounds_toArray, List.set_cons_zero, List.set_cons_succ]
  refine takeH_at 2 19 (.agg #[.int .u8 221, .int .u8 169, .int .u8 124, .int .u8 164, .int .u8 134, .int .u8 76, .int .u8 223, .int .u8 224, .int .u8 110, .int .u8 175, .int .u8 112, .int .u8 160, .int .u8 236, .int .u8 13, .int .u8 113, .int .u8 145]) rfl rfl (by kernel_rfl) (by kernel_rfl) (by kernel_rfl) (fun _ _ _ h => h) (hS0) (yieldsIf_build (by rfl) 42 #[(0, .const (.int .u8 221)), (1, .const (.int .u8 169)), (2, .const (.int .u8 124)), (3, .const (.int .u8 164)), (4, .const (.int .u8 134)), (5, .const (.int .u8 76)), (6, .const (.int .u8 223)), (7, .const (.int .u8 224)), (8, .const (.int .u8 110)), (9, .const (.int .u8 175)), (10, .const (.int .u8 112)), (11, .const (.int .u8 160)), (12, .const (.int .u8 236)), (13, .const (.int .u8 13)), (14, .const (.int .u8 113)), (15, .const (.int .u8 145))] rfl _ (by simp only [List.map_toArray, List.map_cons, List.map_nil]; kernel_rfl)) ?_
  simp only [List.setIfInBounds_toArray, List.set_cons_zero, List.set_cons_succ]
  refine wpAnyH_ready (rs := [0]) (by kernel_rfl) (by simp) ?_
  refine AllReadyH.cons rfl (fun K hK => ?_) AllReadyH.nil
  go_simp
  refine (C1.out _).mono ?_
  rintro e1 v1 ⟨g1, c1, rfl, hg1, hl1, hc1, hb1⟩
  have hS1 : Below w4.heap.size w4 v1 := hS0.trans (hb1.mono hS0.size)
  have KD : Hid (Calls Tryd.prog 27 #[.slice (some ⟨g1, 0, none⟩) 24 c1, .agg L.toArray, .agg #[.int .u8 221, .int .u8 169, .int .u8 124, .int .u8 164, .int .u8 134, .int .u8 76, .int .u8 223, .int .u8 224, .int .u8 110, .int .u8 175, .int .u8 112, .int .u8 160, .int .u8 236, .int .u8 13, .int .u8 113, .int .u8 145]] v1 fun e w' => e = .returned (.bool true) ∧ Below v1.heap.size v1 w') := by
    have hin := H4.out.1.below hS1
    rw [HL.out, ← want24]
    exact does_ok g1 0 24 c1 6 key24 (ofF f17) v1 (by decide) (by decide) hl1 (fun i hi => by rw [Nat.zero_add, hc1 i hi, key24_cnt ⟨i, hi⟩]) key24_lt hin.rc hin.pos (ofF_ok f17_lt)
  clear hg1 hl1 hc1
  go_wp2_with fail
  refine hK.out _ _ hS1 (fun _ => ?_)
  clear hK K
  try simp only [List.setIfInBounds_toArray, List.set_cons_zero, List.set_cons_succ]
  refine wpAnyH_ready (rs := [3]) (by kernel_rfl) (by simp) ?_
  refine AllReadyH.cons rfl (fun K hK => ?_) AllReadyH.nil
  go_simp
  refine KD.out.mono ?_
  rintro e1 v2 ⟨rfl, hb2⟩
  have hS2 : Below w4.heap.size w4 v2 := hS1.trans (hb2.mono hS1.size)
  go_wp2_with fail
  refine hK.out _ _ hS2 (fun _ => ?_)
  clear hK K
  try simp only [List.setIfInBounds_toArray, List.set_cons_zero, List.set_cons_succ]
  refine wpAnyH_ready (rs := [4]) (by kernel_rfl) (by simp) ?_
  refine AllReadyH.cons rfl (fun K hK => ?_) AllReadyH.nil
  go_simp
  refine hK.out _ _ hS2 (fun _ => ?_)
  clear hK K
  try simp only [List.setIfInBounds_toArray, List.set_cons_zero, List.set_cons_succ]
  refine wpAnyH_done (by kernel_rfl) ?_ _
  refine NoPanic.normal ?_
  have H5 : Hid (Inn w v2 ∧ v2.rangeAt B 0 L ∧ B < v2.heap.size) := ⟨H4.out.1.below hS2, gl.out v2 hS2, Nat.lt_of_lt_of_le H4.out.2.2 hS2.size⟩
  clear gl C1 hS0 hS1 hS2 hb1 hb2 KD H4
  generalize v2 = w5 at H5 ⊢
  go_wp2_with fail
  have gl : Hid (∀ u, Below w5.heap.size w5 u → u.rangeAt B 0 L) := fun u hu j v hv => (hu.cell (p := ⟨B, 0 + j, none⟩) H5.out.2.2).trans (H5.out.2.1 j v hv)
  have C1 : Hid (∀ u, Calls Tryd.prog 26 #[.int .i64 32, .int .i64 1] u fun e w' => ∃ g c, e = .returned (.slice (some ⟨g, 0, none⟩) 32 c) ∧ u.heap.size ≤ g ∧ g < w'.heap.size ∧ (∀ i, i < 32 → w'.cell? ⟨g, i, none⟩ = some (.int .u8 ((i * 1 % 256 : Nat) : Int))) ∧ Below u.heap.size u w') := fun u => counted_ok 32 1 u (by decide) (by decide) (by decide)
  have hS0 : Below w5.heap.size w5 w5.drew := (Below.refl _ _).drew
  refine wp_region_noPanic ?_
  refine wp_region_held_drew (S := fun u => Below w5.heap.size w5 u) (by kernel_rfl) (hS0) (fun _ => ?_)
  refine takeH_at 1 23 (.agg L.toArray) rfl rfl (by kernel_rfl) (by kernel_rfl) (by kernel_rfl) (fun _ _ _ h => h) (hS0) (yieldsIf_load_mid (by rfl) 42 (.tmp 1) rfl B 0 rfl L _ (fun u hu => gl.out u hu) Tryd.underlying42 rfl (by rw [HLl.out]; exact size42)) ?_
  simp only [List.setIfInBounds_toArray, List.set_cons_zero, List.set_cons_succ]
  refine takeH_at 2 24 (.agg #[.int .u8 142, .int .u8 162, .int .u8 183, .int .u8 202, .int .u8 81, .int .u8 103, .int .u8 69, .int .u8 191, .int .u8 234, .int .u8 252, .int .u8 73, .int .u8 144, .int .u8 75, .int .u8 73, .int .u8 96, .int .u8 137]) rfl rfl (by kernel_rfl) (by kernel_rfl) (by kernel_rfl) (fun _ _ _ h => h) (hS0) (yieldsIf_build (by rfl) 42 #[(0, .const (.int .u8 142)), (1, .const (.int .u8 162)), (2, .const (.int .u8 183)), (3, .const (.int .u8 202)), (4, .const (.int .u8 81)), (5, .const (.int .u8 103)), (6, .const (.int .u8 69)), (7, .const (.int .u8 191)), (8, .const (.int .u8 234)), (9, .const (.int .u8 252)), (10, .const (.int .u8 73)), (11, .const (.int .u8 144)), (12, .const (.int .u8 75)), (13, .const (.int .u8 73)), (14, .const (.int .u8 96)), (15, .const (.int .u8 137))] rfl _ (by simp only [List.map_toArray, List.map_cons, List.map_nil]; kernel_rfl)) ?_
  simp only [List.setIfInBounds_toArray, List.set_cons_zero, List.set_cons_succ]
  refine wpAnyH_ready (rs := [0]) (by kernel_rfl) (by simp) ?_
  refine AllReadyH.cons rfl (fun K hK => ?_) AllReadyH.nil
  go_simp
  refine (C1.out _).mono ?_
  rintro e1 v1 ⟨g1, c1, rfl, hg1, hl1, hc1, hb1⟩
  have hS1 : Below w5.heap.size w5 v1 := hS0.trans (hb1.mono hS0.size)
  have KD : Hid (Calls Tryd.prog 27 #[.slice (some ⟨g1, 0, none⟩) 32 c1, .agg L.toArray, .agg #[.int .u8 142, .int .u8 162, .int .u8 183, .int .u8 202, .int .u8 81, .int .u8 103, .int .u8 69, .int .u8 191, .int .u8 234, .int .u8 252, .int .u8 73, .int .u8 144, .int .u8 75, .int .u8 73, .int .u8 96, .int .u8 137]] v1 fun e w' => e = .returned (.bool true) ∧ Below v1.heap.size v1 w') := by
    have hin := H5.out.1.below hS1
    rw [HL.out, ← want32]
    exact does_ok g1 0 32 c1 8 key32 (ofF f17) v1 (by decide) (by decide) hl1 (fun i hi => by rw [Nat.zero_add, hc1 i hi, key32_cnt ⟨i, hi⟩]) key32_lt hin.rc hin.pos (ofF_ok f17_lt)
  clear hg1 hl1 hc1
  go_wp2_with fail
  refine hK.out _ _ hS1 (fun _ => ?_)
  clear hK K
  try simp only [List.setIfInBounds_toArray, List.set_cons_zero, List.set_cons_succ]
  refine wpAnyH_ready (rs := [3]) (by kernel_rfl) (by simp) ?_
  refine AllReadyH.cons rfl (fun K hK => ?_) AllReadyH.nil
  go_simp
  refine KD.out.mono ?_
  rintro e1 v2 ⟨rfl, hb2⟩
  have hS2 : Below w5.heap.size w5 v2 := hS1.trans (hb2.mono hS1.size)
  go_wp2_with fail
  refine hK.out _ _ hS2 (fun _ => ?_)
  clear hK K
  try simp only [List.setIfInBounds_toArray, List.set_cons_zero, List.set_cons_succ]
  refine wpAnyH_ready (rs := [4]) (by kernel_rfl) (by simp) ?_
  refine AllReadyH.cons rfl (fun K hK => ?_) AllReadyH.nil
  go_simp
  refine hK.out _ _ hS2 (fun _ => ?_)
  clear hK K
  try simp only [List.setIfInBounds_toArray, List.set_cons_zero, List.set_cons_succ]
  refine wpAnyH_done (by kernel_rfl) ?_ _
  refine NoPanic.normal ?_
  have H6 : Hid (Inn w v2 ∧ v2.rangeAt B 0 L ∧ B < v2.heap.size) := ⟨H5.out.1.below hS2, gl.out v2 hS2, Nat.lt_of_lt_of_le H5.out.2.2 hS2.size⟩
  clear gl C1 hS0 hS1 hS2 hb1 hb2 KD H5
  generalize v2 = w6 at H6 ⊢
  go_wp2_with fail
  have HA6 : Hid (Below w6.heap.size w6 (w6.alloc (.cells #[.int .u8 43, .int .u8 126, .int .u8 21, .int .u8 22, .int .u8 40, .int .u8 174, .int .u8 210, .int .u8 166, .int .u8 171, .int .u8 247, .int .u8 21, .int .u8 136, .int .u8 9, .int .u8 207, .int .u8 79, .int .u8 60] 5)) ∧ w6.heap.size < (w6.alloc (.cells #[.int .u8 43, .int .u8 126, .int .u8 21, .int .u8 22, .int .u8 40, .int .u8 174, .int .u8 210, .int .u8 166, .int .u8 171, .int .u8 247, .int .u8 21, .int .u8 136, .int .u8 9, .int .u8 207, .int .u8 79, .int .u8 60] 5)).heap.size ∧ ∀ i, i < 16 → (w6.alloc (.cells #[.int .u8 43, .int .u8 126, .int .u8 21, .int .u8 22, .int .u8 40, .int .u8 174, .int .u8 210, .int .u8 166, .int .u8 171, .int .u8 247, .int .u8 21, .int .u8 136, .int .u8 9, .int .u8 207, .int .u8 79, .int .u8 60] 5)).cell? ⟨w6.heap.size, 0 + i, none⟩ = some (.int .u8 (key3 i : Nat))) :=
    ⟨(Below.refl _ w6).alloc (Nat.le_refl _) _, by simp, fun i hi => (written w6 k3L _ rfl i hi).trans (by rw [k3_at ⟨i, hi⟩])⟩
  generalize w6.alloc (.cells #[.int .u8 43, .int .u8 126, .int .u8 21, .int .u8 22, .int .u8 40, .int .u8 174, .int .u8 210, .int .u8 166, .int .u8 171, .int .u8 247, .int .u8 21, .int .u8 136, .int .u8 9, .int .u8 207, .int .u8 79, .int .u8 60] 5) = w7 at HA6 ⊢
  have HI7 : Hid (Inn w w7) := H6.out.1.below HA6.out.1
  refine (new_ok w6.heap.size 0 16 16 4 key3 w7 (by decide) (by decide) HA6.out.2.1 HA6.out.2.2 key3_lt HI7.out.rc HI7.out.pos).mono ?_
  rintro e7 w8 ⟨k, rfl, hk7, hk8, hb8⟩
  have H8 : Hid (Inn w w8 ∧ KeyAt w8 k 10 (schedK 4 key3) ∧ w.heap.size ≤ k) := ⟨HI7.out.below hb8, hk8, Nat.le_trans HI7.out.old.size hk7⟩
  clear hk7 hk8 hb8 HA6 HI7 H6
  have KW : Hid (Calls Tryd.prog 15 #[.pointer (some ⟨k, 0, none⟩)] w8 fun e w' => ∃ v, e = .returned v ∧ w'.ownsRow w8.heap.size 50 1 v 44 (wordsL (schedK 4 key3) 44) ∧ KeyAt w' k 10 (schedK 4 key3) ∧ Touch w8 w' k 4 1) := words_ok k 10 (schedK 4 key3) w8 H8.out.2.1
  go_wp2_with (first
    | (go_at_call 11; refine (num_ok _ _).mono ?_; rintro e9 w9 ⟨rfl, hw9⟩; obtain rfl := hw9.symm)
    | (go_at_call 15; refine KW.out.mono ?_))
  rintro e9 w9 ⟨v, rfl, ho9, hk9, ht9⟩
  have H9 : Hid (Inn w w9 ∧ KeyAt w9 k 10 (schedK 4 key3)) := ⟨H8.out.1.touch ht9 H8.out.2.2 HP.out, hk9⟩
  have HV : ∃ gv cv, v = .slice (some ⟨gv, 0, none⟩) 44 cv ∧ w9.cell? ⟨gv, 4, none⟩ = some (.int .u32 2700803607) ∧ w9.cell? ⟨gv, 43, none⟩ = some (.int .u32 3059944614) := by
    have hcells := ho9
    rcases ho9.2 with ⟨_, h0⟩ | ⟨gv, cv, cur, rfl, _⟩
    · omega
    · refine ⟨gv, cv, rfl, ?_, ?_⟩
      · have h := hcells.cells (g := gv) rfl 4 (.int .u32 2700803607) (by rw [wordsL_at _ _ _ (by decide), word4]; rfl)
        rw [Addr.add_lit] at h
        simpa using h
      · have h := hcells.cells (g := gv) rfl 43 (.int .u32 3059944614) (by rw [wordsL_at _ _ _ (by decide), word43]; rfl)
        rw [Addr.add_lit] at h
        simpa using h
  obtain ⟨gv, cv, rfl, cw4, cw43⟩ := HV
  clear ho9 hk9 ht9 KW
  have KR : Hid (Calls Tryd.prog 14 #[.pointer (some ⟨k, 0, none⟩)] w9 fun e w' => e = .returned (.int .i64 10) ∧ KeyAt w' k 10 (schedK 4 key3) ∧ Touch w9 w' k 4 1) := rounds_ok k 10 (schedK 4 key3) w9 H9.out.2
  go_wp2_with (first | (go_at_call 14; refine KR.out.mono ?_))
  rintro e10 w10 ⟨rfl, hk10, ht10⟩
  have H10 : Hid (Inn w w10 ∧ KeyAt w10 k 10 (schedK 4 key3)) := ⟨H9.out.1.touch ht10 H8.out.2.2 HP.out, hk10⟩
  clear hk10 ht10 KR cw4 cw43
  have KZ : Hid (Calls Tryd.prog 13 #[.pointer (some ⟨k, 0, none⟩)] w10 fun e w' => e = .returned (.int .i64 16) ∧ KeyAt w' k 10 (schedK 4 key3) ∧ Touch w10 w' k 4 1) := size_ok k 10 (schedK 4 key3) w10 H10.out.2 (by decide)
  go_wp2_with (first | (go_at_call 13; refine KZ.out.mono ?_))
  rintro e11 w11 ⟨rfl, hk11, ht11⟩
  have H11 : Hid (Inn w w11 ∧ KeyAt w11 k 10 (schedK 4 key3) ∧ w.heap.size ≤ k) := ⟨H10.out.1.touch ht11 H8.out.2.2 HP.out, hk11, H8.out.2.2⟩
  clear hk11 ht11 KZ H10 H9 H8
  have HA11 : Hid (Below w11.heap.size w11 (w11.alloc (.cells #[.int .u8 0, .int .u8 0, .int .u8 0, .int .u8 0, .int .u8 0, .int .u8 0, .int .u8 0, .int .u8 0, .int .u8 0, .int .u8 0, .int .u8 0, .int .u8 0, .int .u8 0, .int .u8 0, .int .u8 0, .int .u8 0] 42)) ∧ w11.heap.size < (w11.alloc (.cells #[.int .u8 0, .int .u8 0, .int .u8 0, .int .u8 0, .int .u8 0, .int .u8 0, .int .u8 0, .int .u8 0, .int .u8 0, .int .u8 0, .int .u8 0, .int .u8 0, .int .u8 0, .int .u8 0, .int .u8 0, .int .u8 0] 42)).heap.size ∧ (w11.alloc (.cells #[.int .u8 0, .int .u8 0, .int .u8 0, .int .u8 0, .int .u8 0, .int .u8 0, .int .u8 0, .int .u8 0, .int .u8 0, .int .u8 0, .int .u8 0, .int .u8 0, .int .u8 0, .int .u8 0, .int .u8 0, .int .u8 0] 42)).there w11.heap.size 0 16) := ⟨(Below.refl _ w11).alloc (Nat.le_refl _) _, by simp, there_one16 w11⟩
  go_wp2_with fail
  generalize w11.alloc (.cells #[.int .u8 0, .int .u8 0, .int .u8 0, .int .u8 0, .int .u8 0, .int .u8 0, .int .u8 0, .int .u8 0, .int .u8 0, .int .u8 0, .int .u8 0, .int .u8 0, .int .u8 0, .int .u8 0, .int .u8 0, .int .u8 0] 42) = w12 at HA11 ⊢
  have H12 : Hid (Inn w w12 ∧ KeyAt w12 k 10 (schedK 4 key3) ∧ k < w11.heap.size) := ⟨H11.out.1.below HA11.out.1, H11.out.2.1.below HA11.out.1 H11.out.2.1.ciph.here, H11.out.2.1.ciph.here⟩
  have HKW : Hid (w.heap.size ≤ k ∧ w.heap.size ≤ w11.heap.size) := ⟨H11.out.2.2, H11.out.1.old.size⟩
  clear H11
  generalize w11.heap.size = A at HA11 H12 HKW ⊢
  go_loopw [7] (fun i wr => ∃ q : Nat, q ≤ 16 ∧ i = .int .i64 q ∧ Hid (Touch w12 wr A 0 16 ∧ ∀ j, j < q → wr.cell? ⟨A, j, none⟩ = some (.int .u8 (240 + j : Nat)))) (fun i _ => 16 - (intOf i).toNat)
  case atStart => exact ⟨0, by omega, rfl, Touch.refl _ _ _ _, fun j hj => by omega⟩
  case round =>
    obtain ⟨q, hq, rfl, HR⟩ := hrel
    by_cases hlt : q < 16
    · have t := HR.out.1.there _ _ HA11.out.2.2 q hlt
      rw [Nat.zero_add] at t
      obtain ⟨t1, t2⟩ := t
      obtain ⟨v0, c1⟩ := Option.isSome_iff_exists.1 t1
      clear t1
      have hqi : ((q : Nat) : Int) < 16 := by omega
      have hmod : ((240 : Int) + ((q : Nat) : Int)) % 256 = ((240 + q : Nat) : Int) := by omega
      go_wp2
      refine ⟨⟨q + 1, by omega, rfl, HR.out.1.setCell q _ (by omega) (by omega), fun j hj => ?_⟩, ?_⟩
      · by_cases hjq : j = q
        · subst hjq
          refine (World.cell?_setCell_same' _ _ _ (by rw [c1]; rfl)).trans ?_
          first | rfl | (congr 1; exact val_eq (by omega))
        · rw [cell_other2 _ _ _ _ _ (Ne.symm hjq)]
          exact HR.out.2 j (by omega)
      · simp only [intOf]; omega
    · obtain rfl : q = 16 := by omega
      have H13 : Hid (Inn w wr ∧ KeyAt wr k 10 (schedK 4 key3) ∧ wr.rangeAt A 0 s3.bytes) := by
        obtain ⟨r1, r2⟩ := HR.out
        obtain ⟨p1, p2, p3⟩ := H12.out
        have hk := HKW.out
        refine ⟨p1.touch r1 hk.2 HP.out, p2.far r1 (by omega), fun j v hv => ?_⟩
        have hj : j < 16 := (List.getElem?_eq_some_iff.1 hv).1
        rw [Nat.zero_add, r2 j hj, ← hv, W4.bytes_at s3 j hj]
        have h16 : ∀ i : Fin 16, 240 + i.1 = s3.by i.1 := by decide +kernel
        rw [h16 ⟨j, hj⟩]
      clear HR H12 hlt hq
      have KT : Hid (Calls Tryd.prog 28 #[.pointer (some ⟨k, 0, none⟩), .agg s3.bytes.toArray] wr fun e w' => ∃ t, e = .returned (.tuple #[.pointer (some ⟨t, 0, none⟩), .int .i64 0]) ∧ wr.heap.size ≤ t ∧ StreamAt w' t k s3 0 ∧ KeyAt w' k 10 (schedK 4 key3) ∧ Touch wr w' k 4 1) := stream_ok k 10 (schedK 4 key3) s3 wr H13.out.2.1 s3_ok
      generalize hS3 : s3.bytes = S3 at KT H13
      have HS3 : Hid (S3.length = 16) := by show _ = _; rw [← hS3]; rfl
      clear hS3
      go_wp2_with (first
        | (refine wpList_load_mid (by rfl) 42 (.tmp 6) (by rfl) A 0 (by rfl) S3 _ H13.out.2.2 Tryd.underlying42 rfl (by rw [HS3.out]; exact size42) ?_)
        | (go_at_call 28; refine KT.out.mono ?_))
      rintro e14 w14 ⟨t, rfl, ht14, hs14, hk14, hu14⟩
      have H14 : Hid (Inn w w14 ∧ KeyAt w14 k 10 (schedK 4 key3) ∧ StreamAt w14 t k s3 0 ∧ k < t ∧ w.heap.size ≤ k) := by
        have hk := H13.out.2.1.ciph.here
        exact ⟨H13.out.1.touch hu14 HKW.out.1 HP.out, hk14, hs14, by omega, HKW.out.1⟩
      clear ht14 hs14 hk14 hu14 H13 KT
      have HA14 : Hid (Below w14.heap.size w14 (w14.alloc (.cells #[.int .u8 107, .int .u8 193, .int .u8 190, .int .u8 226, .int .u8 46, .int .u8 64, .int .u8 159, .int .u8 150, .int .u8 233, .int .u8 61, .int .u8 126, .int .u8 17, .int .u8 115, .int .u8 147, .int .u8 23, .int .u8 42] 5)) ∧ w14.heap.size < (w14.alloc (.cells #[.int .u8 107, .int .u8 193, .int .u8 190, .int .u8 226, .int .u8 46, .int .u8 64, .int .u8 159, .int .u8 150, .int .u8 233, .int .u8 61, .int .u8 126, .int .u8 17, .int .u8 115, .int .u8 147, .int .u8 23, .int .u8 42] 5)).heap.size ∧ ∀ i, i < 16 → (w14.alloc (.cells #[.int .u8 107, .int .u8 193, .int .u8 190, .int .u8 226, .int .u8 46, .int .u8 64, .int .u8 159, .int .u8 150, .int .u8 233, .int .u8 61, .int .u8 126, .int .u8 17, .int .u8 115, .int .u8 147, .int .u8 23, .int .u8 42] 5)).cell? ⟨w14.heap.size, 0 + i, none⟩ = some (.int .u8 (d3 i : Nat))) :=
        ⟨(Below.refl _ w14).alloc (Nat.le_refl _) _, by simp, fun i hi => (written w14 d3L _ rfl i hi).trans (by rw [d3_at ⟨i, hi⟩])⟩
      have KX : Hid (Calls Tryd.prog 29 #[.pointer (some ⟨t, 0, none⟩), .slice (some ⟨w14.heap.size, 0, none⟩) 16 16] (w14.alloc (.cells #[.int .u8 107, .int .u8 193, .int .u8 190, .int .u8 226, .int .u8 46, .int .u8 64, .int .u8 159, .int .u8 150, .int .u8 233, .int .u8 61, .int .u8 126, .int .u8 17, .int .u8 115, .int .u8 147, .int .u8 23, .int .u8 42] 5)) fun e w' => ∃ v, e = .returned (.tuple #[v, .int .i64 0]) ∧ w'.ownsRow (w14.alloc (.cells #[.int .u8 107, .int .u8 193, .int .u8 190, .int .u8 226, .int .u8 46, .int .u8 64, .int .u8 159, .int .u8 150, .int .u8 233, .int .u8 61, .int .u8 126, .int .u8 17, .int .u8 115, .int .u8 147, .int .u8 23, .int .u8 42] 5)).heap.size 5 1 v 16 (cellsU8 o3) ∧ KeyAt w' k 10 (schedK 4 key3) ∧ StreamAt w' t k s3 (0 + 16) ∧ Touch2 (w14.alloc (.cells #[.int .u8 107, .int .u8 193, .int .u8 190, .int .u8 226, .int .u8 46, .int .u8 64, .int .u8 159, .int .u8 150, .int .u8 233, .int .u8 61, .int .u8 126, .int .u8 17, .int .u8 115, .int .u8 147, .int .u8 23, .int .u8 42] 5)) w' k t) := by
        obtain ⟨p1, p2, p3, p4, p5⟩ := H14.out
        have hk := p2.ciph.here
        have ht := p3.here
        rw [← o3_xor]
        exact xor_ok t k 0 10 16 w14.heap.size 0 16 (schedK 4 key3) s3 d3 _ (p2.below HA14.out.1 hk) (p3.below HA14.out.1 ht) (by omega) (by decide) (by decide) HA14.out.2.1 (by omega) (by omega) (by decide) (by decide) HA14.out.2.2 d3_lt
      go_wp2_with (first
        | (go_at_call 11; refine (num_ok _ _).mono ?_; rintro e9 w9 ⟨rfl, hw9⟩; obtain rfl := hw9.symm)
        | (go_at_call 29; refine KX.out.mono ?_))
      rintro e15 w15 ⟨v, rfl, ho15, hk15, hs15, hu15⟩
      have HV : ∃ gx cx, v = .slice (some ⟨gx, 0, none⟩) 16 cx ∧ Hid (Inn w w15 ∧ gx < w15.heap.size ∧ ∀ i, i < 16 → w15.cell? ⟨gx, 0 + i, none⟩ = some (.int .u8 (o3.getD i 0))) := by
        obtain ⟨p1, p2, p3, p4, p5⟩ := H14.out
        have hin : Inn w w15 := (p1.below HA14.out.1).touch2 hu15 p5 (by omega) HP.out
        have hcells := ho15
        rcases ho15.2 with ⟨_, h0⟩ | ⟨gx, cx, cur, rfl, _⟩
        · omega
        · refine ⟨gx, cx, rfl, hin, (ho15.lt gx rfl).2, fun i hi => ?_⟩
          have h := hcells.cells (g := gx) rfl i (.int .u8 (o3.getD i 0)) (by
            have : i < o3.length := hi
            simp [cellsU8, List.getD, this])
          rw [Addr.add_lit] at h
          simpa using h
      obtain ⟨gx, cx, rfl, H15⟩ := HV
      clear ho15 hk15 hs15 hu15 KX H14 HA14
      have KS : Hid (Calls Tryd.prog 30 #[.slice (some ⟨gx, 0, none⟩) 16 cx, .slice (some ⟨w15.heap.size, 0, none⟩) 16 16] (w15.alloc (.cells #[.int .u8 135, .int .u8 77, .int .u8 97, .int .u8 145, .int .u8 182, .int .u8 32, .int .u8 227, .int .u8 38, .int .u8 27, .int .u8 239, .int .u8 104, .int .u8 100, .int .u8 153, .int .u8 13, .int .u8 182, .int .u8 206] 5)) fun e w' => e = .returned (.bool true) ∧ ∃ m, w' = (w15.alloc (.cells #[.int .u8 135, .int .u8 77, .int .u8 97, .int .u8 145, .int .u8 182, .int .u8 32, .int .u8 227, .int .u8 38, .int .u8 27, .int .u8 239, .int .u8 104, .int .u8 100, .int .u8 153, .int .u8 13, .int .u8 182, .int .u8 206] 5)).drewN m) := by
        have h := same_core gx 0 w15.heap.size 0 cx 16 16 o3 o3 (w15.alloc (.cells #[.int .u8 135, .int .u8 77, .int .u8 97, .int .u8 145, .int .u8 182, .int .u8 32, .int .u8 227, .int .u8 38, .int .u8 27, .int .u8 239, .int .u8 104, .int .u8 100, .int .u8 153, .int .u8 13, .int .u8 182, .int .u8 206] 5)) rfl rfl (by decide) (fun i hi => by rw [World.cell?_alloc_lt _ _ _ (show gx < _ from H15.out.2.1)]; exact H15.out.2.2 i hi) (fun i hi => written w15 o3 _ rfl i hi)
        rw [decide_eq_true (rfl : o3 = o3)] at h
        exact h
      go_wp2_with (first
        | (go_at_call 11; refine (num_ok _ _).mono ?_; rintro e9 w9 ⟨rfl, hw9⟩; obtain rfl := hw9.symm)
        | (go_at_call 30; refine KS.out.mono ?_))
      rintro e16 w16 ⟨rfl, m16, hw16⟩
      have H16 : Hid (Inn w w16) := by
        have hb : Below w15.heap.size w15 w16 := by rw [hw16]; exact Below.drewN ((Below.refl _ w15).alloc (Nat.le_refl _) _) m16
        exact H15.out.1.below hb
      clear hw16 KS H15
      have KF : Hid (Calls Tryd.prog 31 #[] w16 fun e w' => e = .returned (.bool true) ∧ Below w16.heap.size w16 w') := wraps_ok w16 H16.out.rc H16.out.pos
      go_wp2_with (first | (go_at_call 31; refine KF.out.mono ?_))
      rintro e17 w17 ⟨rfl, hb17⟩
      have HF : Hid (Below w.heap.size w w17) := (H16.out.below hb17).old
      clear hb17
      go_wp2
      go_ret
      exact ⟨rfl, HF.out⟩
end Go.Proofs.YtgmfiljjogdccaaDoor
namespace Go.Proofs.YtgmfiljjogdccaaDoor
open Go.ChangeShapes Go.WideShapes Go.ChangeAt Go.RowKit
theorem own : ownKnob Tryd.prog.godebug = none := by kernel_rfl
theorem laidOut : laidOutB Tryd.prog = true := by kernel_rfl
/-- The table, as the document lays it. -/
def rconL : List Int := [1, 2, 4, 8, 16, 32, 64, 128, 27, 54]
/-- A block that holds a table. -/
def refilled (zs : List Int) : Obj → Obj
  | .cells _ t frozen => .cells (zs.map (Value.int .u8)).toArray t frozen
  | o => o
theorem rcon_at : ∀ i : Fin 10, rconL.getD i.1 0 = (rcT i.1 : Nat) := by decide +kernel
theorem rc_of {W : World} (h : laidMet Tryd.prog [("coffer/rijndael.rcon", Lib.tabData .u8 rconL)] W) : RC W := by
  have hr : Lib.TabIs Tryd.prog W "coffer/rijndael.rcon" .u8 rconL := Lib.tabIs_of_head (g := 0) (t := 104) (e := 5) (n := 10) (by kernel_rfl) (by kernel_rfl) (by kernel_rfl) (by kernel_rfl) (by kernel_rfl) (by kernel_rfl) h
  intro i hi
  have hc := hr.cell (g := 0) (by kernel_rfl) i (by simpa [rconL] using hi)
  rw [hc, ← rcon_at ⟨i, hi⟩]
end Go.Proofs.YtgmfiljjogdccaaDoor
