import Derived.Test.YtioggmjocelolabDoorStr
import Derived.Test.YtioggmjocelolabDoorCuts
namespace Go.Proofs.YtioggmjocelolabDoor
open Go.RowKit
set_option linter.unusedVariables false
set_option linter.unusedSimpArgs false
theorem take_pre {f : Nat → List Int} {s : Nat} (hl : ∀ q, (f q).length = q * s) (hp : ∀ i j, ∃ r, f (i + j) = f i ++ r) (n q q' : Nat) (h1 : n ≤ q * s) (h2 : n ≤ q' * s) : (f q).take n = (f q').take n := by
  rcases Nat.le_total q q' with hle | hle
  · obtain ⟨r, hr⟩ := hp q (q' - q)
    rw [show q + (q' - q) = q' by omega] at hr
    rw [hr, List.take_append_of_le_length (by rw [hl]; exact h1)]
  · obtain ⟨r, hr⟩ := hp q' (q - q')
    rw [show q' + (q - q') = q by omega] at hr
    rw [hr, List.take_append_of_le_length (by rw [hl]; exact h2)]
theorem sz_div {h : Int} (k : Known h) : h.tdiv 8 = (szOf h : Nat) ∧ 0 ≤ h ∧ h ≤ 512 := by
  rcases k with rfl | rfl | rfl | rfl <;> decide
set_option maxHeartbeats 800000 in
/-- Extract. -/
theorem extract_ok (h : Int) (xa ya : Option Addr) (xl xc yl yc : Nat) (X Y : List Int) (w : World) (k : Hid (Known h)) (hT : Hid (Tables w)) (hx : Hid (View w (.slice xa xl xc) X)) (hxl : Hid (X.length ≤ 33554432)) (hy : Hid (View w (.slice ya yl yc) Y)) (hyl : Hid (Y.length ≤ 33554432)) :
    Calls Tryd.prog 13 #[.int .i64 h, .slice xa xl xc, .slice ya yl yc] w fun e w' => ∃ b, e = .returned (.tuple #[.slice (some ⟨b, 0, none⟩) (szOf h) (szOf h), .int .i64 0]) ∧ View w' (.slice (some ⟨b, 0, none⟩) (szOf h) (szOf h)) (hmac h X Y) ∧ Below w.heap.size w w' := by
  have H16 : Hid (∀ t, Calls Tryd.prog 16 #[.int .i64 h, .slice xa xl xc, .slice (some ⟨w.heap.size, 0, none⟩) 1 1] (w.alloc (.cells #[.slice ya yl yc] t)) fun e w' => Hid (∃ b, e = .returned (.tuple #[.slice (some ⟨b, 0, none⟩) (szOf h) (szOf h), .int .i64 0]) ∧ View w' (.slice (some ⟨b, 0, none⟩) (szOf h) (szOf h)) (hmac h X Y) ∧ Below w.heap.size w w')) := fun t => by
    refine (dcode1 k.out w t _ X _ Y hx.out hxl.out hy.out hT.out hyl.out).mono ?_
    rintro e w' ⟨b, q1, _, _, q2, q3⟩
    exact ⟨b, q1, q2, q3⟩
  go_enter Tryd.func13, Tryd.ntmps13
  go_wp2_with (go_at_call 16; refine (H16.out _).mono ?_)
  intro e1 w1 hh
  obtain ⟨b, rfl, ho, hb⟩ := hh.out
  have HO : Hid (View w1 (.slice (some ⟨b, 0, none⟩) (szOf h) (szOf h)) (hmac h X Y)) := ho
  have HB : Hid (Below w.heap.size w w1) := hb
  clear hh ho hb H16
  go_wp2
  go_ret2
  exact ⟨_, rfl, HO.out, HB.out⟩
set_option maxHeartbeats 800000 in
set_option maxRecDepth 100000 in
theorem pf_0 (h t n mo : Int) (pa sa ia : Option Addr) (pn pc sn sc il ic : Nat) (w : World) (hp0 : pn ≤ 140737488355328) (hs0 : sn ≤ 140737488355328) (k : ¬ Known h) :
    Calls Tryd.prog 3 #[.agg #[.int .i64 h, .slice pa pn pc, .slice sa sn sc, .slice ia il ic, .int .i64 t, .int .i64 n], .int .i64 mo] w fun e w' => e = .returned (.bool true) ∧ Below w.heap.size w w' := by
  have HK9 : Hid (∀ u, Calls Tryd.prog 9 #[.int .i64 h] u fun e w' => e = .returned (.bool false) ∧ w' = u) := fun u => known_not h u k
  obtain ⟨w0, hw0⟩ : ∃ w0, w0 = w.alloc (.cells #[.int .i64 h, .slice pa pn pc, .slice sa sn sc, .slice ia il ic, .int .i64 t, .int .i64 n] 24) := ⟨_, rfl⟩
  have HB00 : Hid (Below w.heap.size w w0) := by rw [hw0]; exact (Below.refl _ _).alloc (Nat.le_refl _) _
  have F : ∀ j v, (#[.int .i64 h, .slice pa pn pc, .slice sa sn sc, .slice ia il ic, .int .i64 t, .int .i64 n] : Array Value)[j]? = some v → w0.cell? ⟨w.heap.size, j, none⟩ = some v := fun j v hj => by
    rw [hw0, World.cell?_alloc_at _ 24 _ _ rfl]
    exact hj
  have f0 := F 0 _ rfl
  have f1 := F 1 _ rfl
  have f2 := F 2 _ rfl
  have f4 := F 4 _ rfl
  have f5 := F 5 _ rfl
  clear F
  go_enter Tryd.func3, Tryd.ntmps3
  go_upto_region 1 with fail
  rw [← hw0]
  clear hw0
  go_wp2_with (go_at_call 9; refine (HK9.out _).mono ?_; rintro e1 wx ⟨rfl, hwx⟩; obtain rfl := hwx.symm)
  go_ret
  exact ⟨rfl, HB00.out⟩
set_option maxHeartbeats 800000 in
set_option maxRecDepth 100000 in
theorem pf_1 (h t n mo : Int) (pa sa ia : Option Addr) (pn pc sn sc il ic : Nat) (w : World) (hp0 : pn ≤ 140737488355328) (hs0 : sn ≤ 140737488355328) (k : Known h)  (c0 : t < 1) :
    Calls Tryd.prog 3 #[.agg #[.int .i64 h, .slice pa pn pc, .slice sa sn sc, .slice ia il ic, .int .i64 t, .int .i64 n], .int .i64 mo] w fun e w' => e = .returned (.bool true) ∧ Below w.heap.size w w' := by
  have HK9 : Hid (∀ u, Calls Tryd.prog 9 #[.int .i64 h] u fun e w' => e = .returned (.bool true) ∧ w' = u) := fun u => known_any h u k
  obtain ⟨w0, hw0⟩ : ∃ w0, w0 = w.alloc (.cells #[.int .i64 h, .slice pa pn pc, .slice sa sn sc, .slice ia il ic, .int .i64 t, .int .i64 n] 24) := ⟨_, rfl⟩
  have HB00 : Hid (Below w.heap.size w w0) := by rw [hw0]; exact (Below.refl _ _).alloc (Nat.le_refl _) _
  have F : ∀ j v, (#[.int .i64 h, .slice pa pn pc, .slice sa sn sc, .slice ia il ic, .int .i64 t, .int .i64 n] : Array Value)[j]? = some v → w0.cell? ⟨w.heap.size, j, none⟩ = some v := fun j v hj => by
    rw [hw0, World.cell?_alloc_at _ 24 _ _ rfl]
    exact hj
  have f0 := F 0 _ rfl
  have f1 := F 1 _ rfl
  have f2 := F 2 _ rfl
  have f4 := F 4 _ rfl
  have f5 := F 5 _ rfl
  clear F
  go_enter Tryd.func3, Tryd.ntmps3
  go_upto_region 1 with fail
  rw [← hw0]
  clear hw0
  go_wp2_with (go_at_call 9; refine (HK9.out _).mono ?_; rintro e1 wx ⟨rfl, hwx⟩; obtain rfl := hwx.symm)
  go_ret
  exact ⟨rfl, HB00.out⟩
set_option maxHeartbeats 800000 in
set_option maxRecDepth 100000 in
theorem pf_2 (h t n mo : Int) (pa sa ia : Option Addr) (pn pc sn sc il ic : Nat) (w : World) (hp0 : pn ≤ 140737488355328) (hs0 : sn ≤ 140737488355328) (k : Known h) (c0 : ¬ t < 1) (c1 : 20 < t) :
    Calls Tryd.prog 3 #[.agg #[.int .i64 h, .slice pa pn pc, .slice sa sn sc, .slice ia il ic, .int .i64 t, .int .i64 n], .int .i64 mo] w fun e w' => e = .returned (.bool true) ∧ Below w.heap.size w w' := by
  have HK9 : Hid (∀ u, Calls Tryd.prog 9 #[.int .i64 h] u fun e w' => e = .returned (.bool true) ∧ w' = u) := fun u => known_any h u k
  obtain ⟨w0, hw0⟩ : ∃ w0, w0 = w.alloc (.cells #[.int .i64 h, .slice pa pn pc, .slice sa sn sc, .slice ia il ic, .int .i64 t, .int .i64 n] 24) := ⟨_, rfl⟩
  have HB00 : Hid (Below w.heap.size w w0) := by rw [hw0]; exact (Below.refl _ _).alloc (Nat.le_refl _) _
  have F : ∀ j v, (#[.int .i64 h, .slice pa pn pc, .slice sa sn sc, .slice ia il ic, .int .i64 t, .int .i64 n] : Array Value)[j]? = some v → w0.cell? ⟨w.heap.size, j, none⟩ = some v := fun j v hj => by
    rw [hw0, World.cell?_alloc_at _ 24 _ _ rfl]
    exact hj
  have f0 := F 0 _ rfl
  have f1 := F 1 _ rfl
  have f2 := F 2 _ rfl
  have f4 := F 4 _ rfl
  have f5 := F 5 _ rfl
  clear F
  go_enter Tryd.func3, Tryd.ntmps3
  go_upto_region 1 with fail
  rw [← hw0]
  clear hw0
  go_wp2_with (go_at_call 9; refine (HK9.out _).mono ?_; rintro e1 wx ⟨rfl, hwx⟩; obtain rfl := hwx.symm)
  go_ret
  exact ⟨rfl, HB00.out⟩
set_option maxHeartbeats 800000 in
set_option maxRecDepth 100000 in
theorem pf_3 (h t n mo : Int) (pa sa ia : Option Addr) (pn pc sn sc il ic : Nat) (w : World) (hp0 : pn ≤ 140737488355328) (hs0 : sn ≤ 140737488355328) (k : Known h) (c0 : ¬ t < 1) (c1 : ¬ 20 < t) (c2 : n < 1) :
    Calls Tryd.prog 3 #[.agg #[.int .i64 h, .slice pa pn pc, .slice sa sn sc, .slice ia il ic, .int .i64 t, .int .i64 n], .int .i64 mo] w fun e w' => e = .returned (.bool true) ∧ Below w.heap.size w w' := by
  have HK9 : Hid (∀ u, Calls Tryd.prog 9 #[.int .i64 h] u fun e w' => e = .returned (.bool true) ∧ w' = u) := fun u => known_any h u k
  obtain ⟨w0, hw0⟩ : ∃ w0, w0 = w.alloc (.cells #[.int .i64 h, .slice pa pn pc, .slice sa sn sc, .slice ia il ic, .int .i64 t, .int .i64 n] 24) := ⟨_, rfl⟩
  have HB00 : Hid (Below w.heap.size w w0) := by rw [hw0]; exact (Below.refl _ _).alloc (Nat.le_refl _) _
  have F : ∀ j v, (#[.int .i64 h, .slice pa pn pc, .slice sa sn sc, .slice ia il ic, .int .i64 t, .int .i64 n] : Array Value)[j]? = some v → w0.cell? ⟨w.heap.size, j, none⟩ = some v := fun j v hj => by
    rw [hw0, World.cell?_alloc_at _ 24 _ _ rfl]
    exact hj
  have f0 := F 0 _ rfl
  have f1 := F 1 _ rfl
  have f2 := F 2 _ rfl
  have f4 := F 4 _ rfl
  have f5 := F 5 _ rfl
  clear F
  go_enter Tryd.func3, Tryd.ntmps3
  go_upto_region 1 with fail
  rw [← hw0]
  clear hw0
  go_wp2_with (go_at_call 9; refine (HK9.out _).mono ?_; rintro e1 wx ⟨rfl, hwx⟩; obtain rfl := hwx.symm)
  go_ret
  exact ⟨rfl, HB00.out⟩
set_option maxHeartbeats 800000 in
set_option maxRecDepth 100000 in
theorem pf_4 (h t n mo : Int) (pa sa ia : Option Addr) (pn pc sn sc il ic : Nat) (w : World) (hp0 : pn ≤ 140737488355328) (hs0 : sn ≤ 140737488355328) (k : Known h) (c0 : ¬ t < 1) (c1 : ¬ 20 < t) (c2 : ¬ n < 1) (c3 : 300 < n) :
    Calls Tryd.prog 3 #[.agg #[.int .i64 h, .slice pa pn pc, .slice sa sn sc, .slice ia il ic, .int .i64 t, .int .i64 n], .int .i64 mo] w fun e w' => e = .returned (.bool true) ∧ Below w.heap.size w w' := by
  have HK9 : Hid (∀ u, Calls Tryd.prog 9 #[.int .i64 h] u fun e w' => e = .returned (.bool true) ∧ w' = u) := fun u => known_any h u k
  obtain ⟨w0, hw0⟩ : ∃ w0, w0 = w.alloc (.cells #[.int .i64 h, .slice pa pn pc, .slice sa sn sc, .slice ia il ic, .int .i64 t, .int .i64 n] 24) := ⟨_, rfl⟩
  have HB00 : Hid (Below w.heap.size w w0) := by rw [hw0]; exact (Below.refl _ _).alloc (Nat.le_refl _) _
  have F : ∀ j v, (#[.int .i64 h, .slice pa pn pc, .slice sa sn sc, .slice ia il ic, .int .i64 t, .int .i64 n] : Array Value)[j]? = some v → w0.cell? ⟨w.heap.size, j, none⟩ = some v := fun j v hj => by
    rw [hw0, World.cell?_alloc_at _ 24 _ _ rfl]
    exact hj
  have f0 := F 0 _ rfl
  have f1 := F 1 _ rfl
  have f2 := F 2 _ rfl
  have f4 := F 4 _ rfl
  have f5 := F 5 _ rfl
  clear F
  go_enter Tryd.func3, Tryd.ntmps3
  go_upto_region 1 with fail
  rw [← hw0]
  clear hw0
  go_wp2_with (go_at_call 9; refine (HK9.out _).mono ?_; rintro e1 wx ⟨rfl, hwx⟩; obtain rfl := hwx.symm)
  go_ret
  exact ⟨rfl, HB00.out⟩
set_option maxHeartbeats 800000 in
set_option maxRecDepth 100000 in
theorem pf_5 (h t n mo : Int) (pa sa ia : Option Addr) (pn pc sn sc il ic : Nat) (w : World) (hp0 : pn ≤ 140737488355328) (hs0 : sn ≤ 140737488355328) (k : Known h) (c0 : ¬ t < 1) (c1 : ¬ 20 < t) (c2 : ¬ n < 1) (c3 : ¬ 300 < n) (c4 : mo < 0) :
    Calls Tryd.prog 3 #[.agg #[.int .i64 h, .slice pa pn pc, .slice sa sn sc, .slice ia il ic, .int .i64 t, .int .i64 n], .int .i64 mo] w fun e w' => e = .returned (.bool true) ∧ Below w.heap.size w w' := by
  have HK9 : Hid (∀ u, Calls Tryd.prog 9 #[.int .i64 h] u fun e w' => e = .returned (.bool true) ∧ w' = u) := fun u => known_any h u k
  obtain ⟨w0, hw0⟩ : ∃ w0, w0 = w.alloc (.cells #[.int .i64 h, .slice pa pn pc, .slice sa sn sc, .slice ia il ic, .int .i64 t, .int .i64 n] 24) := ⟨_, rfl⟩
  have HB00 : Hid (Below w.heap.size w w0) := by rw [hw0]; exact (Below.refl _ _).alloc (Nat.le_refl _) _
  have F : ∀ j v, (#[.int .i64 h, .slice pa pn pc, .slice sa sn sc, .slice ia il ic, .int .i64 t, .int .i64 n] : Array Value)[j]? = some v → w0.cell? ⟨w.heap.size, j, none⟩ = some v := fun j v hj => by
    rw [hw0, World.cell?_alloc_at _ 24 _ _ rfl]
    exact hj
  have f0 := F 0 _ rfl
  have f1 := F 1 _ rfl
  have f2 := F 2 _ rfl
  have f4 := F 4 _ rfl
  have f5 := F 5 _ rfl
  clear F
  go_enter Tryd.func3, Tryd.ntmps3
  go_upto_region 1 with fail
  rw [← hw0]
  clear hw0
  go_wp2_with (go_at_call 9; refine (HK9.out _).mono ?_; rintro e1 wx ⟨rfl, hwx⟩; obtain rfl := hwx.symm)
  go_ret
  exact ⟨rfl, HB00.out⟩
set_option maxHeartbeats 800000 in
set_option maxRecDepth 100000 in
theorem pf_6 (h t n mo : Int) (pa sa ia : Option Addr) (pn pc sn sc il ic : Nat) (w : World) (hp0 : pn ≤ 140737488355328) (hs0 : sn ≤ 140737488355328) (k : Known h) (c0 : ¬ t < 1) (c1 : ¬ 20 < t) (c2 : ¬ n < 1) (c3 : ¬ 300 < n) (c4 : ¬ mo < 0) (c5 : 300 < mo) :
    Calls Tryd.prog 3 #[.agg #[.int .i64 h, .slice pa pn pc, .slice sa sn sc, .slice ia il ic, .int .i64 t, .int .i64 n], .int .i64 mo] w fun e w' => e = .returned (.bool true) ∧ Below w.heap.size w w' := by
  have HK9 : Hid (∀ u, Calls Tryd.prog 9 #[.int .i64 h] u fun e w' => e = .returned (.bool true) ∧ w' = u) := fun u => known_any h u k
  obtain ⟨w0, hw0⟩ : ∃ w0, w0 = w.alloc (.cells #[.int .i64 h, .slice pa pn pc, .slice sa sn sc, .slice ia il ic, .int .i64 t, .int .i64 n] 24) := ⟨_, rfl⟩
  have HB00 : Hid (Below w.heap.size w w0) := by rw [hw0]; exact (Below.refl _ _).alloc (Nat.le_refl _) _
  have F : ∀ j v, (#[.int .i64 h, .slice pa pn pc, .slice sa sn sc, .slice ia il ic, .int .i64 t, .int .i64 n] : Array Value)[j]? = some v → w0.cell? ⟨w.heap.size, j, none⟩ = some v := fun j v hj => by
    rw [hw0, World.cell?_alloc_at _ 24 _ _ rfl]
    exact hj
  have f0 := F 0 _ rfl
  have f1 := F 1 _ rfl
  have f2 := F 2 _ rfl
  have f4 := F 4 _ rfl
  have f5 := F 5 _ rfl
  clear F
  go_enter Tryd.func3, Tryd.ntmps3
  go_upto_region 1 with fail
  rw [← hw0]
  clear hw0
  go_wp2_with (go_at_call 9; refine (HK9.out _).mono ?_; rintro e1 wx ⟨rfl, hwx⟩; obtain rfl := hwx.symm)
  go_ret
  exact ⟨rfl, HB00.out⟩
set_option maxHeartbeats 800000 in
set_option maxRecDepth 100000 in
theorem pf_7 (h t n mo : Int) (pa sa ia : Option Addr) (pn pc sn sc il ic : Nat) (w : World) (hp0 : pn ≤ 140737488355328) (hs0 : sn ≤ 140737488355328) (k : Known h) (c0 : ¬ t < 1) (c1 : ¬ 20 < t) (c2 : ¬ n < 1) (c3 : ¬ 300 < n) (c4 : ¬ mo < 0) (c5 : ¬ 300 < mo) (c6 : (65536 : Int) < (pn : Nat) + (sn : Nat)) :
    Calls Tryd.prog 3 #[.agg #[.int .i64 h, .slice pa pn pc, .slice sa sn sc, .slice ia il ic, .int .i64 t, .int .i64 n], .int .i64 mo] w fun e w' => e = .returned (.bool true) ∧ Below w.heap.size w w' := by
  have HK9 : Hid (∀ u, Calls Tryd.prog 9 #[.int .i64 h] u fun e w' => e = .returned (.bool true) ∧ w' = u) := fun u => known_any h u k
  obtain ⟨w0, hw0⟩ : ∃ w0, w0 = w.alloc (.cells #[.int .i64 h, .slice pa pn pc, .slice sa sn sc, .slice ia il ic, .int .i64 t, .int .i64 n] 24) := ⟨_, rfl⟩
  have HB00 : Hid (Below w.heap.size w w0) := by rw [hw0]; exact (Below.refl _ _).alloc (Nat.le_refl _) _
  have F : ∀ j v, (#[.int .i64 h, .slice pa pn pc, .slice sa sn sc, .slice ia il ic, .int .i64 t, .int .i64 n] : Array Value)[j]? = some v → w0.cell? ⟨w.heap.size, j, none⟩ = some v := fun j v hj => by
    rw [hw0, World.cell?_alloc_at _ 24 _ _ rfl]
    exact hj
  have f0 := F 0 _ rfl
  have f1 := F 1 _ rfl
  have f2 := F 2 _ rfl
  have f4 := F 4 _ rfl
  have f5 := F 5 _ rfl
  clear F
  go_enter Tryd.func3, Tryd.ntmps3
  go_upto_region 1 with fail
  rw [← hw0]
  clear hw0
  go_wp2_with (go_at_call 9; refine (HK9.out _).mono ?_; rintro e1 wx ⟨rfl, hwx⟩; obtain rfl := hwx.symm)
  go_ret
  exact ⟨rfl, HB00.out⟩
end Go.Proofs.YtioggmjocelolabDoor
