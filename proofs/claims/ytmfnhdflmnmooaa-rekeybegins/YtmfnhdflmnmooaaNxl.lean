import Derived.Test.YtmfnhdflmnmooaaPart02
import Derived.Test.YtmfnhdflmnmooaaPart01
import Derived.Test.YtmfnhdflmnmooaaPart03
namespace Go.Proofs.Ytmfnhdflmnmooaa
open Go.RowKit
set_option linter.unusedVariables false
set_option linter.unusedSimpArgs false
/-- A rotation's cells. -/
abbrev roM (m : Mt) : Array Value := #[.bool m.on, .int .u64 (m.fr : Nat), .int .u64 (m.to : Nat), .bool m.back, .int .i64 m.mode, .int .u64 m.hot, .int .u64 (m.done : Nat), .int .i64 m.ao, .int .i64 m.az, .bool m.act, .int .u64 m.cnt, .string m.sum]
abbrev rM (m : Mt) : Sx.Rot := ⟨m.on, m.fr, m.to, m.back, m.mode, m.hot, m.done, m.ao, m.az, m.act, m.cnt, m.sum⟩
/-- Metadata in a block, their rotation in the next. -/
structure Wk (u : World) (b : Nat) (m : Mt) : Prop where
  mb : Bx u b m
  rb : u.heap[b + 1]? = some (.cells (roM m) 33 (0, 0))
theorem Wk.c {u : World} {b : Nat} {m : Mt} (h : Wk u b m) (k : Nat) (v : Value) (hk : (mtC m)[k]? = some v) : u.cell? ⟨b, k, none⟩ = some v := h.mb.c k v hk
theorem Wk.r {u : World} {b : Nat} {m : Mt} (h : Wk u b m) (k : Nat) (v : Value) (hk : (roM m)[k]? = some v) : u.cell? ⟨b + 1, k, none⟩ = some v := by
  simp only [World.cell?]
  rw [h.rb]
  exact hk
theorem Wk.lt {u : World} {b : Nat} {m : Mt} (h : Wk u b m) : b + 1 < u.heap.size := (Array.getElem?_eq_some_iff.1 h.rb).1
theorem Wk.below {u v : World} {b : Nat} {m : Mt} (h : Wk u b m) (hb : Below u.heap.size u v) : Wk v b m := ⟨h.mb.below hb, (hb.block (b + 1) h.lt).trans h.rb⟩
theorem Wk.new (w : World) (m : Mt) : Wk ((w.alloc (.cells (mtC m) 36)).alloc (.cells (roM m) 33)) w.heap.size m := by
  refine ⟨?_, ?_⟩
  · exact (show Bx (w.alloc (.cells (mtC m) 36)) w.heap.size m from World.alloc_heap_new w _).below (below_alloc1 _ _)
  · have h := World.alloc_heap_new (w.alloc (.cells (mtC m) 36)) (.cells (roM m) 33)
    rw [World.size_alloc] at h
    exact h
theorem Wk.range {u : World} {b : Nat} {m : Mt} (h : Wk u b m) : u.rangeAt (b + 1) 0 (roM m).toList := fun j v hj => by
  rw [Nat.zero_add]
  exact h.r j v (by simpa using hj)
theorem Wk.all {u : World} {b : Nat} {m : Mt} (h : Wk u b m) : u.rangeAt b 0 (mtC m).toList := fun j v hj => by
  rw [Nat.zero_add]
  exact h.c j v (by simpa using hj)
/-- What a rotation tells of a step in the midst. -/
def stepB (m : Mt) (hot N : Nat) : Bool := if m.act then decide (0 < min hot (N - m.done)) && decide (m.cnt = ((min hot (N - m.done) : Nat) : Int)) && decide (m.sum.size = 32) else decide (m.cnt = 0) && m.sum.toList.isEmpty
theorem stepM_ok (m : Mt) (hot N : Nat) (hh : m.hot = (hot : Int)) (hN : N ≤ 4294967296) (hd : m.done ≤ N) (hs : m.sum.size ≤ 9223372036854775807) (w : World) : Calls Try.prog 64 #[.int .u64 (N : Nat), .agg (roM m)] w fun e w' => Hid (e = .returned (.bool (stepB m hot N)) ∧ Below w.heap.size w w') := by
  cases hact : m.act
  · have e1 : roM m = roA m.on m.fr m.to m.back m.mode hot m.done m.ao m.az false m.cnt m.sum := by simp [roM, roA, hh, hact]
    have e2 : stepB m hot N = (decide (m.cnt = 0) && m.sum.toList.isEmpty) := by simp [stepB, hact]
    rw [e1, e2]
    exact step_off m.on m.fr m.to m.back m.mode hot m.done m.ao m.az m.cnt m.sum N w
  · have e1 : roM m = roA m.on m.fr m.to m.back m.mode hot m.done m.ao m.az true m.cnt m.sum := by simp [roM, roA, hh, hact]
    have e2 : stepB m hot N = (decide (0 < min hot (N - m.done)) && decide (m.cnt = ((min hot (N - m.done) : Nat) : Int)) && decide (m.sum.size = 32)) := by simp [stepB, hact]
    rw [e1, e2]
    exact step_on m.on m.fr m.to m.back m.mode hot m.done m.ao m.az m.cnt m.sum N hN hd hs w
set_option maxHeartbeats 4000000 in
set_option maxRecDepth 100000 in
theorem work_0 (m : Mt) (hC : 0 ≤ m.C) (w : World) (hm : mayB m.U m.C m.H m.K = false) : Calls Try.prog 37 #[.agg (mtC m)] w fun e w' => e = .returned (.bool false) ∧ Below w.heap.size w w' := by
  have HM : Hid (∀ u, Calls Try.prog 18 #[.agg #[.int .i64 m.U, .int .u64 m.C, .int .i64 m.H, .int .i64 m.K]] u fun e w' => Hid (e = .returned (.bool false) ∧ Below u.heap.size u w')) := fun u => by
    have q := may_ok m.U m.C m.H m.K hC u
    rw [hm] at q
    exact q
  have bx : Bx (w.alloc (.cells (mtC m) 36)) w.heap.size m := World.alloc_heap_new w _
  have y4 := bx.c 4 (.int .i64 m.U) rfl
  have y5 := bx.c 5 (.int .u64 m.C) rfl
  have y6 := bx.c 6 (.int .i64 m.H) rfl
  have y7 := bx.c 7 (.int .i64 m.K) rfl
  have y14 := bx.c 14 (.bool m.on) rfl
  have y15 := bx.c 15 (.int .u64 (m.fr : Nat)) rfl
  have y16 := bx.c 16 (.int .u64 (m.to : Nat)) rfl
  have y17 := bx.c 17 (.bool m.back) rfl
  have y18 := bx.c 18 (.int .i64 m.mode) rfl
  have y19 := bx.c 19 (.int .u64 m.hot) rfl
  have y20 := bx.c 20 (.int .u64 (m.done : Nat)) rfl
  have y21 := bx.c 21 (.int .i64 m.ao) rfl
  have y22 := bx.c 22 (.int .i64 m.az) rfl
  have y23 := bx.c 23 (.bool m.act) rfl
  have y24 := bx.c 24 (.int .u64 m.cnt) rfl
  have y25 := bx.c 25 (.string m.sum) rfl
  clear bx
  have HW : Hid (Wk ((w.alloc (.cells (mtC m) 36)).alloc (.cells (roM m) 33)) w.heap.size m ∧ Below w.heap.size w ((w.alloc (.cells (mtC m) 36)).alloc (.cells (roM m) 33))) := ⟨Wk.new w m, AAt.nb _ _ _⟩
  go_enter Try.func37, Try.ntmps37
  go_upto_region 2 with fail
  generalize ((w.alloc (.cells (mtC m) 36)).alloc (.cells (roM m) 33)) = w0 at HW ⊢
  clear y4 y5 y6 y7 y14 y15 y16 y17 y18 y19 y20 y21 y22 y23 y24 y25
  have y4 := HW.out.1.c 4 (.int .i64 m.U) rfl
  have y5 := HW.out.1.c 5 (.int .u64 m.C) rfl
  have y6 := HW.out.1.c 6 (.int .i64 m.H) rfl
  have y7 := HW.out.1.c 7 (.int .i64 m.K) rfl
  go_wp2_with (go_at_call 18; refine (HM.out _).mono ?_; intro e5 w5 hh5; obtain ⟨he5, hb5⟩ := hh5.out; subst he5)
  go_ret
  exact ⟨rfl, HW.out.2.trans (hb5.mono HW.out.2.size)⟩
set_option maxHeartbeats 4000000 in
set_option maxRecDepth 100000 in
theorem work_1 (m : Mt) (hC : 0 ≤ m.C) (w : World) (hot : Nat) (hh : m.hot = (hot : Int)) (hz : m.az ≤ 9223372036854775807) (hm : mayB m.U m.C m.H m.K = true) (ha : areaB m.U m.H m.K m.ao m.az m.mode hot = false) : Calls Try.prog 37 #[.agg (mtC m)] w fun e w' => e = .returned (.bool false) ∧ Below w.heap.size w w' := by
  have HM : Hid (∀ u, Calls Try.prog 18 #[.agg #[.int .i64 m.U, .int .u64 m.C, .int .i64 m.H, .int .i64 m.K]] u fun e w' => Hid (e = .returned (.bool true) ∧ Below u.heap.size u w')) := fun u => by
    have q := may_ok m.U m.C m.H m.K hC u
    rw [hm] at q
    exact q
  obtain ⟨qu, qh, k4, k2, _, qc, qlt⟩ := mayB_all hm
  have hr := headB_range qh
  have h1 : 0 ≤ m.H := by omega
  have h2 : m.H ≤ 4194304 := hr.2
  have k1 : 0 ≤ m.K := by omega
  have HAr : Hid (∀ u, Calls Try.prog 19 #[.agg #[.int .i64 m.U, .int .u64 m.C, .int .i64 m.H, .int .i64 m.K], .agg #[.int .i64 m.ao, .int .i64 m.az], .int .i64 m.mode, .int .u64 m.hot] u fun e w' => Hid (e = .returned (.bool false) ∧ Below u.heap.size u w')) := fun u => by
    have q := area_ok m.U m.C m.H m.K m.ao m.az m.mode hot u h1 h2 k1 k2 hz
    rw [ha] at q
    rw [hh]
    exact q
  clear hm ha qu qh qc qlt hr hh
  have bx : Bx (w.alloc (.cells (mtC m) 36)) w.heap.size m := World.alloc_heap_new w _
  have y4 := bx.c 4 (.int .i64 m.U) rfl
  have y5 := bx.c 5 (.int .u64 m.C) rfl
  have y6 := bx.c 6 (.int .i64 m.H) rfl
  have y7 := bx.c 7 (.int .i64 m.K) rfl
  have y14 := bx.c 14 (.bool m.on) rfl
  have y15 := bx.c 15 (.int .u64 (m.fr : Nat)) rfl
  have y16 := bx.c 16 (.int .u64 (m.to : Nat)) rfl
  have y17 := bx.c 17 (.bool m.back) rfl
  have y18 := bx.c 18 (.int .i64 m.mode) rfl
  have y19 := bx.c 19 (.int .u64 m.hot) rfl
  have y20 := bx.c 20 (.int .u64 (m.done : Nat)) rfl
  have y21 := bx.c 21 (.int .i64 m.ao) rfl
  have y22 := bx.c 22 (.int .i64 m.az) rfl
  have y23 := bx.c 23 (.bool m.act) rfl
  have y24 := bx.c 24 (.int .u64 m.cnt) rfl
  have y25 := bx.c 25 (.string m.sum) rfl
  clear bx
  have HW : Hid (Wk ((w.alloc (.cells (mtC m) 36)).alloc (.cells (roM m) 33)) w.heap.size m ∧ Below w.heap.size w ((w.alloc (.cells (mtC m) 36)).alloc (.cells (roM m) 33))) := ⟨Wk.new w m, AAt.nb _ _ _⟩
  go_enter Try.func37, Try.ntmps37
  go_upto_region 2 with fail
  generalize ((w.alloc (.cells (mtC m) 36)).alloc (.cells (roM m) 33)) = w0 at HW ⊢
  clear y4 y5 y6 y7 y14 y15 y16 y17 y18 y19 y20 y21 y22 y23 y24 y25
  have y4 := HW.out.1.c 4 (.int .i64 m.U) rfl
  have y5 := HW.out.1.c 5 (.int .u64 m.C) rfl
  have y6 := HW.out.1.c 6 (.int .i64 m.H) rfl
  have y7 := HW.out.1.c 7 (.int .i64 m.K) rfl
  go_wp2_with (first | (go_at_call 18; refine (HM.out _).mono ?_; intro e5 w5 hh5; obtain ⟨he5, hb5⟩ := hh5.out; subst he5; have HW5 := HW.out.1.below hb5; have y4 := HW5.c 4 (.int .i64 m.U) rfl; have y5 := HW5.c 5 (.int .u64 m.C) rfl; have y6 := HW5.c 6 (.int .i64 m.H) rfl; have y7 := HW5.c 7 (.int .i64 m.K) rfl; have r4 := HW5.r 4 (.int .i64 m.mode) rfl; have r5 := HW5.r 5 (.int .u64 m.hot) rfl; have r7 := HW5.r 7 (.int .i64 m.ao) rfl; have r8 := HW5.r 8 (.int .i64 m.az) rfl; have r1 := HW5.r 1 (.int .u64 (m.fr : Nat)) rfl; have r2 := HW5.r 2 (.int .u64 (m.to : Nat)) rfl) | (go_at_call 19; refine (HAr.out _).mono ?_; intro e6 w6 hh6; obtain ⟨he6, hb6⟩ := hh6.out; subst he6; have HW6 := HW5.below hb6))
  all_goals
    go_ret
    exact ⟨rfl, (HW.out.2.trans (hb5.mono HW.out.2.size)).trans (hb6.mono (Nat.le_trans HW.out.2.size hb5.size))⟩
set_option maxHeartbeats 8000000 in
set_option maxRecDepth 100000 in
theorem work_2 (m : Mt) (hC : 0 ≤ m.C) (w : World) (hot N : Nat) (EL : List Epo) (f : Nat → Int × Int × Int) (hh : m.hot = (hot : Int)) (hz : m.az ≤ 9223372036854775807) (hN : m.C - (2 * m.H + m.K) / m.U = (N : Nat)) (hN2 : N ≤ 4294967296) (hsz : m.sum.size ≤ 9223372036854775807) (hc1 : m.gn ≤ m.gc) (hc2 : m.gc ≤ 9223372036854775807) (hen : Hid (EL.length = m.en)) (hn0 : m.en ≤ 1954687338268) (e1 : Hid (RV epoL 5 w m.ep EL)) (hSg : Hid (SegV w (.slice m.gp m.gn m.gc) m.gn f))
    (hm : mayB m.U m.C m.H m.K = true) (ha : areaB m.U m.H m.K m.ao m.az m.mode hot = true) (hd : ¬ (m.done ≤ N)) : Calls Try.prog 37 #[.agg (mtC m)] w fun e w' => e = .returned (.bool false) ∧ Below w.heap.size w w' := by
  have HM : Hid (∀ u, Calls Try.prog 18 #[.agg #[.int .i64 m.U, .int .u64 m.C, .int .i64 m.H, .int .i64 m.K]] u fun e w' => Hid (e = .returned (.bool true) ∧ Below u.heap.size u w')) := fun u => by
    have q := may_ok m.U m.C m.H m.K hC u
    rw [hm] at q
    exact q
  obtain ⟨qu, qh, k4, k2, _, qc, qlt⟩ := mayB_all hm
  have hr := headB_range qh
  have h1 : 0 ≤ m.H := by omega
  have h2 : m.H ≤ 4194304 := hr.2
  have k1 : 0 ≤ m.K := by omega
  have HAr : Hid (∀ u, Calls Try.prog 19 #[.agg #[.int .i64 m.U, .int .u64 m.C, .int .i64 m.H, .int .i64 m.K], .agg #[.int .i64 m.ao, .int .i64 m.az], .int .i64 m.mode, .int .u64 m.hot] u fun e w' => Hid (e = .returned (.bool true) ∧ Below u.heap.size u w')) := fun u => by
    have q := area_ok m.U m.C m.H m.K m.ao m.az m.mode hot u h1 h2 k1 k2 hz
    rw [ha] at q
    rw [hh]
    exact q
  have HSec : Hid (∀ u, Calls Try.prog 25 #[.agg #[.int .i64 m.U, .int .u64 m.C, .int .i64 m.H, .int .i64 m.K]] u fun e w' => Hid (e = .returned (.int .u64 (N : Nat)) ∧ Below u.heap.size u w')) := fun u => by
    have q := sectors_ok m.U m.C m.H m.K u qu h1 h2 k1 k2 (by omega) qc
    rw [hN] at q
    exact q
  have gd : decide ((m.done : Int) ≤ (N : Int)) = false := by simp; omega
  clear hm ha qu qh qc qlt hr hh k4 hN
  have bx : Bx (w.alloc (.cells (mtC m) 36)) w.heap.size m := World.alloc_heap_new w _
  have y4 := bx.c 4 (.int .i64 m.U) rfl
  have y5 := bx.c 5 (.int .u64 m.C) rfl
  have y6 := bx.c 6 (.int .i64 m.H) rfl
  have y7 := bx.c 7 (.int .i64 m.K) rfl
  have y14 := bx.c 14 (.bool m.on) rfl
  have y15 := bx.c 15 (.int .u64 (m.fr : Nat)) rfl
  have y16 := bx.c 16 (.int .u64 (m.to : Nat)) rfl
  have y17 := bx.c 17 (.bool m.back) rfl
  have y18 := bx.c 18 (.int .i64 m.mode) rfl
  have y19 := bx.c 19 (.int .u64 m.hot) rfl
  have y20 := bx.c 20 (.int .u64 (m.done : Nat)) rfl
  have y21 := bx.c 21 (.int .i64 m.ao) rfl
  have y22 := bx.c 22 (.int .i64 m.az) rfl
  have y23 := bx.c 23 (.bool m.act) rfl
  have y24 := bx.c 24 (.int .u64 m.cnt) rfl
  have y25 := bx.c 25 (.string m.sum) rfl
  clear bx
  have HW : Hid (Wk ((w.alloc (.cells (mtC m) 36)).alloc (.cells (roM m) 33)) w.heap.size m ∧ Below w.heap.size w ((w.alloc (.cells (mtC m) 36)).alloc (.cells (roM m) 33))) := ⟨Wk.new w m, AAt.nb _ _ _⟩
  go_enter Try.func37, Try.ntmps37
  go_upto_region 2 with fail
  generalize ((w.alloc (.cells (mtC m) 36)).alloc (.cells (roM m) 33)) = wz at HW ⊢
  clear y4 y5 y6 y7 y14 y15 y16 y17 y18 y19 y20 y21 y22 y23 y24 y25
  have y4 := HW.out.1.c 4 (.int .i64 m.U) rfl
  have y5 := HW.out.1.c 5 (.int .u64 m.C) rfl
  have y6 := HW.out.1.c 6 (.int .i64 m.H) rfl
  have y7 := HW.out.1.c 7 (.int .i64 m.K) rfl
  go_upto_region 5 with (first | (go_at_call 18; refine (HM.out _).mono ?_; intro e5 w5 hh5; obtain ⟨he5, hb5⟩ := hh5.out; subst he5; have HW5 := HW.out.1.below hb5; have y4 := HW5.c 4 (.int .i64 m.U) rfl; have y5 := HW5.c 5 (.int .u64 m.C) rfl; have y6 := HW5.c 6 (.int .i64 m.H) rfl; have y7 := HW5.c 7 (.int .i64 m.K) rfl; have r4 := HW5.r 4 (.int .i64 m.mode) rfl; have r5 := HW5.r 5 (.int .u64 m.hot) rfl; have r7 := HW5.r 7 (.int .i64 m.ao) rfl; have r8 := HW5.r 8 (.int .i64 m.az) rfl; have r1 := HW5.r 1 (.int .u64 (m.fr : Nat)) rfl; have r2 := HW5.r 2 (.int .u64 (m.to : Nat)) rfl) | (go_at_call 19; refine (HAr.out _).mono ?_; intro e6 w6 hh6; obtain ⟨he6, hb6⟩ := hh6.out; subst he6; have HW6 := HW5.below hb6; clear y4 y5 y6 y7; have y4 := HW6.c 4 (.int .i64 m.U) rfl; have y5 := HW6.c 5 (.int .u64 m.C) rfl; have y6 := HW6.c 6 (.int .i64 m.H) rfl; have y7 := HW6.c 7 (.int .i64 m.K) rfl) | (go_at_call 25; refine (HSec.out _).mono ?_; intro e7 w0 hh7; obtain ⟨he7, hb7⟩ := hh7.out; subst he7; have HW7 := HW6.below hb7))
  have HW0 : Hid (Below w.heap.size w w0) := ((HW.out.2.trans (hb5.mono HW.out.2.size)).trans (hb6.mono (Nat.le_trans HW.out.2.size hb5.size))).trans (hb7.mono (Nat.le_trans (Nat.le_trans HW.out.2.size hb5.size) hb6.size))
  have HK : Hid (Wk w0 w.heap.size m) := HW7
  clear HW5 HW6 HW7 hb5 hb6 hb7 hh5 hh6 hh7 y4 y5 y6 y7 r4 r5 r7 r8 r1 r2 HM HAr HSec HW
  have hS0 : Below w0.heap.size w0 w0.drew := (Below.refl _ _).drew
  have hrr : ∀ u, Below w0.heap.size w0 u → u.rangeAt (w.heap.size + 1) 0 (roM m).toList := fun u hu => (HK.out.below hu).range
  have fr6 : ∀ u, Below w0.heap.size w0 u → u.cell? ⟨w.heap.size + 1, 6, none⟩ = some (.int .u64 (m.done : Nat)) := fun u hu => (HK.out.below hu).r 6 _ rfl
  have fr1 : ∀ u, Below w0.heap.size w0 u → u.cell? ⟨w.heap.size + 1, 1, none⟩ = some (.int .u64 (m.fr : Nat)) := fun u hu => (HK.out.below hu).r 1 _ rfl
  have fr2 : ∀ u, Below w0.heap.size w0 u → u.cell? ⟨w.heap.size + 1, 2, none⟩ = some (.int .u64 (m.to : Nat)) := fun u hu => (HK.out.below hu).r 2 _ rfl
  have fy13 : ∀ u, Below w0.heap.size w0 u → u.cell? ⟨w.heap.size, 13, none⟩ = some (.slice m.gp m.gn m.gc) := fun u hu => (HK.out.below hu).c 13 _ rfl
  have fy12 : ∀ u, Below w0.heap.size w0 u → u.cell? ⟨w.heap.size, 12, none⟩ = some (.slice m.ep m.en m.ec) := fun u hu => (HK.out.below hu).c 12 _ rfl
  refine wp_region_noPanic ?_
  refine wp_region_held_drew (S := fun u => Below w0.heap.size w0 u) (by kernel_rfl) (hS0) (fun _ => ?_)
  refine takeH_at 0 26 (.pointer (some ⟨w.heap.size + 1, 6, none⟩)) rfl rfl (by kernel_rfl) (by kernel_rfl) (by kernel_rfl) (fun _ _ _ h => h) (hS0) (Or.inl ⟨by kernel_rfl, fun w' hS' => by go_simp⟩) ?_
  simp only [List.setIfInBounds_toArray, List.set_cons_zero, List.set_cons_succ]
  refine takeH_at 1 27 (.int .u64 (m.done : Nat)) rfl rfl (by kernel_rfl) (by kernel_rfl) (by kernel_rfl) (fun _ _ _ h => h) (hS0) (Or.inl ⟨by kernel_rfl, fun w' hS' => by have q := fr6 w' hS'; go_simp⟩) ?_
  simp only [List.setIfInBounds_toArray, List.set_cons_zero, List.set_cons_succ]
  refine takeH_at 2 28 (.int .u64 (N : Nat)) rfl rfl (by kernel_rfl) (by kernel_rfl) (by kernel_rfl) (fun _ _ _ h => h) (hS0) (Or.inl ⟨by kernel_rfl, fun w' hS' => by go_simp⟩) ?_
  simp only [List.setIfInBounds_toArray, List.set_cons_zero, List.set_cons_succ]
  refine takeH_at 3 29 (.bool false) rfl rfl (by kernel_rfl) (by kernel_rfl) (by kernel_rfl) (fun _ _ _ h => h) (hS0) (Or.inl ⟨by kernel_rfl, fun w' hS' => by go_simp⟩) ?_
  simp only [List.setIfInBounds_toArray, List.set_cons_zero, List.set_cons_succ]
  refine takeH_at 4 30 (.bool false) rfl rfl (by kernel_rfl) (by kernel_rfl) (by kernel_rfl) (fun _ _ _ h => h) (hS0) (Or.inl ⟨by kernel_rfl, fun w' hS' => by go_simp⟩) ?_
  simp only [List.setIfInBounds_toArray, List.set_cons_zero, List.set_cons_succ]
  refine takeH_at 5 31 undef rfl rfl (by kernel_rfl) (by kernel_rfl) (by kernel_rfl) (fun _ _ _ h => h) (hS0) (Or.inr ⟨by kernel_rfl, rfl⟩) ?_
  simp only [List.setIfInBounds_toArray, List.set_cons_zero, List.set_cons_succ]
  refine takeH_at 6 32 undef rfl rfl (by kernel_rfl) (by kernel_rfl) (by kernel_rfl) (fun _ _ _ h => h) (hS0) (Or.inr ⟨by kernel_rfl, rfl⟩) ?_
  simp only [List.setIfInBounds_toArray, List.set_cons_zero, List.set_cons_succ]
  refine takeH_at 7 33 undef rfl rfl (by kernel_rfl) (by kernel_rfl) (by kernel_rfl) (fun _ _ _ h => h) (hS0) (Or.inr ⟨by kernel_rfl, rfl⟩) ?_
  simp only [List.setIfInBounds_toArray, List.set_cons_zero, List.set_cons_succ]
  refine takeH_at 8 34 (.bool false) rfl rfl (by kernel_rfl) (by kernel_rfl) (by kernel_rfl) (fun _ _ _ h => h) (hS0) (Or.inl ⟨by kernel_rfl, fun w' hS' => by go_simp⟩) ?_
  simp only [List.setIfInBounds_toArray, List.set_cons_zero, List.set_cons_succ]
  refine takeH_at 9 35 (.bool false) rfl rfl (by kernel_rfl) (by kernel_rfl) (by kernel_rfl) (fun _ _ _ h => h) (hS0) (Or.inl ⟨by kernel_rfl, fun w' hS' => by go_simp⟩) ?_
  simp only [List.setIfInBounds_toArray, List.set_cons_zero, List.set_cons_succ]
  refine takeH_at 10 36 undef rfl rfl (by kernel_rfl) (by kernel_rfl) (by kernel_rfl) (fun _ _ _ h => h) (hS0) (Or.inr ⟨by kernel_rfl, rfl⟩) ?_
  simp only [List.setIfInBounds_toArray, List.set_cons_zero, List.set_cons_succ]
  refine takeH_at 11 37 undef rfl rfl (by kernel_rfl) (by kernel_rfl) (by kernel_rfl) (fun _ _ _ h => h) (hS0) (Or.inr ⟨by kernel_rfl, rfl⟩) ?_
  simp only [List.setIfInBounds_toArray, List.set_cons_zero, List.set_cons_succ]
  refine takeH_at 12 38 undef rfl rfl (by kernel_rfl) (by kernel_rfl) (by kernel_rfl) (fun _ _ _ h => h) (hS0) (Or.inr ⟨by kernel_rfl, rfl⟩) ?_
  simp only [List.setIfInBounds_toArray, List.set_cons_zero, List.set_cons_succ]
  refine takeH_at 13 39 undef rfl rfl (by kernel_rfl) (by kernel_rfl) (by kernel_rfl) (fun _ _ _ h => h) (hS0) (Or.inr ⟨by kernel_rfl, rfl⟩) ?_
  simp only [List.setIfInBounds_toArray, List.set_cons_zero, List.set_cons_succ]
  refine takeH_at 14 40 undef rfl rfl (by kernel_rfl) (by kernel_rfl) (by kernel_rfl) (fun _ _ _ h => h) (hS0) (Or.inr ⟨by kernel_rfl, rfl⟩) ?_
  simp only [List.setIfInBounds_toArray, List.set_cons_zero, List.set_cons_succ]
  refine takeH_at 15 41 undef rfl rfl (by kernel_rfl) (by kernel_rfl) (by kernel_rfl) (fun _ _ _ h => h) (hS0) (Or.inr ⟨by kernel_rfl, rfl⟩) ?_
  simp only [List.setIfInBounds_toArray, List.set_cons_zero, List.set_cons_succ]
  refine takeH_at 16 42 (.bool false) rfl rfl (by kernel_rfl) (by kernel_rfl) (by kernel_rfl) (fun _ _ _ h => h) (hS0) (Or.inl ⟨by kernel_rfl, fun w' hS' => by go_simp⟩) ?_
  simp only [List.setIfInBounds_toArray, List.set_cons_zero, List.set_cons_succ]
  refine takeH_at 17 43 (.bool false) rfl rfl (by kernel_rfl) (by kernel_rfl) (by kernel_rfl) (fun _ _ _ h => h) (hS0) (Or.inl ⟨by kernel_rfl, fun w' hS' => by go_simp⟩) ?_
  simp only [List.setIfInBounds_toArray, List.set_cons_zero, List.set_cons_succ]
  refine takeH_at 18 44 undef rfl rfl (by kernel_rfl) (by kernel_rfl) (by kernel_rfl) (fun _ _ _ h => h) (hS0) (Or.inr ⟨by kernel_rfl, rfl⟩) ?_
  simp only [List.setIfInBounds_toArray, List.set_cons_zero, List.set_cons_succ]
  refine takeH_at 19 45 undef rfl rfl (by kernel_rfl) (by kernel_rfl) (by kernel_rfl) (fun _ _ _ h => h) (hS0) (Or.inr ⟨by kernel_rfl, rfl⟩) ?_
  simp only [List.setIfInBounds_toArray, List.set_cons_zero, List.set_cons_succ]
  refine takeH_at 20 46 undef rfl rfl (by kernel_rfl) (by kernel_rfl) (by kernel_rfl) (fun _ _ _ h => h) (hS0) (Or.inr ⟨by kernel_rfl, rfl⟩) ?_
  simp only [List.setIfInBounds_toArray, List.set_cons_zero, List.set_cons_succ]
  refine takeH_at 21 47 undef rfl rfl (by kernel_rfl) (by kernel_rfl) (by kernel_rfl) (fun _ _ _ h => h) (hS0) (Or.inr ⟨by kernel_rfl, rfl⟩) ?_
  simp only [List.setIfInBounds_toArray, List.set_cons_zero, List.set_cons_succ]
  refine takeH_at 22 48 undef rfl rfl (by kernel_rfl) (by kernel_rfl) (by kernel_rfl) (fun _ _ _ h => h) (hS0) (Or.inr ⟨by kernel_rfl, rfl⟩) ?_
  simp only [List.setIfInBounds_toArray, List.set_cons_zero, List.set_cons_succ]
  refine takeH_at 23 49 (.bool false) rfl rfl (by kernel_rfl) (by kernel_rfl) (by kernel_rfl) (fun _ _ _ h => h) (hS0) (Or.inl ⟨by kernel_rfl, fun w' hS' => by go_simp⟩) ?_
  simp only [List.setIfInBounds_toArray, List.set_cons_zero, List.set_cons_succ]
  refine takeH_at 24 50 (.bool false) rfl rfl (by kernel_rfl) (by kernel_rfl) (by kernel_rfl) (fun _ _ _ h => h) (hS0) (Or.inl ⟨by kernel_rfl, fun w' hS' => by go_simp⟩) ?_
  simp only [List.setIfInBounds_toArray, List.set_cons_zero, List.set_cons_succ]
  refine takeH_at 25 51 undef rfl rfl (by kernel_rfl) (by kernel_rfl) (by kernel_rfl) (fun _ _ _ h => h) (hS0) (Or.inr ⟨by kernel_rfl, rfl⟩) ?_
  simp only [List.setIfInBounds_toArray, List.set_cons_zero, List.set_cons_succ]
  refine takeH_at 26 52 undef rfl rfl (by kernel_rfl) (by kernel_rfl) (by kernel_rfl) (fun _ _ _ h => h) (hS0) (Or.inr ⟨by kernel_rfl, rfl⟩) ?_
  simp only [List.setIfInBounds_toArray, List.set_cons_zero, List.set_cons_succ]
  refine takeH_at 27 53 undef rfl rfl (by kernel_rfl) (by kernel_rfl) (by kernel_rfl) (fun _ _ _ h => h) (hS0) (Or.inr ⟨by kernel_rfl, rfl⟩) ?_
  simp only [List.setIfInBounds_toArray, List.set_cons_zero, List.set_cons_succ]
  refine takeH_at 28 54 undef rfl rfl (by kernel_rfl) (by kernel_rfl) (by kernel_rfl) (fun _ _ _ h => h) (hS0) (Or.inr ⟨by kernel_rfl, rfl⟩) ?_
  simp only [List.setIfInBounds_toArray, List.set_cons_zero, List.set_cons_succ]
  refine takeH_at 29 55 undef rfl rfl (by kernel_rfl) (by kernel_rfl) (by kernel_rfl) (fun _ _ _ h => h) (hS0) (Or.inr ⟨by kernel_rfl, rfl⟩) ?_
  simp only [List.setIfInBounds_toArray, List.set_cons_zero, List.set_cons_succ]
  refine takeH_at 30 56 (.bool false) rfl rfl (by kernel_rfl) (by kernel_rfl) (by kernel_rfl) (fun _ _ _ h => h) (hS0) (Or.inl ⟨by kernel_rfl, fun w' hS' => by go_simp⟩) ?_
  simp only [List.setIfInBounds_toArray, List.set_cons_zero, List.set_cons_succ]
  refine takeH_at 31 57 (.bool false) rfl rfl (by kernel_rfl) (by kernel_rfl) (by kernel_rfl) (fun _ _ _ h => h) (hS0) (Or.inl ⟨by kernel_rfl, fun w' hS' => by go_simp⟩) ?_
  simp only [List.setIfInBounds_toArray, List.set_cons_zero, List.set_cons_succ]
  refine takeH_at 32 58 undef rfl rfl (by kernel_rfl) (by kernel_rfl) (by kernel_rfl) (fun _ _ _ h => h) (hS0) (Or.inr ⟨by kernel_rfl, rfl⟩) ?_
  simp only [List.setIfInBounds_toArray, List.set_cons_zero, List.set_cons_succ]
  refine takeH_at 33 59 undef rfl rfl (by kernel_rfl) (by kernel_rfl) (by kernel_rfl) (fun _ _ _ h => h) (hS0) (Or.inr ⟨by kernel_rfl, rfl⟩) ?_
  simp only [List.setIfInBounds_toArray, List.set_cons_zero, List.set_cons_succ]
  refine takeH_at 34 60 undef rfl rfl (by kernel_rfl) (by kernel_rfl) (by kernel_rfl) (fun _ _ _ h => h) (hS0) (Or.inr ⟨by kernel_rfl, rfl⟩) ?_
  simp only [List.setIfInBounds_toArray, List.set_cons_zero, List.set_cons_succ]
  refine takeH_at 35 61 undef rfl rfl (by kernel_rfl) (by kernel_rfl) (by kernel_rfl) (fun _ _ _ h => h) (hS0) (Or.inr ⟨by kernel_rfl, rfl⟩) ?_
  simp only [List.setIfInBounds_toArray, List.set_cons_zero, List.set_cons_succ]
  refine takeH_at 36 62 undef rfl rfl (by kernel_rfl) (by kernel_rfl) (by kernel_rfl) (fun _ _ _ h => h) (hS0) (Or.inr ⟨by kernel_rfl, rfl⟩) ?_
  simp only [List.setIfInBounds_toArray, List.set_cons_zero, List.set_cons_succ]
  refine takeH_at 37 63 (.bool false) rfl rfl (by kernel_rfl) (by kernel_rfl) (by kernel_rfl) (fun _ _ _ h => h) (hS0) (Or.inl ⟨by kernel_rfl, fun w' hS' => by go_simp⟩) ?_
  simp only [List.setIfInBounds_toArray, List.set_cons_zero, List.set_cons_succ]
  refine takeH_at 38 2 (.bool false) rfl rfl (by kernel_rfl) (by kernel_rfl) (by kernel_rfl) (fun _ _ _ h => h) (hS0) (Or.inl ⟨by kernel_rfl, fun w' hS' => by go_simp⟩) ?_
  simp only [List.setIfInBounds_toArray, List.set_cons_zero, List.set_cons_succ]
  refine wpAnyH_done (by kernel_rfl) ?_ _
  refine NoPanic.normal ?_
  go_wp2_with fail
  go_ret
  exact ⟨rfl, HW0.out.trans (hS0.mono HW0.out.size)⟩
set_option maxHeartbeats 8000000 in
set_option maxRecDepth 100000 in
theorem work_3 (m : Mt) (hC : 0 ≤ m.C) (w : World) (hot N : Nat) (EL : List Epo) (f : Nat → Int × Int × Int) (hh : m.hot = (hot : Int)) (hz : m.az ≤ 9223372036854775807) (hN : m.C - (2 * m.H + m.K) / m.U = (N : Nat)) (hN2 : N ≤ 4294967296) (hsz : m.sum.size ≤ 9223372036854775807) (hc1 : m.gn ≤ m.gc) (hc2 : m.gc ≤ 9223372036854775807) (hen : Hid (EL.length = m.en)) (hn0 : m.en ≤ 1954687338268) (e1 : Hid (RV epoL 5 w m.ep EL)) (hSg : Hid (SegV w (.slice m.gp m.gn m.gc) m.gn f))
    (hm : mayB m.U m.C m.H m.K = true) (ha : areaB m.U m.H m.K m.ao m.az m.mode hot = true) (hd : m.done ≤ N) (hst : ¬ (stepB m hot N = true)) : Calls Try.prog 37 #[.agg (mtC m)] w fun e w' => e = .returned (.bool false) ∧ Below w.heap.size w w' := by
  have HM : Hid (∀ u, Calls Try.prog 18 #[.agg #[.int .i64 m.U, .int .u64 m.C, .int .i64 m.H, .int .i64 m.K]] u fun e w' => Hid (e = .returned (.bool true) ∧ Below u.heap.size u w')) := fun u => by
    have q := may_ok m.U m.C m.H m.K hC u
    rw [hm] at q
    exact q
  obtain ⟨qu, qh, k4, k2, _, qc, qlt⟩ := mayB_all hm
  have hr := headB_range qh
  have h1 : 0 ≤ m.H := by omega
  have h2 : m.H ≤ 4194304 := hr.2
  have k1 : 0 ≤ m.K := by omega
  have HAr : Hid (∀ u, Calls Try.prog 19 #[.agg #[.int .i64 m.U, .int .u64 m.C, .int .i64 m.H, .int .i64 m.K], .agg #[.int .i64 m.ao, .int .i64 m.az], .int .i64 m.mode, .int .u64 m.hot] u fun e w' => Hid (e = .returned (.bool true) ∧ Below u.heap.size u w')) := fun u => by
    have q := area_ok m.U m.C m.H m.K m.ao m.az m.mode hot u h1 h2 k1 k2 hz
    rw [ha] at q
    rw [hh]
    exact q
  have HSec : Hid (∀ u, Calls Try.prog 25 #[.agg #[.int .i64 m.U, .int .u64 m.C, .int .i64 m.H, .int .i64 m.K]] u fun e w' => Hid (e = .returned (.int .u64 (N : Nat)) ∧ Below u.heap.size u w')) := fun u => by
    have q := sectors_ok m.U m.C m.H m.K u qu h1 h2 k1 k2 (by omega) qc
    rw [hN] at q
    exact q
  have HSt : Hid (∀ u, Calls Try.prog 64 #[.int .u64 (N : Nat), .agg (roM m)] u fun e w' => Hid (e = .returned (.bool false) ∧ Below u.heap.size u w')) := fun u => by
    have q := stepM_ok m hot N hh hN2 hd hsz u
    rw [show stepB m hot N = false by simpa using hst] at q
    exact q
  have gd : decide ((m.done : Int) ≤ (N : Int)) = true := by simp; omega
  clear hm ha qu qh qc qlt hr hh k4 hN
  have bx : Bx (w.alloc (.cells (mtC m) 36)) w.heap.size m := World.alloc_heap_new w _
  have y4 := bx.c 4 (.int .i64 m.U) rfl
  have y5 := bx.c 5 (.int .u64 m.C) rfl
  have y6 := bx.c 6 (.int .i64 m.H) rfl
  have y7 := bx.c 7 (.int .i64 m.K) rfl
  have y14 := bx.c 14 (.bool m.on) rfl
  have y15 := bx.c 15 (.int .u64 (m.fr : Nat)) rfl
  have y16 := bx.c 16 (.int .u64 (m.to : Nat)) rfl
  have y17 := bx.c 17 (.bool m.back) rfl
  have y18 := bx.c 18 (.int .i64 m.mode) rfl
  have y19 := bx.c 19 (.int .u64 m.hot) rfl
  have y20 := bx.c 20 (.int .u64 (m.done : Nat)) rfl
  have y21 := bx.c 21 (.int .i64 m.ao) rfl
  have y22 := bx.c 22 (.int .i64 m.az) rfl
  have y23 := bx.c 23 (.bool m.act) rfl
  have y24 := bx.c 24 (.int .u64 m.cnt) rfl
  have y25 := bx.c 25 (.string m.sum) rfl
  clear bx
  have HW : Hid (Wk ((w.alloc (.cells (mtC m) 36)).alloc (.cells (roM m) 33)) w.heap.size m ∧ Below w.heap.size w ((w.alloc (.cells (mtC m) 36)).alloc (.cells (roM m) 33))) := ⟨Wk.new w m, AAt.nb _ _ _⟩
  go_enter Try.func37, Try.ntmps37
  go_upto_region 2 with fail
  generalize ((w.alloc (.cells (mtC m) 36)).alloc (.cells (roM m) 33)) = wz at HW ⊢
  clear y4 y5 y6 y7 y14 y15 y16 y17 y18 y19 y20 y21 y22 y23 y24 y25
  have y4 := HW.out.1.c 4 (.int .i64 m.U) rfl
  have y5 := HW.out.1.c 5 (.int .u64 m.C) rfl
  have y6 := HW.out.1.c 6 (.int .i64 m.H) rfl
  have y7 := HW.out.1.c 7 (.int .i64 m.K) rfl
  go_upto_region 5 with (first | (go_at_call 18; refine (HM.out _).mono ?_; intro e5 w5 hh5; obtain ⟨he5, hb5⟩ := hh5.out; subst he5; have HW5 := HW.out.1.below hb5; have y4 := HW5.c 4 (.int .i64 m.U) rfl; have y5 := HW5.c 5 (.int .u64 m.C) rfl; have y6 := HW5.c 6 (.int .i64 m.H) rfl; have y7 := HW5.c 7 (.int .i64 m.K) rfl; have r4 := HW5.r 4 (.int .i64 m.mode) rfl; have r5 := HW5.r 5 (.int .u64 m.hot) rfl; have r7 := HW5.r 7 (.int .i64 m.ao) rfl; have r8 := HW5.r 8 (.int .i64 m.az) rfl; have r1 := HW5.r 1 (.int .u64 (m.fr : Nat)) rfl; have r2 := HW5.r 2 (.int .u64 (m.to : Nat)) rfl) | (go_at_call 19; refine (HAr.out _).mono ?_; intro e6 w6 hh6; obtain ⟨he6, hb6⟩ := hh6.out; subst he6; have HW6 := HW5.below hb6; clear y4 y5 y6 y7; have y4 := HW6.c 4 (.int .i64 m.U) rfl; have y5 := HW6.c 5 (.int .u64 m.C) rfl; have y6 := HW6.c 6 (.int .i64 m.H) rfl; have y7 := HW6.c 7 (.int .i64 m.K) rfl) | (go_at_call 25; refine (HSec.out _).mono ?_; intro e7 w0 hh7; obtain ⟨he7, hb7⟩ := hh7.out; subst he7; have HW7 := HW6.below hb7))
  have HW0 : Hid (Below w.heap.size w w0) := ((HW.out.2.trans (hb5.mono HW.out.2.size)).trans (hb6.mono (Nat.le_trans HW.out.2.size hb5.size))).trans (hb7.mono (Nat.le_trans (Nat.le_trans HW.out.2.size hb5.size) hb6.size))
  have HK : Hid (Wk w0 w.heap.size m) := HW7
  clear HW5 HW6 HW7 hb5 hb6 hb7 hh5 hh6 hh7 y4 y5 y6 y7 r4 r5 r7 r8 r1 r2 HM HAr HSec HW
  have hS0 : Below w0.heap.size w0 w0.drew := (Below.refl _ _).drew
  have hrr : ∀ u, Below w0.heap.size w0 u → u.rangeAt (w.heap.size + 1) 0 (roM m).toList := fun u hu => (HK.out.below hu).range
  have fr6 : ∀ u, Below w0.heap.size w0 u → u.cell? ⟨w.heap.size + 1, 6, none⟩ = some (.int .u64 (m.done : Nat)) := fun u hu => (HK.out.below hu).r 6 _ rfl
  have fr1 : ∀ u, Below w0.heap.size w0 u → u.cell? ⟨w.heap.size + 1, 1, none⟩ = some (.int .u64 (m.fr : Nat)) := fun u hu => (HK.out.below hu).r 1 _ rfl
  have fr2 : ∀ u, Below w0.heap.size w0 u → u.cell? ⟨w.heap.size + 1, 2, none⟩ = some (.int .u64 (m.to : Nat)) := fun u hu => (HK.out.below hu).r 2 _ rfl
  have fy13 : ∀ u, Below w0.heap.size w0 u → u.cell? ⟨w.heap.size, 13, none⟩ = some (.slice m.gp m.gn m.gc) := fun u hu => (HK.out.below hu).c 13 _ rfl
  have fy12 : ∀ u, Below w0.heap.size w0 u → u.cell? ⟨w.heap.size, 12, none⟩ = some (.slice m.ep m.en m.ec) := fun u hu => (HK.out.below hu).c 12 _ rfl
  refine wp_region_noPanic ?_
  refine wp_region_held_drew (S := fun u => Below w0.heap.size w0 u) (by kernel_rfl) (hS0) (fun _ => ?_)
  refine takeH_at 0 26 (.pointer (some ⟨w.heap.size + 1, 6, none⟩)) rfl rfl (by kernel_rfl) (by kernel_rfl) (by kernel_rfl) (fun _ _ _ h => h) (hS0) (Or.inl ⟨by kernel_rfl, fun w' hS' => by go_simp⟩) ?_
  simp only [List.setIfInBounds_toArray, List.set_cons_zero, List.set_cons_succ]
  refine takeH_at 1 27 (.int .u64 (m.done : Nat)) rfl rfl (by kernel_rfl) (by kernel_rfl) (by kernel_rfl) (fun _ _ _ h => h) (hS0) (Or.inl ⟨by kernel_rfl, fun w' hS' => by have q := fr6 w' hS'; go_simp⟩) ?_
  simp only [List.setIfInBounds_toArray, List.set_cons_zero, List.set_cons_succ]
  refine takeH_at 2 28 (.int .u64 (N : Nat)) rfl rfl (by kernel_rfl) (by kernel_rfl) (by kernel_rfl) (fun _ _ _ h => h) (hS0) (Or.inl ⟨by kernel_rfl, fun w' hS' => by go_simp⟩) ?_
  simp only [List.setIfInBounds_toArray, List.set_cons_zero, List.set_cons_succ]
  refine takeH_at 3 29 (.bool true) rfl rfl (by kernel_rfl) (by kernel_rfl) (by kernel_rfl) (fun _ _ _ h => h) (hS0) (Or.inl ⟨by kernel_rfl, fun w' hS' => by go_simp⟩) ?_
  simp only [List.setIfInBounds_toArray, List.set_cons_zero, List.set_cons_succ]
  refine takeH_at 4 30 (.bool true) rfl rfl (by kernel_rfl) (by kernel_rfl) (by kernel_rfl) (fun _ _ _ h => h) (hS0) (Or.inl ⟨by kernel_rfl, fun w' hS' => by go_simp⟩) ?_
  simp only [List.setIfInBounds_toArray, List.set_cons_zero, List.set_cons_succ]
  refine takeH_at 5 31 (.int .u64 (N : Nat)) rfl rfl (by kernel_rfl) (by kernel_rfl) (by kernel_rfl) (fun _ _ _ h => h) (hS0) (Or.inl ⟨by kernel_rfl, fun w' hS' => by go_simp⟩) ?_
  simp only [List.setIfInBounds_toArray, List.set_cons_zero, List.set_cons_succ]
  refine takeH_at 6 32 (.agg (roM m)) rfl rfl (by kernel_rfl) (by kernel_rfl) (by kernel_rfl) (fun _ _ _ h => h) (hS0) (yieldsIf_load_mid (by kernel_rfl) 33 (.tmp 3) rfl (w.heap.size + 1) 0 rfl (roM m).toList _ hrr Try.underlying33 rfl (by kernel_rfl)) ?_
  simp only [List.setIfInBounds_toArray, List.set_cons_zero, List.set_cons_succ]
  refine wpAnyH_ready (rs := [7]) (by kernel_rfl) (by simp) ?_
  refine AllReadyH.cons rfl (fun Kx hK => ?_) AllReadyH.nil
  rw [if_pos (by kernel_rfl)]
  go_simp
  refine (HSt.out _).mono ?_
  intro e1 q1 hh
  obtain ⟨he, hq1⟩ := hh.out
  subst he
  clear hh
  have hS1 : Below w0.heap.size w0 q1 := (hS0).trans (hq1.mono (hS0).size)
  go_wp2_with fail
  refine hK.out _ _ hS1 (fun _ => ?_)
  clear hK Kx
  try simp only [Act.put, List.setIfInBounds_toArray, List.set_cons_zero, List.set_cons_succ]
  refine takeH_at 8 34 (.bool false) rfl rfl (by kernel_rfl) (by kernel_rfl) (by kernel_rfl) (fun _ _ _ h => h) (hS1) (Or.inl ⟨by kernel_rfl, fun w' hS' => by go_simp⟩) ?_
  simp only [List.setIfInBounds_toArray, List.set_cons_zero, List.set_cons_succ]
  refine takeH_at 9 35 (.bool false) rfl rfl (by kernel_rfl) (by kernel_rfl) (by kernel_rfl) (fun _ _ _ h => h) (hS1) (Or.inl ⟨by kernel_rfl, fun w' hS' => by go_simp⟩) ?_
  simp only [List.setIfInBounds_toArray, List.set_cons_zero, List.set_cons_succ]
  refine takeH_at 10 36 undef rfl rfl (by kernel_rfl) (by kernel_rfl) (by kernel_rfl) (fun _ _ _ h => h) (hS1) (Or.inr ⟨by kernel_rfl, rfl⟩) ?_
  simp only [List.setIfInBounds_toArray, List.set_cons_zero, List.set_cons_succ]
  refine takeH_at 11 37 undef rfl rfl (by kernel_rfl) (by kernel_rfl) (by kernel_rfl) (fun _ _ _ h => h) (hS1) (Or.inr ⟨by kernel_rfl, rfl⟩) ?_
  simp only [List.setIfInBounds_toArray, List.set_cons_zero, List.set_cons_succ]
  refine takeH_at 12 38 undef rfl rfl (by kernel_rfl) (by kernel_rfl) (by kernel_rfl) (fun _ _ _ h => h) (hS1) (Or.inr ⟨by kernel_rfl, rfl⟩) ?_
  simp only [List.setIfInBounds_toArray, List.set_cons_zero, List.set_cons_succ]
  refine takeH_at 13 39 undef rfl rfl (by kernel_rfl) (by kernel_rfl) (by kernel_rfl) (fun _ _ _ h => h) (hS1) (Or.inr ⟨by kernel_rfl, rfl⟩) ?_
  simp only [List.setIfInBounds_toArray, List.set_cons_zero, List.set_cons_succ]
  refine takeH_at 14 40 undef rfl rfl (by kernel_rfl) (by kernel_rfl) (by kernel_rfl) (fun _ _ _ h => h) (hS1) (Or.inr ⟨by kernel_rfl, rfl⟩) ?_
  simp only [List.setIfInBounds_toArray, List.set_cons_zero, List.set_cons_succ]
  refine takeH_at 15 41 undef rfl rfl (by kernel_rfl) (by kernel_rfl) (by kernel_rfl) (fun _ _ _ h => h) (hS1) (Or.inr ⟨by kernel_rfl, rfl⟩) ?_
  simp only [List.setIfInBounds_toArray, List.set_cons_zero, List.set_cons_succ]
  refine takeH_at 16 42 (.bool false) rfl rfl (by kernel_rfl) (by kernel_rfl) (by kernel_rfl) (fun _ _ _ h => h) (hS1) (Or.inl ⟨by kernel_rfl, fun w' hS' => by go_simp⟩) ?_
  simp only [List.setIfInBounds_toArray, List.set_cons_zero, List.set_cons_succ]
  refine takeH_at 17 43 (.bool false) rfl rfl (by kernel_rfl) (by kernel_rfl) (by kernel_rfl) (fun _ _ _ h => h) (hS1) (Or.inl ⟨by kernel_rfl, fun w' hS' => by go_simp⟩) ?_
  simp only [List.setIfInBounds_toArray, List.set_cons_zero, List.set_cons_succ]
  refine takeH_at 18 44 undef rfl rfl (by kernel_rfl) (by kernel_rfl) (by kernel_rfl) (fun _ _ _ h => h) (hS1) (Or.inr ⟨by kernel_rfl, rfl⟩) ?_
  simp only [List.setIfInBounds_toArray, List.set_cons_zero, List.set_cons_succ]
  refine takeH_at 19 45 undef rfl rfl (by kernel_rfl) (by kernel_rfl) (by kernel_rfl) (fun _ _ _ h => h) (hS1) (Or.inr ⟨by kernel_rfl, rfl⟩) ?_
  simp only [List.setIfInBounds_toArray, List.set_cons_zero, List.set_cons_succ]
  refine takeH_at 20 46 undef rfl rfl (by kernel_rfl) (by kernel_rfl) (by kernel_rfl) (fun _ _ _ h => h) (hS1) (Or.inr ⟨by kernel_rfl, rfl⟩) ?_
  simp only [List.setIfInBounds_toArray, List.set_cons_zero, List.set_cons_succ]
  refine takeH_at 21 47 undef rfl rfl (by kernel_rfl) (by kernel_rfl) (by kernel_rfl) (fun _ _ _ h => h) (hS1) (Or.inr ⟨by kernel_rfl, rfl⟩) ?_
  simp only [List.setIfInBounds_toArray, List.set_cons_zero, List.set_cons_succ]
  refine takeH_at 22 48 undef rfl rfl (by kernel_rfl) (by kernel_rfl) (by kernel_rfl) (fun _ _ _ h => h) (hS1) (Or.inr ⟨by kernel_rfl, rfl⟩) ?_
  simp only [List.setIfInBounds_toArray, List.set_cons_zero, List.set_cons_succ]
  refine takeH_at 23 49 (.bool false) rfl rfl (by kernel_rfl) (by kernel_rfl) (by kernel_rfl) (fun _ _ _ h => h) (hS1) (Or.inl ⟨by kernel_rfl, fun w' hS' => by go_simp⟩) ?_
  simp only [List.setIfInBounds_toArray, List.set_cons_zero, List.set_cons_succ]
  refine takeH_at 24 50 (.bool false) rfl rfl (by kernel_rfl) (by kernel_rfl) (by kernel_rfl) (fun _ _ _ h => h) (hS1) (Or.inl ⟨by kernel_rfl, fun w' hS' => by go_simp⟩) ?_
  simp only [List.setIfInBounds_toArray, List.set_cons_zero, List.set_cons_succ]
  refine takeH_at 25 51 undef rfl rfl (by kernel_rfl) (by kernel_rfl) (by kernel_rfl) (fun _ _ _ h => h) (hS1) (Or.inr ⟨by kernel_rfl, rfl⟩) ?_
  simp only [List.setIfInBounds_toArray, List.set_cons_zero, List.set_cons_succ]
  refine takeH_at 26 52 undef rfl rfl (by kernel_rfl) (by kernel_rfl) (by kernel_rfl) (fun _ _ _ h => h) (hS1) (Or.inr ⟨by kernel_rfl, rfl⟩) ?_
  simp only [List.setIfInBounds_toArray, List.set_cons_zero, List.set_cons_succ]
  refine takeH_at 27 53 undef rfl rfl (by kernel_rfl) (by kernel_rfl) (by kernel_rfl) (fun _ _ _ h => h) (hS1) (Or.inr ⟨by kernel_rfl, rfl⟩) ?_
  simp only [List.setIfInBounds_toArray, List.set_cons_zero, List.set_cons_succ]
  refine takeH_at 28 54 undef rfl rfl (by kernel_rfl) (by kernel_rfl) (by kernel_rfl) (fun _ _ _ h => h) (hS1) (Or.inr ⟨by kernel_rfl, rfl⟩) ?_
  simp only [List.setIfInBounds_toArray, List.set_cons_zero, List.set_cons_succ]
  refine takeH_at 29 55 undef rfl rfl (by kernel_rfl) (by kernel_rfl) (by kernel_rfl) (fun _ _ _ h => h) (hS1) (Or.inr ⟨by kernel_rfl, rfl⟩) ?_
  simp only [List.setIfInBounds_toArray, List.set_cons_zero, List.set_cons_succ]
  refine takeH_at 30 56 (.bool false) rfl rfl (by kernel_rfl) (by kernel_rfl) (by kernel_rfl) (fun _ _ _ h => h) (hS1) (Or.inl ⟨by kernel_rfl, fun w' hS' => by go_simp⟩) ?_
  simp only [List.setIfInBounds_toArray, List.set_cons_zero, List.set_cons_succ]
  refine takeH_at 31 57 (.bool false) rfl rfl (by kernel_rfl) (by kernel_rfl) (by kernel_rfl) (fun _ _ _ h => h) (hS1) (Or.inl ⟨by kernel_rfl, fun w' hS' => by go_simp⟩) ?_
  simp only [List.setIfInBounds_toArray, List.set_cons_zero, List.set_cons_succ]
  refine takeH_at 32 58 undef rfl rfl (by kernel_rfl) (by kernel_rfl) (by kernel_rfl) (fun _ _ _ h => h) (hS1) (Or.inr ⟨by kernel_rfl, rfl⟩) ?_
  simp only [List.setIfInBounds_toArray, List.set_cons_zero, List.set_cons_succ]
  refine takeH_at 33 59 undef rfl rfl (by kernel_rfl) (by kernel_rfl) (by kernel_rfl) (fun _ _ _ h => h) (hS1) (Or.inr ⟨by kernel_rfl, rfl⟩) ?_
  simp only [List.setIfInBounds_toArray, List.set_cons_zero, List.set_cons_succ]
  refine takeH_at 34 60 undef rfl rfl (by kernel_rfl) (by kernel_rfl) (by kernel_rfl) (fun _ _ _ h => h) (hS1) (Or.inr ⟨by kernel_rfl, rfl⟩) ?_
  simp only [List.setIfInBounds_toArray, List.set_cons_zero, List.set_cons_succ]
  refine takeH_at 35 61 undef rfl rfl (by kernel_rfl) (by kernel_rfl) (by kernel_rfl) (fun _ _ _ h => h) (hS1) (Or.inr ⟨by kernel_rfl, rfl⟩) ?_
  simp only [List.setIfInBounds_toArray, List.set_cons_zero, List.set_cons_succ]
  refine takeH_at 36 62 undef rfl rfl (by kernel_rfl) (by kernel_rfl) (by kernel_rfl) (fun _ _ _ h => h) (hS1) (Or.inr ⟨by kernel_rfl, rfl⟩) ?_
  simp only [List.setIfInBounds_toArray, List.set_cons_zero, List.set_cons_succ]
  refine takeH_at 37 63 (.bool false) rfl rfl (by kernel_rfl) (by kernel_rfl) (by kernel_rfl) (fun _ _ _ h => h) (hS1) (Or.inl ⟨by kernel_rfl, fun w' hS' => by go_simp⟩) ?_
  simp only [List.setIfInBounds_toArray, List.set_cons_zero, List.set_cons_succ]
  refine takeH_at 38 2 (.bool false) rfl rfl (by kernel_rfl) (by kernel_rfl) (by kernel_rfl) (fun _ _ _ h => h) (hS1) (Or.inl ⟨by kernel_rfl, fun w' hS' => by go_simp⟩) ?_
  simp only [List.setIfInBounds_toArray, List.set_cons_zero, List.set_cons_succ]
  refine wpAnyH_done (by kernel_rfl) ?_ _
  refine NoPanic.normal ?_
  go_wp2_with fail
  go_ret
  exact ⟨rfl, HW0.out.trans (hS1.mono HW0.out.size)⟩
set_option maxHeartbeats 8000000 in
set_option maxRecDepth 100000 in
theorem work_4 (m : Mt) (hC : 0 ≤ m.C) (w : World) (hot N : Nat) (EL : List Epo) (f : Nat → Int × Int × Int) (hh : m.hot = (hot : Int)) (hz : m.az ≤ 9223372036854775807) (hN : m.C - (2 * m.H + m.K) / m.U = (N : Nat)) (hN2 : N ≤ 4294967296) (hsz : m.sum.size ≤ 9223372036854775807) (hc1 : m.gn ≤ m.gc) (hc2 : m.gc ≤ 9223372036854775807) (hen : Hid (EL.length = m.en)) (hn0 : m.en ≤ 1954687338268) (e1 : Hid (RV epoL 5 w m.ep EL)) (hSg : Hid (SegV w (.slice m.gp m.gn m.gc) m.gn f))
    (hm : mayB m.U m.C m.H m.K = true) (ha : areaB m.U m.H m.K m.ao m.az m.mode hot = true) (hd : m.done ≤ N) (hst : stepB m hot N = true) (hJ : ¬ (JustP m.gn f (Sx.kept [Sx.segX N (rM m), Sx.segY N (rM m)]))) : Calls Try.prog 37 #[.agg (mtC m)] w fun e w' => e = .returned (.bool false) ∧ Below w.heap.size w w' := by
  have HM : Hid (∀ u, Calls Try.prog 18 #[.agg #[.int .i64 m.U, .int .u64 m.C, .int .i64 m.H, .int .i64 m.K]] u fun e w' => Hid (e = .returned (.bool true) ∧ Below u.heap.size u w')) := fun u => by
    have q := may_ok m.U m.C m.H m.K hC u
    rw [hm] at q
    exact q
  obtain ⟨qu, qh, k4, k2, _, qc, qlt⟩ := mayB_all hm
  have hr := headB_range qh
  have h1 : 0 ≤ m.H := by omega
  have h2 : m.H ≤ 4194304 := hr.2
  have k1 : 0 ≤ m.K := by omega
  have HAr : Hid (∀ u, Calls Try.prog 19 #[.agg #[.int .i64 m.U, .int .u64 m.C, .int .i64 m.H, .int .i64 m.K], .agg #[.int .i64 m.ao, .int .i64 m.az], .int .i64 m.mode, .int .u64 m.hot] u fun e w' => Hid (e = .returned (.bool true) ∧ Below u.heap.size u w')) := fun u => by
    have q := area_ok m.U m.C m.H m.K m.ao m.az m.mode hot u h1 h2 k1 k2 hz
    rw [ha] at q
    rw [hh]
    exact q
  have HSec : Hid (∀ u, Calls Try.prog 25 #[.agg #[.int .i64 m.U, .int .u64 m.C, .int .i64 m.H, .int .i64 m.K]] u fun e w' => Hid (e = .returned (.int .u64 (N : Nat)) ∧ Below u.heap.size u w')) := fun u => by
    have q := sectors_ok m.U m.C m.H m.K u qu h1 h2 k1 k2 (by omega) qc
    rw [hN] at q
    exact q
  have HSt : Hid (∀ u, Calls Try.prog 64 #[.int .u64 (N : Nat), .agg (roM m)] u fun e w' => Hid (e = .returned (.bool true) ∧ Below u.heap.size u w')) := fun u => by
    have q := stepM_ok m hot N hh hN2 hd hsz u
    rw [hst] at q
    exact q
  have HSe : Hid (∀ u, Calls Try.prog 24 #[.int .u64 (N : Nat), .agg (roM m)] u fun e w' => ∃ g, e = .returned (.func (.func 53) #[] #[.pointer (some ⟨g, 0, none⟩)]) ∧ Sx.Two w' g (Sx.segX N (rM m)) (Sx.segY N (rM m)) ∧ Below u.heap.size u w') := fun u => Sx.segments_ok N (rM m) hN2 hd u
  generalize Sx.segX N (rM m) = sx at *
  generalize Sx.segY N (rM m) = sy at *
  have gd : decide ((m.done : Int) ≤ (N : Int)) = true := by simp; omega
  clear hm ha qu qh qc qlt hr hh k4 hN
  have bx : Bx (w.alloc (.cells (mtC m) 36)) w.heap.size m := World.alloc_heap_new w _
  have y4 := bx.c 4 (.int .i64 m.U) rfl
  have y5 := bx.c 5 (.int .u64 m.C) rfl
  have y6 := bx.c 6 (.int .i64 m.H) rfl
  have y7 := bx.c 7 (.int .i64 m.K) rfl
  have y14 := bx.c 14 (.bool m.on) rfl
  have y15 := bx.c 15 (.int .u64 (m.fr : Nat)) rfl
  have y16 := bx.c 16 (.int .u64 (m.to : Nat)) rfl
  have y17 := bx.c 17 (.bool m.back) rfl
  have y18 := bx.c 18 (.int .i64 m.mode) rfl
  have y19 := bx.c 19 (.int .u64 m.hot) rfl
  have y20 := bx.c 20 (.int .u64 (m.done : Nat)) rfl
  have y21 := bx.c 21 (.int .i64 m.ao) rfl
  have y22 := bx.c 22 (.int .i64 m.az) rfl
  have y23 := bx.c 23 (.bool m.act) rfl
  have y24 := bx.c 24 (.int .u64 m.cnt) rfl
  have y25 := bx.c 25 (.string m.sum) rfl
  clear bx
  have HW : Hid (Wk ((w.alloc (.cells (mtC m) 36)).alloc (.cells (roM m) 33)) w.heap.size m ∧ Below w.heap.size w ((w.alloc (.cells (mtC m) 36)).alloc (.cells (roM m) 33))) := ⟨Wk.new w m, AAt.nb _ _ _⟩
  go_enter Try.func37, Try.ntmps37
  go_upto_region 2 with fail
  generalize ((w.alloc (.cells (mtC m) 36)).alloc (.cells (roM m) 33)) = wz at HW ⊢
  clear y4 y5 y6 y7 y14 y15 y16 y17 y18 y19 y20 y21 y22 y23 y24 y25
  have y4 := HW.out.1.c 4 (.int .i64 m.U) rfl
  have y5 := HW.out.1.c 5 (.int .u64 m.C) rfl
  have y6 := HW.out.1.c 6 (.int .i64 m.H) rfl
  have y7 := HW.out.1.c 7 (.int .i64 m.K) rfl
  go_upto_region 5 with (first | (go_at_call 18; refine (HM.out _).mono ?_; intro e5 w5 hh5; obtain ⟨he5, hb5⟩ := hh5.out; subst he5; have HW5 := HW.out.1.below hb5; have y4 := HW5.c 4 (.int .i64 m.U) rfl; have y5 := HW5.c 5 (.int .u64 m.C) rfl; have y6 := HW5.c 6 (.int .i64 m.H) rfl; have y7 := HW5.c 7 (.int .i64 m.K) rfl; have r4 := HW5.r 4 (.int .i64 m.mode) rfl; have r5 := HW5.r 5 (.int .u64 m.hot) rfl; have r7 := HW5.r 7 (.int .i64 m.ao) rfl; have r8 := HW5.r 8 (.int .i64 m.az) rfl; have r1 := HW5.r 1 (.int .u64 (m.fr : Nat)) rfl; have r2 := HW5.r 2 (.int .u64 (m.to : Nat)) rfl) | (go_at_call 19; refine (HAr.out _).mono ?_; intro e6 w6 hh6; obtain ⟨he6, hb6⟩ := hh6.out; subst he6; have HW6 := HW5.below hb6; clear y4 y5 y6 y7; have y4 := HW6.c 4 (.int .i64 m.U) rfl; have y5 := HW6.c 5 (.int .u64 m.C) rfl; have y6 := HW6.c 6 (.int .i64 m.H) rfl; have y7 := HW6.c 7 (.int .i64 m.K) rfl) | (go_at_call 25; refine (HSec.out _).mono ?_; intro e7 w0 hh7; obtain ⟨he7, hb7⟩ := hh7.out; subst he7; have HW7 := HW6.below hb7))
  have HW0 : Hid (Below w.heap.size w w0) := ((HW.out.2.trans (hb5.mono HW.out.2.size)).trans (hb6.mono (Nat.le_trans HW.out.2.size hb5.size))).trans (hb7.mono (Nat.le_trans (Nat.le_trans HW.out.2.size hb5.size) hb6.size))
  have HK : Hid (Wk w0 w.heap.size m) := HW7
  clear HW5 HW6 HW7 hb5 hb6 hb7 hh5 hh6 hh7 y4 y5 y6 y7 r4 r5 r7 r8 r1 r2 HM HAr HSec HW
  have hS0 : Below w0.heap.size w0 w0.drew := (Below.refl _ _).drew
  have hrr : ∀ u, Below w0.heap.size w0 u → u.rangeAt (w.heap.size + 1) 0 (roM m).toList := fun u hu => (HK.out.below hu).range
  have fr6 : ∀ u, Below w0.heap.size w0 u → u.cell? ⟨w.heap.size + 1, 6, none⟩ = some (.int .u64 (m.done : Nat)) := fun u hu => (HK.out.below hu).r 6 _ rfl
  have fr1 : ∀ u, Below w0.heap.size w0 u → u.cell? ⟨w.heap.size + 1, 1, none⟩ = some (.int .u64 (m.fr : Nat)) := fun u hu => (HK.out.below hu).r 1 _ rfl
  have fr2 : ∀ u, Below w0.heap.size w0 u → u.cell? ⟨w.heap.size + 1, 2, none⟩ = some (.int .u64 (m.to : Nat)) := fun u hu => (HK.out.below hu).r 2 _ rfl
  have fy13 : ∀ u, Below w0.heap.size w0 u → u.cell? ⟨w.heap.size, 13, none⟩ = some (.slice m.gp m.gn m.gc) := fun u hu => (HK.out.below hu).c 13 _ rfl
  have fy12 : ∀ u, Below w0.heap.size w0 u → u.cell? ⟨w.heap.size, 12, none⟩ = some (.slice m.ep m.en m.ec) := fun u hu => (HK.out.below hu).c 12 _ rfl
  refine wp_region_noPanic ?_
  refine wp_region_held_drew (S := fun u => Below w0.heap.size w0 u) (by kernel_rfl) (hS0) (fun _ => ?_)
  refine takeH_at 0 26 (.pointer (some ⟨w.heap.size + 1, 6, none⟩)) rfl rfl (by kernel_rfl) (by kernel_rfl) (by kernel_rfl) (fun _ _ _ h => h) (hS0) (Or.inl ⟨by kernel_rfl, fun w' hS' => by go_simp⟩) ?_
  simp only [List.setIfInBounds_toArray, List.set_cons_zero, List.set_cons_succ]
  refine takeH_at 1 27 (.int .u64 (m.done : Nat)) rfl rfl (by kernel_rfl) (by kernel_rfl) (by kernel_rfl) (fun _ _ _ h => h) (hS0) (Or.inl ⟨by kernel_rfl, fun w' hS' => by have q := fr6 w' hS'; go_simp⟩) ?_
  simp only [List.setIfInBounds_toArray, List.set_cons_zero, List.set_cons_succ]
  refine takeH_at 2 28 (.int .u64 (N : Nat)) rfl rfl (by kernel_rfl) (by kernel_rfl) (by kernel_rfl) (fun _ _ _ h => h) (hS0) (Or.inl ⟨by kernel_rfl, fun w' hS' => by go_simp⟩) ?_
  simp only [List.setIfInBounds_toArray, List.set_cons_zero, List.set_cons_succ]
  refine takeH_at 3 29 (.bool true) rfl rfl (by kernel_rfl) (by kernel_rfl) (by kernel_rfl) (fun _ _ _ h => h) (hS0) (Or.inl ⟨by kernel_rfl, fun w' hS' => by go_simp⟩) ?_
  simp only [List.setIfInBounds_toArray, List.set_cons_zero, List.set_cons_succ]
  refine takeH_at 4 30 (.bool true) rfl rfl (by kernel_rfl) (by kernel_rfl) (by kernel_rfl) (fun _ _ _ h => h) (hS0) (Or.inl ⟨by kernel_rfl, fun w' hS' => by go_simp⟩) ?_
  simp only [List.setIfInBounds_toArray, List.set_cons_zero, List.set_cons_succ]
  refine takeH_at 5 31 (.int .u64 (N : Nat)) rfl rfl (by kernel_rfl) (by kernel_rfl) (by kernel_rfl) (fun _ _ _ h => h) (hS0) (Or.inl ⟨by kernel_rfl, fun w' hS' => by go_simp⟩) ?_
  simp only [List.setIfInBounds_toArray, List.set_cons_zero, List.set_cons_succ]
  refine takeH_at 6 32 (.agg (roM m)) rfl rfl (by kernel_rfl) (by kernel_rfl) (by kernel_rfl) (fun _ _ _ h => h) (hS0) (yieldsIf_load_mid (by kernel_rfl) 33 (.tmp 3) rfl (w.heap.size + 1) 0 rfl (roM m).toList _ hrr Try.underlying33 rfl (by kernel_rfl)) ?_
  simp only [List.setIfInBounds_toArray, List.set_cons_zero, List.set_cons_succ]
  refine wpAnyH_ready (rs := [7]) (by kernel_rfl) (by simp) ?_
  refine AllReadyH.cons rfl (fun Kx hK => ?_) AllReadyH.nil
  rw [if_pos (by kernel_rfl)]
  go_simp
  refine (HSt.out _).mono ?_
  intro e1 q1 hh
  obtain ⟨he, hq1⟩ := hh.out
  subst he
  clear hh
  have hS1 : Below w0.heap.size w0 q1 := (hS0).trans (hq1.mono (hS0).size)
  go_wp2_with fail
  refine hK.out _ _ hS1 (fun _ => ?_)
  clear hK Kx
  try simp only [Act.put, List.setIfInBounds_toArray, List.set_cons_zero, List.set_cons_succ]
  refine takeH_at 8 34 (.bool true) rfl rfl (by kernel_rfl) (by kernel_rfl) (by kernel_rfl) (fun _ _ _ h => h) (hS1) (Or.inl ⟨by kernel_rfl, fun w' hS' => by go_simp⟩) ?_
  simp only [List.setIfInBounds_toArray, List.set_cons_zero, List.set_cons_succ]
  refine takeH_at 9 35 (.bool true) rfl rfl (by kernel_rfl) (by kernel_rfl) (by kernel_rfl) (fun _ _ _ h => h) (hS1) (Or.inl ⟨by kernel_rfl, fun w' hS' => by go_simp⟩) ?_
  simp only [List.setIfInBounds_toArray, List.set_cons_zero, List.set_cons_succ]
  refine takeH_at 10 36 (.pointer (some ⟨w.heap.size, 13, none⟩)) rfl rfl (by kernel_rfl) (by kernel_rfl) (by kernel_rfl) (fun _ _ _ h => h) (hS1) (Or.inl ⟨by kernel_rfl, fun w' hS' => by go_simp⟩) ?_
  simp only [List.setIfInBounds_toArray, List.set_cons_zero, List.set_cons_succ]
  refine takeH_at 11 37 (.slice m.gp m.gn m.gc) rfl rfl (by kernel_rfl) (by kernel_rfl) (by kernel_rfl) (fun _ _ _ h => h) (hS1) (Or.inl ⟨by kernel_rfl, fun w' hS' => by have q := fy13 w' hS'; go_simp⟩) ?_
  simp only [List.setIfInBounds_toArray, List.set_cons_zero, List.set_cons_succ]
  refine takeH_at 12 38 (.int .u64 (N : Nat)) rfl rfl (by kernel_rfl) (by kernel_rfl) (by kernel_rfl) (fun _ _ _ h => h) (hS1) (Or.inl ⟨by kernel_rfl, fun w' hS' => by go_simp⟩) ?_
  simp only [List.setIfInBounds_toArray, List.set_cons_zero, List.set_cons_succ]
  refine takeH_at 13 39 (.agg (roM m)) rfl rfl (by kernel_rfl) (by kernel_rfl) (by kernel_rfl) (fun _ _ _ h => h) (hS1) (yieldsIf_load_mid (by kernel_rfl) 33 (.tmp 3) rfl (w.heap.size + 1) 0 rfl (roM m).toList _ hrr Try.underlying33 rfl (by kernel_rfl)) ?_
  simp only [List.setIfInBounds_toArray, List.set_cons_zero, List.set_cons_succ]
  refine wpAnyH_ready (rs := [14]) (by kernel_rfl) (by simp) ?_
  refine AllReadyH.cons rfl (fun Kx hK => ?_) AllReadyH.nil
  rw [if_pos (by kernel_rfl)]
  go_simp
  refine (HSe.out _).mono ?_
  intro e1 q2 hh
  obtain ⟨gg, he, hTwo, hq2⟩ := hh
  subst he
  have hS2 : Below w0.heap.size w0 q2 := (hS1).trans (hq2.mono (hS1).size)
  go_wp2_with fail
  refine hK.out _ _ hS2 (fun _ => ?_)
  clear hK Kx
  try simp only [Act.put, List.setIfInBounds_toArray, List.set_cons_zero, List.set_cons_succ]
  refine wpAnyH_ready (rs := [15]) (by kernel_rfl) (by simp) ?_
  refine AllReadyH.cons rfl (fun Kx hK => ?_) AllReadyH.nil
  rw [if_pos (by kernel_rfl)]
  go_simp
  refine (just_ok (v := undef) m.gp m.gc f hc1 hc2 gg sx sy q2 (hSg.out.below (Below.trans HW0.out (hS2.mono HW0.out.size))) hTwo).mono ?_
  intro e1 q3 hh
  obtain ⟨bb, he, hbb, hq3⟩ := hh
  subst he
  have hbx : bb = false := by cases bb; rfl; exact absurd (hbb.1 rfl) hJ
  subst hbx
  clear hbb hJ hTwo
  have hS3 : Below w0.heap.size w0 q3 := (hS2).trans (hq3.mono (hS2).size)
  go_wp2_with fail
  refine hK.out _ _ hS3 (fun _ => ?_)
  clear hK Kx
  try simp only [Act.put, List.setIfInBounds_toArray, List.set_cons_zero, List.set_cons_succ]
  refine takeH_at 16 42 (.bool false) rfl rfl (by kernel_rfl) (by kernel_rfl) (by kernel_rfl) (fun _ _ _ h => h) (hS3) (Or.inl ⟨by kernel_rfl, fun w' hS' => by go_simp⟩) ?_
  simp only [List.setIfInBounds_toArray, List.set_cons_zero, List.set_cons_succ]
  refine takeH_at 17 43 (.bool false) rfl rfl (by kernel_rfl) (by kernel_rfl) (by kernel_rfl) (fun _ _ _ h => h) (hS3) (Or.inl ⟨by kernel_rfl, fun w' hS' => by go_simp⟩) ?_
  simp only [List.setIfInBounds_toArray, List.set_cons_zero, List.set_cons_succ]
  refine takeH_at 18 44 undef rfl rfl (by kernel_rfl) (by kernel_rfl) (by kernel_rfl) (fun _ _ _ h => h) (hS3) (Or.inr ⟨by kernel_rfl, rfl⟩) ?_
  simp only [List.setIfInBounds_toArray, List.set_cons_zero, List.set_cons_succ]
  refine takeH_at 19 45 undef rfl rfl (by kernel_rfl) (by kernel_rfl) (by kernel_rfl) (fun _ _ _ h => h) (hS3) (Or.inr ⟨by kernel_rfl, rfl⟩) ?_
  simp only [List.setIfInBounds_toArray, List.set_cons_zero, List.set_cons_succ]
  refine takeH_at 20 46 undef rfl rfl (by kernel_rfl) (by kernel_rfl) (by kernel_rfl) (fun _ _ _ h => h) (hS3) (Or.inr ⟨by kernel_rfl, rfl⟩) ?_
  simp only [List.setIfInBounds_toArray, List.set_cons_zero, List.set_cons_succ]
  refine takeH_at 21 47 undef rfl rfl (by kernel_rfl) (by kernel_rfl) (by kernel_rfl) (fun _ _ _ h => h) (hS3) (Or.inr ⟨by kernel_rfl, rfl⟩) ?_
  simp only [List.setIfInBounds_toArray, List.set_cons_zero, List.set_cons_succ]
  refine takeH_at 22 48 undef rfl rfl (by kernel_rfl) (by kernel_rfl) (by kernel_rfl) (fun _ _ _ h => h) (hS3) (Or.inr ⟨by kernel_rfl, rfl⟩) ?_
  simp only [List.setIfInBounds_toArray, List.set_cons_zero, List.set_cons_succ]
  refine takeH_at 23 49 (.bool false) rfl rfl (by kernel_rfl) (by kernel_rfl) (by kernel_rfl) (fun _ _ _ h => h) (hS3) (Or.inl ⟨by kernel_rfl, fun w' hS' => by go_simp⟩) ?_
  simp only [List.setIfInBounds_toArray, List.set_cons_zero, List.set_cons_succ]
  refine takeH_at 24 50 (.bool false) rfl rfl (by kernel_rfl) (by kernel_rfl) (by kernel_rfl) (fun _ _ _ h => h) (hS3) (Or.inl ⟨by kernel_rfl, fun w' hS' => by go_simp⟩) ?_
  simp only [List.setIfInBounds_toArray, List.set_cons_zero, List.set_cons_succ]
  refine takeH_at 25 51 undef rfl rfl (by kernel_rfl) (by kernel_rfl) (by kernel_rfl) (fun _ _ _ h => h) (hS3) (Or.inr ⟨by kernel_rfl, rfl⟩) ?_
  simp only [List.setIfInBounds_toArray, List.set_cons_zero, List.set_cons_succ]
  refine takeH_at 26 52 undef rfl rfl (by kernel_rfl) (by kernel_rfl) (by kernel_rfl) (fun _ _ _ h => h) (hS3) (Or.inr ⟨by kernel_rfl, rfl⟩) ?_
  simp only [List.setIfInBounds_toArray, List.set_cons_zero, List.set_cons_succ]
  refine takeH_at 27 53 undef rfl rfl (by kernel_rfl) (by kernel_rfl) (by kernel_rfl) (fun _ _ _ h => h) (hS3) (Or.inr ⟨by kernel_rfl, rfl⟩) ?_
  simp only [List.setIfInBounds_toArray, List.set_cons_zero, List.set_cons_succ]
  refine takeH_at 28 54 undef rfl rfl (by kernel_rfl) (by kernel_rfl) (by kernel_rfl) (fun _ _ _ h => h) (hS3) (Or.inr ⟨by kernel_rfl, rfl⟩) ?_
  simp only [List.setIfInBounds_toArray, List.set_cons_zero, List.set_cons_succ]
  refine takeH_at 29 55 undef rfl rfl (by kernel_rfl) (by kernel_rfl) (by kernel_rfl) (fun _ _ _ h => h) (hS3) (Or.inr ⟨by kernel_rfl, rfl⟩) ?_
  simp only [List.setIfInBounds_toArray, List.set_cons_zero, List.set_cons_succ]
  refine takeH_at 30 56 (.bool false) rfl rfl (by kernel_rfl) (by kernel_rfl) (by kernel_rfl) (fun _ _ _ h => h) (hS3) (Or.inl ⟨by kernel_rfl, fun w' hS' => by go_simp⟩) ?_
  simp only [List.setIfInBounds_toArray, List.set_cons_zero, List.set_cons_succ]
  refine takeH_at 31 57 (.bool false) rfl rfl (by kernel_rfl) (by kernel_rfl) (by kernel_rfl) (fun _ _ _ h => h) (hS3) (Or.inl ⟨by kernel_rfl, fun w' hS' => by go_simp⟩) ?_
  simp only [List.setIfInBounds_toArray, List.set_cons_zero, List.set_cons_succ]
  refine takeH_at 32 58 undef rfl rfl (by kernel_rfl) (by kernel_rfl) (by kernel_rfl) (fun _ _ _ h => h) (hS3) (Or.inr ⟨by kernel_rfl, rfl⟩) ?_
  simp only [List.setIfInBounds_toArray, List.set_cons_zero, List.set_cons_succ]
  refine takeH_at 33 59 undef rfl rfl (by kernel_rfl) (by kernel_rfl) (by kernel_rfl) (fun _ _ _ h => h) (hS3) (Or.inr ⟨by kernel_rfl, rfl⟩) ?_
  simp only [List.setIfInBounds_toArray, List.set_cons_zero, List.set_cons_succ]
  refine takeH_at 34 60 undef rfl rfl (by kernel_rfl) (by kernel_rfl) (by kernel_rfl) (fun _ _ _ h => h) (hS3) (Or.inr ⟨by kernel_rfl, rfl⟩) ?_
  simp only [List.setIfInBounds_toArray, List.set_cons_zero, List.set_cons_succ]
  refine takeH_at 35 61 undef rfl rfl (by kernel_rfl) (by kernel_rfl) (by kernel_rfl) (fun _ _ _ h => h) (hS3) (Or.inr ⟨by kernel_rfl, rfl⟩) ?_
  simp only [List.setIfInBounds_toArray, List.set_cons_zero, List.set_cons_succ]
  refine takeH_at 36 62 undef rfl rfl (by kernel_rfl) (by kernel_rfl) (by kernel_rfl) (fun _ _ _ h => h) (hS3) (Or.inr ⟨by kernel_rfl, rfl⟩) ?_
  simp only [List.setIfInBounds_toArray, List.set_cons_zero, List.set_cons_succ]
  refine takeH_at 37 63 (.bool false) rfl rfl (by kernel_rfl) (by kernel_rfl) (by kernel_rfl) (fun _ _ _ h => h) (hS3) (Or.inl ⟨by kernel_rfl, fun w' hS' => by go_simp⟩) ?_
  simp only [List.setIfInBounds_toArray, List.set_cons_zero, List.set_cons_succ]
  refine takeH_at 38 2 (.bool false) rfl rfl (by kernel_rfl) (by kernel_rfl) (by kernel_rfl) (fun _ _ _ h => h) (hS3) (Or.inl ⟨by kernel_rfl, fun w' hS' => by go_simp⟩) ?_
  simp only [List.setIfInBounds_toArray, List.set_cons_zero, List.set_cons_succ]
  refine wpAnyH_done (by kernel_rfl) ?_ _
  refine NoPanic.normal ?_
  go_wp2_with fail
  go_ret
  exact ⟨rfl, HW0.out.trans (hS3.mono HW0.out.size)⟩
set_option maxHeartbeats 8000000 in
set_option maxRecDepth 100000 in
theorem work_5 (m : Mt) (hC : 0 ≤ m.C) (w : World) (hot N : Nat) (EL : List Epo) (f : Nat → Int × Int × Int) (hh : m.hot = (hot : Int)) (hz : m.az ≤ 9223372036854775807) (hN : m.C - (2 * m.H + m.K) / m.U = (N : Nat)) (hN2 : N ≤ 4294967296) (hsz : m.sum.size ≤ 9223372036854775807) (hc1 : m.gn ≤ m.gc) (hc2 : m.gc ≤ 9223372036854775807) (hen : Hid (EL.length = m.en)) (hn0 : m.en ≤ 1954687338268) (e1 : Hid (RV epoL 5 w m.ep EL)) (hSg : Hid (SegV w (.slice m.gp m.gn m.gc) m.gn f))
    (hm : mayB m.U m.C m.H m.K = true) (ha : areaB m.U m.H m.K m.ao m.az m.mode hot = true) (hd : m.done ≤ N) (hst : stepB m hot N = true) (hJ : JustP m.gn f (Sx.kept [Sx.segX N (rM m), Sx.segY N (rM m)])) (hft : ¬ (m.fr < m.to)) : Calls Try.prog 37 #[.agg (mtC m)] w fun e w' => e = .returned (.bool false) ∧ Below w.heap.size w w' := by
  have HM : Hid (∀ u, Calls Try.prog 18 #[.agg #[.int .i64 m.U, .int .u64 m.C, .int .i64 m.H, .int .i64 m.K]] u fun e w' => Hid (e = .returned (.bool true) ∧ Below u.heap.size u w')) := fun u => by
    have q := may_ok m.U m.C m.H m.K hC u
    rw [hm] at q
    exact q
  obtain ⟨qu, qh, k4, k2, _, qc, qlt⟩ := mayB_all hm
  have hr := headB_range qh
  have h1 : 0 ≤ m.H := by omega
  have h2 : m.H ≤ 4194304 := hr.2
  have k1 : 0 ≤ m.K := by omega
  have HAr : Hid (∀ u, Calls Try.prog 19 #[.agg #[.int .i64 m.U, .int .u64 m.C, .int .i64 m.H, .int .i64 m.K], .agg #[.int .i64 m.ao, .int .i64 m.az], .int .i64 m.mode, .int .u64 m.hot] u fun e w' => Hid (e = .returned (.bool true) ∧ Below u.heap.size u w')) := fun u => by
    have q := area_ok m.U m.C m.H m.K m.ao m.az m.mode hot u h1 h2 k1 k2 hz
    rw [ha] at q
    rw [hh]
    exact q
  have HSec : Hid (∀ u, Calls Try.prog 25 #[.agg #[.int .i64 m.U, .int .u64 m.C, .int .i64 m.H, .int .i64 m.K]] u fun e w' => Hid (e = .returned (.int .u64 (N : Nat)) ∧ Below u.heap.size u w')) := fun u => by
    have q := sectors_ok m.U m.C m.H m.K u qu h1 h2 k1 k2 (by omega) qc
    rw [hN] at q
    exact q
  have HSt : Hid (∀ u, Calls Try.prog 64 #[.int .u64 (N : Nat), .agg (roM m)] u fun e w' => Hid (e = .returned (.bool true) ∧ Below u.heap.size u w')) := fun u => by
    have q := stepM_ok m hot N hh hN2 hd hsz u
    rw [hst] at q
    exact q
  have HSe : Hid (∀ u, Calls Try.prog 24 #[.int .u64 (N : Nat), .agg (roM m)] u fun e w' => ∃ g, e = .returned (.func (.func 53) #[] #[.pointer (some ⟨g, 0, none⟩)]) ∧ Sx.Two w' g (Sx.segX N (rM m)) (Sx.segY N (rM m)) ∧ Below u.heap.size u w') := fun u => Sx.segments_ok N (rM m) hN2 hd u
  generalize Sx.segX N (rM m) = sx at *
  generalize Sx.segY N (rM m) = sy at *
  have gd : decide ((m.done : Int) ≤ (N : Int)) = true := by simp; omega
  have gt : decide ((m.fr : Int) < (m.to : Int)) = false := by simp; omega
  clear hm ha qu qh qc qlt hr hh k4 hN
  have bx : Bx (w.alloc (.cells (mtC m) 36)) w.heap.size m := World.alloc_heap_new w _
  have y4 := bx.c 4 (.int .i64 m.U) rfl
  have y5 := bx.c 5 (.int .u64 m.C) rfl
  have y6 := bx.c 6 (.int .i64 m.H) rfl
  have y7 := bx.c 7 (.int .i64 m.K) rfl
  have y14 := bx.c 14 (.bool m.on) rfl
  have y15 := bx.c 15 (.int .u64 (m.fr : Nat)) rfl
  have y16 := bx.c 16 (.int .u64 (m.to : Nat)) rfl
  have y17 := bx.c 17 (.bool m.back) rfl
  have y18 := bx.c 18 (.int .i64 m.mode) rfl
  have y19 := bx.c 19 (.int .u64 m.hot) rfl
  have y20 := bx.c 20 (.int .u64 (m.done : Nat)) rfl
  have y21 := bx.c 21 (.int .i64 m.ao) rfl
  have y22 := bx.c 22 (.int .i64 m.az) rfl
  have y23 := bx.c 23 (.bool m.act) rfl
  have y24 := bx.c 24 (.int .u64 m.cnt) rfl
  have y25 := bx.c 25 (.string m.sum) rfl
  clear bx
  have HW : Hid (Wk ((w.alloc (.cells (mtC m) 36)).alloc (.cells (roM m) 33)) w.heap.size m ∧ Below w.heap.size w ((w.alloc (.cells (mtC m) 36)).alloc (.cells (roM m) 33))) := ⟨Wk.new w m, AAt.nb _ _ _⟩
  go_enter Try.func37, Try.ntmps37
  go_upto_region 2 with fail
  generalize ((w.alloc (.cells (mtC m) 36)).alloc (.cells (roM m) 33)) = wz at HW ⊢
  clear y4 y5 y6 y7 y14 y15 y16 y17 y18 y19 y20 y21 y22 y23 y24 y25
  have y4 := HW.out.1.c 4 (.int .i64 m.U) rfl
  have y5 := HW.out.1.c 5 (.int .u64 m.C) rfl
  have y6 := HW.out.1.c 6 (.int .i64 m.H) rfl
  have y7 := HW.out.1.c 7 (.int .i64 m.K) rfl
  go_upto_region 5 with (first | (go_at_call 18; refine (HM.out _).mono ?_; intro e5 w5 hh5; obtain ⟨he5, hb5⟩ := hh5.out; subst he5; have HW5 := HW.out.1.below hb5; have y4 := HW5.c 4 (.int .i64 m.U) rfl; have y5 := HW5.c 5 (.int .u64 m.C) rfl; have y6 := HW5.c 6 (.int .i64 m.H) rfl; have y7 := HW5.c 7 (.int .i64 m.K) rfl; have r4 := HW5.r 4 (.int .i64 m.mode) rfl; have r5 := HW5.r 5 (.int .u64 m.hot) rfl; have r7 := HW5.r 7 (.int .i64 m.ao) rfl; have r8 := HW5.r 8 (.int .i64 m.az) rfl; have r1 := HW5.r 1 (.int .u64 (m.fr : Nat)) rfl; have r2 := HW5.r 2 (.int .u64 (m.to : Nat)) rfl) | (go_at_call 19; refine (HAr.out _).mono ?_; intro e6 w6 hh6; obtain ⟨he6, hb6⟩ := hh6.out; subst he6; have HW6 := HW5.below hb6; clear y4 y5 y6 y7; have y4 := HW6.c 4 (.int .i64 m.U) rfl; have y5 := HW6.c 5 (.int .u64 m.C) rfl; have y6 := HW6.c 6 (.int .i64 m.H) rfl; have y7 := HW6.c 7 (.int .i64 m.K) rfl) | (go_at_call 25; refine (HSec.out _).mono ?_; intro e7 w0 hh7; obtain ⟨he7, hb7⟩ := hh7.out; subst he7; have HW7 := HW6.below hb7))
  have HW0 : Hid (Below w.heap.size w w0) := ((HW.out.2.trans (hb5.mono HW.out.2.size)).trans (hb6.mono (Nat.le_trans HW.out.2.size hb5.size))).trans (hb7.mono (Nat.le_trans (Nat.le_trans HW.out.2.size hb5.size) hb6.size))
  have HK : Hid (Wk w0 w.heap.size m) := HW7
  clear HW5 HW6 HW7 hb5 hb6 hb7 hh5 hh6 hh7 y4 y5 y6 y7 r4 r5 r7 r8 r1 r2 HM HAr HSec HW
  have hS0 : Below w0.heap.size w0 w0.drew := (Below.refl _ _).drew
  have hrr : ∀ u, Below w0.heap.size w0 u → u.rangeAt (w.heap.size + 1) 0 (roM m).toList := fun u hu => (HK.out.below hu).range
  have fr6 : ∀ u, Below w0.heap.size w0 u → u.cell? ⟨w.heap.size + 1, 6, none⟩ = some (.int .u64 (m.done : Nat)) := fun u hu => (HK.out.below hu).r 6 _ rfl
  have fr1 : ∀ u, Below w0.heap.size w0 u → u.cell? ⟨w.heap.size + 1, 1, none⟩ = some (.int .u64 (m.fr : Nat)) := fun u hu => (HK.out.below hu).r 1 _ rfl
  have fr2 : ∀ u, Below w0.heap.size w0 u → u.cell? ⟨w.heap.size + 1, 2, none⟩ = some (.int .u64 (m.to : Nat)) := fun u hu => (HK.out.below hu).r 2 _ rfl
  have fy13 : ∀ u, Below w0.heap.size w0 u → u.cell? ⟨w.heap.size, 13, none⟩ = some (.slice m.gp m.gn m.gc) := fun u hu => (HK.out.below hu).c 13 _ rfl
  have fy12 : ∀ u, Below w0.heap.size w0 u → u.cell? ⟨w.heap.size, 12, none⟩ = some (.slice m.ep m.en m.ec) := fun u hu => (HK.out.below hu).c 12 _ rfl
  refine wp_region_noPanic ?_
  refine wp_region_held_drew (S := fun u => Below w0.heap.size w0 u) (by kernel_rfl) (hS0) (fun _ => ?_)
  refine takeH_at 0 26 (.pointer (some ⟨w.heap.size + 1, 6, none⟩)) rfl rfl (by kernel_rfl) (by kernel_rfl) (by kernel_rfl) (fun _ _ _ h => h) (hS0) (Or.inl ⟨by kernel_rfl, fun w' hS' => by go_simp⟩) ?_
  simp only [List.setIfInBounds_toArray, List.set_cons_zero, List.set_cons_succ]
  refine takeH_at 1 27 (.int .u64 (m.done : Nat)) rfl rfl (by kernel_rfl) (by kernel_rfl) (by kernel_rfl) (fun _ _ _ h => h) (hS0) (Or.inl ⟨by kernel_rfl, fun w' hS' => by have q := fr6 w' hS'; go_simp⟩) ?_
  simp only [List.setIfInBounds_toArray, List.set_cons_zero, List.set_cons_succ]
  refine takeH_at 2 28 (.int .u64 (N : Nat)) rfl rfl (by kernel_rfl) (by kernel_rfl) (by kernel_rfl) (fun _ _ _ h => h) (hS0) (Or.inl ⟨by kernel_rfl, fun w' hS' => by go_simp⟩) ?_
  simp only [List.setIfInBounds_toArray, List.set_cons_zero, List.set_cons_succ]
  refine takeH_at 3 29 (.bool true) rfl rfl (by kernel_rfl) (by kernel_rfl) (by kernel_rfl) (fun _ _ _ h => h) (hS0) (Or.inl ⟨by kernel_rfl, fun w' hS' => by go_simp⟩) ?_
  simp only [List.setIfInBounds_toArray, List.set_cons_zero, List.set_cons_succ]
  refine takeH_at 4 30 (.bool true) rfl rfl (by kernel_rfl) (by kernel_rfl) (by kernel_rfl) (fun _ _ _ h => h) (hS0) (Or.inl ⟨by kernel_rfl, fun w' hS' => by go_simp⟩) ?_
  simp only [List.setIfInBounds_toArray, List.set_cons_zero, List.set_cons_succ]
  refine takeH_at 5 31 (.int .u64 (N : Nat)) rfl rfl (by kernel_rfl) (by kernel_rfl) (by kernel_rfl) (fun _ _ _ h => h) (hS0) (Or.inl ⟨by kernel_rfl, fun w' hS' => by go_simp⟩) ?_
  simp only [List.setIfInBounds_toArray, List.set_cons_zero, List.set_cons_succ]
  refine takeH_at 6 32 (.agg (roM m)) rfl rfl (by kernel_rfl) (by kernel_rfl) (by kernel_rfl) (fun _ _ _ h => h) (hS0) (yieldsIf_load_mid (by kernel_rfl) 33 (.tmp 3) rfl (w.heap.size + 1) 0 rfl (roM m).toList _ hrr Try.underlying33 rfl (by kernel_rfl)) ?_
  simp only [List.setIfInBounds_toArray, List.set_cons_zero, List.set_cons_succ]
  refine wpAnyH_ready (rs := [7]) (by kernel_rfl) (by simp) ?_
  refine AllReadyH.cons rfl (fun Kx hK => ?_) AllReadyH.nil
  rw [if_pos (by kernel_rfl)]
  go_simp
  refine (HSt.out _).mono ?_
  intro e1 q1 hh
  obtain ⟨he, hq1⟩ := hh.out
  subst he
  clear hh
  have hS1 : Below w0.heap.size w0 q1 := (hS0).trans (hq1.mono (hS0).size)
  go_wp2_with fail
  refine hK.out _ _ hS1 (fun _ => ?_)
  clear hK Kx
  try simp only [Act.put, List.setIfInBounds_toArray, List.set_cons_zero, List.set_cons_succ]
  refine takeH_at 8 34 (.bool true) rfl rfl (by kernel_rfl) (by kernel_rfl) (by kernel_rfl) (fun _ _ _ h => h) (hS1) (Or.inl ⟨by kernel_rfl, fun w' hS' => by go_simp⟩) ?_
  simp only [List.setIfInBounds_toArray, List.set_cons_zero, List.set_cons_succ]
  refine takeH_at 9 35 (.bool true) rfl rfl (by kernel_rfl) (by kernel_rfl) (by kernel_rfl) (fun _ _ _ h => h) (hS1) (Or.inl ⟨by kernel_rfl, fun w' hS' => by go_simp⟩) ?_
  simp only [List.setIfInBounds_toArray, List.set_cons_zero, List.set_cons_succ]
  refine takeH_at 10 36 (.pointer (some ⟨w.heap.size, 13, none⟩)) rfl rfl (by kernel_rfl) (by kernel_rfl) (by kernel_rfl) (fun _ _ _ h => h) (hS1) (Or.inl ⟨by kernel_rfl, fun w' hS' => by go_simp⟩) ?_
  simp only [List.setIfInBounds_toArray, List.set_cons_zero, List.set_cons_succ]
  refine takeH_at 11 37 (.slice m.gp m.gn m.gc) rfl rfl (by kernel_rfl) (by kernel_rfl) (by kernel_rfl) (fun _ _ _ h => h) (hS1) (Or.inl ⟨by kernel_rfl, fun w' hS' => by have q := fy13 w' hS'; go_simp⟩) ?_
  simp only [List.setIfInBounds_toArray, List.set_cons_zero, List.set_cons_succ]
  refine takeH_at 12 38 (.int .u64 (N : Nat)) rfl rfl (by kernel_rfl) (by kernel_rfl) (by kernel_rfl) (fun _ _ _ h => h) (hS1) (Or.inl ⟨by kernel_rfl, fun w' hS' => by go_simp⟩) ?_
  simp only [List.setIfInBounds_toArray, List.set_cons_zero, List.set_cons_succ]
  refine takeH_at 13 39 (.agg (roM m)) rfl rfl (by kernel_rfl) (by kernel_rfl) (by kernel_rfl) (fun _ _ _ h => h) (hS1) (yieldsIf_load_mid (by kernel_rfl) 33 (.tmp 3) rfl (w.heap.size + 1) 0 rfl (roM m).toList _ hrr Try.underlying33 rfl (by kernel_rfl)) ?_
  simp only [List.setIfInBounds_toArray, List.set_cons_zero, List.set_cons_succ]
  refine wpAnyH_ready (rs := [14]) (by kernel_rfl) (by simp) ?_
  refine AllReadyH.cons rfl (fun Kx hK => ?_) AllReadyH.nil
  rw [if_pos (by kernel_rfl)]
  go_simp
  refine (HSe.out _).mono ?_
  intro e1 q2 hh
  obtain ⟨gg, he, hTwo, hq2⟩ := hh
  subst he
  have hS2 : Below w0.heap.size w0 q2 := (hS1).trans (hq2.mono (hS1).size)
  go_wp2_with fail
  refine hK.out _ _ hS2 (fun _ => ?_)
  clear hK Kx
  try simp only [Act.put, List.setIfInBounds_toArray, List.set_cons_zero, List.set_cons_succ]
  refine wpAnyH_ready (rs := [15]) (by kernel_rfl) (by simp) ?_
  refine AllReadyH.cons rfl (fun Kx hK => ?_) AllReadyH.nil
  rw [if_pos (by kernel_rfl)]
  go_simp
  refine (just_ok (v := undef) m.gp m.gc f hc1 hc2 gg sx sy q2 (hSg.out.below (Below.trans HW0.out (hS2.mono HW0.out.size))) hTwo).mono ?_
  intro e1 q3 hh
  obtain ⟨bb, he, hbb, hq3⟩ := hh
  subst he
  have hbx : bb = true := hbb.2 hJ
  subst hbx
  clear hbb hJ hTwo
  have hS3 : Below w0.heap.size w0 q3 := (hS2).trans (hq3.mono (hS2).size)
  go_wp2_with fail
  refine hK.out _ _ hS3 (fun _ => ?_)
  clear hK Kx
  try simp only [Act.put, List.setIfInBounds_toArray, List.set_cons_zero, List.set_cons_succ]
  refine takeH_at 16 42 (.bool true) rfl rfl (by kernel_rfl) (by kernel_rfl) (by kernel_rfl) (fun _ _ _ h => h) (hS3) (Or.inl ⟨by kernel_rfl, fun w' hS' => by go_simp⟩) ?_
  simp only [List.setIfInBounds_toArray, List.set_cons_zero, List.set_cons_succ]
  refine takeH_at 17 43 (.bool true) rfl rfl (by kernel_rfl) (by kernel_rfl) (by kernel_rfl) (fun _ _ _ h => h) (hS3) (Or.inl ⟨by kernel_rfl, fun w' hS' => by go_simp⟩) ?_
  simp only [List.setIfInBounds_toArray, List.set_cons_zero, List.set_cons_succ]
  refine takeH_at 18 44 (.pointer (some ⟨w.heap.size + 1, 1, none⟩)) rfl rfl (by kernel_rfl) (by kernel_rfl) (by kernel_rfl) (fun _ _ _ h => h) (hS3) (Or.inl ⟨by kernel_rfl, fun w' hS' => by go_simp⟩) ?_
  simp only [List.setIfInBounds_toArray, List.set_cons_zero, List.set_cons_succ]
  refine takeH_at 19 45 (.int .u64 (m.fr : Nat)) rfl rfl (by kernel_rfl) (by kernel_rfl) (by kernel_rfl) (fun _ _ _ h => h) (hS3) (Or.inl ⟨by kernel_rfl, fun w' hS' => by have q := fr1 w' hS'; go_simp⟩) ?_
  simp only [List.setIfInBounds_toArray, List.set_cons_zero, List.set_cons_succ]
  refine takeH_at 20 46 (.pointer (some ⟨w.heap.size + 1, 2, none⟩)) rfl rfl (by kernel_rfl) (by kernel_rfl) (by kernel_rfl) (fun _ _ _ h => h) (hS3) (Or.inl ⟨by kernel_rfl, fun w' hS' => by go_simp⟩) ?_
  simp only [List.setIfInBounds_toArray, List.set_cons_zero, List.set_cons_succ]
  refine takeH_at 21 47 (.int .u64 (m.to : Nat)) rfl rfl (by kernel_rfl) (by kernel_rfl) (by kernel_rfl) (fun _ _ _ h => h) (hS3) (Or.inl ⟨by kernel_rfl, fun w' hS' => by have q := fr2 w' hS'; go_simp⟩) ?_
  simp only [List.setIfInBounds_toArray, List.set_cons_zero, List.set_cons_succ]
  refine takeH_at 22 48 (.bool false) rfl rfl (by kernel_rfl) (by kernel_rfl) (by kernel_rfl) (fun _ _ _ h => h) (hS3) (Or.inl ⟨by kernel_rfl, fun w' hS' => by go_simp⟩) ?_
  simp only [List.setIfInBounds_toArray, List.set_cons_zero, List.set_cons_succ]
  refine takeH_at 23 49 (.bool false) rfl rfl (by kernel_rfl) (by kernel_rfl) (by kernel_rfl) (fun _ _ _ h => h) (hS3) (Or.inl ⟨by kernel_rfl, fun w' hS' => by go_simp⟩) ?_
  simp only [List.setIfInBounds_toArray, List.set_cons_zero, List.set_cons_succ]
  refine takeH_at 24 50 (.bool false) rfl rfl (by kernel_rfl) (by kernel_rfl) (by kernel_rfl) (fun _ _ _ h => h) (hS3) (Or.inl ⟨by kernel_rfl, fun w' hS' => by go_simp⟩) ?_
  simp only [List.setIfInBounds_toArray, List.set_cons_zero, List.set_cons_succ]
  refine takeH_at 25 51 undef rfl rfl (by kernel_rfl) (by kernel_rfl) (by kernel_rfl) (fun _ _ _ h => h) (hS3) (Or.inr ⟨by kernel_rfl, rfl⟩) ?_
  simp only [List.setIfInBounds_toArray, List.set_cons_zero, List.set_cons_succ]
  refine takeH_at 26 52 undef rfl rfl (by kernel_rfl) (by kernel_rfl) (by kernel_rfl) (fun _ _ _ h => h) (hS3) (Or.inr ⟨by kernel_rfl, rfl⟩) ?_
  simp only [List.setIfInBounds_toArray, List.set_cons_zero, List.set_cons_succ]
  refine takeH_at 27 53 undef rfl rfl (by kernel_rfl) (by kernel_rfl) (by kernel_rfl) (fun _ _ _ h => h) (hS3) (Or.inr ⟨by kernel_rfl, rfl⟩) ?_
  simp only [List.setIfInBounds_toArray, List.set_cons_zero, List.set_cons_succ]
  refine takeH_at 28 54 undef rfl rfl (by kernel_rfl) (by kernel_rfl) (by kernel_rfl) (fun _ _ _ h => h) (hS3) (Or.inr ⟨by kernel_rfl, rfl⟩) ?_
  simp only [List.setIfInBounds_toArray, List.set_cons_zero, List.set_cons_succ]
  refine takeH_at 29 55 undef rfl rfl (by kernel_rfl) (by kernel_rfl) (by kernel_rfl) (fun _ _ _ h => h) (hS3) (Or.inr ⟨by kernel_rfl, rfl⟩) ?_
  simp only [List.setIfInBounds_toArray, List.set_cons_zero, List.set_cons_succ]
  refine takeH_at 30 56 (.bool false) rfl rfl (by kernel_rfl) (by kernel_rfl) (by kernel_rfl) (fun _ _ _ h => h) (hS3) (Or.inl ⟨by kernel_rfl, fun w' hS' => by go_simp⟩) ?_
  simp only [List.setIfInBounds_toArray, List.set_cons_zero, List.set_cons_succ]
  refine takeH_at 31 57 (.bool false) rfl rfl (by kernel_rfl) (by kernel_rfl) (by kernel_rfl) (fun _ _ _ h => h) (hS3) (Or.inl ⟨by kernel_rfl, fun w' hS' => by go_simp⟩) ?_
  simp only [List.setIfInBounds_toArray, List.set_cons_zero, List.set_cons_succ]
  refine takeH_at 32 58 undef rfl rfl (by kernel_rfl) (by kernel_rfl) (by kernel_rfl) (fun _ _ _ h => h) (hS3) (Or.inr ⟨by kernel_rfl, rfl⟩) ?_
  simp only [List.setIfInBounds_toArray, List.set_cons_zero, List.set_cons_succ]
  refine takeH_at 33 59 undef rfl rfl (by kernel_rfl) (by kernel_rfl) (by kernel_rfl) (fun _ _ _ h => h) (hS3) (Or.inr ⟨by kernel_rfl, rfl⟩) ?_
  simp only [List.setIfInBounds_toArray, List.set_cons_zero, List.set_cons_succ]
  refine takeH_at 34 60 undef rfl rfl (by kernel_rfl) (by kernel_rfl) (by kernel_rfl) (fun _ _ _ h => h) (hS3) (Or.inr ⟨by kernel_rfl, rfl⟩) ?_
  simp only [List.setIfInBounds_toArray, List.set_cons_zero, List.set_cons_succ]
  refine takeH_at 35 61 undef rfl rfl (by kernel_rfl) (by kernel_rfl) (by kernel_rfl) (fun _ _ _ h => h) (hS3) (Or.inr ⟨by kernel_rfl, rfl⟩) ?_
  simp only [List.setIfInBounds_toArray, List.set_cons_zero, List.set_cons_succ]
  refine takeH_at 36 62 undef rfl rfl (by kernel_rfl) (by kernel_rfl) (by kernel_rfl) (fun _ _ _ h => h) (hS3) (Or.inr ⟨by kernel_rfl, rfl⟩) ?_
  simp only [List.setIfInBounds_toArray, List.set_cons_zero, List.set_cons_succ]
  refine takeH_at 37 63 (.bool false) rfl rfl (by kernel_rfl) (by kernel_rfl) (by kernel_rfl) (fun _ _ _ h => h) (hS3) (Or.inl ⟨by kernel_rfl, fun w' hS' => by go_simp⟩) ?_
  simp only [List.setIfInBounds_toArray, List.set_cons_zero, List.set_cons_succ]
  refine takeH_at 38 2 (.bool false) rfl rfl (by kernel_rfl) (by kernel_rfl) (by kernel_rfl) (fun _ _ _ h => h) (hS3) (Or.inl ⟨by kernel_rfl, fun w' hS' => by go_simp⟩) ?_
  simp only [List.setIfInBounds_toArray, List.set_cons_zero, List.set_cons_succ]
  refine wpAnyH_done (by kernel_rfl) ?_ _
  refine NoPanic.normal ?_
  go_wp2_with fail
  go_ret
  exact ⟨rfl, HW0.out.trans (hS3.mono HW0.out.size)⟩
set_option maxHeartbeats 8000000 in
set_option maxRecDepth 100000 in
theorem work_6 (m : Mt) (hC : 0 ≤ m.C) (w : World) (hot N : Nat) (EL : List Epo) (f : Nat → Int × Int × Int) (hh : m.hot = (hot : Int)) (hz : m.az ≤ 9223372036854775807) (hN : m.C - (2 * m.H + m.K) / m.U = (N : Nat)) (hN2 : N ≤ 4294967296) (hsz : m.sum.size ≤ 9223372036854775807) (hc1 : m.gn ≤ m.gc) (hc2 : m.gc ≤ 9223372036854775807) (hen : Hid (EL.length = m.en)) (hn0 : m.en ≤ 1954687338268) (e1 : Hid (RV epoL 5 w m.ep EL)) (hSg : Hid (SegV w (.slice m.gp m.gn m.gc) m.gn f))
    (hm : mayB m.U m.C m.H m.K = true) (ha : areaB m.U m.H m.K m.ao m.az m.mode hot = true) (hd : m.done ≤ N) (hst : stepB m hot N = true) (hJ : JustP m.gn f (Sx.kept [Sx.segX N (rM m), Sx.segY N (rM m)])) (hft : m.fr < m.to) (hef : ¬ (epN EL m.fr m.en = 1)) : Calls Try.prog 37 #[.agg (mtC m)] w fun e w' => e = .returned (.bool false) ∧ Below w.heap.size w w' := by
  have HM : Hid (∀ u, Calls Try.prog 18 #[.agg #[.int .i64 m.U, .int .u64 m.C, .int .i64 m.H, .int .i64 m.K]] u fun e w' => Hid (e = .returned (.bool true) ∧ Below u.heap.size u w')) := fun u => by
    have q := may_ok m.U m.C m.H m.K hC u
    rw [hm] at q
    exact q
  obtain ⟨qu, qh, k4, k2, _, qc, qlt⟩ := mayB_all hm
  have hr := headB_range qh
  have h1 : 0 ≤ m.H := by omega
  have h2 : m.H ≤ 4194304 := hr.2
  have k1 : 0 ≤ m.K := by omega
  have HAr : Hid (∀ u, Calls Try.prog 19 #[.agg #[.int .i64 m.U, .int .u64 m.C, .int .i64 m.H, .int .i64 m.K], .agg #[.int .i64 m.ao, .int .i64 m.az], .int .i64 m.mode, .int .u64 m.hot] u fun e w' => Hid (e = .returned (.bool true) ∧ Below u.heap.size u w')) := fun u => by
    have q := area_ok m.U m.C m.H m.K m.ao m.az m.mode hot u h1 h2 k1 k2 hz
    rw [ha] at q
    rw [hh]
    exact q
  have HSec : Hid (∀ u, Calls Try.prog 25 #[.agg #[.int .i64 m.U, .int .u64 m.C, .int .i64 m.H, .int .i64 m.K]] u fun e w' => Hid (e = .returned (.int .u64 (N : Nat)) ∧ Below u.heap.size u w')) := fun u => by
    have q := sectors_ok m.U m.C m.H m.K u qu h1 h2 k1 k2 (by omega) qc
    rw [hN] at q
    exact q
  have HSt : Hid (∀ u, Calls Try.prog 64 #[.int .u64 (N : Nat), .agg (roM m)] u fun e w' => Hid (e = .returned (.bool true) ∧ Below u.heap.size u w')) := fun u => by
    have q := stepM_ok m hot N hh hN2 hd hsz u
    rw [hst] at q
    exact q
  have HSe : Hid (∀ u, Calls Try.prog 24 #[.int .u64 (N : Nat), .agg (roM m)] u fun e w' => ∃ g, e = .returned (.func (.func 53) #[] #[.pointer (some ⟨g, 0, none⟩)]) ∧ Sx.Two w' g (Sx.segX N (rM m)) (Sx.segY N (rM m)) ∧ Below u.heap.size u w') := fun u => Sx.segments_ok N (rM m) hN2 hd u
  generalize Sx.segX N (rM m) = sx at *
  generalize Sx.segY N (rM m) = sy at *
  have gd : decide ((m.done : Int) ≤ (N : Int)) = true := by simp; omega
  have gt : decide ((m.fr : Int) < (m.to : Int)) = true := by simp; omega
  clear hm ha qu qh qc qlt hr hh k4 hN
  have bx : Bx (w.alloc (.cells (mtC m) 36)) w.heap.size m := World.alloc_heap_new w _
  have y4 := bx.c 4 (.int .i64 m.U) rfl
  have y5 := bx.c 5 (.int .u64 m.C) rfl
  have y6 := bx.c 6 (.int .i64 m.H) rfl
  have y7 := bx.c 7 (.int .i64 m.K) rfl
  have y14 := bx.c 14 (.bool m.on) rfl
  have y15 := bx.c 15 (.int .u64 (m.fr : Nat)) rfl
  have y16 := bx.c 16 (.int .u64 (m.to : Nat)) rfl
  have y17 := bx.c 17 (.bool m.back) rfl
  have y18 := bx.c 18 (.int .i64 m.mode) rfl
  have y19 := bx.c 19 (.int .u64 m.hot) rfl
  have y20 := bx.c 20 (.int .u64 (m.done : Nat)) rfl
  have y21 := bx.c 21 (.int .i64 m.ao) rfl
  have y22 := bx.c 22 (.int .i64 m.az) rfl
  have y23 := bx.c 23 (.bool m.act) rfl
  have y24 := bx.c 24 (.int .u64 m.cnt) rfl
  have y25 := bx.c 25 (.string m.sum) rfl
  clear bx
  have HW : Hid (Wk ((w.alloc (.cells (mtC m) 36)).alloc (.cells (roM m) 33)) w.heap.size m ∧ Below w.heap.size w ((w.alloc (.cells (mtC m) 36)).alloc (.cells (roM m) 33))) := ⟨Wk.new w m, AAt.nb _ _ _⟩
  go_enter Try.func37, Try.ntmps37
  go_upto_region 2 with fail
  generalize ((w.alloc (.cells (mtC m) 36)).alloc (.cells (roM m) 33)) = wz at HW ⊢
  clear y4 y5 y6 y7 y14 y15 y16 y17 y18 y19 y20 y21 y22 y23 y24 y25
  have y4 := HW.out.1.c 4 (.int .i64 m.U) rfl
  have y5 := HW.out.1.c 5 (.int .u64 m.C) rfl
  have y6 := HW.out.1.c 6 (.int .i64 m.H) rfl
  have y7 := HW.out.1.c 7 (.int .i64 m.K) rfl
  go_upto_region 5 with (first | (go_at_call 18; refine (HM.out _).mono ?_; intro e5 w5 hh5; obtain ⟨he5, hb5⟩ := hh5.out; subst he5; have HW5 := HW.out.1.below hb5; have y4 := HW5.c 4 (.int .i64 m.U) rfl; have y5 := HW5.c 5 (.int .u64 m.C) rfl; have y6 := HW5.c 6 (.int .i64 m.H) rfl; have y7 := HW5.c 7 (.int .i64 m.K) rfl; have r4 := HW5.r 4 (.int .i64 m.mode) rfl; have r5 := HW5.r 5 (.int .u64 m.hot) rfl; have r7 := HW5.r 7 (.int .i64 m.ao) rfl; have r8 := HW5.r 8 (.int .i64 m.az) rfl; have r1 := HW5.r 1 (.int .u64 (m.fr : Nat)) rfl; have r2 := HW5.r 2 (.int .u64 (m.to : Nat)) rfl) | (go_at_call 19; refine (HAr.out _).mono ?_; intro e6 w6 hh6; obtain ⟨he6, hb6⟩ := hh6.out; subst he6; have HW6 := HW5.below hb6; clear y4 y5 y6 y7; have y4 := HW6.c 4 (.int .i64 m.U) rfl; have y5 := HW6.c 5 (.int .u64 m.C) rfl; have y6 := HW6.c 6 (.int .i64 m.H) rfl; have y7 := HW6.c 7 (.int .i64 m.K) rfl) | (go_at_call 25; refine (HSec.out _).mono ?_; intro e7 w0 hh7; obtain ⟨he7, hb7⟩ := hh7.out; subst he7; have HW7 := HW6.below hb7))
  have HW0 : Hid (Below w.heap.size w w0) := ((HW.out.2.trans (hb5.mono HW.out.2.size)).trans (hb6.mono (Nat.le_trans HW.out.2.size hb5.size))).trans (hb7.mono (Nat.le_trans (Nat.le_trans HW.out.2.size hb5.size) hb6.size))
  have HK : Hid (Wk w0 w.heap.size m) := HW7
  clear HW5 HW6 HW7 hb5 hb6 hb7 hh5 hh6 hh7 y4 y5 y6 y7 r4 r5 r7 r8 r1 r2 HM HAr HSec HW
  have hS0 : Below w0.heap.size w0 w0.drew := (Below.refl _ _).drew
  have hrr : ∀ u, Below w0.heap.size w0 u → u.rangeAt (w.heap.size + 1) 0 (roM m).toList := fun u hu => (HK.out.below hu).range
  have fr6 : ∀ u, Below w0.heap.size w0 u → u.cell? ⟨w.heap.size + 1, 6, none⟩ = some (.int .u64 (m.done : Nat)) := fun u hu => (HK.out.below hu).r 6 _ rfl
  have fr1 : ∀ u, Below w0.heap.size w0 u → u.cell? ⟨w.heap.size + 1, 1, none⟩ = some (.int .u64 (m.fr : Nat)) := fun u hu => (HK.out.below hu).r 1 _ rfl
  have fr2 : ∀ u, Below w0.heap.size w0 u → u.cell? ⟨w.heap.size + 1, 2, none⟩ = some (.int .u64 (m.to : Nat)) := fun u hu => (HK.out.below hu).r 2 _ rfl
  have fy13 : ∀ u, Below w0.heap.size w0 u → u.cell? ⟨w.heap.size, 13, none⟩ = some (.slice m.gp m.gn m.gc) := fun u hu => (HK.out.below hu).c 13 _ rfl
  have fy12 : ∀ u, Below w0.heap.size w0 u → u.cell? ⟨w.heap.size, 12, none⟩ = some (.slice m.ep m.en m.ec) := fun u hu => (HK.out.below hu).c 12 _ rfl
  have HOf : Hid (∀ u, Below w0.heap.size w0 u → Calls Try.prog 47 #[.slice m.ep m.en m.ec, .int .u64 (m.fr : Nat)] u fun e w' => Hid (e = .returned (.bool false) ∧ Below u.heap.size u w')) := fun u hu => by
    have q := only_ok m.ep m.en m.ec EL m.fr hen hn0 u (e1.out.below (Below.trans HW0.out (hu.mono HW0.out.size)))
    rw [decide_eq_false hef] at q
    exact q
  refine wp_region_noPanic ?_
  refine wp_region_held_drew (S := fun u => Below w0.heap.size w0 u) (by kernel_rfl) (hS0) (fun _ => ?_)
  refine takeH_at 0 26 (.pointer (some ⟨w.heap.size + 1, 6, none⟩)) rfl rfl (by kernel_rfl) (by kernel_rfl) (by kernel_rfl) (fun _ _ _ h => h) (hS0) (Or.inl ⟨by kernel_rfl, fun w' hS' => by go_simp⟩) ?_
  simp only [List.setIfInBounds_toArray, List.set_cons_zero, List.set_cons_succ]
  refine takeH_at 1 27 (.int .u64 (m.done : Nat)) rfl rfl (by kernel_rfl) (by kernel_rfl) (by kernel_rfl) (fun _ _ _ h => h) (hS0) (Or.inl ⟨by kernel_rfl, fun w' hS' => by have q := fr6 w' hS'; go_simp⟩) ?_
  simp only [List.setIfInBounds_toArray, List.set_cons_zero, List.set_cons_succ]
  refine takeH_at 2 28 (.int .u64 (N : Nat)) rfl rfl (by kernel_rfl) (by kernel_rfl) (by kernel_rfl) (fun _ _ _ h => h) (hS0) (Or.inl ⟨by kernel_rfl, fun w' hS' => by go_simp⟩) ?_
  simp only [List.setIfInBounds_toArray, List.set_cons_zero, List.set_cons_succ]
  refine takeH_at 3 29 (.bool true) rfl rfl (by kernel_rfl) (by kernel_rfl) (by kernel_rfl) (fun _ _ _ h => h) (hS0) (Or.inl ⟨by kernel_rfl, fun w' hS' => by go_simp⟩) ?_
  simp only [List.setIfInBounds_toArray, List.set_cons_zero, List.set_cons_succ]
  refine takeH_at 4 30 (.bool true) rfl rfl (by kernel_rfl) (by kernel_rfl) (by kernel_rfl) (fun _ _ _ h => h) (hS0) (Or.inl ⟨by kernel_rfl, fun w' hS' => by go_simp⟩) ?_
  simp only [List.setIfInBounds_toArray, List.set_cons_zero, List.set_cons_succ]
  refine takeH_at 5 31 (.int .u64 (N : Nat)) rfl rfl (by kernel_rfl) (by kernel_rfl) (by kernel_rfl) (fun _ _ _ h => h) (hS0) (Or.inl ⟨by kernel_rfl, fun w' hS' => by go_simp⟩) ?_
  simp only [List.setIfInBounds_toArray, List.set_cons_zero, List.set_cons_succ]
  refine takeH_at 6 32 (.agg (roM m)) rfl rfl (by kernel_rfl) (by kernel_rfl) (by kernel_rfl) (fun _ _ _ h => h) (hS0) (yieldsIf_load_mid (by kernel_rfl) 33 (.tmp 3) rfl (w.heap.size + 1) 0 rfl (roM m).toList _ hrr Try.underlying33 rfl (by kernel_rfl)) ?_
  simp only [List.setIfInBounds_toArray, List.set_cons_zero, List.set_cons_succ]
  refine wpAnyH_ready (rs := [7]) (by kernel_rfl) (by simp) ?_
  refine AllReadyH.cons rfl (fun Kx hK => ?_) AllReadyH.nil
  rw [if_pos (by kernel_rfl)]
  go_simp
  refine (HSt.out _).mono ?_
  intro e1 q1 hh
  obtain ⟨he, hq1⟩ := hh.out
  subst he
  clear hh
  have hS1 : Below w0.heap.size w0 q1 := (hS0).trans (hq1.mono (hS0).size)
  go_wp2_with fail
  refine hK.out _ _ hS1 (fun _ => ?_)
  clear hK Kx
  try simp only [Act.put, List.setIfInBounds_toArray, List.set_cons_zero, List.set_cons_succ]
  refine takeH_at 8 34 (.bool true) rfl rfl (by kernel_rfl) (by kernel_rfl) (by kernel_rfl) (fun _ _ _ h => h) (hS1) (Or.inl ⟨by kernel_rfl, fun w' hS' => by go_simp⟩) ?_
  simp only [List.setIfInBounds_toArray, List.set_cons_zero, List.set_cons_succ]
  refine takeH_at 9 35 (.bool true) rfl rfl (by kernel_rfl) (by kernel_rfl) (by kernel_rfl) (fun _ _ _ h => h) (hS1) (Or.inl ⟨by kernel_rfl, fun w' hS' => by go_simp⟩) ?_
  simp only [List.setIfInBounds_toArray, List.set_cons_zero, List.set_cons_succ]
  refine takeH_at 10 36 (.pointer (some ⟨w.heap.size, 13, none⟩)) rfl rfl (by kernel_rfl) (by kernel_rfl) (by kernel_rfl) (fun _ _ _ h => h) (hS1) (Or.inl ⟨by kernel_rfl, fun w' hS' => by go_simp⟩) ?_
  simp only [List.setIfInBounds_toArray, List.set_cons_zero, List.set_cons_succ]
  refine takeH_at 11 37 (.slice m.gp m.gn m.gc) rfl rfl (by kernel_rfl) (by kernel_rfl) (by kernel_rfl) (fun _ _ _ h => h) (hS1) (Or.inl ⟨by kernel_rfl, fun w' hS' => by have q := fy13 w' hS'; go_simp⟩) ?_
  simp only [List.setIfInBounds_toArray, List.set_cons_zero, List.set_cons_succ]
  refine takeH_at 12 38 (.int .u64 (N : Nat)) rfl rfl (by kernel_rfl) (by kernel_rfl) (by kernel_rfl) (fun _ _ _ h => h) (hS1) (Or.inl ⟨by kernel_rfl, fun w' hS' => by go_simp⟩) ?_
  simp only [List.setIfInBounds_toArray, List.set_cons_zero, List.set_cons_succ]
  refine takeH_at 13 39 (.agg (roM m)) rfl rfl (by kernel_rfl) (by kernel_rfl) (by kernel_rfl) (fun _ _ _ h => h) (hS1) (yieldsIf_load_mid (by kernel_rfl) 33 (.tmp 3) rfl (w.heap.size + 1) 0 rfl (roM m).toList _ hrr Try.underlying33 rfl (by kernel_rfl)) ?_
  simp only [List.setIfInBounds_toArray, List.set_cons_zero, List.set_cons_succ]
  refine wpAnyH_ready (rs := [14]) (by kernel_rfl) (by simp) ?_
  refine AllReadyH.cons rfl (fun Kx hK => ?_) AllReadyH.nil
  rw [if_pos (by kernel_rfl)]
  go_simp
  refine (HSe.out _).mono ?_
  intro e1 q2 hh
  obtain ⟨gg, he, hTwo, hq2⟩ := hh
  subst he
  have hS2 : Below w0.heap.size w0 q2 := (hS1).trans (hq2.mono (hS1).size)
  go_wp2_with fail
  refine hK.out _ _ hS2 (fun _ => ?_)
  clear hK Kx
  try simp only [Act.put, List.setIfInBounds_toArray, List.set_cons_zero, List.set_cons_succ]
  refine wpAnyH_ready (rs := [15]) (by kernel_rfl) (by simp) ?_
  refine AllReadyH.cons rfl (fun Kx hK => ?_) AllReadyH.nil
  rw [if_pos (by kernel_rfl)]
  go_simp
  refine (just_ok (v := undef) m.gp m.gc f hc1 hc2 gg sx sy q2 (hSg.out.below (Below.trans HW0.out (hS2.mono HW0.out.size))) hTwo).mono ?_
  intro e1 q3 hh
  obtain ⟨bb, he, hbb, hq3⟩ := hh
  subst he
  have hbx : bb = true := hbb.2 hJ
  subst hbx
  clear hbb hJ hTwo
  have hS3 : Below w0.heap.size w0 q3 := (hS2).trans (hq3.mono (hS2).size)
  go_wp2_with fail
  refine hK.out _ _ hS3 (fun _ => ?_)
  clear hK Kx
  try simp only [Act.put, List.setIfInBounds_toArray, List.set_cons_zero, List.set_cons_succ]
  refine takeH_at 16 42 (.bool true) rfl rfl (by kernel_rfl) (by kernel_rfl) (by kernel_rfl) (fun _ _ _ h => h) (hS3) (Or.inl ⟨by kernel_rfl, fun w' hS' => by go_simp⟩) ?_
  simp only [List.setIfInBounds_toArray, List.set_cons_zero, List.set_cons_succ]
  refine takeH_at 17 43 (.bool true) rfl rfl (by kernel_rfl) (by kernel_rfl) (by kernel_rfl) (fun _ _ _ h => h) (hS3) (Or.inl ⟨by kernel_rfl, fun w' hS' => by go_simp⟩) ?_
  simp only [List.setIfInBounds_toArray, List.set_cons_zero, List.set_cons_succ]
  refine takeH_at 18 44 (.pointer (some ⟨w.heap.size + 1, 1, none⟩)) rfl rfl (by kernel_rfl) (by kernel_rfl) (by kernel_rfl) (fun _ _ _ h => h) (hS3) (Or.inl ⟨by kernel_rfl, fun w' hS' => by go_simp⟩) ?_
  simp only [List.setIfInBounds_toArray, List.set_cons_zero, List.set_cons_succ]
  refine takeH_at 19 45 (.int .u64 (m.fr : Nat)) rfl rfl (by kernel_rfl) (by kernel_rfl) (by kernel_rfl) (fun _ _ _ h => h) (hS3) (Or.inl ⟨by kernel_rfl, fun w' hS' => by have q := fr1 w' hS'; go_simp⟩) ?_
  simp only [List.setIfInBounds_toArray, List.set_cons_zero, List.set_cons_succ]
  refine takeH_at 20 46 (.pointer (some ⟨w.heap.size + 1, 2, none⟩)) rfl rfl (by kernel_rfl) (by kernel_rfl) (by kernel_rfl) (fun _ _ _ h => h) (hS3) (Or.inl ⟨by kernel_rfl, fun w' hS' => by go_simp⟩) ?_
  simp only [List.setIfInBounds_toArray, List.set_cons_zero, List.set_cons_succ]
  refine takeH_at 21 47 (.int .u64 (m.to : Nat)) rfl rfl (by kernel_rfl) (by kernel_rfl) (by kernel_rfl) (fun _ _ _ h => h) (hS3) (Or.inl ⟨by kernel_rfl, fun w' hS' => by have q := fr2 w' hS'; go_simp⟩) ?_
  simp only [List.setIfInBounds_toArray, List.set_cons_zero, List.set_cons_succ]
  refine takeH_at 22 48 (.bool true) rfl rfl (by kernel_rfl) (by kernel_rfl) (by kernel_rfl) (fun _ _ _ h => h) (hS3) (Or.inl ⟨by kernel_rfl, fun w' hS' => by go_simp⟩) ?_
  simp only [List.setIfInBounds_toArray, List.set_cons_zero, List.set_cons_succ]
  refine takeH_at 23 49 (.bool true) rfl rfl (by kernel_rfl) (by kernel_rfl) (by kernel_rfl) (fun _ _ _ h => h) (hS3) (Or.inl ⟨by kernel_rfl, fun w' hS' => by go_simp⟩) ?_
  simp only [List.setIfInBounds_toArray, List.set_cons_zero, List.set_cons_succ]
  refine takeH_at 24 50 (.bool true) rfl rfl (by kernel_rfl) (by kernel_rfl) (by kernel_rfl) (fun _ _ _ h => h) (hS3) (Or.inl ⟨by kernel_rfl, fun w' hS' => by go_simp⟩) ?_
  simp only [List.setIfInBounds_toArray, List.set_cons_zero, List.set_cons_succ]
  refine takeH_at 25 51 (.pointer (some ⟨w.heap.size, 12, none⟩)) rfl rfl (by kernel_rfl) (by kernel_rfl) (by kernel_rfl) (fun _ _ _ h => h) (hS3) (Or.inl ⟨by kernel_rfl, fun w' hS' => by go_simp⟩) ?_
  simp only [List.setIfInBounds_toArray, List.set_cons_zero, List.set_cons_succ]
  refine takeH_at 26 52 (.slice m.ep m.en m.ec) rfl rfl (by kernel_rfl) (by kernel_rfl) (by kernel_rfl) (fun _ _ _ h => h) (hS3) (Or.inl ⟨by kernel_rfl, fun w' hS' => by have q := fy12 w' hS'; go_simp⟩) ?_
  simp only [List.setIfInBounds_toArray, List.set_cons_zero, List.set_cons_succ]
  refine takeH_at 27 53 (.pointer (some ⟨w.heap.size + 1, 1, none⟩)) rfl rfl (by kernel_rfl) (by kernel_rfl) (by kernel_rfl) (fun _ _ _ h => h) (hS3) (Or.inl ⟨by kernel_rfl, fun w' hS' => by go_simp⟩) ?_
  simp only [List.setIfInBounds_toArray, List.set_cons_zero, List.set_cons_succ]
  refine takeH_at 28 54 (.int .u64 (m.fr : Nat)) rfl rfl (by kernel_rfl) (by kernel_rfl) (by kernel_rfl) (fun _ _ _ h => h) (hS3) (Or.inl ⟨by kernel_rfl, fun w' hS' => by have q := fr1 w' hS'; go_simp⟩) ?_
  simp only [List.setIfInBounds_toArray, List.set_cons_zero, List.set_cons_succ]
  refine wpAnyH_ready (rs := [29]) (by kernel_rfl) (by simp) ?_
  refine AllReadyH.cons rfl (fun Kx hK => ?_) AllReadyH.nil
  rw [if_pos (by kernel_rfl)]
  go_simp
  refine (HOf.out _ (hS3)).mono ?_
  intro e1 q4 hh
  obtain ⟨he, hq4⟩ := hh.out
  subst he
  clear hh
  have hS4 : Below w0.heap.size w0 q4 := (hS3).trans (hq4.mono (hS3).size)
  go_wp2_with fail
  refine hK.out _ _ hS4 (fun _ => ?_)
  clear hK Kx
  try simp only [Act.put, List.setIfInBounds_toArray, List.set_cons_zero, List.set_cons_succ]
  refine takeH_at 30 56 (.bool false) rfl rfl (by kernel_rfl) (by kernel_rfl) (by kernel_rfl) (fun _ _ _ h => h) (hS4) (Or.inl ⟨by kernel_rfl, fun w' hS' => by go_simp⟩) ?_
  simp only [List.setIfInBounds_toArray, List.set_cons_zero, List.set_cons_succ]
  refine takeH_at 31 57 (.bool false) rfl rfl (by kernel_rfl) (by kernel_rfl) (by kernel_rfl) (fun _ _ _ h => h) (hS4) (Or.inl ⟨by kernel_rfl, fun w' hS' => by go_simp⟩) ?_
  simp only [List.setIfInBounds_toArray, List.set_cons_zero, List.set_cons_succ]
  refine takeH_at 32 58 undef rfl rfl (by kernel_rfl) (by kernel_rfl) (by kernel_rfl) (fun _ _ _ h => h) (hS4) (Or.inr ⟨by kernel_rfl, rfl⟩) ?_
  simp only [List.setIfInBounds_toArray, List.set_cons_zero, List.set_cons_succ]
  refine takeH_at 33 59 undef rfl rfl (by kernel_rfl) (by kernel_rfl) (by kernel_rfl) (fun _ _ _ h => h) (hS4) (Or.inr ⟨by kernel_rfl, rfl⟩) ?_
  simp only [List.setIfInBounds_toArray, List.set_cons_zero, List.set_cons_succ]
  refine takeH_at 34 60 undef rfl rfl (by kernel_rfl) (by kernel_rfl) (by kernel_rfl) (fun _ _ _ h => h) (hS4) (Or.inr ⟨by kernel_rfl, rfl⟩) ?_
  simp only [List.setIfInBounds_toArray, List.set_cons_zero, List.set_cons_succ]
  refine takeH_at 35 61 undef rfl rfl (by kernel_rfl) (by kernel_rfl) (by kernel_rfl) (fun _ _ _ h => h) (hS4) (Or.inr ⟨by kernel_rfl, rfl⟩) ?_
  simp only [List.setIfInBounds_toArray, List.set_cons_zero, List.set_cons_succ]
  refine takeH_at 36 62 undef rfl rfl (by kernel_rfl) (by kernel_rfl) (by kernel_rfl) (fun _ _ _ h => h) (hS4) (Or.inr ⟨by kernel_rfl, rfl⟩) ?_
  simp only [List.setIfInBounds_toArray, List.set_cons_zero, List.set_cons_succ]
  refine takeH_at 37 63 (.bool false) rfl rfl (by kernel_rfl) (by kernel_rfl) (by kernel_rfl) (fun _ _ _ h => h) (hS4) (Or.inl ⟨by kernel_rfl, fun w' hS' => by go_simp⟩) ?_
  simp only [List.setIfInBounds_toArray, List.set_cons_zero, List.set_cons_succ]
  refine takeH_at 38 2 (.bool false) rfl rfl (by kernel_rfl) (by kernel_rfl) (by kernel_rfl) (fun _ _ _ h => h) (hS4) (Or.inl ⟨by kernel_rfl, fun w' hS' => by go_simp⟩) ?_
  simp only [List.setIfInBounds_toArray, List.set_cons_zero, List.set_cons_succ]
  refine wpAnyH_done (by kernel_rfl) ?_ _
  refine NoPanic.normal ?_
  go_wp2_with fail
  go_ret
  exact ⟨rfl, HW0.out.trans (hS4.mono HW0.out.size)⟩
set_option maxHeartbeats 8000000 in
set_option maxRecDepth 100000 in
theorem work_7 (m : Mt) (hC : 0 ≤ m.C) (w : World) (hot N : Nat) (EL : List Epo) (f : Nat → Int × Int × Int) (hh : m.hot = (hot : Int)) (hz : m.az ≤ 9223372036854775807) (hN : m.C - (2 * m.H + m.K) / m.U = (N : Nat)) (hN2 : N ≤ 4294967296) (hsz : m.sum.size ≤ 9223372036854775807) (hc1 : m.gn ≤ m.gc) (hc2 : m.gc ≤ 9223372036854775807) (hen : Hid (EL.length = m.en)) (hn0 : m.en ≤ 1954687338268) (e1 : Hid (RV epoL 5 w m.ep EL)) (hSg : Hid (SegV w (.slice m.gp m.gn m.gc) m.gn f))
    (hm : mayB m.U m.C m.H m.K = true) (ha : areaB m.U m.H m.K m.ao m.az m.mode hot = true) (hd : m.done ≤ N) (hst : stepB m hot N = true) (hJ : JustP m.gn f (Sx.kept [Sx.segX N (rM m), Sx.segY N (rM m)])) (hft : m.fr < m.to) (hef : epN EL m.fr m.en = 1) : Calls Try.prog 37 #[.agg (mtC m)] w fun e w' => e = .returned (.bool (decide (epN EL m.to m.en = 1))) ∧ Below w.heap.size w w' := by
  have HM : Hid (∀ u, Calls Try.prog 18 #[.agg #[.int .i64 m.U, .int .u64 m.C, .int .i64 m.H, .int .i64 m.K]] u fun e w' => Hid (e = .returned (.bool true) ∧ Below u.heap.size u w')) := fun u => by
    have q := may_ok m.U m.C m.H m.K hC u
    rw [hm] at q
    exact q
  obtain ⟨qu, qh, k4, k2, _, qc, qlt⟩ := mayB_all hm
  have hr := headB_range qh
  have h1 : 0 ≤ m.H := by omega
  have h2 : m.H ≤ 4194304 := hr.2
  have k1 : 0 ≤ m.K := by omega
  have HAr : Hid (∀ u, Calls Try.prog 19 #[.agg #[.int .i64 m.U, .int .u64 m.C, .int .i64 m.H, .int .i64 m.K], .agg #[.int .i64 m.ao, .int .i64 m.az], .int .i64 m.mode, .int .u64 m.hot] u fun e w' => Hid (e = .returned (.bool true) ∧ Below u.heap.size u w')) := fun u => by
    have q := area_ok m.U m.C m.H m.K m.ao m.az m.mode hot u h1 h2 k1 k2 hz
    rw [ha] at q
    rw [hh]
    exact q
  have HSec : Hid (∀ u, Calls Try.prog 25 #[.agg #[.int .i64 m.U, .int .u64 m.C, .int .i64 m.H, .int .i64 m.K]] u fun e w' => Hid (e = .returned (.int .u64 (N : Nat)) ∧ Below u.heap.size u w')) := fun u => by
    have q := sectors_ok m.U m.C m.H m.K u qu h1 h2 k1 k2 (by omega) qc
    rw [hN] at q
    exact q
  have HSt : Hid (∀ u, Calls Try.prog 64 #[.int .u64 (N : Nat), .agg (roM m)] u fun e w' => Hid (e = .returned (.bool true) ∧ Below u.heap.size u w')) := fun u => by
    have q := stepM_ok m hot N hh hN2 hd hsz u
    rw [hst] at q
    exact q
  have HSe : Hid (∀ u, Calls Try.prog 24 #[.int .u64 (N : Nat), .agg (roM m)] u fun e w' => ∃ g, e = .returned (.func (.func 53) #[] #[.pointer (some ⟨g, 0, none⟩)]) ∧ Sx.Two w' g (Sx.segX N (rM m)) (Sx.segY N (rM m)) ∧ Below u.heap.size u w') := fun u => Sx.segments_ok N (rM m) hN2 hd u
  generalize Sx.segX N (rM m) = sx at *
  generalize Sx.segY N (rM m) = sy at *
  have gd : decide ((m.done : Int) ≤ (N : Int)) = true := by simp; omega
  have gt : decide ((m.fr : Int) < (m.to : Int)) = true := by simp; omega
  clear hm ha qu qh qc qlt hr hh k4 hN
  have bx : Bx (w.alloc (.cells (mtC m) 36)) w.heap.size m := World.alloc_heap_new w _
  have y4 := bx.c 4 (.int .i64 m.U) rfl
  have y5 := bx.c 5 (.int .u64 m.C) rfl
  have y6 := bx.c 6 (.int .i64 m.H) rfl
  have y7 := bx.c 7 (.int .i64 m.K) rfl
  have y14 := bx.c 14 (.bool m.on) rfl
  have y15 := bx.c 15 (.int .u64 (m.fr : Nat)) rfl
  have y16 := bx.c 16 (.int .u64 (m.to : Nat)) rfl
  have y17 := bx.c 17 (.bool m.back) rfl
  have y18 := bx.c 18 (.int .i64 m.mode) rfl
  have y19 := bx.c 19 (.int .u64 m.hot) rfl
  have y20 := bx.c 20 (.int .u64 (m.done : Nat)) rfl
  have y21 := bx.c 21 (.int .i64 m.ao) rfl
  have y22 := bx.c 22 (.int .i64 m.az) rfl
  have y23 := bx.c 23 (.bool m.act) rfl
  have y24 := bx.c 24 (.int .u64 m.cnt) rfl
  have y25 := bx.c 25 (.string m.sum) rfl
  clear bx
  have HW : Hid (Wk ((w.alloc (.cells (mtC m) 36)).alloc (.cells (roM m) 33)) w.heap.size m ∧ Below w.heap.size w ((w.alloc (.cells (mtC m) 36)).alloc (.cells (roM m) 33))) := ⟨Wk.new w m, AAt.nb _ _ _⟩
  go_enter Try.func37, Try.ntmps37
  go_upto_region 2 with fail
  generalize ((w.alloc (.cells (mtC m) 36)).alloc (.cells (roM m) 33)) = wz at HW ⊢
  clear y4 y5 y6 y7 y14 y15 y16 y17 y18 y19 y20 y21 y22 y23 y24 y25
  have y4 := HW.out.1.c 4 (.int .i64 m.U) rfl
  have y5 := HW.out.1.c 5 (.int .u64 m.C) rfl
  have y6 := HW.out.1.c 6 (.int .i64 m.H) rfl
  have y7 := HW.out.1.c 7 (.int .i64 m.K) rfl
  go_upto_region 5 with (first | (go_at_call 18; refine (HM.out _).mono ?_; intro e5 w5 hh5; obtain ⟨he5, hb5⟩ := hh5.out; subst he5; have HW5 := HW.out.1.below hb5; have y4 := HW5.c 4 (.int .i64 m.U) rfl; have y5 := HW5.c 5 (.int .u64 m.C) rfl; have y6 := HW5.c 6 (.int .i64 m.H) rfl; have y7 := HW5.c 7 (.int .i64 m.K) rfl; have r4 := HW5.r 4 (.int .i64 m.mode) rfl; have r5 := HW5.r 5 (.int .u64 m.hot) rfl; have r7 := HW5.r 7 (.int .i64 m.ao) rfl; have r8 := HW5.r 8 (.int .i64 m.az) rfl; have r1 := HW5.r 1 (.int .u64 (m.fr : Nat)) rfl; have r2 := HW5.r 2 (.int .u64 (m.to : Nat)) rfl) | (go_at_call 19; refine (HAr.out _).mono ?_; intro e6 w6 hh6; obtain ⟨he6, hb6⟩ := hh6.out; subst he6; have HW6 := HW5.below hb6; clear y4 y5 y6 y7; have y4 := HW6.c 4 (.int .i64 m.U) rfl; have y5 := HW6.c 5 (.int .u64 m.C) rfl; have y6 := HW6.c 6 (.int .i64 m.H) rfl; have y7 := HW6.c 7 (.int .i64 m.K) rfl) | (go_at_call 25; refine (HSec.out _).mono ?_; intro e7 w0 hh7; obtain ⟨he7, hb7⟩ := hh7.out; subst he7; have HW7 := HW6.below hb7))
  have HW0 : Hid (Below w.heap.size w w0) := ((HW.out.2.trans (hb5.mono HW.out.2.size)).trans (hb6.mono (Nat.le_trans HW.out.2.size hb5.size))).trans (hb7.mono (Nat.le_trans (Nat.le_trans HW.out.2.size hb5.size) hb6.size))
  have HK : Hid (Wk w0 w.heap.size m) := HW7
  clear HW5 HW6 HW7 hb5 hb6 hb7 hh5 hh6 hh7 y4 y5 y6 y7 r4 r5 r7 r8 r1 r2 HM HAr HSec HW
  have hS0 : Below w0.heap.size w0 w0.drew := (Below.refl _ _).drew
  have hrr : ∀ u, Below w0.heap.size w0 u → u.rangeAt (w.heap.size + 1) 0 (roM m).toList := fun u hu => (HK.out.below hu).range
  have fr6 : ∀ u, Below w0.heap.size w0 u → u.cell? ⟨w.heap.size + 1, 6, none⟩ = some (.int .u64 (m.done : Nat)) := fun u hu => (HK.out.below hu).r 6 _ rfl
  have fr1 : ∀ u, Below w0.heap.size w0 u → u.cell? ⟨w.heap.size + 1, 1, none⟩ = some (.int .u64 (m.fr : Nat)) := fun u hu => (HK.out.below hu).r 1 _ rfl
  have fr2 : ∀ u, Below w0.heap.size w0 u → u.cell? ⟨w.heap.size + 1, 2, none⟩ = some (.int .u64 (m.to : Nat)) := fun u hu => (HK.out.below hu).r 2 _ rfl
  have fy13 : ∀ u, Below w0.heap.size w0 u → u.cell? ⟨w.heap.size, 13, none⟩ = some (.slice m.gp m.gn m.gc) := fun u hu => (HK.out.below hu).c 13 _ rfl
  have fy12 : ∀ u, Below w0.heap.size w0 u → u.cell? ⟨w.heap.size, 12, none⟩ = some (.slice m.ep m.en m.ec) := fun u hu => (HK.out.below hu).c 12 _ rfl
  have HOf : Hid (∀ u, Below w0.heap.size w0 u → Calls Try.prog 47 #[.slice m.ep m.en m.ec, .int .u64 (m.fr : Nat)] u fun e w' => Hid (e = .returned (.bool true) ∧ Below u.heap.size u w')) := fun u hu => by
    have q := only_ok m.ep m.en m.ec EL m.fr hen hn0 u (e1.out.below (Below.trans HW0.out (hu.mono HW0.out.size)))
    rw [decide_eq_true hef] at q
    exact q
  have HOt : Hid (∀ u, Below w0.heap.size w0 u → Calls Try.prog 47 #[.slice m.ep m.en m.ec, .int .u64 (m.to : Nat)] u fun e w' => Hid (e = .returned (.bool (decide (epN EL m.to m.en = 1))) ∧ Below u.heap.size u w')) := fun u hu => only_ok m.ep m.en m.ec EL m.to hen hn0 u (e1.out.below (Below.trans HW0.out (hu.mono HW0.out.size)))
  refine wp_region_noPanic ?_
  refine wp_region_held_drew (S := fun u => Below w0.heap.size w0 u) (by kernel_rfl) (hS0) (fun _ => ?_)
  refine takeH_at 0 26 (.pointer (some ⟨w.heap.size + 1, 6, none⟩)) rfl rfl (by kernel_rfl) (by kernel_rfl) (by kernel_rfl) (fun _ _ _ h => h) (hS0) (Or.inl ⟨by kernel_rfl, fun w' hS' => by go_simp⟩) ?_
  simp only [List.setIfInBounds_toArray, List.set_cons_zero, List.set_cons_succ]
  refine takeH_at 1 27 (.int .u64 (m.done : Nat)) rfl rfl (by kernel_rfl) (by kernel_rfl) (by kernel_rfl) (fun _ _ _ h => h) (hS0) (Or.inl ⟨by kernel_rfl, fun w' hS' => by have q := fr6 w' hS'; go_simp⟩) ?_
  simp only [List.setIfInBounds_toArray, List.set_cons_zero, List.set_cons_succ]
  refine takeH_at 2 28 (.int .u64 (N : Nat)) rfl rfl (by kernel_rfl) (by kernel_rfl) (by kernel_rfl) (fun _ _ _ h => h) (hS0) (Or.inl ⟨by kernel_rfl, fun w' hS' => by go_simp⟩) ?_
  simp only [List.setIfInBounds_toArray, List.set_cons_zero, List.set_cons_succ]
  refine takeH_at 3 29 (.bool true) rfl rfl (by kernel_rfl) (by kernel_rfl) (by kernel_rfl) (fun _ _ _ h => h) (hS0) (Or.inl ⟨by kernel_rfl, fun w' hS' => by go_simp⟩) ?_
  simp only [List.setIfInBounds_toArray, List.set_cons_zero, List.set_cons_succ]
  refine takeH_at 4 30 (.bool true) rfl rfl (by kernel_rfl) (by kernel_rfl) (by kernel_rfl) (fun _ _ _ h => h) (hS0) (Or.inl ⟨by kernel_rfl, fun w' hS' => by go_simp⟩) ?_
  simp only [List.setIfInBounds_toArray, List.set_cons_zero, List.set_cons_succ]
  refine takeH_at 5 31 (.int .u64 (N : Nat)) rfl rfl (by kernel_rfl) (by kernel_rfl) (by kernel_rfl) (fun _ _ _ h => h) (hS0) (Or.inl ⟨by kernel_rfl, fun w' hS' => by go_simp⟩) ?_
  simp only [List.setIfInBounds_toArray, List.set_cons_zero, List.set_cons_succ]
  refine takeH_at 6 32 (.agg (roM m)) rfl rfl (by kernel_rfl) (by kernel_rfl) (by kernel_rfl) (fun _ _ _ h => h) (hS0) (yieldsIf_load_mid (by kernel_rfl) 33 (.tmp 3) rfl (w.heap.size + 1) 0 rfl (roM m).toList _ hrr Try.underlying33 rfl (by kernel_rfl)) ?_
  simp only [List.setIfInBounds_toArray, List.set_cons_zero, List.set_cons_succ]
  refine wpAnyH_ready (rs := [7]) (by kernel_rfl) (by simp) ?_
  refine AllReadyH.cons rfl (fun Kx hK => ?_) AllReadyH.nil
  rw [if_pos (by kernel_rfl)]
  go_simp
  refine (HSt.out _).mono ?_
  intro e1 q1 hh
  obtain ⟨he, hq1⟩ := hh.out
  subst he
  clear hh
  have hS1 : Below w0.heap.size w0 q1 := (hS0).trans (hq1.mono (hS0).size)
  go_wp2_with fail
  refine hK.out _ _ hS1 (fun _ => ?_)
  clear hK Kx
  try simp only [Act.put, List.setIfInBounds_toArray, List.set_cons_zero, List.set_cons_succ]
  refine takeH_at 8 34 (.bool true) rfl rfl (by kernel_rfl) (by kernel_rfl) (by kernel_rfl) (fun _ _ _ h => h) (hS1) (Or.inl ⟨by kernel_rfl, fun w' hS' => by go_simp⟩) ?_
  simp only [List.setIfInBounds_toArray, List.set_cons_zero, List.set_cons_succ]
  refine takeH_at 9 35 (.bool true) rfl rfl (by kernel_rfl) (by kernel_rfl) (by kernel_rfl) (fun _ _ _ h => h) (hS1) (Or.inl ⟨by kernel_rfl, fun w' hS' => by go_simp⟩) ?_
  simp only [List.setIfInBounds_toArray, List.set_cons_zero, List.set_cons_succ]
  refine takeH_at 10 36 (.pointer (some ⟨w.heap.size, 13, none⟩)) rfl rfl (by kernel_rfl) (by kernel_rfl) (by kernel_rfl) (fun _ _ _ h => h) (hS1) (Or.inl ⟨by kernel_rfl, fun w' hS' => by go_simp⟩) ?_
  simp only [List.setIfInBounds_toArray, List.set_cons_zero, List.set_cons_succ]
  refine takeH_at 11 37 (.slice m.gp m.gn m.gc) rfl rfl (by kernel_rfl) (by kernel_rfl) (by kernel_rfl) (fun _ _ _ h => h) (hS1) (Or.inl ⟨by kernel_rfl, fun w' hS' => by have q := fy13 w' hS'; go_simp⟩) ?_
  simp only [List.setIfInBounds_toArray, List.set_cons_zero, List.set_cons_succ]
  refine takeH_at 12 38 (.int .u64 (N : Nat)) rfl rfl (by kernel_rfl) (by kernel_rfl) (by kernel_rfl) (fun _ _ _ h => h) (hS1) (Or.inl ⟨by kernel_rfl, fun w' hS' => by go_simp⟩) ?_
  simp only [List.setIfInBounds_toArray, List.set_cons_zero, List.set_cons_succ]
  refine takeH_at 13 39 (.agg (roM m)) rfl rfl (by kernel_rfl) (by kernel_rfl) (by kernel_rfl) (fun _ _ _ h => h) (hS1) (yieldsIf_load_mid (by kernel_rfl) 33 (.tmp 3) rfl (w.heap.size + 1) 0 rfl (roM m).toList _ hrr Try.underlying33 rfl (by kernel_rfl)) ?_
  simp only [List.setIfInBounds_toArray, List.set_cons_zero, List.set_cons_succ]
  refine wpAnyH_ready (rs := [14]) (by kernel_rfl) (by simp) ?_
  refine AllReadyH.cons rfl (fun Kx hK => ?_) AllReadyH.nil
  rw [if_pos (by kernel_rfl)]
  go_simp
  refine (HSe.out _).mono ?_
  intro e1 q2 hh
  obtain ⟨gg, he, hTwo, hq2⟩ := hh
  subst he
  have hS2 : Below w0.heap.size w0 q2 := (hS1).trans (hq2.mono (hS1).size)
  go_wp2_with fail
  refine hK.out _ _ hS2 (fun _ => ?_)
  clear hK Kx
  try simp only [Act.put, List.setIfInBounds_toArray, List.set_cons_zero, List.set_cons_succ]
  refine wpAnyH_ready (rs := [15]) (by kernel_rfl) (by simp) ?_
  refine AllReadyH.cons rfl (fun Kx hK => ?_) AllReadyH.nil
  rw [if_pos (by kernel_rfl)]
  go_simp
  refine (just_ok (v := undef) m.gp m.gc f hc1 hc2 gg sx sy q2 (hSg.out.below (Below.trans HW0.out (hS2.mono HW0.out.size))) hTwo).mono ?_
  intro e1 q3 hh
  obtain ⟨bb, he, hbb, hq3⟩ := hh
  subst he
  have hbx : bb = true := hbb.2 hJ
  subst hbx
  clear hbb hJ hTwo
  have hS3 : Below w0.heap.size w0 q3 := (hS2).trans (hq3.mono (hS2).size)
  go_wp2_with fail
  refine hK.out _ _ hS3 (fun _ => ?_)
  clear hK Kx
  try simp only [Act.put, List.setIfInBounds_toArray, List.set_cons_zero, List.set_cons_succ]
  refine takeH_at 16 42 (.bool true) rfl rfl (by kernel_rfl) (by kernel_rfl) (by kernel_rfl) (fun _ _ _ h => h) (hS3) (Or.inl ⟨by kernel_rfl, fun w' hS' => by go_simp⟩) ?_
  simp only [List.setIfInBounds_toArray, List.set_cons_zero, List.set_cons_succ]
  refine takeH_at 17 43 (.bool true) rfl rfl (by kernel_rfl) (by kernel_rfl) (by kernel_rfl) (fun _ _ _ h => h) (hS3) (Or.inl ⟨by kernel_rfl, fun w' hS' => by go_simp⟩) ?_
  simp only [List.setIfInBounds_toArray, List.set_cons_zero, List.set_cons_succ]
  refine takeH_at 18 44 (.pointer (some ⟨w.heap.size + 1, 1, none⟩)) rfl rfl (by kernel_rfl) (by kernel_rfl) (by kernel_rfl) (fun _ _ _ h => h) (hS3) (Or.inl ⟨by kernel_rfl, fun w' hS' => by go_simp⟩) ?_
  simp only [List.setIfInBounds_toArray, List.set_cons_zero, List.set_cons_succ]
  refine takeH_at 19 45 (.int .u64 (m.fr : Nat)) rfl rfl (by kernel_rfl) (by kernel_rfl) (by kernel_rfl) (fun _ _ _ h => h) (hS3) (Or.inl ⟨by kernel_rfl, fun w' hS' => by have q := fr1 w' hS'; go_simp⟩) ?_
  simp only [List.setIfInBounds_toArray, List.set_cons_zero, List.set_cons_succ]
  refine takeH_at 20 46 (.pointer (some ⟨w.heap.size + 1, 2, none⟩)) rfl rfl (by kernel_rfl) (by kernel_rfl) (by kernel_rfl) (fun _ _ _ h => h) (hS3) (Or.inl ⟨by kernel_rfl, fun w' hS' => by go_simp⟩) ?_
  simp only [List.setIfInBounds_toArray, List.set_cons_zero, List.set_cons_succ]
  refine takeH_at 21 47 (.int .u64 (m.to : Nat)) rfl rfl (by kernel_rfl) (by kernel_rfl) (by kernel_rfl) (fun _ _ _ h => h) (hS3) (Or.inl ⟨by kernel_rfl, fun w' hS' => by have q := fr2 w' hS'; go_simp⟩) ?_
  simp only [List.setIfInBounds_toArray, List.set_cons_zero, List.set_cons_succ]
  refine takeH_at 22 48 (.bool true) rfl rfl (by kernel_rfl) (by kernel_rfl) (by kernel_rfl) (fun _ _ _ h => h) (hS3) (Or.inl ⟨by kernel_rfl, fun w' hS' => by go_simp⟩) ?_
  simp only [List.setIfInBounds_toArray, List.set_cons_zero, List.set_cons_succ]
  refine takeH_at 23 49 (.bool true) rfl rfl (by kernel_rfl) (by kernel_rfl) (by kernel_rfl) (fun _ _ _ h => h) (hS3) (Or.inl ⟨by kernel_rfl, fun w' hS' => by go_simp⟩) ?_
  simp only [List.setIfInBounds_toArray, List.set_cons_zero, List.set_cons_succ]
  refine takeH_at 24 50 (.bool true) rfl rfl (by kernel_rfl) (by kernel_rfl) (by kernel_rfl) (fun _ _ _ h => h) (hS3) (Or.inl ⟨by kernel_rfl, fun w' hS' => by go_simp⟩) ?_
  simp only [List.setIfInBounds_toArray, List.set_cons_zero, List.set_cons_succ]
  refine takeH_at 25 51 (.pointer (some ⟨w.heap.size, 12, none⟩)) rfl rfl (by kernel_rfl) (by kernel_rfl) (by kernel_rfl) (fun _ _ _ h => h) (hS3) (Or.inl ⟨by kernel_rfl, fun w' hS' => by go_simp⟩) ?_
  simp only [List.setIfInBounds_toArray, List.set_cons_zero, List.set_cons_succ]
  refine takeH_at 26 52 (.slice m.ep m.en m.ec) rfl rfl (by kernel_rfl) (by kernel_rfl) (by kernel_rfl) (fun _ _ _ h => h) (hS3) (Or.inl ⟨by kernel_rfl, fun w' hS' => by have q := fy12 w' hS'; go_simp⟩) ?_
  simp only [List.setIfInBounds_toArray, List.set_cons_zero, List.set_cons_succ]
  refine takeH_at 27 53 (.pointer (some ⟨w.heap.size + 1, 1, none⟩)) rfl rfl (by kernel_rfl) (by kernel_rfl) (by kernel_rfl) (fun _ _ _ h => h) (hS3) (Or.inl ⟨by kernel_rfl, fun w' hS' => by go_simp⟩) ?_
  simp only [List.setIfInBounds_toArray, List.set_cons_zero, List.set_cons_succ]
  refine takeH_at 28 54 (.int .u64 (m.fr : Nat)) rfl rfl (by kernel_rfl) (by kernel_rfl) (by kernel_rfl) (fun _ _ _ h => h) (hS3) (Or.inl ⟨by kernel_rfl, fun w' hS' => by have q := fr1 w' hS'; go_simp⟩) ?_
  simp only [List.setIfInBounds_toArray, List.set_cons_zero, List.set_cons_succ]
  refine wpAnyH_ready (rs := [29]) (by kernel_rfl) (by simp) ?_
  refine AllReadyH.cons rfl (fun Kx hK => ?_) AllReadyH.nil
  rw [if_pos (by kernel_rfl)]
  go_simp
  refine (HOf.out _ (hS3)).mono ?_
  intro e1 q4 hh
  obtain ⟨he, hq4⟩ := hh.out
  subst he
  clear hh
  have hS4 : Below w0.heap.size w0 q4 := (hS3).trans (hq4.mono (hS3).size)
  go_wp2_with fail
  refine hK.out _ _ hS4 (fun _ => ?_)
  clear hK Kx
  try simp only [Act.put, List.setIfInBounds_toArray, List.set_cons_zero, List.set_cons_succ]
  refine takeH_at 30 56 (.bool true) rfl rfl (by kernel_rfl) (by kernel_rfl) (by kernel_rfl) (fun _ _ _ h => h) (hS4) (Or.inl ⟨by kernel_rfl, fun w' hS' => by go_simp⟩) ?_
  simp only [List.setIfInBounds_toArray, List.set_cons_zero, List.set_cons_succ]
  refine takeH_at 31 57 (.bool true) rfl rfl (by kernel_rfl) (by kernel_rfl) (by kernel_rfl) (fun _ _ _ h => h) (hS4) (Or.inl ⟨by kernel_rfl, fun w' hS' => by go_simp⟩) ?_
  simp only [List.setIfInBounds_toArray, List.set_cons_zero, List.set_cons_succ]
  refine takeH_at 32 58 (.pointer (some ⟨w.heap.size, 12, none⟩)) rfl rfl (by kernel_rfl) (by kernel_rfl) (by kernel_rfl) (fun _ _ _ h => h) (hS4) (Or.inl ⟨by kernel_rfl, fun w' hS' => by go_simp⟩) ?_
  simp only [List.setIfInBounds_toArray, List.set_cons_zero, List.set_cons_succ]
  refine takeH_at 33 59 (.slice m.ep m.en m.ec) rfl rfl (by kernel_rfl) (by kernel_rfl) (by kernel_rfl) (fun _ _ _ h => h) (hS4) (Or.inl ⟨by kernel_rfl, fun w' hS' => by have q := fy12 w' hS'; go_simp⟩) ?_
  simp only [List.setIfInBounds_toArray, List.set_cons_zero, List.set_cons_succ]
  refine takeH_at 34 60 (.pointer (some ⟨w.heap.size + 1, 2, none⟩)) rfl rfl (by kernel_rfl) (by kernel_rfl) (by kernel_rfl) (fun _ _ _ h => h) (hS4) (Or.inl ⟨by kernel_rfl, fun w' hS' => by go_simp⟩) ?_
  simp only [List.setIfInBounds_toArray, List.set_cons_zero, List.set_cons_succ]
  refine takeH_at 35 61 (.int .u64 (m.to : Nat)) rfl rfl (by kernel_rfl) (by kernel_rfl) (by kernel_rfl) (fun _ _ _ h => h) (hS4) (Or.inl ⟨by kernel_rfl, fun w' hS' => by have q := fr2 w' hS'; go_simp⟩) ?_
  simp only [List.setIfInBounds_toArray, List.set_cons_zero, List.set_cons_succ]
  refine wpAnyH_ready (rs := [36]) (by kernel_rfl) (by simp) ?_
  refine AllReadyH.cons rfl (fun Kx hK => ?_) AllReadyH.nil
  rw [if_pos (by kernel_rfl)]
  go_simp
  refine (HOt.out _ (hS4)).mono ?_
  intro e1 q5 hh
  obtain ⟨he, hq5⟩ := hh.out
  subst he
  clear hh
  have hS5 : Below w0.heap.size w0 q5 := (hS4).trans (hq5.mono (hS4).size)
  go_wp2_with fail
  refine hK.out _ _ hS5 (fun _ => ?_)
  clear hK Kx
  try simp only [Act.put, List.setIfInBounds_toArray, List.set_cons_zero, List.set_cons_succ]
  refine takeH_at 37 63 (.bool (decide (epN EL m.to m.en = 1))) rfl rfl (by kernel_rfl) (by kernel_rfl) (by kernel_rfl) (fun _ _ _ h => h) (hS5) (Or.inl ⟨by kernel_rfl, fun w' hS' => by go_simp⟩) ?_
  simp only [List.setIfInBounds_toArray, List.set_cons_zero, List.set_cons_succ]
  refine takeH_at 38 2 (.bool (decide (epN EL m.to m.en = 1))) rfl rfl (by kernel_rfl) (by kernel_rfl) (by kernel_rfl) (fun _ _ _ h => h) (hS5) (Or.inl ⟨by kernel_rfl, fun w' hS' => by go_simp⟩) ?_
  simp only [List.setIfInBounds_toArray, List.set_cons_zero, List.set_cons_succ]
  refine wpAnyH_done (by kernel_rfl) ?_ _
  refine NoPanic.normal ?_
  go_wp2_with fail
  go_ret
  exact ⟨rfl, HW0.out.trans (hS5.mono HW0.out.size)⟩
end Go.Proofs.Ytmfnhdflmnmooaa
