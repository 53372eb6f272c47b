import Derived.Test.YtaejoohbmdckhaaRef
namespace Go.Proofs.Ytaejoohbmdckhaa
open Go.RowKit
set_option linter.unusedVariables false
set_option linter.unusedSimpArgs false
theorem j_num_ok (x : Int) (w : World) : Calls Try.prog 7 #[.int .i64 x] w fun e w' => e = .returned (.int .i64 x) ∧ w' = w := by
  go_enter Try.func7, Try.ntmps7
  go_wp2
  go_ret
  exact ⟨rfl, rfl⟩
set_option maxHeartbeats 4000000 in
set_option maxRecDepth 100000 in
theorem judge_ok (c run most ones e0 e1 e2 e3 e4 e5 e6 e7 far poker turned : Int) (w : World) :
    Calls Try.prog 8 #[.agg #[.int .i64 c, .int .i64 run, .int .i64 most, .int .i64 ones, .int .i64 e0, .int .i64 e1, .int .i64 e2, .int .i64 e3, .int .i64 e4, .int .i64 e5, .int .i64 e6, .int .i64 e7, .int .i64 far, .int .i64 poker, .int .i64 turned]] w fun e w' => e = .returned (.int .i64 (JV c run most ones e0 e1 e2 e3 e4 e5 e6 e7 far poker turned)) ∧ Below w.heap.size w w' := by
  obtain ⟨r, HR0⟩ : ∃ r, Hid (r = JV c run most ones e0 e1 e2 e3 e4 e5 e6 e7 far poker turned) := ⟨_, rfl⟩
  rw [← HR0.out]
  obtain ⟨m, HM0⟩ : ∃ m, Hid (m = decide (MayP c run most ones e0 e1 e2 e3 e4 e5 e6 e7 far poker turned)) := ⟨_, rfl⟩
  have K22 : Hid (∀ u, Calls Try.prog 22 #[.agg #[.int .i64 c, .int .i64 run, .int .i64 most, .int .i64 ones, .int .i64 e0, .int .i64 e1, .int .i64 e2, .int .i64 e3, .int .i64 e4, .int .i64 e5, .int .i64 e6, .int .i64 e7, .int .i64 far, .int .i64 poker, .int .i64 turned]] u fun e w' => e = .returned (.bool m) ∧ Below u.heap.size u w') := fun u => by rw [HM0.out]; exact mayBe_ok _ _ _ _ _ _ _ _ _ _ _ _ _ _ _ u
  have HB : Hid (Below w.heap.size w (w.alloc (.cells #[.int .i64 c, .int .i64 run, .int .i64 most, .int .i64 ones, .int .i64 e0, .int .i64 e1, .int .i64 e2, .int .i64 e3, .int .i64 e4, .int .i64 e5, .int .i64 e6, .int .i64 e7, .int .i64 far, .int .i64 poker, .int .i64 turned] 27)) ∧ (w.alloc (.cells #[.int .i64 c, .int .i64 run, .int .i64 most, .int .i64 ones, .int .i64 e0, .int .i64 e1, .int .i64 e2, .int .i64 e3, .int .i64 e4, .int .i64 e5, .int .i64 e6, .int .i64 e7, .int .i64 far, .int .i64 poker, .int .i64 turned] 27)).rangeAt w.heap.size 0 [.int .i64 c, .int .i64 run, .int .i64 most, .int .i64 ones, .int .i64 e0, .int .i64 e1, .int .i64 e2, .int .i64 e3, .int .i64 e4, .int .i64 e5, .int .i64 e6, .int .i64 e7, .int .i64 far, .int .i64 poker, .int .i64 turned] ∧ (w.alloc (.cells #[.int .i64 c, .int .i64 run, .int .i64 most, .int .i64 ones, .int .i64 e0, .int .i64 e1, .int .i64 e2, .int .i64 e3, .int .i64 e4, .int .i64 e5, .int .i64 e6, .int .i64 e7, .int .i64 far, .int .i64 poker, .int .i64 turned] 27)).heap.size = w.heap.size + 1) := ⟨(Below.refl _ w).alloc (Nat.le_refl _) _, rangeAt_new w _ _, by simp⟩
  by_cases hM : MayP c run most ones e0 e1 e2 e3 e4 e5 e6 e7 far poker turned
  case neg =>
    obtain rfl : r = 2 := by rw [HR0.out]; exact jv2 _ _ _ _ _ _ _ _ _ _ _ _ _ _ _ hM
    obtain rfl : m = false := by rw [HM0.out]; exact decide_eq_false hM
    clear hM
    go_enter Try.func8, Try.ntmps8
    go_wp2_with (go_at_call 22; refine (K22.out _).mono ?_)
    rintro e w1 ⟨rfl, hb⟩
    go_wp2
    go_ret
    exact ⟨rfl, HB.out.1.trans (hb.mono (by have := HB.out.2.2; omega))⟩
  obtain rfl : m = true := by rw [HM0.out]; exact decide_eq_true hM
  obtain ⟨s, HS⟩ : ∃ s, Hid (s = decide (SickP c run most ones e0 e1 e2 e3 e4 e5 e6 e7 far poker turned)) := ⟨_, rfl⟩
  have K23 : Hid (∀ u, Calls Try.prog 23 #[.agg #[.int .i64 c, .int .i64 run, .int .i64 most, .int .i64 ones, .int .i64 e0, .int .i64 e1, .int .i64 e2, .int .i64 e3, .int .i64 e4, .int .i64 e5, .int .i64 e6, .int .i64 e7, .int .i64 far, .int .i64 poker, .int .i64 turned]] u fun e w' => e = .returned (.bool s) ∧ Below u.heap.size u w') := fun u => by rw [HS.out]; exact isSick_ok _ _ _ _ _ _ _ _ _ _ _ _ _ _ _ u hM
  have HZ : Hid ((s = true → r = 62) ∧ (s = false → r = 0)) := ⟨fun h => by rw [HR0.out]; exact jv62 _ _ _ _ _ _ _ _ _ _ _ _ _ _ _ hM (of_decide_eq_true (HS.out.symm.trans h)), fun h => by rw [HR0.out]; exact jv0 _ _ _ _ _ _ _ _ _ _ _ _ _ _ _ hM (of_decide_eq_false (HS.out.symm.trans h))⟩
  clear hM
  go_enter Try.func8, Try.ntmps8
  go_upto_region 1 with fail
  generalize w.alloc (.cells #[.int .i64 c, .int .i64 run, .int .i64 most, .int .i64 ones, .int .i64 e0, .int .i64 e1, .int .i64 e2, .int .i64 e3, .int .i64 e4, .int .i64 e5, .int .i64 e6, .int .i64 e7, .int .i64 far, .int .i64 poker, .int .i64 turned] 27) = wa at HB ⊢
  have k0 : wa.cell? ⟨w.heap.size, 0, none⟩ = some (.int .i64 c) := by have q := HB.out.2.1 0 _ rfl; simpa using q
  have k1 : wa.cell? ⟨w.heap.size, 1, none⟩ = some (.int .i64 run) := by have q := HB.out.2.1 1 _ rfl; simpa using q
  have k2 : wa.cell? ⟨w.heap.size, 2, none⟩ = some (.int .i64 most) := by have q := HB.out.2.1 2 _ rfl; simpa using q
  have k3 : wa.cell? ⟨w.heap.size, 3, none⟩ = some (.int .i64 ones) := by have q := HB.out.2.1 3 _ rfl; simpa using q
  have k4 : wa.cell? ⟨w.heap.size, 4, none⟩ = some (.int .i64 e0) := by have q := HB.out.2.1 4 _ rfl; simpa using q
  have k5 : wa.cell? ⟨w.heap.size, 5, none⟩ = some (.int .i64 e1) := by have q := HB.out.2.1 5 _ rfl; simpa using q
  have k6 : wa.cell? ⟨w.heap.size, 6, none⟩ = some (.int .i64 e2) := by have q := HB.out.2.1 6 _ rfl; simpa using q
  have k7 : wa.cell? ⟨w.heap.size, 7, none⟩ = some (.int .i64 e3) := by have q := HB.out.2.1 7 _ rfl; simpa using q
  have k8 : wa.cell? ⟨w.heap.size, 8, none⟩ = some (.int .i64 e4) := by have q := HB.out.2.1 8 _ rfl; simpa using q
  have k9 : wa.cell? ⟨w.heap.size, 9, none⟩ = some (.int .i64 e5) := by have q := HB.out.2.1 9 _ rfl; simpa using q
  have k10 : wa.cell? ⟨w.heap.size, 10, none⟩ = some (.int .i64 e6) := by have q := HB.out.2.1 10 _ rfl; simpa using q
  have k11 : wa.cell? ⟨w.heap.size, 11, none⟩ = some (.int .i64 e7) := by have q := HB.out.2.1 11 _ rfl; simpa using q
  have k12 : wa.cell? ⟨w.heap.size, 12, none⟩ = some (.int .i64 far) := by have q := HB.out.2.1 12 _ rfl; simpa using q
  have k13 : wa.cell? ⟨w.heap.size, 13, none⟩ = some (.int .i64 poker) := by have q := HB.out.2.1 13 _ rfl; simpa using q
  have k14 : wa.cell? ⟨w.heap.size, 14, none⟩ = some (.int .i64 turned) := by have q := HB.out.2.1 14 _ rfl; simpa using q
  go_wp2_with (go_at_call 22; refine (K22.out _).mono ?_)
  rintro e w1 ⟨rfl, hb⟩
  have HB1 : Hid (Below w.heap.size w w1 ∧ ∀ p : Addr, p.block < w.heap.size + 1 → w1.cell? p = wa.cell? p) := ⟨HB.out.1.trans (hb.mono (by have := HB.out.2.2; omega)), fun p hp => hb.cell (by have := HB.out.2.2; omega)⟩
  have HB2 : Hid (w.heap.size ≤ w1.heap.size) := by have h1 := hb.size; have h2 := HB.out.2.2; show _ ≤ _; omega
  clear hb
  have k0 : w1.cell? ⟨w.heap.size, 0, none⟩ = some (.int .i64 c) := by rw [HB1.out.2 ⟨w.heap.size, 0, none⟩ (Nat.lt_succ_self _)]; exact k0
  have k1 : w1.cell? ⟨w.heap.size, 1, none⟩ = some (.int .i64 run) := by rw [HB1.out.2 ⟨w.heap.size, 1, none⟩ (Nat.lt_succ_self _)]; exact k1
  have k2 : w1.cell? ⟨w.heap.size, 2, none⟩ = some (.int .i64 most) := by rw [HB1.out.2 ⟨w.heap.size, 2, none⟩ (Nat.lt_succ_self _)]; exact k2
  have k3 : w1.cell? ⟨w.heap.size, 3, none⟩ = some (.int .i64 ones) := by rw [HB1.out.2 ⟨w.heap.size, 3, none⟩ (Nat.lt_succ_self _)]; exact k3
  have k4 : w1.cell? ⟨w.heap.size, 4, none⟩ = some (.int .i64 e0) := by rw [HB1.out.2 ⟨w.heap.size, 4, none⟩ (Nat.lt_succ_self _)]; exact k4
  have k5 : w1.cell? ⟨w.heap.size, 5, none⟩ = some (.int .i64 e1) := by rw [HB1.out.2 ⟨w.heap.size, 5, none⟩ (Nat.lt_succ_self _)]; exact k5
  have k6 : w1.cell? ⟨w.heap.size, 6, none⟩ = some (.int .i64 e2) := by rw [HB1.out.2 ⟨w.heap.size, 6, none⟩ (Nat.lt_succ_self _)]; exact k6
  have k7 : w1.cell? ⟨w.heap.size, 7, none⟩ = some (.int .i64 e3) := by rw [HB1.out.2 ⟨w.heap.size, 7, none⟩ (Nat.lt_succ_self _)]; exact k7
  have k8 : w1.cell? ⟨w.heap.size, 8, none⟩ = some (.int .i64 e4) := by rw [HB1.out.2 ⟨w.heap.size, 8, none⟩ (Nat.lt_succ_self _)]; exact k8
  have k9 : w1.cell? ⟨w.heap.size, 9, none⟩ = some (.int .i64 e5) := by rw [HB1.out.2 ⟨w.heap.size, 9, none⟩ (Nat.lt_succ_self _)]; exact k9
  have k10 : w1.cell? ⟨w.heap.size, 10, none⟩ = some (.int .i64 e6) := by rw [HB1.out.2 ⟨w.heap.size, 10, none⟩ (Nat.lt_succ_self _)]; exact k10
  have k11 : w1.cell? ⟨w.heap.size, 11, none⟩ = some (.int .i64 e7) := by rw [HB1.out.2 ⟨w.heap.size, 11, none⟩ (Nat.lt_succ_self _)]; exact k11
  have k12 : w1.cell? ⟨w.heap.size, 12, none⟩ = some (.int .i64 far) := by rw [HB1.out.2 ⟨w.heap.size, 12, none⟩ (Nat.lt_succ_self _)]; exact k12
  have k13 : w1.cell? ⟨w.heap.size, 13, none⟩ = some (.int .i64 poker) := by rw [HB1.out.2 ⟨w.heap.size, 13, none⟩ (Nat.lt_succ_self _)]; exact k13
  have k14 : w1.cell? ⟨w.heap.size, 14, none⟩ = some (.int .i64 turned) := by rw [HB1.out.2 ⟨w.heap.size, 14, none⟩ (Nat.lt_succ_self _)]; exact k14
  go_wp2_with (go_at_call 23; refine (K23.out _).mono ?_)
  rintro e w2 ⟨rfl, hb⟩
  have HB3 : Hid (Below w.heap.size w w2) := HB1.out.1.trans (hb.mono HB2.out)
  clear hb
  cases s
  · obtain rfl := HZ.out.2 rfl
    go_wp2
    go_ret
    exact ⟨rfl, HB3.out⟩
  · obtain rfl := HZ.out.1 rfl
    go_wp2
    go_ret
    exact ⟨rfl, HB3.out⟩
theorem one15 (c run most ones e0 e1 e2 e3 e4 e5 e6 e7 far poker turned : Int) : ([.int .i64 c, .int .i64 run, .int .i64 most, .int .i64 ones, .int .i64 e0, .int .i64 e1, .int .i64 e2, .int .i64 e3, .int .i64 e4, .int .i64 e5, .int .i64 e6, .int .i64 e7, .int .i64 far, .int .i64 poker, .int .i64 turned] : List Value).toArray.all (·.oneCell') = true := by kernel_rfl
theorem j_size27 : (Try.prog.info? 27).map (·.size) = some 15 := by kernel_rfl
theorem j_size36 : (Try.prog.info? 36).map (·.size) = some 15 := by kernel_rfl
theorem cell_other2 (w : World) (g i j : Nat) (v : Value) (h : i ≠ j) : (w.setCell ⟨g, i, none⟩ v).cell? ⟨g, j, none⟩ = w.cell? ⟨g, j, none⟩ :=
  World.cell?_setCell_other w ⟨g, i, none⟩ ⟨g, j, none⟩ v (fun e => h (by cases e; rfl))
theorem range_set2 {w : World} {b : Nat} {L : List Value} (h : w.rangeAt b 0 L) (i : Nat) (x y : Value) (hi : i + 1 < L.length) : ((w.setCell ⟨b, i, none⟩ x).setCell ⟨b, i + 1, none⟩ y).drew.rangeAt b 0 ((L.set i x).set (i + 1) y) := fun j v hv => by
  rw [Nat.zero_add, World.cell?_drew]
  have h0 := h i _ (List.getElem?_eq_getElem (by omega))
  have h1 := h (i + 1) _ (List.getElem?_eq_getElem hi)
  rw [Nat.zero_add] at h0 h1
  by_cases e1 : j = i + 1
  · subst e1
    rw [World.cell?_setCell_same' _ _ _ (by rw [cell_other2 _ _ _ _ _ (by omega), h1]; rfl)]
    rw [List.getElem?_set_self (by simpa using hi)] at hv
    exact hv
  · rw [cell_other2 _ _ _ _ _ (Ne.symm e1)]
    rw [List.getElem?_set_ne (Ne.symm e1)] at hv
    by_cases e0 : j = i
    · subst e0
      rw [World.cell?_setCell_same' _ _ _ (by rw [h0]; rfl)]
      rw [List.getElem?_set_self (by omega)] at hv
      exact hv
    · rw [cell_other2 _ _ _ _ _ (Ne.symm e0)]
      rw [List.getElem?_set_ne (Ne.symm e0)] at hv
      have q := h j v hv
      rwa [Nat.zero_add] at q
theorem j_results_cell1 {fn : Func} {p : Tmp} {ty : TypeId} (h : fn.results = #[.cell p ty]) (tmps : Array Value) (P : Program) (w : World) :
    (results fn tmps).run P w = ((asAddr (tmps.getD p undef)).run P w).andThen fun a w₁ => (loadVar ty a).run P w₁ := by
  simp only [results, h]
  simp [Sem.run_bind, Result.andThen]
/-- A function that ends with an array, which lies in a cell of its own. -/
theorem ret_array {P : Program} {fn : Func} {p : Tmp} {ty : TypeId} {d : TypeDesc} {Q : Ending → World → Prop} {tmps : Array Value} {w : World} {b : Nat} (cs : List Value) (h : fn.results = #[.cell p ty])
    (hp : tmps.getD p undef = .pointer (some ⟨b, 0, none⟩)) (hr : w.rangeAt b 0 cs) (hu : P.underlying ty = some d) (hd : d.isRow = true) (hi : (P.info? ty).map (·.size) = some cs.length)
    (hq : Q (.returned (.agg cs.toArray)) w) : bodyPost P fn Q .ret ⟨tmps, []⟩ w := by
  refine bodyPost_ret (v := .agg cs.toArray) ?_ rfl hq
  rw [j_results_cell1 h]
  have hl := run_loadVar_mid (P := P) w b 0 ty cs d hr hu hd hi
  simp [hp, asAddr, hl]
theorem below_setCells (b : Nat) {B : Nat} (hB : B ≤ b) {a : World} : ∀ (vs : List Value) (o : Nat) (w : World), Below B a w → Below B a (w.setCells b o vs)
  | [], _, _, h => h
  | v :: r, o, w, h => by rw [World.setCells]; exact below_setCells b hB r (o + 1) _ (h.setCell hB _)
theorem range_2 (w : World) (A : Obj) (C : Array Value) (t : TypeId) : ((w.alloc A).alloc (.cells C t)).rangeAt (w.heap.size + 1) 0 C.toList := by
  have h := rangeAt_new (w.alloc A) C t
  simpa using h
theorem range_3 (w : World) (A B : Obj) (C : Array Value) (t : TypeId) : (((w.alloc A).alloc B).alloc (.cells C t)).rangeAt (w.heap.size + 2) 0 C.toList := by
  have h := rangeAt_new ((w.alloc A).alloc B) C t
  simpa using h
theorem there_3 (w : World) (A B : Obj) (C : Array Value) (t : TypeId) (n : Nat) (hn : n ≤ C.size) : (((w.alloc A).alloc B).alloc (.cells C t)).there (w.heap.size + 2) 0 n := by
  have h := there_new ((w.alloc A).alloc B) C t n hn
  simpa using h
set_option maxHeartbeats 4000000 in
set_option maxRecDepth 100000 in
theorem told_ok (c run most ones e0 e1 e2 e3 e4 e5 e6 e7 far poker turned : Int) (w : World) :
    Calls Try.prog 11 #[.agg #[.int .i64 c, .int .i64 run, .int .i64 most, .int .i64 ones, .int .i64 e0, .int .i64 e1, .int .i64 e2, .int .i64 e3, .int .i64 e4, .int .i64 e5, .int .i64 e6, .int .i64 e7, .int .i64 far, .int .i64 poker, .int .i64 turned]] w fun e w' => e = .returned (.agg #[.int .i64 c, .int .i64 run, .int .i64 most, .int .i64 ones, .int .i64 e0, .int .i64 e1, .int .i64 e2, .int .i64 e3, .int .i64 e4, .int .i64 e5, .int .i64 e6, .int .i64 e7, .int .i64 far, .int .i64 poker, .int .i64 turned]) ∧ Below w.heap.size w w' := by
  have HB : Hid (Below w.heap.size w (((w.alloc (.cells #[.int .i64 c, .int .i64 run, .int .i64 most, .int .i64 ones, .int .i64 e0, .int .i64 e1, .int .i64 e2, .int .i64 e3, .int .i64 e4, .int .i64 e5, .int .i64 e6, .int .i64 e7, .int .i64 far, .int .i64 poker, .int .i64 turned] 36)).alloc (.cells #[.int .i64 0, .int .i64 0, .int .i64 0, .int .i64 0, .int .i64 0, .int .i64 0, .int .i64 0, .int .i64 0, .int .i64 0, .int .i64 0, .int .i64 0, .int .i64 0, .int .i64 0, .int .i64 0, .int .i64 0] 27)).alloc (.cells #[.int .i64 c, .int .i64 run, .int .i64 most, .int .i64 ones, .int .i64 0, .int .i64 0, .int .i64 0, .int .i64 0, .int .i64 0, .int .i64 0, .int .i64 0, .int .i64 0, .int .i64 far, .int .i64 poker, .int .i64 turned] 27)) ∧ (((w.alloc (.cells #[.int .i64 c, .int .i64 run, .int .i64 most, .int .i64 ones, .int .i64 e0, .int .i64 e1, .int .i64 e2, .int .i64 e3, .int .i64 e4, .int .i64 e5, .int .i64 e6, .int .i64 e7, .int .i64 far, .int .i64 poker, .int .i64 turned] 36)).alloc (.cells #[.int .i64 0, .int .i64 0, .int .i64 0, .int .i64 0, .int .i64 0, .int .i64 0, .int .i64 0, .int .i64 0, .int .i64 0, .int .i64 0, .int .i64 0, .int .i64 0, .int .i64 0, .int .i64 0, .int .i64 0] 27)).alloc (.cells #[.int .i64 c, .int .i64 run, .int .i64 most, .int .i64 ones, .int .i64 0, .int .i64 0, .int .i64 0, .int .i64 0, .int .i64 0, .int .i64 0, .int .i64 0, .int .i64 0, .int .i64 far, .int .i64 poker, .int .i64 turned] 27)).rangeAt w.heap.size 0 [.int .i64 c, .int .i64 run, .int .i64 most, .int .i64 ones, .int .i64 e0, .int .i64 e1, .int .i64 e2, .int .i64 e3, .int .i64 e4, .int .i64 e5, .int .i64 e6, .int .i64 e7, .int .i64 far, .int .i64 poker, .int .i64 turned] ∧ (((w.alloc (.cells #[.int .i64 c, .int .i64 run, .int .i64 most, .int .i64 ones, .int .i64 e0, .int .i64 e1, .int .i64 e2, .int .i64 e3, .int .i64 e4, .int .i64 e5, .int .i64 e6, .int .i64 e7, .int .i64 far, .int .i64 poker, .int .i64 turned] 36)).alloc (.cells #[.int .i64 0, .int .i64 0, .int .i64 0, .int .i64 0, .int .i64 0, .int .i64 0, .int .i64 0, .int .i64 0, .int .i64 0, .int .i64 0, .int .i64 0, .int .i64 0, .int .i64 0, .int .i64 0, .int .i64 0] 27)).alloc (.cells #[.int .i64 c, .int .i64 run, .int .i64 most, .int .i64 ones, .int .i64 0, .int .i64 0, .int .i64 0, .int .i64 0, .int .i64 0, .int .i64 0, .int .i64 0, .int .i64 0, .int .i64 far, .int .i64 poker, .int .i64 turned] 27)).there (w.heap.size + 1) 0 15 ∧ (((w.alloc (.cells #[.int .i64 c, .int .i64 run, .int .i64 most, .int .i64 ones, .int .i64 e0, .int .i64 e1, .int .i64 e2, .int .i64 e3, .int .i64 e4, .int .i64 e5, .int .i64 e6, .int .i64 e7, .int .i64 far, .int .i64 poker, .int .i64 turned] 36)).alloc (.cells #[.int .i64 0, .int .i64 0, .int .i64 0, .int .i64 0, .int .i64 0, .int .i64 0, .int .i64 0, .int .i64 0, .int .i64 0, .int .i64 0, .int .i64 0, .int .i64 0, .int .i64 0, .int .i64 0, .int .i64 0] 27)).alloc (.cells #[.int .i64 c, .int .i64 run, .int .i64 most, .int .i64 ones, .int .i64 0, .int .i64 0, .int .i64 0, .int .i64 0, .int .i64 0, .int .i64 0, .int .i64 0, .int .i64 0, .int .i64 far, .int .i64 poker, .int .i64 turned] 27)).rangeAt (w.heap.size + 2) 0 [.int .i64 c, .int .i64 run, .int .i64 most, .int .i64 ones, .int .i64 0, .int .i64 0, .int .i64 0, .int .i64 0, .int .i64 0, .int .i64 0, .int .i64 0, .int .i64 0, .int .i64 far, .int .i64 poker, .int .i64 turned] ∧ (((w.alloc (.cells #[.int .i64 c, .int .i64 run, .int .i64 most, .int .i64 ones, .int .i64 e0, .int .i64 e1, .int .i64 e2, .int .i64 e3, .int .i64 e4, .int .i64 e5, .int .i64 e6, .int .i64 e7, .int .i64 far, .int .i64 poker, .int .i64 turned] 36)).alloc (.cells #[.int .i64 0, .int .i64 0, .int .i64 0, .int .i64 0, .int .i64 0, .int .i64 0, .int .i64 0, .int .i64 0, .int .i64 0, .int .i64 0, .int .i64 0, .int .i64 0, .int .i64 0, .int .i64 0, .int .i64 0] 27)).alloc (.cells #[.int .i64 c, .int .i64 run, .int .i64 most, .int .i64 ones, .int .i64 0, .int .i64 0, .int .i64 0, .int .i64 0, .int .i64 0, .int .i64 0, .int .i64 0, .int .i64 0, .int .i64 far, .int .i64 poker, .int .i64 turned] 27)).there (w.heap.size + 2) 0 15 ∧ (((w.alloc (.cells #[.int .i64 c, .int .i64 run, .int .i64 most, .int .i64 ones, .int .i64 e0, .int .i64 e1, .int .i64 e2, .int .i64 e3, .int .i64 e4, .int .i64 e5, .int .i64 e6, .int .i64 e7, .int .i64 far, .int .i64 poker, .int .i64 turned] 36)).alloc (.cells #[.int .i64 0, .int .i64 0, .int .i64 0, .int .i64 0, .int .i64 0, .int .i64 0, .int .i64 0, .int .i64 0, .int .i64 0, .int .i64 0, .int .i64 0, .int .i64 0, .int .i64 0, .int .i64 0, .int .i64 0] 27)).alloc (.cells #[.int .i64 c, .int .i64 run, .int .i64 most, .int .i64 ones, .int .i64 0, .int .i64 0, .int .i64 0, .int .i64 0, .int .i64 0, .int .i64 0, .int .i64 0, .int .i64 0, .int .i64 far, .int .i64 poker, .int .i64 turned] 27)).heap.size = w.heap.size + 3) := by
    refine ⟨(((Below.refl _ w).alloc (by omega) _).alloc (by simp) _).alloc (by simp; omega) _, ?_, ?_, range_3 w _ _ _ _, there_3 w _ _ _ _ 15 (Nat.le_refl 15), by simp⟩
    · intro j v hv
      have h := rangeAt_new w #[.int .i64 c, .int .i64 run, .int .i64 most, .int .i64 ones, .int .i64 e0, .int .i64 e1, .int .i64 e2, .int .i64 e3, .int .i64 e4, .int .i64 e5, .int .i64 e6, .int .i64 e7, .int .i64 far, .int .i64 poker, .int .i64 turned] 36 j v hv
      rw [World.cell?_alloc_lt _ _ _ (show w.heap.size < _ by simp; omega), World.cell?_alloc_lt _ _ _ (show w.heap.size < _ by simp)]
      exact h
    · have h := there_new (w.alloc (.cells #[.int .i64 c, .int .i64 run, .int .i64 most, .int .i64 ones, .int .i64 e0, .int .i64 e1, .int .i64 e2, .int .i64 e3, .int .i64 e4, .int .i64 e5, .int .i64 e6, .int .i64 e7, .int .i64 far, .int .i64 poker, .int .i64 turned] 36)) #[.int .i64 0, .int .i64 0, .int .i64 0, .int .i64 0, .int .i64 0, .int .i64 0, .int .i64 0, .int .i64 0, .int .i64 0, .int .i64 0, .int .i64 0, .int .i64 0, .int .i64 0, .int .i64 0, .int .i64 0] 27 15 (by decide)
      have q := World.there_alloc h (.cells #[.int .i64 c, .int .i64 run, .int .i64 most, .int .i64 ones, .int .i64 0, .int .i64 0, .int .i64 0, .int .i64 0, .int .i64 0, .int .i64 0, .int .i64 0, .int .i64 0, .int .i64 far, .int .i64 poker, .int .i64 turned] 27)
      simpa using q
  go_enter Try.func11, Try.ntmps11
  go_wp2
  generalize (((w.alloc (.cells #[.int .i64 c, .int .i64 run, .int .i64 most, .int .i64 ones, .int .i64 e0, .int .i64 e1, .int .i64 e2, .int .i64 e3, .int .i64 e4, .int .i64 e5, .int .i64 e6, .int .i64 e7, .int .i64 far, .int .i64 poker, .int .i64 turned] 36)).alloc (.cells #[.int .i64 0, .int .i64 0, .int .i64 0, .int .i64 0, .int .i64 0, .int .i64 0, .int .i64 0, .int .i64 0, .int .i64 0, .int .i64 0, .int .i64 0, .int .i64 0, .int .i64 0, .int .i64 0, .int .i64 0] 27)).alloc (.cells #[.int .i64 c, .int .i64 run, .int .i64 most, .int .i64 ones, .int .i64 0, .int .i64 0, .int .i64 0, .int .i64 0, .int .i64 0, .int .i64 0, .int .i64 0, .int .i64 0, .int .i64 far, .int .i64 poker, .int .i64 turned] 27)) = wa at HB ⊢
  go_loopw [4] (fun i wr => ∃ k : Nat, k ≤ 4 ∧ i = .int .i64 (k : Nat) ∧ Hid (Below (w.heap.size + 2) wa wr ∧ wr.rangeAt (w.heap.size + 2) 0 [.int .i64 c, .int .i64 run, .int .i64 most, .int .i64 ones, .int .i64 (if 0 < k then e0 else 0), .int .i64 (if 0 < k then e1 else 0), .int .i64 (if 1 < k then e2 else 0), .int .i64 (if 1 < k then e3 else 0), .int .i64 (if 2 < k then e4 else 0), .int .i64 (if 2 < k then e5 else 0), .int .i64 (if 3 < k then e6 else 0), .int .i64 (if 3 < k then e7 else 0), .int .i64 far, .int .i64 poker, .int .i64 turned] ∧ wr.there (w.heap.size + 2) 0 15)) (fun i _ => 4 - (intOf i).toNat)
  case atStart => exact ⟨0, by omega, rfl, Below.refl _ _, HB.out.2.2.2.1, HB.out.2.2.2.2.1⟩
  case round =>
    obtain ⟨k, hk, rfl, HR⟩ := hrel
    obtain rfl | rfl | rfl | rfl | rfl : k = 0 ∨ k = 1 ∨ k = 2 ∨ k = 3 ∨ k = 4 := by omega
    · have s0 : wr.cell? ⟨w.heap.size, 4, none⟩ = some (.int .i64 e0) := by rw [HR.out.1.cell (show w.heap.size < _ by omega)]; have q := HB.out.2.1 4 _ rfl; simpa using q
      have t0 : wr.cell? ⟨w.heap.size + 2, 4, none⟩ = some (.int .i64 0) := by have q := HR.out.2.1 4 _ rfl; simpa using q
      have u0 := (HR.out.2.2 4 (by omega)).2
      rw [Nat.zero_add] at u0
      have s1 : wr.cell? ⟨w.heap.size, 5, none⟩ = some (.int .i64 e1) := by rw [HR.out.1.cell (show w.heap.size < _ by omega)]; have q := HB.out.2.1 5 _ rfl; simpa using q
      have t1 : wr.cell? ⟨w.heap.size + 2, 5, none⟩ = some (.int .i64 0) := by have q := HR.out.2.1 5 _ rfl; simpa using q
      have u1 := (HR.out.2.2 5 (by omega)).2
      rw [Nat.zero_add] at u1
      go_wp2
      go_region
      go_wp2
      refine ⟨⟨1, by omega, rfl, ((HR.out.1.setCell (by show _ ≤ w.heap.size + 2; omega) _).setCell (by show _ ≤ w.heap.size + 2; omega) _).drew, ?_, ?_⟩, by simp only [intOf]; omega⟩
      · exact range_set2 HR.out.2.1 4 _ _ (by simp)
      · exact (World.there_drew _ _ _ _).2 (World.there_setCells HR.out.2.2 (w.heap.size + 2) 4 [_, _])
    · have s0 : wr.cell? ⟨w.heap.size, 6, none⟩ = some (.int .i64 e2) := by rw [HR.out.1.cell (show w.heap.size < _ by omega)]; have q := HB.out.2.1 6 _ rfl; simpa using q
      have t0 : wr.cell? ⟨w.heap.size + 2, 6, none⟩ = some (.int .i64 0) := by have q := HR.out.2.1 6 _ rfl; simpa using q
      have u0 := (HR.out.2.2 6 (by omega)).2
      rw [Nat.zero_add] at u0
      have s1 : wr.cell? ⟨w.heap.size, 7, none⟩ = some (.int .i64 e3) := by rw [HR.out.1.cell (show w.heap.size < _ by omega)]; have q := HB.out.2.1 7 _ rfl; simpa using q
      have t1 : wr.cell? ⟨w.heap.size + 2, 7, none⟩ = some (.int .i64 0) := by have q := HR.out.2.1 7 _ rfl; simpa using q
      have u1 := (HR.out.2.2 7 (by omega)).2
      rw [Nat.zero_add] at u1
      go_wp2
      go_region
      go_wp2
      refine ⟨⟨2, by omega, rfl, ((HR.out.1.setCell (by show _ ≤ w.heap.size + 2; omega) _).setCell (by show _ ≤ w.heap.size + 2; omega) _).drew, ?_, ?_⟩, by simp only [intOf]; omega⟩
      · exact range_set2 HR.out.2.1 6 _ _ (by simp)
      · exact (World.there_drew _ _ _ _).2 (World.there_setCells HR.out.2.2 (w.heap.size + 2) 6 [_, _])
    · have s0 : wr.cell? ⟨w.heap.size, 8, none⟩ = some (.int .i64 e4) := by rw [HR.out.1.cell (show w.heap.size < _ by omega)]; have q := HB.out.2.1 8 _ rfl; simpa using q
      have t0 : wr.cell? ⟨w.heap.size + 2, 8, none⟩ = some (.int .i64 0) := by have q := HR.out.2.1 8 _ rfl; simpa using q
      have u0 := (HR.out.2.2 8 (by omega)).2
      rw [Nat.zero_add] at u0
      have s1 : wr.cell? ⟨w.heap.size, 9, none⟩ = some (.int .i64 e5) := by rw [HR.out.1.cell (show w.heap.size < _ by omega)]; have q := HB.out.2.1 9 _ rfl; simpa using q
      have t1 : wr.cell? ⟨w.heap.size + 2, 9, none⟩ = some (.int .i64 0) := by have q := HR.out.2.1 9 _ rfl; simpa using q
      have u1 := (HR.out.2.2 9 (by omega)).2
      rw [Nat.zero_add] at u1
      go_wp2
      go_region
      go_wp2
      refine ⟨⟨3, by omega, rfl, ((HR.out.1.setCell (by show _ ≤ w.heap.size + 2; omega) _).setCell (by show _ ≤ w.heap.size + 2; omega) _).drew, ?_, ?_⟩, by simp only [intOf]; omega⟩
      · exact range_set2 HR.out.2.1 8 _ _ (by simp)
      · exact (World.there_drew _ _ _ _).2 (World.there_setCells HR.out.2.2 (w.heap.size + 2) 8 [_, _])
    · have s0 : wr.cell? ⟨w.heap.size, 10, none⟩ = some (.int .i64 e6) := by rw [HR.out.1.cell (show w.heap.size < _ by omega)]; have q := HB.out.2.1 10 _ rfl; simpa using q
      have t0 : wr.cell? ⟨w.heap.size + 2, 10, none⟩ = some (.int .i64 0) := by have q := HR.out.2.1 10 _ rfl; simpa using q
      have u0 := (HR.out.2.2 10 (by omega)).2
      rw [Nat.zero_add] at u0
      have s1 : wr.cell? ⟨w.heap.size, 11, none⟩ = some (.int .i64 e7) := by rw [HR.out.1.cell (show w.heap.size < _ by omega)]; have q := HB.out.2.1 11 _ rfl; simpa using q
      have t1 : wr.cell? ⟨w.heap.size + 2, 11, none⟩ = some (.int .i64 0) := by have q := HR.out.2.1 11 _ rfl; simpa using q
      have u1 := (HR.out.2.2 11 (by omega)).2
      rw [Nat.zero_add] at u1
      go_wp2
      go_region
      go_wp2
      refine ⟨⟨4, by omega, rfl, ((HR.out.1.setCell (by show _ ≤ w.heap.size + 2; omega) _).setCell (by show _ ≤ w.heap.size + 2; omega) _).drew, ?_, ?_⟩, by simp only [intOf]; omega⟩
      · exact range_set2 HR.out.2.1 10 _ _ (by simp)
      · exact (World.there_drew _ _ _ _).2 (World.there_setCells HR.out.2.2 (w.heap.size + 2) 10 [_, _])
    · have H4 : Hid (wr.rangeAt (w.heap.size + 2) 0 [.int .i64 c, .int .i64 run, .int .i64 most, .int .i64 ones, .int .i64 e0, .int .i64 e1, .int .i64 e2, .int .i64 e3, .int .i64 e4, .int .i64 e5, .int .i64 e6, .int .i64 e7, .int .i64 far, .int .i64 poker, .int .i64 turned] ∧ wr.there (w.heap.size + 1) 0 15 ∧ Below w.heap.size w wr) := by
        refine ⟨HR.out.2.1, fun j hj => ?_, HB.out.1.trans (HR.out.1.mono (by omega))⟩
        rw [HR.out.1.cell (p := ⟨w.heap.size + 1, 0 + j, none⟩) (show w.heap.size + 1 < _ by omega), HR.out.1.frozen (p := ⟨w.heap.size + 1, 0 + j, none⟩) (show w.heap.size + 1 < _ by omega)]
        exact HB.out.2.2.1 j hj
      clear HR hk HB
      obtain ⟨L, HLL⟩ : ∃ L, Hid (L = ([.int .i64 c, .int .i64 run, .int .i64 most, .int .i64 ones, .int .i64 e0, .int .i64 e1, .int .i64 e2, .int .i64 e3, .int .i64 e4, .int .i64 e5, .int .i64 e6, .int .i64 e7, .int .i64 far, .int .i64 poker, .int .i64 turned] : List Value)) := ⟨_, rfl⟩
      rw [← HLL.out] at H4
      have HLl : Hid (L.length = 15) := by show _ = _; rw [HLL.out]; rfl
      have HLo : Hid (L.toArray.all (·.oneCell') = true) := by show _ = _; rw [HLL.out]; exact one15 _ _ _ _ _ _ _ _ _ _ _ _ _ _ _
      have hTH : wr.there (w.heap.size + 1) 0 L.length := by rw [HLl.out]; exact H4.out.2.1
      go_wp2_with (first
        | (refine wpList_load_mid (by rfl) 27 (.tmp 3) (by rfl) (w.heap.size + 2) 0 (by rfl) L _ H4.out.1 Try.underlying27 rfl (by rw [HLl.out]; exact j_size27) ?_)
        | (refine wpList_store_mid (by rfl) 27 (.tmp 2) (.tmp 38) (by rfl) (w.heap.size + 1) 0 L.toArray (by rfl) (by rfl) (by simpa using hTH) (by rw [List.size_toArray, HLl.out]; exact j_size27) HLo.out ?_))
      refine ret_array L Try.results11 rfl (World.rangeAt_setCells_same _ _ _ _ hTH) Try.underlying27 rfl (by rw [HLl.out]; exact j_size27) ⟨?_, below_setCells _ (by omega) _ _ _ H4.out.2.2⟩
      rw [HLL.out]
set_option maxHeartbeats 4000000 in
set_option maxRecDepth 100000 in
theorem like_ok (c run most ones e0 e1 e2 e3 e4 e5 e6 e7 far poker turned : Int) (w : World) :
    Calls Try.prog 10 #[.agg #[.int .i64 c, .int .i64 run, .int .i64 most, .int .i64 ones, .int .i64 e0, .int .i64 e1, .int .i64 e2, .int .i64 e3, .int .i64 e4, .int .i64 e5, .int .i64 e6, .int .i64 e7, .int .i64 far, .int .i64 poker, .int .i64 turned], .agg #[.int .i64 c, .int .i64 run, .int .i64 most, .int .i64 ones, .int .i64 e0, .int .i64 e1, .int .i64 e2, .int .i64 e3, .int .i64 e4, .int .i64 e5, .int .i64 e6, .int .i64 e7, .int .i64 far, .int .i64 poker, .int .i64 turned]] w fun e w' => e = .returned (.bool true) ∧ Below w.heap.size w w' := by
  have HB : Hid (Below w.heap.size w ((w.alloc (.cells #[.int .i64 c, .int .i64 run, .int .i64 most, .int .i64 ones, .int .i64 e0, .int .i64 e1, .int .i64 e2, .int .i64 e3, .int .i64 e4, .int .i64 e5, .int .i64 e6, .int .i64 e7, .int .i64 far, .int .i64 poker, .int .i64 turned] 27)).alloc (.cells #[.int .i64 c, .int .i64 run, .int .i64 most, .int .i64 ones, .int .i64 e0, .int .i64 e1, .int .i64 e2, .int .i64 e3, .int .i64 e4, .int .i64 e5, .int .i64 e6, .int .i64 e7, .int .i64 far, .int .i64 poker, .int .i64 turned] 36)) ∧ ((w.alloc (.cells #[.int .i64 c, .int .i64 run, .int .i64 most, .int .i64 ones, .int .i64 e0, .int .i64 e1, .int .i64 e2, .int .i64 e3, .int .i64 e4, .int .i64 e5, .int .i64 e6, .int .i64 e7, .int .i64 far, .int .i64 poker, .int .i64 turned] 27)).alloc (.cells #[.int .i64 c, .int .i64 run, .int .i64 most, .int .i64 ones, .int .i64 e0, .int .i64 e1, .int .i64 e2, .int .i64 e3, .int .i64 e4, .int .i64 e5, .int .i64 e6, .int .i64 e7, .int .i64 far, .int .i64 poker, .int .i64 turned] 36)).rangeAt w.heap.size 0 [.int .i64 c, .int .i64 run, .int .i64 most, .int .i64 ones, .int .i64 e0, .int .i64 e1, .int .i64 e2, .int .i64 e3, .int .i64 e4, .int .i64 e5, .int .i64 e6, .int .i64 e7, .int .i64 far, .int .i64 poker, .int .i64 turned] ∧ ((w.alloc (.cells #[.int .i64 c, .int .i64 run, .int .i64 most, .int .i64 ones, .int .i64 e0, .int .i64 e1, .int .i64 e2, .int .i64 e3, .int .i64 e4, .int .i64 e5, .int .i64 e6, .int .i64 e7, .int .i64 far, .int .i64 poker, .int .i64 turned] 27)).alloc (.cells #[.int .i64 c, .int .i64 run, .int .i64 most, .int .i64 ones, .int .i64 e0, .int .i64 e1, .int .i64 e2, .int .i64 e3, .int .i64 e4, .int .i64 e5, .int .i64 e6, .int .i64 e7, .int .i64 far, .int .i64 poker, .int .i64 turned] 36)).rangeAt (w.heap.size + 1) 0 [.int .i64 c, .int .i64 run, .int .i64 most, .int .i64 ones, .int .i64 e0, .int .i64 e1, .int .i64 e2, .int .i64 e3, .int .i64 e4, .int .i64 e5, .int .i64 e6, .int .i64 e7, .int .i64 far, .int .i64 poker, .int .i64 turned]) := by
    refine ⟨((Below.refl _ w).alloc (by omega) _).alloc (by simp) _, ?_, range_2 w _ _ _⟩
    intro j v hv
    have h := rangeAt_new w #[.int .i64 c, .int .i64 run, .int .i64 most, .int .i64 ones, .int .i64 e0, .int .i64 e1, .int .i64 e2, .int .i64 e3, .int .i64 e4, .int .i64 e5, .int .i64 e6, .int .i64 e7, .int .i64 far, .int .i64 poker, .int .i64 turned] 27 j v hv
    rw [World.cell?_alloc_lt _ _ _ (show w.heap.size < _ by simp)]
    exact h
  go_enter Try.func10, Try.ntmps10
  go_wp2
  generalize ((w.alloc (.cells #[.int .i64 c, .int .i64 run, .int .i64 most, .int .i64 ones, .int .i64 e0, .int .i64 e1, .int .i64 e2, .int .i64 e3, .int .i64 e4, .int .i64 e5, .int .i64 e6, .int .i64 e7, .int .i64 far, .int .i64 poker, .int .i64 turned] 27)).alloc (.cells #[.int .i64 c, .int .i64 run, .int .i64 most, .int .i64 ones, .int .i64 e0, .int .i64 e1, .int .i64 e2, .int .i64 e3, .int .i64 e4, .int .i64 e5, .int .i64 e6, .int .i64 e7, .int .i64 far, .int .i64 poker, .int .i64 turned] 36)) = wa at HB ⊢
  go_loopw [5] (fun i wr => ∃ k : Nat, k ≤ 4 ∧ i = .int .i64 (k : Nat) ∧ Hid (Below (w.heap.size + 2) wa wr)) (fun i _ => 4 - (intOf i).toNat)
  case atStart => exact ⟨0, by omega, rfl, Below.refl _ _⟩
  case round =>
    obtain ⟨k, hk, rfl, HR⟩ := hrel
    have HC : Hid (∀ i v, [.int .i64 c, .int .i64 run, .int .i64 most, .int .i64 ones, .int .i64 e0, .int .i64 e1, .int .i64 e2, .int .i64 e3, .int .i64 e4, .int .i64 e5, .int .i64 e6, .int .i64 e7, .int .i64 far, .int .i64 poker, .int .i64 turned][i]? = some v → wr.cell? ⟨w.heap.size, i, none⟩ = some v ∧ wr.cell? ⟨w.heap.size + 1, i, none⟩ = some v) := fun i v h => by
      have h1 := HB.out.2.1 i v h
      have h2 := HB.out.2.2 i v h
      rw [Nat.zero_add] at h1 h2
      rw [HR.out.cell (p := ⟨w.heap.size, i, none⟩) (show w.heap.size < _ by omega), HR.out.cell (p := ⟨w.heap.size + 1, i, none⟩) (show w.heap.size + 1 < _ by omega)]
      exact ⟨h1, h2⟩
    obtain rfl | rfl | rfl | rfl | rfl : k = 0 ∨ k = 1 ∨ k = 2 ∨ k = 3 ∨ k = 4 := by omega
    · obtain ⟨s0, t0⟩ := HC.out 4 _ rfl
      obtain ⟨s1, t1⟩ := HC.out 5 _ rfl
      go_wp2
      go_quiet (fail)
      go_wp2
      refine ⟨⟨1, by omega, rfl, ?_⟩, by simp only [intOf]; omega⟩
      exact ⟨HR.out.os, HR.out.tape, HR.out.output, HR.out.size, HR.out.block⟩
    · obtain ⟨s0, t0⟩ := HC.out 6 _ rfl
      obtain ⟨s1, t1⟩ := HC.out 7 _ rfl
      go_wp2
      go_quiet (fail)
      go_wp2
      refine ⟨⟨2, by omega, rfl, ?_⟩, by simp only [intOf]; omega⟩
      exact ⟨HR.out.os, HR.out.tape, HR.out.output, HR.out.size, HR.out.block⟩
    · obtain ⟨s0, t0⟩ := HC.out 8 _ rfl
      obtain ⟨s1, t1⟩ := HC.out 9 _ rfl
      go_wp2
      go_quiet (fail)
      go_wp2
      refine ⟨⟨3, by omega, rfl, ?_⟩, by simp only [intOf]; omega⟩
      exact ⟨HR.out.os, HR.out.tape, HR.out.output, HR.out.size, HR.out.block⟩
    · obtain ⟨s0, t0⟩ := HC.out 10 _ rfl
      obtain ⟨s1, t1⟩ := HC.out 11 _ rfl
      go_wp2
      go_quiet (fail)
      go_wp2
      refine ⟨⟨4, by omega, rfl, ?_⟩, by simp only [intOf]; omega⟩
      exact ⟨HR.out.os, HR.out.tape, HR.out.output, HR.out.size, HR.out.block⟩
    · obtain ⟨s0, t0⟩ := HC.out 0 _ rfl
      obtain ⟨s1, t1⟩ := HC.out 1 _ rfl
      obtain ⟨s2, t2⟩ := HC.out 2 _ rfl
      obtain ⟨s3, t3⟩ := HC.out 3 _ rfl
      obtain ⟨s4, t4⟩ := HC.out 4 _ rfl
      obtain ⟨s5, t5⟩ := HC.out 5 _ rfl
      obtain ⟨s6, t6⟩ := HC.out 6 _ rfl
      obtain ⟨s7, t7⟩ := HC.out 7 _ rfl
      obtain ⟨s8, t8⟩ := HC.out 8 _ rfl
      obtain ⟨s9, t9⟩ := HC.out 9 _ rfl
      obtain ⟨s10, t10⟩ := HC.out 10 _ rfl
      obtain ⟨s11, t11⟩ := HC.out 11 _ rfl
      obtain ⟨s12, t12⟩ := HC.out 12 _ rfl
      obtain ⟨s13, t13⟩ := HC.out 13 _ rfl
      obtain ⟨s14, t14⟩ := HC.out 14 _ rfl
      have hW : Below w.heap.size w wr := HB.out.1.trans (HR.out.mono (by omega))
      clear HR HC HB
      go_wp2
      go_ret
      exact ⟨rfl, hW⟩
end Go.Proofs.Ytaejoohbmdckhaa
