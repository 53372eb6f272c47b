import Derived.Test.YtdhfnehmbambpaaTold
namespace Go.Proofs.Ytdhfnehmbambpaa
open Go.RowKit
set_option linter.unusedVariables false
set_option linter.unusedSimpArgs false
theorem takeH_at {P : Program} {ops : Array Oper} {md : Region.Mode} {S : World → Prop} {Q : Exit → Act → World → Prop} (i d : Nat) (v : Value) {oi : Oper} {fuel : Nat} {listed : Array Bool} {tmps : Array Value} {ds : List Deferred} {w : World} (hi : ops[i]? = some oi) (hd : oi.dst = some d)
    (hs : Region.noSelect ops = true) (hf : Region.free md ops listed i = true) (hr : (Region.ready md ops listed).contains i = true)
    (hQ : ∀ c a w, Q (.panic c) (a.put oi.dst v) w → Q (.panic c) a w) (hS : S w) (hy : YieldsIf P ops S oi v ⟨tmps, ds⟩)
    (h : wpAnyH P md ops Q S fuel (listed.setIfInBounds i true) ⟨tmps.setIfInBounds d v, ds⟩ w) : wpAnyH P md ops Q S (fuel + 1) listed ⟨tmps, ds⟩ w := by
  refine wpAnyH_take hi hs hf hr hQ hy hS ?_
  rw [hd]
  exact h
theorem range_below {B : Nat} {w w' : World} {g : Nat} {L : List Value} (h : w.rangeAt g 0 L) (hb : Below B w w') (hg : g < B) : w'.rangeAt g 0 L := fun j v hv => (hb.cell (p := ⟨g, 0 + j, none⟩) hg).trans (h j v hv)
theorem there_2 (w : World) (A : Obj) (C : Array Value) (t : TypeId) (n : Nat) (hn : n ≤ C.size) : ((w.alloc A).alloc (.cells C t)).there (w.heap.size + 1) 0 n := by
  have h := there_new (w.alloc A) C t n hn
  simpa using h
set_option maxHeartbeats 8000000 in
set_option maxRecDepth 100000 in
theorem judges_ok (c run most ones e0 e1 e2 e3 e4 e5 e6 e7 far poker turned : Int) (w : World) :
    Calls Try.prog 4 #[.agg #[.int .i64 c, .int .i64 run, .int .i64 most, .int .i64 ones, .int .i64 e0, .int .i64 e1, .int .i64 e2, .int .i64 e3, .int .i64 e4, .int .i64 e5, .int .i64 e6, .int .i64 e7, .int .i64 far, .int .i64 poker, .int .i64 turned]] w fun e w' => e = .returned (.bool true) ∧ Below w.heap.size w w' := by
  have HB : Hid (Below w.heap.size w ((w.alloc (.cells #[.int .i64 c, .int .i64 run, .int .i64 most, .int .i64 ones, .int .i64 e0, .int .i64 e1, .int .i64 e2, .int .i64 e3, .int .i64 e4, .int .i64 e5, .int .i64 e6, .int .i64 e7, .int .i64 far, .int .i64 poker, .int .i64 turned] 27)).alloc (.cells #[.int .i64 c, .int .i64 run, .int .i64 most, .int .i64 ones, .int .i64 0, .int .i64 0, .int .i64 0, .int .i64 0, .int .i64 0, .int .i64 0, .int .i64 0, .int .i64 0, .int .i64 far, .int .i64 poker, .int .i64 turned] 36)) ∧ ((w.alloc (.cells #[.int .i64 c, .int .i64 run, .int .i64 most, .int .i64 ones, .int .i64 e0, .int .i64 e1, .int .i64 e2, .int .i64 e3, .int .i64 e4, .int .i64 e5, .int .i64 e6, .int .i64 e7, .int .i64 far, .int .i64 poker, .int .i64 turned] 27)).alloc (.cells #[.int .i64 c, .int .i64 run, .int .i64 most, .int .i64 ones, .int .i64 0, .int .i64 0, .int .i64 0, .int .i64 0, .int .i64 0, .int .i64 0, .int .i64 0, .int .i64 0, .int .i64 far, .int .i64 poker, .int .i64 turned] 36)).rangeAt w.heap.size 0 [.int .i64 c, .int .i64 run, .int .i64 most, .int .i64 ones, .int .i64 e0, .int .i64 e1, .int .i64 e2, .int .i64 e3, .int .i64 e4, .int .i64 e5, .int .i64 e6, .int .i64 e7, .int .i64 far, .int .i64 poker, .int .i64 turned] ∧ ((w.alloc (.cells #[.int .i64 c, .int .i64 run, .int .i64 most, .int .i64 ones, .int .i64 e0, .int .i64 e1, .int .i64 e2, .int .i64 e3, .int .i64 e4, .int .i64 e5, .int .i64 e6, .int .i64 e7, .int .i64 far, .int .i64 poker, .int .i64 turned] 27)).alloc (.cells #[.int .i64 c, .int .i64 run, .int .i64 most, .int .i64 ones, .int .i64 0, .int .i64 0, .int .i64 0, .int .i64 0, .int .i64 0, .int .i64 0, .int .i64 0, .int .i64 0, .int .i64 far, .int .i64 poker, .int .i64 turned] 36)).rangeAt (w.heap.size + 1) 0 [.int .i64 c, .int .i64 run, .int .i64 most, .int .i64 ones, .int .i64 0, .int .i64 0, .int .i64 0, .int .i64 0, .int .i64 0, .int .i64 0, .int .i64 0, .int .i64 0, .int .i64 far, .int .i64 poker, .int .i64 turned] ∧ ((w.alloc (.cells #[.int .i64 c, .int .i64 run, .int .i64 most, .int .i64 ones, .int .i64 e0, .int .i64 e1, .int .i64 e2, .int .i64 e3, .int .i64 e4, .int .i64 e5, .int .i64 e6, .int .i64 e7, .int .i64 far, .int .i64 poker, .int .i64 turned] 27)).alloc (.cells #[.int .i64 c, .int .i64 run, .int .i64 most, .int .i64 ones, .int .i64 0, .int .i64 0, .int .i64 0, .int .i64 0, .int .i64 0, .int .i64 0, .int .i64 0, .int .i64 0, .int .i64 far, .int .i64 poker, .int .i64 turned] 36)).there (w.heap.size + 1) 0 15 ∧ ((w.alloc (.cells #[.int .i64 c, .int .i64 run, .int .i64 most, .int .i64 ones, .int .i64 e0, .int .i64 e1, .int .i64 e2, .int .i64 e3, .int .i64 e4, .int .i64 e5, .int .i64 e6, .int .i64 e7, .int .i64 far, .int .i64 poker, .int .i64 turned] 27)).alloc (.cells #[.int .i64 c, .int .i64 run, .int .i64 most, .int .i64 ones, .int .i64 0, .int .i64 0, .int .i64 0, .int .i64 0, .int .i64 0, .int .i64 0, .int .i64 0, .int .i64 0, .int .i64 far, .int .i64 poker, .int .i64 turned] 36)).heap.size = w.heap.size + 2) := by
    refine ⟨((Below.refl _ w).alloc (by omega) _).alloc (by simp) _, ?_, range_2 w _ _ _, there_2 w _ _ _ 15 (Nat.le_refl 15), by simp⟩
    intro j v hv
    have h := rangeAt_new w #[.int .i64 c, .int .i64 run, .int .i64 most, .int .i64 ones, .int .i64 e0, .int .i64 e1, .int .i64 e2, .int .i64 e3, .int .i64 e4, .int .i64 e5, .int .i64 e6, .int .i64 e7, .int .i64 far, .int .i64 poker, .int .i64 turned] 27 j v hv
    rw [World.cell?_alloc_lt _ _ _ (show w.heap.size < _ by simp)]
    exact h
  go_enter Try.func4, Try.ntmps4
  go_wp2
  generalize ((w.alloc (.cells #[.int .i64 c, .int .i64 run, .int .i64 most, .int .i64 ones, .int .i64 e0, .int .i64 e1, .int .i64 e2, .int .i64 e3, .int .i64 e4, .int .i64 e5, .int .i64 e6, .int .i64 e7, .int .i64 far, .int .i64 poker, .int .i64 turned] 27)).alloc (.cells #[.int .i64 c, .int .i64 run, .int .i64 most, .int .i64 ones, .int .i64 0, .int .i64 0, .int .i64 0, .int .i64 0, .int .i64 0, .int .i64 0, .int .i64 0, .int .i64 0, .int .i64 far, .int .i64 poker, .int .i64 turned] 36)) = wa at HB ⊢
  go_loopw [4] (fun i wr => ∃ k : Nat, k ≤ 4 ∧ i = .int .i64 (k : Nat) ∧ Hid (Below (w.heap.size + 1) wa wr ∧ wr.rangeAt (w.heap.size + 1) 0 [.int .i64 c, .int .i64 run, .int .i64 most, .int .i64 ones, .int .i64 (if 0 < k then e0 else 0), .int .i64 (if 0 < k then e1 else 0), .int .i64 (if 1 < k then e2 else 0), .int .i64 (if 1 < k then e3 else 0), .int .i64 (if 2 < k then e4 else 0), .int .i64 (if 2 < k then e5 else 0), .int .i64 (if 3 < k then e6 else 0), .int .i64 (if 3 < k then e7 else 0), .int .i64 far, .int .i64 poker, .int .i64 turned] ∧ wr.there (w.heap.size + 1) 0 15)) (fun i _ => 4 - (intOf i).toNat)
  case atStart => exact ⟨0, by omega, rfl, Below.refl _ _, HB.out.2.2.1, HB.out.2.2.2.1⟩
  case round =>
    obtain ⟨k, hk, rfl, HR⟩ := hrel
    obtain rfl | rfl | rfl | rfl | rfl : k = 0 ∨ k = 1 ∨ k = 2 ∨ k = 3 ∨ k = 4 := by omega
    · have s0 : wr.cell? ⟨w.heap.size, 4, none⟩ = some (.int .i64 e0) := by rw [HR.out.1.cell (show w.heap.size < _ by omega)]; have q := HB.out.2.1 4 _ rfl; simpa using q
      have t0 : wr.cell? ⟨w.heap.size + 1, 4, none⟩ = some (.int .i64 0) := by have q := HR.out.2.1 4 _ rfl; simpa using q
      have u0 := (HR.out.2.2 4 (by omega)).2
      rw [Nat.zero_add] at u0
      have s1 : wr.cell? ⟨w.heap.size, 5, none⟩ = some (.int .i64 e1) := by rw [HR.out.1.cell (show w.heap.size < _ by omega)]; have q := HB.out.2.1 5 _ rfl; simpa using q
      have t1 : wr.cell? ⟨w.heap.size + 1, 5, none⟩ = some (.int .i64 0) := by have q := HR.out.2.1 5 _ rfl; simpa using q
      have u1 := (HR.out.2.2 5 (by omega)).2
      rw [Nat.zero_add] at u1
      go_wp2
      go_region
      go_wp2
      refine ⟨⟨1, by omega, rfl, ((HR.out.1.setCell (by show _ ≤ w.heap.size + 1; omega) _).setCell (by show _ ≤ w.heap.size + 1; omega) _).drew, ?_, ?_⟩, by simp only [intOf]; omega⟩
      · exact range_set2 HR.out.2.1 4 _ _ (by simp)
      · exact (World.there_drew _ _ _ _).2 (World.there_setCells HR.out.2.2 (w.heap.size + 1) 4 [_, _])
    · have s0 : wr.cell? ⟨w.heap.size, 6, none⟩ = some (.int .i64 e2) := by rw [HR.out.1.cell (show w.heap.size < _ by omega)]; have q := HB.out.2.1 6 _ rfl; simpa using q
      have t0 : wr.cell? ⟨w.heap.size + 1, 6, none⟩ = some (.int .i64 0) := by have q := HR.out.2.1 6 _ rfl; simpa using q
      have u0 := (HR.out.2.2 6 (by omega)).2
      rw [Nat.zero_add] at u0
      have s1 : wr.cell? ⟨w.heap.size, 7, none⟩ = some (.int .i64 e3) := by rw [HR.out.1.cell (show w.heap.size < _ by omega)]; have q := HB.out.2.1 7 _ rfl; simpa using q
      have t1 : wr.cell? ⟨w.heap.size + 1, 7, none⟩ = some (.int .i64 0) := by have q := HR.out.2.1 7 _ rfl; simpa using q
      have u1 := (HR.out.2.2 7 (by omega)).2
      rw [Nat.zero_add] at u1
      go_wp2
      go_region
      go_wp2
      refine ⟨⟨2, by omega, rfl, ((HR.out.1.setCell (by show _ ≤ w.heap.size + 1; omega) _).setCell (by show _ ≤ w.heap.size + 1; omega) _).drew, ?_, ?_⟩, by simp only [intOf]; omega⟩
      · exact range_set2 HR.out.2.1 6 _ _ (by simp)
      · exact (World.there_drew _ _ _ _).2 (World.there_setCells HR.out.2.2 (w.heap.size + 1) 6 [_, _])
    · have s0 : wr.cell? ⟨w.heap.size, 8, none⟩ = some (.int .i64 e4) := by rw [HR.out.1.cell (show w.heap.size < _ by omega)]; have q := HB.out.2.1 8 _ rfl; simpa using q
      have t0 : wr.cell? ⟨w.heap.size + 1, 8, none⟩ = some (.int .i64 0) := by have q := HR.out.2.1 8 _ rfl; simpa using q
      have u0 := (HR.out.2.2 8 (by omega)).2
      rw [Nat.zero_add] at u0
      have s1 : wr.cell? ⟨w.heap.size, 9, none⟩ = some (.int .i64 e5) := by rw [HR.out.1.cell (show w.heap.size < _ by omega)]; have q := HB.out.2.1 9 _ rfl; simpa using q
      have t1 : wr.cell? ⟨w.heap.size + 1, 9, none⟩ = some (.int .i64 0) := by have q := HR.out.2.1 9 _ rfl; simpa using q
      have u1 := (HR.out.2.2 9 (by omega)).2
      rw [Nat.zero_add] at u1
      go_wp2
      go_region
      go_wp2
      refine ⟨⟨3, by omega, rfl, ((HR.out.1.setCell (by show _ ≤ w.heap.size + 1; omega) _).setCell (by show _ ≤ w.heap.size + 1; omega) _).drew, ?_, ?_⟩, by simp only [intOf]; omega⟩
      · exact range_set2 HR.out.2.1 8 _ _ (by simp)
      · exact (World.there_drew _ _ _ _).2 (World.there_setCells HR.out.2.2 (w.heap.size + 1) 8 [_, _])
    · have s0 : wr.cell? ⟨w.heap.size, 10, none⟩ = some (.int .i64 e6) := by rw [HR.out.1.cell (show w.heap.size < _ by omega)]; have q := HB.out.2.1 10 _ rfl; simpa using q
      have t0 : wr.cell? ⟨w.heap.size + 1, 10, none⟩ = some (.int .i64 0) := by have q := HR.out.2.1 10 _ rfl; simpa using q
      have u0 := (HR.out.2.2 10 (by omega)).2
      rw [Nat.zero_add] at u0
      have s1 : wr.cell? ⟨w.heap.size, 11, none⟩ = some (.int .i64 e7) := by rw [HR.out.1.cell (show w.heap.size < _ by omega)]; have q := HB.out.2.1 11 _ rfl; simpa using q
      have t1 : wr.cell? ⟨w.heap.size + 1, 11, none⟩ = some (.int .i64 0) := by have q := HR.out.2.1 11 _ rfl; simpa using q
      have u1 := (HR.out.2.2 11 (by omega)).2
      rw [Nat.zero_add] at u1
      go_wp2
      go_region
      go_wp2
      refine ⟨⟨4, by omega, rfl, ((HR.out.1.setCell (by show _ ≤ w.heap.size + 1; omega) _).setCell (by show _ ≤ w.heap.size + 1; omega) _).drew, ?_, ?_⟩, by simp only [intOf]; omega⟩
      · exact range_set2 HR.out.2.1 10 _ _ (by simp)
      · exact (World.there_drew _ _ _ _).2 (World.there_setCells HR.out.2.2 (w.heap.size + 1) 10 [_, _])
    · have H4 : Hid (wr.rangeAt w.heap.size 0 [.int .i64 c, .int .i64 run, .int .i64 most, .int .i64 ones, .int .i64 e0, .int .i64 e1, .int .i64 e2, .int .i64 e3, .int .i64 e4, .int .i64 e5, .int .i64 e6, .int .i64 e7, .int .i64 far, .int .i64 poker, .int .i64 turned] ∧ wr.rangeAt (w.heap.size + 1) 0 [.int .i64 c, .int .i64 run, .int .i64 most, .int .i64 ones, .int .i64 e0, .int .i64 e1, .int .i64 e2, .int .i64 e3, .int .i64 e4, .int .i64 e5, .int .i64 e6, .int .i64 e7, .int .i64 far, .int .i64 poker, .int .i64 turned] ∧ Below w.heap.size w wr ∧ w.heap.size + 2 ≤ wr.heap.size) := ⟨range_below HB.out.2.1 HR.out.1 (by omega), HR.out.2.1, HB.out.1.trans (HR.out.1.mono (by omega)), by have h1 := HR.out.1.size; have h2 := HB.out.2.2.2.2; omega⟩
      clear HR hk HB
      obtain ⟨L, HLL⟩ : ∃ L, Hid (L = ([.int .i64 c, .int .i64 run, .int .i64 most, .int .i64 ones, .int .i64 e0, .int .i64 e1, .int .i64 e2, .int .i64 e3, .int .i64 e4, .int .i64 e5, .int .i64 e6, .int .i64 e7, .int .i64 far, .int .i64 poker, .int .i64 turned] : List Value)) := ⟨_, rfl⟩
      rw [← HLL.out] at H4
      have HLl : Hid (L.length = 15) := by show _ = _; rw [HLL.out]; rfl
      obtain ⟨r, HR0⟩ : ∃ r, Hid (r = JV c run most ones e0 e1 e2 e3 e4 e5 e6 e7 far poker turned) := ⟨_, rfl⟩
      have K8 : Hid (∀ u, Calls Try.prog 8 #[.agg L.toArray] u fun e w' => e = .returned (.int .i64 r) ∧ Below u.heap.size u w') := fun u => by rw [HLL.out, HR0.out]; exact judge_ok _ _ _ _ _ _ _ _ _ _ _ _ _ _ _ u
      have K7 : Hid (∀ u, Calls Try.prog 7 #[.int .i64 r] u fun e w' => e = .returned (.int .i64 r) ∧ Below u.heap.size u w') := fun u => (num_ok r u).mono fun e w' h => ⟨h.1, by rw [h.2]; exact Below.refl _ _⟩
      have K9 : Hid (∀ u, Calls Try.prog 9 #[.agg L.toArray] u fun e w' => e = .returned (.int .i64 r) ∧ Below u.heap.size u w') := fun u => by rw [HLL.out, HR0.out]; exact rjudge_ok _ _ _ _ _ _ _ _ _ _ _ _ _ _ _ u
      have K11 : Hid (∀ u, Calls Try.prog 11 #[.agg L.toArray] u fun e w' => e = .returned (.agg L.toArray) ∧ Below u.heap.size u w') := fun u => by rw [HLL.out]; exact told_ok _ _ _ _ _ _ _ _ _ _ _ _ _ _ _ u
      have K10 : Hid (∀ u, Calls Try.prog 10 #[.agg L.toArray, .agg L.toArray] u fun e w' => e = .returned (.bool true) ∧ Below u.heap.size u w') := fun u => by rw [HLL.out]; exact like_ok _ _ _ _ _ _ _ _ _ _ _ _ _ _ _ u
      have g27 : Hid (∀ u, Below wr.heap.size wr u → u.rangeAt w.heap.size 0 L) := fun u hu => range_below H4.out.1 hu (by have := H4.out.2.2.2; omega)
      have g36 : Hid (∀ u, Below wr.heap.size wr u → u.rangeAt (w.heap.size + 1) 0 L) := fun u hu => range_below H4.out.2.1 hu (by have := H4.out.2.2.2; omega)
      go_wp2
      have hS0 : Below wr.heap.size wr wr.drew := (Below.refl _ _).drew
      refine wp_region_noPanic ?_
      refine wp_region_held_drew (S := fun u => Below wr.heap.size wr u) (by kernel_rfl) (hS0) (fun _ => ?_)
      refine takeH_at 0 38 (.agg L.toArray) rfl rfl (by kernel_rfl) (by kernel_rfl) (by kernel_rfl) (fun _ _ _ h => h) (hS0) (yieldsIf_load_mid (by kernel_rfl) 27 (.tmp 1) rfl w.heap.size 0 rfl L _ (fun u hu => g27.out u hu) Try.underlying27 rfl (by rw [HLl.out]; exact size27)) ?_
      simp only [List.setIfInBounds_toArray, List.set_cons_zero, List.set_cons_succ]
      refine takeH_at 3 41 (.agg L.toArray) rfl rfl (by kernel_rfl) (by kernel_rfl) (by kernel_rfl) (fun _ _ _ h => h) (hS0) (yieldsIf_load_mid (by kernel_rfl) 36 (.tmp 3) rfl (w.heap.size + 1) 0 rfl L _ (fun u hu => g36.out u hu) Try.underlying36 rfl (by rw [HLl.out]; exact size36)) ?_
      simp only [List.setIfInBounds_toArray, List.set_cons_zero, List.set_cons_succ]
      refine wpAnyH_ready (rs := [1]) (by kernel_rfl) (by simp) ?_
      refine AllReadyH.cons rfl (fun K hK => ?_) AllReadyH.nil
      go_simp
      refine (K8.out _).mono ?_
      rintro e1 q1 ⟨rfl, hbq1⟩
      have hSq1 : Below wr.heap.size wr q1 := (hS0).trans (hbq1.mono (hS0).size)
      go_wp2_with fail
      refine hK.out _ _ hSq1 (fun _ => ?_)
      clear hK K
      try simp only [List.setIfInBounds_toArray, List.set_cons_zero, List.set_cons_succ]
      refine wpAnyH_ready (rs := [2]) (by kernel_rfl) (by simp) ?_
      refine AllReadyH.cons rfl (fun K hK => ?_) AllReadyH.nil
      go_simp
      refine (K7.out _).mono ?_
      rintro e1 q2 ⟨rfl, hbq2⟩
      have hSq2 : Below wr.heap.size wr q2 := (hSq1).trans (hbq2.mono (hSq1).size)
      go_wp2_with fail
      refine hK.out _ _ hSq2 (fun _ => ?_)
      clear hK K
      try simp only [List.setIfInBounds_toArray, List.set_cons_zero, List.set_cons_succ]
      refine wpAnyH_ready (rs := [4]) (by kernel_rfl) (by simp) ?_
      refine AllReadyH.cons rfl (fun K hK => ?_) AllReadyH.nil
      go_simp
      refine (K9.out _).mono ?_
      rintro e1 q3 ⟨rfl, hbq3⟩
      have hSq3 : Below wr.heap.size wr q3 := (hSq2).trans (hbq3.mono (hSq2).size)
      go_wp2_with fail
      refine hK.out _ _ hSq3 (fun _ => ?_)
      clear hK K
      try simp only [List.setIfInBounds_toArray, List.set_cons_zero, List.set_cons_succ]
      refine takeH_at 5 43 (.bool true) rfl rfl (by kernel_rfl) (by kernel_rfl) (by kernel_rfl) (fun _ _ _ h => h) (hSq3) (Or.inl ⟨by kernel_rfl, fun w' hS' => by go_simp⟩) ?_
      simp only [List.setIfInBounds_toArray, List.set_cons_zero, List.set_cons_succ]
      refine takeH_at 6 44 (.bool true) rfl rfl (by kernel_rfl) (by kernel_rfl) (by kernel_rfl) (fun _ _ _ h => h) (hSq3) (Or.inl ⟨by kernel_rfl, fun w' hS' => by go_simp⟩) ?_
      simp only [List.setIfInBounds_toArray, List.set_cons_zero, List.set_cons_succ]
      refine takeH_at 7 45 (.agg L.toArray) rfl rfl (by kernel_rfl) (by kernel_rfl) (by kernel_rfl) (fun _ _ _ h => h) (hSq3) (yieldsIf_load_mid (by kernel_rfl) 36 (.tmp 3) rfl (w.heap.size + 1) 0 rfl L _ (fun u hu => g36.out u hu) Try.underlying36 rfl (by rw [HLl.out]; exact size36)) ?_
      simp only [List.setIfInBounds_toArray, List.set_cons_zero, List.set_cons_succ]
      refine takeH_at 9 47 (.agg L.toArray) rfl rfl (by kernel_rfl) (by kernel_rfl) (by kernel_rfl) (fun _ _ _ h => h) (hSq3) (yieldsIf_load_mid (by kernel_rfl) 36 (.tmp 3) rfl (w.heap.size + 1) 0 rfl L _ (fun u hu => g36.out u hu) Try.underlying36 rfl (by rw [HLl.out]; exact size36)) ?_
      simp only [List.setIfInBounds_toArray, List.set_cons_zero, List.set_cons_succ]
      refine wpAnyH_ready (rs := [8]) (by kernel_rfl) (by simp) ?_
      refine AllReadyH.cons rfl (fun K hK => ?_) AllReadyH.nil
      rw [if_pos (by kernel_rfl)]
      go_simp
      refine (K11.out _).mono ?_
      rintro e1 q4 ⟨rfl, hbq4⟩
      have hSq4 : Below wr.heap.size wr q4 := (hSq3).trans (hbq4.mono (hSq3).size)
      go_wp2_with fail
      refine hK.out _ _ hSq4 (fun _ => ?_)
      clear hK K
      try simp only [List.setIfInBounds_toArray, List.set_cons_zero, List.set_cons_succ]
      refine wpAnyH_ready (rs := [10]) (by kernel_rfl) (by simp) ?_
      refine AllReadyH.cons rfl (fun K hK => ?_) AllReadyH.nil
      rw [if_pos (by kernel_rfl)]
      go_simp
      refine (K10.out _).mono ?_
      rintro e1 q5 ⟨rfl, hbq5⟩
      have hSq5 : Below wr.heap.size wr q5 := (hSq4).trans (hbq5.mono (hSq4).size)
      go_wp2_with fail
      refine hK.out _ _ hSq5 (fun _ => ?_)
      clear hK K
      try simp only [List.setIfInBounds_toArray, List.set_cons_zero, List.set_cons_succ]
      refine takeH_at 11 49 (.bool true) rfl rfl (by kernel_rfl) (by kernel_rfl) (by kernel_rfl) (fun _ _ _ h => h) (hSq5) (Or.inl ⟨by kernel_rfl, fun w' hS' => by go_simp⟩) ?_
      simp only [List.setIfInBounds_toArray, List.set_cons_zero, List.set_cons_succ]
      refine takeH_at 12 2 (.bool true) rfl rfl (by kernel_rfl) (by kernel_rfl) (by kernel_rfl) (fun _ _ _ h => h) (hSq5) (Or.inl ⟨by kernel_rfl, fun w' hS' => by go_simp⟩) ?_
      simp only [List.setIfInBounds_toArray, List.set_cons_zero, List.set_cons_succ]
      refine wpAnyH_done (by kernel_rfl) ?_ _
      refine NoPanic.normal ?_
      go_wp2_with fail
      go_ret
      exact ⟨rfl, H4.out.2.2.1.trans (hSq5.mono (by have := H4.out.2.2.2; omega))⟩
end Go.Proofs.Ytdhfnehmbambpaa
