import Derived.Test.YtnkpngpjlkkkbaaBtk
import Derived.Test.YtnkpngpjlkkkbaaTimes
namespace Go.Proofs.Ytnkpngpjlkkkbaa
open Go.RowKit Go.Proofs.Ytnkpngpjlkkkbaa.Fld
set_option linter.unusedVariables false
set_option linter.unusedSimpArgs false
theorem chain3 (w : World) (A B C : Obj) : Below w.heap.size w (((w.alloc A).alloc B).alloc C) ∧ (((w.alloc A).alloc B).alloc C).heap[w.heap.size]? = some A ∧ (((w.alloc A).alloc B).alloc C).heap[w.heap.size + 1]? = some B ∧ (((w.alloc A).alloc B).alloc C).heap[w.heap.size + 2]? = some C ∧ (((w.alloc A).alloc B).alloc C).heap.size = w.heap.size + 3 := by
  refine ⟨(((Below.refl _ _).alloc (Nat.le_refl _) _).alloc (by simp) _).alloc (by simp <;> omega) _, ?_, ?_, ?_, by simp⟩
  · rw [Below.heap_alloc _ _ _ (by simp <;> omega), Below.heap_alloc _ _ _ (by simp)]
    exact heap_alloc_new w A
  · rw [Below.heap_alloc _ _ _ (by simp)]
    have q := heap_alloc_new (w.alloc A) B
    simpa using q
  · have q := heap_alloc_new ((w.alloc A).alloc B) C
    simpa using q
theorem red_tx {c0 : Nat → Bool} (u : World) (g gp : Nat) (h : RowC u g 255 255 c0) (hne : gp ≠ g) (hp : u.heap[gp]? = some (.cells #[.int .i64 7, .int .i64 2, .int .i64 1, .int .i64 0] 3 (0, 0))) : Calls Try.prog 28 #[.slice (some ⟨g, 0, none⟩) 255 255, .slice (some ⟨gp, 0, none⟩) 4 4] u fun e w' => Hid (e = .returned (.slice (some ⟨g, 0, none⟩) 128 255) ∧ (∃ c, RowC w' g 255 255 c ∧ ∀ j, j < 128 → c j = (ev TX c0 255).getLsbD j) ∧ On u w' g) :=
  reduced_ok TX TX_cyc pX (fun k hk => by match k, hk with | 0, _ => decide | 1, _ => decide | 2, _ => decide | 3, _ => decide) TX_mod c0 g 255 255 gp 4 u (by decide) (by decide) h hne (fun k hk => by
    rw [World.cell?, hp]
    match k, hk with | 0, _ => rfl | 1, _ => rfl | 2, _ => rfl | 3, _ => rfl)
theorem tms_end {w w2 v w7 w8 : World} {n : Nat} (b1 : Below w.heap.size w w2) (hz : w2.heap[w.heap.size + 2]? = some (.cells #[.int .u8 0, .int .u8 0, .int .u8 0, .int .u8 0, .int .u8 0, .int .u8 0, .int .u8 0, .int .u8 0, .int .u8 0, .int .u8 0, .int .u8 0, .int .u8 0, .int .u8 0, .int .u8 0, .int .u8 0, .int .u8 0] 23 (0, 0))) (bv : Below w2.heap.size w2 v) (b7 : Below v.heap.size v w7) (b8 : Below w7.heap.size w7 w8) (hn : n = 16) : w8.there (w.heap.size + 2) 0 n ∧ Below w.heap.size w w8 := by
  have l0 := heap_lt hz
  have l1 := bv.size
  have l2 := b7.size
  have l3 := b1.size
  refine ⟨?_, b1.trans ((bv.mono l3).trans ((b7.mono (by omega)).trans (b8.mono (by omega))))⟩
  rw [hn]
  refine there_of (cs := #[.int .u8 0, .int .u8 0, .int .u8 0, .int .u8 0, .int .u8 0, .int .u8 0, .int .u8 0, .int .u8 0, .int .u8 0, .int .u8 0, .int .u8 0, .int .u8 0, .int .u8 0, .int .u8 0, .int .u8 0, .int .u8 0]) (t := 23) ?_ (Nat.le_refl _)
  rw [b8.block _ (by omega), b7.block _ (by omega), bv.block _ l0]
  exact hz
set_option maxHeartbeats 6400000 in
set_option maxRecDepth 100000 in
/-- cofferref03.Times. -/
theorem rtimes_ok (a b : BitVec 128) (w : World) : Calls Try.prog 13 #[BV a, BV b] w fun e w' => Hid (e = .returned (BV (rv (M TX (rv a) (rv b)))) ∧ Below w.heap.size w w') := by
  have HC := chain3 w (.cells (BL a).toArray 23) (.cells (BL b).toArray 23) (.cells #[.int .u8 0, .int .u8 0, .int .u8 0, .int .u8 0, .int .u8 0, .int .u8 0, .int .u8 0, .int .u8 0, .int .u8 0, .int .u8 0, .int .u8 0, .int .u8 0, .int .u8 0, .int .u8 0, .int .u8 0, .int .u8 0] 23)
  have e0 : (((w.alloc (.cells (BL a).toArray 23)).alloc (.cells (BL b).toArray 23)).alloc (.cells #[.int .u8 0, .int .u8 0, .int .u8 0, .int .u8 0, .int .u8 0, .int .u8 0, .int .u8 0, .int .u8 0, .int .u8 0, .int .u8 0, .int .u8 0, .int .u8 0, .int .u8 0, .int .u8 0, .int .u8 0, .int .u8 0] 23)) = ((w.alloc (.cells #[.int .u8 (byV a 0 : Nat), .int .u8 (byV a 1 : Nat), .int .u8 (byV a 2 : Nat), .int .u8 (byV a 3 : Nat), .int .u8 (byV a 4 : Nat), .int .u8 (byV a 5 : Nat), .int .u8 (byV a 6 : Nat), .int .u8 (byV a 7 : Nat), .int .u8 (byV a 8 : Nat), .int .u8 (byV a 9 : Nat), .int .u8 (byV a 10 : Nat), .int .u8 (byV a 11 : Nat), .int .u8 (byV a 12 : Nat), .int .u8 (byV a 13 : Nat), .int .u8 (byV a 14 : Nat), .int .u8 (byV a 15 : Nat)] 23)).alloc (.cells #[.int .u8 (byV b 0 : Nat), .int .u8 (byV b 1 : Nat), .int .u8 (byV b 2 : Nat), .int .u8 (byV b 3 : Nat), .int .u8 (byV b 4 : Nat), .int .u8 (byV b 5 : Nat), .int .u8 (byV b 6 : Nat), .int .u8 (byV b 7 : Nat), .int .u8 (byV b 8 : Nat), .int .u8 (byV b 9 : Nat), .int .u8 (byV b 10 : Nat), .int .u8 (byV b 11 : Nat), .int .u8 (byV b 12 : Nat), .int .u8 (byV b 13 : Nat), .int .u8 (byV b 14 : Nat), .int .u8 (byV b 15 : Nat)] 23)).alloc (.cells #[.int .u8 0, .int .u8 0, .int .u8 0, .int .u8 0, .int .u8 0, .int .u8 0, .int .u8 0, .int .u8 0, .int .u8 0, .int .u8 0, .int .u8 0, .int .u8 0, .int .u8 0, .int .u8 0, .int .u8 0, .int .u8 0] 23) := rfl
  obtain ⟨La, HLa⟩ : ∃ L, Hid (L = BL a) := ⟨_, rfl⟩
  obtain ⟨Lb, HLb⟩ : ∃ L, Hid (L = BL b) := ⟨_, rfl⟩
  obtain ⟨Lra, HLra⟩ : ∃ L, Hid (L = BL (rv a)) := ⟨_, rfl⟩
  obtain ⟨Lrb, HLrb⟩ : ∃ L, Hid (L = BL (rv b)) := ⟨_, rfl⟩
  obtain ⟨L1, HL1⟩ : ∃ L, Hid (L = BL (M TX (rv a) (rv b))) := ⟨_, rfl⟩
  obtain ⟨L2, HL2⟩ : ∃ L, Hid (L = BL (rv (M TX (rv a) (rv b)))) := ⟨_, rfl⟩
  have HLl2 : Hid (L2.length = 16) := by show _ = _; rw [HL2.out]; rfl
  have HLo2 : Hid (L2.toArray.all (·.oneCell') = true) := by show _ = _; rw [HL2.out]; exact BL_one _
  have hla : Hid ((Try.prog.info? 23).map (·.size) = some La.length) := by show _ = _; rw [HLa.out]; exact size23
  have hlb : Hid ((Try.prog.info? 23).map (·.size) = some Lb.length) := by show _ = _; rw [HLb.out]; exact size23
  have K30a : Hid (∀ u, Calls Try.prog 30 #[.agg La.toArray] u fun e w' => e = .returned (.agg Lra.toArray) ∧ Below u.heap.size u w') := fun u => by rw [HLa.out, HLra.out]; exact rturned_ok a u
  have K30b : Hid (∀ u, Calls Try.prog 30 #[.agg Lb.toArray] u fun e w' => e = .returned (.agg Lrb.toArray) ∧ Below u.heap.size u w') := fun u => by rw [HLb.out, HLrb.out]; exact rturned_ok b u
  have K30y : Hid (∀ u, Calls Try.prog 30 #[.agg L1.toArray] u fun e w' => e = .returned (.agg L2.toArray) ∧ Below u.heap.size u w') := fun u => by rw [HL1.out, HL2.out]; exact rturned_ok _ u
  have K26a : Hid (∀ u, Calls Try.prog 26 #[.agg Lra.toArray] u fun e w' => Hid (∃ g cap, e = .returned (.slice (some ⟨g, 0, none⟩) 128 cap) ∧ w'.ownsRow u.heap.size 3 1 (.slice (some ⟨g, 0, none⟩) 128 cap) 128 (ci (rv a).getLsbD 128) ∧ Below u.heap.size u w')) := fun u => by rw [show Value.agg Lra.toArray = BV (rv a) by rw [HLra.out]; rfl]; exact rlittle_ok _ u
  have K26b : Hid (∀ u, Calls Try.prog 26 #[.agg Lrb.toArray] u fun e w' => Hid (∃ g cap, e = .returned (.slice (some ⟨g, 0, none⟩) 128 cap) ∧ w'.ownsRow u.heap.size 3 1 (.slice (some ⟨g, 0, none⟩) 128 cap) 128 (ci (rv b).getLsbD 128) ∧ Below u.heap.size u w')) := fun u => by rw [show Value.agg Lrb.toArray = BV (rv b) by rw [HLrb.out]; rfl]; exact rlittle_ok _ u
  unfold BV
  go_enter Try.func13, Try.ntmps13
  go_upto_region 1 with fail
  rw [← e0]
  clear e0
  generalize (((w.alloc (.cells (BL a).toArray 23)).alloc (.cells (BL b).toArray 23)).alloc (.cells #[.int .u8 0, .int .u8 0, .int .u8 0, .int .u8 0, .int .u8 0, .int .u8 0, .int .u8 0, .int .u8 0, .int .u8 0, .int .u8 0, .int .u8 0, .int .u8 0, .int .u8 0, .int .u8 0, .int .u8 0, .int .u8 0] 23)) = w2 at HC ⊢
  have HD : Hid (Below w.heap.size w w2 ∧ w2.rangeAt w.heap.size 0 La ∧ w2.rangeAt (w.heap.size + 1) 0 Lb ∧ w2.heap[w.heap.size + 2]? = some (.cells #[.int .u8 0, .int .u8 0, .int .u8 0, .int .u8 0, .int .u8 0, .int .u8 0, .int .u8 0, .int .u8 0, .int .u8 0, .int .u8 0, .int .u8 0, .int .u8 0, .int .u8 0, .int .u8 0, .int .u8 0, .int .u8 0] 23 (0, 0)) ∧ w2.heap.size = w.heap.size + 3) := ⟨HC.1, by rw [HLa.out]; exact range_of HC.2.1, by rw [HLb.out]; exact range_of HC.2.2.1, HC.2.2.2.1, HC.2.2.2.2⟩
  clear HC
  have Ga : Hid (∀ u, Below w2.heap.size w2 u → u.rangeAt w.heap.size 0 La) := fun u hu => range_below HD.out.2.1 hu (by rw [HD.out.2.2.2.2]; omega)
  have Gb : Hid (∀ u, Below w2.heap.size w2 u → u.rangeAt (w.heap.size + 1) 0 Lb) := fun u hu => range_below HD.out.2.2.1 hu (by rw [HD.out.2.2.2.2]; omega)
  have hS0 : Below w2.heap.size w2 w2.drew := (Below.refl _ _).drew
  refine wp_region_noPanic ?_
  refine wp_region_held_drew (S := fun u => Below w2.heap.size w2 u) (by kernel_rfl) (hS0) (fun _ => ?_)
  refine takeH_at 0 6 (.agg La.toArray) rfl rfl (by kernel_rfl) (by kernel_rfl) (by kernel_rfl) (fun _ _ _ h => h) hS0 (yieldsIf_load_mid (by kernel_rfl) 23 (.tmp 2) rfl w.heap.size 0 rfl La _ (fun u hu => Ga.out u hu) Try.underlying23 rfl hla.out) ?_
  simp only [List.setIfInBounds_toArray, List.set_cons_zero, List.set_cons_succ]
  refine takeH_at 3 9 (.agg Lb.toArray) rfl rfl (by kernel_rfl) (by kernel_rfl) (by kernel_rfl) (fun _ _ _ h => h) hS0 (yieldsIf_load_mid (by kernel_rfl) 23 (.tmp 3) rfl (w.heap.size + 1) 0 rfl Lb _ (fun u hu => Gb.out u hu) Try.underlying23 rfl hlb.out) ?_
  simp only [List.setIfInBounds_toArray, List.set_cons_zero, List.set_cons_succ]
  generalize w2.drew = u0 at hS0 ⊢
  refine wpAnyH_ready (rs := [1, 7]) (by kernel_rfl) (by simp) ?_
  refine AllReadyH.cons rfl (fun K hK => ?_) (AllReadyH.cons rfl (fun K hK => ?_) AllReadyH.nil)
  · skip
    go_simp
    refine (K30a.out _).mono ?_
    rintro e1 u1 ⟨rfl, hb1⟩
    have hS1 : Below w2.heap.size w2 u1 := (hS0).trans (hb1.mono (hS0).size)
    go_wp2_with fail
    refine hK.out _ _ hS1 (fun _ => ?_)
    clear hK K
    try simp only [List.setIfInBounds_toArray, List.set_cons_zero, List.set_cons_succ]
    refine wpAnyH_ready (rs := [2, 7]) (by kernel_rfl) (by simp) ?_
    refine AllReadyH.cons rfl (fun K hK => ?_) (AllReadyH.cons rfl (fun K hK => ?_) AllReadyH.nil)
    · skip
      go_simp
      refine (K26a.out _).mono ?_
      intro e1 u2 hh
      obtain ⟨gA, capA, rfl, ho2, hb2⟩ := hh.out
      clear hh
      have hS2 : Below w2.heap.size w2 u2 := (hS1).trans (hb2.mono (hS1).size)
      have fA_2 : RowC u2 gA capA 128 (rv a).getLsbD := RowC.of_owns ho2 (by decide)
      go_wp2_with fail
      refine hK.out _ _ hS2 (fun _ => ?_)
      clear hK K
      try simp only [List.setIfInBounds_toArray, List.set_cons_zero, List.set_cons_succ]
      refine wpAnyH_ready (rs := [4, 7]) (by kernel_rfl) (by simp) ?_
      refine AllReadyH.cons rfl (fun K hK => ?_) (AllReadyH.cons rfl (fun K hK => ?_) AllReadyH.nil)
      · skip
        go_simp
        refine (K30b.out _).mono ?_
        rintro e1 u3 ⟨rfl, hb3⟩
        have hS3 : Below w2.heap.size w2 u3 := (hS2).trans (hb3.mono (hS2).size)
        have fA_3 : RowC u3 gA capA 128 (rv a).getLsbD := fA_2.same (hb3.block _ fA_2.lt)
        go_wp2_with fail
        refine hK.out _ _ hS3 (fun _ => ?_)
        clear hK K
        try simp only [List.setIfInBounds_toArray, List.set_cons_zero, List.set_cons_succ]
        refine wpAnyH_ready (rs := [5, 7]) (by kernel_rfl) (by simp) ?_
        refine AllReadyH.cons rfl (fun K hK => ?_) (AllReadyH.cons rfl (fun K hK => ?_) AllReadyH.nil)
        · skip
          go_simp
          refine (K26b.out _).mono ?_
          intro e1 u4 hh
          obtain ⟨gB, capB, rfl, ho4, hb4⟩ := hh.out
          clear hh
          have hS4 : Below w2.heap.size w2 u4 := (hS3).trans (hb4.mono (hS3).size)
          have fA_4 : RowC u4 gA capA 128 (rv a).getLsbD := fA_3.same (hb4.block _ fA_3.lt)
          have fB_4 : RowC u4 gB capB 128 (rv b).getLsbD := RowC.of_owns ho4 (by decide)
          go_wp2_with fail
          refine hK.out _ _ hS4 (fun _ => ?_)
          clear hK K
          try simp only [List.setIfInBounds_toArray, List.set_cons_zero, List.set_cons_succ]
          refine wpAnyH_ready (rs := [6, 7]) (by kernel_rfl) (by simp) ?_
          refine AllReadyH.cons rfl (fun K hK => ?_) (AllReadyH.cons rfl (fun K hK => ?_) AllReadyH.nil)
          · skip
            go_simp
            refine (product_ok (rv a) (rv b) gA gB capA capB u4 fA_4.lt fB_4.lt (fA_4.bits (by decide) (fun _ _ => rfl)) (fB_4.bits (by decide) (fun _ _ => rfl))).mono ?_
            intro e1 u5 hh
            obtain ⟨rfl, hr5, hb5⟩ := hh.out
            clear hh
            have hS5 : Below w2.heap.size w2 u5 := (hS4).trans (hb5.mono (hS4).size)
            have fA_5 : RowC u5 gA capA 128 (rv a).getLsbD := fA_4.same (hb5.block _ fA_4.lt)
            have fB_5 : RowC u5 gB capB 128 (rv b).getLsbD := fB_4.same (hb5.block _ fB_4.lt)
            have hgP : w2.heap.size ≤ u4.heap.size := (hS4).size
            go_wp2_with fail
            refine hK.out _ _ hS5 (fun _ => ?_)
            clear hK K
            try simp only [List.setIfInBounds_toArray, List.set_cons_zero, List.set_cons_succ]
            refine wpAnyH_ready (rs := [7]) (by kernel_rfl) (by simp) ?_
            refine AllReadyH.cons rfl (fun K hK => ?_) AllReadyH.nil
            go_simp
            have hS6 : Below w2.heap.size w2 (World.alloc u5 (.cells #[.int .i64 7, .int .i64 2, .int .i64 1, .int .i64 0] 3)) := (hS5).alloc (hS5).size _
            have fA_6 : RowC (World.alloc u5 (.cells #[.int .i64 7, .int .i64 2, .int .i64 1, .int .i64 0] 3)) gA capA 128 (rv a).getLsbD := fA_5.same (Below.heap_alloc _ _ _ fA_5.lt)
            have fB_6 : RowC (World.alloc u5 (.cells #[.int .i64 7, .int .i64 2, .int .i64 1, .int .i64 0] 3)) gB capB 128 (rv b).getLsbD := fB_5.same (Below.heap_alloc _ _ _ fB_5.lt)
            have fP_6 : RowC (World.alloc u5 (.cells #[.int .i64 7, .int .i64 2, .int .i64 1, .int .i64 0] 3)) u4.heap.size 255 255 (prd (rv a) (rv b) 128) := hr5.same (Below.heap_alloc _ _ _ hr5.lt)
            have fW_6 := heap_alloc_new u5 (.cells #[.int .i64 7, .int .i64 2, .int .i64 1, .int .i64 0] 3)
            have hne : u5.heap.size ≠ u4.heap.size := (Nat.ne_of_lt hr5.lt).symm
            refine hK.out _ _ hS6 (fun _ => ?_)
            clear hK K
            try simp only [List.setIfInBounds_toArray, List.set_cons_zero, List.set_cons_succ]
            generalize World.alloc u5 (.cells #[.int .i64 7, .int .i64 2, .int .i64 1, .int .i64 0] 3) = u6 at *
            refine wpAnyH_ready (rs := [8]) (by kernel_rfl) (by simp) ?_
            refine AllReadyH.cons rfl (fun K hK => ?_) AllReadyH.nil
            go_simp
            refine (red_tx u6 u4.heap.size u5.heap.size fP_6 hne fW_6).mono ?_
            intro e1 u7 hh
            obtain ⟨rfl, ⟨c6, hr6, hc6⟩, on6⟩ := hh.out
            clear hh
            have hb7 : Below w2.heap.size u6 u7 := on6.below hgP
            have hS7 : Below w2.heap.size w2 u7 := (hS6).trans hb7
            go_wp2_with fail
            refine hK.out _ _ hS7 (fun _ => ?_)
            clear hK K
            try simp only [List.setIfInBounds_toArray, List.set_cons_zero, List.set_cons_succ]
            refine takeH_at 9 5 (.slice (some ⟨u4.heap.size, 0, none⟩) 128 255) rfl rfl (by kernel_rfl) (by kernel_rfl) (by kernel_rfl) (fun _ _ _ h => h) (hS7) (Or.inl ⟨by rfl, fun w' hS' => by go_simp⟩) ?_
            simp only [List.setIfInBounds_toArray, List.set_cons_zero, List.set_cons_succ]
            refine wpAnyH_done (by kernel_rfl) ?_ _
            refine NoPanic.normal ?_
            have HV : Hid (BitsAt u7 u4.heap.size 0 (M TX (rv a) (rv b)) ∧ u4.heap.size < u7.heap.size ∧ Below w2.heap.size w2 u7) := ⟨hr6.bits (by decide) (fun j hj => by rw [hc6 j hj, ev_product TX_cyc]), hr6.lt, hS7⟩
            have H27 : Hid (Calls Try.prog 27 #[.slice (some ⟨u4.heap.size, 0, none⟩) 128 255] u7 fun e w' => Hid (e = .returned (.agg L1.toArray) ∧ Below (u7).heap.size u7 w')) := by
              have q := rfrom_ok (M TX (rv a) (rv b)) u4.heap.size 0 128 255 u7 (Nat.le_refl _) HV.out.2.1 HV.out.1
              rw [show BV (M TX (rv a) (rv b)) = .agg L1.toArray by rw [HL1.out]; rfl] at q
              exact q
            go_wp2_with (first
              | (go_at_call 27; refine H27.out.mono ?_; intro e7 w7 hh; obtain ⟨rfl, hb7⟩ := hh.out; clear hh)
              | (go_at_call 30; refine (K30y.out w7).mono ?_; intro e8 w8 hh; obtain ⟨rfl, hb8⟩ := hh; have HW8 : Hid (w8.there (w.heap.size + 2) 0 L2.length ∧ Below w.heap.size w w8) := tms_end HD.out.1 HD.out.2.2.2.1 HV.out.2.2 hb7 hb8 HLl2.out; clear hb7 hb8)
              | (refine wpList_store_mid (by rfl) 23 (.tmp 4) (.tmp 17) (by rfl) (w.heap.size + 2) 0 L2.toArray (by rfl) (by rfl) (by simpa using HW8.out.1) (by rw [List.size_toArray, HLl2.out]; exact size23) HLo2.out ?_))
            refine ret_array L2 Try.results13 rfl (World.rangeAt_setCells_same _ _ _ _ HW8.out.1) Try.underlying23 rfl (by rw [HLl2.out]; exact size23) ⟨?_, belowB_setCells _ (by omega) _ _ _ HW8.out.2⟩
            rw [HL2.out]
            rfl
          · skip
            go_simp
            have hS8 : Below w2.heap.size w2 (World.alloc u4 (.cells #[.int .i64 7, .int .i64 2, .int .i64 1, .int .i64 0] 3)) := (hS4).alloc (hS4).size _
            have fA_8 : RowC (World.alloc u4 (.cells #[.int .i64 7, .int .i64 2, .int .i64 1, .int .i64 0] 3)) gA capA 128 (rv a).getLsbD := fA_4.same (Below.heap_alloc _ _ _ fA_4.lt)
            have fB_8 : RowC (World.alloc u4 (.cells #[.int .i64 7, .int .i64 2, .int .i64 1, .int .i64 0] 3)) gB capB 128 (rv b).getLsbD := fB_4.same (Below.heap_alloc _ _ _ fB_4.lt)
            have fW_8 := heap_alloc_new u4 (.cells #[.int .i64 7, .int .i64 2, .int .i64 1, .int .i64 0] 3)
            refine hK.out _ _ hS8 (fun _ => ?_)
            clear hK K
            try simp only [List.setIfInBounds_toArray, List.set_cons_zero, List.set_cons_succ]
            generalize World.alloc u4 (.cells #[.int .i64 7, .int .i64 2, .int .i64 1, .int .i64 0] 3) = u8 at *
            refine wpAnyH_ready (rs := [6]) (by kernel_rfl) (by simp) ?_
            refine AllReadyH.cons rfl (fun K hK => ?_) AllReadyH.nil
            go_simp
            refine (product_ok (rv a) (rv b) gA gB capA capB u8 fA_8.lt fB_8.lt (fA_8.bits (by decide) (fun _ _ => rfl)) (fB_8.bits (by decide) (fun _ _ => rfl))).mono ?_
            intro e1 u9 hh
            obtain ⟨rfl, hr9, hb9⟩ := hh.out
            clear hh
            have hS9 : Below w2.heap.size w2 u9 := (hS8).trans (hb9.mono (hS8).size)
            have fA_9 : RowC u9 gA capA 128 (rv a).getLsbD := fA_8.same (hb9.block _ fA_8.lt)
            have fB_9 : RowC u9 gB capB 128 (rv b).getLsbD := fB_8.same (hb9.block _ fB_8.lt)
            have fW_9 : u9.heap[u4.heap.size]? = some (.cells #[.int .i64 7, .int .i64 2, .int .i64 1, .int .i64 0] 3 (0, 0)) := (hb9.block _ (heap_lt fW_8)).trans fW_8
            have hgP : w2.heap.size ≤ u8.heap.size := (hS8).size
            have hne : u4.heap.size ≠ u8.heap.size := Nat.ne_of_lt (heap_lt fW_8)
            go_wp2_with fail
            refine hK.out _ _ hS9 (fun _ => ?_)
            clear hK K
            try simp only [List.setIfInBounds_toArray, List.set_cons_zero, List.set_cons_succ]
            refine wpAnyH_ready (rs := [8]) (by kernel_rfl) (by simp) ?_
            refine AllReadyH.cons rfl (fun K hK => ?_) AllReadyH.nil
            go_simp
            refine (red_tx u9 u8.heap.size u4.heap.size hr9 hne fW_9).mono ?_
            intro e1 u10 hh
            obtain ⟨rfl, ⟨c6, hr6, hc6⟩, on6⟩ := hh.out
            clear hh
            have hb10 : Below w2.heap.size u9 u10 := on6.below hgP
            have hS10 : Below w2.heap.size w2 u10 := (hS9).trans hb10
            go_wp2_with fail
            refine hK.out _ _ hS10 (fun _ => ?_)
            clear hK K
            try simp only [List.setIfInBounds_toArray, List.set_cons_zero, List.set_cons_succ]
            refine takeH_at 9 5 (.slice (some ⟨u8.heap.size, 0, none⟩) 128 255) rfl rfl (by kernel_rfl) (by kernel_rfl) (by kernel_rfl) (fun _ _ _ h => h) (hS10) (Or.inl ⟨by rfl, fun w' hS' => by go_simp⟩) ?_
            simp only [List.setIfInBounds_toArray, List.set_cons_zero, List.set_cons_succ]
            refine wpAnyH_done (by kernel_rfl) ?_ _
            refine NoPanic.normal ?_
            have HV : Hid (BitsAt u10 u8.heap.size 0 (M TX (rv a) (rv b)) ∧ u8.heap.size < u10.heap.size ∧ Below w2.heap.size w2 u10) := ⟨hr6.bits (by decide) (fun j hj => by rw [hc6 j hj, ev_product TX_cyc]), hr6.lt, hS10⟩
            have H27 : Hid (Calls Try.prog 27 #[.slice (some ⟨u8.heap.size, 0, none⟩) 128 255] u10 fun e w' => Hid (e = .returned (.agg L1.toArray) ∧ Below (u10).heap.size u10 w')) := by
              have q := rfrom_ok (M TX (rv a) (rv b)) u8.heap.size 0 128 255 u10 (Nat.le_refl _) HV.out.2.1 HV.out.1
              rw [show BV (M TX (rv a) (rv b)) = .agg L1.toArray by rw [HL1.out]; rfl] at q
              exact q
            go_wp2_with (first
              | (go_at_call 27; refine H27.out.mono ?_; intro e7 w7 hh; obtain ⟨rfl, hb7⟩ := hh.out; clear hh)
              | (go_at_call 30; refine (K30y.out w7).mono ?_; intro e8 w8 hh; obtain ⟨rfl, hb8⟩ := hh; have HW8 : Hid (w8.there (w.heap.size + 2) 0 L2.length ∧ Below w.heap.size w w8) := tms_end HD.out.1 HD.out.2.2.2.1 HV.out.2.2 hb7 hb8 HLl2.out; clear hb7 hb8)
              | (refine wpList_store_mid (by rfl) 23 (.tmp 4) (.tmp 17) (by rfl) (w.heap.size + 2) 0 L2.toArray (by rfl) (by rfl) (by simpa using HW8.out.1) (by rw [List.size_toArray, HLl2.out]; exact size23) HLo2.out ?_))
            refine ret_array L2 Try.results13 rfl (World.rangeAt_setCells_same _ _ _ _ HW8.out.1) Try.underlying23 rfl (by rw [HLl2.out]; exact size23) ⟨?_, belowB_setCells _ (by omega) _ _ _ HW8.out.2⟩
            rw [HL2.out]
            rfl
        · skip
          go_simp
          have hS11 : Below w2.heap.size w2 (World.alloc u3 (.cells #[.int .i64 7, .int .i64 2, .int .i64 1, .int .i64 0] 3)) := (hS3).alloc (hS3).size _
          have fA_11 : RowC (World.alloc u3 (.cells #[.int .i64 7, .int .i64 2, .int .i64 1, .int .i64 0] 3)) gA capA 128 (rv a).getLsbD := fA_3.same (Below.heap_alloc _ _ _ fA_3.lt)
          have fW_11 := heap_alloc_new u3 (.cells #[.int .i64 7, .int .i64 2, .int .i64 1, .int .i64 0] 3)
          refine hK.out _ _ hS11 (fun _ => ?_)
          clear hK K
          try simp only [List.setIfInBounds_toArray, List.set_cons_zero, List.set_cons_succ]
          generalize World.alloc u3 (.cells #[.int .i64 7, .int .i64 2, .int .i64 1, .int .i64 0] 3) = u11 at *
          refine wpAnyH_ready (rs := [5]) (by kernel_rfl) (by simp) ?_
          refine AllReadyH.cons rfl (fun K hK => ?_) AllReadyH.nil
          go_simp
          refine (K26b.out _).mono ?_
          intro e1 u12 hh
          obtain ⟨gB, capB, rfl, ho12, hb12⟩ := hh.out
          clear hh
          have hS12 : Below w2.heap.size w2 u12 := (hS11).trans (hb12.mono (hS11).size)
          have fA_12 : RowC u12 gA capA 128 (rv a).getLsbD := fA_11.same (hb12.block _ fA_11.lt)
          have fW_12 : u12.heap[u3.heap.size]? = some (.cells #[.int .i64 7, .int .i64 2, .int .i64 1, .int .i64 0] 3 (0, 0)) := (hb12.block _ (heap_lt fW_11)).trans fW_11
          have fB_12 : RowC u12 gB capB 128 (rv b).getLsbD := RowC.of_owns ho12 (by decide)
          go_wp2_with fail
          refine hK.out _ _ hS12 (fun _ => ?_)
          clear hK K
          try simp only [List.setIfInBounds_toArray, List.set_cons_zero, List.set_cons_succ]
          refine wpAnyH_ready (rs := [6]) (by kernel_rfl) (by simp) ?_
          refine AllReadyH.cons rfl (fun K hK => ?_) AllReadyH.nil
          go_simp
          refine (product_ok (rv a) (rv b) gA gB capA capB u12 fA_12.lt fB_12.lt (fA_12.bits (by decide) (fun _ _ => rfl)) (fB_12.bits (by decide) (fun _ _ => rfl))).mono ?_
          intro e1 u13 hh
          obtain ⟨rfl, hr13, hb13⟩ := hh.out
          clear hh
          have hS13 : Below w2.heap.size w2 u13 := (hS12).trans (hb13.mono (hS12).size)
          have fA_13 : RowC u13 gA capA 128 (rv a).getLsbD := fA_12.same (hb13.block _ fA_12.lt)
          have fW_13 : u13.heap[u3.heap.size]? = some (.cells #[.int .i64 7, .int .i64 2, .int .i64 1, .int .i64 0] 3 (0, 0)) := (hb13.block _ (heap_lt fW_12)).trans fW_12
          have fB_13 : RowC u13 gB capB 128 (rv b).getLsbD := fB_12.same (hb13.block _ fB_12.lt)
          have hgP : w2.heap.size ≤ u12.heap.size := (hS12).size
          have hne : u3.heap.size ≠ u12.heap.size := Nat.ne_of_lt (heap_lt fW_12)
          go_wp2_with fail
          refine hK.out _ _ hS13 (fun _ => ?_)
          clear hK K
          try simp only [List.setIfInBounds_toArray, List.set_cons_zero, List.set_cons_succ]
          refine wpAnyH_ready (rs := [8]) (by kernel_rfl) (by simp) ?_
          refine AllReadyH.cons rfl (fun K hK => ?_) AllReadyH.nil
          go_simp
          refine (red_tx u13 u12.heap.size u3.heap.size hr13 hne fW_13).mono ?_
          intro e1 u14 hh
          obtain ⟨rfl, ⟨c6, hr6, hc6⟩, on6⟩ := hh.out
          clear hh
          have hb14 : Below w2.heap.size u13 u14 := on6.below hgP
          have hS14 : Below w2.heap.size w2 u14 := (hS13).trans hb14
          go_wp2_with fail
          refine hK.out _ _ hS14 (fun _ => ?_)
          clear hK K
          try simp only [List.setIfInBounds_toArray, List.set_cons_zero, List.set_cons_succ]
          refine takeH_at 9 5 (.slice (some ⟨u12.heap.size, 0, none⟩) 128 255) rfl rfl (by kernel_rfl) (by kernel_rfl) (by kernel_rfl) (fun _ _ _ h => h) (hS14) (Or.inl ⟨by rfl, fun w' hS' => by go_simp⟩) ?_
          simp only [List.setIfInBounds_toArray, List.set_cons_zero, List.set_cons_succ]
          refine wpAnyH_done (by kernel_rfl) ?_ _
          refine NoPanic.normal ?_
          have HV : Hid (BitsAt u14 u12.heap.size 0 (M TX (rv a) (rv b)) ∧ u12.heap.size < u14.heap.size ∧ Below w2.heap.size w2 u14) := ⟨hr6.bits (by decide) (fun j hj => by rw [hc6 j hj, ev_product TX_cyc]), hr6.lt, hS14⟩
          have H27 : Hid (Calls Try.prog 27 #[.slice (some ⟨u12.heap.size, 0, none⟩) 128 255] u14 fun e w' => Hid (e = .returned (.agg L1.toArray) ∧ Below (u14).heap.size u14 w')) := by
            have q := rfrom_ok (M TX (rv a) (rv b)) u12.heap.size 0 128 255 u14 (Nat.le_refl _) HV.out.2.1 HV.out.1
            rw [show BV (M TX (rv a) (rv b)) = .agg L1.toArray by rw [HL1.out]; rfl] at q
            exact q
          go_wp2_with (first
            | (go_at_call 27; refine H27.out.mono ?_; intro e7 w7 hh; obtain ⟨rfl, hb7⟩ := hh.out; clear hh)
            | (go_at_call 30; refine (K30y.out w7).mono ?_; intro e8 w8 hh; obtain ⟨rfl, hb8⟩ := hh; have HW8 : Hid (w8.there (w.heap.size + 2) 0 L2.length ∧ Below w.heap.size w w8) := tms_end HD.out.1 HD.out.2.2.2.1 HV.out.2.2 hb7 hb8 HLl2.out; clear hb7 hb8)
            | (refine wpList_store_mid (by rfl) 23 (.tmp 4) (.tmp 17) (by rfl) (w.heap.size + 2) 0 L2.toArray (by rfl) (by rfl) (by simpa using HW8.out.1) (by rw [List.size_toArray, HLl2.out]; exact size23) HLo2.out ?_))
          refine ret_array L2 Try.results13 rfl (World.rangeAt_setCells_same _ _ _ _ HW8.out.1) Try.underlying23 rfl (by rw [HLl2.out]; exact size23) ⟨?_, belowB_setCells _ (by omega) _ _ _ HW8.out.2⟩
          rw [HL2.out]
          rfl
      · skip
        go_simp
        have hS15 : Below w2.heap.size w2 (World.alloc u2 (.cells #[.int .i64 7, .int .i64 2, .int .i64 1, .int .i64 0] 3)) := (hS2).alloc (hS2).size _
        have fA_15 : RowC (World.alloc u2 (.cells #[.int .i64 7, .int .i64 2, .int .i64 1, .int .i64 0] 3)) gA capA 128 (rv a).getLsbD := fA_2.same (Below.heap_alloc _ _ _ fA_2.lt)
        have fW_15 := heap_alloc_new u2 (.cells #[.int .i64 7, .int .i64 2, .int .i64 1, .int .i64 0] 3)
        refine hK.out _ _ hS15 (fun _ => ?_)
        clear hK K
        try simp only [List.setIfInBounds_toArray, List.set_cons_zero, List.set_cons_succ]
        generalize World.alloc u2 (.cells #[.int .i64 7, .int .i64 2, .int .i64 1, .int .i64 0] 3) = u15 at *
        refine wpAnyH_ready (rs := [4]) (by kernel_rfl) (by simp) ?_
        refine AllReadyH.cons rfl (fun K hK => ?_) AllReadyH.nil
        go_simp
        refine (K30b.out _).mono ?_
        rintro e1 u16 ⟨rfl, hb16⟩
        have hS16 : Below w2.heap.size w2 u16 := (hS15).trans (hb16.mono (hS15).size)
        have fA_16 : RowC u16 gA capA 128 (rv a).getLsbD := fA_15.same (hb16.block _ fA_15.lt)
        have fW_16 : u16.heap[u2.heap.size]? = some (.cells #[.int .i64 7, .int .i64 2, .int .i64 1, .int .i64 0] 3 (0, 0)) := (hb16.block _ (heap_lt fW_15)).trans fW_15
        go_wp2_with fail
        refine hK.out _ _ hS16 (fun _ => ?_)
        clear hK K
        try simp only [List.setIfInBounds_toArray, List.set_cons_zero, List.set_cons_succ]
        refine wpAnyH_ready (rs := [5]) (by kernel_rfl) (by simp) ?_
        refine AllReadyH.cons rfl (fun K hK => ?_) AllReadyH.nil
        go_simp
        refine (K26b.out _).mono ?_
        intro e1 u17 hh
        obtain ⟨gB, capB, rfl, ho17, hb17⟩ := hh.out
        clear hh
        have hS17 : Below w2.heap.size w2 u17 := (hS16).trans (hb17.mono (hS16).size)
        have fA_17 : RowC u17 gA capA 128 (rv a).getLsbD := fA_16.same (hb17.block _ fA_16.lt)
        have fW_17 : u17.heap[u2.heap.size]? = some (.cells #[.int .i64 7, .int .i64 2, .int .i64 1, .int .i64 0] 3 (0, 0)) := (hb17.block _ (heap_lt fW_16)).trans fW_16
        have fB_17 : RowC u17 gB capB 128 (rv b).getLsbD := RowC.of_owns ho17 (by decide)
        go_wp2_with fail
        refine hK.out _ _ hS17 (fun _ => ?_)
        clear hK K
        try simp only [List.setIfInBounds_toArray, List.set_cons_zero, List.set_cons_succ]
        refine wpAnyH_ready (rs := [6]) (by kernel_rfl) (by simp) ?_
        refine AllReadyH.cons rfl (fun K hK => ?_) AllReadyH.nil
        go_simp
        refine (product_ok (rv a) (rv b) gA gB capA capB u17 fA_17.lt fB_17.lt (fA_17.bits (by decide) (fun _ _ => rfl)) (fB_17.bits (by decide) (fun _ _ => rfl))).mono ?_
        intro e1 u18 hh
        obtain ⟨rfl, hr18, hb18⟩ := hh.out
        clear hh
        have hS18 : Below w2.heap.size w2 u18 := (hS17).trans (hb18.mono (hS17).size)
        have fA_18 : RowC u18 gA capA 128 (rv a).getLsbD := fA_17.same (hb18.block _ fA_17.lt)
        have fW_18 : u18.heap[u2.heap.size]? = some (.cells #[.int .i64 7, .int .i64 2, .int .i64 1, .int .i64 0] 3 (0, 0)) := (hb18.block _ (heap_lt fW_17)).trans fW_17
        have fB_18 : RowC u18 gB capB 128 (rv b).getLsbD := fB_17.same (hb18.block _ fB_17.lt)
        have hgP : w2.heap.size ≤ u17.heap.size := (hS17).size
        have hne : u2.heap.size ≠ u17.heap.size := Nat.ne_of_lt (heap_lt fW_17)
        go_wp2_with fail
        refine hK.out _ _ hS18 (fun _ => ?_)
        clear hK K
        try simp only [List.setIfInBounds_toArray, List.set_cons_zero, List.set_cons_succ]
        refine wpAnyH_ready (rs := [8]) (by kernel_rfl) (by simp) ?_
        refine AllReadyH.cons rfl (fun K hK => ?_) AllReadyH.nil
        go_simp
        refine (red_tx u18 u17.heap.size u2.heap.size hr18 hne fW_18).mono ?_
        intro e1 u19 hh
        obtain ⟨rfl, ⟨c6, hr6, hc6⟩, on6⟩ := hh.out
        clear hh
        have hb19 : Below w2.heap.size u18 u19 := on6.below hgP
        have hS19 : Below w2.heap.size w2 u19 := (hS18).trans hb19
        go_wp2_with fail
        refine hK.out _ _ hS19 (fun _ => ?_)
        clear hK K
        try simp only [List.setIfInBounds_toArray, List.set_cons_zero, List.set_cons_succ]
        refine takeH_at 9 5 (.slice (some ⟨u17.heap.size, 0, none⟩) 128 255) rfl rfl (by kernel_rfl) (by kernel_rfl) (by kernel_rfl) (fun _ _ _ h => h) (hS19) (Or.inl ⟨by rfl, fun w' hS' => by go_simp⟩) ?_
        simp only [List.setIfInBounds_toArray, List.set_cons_zero, List.set_cons_succ]
        refine wpAnyH_done (by kernel_rfl) ?_ _
        refine NoPanic.normal ?_
        have HV : Hid (BitsAt u19 u17.heap.size 0 (M TX (rv a) (rv b)) ∧ u17.heap.size < u19.heap.size ∧ Below w2.heap.size w2 u19) := ⟨hr6.bits (by decide) (fun j hj => by rw [hc6 j hj, ev_product TX_cyc]), hr6.lt, hS19⟩
        have H27 : Hid (Calls Try.prog 27 #[.slice (some ⟨u17.heap.size, 0, none⟩) 128 255] u19 fun e w' => Hid (e = .returned (.agg L1.toArray) ∧ Below (u19).heap.size u19 w')) := by
          have q := rfrom_ok (M TX (rv a) (rv b)) u17.heap.size 0 128 255 u19 (Nat.le_refl _) HV.out.2.1 HV.out.1
          rw [show BV (M TX (rv a) (rv b)) = .agg L1.toArray by rw [HL1.out]; rfl] at q
          exact q
        go_wp2_with (first
          | (go_at_call 27; refine H27.out.mono ?_; intro e7 w7 hh; obtain ⟨rfl, hb7⟩ := hh.out; clear hh)
          | (go_at_call 30; refine (K30y.out w7).mono ?_; intro e8 w8 hh; obtain ⟨rfl, hb8⟩ := hh; have HW8 : Hid (w8.there (w.heap.size + 2) 0 L2.length ∧ Below w.heap.size w w8) := tms_end HD.out.1 HD.out.2.2.2.1 HV.out.2.2 hb7 hb8 HLl2.out; clear hb7 hb8)
          | (refine wpList_store_mid (by rfl) 23 (.tmp 4) (.tmp 17) (by rfl) (w.heap.size + 2) 0 L2.toArray (by rfl) (by rfl) (by simpa using HW8.out.1) (by rw [List.size_toArray, HLl2.out]; exact size23) HLo2.out ?_))
        refine ret_array L2 Try.results13 rfl (World.rangeAt_setCells_same _ _ _ _ HW8.out.1) Try.underlying23 rfl (by rw [HLl2.out]; exact size23) ⟨?_, belowB_setCells _ (by omega) _ _ _ HW8.out.2⟩
        rw [HL2.out]
        rfl
    · skip
      go_simp
      have hS20 : Below w2.heap.size w2 (World.alloc u1 (.cells #[.int .i64 7, .int .i64 2, .int .i64 1, .int .i64 0] 3)) := (hS1).alloc (hS1).size _
      have fW_20 := heap_alloc_new u1 (.cells #[.int .i64 7, .int .i64 2, .int .i64 1, .int .i64 0] 3)
      refine hK.out _ _ hS20 (fun _ => ?_)
      clear hK K
      try simp only [List.setIfInBounds_toArray, List.set_cons_zero, List.set_cons_succ]
      generalize World.alloc u1 (.cells #[.int .i64 7, .int .i64 2, .int .i64 1, .int .i64 0] 3) = u20 at *
      refine wpAnyH_ready (rs := [2]) (by kernel_rfl) (by simp) ?_
      refine AllReadyH.cons rfl (fun K hK => ?_) AllReadyH.nil
      go_simp
      refine (K26a.out _).mono ?_
      intro e1 u21 hh
      obtain ⟨gA, capA, rfl, ho21, hb21⟩ := hh.out
      clear hh
      have hS21 : Below w2.heap.size w2 u21 := (hS20).trans (hb21.mono (hS20).size)
      have fW_21 : u21.heap[u1.heap.size]? = some (.cells #[.int .i64 7, .int .i64 2, .int .i64 1, .int .i64 0] 3 (0, 0)) := (hb21.block _ (heap_lt fW_20)).trans fW_20
      have fA_21 : RowC u21 gA capA 128 (rv a).getLsbD := RowC.of_owns ho21 (by decide)
      go_wp2_with fail
      refine hK.out _ _ hS21 (fun _ => ?_)
      clear hK K
      try simp only [List.setIfInBounds_toArray, List.set_cons_zero, List.set_cons_succ]
      refine wpAnyH_ready (rs := [4]) (by kernel_rfl) (by simp) ?_
      refine AllReadyH.cons rfl (fun K hK => ?_) AllReadyH.nil
      go_simp
      refine (K30b.out _).mono ?_
      rintro e1 u22 ⟨rfl, hb22⟩
      have hS22 : Below w2.heap.size w2 u22 := (hS21).trans (hb22.mono (hS21).size)
      have fW_22 : u22.heap[u1.heap.size]? = some (.cells #[.int .i64 7, .int .i64 2, .int .i64 1, .int .i64 0] 3 (0, 0)) := (hb22.block _ (heap_lt fW_21)).trans fW_21
      have fA_22 : RowC u22 gA capA 128 (rv a).getLsbD := fA_21.same (hb22.block _ fA_21.lt)
      go_wp2_with fail
      refine hK.out _ _ hS22 (fun _ => ?_)
      clear hK K
      try simp only [List.setIfInBounds_toArray, List.set_cons_zero, List.set_cons_succ]
      refine wpAnyH_ready (rs := [5]) (by kernel_rfl) (by simp) ?_
      refine AllReadyH.cons rfl (fun K hK => ?_) AllReadyH.nil
      go_simp
      refine (K26b.out _).mono ?_
      intro e1 u23 hh
      obtain ⟨gB, capB, rfl, ho23, hb23⟩ := hh.out
      clear hh
      have hS23 : Below w2.heap.size w2 u23 := (hS22).trans (hb23.mono (hS22).size)
      have fW_23 : u23.heap[u1.heap.size]? = some (.cells #[.int .i64 7, .int .i64 2, .int .i64 1, .int .i64 0] 3 (0, 0)) := (hb23.block _ (heap_lt fW_22)).trans fW_22
      have fA_23 : RowC u23 gA capA 128 (rv a).getLsbD := fA_22.same (hb23.block _ fA_22.lt)
      have fB_23 : RowC u23 gB capB 128 (rv b).getLsbD := RowC.of_owns ho23 (by decide)
      go_wp2_with fail
      refine hK.out _ _ hS23 (fun _ => ?_)
      clear hK K
      try simp only [List.setIfInBounds_toArray, List.set_cons_zero, List.set_cons_succ]
      refine wpAnyH_ready (rs := [6]) (by kernel_rfl) (by simp) ?_
      refine AllReadyH.cons rfl (fun K hK => ?_) AllReadyH.nil
      go_simp
      refine (product_ok (rv a) (rv b) gA gB capA capB u23 fA_23.lt fB_23.lt (fA_23.bits (by decide) (fun _ _ => rfl)) (fB_23.bits (by decide) (fun _ _ => rfl))).mono ?_
      intro e1 u24 hh
      obtain ⟨rfl, hr24, hb24⟩ := hh.out
      clear hh
      have hS24 : Below w2.heap.size w2 u24 := (hS23).trans (hb24.mono (hS23).size)
      have fW_24 : u24.heap[u1.heap.size]? = some (.cells #[.int .i64 7, .int .i64 2, .int .i64 1, .int .i64 0] 3 (0, 0)) := (hb24.block _ (heap_lt fW_23)).trans fW_23
      have fA_24 : RowC u24 gA capA 128 (rv a).getLsbD := fA_23.same (hb24.block _ fA_23.lt)
      have fB_24 : RowC u24 gB capB 128 (rv b).getLsbD := fB_23.same (hb24.block _ fB_23.lt)
      have hgP : w2.heap.size ≤ u23.heap.size := (hS23).size
      have hne : u1.heap.size ≠ u23.heap.size := Nat.ne_of_lt (heap_lt fW_23)
      go_wp2_with fail
      refine hK.out _ _ hS24 (fun _ => ?_)
      clear hK K
      try simp only [List.setIfInBounds_toArray, List.set_cons_zero, List.set_cons_succ]
      refine wpAnyH_ready (rs := [8]) (by kernel_rfl) (by simp) ?_
      refine AllReadyH.cons rfl (fun K hK => ?_) AllReadyH.nil
      go_simp
      refine (red_tx u24 u23.heap.size u1.heap.size hr24 hne fW_24).mono ?_
      intro e1 u25 hh
      obtain ⟨rfl, ⟨c6, hr6, hc6⟩, on6⟩ := hh.out
      clear hh
      have hb25 : Below w2.heap.size u24 u25 := on6.below hgP
      have hS25 : Below w2.heap.size w2 u25 := (hS24).trans hb25
      go_wp2_with fail
      refine hK.out _ _ hS25 (fun _ => ?_)
      clear hK K
      try simp only [List.setIfInBounds_toArray, List.set_cons_zero, List.set_cons_succ]
      refine takeH_at 9 5 (.slice (some ⟨u23.heap.size, 0, none⟩) 128 255) rfl rfl (by kernel_rfl) (by kernel_rfl) (by kernel_rfl) (fun _ _ _ h => h) (hS25) (Or.inl ⟨by rfl, fun w' hS' => by go_simp⟩) ?_
      simp only [List.setIfInBounds_toArray, List.set_cons_zero, List.set_cons_succ]
      refine wpAnyH_done (by kernel_rfl) ?_ _
      refine NoPanic.normal ?_
      have HV : Hid (BitsAt u25 u23.heap.size 0 (M TX (rv a) (rv b)) ∧ u23.heap.size < u25.heap.size ∧ Below w2.heap.size w2 u25) := ⟨hr6.bits (by decide) (fun j hj => by rw [hc6 j hj, ev_product TX_cyc]), hr6.lt, hS25⟩
      have H27 : Hid (Calls Try.prog 27 #[.slice (some ⟨u23.heap.size, 0, none⟩) 128 255] u25 fun e w' => Hid (e = .returned (.agg L1.toArray) ∧ Below (u25).heap.size u25 w')) := by
        have q := rfrom_ok (M TX (rv a) (rv b)) u23.heap.size 0 128 255 u25 (Nat.le_refl _) HV.out.2.1 HV.out.1
        rw [show BV (M TX (rv a) (rv b)) = .agg L1.toArray by rw [HL1.out]; rfl] at q
        exact q
      go_wp2_with (first
        | (go_at_call 27; refine H27.out.mono ?_; intro e7 w7 hh; obtain ⟨rfl, hb7⟩ := hh.out; clear hh)
        | (go_at_call 30; refine (K30y.out w7).mono ?_; intro e8 w8 hh; obtain ⟨rfl, hb8⟩ := hh; have HW8 : Hid (w8.there (w.heap.size + 2) 0 L2.length ∧ Below w.heap.size w w8) := tms_end HD.out.1 HD.out.2.2.2.1 HV.out.2.2 hb7 hb8 HLl2.out; clear hb7 hb8)
        | (refine wpList_store_mid (by rfl) 23 (.tmp 4) (.tmp 17) (by rfl) (w.heap.size + 2) 0 L2.toArray (by rfl) (by rfl) (by simpa using HW8.out.1) (by rw [List.size_toArray, HLl2.out]; exact size23) HLo2.out ?_))
      refine ret_array L2 Try.results13 rfl (World.rangeAt_setCells_same _ _ _ _ HW8.out.1) Try.underlying23 rfl (by rw [HLl2.out]; exact size23) ⟨?_, belowB_setCells _ (by omega) _ _ _ HW8.out.2⟩
      rw [HL2.out]
      rfl
  · skip
    go_simp
    have hS26 : Below w2.heap.size w2 (World.alloc u0 (.cells #[.int .i64 7, .int .i64 2, .int .i64 1, .int .i64 0] 3)) := (hS0).alloc (hS0).size _
    have fW_26 := heap_alloc_new u0 (.cells #[.int .i64 7, .int .i64 2, .int .i64 1, .int .i64 0] 3)
    refine hK.out _ _ hS26 (fun _ => ?_)
    clear hK K
    try simp only [List.setIfInBounds_toArray, List.set_cons_zero, List.set_cons_succ]
    generalize World.alloc u0 (.cells #[.int .i64 7, .int .i64 2, .int .i64 1, .int .i64 0] 3) = u26 at *
    refine wpAnyH_ready (rs := [1]) (by kernel_rfl) (by simp) ?_
    refine AllReadyH.cons rfl (fun K hK => ?_) AllReadyH.nil
    go_simp
    refine (K30a.out _).mono ?_
    rintro e1 u27 ⟨rfl, hb27⟩
    have hS27 : Below w2.heap.size w2 u27 := (hS26).trans (hb27.mono (hS26).size)
    have fW_27 : u27.heap[u0.heap.size]? = some (.cells #[.int .i64 7, .int .i64 2, .int .i64 1, .int .i64 0] 3 (0, 0)) := (hb27.block _ (heap_lt fW_26)).trans fW_26
    go_wp2_with fail
    refine hK.out _ _ hS27 (fun _ => ?_)
    clear hK K
    try simp only [List.setIfInBounds_toArray, List.set_cons_zero, List.set_cons_succ]
    refine wpAnyH_ready (rs := [2]) (by kernel_rfl) (by simp) ?_
    refine AllReadyH.cons rfl (fun K hK => ?_) AllReadyH.nil
    go_simp
    refine (K26a.out _).mono ?_
    intro e1 u28 hh
    obtain ⟨gA, capA, rfl, ho28, hb28⟩ := hh.out
    clear hh
    have hS28 : Below w2.heap.size w2 u28 := (hS27).trans (hb28.mono (hS27).size)
    have fW_28 : u28.heap[u0.heap.size]? = some (.cells #[.int .i64 7, .int .i64 2, .int .i64 1, .int .i64 0] 3 (0, 0)) := (hb28.block _ (heap_lt fW_27)).trans fW_27
    have fA_28 : RowC u28 gA capA 128 (rv a).getLsbD := RowC.of_owns ho28 (by decide)
    go_wp2_with fail
    refine hK.out _ _ hS28 (fun _ => ?_)
    clear hK K
    try simp only [List.setIfInBounds_toArray, List.set_cons_zero, List.set_cons_succ]
    refine wpAnyH_ready (rs := [4]) (by kernel_rfl) (by simp) ?_
    refine AllReadyH.cons rfl (fun K hK => ?_) AllReadyH.nil
    go_simp
    refine (K30b.out _).mono ?_
    rintro e1 u29 ⟨rfl, hb29⟩
    have hS29 : Below w2.heap.size w2 u29 := (hS28).trans (hb29.mono (hS28).size)
    have fW_29 : u29.heap[u0.heap.size]? = some (.cells #[.int .i64 7, .int .i64 2, .int .i64 1, .int .i64 0] 3 (0, 0)) := (hb29.block _ (heap_lt fW_28)).trans fW_28
    have fA_29 : RowC u29 gA capA 128 (rv a).getLsbD := fA_28.same (hb29.block _ fA_28.lt)
    go_wp2_with fail
    refine hK.out _ _ hS29 (fun _ => ?_)
    clear hK K
    try simp only [List.setIfInBounds_toArray, List.set_cons_zero, List.set_cons_succ]
    refine wpAnyH_ready (rs := [5]) (by kernel_rfl) (by simp) ?_
    refine AllReadyH.cons rfl (fun K hK => ?_) AllReadyH.nil
    go_simp
    refine (K26b.out _).mono ?_
    intro e1 u30 hh
    obtain ⟨gB, capB, rfl, ho30, hb30⟩ := hh.out
    clear hh
    have hS30 : Below w2.heap.size w2 u30 := (hS29).trans (hb30.mono (hS29).size)
    have fW_30 : u30.heap[u0.heap.size]? = some (.cells #[.int .i64 7, .int .i64 2, .int .i64 1, .int .i64 0] 3 (0, 0)) := (hb30.block _ (heap_lt fW_29)).trans fW_29
    have fA_30 : RowC u30 gA capA 128 (rv a).getLsbD := fA_29.same (hb30.block _ fA_29.lt)
    have fB_30 : RowC u30 gB capB 128 (rv b).getLsbD := RowC.of_owns ho30 (by decide)
    go_wp2_with fail
    refine hK.out _ _ hS30 (fun _ => ?_)
    clear hK K
    try simp only [List.setIfInBounds_toArray, List.set_cons_zero, List.set_cons_succ]
    refine wpAnyH_ready (rs := [6]) (by kernel_rfl) (by simp) ?_
    refine AllReadyH.cons rfl (fun K hK => ?_) AllReadyH.nil
    go_simp
    refine (product_ok (rv a) (rv b) gA gB capA capB u30 fA_30.lt fB_30.lt (fA_30.bits (by decide) (fun _ _ => rfl)) (fB_30.bits (by decide) (fun _ _ => rfl))).mono ?_
    intro e1 u31 hh
    obtain ⟨rfl, hr31, hb31⟩ := hh.out
    clear hh
    have hS31 : Below w2.heap.size w2 u31 := (hS30).trans (hb31.mono (hS30).size)
    have fW_31 : u31.heap[u0.heap.size]? = some (.cells #[.int .i64 7, .int .i64 2, .int .i64 1, .int .i64 0] 3 (0, 0)) := (hb31.block _ (heap_lt fW_30)).trans fW_30
    have fA_31 : RowC u31 gA capA 128 (rv a).getLsbD := fA_30.same (hb31.block _ fA_30.lt)
    have fB_31 : RowC u31 gB capB 128 (rv b).getLsbD := fB_30.same (hb31.block _ fB_30.lt)
    have hgP : w2.heap.size ≤ u30.heap.size := (hS30).size
    have hne : u0.heap.size ≠ u30.heap.size := Nat.ne_of_lt (heap_lt fW_30)
    go_wp2_with fail
    refine hK.out _ _ hS31 (fun _ => ?_)
    clear hK K
    try simp only [List.setIfInBounds_toArray, List.set_cons_zero, List.set_cons_succ]
    refine wpAnyH_ready (rs := [8]) (by kernel_rfl) (by simp) ?_
    refine AllReadyH.cons rfl (fun K hK => ?_) AllReadyH.nil
    go_simp
    refine (red_tx u31 u30.heap.size u0.heap.size hr31 hne fW_31).mono ?_
    intro e1 u32 hh
    obtain ⟨rfl, ⟨c6, hr6, hc6⟩, on6⟩ := hh.out
    clear hh
    have hb32 : Below w2.heap.size u31 u32 := on6.below hgP
    have hS32 : Below w2.heap.size w2 u32 := (hS31).trans hb32
    go_wp2_with fail
    refine hK.out _ _ hS32 (fun _ => ?_)
    clear hK K
    try simp only [List.setIfInBounds_toArray, List.set_cons_zero, List.set_cons_succ]
    refine takeH_at 9 5 (.slice (some ⟨u30.heap.size, 0, none⟩) 128 255) rfl rfl (by kernel_rfl) (by kernel_rfl) (by kernel_rfl) (fun _ _ _ h => h) (hS32) (Or.inl ⟨by rfl, fun w' hS' => by go_simp⟩) ?_
    simp only [List.setIfInBounds_toArray, List.set_cons_zero, List.set_cons_succ]
    refine wpAnyH_done (by kernel_rfl) ?_ _
    refine NoPanic.normal ?_
    have HV : Hid (BitsAt u32 u30.heap.size 0 (M TX (rv a) (rv b)) ∧ u30.heap.size < u32.heap.size ∧ Below w2.heap.size w2 u32) := ⟨hr6.bits (by decide) (fun j hj => by rw [hc6 j hj, ev_product TX_cyc]), hr6.lt, hS32⟩
    have H27 : Hid (Calls Try.prog 27 #[.slice (some ⟨u30.heap.size, 0, none⟩) 128 255] u32 fun e w' => Hid (e = .returned (.agg L1.toArray) ∧ Below (u32).heap.size u32 w')) := by
      have q := rfrom_ok (M TX (rv a) (rv b)) u30.heap.size 0 128 255 u32 (Nat.le_refl _) HV.out.2.1 HV.out.1
      rw [show BV (M TX (rv a) (rv b)) = .agg L1.toArray by rw [HL1.out]; rfl] at q
      exact q
    go_wp2_with (first
      | (go_at_call 27; refine H27.out.mono ?_; intro e7 w7 hh; obtain ⟨rfl, hb7⟩ := hh.out; clear hh)
      | (go_at_call 30; refine (K30y.out w7).mono ?_; intro e8 w8 hh; obtain ⟨rfl, hb8⟩ := hh; have HW8 : Hid (w8.there (w.heap.size + 2) 0 L2.length ∧ Below w.heap.size w w8) := tms_end HD.out.1 HD.out.2.2.2.1 HV.out.2.2 hb7 hb8 HLl2.out; clear hb7 hb8)
      | (refine wpList_store_mid (by rfl) 23 (.tmp 4) (.tmp 17) (by rfl) (w.heap.size + 2) 0 L2.toArray (by rfl) (by rfl) (by simpa using HW8.out.1) (by rw [List.size_toArray, HLl2.out]; exact size23) HLo2.out ?_))
    refine ret_array L2 Try.results13 rfl (World.rangeAt_setCells_same _ _ _ _ HW8.out.1) Try.underlying23 rfl (by rw [HLl2.out]; exact size23) ⟨?_, belowB_setCells _ (by omega) _ _ _ HW8.out.2⟩
    rw [HL2.out]
    rfl
theorem rtimesB_ok (a b : BitVec 128) (w : World) : Calls Try.prog 13 #[BV a, BV b] w fun e w' => e = .returned (BV (TB a b)) ∧ Below w.heap.size w w' := by
  refine (rtimes_ok a b w).mono fun e w' hh => ?_
  rw [TB, TX_cyc.comm]
  exact hh.out
end Go.Proofs.Ytnkpngpjlkkkbaa
