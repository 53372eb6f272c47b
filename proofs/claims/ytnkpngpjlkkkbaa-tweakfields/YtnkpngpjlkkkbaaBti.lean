import Derived.Test.YtnkpngpjlkkkbaaBth
namespace Go.Proofs.Ytnkpngpjlkkkbaa
open Go.RowKit Go.Proofs.Ytnkpngpjlkkkbaa.Fld
set_option linter.unusedVariables false
set_option linter.unusedSimpArgs false
theorem wpList_append_run {ops : Array Oper} {rest : List Oper} {w w' : World} {v0 v v' : Value} {o : Oper} {a : Act} {Q : Exit → Act → World → Prop} (hgd : o.guard = none) (s x : Operand) (ho : o.op = .call { callee := .builtin .append, args := #[s, x], argTypes := #[41, 41] }) (hs : a.eval s = v0) (hx : a.eval x = v) (hrun : (Builtin.append_ #[41, 41] o.type #[v0, v]).run Try.prog w = .ok v' w') (h : wpList Try.prog ops Q rest (a.put o.dst v') w') : wpList Try.prog ops Q (o :: rest) a w :=
  wpList_plain hgd fun _ hK => by
    unfold Oper.wp execOp
    simp only [ho, resolve, invoke, builtin, Sem.run_bind, Sem.run_pure, Result.andThen_ok, List.map_toArray, List.map_cons, List.map_nil, hs, hx, hrun]
    exact hK _ _ h
/-- Between two divisions. -/
structure DtI (w wr : World) (g o cap : Nat) (y : BitVec 128) : Prop where
  seg : SegC wr g o cap 128 y.getLsbD
  bel : Below w.heap.size w wr
  res : wr.heap[w.heap.size + 2]? = some (.cells #[.int .u8 0, .int .u8 0, .int .u8 0, .int .u8 0, .int .u8 0, .int .u8 0, .int .u8 0, .int .u8 0, .int .u8 0, .int .u8 0, .int .u8 0, .int .u8 0, .int .u8 0, .int .u8 0, .int .u8 0, .int .u8 0] 23 (0, 0))
  pow : wr.heap[w.heap.size + 3]? = some (.cells #[.int .i64 127, .int .i64 126, .int .i64 121, .int .i64 0] 3 (0, 0))
  hg : w.heap.size + 3 < g
/-- In the midst of one. -/
structure DtJ (w wr : World) (g o cap : Nat) (c : Nat → Bool) : Prop where
  seg : SegC wr g o cap 129 c
  bel : Below w.heap.size w wr
  res : wr.heap[w.heap.size + 2]? = some (.cells #[.int .u8 0, .int .u8 0, .int .u8 0, .int .u8 0, .int .u8 0, .int .u8 0, .int .u8 0, .int .u8 0, .int .u8 0, .int .u8 0, .int .u8 0, .int .u8 0, .int .u8 0, .int .u8 0, .int .u8 0, .int .u8 0] 23 (0, 0))
  pow : wr.heap[w.heap.size + 3]? = some (.cells #[.int .i64 127, .int .i64 126, .int .i64 121, .int .i64 0] 3 (0, 0))
  hg : w.heap.size + 3 < g
theorem DtJ.set {w wr : World} {g o cap : Nat} {c d : Nat → Bool} (h : DtJ w wr g o cap c) (i : Nat) (hi : i < 129) (x : Int) (hx : x = cb (d i)) (hd : ∀ j, j ≠ i → d j = c j) : DtJ w (wr.setCell ⟨g, o + i, none⟩ (.int .i64 x)) g o cap d := by
  have q := h.hg
  exact ⟨h.seg.set i hi x hx hd, h.bel.setCell (by show w.heap.size ≤ g; omega) _, by rw [Below.heap_setCell _ _ _ _ (show w.heap.size + 2 ≠ g by omega)]; exact h.res, by rw [Below.heap_setCell _ _ _ _ (show w.heap.size + 3 ≠ g by omega)]; exact h.pow, h.hg⟩
theorem DtJ.drew {w wr : World} {g o cap : Nat} {c : Nat → Bool} (h : DtJ w wr g o cap c) : DtJ w wr.drew g o cap c := ⟨h.seg.same rfl, h.bel.drew, h.res, h.pow, h.hg⟩
theorem DtI.app {w wr : World} {g o cap : Nat} {y : BitVec 128} (h : DtI w wr g o cap y) (ty : TypeId) : ∃ g' o' cap' w', (Builtin.append_ #[41, 41] ty #[.slice (some ⟨g, o, none⟩) 128 cap, .slice (some ⟨wr.heap.size, 0, none⟩) 1 1]).run Try.prog (wr.alloc (.cells #[.int .i64 0] 3)) = .ok (.slice (some ⟨g', o', none⟩) 129 (cap' + 1)) w' ∧ DtJ w w' g' o' (cap' + 1) (app0 y) := by
  obtain ⟨g', o', cap', w', r, s, hgg, q1, q2, q3, q4, q5⟩ := append_seg wr g o cap y h.seg ty
  have hg := h.hg
  have l1 := heap_lt h.pow
  refine ⟨g', o', cap', w', r, s, h.bel.trans ⟨q1, q2, q3, q4, fun b hb => q5 b (by have := h.bel.size; omega) (by omega)⟩, by rw [q5 _ (by omega) (by omega)]; exact h.res, by rw [q5 _ l1 (by omega)]; exact h.pow, by rcases hgg with e | e <;> omega⟩
theorem DtJ.tail {w wr : World} {g o cap : Nat} {y : BitVec 128} (h : DtJ w wr g o (cap + 1) (dvd y)) : DtI w wr g (o + 1) cap (UP y) := by
  refine ⟨?_, h.bel, h.res, h.pow, h.hg⟩
  obtain ⟨cur, a, b, c, d⟩ := h.seg.tail
  exact ⟨cur, a, b, c, fun j hj => by rw [d j hj]; show some (Value.int .i64 (cb (dvd y (j + 1)))) = _; rw [UP_bits y j hj]⟩
theorem pow_cell {w wr : World} {g o cap : Nat} {c : Nat → Bool} (h : DtJ w wr g o cap c) (k : Nat) (hk : k < 4) : wr.cell? ⟨w.heap.size + 3, k, none⟩ = some (.int .i64 (pP k : Nat)) := by
  rw [World.cell?, h.pow]
  match k, hk with | 0, _ => rfl | 1, _ => rfl | 2, _ => rfl | 3, _ => rfl
theorem pP_lt (k : Nat) : pP k < 128 := by
  match k with
  | 0 => decide
  | 1 => decide
  | 2 => decide
  | n + 3 => exact (by decide : 0 < 128)
set_option maxHeartbeats 3200000 in
set_option maxRecDepth 100000 in
/-- cofferref03.Dot. -/
theorem rdot_ok (a b : BitVec 128) (w : World) : Calls Try.prog 14 #[BV a, BV b] w fun e w' => Hid (e = .returned (BV (itr UP 128 (M TP a b))) ∧ Below w.heap.size w w') := by
  obtain ⟨i0, hi0, hz0, hz1, hz2⟩ := info_parts info3
  have HC := chain4 w (.cells (BL a).toArray 23) (.cells (BL b).toArray 23) (.cells #[.int .u8 0, .int .u8 0, .int .u8 0, .int .u8 0, .int .u8 0, .int .u8 0, .int .u8 0, .int .u8 0, .int .u8 0, .int .u8 0, .int .u8 0, .int .u8 0, .int .u8 0, .int .u8 0, .int .u8 0, .int .u8 0] 23) (.cells #[.int .i64 127, .int .i64 126, .int .i64 121, .int .i64 0] 3)
  have e0 : ((((w.alloc (.cells (BL a).toArray 23)).alloc (.cells (BL b).toArray 23)).alloc (.cells #[.int .u8 0, .int .u8 0, .int .u8 0, .int .u8 0, .int .u8 0, .int .u8 0, .int .u8 0, .int .u8 0, .int .u8 0, .int .u8 0, .int .u8 0, .int .u8 0, .int .u8 0, .int .u8 0, .int .u8 0, .int .u8 0] 23)).alloc (.cells #[.int .i64 127, .int .i64 126, .int .i64 121, .int .i64 0] 3)) = (((w.alloc (.cells #[.int .u8 (byV a 0 : Nat), .int .u8 (byV a 1 : Nat), .int .u8 (byV a 2 : Nat), .int .u8 (byV a 3 : Nat), .int .u8 (byV a 4 : Nat), .int .u8 (byV a 5 : Nat), .int .u8 (byV a 6 : Nat), .int .u8 (byV a 7 : Nat), .int .u8 (byV a 8 : Nat), .int .u8 (byV a 9 : Nat), .int .u8 (byV a 10 : Nat), .int .u8 (byV a 11 : Nat), .int .u8 (byV a 12 : Nat), .int .u8 (byV a 13 : Nat), .int .u8 (byV a 14 : Nat), .int .u8 (byV a 15 : Nat)] 23)).alloc (.cells #[.int .u8 (byV b 0 : Nat), .int .u8 (byV b 1 : Nat), .int .u8 (byV b 2 : Nat), .int .u8 (byV b 3 : Nat), .int .u8 (byV b 4 : Nat), .int .u8 (byV b 5 : Nat), .int .u8 (byV b 6 : Nat), .int .u8 (byV b 7 : Nat), .int .u8 (byV b 8 : Nat), .int .u8 (byV b 9 : Nat), .int .u8 (byV b 10 : Nat), .int .u8 (byV b 11 : Nat), .int .u8 (byV b 12 : Nat), .int .u8 (byV b 13 : Nat), .int .u8 (byV b 14 : Nat), .int .u8 (byV b 15 : Nat)] 23)).alloc (.cells #[.int .u8 0, .int .u8 0, .int .u8 0, .int .u8 0, .int .u8 0, .int .u8 0, .int .u8 0, .int .u8 0, .int .u8 0, .int .u8 0, .int .u8 0, .int .u8 0, .int .u8 0, .int .u8 0, .int .u8 0, .int .u8 0] 23)).alloc (.cells #[.int .i64 127, .int .i64 126, .int .i64 121, .int .i64 0] 3) := rfl
  obtain ⟨y0, Hy0⟩ : ∃ q, Hid (M TP a b = q) := ⟨_, rfl⟩
  rw [Hy0.out]
  obtain ⟨La, HLa⟩ : ∃ L, Hid (L = BL a) := ⟨_, rfl⟩
  obtain ⟨Lb, HLb⟩ : ∃ L, Hid (L = BL b) := ⟨_, rfl⟩
  unfold BV
  go_enter Try.func14, Try.ntmps14
  go_upto_region 2 with fail
  rw [← e0]
  clear e0
  generalize ((((w.alloc (.cells (BL a).toArray 23)).alloc (.cells (BL b).toArray 23)).alloc (.cells #[.int .u8 0, .int .u8 0, .int .u8 0, .int .u8 0, .int .u8 0, .int .u8 0, .int .u8 0, .int .u8 0, .int .u8 0, .int .u8 0, .int .u8 0, .int .u8 0, .int .u8 0, .int .u8 0, .int .u8 0, .int .u8 0] 23)).alloc (.cells #[.int .i64 127, .int .i64 126, .int .i64 121, .int .i64 0] 3)) = w2 at HC ⊢
  have HD : Hid (Below w.heap.size w w2 ∧ w2.rangeAt w.heap.size 0 La ∧ w2.rangeAt (w.heap.size + 1) 0 Lb ∧ w2.heap[w.heap.size + 2]? = some (.cells #[.int .u8 0, .int .u8 0, .int .u8 0, .int .u8 0, .int .u8 0, .int .u8 0, .int .u8 0, .int .u8 0, .int .u8 0, .int .u8 0, .int .u8 0, .int .u8 0, .int .u8 0, .int .u8 0, .int .u8 0, .int .u8 0] 23 (0, 0)) ∧ w2.heap[w.heap.size + 3]? = some (.cells #[.int .i64 127, .int .i64 126, .int .i64 121, .int .i64 0] 3 (0, 0)) ∧ w2.heap.size = w.heap.size + 4) := ⟨HC.1, by rw [HLa.out]; exact range_of HC.2.1, by rw [HLb.out]; exact range_of HC.2.2.1, HC.2.2.2.1, HC.2.2.2.2.1, HC.2.2.2.2.2⟩
  clear HC
  have H26a : Hid (∀ u, Calls Try.prog 26 #[.agg La.toArray] u fun e w' => Hid (∃ g cap, e = .returned (.slice (some ⟨g, 0, none⟩) 128 cap) ∧ w'.ownsRow u.heap.size 3 1 (.slice (some ⟨g, 0, none⟩) 128 cap) 128 (ci a.getLsbD 128) ∧ Below u.heap.size u w')) := fun u => by rw [show Value.agg La.toArray = BV a by rw [HLa.out]; rfl]; exact rlittle_ok a u
  have H26b : Hid (∀ u, Calls Try.prog 26 #[.agg Lb.toArray] u fun e w' => Hid (∃ g cap, e = .returned (.slice (some ⟨g, 0, none⟩) 128 cap) ∧ w'.ownsRow u.heap.size 3 1 (.slice (some ⟨g, 0, none⟩) 128 cap) 128 (ci b.getLsbD 128) ∧ Below u.heap.size u w')) := fun u => by rw [show Value.agg Lb.toArray = BV b by rw [HLb.out]; rfl]; exact rlittle_ok b u
  have Ga : Hid (∀ u, Below w2.heap.size w2 u → u.rangeAt w.heap.size 0 La) := fun u hu => range_below HD.out.2.1 hu (by rw [HD.out.2.2.2.2.2]; omega)
  have Gb : Hid (∀ u, Below w2.heap.size w2 u → u.rangeAt (w.heap.size + 1) 0 Lb) := fun u hu => range_below HD.out.2.2.1 hu (by rw [HD.out.2.2.2.2.2]; omega)
  have hla : Hid ((Try.prog.info? 23).map (·.size) = some La.length) := by show _ = _; rw [HLa.out]; exact size23
  have hlb : Hid ((Try.prog.info? 23).map (·.size) = some Lb.length) := by show _ = _; rw [HLb.out]; exact size23
  have hS0 : Below w2.heap.size w2 w2.drew := (Below.refl _ _).drew
  refine wp_region_noPanic ?_
  refine wp_region_held_drew (S := fun u => Below w2.heap.size w2 u) (by kernel_rfl) (hS0) (fun _ => ?_)
  refine takeH_at 0 10 (.agg La.toArray) rfl rfl (by kernel_rfl) (by kernel_rfl) (by kernel_rfl) (fun _ _ _ h => h) hS0 (yieldsIf_load_mid (by kernel_rfl) 23 (.tmp 2) rfl w.heap.size 0 rfl La _ (fun u hu => Ga.out u hu) Try.underlying23 rfl hla.out) ?_
  simp only [List.setIfInBounds_toArray, List.set_cons_zero, List.set_cons_succ]
  refine takeH_at 2 12 (.agg Lb.toArray) rfl rfl (by kernel_rfl) (by kernel_rfl) (by kernel_rfl) (fun _ _ _ h => h) hS0 (yieldsIf_load_mid (by kernel_rfl) 23 (.tmp 3) rfl (w.heap.size + 1) 0 rfl Lb _ (fun u hu => Gb.out u hu) Try.underlying23 rfl hlb.out) ?_
  simp only [List.setIfInBounds_toArray, List.set_cons_zero, List.set_cons_succ]
  refine takeH_at 5 15 (.slice (some ⟨w.heap.size + 3, 0, none⟩) 4 4) rfl rfl (by kernel_rfl) (by kernel_rfl) (by kernel_rfl) (fun _ _ _ h => h) (hS0) (Or.inl ⟨by rfl, fun w' hS' => by go_simp⟩) ?_
  simp only [List.setIfInBounds_toArray, List.set_cons_zero, List.set_cons_succ]
  refine wpAnyH_ready (rs := [1]) (by kernel_rfl) (by simp) ?_
  refine AllReadyH.cons rfl (fun K hK => ?_) AllReadyH.nil
  go_simp
  refine (H26a.out _).mono ?_
  intro e1 q1 hh; obtain ⟨g3, cap3, rfl, ho3, hb3⟩ := hh.out; clear hh
  have hS1 : Below w2.heap.size w2 q1 := hS0.trans (hb3.mono hS0.size)
  go_wp2_with fail
  refine hK.out _ _ hS1 (fun _ => ?_)
  clear hK K
  try simp only [List.setIfInBounds_toArray, List.set_cons_zero, List.set_cons_succ]
  refine wpAnyH_ready (rs := [3]) (by kernel_rfl) (by simp) ?_
  refine AllReadyH.cons rfl (fun K hK => ?_) AllReadyH.nil
  go_simp
  refine (H26b.out _).mono ?_
  intro e1 q3 hh; obtain ⟨g4, cap4, rfl, ho4, hb4⟩ := hh.out; clear hh
  have hS3 : Below w2.heap.size w2 q3 := hS1.trans (hb4.mono hS1.size)
  go_wp2_with fail
  refine hK.out _ _ hS3 (fun _ => ?_)
  clear hK K
  try simp only [List.setIfInBounds_toArray, List.set_cons_zero, List.set_cons_succ]
  have R3 : RowC q3 g3 cap3 128 a.getLsbD := (RowC.of_owns ho3 (by decide)).same (hb4.block g3 (RowC.of_owns ho3 (by decide)).lt)
  have R4 : RowC q3 g4 cap4 128 b.getLsbD := RowC.of_owns ho4 (by decide)
  refine wpAnyH_ready (rs := [4]) (by kernel_rfl) (by simp) ?_
  refine AllReadyH.cons rfl (fun K hK => ?_) AllReadyH.nil
  go_simp
  refine (product_ok a b g3 g4 cap3 cap4 q3 R3.lt R4.lt (R3.bits (by decide) (fun _ _ => rfl)) (R4.bits (by decide) (fun _ _ => rfl))).mono ?_
  intro e1 q4 hh; obtain ⟨rfl, hr5, hb5⟩ := hh.out; clear hh
  have hS4 : Below w2.heap.size w2 q4 := hS3.trans (hb5.mono hS3.size)
  go_wp2_with fail
  refine hK.out _ _ hS4 (fun _ => ?_)
  clear hK K
  try simp only [List.setIfInBounds_toArray, List.set_cons_zero, List.set_cons_succ]
  have hsz := HD.out.2.2.2.2.2
  have hsq := hS3.size
  have H28 := reduced_ok TP TP_cyc pP (fun k _ => pP_lt k) TP_mod (prd a b 128) q3.heap.size 255 255 (w.heap.size + 3) 4 q4 (by decide) (by decide) hr5 (by omega) (fun k hk => by
    have hpw := hS4.block (w.heap.size + 3) (by omega)
    rw [HD.out.2.2.2.2.1] at hpw
    rw [World.cell?, hpw]
    match k, hk with | 0, _ => rfl | 1, _ => rfl | 2, _ => rfl | 3, _ => rfl)
  rw [ev_product TP_cyc] at H28
  refine wpAnyH_ready (rs := [6]) (by kernel_rfl) (by simp) ?_
  refine AllReadyH.cons rfl (fun K hK => ?_) AllReadyH.nil
  go_simp
  refine H28.mono ?_
  intro e1 q6 hh; obtain ⟨rfl, ⟨c6, hr6, hc6⟩, on6⟩ := hh.out; clear hh
  have hS6 : Below w2.heap.size w2 q6 := hS4.trans (on6.below (by omega))
  go_wp2_with fail
  refine hK.out _ _ hS6 (fun _ => ?_)
  clear hK K
  try simp only [List.setIfInBounds_toArray, List.set_cons_zero, List.set_cons_succ]
  refine takeH_at 7 6 (.slice (some ⟨q3.heap.size, 0, none⟩) 128 255) rfl rfl (by kernel_rfl) (by kernel_rfl) (by kernel_rfl) (fun _ _ _ h => h) (hS6) (Or.inl ⟨by rfl, fun w' hS' => by go_simp⟩) ?_
  simp only [List.setIfInBounds_toArray, List.set_cons_zero, List.set_cons_succ]
  refine wpAnyH_done (by kernel_rfl) ?_ _
  refine NoPanic.normal ?_
  have HI0 : Hid (DtI w q6 q3.heap.size 0 255 (itr UP 0 (M TP a b))) := by
    refine ⟨hr6.seg (by decide) hc6, HD.out.1.trans (hS6.mono HD.out.1.size), ?_, ?_, by omega⟩
    · rw [hS6.block _ (by omega)]; exact HD.out.2.2.2.1
    · rw [hS6.block _ (by omega)]; exact HD.out.2.2.2.2.1
  clear hr6 hc6 on6 hS6 hS4 hS3 hS1 hS0 hb5 hb4 hb3 ho3 ho4 R3 R4 H28 hsz hsq hr5 HD H26a H26b Ga Gb hla hlb hi0 hz0 hz1 hz2
  generalize q3.heap.size = gA at HI0 ⊢
  rw [Hy0.out] at HI0
  go_wp2
  go_loopw [6, 7] (fun vl vi wr => ∃ (i g o cap : Nat), vl = .slice (some ⟨g, o, none⟩) 128 cap ∧ vi = .int .i64 (i : Nat) ∧ i ≤ 128 ∧ Hid (DtI w wr g o cap (itr UP i y0))) (fun _ vi _ => 128 - (intOf vi).toNat)
  case atStart => exact ⟨0, gA, 0, 255, rfl, rfl, by omega, HI0⟩
  case round =>
    obtain ⟨i, g, o, cap, rfl, rfl, hi, HR⟩ := hrel
    clear HI0
    by_cases hlt : i < 128
    · have g1 : (i : Int) < 128 := by omega
      obtain ⟨Y, HY⟩ : ∃ q, Hid (itr UP i y0 = q) := ⟨_, rfl⟩
      rw [HY.out] at HR
      obtain ⟨g', o', cap', w', hrun, hJ⟩ := HR.out.app 41
      have HRun : Hid ((Builtin.append_ #[41, 41] 41 #[.slice (some ⟨g, o, none⟩) 128 cap, .slice (some ⟨wr.heap.size, 0, none⟩) 1 1]).run Try.prog (wr.alloc (.cells #[.int .i64 0] 3)) = .ok (.slice (some ⟨g', o', none⟩) 129 (cap' + 1)) w') := hrun
      have HJ : Hid (DtJ w w' g' o' (cap' + 1) (app0 Y)) := hJ
      clear hrun hJ
      have hcap : ¬ cap' = 0 := by obtain ⟨_, _, q, _⟩ := HJ.out.seg; omega
      have c0 : w'.cell? ⟨g', o', none⟩ = some (.int .i64 (cb (Y.getLsbD 0))) := by
        have q := HJ.out.seg.cell 0 (by decide)
        rw [Nat.add_zero] at q
        rw [q]
        rfl
      by_cases h0 : Y.getLsbD 0
      · rw [h0] at c0
        have c0' : w'.cell? ⟨g', o', none⟩ = some (.int .i64 1) := c0
        clear c0
        go_upto_region 9 with (at_builtin; go_must (refine wpList_append_run rfl (.tmp 21) (.tmp 22) rfl rfl rfl HRun.out ?_))
        clear HRun HR c0'
        go_loopw [8] (fun vk wx => ∃ k : Nat, vk = .int .i64 (k : Nat) ∧ k ≤ 4 ∧ Hid (DtJ w wx g' o' (cap' + 1) (dvd.rdsP (app0 Y) k))) (fun vk _ => 4 - (intOf vk).toNat)
        case atStart => exact ⟨0, rfl, by omega, HJ⟩
        case round =>
          obtain ⟨k, rfl, hk, HK⟩ := hrel
          clear HJ
          by_cases hkl : k < 4
          · have k0 : (0 : Int) ≤ (k : Int) := by omega
            have k1 : (k : Int) < 4 := by omega
            have hpl := pP_lt k
            obtain ⟨PK, hPK⟩ : ∃ q, q = pP k := ⟨_, rfl⟩
            have HPK : Hid (PK = pP k) := hPK
            have p0 : (0 : Int) ≤ (PK : Int) := by omega
            have p1 : (PK : Int) < 129 := by omega
            obtain ⟨X, HX⟩ : ∃ X : Int, Hid (X = cb (dvd.rdsP (app0 Y) k PK)) := ⟨_, rfl⟩
            have e0 : wr.cell? ⟨g', o' + PK, none⟩ = some (.int .i64 X) := by rw [HX.out]; exact HK.out.seg.cell PK (by omega)
            have e1 : wr.cell? ⟨w.heap.size + 3, k, none⟩ = some (.int .i64 (PK : Nat)) := by rw [hPK]; exact pow_cell HK.out k hkl
            have f0 : wr.frozen? ⟨g', o' + PK, none⟩ = false := HK.out.seg.frozen _
            obtain ⟨Z, hZ⟩ : ∃ Z, bits .xor .i64 X 1 = Z := ⟨_, rfl⟩
            have HK5 : Hid (DtJ w (wr.setCell ⟨g', o' + PK, none⟩ (.int .i64 Z)) g' o' (cap' + 1) (dvd.rdsP (app0 Y) (k + 1))) := by
              refine HK.out.set PK (by omega) Z ?_ (fun j hj => ?_)
              · rw [← hZ, HX.out, xor_one]
                show _ = cb (Fld.flip (dvd.rdsP (app0 Y) k) (pP k) PK)
                rw [Fld.flip, if_pos HPK.out]
              · show Fld.flip (dvd.rdsP (app0 Y) k) (pP k) j = _
                rw [Fld.flip, if_neg (by rw [← HPK.out]; exact hj)]
            clear hPK hpl
            go_upto_region 11 with fail
            go_region
            go_wp2
            exact ⟨⟨k + 1, by simp, by omega, HK5.out.drew⟩, by simp [intOf]; omega⟩
          · have k1 : ¬ (k : Int) < 4 := by omega
            have HK4 : Hid (DtJ w wr g' o' (cap' + 1) (dvd.rdsP (app0 Y) 4)) := by
              have q := HK.out
              rw [show k = 4 by omega] at q
              exact q
            have e0 : wr.cell? ⟨g', o' + 128, none⟩ = some (.int .i64 (cb (dvd.rdsP (app0 Y) 4 128))) := HK4.out.seg.cell 128 (by decide)
            have f0 : wr.frozen? ⟨g', o' + 128, none⟩ = false := HK4.out.seg.frozen _
            have HE : Hid (DtI w (wr.setCell ⟨g', o' + 128, none⟩ (.int .i64 1)) g' (o' + 1) cap' (itr UP (i + 1) y0)) := by
              have q : DtJ w (wr.setCell ⟨g', o' + 128, none⟩ (.int .i64 1)) g' o' (cap' + 1) (dvd Y) := HK4.out.set 128 (by decide) 1 (by rw [dvd, if_pos h0, if_pos rfl]; rfl) (fun j hj => by rw [dvd, if_pos h0, if_neg hj])
              have q2 := q.tail
              rw [← HY.out] at q2
              exact q2
            clear HK HK4
            go_wp2
            exact ⟨⟨i + 1, g', o' + 1, cap', by simp [hcap], by simp, by omega, HE⟩, by simp [intOf]; omega⟩
      · have h0' : Y.getLsbD 0 = false := by simpa using h0
        rw [h0'] at c0
        have c0' : w'.cell? ⟨g', o', none⟩ = some (.int .i64 0) := c0
        clear c0
        have HE : Hid (DtI w w' g' (o' + 1) cap' (itr UP (i + 1) y0)) := by
          have e : dvd Y = app0 Y := funext fun j => by rw [dvd, if_neg h0]
          have q := HJ.out
          rw [← e] at q
          have q2 := q.tail
          rw [← HY.out] at q2
          exact q2
        clear HJ HR
        go_wp2_with (at_builtin; go_must (refine wpList_append_run rfl (.tmp 21) (.tmp 22) rfl rfl rfl HRun.out ?_))
        exact ⟨⟨i + 1, g', o' + 1, cap', by simp [hcap], by simp, by omega, HE⟩, by simp [intOf]; omega⟩
    · have g1 : ¬ (i : Int) < 128 := by omega
      obtain ⟨L2, HL2⟩ : ∃ L, Hid (L = BL (itr UP 128 y0)) := ⟨_, rfl⟩
      have HLl2 : Hid (L2.length = 16) := by show _ = _; rw [HL2.out]; rfl
      have HLo2 : Hid (L2.toArray.all (·.oneCell') = true) := by show _ = _; rw [HL2.out]; exact BL_one _
      have HE : Hid (DtI w wr g o cap (itr UP 128 y0)) := by
        have q := HR.out
        rw [show i = 128 by omega] at q
        exact q
      clear HR
      have H27 : Hid (Calls Try.prog 27 #[.slice (some ⟨g, o, none⟩) 128 cap] wr fun e w' => Hid (e = .returned (.agg L2.toArray) ∧ Below wr.heap.size wr w')) := by
        have q := rfrom_ok (itr UP 128 y0) g o 128 cap wr (Nat.le_refl _) HE.out.seg.lt HE.out.seg.bits
        rw [show BV (itr UP 128 y0) = .agg L2.toArray by rw [HL2.out]; rfl] at q
        exact q
      go_wp2_with (first
        | (go_at_call 27; refine H27.out.mono ?_; intro e7 w7 hh; obtain ⟨rfl, hb7⟩ := hh.out; clear hh; have HW7 : Hid (w7.there (w.heap.size + 2) 0 L2.length ∧ Below w.heap.size w w7) := ⟨by rw [HLl2.out]; exact there_of (by rw [hb7.block _ (heap_lt HE.out.res)]; exact HE.out.res) (Nat.le_refl _), HE.out.bel.trans (hb7.mono HE.out.bel.size)⟩; clear hb7)
        | (refine wpList_store_mid (by rfl) 23 (.tmp 4) (.tmp 53) (by rfl) (w.heap.size + 2) 0 L2.toArray (by rfl) (by rfl) (by simpa using HW7.out.1) (by rw [List.size_toArray, HLl2.out]; exact size23) HLo2.out ?_))
      refine ret_array L2 Try.results14 rfl (World.rangeAt_setCells_same _ _ _ _ HW7.out.1) Try.underlying23 rfl (by rw [HLl2.out]; exact size23) ⟨?_, belowB_setCells _ (by omega) _ _ _ HW7.out.2⟩
      rw [HL2.out]
      rfl
end Go.Proofs.Ytnkpngpjlkkkbaa
