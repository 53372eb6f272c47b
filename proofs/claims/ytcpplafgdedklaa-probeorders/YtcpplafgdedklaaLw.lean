import Derived.Test.YtcpplafgdedklaaSpi
import Derived.Deep.MidRow
namespace Go.Proofs.Ytcpplafgdedklaa
open Go.RowKit
set_option linter.unusedVariables false
set_option linter.unusedSimpArgs false
theorem size38 (m : Met) (v : Value) : (Try.prog.info? 38).map (·.size) = some (metC m v).toList.length := by
  have h : (Try.prog.info? 38).map (·.size) = some 27 := by kernel_rfl
  exact h
theorem view_own {w : World} {B n : Nat} {v : Value} {zs : List Int} (h : w.ownsRow B 3 1 v n (cellsI zs)) : View w v zs := by
  have hl : zs.length = n := by have := h.1; simp [cellsI] at this; omega
  subst hl
  rcases h.2 with ⟨rfl, h0⟩ | ⟨g, c, cur, rfl, hg1, hg2, hg3, hg4, hg5, hg6⟩
  · exact ⟨none, 0, by rw [h0], by omega, by unfold maxLen; omega, fun _ => rfl, .inl (List.eq_nil_of_length_eq_zero h0)⟩
  · refine ⟨_, c, rfl, hg3, hg4, (fun e => by cases e), .inr ⟨g, 0, rfl, fun i hi => ?_⟩⟩
    rw [Nat.zero_add, h.cellAt i (by omega)]
    simp [cellsI, List.getD, List.getElem?_eq_getElem hi]
theorem View.same {w w' : World} {v : Value} {zs : List Int} (h : View w v zs) (hh : w'.heap = w.heap) : View w' v zs := by
  obtain ⟨a, c, e, h1, h2, h3, h4⟩ := h
  refine ⟨a, c, e, h1, h2, h3, h4.imp id ?_⟩
  rintro ⟨b, off, rfl, hc⟩
  exact ⟨b, off, rfl, fun i hi => by rw [World.cell?_of_block (w := w) (by rw [hh])]; exact hc i hi⟩
abbrev met0 : Met := ⟨⟨#[]⟩, ⟨#[]⟩, ⟨#[]⟩, ⟨#[]⟩, 0, 0, 0, 0, 0, ⟨#[]⟩, ⟨#[]⟩, none, 0, 0, none, 0, 0, false, 0, 0, false, 0, 0, 0, 0, 0, false, 0, ⟨#[]⟩, none, 0, 0⟩
abbrev slos : List Slo := [⟨5, 1, 0, 0, ⟨#[]⟩, ⟨#[]⟩, 0, 0, 0⟩, ⟨9, 2, 0, 0, ⟨#[]⟩, ⟨#[]⟩, 0, 0, 0⟩]
abbrev slo2 : Array Value := #[.int .i64 5, .int .i64 1, .int .i64 0, .int .i64 0, .string ⟨#[]⟩, .string ⟨#[]⟩, .int .i64 0, .int .i64 0, .int .i64 0, .int .i64 9, .int .i64 2, .int .i64 0, .int .i64 0, .string ⟨#[]⟩, .string ⟨#[]⟩, .int .i64 0, .int .i64 0, .int .i64 0]
theorem slos_ord : ordL slos = [9, 5] := by simp [ordL, askN, srt]
theorem slos_at (u : World) : SloV (u.alloc (.cells slo2 44)) (.slice (some ⟨u.heap.size, 0, none⟩) 2 2) slos := by
  refine ⟨_, _, rfl, by decide, .inr ⟨u.heap.size, 0, rfl, by simp, fun i x hx j y hy => ?_⟩⟩
  refine rangeNew _ _ _ _ _ ?_
  match i, hx with
  | 0, hx =>
    simp at hx
    subst hx
    match j, hy with
    | 0, hy | 1, hy | 2, hy | 3, hy | 4, hy | 5, hy | 6, hy | 7, hy | 8, hy => simpa [sloL] using hy
    | j + 9, hy => simp [sloL] at hy
  | 1, hx =>
    simp at hx
    subst hx
    match j, hy with
    | 0, hy | 1, hy | 2, hy | 3, hy | 4, hy | 5, hy | 6, hy | 7, hy | 8, hy => simpa [sloL] using hy
    | j + 9, hy => simp [sloL] at hy
  | i + 2, hx => simp at hx
set_option maxHeartbeats 3200000 in
set_option maxRecDepth 100000 in
theorem orders_ok (m : Met) (v : Value) (l : List Slo) (w : World) (h : SloV w v l) :
    Calls Try.prog 4 #[.agg (metC m v)] w fun e w' => e = .returned (.bool true) ∧ Below w.heap.size w w' := by
  obtain ⟨W1, hW1⟩ : ∃ W1, W1 = w.alloc (.cells (metC m v) 38) := ⟨_, rfl⟩
  have h0 := h
  obtain ⟨a, cap, rfl, hm, _⟩ := h0
  have hm2 : Hid ((ordL l).length ≤ 8796093022208) := by
    have h1 := askN_sum l
    have h2 : (ordL l).length = (askN l 2).length + (askN l 1).length := by simp [ordL, srt_len]
    show _ ≤ _
    omega
  obtain ⟨n, HN⟩ : ∃ n, Hid (n = l.length) := ⟨_, rfl⟩
  rw [← HN.out] at h hW1
  rw [← HN.out]
  clear hm
  have hB1 : Hid (Below w.heap.size w W1) := by rw [hW1]; exact (Below.refl _ w).alloc (Nat.le_refl _) _
  have hsz : W1.heap.size = w.heap.size + 1 := by rw [hW1]; simp
  have HR0 : Hid (W1.rangeAt w.heap.size 0 (metC m (.slice a n cap)).toList) := by
    rw [hW1]
    intro j u hj
    rw [Nat.zero_add]
    exact rangeNew _ _ _ _ _ (by simpa using hj)
  have HR : Hid (∀ u, Below (w.heap.size + 1) W1 u → u.rangeAt w.heap.size 0 (metC m (.slice a n cap)).toList) := fun u hu j x hx => (hu.cell (p := ⟨w.heap.size, 0 + j, none⟩) (by simp)).trans (HR0.out j x hx)
  have HSv : Hid (∀ u, Below (w.heap.size + 1) W1 u → SloV u (.slice a n cap) l) := fun u hu => SloV.below h (hB1.out.trans (hu.mono (by omega)))
  clear h HR0
  go_enter Try.func4, Try.ntmps4
  go_upto_region 1 with fail
  rw [← hW1]
  clear hW1
  -- the first answer
  have K1 : Hid (Calls Try.prog 7 #[.agg (metC m (.slice a n cap))] W1 fun e w' => ∃ r, e = .returned r ∧ w'.ownsRow W1.heap.size 3 1 r (ordL l).length (cellsI (ordL l)) ∧ Below W1.heap.size W1 w') := order_ok m _ l W1 (HSv.out W1 (Below.refl _ _))
  have R1 := HR.out W1 (Below.refl _ _)
  go_upto_region 2 with (first
    | (refine wpList_load_mid (by rfl) 38 (.tmp 1) (by rfl) w.heap.size 0 (by rfl) (metC m (.slice a n cap)).toList _ R1 Try.underlying38 rfl (size38 m _) ?_)
    | (go_at_call 7; refine K1.out.mono ?_; rintro e q1 ⟨r1, rfl, ho1, hb1⟩))
  clear K1 R1
  have HB1 : Hid (Below (w.heap.size + 1) W1 q1) := by rw [hsz] at hb1; exact hb1
  have K2 : Hid (Calls Try.prog 7 #[.agg (metC m (.slice a n cap))] q1 fun e w' => ∃ r, e = .returned r ∧ w'.ownsRow q1.heap.size 3 1 r (ordL l).length (cellsI (ordL l)) ∧ Below q1.heap.size q1 w') := order_ok m _ l q1 (HSv.out q1 HB1.out)
  have R2 := HR.out q1 HB1.out
  go_upto_region 3 with (first
    | (refine wpList_load_mid (by rfl) 38 (.tmp 1) (by rfl) w.heap.size 0 (by rfl) (metC m (.slice a n cap)).toList _ R2 Try.underlying38 rfl (size38 m _) ?_)
    | (go_at_call 7; refine K2.out.mono ?_; rintro e q2 ⟨r2, rfl, ho2, hb2⟩))
  clear K2 R2
  have HB2 : Hid (Below (w.heap.size + 1) W1 q2) := HB1.out.trans (hb2.mono (by have := HB1.out.size; omega))
  have HO1 : Hid (q2.ownsRow W1.heap.size 3 1 r1 (ordL l).length (cellsI (ordL l))) := ownsRow_below ho1 hb2
  have HN1 : Hid (∀ k, r1.ownBlock = some k → k < q1.heap.size) := fun k hk => (ho1.lt k hk).2
  have K3 : Hid (Calls Try.prog 8 #[.agg (metC m (.slice a n cap))] q2 fun e w' => ∃ r, e = .returned r ∧ w'.ownsRow q2.heap.size 3 1 r (ordL l).length (cellsI (ordL l)) ∧ Below q2.heap.size q2 w') := rorder_ok m _ l q2 (HSv.out q2 HB2.out)
  have R3 := HR.out q2 HB2.out
  go_upto_region 4 with (first
    | (refine wpList_load_mid (by rfl) 38 (.tmp 1) (by rfl) w.heap.size 0 (by rfl) (metC m (.slice a n cap)).toList _ R3 Try.underlying38 rfl (size38 m _) ?_)
    | (go_at_call 8; refine K3.out.mono ?_; rintro e q3 ⟨r3, rfl, ho3, hb3⟩))
  clear K3 R3
  have HB3 : Hid (Below (w.heap.size + 1) W1 q3) := HB2.out.trans (hb3.mono (by have := HB2.out.size; omega))
  have HO1' : Hid (q3.ownsRow W1.heap.size 3 1 r1 (ordL l).length (cellsI (ordL l))) := ownsRow_below HO1.out hb3
  have HO2 : Hid (q3.ownsRow q1.heap.size 3 1 r2 (ordL l).length (cellsI (ordL l))) := ownsRow_below ho2 hb3
  have HN2 : Hid (∀ k, r2.ownBlock = some k → q1.heap.size ≤ k) := fun k hk => (ho2.lt k hk).1
  have HN3 : Hid (∀ k, r3.ownBlock = some k → q1.heap.size ≤ k) := fun k hk => Nat.le_trans hb2.size (ho3.lt k hk).1
  have HO3 : Hid (q3.ownsRow q2.heap.size 3 1 r3 (ordL l).length (cellsI (ordL l))) := ho3
  have hq1 : W1.heap.size ≤ q1.heap.size := hb1.size
  have hq3 : q1.heap.size ≤ q3.heap.size := Nat.le_trans hb2.size hb3.size
  clear ho1 ho2 ho3 hb1 hb2 hb3 HO1 HB1 HB2
  -- both are the document's
  obtain ⟨zs, HZ⟩ : ∃ zs, Hid (zs = ordL l) := ⟨_, rfl⟩
  rw [← HZ.out] at HO1' HO2 HO3 hm2
  have hdec : decide (zs = zs) = true := by simp
  have S1 : Hid (∀ k, Calls Try.prog 9 #[r1, r3] (q3.drewN k) fun e w' => e = .returned (.bool true) ∧ ∃ m, w' = (q3.drewN k).drewN m) := fun k => by
    have := same_any r1 r3 zs zs (q3.drewN k) ((view_own HO1'.out).same rfl) ((view_own HO3.out).same rfl)
    rw [hdec] at this
    exact this
  have S2 : Hid (∀ k, Calls Try.prog 9 #[r2, r3] (q3.drewN k) fun e w' => e = .returned (.bool true) ∧ ∃ m, w' = (q3.drewN k).drewN m) := fun k => by
    have := same_any r2 r3 zs zs (q3.drewN k) ((view_own HO2.out).same rfl) ((view_own HO3.out).same rfl)
    rw [hdec] at this
    exact this
  go_upto_region 6 with (first
    | (go_at_call 9; refine (S1.out 0).mono ?_; rintro e w' ⟨rfl, k1, rfl⟩; clear S1)
    | (go_at_call 9; refine (S2.out k1).mono ?_; rintro e w' ⟨rfl, k2, rfl⟩; clear S2))
  -- the first one is spoilt
  have SP : Hid (∀ k, Calls Try.prog 10 #[r1] (q3.drewN k) fun e w' => e = .returned (.tuple #[]) ∧ (q3.drewN k).grownBy w' r1.ownBlock) := fun k => spoil_any W1.heap.size _ r1 zs (q3.drewN k) hm2.out (Nat.le_trans hq1 hq3) HO1'.out
  go_upto_region 7 with (first
    | (go_at_call 10; refine (SP.out _).mono ?_; rintro e q4 ⟨rfl, hg4⟩))
  clear SP
  have HG4 : Hid (q3.grownBy q4 r1.ownBlock) := ⟨hg4.os, hg4.tape, hg4.output, hg4.size, hg4.block⟩
  clear hg4
  have HB4 : Hid (Below (w.heap.size + 1) W1 q4) := HB3.out.grown HG4.out (by omega) (fun k hk => by have := (HO1'.out.lt k hk).1; omega)
  have HO2' : Hid (q4.ownsRow q1.heap.size 3 1 r2 zs.length (cellsI zs)) := by
    refine HO2.out.kept HG4.out ?_
    cases h2 : r2.ownBlock with
    | none => exact .inl rfl
    | some k =>
      refine .inr (fun h => ?_)
      have h3 := HN1.out k h.symm
      have h4 := HN2.out k h2
      omega
  have HO3' : Hid (q4.ownsRow q2.heap.size 3 1 r3 zs.length (cellsI zs)) := by
    refine HO3.out.kept HG4.out ?_
    cases h2 : r3.ownBlock with
    | none => exact .inl rfl
    | some k =>
      refine .inr (fun h => ?_)
      have h3 := HN1.out k h.symm
      have h4 := HN3.out k h2
      omega
  clear HO1' HO2 HO3 HN1 HN2 HN3 HB3
  have K7 : Hid (Calls Try.prog 7 #[.agg (metC met0 (.slice (some ⟨q4.heap.size, 0, none⟩) 2 2))] (q4.alloc (.cells slo2 44)) fun e w' => ∃ r, e = .returned r ∧ w'.ownsRow (q4.alloc (.cells slo2 44)).heap.size 3 1 r (ordL slos).length (cellsI (ordL slos)) ∧ Below (q4.alloc (.cells slo2 44)).heap.size (q4.alloc (.cells slo2 44)) w') := order_ok met0 _ slos _ (slos_at q4)
  go_upto_region 8 with (first
    | (go_at_call 7; refine K7.out.mono ?_; rintro e q5 ⟨r5, rfl, ho5, hb5⟩))
  clear K7
  rw [slos_ord] at ho5
  have hs4 : w.heap.size + 1 ≤ q4.heap.size := by have := HB4.out.size; omega
  have HB5 : Hid (Below (w.heap.size + 1) W1 q5) := (HB4.out.alloc hs4 _).trans (hb5.mono (by simp; omega))
  have V2 : View q5 r2 zs := view_own (ownsRow_below (HO2'.out.alloc _) hb5)
  have V3 : View q5 r3 zs := view_own (ownsRow_below (HO3'.out.alloc _) hb5)
  have S5 : Hid (Calls Try.prog 9 #[r2, r3] q5 fun e w' => e = .returned (.bool true) ∧ ∃ m, w' = q5.drewN m) := by
    have := same_any r2 r3 zs zs q5 V2 V3
    rw [show decide (zs = zs) = true from by simp] at this
    exact this
  have S6 : Hid (∀ k, Calls Try.prog 9 #[r5, .slice (some ⟨q5.heap.size, 0, none⟩) 2 2] ((q5.drewN k).alloc (.cells #[.int .i64 9, .int .i64 5] 3)) fun e w' => e = .returned (.bool true) ∧ ∃ m, w' = ((q5.drewN k).alloc (.cells #[.int .i64 9, .int .i64 5] 3)).drewN m) := fun k => by
    have h1 : View ((q5.drewN k).alloc (.cells #[.int .i64 9, .int .i64 5] 3)) r5 [9, 5] := view_own (World.ownsRow.alloc (w := q5.drewN k) ho5 _)
    have h2 : View ((q5.drewN k).alloc (.cells #[.int .i64 9, .int .i64 5] 3)) (.slice (some ⟨q5.heap.size, 0, none⟩) 2 2) [9, 5] := view_own (B := q5.heap.size) (World.ownsRow_lit (q5.drewN k) #[.int .i64 9, .int .i64 5] 2 (Nat.le_refl _) (by decide) rfl)
    have := same_any r5 _ [9, 5] [9, 5] _ h1 h2
    have hd : decide (([9, 5] : List Int) = [9, 5]) = true := by decide
    rw [hd] at this
    exact this
  clear V2 V3 ho5 HO2' HO3' HB4
  go_wp2_with (first
    | (go_at_call 9; refine S5.out.mono ?_; rintro e w' ⟨rfl, k5, rfl⟩; clear S5)
    | (go_at_call 9; refine (S6.out _).mono ?_; rintro e w' ⟨rfl, k6, rfl⟩; clear S6))
  go_ret
  refine ⟨rfl, ?_⟩
  have hb := bdrewN ((bdrewN HB5.out k5).alloc (by have := HB5.out.size; simp; omega) (.cells #[.int .i64 9, .int .i64 5] 3)) k6
  exact hB1.out.trans (hb.mono (by omega))
end Go.Proofs.Ytcpplafgdedklaa
