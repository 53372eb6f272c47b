import Derived.Test.YtioggmjocelolabDoorBehind
import Derived.Test.YtioggmjocelolabDoorTakeH
namespace Go.Proofs.YtioggmjocelolabDoor
open Go.RowKit
set_option linter.unusedVariables false
set_option linter.unusedSimpArgs false

/-- Where a Mac's two digests stand behind the key's block. -/
def stateOf (h : Int) (key : List Int) (mask : Int) : Eight := TT (wdOf h) (maskF (keyOf h key) mask) (firstE h) 1

theorem built73 (h : Int) (wd : Bool) (s : Eight) (half : Nat → Int) (fed : Nat) (E1 E2 : Eight) : Tryd.prog.built 73 [(0, .agg (tkL h wd s half fed).toArray), (1, .agg E1.cells.toArray), (2, .agg E2.cells.toArray)] = some (tkL h wd s half fed ++ (E1.cells ++ E2.cells)).toArray := by kernel_rfl
section
variable {P : Program} {ops : Array Oper} {Q : Exit → Act → World → Prop} {S : World → Prop}
theorem yieldsIf_build {op : Oper} {a : Act} (hw : Region.wanted op (yielded ops a.tmps) = true) (ty : TypeId) (parts : Array (Nat × Operand)) (ho : op.op = .build ty parts) (cells : Array Value) (hb : P.built ty (parts.map fun (i, x) => (i, a.eval x)).toList = some cells) : YieldsIf P ops S op (.agg cells) a :=
  .inl ⟨hw, fun w _ => by
    have hrun := run_build (P := P) w ty (parts.map fun (i, x) => (i, a.eval x)) cells hb
    unfold execOp
    simp only [ho, Sem.run_bind, hrun, Result.andThen_ok, Sem.run_pure]⟩
end

set_option maxHeartbeats 400000 in
set_option maxRecDepth 100000 in
/-- NewMac. -/
theorem newMac (h : Int) (v : Value) (key : List Int) (n cap : Nat) (a : Option Addr) (w : World) (k : Hid (Known h)) (hvn : v = .slice a n cap) (hn : (n : Int) ≤ 33554432) (hv : Hid (View w v key)) (hT : Hid (Tables w)) :
    Calls Tryd.prog 18 #[.int .i64 h, v] w fun e w' => ∃ g, e = .returned (.tuple #[.pointer (some ⟨g, 0, none⟩), .int .i64 0]) ∧ w.heap.size ≤ g ∧ MRep w' g h (stateOf h key 54) (stateOf h key 92) [] ∧ Below w.heap.size w w' := by
  subst hvn
  have HKL : Hid (key.length = n) := (view_bounds hv.out).1
  go_enter Tryd.func18, Tryd.ntmps18
  go_wp2_with (first | (go_at_call 48; refine (begin_any k.out w hT.out).mono ?_))
  rintro e1 w1 ⟨rfl, hb1⟩
  obtain ⟨T, HTT⟩ : ∃ T : List Value, Hid (T = tkL h (wdOf h) (firstE h) (fun _ => 0) 0) := ⟨_, (show _ = _ from rfl)⟩
  rw [← HTT.out]
  have HG : Hid (TkBig T) := by show TkBig T; rw [HTT.out]; exact tkBig _ _ _ _ _
  have HB1 : Hid (Below w.heap.size w w1) := hb1
  have HX : Hid ((w1.alloc (.cells Tryd.zeroCells71 71)).there w1.heap.size 0 139) := there_new w1 Tryd.zeroCells71 71 139 (by rw [cells71z, size71z]; exact Nat.le_refl _)
  clear hb1
  go_upto_region 6 with (first
    | (refine wpList_store_mid (by rfl) 71 (.tmp 6) (.tmp 13) (by rfl) w1.heap.size 0 T.toArray (by rfl) (by rfl) (by rw [HG.out.size]; exact HX.out) HG.out.info HG.out.one ?_)
    | fail)
  have HR2 : Hid (((w1.alloc (.cells Tryd.zeroCells71 71)).setCells w1.heap.size 0 T).rangeAt w1.heap.size 0 T ∧ ((w1.alloc (.cells Tryd.zeroCells71 71)).setCells w1.heap.size 0 T).heap.size = w1.heap.size + 1) := ⟨World.rangeAt_setCells_same _ _ _ _ (by rw [HG.out.len]; exact HX.out), by rw [size_setCells]; simp⟩
  have HB2 : Hid (Below w.heap.size w ((w1.alloc (.cells Tryd.zeroCells71 71)).setCells w1.heap.size 0 T)) := below_setCells _ HB1.out.size _ _ _ (HB1.out.alloc HB1.out.size _)
  generalize (w1.alloc (.cells Tryd.zeroCells71 71)).setCells w1.heap.size 0 T = w2 at HR2 HB2 ⊢
  have HA : Hid (Calls Tryd.prog 49 #[.agg T.toArray, .slice a n cap] w2 fun e w' => e = .returned (.agg (keyCells (keyOf h key)).toArray) ∧ Below w2.heap.size w2 w') := by
    show Calls _ _ _ _ _
    rw [HTT.out]
    exact keyBlock_any h _ key w2 k.out (hv.out.kept (fun q hq => HB2.out.block q hq)) (hT.out.below HB2.out hT.out.size) (by rw [HKL.out]; omega)
  clear HX
  go_wp2_with (first
    | (refine wpList_load_mid (by rfl) 71 (.tmp 6) (by rfl) w1.heap.size 0 (by rfl) T _ HR2.out.1 Tryd.underlying71 rfl (by rw [HG.out.len]; exact size71) ?_)
    | (go_at_call 49; refine HA.out.mono ?_))
  rintro e3 w3 ⟨rfl, hb3⟩
  obtain ⟨Y, HYY⟩ : ∃ Y : List Value, Hid (Y = keyCells (keyOf h key)) := ⟨_, (show _ = _ from rfl)⟩
  rw [← HYY.out]
  have HGY : Hid (KbBig Y) := by show KbBig Y; rw [HYY.out]; exact kbBig _
  have HB3 : Hid (Below w.heap.size w w3 ∧ w3.rangeAt w1.heap.size 0 T ∧ w1.heap.size < w3.heap.size) := ⟨HB2.out.trans (hb3.mono HB2.out.size), range_below HR2.out.1 hb3 (by rw [HR2.out.2]; omega), by have := hb3.size; have := HR2.out.2; omega⟩
  have HX3 : Hid ((w3.alloc (.cells Tryd.zeroCells69 69)).there w3.heap.size 0 128) := there_new w3 Tryd.zeroCells69 69 128 (by rw [zero69]; simp)
  clear hb3 HA
  go_upto_region 7 with (first
    | (refine wpList_store_mid (by rfl) 69 (.tmp 8) (.tmp 23) (by rfl) w3.heap.size 0 Y.toArray (by rfl) (by rfl) (by rw [HGY.out.size]; exact HX3.out) HGY.out.info HGY.out.one ?_)
    | fail)
  have HR4 : Hid (((w3.alloc (.cells Tryd.zeroCells69 69)).setCells w3.heap.size 0 Y).rangeAt w3.heap.size 0 Y ∧ ((w3.alloc (.cells Tryd.zeroCells69 69)).setCells w3.heap.size 0 Y).heap.size = w3.heap.size + 1) := ⟨World.rangeAt_setCells_same _ _ _ _ (by rw [HGY.out.len]; exact HX3.out), by rw [size_setCells]; simp⟩
  have HB4 : Hid (Below w3.heap.size w3 ((w3.alloc (.cells Tryd.zeroCells69 69)).setCells w3.heap.size 0 Y)) := below_setCells _ (Nat.le_refl _) _ _ _ ((Below.refl _ _).alloc (Nat.le_refl _) _)
  generalize (w3.alloc (.cells Tryd.zeroCells69 69)).setCells w3.heap.size 0 Y = w4 at HR4 HB4 ⊢
  have HT4 : Hid (w4.rangeAt w1.heap.size 0 T) := range_below HB3.out.2.1 HB4.out HB3.out.2.2
  have HB4' : Hid (Below w.heap.size w w4) := HB3.out.1.trans (HB4.out.mono HB3.out.1.size)
  have HTab : Hid (Tables w4) := hT.out.below HB4'.out hT.out.size
  have HL4 : Hid (w1.heap.size < w4.heap.size ∧ w3.heap.size < w4.heap.size) := ⟨by have := HB3.out.2.2; have := HR4.out.2; omega, by have := HR4.out.2; omega⟩
  obtain ⟨E1, HE1⟩ : ∃ E : Eight, Hid (E = stateOf h key 54) := ⟨_, (show _ = _ from rfl)⟩
  obtain ⟨E2, HE2⟩ : ∃ E : Eight, Hid (E = stateOf h key 92) := ⟨_, (show _ = _ from rfl)⟩
  have H54 : Hid (∀ u, Tables u → Calls Tryd.prog 50 #[.agg T.toArray, .agg Y.toArray, .int .u8 54] u fun e w' => e = .returned (.agg E1.cells.toArray) ∧ Below u.heap.size u w') := fun u hu => by
    rw [HTT.out, HYY.out, HE1.out]; exact behind_any (wdOf h) h (firstE h) (fun _ => 0) 0 (keyOf h key) 54 u k.out.block hu
  have H92 : Hid (∀ u, Tables u → Calls Tryd.prog 50 #[.agg T.toArray, .agg Y.toArray, .int .u8 92] u fun e w' => e = .returned (.agg E2.cells.toArray) ∧ Below u.heap.size u w') := fun u hu => by
    rw [HTT.out, HYY.out, HE2.out]; exact behind_any (wdOf h) h (firstE h) (fun _ => 0) 0 (keyOf h key) 92 u k.out.block hu
  have HSB : Hid (∀ u, Below w4.heap.size w4 u → u.rangeAt w1.heap.size 0 T ∧ u.rangeAt w3.heap.size 0 Y) := fun u hb => ⟨range_below HT4.out hb HL4.out.1, range_below HR4.out.1 hb HL4.out.2⟩
  have hu71 := Tryd.underlying71
  have hi71 : (Tryd.prog.info? 71).map (·.size) = some T.length := by rw [HG.out.len]; exact size71
  have hu69 := Tryd.underlying69
  have hi69 : (Tryd.prog.info? 69).map (·.size) = some Y.length := by rw [HGY.out.len]; exact size69
  have hlen := HG.out.len
  have HBT : Hid (Tryd.prog.built 73 [(0, .agg T.toArray), (1, .agg E1.cells.toArray), (2, .agg E2.cells.toArray)] = some (T ++ (E1.cells ++ E2.cells)).toArray) := by show _ = _; rw [HTT.out]; exact built73 _ _ _ _ _ _ _
  clear hlen
  refine wp_region_noPanic ?_
  refine wp_region_held_drew (S := fun u => Below w4.heap.size w4 u) (by kernel_rfl) ((Below.refl _ _).drew) (fun _ => ?_)
  refine takeH_at 0 24 (.agg T.toArray) rfl rfl (by kernel_rfl) (by kernel_rfl) (by kernel_rfl) (fun _ _ _ h => h) ((Below.refl _ _).drew) (yieldsIf_load_mid (by rfl) 71 (.tmp 6) rfl w1.heap.size 0 rfl T _ (fun u hu => (HSB.out u hu).1) Tryd.underlying71 rfl hi71) ?_
  simp only [List.setIfInBounds_toArray, List.set_cons_zero, List.set_cons_succ]
  refine takeH_at 1 25 (.agg T.toArray) rfl rfl (by kernel_rfl) (by kernel_rfl) (by kernel_rfl) (fun _ _ _ h => h) ((Below.refl _ _).drew) (yieldsIf_load_mid (by rfl) 71 (.tmp 6) rfl w1.heap.size 0 rfl T _ (fun u hu => (HSB.out u hu).1) Tryd.underlying71 rfl hi71) ?_
  simp only [List.setIfInBounds_toArray, List.set_cons_zero, List.set_cons_succ]
  refine takeH_at 2 26 (.agg Y.toArray) rfl rfl (by kernel_rfl) (by kernel_rfl) (by kernel_rfl) (fun _ _ _ h => h) ((Below.refl _ _).drew) (yieldsIf_load_mid (by rfl) 69 (.tmp 8) rfl w3.heap.size 0 rfl Y _ (fun u hu => (HSB.out u hu).2) Tryd.underlying69 rfl hi69) ?_
  simp only [List.setIfInBounds_toArray, List.set_cons_zero, List.set_cons_succ]
  refine takeH_at 4 28 (.agg T.toArray) rfl rfl (by kernel_rfl) (by kernel_rfl) (by kernel_rfl) (fun _ _ _ h => h) ((Below.refl _ _).drew) (yieldsIf_load_mid (by rfl) 71 (.tmp 6) rfl w1.heap.size 0 rfl T _ (fun u hu => (HSB.out u hu).1) Tryd.underlying71 rfl hi71) ?_
  simp only [List.setIfInBounds_toArray, List.set_cons_zero, List.set_cons_succ]
  refine takeH_at 5 29 (.agg Y.toArray) rfl rfl (by kernel_rfl) (by kernel_rfl) (by kernel_rfl) (fun _ _ _ h => h) ((Below.refl _ _).drew) (yieldsIf_load_mid (by rfl) 69 (.tmp 8) rfl w3.heap.size 0 rfl Y _ (fun u hu => (HSB.out u hu).2) Tryd.underlying69 rfl hi69) ?_
  simp only [List.setIfInBounds_toArray, List.set_cons_zero, List.set_cons_succ]
  refine wpAnyH_ready (rs := [3]) (by kernel_rfl) (by simp) ?_
  refine AllReadyH.cons rfl (fun K hK => ?_) AllReadyH.nil
  go_simp
  refine (H54.out w4.drew ((Sm.refl w4).drew.tables HTab.out)).mono ?_
  rintro e8 w8 ⟨rfl, hb8⟩
  have hB8 : Below w4.heap.size w4 w8 := ((Below.refl w4.heap.size w4).drew).trans (hb8.mono (Nat.le_refl _))
  clear hb8
  go_wp2_with fail
  refine hK.out _ _ hB8 (fun _ => ?_)
  clear hK K
  try simp only [List.setIfInBounds_toArray, List.set_cons_zero, List.set_cons_succ]
  refine wpAnyH_ready (rs := [6]) (by kernel_rfl) (by simp) ?_
  refine AllReadyH.cons rfl (fun K hK => ?_) AllReadyH.nil
  go_simp
  refine (H92.out w8 (HTab.out.below hB8 HTab.out.size)).mono ?_
  rintro e9 w9 ⟨rfl, hb9⟩
  have hB9 : Below w4.heap.size w4 w9 := hB8.trans (hb9.mono hB8.size)
  clear hb9
  go_wp2_with fail
  refine hK.out _ _ hB9 (fun _ => ?_)
  clear hK K
  try simp only [List.setIfInBounds_toArray, List.set_cons_zero, List.set_cons_succ]
  refine takeH_at 7 31 (.agg (T ++ (E1.cells ++ E2.cells)).toArray) rfl rfl (by kernel_rfl) (by kernel_rfl) (by kernel_rfl) (fun _ _ _ h => h) (hB9) (yieldsIf_build (by rfl) 73 #[(0, .tmp 24), (1, .tmp 27), (2, .tmp 30)] rfl _ (by simp only [List.map_toArray, List.map_cons, List.map_nil]; exact HBT.out)) ?_
  simp only [List.setIfInBounds_toArray, List.set_cons_zero, List.set_cons_succ]
  refine wpAnyH_ready (rs := [8]) (by kernel_rfl) (by simp) ?_
  refine AllReadyH.cons rfl (fun K hK => ?_) AllReadyH.nil
  go_simp
  have hB10 : Below w4.heap.size w4 (w9.alloc (.cells (T ++ (E1.cells ++ E2.cells)).toArray 73)) := hB9.alloc hB9.size _
  refine hK.out _ _ hB10 (fun _ => ?_)
  clear hK K
  try simp only [List.setIfInBounds_toArray, List.set_cons_zero, List.set_cons_succ]
  refine takeH_at 9 9 (.pointer (some ⟨w9.heap.size, 0, none⟩)) rfl rfl (by kernel_rfl) (by kernel_rfl) (by kernel_rfl) (fun _ _ _ h => h) (hB10) (Or.inl ⟨by rfl, fun w' hS' => by go_simp⟩) ?_
  simp only [List.setIfInBounds_toArray, List.set_cons_zero, List.set_cons_succ]
  refine wpAnyH_done (by kernel_rfl) ?_ _
  refine NoPanic.normal ?_
  have HX10 : Hid (TK (w9.alloc (.cells (T ++ (E1.cells ++ E2.cells)).toArray 73)) w9.heap.size 0 h (wdOf h) (firstE h) (fun _ => 0) 0 ∧ MacAt (w9.alloc (.cells (T ++ (E1.cells ++ E2.cells)).toArray 73)) w9.heap.size E1 E2) := by
    have hr := rangeAt_new w9 (T ++ (E1.cells ++ E2.cells)).toArray 73
    have hsz : (T ++ (E1.cells ++ E2.cells)).toArray.size = 155 := by have := HG.out.len; simp [Eight.cells_length]; omega
    have ht := there_new w9 (T ++ (E1.cells ++ E2.cells)).toArray 73 155 (by rw [hsz]; exact Nat.le_refl _)
    have hX : T ++ (E1.cells ++ E2.cells) = mkL h (wdOf h) (firstE h) (fun _ => 0) 0 E1 E2 := by rw [HTT.out]; rfl
    refine mk_of ?_ ht
    rw [← hX]
    exact hr
  have HB10 : Hid (Below w.heap.size w (w9.alloc (.cells (T ++ (E1.cells ++ E2.cells)).toArray 73)) ∧ w.heap.size ≤ w9.heap.size) := ⟨HB4'.out.trans (hB10.mono HB4'.out.size), Nat.le_trans HB4'.out.size hB9.size⟩
  generalize w9.alloc (.cells (T ++ (E1.cells ++ E2.cells)).toArray 73) = w10 at HX10 HB10 hB10 ⊢
  have HA : Hid (Calls Tryd.prog 47 #[.pointer (some ⟨w9.heap.size, 0, none⟩), .agg E1.cells.toArray] w10 fun e w' => e = .returned (.tuple #[]) ∧ Touch w10 w' w9.heap.size 0 139 ∧ TK w' w9.heap.size 0 h (wdOf h) E1 (fun _ => 0) (bsz (wdOf h))) := restart_any w9.heap.size h (firstE h) E1 (fun _ => 0) 0 w10 k HX10.out.1
  clear hB10 hB9 hB8 hu71 hi71 hu69 hi69
  go_wp2_with (first
    | (refine wpList_load_mid (by rfl) 68 (.tmp 36) (by rfl) w9.heap.size 139 (by rfl) E1.cells _ HX10.out.2.inner Tryd.underlying68 rfl size68 ?_)
    | (go_at_call 47; refine HA.out.mono ?_; rintro e11 w11 ⟨rfl, ht11, hk11⟩)
    | fail)
  go_ret2
  refine ⟨w9.heap.size, rfl, HB10.out.2, ⟨?_, ?_⟩, HB10.out.1.trans (ht11.toBelow HB10.out.2 HB10.out.1.size)⟩
  · rw [← HE1.out]
    exact rep_nil hk11 (Nat.mod_self _)
  · rw [← HE1.out, ← HE2.out]
    exact HX10.out.2.touch ht11

end Go.Proofs.YtioggmjocelolabDoor
