import Derived.Test.YtcnikfikpnnblaaGreatDoorPart20
import Derived.Test.YtcnikfikpnnblaaGreatDoorDgWords
import Derived.Laws.EntriesVeiled
import Derived.Deep.Cut
namespace Go.Proofs.YtcnikfikpnnblaaGreatDoor.Dg
open Go.RowKit
set_option linter.unusedVariables false
set_option linter.unusedSimpArgs false

theorem tkOf_at (h : Int) : (tkOf h)[0]? = some (.int .i64 h) ∧ (tkOf h)[1]? = some .nilFunc ∧ (∀ i, i < 128 → (tkOf h)[10 + i]? = some (.int .u8 0)) ∧ (tkOf h)[138]? = some (.int .u64 0) := by
 refine ⟨rfl, rfl, ?_, rfl⟩
 intro i hi
 have e : (tkOf h)[10 + i]? = (List.replicate 128 (Value.int .u8 0) ++ [.int .u64 0])[i]? := by
  rw [tkOf, tkCells, show 10 + i = ((8 + i) + 1) + 1 by omega, List.getElem?_cons_succ, List.getElem?_cons_succ, List.getElem?_append_right (by simp), List.map_replicate]
  rw [List.length_map, List.length_replicate, show 8 + i - 8 = i by omega]
 rw [e, List.getElem?_append_left (by rw [List.length_replicate]; exact hi), List.getElem?_replicate, if_pos hi]
/-- A taken that is put together: the digest's number, then the function, then the words. -/
theorem tk_put {W V : World} {L : Nat} (h : Int) (wd : Bool) (E : Eight) (hr : W.rangeAt L 0 (tkOf h)) (ht : W.there L 0 139) (hb : ∀ j, V.cell? ⟨L, j, none⟩ = (W.setCell ⟨L, 1, none⟩ (fnV wd)).cell? ⟨L, j, none⟩) (htV : V.there L 0 139) :
  (V.setCells L 2 E.cells).rangeAt L 0 (tkL h wd E (fun _ => 0) 0) := by
 obtain ⟨h0, h1, h2, h3, h4⟩ := tkL_at h wd E (fun _ => 0) 0
 obtain ⟨k0, k1, k3, k4⟩ := tkOf_at h
 have hout : ∀ j, (j < 2 ∨ 10 ≤ j) → (V.setCells L 2 E.cells).cell? ⟨L, j, none⟩ = V.cell? ⟨L, j, none⟩ := fun j hj => World.cell?_setCells_out L E.cells 2 V ⟨L, j, none⟩ (fun _ _ => by rcases hj with hj | hj; exact .inl hj; exact .inr hj)
 have hout1 : ∀ j, j ≠ 1 → (W.setCell ⟨L, 1, none⟩ (fnV wd)).cell? ⟨L, j, none⟩ = W.cell? ⟨L, j, none⟩ := fun j hj => World.cell?_setCells_out L [fnV wd] 1 W ⟨L, j, none⟩ (fun _ _ => by show j < 1 ∨ 1 + 1 ≤ j; omega)
 intro j v hv
 have hj : j < 139 := by
  by_cases hj : j < 139
  ·exact hj
  ·rw [List.getElem?_eq_none (by rw [tkL_length]; omega)] at hv; cases hv
 rw [Nat.zero_add]
 by_cases j0 : j = 0
 ·subst j0; rw [h0] at hv; cases hv; rw [hout 0 (by omega), hb, hout1 0 (by omega)]; exact hr 0 _ k0
 by_cases j1 : j = 1
 ·subst j1; rw [h1] at hv; cases hv; rw [hout 1 (by omega), hb]; exact World.cell?_setCell_same' _ _ _ (ht 1 (by omega)).1
 by_cases j2 : j < 10
 ·obtain ⟨i, rfl⟩ : ∃ i, j = 2 + i := ⟨j - 2, by omega⟩
  rw [h2 i (by omega)] at hv
  exact World.rangeAt_setCells_same V L 2 E.cells (fun j hj => by have := htV (2 + j) (by have : E.cells.length = 8 := rfl; omega); rw [Nat.zero_add] at this; exact this) i v hv
 by_cases j3 : j < 138
 ·obtain ⟨i, rfl⟩ : ∃ i, j = 10 + i := ⟨j - 10, by omega⟩
  rw [h3 i (by omega)] at hv
  cases hv
  rw [hout _ (by omega), hb, hout1 _ (by omega)]
  have := hr (10 + i) _ (k3 i (by omega))
  rw [Nat.zero_add] at this
  exact this
 ·obtain rfl : j = 138 := by omega
  rw [h4] at hv; cases hv; rw [hout _ (by omega), hb, hout1 _ (by omega)]; exact hr 138 _ k4

set_option maxHeartbeats 600000 in
set_option maxRecDepth 100000 in
theorem begin_good64 (h : Int) (w : World) (hblk : blockOf h = 64) (hfw : Hid (∀ v, Tables v → Calls Tryz.prog 263 #[.int .i64 h] v fun e w' => e = .returned (.agg (firstE h).cells.toArray) ∧ Below v.heap.size v w')) (hT : Hid (Tables w)) :
  Calls Tryz.prog 236 #[.int .i64 h] w fun e w' => e = .returned (.tuple #[.agg (tkL h false (firstE h) (fun _ => 0) 0).toArray, .int .i64 0]) ∧ Below w.heap.size w w' := by
 have e71 := cells71 h
 have hz : Tryz.zeroCells274.size = 139 := by rw [cells71z]; exact size71z
 have ht : ((w.alloc (.cells Tryz.zeroCells274 274)).alloc (.cells Tryz.zeroCells274 274)).there (w.heap.size + 1) 0 139 := by
  simpa using there_new (w.alloc (.cells Tryz.zeroCells274 274)) Tryz.zeroCells274 274 139 (by rw [hz]; exact Nat.le_refl _)
 have HT : Hid (((w.alloc (.cells Tryz.zeroCells274 274)).alloc (.cells Tryz.zeroCells274 274)).there (w.heap.size + 1) 0 139) := ht
 clear hz ht
 go_enter Tryz.func236, Tryz.ntmps236
 go_wp2_with (first
  | (refine wpList_store_mid (by rfl) 274 (.tmp 4) (.tmp 6) (by rfl) (w.heap.size + 1) 0 (tkOf h).toArray (by rfl) (by rfl) (by rw [size71a]; exact HT.out) (by rw [size71a]; exact size71) (tkOf_one h) ?_)
  | fail)
 refine (block_any h _).mono ?_
 rintro e w1 ⟨rfl, rfl⟩
 rw [hblk]
 have hb2 : Below w.heap.size w (((w.alloc (.cells Tryz.zeroCells274 274)).alloc (.cells Tryz.zeroCells274 274)).setCells (w.heap.size + 1) 0 (tkOf h)) :=
  below_setCells _ (by omega) _ _ _ (((Below.refl _ _).alloc (Nat.le_refl _) _).alloc (by simp) _)
 have ht2 : (((w.alloc (.cells Tryz.zeroCells274 274)).alloc (.cells Tryz.zeroCells274 274)).setCells (w.heap.size + 1) 0 (tkOf h)).there w.heap.size 0 139 :=
  World.there_setCells (World.there_alloc (there_new w Tryz.zeroCells274 274 139 (by rw [cells71z, size71z]; exact Nat.le_refl _)) _) _ _ _
 have ht3 : (((w.alloc (.cells Tryz.zeroCells274 274)).alloc (.cells Tryz.zeroCells274 274)).setCells (w.heap.size + 1) 0 (tkOf h)).there (w.heap.size + 1) 0 139 := World.there_setCells HT.out _ _ _
 have hr2 : (((w.alloc (.cells Tryz.zeroCells274 274)).alloc (.cells Tryz.zeroCells274 274)).setCells (w.heap.size + 1) 0 (tkOf h)).rangeAt (w.heap.size + 1) 0 (tkOf h) := World.rangeAt_setCells_same _ _ _ _ (by rw [tkOf_length]; exact HT.out)
 have hs2 : (((w.alloc (.cells Tryz.zeroCells274 274)).alloc (.cells Tryz.zeroCells274 274)).setCells (w.heap.size + 1) 0 (tkOf h)).heap.size = w.heap.size + 2 := by rw [size_setCells]; simp
 generalize (((w.alloc (.cells Tryz.zeroCells274 274)).alloc (.cells Tryz.zeroCells274 274)).setCells (w.heap.size + 1) 0 (tkOf h)) = W2 at hb2 ht2 ht3 hr2 hs2 ⊢
 have HB2 : Hid (Below w.heap.size w W2 ∧ W2.there w.heap.size 0 139 ∧ W2.there (w.heap.size + 1) 0 139 ∧ W2.rangeAt (w.heap.size + 1) 0 (tkOf h) ∧ W2.heap.size = w.heap.size + 2) := ⟨hb2, ht2, ht3, hr2, hs2⟩
 have c1 : W2.cell? ⟨w.heap.size + 1, 1, none⟩ = some .nilFunc := hr2 1 _ rfl
 have f1 : W2.frozen? ⟨w.heap.size + 1, 1, none⟩ = false := (ht3 1 (by omega)).2
 clear hb2 ht2 ht3 hr2 hs2 HT e71
 go_wp2_with (first
  | (go_at_call 263; refine (hfw.out _ ?_).mono ?_)
  | fail)
 ·exact ((hT.out.below HB2.out.1 hT.out.size).kept fun k hk => World.heap_setCells_other W2 (w.heap.size + 1) 1 [_] (by have := hT.out.size; have := HB2.out.2.2.2.2; omega) (by have := hT.out.size; omega))
 rintro e5 w5 ⟨rfl, hb5⟩
 obtain ⟨E, HE⟩ : ∃ E : Eight, Hid (E = firstE h) := ⟨_, rfl⟩
 rw [← HE.out]
 have hsz : (W2.setCell ⟨w.heap.size + 1, 1, none⟩ (fnV false)).heap.size = w.heap.size + 2 := (size_setCells (w.heap.size + 1) [fnV false] 1 W2).trans HB2.out.2.2.2.2
 have hst := fun (b o n : Nat) (ht : W2.there b o n) => World.there_setCells ht (w.heap.size + 1) 1 [fnV false]
 have hb5' : Below (w.heap.size + 2) (W2.setCell ⟨w.heap.size + 1, 1, none⟩ (fnV false)) w5 := by rw [← hsz]; exact hb5
 have hth : ∀ b n, b < w.heap.size + 2 → W2.there b 0 n → w5.there b 0 n := fun b n hb ht j hj => by
  rw [hb5'.cell (p := ⟨b, 0 + j, none⟩) hb, hb5'.frozen (p := ⟨b, 0 + j, none⟩) hb]
  exact hst b 0 n ht j hj
 have HB5 : Hid (Below w.heap.size w w5 ∧ w5.there w.heap.size 0 139 ∧ w5.there (w.heap.size + 1) 0 139) := ⟨(HB2.out.1.setCell (p := ⟨w.heap.size + 1, 1, none⟩) (by simp) _).trans (hb5'.mono (by omega)), hth _ _ (by omega) HB2.out.2.1, hth _ _ (by omega) HB2.out.2.2.1⟩
 have hr5 := tk_put h false E HB2.out.2.2.2.1 HB2.out.2.2.1 (fun j => hb5'.cell (p := ⟨w.heap.size + 1, j, none⟩) (by simp)) HB5.out.2.2
 have HR5 : Hid ((w5.setCells (w.heap.size + 1) 2 E.cells).rangeAt (w.heap.size + 1) 0 (tkL h false E (fun _ => 0) 0)) := hr5
 have HX : Hid (w5.there (w.heap.size + 1) 2 E.cells.toArray.size) := fun j hj => by
  have := HB5.out.2.2 (2 + j) (by have : E.cells.toArray.size = 8 := rfl; omega)
  rw [Nat.zero_add] at this
  exact this
 have HZ : Hid ((Tryz.prog.info? 271).map (·.size) = some E.cells.toArray.size) := size68
 clear hr5 hth hb5' hst hsz hb5 HB2 c1 f1
 go_upto_region 9 with (first
  | (refine wpList_store_mid (by rfl) 271 (.tmp 18) (.tmp 17) (by rfl) (w.heap.size + 1) 2 E.cells.toArray (by rfl) (by rfl) HX.out HZ.out (cellsE_one E) ?_)
  | fail)
 have HB6 : Hid (Below w.heap.size w (w5.setCells (w.heap.size + 1) 2 E.cells) ∧ (w5.setCells (w.heap.size + 1) 2 E.cells).there w.heap.size 0 139) := ⟨below_setCells _ (by omega) _ _ _ HB5.out.1, World.there_setCells HB5.out.2.1 _ _ _⟩
 generalize w5.setCells (w.heap.size + 1) 2 E.cells = w6 at HR5 HB6 ⊢
 obtain ⟨T, HTT⟩ : ∃ T : List Value, Hid (T = tkL h false E (fun _ => 0) 0) := ⟨_, rfl⟩
 rw [← HTT.out] at HR5
 have HLA : Hid (T.toArray.size = 139) := by show _ = _; rw [HTT.out]; exact tkArr_size _ _ _ _ _
 have HL : Hid (T.length = 139) := by rw [HTT.out]; exact tkL_length _ _ _ _ _
 have HY : Hid (w6.there w.heap.size 0 T.toArray.size) := by rw [HLA.out]; exact HB6.out.2
 have HZ6 : Hid ((Tryz.prog.info? 274).map (·.size) = some T.toArray.size) := by rw [HLA.out]; exact size71
 have HO : Hid (T.toArray.all (·.oneCell') = true) := by rw [HTT.out]; exact tkL_one _ _ _ _ _
 clear HB5
 go_wp2_with (first
  | (refine wpList_load_mid (by rfl) 274 (.tmp 4) (by rfl) (w.heap.size + 1) 0 (by rfl) T _ HR5.out Tryz.underlying274 rfl (by rw [HL.out]; exact size71) ?_)
  | (refine wpList_store_mid (by rfl) 274 (.tmp 2) (.tmp 19) (by rfl) w.heap.size 0 T.toArray (by rfl) (by rfl) HY.out HZ6.out HO.out ?_)
  | fail)
 have hl := run_loadVar_mid (P := Tryz.prog) (w6.setCells w.heap.size 0 T) w.heap.size 0 274 T _ (World.rangeAt_setCells_same w6 w.heap.size 0 T (by rw [HL.out]; exact HB6.out.2)) Tryz.underlying274 rfl (by rw [HL.out]; exact size71)
 refine bodyPost_ret (v := .tuple #[.agg T.toArray, .int .i64 0]) ?_ rfl ⟨by rw [HTT.out, HE.out], below_setCells _ (Nat.le_refl _) _ _ _ HB6.out.1⟩
 rw [results_cell_tmp Tryz.results236]
 simp [asAddr, hl]

set_option maxHeartbeats 600000 in
set_option maxRecDepth 100000 in
theorem begin_good128 (h : Int) (w : World) (hblk : blockOf h = 128) (hfw : Hid (∀ v, Tables v → Calls Tryz.prog 263 #[.int .i64 h] v fun e w' => e = .returned (.agg (firstE h).cells.toArray) ∧ Below v.heap.size v w')) (hT : Hid (Tables w)) :
  Calls Tryz.prog 236 #[.int .i64 h] w fun e w' => e = .returned (.tuple #[.agg (tkL h true (firstE h) (fun _ => 0) 0).toArray, .int .i64 0]) ∧ Below w.heap.size w w' := by
 have e71 := cells71 h
 have hz : Tryz.zeroCells274.size = 139 := by rw [cells71z]; exact size71z
 have ht : ((w.alloc (.cells Tryz.zeroCells274 274)).alloc (.cells Tryz.zeroCells274 274)).there (w.heap.size + 1) 0 139 := by
  simpa using there_new (w.alloc (.cells Tryz.zeroCells274 274)) Tryz.zeroCells274 274 139 (by rw [hz]; exact Nat.le_refl _)
 have HT : Hid (((w.alloc (.cells Tryz.zeroCells274 274)).alloc (.cells Tryz.zeroCells274 274)).there (w.heap.size + 1) 0 139) := ht
 clear hz ht
 go_enter Tryz.func236, Tryz.ntmps236
 go_wp2_with (first
  | (refine wpList_store_mid (by rfl) 274 (.tmp 4) (.tmp 6) (by rfl) (w.heap.size + 1) 0 (tkOf h).toArray (by rfl) (by rfl) (by rw [size71a]; exact HT.out) (by rw [size71a]; exact size71) (tkOf_one h) ?_)
  | fail)
 refine (block_any h _).mono ?_
 rintro e w1 ⟨rfl, rfl⟩
 rw [hblk]
 have hb2 : Below w.heap.size w (((w.alloc (.cells Tryz.zeroCells274 274)).alloc (.cells Tryz.zeroCells274 274)).setCells (w.heap.size + 1) 0 (tkOf h)) :=
  below_setCells _ (by omega) _ _ _ (((Below.refl _ _).alloc (Nat.le_refl _) _).alloc (by simp) _)
 have ht2 : (((w.alloc (.cells Tryz.zeroCells274 274)).alloc (.cells Tryz.zeroCells274 274)).setCells (w.heap.size + 1) 0 (tkOf h)).there w.heap.size 0 139 :=
  World.there_setCells (World.there_alloc (there_new w Tryz.zeroCells274 274 139 (by rw [cells71z, size71z]; exact Nat.le_refl _)) _) _ _ _
 have ht3 : (((w.alloc (.cells Tryz.zeroCells274 274)).alloc (.cells Tryz.zeroCells274 274)).setCells (w.heap.size + 1) 0 (tkOf h)).there (w.heap.size + 1) 0 139 := World.there_setCells HT.out _ _ _
 have hr2 : (((w.alloc (.cells Tryz.zeroCells274 274)).alloc (.cells Tryz.zeroCells274 274)).setCells (w.heap.size + 1) 0 (tkOf h)).rangeAt (w.heap.size + 1) 0 (tkOf h) := World.rangeAt_setCells_same _ _ _ _ (by rw [tkOf_length]; exact HT.out)
 have hs2 : (((w.alloc (.cells Tryz.zeroCells274 274)).alloc (.cells Tryz.zeroCells274 274)).setCells (w.heap.size + 1) 0 (tkOf h)).heap.size = w.heap.size + 2 := by rw [size_setCells]; simp
 generalize (((w.alloc (.cells Tryz.zeroCells274 274)).alloc (.cells Tryz.zeroCells274 274)).setCells (w.heap.size + 1) 0 (tkOf h)) = W2 at hb2 ht2 ht3 hr2 hs2 ⊢
 have HB2 : Hid (Below w.heap.size w W2 ∧ W2.there w.heap.size 0 139 ∧ W2.there (w.heap.size + 1) 0 139 ∧ W2.rangeAt (w.heap.size + 1) 0 (tkOf h) ∧ W2.heap.size = w.heap.size + 2) := ⟨hb2, ht2, ht3, hr2, hs2⟩
 have c1 : W2.cell? ⟨w.heap.size + 1, 1, none⟩ = some .nilFunc := hr2 1 _ rfl
 have f1 : W2.frozen? ⟨w.heap.size + 1, 1, none⟩ = false := (ht3 1 (by omega)).2
 clear hb2 ht2 ht3 hr2 hs2 HT e71
 go_wp2_with (first
  | (go_at_call 263; refine (hfw.out _ ?_).mono ?_)
  | fail)
 ·exact ((hT.out.below HB2.out.1 hT.out.size).kept fun k hk => World.heap_setCells_other W2 (w.heap.size + 1) 1 [_] (by have := hT.out.size; have := HB2.out.2.2.2.2; omega) (by have := hT.out.size; omega))
 rintro e5 w5 ⟨rfl, hb5⟩
 obtain ⟨E, HE⟩ : ∃ E : Eight, Hid (E = firstE h) := ⟨_, rfl⟩
 rw [← HE.out]
 have hsz : (W2.setCell ⟨w.heap.size + 1, 1, none⟩ (fnV true)).heap.size = w.heap.size + 2 := (size_setCells (w.heap.size + 1) [fnV true] 1 W2).trans HB2.out.2.2.2.2
 have hst := fun (b o n : Nat) (ht : W2.there b o n) => World.there_setCells ht (w.heap.size + 1) 1 [fnV true]
 have hb5' : Below (w.heap.size + 2) (W2.setCell ⟨w.heap.size + 1, 1, none⟩ (fnV true)) w5 := by rw [← hsz]; exact hb5
 have hth : ∀ b n, b < w.heap.size + 2 → W2.there b 0 n → w5.there b 0 n := fun b n hb ht j hj => by
  rw [hb5'.cell (p := ⟨b, 0 + j, none⟩) hb, hb5'.frozen (p := ⟨b, 0 + j, none⟩) hb]
  exact hst b 0 n ht j hj
 have HB5 : Hid (Below w.heap.size w w5 ∧ w5.there w.heap.size 0 139 ∧ w5.there (w.heap.size + 1) 0 139) := ⟨(HB2.out.1.setCell (p := ⟨w.heap.size + 1, 1, none⟩) (by simp) _).trans (hb5'.mono (by omega)), hth _ _ (by omega) HB2.out.2.1, hth _ _ (by omega) HB2.out.2.2.1⟩
 have hr5 := tk_put h true E HB2.out.2.2.2.1 HB2.out.2.2.1 (fun j => hb5'.cell (p := ⟨w.heap.size + 1, j, none⟩) (by simp)) HB5.out.2.2
 have HR5 : Hid ((w5.setCells (w.heap.size + 1) 2 E.cells).rangeAt (w.heap.size + 1) 0 (tkL h true E (fun _ => 0) 0)) := hr5
 have HX : Hid (w5.there (w.heap.size + 1) 2 E.cells.toArray.size) := fun j hj => by
  have := HB5.out.2.2 (2 + j) (by have : E.cells.toArray.size = 8 := rfl; omega)
  rw [Nat.zero_add] at this
  exact this
 have HZ : Hid ((Tryz.prog.info? 271).map (·.size) = some E.cells.toArray.size) := size68
 clear hr5 hth hb5' hst hsz hb5 HB2 c1 f1
 go_upto_region 9 with (first
  | (refine wpList_store_mid (by rfl) 271 (.tmp 18) (.tmp 17) (by rfl) (w.heap.size + 1) 2 E.cells.toArray (by rfl) (by rfl) HX.out HZ.out (cellsE_one E) ?_)
  | fail)
 have HB6 : Hid (Below w.heap.size w (w5.setCells (w.heap.size + 1) 2 E.cells) ∧ (w5.setCells (w.heap.size + 1) 2 E.cells).there w.heap.size 0 139) := ⟨below_setCells _ (by omega) _ _ _ HB5.out.1, World.there_setCells HB5.out.2.1 _ _ _⟩
 generalize w5.setCells (w.heap.size + 1) 2 E.cells = w6 at HR5 HB6 ⊢
 obtain ⟨T, HTT⟩ : ∃ T : List Value, Hid (T = tkL h true E (fun _ => 0) 0) := ⟨_, rfl⟩
 rw [← HTT.out] at HR5
 have HLA : Hid (T.toArray.size = 139) := by show _ = _; rw [HTT.out]; exact tkArr_size _ _ _ _ _
 have HL : Hid (T.length = 139) := by rw [HTT.out]; exact tkL_length _ _ _ _ _
 have HY : Hid (w6.there w.heap.size 0 T.toArray.size) := by rw [HLA.out]; exact HB6.out.2
 have HZ6 : Hid ((Tryz.prog.info? 274).map (·.size) = some T.toArray.size) := by rw [HLA.out]; exact size71
 have HO : Hid (T.toArray.all (·.oneCell') = true) := by rw [HTT.out]; exact tkL_one _ _ _ _ _
 clear HB5
 go_wp2_with (first
  | (refine wpList_load_mid (by rfl) 274 (.tmp 4) (by rfl) (w.heap.size + 1) 0 (by rfl) T _ HR5.out Tryz.underlying274 rfl (by rw [HL.out]; exact size71) ?_)
  | (refine wpList_store_mid (by rfl) 274 (.tmp 2) (.tmp 19) (by rfl) w.heap.size 0 T.toArray (by rfl) (by rfl) HY.out HZ6.out HO.out ?_)
  | fail)
 have hl := run_loadVar_mid (P := Tryz.prog) (w6.setCells w.heap.size 0 T) w.heap.size 0 274 T _ (World.rangeAt_setCells_same w6 w.heap.size 0 T (by rw [HL.out]; exact HB6.out.2)) Tryz.underlying274 rfl (by rw [HL.out]; exact size71)
 refine bodyPost_ret (v := .tuple #[.agg T.toArray, .int .i64 0]) ?_ rfl ⟨by rw [HTT.out, HE.out], below_setCells _ (Nat.le_refl _) _ _ _ HB6.out.1⟩
 rw [results_cell_tmp Tryz.results236]
 simp [asAddr, hl]
end Go.Proofs.YtcnikfikpnnblaaGreatDoor.Dg
