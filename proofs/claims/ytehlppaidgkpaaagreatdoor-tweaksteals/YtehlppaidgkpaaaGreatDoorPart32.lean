import Derived.Test.YtehlppaidgkpaaaGreatDoorPart29
import Derived.Test.YtehlppaidgkpaaaGreatDoorDgWords
import Derived.Laws.EntriesVeiled
import Derived.Deep.Cut
import Derived.Test.YtehlppaidgkpaaaGreatDoorPart25
import Derived.Test.YtehlppaidgkpaaaGreatDoorEnc
import Derived.Test.YtehlppaidgkpaaaGreatDoorPart01
import Derived.Conc.RwLone
import Derived.Defers
namespace Go.Proofs.YtehlppaidgkpaaaGreatDoor.Dg
open Go.RowKit
set_option linter.unusedVariables false
set_option linter.unusedSimpArgs false

theorem tkOf_at (h : Int) : (tkOf h)[0]? = some (.int .i64 h) ∧ (tkOf h)[1]? = some .nilFunc ∧ (∀ i, i < 128 → (tkOf h)[10 + i]? = some (.int .u8 0)) ∧ (tkOf h)[138]? = some (.int .u64 0) := by
  refine ⟨rfl, rfl, ?_, rfl⟩
  intro i hi
  have e : (tkOf h)[10 + i]? = (List.replicate 128 (Value.int .u8 0) ++ [.int .u64 0])[i]? := by
    rw [tkOf, tkCells, show 10 + i = ((8 + i) + 1) + 1 by omega, List.getElem?_cons_succ, List.getElem?_cons_succ, List.getElem?_append_right (by simp), List.map_replicate]
    rw [List.length_map, List.length_replicate, show 8 + i - 8 = i by omega]
  rw [e, List.getElem?_append_left (by rw [List.length_replicate]; exact hi), List.getElem?_replicate, if_pos hi]
/-- A taken that is put together: the digest's number, then the function, then the words. -/
theorem tk_put {W V : World} {L : Nat} (h : Int) (wd : Bool) (E : Eight) (hr : W.rangeAt L 0 (tkOf h)) (ht : W.there L 0 139) (hb : ∀ j, V.cell? ⟨L, j, none⟩ = (W.setCell ⟨L, 1, none⟩ (fnV wd)).cell? ⟨L, j, none⟩) (htV : V.there L 0 139) :
    (V.setCells L 2 E.cells).rangeAt L 0 (tkL h wd E (fun _ => 0) 0) := by
  obtain ⟨h0, h1, h2, h3, h4⟩ := tkL_at h wd E (fun _ => 0) 0
  obtain ⟨k0, k1, k3, k4⟩ := tkOf_at h
  have hout : ∀ j, (j < 2 ∨ 10 ≤ j) → (V.setCells L 2 E.cells).cell? ⟨L, j, none⟩ = V.cell? ⟨L, j, none⟩ := fun j hj => World.cell?_setCells_out L E.cells 2 V ⟨L, j, none⟩ (fun _ _ => by rcases hj with hj | hj; exact .inl hj; exact .inr hj)
  have hout1 : ∀ j, j ≠ 1 → (W.setCell ⟨L, 1, none⟩ (fnV wd)).cell? ⟨L, j, none⟩ = W.cell? ⟨L, j, none⟩ := fun j hj => World.cell?_setCells_out L [fnV wd] 1 W ⟨L, j, none⟩ (fun _ _ => by show j < 1 ∨ 1 + 1 ≤ j; omega)
  intro j v hv
  have hj : j < 139 := by
    by_cases hj : j < 139
    · exact hj
    · rw [List.getElem?_eq_none (by rw [tkL_length]; omega)] at hv; cases hv
  rw [Nat.zero_add]
  by_cases j0 : j = 0
  · subst j0; rw [h0] at hv; cases hv; rw [hout 0 (by omega), hb, hout1 0 (by omega)]; exact hr 0 _ k0
  by_cases j1 : j = 1
  · subst j1; rw [h1] at hv; cases hv; rw [hout 1 (by omega), hb]; exact World.cell?_setCell_same' _ _ _ (ht 1 (by omega)).1
  by_cases j2 : j < 10
  · obtain ⟨i, rfl⟩ : ∃ i, j = 2 + i := ⟨j - 2, by omega⟩
    rw [h2 i (by omega)] at hv
    exact World.rangeAt_setCells_same V L 2 E.cells (fun j hj => by have := htV (2 + j) (by have : E.cells.length = 8 := rfl; omega); rw [Nat.zero_add] at this; exact this) i v hv
  by_cases j3 : j < 138
  · obtain ⟨i, rfl⟩ : ∃ i, j = 10 + i := ⟨j - 10, by omega⟩
    rw [h3 i (by omega)] at hv
    cases hv
    rw [hout _ (by omega), hb, hout1 _ (by omega)]
    have := hr (10 + i) _ (k3 i (by omega))
    rw [Nat.zero_add] at this
    exact this
  · obtain rfl : j = 138 := by omega
    rw [h4] at hv; cases hv; rw [hout _ (by omega), hb, hout1 _ (by omega)]; exact hr 138 _ k4

set_option maxHeartbeats 600000 in
set_option maxRecDepth 100000 in
theorem begin_good64 (h : Int) (w : World) (hblk : blockOf h = 64) (hfw : Hid (∀ v, Tables v → Calls Tryz.prog 94 #[.int .i64 h] v fun e w' => e = .returned (.agg (firstE h).cells.toArray) ∧ Below v.heap.size v w')) (hT : Hid (Tables w)) :
    Calls Tryz.prog 56 #[.int .i64 h] w fun e w' => e = .returned (.tuple #[.agg (tkL h false (firstE h) (fun _ => 0) 0).toArray, .int .i64 0]) ∧ Below w.heap.size w w' := by
  have e71 := cells71 h
  have hz : Tryz.zeroCells141.size = 139 := by rw [cells71z]; exact size71z
  have ht : ((w.alloc (.cells Tryz.zeroCells141 141)).alloc (.cells Tryz.zeroCells141 141)).there (w.heap.size + 1) 0 139 := by
    simpa using there_new (w.alloc (.cells Tryz.zeroCells141 141)) Tryz.zeroCells141 141 139 (by rw [hz]; exact Nat.le_refl _)
  have HT : Hid (((w.alloc (.cells Tryz.zeroCells141 141)).alloc (.cells Tryz.zeroCells141 141)).there (w.heap.size + 1) 0 139) := ht
  clear hz ht
  go_enter Tryz.func56, Tryz.ntmps56
  go_wp2_with (first
    | (refine wpList_store_mid (by rfl) 141 (.tmp 4) (.tmp 6) (by rfl) (w.heap.size + 1) 0 (tkOf h).toArray (by rfl) (by rfl) (by rw [size71a]; exact HT.out) (by rw [size71a]; exact size71) (tkOf_one h) ?_)
    | fail)
  refine (block_any h _).mono ?_
  rintro e w1 ⟨rfl, rfl⟩
  rw [hblk]
  have hb2 : Below w.heap.size w (((w.alloc (.cells Tryz.zeroCells141 141)).alloc (.cells Tryz.zeroCells141 141)).setCells (w.heap.size + 1) 0 (tkOf h)) :=
    below_setCells _ (by omega) _ _ _ (((Below.refl _ _).alloc (Nat.le_refl _) _).alloc (by simp) _)
  have ht2 : (((w.alloc (.cells Tryz.zeroCells141 141)).alloc (.cells Tryz.zeroCells141 141)).setCells (w.heap.size + 1) 0 (tkOf h)).there w.heap.size 0 139 :=
    World.there_setCells (World.there_alloc (there_new w Tryz.zeroCells141 141 139 (by rw [cells71z, size71z]; exact Nat.le_refl _)) _) _ _ _
  have ht3 : (((w.alloc (.cells Tryz.zeroCells141 141)).alloc (.cells Tryz.zeroCells141 141)).setCells (w.heap.size + 1) 0 (tkOf h)).there (w.heap.size + 1) 0 139 := World.there_setCells HT.out _ _ _
  have hr2 : (((w.alloc (.cells Tryz.zeroCells141 141)).alloc (.cells Tryz.zeroCells141 141)).setCells (w.heap.size + 1) 0 (tkOf h)).rangeAt (w.heap.size + 1) 0 (tkOf h) := World.rangeAt_setCells_same _ _ _ _ (by rw [tkOf_length]; exact HT.out)
  have hs2 : (((w.alloc (.cells Tryz.zeroCells141 141)).alloc (.cells Tryz.zeroCells141 141)).setCells (w.heap.size + 1) 0 (tkOf h)).heap.size = w.heap.size + 2 := by rw [size_setCells]; simp
  generalize (((w.alloc (.cells Tryz.zeroCells141 141)).alloc (.cells Tryz.zeroCells141 141)).setCells (w.heap.size + 1) 0 (tkOf h)) = W2 at hb2 ht2 ht3 hr2 hs2 ⊢
  have HB2 : Hid (Below w.heap.size w W2 ∧ W2.there w.heap.size 0 139 ∧ W2.there (w.heap.size + 1) 0 139 ∧ W2.rangeAt (w.heap.size + 1) 0 (tkOf h) ∧ W2.heap.size = w.heap.size + 2) := ⟨hb2, ht2, ht3, hr2, hs2⟩
  have c1 : W2.cell? ⟨w.heap.size + 1, 1, none⟩ = some .nilFunc := hr2 1 _ rfl
  have f1 : W2.frozen? ⟨w.heap.size + 1, 1, none⟩ = false := (ht3 1 (by omega)).2
  clear hb2 ht2 ht3 hr2 hs2 HT e71
  go_wp2_with (first
    | (go_at_call 94; refine (hfw.out _ ?_).mono ?_)
    | fail)
  · exact ((hT.out.below HB2.out.1 hT.out.size).kept fun k hk => World.heap_setCells_other W2 (w.heap.size + 1) 1 [_] (by have := hT.out.size; have := HB2.out.2.2.2.2; omega) (by have := hT.out.size; omega))
  rintro e5 w5 ⟨rfl, hb5⟩
  obtain ⟨E, HE⟩ : ∃ E : Eight, Hid (E = firstE h) := ⟨_, rfl⟩
  rw [← HE.out]
  have hsz : (W2.setCell ⟨w.heap.size + 1, 1, none⟩ (fnV false)).heap.size = w.heap.size + 2 := (size_setCells (w.heap.size + 1) [fnV false] 1 W2).trans HB2.out.2.2.2.2
  have hst := fun (b o n : Nat) (ht : W2.there b o n) => World.there_setCells ht (w.heap.size + 1) 1 [fnV false]
  have hb5' : Below (w.heap.size + 2) (W2.setCell ⟨w.heap.size + 1, 1, none⟩ (fnV false)) w5 := by rw [← hsz]; exact hb5
  have hth : ∀ b n, b < w.heap.size + 2 → W2.there b 0 n → w5.there b 0 n := fun b n hb ht j hj => by
    rw [hb5'.cell (p := ⟨b, 0 + j, none⟩) hb, hb5'.frozen (p := ⟨b, 0 + j, none⟩) hb]
    exact hst b 0 n ht j hj
  have HB5 : Hid (Below w.heap.size w w5 ∧ w5.there w.heap.size 0 139 ∧ w5.there (w.heap.size + 1) 0 139) := ⟨(HB2.out.1.setCell (p := ⟨w.heap.size + 1, 1, none⟩) (by simp) _).trans (hb5'.mono (by omega)), hth _ _ (by omega) HB2.out.2.1, hth _ _ (by omega) HB2.out.2.2.1⟩
  have hr5 := tk_put h false E HB2.out.2.2.2.1 HB2.out.2.2.1 (fun j => hb5'.cell (p := ⟨w.heap.size + 1, j, none⟩) (by simp)) HB5.out.2.2
  have HR5 : Hid ((w5.setCells (w.heap.size + 1) 2 E.cells).rangeAt (w.heap.size + 1) 0 (tkL h false E (fun _ => 0) 0)) := hr5
  have HX : Hid (w5.there (w.heap.size + 1) 2 E.cells.toArray.size) := fun j hj => by
    have := HB5.out.2.2 (2 + j) (by have : E.cells.toArray.size = 8 := rfl; omega)
    rw [Nat.zero_add] at this
    exact this
  have HZ : Hid ((Tryz.prog.info? 138).map (·.size) = some E.cells.toArray.size) := size68
  clear hr5 hth hb5' hst hsz hb5 HB2 c1 f1
  go_upto_region 9 with (first
    | (refine wpList_store_mid (by rfl) 138 (.tmp 18) (.tmp 17) (by rfl) (w.heap.size + 1) 2 E.cells.toArray (by rfl) (by rfl) HX.out HZ.out (cellsE_one E) ?_)
    | fail)
  have HB6 : Hid (Below w.heap.size w (w5.setCells (w.heap.size + 1) 2 E.cells) ∧ (w5.setCells (w.heap.size + 1) 2 E.cells).there w.heap.size 0 139) := ⟨below_setCells _ (by omega) _ _ _ HB5.out.1, World.there_setCells HB5.out.2.1 _ _ _⟩
  generalize w5.setCells (w.heap.size + 1) 2 E.cells = w6 at HR5 HB6 ⊢
  obtain ⟨T, HTT⟩ : ∃ T : List Value, Hid (T = tkL h false E (fun _ => 0) 0) := ⟨_, rfl⟩
  rw [← HTT.out] at HR5
  have HLA : Hid (T.toArray.size = 139) := by show _ = _; rw [HTT.out]; exact tkArr_size _ _ _ _ _
  have HL : Hid (T.length = 139) := by rw [HTT.out]; exact tkL_length _ _ _ _ _
  have HY : Hid (w6.there w.heap.size 0 T.toArray.size) := by rw [HLA.out]; exact HB6.out.2
  have HZ6 : Hid ((Tryz.prog.info? 141).map (·.size) = some T.toArray.size) := by rw [HLA.out]; exact size71
  have HO : Hid (T.toArray.all (·.oneCell') = true) := by rw [HTT.out]; exact tkL_one _ _ _ _ _
  clear HB5
  go_wp2_with (first
    | (refine wpList_load_mid (by rfl) 141 (.tmp 4) (by rfl) (w.heap.size + 1) 0 (by rfl) T _ HR5.out Tryz.underlying141 rfl (by rw [HL.out]; exact size71) ?_)
    | (refine wpList_store_mid (by rfl) 141 (.tmp 2) (.tmp 19) (by rfl) w.heap.size 0 T.toArray (by rfl) (by rfl) HY.out HZ6.out HO.out ?_)
    | fail)
  have hl := run_loadVar_mid (P := Tryz.prog) (w6.setCells w.heap.size 0 T) w.heap.size 0 141 T _ (World.rangeAt_setCells_same w6 w.heap.size 0 T (by rw [HL.out]; exact HB6.out.2)) Tryz.underlying141 rfl (by rw [HL.out]; exact size71)
  refine bodyPost_ret (v := .tuple #[.agg T.toArray, .int .i64 0]) ?_ rfl ⟨by rw [HTT.out, HE.out], below_setCells _ (Nat.le_refl _) _ _ _ HB6.out.1⟩
  rw [results_cell_tmp Tryz.results56]
  simp [asAddr, hl]

end Go.Proofs.YtehlppaidgkpaaaGreatDoor.Dg
namespace Go.Proofs.YtehlppaidgkpaaaGreatDoor
open Go.RowKit Go.RwLone
set_option linter.unusedVariables false
theorem touch_new {w v : World} {g o n : Nat} (h : Touch w v g o n) {b : Nat} (hb : w.heap.size ≤ b) (vs : List Value) (o' : Nat) (hg : g < w.heap.size) : Touch w (v.setCells b o' vs) g o n :=
  ⟨by rw [setCells_os]; exact h.os, by rw [setCells_tape]; exact h.tape, by rw [setCells_output]; exact h.output, by rw [sizeB_setCells]; exact h.size,
    fun k hk hne => by rw [World.heap_setCells_other v b o' vs (by have := h.size; omega) (by omega)]; exact h.block k hk hne,
    fun j hj => by rw [World.cell?_setCells_out b vs o' v ⟨g, j, none⟩ (fun e _ => absurd e (by simp; omega))]; exact h.cell j hj,
    fun o2 n2 ht => World.there_setCells (h.there o2 n2 ht) b o' vs⟩
theorem KeyAt.touch {w w' : World} {g nr : Nat} {K : Nat → Nat} (h : KeyAt w g nr K) (ht : Touch w w' g 4 1) (hc : w'.cell? ⟨g, 4, none⟩ = some (.int .i32 0)) : KeyAt w' g nr K := by
  refine ⟨⟨(ht.cell 6 (by omega)).trans h.ciph.rounds, fun i hi => (ht.cell (6 + 1 + i) (by omega)).trans (h.ciph.words i hi), h.ciph.small, ⟨fun b hb => (ht.cell _ (by omega)).trans (h.ciph.tab.s b hb), fun b hb => (ht.cell _ (by omega)).trans (h.ciph.tab.u b hb), fun b hb => (ht.cell _ (by omega)).trans (h.ciph.tab.m b hb), fun b hb => (ht.cell _ (by omega)).trans (h.ciph.tab.n b hb)⟩, Nat.lt_of_lt_of_le h.ciph.here ht.size, h.ciph.some, h.ciph.most⟩, hc, ht.there _ _ h.room⟩
/-- While a call holds the key. -/
theorem held_ciph {w : World} {g nr : Nat} {K : Nat → Nat} (h : KeyAt w g nr K) (c : Int) : Ciph (w.setCell ⟨g, 4, none⟩ (.int .i32 c)) g 6 nr K := by
  have ht : Touch w (w.setCell ⟨g, 4, none⟩ (.int .i32 c)) g 4 1 := (Touch.refl w g 4 1).setCell 4 _ (by omega) (by omega)
  exact ⟨(ht.cell 6 (by omega)).trans h.ciph.rounds, fun i hi => (ht.cell (6 + 1 + i) (by omega)).trans (h.ciph.words i hi), h.ciph.small, ⟨fun b hb => (ht.cell _ (by omega)).trans (h.ciph.tab.s b hb), fun b hb => (ht.cell _ (by omega)).trans (h.ciph.tab.u b hb), fun b hb => (ht.cell _ (by omega)).trans (h.ciph.tab.m b hb), fun b hb => (ht.cell _ (by omega)).trans (h.ciph.tab.n b hb)⟩, Nat.lt_of_lt_of_le h.ciph.here ht.size, h.ciph.some, h.ciph.most⟩
theorem cell_of_there {w : World} {g o n : Nat} (h : w.there g o n) (j : Nat) (hj : j < n) : ∃ v, w.cell? ⟨g, o + j, none⟩ = some v := Option.isSome_iff_exists.1 (h j hj).1
set_option maxHeartbeats 1600000 in
set_option maxRecDepth 100000 in
theorem hold_ok (g nr : Nat) (K : Nat → Nat) (w : World) (h : KeyAt w g nr K) : Calls Tryz.prog 53 #[.pointer (some ⟨g, 0, none⟩)] w fun e w' => e = .returned (.int .i64 0) ∧ w' = w.setCell ⟨g, 4, none⟩ (.int .i32 1) := by
  obtain ⟨x0, c0⟩ := cell_of_there h.room 0 (by decide)
  obtain ⟨x3, c3⟩ := cell_of_there h.room 3 (by decide)
  have hz := (h.room 4 (by decide)).2
  have hc := h.count
  have KL : Hid (Calls Tryz.prog 79 #[.pointer (some ⟨g, 0, none⟩)] w fun e w' => e = .returned (.tuple #[]) ∧ w' = w.setCell ⟨g, 4, none⟩ (.int .i32 1))  := by
    have h := rlock_open rwRLib g 0 0 x0 x3 w c0 c3 hc hz (by decide +kernel)
    rw [show wrap32 (0 + 1) = 1 by decide +kernel] at h
    exact h
  have cr : (w.setCell ⟨g, 4, none⟩ (.int .i32 1)).cell? ⟨g, 6, none⟩ = some (.int .i64 (nr : Nat)) := (held_ciph h 1).rounds
  have hn : (((nr : Nat) : Int) == 0) = false := by have := h.ciph.some; simp; omega
  clear c0 c3 hz hc h
  go_enter Tryz.func53, Tryz.ntmps53
  go_wp2_with (first | (go_at_call 79; refine KL.out.mono ?_))
  rintro e1 w1 ⟨rfl, hw1⟩
  obtain rfl := hw1.symm
  go_wp2
  go_ret
  exact ⟨rfl, rfl⟩
end Go.Proofs.YtehlppaidgkpaaaGreatDoor
namespace Go.Proofs.YtehlppaidgkpaaaGreatDoor
open Go.RowKit Go.RwLone
set_option linter.unusedVariables false
set_option linter.unusedSimpArgs false
set_option maxHeartbeats 3200000 in
set_option maxRecDepth 100000 in
theorem kenc_ok (g nr : Nat) (K : Nat → Nat) (s : W4) (w : World) (h : KeyAt w g nr K) (hs : s.ok) :
    Calls Tryz.prog 32 #[.pointer (some ⟨g, 0, none⟩), s.blk] w fun e w' => e = .returned (.tuple #[(encW nr K s).blk, .int .i64 0]) ∧ KeyAt w' g nr K ∧ Touch w w' g 4 1 := by
  have HK : Hid (KeyAt w g nr K) := h
  have HG : Hid (g < w.heap.size) := h.ciph.here
  clear h
  obtain ⟨⟨n0, n1, n2, n3⟩, HN⟩ : ∃ t, Hid (t = encW nr K s) := ⟨_, rfl⟩
  have HB2 : Hid (Below w.heap.size w ((w.alloc (.cells #[.int .u8 (bt0 s.a : Nat), .int .u8 (bt1 s.a : Nat), .int .u8 (bt2 s.a : Nat), .int .u8 (bt3 s.a : Nat), .int .u8 (bt0 s.b : Nat), .int .u8 (bt1 s.b : Nat), .int .u8 (bt2 s.b : Nat), .int .u8 (bt3 s.b : Nat), .int .u8 (bt0 s.c : Nat), .int .u8 (bt1 s.c : Nat), .int .u8 (bt2 s.c : Nat), .int .u8 (bt3 s.c : Nat), .int .u8 (bt0 s.d : Nat), .int .u8 (bt1 s.d : Nat), .int .u8 (bt2 s.d : Nat), .int .u8 (bt3 s.d : Nat)] 27)).alloc (.cells #[.int .u8 0, .int .u8 0, .int .u8 0, .int .u8 0, .int .u8 0, .int .u8 0, .int .u8 0, .int .u8 0, .int .u8 0, .int .u8 0, .int .u8 0, .int .u8 0, .int .u8 0, .int .u8 0, .int .u8 0, .int .u8 0] 27))) := (two_allocs w _ _ 27 27).1
  have HK2 : Hid (KeyAt ((w.alloc (.cells #[.int .u8 (bt0 s.a : Nat), .int .u8 (bt1 s.a : Nat), .int .u8 (bt2 s.a : Nat), .int .u8 (bt3 s.a : Nat), .int .u8 (bt0 s.b : Nat), .int .u8 (bt1 s.b : Nat), .int .u8 (bt2 s.b : Nat), .int .u8 (bt3 s.b : Nat), .int .u8 (bt0 s.c : Nat), .int .u8 (bt1 s.c : Nat), .int .u8 (bt2 s.c : Nat), .int .u8 (bt3 s.c : Nat), .int .u8 (bt0 s.d : Nat), .int .u8 (bt1 s.d : Nat), .int .u8 (bt2 s.d : Nat), .int .u8 (bt3 s.d : Nat)] 27)).alloc (.cells #[.int .u8 0, .int .u8 0, .int .u8 0, .int .u8 0, .int .u8 0, .int .u8 0, .int .u8 0, .int .u8 0, .int .u8 0, .int .u8 0, .int .u8 0, .int .u8 0, .int .u8 0, .int .u8 0, .int .u8 0, .int .u8 0] 27)) g nr K) := HK.out.below HB2.out HG.out
  have HH : Hid (Calls Tryz.prog 53 #[.pointer (some ⟨g, 0, none⟩)] ((w.alloc (.cells #[.int .u8 (bt0 s.a : Nat), .int .u8 (bt1 s.a : Nat), .int .u8 (bt2 s.a : Nat), .int .u8 (bt3 s.a : Nat), .int .u8 (bt0 s.b : Nat), .int .u8 (bt1 s.b : Nat), .int .u8 (bt2 s.b : Nat), .int .u8 (bt3 s.b : Nat), .int .u8 (bt0 s.c : Nat), .int .u8 (bt1 s.c : Nat), .int .u8 (bt2 s.c : Nat), .int .u8 (bt3 s.c : Nat), .int .u8 (bt0 s.d : Nat), .int .u8 (bt1 s.d : Nat), .int .u8 (bt2 s.d : Nat), .int .u8 (bt3 s.d : Nat)] 27)).alloc (.cells #[.int .u8 0, .int .u8 0, .int .u8 0, .int .u8 0, .int .u8 0, .int .u8 0, .int .u8 0, .int .u8 0, .int .u8 0, .int .u8 0, .int .u8 0, .int .u8 0, .int .u8 0, .int .u8 0, .int .u8 0, .int .u8 0] 27)) fun e w' => e = .returned (.int .i64 0) ∧ w' = (((w.alloc (.cells #[.int .u8 (bt0 s.a : Nat), .int .u8 (bt1 s.a : Nat), .int .u8 (bt2 s.a : Nat), .int .u8 (bt3 s.a : Nat), .int .u8 (bt0 s.b : Nat), .int .u8 (bt1 s.b : Nat), .int .u8 (bt2 s.b : Nat), .int .u8 (bt3 s.b : Nat), .int .u8 (bt0 s.c : Nat), .int .u8 (bt1 s.c : Nat), .int .u8 (bt2 s.c : Nat), .int .u8 (bt3 s.c : Nat), .int .u8 (bt0 s.d : Nat), .int .u8 (bt1 s.d : Nat), .int .u8 (bt2 s.d : Nat), .int .u8 (bt3 s.d : Nat)] 27)).alloc (.cells #[.int .u8 0, .int .u8 0, .int .u8 0, .int .u8 0, .int .u8 0, .int .u8 0, .int .u8 0, .int .u8 0, .int .u8 0, .int .u8 0, .int .u8 0, .int .u8 0, .int .u8 0, .int .u8 0, .int .u8 0, .int .u8 0] 27))).setCell ⟨g, 4, none⟩ (.int .i32 1)) := hold_ok g nr K _ HK2.out
  have HE : Hid (∀ u, Ciph u g 6 nr K → Calls Tryz.prog 55 #[.pointer (some ⟨g, 6, none⟩), .agg #[.int .u8 (bt0 s.a : Nat), .int .u8 (bt1 s.a : Nat), .int .u8 (bt2 s.a : Nat), .int .u8 (bt3 s.a : Nat), .int .u8 (bt0 s.b : Nat), .int .u8 (bt1 s.b : Nat), .int .u8 (bt2 s.b : Nat), .int .u8 (bt3 s.b : Nat), .int .u8 (bt0 s.c : Nat), .int .u8 (bt1 s.c : Nat), .int .u8 (bt2 s.c : Nat), .int .u8 (bt3 s.c : Nat), .int .u8 (bt0 s.d : Nat), .int .u8 (bt1 s.d : Nat), .int .u8 (bt2 s.d : Nat), .int .u8 (bt3 s.d : Nat)]] u fun e u' => e = .returned (.agg #[.int .u8 (bt0 n0 : Nat), .int .u8 (bt1 n0 : Nat), .int .u8 (bt2 n0 : Nat), .int .u8 (bt3 n0 : Nat), .int .u8 (bt0 n1 : Nat), .int .u8 (bt1 n1 : Nat), .int .u8 (bt2 n1 : Nat), .int .u8 (bt3 n1 : Nat), .int .u8 (bt0 n2 : Nat), .int .u8 (bt1 n2 : Nat), .int .u8 (bt2 n2 : Nat), .int .u8 (bt3 n2 : Nat), .int .u8 (bt0 n3 : Nat), .int .u8 (bt1 n3 : Nat), .int .u8 (bt2 n3 : Nat), .int .u8 (bt3 n3 : Nat)]) ∧ Below u.heap.size u u') := fun u hu => by
    have := enc_ok g 6 nr K s u hu hs
    rw [← HN.out] at this
    exact this
  clear hs
  have HSZ : Hid (((w.alloc (.cells #[.int .u8 (bt0 s.a : Nat), .int .u8 (bt1 s.a : Nat), .int .u8 (bt2 s.a : Nat), .int .u8 (bt3 s.a : Nat), .int .u8 (bt0 s.b : Nat), .int .u8 (bt1 s.b : Nat), .int .u8 (bt2 s.b : Nat), .int .u8 (bt3 s.b : Nat), .int .u8 (bt0 s.c : Nat), .int .u8 (bt1 s.c : Nat), .int .u8 (bt2 s.c : Nat), .int .u8 (bt3 s.c : Nat), .int .u8 (bt0 s.d : Nat), .int .u8 (bt1 s.d : Nat), .int .u8 (bt2 s.d : Nat), .int .u8 (bt3 s.d : Nat)] 27)).alloc (.cells #[.int .u8 0, .int .u8 0, .int .u8 0, .int .u8 0, .int .u8 0, .int .u8 0, .int .u8 0, .int .u8 0, .int .u8 0, .int .u8 0, .int .u8 0, .int .u8 0, .int .u8 0, .int .u8 0, .int .u8 0, .int .u8 0] 27)).heap.size = w.heap.size + 2) := by show _ = _; simp
  have HTH : Hid (((w.alloc (.cells #[.int .u8 (bt0 s.a : Nat), .int .u8 (bt1 s.a : Nat), .int .u8 (bt2 s.a : Nat), .int .u8 (bt3 s.a : Nat), .int .u8 (bt0 s.b : Nat), .int .u8 (bt1 s.b : Nat), .int .u8 (bt2 s.b : Nat), .int .u8 (bt3 s.b : Nat), .int .u8 (bt0 s.c : Nat), .int .u8 (bt1 s.c : Nat), .int .u8 (bt2 s.c : Nat), .int .u8 (bt3 s.c : Nat), .int .u8 (bt0 s.d : Nat), .int .u8 (bt1 s.d : Nat), .int .u8 (bt2 s.d : Nat), .int .u8 (bt3 s.d : Nat)] 27)).alloc (.cells #[.int .u8 0, .int .u8 0, .int .u8 0, .int .u8 0, .int .u8 0, .int .u8 0, .int .u8 0, .int .u8 0, .int .u8 0, .int .u8 0, .int .u8 0, .int .u8 0, .int .u8 0, .int .u8 0, .int .u8 0, .int .u8 0] 27)).there (w.heap.size + 1) 0 16) := there_two w _ _ 27 27 rfl
  have HRG : Hid (((w.alloc (.cells #[.int .u8 (bt0 s.a : Nat), .int .u8 (bt1 s.a : Nat), .int .u8 (bt2 s.a : Nat), .int .u8 (bt3 s.a : Nat), .int .u8 (bt0 s.b : Nat), .int .u8 (bt1 s.b : Nat), .int .u8 (bt2 s.b : Nat), .int .u8 (bt3 s.b : Nat), .int .u8 (bt0 s.c : Nat), .int .u8 (bt1 s.c : Nat), .int .u8 (bt2 s.c : Nat), .int .u8 (bt3 s.c : Nat), .int .u8 (bt0 s.d : Nat), .int .u8 (bt1 s.d : Nat), .int .u8 (bt2 s.d : Nat), .int .u8 (bt3 s.d : Nat)] 27)).alloc (.cells #[.int .u8 0, .int .u8 0, .int .u8 0, .int .u8 0, .int .u8 0, .int .u8 0, .int .u8 0, .int .u8 0, .int .u8 0, .int .u8 0, .int .u8 0, .int .u8 0, .int .u8 0, .int .u8 0, .int .u8 0, .int .u8 0] 27)).rangeAt w.heap.size 0 [.int .u8 (bt0 s.a : Nat), .int .u8 (bt1 s.a : Nat), .int .u8 (bt2 s.a : Nat), .int .u8 (bt3 s.a : Nat), .int .u8 (bt0 s.b : Nat), .int .u8 (bt1 s.b : Nat), .int .u8 (bt2 s.b : Nat), .int .u8 (bt3 s.b : Nat), .int .u8 (bt0 s.c : Nat), .int .u8 (bt1 s.c : Nat), .int .u8 (bt2 s.c : Nat), .int .u8 (bt3 s.c : Nat), .int .u8 (bt0 s.d : Nat), .int .u8 (bt1 s.d : Nat), .int .u8 (bt2 s.d : Nat), .int .u8 (bt3 s.d : Nat)]) := fun j v hv => by simpa using (two_allocs w #[.int .u8 (bt0 s.a : Nat), .int .u8 (bt1 s.a : Nat), .int .u8 (bt2 s.a : Nat), .int .u8 (bt3 s.a : Nat), .int .u8 (bt0 s.b : Nat), .int .u8 (bt1 s.b : Nat), .int .u8 (bt2 s.b : Nat), .int .u8 (bt3 s.b : Nat), .int .u8 (bt0 s.c : Nat), .int .u8 (bt1 s.c : Nat), .int .u8 (bt2 s.c : Nat), .int .u8 (bt3 s.c : Nat), .int .u8 (bt0 s.d : Nat), .int .u8 (bt1 s.d : Nat), .int .u8 (bt2 s.d : Nat), .int .u8 (bt3 s.d : Nat)] #[.int .u8 0, .int .u8 0, .int .u8 0, .int .u8 0, .int .u8 0, .int .u8 0, .int .u8 0, .int .u8 0, .int .u8 0, .int .u8 0, .int .u8 0, .int .u8 0, .int .u8 0, .int .u8 0, .int .u8 0, .int .u8 0] 27 27).2 j v (by simpa using hv)
  show Calls Tryz.prog 32 #[.pointer (some ⟨g, 0, none⟩), .agg #[.int .u8 (bt0 s.a : Nat), .int .u8 (bt1 s.a : Nat), .int .u8 (bt2 s.a : Nat), .int .u8 (bt3 s.a : Nat), .int .u8 (bt0 s.b : Nat), .int .u8 (bt1 s.b : Nat), .int .u8 (bt2 s.b : Nat), .int .u8 (bt3 s.b : Nat), .int .u8 (bt0 s.c : Nat), .int .u8 (bt1 s.c : Nat), .int .u8 (bt2 s.c : Nat), .int .u8 (bt3 s.c : Nat), .int .u8 (bt0 s.d : Nat), .int .u8 (bt1 s.d : Nat), .int .u8 (bt2 s.d : Nat), .int .u8 (bt3 s.d : Nat)]] w _
  go_enter_defers Tryz.func32, Tryz.ntmps32
  go_wp2_with (first | (go_at_call 53; refine HH.out.mono ?_))
  rintro e1 w1 ⟨rfl, hw1⟩
  have H1 : Hid (Ciph w1 g 6 nr K ∧ Touch ((w.alloc (.cells #[.int .u8 (bt0 s.a : Nat), .int .u8 (bt1 s.a : Nat), .int .u8 (bt2 s.a : Nat), .int .u8 (bt3 s.a : Nat), .int .u8 (bt0 s.b : Nat), .int .u8 (bt1 s.b : Nat), .int .u8 (bt2 s.b : Nat), .int .u8 (bt3 s.b : Nat), .int .u8 (bt0 s.c : Nat), .int .u8 (bt1 s.c : Nat), .int .u8 (bt2 s.c : Nat), .int .u8 (bt3 s.c : Nat), .int .u8 (bt0 s.d : Nat), .int .u8 (bt1 s.d : Nat), .int .u8 (bt2 s.d : Nat), .int .u8 (bt3 s.d : Nat)] 27)).alloc (.cells #[.int .u8 0, .int .u8 0, .int .u8 0, .int .u8 0, .int .u8 0, .int .u8 0, .int .u8 0, .int .u8 0, .int .u8 0, .int .u8 0, .int .u8 0, .int .u8 0, .int .u8 0, .int .u8 0, .int .u8 0, .int .u8 0] 27)) w1 g 4 1 ∧ w1.cell? ⟨g, 4, none⟩ = some (.int .i32 1)) := by
    rw [hw1]
    refine ⟨held_ciph HK2.out 1, (Touch.refl _ g 4 1).setCell 4 _ (by omega) (by omega), ?_⟩
    have := (HK2.out.room 4 (by decide)).1
    exact World.cell?_setCell_same' _ _ _ (by simpa using this)
  clear hw1 HH
  have gl : Hid (∀ u, Below w1.heap.size w1 u → u.rangeAt w.heap.size 0 [.int .u8 (bt0 s.a : Nat), .int .u8 (bt1 s.a : Nat), .int .u8 (bt2 s.a : Nat), .int .u8 (bt3 s.a : Nat), .int .u8 (bt0 s.b : Nat), .int .u8 (bt1 s.b : Nat), .int .u8 (bt2 s.b : Nat), .int .u8 (bt3 s.b : Nat), .int .u8 (bt0 s.c : Nat), .int .u8 (bt1 s.c : Nat), .int .u8 (bt2 s.c : Nat), .int .u8 (bt3 s.c : Nat), .int .u8 (bt0 s.d : Nat), .int .u8 (bt1 s.d : Nat), .int .u8 (bt2 s.d : Nat), .int .u8 (bt3 s.d : Nat)]) := fun u hu j v hv => by
    have hs := H1.out.2.1.size
    have hz := HSZ.out
    have hgw := HG.out
    rw [hu.cell (p := ⟨w.heap.size, 0 + j, none⟩) (show w.heap.size < _ by omega), H1.out.2.1.far (p := ⟨w.heap.size, 0 + j, none⟩) (show w.heap.size < _ by omega) (show w.heap.size ≠ g by omega)]
    exact HRG.out j v hv
  go_wp2_with fail
  have hS0 : Below w1.heap.size w1 w1.drew := (Below.refl _ _).drew
  refine wp_region_noPanic ?_
  refine wp_region_till (fun u => Below w1.heap.size w1 u) 4 (by kernel_rfl) (by decide) (by kernel_rfl) (by kernel_rfl) (by kernel_rfl) (fun inv => ?_)
  refine till_at 0 16 (.pointer (some ⟨g, 0, none⟩)) inv rfl rfl (by decide) (by kernel_rfl) (by kernel_rfl) (fun _ _ _ h => h) (hS0) (Or.inl ⟨by rfl, fun w' hS' => by go_simp⟩) (fun inv' => ?_)
  clear inv; have inv := inv'; clear inv'
  simp only [List.setIfInBounds_toArray, List.set_cons_zero, List.set_cons_succ]
  refine till_at 1 17 (.pointer (some ⟨g, 0, none⟩)) inv rfl rfl (by decide) (by kernel_rfl) (by kernel_rfl) (fun _ _ _ h => h) (hS0) (Or.inl ⟨by rfl, fun w' hS' => by go_simp⟩) (fun inv' => ?_)
  clear inv; have inv := inv'; clear inv'
  simp only [List.setIfInBounds_toArray, List.set_cons_zero, List.set_cons_succ]
  refine till_at 2 18 (.pointer (some ⟨g, 6, none⟩)) inv rfl rfl (by decide) (by kernel_rfl) (by kernel_rfl) (fun _ _ _ h => h) (hS0) (Or.inl ⟨by rfl, fun w' hS' => by go_simp⟩) (fun inv' => ?_)
  clear inv; have inv := inv'; clear inv'
  simp only [List.setIfInBounds_toArray, List.set_cons_zero, List.set_cons_succ]
  refine till_at 3 19 (.agg #[.int .u8 (bt0 s.a : Nat), .int .u8 (bt1 s.a : Nat), .int .u8 (bt2 s.a : Nat), .int .u8 (bt3 s.a : Nat), .int .u8 (bt0 s.b : Nat), .int .u8 (bt1 s.b : Nat), .int .u8 (bt2 s.b : Nat), .int .u8 (bt3 s.b : Nat), .int .u8 (bt0 s.c : Nat), .int .u8 (bt1 s.c : Nat), .int .u8 (bt2 s.c : Nat), .int .u8 (bt3 s.c : Nat), .int .u8 (bt0 s.d : Nat), .int .u8 (bt1 s.d : Nat), .int .u8 (bt2 s.d : Nat), .int .u8 (bt3 s.d : Nat)]) inv rfl rfl (by decide) (by kernel_rfl) (by kernel_rfl) (fun _ _ _ h => h) (hS0) (yieldsIf_load_mid (by rfl) 27 (.tmp 3) rfl w.heap.size 0 rfl [.int .u8 (bt0 s.a : Nat), .int .u8 (bt1 s.a : Nat), .int .u8 (bt2 s.a : Nat), .int .u8 (bt3 s.a : Nat), .int .u8 (bt0 s.b : Nat), .int .u8 (bt1 s.b : Nat), .int .u8 (bt2 s.b : Nat), .int .u8 (bt3 s.b : Nat), .int .u8 (bt0 s.c : Nat), .int .u8 (bt1 s.c : Nat), .int .u8 (bt2 s.c : Nat), .int .u8 (bt3 s.c : Nat), .int .u8 (bt0 s.d : Nat), .int .u8 (bt1 s.d : Nat), .int .u8 (bt2 s.d : Nat), .int .u8 (bt3 s.d : Nat)] _ (fun u hu => gl.out u hu) Tryz.underlying27 rfl size42) (fun inv' => ?_)
  clear inv; have inv := inv'; clear inv'
  simp only [List.setIfInBounds_toArray, List.set_cons_zero, List.set_cons_succ]
  refine till_tail (i := 4) (by kernel_rfl) (by decide) rfl (fun K hK => ?_)
  go_simp
  refine (HE.out _ (H1.out.1.below hS0 H1.out.1.here)).mono ?_
  rintro e1 u2 ⟨rfl, hu2⟩
  go_wp2_with fail
  refine hK.out _ _ ?_
  clear hK K
  try simp only [List.setIfInBounds_toArray, List.set_cons_zero, List.set_cons_succ]
  have HT2 : Hid (u2.there (w.heap.size + 1) 0 16 ∧ Touch w u2 g 4 1 ∧ u2.cell? ⟨g, 4, none⟩ = some (.int .i32 1)) := by
    have hs := H1.out.2.1.size
    have hz := HSZ.out
    have hgw := HG.out
    have hg1 := H1.out.1.here
    have hb : Below w1.heap.size w1 u2 := hS0.trans (hu2.mono (Nat.le_refl _))
    refine ⟨there_below (fun j hj => ?_) hb (by omega), ?_, (hb.cell hg1).trans H1.out.2.2⟩
    · rw [H1.out.2.1.far (p := ⟨w.heap.size + 1, 0 + j, none⟩) (show w.heap.size + 1 < _ by omega) (show w.heap.size + 1 ≠ g by omega), H1.out.2.1.farFrozen (p := ⟨w.heap.size + 1, 0 + j, none⟩) (show w.heap.size + 1 < _ by omega) (show w.heap.size + 1 ≠ g by omega)]
      exact HTH.out j hj
    · exact ((((Touch.refl w g 4 1).alloc _ hgw).alloc _ hgw).trans H1.out.2.1).below hb hgw
  refine till_tail (i := 5) (by kernel_rfl) (by decide) rfl (fun K hK => ?_)
  rw [if_pos (by rfl)]
  refine wp_store_mid 27 (.tmp 4) (.tmp 20) rfl (w.heap.size + 1) 0 #[.int .u8 (bt0 n0 : Nat), .int .u8 (bt1 n0 : Nat), .int .u8 (bt2 n0 : Nat), .int .u8 (bt3 n0 : Nat), .int .u8 (bt0 n1 : Nat), .int .u8 (bt1 n1 : Nat), .int .u8 (bt2 n1 : Nat), .int .u8 (bt3 n1 : Nat), .int .u8 (bt0 n2 : Nat), .int .u8 (bt1 n2 : Nat), .int .u8 (bt2 n2 : Nat), .int .u8 (bt3 n2 : Nat), .int .u8 (bt0 n3 : Nat), .int .u8 (bt1 n3 : Nat), .int .u8 (bt2 n3 : Nat), .int .u8 (bt3 n3 : Nat)] rfl rfl (HT2.out.1) (size42) (by kernel_rfl) ?_
  refine hK.out _ _ ?_
  clear hK K
  try simp only [List.setIfInBounds_toArray, List.set_cons_zero, List.set_cons_succ]
  refine till_tail (i := 6) (by kernel_rfl) (by decide) rfl (fun K hK => ?_)
  go_simp
  refine hK.out _ _ ?_
  clear hK K
  try simp only [List.setIfInBounds_toArray, List.set_cons_zero, List.set_cons_succ]
  refine till_done (by kernel_rfl) ?_ _
  refine NoPanic.normal ?_
  have HF : Hid ((u2.setCells (w.heap.size + 1) 0 [.int .u8 (bt0 n0 : Nat), .int .u8 (bt1 n0 : Nat), .int .u8 (bt2 n0 : Nat), .int .u8 (bt3 n0 : Nat), .int .u8 (bt0 n1 : Nat), .int .u8 (bt1 n1 : Nat), .int .u8 (bt2 n1 : Nat), .int .u8 (bt3 n1 : Nat), .int .u8 (bt0 n2 : Nat), .int .u8 (bt1 n2 : Nat), .int .u8 (bt2 n2 : Nat), .int .u8 (bt3 n2 : Nat), .int .u8 (bt0 n3 : Nat), .int .u8 (bt1 n3 : Nat), .int .u8 (bt2 n3 : Nat), .int .u8 (bt3 n3 : Nat)]).rangeAt (w.heap.size + 1) 0 [.int .u8 (bt0 n0 : Nat), .int .u8 (bt1 n0 : Nat), .int .u8 (bt2 n0 : Nat), .int .u8 (bt3 n0 : Nat), .int .u8 (bt0 n1 : Nat), .int .u8 (bt1 n1 : Nat), .int .u8 (bt2 n1 : Nat), .int .u8 (bt3 n1 : Nat), .int .u8 (bt0 n2 : Nat), .int .u8 (bt1 n2 : Nat), .int .u8 (bt2 n2 : Nat), .int .u8 (bt3 n2 : Nat), .int .u8 (bt0 n3 : Nat), .int .u8 (bt1 n3 : Nat), .int .u8 (bt2 n3 : Nat), .int .u8 (bt3 n3 : Nat)] ∧ Touch w (u2.setCells (w.heap.size + 1) 0 [.int .u8 (bt0 n0 : Nat), .int .u8 (bt1 n0 : Nat), .int .u8 (bt2 n0 : Nat), .int .u8 (bt3 n0 : Nat), .int .u8 (bt0 n1 : Nat), .int .u8 (bt1 n1 : Nat), .int .u8 (bt2 n1 : Nat), .int .u8 (bt3 n1 : Nat), .int .u8 (bt0 n2 : Nat), .int .u8 (bt1 n2 : Nat), .int .u8 (bt2 n2 : Nat), .int .u8 (bt3 n2 : Nat), .int .u8 (bt0 n3 : Nat), .int .u8 (bt1 n3 : Nat), .int .u8 (bt2 n3 : Nat), .int .u8 (bt3 n3 : Nat)]) g 4 1 ∧ (u2.setCells (w.heap.size + 1) 0 [.int .u8 (bt0 n0 : Nat), .int .u8 (bt1 n0 : Nat), .int .u8 (bt2 n0 : Nat), .int .u8 (bt3 n0 : Nat), .int .u8 (bt0 n1 : Nat), .int .u8 (bt1 n1 : Nat), .int .u8 (bt2 n1 : Nat), .int .u8 (bt3 n1 : Nat), .int .u8 (bt0 n2 : Nat), .int .u8 (bt1 n2 : Nat), .int .u8 (bt2 n2 : Nat), .int .u8 (bt3 n2 : Nat), .int .u8 (bt0 n3 : Nat), .int .u8 (bt1 n3 : Nat), .int .u8 (bt2 n3 : Nat), .int .u8 (bt3 n3 : Nat)]).cell? ⟨g, 4, none⟩ = some (.int .i32 1)) := by
    have hgw := HG.out
    refine ⟨World.rangeAt_setCells_same _ _ _ _ HT2.out.1, touch_new HT2.out.2.1 (Nat.le_succ _) _ _ hgw, ?_⟩
    rw [World.cell?_setCells_out (w.heap.size + 1) _ 0 u2 ⟨g, 4, none⟩ (fun e _ => absurd e (by simp; omega))]
    exact HT2.out.2.2
  generalize u2.setCells (w.heap.size + 1) 0 [.int .u8 (bt0 n0 : Nat), .int .u8 (bt1 n0 : Nat), .int .u8 (bt2 n0 : Nat), .int .u8 (bt3 n0 : Nat), .int .u8 (bt0 n1 : Nat), .int .u8 (bt1 n1 : Nat), .int .u8 (bt2 n1 : Nat), .int .u8 (bt3 n1 : Nat), .int .u8 (bt0 n2 : Nat), .int .u8 (bt1 n2 : Nat), .int .u8 (bt2 n2 : Nat), .int .u8 (bt3 n2 : Nat), .int .u8 (bt0 n3 : Nat), .int .u8 (bt1 n3 : Nat), .int .u8 (bt2 n3 : Nat), .int .u8 (bt3 n3 : Nat)] = w3 at HF ⊢
  clear hu2 hS0 gl
  go_wp2
  have hroom : w3.there g 0 1091 := HF.out.2.1.there _ _ HK.out.room
  obtain ⟨x0, c0⟩ := cell_of_there hroom 0 (by decide)
  obtain ⟨x2, c2⟩ := cell_of_there hroom 2 (by decide)
  have hz := (hroom 4 (by decide)).2
  have hcnt := HF.out.2.2
  refine leaves_cons (f := 54) (args := #[.pointer (some ⟨g, 0, none⟩)]) (by simp) (by simp [go_sem]) ?_
  refine (runlock_deferred rwRLib g 0 1 x0 x2 .returning _ c0 c2 hcnt hz (by decide +kernel)).mono ?_
  rintro e5 u5 w5 ⟨rfl, rfl, hw5⟩
  rw [show wrap32 (1 + -1) = 0 by decide +kernel] at hw5
  have hw5' : w5 = w3.setCells g 4 [.int .i32 0] := hw5
  have hg : g ≠ w.heap.size + 1 := by have := HG.out; omega
  have ht5 : Touch w w5 g 4 1 := by rw [hw5']; exact HF.out.2.1.setCells 4 _ (by omega) (by simp)
  have hc5 : w5.cell? ⟨g, 4, none⟩ = some (.int .i32 0) := by
    rw [hw5]
    exact World.cell?_setCell_same' _ _ _ (by rw [show (0 + 4) = 4 from rfl, hcnt]; rfl)
  have hr5 : w5.rangeAt (w.heap.size + 1) 0 [.int .u8 (bt0 n0 : Nat), .int .u8 (bt1 n0 : Nat), .int .u8 (bt2 n0 : Nat), .int .u8 (bt3 n0 : Nat), .int .u8 (bt0 n1 : Nat), .int .u8 (bt1 n1 : Nat), .int .u8 (bt2 n1 : Nat), .int .u8 (bt3 n1 : Nat), .int .u8 (bt0 n2 : Nat), .int .u8 (bt1 n2 : Nat), .int .u8 (bt2 n2 : Nat), .int .u8 (bt3 n2 : Nat), .int .u8 (bt0 n3 : Nat), .int .u8 (bt1 n3 : Nat), .int .u8 (bt2 n3 : Nat), .int .u8 (bt3 n3 : Nat)] := by rw [hw5']; exact World.rangeAt_setCells_apart HF.out.1 _ _ _ (Or.inl (Ne.symm hg))
  have hl := run_loadVar_mid (P := Tryz.prog) w5 (w.heap.size + 1) 0 27 [.int .u8 (bt0 n0 : Nat), .int .u8 (bt1 n0 : Nat), .int .u8 (bt2 n0 : Nat), .int .u8 (bt3 n0 : Nat), .int .u8 (bt0 n1 : Nat), .int .u8 (bt1 n1 : Nat), .int .u8 (bt2 n1 : Nat), .int .u8 (bt3 n1 : Nat), .int .u8 (bt0 n2 : Nat), .int .u8 (bt1 n2 : Nat), .int .u8 (bt2 n2 : Nat), .int .u8 (bt3 n2 : Nat), .int .u8 (bt0 n3 : Nat), .int .u8 (bt1 n3 : Nat), .int .u8 (bt2 n3 : Nat), .int .u8 (bt3 n3 : Nat)] _ hr5 Tryz.underlying27 rfl size42
  refine ⟨.tuple #[.agg #[.int .u8 (bt0 n0 : Nat), .int .u8 (bt1 n0 : Nat), .int .u8 (bt2 n0 : Nat), .int .u8 (bt3 n0 : Nat), .int .u8 (bt0 n1 : Nat), .int .u8 (bt1 n1 : Nat), .int .u8 (bt2 n1 : Nat), .int .u8 (bt3 n1 : Nat), .int .u8 (bt0 n2 : Nat), .int .u8 (bt1 n2 : Nat), .int .u8 (bt2 n2 : Nat), .int .u8 (bt3 n2 : Nat), .int .u8 (bt0 n3 : Nat), .int .u8 (bt1 n3 : Nat), .int .u8 (bt2 n3 : Nat), .int .u8 (bt3 n3 : Nat)], .int .i64 0], ?_, ?_, HK.out.touch ht5 hc5, ht5⟩
  · rw [results_cell_tmp Tryz.results32]
    simp [asAddr, hl]
  · rw [← HN.out]
    exact rfl
end Go.Proofs.YtehlppaidgkpaaaGreatDoor
