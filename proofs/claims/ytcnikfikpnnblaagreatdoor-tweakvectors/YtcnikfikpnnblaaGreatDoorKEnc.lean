import Derived.Test.YtcnikfikpnnblaaGreatDoorPart17
import Derived.Test.YtcnikfikpnnblaaGreatDoorEnc
namespace Go.Proofs.YtcnikfikpnnblaaGreatDoor
open Go.RowKit Go.RwLone
set_option linter.unusedVariables false
set_option linter.unusedSimpArgs false
set_option maxHeartbeats 3200000 in
set_option maxRecDepth 100000 in
theorem kenc_ok (g nr : Nat) (K : Nat → Nat) (s : W4) (w : World) (h : KeyAt w g nr K) (hs : s.ok) :
    Calls Tryz.prog 55 #[.pointer (some ⟨g, 0, none⟩), s.blk] w fun e w' => e = .returned (.tuple #[(encW nr K s).blk, .int .i64 0]) ∧ KeyAt w' g nr K ∧ Touch w w' g 4 1 := by
  have HK : Hid (KeyAt w g nr K) := h
  have HG : Hid (g < w.heap.size) := h.ciph.here
  clear h
  obtain ⟨⟨n0, n1, n2, n3⟩, HN⟩ : ∃ t, Hid (t = encW nr K s) := ⟨_, rfl⟩
  have HB2 : Hid (Below w.heap.size w ((w.alloc (.cells #[.int .u8 (bt0 s.a : Nat), .int .u8 (bt1 s.a : Nat), .int .u8 (bt2 s.a : Nat), .int .u8 (bt3 s.a : Nat), .int .u8 (bt0 s.b : Nat), .int .u8 (bt1 s.b : Nat), .int .u8 (bt2 s.b : Nat), .int .u8 (bt3 s.b : Nat), .int .u8 (bt0 s.c : Nat), .int .u8 (bt1 s.c : Nat), .int .u8 (bt2 s.c : Nat), .int .u8 (bt3 s.c : Nat), .int .u8 (bt0 s.d : Nat), .int .u8 (bt1 s.d : Nat), .int .u8 (bt2 s.d : Nat), .int .u8 (bt3 s.d : Nat)] 29)).alloc (.cells #[.int .u8 0, .int .u8 0, .int .u8 0, .int .u8 0, .int .u8 0, .int .u8 0, .int .u8 0, .int .u8 0, .int .u8 0, .int .u8 0, .int .u8 0, .int .u8 0, .int .u8 0, .int .u8 0, .int .u8 0, .int .u8 0] 29))) := (two_allocs w _ _ 29 29).1
  have HK2 : Hid (KeyAt ((w.alloc (.cells #[.int .u8 (bt0 s.a : Nat), .int .u8 (bt1 s.a : Nat), .int .u8 (bt2 s.a : Nat), .int .u8 (bt3 s.a : Nat), .int .u8 (bt0 s.b : Nat), .int .u8 (bt1 s.b : Nat), .int .u8 (bt2 s.b : Nat), .int .u8 (bt3 s.b : Nat), .int .u8 (bt0 s.c : Nat), .int .u8 (bt1 s.c : Nat), .int .u8 (bt2 s.c : Nat), .int .u8 (bt3 s.c : Nat), .int .u8 (bt0 s.d : Nat), .int .u8 (bt1 s.d : Nat), .int .u8 (bt2 s.d : Nat), .int .u8 (bt3 s.d : Nat)] 29)).alloc (.cells #[.int .u8 0, .int .u8 0, .int .u8 0, .int .u8 0, .int .u8 0, .int .u8 0, .int .u8 0, .int .u8 0, .int .u8 0, .int .u8 0, .int .u8 0, .int .u8 0, .int .u8 0, .int .u8 0, .int .u8 0, .int .u8 0] 29)) g nr K) := HK.out.below HB2.out HG.out
  have HH : Hid (Calls Tryz.prog 78 #[.pointer (some ⟨g, 0, none⟩)] ((w.alloc (.cells #[.int .u8 (bt0 s.a : Nat), .int .u8 (bt1 s.a : Nat), .int .u8 (bt2 s.a : Nat), .int .u8 (bt3 s.a : Nat), .int .u8 (bt0 s.b : Nat), .int .u8 (bt1 s.b : Nat), .int .u8 (bt2 s.b : Nat), .int .u8 (bt3 s.b : Nat), .int .u8 (bt0 s.c : Nat), .int .u8 (bt1 s.c : Nat), .int .u8 (bt2 s.c : Nat), .int .u8 (bt3 s.c : Nat), .int .u8 (bt0 s.d : Nat), .int .u8 (bt1 s.d : Nat), .int .u8 (bt2 s.d : Nat), .int .u8 (bt3 s.d : Nat)] 29)).alloc (.cells #[.int .u8 0, .int .u8 0, .int .u8 0, .int .u8 0, .int .u8 0, .int .u8 0, .int .u8 0, .int .u8 0, .int .u8 0, .int .u8 0, .int .u8 0, .int .u8 0, .int .u8 0, .int .u8 0, .int .u8 0, .int .u8 0] 29)) fun e w' => e = .returned (.int .i64 0) ∧ w' = (((w.alloc (.cells #[.int .u8 (bt0 s.a : Nat), .int .u8 (bt1 s.a : Nat), .int .u8 (bt2 s.a : Nat), .int .u8 (bt3 s.a : Nat), .int .u8 (bt0 s.b : Nat), .int .u8 (bt1 s.b : Nat), .int .u8 (bt2 s.b : Nat), .int .u8 (bt3 s.b : Nat), .int .u8 (bt0 s.c : Nat), .int .u8 (bt1 s.c : Nat), .int .u8 (bt2 s.c : Nat), .int .u8 (bt3 s.c : Nat), .int .u8 (bt0 s.d : Nat), .int .u8 (bt1 s.d : Nat), .int .u8 (bt2 s.d : Nat), .int .u8 (bt3 s.d : Nat)] 29)).alloc (.cells #[.int .u8 0, .int .u8 0, .int .u8 0, .int .u8 0, .int .u8 0, .int .u8 0, .int .u8 0, .int .u8 0, .int .u8 0, .int .u8 0, .int .u8 0, .int .u8 0, .int .u8 0, .int .u8 0, .int .u8 0, .int .u8 0] 29))).setCell ⟨g, 4, none⟩ (.int .i32 1)) := hold_ok g nr K _ HK2.out
  have HE : Hid (∀ u, Ciph u g 6 nr K → Calls Tryz.prog 80 #[.pointer (some ⟨g, 6, none⟩), .agg #[.int .u8 (bt0 s.a : Nat), .int .u8 (bt1 s.a : Nat), .int .u8 (bt2 s.a : Nat), .int .u8 (bt3 s.a : Nat), .int .u8 (bt0 s.b : Nat), .int .u8 (bt1 s.b : Nat), .int .u8 (bt2 s.b : Nat), .int .u8 (bt3 s.b : Nat), .int .u8 (bt0 s.c : Nat), .int .u8 (bt1 s.c : Nat), .int .u8 (bt2 s.c : Nat), .int .u8 (bt3 s.c : Nat), .int .u8 (bt0 s.d : Nat), .int .u8 (bt1 s.d : Nat), .int .u8 (bt2 s.d : Nat), .int .u8 (bt3 s.d : Nat)]] u fun e u' => e = .returned (.agg #[.int .u8 (bt0 n0 : Nat), .int .u8 (bt1 n0 : Nat), .int .u8 (bt2 n0 : Nat), .int .u8 (bt3 n0 : Nat), .int .u8 (bt0 n1 : Nat), .int .u8 (bt1 n1 : Nat), .int .u8 (bt2 n1 : Nat), .int .u8 (bt3 n1 : Nat), .int .u8 (bt0 n2 : Nat), .int .u8 (bt1 n2 : Nat), .int .u8 (bt2 n2 : Nat), .int .u8 (bt3 n2 : Nat), .int .u8 (bt0 n3 : Nat), .int .u8 (bt1 n3 : Nat), .int .u8 (bt2 n3 : Nat), .int .u8 (bt3 n3 : Nat)]) ∧ Below u.heap.size u u') := fun u hu => by
    have := enc_ok g 6 nr K s u hu hs
    rw [← HN.out] at this
    exact this
  clear hs
  have HSZ : Hid (((w.alloc (.cells #[.int .u8 (bt0 s.a : Nat), .int .u8 (bt1 s.a : Nat), .int .u8 (bt2 s.a : Nat), .int .u8 (bt3 s.a : Nat), .int .u8 (bt0 s.b : Nat), .int .u8 (bt1 s.b : Nat), .int .u8 (bt2 s.b : Nat), .int .u8 (bt3 s.b : Nat), .int .u8 (bt0 s.c : Nat), .int .u8 (bt1 s.c : Nat), .int .u8 (bt2 s.c : Nat), .int .u8 (bt3 s.c : Nat), .int .u8 (bt0 s.d : Nat), .int .u8 (bt1 s.d : Nat), .int .u8 (bt2 s.d : Nat), .int .u8 (bt3 s.d : Nat)] 29)).alloc (.cells #[.int .u8 0, .int .u8 0, .int .u8 0, .int .u8 0, .int .u8 0, .int .u8 0, .int .u8 0, .int .u8 0, .int .u8 0, .int .u8 0, .int .u8 0, .int .u8 0, .int .u8 0, .int .u8 0, .int .u8 0, .int .u8 0] 29)).heap.size = w.heap.size + 2) := by show _ = _; simp
  have HTH : Hid (((w.alloc (.cells #[.int .u8 (bt0 s.a : Nat), .int .u8 (bt1 s.a : Nat), .int .u8 (bt2 s.a : Nat), .int .u8 (bt3 s.a : Nat), .int .u8 (bt0 s.b : Nat), .int .u8 (bt1 s.b : Nat), .int .u8 (bt2 s.b : Nat), .int .u8 (bt3 s.b : Nat), .int .u8 (bt0 s.c : Nat), .int .u8 (bt1 s.c : Nat), .int .u8 (bt2 s.c : Nat), .int .u8 (bt3 s.c : Nat), .int .u8 (bt0 s.d : Nat), .int .u8 (bt1 s.d : Nat), .int .u8 (bt2 s.d : Nat), .int .u8 (bt3 s.d : Nat)] 29)).alloc (.cells #[.int .u8 0, .int .u8 0, .int .u8 0, .int .u8 0, .int .u8 0, .int .u8 0, .int .u8 0, .int .u8 0, .int .u8 0, .int .u8 0, .int .u8 0, .int .u8 0, .int .u8 0, .int .u8 0, .int .u8 0, .int .u8 0] 29)).there (w.heap.size + 1) 0 16) := there_two w _ _ 29 29 rfl
  have HRG : Hid (((w.alloc (.cells #[.int .u8 (bt0 s.a : Nat), .int .u8 (bt1 s.a : Nat), .int .u8 (bt2 s.a : Nat), .int .u8 (bt3 s.a : Nat), .int .u8 (bt0 s.b : Nat), .int .u8 (bt1 s.b : Nat), .int .u8 (bt2 s.b : Nat), .int .u8 (bt3 s.b : Nat), .int .u8 (bt0 s.c : Nat), .int .u8 (bt1 s.c : Nat), .int .u8 (bt2 s.c : Nat), .int .u8 (bt3 s.c : Nat), .int .u8 (bt0 s.d : Nat), .int .u8 (bt1 s.d : Nat), .int .u8 (bt2 s.d : Nat), .int .u8 (bt3 s.d : Nat)] 29)).alloc (.cells #[.int .u8 0, .int .u8 0, .int .u8 0, .int .u8 0, .int .u8 0, .int .u8 0, .int .u8 0, .int .u8 0, .int .u8 0, .int .u8 0, .int .u8 0, .int .u8 0, .int .u8 0, .int .u8 0, .int .u8 0, .int .u8 0] 29)).rangeAt w.heap.size 0 [.int .u8 (bt0 s.a : Nat), .int .u8 (bt1 s.a : Nat), .int .u8 (bt2 s.a : Nat), .int .u8 (bt3 s.a : Nat), .int .u8 (bt0 s.b : Nat), .int .u8 (bt1 s.b : Nat), .int .u8 (bt2 s.b : Nat), .int .u8 (bt3 s.b : Nat), .int .u8 (bt0 s.c : Nat), .int .u8 (bt1 s.c : Nat), .int .u8 (bt2 s.c : Nat), .int .u8 (bt3 s.c : Nat), .int .u8 (bt0 s.d : Nat), .int .u8 (bt1 s.d : Nat), .int .u8 (bt2 s.d : Nat), .int .u8 (bt3 s.d : Nat)]) := fun j v hv => by simpa using (two_allocs w #[.int .u8 (bt0 s.a : Nat), .int .u8 (bt1 s.a : Nat), .int .u8 (bt2 s.a : Nat), .int .u8 (bt3 s.a : Nat), .int .u8 (bt0 s.b : Nat), .int .u8 (bt1 s.b : Nat), .int .u8 (bt2 s.b : Nat), .int .u8 (bt3 s.b : Nat), .int .u8 (bt0 s.c : Nat), .int .u8 (bt1 s.c : Nat), .int .u8 (bt2 s.c : Nat), .int .u8 (bt3 s.c : Nat), .int .u8 (bt0 s.d : Nat), .int .u8 (bt1 s.d : Nat), .int .u8 (bt2 s.d : Nat), .int .u8 (bt3 s.d : Nat)] #[.int .u8 0, .int .u8 0, .int .u8 0, .int .u8 0, .int .u8 0, .int .u8 0, .int .u8 0, .int .u8 0, .int .u8 0, .int .u8 0, .int .u8 0, .int .u8 0, .int .u8 0, .int .u8 0, .int .u8 0, .int .u8 0] 29 29).2 j v (by simpa using hv)
  show Calls Tryz.prog 55 #[.pointer (some ⟨g, 0, none⟩), .agg #[.int .u8 (bt0 s.a : Nat), .int .u8 (bt1 s.a : Nat), .int .u8 (bt2 s.a : Nat), .int .u8 (bt3 s.a : Nat), .int .u8 (bt0 s.b : Nat), .int .u8 (bt1 s.b : Nat), .int .u8 (bt2 s.b : Nat), .int .u8 (bt3 s.b : Nat), .int .u8 (bt0 s.c : Nat), .int .u8 (bt1 s.c : Nat), .int .u8 (bt2 s.c : Nat), .int .u8 (bt3 s.c : Nat), .int .u8 (bt0 s.d : Nat), .int .u8 (bt1 s.d : Nat), .int .u8 (bt2 s.d : Nat), .int .u8 (bt3 s.d : Nat)]] w _
  go_enter_defers Tryz.func55, Tryz.ntmps55
  go_wp2_with (first | (go_at_call 78; refine HH.out.mono ?_))
  rintro e1 w1 ⟨rfl, hw1⟩
  have H1 : Hid (Ciph w1 g 6 nr K ∧ Touch ((w.alloc (.cells #[.int .u8 (bt0 s.a : Nat), .int .u8 (bt1 s.a : Nat), .int .u8 (bt2 s.a : Nat), .int .u8 (bt3 s.a : Nat), .int .u8 (bt0 s.b : Nat), .int .u8 (bt1 s.b : Nat), .int .u8 (bt2 s.b : Nat), .int .u8 (bt3 s.b : Nat), .int .u8 (bt0 s.c : Nat), .int .u8 (bt1 s.c : Nat), .int .u8 (bt2 s.c : Nat), .int .u8 (bt3 s.c : Nat), .int .u8 (bt0 s.d : Nat), .int .u8 (bt1 s.d : Nat), .int .u8 (bt2 s.d : Nat), .int .u8 (bt3 s.d : Nat)] 29)).alloc (.cells #[.int .u8 0, .int .u8 0, .int .u8 0, .int .u8 0, .int .u8 0, .int .u8 0, .int .u8 0, .int .u8 0, .int .u8 0, .int .u8 0, .int .u8 0, .int .u8 0, .int .u8 0, .int .u8 0, .int .u8 0, .int .u8 0] 29)) w1 g 4 1 ∧ w1.cell? ⟨g, 4, none⟩ = some (.int .i32 1)) := by
    rw [hw1]
    refine ⟨held_ciph HK2.out 1, (Touch.refl _ g 4 1).setCell 4 _ (by omega) (by omega), ?_⟩
    have := (HK2.out.room 4 (by decide)).1
    exact World.cell?_setCell_same' _ _ _ (by simpa using this)
  clear hw1 HH
  have gl : Hid (∀ u, Below w1.heap.size w1 u → u.rangeAt w.heap.size 0 [.int .u8 (bt0 s.a : Nat), .int .u8 (bt1 s.a : Nat), .int .u8 (bt2 s.a : Nat), .int .u8 (bt3 s.a : Nat), .int .u8 (bt0 s.b : Nat), .int .u8 (bt1 s.b : Nat), .int .u8 (bt2 s.b : Nat), .int .u8 (bt3 s.b : Nat), .int .u8 (bt0 s.c : Nat), .int .u8 (bt1 s.c : Nat), .int .u8 (bt2 s.c : Nat), .int .u8 (bt3 s.c : Nat), .int .u8 (bt0 s.d : Nat), .int .u8 (bt1 s.d : Nat), .int .u8 (bt2 s.d : Nat), .int .u8 (bt3 s.d : Nat)]) := fun u hu j v hv => by
    have hs := H1.out.2.1.size
    have hz := HSZ.out
    have hgw := HG.out
    rw [hu.cell (p := ⟨w.heap.size, 0 + j, none⟩) (show w.heap.size < _ by omega), H1.out.2.1.far (p := ⟨w.heap.size, 0 + j, none⟩) (show w.heap.size < _ by omega) (show w.heap.size ≠ g by omega)]
    exact HRG.out j v hv
  go_wp2_with fail
  have hS0 : Below w1.heap.size w1 w1.drew := (Below.refl _ _).drew
  refine wp_region_noPanic ?_
  refine wp_region_till (fun u => Below w1.heap.size w1 u) 4 (by kernel_rfl) (by decide) (by kernel_rfl) (by kernel_rfl) (by kernel_rfl) (fun inv => ?_)
  refine till_at 0 16 (.pointer (some ⟨g, 0, none⟩)) inv rfl rfl (by decide) (by kernel_rfl) (by kernel_rfl) (fun _ _ _ h => h) (hS0) (Or.inl ⟨by rfl, fun w' hS' => by go_simp⟩) (fun inv' => ?_)
  clear inv; have inv := inv'; clear inv'
  simp only [List.setIfInBounds_toArray, List.set_cons_zero, List.set_cons_succ]
  refine till_at 1 17 (.pointer (some ⟨g, 0, none⟩)) inv rfl rfl (by decide) (by kernel_rfl) (by kernel_rfl) (fun _ _ _ h => h) (hS0) (Or.inl ⟨by rfl, fun w' hS' => by go_simp⟩) (fun inv' => ?_)
  clear inv; have inv := inv'; clear inv'
  simp only [List.setIfInBounds_toArray, List.set_cons_zero, List.set_cons_succ]
  refine till_at 2 18 (.pointer (some ⟨g, 6, none⟩)) inv rfl rfl (by decide) (by kernel_rfl) (by kernel_rfl) (fun _ _ _ h => h) (hS0) (Or.inl ⟨by rfl, fun w' hS' => by go_simp⟩) (fun inv' => ?_)
  clear inv; have inv := inv'; clear inv'
  simp only [List.setIfInBounds_toArray, List.set_cons_zero, List.set_cons_succ]
  refine till_at 3 19 (.agg #[.int .u8 (bt0 s.a : Nat), .int .u8 (bt1 s.a : Nat), .int .u8 (bt2 s.a : Nat), .int .u8 (bt3 s.a : Nat), .int .u8 (bt0 s.b : Nat), .int .u8 (bt1 s.b : Nat), .int .u8 (bt2 s.b : Nat), .int .u8 (bt3 s.b : Nat), .int .u8 (bt0 s.c : Nat), .int .u8 (bt1 s.c : Nat), .int .u8 (bt2 s.c : Nat), .int .u8 (bt3 s.c : Nat), .int .u8 (bt0 s.d : Nat), .int .u8 (bt1 s.d : Nat), .int .u8 (bt2 s.d : Nat), .int .u8 (bt3 s.d : Nat)]) inv rfl rfl (by decide) (by kernel_rfl) (by kernel_rfl) (fun _ _ _ h => h) (hS0) (yieldsIf_load_mid (by rfl) 29 (.tmp 3) rfl w.heap.size 0 rfl [.int .u8 (bt0 s.a : Nat), .int .u8 (bt1 s.a : Nat), .int .u8 (bt2 s.a : Nat), .int .u8 (bt3 s.a : Nat), .int .u8 (bt0 s.b : Nat), .int .u8 (bt1 s.b : Nat), .int .u8 (bt2 s.b : Nat), .int .u8 (bt3 s.b : Nat), .int .u8 (bt0 s.c : Nat), .int .u8 (bt1 s.c : Nat), .int .u8 (bt2 s.c : Nat), .int .u8 (bt3 s.c : Nat), .int .u8 (bt0 s.d : Nat), .int .u8 (bt1 s.d : Nat), .int .u8 (bt2 s.d : Nat), .int .u8 (bt3 s.d : Nat)] _ (fun u hu => gl.out u hu) Tryz.underlying29 rfl size42) (fun inv' => ?_)
  clear inv; have inv := inv'; clear inv'
  simp only [List.setIfInBounds_toArray, List.set_cons_zero, List.set_cons_succ]
  refine till_tail (i := 4) (by kernel_rfl) (by decide) rfl (fun K hK => ?_)
  go_simp
  refine (HE.out _ (H1.out.1.below hS0 H1.out.1.here)).mono ?_
  rintro e1 u2 ⟨rfl, hu2⟩
  go_wp2_with fail
  refine hK.out _ _ ?_
  clear hK K
  try simp only [List.setIfInBounds_toArray, List.set_cons_zero, List.set_cons_succ]
  have HT2 : Hid (u2.there (w.heap.size + 1) 0 16 ∧ Touch w u2 g 4 1 ∧ u2.cell? ⟨g, 4, none⟩ = some (.int .i32 1)) := by
    have hs := H1.out.2.1.size
    have hz := HSZ.out
    have hgw := HG.out
    have hg1 := H1.out.1.here
    have hb : Below w1.heap.size w1 u2 := hS0.trans (hu2.mono (Nat.le_refl _))
    refine ⟨there_below (fun j hj => ?_) hb (by omega), ?_, (hb.cell hg1).trans H1.out.2.2⟩
    · rw [H1.out.2.1.far (p := ⟨w.heap.size + 1, 0 + j, none⟩) (show w.heap.size + 1 < _ by omega) (show w.heap.size + 1 ≠ g by omega), H1.out.2.1.farFrozen (p := ⟨w.heap.size + 1, 0 + j, none⟩) (show w.heap.size + 1 < _ by omega) (show w.heap.size + 1 ≠ g by omega)]
      exact HTH.out j hj
    · exact ((((Touch.refl w g 4 1).alloc _ hgw).alloc _ hgw).trans H1.out.2.1).below hb hgw
  refine till_tail (i := 5) (by kernel_rfl) (by decide) rfl (fun K hK => ?_)
  rw [if_pos (by rfl)]
  refine wp_store_mid 29 (.tmp 4) (.tmp 20) rfl (w.heap.size + 1) 0 #[.int .u8 (bt0 n0 : Nat), .int .u8 (bt1 n0 : Nat), .int .u8 (bt2 n0 : Nat), .int .u8 (bt3 n0 : Nat), .int .u8 (bt0 n1 : Nat), .int .u8 (bt1 n1 : Nat), .int .u8 (bt2 n1 : Nat), .int .u8 (bt3 n1 : Nat), .int .u8 (bt0 n2 : Nat), .int .u8 (bt1 n2 : Nat), .int .u8 (bt2 n2 : Nat), .int .u8 (bt3 n2 : Nat), .int .u8 (bt0 n3 : Nat), .int .u8 (bt1 n3 : Nat), .int .u8 (bt2 n3 : Nat), .int .u8 (bt3 n3 : Nat)] rfl rfl (HT2.out.1) (size42) (by kernel_rfl) ?_
  refine hK.out _ _ ?_
  clear hK K
  try simp only [List.setIfInBounds_toArray, List.set_cons_zero, List.set_cons_succ]
  refine till_tail (i := 6) (by kernel_rfl) (by decide) rfl (fun K hK => ?_)
  go_simp
  refine hK.out _ _ ?_
  clear hK K
  try simp only [List.setIfInBounds_toArray, List.set_cons_zero, List.set_cons_succ]
  refine till_done (by kernel_rfl) ?_ _
  refine NoPanic.normal ?_
  have HF : Hid ((u2.setCells (w.heap.size + 1) 0 [.int .u8 (bt0 n0 : Nat), .int .u8 (bt1 n0 : Nat), .int .u8 (bt2 n0 : Nat), .int .u8 (bt3 n0 : Nat), .int .u8 (bt0 n1 : Nat), .int .u8 (bt1 n1 : Nat), .int .u8 (bt2 n1 : Nat), .int .u8 (bt3 n1 : Nat), .int .u8 (bt0 n2 : Nat), .int .u8 (bt1 n2 : Nat), .int .u8 (bt2 n2 : Nat), .int .u8 (bt3 n2 : Nat), .int .u8 (bt0 n3 : Nat), .int .u8 (bt1 n3 : Nat), .int .u8 (bt2 n3 : Nat), .int .u8 (bt3 n3 : Nat)]).rangeAt (w.heap.size + 1) 0 [.int .u8 (bt0 n0 : Nat), .int .u8 (bt1 n0 : Nat), .int .u8 (bt2 n0 : Nat), .int .u8 (bt3 n0 : Nat), .int .u8 (bt0 n1 : Nat), .int .u8 (bt1 n1 : Nat), .int .u8 (bt2 n1 : Nat), .int .u8 (bt3 n1 : Nat), .int .u8 (bt0 n2 : Nat), .int .u8 (bt1 n2 : Nat), .int .u8 (bt2 n2 : Nat), .int .u8 (bt3 n2 : Nat), .int .u8 (bt0 n3 : Nat), .int .u8 (bt1 n3 : Nat), .int .u8 (bt2 n3 : Nat), .int .u8 (bt3 n3 : Nat)] ∧ Touch w (u2.setCells (w.heap.size + 1) 0 [.int .u8 (bt0 n0 : Nat), .int .u8 (bt1 n0 : Nat), .int .u8 (bt2 n0 : Nat), .int .u8 (bt3 n0 : Nat), .int .u8 (bt0 n1 : Nat), .int .u8 (bt1 n1 : Nat), .int .u8 (bt2 n1 : Nat), .int .u8 (bt3 n1 : Nat), .int .u8 (bt0 n2 : Nat), .int .u8 (bt1 n2 : Nat), .int .u8 (bt2 n2 : Nat), .int .u8 (bt3 n2 : Nat), .int .u8 (bt0 n3 : Nat), .int .u8 (bt1 n3 : Nat), .int .u8 (bt2 n3 : Nat), .int .u8 (bt3 n3 : Nat)]) g 4 1 ∧ (u2.setCells (w.heap.size + 1) 0 [.int .u8 (bt0 n0 : Nat), .int .u8 (bt1 n0 : Nat), .int .u8 (bt2 n0 : Nat), .int .u8 (bt3 n0 : Nat), .int .u8 (bt0 n1 : Nat), .int .u8 (bt1 n1 : Nat), .int .u8 (bt2 n1 : Nat), .int .u8 (bt3 n1 : Nat), .int .u8 (bt0 n2 : Nat), .int .u8 (bt1 n2 : Nat), .int .u8 (bt2 n2 : Nat), .int .u8 (bt3 n2 : Nat), .int .u8 (bt0 n3 : Nat), .int .u8 (bt1 n3 : Nat), .int .u8 (bt2 n3 : Nat), .int .u8 (bt3 n3 : Nat)]).cell? ⟨g, 4, none⟩ = some (.int .i32 1)) := by
    have hgw := HG.out
    refine ⟨World.rangeAt_setCells_same _ _ _ _ HT2.out.1, touch_new HT2.out.2.1 (Nat.le_succ _) _ _ hgw, ?_⟩
    rw [World.cell?_setCells_out (w.heap.size + 1) _ 0 u2 ⟨g, 4, none⟩ (fun e _ => absurd e (by simp; omega))]
    exact HT2.out.2.2
  generalize u2.setCells (w.heap.size + 1) 0 [.int .u8 (bt0 n0 : Nat), .int .u8 (bt1 n0 : Nat), .int .u8 (bt2 n0 : Nat), .int .u8 (bt3 n0 : Nat), .int .u8 (bt0 n1 : Nat), .int .u8 (bt1 n1 : Nat), .int .u8 (bt2 n1 : Nat), .int .u8 (bt3 n1 : Nat), .int .u8 (bt0 n2 : Nat), .int .u8 (bt1 n2 : Nat), .int .u8 (bt2 n2 : Nat), .int .u8 (bt3 n2 : Nat), .int .u8 (bt0 n3 : Nat), .int .u8 (bt1 n3 : Nat), .int .u8 (bt2 n3 : Nat), .int .u8 (bt3 n3 : Nat)] = w3 at HF ⊢
  clear hu2 hS0 gl
  go_wp2
  have hroom : w3.there g 0 1091 := HF.out.2.1.there _ _ HK.out.room
  obtain ⟨x0, c0⟩ := cell_of_there hroom 0 (by decide)
  obtain ⟨x2, c2⟩ := cell_of_there hroom 2 (by decide)
  have hz := (hroom 4 (by decide)).2
  have hcnt := HF.out.2.2
  refine leaves_cons (f := 79) (args := #[.pointer (some ⟨g, 0, none⟩)]) (by simp) (by simp [go_sem]) ?_
  refine (runlock_deferred rwRLib g 0 1 x0 x2 .returning _ c0 c2 hcnt hz (by decide +kernel)).mono ?_
  rintro e5 u5 w5 ⟨rfl, rfl, hw5⟩
  rw [show wrap32 (1 + -1) = 0 by decide +kernel] at hw5
  have hw5' : w5 = w3.setCells g 4 [.int .i32 0] := hw5
  have hg : g ≠ w.heap.size + 1 := by have := HG.out; omega
  have ht5 : Touch w w5 g 4 1 := by rw [hw5']; exact HF.out.2.1.setCells 4 _ (by omega) (by simp)
  have hc5 : w5.cell? ⟨g, 4, none⟩ = some (.int .i32 0) := by
    rw [hw5]
    exact World.cell?_setCell_same' _ _ _ (by rw [show (0 + 4) = 4 from rfl, hcnt]; rfl)
  have hr5 : w5.rangeAt (w.heap.size + 1) 0 [.int .u8 (bt0 n0 : Nat), .int .u8 (bt1 n0 : Nat), .int .u8 (bt2 n0 : Nat), .int .u8 (bt3 n0 : Nat), .int .u8 (bt0 n1 : Nat), .int .u8 (bt1 n1 : Nat), .int .u8 (bt2 n1 : Nat), .int .u8 (bt3 n1 : Nat), .int .u8 (bt0 n2 : Nat), .int .u8 (bt1 n2 : Nat), .int .u8 (bt2 n2 : Nat), .int .u8 (bt3 n2 : Nat), .int .u8 (bt0 n3 : Nat), .int .u8 (bt1 n3 : Nat), .int .u8 (bt2 n3 : Nat), .int .u8 (bt3 n3 : Nat)] := by rw [hw5']; exact World.rangeAt_setCells_apart HF.out.1 _ _ _ (Or.inl (Ne.symm hg))
  have hl := run_loadVar_mid (P := Tryz.prog) w5 (w.heap.size + 1) 0 29 [.int .u8 (bt0 n0 : Nat), .int .u8 (bt1 n0 : Nat), .int .u8 (bt2 n0 : Nat), .int .u8 (bt3 n0 : Nat), .int .u8 (bt0 n1 : Nat), .int .u8 (bt1 n1 : Nat), .int .u8 (bt2 n1 : Nat), .int .u8 (bt3 n1 : Nat), .int .u8 (bt0 n2 : Nat), .int .u8 (bt1 n2 : Nat), .int .u8 (bt2 n2 : Nat), .int .u8 (bt3 n2 : Nat), .int .u8 (bt0 n3 : Nat), .int .u8 (bt1 n3 : Nat), .int .u8 (bt2 n3 : Nat), .int .u8 (bt3 n3 : Nat)] _ hr5 Tryz.underlying29 rfl size42
  refine ⟨.tuple #[.agg #[.int .u8 (bt0 n0 : Nat), .int .u8 (bt1 n0 : Nat), .int .u8 (bt2 n0 : Nat), .int .u8 (bt3 n0 : Nat), .int .u8 (bt0 n1 : Nat), .int .u8 (bt1 n1 : Nat), .int .u8 (bt2 n1 : Nat), .int .u8 (bt3 n1 : Nat), .int .u8 (bt0 n2 : Nat), .int .u8 (bt1 n2 : Nat), .int .u8 (bt2 n2 : Nat), .int .u8 (bt3 n2 : Nat), .int .u8 (bt0 n3 : Nat), .int .u8 (bt1 n3 : Nat), .int .u8 (bt2 n3 : Nat), .int .u8 (bt3 n3 : Nat)], .int .i64 0], ?_, ?_, HK.out.touch ht5 hc5, ht5⟩
  · rw [results_cell_tmp Tryz.results55]
    simp [asAddr, hl]
  · rw [← HN.out]
    exact rfl
end Go.Proofs.YtcnikfikpnnblaaGreatDoor
