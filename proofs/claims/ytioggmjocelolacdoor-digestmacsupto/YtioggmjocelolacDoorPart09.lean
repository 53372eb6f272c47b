import Derived.Test.YtioggmjocelolacDoorPart08
import Derived.Deep.QuietTactic
import Derived.BigQuiet
import Derived.Maps.AppendAt
import Derived.Laws.AppendOwnNone
namespace Go.Proofs.YtioggmjocelolacDoor
open Go.RowKit
set_option linter.unusedVariables false
set_option linter.unusedSimpArgs false
theorem Below.toB {u v : World} (h : Below u.heap.size u v) {B : Nat} (hB : B ≤ u.heap.size) : Below B u v := h.mono hB
theorem num_u (e : Int) (w : World) : Calls Tryd.prog 11 #[.int .i64 e] w fun r w' => r = .returned (.int .i64 e) ∧ w' = w := by
  go_enter Tryd.func11, Tryd.ntmps11
  go_wp2
  go_ret
  exact ⟨rfl, rfl⟩
theorem size86z : (Tryd.prog.info? 86).map (·.size) = some (#[.int .i64 0, .bool false, .slice none 0 0, .slice none 0 0] : Array Value).size := size86
theorem one86z : (#[.int .i64 0, .bool false, .slice none 0 0, .slice none 0 0] : Array Value).all (·.oneCell') = true := by kernel_rfl
def NewG (w : World) (h : Int) (e : Ending) (w' : World) : Prop := ∃ g, e = .returned (.tuple #[.pointer (some ⟨g, 0, none⟩), .int .i64 0]) ∧ w.heap.size ≤ g ∧ Rep w' g 0 h (wdOf h) (firstE h) 0 [] ∧ Below w.heap.size w w'
set_option maxHeartbeats 3200000 in
set_option maxRecDepth 100000 in
/-- begun: KNew of a stream. -/
theorem begun_ok (B t i left : Nat) (d : Nat → Sl) (kv wv : Value) (ts : List (Value × Value × List Int)) (ok oa of oh : Int) (okx opx : Value) (u : World) (h0 : TSD u B t false d kv wv ts left) (hi : i < 3) (hT : Tbs u) (hB : 4 ≤ B) (hBu : B ≤ u.heap.size) :
    Calls Tryd.prog 69 #[.pointer (some ⟨t, 0, none⟩), .int .i64 (i : Nat), .agg #[.int .i64 ok, .int .i64 oa, .int .i64 of, .int .i64 oh, okx, opx]] u (StepP B t false ts.length u) := by
  have hb1 : Below u.heap.size u (u.alloc (.cells #[.int .i64 ok, .int .i64 oa, .int .i64 of, .int .i64 oh, okx, opx] 92)) := (Below.refl _ _).alloc (Nat.le_refl _) _
  have HT1 : Hid (Tables (u.alloc (.cells #[.int .i64 ok, .int .i64 oa, .int .i64 of, .int .i64 oh, okx, opx] 92))) := hT.t.below hb1 (by omega)
  have HH : Hid (TSD u B t false d kv wv ts left) := h0
  have HB1 : Hid (Below u.heap.size u (u.alloc (.cells #[.int .i64 ok, .int .i64 oa, .int .i64 of, .int .i64 oh, okx, opx] 92))) := hb1
  have HBu : Hid (B ≤ u.heap.size) := hBu
  have HI3 : Hid (i < 3) := hi
  have hi3 : ((i : Nat) : Int) < 3 := by omega
  have HBX : Hid ((u.alloc (.cells #[.int .i64 ok, .int .i64 oa, .int .i64 of, .int .i64 oh, okx, opx] 92)).cell? ⟨u.heap.size, 3, none⟩ = some (.int .i64 oh)) := by
    show World.cell? _ _ = _
    rw [World.cell?_alloc_at _ 92 _ _ rfl]; rfl
  have HS1 : Hid ((u.alloc (.cells #[.int .i64 ok, .int .i64 oa, .int .i64 of, .int .i64 oh, okx, opx] 92)).heap.size = u.heap.size + 1) := by show _ = _; simp
  clear h0 hT hB hBu hb1
  by_cases k : Known oh
  · have HK : Hid (Known oh) := k
    have KN : Hid (Calls Tryd.prog 29 #[.int .i64 oh] (u.alloc (.cells #[.int .i64 ok, .int .i64 oa, .int .i64 of, .int .i64 oh, okx, opx] 92)) (NewG (u.alloc (.cells #[.int .i64 ok, .int .i64 oa, .int .i64 of, .int .i64 oh, okx, opx] 92)) oh)) := new_good oh _ HK HT1
    have hsz : ¬ ((szOf oh : Nat) : Int) ≤ 0 := by have := szOf_known k; omega
    have hsp : (0 : Int) < ((szOf oh : Nat) : Int) := by omega
    obtain ⟨sz, HSZ⟩ : ∃ s, Hid (s = szOf oh) := ⟨_, rfl⟩
    have hsn : 0 < szOf oh := by omega
    rw [← HSZ.out] at hsz hsp hsn
    have KR : Hid (∀ v, Calls Tryd.prog 16 #[.int .i64 oh] v fun e w' => e = .returned (.int .i64 (sz : Nat)) ∧ w' = v) := fun v => by rw [HSZ.out]; exact rsize_ok oh HK.out v
    clear k
    go_enter Tryd.func69, Tryd.ntmps69
    go_wp2_with (first | (go_at_call 29; refine KN.out.mono ?_))
    intro e1 w2 hp1
    obtain ⟨g, rfl, hg1, hr2, hb2⟩ := hp1
    have H2 : Hid (Below u.heap.size u w2 ∧ Rep w2 g 0 oh (wdOf oh) (firstE oh) 0 [] ∧ u.heap.size ≤ g ∧ g ≠ u.heap.size) := ⟨HB1.out.trans (hb2.mono HB1.out.size), hr2, by have := HS1.out; omega, by have := HS1.out; omega⟩
    have hx2 : w2.cell? ⟨u.heap.size, 3, none⟩ = some (.int .i64 oh) := (hb2.cell (p := ⟨u.heap.size, 3, none⟩) (by show u.heap.size < _; have := HS1.out; omega)).trans HBX.out
    clear hg1 hr2 hb2 KN HBX HT1 HB1 HS1
    go_upto_region 2 with fail
    go_quiet (first | (go_at_call 11; exact Calls.quiet_of_same (num_u _ _)) | (go_at_call 16; exact Calls.quiet_of_same (KR.out _)))
    have H3 : Hid (Below u.heap.size u (w2.drewN nq) ∧ Rep (w2.drewN nq) g 0 oh (wdOf oh) (firstE oh) 0 [] ∧ u.heap.size ≤ g ∧ g ≠ u.heap.size) := ⟨H2.out.1.trans ((drew_fr w2 nq []).none.mono H2.out.1.size), H2.out.2.1.same rfl, H2.out.2.2⟩
    have hx3 : (w2.drewN nq).cell? ⟨u.heap.size, 3, none⟩ = some (.int .i64 oh) := hx2
    generalize w2.drewN nq = w3 at H3 hx3 ⊢
    clear hx2 H2
    have HTS3 : Hid (TSD w3 B t false d kv wv ts left) := HH.out.below H3.out.1
    obtain ⟨C3, HC0⟩ : ∃ C, Hid (TC u t C) := tc_there HH.out.s.there
    have HC3 : Hid (TC w3 t C3) := HC0.out.same (H3.out.1.block t (HH.out.s.lt t (mb_t _ _ _ _)).2)
    have hci : w3.cell? ⟨t, i, none⟩ = some (C3 i) := HC3.out.c i (by omega)
    have hfi : w3.frozen? ⟨t, i, none⟩ = false := HC3.out.froz i (by omega)
    go_upto_region 5 with fail
    obtain ⟨C4, HCE4⟩ : ∃ C, Hid (C = upC C3 i (.pointer (some ⟨g, 0, none⟩))) := ⟨_, rfl⟩
    have HC4 : Hid (TC (w3.setCell ⟨t, i, none⟩ (.pointer (some ⟨g, 0, none⟩))) t C4) := by show TC _ _ _; rw [HCE4.out]; exact HC3.out.set i _ (by omega)
    have HF4 : Hid (Fr w3 (w3.setCell ⟨t, i, none⟩ (.pointer (some ⟨g, 0, none⟩))) [t]) := set_fr w3 t i _
    have htu : t ≠ u.heap.size := by have := (HH.out.s.lt t (mb_t _ _ _ _)).2; omega
    have hx4 : (w3.setCell ⟨t, i, none⟩ (.pointer (some ⟨g, 0, none⟩))).cell? ⟨u.heap.size, 3, none⟩ = some (.int .i64 oh) := by
      rw [World.cell?_setCell_far _ _ _ _ (by exact htu)]
      exact hx3
    generalize w3.setCell ⟨t, i, none⟩ (.pointer (some ⟨g, 0, none⟩)) = w4 at HC4 HF4 hx4 ⊢
    clear hci hfi hx3
    have HTH : Hid (w4.there t (6 + i * 4) (#[.int .i64 0, .bool false, .slice none 0 0, .slice none 0 0] : Array Value).size) := HC4.out.part (6 + i * 4) 4 (by omega)
    go_upto_region 6 with (first
      | (refine wpList_store_mid (by rfl) 86 (.tmp 52) (.tmp 49) (by rfl) t (6 + i * 4) #[.int .i64 0, .bool false, .slice none 0 0, .slice none 0 0] (by rfl) (by rfl) HTH.out size86z one86z ?_))
    obtain ⟨C5, HC5⟩ : ∃ C, Hid (C = upC (upC (upC (upC C4 (6 + i * 4) (.int .i64 0)) (6 + i * 4 + 1) (.bool false)) (6 + i * 4 + 2) (.slice none 0 0)) (6 + i * 4 + 3) (.slice none 0 0)) := ⟨_, rfl⟩
    have HT5 : Hid (TC (w4.setCells t (6 + i * 4) [.int .i64 0, .bool false, .slice none 0 0, .slice none 0 0]) t C5) := by
      show TC _ _ _
      rw [HC5.out]
      exact TC.set4 HC4.out (6 + i * 4) (.int .i64 0) (.bool false) (.slice none 0 0) (.slice none 0 0) (by omega)
    have HF5 : Hid (Fr w3 (w4.setCells t (6 + i * 4) [.int .i64 0, .bool false, .slice none 0 0, .slice none 0 0]) [t]) := HF4.out.trans (sets_fr w4 t (6 + i * 4) [.int .i64 0, .bool false, .slice none 0 0, .slice none 0 0])
    have hSt0 : (w4.setCells t (6 + i * 4) [.int .i64 0, .bool false, .slice none 0 0, .slice none 0 0]).cell? ⟨u.heap.size, 3, none⟩ = some (.int .i64 oh) := by
      rw [World.cell?_setCells_out _ _ _ _ _ (fun e => absurd e.symm htu)]
      exact hx4
    generalize w4.setCells t (6 + i * 4) [.int .i64 0, .bool false, .slice none 0 0, .slice none 0 0] = w5 at HT5 HF5 hSt0 ⊢
    go_upto_region 7 with fail
    have HCE := HC5
    clear HC5
    have HC5 := HT5
    have hSt : w5.drew.cell? ⟨u.heap.size, 3, none⟩ = some (.int .i64 oh) := hSt0
    clear HTH hSt0 HT5 hx4 HF4
    refine wp_region_noPanic ?_
    refine wp_region_till (fun v => v.cell? ⟨u.heap.size, 3, none⟩ = some (.int .i64 oh)) 8 (by kernel_rfl) (by decide) (by decide +kernel) (by decide +kernel) (by decide +kernel) (fun inv => ?_)
    refine till_at 0 55 (.pointer (some ⟨t, 0, none⟩)) inv rfl rfl (by decide) (by decide +kernel) (by decide +kernel) (fun _ _ _ h => h) (hSt) (Or.inl ⟨by rfl, fun w' hS' => by go_simp⟩) (fun inv' => ?_)
    clear inv; have inv := inv'; clear inv'
    simp only [List.setIfInBounds_toArray, List.set_cons_zero, List.set_cons_succ]
    refine till_at 1 56 (.int .i64 (i : Nat)) inv rfl rfl (by decide) (by decide +kernel) (by decide +kernel) (fun _ _ _ h => h) (hSt) (Or.inl ⟨by rfl, fun w' hS' => by go_simp⟩) (fun inv' => ?_)
    clear inv; have inv := inv'; clear inv'
    simp only [List.setIfInBounds_toArray, List.set_cons_zero, List.set_cons_succ]
    refine till_at 2 57 (.pointer (some ⟨u.heap.size, 3, none⟩)) inv rfl rfl (by decide) (by decide +kernel) (by decide +kernel) (fun _ _ _ h => h) (hSt) (Or.inl ⟨by rfl, fun w' hS' => by go_simp⟩) (fun inv' => ?_)
    clear inv; have inv := inv'; clear inv'
    simp only [List.setIfInBounds_toArray, List.set_cons_zero, List.set_cons_succ]
    refine till_at 3 58 (.int .i64 oh) inv rfl rfl (by decide) (by decide +kernel) (by decide +kernel) (fun _ _ _ h => h) (hSt) (Or.inl ⟨by rfl, fun w' hS' => by have q1 := hS'; go_simp⟩) (fun inv' => ?_)
    clear inv; have inv := inv'; clear inv'
    simp only [List.setIfInBounds_toArray, List.set_cons_zero, List.set_cons_succ]
    refine till_at 4 59 (.pointer (some ⟨t, 0, none⟩)) inv rfl rfl (by decide) (by decide +kernel) (by decide +kernel) (fun _ _ _ h => h) (hSt) (Or.inl ⟨by rfl, fun w' hS' => by go_simp⟩) (fun inv' => ?_)
    clear inv; have inv := inv'; clear inv'
    simp only [List.setIfInBounds_toArray, List.set_cons_zero, List.set_cons_succ]
    refine till_at 5 60 (.pointer (some ⟨t, 6, none⟩)) inv rfl rfl (by decide) (by decide +kernel) (by decide +kernel) (fun _ _ _ h => h) (hSt) (Or.inl ⟨by rfl, fun w' hS' => by go_simp⟩) (fun inv' => ?_)
    clear inv; have inv := inv'; clear inv'
    simp only [List.setIfInBounds_toArray, List.set_cons_zero, List.set_cons_succ]
    refine till_at 6 61 (.pointer (some ⟨t, 6 + i * 4, none⟩)) inv rfl rfl (by decide) (by decide +kernel) (by decide +kernel) (fun _ _ _ h => h) (hSt) (Or.inl ⟨by rfl, fun w' hS' => by go_simp⟩) (fun inv' => ?_)
    clear inv; have inv := inv'; clear inv'
    simp only [List.setIfInBounds_toArray, List.set_cons_zero, List.set_cons_succ]
    refine till_at 7 62 (.pointer (some ⟨t, 6 + i * 4, none⟩)) inv rfl rfl (by decide) (by decide +kernel) (by decide +kernel) (fun _ _ _ h => h) (hSt) (Or.inl ⟨by rfl, fun w' hS' => by go_simp⟩) (fun inv' => ?_)
    clear inv; have inv := inv'; clear inv'
    simp only [List.setIfInBounds_toArray, List.set_cons_zero, List.set_cons_succ]
    refine till_tail (i := 8) (by decide +kernel) (by decide) rfl (fun Kx hK => ?_)
    rw [if_pos (by kernel_rfl)]
    have q1 : w5.drew.cell? ⟨t, 6 + i * 4, none⟩ = some (C5 (6 + i * 4)) := HC5.out.c _ (by omega)
    have q2 : w5.drew.frozen? ⟨t, 6 + i * 4, none⟩ = false := HC5.out.froz _ (by omega)
    go_simp
    refine hK.out _ _ ?_
    clear hK Kx
    refine till_done (by decide +kernel) ?_ _
    refine NoPanic.normal ?_
    clear q1 q2 hSt
    have HE : Hid (TSD (w5.setCell ⟨t, 6 + i * 4, none⟩ (.int .i64 oh)).drew B t false (upd3 d i ⟨some g, oh, false, [], [], .slice none 0 0, .slice none 0 0⟩) kv wv ts left ∧ Below B u (w5.setCell ⟨t, 6 + i * 4, none⟩ (.int .i64 oh)).drew) := by
      have hf : Fr w3 (w5.setCell ⟨t, 6 + i * 4, none⟩ (.int .i64 oh)).drew [t] := (HF5.out.trans (set_fr w5 t _ _)).trans (drew_fr _ 1 _)
      have htc := ((HC5.out.set (6 + i * 4) (.int .i64 oh) (by have := HI3.out; omega)).drew)
      have h3 := HI3.out
      have htl := HTS3.out.s.tc HC3.out i h3
      have hobj : Rep (w5.setCell ⟨t, 6 + i * 4, none⟩ (.int .i64 oh)).drew g 0 oh (wdOf oh) (firstE oh) 0 [] := H3.out.2.1.same (hf.block g (H3.out.2.1.lt) (fun q => by have := (HH.out.s.lt t (mb_t _ _ _ _)).2; have := H3.out.2.2.1; simp at q; omega))
      refine ⟨HH.out.slot h3 ((below_fr H3.out.1 [t]).trans hf) (fun b hb => .inl (by simpa using hb)) HC0.out htc (fun j h0 h1 h2 h4 h5 => ?_) ?_ ?_ ?_ ?_ ?_ ?_ ?_ ⟨fun e => (by cases e), fun g' e => ?_, view_nil _, view_nil _, Nat.zero_le _⟩ (fun g' e => ?_) (fun e => absurd rfl e) (fun e => absurd rfl e) (Nat.le_refl _) (by have := HTS3.out.s.zl i h3; simp; omega), ?_⟩
      · rw [HCE.out, HCE4.out, upC_other _ _ _ _ (by omega), upC_other _ _ _ _ (by omega), upC_other _ _ _ _ (by omega), upC_other _ _ _ _ (by omega), upC_other _ _ _ _ (by omega), upC_other _ _ _ _ (by omega)]
      · rw [HCE.out, HCE4.out, upC_other _ _ _ _ (by omega), upC_other _ _ _ _ (by omega), upC_other _ _ _ _ (by omega), upC_other _ _ _ _ (by omega), upC_other _ _ _ _ (by omega), upC_same _ _ _ _ rfl]; rfl
      · rw [HCE.out, HCE4.out, upC_other _ _ _ _ (by omega), upC_other _ _ _ _ (by omega), upC_other _ _ _ _ (by omega), upC_other _ _ _ _ (by omega), upC_other _ _ _ _ (by omega), upC_other _ _ _ _ (by omega)]; exact htl.2.1
      · rw [upC_same _ _ _ _ rfl]
      · rw [HCE.out, upC_other _ _ _ _ (by omega), upC_other _ _ _ _ (by omega), upC_other _ _ _ _ (by omega), upC_same _ _ _ _ rfl]
      · rw [HCE.out, upC_other _ _ _ _ (by omega), upC_other _ _ _ _ (by omega), upC_same _ _ _ _ rfl]
      · rw [HCE.out, upC_other _ _ _ _ (by omega), upC_same _ _ _ _ rfl]
      · rw [HCE.out, HCE4.out, upC_other _ _ _ _ (by omega), upC_other _ _ _ _ (by omega), upC_other _ _ _ _ (by omega), upC_other _ _ _ _ (by omega), upC_other _ _ _ _ (by omega), upC_other _ _ _ _ (by omega)]; exact HTS3.out.s.tcl HC3.out
      · injection e with e
        subst e
        exact ⟨HK.out, rfl, Nat.le_trans HBu.out H3.out.2.2.1, hobj⟩
      · injection e with e
        subst e
        exact .inr H3.out.2.2.1
      · refine (H3.out.1.mono HBu.out).trans (hf.toBelow (fun b hb => ?_) (Nat.le_trans HBu.out H3.out.1.size))
        have e : b = t := by simpa using hb
        rw [e]
        exact HH.out.s.tB
    generalize (w5.setCell ⟨t, 6 + i * 4, none⟩ (.int .i64 oh)).drew = w7 at HE ⊢
    go_wp2
    go_ret
    exact ⟨rfl, ⟨_, kv, wv, ts, left, by omega, HE.out.1⟩, HE.out.2⟩
  · have HK : Hid (¬ Known oh) := k
    obtain ⟨b1, b2, b3, b4⟩ := bad_of k
    have KN : Hid (Calls Tryd.prog 29 #[.int .i64 oh] (u.alloc (.cells #[.int .i64 ok, .int .i64 oa, .int .i64 of, .int .i64 oh, okx, opx] 92)) fun e w' => e = .returned (.tuple #[.pointer none, .int .i64 10]) ∧ Below (u.alloc (.cells #[.int .i64 ok, .int .i64 oa, .int .i64 of, .int .i64 oh, okx, opx] 92)).heap.size (u.alloc (.cells #[.int .i64 ok, .int .i64 oa, .int .i64 of, .int .i64 oh, okx, opx] 92)) w') := new_bad oh _ b1 b2 b3 b4
    have KR : Hid (∀ v, Calls Tryd.prog 16 #[.int .i64 oh] v fun e w' => e = .returned (.int .i64 0) ∧ w' = v) := fun v => rsize_bad oh HK.out v
    clear k b1 b2 b3 b4
    go_enter Tryd.func69, Tryd.ntmps69
    go_wp2_with (first | (go_at_call 29; refine KN.out.mono ?_))
    intro e1 w2 hp1
    obtain ⟨rfl, hb2⟩ := hp1
    have H2 : Hid (Below u.heap.size u w2) := HB1.out.trans (hb2.mono HB1.out.size)
    have hx2 : w2.cell? ⟨u.heap.size, 3, none⟩ = some (.int .i64 oh) := (hb2.cell (p := ⟨u.heap.size, 3, none⟩) (by show u.heap.size < _; have := HS1.out; omega)).trans HBX.out
    clear hb2 KN HBX HT1 HB1 HS1
    go_upto_region 2 with fail
    go_quiet (first | (go_at_call 11; exact Calls.quiet_of_same (num_u _ _)) | (go_at_call 16; exact Calls.quiet_of_same (KR.out _)))
    have H3 : Hid (Below u.heap.size u (w2.drewN nq)) := H2.out.trans ((drew_fr w2 nq []).none.mono H2.out.size)
    generalize w2.drewN nq = w3 at H3 ⊢
    clear hx2 H2
    obtain ⟨C3, HC0⟩ : ∃ C, Hid (TC u t C) := tc_there HH.out.s.there
    have HC3 : Hid (TC w3 t C3) := HC0.out.same (H3.out.block t (HH.out.s.lt t (mb_t _ _ _ _)).2)
    have hci : w3.cell? ⟨t, i, none⟩ = some (C3 i) := HC3.out.c i (by omega)
    have hfi : w3.frozen? ⟨t, i, none⟩ = false := HC3.out.froz i (by omega)
    go_upto_region 5 with fail
    obtain ⟨C4, HCE4⟩ : ∃ C, Hid (C = upC C3 i (.pointer none)) := ⟨_, rfl⟩
    have HC4 : Hid (TC (w3.setCell ⟨t, i, none⟩ (.pointer none)) t C4) := by show TC _ _ _; rw [HCE4.out]; exact HC3.out.set i _ (by omega)
    have HF4 : Hid (Fr w3 (w3.setCell ⟨t, i, none⟩ (.pointer none)) [t]) := set_fr w3 t i _
    generalize w3.setCell ⟨t, i, none⟩ (.pointer none) = w4 at HC4 HF4 ⊢
    clear hci hfi
    have HTH : Hid (w4.there t (6 + i * 4) (#[.int .i64 0, .bool false, .slice none 0 0, .slice none 0 0] : Array Value).size) := HC4.out.part (6 + i * 4) 4 (by omega)
    go_upto_region 6 with (first
      | (refine wpList_store_mid (by rfl) 86 (.tmp 52) (.tmp 49) (by rfl) t (6 + i * 4) #[.int .i64 0, .bool false, .slice none 0 0, .slice none 0 0] (by rfl) (by rfl) HTH.out size86z one86z ?_))
    obtain ⟨C5, HCE⟩ : ∃ C, Hid (C = upC (upC (upC (upC C4 (6 + i * 4) (.int .i64 0)) (6 + i * 4 + 1) (.bool false)) (6 + i * 4 + 2) (.slice none 0 0)) (6 + i * 4 + 3) (.slice none 0 0)) := ⟨_, rfl⟩
    have HT5 : Hid (TC (w4.setCells t (6 + i * 4) [.int .i64 0, .bool false, .slice none 0 0, .slice none 0 0]) t C5) := by
      show TC _ _ _
      rw [HCE.out]
      exact TC.set4 HC4.out (6 + i * 4) (.int .i64 0) (.bool false) (.slice none 0 0) (.slice none 0 0) (by omega)
    have HF5 : Hid (Fr w3 (w4.setCells t (6 + i * 4) [.int .i64 0, .bool false, .slice none 0 0, .slice none 0 0]) [t]) := HF4.out.trans (sets_fr w4 t (6 + i * 4) [.int .i64 0, .bool false, .slice none 0 0, .slice none 0 0])
    generalize w4.setCells t (6 + i * 4) [.int .i64 0, .bool false, .slice none 0 0, .slice none 0 0] = w5 at HT5 HF5 ⊢
    clear HTH HF4
    have HE : Hid (TSD w5 B t false (upd3 d i Sl.no) kv wv ts left ∧ Below B u w5) := by
      have h3 := HI3.out
      have htl := HH.out.s.tc HC0.out i h3
      refine ⟨HH.out.slot h3 ((below_fr H3.out [t]).trans HF5.out) (fun b hb => .inl (by simpa using hb)) HC0.out HT5.out (fun j h0 h1 h2 h4 h5 => ?_) ?_ ?_ ?_ ?_ ?_ ?_ ?_ (no_at _ _ _) (fun g' e => by cases e) (fun e => absurd rfl e) (fun e => absurd rfl e) (Nat.le_refl _) (by have := HH.out.s.zl i h3; simp [Sl.no]; omega), ?_⟩
      · rw [HCE.out, HCE4.out, upC_other _ _ _ _ (by omega), upC_other _ _ _ _ (by omega), upC_other _ _ _ _ (by omega), upC_other _ _ _ _ (by omega), upC_other _ _ _ _ (by omega)]
      · rw [HCE.out, HCE4.out, upC_other _ _ _ _ (by omega), upC_other _ _ _ _ (by omega), upC_other _ _ _ _ (by omega), upC_other _ _ _ _ (by omega), upC_same _ _ _ _ rfl]; rfl
      · rw [HCE.out, HCE4.out, upC_other _ _ _ _ (by omega), upC_other _ _ _ _ (by omega), upC_other _ _ _ _ (by omega), upC_other _ _ _ _ (by omega), upC_other _ _ _ _ (by omega)]; exact htl.2.1
      · rw [HCE.out, upC_other _ _ _ _ (by omega), upC_other _ _ _ _ (by omega), upC_other _ _ _ _ (by omega), upC_same _ _ _ _ rfl]; rfl
      · rw [HCE.out, upC_other _ _ _ _ (by omega), upC_other _ _ _ _ (by omega), upC_same _ _ _ _ rfl]; rfl
      · rw [HCE.out, upC_other _ _ _ _ (by omega), upC_same _ _ _ _ rfl]; rfl
      · rw [HCE.out, upC_same _ _ _ _ rfl]; rfl
      · rw [HCE.out, HCE4.out, upC_other _ _ _ _ (by omega), upC_other _ _ _ _ (by omega), upC_other _ _ _ _ (by omega), upC_other _ _ _ _ (by omega), upC_other _ _ _ _ (by omega)]; exact HH.out.s.tcl HC0.out
      · refine (H3.out.mono HBu.out).trans (HF5.out.toBelow (fun b hb => ?_) (Nat.le_trans HBu.out H3.out.size))
        have e : b = t := by simpa using hb
        rw [e]
        exact HH.out.s.tB
    go_wp2
    go_ret
    exact ⟨rfl, ⟨_, kv, wv, ts, left, by omega, HE.out.1⟩, HE.out.2⟩
end Go.Proofs.YtioggmjocelolacDoor
namespace Go.Proofs.YtioggmjocelolacDoor
open Go.RowKit
set_option linter.unusedVariables false
set_option linter.unusedSimpArgs false
set_option maxHeartbeats 3200000 in
set_option maxRecDepth 100000 in
theorem reset_f (B t i left : Nat) (d : Nat → Sl) (kv wv : Value) (ts : List (Value × Value × List Int)) (u : World) (h0 : TSD u B t false d kv wv ts left) (hi : i < 3) (hT : Tbs u) (hB : 4 ≤ B) (hBu : B ≤ u.heap.size) :
    Calls Tryd.prog 72 #[.pointer (some ⟨t, 0, none⟩), .int .i64 (i : Nat), .bool false] u (StepP B t false ts.length u) := by
  have HH : Hid (TSD u B t false d kv wv ts left) := h0
  have HBu : Hid (B ≤ u.heap.size) := hBu
  have HI3 : Hid (i < 3) := hi
  have hi3 : ((i : Nat) : Int) < 3 := by omega
  have hcp : u.cell? ⟨t, i, none⟩ = some (gp (d i).g) := h0.s.cs i hi
  have hfh : u.cell? ⟨t, 6 + i * 4, none⟩ = some (.int .i64 (d i).h) := h0.s.fh i hi
  have KR : Hid (Calls Tryd.prog 83 #[gp (d i).g] u (WriP false (d i) [] u)) := sreset_any (d i) B u (h0.s.sl i hi) hT.t
  cases hg : (d i).g with
  | none =>
    have hno : d i = Sl.no := (h0.s.sl i hi).nil hg
    rw [hno] at hfh KR
    rw [hg] at hcp
    have hfh' : u.cell? ⟨t, 6 + i * 4, none⟩ = some (.int .i64 0) := hfh
    have KR' : Hid (Calls Tryd.prog 83 #[.pointer none] u fun e u' => e = .returned (.int .i64 1) ∧ Below u.heap.size u u') := KR.out.mono fun e u' ⟨h1, h2, _⟩ => ⟨h1, h2.none⟩
    have hcp' : u.cell? ⟨t, i, none⟩ = some (.pointer none) := hcp
    clear hfh hcp KR h0 hi hT hB hBu hno
    go_enter Tryd.func72, Tryd.ntmps72
    go_wp2_with (first | (go_at_call 83; refine KR'.out.mono ?_))
    rintro e1 w1 ⟨rfl, hb1⟩
    have H1 : Hid (TSD w1 B t false d kv wv ts left ∧ Below B u w1) := ⟨HH.out.below hb1, hb1.mono HBu.out⟩
    have hf1 : w1.cell? ⟨t, 6 + i * 4, none⟩ = some (.int .i64 0) := (hb1.cell (p := ⟨t, 6 + i * 4, none⟩) (HH.out.s.lt t (mb_t _ _ _ _)).2).trans hfh'
    clear hb1 KR' hfh' hcp'
    go_wp2_with (first | (go_at_call 11; refine (num_u _ _).mono ?_; rintro e9 w9 ⟨rfl, hw9⟩; obtain rfl := hw9.symm))
    go_ret
    exact ⟨rfl, ⟨d, kv, wv, ts, left, by omega, H1.out.1⟩, H1.out.2⟩
  | some g =>
    obtain ⟨kk, hkd, hgB, hob⟩ := (h0.s.sl i hi).obj g hg
    have HK : Hid (Known (d i).h ∧ (d i).kd = false ∧ B ≤ g) := ⟨kk, hkd, hgB⟩
    obtain ⟨hv, HHV⟩ : ∃ x, Hid (x = (d i).h) := ⟨_, rfl⟩
    have hne : ¬ hv = 0 := by rw [HHV.out]; rcases kk with e | e | e | e <;> omega
    rw [← HHV.out] at hfh
    rw [hg] at hcp KR
    have hcp' : u.cell? ⟨t, i, none⟩ = some (.pointer (some ⟨g, 0, none⟩)) := hcp
    have KR' : Hid (Calls Tryd.prog 83 #[.pointer (some ⟨g, 0, none⟩)] u fun e u' => e = .returned (.int .i64 0) ∧ Fr u u' [g] ∧ Obj false u' g (d i).h (d i).key []) := KR.out.mono fun e u' ⟨h1, h2, h3⟩ => by
      rw [hg] at h2
      exact ⟨by rw [h1, erN, if_neg (by rw [hg]; exact fun q => by cases q)], h2, h3 g hg⟩
    have HGT : Hid (g ≠ t) := fun e => h0.s.ap.gt i hi (by rw [hg, e])
    have HG : Hid ((d i).g = some g) := hg
    clear hcp KR h0 hi hT hB hBu kk hkd hgB hob hg
    go_enter Tryd.func72, Tryd.ntmps72
    go_wp2_with (first | (go_at_call 83; refine KR'.out.mono ?_))
    rintro e1 w1 ⟨rfl, hf1, ho1⟩
    obtain ⟨C0, HC0⟩ : ∃ C, Hid (TC u t C) := tc_there HH.out.s.there
    have HC1 : Hid (TC w1 t C0) := HC0.out.same (hf1.block t (HH.out.s.lt t (mb_t _ _ _ _)).2 (by simpa using (fun q => HGT.out q.symm)))
    have HF1 : Hid (Fr u w1 [g] ∧ Obj false w1 g (d i).h (d i).key []) := ⟨hf1, ho1⟩
    have hc1 : w1.cell? ⟨t, 6 + i * 4, none⟩ = some (.int .i64 hv) := by
      have h1 := (HH.out.s.tc HC0.out i HI3.out).2.2.1
      rw [HC1.out.c _ (by omega), h1, HHV.out]
    have hc3 : w1.cell? ⟨t, 6 + i * 4 + 3, none⟩ = some (C0 (6 + i * 4 + 3)) := HC1.out.c _ (by omega)
    have hz3 : w1.frozen? ⟨t, 6 + i * 4 + 3, none⟩ = false := HC1.out.froz _ (by omega)
    clear hf1 ho1 KR' hcp' hfh
    go_wp2_with (first | (go_at_call 11; refine (num_u _ _).mono ?_; rintro e9 w9 ⟨rfl, hw9⟩; obtain rfl := hw9.symm))
    have HE : Hid (TSD (w1.setCell ⟨t, 6 + i * 4 + 3, none⟩ (.slice none 0 0)) B t false (upd3 d i ⟨some g, (d i).h, false, (d i).key, [], (d i).kv, .slice none 0 0⟩) kv wv ts left ∧ Below B u (w1.setCell ⟨t, 6 + i * 4 + 3, none⟩ (.slice none 0 0))) := by
      have h3 := HI3.out
      have hf : Fr u (w1.setCell ⟨t, 6 + i * 4 + 3, none⟩ (.slice none 0 0)) [g, t] := (HF1.out.1.mono (fun b hb => by simp at hb; simp [hb])).trans ((set_fr w1 t _ _).mono (fun b hb => by simp at hb; simp [hb]))
      have htc := HC1.out.set (6 + i * 4 + 3) (.slice none 0 0) (by omega)
      have htl := HH.out.s.tc HC0.out i h3
      have hob : Obj false (w1.setCell ⟨t, 6 + i * 4 + 3, none⟩ (.slice none 0 0)) g (d i).h (d i).key [] := HF1.out.2.same ((set_fr w1 t _ _).block g HF1.out.2.lt (by simpa using HGT.out))
      have hkv : View (w1.setCell ⟨t, 6 + i * 4 + 3, none⟩ (.slice none 0 0)) (d i).kv (d i).key := view_keepP (HH.out.s.sl i h3).kv (fun e b hb => hf.block b (view_blks (HH.out.s.sl i h3).kv e b hb) (fun q => HH.out.s.rk i h3 e b hb (by
        simp at q
        rcases q with q | q
        · rw [q]; exact mb_g h3 HG.out
        · rw [q]; exact mb_t _ _ _ _)))
      refine ⟨HH.out.slot h3 hf (fun b hb => by
        simp at hb
        rcases hb with hb | hb
        · exact .inr (.inl (by rw [hb]; exact HG.out))
        · exact .inl hb) HC0.out htc (fun j h0 h1 h2 h4 h5 => upC_other _ _ _ _ (by omega)) ?_ ?_ ?_ ?_ ?_ (upC_same _ _ _ _ rfl) ?_ ⟨fun e => (by cases e), fun g' e => ?_, hkv, view_nil _, (HH.out.s.sl i h3).kl⟩ (fun g' e => ?_) (fun e => absurd rfl e) (fun e b hb => ⟨HH.out.s.rk i h3 e b hb, fun q => ?_⟩) (Nat.le_refl _) (by have := HH.out.s.zl i h3; simp; omega), ?_⟩
      · rw [upC_other _ _ _ _ (by omega), htl.1, HG.out]
      · rw [upC_other _ _ _ _ (by omega), htl.2.1, HG.out]
      · rw [upC_other _ _ _ _ (by omega), htl.2.2.1]
      · rw [upC_other _ _ _ _ (by omega), htl.2.2.2.1, HK.out.2.1]
      · rw [upC_other _ _ _ _ (by omega), htl.2.2.2.2.1]
      · rw [upC_other _ _ _ _ (by omega)]; exact HH.out.s.tcl HC0.out
      · injection e with e
        subst e
        exact ⟨HK.out.1, rfl, HK.out.2.2, hob⟩
      · injection e with e
        subst e
        exact .inl HG.out
      · injection q with q
        subst q
        exact HH.out.s.rk i h3 e g hb (mb_g h3 HG.out)
      · refine hf.toBelow (fun b hb => ?_) HBu.out
        simp at hb
        rcases hb with hb | hb
        · rw [hb]; exact HK.out.2.2
        · rw [hb]; exact HH.out.s.tB
    go_wp2
    go_ret
    exact ⟨rfl, ⟨_, kv, wv, ts, left, by omega, HE.out.1⟩, HE.out.2⟩
set_option maxHeartbeats 3200000 in
set_option maxRecDepth 100000 in
theorem reset_t (B t i left : Nat) (d : Nat → Sl) (kv wv : Value) (ts : List (Value × Value × List Int)) (u : World) (h0 : TSD u B t true d kv wv ts left) (hi : i < 3) (hT : Tbs u) (hB : 4 ≤ B) (hBu : B ≤ u.heap.size) :
    Calls Tryd.prog 72 #[.pointer (some ⟨t, 0, none⟩), .int .i64 (i : Nat), .bool true] u (StepP B t true ts.length u) := by
  have HH : Hid (TSD u B t true d kv wv ts left) := h0
  have HBu : Hid (B ≤ u.heap.size) := hBu
  have HI3 : Hid (i < 3) := hi
  have hi3 : ((i : Nat) : Int) < 3 := by omega
  have hcp : u.cell? ⟨t, 3 + i, none⟩ = some (gp (d i).g) := h0.s.cm i hi
  have hfh : u.cell? ⟨t, 6 + i * 4, none⟩ = some (.int .i64 (d i).h) := h0.s.fh i hi
  have KR : Hid (Calls Tryd.prog 82 #[gp (d i).g] u (WriP true (d i) [] u)) := mreset_any (d i) B u (h0.s.sl i hi)
  cases hg : (d i).g with
  | none =>
    have hno : d i = Sl.no := (h0.s.sl i hi).nil hg
    rw [hno] at hfh KR
    rw [hg] at hcp
    have hfh' : u.cell? ⟨t, 6 + i * 4, none⟩ = some (.int .i64 0) := hfh
    have KR' : Hid (Calls Tryd.prog 82 #[.pointer none] u fun e u' => e = .returned (.int .i64 1) ∧ Below u.heap.size u u') := KR.out.mono fun e u' ⟨h1, h2, _⟩ => ⟨h1, h2.none⟩
    have hcp' : u.cell? ⟨t, 3 + i, none⟩ = some (.pointer none) := hcp
    clear hfh hcp KR h0 hi hT hB hBu hno
    go_enter Tryd.func72, Tryd.ntmps72
    go_wp2_with (first | (go_at_call 82; refine KR'.out.mono ?_))
    rintro e1 w1 ⟨rfl, hb1⟩
    have H1 : Hid (TSD w1 B t true d kv wv ts left ∧ Below B u w1) := ⟨HH.out.below hb1, hb1.mono HBu.out⟩
    have hf1 : w1.cell? ⟨t, 6 + i * 4, none⟩ = some (.int .i64 0) := (hb1.cell (p := ⟨t, 6 + i * 4, none⟩) (HH.out.s.lt t (mb_t _ _ _ _)).2).trans hfh'
    clear hb1 KR' hfh' hcp'
    go_wp2_with (first | (go_at_call 11; refine (num_u _ _).mono ?_; rintro e9 w9 ⟨rfl, hw9⟩; obtain rfl := hw9.symm))
    go_ret
    exact ⟨rfl, ⟨d, kv, wv, ts, left, by omega, H1.out.1⟩, H1.out.2⟩
  | some g =>
    obtain ⟨kk, hkd, hgB, hob⟩ := (h0.s.sl i hi).obj g hg
    have HK : Hid (Known (d i).h ∧ (d i).kd = true ∧ B ≤ g) := ⟨kk, hkd, hgB⟩
    obtain ⟨hv, HHV⟩ : ∃ x, Hid (x = (d i).h) := ⟨_, rfl⟩
    have hne : ¬ hv = 0 := by rw [HHV.out]; rcases kk with e | e | e | e <;> omega
    rw [← HHV.out] at hfh
    rw [hg] at hcp KR
    have hcp' : u.cell? ⟨t, 3 + i, none⟩ = some (.pointer (some ⟨g, 0, none⟩)) := hcp
    have KR' : Hid (Calls Tryd.prog 82 #[.pointer (some ⟨g, 0, none⟩)] u fun e u' => e = .returned (.int .i64 0) ∧ Fr u u' [g] ∧ Obj true u' g (d i).h (d i).key []) := KR.out.mono fun e u' ⟨h1, h2, h3⟩ => by
      rw [hg] at h2
      exact ⟨by rw [h1, erN, if_neg (by rw [hg]; exact fun q => by cases q)], h2, h3 g hg⟩
    have HGT : Hid (g ≠ t) := fun e => h0.s.ap.gt i hi (by rw [hg, e])
    have HG : Hid ((d i).g = some g) := hg
    clear hcp KR h0 hi hT hB hBu kk hkd hgB hob hg
    go_enter Tryd.func72, Tryd.ntmps72
    go_wp2_with (first | (go_at_call 82; refine KR'.out.mono ?_))
    rintro e1 w1 ⟨rfl, hf1, ho1⟩
    obtain ⟨C0, HC0⟩ : ∃ C, Hid (TC u t C) := tc_there HH.out.s.there
    have HC1 : Hid (TC w1 t C0) := HC0.out.same (hf1.block t (HH.out.s.lt t (mb_t _ _ _ _)).2 (by simpa using (fun q => HGT.out q.symm)))
    have HF1 : Hid (Fr u w1 [g] ∧ Obj true w1 g (d i).h (d i).key []) := ⟨hf1, ho1⟩
    have hc1 : w1.cell? ⟨t, 6 + i * 4, none⟩ = some (.int .i64 hv) := by
      have h1 := (HH.out.s.tc HC0.out i HI3.out).2.2.1
      rw [HC1.out.c _ (by omega), h1, HHV.out]
    have hc3 : w1.cell? ⟨t, 6 + i * 4 + 3, none⟩ = some (C0 (6 + i * 4 + 3)) := HC1.out.c _ (by omega)
    have hz3 : w1.frozen? ⟨t, 6 + i * 4 + 3, none⟩ = false := HC1.out.froz _ (by omega)
    clear hf1 ho1 KR' hcp' hfh
    go_wp2_with (first | (go_at_call 11; refine (num_u _ _).mono ?_; rintro e9 w9 ⟨rfl, hw9⟩; obtain rfl := hw9.symm))
    have HE : Hid (TSD (w1.setCell ⟨t, 6 + i * 4 + 3, none⟩ (.slice none 0 0)) B t true (upd3 d i ⟨some g, (d i).h, true, (d i).key, [], (d i).kv, .slice none 0 0⟩) kv wv ts left ∧ Below B u (w1.setCell ⟨t, 6 + i * 4 + 3, none⟩ (.slice none 0 0))) := by
      have h3 := HI3.out
      have hf : Fr u (w1.setCell ⟨t, 6 + i * 4 + 3, none⟩ (.slice none 0 0)) [g, t] := (HF1.out.1.mono (fun b hb => by simp at hb; simp [hb])).trans ((set_fr w1 t _ _).mono (fun b hb => by simp at hb; simp [hb]))
      have htc := HC1.out.set (6 + i * 4 + 3) (.slice none 0 0) (by omega)
      have htl := HH.out.s.tc HC0.out i h3
      have hob : Obj true (w1.setCell ⟨t, 6 + i * 4 + 3, none⟩ (.slice none 0 0)) g (d i).h (d i).key [] := HF1.out.2.same ((set_fr w1 t _ _).block g HF1.out.2.lt (by simpa using HGT.out))
      have hkv : View (w1.setCell ⟨t, 6 + i * 4 + 3, none⟩ (.slice none 0 0)) (d i).kv (d i).key := view_keepP (HH.out.s.sl i h3).kv (fun e b hb => hf.block b (view_blks (HH.out.s.sl i h3).kv e b hb) (fun q => HH.out.s.rk i h3 e b hb (by
        simp at q
        rcases q with q | q
        · rw [q]; exact mb_g h3 HG.out
        · rw [q]; exact mb_t _ _ _ _)))
      refine ⟨HH.out.slot h3 hf (fun b hb => by
        simp at hb
        rcases hb with hb | hb
        · exact .inr (.inl (by rw [hb]; exact HG.out))
        · exact .inl hb) HC0.out htc (fun j h0 h1 h2 h4 h5 => upC_other _ _ _ _ (by omega)) ?_ ?_ ?_ ?_ ?_ (upC_same _ _ _ _ rfl) ?_ ⟨fun e => (by cases e), fun g' e => ?_, hkv, view_nil _, (HH.out.s.sl i h3).kl⟩ (fun g' e => ?_) (fun e => absurd rfl e) (fun e b hb => ⟨HH.out.s.rk i h3 e b hb, fun q => ?_⟩) (Nat.le_refl _) (by have := HH.out.s.zl i h3; simp; omega), ?_⟩
      · rw [upC_other _ _ _ _ (by omega), htl.1, HG.out]
      · rw [upC_other _ _ _ _ (by omega), htl.2.1, HG.out]
      · rw [upC_other _ _ _ _ (by omega), htl.2.2.1]
      · rw [upC_other _ _ _ _ (by omega), htl.2.2.2.1, HK.out.2.1]
      · rw [upC_other _ _ _ _ (by omega), htl.2.2.2.2.1]
      · rw [upC_other _ _ _ _ (by omega)]; exact HH.out.s.tcl HC0.out
      · injection e with e
        subst e
        exact ⟨HK.out.1, rfl, HK.out.2.2, hob⟩
      · injection e with e
        subst e
        exact .inl HG.out
      · injection q with q
        subst q
        exact HH.out.s.rk i h3 e g hb (mb_g h3 HG.out)
      · refine hf.toBelow (fun b hb => ?_) HBu.out
        simp at hb
        rcases hb with hb | hb
        · rw [hb]; exact HK.out.2.2
        · rw [hb]; exact HH.out.s.tB
    go_wp2
    go_ret
    exact ⟨rfl, ⟨_, kv, wv, ts, left, by omega, HE.out.1⟩, HE.out.2⟩
end Go.Proofs.YtioggmjocelolacDoor
namespace Go.Proofs.YtioggmjocelolacDoor
open Go.RowKit
set_option linter.unusedVariables false
set_option linter.unusedSimpArgs false
/-- A Fed in its box. -/
theorem fed_box (u : World) (L : List Value) (hL : L.length = 4) : Below u.heap.size u ((u.alloc (.cells #[.int .i64 0, .bool false, .slice none 0 0, .slice none 0 0] 86)).setCells u.heap.size 0 L) ∧ ((u.alloc (.cells #[.int .i64 0, .bool false, .slice none 0 0, .slice none 0 0] 86)).setCells u.heap.size 0 L).rangeAt u.heap.size 0 L ∧ (u.alloc (.cells #[.int .i64 0, .bool false, .slice none 0 0, .slice none 0 0] 86)).there u.heap.size 0 L.toArray.size := by
  have ht : (u.alloc (.cells #[.int .i64 0, .bool false, .slice none 0 0, .slice none 0 0] 86)).there u.heap.size 0 4 := there_new u _ 86 4 (by show 4 ≤ 4; omega)
  exact ⟨below_setCells _ (Nat.le_refl _) _ _ _ ((Below.refl _ _).alloc (Nat.le_refl _) _), World.rangeAt_setCells_same _ _ _ _ (by rw [hL]; exact ht), by rw [show L.toArray.size = 4 by simpa using hL]; exact ht⟩
set_option maxHeartbeats 3200000 in
set_option maxRecDepth 100000 in
theorem asks_ok (B t i left : Nat) (d : Nat → Sl) (kv wv : Value) (ts : List (Value × Value × List Int)) (u : World) (h0 : TSD u B t false d kv wv ts left) (hi : i < 3) (hBu : B ≤ u.heap.size) :
    Calls Tryd.prog 74 #[.pointer (some ⟨t, 0, none⟩), .int .i64 (i : Nat)] u (StepP B t false ts.length u) := by
  have HH : Hid (TSD u B t false d kv wv ts left) := h0
  have HBu : Hid (B ≤ u.heap.size) := hBu
  have HI3 : Hid (i < 3) := hi
  have hi3 : ((i : Nat) : Int) < 3 := by omega
  have hcp : u.cell? ⟨t, i, none⟩ = some (gp (d i).g) := h0.s.cs i hi
  have HFL : Hid (u.rangeAt t (6 + i * 4) (fedL (d i))) := h0.s.fed hi
  obtain ⟨FL, HFLE⟩ : ∃ L, Hid (L = fedL (d i)) := ⟨_, rfl⟩
  rw [← HFLE.out] at HFL
  have HLL : Hid (FL.length = 4) := by show _ = _; rw [HFLE.out]; rfl
  have H86 : Hid ((Tryd.prog.info? 86).map (·.size) = some FL.length) := by show _ = _; rw [HLL.out]; exact size86
  have H86' : Hid ((Tryd.prog.info? 86).map (·.size) = some FL.toArray.size) := by show _ = _; rw [List.size_toArray]; exact H86.out
  obtain ⟨ba, bc, hbv⟩ : ∃ a c, (d i).bv = .slice a (d i).zs.length c := by
    obtain ⟨a, c, e, _⟩ := (h0.s.sl i hi).bv
    exact ⟨a, c, e⟩
  obtain ⟨ka, kc, hkv⟩ : ∃ a c, (d i).kv = .slice a (d i).key.length c := by
    obtain ⟨a, c, e, _⟩ := (h0.s.sl i hi).kv
    exact ⟨a, c, e⟩
  have HON : Hid (FL.toArray.all (·.oneCell') = true) := by
    show _ = _
    rw [HFLE.out]
    exact all_oneCell_toArray (fun v hv => by
      simp only [fedL, List.mem_cons, List.not_mem_nil, or_false] at hv
      rcases hv with rfl | rfl | rfl | rfl
      · rfl
      · rfl
      · rw [hkv]; rfl
      · rw [hbv]; rfl)
  have HX := fed_box u FL HLL.out
  have HXT : Hid _ := HX.2.2
  have hzl : (d i).zs.length ≤ 65536 := by have := h0.s.zl i hi; omega
  obtain ⟨zl, HZLE⟩ : ∃ n, Hid (n = (d i).zs.length) := ⟨_, rfl⟩
  rw [← HZLE.out] at hzl hbv
  have HX1 : Hid (Below u.heap.size u ((u.alloc (.cells #[.int .i64 0, .bool false, .slice none 0 0, .slice none 0 0] 86)).setCells u.heap.size 0 FL) ∧ ((u.alloc (.cells #[.int .i64 0, .bool false, .slice none 0 0, .slice none 0 0] 86)).setCells u.heap.size 0 FL).cell? ⟨u.heap.size, 0, none⟩ = some (.int .i64 (d i).h) ∧ ((u.alloc (.cells #[.int .i64 0, .bool false, .slice none 0 0, .slice none 0 0] 86)).setCells u.heap.size 0 FL).cell? ⟨u.heap.size, 3, none⟩ = some (.slice ba zl bc)) := by
    refine ⟨HX.1, ?_, ?_⟩
    · exact HX.2.1 0 _ (by rw [HFLE.out]; rfl)
    · exact HX.2.1 3 _ (by rw [HFLE.out, ← hbv]; rfl)
  clear HX
  have hslo := h0.s.sl i hi
  clear h0 hi hBu hbv hkv
  cases hg : (d i).g with
  | none =>
    have hno : d i = Sl.no := hslo.nil hg
    rw [hg] at hcp
    have hcp' : u.cell? ⟨t, i, none⟩ = some (.pointer none) := hcp
    have hz0 : zl = 0 := by rw [HZLE.out, hno]; rfl
    subst hz0
    rw [hno] at HX1
    have HX2 : Hid (Below u.heap.size u ((u.alloc (.cells #[.int .i64 0, .bool false, .slice none 0 0, .slice none 0 0] 86)).setCells u.heap.size 0 FL) ∧ ((u.alloc (.cells #[.int .i64 0, .bool false, .slice none 0 0, .slice none 0 0] 86)).setCells u.heap.size 0 FL).cell? ⟨u.heap.size, 0, none⟩ = some (.int .i64 0) ∧ ((u.alloc (.cells #[.int .i64 0, .bool false, .slice none 0 0, .slice none 0 0] 86)).setCells u.heap.size 0 FL).cell? ⟨u.heap.size, 3, none⟩ = some (.slice ba 0 bc)) := HX1.out
    clear hcp hno hslo HX1
    go_enter Tryd.func74, Tryd.ntmps74
    go_upto_region 2 with fail
    go_upto_region 3 with (first
      | (refine wpList_load_mid (by rfl) 86 (.tmp 17) (by rfl) t (6 + i * 4) (by rfl) FL _ HFL.out Tryd.underlying86 rfl H86.out ?_)
      | (refine wpList_store_mid (by rfl) 86 (.tmp 6) (.tmp 18) (by rfl) u.heap.size 0 FL.toArray (by rfl) (by rfl) HXT.out H86'.out HON.out ?_))
    generalize ((u.alloc (.cells #[.int .i64 0, .bool false, .slice none 0 0, .slice none 0 0] 86)).setCells u.heap.size 0 FL) = w1 at HX2 ⊢
    obtain ⟨hbx, hx0, hx3⟩ := HX2.out
    have HBX : Hid (Below u.heap.size u w1) := hbx
    clear hbx HX2 hcp'
    go_quiet (first
      | (go_at_call 47; exact Calls.quiet_of_same (shash_nil _))
      | (go_at_call 30; exact Calls.quiet_of_same (ssize_nil _))
      | (go_at_call 16; exact Calls.quiet_of_same (rsize_bad 0 (fun k => by rcases k with e | e | e | e <;> omega) _))
      | (go_at_call 84; exact Calls.quiet_of_same (sblock_nil _))
      | (go_at_call 40; exact Calls.quiet_of_same (rblock0 _))
      | (go_at_call 85; exact Calls.quiet_of_same (scount_nil _)))
    have HE : Hid (TSD (w1.drewN nq) B t false d kv wv ts left ∧ Below B u (w1.drewN nq)) := by
      have hb : Below u.heap.size u (w1.drewN nq) := HBX.out.trans ((drew_fr w1 nq []).none.mono HBX.out.size)
      exact ⟨HH.out.below hb, hb.mono HBu.out⟩
    generalize w1.drewN nq = w2 at HE ⊢
    go_wp2
    go_ret
    exact ⟨rfl, ⟨d, kv, wv, ts, left, by omega, HE.out.1⟩, HE.out.2⟩
  | some g =>
    obtain ⟨kk, _, _, hob⟩ := hslo.obj g hg
    rw [hg] at hcp
    have hcp' : u.cell? ⟨t, i, none⟩ = some (.pointer (some ⟨g, 0, none⟩)) := hcp
    obtain ⟨hv, HHV⟩ : ∃ x, Hid (x = (d i).h) := ⟨_, rfl⟩
    have HK : Hid (Known hv) := by show Known hv; rw [HHV.out]; exact kk
    have HOB : Hid (Rep u g 0 hv (wdOf hv) (firstE hv) 0 (d i).zs) := by show Rep _ _ _ _ _ _ _ _; rw [HHV.out]; exact hob
    rw [← HHV.out] at HX1
    have hwz : IntKind.u64.wrap ((zl : Nat) : Int) = ((zl : Nat) : Int) := by rw [IntKind.wrap_u64]; omega
    clear hcp hslo kk hob hg
    go_enter Tryd.func74, Tryd.ntmps74
    go_upto_region 2 with fail
    go_upto_region 3 with (first
      | (refine wpList_load_mid (by rfl) 86 (.tmp 17) (by rfl) t (6 + i * 4) (by rfl) FL _ HFL.out Tryd.underlying86 rfl H86.out ?_)
      | (refine wpList_store_mid (by rfl) 86 (.tmp 6) (.tmp 18) (by rfl) u.heap.size 0 FL.toArray (by rfl) (by rfl) HXT.out H86'.out HON.out ?_))
    generalize ((u.alloc (.cells #[.int .i64 0, .bool false, .slice none 0 0, .slice none 0 0] 86)).setCells u.heap.size 0 FL) = w1 at HX1 ⊢
    obtain ⟨hbx, hx0, hx3⟩ := HX1.out
    have HBX : Hid (Below u.heap.size u w1) := hbx
    have HO1 : Hid (Rep w1 g 0 hv (wdOf hv) (firstE hv) 0 (d i).zs) := HOB.out.below hbx
    obtain ⟨bz, HBZ⟩ : ∃ x, Hid (x = bsz (wdOf hv)) := ⟨_, rfl⟩
    obtain ⟨sz, HSZ⟩ : ∃ x, Hid (x = szOf hv) := ⟨_, rfl⟩
    have K47 : Hid (∀ n, Calls Tryd.prog 47 #[.pointer (some ⟨g, 0, none⟩)] (w1.drewN n) fun e w' => e = .returned (.int .i64 hv) ∧ w' = w1.drewN n) := fun n => by
      obtain ⟨half, hk, _⟩ := HO1.out
      exact shash g hv _ hk.hash
    have K30 : Hid (∀ n, Calls Tryd.prog 30 #[.pointer (some ⟨g, 0, none⟩)] (w1.drewN n) fun e w' => e = .returned (.int .i64 (sz : Nat)) ∧ w' = w1.drewN n) := fun n => by
      obtain ⟨half, hk, _⟩ := HO1.out
      rw [HSZ.out]
      exact ssize g hv _ HK.out hk.hash
    have K16 : Hid (∀ n, Calls Tryd.prog 16 #[.int .i64 hv] (w1.drewN n) fun e w' => e = .returned (.int .i64 (sz : Nat)) ∧ w' = w1.drewN n) := fun n => by rw [HSZ.out]; exact rsize_ok hv HK.out _
    have K84 : Hid (∀ n, Calls Tryd.prog 84 #[.pointer (some ⟨g, 0, none⟩)] (w1.drewN n) fun e w' => e = .returned (.int .i64 (bz : Nat)) ∧ w' = w1.drewN n) := fun n => by
      obtain ⟨half, hk, _⟩ := HO1.out
      have := sblock g hv (w1.drewN n) hk.hash
      rw [HK.out.block] at this
      rw [HBZ.out]
      exact this
    have K40 : Hid (∀ n, Calls Tryd.prog 40 #[.int .i64 hv] (w1.drewN n) fun e w' => e = .returned (.int .i64 (bz : Nat)) ∧ w' = w1.drewN n) := fun n => by rw [HBZ.out]; exact rblock_ok hv HK.out _
    have K85 : Hid (∀ n, Calls Tryd.prog 85 #[.pointer (some ⟨g, 0, none⟩)] (w1.drewN n) fun e w' => e = .returned (.int .u64 (zl : Nat)) ∧ w' = w1.drewN n) := fun n => by
      obtain ⟨half, hk, _⟩ := HO1.out
      have h1 := hk.fed
      rw [Nat.zero_add, Nat.zero_add, ← HZLE.out] at h1
      exact scount g zl (w1.drewN n) (by rw [Nat.zero_add]; exact h1)
    clear hbx HX1 hcp'
    go_quiet (first
      | (go_at_call 47; exact Calls.quiet_of_same (K47.out _))
      | (go_at_call 30; exact Calls.quiet_of_same (K30.out _))
      | (go_at_call 16; exact Calls.quiet_of_same (K16.out _))
      | (go_at_call 84; exact Calls.quiet_of_same (K84.out _))
      | (go_at_call 40; exact Calls.quiet_of_same (K40.out _))
      | (go_at_call 85; exact Calls.quiet_of_same (K85.out _)))
    have HE : Hid (TSD (w1.drewN nq) B t false d kv wv ts left ∧ Below B u (w1.drewN nq)) := by
      have hb : Below u.heap.size u (w1.drewN nq) := HBX.out.trans ((drew_fr w1 nq []).none.mono HBX.out.size)
      exact ⟨HH.out.below hb, hb.mono HBu.out⟩
    generalize w1.drewN nq = w2 at HE ⊢
    go_wp2
    go_ret
    exact ⟨rfl, ⟨d, kv, wv, ts, left, by omega, HE.out.1⟩, HE.out.2⟩
end Go.Proofs.YtioggmjocelolacDoor
namespace Go.Proofs.YtioggmjocelolacDoor
open Go.RowKit
set_option linter.unusedVariables false
set_option linter.unusedSimpArgs false
/-- Their blocks rise. -/
def Inc (vs : List Value) : Prop := ∀ (i j : Nat) (x y : Value) (gx gy : Nat), i < j → vs[i]? = some x → vs[j]? = some y → x.ownBlock = some gx → y.ownBlock = some gy → gx < gy
theorem Marked.blk_lt {B : Nat} {w : World} {v : Value} {zs : List Int} (h : Marked B w v zs) {g : Nat} (hg : v.ownBlock = some g) : B ≤ g ∧ g < w.heap.size := by
  obtain ⟨g', c, rfl, ho⟩ := h
  have e : g' = g := by simpa [Value.ownBlock] using hg
  subst e
  exact ho.lt g' rfl
theorem Inc.push {vs : List Value} (h : Inc vs) (B : Nat) (x : Value) (h1 : ∀ (i : Nat) (y : Value) (g : Nat), vs[i]? = some y → y.ownBlock = some g → g < B) (h2 : ∀ g, x.ownBlock = some g → B ≤ g) : Inc (vs ++ [x]) := by
  intro i j a b ga gb hij ha hb hga hgb
  have hjl : j < (vs ++ [x]).length := (List.getElem?_eq_some_iff.1 hb).1
  rw [List.length_append, List.length_singleton] at hjl
  have hil : i < vs.length := by omega
  rw [List.getElem?_append_left hil] at ha
  by_cases hj : j < vs.length
  · rw [List.getElem?_append_left hj] at hb
    exact h i j a b ga gb hij ha hb hga hgb
  · obtain rfl : j = vs.length := by omega
    rw [List.getElem?_append_right (Nat.le_refl _)] at hb
    have e : x = b := by simpa using hb
    subst e
    have := h1 i a ga ha hga
    have := h2 gb hgb
    omega
set_option maxHeartbeats 1600000 in
set_option maxRecDepth 100000 in
theorem lent_inc (a : Option Addr) (n c : Nat) (xs : List Value) (yss : List (List Int)) (w : World) (hP : Hid (PV w (.slice a n c) xs yss)) (hxn : Hid (xs.length = n)) (hs : Hid (yss.flatten.length ≤ 1048576)) (hn : n ≤ 1048576) :
    Calls Tryd.prog 23 #[.slice a n c] w fun e w' => Hid (∃ v', e = .returned v' ∧ ∃ vs, vs.length = n ∧ w'.ownsRow w.heap.size 22 1 v' n vs ∧ Lent w.heap.size w' vs yss ∧ Inc vs ∧ Below w.heap.size w w') := by
  obtain ⟨i0, hi, hz0, hz1, hz2⟩ := info_parts Tryd.info22
  have hyn : Hid (yss.length = n) := by
    obtain ⟨_, _, _, _, _, h3, _⟩ := hP.out
    show _ = _
    rw [← h3, hxn.out]
  go_enter Tryd.func23, Tryd.ntmps23
  go_wp2
  go_loopw [3, 4] (fun v vi wr => ∃ i : Nat, ∃ vs : List Value, i ≤ n ∧ vi = .int .i64 i ∧ Hid (vs.length = i) ∧ Hid (wr.ownsRow w.heap.size 22 1 v i vs) ∧ Hid (Lent w.heap.size wr vs yss ∧ Inc vs) ∧ Hid (Below w.heap.size w wr)) (fun _ vi _ => n - (intOf vi).toNat)
  case atStart => exact ⟨0, [], by omega, rfl, rfl, World.ownsRow_nil _ _ _ _, ⟨fun i x hx => by simp at hx, fun i j x y gx gy _ hx => by simp at hx⟩, Below.refl _ _⟩
  case round =>
    obtain ⟨i, vs, hin, rfl, HVL, HO3, HLn, HB3⟩ := hrel
    by_cases hlt : i < n
    · have hii : i < xs.length := by rw [hxn.out]; exact hlt
      obtain ⟨x, hx⟩ : ∃ x, xs[i]? = some x := ⟨_, List.getElem?_eq_getElem hii⟩
      obtain ⟨b, p, hab⟩ : ∃ b p, a = some ⟨b, p, none⟩ := by
        obtain ⟨a', c', e, h1, h2, h3, h4, h5⟩ := hP.out
        injection e with e1 e2 e3
        rcases h5 with h5 | ⟨b, p, e5, _⟩
        · rw [h5] at hii; simp at hii
        · exact ⟨b, p, by rw [e1, e5]⟩
      subst hab
      have hcell : w.cell? ⟨b, p + i, none⟩ = some x ∧ View w x (yss.getD i []) := by
        obtain ⟨a', c', e, h1, h2, h3, h4, h5⟩ := hP.out
        injection e with e1 e2 e3
        rcases h5 with h5 | ⟨b', p', e5, h6⟩
        · rw [h5] at hii; simp at hii
        · rw [e5] at e1
          injection e1 with e1
          injection e1 with e6 e7
          subst e6 e7
          exact ⟨h6 i x hx, h4 i x hx⟩
      have hYl : (yss.getD i []).length ≤ 1048576 := by
        have h1 := sum_le yss (i + 1)
        rw [flat_step yss i (by rw [hyn.out]; exact hlt), List.length_append] at h1
        have h3 := hs.out
        omega
      have f0 : wr.cell? ⟨b, p + i, none⟩ = some x := by rw [HB3.out.cell (p := ⟨b, p + i, none⟩) (lt_of_cell hcell.1)]; exact hcell.1
      have H23 : Hid (Calls Tryd.prog 17 #[x] wr fun e w' => Hid (∃ v', e = .returned v' ∧ Marked wr.heap.size w' v' (yss.getD i []) ∧ Below wr.heap.size wr w')) := copy_any x (yss.getD i []) wr (by omega) (hcell.2.kept fun b hb => HB3.out.block b hb)
      clear hcell hx
      go_upto_region 6 with (go_at_call 17; refine H23.out.mono ?_)
      intro e1 w1 hh
      obtain ⟨vc, rfl, hm1, hb1⟩ := hh.out
      obtain ⟨gc, cc, L, HLL, hvc⟩ : ∃ g c L, Hid (L = (yss.getD i []).length) ∧ vc = .slice (some ⟨g, 0, none⟩) L c := by
        obtain ⟨g, c, e, _⟩ := hm1
        exact ⟨g, c, _, rfl, e⟩
      subst hvc
      have HM1 : Hid (Marked w.heap.size w1 (Value.slice (some ⟨gc, 0, none⟩) L cc) (yss.getD i [])) := by
        obtain ⟨g, c, e, ho⟩ := hm1
        exact ⟨g, c, e, ownsRow_base' ho HB3.out.size⟩
      have HO4 : Hid (w1.ownsRow w.heap.size 22 1 u3 i vs) := owns_kept HO3.out hb1
      have HI4 : Hid (Inc (vs ++ [(Value.slice (some ⟨gc, 0, none⟩) L cc)])) := HLn.out.2.push wr.heap.size _ (fun j y g hy hg => ((HLn.out.1 j y hy).blk_lt hg).2) (fun g hg => (hm1.blk_lt hg).1)
      have HL4 : Hid (Lent w.heap.size w1 vs yss) := fun j y hy => (HLn.out.1 j y hy).kept fun b hb => hb1.block b hb
      have HB4 : Hid (Below w.heap.size w w1) := HB3.out.trans (hb1.mono HB3.out.size)
      have ho5 : (w1.alloc (.cells #[.slice (some ⟨gc, 0, none⟩) L cc] 22)).ownsRow w.heap.size 22 1 u3 i vs := owns_kept HO4.out ((Below.refl _ _).alloc (Nat.le_refl _) _)
      have HO5 : Hid ((w1.alloc (.cells #[.slice (some ⟨gc, 0, none⟩) L cc] 22)).ownsRow w.heap.size 22 1 u3 i vs) := ho5
      have HM5 : Hid (Marked w.heap.size (w1.alloc (.cells #[.slice (some ⟨gc, 0, none⟩) L cc] 22)) (Value.slice (some ⟨gc, 0, none⟩) L cc) (yss.getD i [])) := HM1.out.kept fun b hb => Below.heap_alloc _ _ b hb
      have HL5 : Hid (Lent w.heap.size (w1.alloc (.cells #[.slice (some ⟨gc, 0, none⟩) L cc] 22)) vs yss) := fun j y hy => (HL4.out j y hy).kept fun b hb => Below.heap_alloc _ _ b hb
      have HB5 : Hid (Below w.heap.size w (w1.alloc (.cells #[.slice (some ⟨gc, 0, none⟩) L cc] 22))) := HB4.out.alloc HB4.out.size _
      have HN5 : Hid (∀ j u, [(Value.slice (some ⟨gc, 0, none⟩) L cc)][j]? = some u → (w1.alloc (.cells #[.slice (some ⟨gc, 0, none⟩) L cc] 22)).cell? ((⟨w1.heap.size, 0, none⟩ : Addr).add j) = some u) := fun j u hj => by
        match j, hj with
        | 0, hj => simp at hj; subst hj; simp [Addr.add]
      have HC5 : Hid (∀ u ∈ [(Value.slice (some ⟨gc, 0, none⟩) L cc)], u.oneCell' = true) := fun u hu => by
        simp at hu
        subst hu
        rfl
      clear hh hm1 hb1 H23 ho5 HO3 HLn HB3 HO4 HL4 HM1
      go_wp2_with (first
        | (at_builtin; go_must (refine wpList_append_own _ rfl (.tmp 17) (.tmp 19) 40 rfl w.heap.size 22 i0 (.slice none 0 0) 1 24 Tryd.underlying40 hi hz0 hz1 hz2 rfl (by decide) _ _ _ rfl HO5.out ⟨w1.heap.size, 0, none⟩ 1 1 [(Value.slice (some ⟨gc, 0, none⟩) L cc)] rfl rfl HN5.out HC5.out (by unfold maxLen; omega) (by omega) HB5.out.size ?_)))
      intro v6 w6 hown6 hgrow6 hnil6
      have HB6 : Hid (Below w.heap.size w w6) := HB5.out.grown hgrow6 HB5.out.size (fun q hq => (HO5.out.lt q hq).1)
      have HO6 : Hid (w6.ownsRow w.heap.size 22 1 v6 (i + 1) (vs ++ [(Value.slice (some ⟨gc, 0, none⟩) L cc)])) := hown6
      have HL6 : Hid (Lent w.heap.size w6 (vs ++ [(Value.slice (some ⟨gc, 0, none⟩) L cc)]) yss) := fun j y hy => by
        by_cases hj : j < vs.length
        · rw [List.getElem?_append_left hj] at hy
          exact (HL5.out j y hy).off HO5.out hgrow6
        · have hj2 : j < (vs ++ [(Value.slice (some ⟨gc, 0, none⟩) L cc)]).length := (List.getElem?_eq_some_iff.1 hy).1
          simp at hj2
          obtain rfl : j = vs.length := by omega
          simp at hy
          subst hy
          rw [HVL.out]
          exact HM5.out.off HO5.out hgrow6
      clear hown6 hgrow6 hnil6 HO5 HL5 HM5 HB5 HN5 HC5
      go_wp2
      go_roundw
      case rel => exact ⟨i + 1, vs ++ [(Value.slice (some ⟨gc, 0, none⟩) L cc)], by omega, by go_num, (by rw [List.length_append, HVL.out]; rfl : (vs ++ [(Value.slice (some ⟨gc, 0, none⟩) L cc)]).length = i + 1), HO6, ⟨HL6.out, HI4.out⟩, HB6⟩
      case measure => simp [intOf]; omega
    · obtain rfl : i = n := by omega
      go_wp2
      go_ret
      exact ⟨_, rfl, vs, HVL.out, HO3.out, HLn.out.1, HLn.out.2, HB3.out⟩
/-- The copies, as a list of lists. -/
theorem Marked.blk2 {B : Nat} {w v : World} {x : Value} {zs : List Int} (h : Marked B w x zs) (hb : ∀ g, x.ownBlock = some g → v.heap[g]? = w.heap[g]?) : Marked B v x zs := by
  obtain ⟨g, c, rfl, hl, h⟩ := h
  have hb' := hb g rfl
  refine ⟨g, c, rfl, hl, ?_⟩
  rcases h with ⟨h, _⟩ | ⟨g', c', cur, he, h1, h2, r⟩
  · cases h
  · have he' := he
    injection he with he1 _ _
    injection he1 with he1
    injection he1 with he1 _
    refine .inr ⟨g', c', cur, he', h1, ?_, r⟩
    rw [← he1, hb', he1]
    exact h2
theorem row_ne {w : World} {B B2 n s : Nat} {r x : Value} {rs : List Value} {zs : List Int} (hr : w.ownsRow B 22 s r n rs) (h : Marked B2 w x zs) {g : Nat} (hg : r.ownBlock = some g) : x.ownBlock ≠ some g := by
  intro hx
  obtain ⟨g1, c1, rfl, ho⟩ := h
  have e1 : g1 = g := by simpa [Value.ownBlock] using hx
  subst e1
  rcases ho.2 with ⟨h, _⟩ | ⟨g', c', cur, he, _, p2, _⟩
  · cases h
  · rcases hr.2 with ⟨hrn, _⟩ | ⟨g2, c2, cur2, er, _, q2, _⟩
    · rw [hrn] at hg; cases hg
    · rw [er] at hg
      have e2 : g2 = g1 := by simpa [Value.ownBlock] using hg
      injection he with he1 _ _
      injection he1 with he1
      injection he1 with he1 _
      subst e2 he1
      rw [q2] at p2
      injection p2 with p2
      injection p2 with p3 p4
      cases p4
/-- append of bytes that are seen, nil or not, to a row that is owned. -/
theorem wpList_append_viewS {w : World} {ops : Array Oper} {rest : List Oper} {o : Oper} {a : Act} {Q : Exit → Act → World → Prop} (hgd : o.guard = none) (s x : Operand)
    (ho : o.op = .call { callee := .builtin .append, args := #[s, x], argTypes := #[22, 22] }) (base n n' : Nat) (v : Value) (A : List Int) (hs : a.eval s = v) (hown : w.ownsRow base 5 1 v n (cellsU8 A)) (xa : Option Addr) (m c : Nat) (hx : a.eval x = .slice xa m c) (Z : List Int) (hv : View w (.slice xa m c) Z) (hm : Z.length = m) (hn' : n' = n + m) (hl : n + m ≤ 140737488355328) (hbase : base ≤ w.heap.size)
    (h : ∀ v' w', w'.ownsRow base 5 1 v' n' (cellsU8 (A ++ Z)) → w.grownBy w' v.ownBlock → (v'.ownBlock = v.ownBlock ∨ v'.ownBlock = some w.heap.size) → wpList Tryd.prog ops Q rest (a.put o.dst v') w') : wpList Tryd.prog ops Q (o :: rest) a w := by
  obtain ⟨i0, hi, hz0, hz1, hz2⟩ := info_parts Tryd.info5
  rcases view_cases hv hm with ⟨rfl, rfl, rfl, rfl⟩ | ⟨ad, rfl, hc⟩
  · refine wpList_append_own_none hgd s x 22 ho base 5 i0 1 Tryd.underlying22 hi v n (cellsU8 A) hs hown hx ?_
    refine h v w (by rw [hn', List.append_nil]; exact hown) ⟨rfl, rfl, rfl, Nat.le_refl _, fun _ _ _ => rfl⟩ (.inl rfl)
  · refine wpList_append_own_at _ hgd s x 22 ho base 5 i0 (.int .u8 0) 1 1 Tryd.underlying22 hi hz0 hz1 hz2 rfl (by decide) v n (cellsU8 A) hs hown ad m c (cellsU8 Z) hx (by rw [cellsU8_length, hm, Nat.mul_one]) hc (cellsU8_one _) (by unfold maxLen; omega) (by omega) hbase ?_
    intro v' w' h1 h2 _ h4
    rw [← cellsU8_append, ← hn'] at h1
    exact h v' w' h1 h2 h4
/-- append of bytes to a row that is owned. -/
theorem append_bytesS (w : World) (base : Nat) (v0 : Value) (n : Nat) (A : List Int) (hown : w.ownsRow base 5 1 v0 n (cellsU8 A)) (xa : Option Addr) (m c : Nat) (Z : List Int) (hv : View w (.slice xa m c) Z) (hm : Z.length = m) (hl : n + m ≤ 140737488355328) (hbase : base ≤ w.heap.size) (ty : TypeId) :
    ∃ v' w', (Builtin.append_ #[22, 22] ty #[v0, .slice xa m c]).run Tryd.prog w = .ok v' w' ∧ w'.ownsRow base 5 1 v' (n + m) (cellsU8 (A ++ Z)) ∧ w.grownBy w' v0.ownBlock := by
  obtain ⟨i, hi, hz0, hz1, hz2⟩ := info_parts Tryd.info5
  rcases view_cases hv hm with ⟨rfl, rfl, rfl, rfl⟩ | ⟨ad, rfl, hc⟩
  · exact ⟨v0, w, run_append_owned_none (P := Tryd.prog) (w := w) base 22 ty 5 i 1 Tryd.underlying22 hi v0 n (cellsU8 A) hown, by simpa using hown, ⟨rfl, rfl, rfl, Nat.le_refl _, fun _ _ _ => rfl⟩⟩
  · obtain ⟨v', w', r1, r2, r3, _, _⟩ := run_append_own_at (P := Tryd.prog) w base 22 ty 5 i (.int .u8 0) 1 1 Tryd.underlying22 hi hz0 hz1 hz2 rfl (by decide) v0 n (cellsU8 A) hown ad m c (cellsU8 Z) (by rw [cellsU8_length, hm, Nat.mul_one]) hc (cellsU8_one _) (by unfold maxLen; omega) (by omega) hbase
    rw [← cellsU8_append] at r2
    exact ⟨v', w', r1, r2, r3⟩
theorem wp_append_bytesS {w w' : World} {v0 v v' : Value} {o : Oper} {a : Act} {K : Act → World → Prop} {Q : Exit → Act → World → Prop} (s x : Operand) (ho : o.op = .call { callee := .builtin .append, args := #[s, x], argTypes := #[22, 22] }) (hs : a.eval s = v0) (hx : a.eval x = v) (hrun : (Builtin.append_ #[22, 22] o.type #[v0, v]).run Tryd.prog w = .ok v' w') (h : K (a.put o.dst v') w') : o.wp Tryd.prog a w K Q := by
  unfold Oper.wp execOp
  simp only [ho, resolve, invoke, builtin, Sem.run_bind, Sem.run_pure, Result.andThen_ok, List.map_toArray, List.map_cons, List.map_nil, hs, hx, hrun]
  exact h
end Go.Proofs.YtioggmjocelolacDoor
