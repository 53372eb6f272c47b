import Derived.Test.YtioggmjocelolacDoorStj
import Derived.Test.YtioggmjocelolacDoorPart03
namespace Go.Proofs.YtioggmjocelolacDoor
open Go.RowKit
set_option linter.unusedVariables false
set_option linter.unusedSimpArgs false
def CpyP (w : World) (zs : List Int) (e : Ending) (w' : World) : Prop := ∃ v', e = .returned v' ∧ Marked w.heap.size w' v' zs ∧ Below w.heap.size w w'
def NewMG (w : World) (h : Int) (key : List Int) (e : Ending) (w' : World) : Prop := ∃ g, e = .returned (.tuple #[.pointer (some ⟨g, 0, none⟩), .int .i64 0]) ∧ w.heap.size ≤ g ∧ MRep w' g h (stateOf h key 54) (stateOf h key 92) [] ∧ Below w.heap.size w w'
theorem MRep.lt' {w : World} {g : Nat} {h : Int} {si so : Eight} {zs : List Int} (m : MRep w g h si so zs) : g < w.heap.size := m.1.lt
theorem MRep.same {w v : World} {g : Nat} {h : Int} {si so : Eight} {zs : List Int} (m : MRep w g h si so zs) (e : v.heap[g]? = w.heap[g]?) : MRep v g h si so zs := ⟨m.1.same e, m.2.same e⟩
theorem size86k (oh : Int) (ka : Option Addr) (kn kc : Nat) : (Tryd.prog.info? 86).map (·.size) = some (#[.int .i64 oh, .bool true, .slice ka kn kc, .slice none 0 0] : Array Value).size := size86
theorem one86k (oh : Int) (ka : Option Addr) (kn kc : Nat) : (#[.int .i64 oh, .bool true, .slice ka kn kc, .slice none 0 0] : Array Value).all (·.oneCell') = true := all_oneCell_toArray (cs := [.int .i64 oh, .bool true, .slice ka kn kc, .slice none 0 0]) (fun v hv => by
  simp only [List.mem_cons, List.not_mem_nil, or_false] at hv
  rcases hv with rfl | rfl | rfl | rfl <;> rfl)
set_option maxHeartbeats 6400000 in
set_option maxRecDepth 100000 in
/-- keyed: KNew of a Mac. -/
theorem keyed_ok (B t i left : Nat) (d : Nat → Sl) (kv wv : Value) (ts : List (Value × Value × List Int)) (ok oa of oh : Int) (ka : Option Addr) (kn kc : Nat) (opx : Value) (key : List Int) (u : World) (h0 : TSD u B t true d kv wv ts left) (hi : i < 3) (hT : Tbs u) (hB : 4 ≤ B) (hBu : B ≤ u.heap.size)
    (hkey : ∀ v, Below B u v → View v (.slice ka kn kc) key) (hkl : key.length = kn) (hkn : kn ≤ 1048576) (hkb : key ≠ [] → ∀ b, b ∈ vblk (.slice ka kn kc) → b < B) :
    Calls Tryd.prog 68 #[.pointer (some ⟨t, 0, none⟩), .int .i64 (i : Nat), .agg #[.int .i64 ok, .int .i64 oa, .int .i64 of, .int .i64 oh, .slice ka kn kc, opx]] u (StepP B t true ts.length u) := by
  have hb1 : Below u.heap.size u (u.alloc (.cells #[.int .i64 ok, .int .i64 oa, .int .i64 of, .int .i64 oh, .slice ka kn kc, opx] 92)) := (Below.refl _ _).alloc (Nat.le_refl _) _
  have HT1 : Hid (Tables (u.alloc (.cells #[.int .i64 ok, .int .i64 oa, .int .i64 of, .int .i64 oh, .slice ka kn kc, opx] 92))) := hT.t.below hb1 (by omega)
  have HH : Hid (TSD u B t true d kv wv ts left) := h0
  have HB1 : Hid (Below u.heap.size u (u.alloc (.cells #[.int .i64 ok, .int .i64 oa, .int .i64 of, .int .i64 oh, .slice ka kn kc, opx] 92))) := hb1
  have HBu : Hid (B ≤ u.heap.size) := hBu
  have HB4 : Hid (4 ≤ B) := hB
  have HI3 : Hid (i < 3) := hi
  have hi3 : ((i : Nat) : Int) < 3 := by omega
  have HKY : Hid (∀ v, Below B u v → View v (.slice ka kn kc) key) := hkey
  have HKL : Hid (key.length = kn) := hkl
  have HKB : Hid (key ≠ [] → ∀ b, b ∈ vblk (.slice ka kn kc) → b < B) := hkb
  have HBX : Hid ((u.alloc (.cells #[.int .i64 ok, .int .i64 oa, .int .i64 of, .int .i64 oh, .slice ka kn kc, opx] 92)).cell? ⟨u.heap.size, 3, none⟩ = some (.int .i64 oh) ∧ (u.alloc (.cells #[.int .i64 ok, .int .i64 oa, .int .i64 of, .int .i64 oh, .slice ka kn kc, opx] 92)).cell? ⟨u.heap.size, 4, none⟩ = some (.slice ka kn kc)) := by
    refine ⟨?_, ?_⟩ <;> rw [World.cell?_alloc_at _ 92 _ _ rfl] <;> rfl
  have HS1 : Hid ((u.alloc (.cells #[.int .i64 ok, .int .i64 oa, .int .i64 of, .int .i64 oh, .slice ka kn kc, opx] 92)).heap.size = u.heap.size + 1) := by show _ = _; simp
  have KC : Hid (Calls Tryd.prog 17 #[.slice ka kn kc] (u.alloc (.cells #[.int .i64 ok, .int .i64 oa, .int .i64 of, .int .i64 oh, .slice ka kn kc, opx] 92)) (CpyP (u.alloc (.cells #[.int .i64 ok, .int .i64 oa, .int .i64 of, .int .i64 oh, .slice ka kn kc, opx] 92)) key)) := copy_any _ key _ (by omega) (hkey _ (hb1.mono hBu))
  clear h0 hT hB hBu hb1 hkey hkl hkb
  by_cases hlong : 65536 < kn
  · have hl1 : (65536 : Int) < ((kn : Nat) : Int) := by omega
    have HE : Hid (TSD (u.alloc (.cells #[.int .i64 ok, .int .i64 oa, .int .i64 of, .int .i64 oh, .slice ka kn kc, opx] 92)) B t true d kv wv ts left ∧ Below B u (u.alloc (.cells #[.int .i64 ok, .int .i64 oa, .int .i64 of, .int .i64 oh, .slice ka kn kc, opx] 92))) := ⟨HH.out.below HB1.out, HB1.out.mono HBu.out⟩
    obtain ⟨hx3, hx4⟩ := HBX.out
    clear KC HT1
    go_enter Tryd.func68, Tryd.ntmps68
    go_upto_region 1 with fail
    generalize (u.alloc (.cells #[.int .i64 ok, .int .i64 oa, .int .i64 of, .int .i64 oh, .slice ka kn kc, opx] 92)) = w1 at HE hx3 hx4 ⊢
    go_wp2
    go_ret
    exact ⟨rfl, ⟨d, kv, wv, ts, left, by omega, HE.out.1⟩, HE.out.2⟩
  · have hl1 : ((kn : Nat) : Int) ≤ 65536 := by omega
    obtain ⟨hx3, hx4⟩ := HBX.out
    go_enter Tryd.func68, Tryd.ntmps68
    go_upto_region 1 with fail
    generalize (u.alloc (.cells #[.int .i64 ok, .int .i64 oa, .int .i64 of, .int .i64 oh, .slice ka kn kc, opx] 92)) = w1 at HB1 HT1 HS1 KC hx3 hx4 ⊢
    go_wp2_with (first | (go_at_call 17; refine KC.out.mono ?_))
    intro e1 w2 hp1
    obtain ⟨vk, rfl, hm2, hb2⟩ := hp1
    obtain ⟨gk, ck, hvk, hgk1, hgk2, hgo⟩ := marked_owns hm2
    rw [HKL.out] at hvk hgo
    subst hvk
    have HM2 : Hid (Marked w1.heap.size w2 (.slice (some ⟨gk, 0, none⟩) kn ck) key) := hm2
    have HGK : Hid (w1.heap.size ≤ gk ∧ gk < w2.heap.size) := ⟨hgk1, hgk2⟩
    have HBu2 : Hid (Below u.heap.size u w2) := HB1.out.trans (hb2.mono HB1.out.size)
    have HT2 : Hid (Tables w2) := HT1.out.below hb2 (by have := HS1.out; have := HB4.out; have := HBu.out; omega)
    have hy3 : w2.cell? ⟨u.heap.size, 3, none⟩ = some (.int .i64 oh) := (hb2.cell (p := ⟨u.heap.size, 3, none⟩) (by show u.heap.size < _; have := HS1.out; omega)).trans hx3
    have hy4 : w2.cell? ⟨u.heap.size, 4, none⟩ = some (.slice ka kn kc) := (hb2.cell (p := ⟨u.heap.size, 4, none⟩) (by show u.heap.size < _; have := HS1.out; omega)).trans hx4
    have HS2 : Hid (u.heap.size < w2.heap.size) := by show _ < _; have := HS1.out; have := hb2.size; omega
    clear hm2 hgk1 hgk2 hgo hb2 KC HT1 HB1 hx3 hx4
    by_cases k : Known oh
    · have HK : Hid (Known oh) := k
      have KN : Hid (Calls Tryd.prog 32 #[.int .i64 oh, .slice (some ⟨gk, 0, none⟩) kn ck] w2 (NewMG w2 oh key)) := newMac_any oh _ key w2 k HM2.out.view (by rw [HKL.out]; omega) HT2.out
      have hsn : 0 < szOf oh := by have := szOf_known k; omega
      obtain ⟨sz, HSZ⟩ : ∃ s, Hid (s = szOf oh) := ⟨_, rfl⟩
      rw [← HSZ.out] at hsn
      have KR : Hid (∀ v, Calls Tryd.prog 16 #[.int .i64 oh] v fun e w' => e = .returned (.int .i64 (sz : Nat)) ∧ w' = v) := fun v => by rw [HSZ.out]; exact rsize_ok oh HK.out v
      clear k
      go_wp2_with (first | (go_at_call 32; refine KN.out.mono ?_))
      intro e3 w3 hp3
      obtain ⟨g, rfl, hg3, hr3, hb3⟩ := hp3
      have HG : Hid (w2.heap.size ≤ g) := hg3
      have HR3 : Hid (MRep w3 g oh (stateOf oh key 54) (stateOf oh key 92) []) := hr3
      have HBu3 : Hid (Below u.heap.size u w3) := HBu2.out.trans (hb3.mono HBu2.out.size)
      have hv3 : w3.cell? ⟨u.heap.size, 3, none⟩ = some (.int .i64 oh) := (hb3.cell (p := ⟨u.heap.size, 3, none⟩) HS2.out).trans hy3
      have hv4 : w3.cell? ⟨u.heap.size, 4, none⟩ = some (.slice ka kn kc) := (hb3.cell (p := ⟨u.heap.size, 4, none⟩) HS2.out).trans hy4
      have HM3 : Hid (Marked w1.heap.size w3 (.slice (some ⟨gk, 0, none⟩) kn ck) key) := HM2.out.kept hb3.block
      have HS3 : Hid (w2.heap.size ≤ w3.heap.size) := hb3.size
      have KW : Hid (∀ n, Calls Tryd.prog 18 #[.slice (some ⟨gk, 0, none⟩) kn ck, .slice ka kn kc] (w3.drewN n) fun e w' => e = .returned (.bool true) ∧ ∃ m, w' = (w3.drewN n).drewN m) := fun n => whole_any _ _ key w1.heap.size _ (HM3.out.kept (fun b hb => rfl)) (HKY.out _ ((HBu3.out.mono HBu.out).trans (((drew_fr w3 n []).none).mono (Nat.le_trans HBu.out HBu3.out.size))))
      clear hg3 hr3 hb3 KN hy3 hy4
      go_upto_region 5 with fail
      go_quiet (first | (go_at_call 11; exact Calls.quiet_of_same (num_u _ _)) | (go_at_call 16; exact Calls.quiet_of_same (KR.out _)) | (go_at_call 18; exact Calls.quiet_of (KW.out _)))
      have HM4 : Hid (Marked w1.heap.size (w3.drewN nq) (.slice (some ⟨gk, 0, none⟩) kn ck) key) := HM3.out.kept (fun b hb => rfl)
      have HBu4 : Hid (Below u.heap.size u (w3.drewN nq)) := HBu3.out.trans (((drew_fr w3 nq []).none).mono HBu3.out.size)
      have hz3 : (w3.drewN nq).cell? ⟨u.heap.size, 3, none⟩ = some (.int .i64 oh) := hv3
      have hz4 : (w3.drewN nq).cell? ⟨u.heap.size, 4, none⟩ = some (.slice ka kn kc) := hv4
      have HS4 : Hid (w2.heap.size ≤ (w3.drewN nq).heap.size) := HS3.out
      have HR4 : Hid (MRep (w3.drewN nq) g oh (stateOf oh key 54) (stateOf oh key 92) []) := HR3.out.same rfl
      clear hv3 hv4 KW HM3
      generalize w3.drewN nq = w4 at HM4 HBu4 hz3 hz4 HS4 HR4 ⊢
      have KSp : Hid (Calls Tryd.prog 21 #[.slice (some ⟨gk, 0, none⟩) kn ck] w4 fun e w' => e = .returned (.tuple #[]) ∧ w4.grownBy w' (some gk)) := by
        obtain ⟨g', c', e', _, _, ho⟩ := marked_owns HM4.out
        injection e' with e1 e2 e3
        injection e1 with e1
        injection e1 with e4 _
        subst e4
        rw [HKL.out] at ho
        exact spoil_any w1.heap.size kn _ key w4 (by omega) (by have := HS4.out; have := HGK.out; omega) ho
      go_wp2_with (first | (go_at_call 21; refine KSp.out.mono ?_))
      rintro e5 w5 ⟨rfl, hg5⟩
      have HBu5 : Hid (Below u.heap.size u w5) := ⟨hg5.os.trans HBu4.out.os, hg5.tape.trans HBu4.out.tape, hg5.output.trans HBu4.out.output, Nat.le_trans HBu4.out.size hg5.size, fun b hb => (hg5.block b (Nat.lt_of_lt_of_le hb HBu4.out.size) (fun q => by injection q with q; have := HGK.out.1; have := HS1.out; omega)).trans (HBu4.out.block b hb)⟩
      have hgu : w5.heap[u.heap.size]? = w4.heap[u.heap.size]? := hg5.block _ (by have := HS4.out; have := HS2.out; omega) (fun q => by injection q with q; have := HGK.out.1; have := HS1.out; omega)
      have hv3 : w5.cell? ⟨u.heap.size, 3, none⟩ = some (.int .i64 oh) := (World.cell?_of_block (a := ⟨u.heap.size, 3, none⟩) hgu).trans hz3
      have hv4 : w5.cell? ⟨u.heap.size, 4, none⟩ = some (.slice ka kn kc) := (World.cell?_of_block (a := ⟨u.heap.size, 4, none⟩) hgu).trans hz4
      have HR5 : Hid (MRep w5 g oh (stateOf oh key 54) (stateOf oh key 92) []) := HR4.out.same (hg5.block g HR4.out.lt' (fun q => by injection q with q; have := HGK.out.2; have := HG.out; omega))
      clear hg5 hgu KSp hz3 hz4
      obtain ⟨C0, HC0⟩ : ∃ C, Hid (TC u t C) := tc_there HH.out.s.there
      have htu : t < u.heap.size := (HH.out.s.lt t (mb_t _ _ _ _)).2
      have HC5 : Hid (TC w5 t C0) := HC0.out.same (HBu5.out.block t htu)
      have hci : w5.cell? ⟨t, 3 + i, none⟩ = some (C0 (3 + i)) := HC5.out.c _ (by omega)
      have hfi : w5.frozen? ⟨t, 3 + i, none⟩ = false := HC5.out.froz _ (by omega)
      go_upto_region 9 with fail
      obtain ⟨C6, HC6⟩ : ∃ C, Hid (C = upC C0 (3 + i) (.pointer (some ⟨g, 0, none⟩))) := ⟨_, rfl⟩
      have HT6 : Hid (TC (w5.setCell ⟨t, 3 + i, none⟩ (.pointer (some ⟨g, 0, none⟩))) t C6) := by show TC _ _ _; rw [HC6.out]; exact HC5.out.set (3 + i) _ (by omega)
      have HF6 : Hid (Fr u (w5.setCell ⟨t, 3 + i, none⟩ (.pointer (some ⟨g, 0, none⟩))) [t]) := (below_fr HBu5.out [t]).trans (set_fr w5 t (3 + i) _)
      have hw3 : (w5.setCell ⟨t, 3 + i, none⟩ (.pointer (some ⟨g, 0, none⟩))).cell? ⟨u.heap.size, 3, none⟩ = some (.int .i64 oh) := by rw [World.cell?_setCell_far _ _ _ _ (by show t ≠ u.heap.size; omega)]; exact hv3
      have hw4 : (w5.setCell ⟨t, 3 + i, none⟩ (.pointer (some ⟨g, 0, none⟩))).cell? ⟨u.heap.size, 4, none⟩ = some (.slice ka kn kc) := by rw [World.cell?_setCell_far _ _ _ _ (by show t ≠ u.heap.size; omega)]; exact hv4
      have HR6 : Hid (MRep (w5.setCell ⟨t, 3 + i, none⟩ (.pointer (some ⟨g, 0, none⟩))) g oh (stateOf oh key 54) (stateOf oh key 92) []) := HR5.out.same ((set_fr w5 t (3 + i) _).block g HR5.out.lt' (by have := HG.out; have := HS2.out; simp; omega))
      clear hci hfi hv3 hv4
      generalize w5.setCell ⟨t, 3 + i, none⟩ (.pointer (some ⟨g, 0, none⟩)) = w6 at HT6 HF6 hw3 hw4 HR6 ⊢
      have HTH : Hid (w6.there t (6 + i * 4) (#[.int .i64 0, .bool false, .slice none 0 0, .slice none 0 0] : Array Value).size) := HT6.out.part (6 + i * 4) 4 (by omega)
      go_upto_region 10 with (first
        | (refine wpList_store_mid (by rfl) 86 (.tmp 70) (.tmp 67) (by rfl) t (6 + i * 4) #[.int .i64 0, .bool false, .slice none 0 0, .slice none 0 0] (by rfl) (by rfl) HTH.out size86z one86z ?_))
      obtain ⟨C7, HC7⟩ : ∃ C, Hid (C = upC (upC (upC (upC C6 (6 + i * 4) (.int .i64 0)) (6 + i * 4 + 1) (.bool false)) (6 + i * 4 + 2) (.slice none 0 0)) (6 + i * 4 + 3) (.slice none 0 0)) := ⟨_, rfl⟩
      have HT7 : Hid (TC (w6.setCells t (6 + i * 4) [.int .i64 0, .bool false, .slice none 0 0, .slice none 0 0]) t C7) := by
        show TC _ _ _
        rw [HC7.out]
        exact TC.set4 HT6.out (6 + i * 4) (.int .i64 0) (.bool false) (.slice none 0 0) (.slice none 0 0) (by omega)
      have HF7 : Hid (Fr u (w6.setCells t (6 + i * 4) [.int .i64 0, .bool false, .slice none 0 0, .slice none 0 0]) [t]) := HF6.out.trans (sets_fr w6 t (6 + i * 4) [.int .i64 0, .bool false, .slice none 0 0, .slice none 0 0])
      have hv3 : (w6.setCells t (6 + i * 4) [.int .i64 0, .bool false, .slice none 0 0, .slice none 0 0]).cell? ⟨u.heap.size, 3, none⟩ = some (.int .i64 oh) := by rw [World.cell?_setCells_out _ _ _ _ _ (fun e => absurd e (by show u.heap.size ≠ t; omega))]; exact hw3
      have hv4 : (w6.setCells t (6 + i * 4) [.int .i64 0, .bool false, .slice none 0 0, .slice none 0 0]).cell? ⟨u.heap.size, 4, none⟩ = some (.slice ka kn kc) := by rw [World.cell?_setCells_out _ _ _ _ _ (fun e => absurd e (by show u.heap.size ≠ t; omega))]; exact hw4
      have HR7 : Hid (MRep (w6.setCells t (6 + i * 4) [.int .i64 0, .bool false, .slice none 0 0, .slice none 0 0]) g oh (stateOf oh key 54) (stateOf oh key 92) []) := HR6.out.same ((sets_fr w6 t (6 + i * 4) [.int .i64 0, .bool false, .slice none 0 0, .slice none 0 0]).block g HR6.out.lt' (by have := HG.out; have := HS2.out; simp; omega))
      clear hw3 hw4 HTH
      generalize w6.setCells t (6 + i * 4) [.int .i64 0, .bool false, .slice none 0 0, .slice none 0 0] = w7 at HT7 HF7 hv3 hv4 HR7 ⊢
      go_upto_region 11 with fail
      have HCE := HC7
      have HTH7 : Hid (w7.drew.there t (6 + i * 4) (#[.int .i64 oh, .bool true, .slice ka kn kc, .slice none 0 0] : Array Value).size) := HT7.out.drew.part (6 + i * 4) 4 (by omega)
      have hSt : w7.drew.cell? ⟨u.heap.size, 3, none⟩ = some (.int .i64 oh) ∧ w7.drew.cell? ⟨u.heap.size, 4, none⟩ = some (.slice ka kn kc) := ⟨hv3, hv4⟩
      refine wp_region_noPanic ?_
      refine wp_region_till (fun v => v.cell? ⟨u.heap.size, 3, none⟩ = some (.int .i64 oh) ∧ v.cell? ⟨u.heap.size, 4, none⟩ = some (.slice ka kn kc)) 9 (by kernel_rfl) (by decide) (by decide +kernel) (by decide +kernel) (by decide +kernel) (fun inv => ?_)
      refine till_at 0 73 (.pointer (some ⟨t, 0, none⟩)) inv rfl rfl (by decide) (by decide +kernel) (by decide +kernel) (fun _ _ _ h => h) (hSt) (Or.inl ⟨by rfl, fun w' hS' => by go_simp⟩) (fun inv' => ?_)
      clear inv; have inv := inv'; clear inv'
      simp only [List.setIfInBounds_toArray, List.set_cons_zero, List.set_cons_succ]
      refine till_at 1 74 (.int .i64 (i : Nat)) inv rfl rfl (by decide) (by decide +kernel) (by decide +kernel) (fun _ _ _ h => h) (hSt) (Or.inl ⟨by rfl, fun w' hS' => by go_simp⟩) (fun inv' => ?_)
      clear inv; have inv := inv'; clear inv'
      simp only [List.setIfInBounds_toArray, List.set_cons_zero, List.set_cons_succ]
      refine till_at 2 75 (.pointer (some ⟨u.heap.size, 3, none⟩)) inv rfl rfl (by decide) (by decide +kernel) (by decide +kernel) (fun _ _ _ h => h) (hSt) (Or.inl ⟨by rfl, fun w' hS' => by go_simp⟩) (fun inv' => ?_)
      clear inv; have inv := inv'; clear inv'
      simp only [List.setIfInBounds_toArray, List.set_cons_zero, List.set_cons_succ]
      refine till_at 3 76 (.int .i64 oh) inv rfl rfl (by decide) (by decide +kernel) (by decide +kernel) (fun _ _ _ h => h) (hSt) (Or.inl ⟨by rfl, fun w' hS' => by have q1 := hS'.1; go_simp⟩) (fun inv' => ?_)
      clear inv; have inv := inv'; clear inv'
      simp only [List.setIfInBounds_toArray, List.set_cons_zero, List.set_cons_succ]
      refine till_at 4 77 (.pointer (some ⟨u.heap.size, 4, none⟩)) inv rfl rfl (by decide) (by decide +kernel) (by decide +kernel) (fun _ _ _ h => h) (hSt) (Or.inl ⟨by rfl, fun w' hS' => by go_simp⟩) (fun inv' => ?_)
      clear inv; have inv := inv'; clear inv'
      simp only [List.setIfInBounds_toArray, List.set_cons_zero, List.set_cons_succ]
      refine till_at 5 78 (.slice ka kn kc) inv rfl rfl (by decide) (by decide +kernel) (by decide +kernel) (fun _ _ _ h => h) (hSt) (Or.inl ⟨by rfl, fun w' hS' => by have q1 := hS'.2; go_simp⟩) (fun inv' => ?_)
      clear inv; have inv := inv'; clear inv'
      simp only [List.setIfInBounds_toArray, List.set_cons_zero, List.set_cons_succ]
      refine till_at 6 79 (.agg #[.int .i64 oh, .bool true, .slice ka kn kc, .slice none 0 0]) inv rfl rfl (by decide) (by decide +kernel) (by decide +kernel) (fun _ _ _ h => h) (hSt) (Or.inl ⟨by rfl, fun w' hS' => by go_simp⟩) (fun inv' => ?_)
      clear inv; have inv := inv'; clear inv'
      simp only [List.setIfInBounds_toArray, List.set_cons_zero, List.set_cons_succ]
      refine till_at 7 80 (.pointer (some ⟨t, 0, none⟩)) inv rfl rfl (by decide) (by decide +kernel) (by decide +kernel) (fun _ _ _ h => h) (hSt) (Or.inl ⟨by rfl, fun w' hS' => by go_simp⟩) (fun inv' => ?_)
      clear inv; have inv := inv'; clear inv'
      simp only [List.setIfInBounds_toArray, List.set_cons_zero, List.set_cons_succ]
      refine till_at 8 81 (.pointer (some ⟨t, 6, none⟩)) inv rfl rfl (by decide) (by decide +kernel) (by decide +kernel) (fun _ _ _ h => h) (hSt) (Or.inl ⟨by rfl, fun w' hS' => by go_simp⟩) (fun inv' => ?_)
      clear inv; have inv := inv'; clear inv'
      simp only [List.setIfInBounds_toArray, List.set_cons_zero, List.set_cons_succ]
      refine till_tail (i := 9) (by decide +kernel) (by decide) rfl (fun Kx hK => ?_)
      rw [if_pos (by kernel_rfl)]
      go_simp
      refine hK.out _ _ ?_
      clear hK Kx
      try simp only [Act.put, List.setIfInBounds_toArray, List.set_cons_zero, List.set_cons_succ]
      refine till_tail (i := 10) (by decide +kernel) (by decide) rfl (fun Kx hK => ?_)
      rw [if_pos (by kernel_rfl)]
      refine wp_store_mid 86 (.tmp 82) (.tmp 79) rfl t (6 + i * 4) #[.int .i64 oh, .bool true, .slice ka kn kc, .slice none 0 0] rfl rfl HTH7.out (size86k oh ka kn kc) (one86k oh ka kn kc) ?_
      refine hK.out _ _ ?_
      clear hK Kx
      refine till_done (by decide +kernel) ?_ _
      refine NoPanic.normal ?_
      clear hSt
      have HE : Hid (TSD (w7.drew.setCells t (6 + i * 4) [.int .i64 oh, .bool true, .slice ka kn kc, .slice none 0 0]) B t true (upd3 d i ⟨some g, oh, true, key, [], .slice ka kn kc, .slice none 0 0⟩) kv wv ts left ∧ Below B u (w7.drew.setCells t (6 + i * 4) [.int .i64 oh, .bool true, .slice ka kn kc, .slice none 0 0])) := by
        have h3 := HI3.out
        have hf : Fr u (w7.drew.setCells t (6 + i * 4) [.int .i64 oh, .bool true, .slice ka kn kc, .slice none 0 0]) [t] := (HF7.out.trans (drew_fr w7 1 [t])).trans (sets_fr w7.drew t (6 + i * 4) [.int .i64 oh, .bool true, .slice ka kn kc, .slice none 0 0])
        have htc := TC.set4 HT7.out.drew (6 + i * 4) (.int .i64 oh) (.bool true) (.slice ka kn kc) (.slice none 0 0) (by omega)
        have htl := HH.out.s.tc HC0.out i h3
        have htu : t < u.heap.size := (HH.out.s.lt t (mb_t _ _ _ _)).2
        have hbel : Below B u (w7.drew.setCells t (6 + i * 4) [.int .i64 oh, .bool true, .slice ka kn kc, .slice none 0 0]) := hf.toBelow (fun b hb => by rw [List.mem_singleton.1 hb]; exact HH.out.s.tB) HBu.out
        have hgt : g ≠ t := by have := HG.out; have := HS2.out; omega
        have hob : MRep (w7.drew.setCells t (6 + i * 4) [.int .i64 oh, .bool true, .slice ka kn kc, .slice none 0 0]) g oh (stateOf oh key 54) (stateOf oh key 92) [] := HR7.out.same ((sets_fr w7.drew t (6 + i * 4) [.int .i64 oh, .bool true, .slice ka kn kc, .slice none 0 0]).block g HR7.out.lt' (by simpa using hgt))
        refine ⟨HH.out.slot h3 hf (fun b hb => .inl (by simpa using hb)) HC0.out htc (fun j h0 h1 h2 h4 h5 => ?_) ?_ ?_ ?_ ?_ ?_ ?_ ?_ ⟨fun e => (by cases e), fun g' e => ?_, HKY.out _ hbel, view_nil _, by show key.length ≤ 65536; rw [HKL.out]; omega⟩ (fun g' e => ?_) (fun e => absurd rfl e) (fun e b hb => ⟨fun q => ?_, fun q => ?_⟩) (Nat.le_refl _) (by have := HH.out.s.zl i h3; simp; omega), hbel⟩
        · rw [upC_other _ _ _ _ (by omega), upC_other _ _ _ _ (by omega), upC_other _ _ _ _ (by omega), upC_other _ _ _ _ (by omega), HCE.out, HC6.out, upC_other _ _ _ _ (by omega), upC_other _ _ _ _ (by omega), upC_other _ _ _ _ (by omega), upC_other _ _ _ _ (by omega), upC_other _ _ _ _ (by omega)]
        · rw [upC_other _ _ _ _ (by omega), upC_other _ _ _ _ (by omega), upC_other _ _ _ _ (by omega), upC_other _ _ _ _ (by omega), HCE.out, HC6.out, upC_other _ _ _ _ (by omega), upC_other _ _ _ _ (by omega), upC_other _ _ _ _ (by omega), upC_other _ _ _ _ (by omega), upC_other _ _ _ _ (by omega)]; exact htl.1
        · rw [upC_other _ _ _ _ (by omega), upC_other _ _ _ _ (by omega), upC_other _ _ _ _ (by omega), upC_other _ _ _ _ (by omega), HCE.out, HC6.out, upC_other _ _ _ _ (by omega), upC_other _ _ _ _ (by omega), upC_other _ _ _ _ (by omega), upC_other _ _ _ _ (by omega), upC_same _ _ _ _ rfl]; rfl
        · rw [upC_other _ _ _ _ (by omega), upC_other _ _ _ _ (by omega), upC_other _ _ _ _ (by omega), upC_same _ _ _ _ rfl]
        · rw [upC_other _ _ _ _ (by omega), upC_other _ _ _ _ (by omega), upC_same _ _ _ _ rfl]
        · rw [upC_other _ _ _ _ (by omega), upC_same _ _ _ _ rfl]
        · rw [upC_same _ _ _ _ rfl]
        · rw [upC_other _ _ _ _ (by omega), upC_other _ _ _ _ (by omega), upC_other _ _ _ _ (by omega), upC_other _ _ _ _ (by omega), HCE.out, HC6.out, upC_other _ _ _ _ (by omega), upC_other _ _ _ _ (by omega), upC_other _ _ _ _ (by omega), upC_other _ _ _ _ (by omega), upC_other _ _ _ _ (by omega)]; exact HH.out.s.tcl HC0.out
        · injection e with e
          subst e
          exact ⟨HK.out, rfl, by have := HG.out; have := HS2.out; have := HBu.out; omega, hob⟩
        · injection e with e
          subst e
          exact .inr (by have := HG.out; have := HS2.out; omega)
        · have := HKB.out e b hb; have := (HH.out.s.lt b q).1; omega
        · injection q with q
          subst q
          have := HKB.out e g hb; have := HG.out; have := HS2.out; have := HBu.out; omega
      generalize w7.drew.setCells t (6 + i * 4) [.int .i64 oh, .bool true, .slice ka kn kc, .slice none 0 0] = w8 at HE ⊢
      go_wp2
      go_ret
      exact ⟨rfl, ⟨_, kv, wv, ts, left, by omega, HE.out.1⟩, HE.out.2⟩
    · have HK : Hid (¬ Known oh) := k
      obtain ⟨b1, b2, b3, b4⟩ := bad_of k
      have KN : Hid (Calls Tryd.prog 32 #[.int .i64 oh, .slice (some ⟨gk, 0, none⟩) kn ck] w2 fun e w' => e = .returned (.tuple #[.pointer none, .int .i64 10]) ∧ Below w2.heap.size w2 w') := newMac_bad oh _ w2 b1 b2 b3 b4
      have KR : Hid (∀ v, Calls Tryd.prog 16 #[.int .i64 oh] v fun e w' => e = .returned (.int .i64 0) ∧ w' = v) := fun v => rsize_bad oh HK.out v
      clear k b1 b2 b3 b4
      go_wp2_with (first | (go_at_call 32; refine KN.out.mono ?_))
      intro e3 w3 hp3
      obtain ⟨rfl, hb3⟩ := hp3
      have HBu3 : Hid (Below u.heap.size u w3) := HBu2.out.trans (hb3.mono HBu2.out.size)
      have hv3 : w3.cell? ⟨u.heap.size, 3, none⟩ = some (.int .i64 oh) := (hb3.cell (p := ⟨u.heap.size, 3, none⟩) HS2.out).trans hy3
      have hv4 : w3.cell? ⟨u.heap.size, 4, none⟩ = some (.slice ka kn kc) := (hb3.cell (p := ⟨u.heap.size, 4, none⟩) HS2.out).trans hy4
      have HM3 : Hid (Marked w1.heap.size w3 (.slice (some ⟨gk, 0, none⟩) kn ck) key) := HM2.out.kept hb3.block
      have HS3 : Hid (w2.heap.size ≤ w3.heap.size) := hb3.size
      have KW : Hid (∀ n, Calls Tryd.prog 18 #[.slice (some ⟨gk, 0, none⟩) kn ck, .slice ka kn kc] (w3.drewN n) fun e w' => e = .returned (.bool true) ∧ ∃ m, w' = (w3.drewN n).drewN m) := fun n => whole_any _ _ key w1.heap.size _ (HM3.out.kept (fun b hb => rfl)) (HKY.out _ ((HBu3.out.mono HBu.out).trans (((drew_fr w3 n []).none).mono (Nat.le_trans HBu.out HBu3.out.size))))
      clear hb3 KN hy3 hy4
      go_upto_region 5 with fail
      go_quiet (first | (go_at_call 11; exact Calls.quiet_of_same (num_u _ _)) | (go_at_call 16; exact Calls.quiet_of_same (KR.out _)) | (go_at_call 18; exact Calls.quiet_of (KW.out _)))
      have HM4 : Hid (Marked w1.heap.size (w3.drewN nq) (.slice (some ⟨gk, 0, none⟩) kn ck) key) := HM3.out.kept (fun b hb => rfl)
      have HBu4 : Hid (Below u.heap.size u (w3.drewN nq)) := HBu3.out.trans (((drew_fr w3 nq []).none).mono HBu3.out.size)
      have hz3 : (w3.drewN nq).cell? ⟨u.heap.size, 3, none⟩ = some (.int .i64 oh) := hv3
      have hz4 : (w3.drewN nq).cell? ⟨u.heap.size, 4, none⟩ = some (.slice ka kn kc) := hv4
      have HS4 : Hid (w2.heap.size ≤ (w3.drewN nq).heap.size) := HS3.out
      clear hv3 hv4 KW HM3
      generalize w3.drewN nq = w4 at HM4 HBu4 hz3 hz4 HS4 ⊢
      have KSp : Hid (Calls Tryd.prog 21 #[.slice (some ⟨gk, 0, none⟩) kn ck] w4 fun e w' => e = .returned (.tuple #[]) ∧ w4.grownBy w' (some gk)) := by
        obtain ⟨g', c', e', _, _, ho⟩ := marked_owns HM4.out
        injection e' with e1 e2 e3
        injection e1 with e1
        injection e1 with e4 _
        subst e4
        rw [HKL.out] at ho
        exact spoil_any w1.heap.size kn _ key w4 (by omega) (by have := HS4.out; have := HGK.out; omega) ho
      go_wp2_with (first | (go_at_call 21; refine KSp.out.mono ?_))
      rintro e5 w5 ⟨rfl, hg5⟩
      have HBu5 : Hid (Below u.heap.size u w5) := ⟨hg5.os.trans HBu4.out.os, hg5.tape.trans HBu4.out.tape, hg5.output.trans HBu4.out.output, Nat.le_trans HBu4.out.size hg5.size, fun b hb => (hg5.block b (Nat.lt_of_lt_of_le hb HBu4.out.size) (fun q => by injection q with q; have := HGK.out.1; have := HS1.out; omega)).trans (HBu4.out.block b hb)⟩
      have hgu : w5.heap[u.heap.size]? = w4.heap[u.heap.size]? := hg5.block _ (by have := HS4.out; have := HS2.out; omega) (fun q => by injection q with q; have := HGK.out.1; have := HS1.out; omega)
      have hv3 : w5.cell? ⟨u.heap.size, 3, none⟩ = some (.int .i64 oh) := (World.cell?_of_block (a := ⟨u.heap.size, 3, none⟩) hgu).trans hz3
      have hv4 : w5.cell? ⟨u.heap.size, 4, none⟩ = some (.slice ka kn kc) := (World.cell?_of_block (a := ⟨u.heap.size, 4, none⟩) hgu).trans hz4
      clear hg5 hgu KSp hz3 hz4
      obtain ⟨C0, HC0⟩ : ∃ C, Hid (TC u t C) := tc_there HH.out.s.there
      have htu : t < u.heap.size := (HH.out.s.lt t (mb_t _ _ _ _)).2
      have HC5 : Hid (TC w5 t C0) := HC0.out.same (HBu5.out.block t htu)
      have hci : w5.cell? ⟨t, 3 + i, none⟩ = some (C0 (3 + i)) := HC5.out.c _ (by omega)
      have hfi : w5.frozen? ⟨t, 3 + i, none⟩ = false := HC5.out.froz _ (by omega)
      go_upto_region 9 with fail
      obtain ⟨C6, HC6⟩ : ∃ C, Hid (C = upC C0 (3 + i) (.pointer none)) := ⟨_, rfl⟩
      have HT6 : Hid (TC (w5.setCell ⟨t, 3 + i, none⟩ (.pointer none)) t C6) := by show TC _ _ _; rw [HC6.out]; exact HC5.out.set (3 + i) _ (by omega)
      have HF6 : Hid (Fr u (w5.setCell ⟨t, 3 + i, none⟩ (.pointer none)) [t]) := (below_fr HBu5.out [t]).trans (set_fr w5 t (3 + i) _)
      have hw3 : (w5.setCell ⟨t, 3 + i, none⟩ (.pointer none)).cell? ⟨u.heap.size, 3, none⟩ = some (.int .i64 oh) := by rw [World.cell?_setCell_far _ _ _ _ (by show t ≠ u.heap.size; omega)]; exact hv3
      have hw4 : (w5.setCell ⟨t, 3 + i, none⟩ (.pointer none)).cell? ⟨u.heap.size, 4, none⟩ = some (.slice ka kn kc) := by rw [World.cell?_setCell_far _ _ _ _ (by show t ≠ u.heap.size; omega)]; exact hv4
      clear hci hfi hv3 hv4
      generalize w5.setCell ⟨t, 3 + i, none⟩ (.pointer none) = w6 at HT6 HF6 hw3 hw4 ⊢
      have HTH : Hid (w6.there t (6 + i * 4) (#[.int .i64 0, .bool false, .slice none 0 0, .slice none 0 0] : Array Value).size) := HT6.out.part (6 + i * 4) 4 (by omega)
      go_upto_region 10 with (first
        | (refine wpList_store_mid (by rfl) 86 (.tmp 70) (.tmp 67) (by rfl) t (6 + i * 4) #[.int .i64 0, .bool false, .slice none 0 0, .slice none 0 0] (by rfl) (by rfl) HTH.out size86z one86z ?_))
      obtain ⟨C7, HC7⟩ : ∃ C, Hid (C = upC (upC (upC (upC C6 (6 + i * 4) (.int .i64 0)) (6 + i * 4 + 1) (.bool false)) (6 + i * 4 + 2) (.slice none 0 0)) (6 + i * 4 + 3) (.slice none 0 0)) := ⟨_, rfl⟩
      have HT7 : Hid (TC (w6.setCells t (6 + i * 4) [.int .i64 0, .bool false, .slice none 0 0, .slice none 0 0]) t C7) := by
        show TC _ _ _
        rw [HC7.out]
        exact TC.set4 HT6.out (6 + i * 4) (.int .i64 0) (.bool false) (.slice none 0 0) (.slice none 0 0) (by omega)
      have HF7 : Hid (Fr u (w6.setCells t (6 + i * 4) [.int .i64 0, .bool false, .slice none 0 0, .slice none 0 0]) [t]) := HF6.out.trans (sets_fr w6 t (6 + i * 4) [.int .i64 0, .bool false, .slice none 0 0, .slice none 0 0])
      have hv3 : (w6.setCells t (6 + i * 4) [.int .i64 0, .bool false, .slice none 0 0, .slice none 0 0]).cell? ⟨u.heap.size, 3, none⟩ = some (.int .i64 oh) := by rw [World.cell?_setCells_out _ _ _ _ _ (fun e => absurd e (by show u.heap.size ≠ t; omega))]; exact hw3
      have hv4 : (w6.setCells t (6 + i * 4) [.int .i64 0, .bool false, .slice none 0 0, .slice none 0 0]).cell? ⟨u.heap.size, 4, none⟩ = some (.slice ka kn kc) := by rw [World.cell?_setCells_out _ _ _ _ _ (fun e => absurd e (by show u.heap.size ≠ t; omega))]; exact hw4
      clear hw3 hw4 HTH
      generalize w6.setCells t (6 + i * 4) [.int .i64 0, .bool false, .slice none 0 0, .slice none 0 0] = w7 at HT7 HF7 hv3 hv4 ⊢
      have HE : Hid (TSD w7 B t true (upd3 d i Sl.no) kv wv ts left ∧ Below B u w7) := by
        have h3 := HI3.out
        have htl := HH.out.s.tc HC0.out i h3
        refine ⟨HH.out.slot h3 HF7.out (fun b hb => .inl (by simpa using hb)) HC0.out HT7.out (fun j h0 h1 h2 h4 h5 => ?_) ?_ ?_ ?_ ?_ ?_ ?_ ?_ (no_at _ _ _) (fun g' e => by cases e) (fun e => absurd rfl e) (fun e => absurd rfl e) (Nat.le_refl _) (by have := HH.out.s.zl i h3; simp [Sl.no]; omega), ?_⟩
        · rw [HC7.out, HC6.out, upC_other _ _ _ _ (by omega), upC_other _ _ _ _ (by omega), upC_other _ _ _ _ (by omega), upC_other _ _ _ _ (by omega), upC_other _ _ _ _ (by omega)]
        · rw [HC7.out, HC6.out, upC_other _ _ _ _ (by omega), upC_other _ _ _ _ (by omega), upC_other _ _ _ _ (by omega), upC_other _ _ _ _ (by omega), upC_other _ _ _ _ (by omega)]; exact htl.1
        · rw [HC7.out, HC6.out, upC_other _ _ _ _ (by omega), upC_other _ _ _ _ (by omega), upC_other _ _ _ _ (by omega), upC_other _ _ _ _ (by omega), upC_same _ _ _ _ rfl]; rfl
        · rw [HC7.out, upC_other _ _ _ _ (by omega), upC_other _ _ _ _ (by omega), upC_other _ _ _ _ (by omega), upC_same _ _ _ _ rfl]; rfl
        · rw [HC7.out, upC_other _ _ _ _ (by omega), upC_other _ _ _ _ (by omega), upC_same _ _ _ _ rfl]; rfl
        · rw [HC7.out, upC_other _ _ _ _ (by omega), upC_same _ _ _ _ rfl]; rfl
        · rw [HC7.out, upC_same _ _ _ _ rfl]; rfl
        · rw [HC7.out, HC6.out, upC_other _ _ _ _ (by omega), upC_other _ _ _ _ (by omega), upC_other _ _ _ _ (by omega), upC_other _ _ _ _ (by omega), upC_other _ _ _ _ (by omega)]; exact HH.out.s.tcl HC0.out
        · exact HF7.out.toBelow (fun b hb => by rw [List.mem_singleton.1 hb]; exact HH.out.s.tB) HBu.out
      go_wp2
      go_ret
      exact ⟨rfl, ⟨_, kv, wv, ts, left, by omega, HE.out.1⟩, HE.out.2⟩
end Go.Proofs.YtioggmjocelolacDoor
