import Derived.Test.YtioggmjocelolacDoorPart09
import Derived.Test.YtioggmjocelolacDoorPart06
namespace Go.Proofs.YtioggmjocelolacDoor
open Go.RowKit
set_option linter.unusedVariables false
set_option linter.unusedSimpArgs false
theorem PV.partsG {w : World} {v : Value} {xs : List Value} {yss : List (List Int)} (h : PV w v xs yss) (g : Nat) (hr : ∀ b, b ∈ vblk v → b ≠ g) (hx : ∀ (i : Nat) (x : Value), xs[i]? = some x → ∀ b, b ∈ vblk x → b ≠ g) : Parts w g v yss := by
  obtain ⟨a, c, rfl, h1, h2, h3, h4, h5⟩ := h
  refine ⟨a, c, by rw [h3], by omega, h2, ?_⟩
  rcases h5 with h5 | ⟨b, p, rfl, h6⟩
  · refine .inl ?_
    rw [h5] at h3
    exact List.eq_nil_of_length_eq_zero h3.symm
  · refine .inr ⟨b, p, rfl, hr b (by simp [vblk, Value.ownBlock]), fun i hi => ?_⟩
    obtain ⟨x, hxi⟩ : ∃ x, xs[i]? = some x := ⟨_, List.getElem?_eq_getElem (by omega)⟩
    exact ⟨x, h6 i x hxi, h4 i x hxi, fun _ b' off l c' e => hx i x hxi b' (by rw [e]; simp [vblk, Value.ownBlock])⟩
theorem upd3_self (d : Nat → Sl) (i : Nat) : upd3 d i (d i) = d := by
  funext j
  unfold upd3
  split
  · rename_i e; rw [e]
  · rfl
theorem TSD.left {u : World} {B t left left' : Nat} {mc : Bool} {d : Nat → Sl} {kv wv : Value} {ts : List (Value × Value × List Int)} {C : Nat → Value} (s : TSD u B t mc d kv wv ts left) (hC : TC u t C) (hle : left' ≤ left) : TSD (u.setCell ⟨t, 20, none⟩ (.int .i64 (left' : Nat))) B t mc d kv wv ts left' := by
  have h3 : 0 < 3 := by omega
  have htl := s.s.tc hC 0 h3
  have hf := set_fr u t 20 (.int .i64 (left' : Nat))
  have hm : ∀ b, b ∈ Mb t d kv wv → b ≠ t → (u.setCell ⟨t, 20, none⟩ (.int .i64 (left' : Nat))).heap[b]? = u.heap[b]? := fun b hb e => hf.block b (s.s.lt b hb).2 (by simpa using e)
  have := s.slot (i := 0) (s' := d 0) (left' := left') h3 hf (fun b hb => .inl (by simpa using hb)) hC (hC.set 20 _ (by omega)) (fun j h0 h1 h2 h4 h5 => upC_other _ _ _ _ h5) (by rw [upC_other _ _ _ _ (by omega), htl.1]) (by rw [upC_other _ _ _ _ (by omega), htl.2.1]) (by rw [upC_other _ _ _ _ (by omega), htl.2.2.1]) (by rw [upC_other _ _ _ _ (by omega), htl.2.2.2.1]) (by rw [upC_other _ _ _ _ (by omega), htl.2.2.2.2.1]) (by rw [upC_other _ _ _ _ (by omega), htl.2.2.2.2.2]) (upC_same _ _ _ _ rfl)
    ((s.s.sl 0 h3).keep (fun g e => hm g (mb_g h3 e) (fun q => s.s.ap.gt 0 h3 (by rw [e, q]))) (fun e b hb => hf.block b (view_blks (s.s.sl 0 h3).kv e b hb) (fun q => s.s.rk 0 h3 e b hb (by rw [List.mem_singleton.1 q]; exact mb_t _ _ _ _))) (fun e b hb => hf.block b (view_blks (s.s.sl 0 h3).bv e b hb) (fun q => s.s.rb 0 h3 e b hb (by rw [List.mem_singleton.1 q]; exact mb_t _ _ _ _))))
    (fun g e => .inl e) (fun e b hb => ⟨s.s.rb 0 h3 e b hb, fun q => s.s.rb 0 h3 e b hb (mb_g h3 q)⟩) (fun e b hb => ⟨s.s.rk 0 h3 e b hb, fun q => s.s.rk 0 h3 e b hb (mb_g h3 q)⟩) hle (by have := s.s.zl 0 h3; omega)
  rw [upd3_self] at this
  exact this
/-- The copies' blocks. -/
def cbs (vs : List Value) : List Nat := vs.flatMap vblk
theorem mem_cbs {vs : List Value} {b : Nat} : b ∈ cbs vs ↔ ∃ (i : Nat) (x : Value), vs[i]? = some x ∧ b ∈ vblk x := by
  unfold cbs
  rw [List.mem_flatMap]
  constructor
  · rintro ⟨x, hx, hb⟩
    obtain ⟨i, hi⟩ := List.mem_iff_getElem?.1 hx
    exact ⟨i, x, hi, hb⟩
  · rintro ⟨i, x, hx, hb⟩
    exact ⟨x, List.mem_of_getElem? hx, hb⟩
set_option maxHeartbeats 6400000 in
set_option maxRecDepth 100000 in
theorem writes_f (B t i left : Nat) (d : Nat → Sl) (kv wv : Value) (ts : List (Value × Value × List Int)) (ok oa of oh : Int) (okx : Value) (pa : Option Addr) (pn pc : Nat) (xs : List Value) (yss : List (List Int)) (u : World) (h0 : TSD u B t false d kv wv ts left) (hi : i < 3) (hT : Tbs u) (hB : 4 ≤ B) (hBu : B ≤ u.heap.size)
    (hP : ∀ v, Below B u v → PV v (.slice pa pn pc) xs yss) (hxn : xs.length = pn) (hs : yss.flatten.length ≤ 1048576) (hpn : pn ≤ 1048576) :
    Calls Tryd.prog 70 #[.pointer (some ⟨t, 0, none⟩), .int .i64 (i : Nat), .agg #[.int .i64 ok, .int .i64 oa, .int .i64 of, .int .i64 oh, okx, .slice pa pn pc], .bool false] u (StepP B t false ts.length u) := by
  have hyl : yss.length = pn := by
    obtain ⟨_, _, _, _, _, h3, _⟩ := hP u (Below.refl _ _)
    rw [← h3, hxn]
  have HYL : Hid (yss.length = pn) := hyl
  have hb1 : Below u.heap.size u (u.alloc (.cells #[.int .i64 ok, .int .i64 oa, .int .i64 of, .int .i64 oh, okx, .slice pa pn pc] 92)) := (Below.refl _ _).alloc (Nat.le_refl _) _
  have HH : Hid (TSD u B t false d kv wv ts left) := h0
  have H1 : Hid (TSD (u.alloc (.cells #[.int .i64 ok, .int .i64 oa, .int .i64 of, .int .i64 oh, okx, .slice pa pn pc] 92)) B t false d kv wv ts left) := h0.below hb1
  have HBu : Hid (B ≤ u.heap.size) := hBu
  have HB4 : Hid (4 ≤ B) := hB
  have HI3 : Hid (i < 3) := hi
  have hi3 : ((i : Nat) : Int) < 3 := by omega
  have HP : Hid (∀ v, Below B u v → PV v (.slice pa pn pc) xs yss) := hP
  have HXN : Hid (xs.length = pn) := hxn
  have HS : Hid (yss.flatten.length ≤ 1048576) := hs
  have HTb : Hid (Tbs u) := hT
  have HB1 : Hid (Below u.heap.size u (u.alloc (.cells #[.int .i64 ok, .int .i64 oa, .int .i64 of, .int .i64 oh, okx, .slice pa pn pc] 92))) := hb1
  have HS1 : Hid ((u.alloc (.cells #[.int .i64 ok, .int .i64 oa, .int .i64 of, .int .i64 oh, okx, .slice pa pn pc] 92)).heap.size = u.heap.size + 1) := by show _ = _; simp
  have HBX : Hid ((u.alloc (.cells #[.int .i64 ok, .int .i64 oa, .int .i64 of, .int .i64 oh, okx, .slice pa pn pc] 92)).cell? ⟨u.heap.size, 5, none⟩ = some (.slice pa pn pc)) := by
    show World.cell? _ _ = _
    rw [World.cell?_alloc_at _ 92 _ _ rfl]; rfl
  have KJ : Hid (Calls Tryd.prog 22 #[.slice pa pn pc] (u.alloc (.cells #[.int .i64 ok, .int .i64 oa, .int .i64 of, .int .i64 oh, okx, .slice pa pn pc] 92)) fun e w' => Hid (∃ v' zs, e = .returned v' ∧ w'.ownsRow (u.alloc (.cells #[.int .i64 ok, .int .i64 oa, .int .i64 of, .int .i64 oh, okx, .slice pa pn pc] 92)).heap.size 5 1 v' zs.length (cellsU8 zs) ∧ Below (u.alloc (.cells #[.int .i64 ok, .int .i64 oa, .int .i64 of, .int .i64 oh, okx, .slice pa pn pc] 92)).heap.size (u.alloc (.cells #[.int .i64 ok, .int .i64 oa, .int .i64 of, .int .i64 oh, okx, .slice pa pn pc] 92)) w' ∧ (zs = yss.flatten ∨ 65536 < zs.length) ∧ zs.length ≤ 1048576)) := joined_ok pa pn pc xs yss _ (hP _ (hb1.mono hBu)) hxn hs hpn
  have hl16 : left ≤ 65536 := by have := h0.s.zl i hi; omega
  clear h0 hi hT hB hBu hP hxn hs hb1 hyl
  go_enter Tryd.func70, Tryd.ntmps70
  go_wp2_with (first | (go_at_call 22; refine KJ.out.mono ?_))
  intro e1 w2 hp
  obtain ⟨v2, zs, rfl, ho2, hb2, hor, hzl⟩ := hp.out
  obtain ⟨va, vc, hv2⟩ : ∃ a c, v2 = .slice a zs.length c := owns_slice0 ho2
  obtain ⟨zl, HZL⟩ : ∃ n, Hid (n = zs.length) := ⟨_, rfl⟩
  rw [← HZL.out] at hv2 hzl
  subst hv2
  have hor' : zs = yss.flatten ∨ 65536 < zl := by rw [HZL.out]; exact hor
  have HB2 : Hid (Below (u.alloc (.cells #[.int .i64 ok, .int .i64 oa, .int .i64 of, .int .i64 oh, okx, .slice pa pn pc] 92)).heap.size (u.alloc (.cells #[.int .i64 ok, .int .i64 oa, .int .i64 of, .int .i64 oh, okx, .slice pa pn pc] 92)) w2) := hb2
  have HO2 : Hid (w2.ownsRow (u.alloc (.cells #[.int .i64 ok, .int .i64 oa, .int .i64 of, .int .i64 oh, okx, .slice pa pn pc] 92)).heap.size 5 1 (.slice va zl vc) zl (cellsU8 zs)) := by show World.ownsRow _ _ _ _ _ _ _; rw [HZL.out] at ho2 ⊢; exact ho2
  have H2 : Hid (TSD w2 B t false d kv wv ts left) := H1.out.below hb2
  have hx2 : w2.cell? ⟨u.heap.size, 5, none⟩ = some (.slice pa pn pc) := (hb2.cell (p := ⟨u.heap.size, 5, none⟩) (by show u.heap.size < _; have := HS1.out; omega)).trans HBX.out
  have hcl : w2.cell? ⟨t, 20, none⟩ = some (.int .i64 (left : Nat)) := H2.out.s.cl
  obtain ⟨C0, HC0⟩ : ∃ C, Hid (TC u t C) := tc_there HH.out.s.there
  have HBu2 : Hid (Below u.heap.size u w2) := HB1.out.trans (hb2.mono HB1.out.size)
  have HC2 : Hid (TC w2 t C0) := HC0.out.same (HBu2.out.block t (HH.out.s.lt t (mb_t _ _ _ _)).2)
  have hfl : w2.frozen? ⟨t, 20, none⟩ = false := HC2.out.froz 20 (by omega)
  clear hp ho2 hb2 hor KJ HBX
  by_cases hlt : left < zl
  · have hlti : ((left : Nat) : Int) < ((zl : Nat) : Int) := by omega
    go_wp2
    go_ret
    exact ⟨rfl, ⟨d, kv, wv, ts, left, by omega, H2.out⟩, HBu2.out.mono HBu.out⟩
  · have hle : ((zl : Nat) : Int) ≤ ((left : Nat) : Int) := by omega
    have hfe : zs = yss.flatten := by
      rcases hor' with h | h
      · exact h
      · omega
    subst hfe
    obtain ⟨left', HLE⟩ : ∃ n, Hid (n = left - zl) := ⟨_, rfl⟩
    have hsub : ((left : Nat) : Int) - ((zl : Nat) : Int) = ((left' : Nat) : Int) := by have := HLE.out; omega
    have hwl : IntKind.i64.wrap ((left' : Nat) : Int) = ((left' : Nat) : Int) := by rw [IntKind.wrap_i64]; have := HLE.out; omega
    go_upto_region 5 with fail
    have H3 : Hid (TSD (w2.setCell ⟨t, 20, none⟩ (.int .i64 (left' : Nat))) B t false d kv wv ts left') := H2.out.left HC2.out (by have := HLE.out; omega)
    have HC3 : Hid (TC (w2.setCell ⟨t, 20, none⟩ (.int .i64 (left' : Nat))) t (upC C0 20 (.int .i64 (left' : Nat)))) := HC2.out.set 20 _ (by omega)
    have HF3 : Hid (Fr w2 (w2.setCell ⟨t, 20, none⟩ (.int .i64 (left' : Nat))) [t]) := set_fr w2 t 20 _
    generalize w2.setCell ⟨t, 20, none⟩ (.int .i64 (left' : Nat)) = w3 at H3 HC3 HF3 ⊢
    have htu : t < u.heap.size := (HH.out.s.lt t (mb_t _ _ _ _)).2
    have HUS : Hid (u.heap.size < w2.heap.size) := by show _ < _; have := HS1.out; have := HB2.out.size; omega
    have hx3 : w3.cell? ⟨u.heap.size, 5, none⟩ = some (.slice pa pn pc) := (World.cell?_of_block (a := ⟨u.heap.size, 5, none⟩) (HF3.out.block u.heap.size HUS.out (by simp; omega))).trans hx2
    have HO3 : Hid (w3.ownsRow (u.alloc (.cells #[.int .i64 ok, .int .i64 oa, .int .i64 of, .int .i64 oh, okx, .slice pa pn pc] 92)).heap.size 5 1 (.slice va zl vc) zl (cellsU8 yss.flatten)) := owns_same HO2.out (fun b hb => HF3.out.block b (owns_blks HO2.out b hb).2 (by have := (owns_blks HO2.out b hb).1; have := HS1.out; simp; omega))
    have HFu3 : Hid (Fr u w3 [t]) := (below_fr HBu2.out [t]).trans HF3.out
    have HBel3 : Hid (Below B u w3) := HFu3.out.toBelow (fun b hb => by rw [List.mem_singleton.1 hb]; exact HH.out.s.tB) HBu.out
    have HTb3 : Hid (Tbs w3) := HTb.out.below HBel3.out HB4.out
    have KL : Hid (Calls Tryd.prog 23 #[.slice pa pn pc] w3 fun e w' => Hid (∃ v', e = .returned v' ∧ ∃ vs, vs.length = pn ∧ w'.ownsRow w3.heap.size 22 1 v' pn vs ∧ Lent w3.heap.size w' vs yss ∧ Inc vs ∧ Below w3.heap.size w3 w')) := lent_inc pa pn pc xs yss w3 (HP.out _ HBel3.out) HXN.out HS.out hpn
    clear hx2 hcl hfl
    go_wp2_with (first | (go_at_call 23; refine KL.out.mono ?_))
    intro e2 w4 hp2
    obtain ⟨l4, rfl, vs, hvl, hol, hLt, hInc, hb4⟩ := hp2.out
    obtain ⟨la, lc, hl4⟩ : ∃ a c, l4 = .slice a pn c := owns_slice0 hol
    subst hl4
    have HV : Hid (vs.length = pn) := hvl
    have HOL4 : Hid (w4.ownsRow w3.heap.size 22 1 (.slice la pn lc) pn vs) := hol
    have HLT4 : Hid (Lent w3.heap.size w4 vs yss) := hLt
    have HINC : Hid (Inc vs) := hInc
    have HB4' : Hid (Below w3.heap.size w3 w4) := hb4
    have H4 : Hid (TSD w4 B t false d kv wv ts left') := H3.out.below hb4
    have hx4 : w4.cell? ⟨u.heap.size, 5, none⟩ = some (.slice pa pn pc) := (hb4.cell (p := ⟨u.heap.size, 5, none⟩) (by show u.heap.size < _; have := HUS.out; have := HF3.out.size; omega)).trans hx3
    have hcp : w4.cell? ⟨t, i, none⟩ = some (gp (d i).g) := H4.out.s.cs i HI3.out
    have HCB : Hid (∀ b, b ∈ cbs vs → w3.heap.size ≤ b ∧ b < w4.heap.size) := fun b hb => by
      obtain ⟨j, x, hx, hbx⟩ := mem_cbs.1 hb
      exact (HLT4.out j x hx).blk_lt (by simpa [vblk] using hbx)
    have HG3 : Hid (∀ g, (d i).g = some g → g < w3.heap.size) := fun g e => (H3.out.s.lt g (mb_g HI3.out e)).2
    have KW : Hid (Calls Tryd.prog 52 #[gp (d i).g, .slice la pn lc] w4 (WriP false (d i) ((d i).zs ++ yss.flatten) w4)) := by
      refine swrite_any (d i) B yss _ w4 (H4.out.s.sl i HI3.out) (HTb3.out.below HB4'.out (by have := HB4.out; have := HBel3.out.size; have := HBu.out; omega)).t HB4.out (fun g e => ?_) ?_
      · have hpv := lent_pv HOL4.out HV.out HYL.out HLT4.out
        have hg := HG3.out g e
        refine hpv.partsG g (fun b hb q => ?_) (fun j x hx b hb q => ?_)
        · have := (owns_blks HOL4.out b hb).1; omega
        · have := (HCB.out b (mem_cbs.2 ⟨j, x, hx, hb⟩)).1; omega
      · have h1 := HH.out.s.zl i HI3.out
        have h2 := HZL.out
        omega
    clear hp2 hvl hol hLt hInc hb4 KL hx3
    go_wp2_with (first | (go_at_call 52; refine KW.out.mono ?_))
    intro e3 w5 hp3
    obtain ⟨rfl, hf5, hob5⟩ := hp3
    have HF5 : Hid (Fr w4 w5 (d i).g.toList) := hf5
    have HOB5 : Hid (∀ g, (d i).g = some g → Obj false w5 g (d i).h (d i).key ((d i).zs ++ yss.flatten)) := hob5
    have HGL : Hid (∀ b, b ∈ (d i).g.toList → b < u.heap.size ∧ B ≤ b ∧ b ≠ t) := fun b hb => by
      have e : (d i).g = some b := by simpa using hb
      have := HH.out.s.lt b (mb_g HI3.out e)
      exact ⟨this.2, this.1, fun q => HH.out.s.ap.gt i HI3.out (by rw [e, q])⟩
    have HSZ3 : Hid (u.heap.size < w3.heap.size) := by show _ < _; have := HUS.out; have := HF3.out.size; omega
    have HSZ4 : Hid (w3.heap.size ≤ w4.heap.size) := HB4'.out.size
    have hx5 : w5.cell? ⟨u.heap.size, 5, none⟩ = some (.slice pa pn pc) := (World.cell?_of_block (a := ⟨u.heap.size, 5, none⟩) (HF5.out.block u.heap.size (by have := HSZ3.out; have := HSZ4.out; omega) (fun q => by have := (HGL.out _ q).1; omega))).trans hx4
    have HOL5 : Hid (w5.ownsRow w3.heap.size 22 1 (.slice la pn lc) pn vs) := owns_same HOL4.out (fun b hb => HF5.out.block b (owns_blks HOL4.out b hb).2 (fun q => by have := (HGL.out _ q).1; have := (owns_blks HOL4.out b hb).1; have := HSZ3.out; omega))
    have HLT5 : Hid (Lent w3.heap.size w5 vs yss) := fun j x hx => (HLT4.out j x hx).blk2 (fun g e => HF5.out.block g ((HLT4.out j x hx).blk_lt e).2 (fun q => by have := (HGL.out _ q).1; have := ((HLT4.out j x hx).blk_lt e).1; have := HSZ3.out; omega))
    have HFu5 : Hid (Fr u w5 ([t] ++ (d i).g.toList)) := by
      have h1 : Fr u w3 ([t] ++ (d i).g.toList) := HFu3.out.mono (fun b hb => List.mem_append_left _ hb)
      have h2 : Fr u w4 ([t] ++ (d i).g.toList) := h1.late (below_fr HB4'.out []) (fun b hb => by cases hb)
      exact h2.trans (HF5.out.mono (fun b hb => List.mem_append_right _ hb))
    have HMB : Hid (∀ b, b ∈ [t] ++ (d i).g.toList → B ≤ b) := fun b hb => by
      rcases List.mem_append.1 hb with q | q
      · have e : b = t := by simpa using q
        rw [e]; exact HH.out.s.tB
      · exact (HGL.out b q).2.1
    have HBel5 : Hid (Below B u w5) := HFu5.out.toBelow HMB.out HBu.out
    have HC5 : Hid (TC w5 t (upC C0 20 (.int .i64 (left' : Nat)))) := (HC3.out.same (HB4'.out.block t (by have := HSZ3.out; omega))).same (HF5.out.block t (by have := HSZ3.out; have := HSZ4.out; omega) (fun q => (HGL.out t q).2.2 rfl))
    have HO5 : Hid (w5.ownsRow (u.alloc (.cells #[.int .i64 ok, .int .i64 oa, .int .i64 of, .int .i64 oh, okx, .slice pa pn pc] 92)).heap.size 5 1 (.slice va zl vc) zl (cellsU8 yss.flatten)) := by
      refine owns_same (owns_kept HO3.out HB4'.out) (fun b hb => HF5.out.block b (by have := (owns_blks HO3.out b hb).2; have := HSZ4.out; omega) (fun q => by have := (HGL.out _ q).1; have := (owns_blks HO3.out b hb).1; have := HS1.out; omega))
    have KH : Hid (Calls Tryd.prog 25 #[.slice la pn lc, .slice pa pn pc] w5 fun e w' => e = .returned (.bool true) ∧ ∃ m, w' = w5.drewN m) := wholes_ok _ _ vs xs yss w3.heap.size w5 (lent_pv HOL5.out HV.out HYL.out HLT5.out) (HP.out _ HBel5.out) HLT5.out (by rw [HXN.out]; exact hpn)
    clear hf5 hob5 hx4 hcp KW
    obtain ⟨ev, HEV⟩ : ∃ e, Hid (e = erN (d i)) := ⟨_, rfl⟩
    rw [← HEV.out]
    go_wp2_with (first
      | (go_at_call 11; refine (num_u _ _).mono ?_; rintro e9 w9 ⟨rfl, hw9⟩; obtain rfl := hw9.symm)
      | (go_at_call 25; refine KH.out.mono ?_))
    rintro e6 w6 ⟨rfl, m6, hw6⟩
    have HD6 : Hid (Below w5.heap.size w5 w6) := by rw [hw6]; exact (drew_fr w5 m6 []).none
    have HS6 : Hid (w5.heap.size ≤ w6.heap.size) := HD6.out.size
    clear hw6 KH hx5
    go_wp2
    go_loopw [12] (fun kk wr => ∃ k : Nat, k ≤ pn ∧ kk = .int .i64 (k : Nat) ∧ Hid (Fr w6 wr (cbs vs) ∧ ∀ (j : Nat) (x : Value), k ≤ j → vs[j]? = some x → Marked w3.heap.size wr x (yss.getD j []))) (fun kk _ => pn - (intOf kk).toNat)
    case atStart => exact ⟨0, by omega, rfl, Fr.refl _ _, fun j x _ hx => (HLT5.out j x hx).blk2 (fun g e => HD6.out.block g ((HLT5.out j x hx).blk_lt e).2)⟩
    case round =>
      obtain ⟨k, hk, rfl, HR⟩ := hrel
      have HOLr : Hid (wr.ownsRow w3.heap.size 22 1 (.slice la pn lc) pn vs) := by
        refine owns_same (owns_kept HOL5.out HD6.out) (fun b hb => HR.out.1.block b (by have := (owns_blks HOL5.out b hb).2; have := HS6.out; omega) (fun q => ?_))
        obtain ⟨j, x, hx, hbx⟩ := mem_cbs.1 q
        exact row_ne HOL5.out (HLT5.out j x hx) (g := b) (by simpa [vblk] using hb) (by simpa [vblk] using hbx)
      by_cases hkn : k < pn
      · have hki : ((k : Nat) : Int) < ((pn : Nat) : Int) := by omega
        obtain ⟨x, hx⟩ : ∃ x, vs[k]? = some x := ⟨_, List.getElem?_eq_getElem (by rw [HV.out]; exact hkn)⟩
        have hM := HR.out.2 k x (Nat.le_refl _) hx
        obtain ⟨gx, cx, hxe, hgx1, hgx2, hgo⟩ := marked_owns hM
        obtain ⟨lx, HLX⟩ : ∃ n, Hid (n = (yss.getD k []).length) := ⟨_, rfl⟩
        rw [← HLX.out] at hxe hgo
        subst hxe
        have hlx : lx ≤ 65536 := by
          have h1 : (yss.getD k []).length ≤ yss.flatten.length := by
            have h2 := sum_le yss (k + 1)
            rw [flat_step yss k (by rw [HYL.out]; exact hkn), List.length_append] at h2
            omega
          have := HLX.out
          have := HZL.out
          omega
        obtain ⟨lb, hlb, hcell⟩ : ∃ b, la = some ⟨b, 0, none⟩ ∧ wr.cell? ⟨b, k, none⟩ = some (.slice (some ⟨gx, 0, none⟩) lx cx) := by
          rcases HOLr.out.2 with ⟨e, h⟩ | ⟨b, c, cur, e, _⟩
          · omega
          · injection e with e1 e2 e3
            subst e1
            have := HOLr.out.cells (g := b) rfl k _ hx
            rw [Addr.add_lit, Nat.zero_add] at this
            exact ⟨b, rfl, this⟩
        subst hlb
        have KSp : Hid (Calls Tryd.prog 21 #[.slice (some ⟨gx, 0, none⟩) lx cx] wr fun e w' => e = .returned (.tuple #[]) ∧ wr.grownBy w' (some gx)) := spoil_any w3.heap.size lx _ (yss.getD k []) wr (by omega) (by have := HR.out.1.size; have := HS6.out; have := HF5.out.size; have := HSZ4.out; omega) hgo
        have HX : Hid (vs[k]? = some (.slice (some ⟨gx, 0, none⟩) lx cx)) := hx
        clear hM hgo hx
        go_wp2_with (first | (go_at_call 21; refine KSp.out.mono ?_))
        rintro e7 w7 ⟨rfl, hg7⟩
        have HN7 : Hid (Fr w6 w7 (cbs vs) ∧ ∀ (j : Nat) (y : Value), k + 1 ≤ j → vs[j]? = some y → Marked w3.heap.size w7 y (yss.getD j [])) := by
          have hin : gx ∈ cbs vs := mem_cbs.2 ⟨k, _, HX.out, by simp [vblk, Value.ownBlock]⟩
          refine ⟨HR.out.1.trans ((grown_fr hg7).mono (fun b hb => by rw [show b = gx by simpa using hb]; exact hin)), fun j y hj hy => (HR.out.2 j y (by omega) hy).blk2 (fun g e => hg7.block g ((HR.out.2 j y (by omega) hy).blk_lt e).2 (fun q => ?_))⟩
          injection q with q
          have := HINC.out k j _ y gx g (by omega) HX.out hy rfl e
          omega
        clear hg7 KSp
        go_wp2
        refine ⟨⟨k + 1, by omega, rfl, HN7.out⟩, by simp only [intOf]; omega⟩
      · obtain rfl : k = pn := by omega
        have HNB : Hid (∀ b, b < w3.heap.size → b ∉ cbs vs) := fun b hb q => by have := (HCB.out b q).1; omega
        have HBr : Hid (∀ b, b < w3.heap.size → wr.heap[b]? = w5.heap[b]?) := fun b hb => (HR.out.1.block b (by have := HS6.out; have := HF5.out.size; have := HSZ4.out; omega) (HNB.out b hb)).trans (HD6.out.block b (by have := HF5.out.size; have := HSZ4.out; omega))
        have HSr : Hid (w5.heap.size ≤ wr.heap.size) := by show _ ≤ _; have := HR.out.1.size; have := HS6.out; omega
        have HCr : Hid (TC wr t (upC C0 20 (.int .i64 (left' : Nat)))) := HC5.out.same (HBr.out t (by have := HSZ3.out; omega))
        have HFur : Hid (Fr u wr ([t] ++ (d i).g.toList)) := by
          have h1 : Fr u w6 ([t] ++ (d i).g.toList) := HFu5.out.late (below_fr HD6.out []) (fun b hb => by cases hb)
          exact h1.late HR.out.1 (fun b hb => .inr (by have := (HCB.out b hb).1; have := HSZ3.out; omega))
        have htl := HH.out.s.tc HC0.out i HI3.out
        have hch : wr.cell? ⟨t, 6 + i * 4, none⟩ = some (.int .i64 (d i).h) := by
          rw [HCr.out.c _ (by have := HI3.out; omega), upC_other _ _ _ _ (by have := HI3.out; omega), htl.2.2.1]
        have HE0 : Hid (Below B u wr) := HFur.out.toBelow HMB.out HBu.out
        clear hk hkn
        cases hg : (d i).g with
        | none =>
          have hno : d i = Sl.no := (HH.out.s.sl i HI3.out).nil hg
          have hev : ev = 1 := by rw [HEV.out, erN, if_pos hg]
          subst hev
          rw [hno] at hch
          have hch' : wr.cell? ⟨t, 6 + i * 4, none⟩ = some (.int .i64 0) := hch
          have HE : Hid (TSD wr B t false d kv wv ts left') := by
            have hf34 : Fr w3 wr (cbs vs) := by
              have h1 : Fr w3 w5 (cbs vs) := by
                have hz := HF5.out
                rw [hg] at hz
                exact (below_fr HB4'.out _).trans (below_fr hz.none _)
              exact (h1.trans (below_fr HD6.out _)).trans HR.out.1
            exact H3.out.new H3.out hf34 (fun b hb => (HCB.out b hb).1)
          clear hch
          go_wp2
          go_ret
          exact ⟨rfl, ⟨d, kv, wv, ts, left', by omega, HE.out⟩, HE0.out⟩
        | some g =>
          obtain ⟨kk, hkd, hgB, _⟩ := (HH.out.s.sl i HI3.out).obj g hg
          have HK : Hid (Known (d i).h ∧ (d i).kd = false ∧ B ≤ g) := ⟨kk, hkd, hgB⟩
          obtain ⟨hv, HHV⟩ : ∃ x, Hid (x = (d i).h) := ⟨_, rfl⟩
          have hne : ¬ hv = 0 := by rw [HHV.out]; rcases kk with e | e | e | e <;> omega
          rw [← HHV.out] at hch
          have hev : ev = 0 := by rw [HEV.out, erN, if_neg (by rw [hg]; exact fun q => by cases q)]
          subst hev
          have HG : Hid ((d i).g = some g) := hg
          have HGT : Hid (g ≠ t ∧ g < u.heap.size) := ⟨fun e => HH.out.s.ap.gt i HI3.out (by rw [hg, e]), (HH.out.s.lt g (mb_g HI3.out hg)).2⟩
          have HOBr : Hid (Obj false wr g (d i).h (d i).key ((d i).zs ++ yss.flatten)) := (HOB5.out g hg).same (HBr.out g (by have := HSZ3.out; have := HGT.out.2; omega))
          -- what was fed, and what is fed
          have hbvr : View wr (d i).bv (d i).zs := view_keepP (HH.out.s.sl i HI3.out).bv (fun e b hb => HFur.out.block b (view_blks (HH.out.s.sl i HI3.out).bv e b hb) (fun q => HH.out.s.rb i HI3.out e b hb (by
            rcases List.mem_append.1 q with q | q
            · have e : b = t := by simpa using q
              rw [e]; exact mb_t _ _ _ _
            · exact mb_g HI3.out (by simpa using q))))
          obtain ⟨ba, bc, hbv⟩ : ∃ a c, (d i).bv = .slice a (d i).zs.length c := by
            obtain ⟨a, c, e, _⟩ := hbvr
            exact ⟨a, c, e⟩
          obtain ⟨bl, HBL⟩ : ∃ n, Hid (n = (d i).zs.length) := ⟨_, rfl⟩
          rw [← HBL.out] at hbv
          have HBV : Hid (View wr (.slice ba bl bc) (d i).zs) := by show View _ _ _; rw [← hbv]; exact hbvr
          have hbl : bl ≤ 65536 := by have := HH.out.s.zl i HI3.out; have := HBL.out; omega
          have hcb : wr.cell? ⟨t, 6 + i * 4 + 3, none⟩ = some (.slice ba bl bc) := by
            rw [HCr.out.c _ (by have := HI3.out; omega), upC_other _ _ _ _ (by have := HI3.out; omega), htl.2.2.2.2.2, hbv]
          have HOr : Hid (View wr (.slice va zl vc) yss.flatten ∧ ∀ b, b ∈ vblk (.slice va zl vc) → u.heap.size < b ∧ b < w3.heap.size) := by
            have h1 : ∀ b, b ∈ vblk (.slice va zl vc) → u.heap.size < b ∧ b < w3.heap.size := fun b hb => ⟨by have := (owns_blks HO3.out b hb).1; have := HS1.out; omega, (owns_blks HO3.out b hb).2⟩
            exact ⟨view_keepP (viewOwns HO5.out HZL.out.symm) (fun _ b hb => HBr.out b (h1 b hb).2), h1⟩
          have HON : Hid (wr.ownsRow wr.heap.size 5 1 (.slice none 0 0) 0 (cellsU8 [])) := World.ownsRow_nil _ _ _ _
          clear hg hbvr hbv kk hkd hgB
          go_wp2_with (first
            | (at_builtin; go_must (refine wpList_append_viewS rfl (.tmp 82) (.tmp 89) rfl wr.heap.size 0 bl _ [] rfl HON.out ba bl bc rfl (d i).zs HBV.out HBL.out.symm (by omega) (by omega) (Nat.le_refl _) ?_)))
          intro v8 w8 ho8 hg8 hat8
          have HF8 : Hid (Below wr.heap.size wr w8) := ⟨hg8.os, hg8.tape, hg8.output, hg8.size, fun b hb => hg8.block b hb (fun q => by cases q)⟩
          have HO8 : Hid (w8.ownsRow wr.heap.size 5 1 v8 bl (cellsU8 (d i).zs)) := ho8
          clear ho8 hg8 hat8
          go_upto_region 20 with fail
          have HV8 : Hid (View w8.drew (.slice va zl vc) yss.flatten) := by
            have h1 := HOr.out.1.kept HF8.out.block
            exact h1.kept (fun b hb => rfl)
          have ho8d : w8.drew.ownsRow wr.heap.size 5 1 v8 bl (cellsU8 (d i).zs) := owns_same HO8.out (fun b hb => rfl)
          obtain ⟨v9, w9, hr9, ho9, hg9⟩ := append_bytesS w8.drew wr.heap.size v8 bl (d i).zs ho8d va zl vc yss.flatten HV8.out HZL.out.symm (by omega) (by exact HF8.out.size) 22
          obtain ⟨nl, HNL⟩ : ∃ n, Hid (n = bl + zl) := ⟨_, rfl⟩
          rw [← HNL.out] at ho9
          obtain ⟨x9, c9, hv9⟩ : ∃ a c, v9 = .slice a nl c := owns_slice0 ho9
          subst hv9
          have HBr9 : Hid (∀ b, b < wr.heap.size → w9.heap[b]? = wr.heap[b]?) := fun b hb => (hg9.block b (by have := HF8.out.size; exact Nat.lt_of_lt_of_le hb this) (fun q => by have := (ho8d.lt b q.symm).1; omega)).trans (HF8.out.block b hb)
          have HS9 : Hid (wr.heap.size ≤ w9.heap.size) := Nat.le_trans HF8.out.size hg9.size
          have HQ9 : Hid (w9.os = wr.os ∧ w9.tape = wr.tape ∧ w9.output = wr.output) := ⟨hg9.os.trans HF8.out.os, hg9.tape.trans HF8.out.tape, hg9.output.trans HF8.out.output⟩
          have HO9 : Hid (w9.ownsRow wr.heap.size 5 1 (.slice x9 nl c9) nl (cellsU8 ((d i).zs ++ yss.flatten))) := ho9
          have htr : t < wr.heap.size := by have := HSr.out; have := HF5.out.size; have := HSZ4.out; have := HSZ3.out; omega
          have HC9 : Hid (TC w9 t (upC C0 20 (.int .i64 (left' : Nat)))) := HCr.out.same (HBr9.out t htr)
          have q1 : w9.cell? ⟨t, 6 + i * 4 + 3, none⟩ = some (upC C0 20 (.int .i64 (left' : Nat)) (6 + i * 4 + 3)) := HC9.out.c _ (by have := HI3.out; omega)
          have q2 : w9.frozen? ⟨t, 6 + i * 4 + 3, none⟩ = false := HC9.out.froz _ (by have := HI3.out; omega)
          clear ho9 hg9 ho8d HV8 hcb hch
          refine wp_region_noPanic ?_
          refine wp_region_held_drew (S := fun _ => True) (by kernel_rfl) (trivial) (fun _ => ?_)
          refine takeH_at 0 91 (.pointer (some ⟨t, 0, none⟩)) rfl rfl (by kernel_rfl) (by kernel_rfl) (by kernel_rfl) (fun _ _ _ h => h) (trivial) (Or.inl ⟨by rfl, fun w' hS' => by go_simp⟩) ?_
          simp only [List.setIfInBounds_toArray, List.set_cons_zero, List.set_cons_succ]
          refine takeH_at 1 92 (.int .i64 (i : Nat)) rfl rfl (by kernel_rfl) (by kernel_rfl) (by kernel_rfl) (fun _ _ _ h => h) (trivial) (Or.inl ⟨by rfl, fun w' hS' => by go_simp⟩) ?_
          simp only [List.setIfInBounds_toArray, List.set_cons_zero, List.set_cons_succ]
          refine takeH_at 2 93 (v8) rfl rfl (by kernel_rfl) (by kernel_rfl) (by kernel_rfl) (fun _ _ _ h => h) (trivial) (Or.inl ⟨by rfl, fun w' hS' => by go_simp⟩) ?_
          simp only [List.setIfInBounds_toArray, List.set_cons_zero, List.set_cons_succ]
          refine takeH_at 3 94 (.slice va zl vc) rfl rfl (by kernel_rfl) (by kernel_rfl) (by kernel_rfl) (fun _ _ _ h => h) (trivial) (Or.inl ⟨by rfl, fun w' hS' => by go_simp⟩) ?_
          simp only [List.setIfInBounds_toArray, List.set_cons_zero, List.set_cons_succ]
          refine takeH_at 5 96 (.pointer (some ⟨t, 0, none⟩)) rfl rfl (by kernel_rfl) (by kernel_rfl) (by kernel_rfl) (fun _ _ _ h => h) (trivial) (Or.inl ⟨by rfl, fun w' hS' => by go_simp⟩) ?_
          simp only [List.setIfInBounds_toArray, List.set_cons_zero, List.set_cons_succ]
          refine takeH_at 6 97 (.pointer (some ⟨t, 6, none⟩)) rfl rfl (by kernel_rfl) (by kernel_rfl) (by kernel_rfl) (fun _ _ _ h => h) (trivial) (Or.inl ⟨by rfl, fun w' hS' => by go_simp⟩) ?_
          simp only [List.setIfInBounds_toArray, List.set_cons_zero, List.set_cons_succ]
          refine wpAnyH_ready (rs := [4]) (by kernel_rfl) (by simp) ?_
          refine AllReadyH.cons rfl (fun Kx hK => ?_) AllReadyH.nil
          rw [if_pos (by kernel_rfl)]
          refine wp_append_bytesS (.tmp 93) (.tmp 94) rfl rfl rfl hr9 ?_
          refine hK.out _ _ trivial (fun _ => ?_)
          clear hK Kx
          try simp only [Act.put, List.setIfInBounds_toArray, List.set_cons_zero, List.set_cons_succ]
          refine takeH_at 7 98 (.pointer (some ⟨t, 6 + i * 4, none⟩)) rfl rfl (by kernel_rfl) (by kernel_rfl) (by kernel_rfl) (fun _ _ _ h => h) (trivial) (Or.inl ⟨by rfl, fun w' hS' => by go_simp⟩) ?_
          simp only [List.setIfInBounds_toArray, List.set_cons_zero, List.set_cons_succ]
          refine takeH_at 8 99 (.pointer (some ⟨t, 6 + i * 4 + 3, none⟩)) rfl rfl (by kernel_rfl) (by kernel_rfl) (by kernel_rfl) (fun _ _ _ h => h) (trivial) (Or.inl ⟨by rfl, fun w' hS' => by go_simp⟩) ?_
          simp only [List.setIfInBounds_toArray, List.set_cons_zero, List.set_cons_succ]
          refine wpAnyH_ready (rs := [9]) (by kernel_rfl) (by simp) ?_
          refine AllReadyH.cons rfl (fun Kx hK => ?_) AllReadyH.nil
          rw [if_pos (by kernel_rfl)]
          go_simp
          refine hK.out _ _ trivial (fun _ => ?_)
          clear hK Kx
          refine wpAnyH_done (by kernel_rfl) ?_ _
          refine NoPanic.normal ?_
          clear q1 q2 hr9
          have HE : Hid (TSD (w9.setCell ⟨t, 6 + i * 4 + 3, none⟩ (.slice x9 nl c9)) B t false (upd3 d i ⟨some g, (d i).h, false, (d i).key, (d i).zs ++ yss.flatten, (d i).kv, .slice x9 nl c9⟩) kv wv ts left' ∧ Below B u (w9.setCell ⟨t, 6 + i * 4 + 3, none⟩ (.slice x9 nl c9))) := by
            have h3 := HI3.out
            have hf9 : Fr u w9 ([t] ++ (d i).g.toList) := HFur.out.late ⟨HQ9.out.1, HQ9.out.2.1, HQ9.out.2.2, HS9.out, fun b hb _ => HBr9.out b hb⟩ (l' := []) (fun b hb => by cases hb)
            have hf : Fr u (w9.setCell ⟨t, 6 + i * 4 + 3, none⟩ (.slice x9 nl c9)) ([t] ++ (d i).g.toList) := hf9.trans ((set_fr w9 t _ _).mono (fun b hb => List.mem_append_left _ hb))
            have htc := HC9.out.set (6 + i * 4 + 3) (.slice x9 nl c9) (by omega)
            have hgl : g < wr.heap.size := HOBr.out.lt
            have hob : Obj false (w9.setCell ⟨t, 6 + i * 4 + 3, none⟩ (.slice x9 nl c9)) g (d i).h (d i).key ((d i).zs ++ yss.flatten) := (HOBr.out.same (HBr9.out g hgl)).same ((set_fr w9 t _ _).block g (by have := HS9.out; omega) (by simpa using HGT.out.1))
            have hnew : ∀ b, b ∈ vblk (.slice x9 nl c9) → u.heap.size < b := fun b hb => by have := (owns_blks HO9.out b hb).1; have := HSr.out; have := HF5.out.size; have := HSZ4.out; have := HSZ3.out; omega
            have hbv9 : View (w9.setCell ⟨t, 6 + i * 4 + 3, none⟩ (.slice x9 nl c9)) (.slice x9 nl c9) ((d i).zs ++ yss.flatten) := view_keepP (viewOwns HO9.out (by rw [List.length_append, ← HBL.out, ← HZL.out, HNL.out])) (fun _ b hb => (set_fr w9 t _ _).block b (owns_blks HO9.out b hb).2 (by have := hnew b hb; simp; omega))
            have hkv : View (w9.setCell ⟨t, 6 + i * 4 + 3, none⟩ (.slice x9 nl c9)) (d i).kv (d i).key := view_keepP (HH.out.s.sl i h3).kv (fun e b hb => hf.block b (view_blks (HH.out.s.sl i h3).kv e b hb) (fun q => HH.out.s.rk i h3 e b hb (by
              rcases List.mem_append.1 q with q | q
              · rw [List.mem_singleton.1 q]; exact mb_t _ _ _ _
              · exact mb_g h3 (by simpa using q))))
            have hold : ∀ b, b ∈ Mb t d kv wv → b < u.heap.size := fun b hb => (HH.out.s.lt b hb).2
            refine ⟨HH.out.slot h3 hf (fun b hb => by
              rcases List.mem_append.1 hb with hb | hb
              · exact .inl (List.mem_singleton.1 hb)
              · exact .inr (.inl (by simpa using hb))) HC0.out htc (fun j h0 h1 h2 h4 h5 => by rw [upC_other _ _ _ _ (by omega), upC_other _ _ _ _ h5]) ?_ ?_ ?_ ?_ ?_ (upC_same _ _ _ _ rfl) ?_ ⟨fun e => (by cases e), fun g' e => ?_, hkv, hbv9, (HH.out.s.sl i h3).kl⟩ (fun g' e => ?_) (fun e b hb => ⟨fun q => ?_, fun q => ?_⟩) (fun e b hb => ⟨HH.out.s.rk i h3 e b hb, fun q => ?_⟩) (by have := HLE.out; omega) ?_, ?_⟩
            · rw [upC_other _ _ _ _ (by omega), upC_other _ _ _ _ (by omega), htl.1, HG.out]
              try rfl
            · rw [upC_other _ _ _ _ (by omega), upC_other _ _ _ _ (by omega), htl.2.1, HG.out]
              try rfl
            · rw [upC_other _ _ _ _ (by omega), upC_other _ _ _ _ (by omega), htl.2.2.1]
            · rw [upC_other _ _ _ _ (by omega), upC_other _ _ _ _ (by omega), htl.2.2.2.1, HK.out.2.1]
            · rw [upC_other _ _ _ _ (by omega), upC_other _ _ _ _ (by omega), htl.2.2.2.2.1]
            · rw [upC_other _ _ _ _ (by omega), upC_same _ _ _ _ rfl]
            · injection e with e
              subst e
              exact ⟨HK.out.1, rfl, HK.out.2.2, hob⟩
            · injection e with e
              subst e
              exact .inl HG.out
            · have := hold b q; have := hnew b hb; omega
            · injection q with q
              subst q
              have := hnew g hb; have := HGT.out.2; omega
            · injection q with q
              subst q
              exact HH.out.s.rk i h3 e g hb (mb_g h3 HG.out)
            · have h1 := HH.out.s.zl i h3
              have h2 := HZL.out
              have h4 := HLE.out
              show (((d i).zs ++ yss.flatten).length + left' ≤ 65536)
              rw [List.length_append]
              omega
            · exact hf.toBelow HMB.out HBu.out
          generalize w9.setCell ⟨t, 6 + i * 4 + 3, none⟩ (.slice x9 nl c9) = w10 at HE ⊢
          go_wp2
          go_ret
          exact ⟨rfl, ⟨_, kv, wv, ts, left', by omega, HE.out.1⟩, HE.out.2⟩
set_option maxHeartbeats 6400000 in
set_option maxRecDepth 100000 in
theorem writes_t (B t i left : Nat) (d : Nat → Sl) (kv wv : Value) (ts : List (Value × Value × List Int)) (ok oa of oh : Int) (okx : Value) (pa : Option Addr) (pn pc : Nat) (xs : List Value) (yss : List (List Int)) (u : World) (h0 : TSD u B t true d kv wv ts left) (hi : i < 3) (hT : Tbs u) (hB : 4 ≤ B) (hBu : B ≤ u.heap.size)
    (hP : ∀ v, Below B u v → PV v (.slice pa pn pc) xs yss) (hxn : xs.length = pn) (hs : yss.flatten.length ≤ 1048576) (hpn : pn ≤ 1048576) :
    Calls Tryd.prog 70 #[.pointer (some ⟨t, 0, none⟩), .int .i64 (i : Nat), .agg #[.int .i64 ok, .int .i64 oa, .int .i64 of, .int .i64 oh, okx, .slice pa pn pc], .bool true] u (StepP B t true ts.length u) := by
  have hyl : yss.length = pn := by
    obtain ⟨_, _, _, _, _, h3, _⟩ := hP u (Below.refl _ _)
    rw [← h3, hxn]
  have HYL : Hid (yss.length = pn) := hyl
  have hb1 : Below u.heap.size u (u.alloc (.cells #[.int .i64 ok, .int .i64 oa, .int .i64 of, .int .i64 oh, okx, .slice pa pn pc] 92)) := (Below.refl _ _).alloc (Nat.le_refl _) _
  have HH : Hid (TSD u B t true d kv wv ts left) := h0
  have H1 : Hid (TSD (u.alloc (.cells #[.int .i64 ok, .int .i64 oa, .int .i64 of, .int .i64 oh, okx, .slice pa pn pc] 92)) B t true d kv wv ts left) := h0.below hb1
  have HBu : Hid (B ≤ u.heap.size) := hBu
  have HB4 : Hid (4 ≤ B) := hB
  have HI3 : Hid (i < 3) := hi
  have hi3 : ((i : Nat) : Int) < 3 := by omega
  have HP : Hid (∀ v, Below B u v → PV v (.slice pa pn pc) xs yss) := hP
  have HXN : Hid (xs.length = pn) := hxn
  have HS : Hid (yss.flatten.length ≤ 1048576) := hs
  have HTb : Hid (Tbs u) := hT
  have HB1 : Hid (Below u.heap.size u (u.alloc (.cells #[.int .i64 ok, .int .i64 oa, .int .i64 of, .int .i64 oh, okx, .slice pa pn pc] 92))) := hb1
  have HS1 : Hid ((u.alloc (.cells #[.int .i64 ok, .int .i64 oa, .int .i64 of, .int .i64 oh, okx, .slice pa pn pc] 92)).heap.size = u.heap.size + 1) := by show _ = _; simp
  have HBX : Hid ((u.alloc (.cells #[.int .i64 ok, .int .i64 oa, .int .i64 of, .int .i64 oh, okx, .slice pa pn pc] 92)).cell? ⟨u.heap.size, 5, none⟩ = some (.slice pa pn pc)) := by
    show World.cell? _ _ = _
    rw [World.cell?_alloc_at _ 92 _ _ rfl]; rfl
  have KJ : Hid (Calls Tryd.prog 22 #[.slice pa pn pc] (u.alloc (.cells #[.int .i64 ok, .int .i64 oa, .int .i64 of, .int .i64 oh, okx, .slice pa pn pc] 92)) fun e w' => Hid (∃ v' zs, e = .returned v' ∧ w'.ownsRow (u.alloc (.cells #[.int .i64 ok, .int .i64 oa, .int .i64 of, .int .i64 oh, okx, .slice pa pn pc] 92)).heap.size 5 1 v' zs.length (cellsU8 zs) ∧ Below (u.alloc (.cells #[.int .i64 ok, .int .i64 oa, .int .i64 of, .int .i64 oh, okx, .slice pa pn pc] 92)).heap.size (u.alloc (.cells #[.int .i64 ok, .int .i64 oa, .int .i64 of, .int .i64 oh, okx, .slice pa pn pc] 92)) w' ∧ (zs = yss.flatten ∨ 65536 < zs.length) ∧ zs.length ≤ 1048576)) := joined_ok pa pn pc xs yss _ (hP _ (hb1.mono hBu)) hxn hs hpn
  have hl16 : left ≤ 65536 := by have := h0.s.zl i hi; omega
  clear h0 hi hT hB hBu hP hxn hs hb1 hyl
  go_enter Tryd.func70, Tryd.ntmps70
  go_wp2_with (first | (go_at_call 22; refine KJ.out.mono ?_))
  intro e1 w2 hp
  obtain ⟨v2, zs, rfl, ho2, hb2, hor, hzl⟩ := hp.out
  obtain ⟨va, vc, hv2⟩ : ∃ a c, v2 = .slice a zs.length c := owns_slice0 ho2
  obtain ⟨zl, HZL⟩ : ∃ n, Hid (n = zs.length) := ⟨_, rfl⟩
  rw [← HZL.out] at hv2 hzl
  subst hv2
  have hor' : zs = yss.flatten ∨ 65536 < zl := by rw [HZL.out]; exact hor
  have HB2 : Hid (Below (u.alloc (.cells #[.int .i64 ok, .int .i64 oa, .int .i64 of, .int .i64 oh, okx, .slice pa pn pc] 92)).heap.size (u.alloc (.cells #[.int .i64 ok, .int .i64 oa, .int .i64 of, .int .i64 oh, okx, .slice pa pn pc] 92)) w2) := hb2
  have HO2 : Hid (w2.ownsRow (u.alloc (.cells #[.int .i64 ok, .int .i64 oa, .int .i64 of, .int .i64 oh, okx, .slice pa pn pc] 92)).heap.size 5 1 (.slice va zl vc) zl (cellsU8 zs)) := by show World.ownsRow _ _ _ _ _ _ _; rw [HZL.out] at ho2 ⊢; exact ho2
  have H2 : Hid (TSD w2 B t true d kv wv ts left) := H1.out.below hb2
  have hx2 : w2.cell? ⟨u.heap.size, 5, none⟩ = some (.slice pa pn pc) := (hb2.cell (p := ⟨u.heap.size, 5, none⟩) (by show u.heap.size < _; have := HS1.out; omega)).trans HBX.out
  have hcl : w2.cell? ⟨t, 20, none⟩ = some (.int .i64 (left : Nat)) := H2.out.s.cl
  obtain ⟨C0, HC0⟩ : ∃ C, Hid (TC u t C) := tc_there HH.out.s.there
  have HBu2 : Hid (Below u.heap.size u w2) := HB1.out.trans (hb2.mono HB1.out.size)
  have HC2 : Hid (TC w2 t C0) := HC0.out.same (HBu2.out.block t (HH.out.s.lt t (mb_t _ _ _ _)).2)
  have hfl : w2.frozen? ⟨t, 20, none⟩ = false := HC2.out.froz 20 (by omega)
  clear hp ho2 hb2 hor KJ HBX
  by_cases hlt : left < zl
  · have hlti : ((left : Nat) : Int) < ((zl : Nat) : Int) := by omega
    go_wp2
    go_ret
    exact ⟨rfl, ⟨d, kv, wv, ts, left, by omega, H2.out⟩, HBu2.out.mono HBu.out⟩
  · have hle : ((zl : Nat) : Int) ≤ ((left : Nat) : Int) := by omega
    have hfe : zs = yss.flatten := by
      rcases hor' with h | h
      · exact h
      · omega
    subst hfe
    obtain ⟨left', HLE⟩ : ∃ n, Hid (n = left - zl) := ⟨_, rfl⟩
    have hsub : ((left : Nat) : Int) - ((zl : Nat) : Int) = ((left' : Nat) : Int) := by have := HLE.out; omega
    have hwl : IntKind.i64.wrap ((left' : Nat) : Int) = ((left' : Nat) : Int) := by rw [IntKind.wrap_i64]; have := HLE.out; omega
    go_upto_region 5 with fail
    have H3 : Hid (TSD (w2.setCell ⟨t, 20, none⟩ (.int .i64 (left' : Nat))) B t true d kv wv ts left') := H2.out.left HC2.out (by have := HLE.out; omega)
    have HC3 : Hid (TC (w2.setCell ⟨t, 20, none⟩ (.int .i64 (left' : Nat))) t (upC C0 20 (.int .i64 (left' : Nat)))) := HC2.out.set 20 _ (by omega)
    have HF3 : Hid (Fr w2 (w2.setCell ⟨t, 20, none⟩ (.int .i64 (left' : Nat))) [t]) := set_fr w2 t 20 _
    generalize w2.setCell ⟨t, 20, none⟩ (.int .i64 (left' : Nat)) = w3 at H3 HC3 HF3 ⊢
    have htu : t < u.heap.size := (HH.out.s.lt t (mb_t _ _ _ _)).2
    have HUS : Hid (u.heap.size < w2.heap.size) := by show _ < _; have := HS1.out; have := HB2.out.size; omega
    have hx3 : w3.cell? ⟨u.heap.size, 5, none⟩ = some (.slice pa pn pc) := (World.cell?_of_block (a := ⟨u.heap.size, 5, none⟩) (HF3.out.block u.heap.size HUS.out (by simp; omega))).trans hx2
    have HO3 : Hid (w3.ownsRow (u.alloc (.cells #[.int .i64 ok, .int .i64 oa, .int .i64 of, .int .i64 oh, okx, .slice pa pn pc] 92)).heap.size 5 1 (.slice va zl vc) zl (cellsU8 yss.flatten)) := owns_same HO2.out (fun b hb => HF3.out.block b (owns_blks HO2.out b hb).2 (by have := (owns_blks HO2.out b hb).1; have := HS1.out; simp; omega))
    have HFu3 : Hid (Fr u w3 [t]) := (below_fr HBu2.out [t]).trans HF3.out
    have HBel3 : Hid (Below B u w3) := HFu3.out.toBelow (fun b hb => by rw [List.mem_singleton.1 hb]; exact HH.out.s.tB) HBu.out
    have HTb3 : Hid (Tbs w3) := HTb.out.below HBel3.out HB4.out
    have KL : Hid (Calls Tryd.prog 23 #[.slice pa pn pc] w3 fun e w' => Hid (∃ v', e = .returned v' ∧ ∃ vs, vs.length = pn ∧ w'.ownsRow w3.heap.size 22 1 v' pn vs ∧ Lent w3.heap.size w' vs yss ∧ Inc vs ∧ Below w3.heap.size w3 w')) := lent_inc pa pn pc xs yss w3 (HP.out _ HBel3.out) HXN.out HS.out hpn
    clear hx2 hcl hfl
    go_wp2_with (first | (go_at_call 23; refine KL.out.mono ?_))
    intro e2 w4 hp2
    obtain ⟨l4, rfl, vs, hvl, hol, hLt, hInc, hb4⟩ := hp2.out
    obtain ⟨la, lc, hl4⟩ : ∃ a c, l4 = .slice a pn c := owns_slice0 hol
    subst hl4
    have HV : Hid (vs.length = pn) := hvl
    have HOL4 : Hid (w4.ownsRow w3.heap.size 22 1 (.slice la pn lc) pn vs) := hol
    have HLT4 : Hid (Lent w3.heap.size w4 vs yss) := hLt
    have HINC : Hid (Inc vs) := hInc
    have HB4' : Hid (Below w3.heap.size w3 w4) := hb4
    have H4 : Hid (TSD w4 B t true d kv wv ts left') := H3.out.below hb4
    have hx4 : w4.cell? ⟨u.heap.size, 5, none⟩ = some (.slice pa pn pc) := (hb4.cell (p := ⟨u.heap.size, 5, none⟩) (by show u.heap.size < _; have := HUS.out; have := HF3.out.size; omega)).trans hx3
    have hcp : w4.cell? ⟨t, 3 + i, none⟩ = some (gp (d i).g) := H4.out.s.cm i HI3.out
    have HCB : Hid (∀ b, b ∈ cbs vs → w3.heap.size ≤ b ∧ b < w4.heap.size) := fun b hb => by
      obtain ⟨j, x, hx, hbx⟩ := mem_cbs.1 hb
      exact (HLT4.out j x hx).blk_lt (by simpa [vblk] using hbx)
    have HG3 : Hid (∀ g, (d i).g = some g → g < w3.heap.size) := fun g e => (H3.out.s.lt g (mb_g HI3.out e)).2
    have KW : Hid (Calls Tryd.prog 35 #[gp (d i).g, .slice la pn lc] w4 (WriP true (d i) ((d i).zs ++ yss.flatten) w4)) := by
      refine mwrite_any (d i) B yss _ w4 (H4.out.s.sl i HI3.out) (HTb3.out.below HB4'.out (by have := HB4.out; have := HBel3.out.size; have := HBu.out; omega)).t HB4.out (fun g e => ?_) ?_
      · have hpv := lent_pv HOL4.out HV.out HYL.out HLT4.out
        have hg := HG3.out g e
        refine hpv.partsG g (fun b hb q => ?_) (fun j x hx b hb q => ?_)
        · have := (owns_blks HOL4.out b hb).1; omega
        · have := (HCB.out b (mem_cbs.2 ⟨j, x, hx, hb⟩)).1; omega
      · have h1 := HH.out.s.zl i HI3.out
        have h2 := HZL.out
        omega
    clear hp2 hvl hol hLt hInc hb4 KL hx3
    go_wp2_with (first | (go_at_call 35; refine KW.out.mono ?_))
    intro e3 w5 hp3
    obtain ⟨rfl, hf5, hob5⟩ := hp3
    have HF5 : Hid (Fr w4 w5 (d i).g.toList) := hf5
    have HOB5 : Hid (∀ g, (d i).g = some g → Obj true w5 g (d i).h (d i).key ((d i).zs ++ yss.flatten)) := hob5
    have HGL : Hid (∀ b, b ∈ (d i).g.toList → b < u.heap.size ∧ B ≤ b ∧ b ≠ t) := fun b hb => by
      have e : (d i).g = some b := by simpa using hb
      have := HH.out.s.lt b (mb_g HI3.out e)
      exact ⟨this.2, this.1, fun q => HH.out.s.ap.gt i HI3.out (by rw [e, q])⟩
    have HSZ3 : Hid (u.heap.size < w3.heap.size) := by show _ < _; have := HUS.out; have := HF3.out.size; omega
    have HSZ4 : Hid (w3.heap.size ≤ w4.heap.size) := HB4'.out.size
    have hx5 : w5.cell? ⟨u.heap.size, 5, none⟩ = some (.slice pa pn pc) := (World.cell?_of_block (a := ⟨u.heap.size, 5, none⟩) (HF5.out.block u.heap.size (by have := HSZ3.out; have := HSZ4.out; omega) (fun q => by have := (HGL.out _ q).1; omega))).trans hx4
    have HOL5 : Hid (w5.ownsRow w3.heap.size 22 1 (.slice la pn lc) pn vs) := owns_same HOL4.out (fun b hb => HF5.out.block b (owns_blks HOL4.out b hb).2 (fun q => by have := (HGL.out _ q).1; have := (owns_blks HOL4.out b hb).1; have := HSZ3.out; omega))
    have HLT5 : Hid (Lent w3.heap.size w5 vs yss) := fun j x hx => (HLT4.out j x hx).blk2 (fun g e => HF5.out.block g ((HLT4.out j x hx).blk_lt e).2 (fun q => by have := (HGL.out _ q).1; have := ((HLT4.out j x hx).blk_lt e).1; have := HSZ3.out; omega))
    have HFu5 : Hid (Fr u w5 ([t] ++ (d i).g.toList)) := by
      have h1 : Fr u w3 ([t] ++ (d i).g.toList) := HFu3.out.mono (fun b hb => List.mem_append_left _ hb)
      have h2 : Fr u w4 ([t] ++ (d i).g.toList) := h1.late (below_fr HB4'.out []) (fun b hb => by cases hb)
      exact h2.trans (HF5.out.mono (fun b hb => List.mem_append_right _ hb))
    have HMB : Hid (∀ b, b ∈ [t] ++ (d i).g.toList → B ≤ b) := fun b hb => by
      rcases List.mem_append.1 hb with q | q
      · have e : b = t := by simpa using q
        rw [e]; exact HH.out.s.tB
      · exact (HGL.out b q).2.1
    have HBel5 : Hid (Below B u w5) := HFu5.out.toBelow HMB.out HBu.out
    have HC5 : Hid (TC w5 t (upC C0 20 (.int .i64 (left' : Nat)))) := (HC3.out.same (HB4'.out.block t (by have := HSZ3.out; omega))).same (HF5.out.block t (by have := HSZ3.out; have := HSZ4.out; omega) (fun q => (HGL.out t q).2.2 rfl))
    have HO5 : Hid (w5.ownsRow (u.alloc (.cells #[.int .i64 ok, .int .i64 oa, .int .i64 of, .int .i64 oh, okx, .slice pa pn pc] 92)).heap.size 5 1 (.slice va zl vc) zl (cellsU8 yss.flatten)) := by
      refine owns_same (owns_kept HO3.out HB4'.out) (fun b hb => HF5.out.block b (by have := (owns_blks HO3.out b hb).2; have := HSZ4.out; omega) (fun q => by have := (HGL.out _ q).1; have := (owns_blks HO3.out b hb).1; have := HS1.out; omega))
    have KH : Hid (Calls Tryd.prog 25 #[.slice la pn lc, .slice pa pn pc] w5 fun e w' => e = .returned (.bool true) ∧ ∃ m, w' = w5.drewN m) := wholes_ok _ _ vs xs yss w3.heap.size w5 (lent_pv HOL5.out HV.out HYL.out HLT5.out) (HP.out _ HBel5.out) HLT5.out (by rw [HXN.out]; exact hpn)
    clear hf5 hob5 hx4 hcp KW
    obtain ⟨ev, HEV⟩ : ∃ e, Hid (e = erN (d i)) := ⟨_, rfl⟩
    rw [← HEV.out]
    go_wp2_with (first
      | (go_at_call 11; refine (num_u _ _).mono ?_; rintro e9 w9 ⟨rfl, hw9⟩; obtain rfl := hw9.symm)
      | (go_at_call 25; refine KH.out.mono ?_))
    rintro e6 w6 ⟨rfl, m6, hw6⟩
    have HD6 : Hid (Below w5.heap.size w5 w6) := by rw [hw6]; exact (drew_fr w5 m6 []).none
    have HS6 : Hid (w5.heap.size ≤ w6.heap.size) := HD6.out.size
    clear hw6 KH hx5
    go_wp2
    go_loopw [12] (fun kk wr => ∃ k : Nat, k ≤ pn ∧ kk = .int .i64 (k : Nat) ∧ Hid (Fr w6 wr (cbs vs) ∧ ∀ (j : Nat) (x : Value), k ≤ j → vs[j]? = some x → Marked w3.heap.size wr x (yss.getD j []))) (fun kk _ => pn - (intOf kk).toNat)
    case atStart => exact ⟨0, by omega, rfl, Fr.refl _ _, fun j x _ hx => (HLT5.out j x hx).blk2 (fun g e => HD6.out.block g ((HLT5.out j x hx).blk_lt e).2)⟩
    case round =>
      obtain ⟨k, hk, rfl, HR⟩ := hrel
      have HOLr : Hid (wr.ownsRow w3.heap.size 22 1 (.slice la pn lc) pn vs) := by
        refine owns_same (owns_kept HOL5.out HD6.out) (fun b hb => HR.out.1.block b (by have := (owns_blks HOL5.out b hb).2; have := HS6.out; omega) (fun q => ?_))
        obtain ⟨j, x, hx, hbx⟩ := mem_cbs.1 q
        exact row_ne HOL5.out (HLT5.out j x hx) (g := b) (by simpa [vblk] using hb) (by simpa [vblk] using hbx)
      by_cases hkn : k < pn
      · have hki : ((k : Nat) : Int) < ((pn : Nat) : Int) := by omega
        obtain ⟨x, hx⟩ : ∃ x, vs[k]? = some x := ⟨_, List.getElem?_eq_getElem (by rw [HV.out]; exact hkn)⟩
        have hM := HR.out.2 k x (Nat.le_refl _) hx
        obtain ⟨gx, cx, hxe, hgx1, hgx2, hgo⟩ := marked_owns hM
        obtain ⟨lx, HLX⟩ : ∃ n, Hid (n = (yss.getD k []).length) := ⟨_, rfl⟩
        rw [← HLX.out] at hxe hgo
        subst hxe
        have hlx : lx ≤ 65536 := by
          have h1 : (yss.getD k []).length ≤ yss.flatten.length := by
            have h2 := sum_le yss (k + 1)
            rw [flat_step yss k (by rw [HYL.out]; exact hkn), List.length_append] at h2
            omega
          have := HLX.out
          have := HZL.out
          omega
        obtain ⟨lb, hlb, hcell⟩ : ∃ b, la = some ⟨b, 0, none⟩ ∧ wr.cell? ⟨b, k, none⟩ = some (.slice (some ⟨gx, 0, none⟩) lx cx) := by
          rcases HOLr.out.2 with ⟨e, h⟩ | ⟨b, c, cur, e, _⟩
          · omega
          · injection e with e1 e2 e3
            subst e1
            have := HOLr.out.cells (g := b) rfl k _ hx
            rw [Addr.add_lit, Nat.zero_add] at this
            exact ⟨b, rfl, this⟩
        subst hlb
        have KSp : Hid (Calls Tryd.prog 21 #[.slice (some ⟨gx, 0, none⟩) lx cx] wr fun e w' => e = .returned (.tuple #[]) ∧ wr.grownBy w' (some gx)) := spoil_any w3.heap.size lx _ (yss.getD k []) wr (by omega) (by have := HR.out.1.size; have := HS6.out; have := HF5.out.size; have := HSZ4.out; omega) hgo
        have HX : Hid (vs[k]? = some (.slice (some ⟨gx, 0, none⟩) lx cx)) := hx
        clear hM hgo hx
        go_wp2_with (first | (go_at_call 21; refine KSp.out.mono ?_))
        rintro e7 w7 ⟨rfl, hg7⟩
        have HN7 : Hid (Fr w6 w7 (cbs vs) ∧ ∀ (j : Nat) (y : Value), k + 1 ≤ j → vs[j]? = some y → Marked w3.heap.size w7 y (yss.getD j [])) := by
          have hin : gx ∈ cbs vs := mem_cbs.2 ⟨k, _, HX.out, by simp [vblk, Value.ownBlock]⟩
          refine ⟨HR.out.1.trans ((grown_fr hg7).mono (fun b hb => by rw [show b = gx by simpa using hb]; exact hin)), fun j y hj hy => (HR.out.2 j y (by omega) hy).blk2 (fun g e => hg7.block g ((HR.out.2 j y (by omega) hy).blk_lt e).2 (fun q => ?_))⟩
          injection q with q
          have := HINC.out k j _ y gx g (by omega) HX.out hy rfl e
          omega
        clear hg7 KSp
        go_wp2
        refine ⟨⟨k + 1, by omega, rfl, HN7.out⟩, by simp only [intOf]; omega⟩
      · obtain rfl : k = pn := by omega
        have HNB : Hid (∀ b, b < w3.heap.size → b ∉ cbs vs) := fun b hb q => by have := (HCB.out b q).1; omega
        have HBr : Hid (∀ b, b < w3.heap.size → wr.heap[b]? = w5.heap[b]?) := fun b hb => (HR.out.1.block b (by have := HS6.out; have := HF5.out.size; have := HSZ4.out; omega) (HNB.out b hb)).trans (HD6.out.block b (by have := HF5.out.size; have := HSZ4.out; omega))
        have HSr : Hid (w5.heap.size ≤ wr.heap.size) := by show _ ≤ _; have := HR.out.1.size; have := HS6.out; omega
        have HCr : Hid (TC wr t (upC C0 20 (.int .i64 (left' : Nat)))) := HC5.out.same (HBr.out t (by have := HSZ3.out; omega))
        have HFur : Hid (Fr u wr ([t] ++ (d i).g.toList)) := by
          have h1 : Fr u w6 ([t] ++ (d i).g.toList) := HFu5.out.late (below_fr HD6.out []) (fun b hb => by cases hb)
          exact h1.late HR.out.1 (fun b hb => .inr (by have := (HCB.out b hb).1; have := HSZ3.out; omega))
        have htl := HH.out.s.tc HC0.out i HI3.out
        have hch : wr.cell? ⟨t, 6 + i * 4, none⟩ = some (.int .i64 (d i).h) := by
          rw [HCr.out.c _ (by have := HI3.out; omega), upC_other _ _ _ _ (by have := HI3.out; omega), htl.2.2.1]
        have HE0 : Hid (Below B u wr) := HFur.out.toBelow HMB.out HBu.out
        clear hk hkn
        cases hg : (d i).g with
        | none =>
          have hno : d i = Sl.no := (HH.out.s.sl i HI3.out).nil hg
          have hev : ev = 1 := by rw [HEV.out, erN, if_pos hg]
          subst hev
          rw [hno] at hch
          have hch' : wr.cell? ⟨t, 6 + i * 4, none⟩ = some (.int .i64 0) := hch
          have HE : Hid (TSD wr B t true d kv wv ts left') := by
            have hf34 : Fr w3 wr (cbs vs) := by
              have h1 : Fr w3 w5 (cbs vs) := by
                have hz := HF5.out
                rw [hg] at hz
                exact (below_fr HB4'.out _).trans (below_fr hz.none _)
              exact (h1.trans (below_fr HD6.out _)).trans HR.out.1
            exact H3.out.new H3.out hf34 (fun b hb => (HCB.out b hb).1)
          clear hch
          go_wp2
          go_ret
          exact ⟨rfl, ⟨d, kv, wv, ts, left', by omega, HE.out⟩, HE0.out⟩
        | some g =>
          obtain ⟨kk, hkd, hgB, _⟩ := (HH.out.s.sl i HI3.out).obj g hg
          have HK : Hid (Known (d i).h ∧ (d i).kd = true ∧ B ≤ g) := ⟨kk, hkd, hgB⟩
          obtain ⟨hv, HHV⟩ : ∃ x, Hid (x = (d i).h) := ⟨_, rfl⟩
          have hne : ¬ hv = 0 := by rw [HHV.out]; rcases kk with e | e | e | e <;> omega
          rw [← HHV.out] at hch
          have hev : ev = 0 := by rw [HEV.out, erN, if_neg (by rw [hg]; exact fun q => by cases q)]
          subst hev
          have HG : Hid ((d i).g = some g) := hg
          have HGT : Hid (g ≠ t ∧ g < u.heap.size) := ⟨fun e => HH.out.s.ap.gt i HI3.out (by rw [hg, e]), (HH.out.s.lt g (mb_g HI3.out hg)).2⟩
          have HOBr : Hid (Obj true wr g (d i).h (d i).key ((d i).zs ++ yss.flatten)) := (HOB5.out g hg).same (HBr.out g (by have := HSZ3.out; have := HGT.out.2; omega))
          -- what was fed, and what is fed
          have hbvr : View wr (d i).bv (d i).zs := view_keepP (HH.out.s.sl i HI3.out).bv (fun e b hb => HFur.out.block b (view_blks (HH.out.s.sl i HI3.out).bv e b hb) (fun q => HH.out.s.rb i HI3.out e b hb (by
            rcases List.mem_append.1 q with q | q
            · have e : b = t := by simpa using q
              rw [e]; exact mb_t _ _ _ _
            · exact mb_g HI3.out (by simpa using q))))
          obtain ⟨ba, bc, hbv⟩ : ∃ a c, (d i).bv = .slice a (d i).zs.length c := by
            obtain ⟨a, c, e, _⟩ := hbvr
            exact ⟨a, c, e⟩
          obtain ⟨bl, HBL⟩ : ∃ n, Hid (n = (d i).zs.length) := ⟨_, rfl⟩
          rw [← HBL.out] at hbv
          have HBV : Hid (View wr (.slice ba bl bc) (d i).zs) := by show View _ _ _; rw [← hbv]; exact hbvr
          have hbl : bl ≤ 65536 := by have := HH.out.s.zl i HI3.out; have := HBL.out; omega
          have hcb : wr.cell? ⟨t, 6 + i * 4 + 3, none⟩ = some (.slice ba bl bc) := by
            rw [HCr.out.c _ (by have := HI3.out; omega), upC_other _ _ _ _ (by have := HI3.out; omega), htl.2.2.2.2.2, hbv]
          have HOr : Hid (View wr (.slice va zl vc) yss.flatten ∧ ∀ b, b ∈ vblk (.slice va zl vc) → u.heap.size < b ∧ b < w3.heap.size) := by
            have h1 : ∀ b, b ∈ vblk (.slice va zl vc) → u.heap.size < b ∧ b < w3.heap.size := fun b hb => ⟨by have := (owns_blks HO3.out b hb).1; have := HS1.out; omega, (owns_blks HO3.out b hb).2⟩
            exact ⟨view_keepP (viewOwns HO5.out HZL.out.symm) (fun _ b hb => HBr.out b (h1 b hb).2), h1⟩
          have HON : Hid (wr.ownsRow wr.heap.size 5 1 (.slice none 0 0) 0 (cellsU8 [])) := World.ownsRow_nil _ _ _ _
          clear hg hbvr hbv kk hkd hgB
          go_wp2_with (first
            | (at_builtin; go_must (refine wpList_append_viewS rfl (.tmp 82) (.tmp 89) rfl wr.heap.size 0 bl _ [] rfl HON.out ba bl bc rfl (d i).zs HBV.out HBL.out.symm (by omega) (by omega) (Nat.le_refl _) ?_)))
          intro v8 w8 ho8 hg8 hat8
          have HF8 : Hid (Below wr.heap.size wr w8) := ⟨hg8.os, hg8.tape, hg8.output, hg8.size, fun b hb => hg8.block b hb (fun q => by cases q)⟩
          have HO8 : Hid (w8.ownsRow wr.heap.size 5 1 v8 bl (cellsU8 (d i).zs)) := ho8
          clear ho8 hg8 hat8
          go_upto_region 20 with fail
          have HV8 : Hid (View w8.drew (.slice va zl vc) yss.flatten) := by
            have h1 := HOr.out.1.kept HF8.out.block
            exact h1.kept (fun b hb => rfl)
          have ho8d : w8.drew.ownsRow wr.heap.size 5 1 v8 bl (cellsU8 (d i).zs) := owns_same HO8.out (fun b hb => rfl)
          obtain ⟨v9, w9, hr9, ho9, hg9⟩ := append_bytesS w8.drew wr.heap.size v8 bl (d i).zs ho8d va zl vc yss.flatten HV8.out HZL.out.symm (by omega) (by exact HF8.out.size) 22
          obtain ⟨nl, HNL⟩ : ∃ n, Hid (n = bl + zl) := ⟨_, rfl⟩
          rw [← HNL.out] at ho9
          obtain ⟨x9, c9, hv9⟩ : ∃ a c, v9 = .slice a nl c := owns_slice0 ho9
          subst hv9
          have HBr9 : Hid (∀ b, b < wr.heap.size → w9.heap[b]? = wr.heap[b]?) := fun b hb => (hg9.block b (by have := HF8.out.size; exact Nat.lt_of_lt_of_le hb this) (fun q => by have := (ho8d.lt b q.symm).1; omega)).trans (HF8.out.block b hb)
          have HS9 : Hid (wr.heap.size ≤ w9.heap.size) := Nat.le_trans HF8.out.size hg9.size
          have HQ9 : Hid (w9.os = wr.os ∧ w9.tape = wr.tape ∧ w9.output = wr.output) := ⟨hg9.os.trans HF8.out.os, hg9.tape.trans HF8.out.tape, hg9.output.trans HF8.out.output⟩
          have HO9 : Hid (w9.ownsRow wr.heap.size 5 1 (.slice x9 nl c9) nl (cellsU8 ((d i).zs ++ yss.flatten))) := ho9
          have htr : t < wr.heap.size := by have := HSr.out; have := HF5.out.size; have := HSZ4.out; have := HSZ3.out; omega
          have HC9 : Hid (TC w9 t (upC C0 20 (.int .i64 (left' : Nat)))) := HCr.out.same (HBr9.out t htr)
          have q1 : w9.cell? ⟨t, 6 + i * 4 + 3, none⟩ = some (upC C0 20 (.int .i64 (left' : Nat)) (6 + i * 4 + 3)) := HC9.out.c _ (by have := HI3.out; omega)
          have q2 : w9.frozen? ⟨t, 6 + i * 4 + 3, none⟩ = false := HC9.out.froz _ (by have := HI3.out; omega)
          clear ho9 hg9 ho8d HV8 hcb hch
          refine wp_region_noPanic ?_
          refine wp_region_held_drew (S := fun _ => True) (by kernel_rfl) (trivial) (fun _ => ?_)
          refine takeH_at 0 91 (.pointer (some ⟨t, 0, none⟩)) rfl rfl (by kernel_rfl) (by kernel_rfl) (by kernel_rfl) (fun _ _ _ h => h) (trivial) (Or.inl ⟨by rfl, fun w' hS' => by go_simp⟩) ?_
          simp only [List.setIfInBounds_toArray, List.set_cons_zero, List.set_cons_succ]
          refine takeH_at 1 92 (.int .i64 (i : Nat)) rfl rfl (by kernel_rfl) (by kernel_rfl) (by kernel_rfl) (fun _ _ _ h => h) (trivial) (Or.inl ⟨by rfl, fun w' hS' => by go_simp⟩) ?_
          simp only [List.setIfInBounds_toArray, List.set_cons_zero, List.set_cons_succ]
          refine takeH_at 2 93 (v8) rfl rfl (by kernel_rfl) (by kernel_rfl) (by kernel_rfl) (fun _ _ _ h => h) (trivial) (Or.inl ⟨by rfl, fun w' hS' => by go_simp⟩) ?_
          simp only [List.setIfInBounds_toArray, List.set_cons_zero, List.set_cons_succ]
          refine takeH_at 3 94 (.slice va zl vc) rfl rfl (by kernel_rfl) (by kernel_rfl) (by kernel_rfl) (fun _ _ _ h => h) (trivial) (Or.inl ⟨by rfl, fun w' hS' => by go_simp⟩) ?_
          simp only [List.setIfInBounds_toArray, List.set_cons_zero, List.set_cons_succ]
          refine takeH_at 5 96 (.pointer (some ⟨t, 0, none⟩)) rfl rfl (by kernel_rfl) (by kernel_rfl) (by kernel_rfl) (fun _ _ _ h => h) (trivial) (Or.inl ⟨by rfl, fun w' hS' => by go_simp⟩) ?_
          simp only [List.setIfInBounds_toArray, List.set_cons_zero, List.set_cons_succ]
          refine takeH_at 6 97 (.pointer (some ⟨t, 6, none⟩)) rfl rfl (by kernel_rfl) (by kernel_rfl) (by kernel_rfl) (fun _ _ _ h => h) (trivial) (Or.inl ⟨by rfl, fun w' hS' => by go_simp⟩) ?_
          simp only [List.setIfInBounds_toArray, List.set_cons_zero, List.set_cons_succ]
          refine wpAnyH_ready (rs := [4]) (by kernel_rfl) (by simp) ?_
          refine AllReadyH.cons rfl (fun Kx hK => ?_) AllReadyH.nil
          rw [if_pos (by kernel_rfl)]
          refine wp_append_bytesS (.tmp 93) (.tmp 94) rfl rfl rfl hr9 ?_
          refine hK.out _ _ trivial (fun _ => ?_)
          clear hK Kx
          try simp only [Act.put, List.setIfInBounds_toArray, List.set_cons_zero, List.set_cons_succ]
          refine takeH_at 7 98 (.pointer (some ⟨t, 6 + i * 4, none⟩)) rfl rfl (by kernel_rfl) (by kernel_rfl) (by kernel_rfl) (fun _ _ _ h => h) (trivial) (Or.inl ⟨by rfl, fun w' hS' => by go_simp⟩) ?_
          simp only [List.setIfInBounds_toArray, List.set_cons_zero, List.set_cons_succ]
          refine takeH_at 8 99 (.pointer (some ⟨t, 6 + i * 4 + 3, none⟩)) rfl rfl (by kernel_rfl) (by kernel_rfl) (by kernel_rfl) (fun _ _ _ h => h) (trivial) (Or.inl ⟨by rfl, fun w' hS' => by go_simp⟩) ?_
          simp only [List.setIfInBounds_toArray, List.set_cons_zero, List.set_cons_succ]
          refine wpAnyH_ready (rs := [9]) (by kernel_rfl) (by simp) ?_
          refine AllReadyH.cons rfl (fun Kx hK => ?_) AllReadyH.nil
          rw [if_pos (by kernel_rfl)]
          go_simp
          refine hK.out _ _ trivial (fun _ => ?_)
          clear hK Kx
          refine wpAnyH_done (by kernel_rfl) ?_ _
          refine NoPanic.normal ?_
          clear q1 q2 hr9
          have HE : Hid (TSD (w9.setCell ⟨t, 6 + i * 4 + 3, none⟩ (.slice x9 nl c9)) B t true (upd3 d i ⟨some g, (d i).h, true, (d i).key, (d i).zs ++ yss.flatten, (d i).kv, .slice x9 nl c9⟩) kv wv ts left' ∧ Below B u (w9.setCell ⟨t, 6 + i * 4 + 3, none⟩ (.slice x9 nl c9))) := by
            have h3 := HI3.out
            have hf9 : Fr u w9 ([t] ++ (d i).g.toList) := HFur.out.late ⟨HQ9.out.1, HQ9.out.2.1, HQ9.out.2.2, HS9.out, fun b hb _ => HBr9.out b hb⟩ (l' := []) (fun b hb => by cases hb)
            have hf : Fr u (w9.setCell ⟨t, 6 + i * 4 + 3, none⟩ (.slice x9 nl c9)) ([t] ++ (d i).g.toList) := hf9.trans ((set_fr w9 t _ _).mono (fun b hb => List.mem_append_left _ hb))
            have htc := HC9.out.set (6 + i * 4 + 3) (.slice x9 nl c9) (by omega)
            have hgl : g < wr.heap.size := HOBr.out.lt
            have hob : Obj true (w9.setCell ⟨t, 6 + i * 4 + 3, none⟩ (.slice x9 nl c9)) g (d i).h (d i).key ((d i).zs ++ yss.flatten) := (HOBr.out.same (HBr9.out g hgl)).same ((set_fr w9 t _ _).block g (by have := HS9.out; omega) (by simpa using HGT.out.1))
            have hnew : ∀ b, b ∈ vblk (.slice x9 nl c9) → u.heap.size < b := fun b hb => by have := (owns_blks HO9.out b hb).1; have := HSr.out; have := HF5.out.size; have := HSZ4.out; have := HSZ3.out; omega
            have hbv9 : View (w9.setCell ⟨t, 6 + i * 4 + 3, none⟩ (.slice x9 nl c9)) (.slice x9 nl c9) ((d i).zs ++ yss.flatten) := view_keepP (viewOwns HO9.out (by rw [List.length_append, ← HBL.out, ← HZL.out, HNL.out])) (fun _ b hb => (set_fr w9 t _ _).block b (owns_blks HO9.out b hb).2 (by have := hnew b hb; simp; omega))
            have hkv : View (w9.setCell ⟨t, 6 + i * 4 + 3, none⟩ (.slice x9 nl c9)) (d i).kv (d i).key := view_keepP (HH.out.s.sl i h3).kv (fun e b hb => hf.block b (view_blks (HH.out.s.sl i h3).kv e b hb) (fun q => HH.out.s.rk i h3 e b hb (by
              rcases List.mem_append.1 q with q | q
              · rw [List.mem_singleton.1 q]; exact mb_t _ _ _ _
              · exact mb_g h3 (by simpa using q))))
            have hold : ∀ b, b ∈ Mb t d kv wv → b < u.heap.size := fun b hb => (HH.out.s.lt b hb).2
            refine ⟨HH.out.slot h3 hf (fun b hb => by
              rcases List.mem_append.1 hb with hb | hb
              · exact .inl (List.mem_singleton.1 hb)
              · exact .inr (.inl (by simpa using hb))) HC0.out htc (fun j h0 h1 h2 h4 h5 => by rw [upC_other _ _ _ _ (by omega), upC_other _ _ _ _ h5]) ?_ ?_ ?_ ?_ ?_ (upC_same _ _ _ _ rfl) ?_ ⟨fun e => (by cases e), fun g' e => ?_, hkv, hbv9, (HH.out.s.sl i h3).kl⟩ (fun g' e => ?_) (fun e b hb => ⟨fun q => ?_, fun q => ?_⟩) (fun e b hb => ⟨HH.out.s.rk i h3 e b hb, fun q => ?_⟩) (by have := HLE.out; omega) ?_, ?_⟩
            · rw [upC_other _ _ _ _ (by omega), upC_other _ _ _ _ (by omega), htl.1, HG.out]
              try rfl
            · rw [upC_other _ _ _ _ (by omega), upC_other _ _ _ _ (by omega), htl.2.1, HG.out]
              try rfl
            · rw [upC_other _ _ _ _ (by omega), upC_other _ _ _ _ (by omega), htl.2.2.1]
            · rw [upC_other _ _ _ _ (by omega), upC_other _ _ _ _ (by omega), htl.2.2.2.1, HK.out.2.1]
            · rw [upC_other _ _ _ _ (by omega), upC_other _ _ _ _ (by omega), htl.2.2.2.2.1]
            · rw [upC_other _ _ _ _ (by omega), upC_same _ _ _ _ rfl]
            · injection e with e
              subst e
              exact ⟨HK.out.1, rfl, HK.out.2.2, hob⟩
            · injection e with e
              subst e
              exact .inl HG.out
            · have := hold b q; have := hnew b hb; omega
            · injection q with q
              subst q
              have := hnew g hb; have := HGT.out.2; omega
            · injection q with q
              subst q
              exact HH.out.s.rk i h3 e g hb (mb_g h3 HG.out)
            · have h1 := HH.out.s.zl i h3
              have h2 := HZL.out
              have h4 := HLE.out
              show (((d i).zs ++ yss.flatten).length + left' ≤ 65536)
              rw [List.length_append]
              omega
            · exact hf.toBelow HMB.out HBu.out
          generalize w9.setCell ⟨t, 6 + i * 4 + 3, none⟩ (.slice x9 nl c9) = w10 at HE ⊢
          go_wp2
          go_ret
          exact ⟨rfl, ⟨_, kv, wv, ts, left', by omega, HE.out.1⟩, HE.out.2⟩
end Go.Proofs.YtioggmjocelolacDoor
