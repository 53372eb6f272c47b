import Derived.Test.YtbpkocohddlbhaaDoorPart02
import Derived.Maps.AppendAt
import Derived.Deep.OwnRows
import Derived.Deep.DeepMust
import Derived.Laws.AppendOwnNone
import Derived.WalkKit
import Derived.Deep.MidRow
import Derived.Laws.ResultCell
import Derived.Below
import Derived.Test.YtbpkocohddlbhaaDoorProg
import Derived.Deep.Draws
import Derived.Deep.Upon
import Derived.Deep.RegionHeld3
import Derived.Deep.QuietTactic
import Derived.BigQuiet
import Derived.BigRegion
namespace Go.Proofs.YtbpkocohddlbhaaDoor
open Go.RowKit
set_option linter.unusedVariables false
set_option linter.unusedSimpArgs false
set_option maxRecDepth 100000
theorem twob_ok (sn : Nat) (b0 b1 : F) (hs : Hid (b0.1 * 256 + b1.1 = sn)) (w : World) : Calls Tryd.prog 49 #[.int .u16 (sn : Nat)] w fun e w' => Hid (e = .returned (.slice (some ⟨w.heap.size, 0, none⟩) 2 2) ∧ Bx w' w.heap.size 5 (fc [b0, b1]) ∧ Below w.heap.size w w') := by
  have h0 := b0.2
  have h1 := b1.2
  have h2 := hs.out
  have HE : Hid ((sn : Int) / 256 = ((b0.1 : Nat) : Int) ∧ (sn : Int) % 256 = ((b1.1 : Nat) : Int) ∧ ((b0.1 : Nat) : Int) % 256 = ((b0.1 : Nat) : Int)) := ⟨by omega, by omega, by omega⟩
  clear h0 h1 h2
  go_enter Tryd.func49, Tryd.ntmps49
  go_wp2
  go_ret
  rw [HE.out.1, HE.out.2.1]
  try rw [HE.out.2.2]
  exact ⟨rfl, Bx.new w 5 _, (Below.refl _ _).alloc (Nat.le_refl _) _⟩
theorem fc_apps (a b : List F) : fc (a ++ b) = fc a ++ fc b := by simp [fc]
theorem fc_repl (a b : Nat) : fc (List.replicate (a + b) 0) = fc (List.replicate a 0) ++ fc (List.replicate b 0) := by rw [← fc_apps, List.replicate_append_replicate]
theorem step_copy_bx {o : Oper} {a : Act} {K : Act → World → Prop} {Q : Exit → Act → World → Prop} {w : World} (d s : Operand)
    (ho : o.op = .call { callee := .builtin .copy, args := #[d, s], argTypes := #[23, 23] }) (g off dl dc : Nat) (hd : a.eval d = .slice (some ⟨g, off, none⟩) dl dc)
    (sb so n sc : Nat) (l : List F) (hs : a.eval s = .slice (some ⟨sb, so, none⟩) n sc) (hl : l.length = n) (hr : Rw w sb so l) (hnd : n ≤ dl)
    (A B D : List Value) (hA : A.length = off) (hB : B.length = n) (hb : Bx w g 5 (A ++ B ++ D))
    (h : ∀ u, Bx u g 5 (A ++ fc l ++ D) → w.grownBy u (some g) → K (a.put o.dst (.int .i64 (n : Nat))) u) : Oper.wp Tryd.prog o a w K Q := by
  have e := run_copy_cells (P := Tryd.prog) w 23 23 o.type 5 g off dl dc ⟨sb, so, none⟩ n sc (fc l) Tryd.underlying23 infoB1 (by rw [fc_len, hl]; exact (Nat.min_eq_left hnd).symm) (fun j u hu => by
    have hj : j < l.length := by have := (List.getElem?_eq_some_iff.1 hu).1; rw [fc_len] at this; exact this
    rw [fc_at l j hj] at hu
    injection hu with hu
    rw [← hu, show (⟨sb, so, none⟩ : Addr).add j = ⟨sb, so + j, none⟩ by unfold Addr.add; split <;> simp_all]
    exact hr j hj) (fun j hj => by
      rw [fc_len] at hj
      have q : (A ++ B ++ D)[off + j]? = some ((A ++ B ++ D)[off + j]'(by simp; omega)) := List.getElem?_eq_getElem _
      rw [hb.cell _ _ q]; rfl) (fun j hj => hb.frozen _) (fc_one l)
  rw [fc_len, hl] at e
  have q1 : Bx (w.setCells g off (fc l)) g 5 (A ++ fc l ++ D) := by rw [← hA]; exact hb.over (fc l) (by rw [fc_len, hl, hB])
  unfold Oper.wp execOp
  simp only [ho, resolve, invoke, builtin, Sem.run_bind, Sem.run_pure, Result.andThen_ok, List.map_toArray, List.map_cons, List.map_nil, hs, hd, e]
  exact h _ q1 (setCells_gb g _ off w)
/-- newRow's memory. -/
structure NrI (M g vb : Nat) (TD : List Value) (vs : List F) (w : World) (cs : List Value) (u : World) : Prop where
  bx : Bx u g 5 cs
  td : Bx u M 48 TD
  vv : Bx u vb 5 (fc vs)
  bel : Below M w u
  lt : vb < M ∧ M < g
theorem NrI.below {M g vb : Nat} {TD : List Value} {vs : List F} {w : World} {cs : List Value} {u v : World} (h : NrI M g vb TD vs w cs u) (hv : Below u.heap.size u v) : NrI M g vb TD vs w cs v :=
  ⟨h.bx.below hv, h.td.below hv, h.vv.below hv, h.bel.trans (hv.mono (Nat.le_of_lt h.td.lt)), h.lt⟩
theorem NrI.write {M g vb : Nat} {TD : List Value} {vs : List F} {w : World} {cs cs' : List Value} {u v : World} (h : NrI M g vb TD vs w cs u) (hb : Bx v g 5 cs') (hg : u.grownBy v (some g)) : NrI M g vb TD vs w cs' v :=
  ⟨hb, h.td.keep (hg.block M h.td.lt (fun e => by injection e with e; have := h.lt; omega)), h.vv.keep (hg.block vb h.vv.lt (fun e => by injection e with e; have := h.lt; omega)), h.bel.trans (below_gb hg (Nat.le_of_lt h.td.lt) (by have := h.lt; omega)), h.lt⟩
set_option maxHeartbeats 3200000 in
/-- newRow. -/
theorem newRow_ok (sn nd ix s U N vb vc : Nat) (b0 b1 bn bi bs : F) (vs : List F) (w : World) (hs : Hid (b0.1 * 256 + b1.1 = sn)) (hbn : Hid (bn.1 = nd)) (hbi : Hid (bi.1 = ix)) (hbs : Hid (bs.1 = s)) (hU : Hid (U = unc s ∧ N = U + 4 ∧ vs.length = s + 4)) (hv : Hid (Bx w vb 5 (fc vs))) :
    Calls Tryd.prog 36 #[.agg #[.int .u16 (sn : Nat), .int .i64 (nd : Nat), .int .i64 (ix : Nat), .int .i64 (s : Nat)], .slice (some ⟨vb, 0, none⟩) (s + 4) vc] w fun e w' => Hid (∃ g, e = .returned (.slice (some ⟨g, 0, none⟩) N N) ∧ w.heap.size ≤ g ∧ (∃ hd, hd = [b0, b1, bn, bi, bs] ++ vs ++ List.replicate ((9 + s) % 2) 0 ∧ Bx w' g 5 (fc (hd ++ codeL hd))) ∧ Below w.heap.size w w') := by
  have HSS : Hid (s < 256 ∧ U = 9 + s + (9 + s) % 2 ∧ N = U + 4 ∧ nd < 256 ∧ ix < 256 ∧ unc s = U) := by
    have := bs.2; have := bn.2; have := bi.2; have := hbs.out; have := hbn.out; have := hbi.out
    have h2 := hU.out
    have h3 := h2.1
    unfold unc at h3
    exact ⟨by omega, h3, h2.2.1, by omega, by omega, h2.1.symm⟩
  obtain ⟨i0, hi0, hz0, hz1, hz2⟩ := info_parts Tryd.infoB
  have HI0 : Hid (Tryd.prog.info? 5 = some i0 ∧ i0.zero = some (.int .u8 0) ∧ i0.size = 1 ∧ i0.bytes = 1) := ⟨hi0, hz0, hz1, hz2⟩
  have HMF : Hid (i0.bytes * N ≤ 281474976710656 ∧ N ≤ maxLen) := made_few i0.bytes N N 1 (by decide) HI0.out.2.2.2 (by have := HSS.out; omega)
  have H56 : Hid (∀ u, Calls Tryd.prog 56 #[.int .i64 (s : Nat)] u fun e w' => e = .returned (.int .i64 (N : Nat)) ∧ w' = u) := fun u => by
    have q := rowSize_ok s (by have := HSS.out; omega) u
    rw [HSS.out.2.2.2.2.2, ← HSS.out.2.2.1] at q
    exact q
  have H49 : Hid (∀ u, Calls Tryd.prog 49 #[.int .u16 (sn : Nat)] u fun e w' => Hid (e = .returned (.slice (some ⟨u.heap.size, 0, none⟩) 2 2) ∧ Bx w' u.heap.size 5 (fc [b0, b1]) ∧ Below u.heap.size u w')) := fun u => twob_ok sn b0 b1 hs u
  obtain ⟨M, HMM⟩ : ∃ M, Hid (w.heap.size = M) := ⟨_, rfl⟩
  obtain ⟨TD, HTD⟩ : ∃ q : List Value, Hid ([.int .u16 (sn : Nat), .int .i64 (nd : Nat), .int .i64 (ix : Nat), .int .i64 (s : Nat)] = q) := ⟨_, rfl⟩
  obtain ⟨w1, hw1⟩ : ∃ w1, w1 = w.alloc (.cells #[.int .u16 (sn : Nat), .int .i64 (nd : Nat), .int .i64 (ix : Nat), .int .i64 (s : Nat)] 48) := ⟨_, rfl⟩
  have HW1 : Hid (Bx w1 M 48 TD ∧ Below M w w1 ∧ Bx w1 vb 5 (fc vs) ∧ vb < M) := by
    have hb0 : Below w.heap.size w w1 := by rw [hw1]; exact (Below.refl _ _).alloc (Nat.le_refl _) _
    rw [← HMM.out, ← HTD.out]
    exact ⟨by rw [hw1]; exact Bx.new w 48 _, hb0, hv.out.below hb0, hv.out.lt⟩
  have HTC : Hid (∀ u, Bx u M 48 TD → u.cell? ⟨M, 0, none⟩ = some (.int .u16 (sn : Nat)) ∧ u.cell? ⟨M, 1, none⟩ = some (.int .i64 (nd : Nat)) ∧ u.cell? ⟨M, 2, none⟩ = some (.int .i64 (ix : Nat)) ∧ u.cell? ⟨M, 3, none⟩ = some (.int .i64 (s : Nat))) := fun u h => by
    rw [← HTD.out] at h
    exact ⟨h.cell 0 _ rfl, h.cell 1 _ rfl, h.cell 2 _ rfl, h.cell 3 _ rfl⟩
  obtain ⟨E, HE⟩ : ∃ q, Hid ((9 + s) % 2 = q) := ⟨_, rfl⟩
  have HNE : Hid (N = 2 + (3 + ((s + 4) + (E + 4))) ∧ N ≤ 600 ∧ vs.length = s + 4) := ⟨by have := HSS.out; have := HE.out; omega, by have := HSS.out; have := HE.out; omega, hU.out.2.2⟩
  have c3 := (HTC.out w1 HW1.out.1).2.2.2
  clear hi0 hz0 hz1 hz2
  go_enter Tryd.func36, Tryd.ntmps36
  go_upto_region 1 with fail
  rw [← hw1, HMM.out]
  clear hw1
  go_upto_region 2 with (first
    | (go_at_call 56; refine (H56.out _).mono ?_; rintro e1 w9 ⟨rfl, hw⟩; obtain rfl := hw.symm; clear hw H56)
    | (at_make; go_must (refine wpList_make_full _ rfl _ _ 23 rfl w1.heap.size 5 i0 (.int .u8 0) 1 Tryd.underlying23 HI0.out.1 HI0.out.2.1 HI0.out.2.2.1 .i64 .i64 (N : Nat) (N : Nat) N rfl rfl rfl rfl HMF.out.1 HMF.out.2 (Nat.le_refl _) ?_; intro w2 hown hgrow; have hlo : Below w1.heap.size w1 w2 := ⟨hgrow.os, hgrow.tape, hgrow.output, hgrow.size, fun c hc => hgrow.block c hc (by simp)⟩; have HX2 : Hid (NrI M w1.heap.size vb TD vs w (fc (List.replicate N 0)) w2) := ⟨by rw [fc_repD]; have q := (own_full1 hown).1; rw [show (Value.int .u8 0).cells = #[.int .u8 0] from rfl, Nat.mul_one, toList_madeCells_one] at q; exact q, HW1.out.1.below hlo, HW1.out.2.2.1.below hlo, HW1.out.2.1.trans (hlo.mono (Nat.le_of_lt HW1.out.1.lt)), HW1.out.2.2.2, HW1.out.1.lt⟩; clear hown hgrow hlo))
    | fail)
  obtain ⟨g, HG⟩ : ∃ g, Hid (w1.heap.size = g) := ⟨_, rfl⟩
  rw [HG.out] at HX2 ⊢
  have HGW : Hid (M < g) := HX2.out.lt.2
  clear c3 HW1
  have HC1 : Hid (NrI M g vb TD vs w ([] ++ fc (List.replicate 2 0) ++ fc (List.replicate (3 + ((s + 4) + (E + 4))) 0)) w2) := by
    rw [List.nil_append, ← fc_repl, ← HNE.out.1]; exact HX2.out
  clear HX2
  have c0 := (HTC.out w2 HC1.out.td).1
  go_upto_region 3 with (first
    | (go_at_call 49; refine (H49.out _).mono ?_; intro e4 w4 h4; obtain ⟨rfl, h5, h6⟩ := h4.out; have HC4 : Hid (NrI M g vb TD vs w ([] ++ fc (List.replicate 2 0) ++ fc (List.replicate (3 + ((s + 4) + (E + 4))) 0)) w4 ∧ Bx w4 w2.heap.size 5 (fc [b0, b1])) := ⟨HC1.out.below h6, h5⟩; clear h4 h5 h6 H49)
    | (refine wpList_copy_bx (by rfl) (.tmp 10) (.tmp 13) (by rfl) g 0 N N (by rfl) w2.heap.size 0 2 2 [b0, b1] (by rfl) rfl (bx_rw HC4.out.2) (by have := HNE.out.1; omega) [] (fc (List.replicate 2 0)) (fc (List.replicate (3 + ((s + 4) + (E + 4))) 0)) rfl rfl HC4.out.1.bx ?_; intro u5 h5 g5; have HC5 : Hid (NrI M g vb TD vs w (fc [b0, b1] ++ fc (List.replicate (3 + ((s + 4) + (E + 4))) 0)) u5) := HC4.out.1.write h5 g5; clear h5 g5)
    | fail)
  clear HC1 HC4 c0
  obtain ⟨R3, HR3⟩ : ∃ q : List Value, Hid (fc [b0, b1] ++ fc (List.replicate (3 + ((s + 4) + (E + 4))) 0) = q) := ⟨_, rfl⟩
  rw [HR3.out] at HC5
  have n1 : IntKind.u8.wrap (nd : Int) = (nd : Int) := wraps_u8 _ (by omega) (by have := HSS.out; omega)
  have n2 : IntKind.u8.wrap (ix : Int) = (ix : Int) := wraps_u8 _ (by omega) (by have := HSS.out; omega)
  have n3 : IntKind.u8.wrap (s : Int) = (s : Int) := wraps_u8 _ (by omega) (by have := HSS.out; omega)
  have g2 : (2 : Int) ≤ (N : Int) := by have := HNE.out.1; omega
  have g9 : ¬ N = 2 := by have := HNE.out.1; omega
  have hS0 : NrI M g vb TD vs w R3 u5.drew := ⟨HC5.out.bx, HC5.out.td, HC5.out.vv, HC5.out.bel.drew, HC5.out.lt⟩
  clear HC5
  refine wp_region_noPanic ?_
  refine wp_region_till (NrI M g vb TD vs w R3) 12 (by kernel_rfl) (by decide) (by decide +kernel) (by decide +kernel) (by decide +kernel) (fun inv => ?_)
  refine till_at 0 15 (.slice (some ⟨g, 0, none⟩) N N) inv rfl rfl (by decide) (by decide +kernel) (by decide +kernel) (fun _ _ _ h => h) hS0 (Or.inl ⟨by rfl, fun w' hS' => by obtain ⟨k0, k1, k2, k3⟩ := HTC.out _ hS'.td; go_simp⟩) (fun inv' => ?_)
  clear inv; have inv := inv'; clear inv'
  try simp only [List.setIfInBounds_toArray, List.set_cons_zero, List.set_cons_succ]
  refine till_at 1 16 (.slice (some ⟨g, 2, none⟩) (N - 2) (N - 2)) inv rfl rfl (by decide) (by decide +kernel) (by decide +kernel) (fun _ _ _ h => h) hS0 (Or.inl ⟨by rfl, fun w' hS' => by obtain ⟨k0, k1, k2, k3⟩ := HTC.out _ hS'.td; go_simp⟩) (fun inv' => ?_)
  clear inv; have inv := inv'; clear inv'
  try simp only [List.setIfInBounds_toArray, List.set_cons_zero, List.set_cons_succ]
  refine till_at 2 17 (.pointer (some ⟨M, 1, none⟩)) inv rfl rfl (by decide) (by decide +kernel) (by decide +kernel) (fun _ _ _ h => h) hS0 (Or.inl ⟨by rfl, fun w' hS' => by obtain ⟨k0, k1, k2, k3⟩ := HTC.out _ hS'.td; go_simp⟩) (fun inv' => ?_)
  clear inv; have inv := inv'; clear inv'
  try simp only [List.setIfInBounds_toArray, List.set_cons_zero, List.set_cons_succ]
  refine till_at 3 18 (.int .i64 (nd : Nat)) inv rfl rfl (by decide) (by decide +kernel) (by decide +kernel) (fun _ _ _ h => h) hS0 (Or.inl ⟨by rfl, fun w' hS' => by obtain ⟨k0, k1, k2, k3⟩ := HTC.out _ hS'.td; go_simp⟩) (fun inv' => ?_)
  clear inv; have inv := inv'; clear inv'
  try simp only [List.setIfInBounds_toArray, List.set_cons_zero, List.set_cons_succ]
  refine till_at 4 19 (.int .u8 (nd : Nat)) inv rfl rfl (by decide) (by decide +kernel) (by decide +kernel) (fun _ _ _ h => h) hS0 (Or.inl ⟨by rfl, fun w' hS' => by obtain ⟨k0, k1, k2, k3⟩ := HTC.out _ hS'.td; go_simp⟩) (fun inv' => ?_)
  clear inv; have inv := inv'; clear inv'
  try simp only [List.setIfInBounds_toArray, List.set_cons_zero, List.set_cons_succ]
  refine till_at 5 20 (.pointer (some ⟨M, 2, none⟩)) inv rfl rfl (by decide) (by decide +kernel) (by decide +kernel) (fun _ _ _ h => h) hS0 (Or.inl ⟨by rfl, fun w' hS' => by obtain ⟨k0, k1, k2, k3⟩ := HTC.out _ hS'.td; go_simp⟩) (fun inv' => ?_)
  clear inv; have inv := inv'; clear inv'
  try simp only [List.setIfInBounds_toArray, List.set_cons_zero, List.set_cons_succ]
  refine till_at 6 21 (.int .i64 (ix : Nat)) inv rfl rfl (by decide) (by decide +kernel) (by decide +kernel) (fun _ _ _ h => h) hS0 (Or.inl ⟨by rfl, fun w' hS' => by obtain ⟨k0, k1, k2, k3⟩ := HTC.out _ hS'.td; go_simp⟩) (fun inv' => ?_)
  clear inv; have inv := inv'; clear inv'
  try simp only [List.setIfInBounds_toArray, List.set_cons_zero, List.set_cons_succ]
  refine till_at 7 22 (.int .u8 (ix : Nat)) inv rfl rfl (by decide) (by decide +kernel) (by decide +kernel) (fun _ _ _ h => h) hS0 (Or.inl ⟨by rfl, fun w' hS' => by obtain ⟨k0, k1, k2, k3⟩ := HTC.out _ hS'.td; go_simp⟩) (fun inv' => ?_)
  clear inv; have inv := inv'; clear inv'
  try simp only [List.setIfInBounds_toArray, List.set_cons_zero, List.set_cons_succ]
  refine till_at 8 23 (.pointer (some ⟨M, 3, none⟩)) inv rfl rfl (by decide) (by decide +kernel) (by decide +kernel) (fun _ _ _ h => h) hS0 (Or.inl ⟨by rfl, fun w' hS' => by obtain ⟨k0, k1, k2, k3⟩ := HTC.out _ hS'.td; go_simp⟩) (fun inv' => ?_)
  clear inv; have inv := inv'; clear inv'
  try simp only [List.setIfInBounds_toArray, List.set_cons_zero, List.set_cons_succ]
  refine till_at 9 24 (.int .i64 (s : Nat)) inv rfl rfl (by decide) (by decide +kernel) (by decide +kernel) (fun _ _ _ h => h) hS0 (Or.inl ⟨by rfl, fun w' hS' => by obtain ⟨k0, k1, k2, k3⟩ := HTC.out _ hS'.td; go_simp⟩) (fun inv' => ?_)
  clear inv; have inv := inv'; clear inv'
  try simp only [List.setIfInBounds_toArray, List.set_cons_zero, List.set_cons_succ]
  refine till_at 10 25 (.int .u8 (s : Nat)) inv rfl rfl (by decide) (by decide +kernel) (by decide +kernel) (fun _ _ _ h => h) hS0 (Or.inl ⟨by rfl, fun w' hS' => by obtain ⟨k0, k1, k2, k3⟩ := HTC.out _ hS'.td; go_simp⟩) (fun inv' => ?_)
  clear inv; have inv := inv'; clear inv'
  try simp only [List.setIfInBounds_toArray, List.set_cons_zero, List.set_cons_succ]
  have HZ : Hid (Below u5.drew.heap.size u5.drew (u5.drew.alloc (.cells #[.int .u8 (nd : Nat), .int .u8 (ix : Nat), .int .u8 (s : Nat)] 5)) ∧ Bx (u5.drew.alloc (.cells #[.int .u8 (nd : Nat), .int .u8 (ix : Nat), .int .u8 (s : Nat)] 5)) u5.drew.heap.size 5 (fc [bn, bi, bs])) := ⟨(Below.refl _ _).alloc (Nat.le_refl _) _, by
    have q := Bx.new u5.drew 5 [.int .u8 (nd : Nat), .int .u8 (ix : Nat), .int .u8 (s : Nat)]
    rw [← hbn.out, ← hbi.out, ← hbs.out] at q ⊢
    exact q⟩
  have hS1 := hS0.below HZ.out.1
  refine till_head (i := 11) inv (by decide +kernel) (by decide) rfl (fun KK hK => ?_)
  go_simp
  try (go_wp2_with fail)
  refine hK.out _ _ hS1 (fun inv' => ?_)
  clear hK KK inv; have inv := inv'; clear inv'
  try simp only [List.setIfInBounds_toArray, List.set_cons_zero, List.set_cons_succ]
  refine till_tail (i := 12) (by decide +kernel) (by decide) rfl (fun KK hK => ?_)
  rw [if_pos (by rfl)]
  refine step_copy_bx (.tmp 16) (.tmp 26) (by rfl) g 2 (N - 2) (N - 2) (by rfl) u5.drew.heap.size 0 3 3 [bn, bi, bs] (by rfl) rfl (bx_rw HZ.out.2) (by have := HNE.out.1; omega) (fc [b0, b1]) (fc (List.replicate 3 0)) (fc (List.replicate ((s + 4) + (E + 4)) 0)) rfl rfl (by rw [List.append_assoc, ← fc_repl, HR3.out]; exact hS1.bx) ?_
  intro u6 h6 g6
  have HC6 : Hid (NrI M g vb TD vs w (fc [b0, b1] ++ fc [bn, bi, bs] ++ fc (List.replicate ((s + 4) + (E + 4)) 0)) u6) := hS1.write h6 g6
  clear h6 g6
  refine hK.out _ _ ?_
  clear hK KK
  try simp only [List.setIfInBounds_toArray, List.set_cons_zero, List.set_cons_succ]
  refine till_done (by decide +kernel) ?_ _
  refine NoPanic.normal ?_
  clear hS0 hS1 HZ n1 n2 n3
  have HC7 : Hid (NrI M g vb TD vs w (fc [b0, b1, bn, bi, bs] ++ fc (List.replicate (s + 4) 0) ++ fc (List.replicate (E + 4) 0)) u6) := by
    have q := HC6.out
    rw [fc_repl, ← fc_apps, ← List.append_assoc] at q
    exact q
  clear HC6
  have g5 : (5 : Int) ≤ (N : Int) := by have := HNE.out.1; omega
  have g8 : ¬ N = 5 := by have := HNE.out.1; omega
  go_upto_region 5 with (first
    | (refine wpList_copy_bx (by rfl) (.tmp 29) (.tmp 30) (by rfl) g 5 (N - 5) (N - 5) (by rfl) vb 0 (s + 4) vc vs (by rfl) HNE.out.2.2 (bx_rw HC7.out.vv) (by have := HNE.out.1; omega) (fc [b0, b1, bn, bi, bs]) (fc (List.replicate (s + 4) 0)) (fc (List.replicate (E + 4) 0)) rfl (by rw [fc_len, List.length_replicate]) HC7.out.bx ?_; intro u8 h8 g8; have HC8 : Hid (NrI M g vb TD vs w (fc [b0, b1, bn, bi, bs] ++ fc vs ++ fc (List.replicate (E + 4) 0)) u8) := HC7.out.write h8 g8; clear h8 g8)
    | fail)
  obtain ⟨hd, HHD⟩ : ∃ q : List F, Hid (q = [b0, b1, bn, bi, bs] ++ vs ++ List.replicate E 0) := ⟨[b0, b1, bn, bi, bs] ++ vs ++ List.replicate E 0, show [b0, b1, bn, bi, bs] ++ vs ++ List.replicate E 0 = _ from rfl⟩
  have HC9 : Hid (NrI M g vb TD vs w (fc (hd ++ [0, 0, 0, 0])) u8 ∧ hd.length + 4 = N) := by
    have q := HC8.out
    rw [HHD.out]
    refine ⟨?_, ?_⟩
    · rw [fc_repl] at q
      rw [fc_apps, fc_apps, fc_apps, List.append_assoc _ (fc (List.replicate E 0))]
      exact q
    · have h1 := HNE.out
      simp
      omega
  clear HC7 HC8
  have H57 : Hid (Calls Tryd.prog 57 #[.slice (some ⟨g, 0, none⟩) N N] u8 fun e w' => Hid (e = .returned (.tuple #[]) ∧ Bx w' g 5 (fc (hd ++ codeL hd)) ∧ u8.grownBy w' (some g))) := code_ok g hd.length N N hd u8 rfl HC9.out.2.symm (by have := HC9.out.2; have := HNE.out.2.1; omega) (Nat.le_refl _) (by have := HNE.out.2.1; omega) HC9.out.1.bx
  go_wp2_with (first
    | (go_at_call 57; refine H57.out.mono ?_; intro e9 w9 h9; obtain ⟨rfl, h1, h2⟩ := h9.out; have HF : Hid (NrI M g vb TD vs w (fc (hd ++ codeL hd)) w9) := HC9.out.1.write h1 h2; clear h9 h1 h2 H57))
  go_ret
  refine ⟨g, rfl, by rw [HMM.out]; exact Nat.le_of_lt HF.out.lt.2, ⟨hd, ?_, HF.out.bx⟩, by rw [HMM.out]; exact HF.out.bel⟩
  rw [HE.out]
  exact HHD.out
end Go.Proofs.YtbpkocohddlbhaaDoor
namespace Go.Proofs.YtbpkocohddlbhaaDoor
open Go.RowKit
set_option linter.unusedVariables false
set_option linter.unusedSimpArgs false
set_option maxRecDepth 100000
/-- A sharing's size. -/
theorem size_ok (sn nd LB n c s : Nat) (hs : Hid (n = s + 4 ∧ n ≤ 1000)) (w : World) : Calls Tryd.prog 34 #[.agg #[.int .u16 (sn : Nat), .int .i64 (nd : Nat), .slice (some ⟨LB, 0, none⟩) n c]] w fun e w' => Hid (e = .returned (.int .i64 (s : Nat)) ∧ Below w.heap.size w w') := by
  go_enter Tryd.func34, Tryd.ntmps34
  go_wp2
  go_ret
  refine ⟨ret_int ?_, (Below.refl _ _).alloc (Nat.le_refl _) _⟩
  have := hs.out
  first | omega | (simp [wrap64]; omega)
/-- Why a secret cannot be shared so. -/
def mayN (n b c : Int) : Int := if 1 ≤ n ∧ n ≤ 64 then (if 1 ≤ b ∧ b ≤ 16 ∧ b ≤ c ∧ c ≤ 255 then 0 else 110) else 111
theorem may_ok (n b c : Int) (w : World) : Calls Tryd.prog 16 #[.int .i64 n, .int .i64 b, .int .i64 c] w fun e w' => e = .returned (.int .i64 (mayN n b c)) ∧ w' = w := by
  by_cases h1 : n < 1
  · have HM : Hid (mayN n b c = 111) := if_neg (by omega)
    go_enter Tryd.func16, Tryd.ntmps16
    go_wp2
    go_ret
    exact ⟨ret_int HM.out.symm, rfl⟩
  by_cases h2 : 64 < n
  · have HM : Hid (mayN n b c = 111) := if_neg (by omega)
    go_enter Tryd.func16, Tryd.ntmps16
    go_wp2
    go_ret
    exact ⟨ret_int HM.out.symm, rfl⟩
  have HN : 1 ≤ n ∧ n ≤ 64 := by omega
  by_cases h3 : b < 1
  · have HM : Hid (mayN n b c = 110) := by show mayN n b c = 110; unfold mayN; rw [if_pos HN, if_neg (by omega)]
    clear HN
    go_enter Tryd.func16, Tryd.ntmps16
    go_wp2
    go_ret
    exact ⟨ret_int HM.out.symm, rfl⟩
  by_cases h4 : 16 < b
  · have HM : Hid (mayN n b c = 110) := by show mayN n b c = 110; unfold mayN; rw [if_pos HN, if_neg (by omega)]
    clear HN
    go_enter Tryd.func16, Tryd.ntmps16
    go_wp2
    go_ret
    exact ⟨ret_int HM.out.symm, rfl⟩
  by_cases h5 : c < b
  · have HM : Hid (mayN n b c = 110) := by show mayN n b c = 110; unfold mayN; rw [if_pos HN, if_neg (by omega)]
    clear HN
    go_enter Tryd.func16, Tryd.ntmps16
    go_wp2
    go_ret
    exact ⟨ret_int HM.out.symm, rfl⟩
  by_cases h6 : 255 < c
  · have HM : Hid (mayN n b c = 110) := by show mayN n b c = 110; unfold mayN; rw [if_pos HN, if_neg (by omega)]
    clear HN
    go_enter Tryd.func16, Tryd.ntmps16
    go_wp2
    go_ret
    exact ⟨ret_int HM.out.symm, rfl⟩
  have HM : Hid (mayN n b c = 0) := by show mayN n b c = 0; unfold mayN; rw [if_pos HN, if_pos (by omega)]
  clear HN
  go_enter Tryd.func16, Tryd.ntmps16
  go_wp2
  go_ret
  exact ⟨ret_int HM.out.symm, rfl⟩
theorem refusal_ok (a : Option Addr) (n cp : Nat) (b c : Int) (w : World) : Calls Tryd.prog 21 #[.slice a n cp, .int .i64 b, .int .i64 c] w fun e w' => e = .returned (.int .i64 (mayN n b c)) ∧ w' = w := by
  have HB : Hid (∀ u, Calls Tryd.prog 25 #[.int .i64 (n : Nat)] u fun e w' => e = .returned (.bool (decide (1 ≤ (n : Int) ∧ (n : Int) ≤ 64))) ∧ w' = u) := fun u => mayShareI n u
  have HA : Hid (∀ u, Calls Tryd.prog 24 #[.int .i64 b] u fun e w' => e = .returned (.bool (decide (1 ≤ b ∧ b ≤ 16))) ∧ w' = u) := fun u => mayNeedI b u
  by_cases h1 : 1 ≤ (n : Int) ∧ (n : Int) ≤ 64
  · rw [decide_eq_true h1] at HB
    by_cases h2 : 1 ≤ b ∧ b ≤ 16
    · rw [decide_eq_true h2] at HA
      by_cases h3 : c < b
      · have HM : Hid (mayN n b c = 110) := by show mayN n b c = 110; unfold mayN; rw [if_pos h1, if_neg (by omega)]
        clear h1 h2
        go_enter Tryd.func21, Tryd.ntmps21
        go_wp2_with (first
          | (go_at_call 25; refine (HB.out _).mono ?_; rintro e1 w1 ⟨rfl, hw⟩; obtain rfl := hw.symm; clear hw)
          | (go_at_call 24; refine (HA.out _).mono ?_; rintro e1 w1 ⟨rfl, hw⟩; obtain rfl := hw.symm; clear hw))
        go_ret
        exact ⟨ret_int HM.out.symm, rfl⟩
      by_cases h4 : 255 < c
      · have HM : Hid (mayN n b c = 110) := by show mayN n b c = 110; unfold mayN; rw [if_pos h1, if_neg (by omega)]
        clear h1 h2
        go_enter Tryd.func21, Tryd.ntmps21
        go_wp2_with (first
          | (go_at_call 25; refine (HB.out _).mono ?_; rintro e1 w1 ⟨rfl, hw⟩; obtain rfl := hw.symm; clear hw)
          | (go_at_call 24; refine (HA.out _).mono ?_; rintro e1 w1 ⟨rfl, hw⟩; obtain rfl := hw.symm; clear hw))
        go_ret
        exact ⟨ret_int HM.out.symm, rfl⟩
      have HM : Hid (mayN n b c = 0) := by show mayN n b c = 0; unfold mayN; rw [if_pos h1, if_pos (by omega)]
      clear h1 h2
      go_enter Tryd.func21, Tryd.ntmps21
      go_wp2_with (first
        | (go_at_call 25; refine (HB.out _).mono ?_; rintro e1 w1 ⟨rfl, hw⟩; obtain rfl := hw.symm; clear hw)
        | (go_at_call 24; refine (HA.out _).mono ?_; rintro e1 w1 ⟨rfl, hw⟩; obtain rfl := hw.symm; clear hw))
      go_ret
      exact ⟨ret_int HM.out.symm, rfl⟩
    · rw [decide_eq_false h2] at HA
      have HM : Hid (mayN n b c = 110) := by show mayN n b c = 110; unfold mayN; rw [if_pos h1, if_neg (by omega)]
      clear h1 h2
      go_enter Tryd.func21, Tryd.ntmps21
      go_wp2_with (first
        | (go_at_call 25; refine (HB.out _).mono ?_; rintro e1 w1 ⟨rfl, hw⟩; obtain rfl := hw.symm; clear hw)
        | (go_at_call 24; refine (HA.out _).mono ?_; rintro e1 w1 ⟨rfl, hw⟩; obtain rfl := hw.symm; clear hw))
      go_ret
      exact ⟨ret_int HM.out.symm, rfl⟩
  · rw [decide_eq_false h1] at HB
    have HM : Hid (mayN n b c = 111) := if_neg h1
    clear h1
    go_enter Tryd.func21, Tryd.ntmps21
    go_wp2_with (first
      | (go_at_call 25; refine (HB.out _).mono ?_; rintro e1 w1 ⟨rfl, hw⟩; obtain rfl := hw.symm; clear hw))
    go_ret
    exact ⟨ret_int HM.out.symm, rfl⟩
end Go.Proofs.YtbpkocohddlbhaaDoor
namespace Go.Proofs.YtbpkocohddlbhaaDoor
open Go.RowKit
set_option linter.unusedVariables false
set_option linter.unusedSimpArgs false
set_option maxRecDepth 100000
theorem numE_ok (x : Int) (w : World) : Calls Tryd.prog 11 #[.int .i64 x] w fun e w' => e = .returned (.int .i64 x) ∧ w' = w := by
  go_enter Tryd.func11, Tryd.ntmps11
  go_wp2
  go_ret
  exact ⟨rfl, rfl⟩
/-- The law's cut. -/
theorem cut_ok (g o n c m : Nat) (hm : m ≤ 3000) (hc : n ≤ c) (w : World) : Calls Tryd.prog 4 #[.slice (some ⟨g, o, none⟩) n c, .int .i64 (m : Nat)] w fun e w' => e = .returned (.slice (some ⟨g, o, none⟩) (min n m) c) ∧ w' = w := by
  by_cases h : m < n
  · have h1 : (m : Int) < (n : Int) := by omega
    have h2 : (0 : Int) ≤ (m : Int) := by omega
    have h3 : (m : Int) ≤ (c : Int) := by omega
    have HM : Hid (min n m = m) := Nat.min_eq_right (by omega)
    go_enter Tryd.func4, Tryd.ntmps4
    go_wp2
    go_ret
    rw [HM.out]
    exact ⟨rfl, rfl⟩
  · have h1 : ¬ (m : Int) < (n : Int) := by omega
    have HM : Hid (min n m = n) := Nat.min_eq_left (by omega)
    go_enter Tryd.func4, Tryd.ntmps4
    go_wp2
    go_ret
    rw [HM.out]
    exact ⟨rfl, rfl⟩
theorem cut_nil (c m : Nat) (w : World) : Calls Tryd.prog 4 #[.slice none 0 c, .int .i64 (m : Nat)] w fun e w' => e = .returned (.slice none 0 c) ∧ w' = w := by
  have h1 : ¬ (m : Int) < 0 := by omega
  go_enter Tryd.func4, Tryd.ntmps4
  go_wp2
  go_ret
  exact ⟨rfl, rfl⟩
end Go.Proofs.YtbpkocohddlbhaaDoor
namespace Go.Proofs.YtbpkocohddlbhaaDoor
open Go.RowKit
set_option linter.unusedVariables false
set_option linter.unusedSimpArgs false
set_option maxRecDepth 100000
set_option maxHeartbeats 1600000 in
/-- cofferbook.SameTexts of two lists of the same texts. -/
theorem sameTexts_ok (b1 b2 n c1 c2 : Nat) (T : Nat → ByteArray) (w : World) (hn : n ≤ 3000) (h1 : ∀ i, i < n → w.cell? ⟨b1, i, none⟩ = some (.string (T i))) (h2 : ∀ i, i < n → w.cell? ⟨b2, i, none⟩ = some (.string (T i))) :
    Calls Tryd.prog 12 #[.slice (some ⟨b1, 0, none⟩) n c1, .slice (some ⟨b2, 0, none⟩) n c2] w fun e w' => Hid (e = .returned (.bool true) ∧ Below w.heap.size w w') := by
  have HA : Hid ((∀ i, i < n → w.cell? ⟨b1, i, none⟩ = some (.string (T i))) ∧ ∀ i, i < n → w.cell? ⟨b2, i, none⟩ = some (.string (T i))) := ⟨h1, h2⟩
  clear h1 h2
  go_enter Tryd.func12, Tryd.ntmps12
  go_wp2
  go_loopw [5] (fun vi wr => ∃ i : Nat, vi = .int .i64 (i : Nat) ∧ i ≤ n ∧ Hid (wr.heap = w.heap ∧ wr.os = w.os ∧ wr.tape = w.tape ∧ wr.output = w.output)) (fun vi _ => n - (intOf vi).toNat)
  case atStart => exact ⟨0, rfl, by omega, rfl, rfl, rfl, rfl⟩
  case round =>
    obtain ⟨i, rfl, hi, HR⟩ := hrel
    by_cases hlt : i < n
    · have g0 : (0 : Int) ≤ (i : Int) := by omega
      have g1 : (i : Int) < (n : Int) := by omega
      obtain ⟨NM, HNM⟩ : ∃ x, Hid (T i = x) := ⟨_, rfl⟩
      have c0 : wr.cell? ⟨b1, i, none⟩ = some (.string NM) := by
        rw [← HNM.out, World.cell?_of_block (w := w) (by rw [HR.out.1])]
        exact HA.out.1 i hlt
      have c1 : wr.cell? ⟨b2, i, none⟩ = some (.string NM) := by
        rw [← HNM.out, World.cell?_of_block (w := w) (by rw [HR.out.1])]
        exact HA.out.2 i hlt
      go_upto_region 6 with fail
      go_quiet (fail)
      have HR2 : Hid ((wr.drewN nq).heap = w.heap ∧ (wr.drewN nq).os = w.os ∧ (wr.drewN nq).tape = w.tape ∧ (wr.drewN nq).output = w.output) := HR
      clear HR c0 c1
      generalize wr.drewN nq = wq at HR2 ⊢
      go_wp2
      exact ⟨⟨i + 1, by simp, by omega, HR2⟩, by simp [intOf]; omega⟩
    · have g1 : ¬ (i : Int) < (n : Int) := by omega
      have HF : Hid (Below w.heap.size w wr) := ⟨HR.out.2.1, HR.out.2.2.1, HR.out.2.2.2, by rw [HR.out.1]; exact Nat.le_refl _, fun _ _ => by rw [HR.out.1]⟩
      clear HR
      go_wp2
      go_ret
      exact ⟨rfl, HF.out⟩
end Go.Proofs.YtbpkocohddlbhaaDoor
namespace Go.Proofs.YtbpkocohddlbhaaDoor
open Go.RowKit
set_option linter.unusedVariables false
set_option linter.unusedSimpArgs false
set_option maxRecDepth 100000
theorem Tryd.infoT9 : (Tryd.prog.info? 9).map (fun i => (i.zero, i.size, i.bytes)) = some (some (.string ⟨#[]⟩), 1, 16) := by kernel_rfl
/-- A row of texts that is written on. -/
structure SpT (w wr : World) (b : Nat) (v : Value) (n : Nat) : Prop where
  own : ∃ g cap xs, v = .slice (some ⟨g, 0, none⟩) n cap ∧ wr.ownsRow 0 9 1 v n xs ∧ (g = b ∨ w.heap.size ≤ g)
  gr : w.grownBy wr (some b)
theorem ownT_set {w : World} {B g n cap i : Nat} {e : TypeId} {xs : List Value} (h : w.ownsRow B e 1 (.slice (some ⟨g, 0, none⟩) n cap) n xs) (x : Value) : ∃ ys, (w.setCell ⟨g, i, none⟩ x).ownsRow B e 1 (.slice (some ⟨g, 0, none⟩) n cap) n ys := by
  obtain ⟨hl, h⟩ := h
  rcases h with ⟨q, _⟩ | ⟨g', cap', cur, q, hb, hh, h1, h2, h3, h4⟩
  · cases q
  · injection q with q1 q2 q3
    injection q1 with q1
    injection q1 with q1
    subst q1 q3
    refine ⟨(cur.setIfInBounds i x).toList.take (n * 1), ?_, .inr ⟨g, cap, cur.setIfInBounds i x, rfl, hb, bo_same w g i cur e x hh, h1, h2, by simpa using h3, rfl⟩⟩
    simp
    rw [h3]
    omega
theorem ownT_cell {w : World} {B g n cap i : Nat} {e : TypeId} {xs : List Value} (h : w.ownsRow B e 1 (.slice (some ⟨g, 0, none⟩) n cap) n xs) (hi : i < n) : (∃ u, w.cell? ⟨g, i, none⟩ = some u) ∧ w.frozen? ⟨g, i, none⟩ = false ∧ g < w.heap.size := by
  obtain ⟨hl, h⟩ := h
  rcases h with ⟨q, _⟩ | ⟨g', cap', cur, q, hb, hh, h1, h2, h3, h4⟩
  · cases q
  · injection q with q1 q2 q3
    injection q1 with q1
    injection q1 with q1
    subst q1 q3
    refine ⟨⟨cur[i]'(by omega), ?_⟩, ?_, (Array.getElem?_eq_some_iff.1 hh).1⟩
    · have : i < cur.size := by omega
      simp [World.cell?, hh, this]
    · simp [World.frozen?, hh]
theorem SpT.set {w wr : World} {b g n cap i : Nat} (h : SpT w wr b (.slice (some ⟨g, 0, none⟩) n cap) n) (x : Value) : SpT w (wr.setCell ⟨g, i, none⟩ x) b (.slice (some ⟨g, 0, none⟩) n cap) n := by
  obtain ⟨g', cap', xs, e, ho, hg⟩ := h.own
  injection e with e1 e2 e3
  injection e1 with e1
  injection e1 with e1
  subst e1 e3
  obtain ⟨ys, hy⟩ := ownT_set ho x (i := i)
  refine ⟨⟨g, cap, ys, rfl, hy, hg⟩, ?_⟩
  have q := set_gb wr g i x
  refine ⟨q.os.trans h.gr.os, q.tape.trans h.gr.tape, q.output.trans h.gr.output, Nat.le_trans h.gr.size q.size, fun k hk hn => ?_⟩
  rw [q.block k (Nat.lt_of_lt_of_le hk h.gr.size) (by
    intro e
    injection e with e
    rcases hg with hg | hg
    · exact hn (by rw [e, hg])
    · omega)]
  exact h.gr.block k hk hn
set_option maxHeartbeats 1600000 in
set_option maxRecDepth 100000 in
/-- cofferbook.SpoilTexts. -/
theorem spoilTexts_ok (b n0 : Nat) (cs : List Value) (w : World) (hcs : cs.length = n0) (hn0 : n0 ≤ 3000) (h : Bx w b 9 cs) : Calls Tryd.prog 14 #[.slice (some ⟨b, 0, none⟩) n0 n0] w fun e w' => Hid (e = .returned (.tuple #[]) ∧ w.grownBy w' (some b)) := by
  obtain ⟨i0, hi0, hz0, hz1, hz2⟩ := info_parts Tryd.infoT9
  have HI0 : Hid (Tryd.prog.info? 9 = some i0 ∧ i0.zero = some (.string ⟨#[]⟩) ∧ i0.size = 1 ∧ i0.bytes = 16) := ⟨hi0, hz0, hz1, hz2⟩
  clear hi0 hz0 hz1 hz2
  have HS : Hid (SpT w w b (.slice (some ⟨b, 0, none⟩) n0 n0) n0) := ⟨⟨b, n0, cs, rfl, ⟨by rw [hcs, Nat.mul_one], .inr ⟨b, n0, _, rfl, Nat.zero_le _, h, Nat.le_refl _, by unfold maxLen; omega, by rw [List.size_toArray, hcs, Nat.mul_one], by rw [List.take_of_length_le]; rw [hcs]; omega⟩⟩, .inl rfl⟩, gb_refl _ _⟩
  clear h
  go_enter Tryd.func14, Tryd.ntmps14
  go_wp2
  go_loopw [2] (fun vi wr => ∃ i : Nat, vi = .int .i64 (i : Nat) ∧ i ≤ n0 ∧ Hid (SpT w wr b (.slice (some ⟨b, 0, none⟩) n0 n0) n0)) (fun vi _ => n0 - (intOf vi).toNat)
  case atStart => exact ⟨0, rfl, by omega, HS⟩
  case round =>
    obtain ⟨i, rfl, hi, HR⟩ := hrel
    clear HS
    by_cases hlt : i < n0
    · have g0 : (0 : Int) ≤ (i : Int) := by omega
      have g1 : (i : Int) < (n0 : Int) := by omega
      obtain ⟨u0, c0, f0⟩ : ∃ u, wr.cell? ⟨b, i, none⟩ = some u ∧ wr.frozen? ⟨b, i, none⟩ = false := by
        obtain ⟨g', cap', xs, e, ho, hg⟩ := HR.out.own
        injection e with e1 e2 e3
        injection e1 with e1
        injection e1 with e1
        subst e1 e3
        obtain ⟨⟨u, hu⟩, hf, _⟩ := ownT_cell ho hlt
        exact ⟨u, hu, hf⟩
      have HR2 : Hid (SpT w (wr.setCell ⟨b, i, none⟩ (.string ⟨#[115, 112, 111, 105, 108, 116]⟩)) b (.slice (some ⟨b, 0, none⟩) n0 n0) n0) := HR.out.set _
      clear HR
      go_wp2
      exact ⟨⟨i + 1, by simp, by omega, HR2⟩, by simp [intOf]; omega⟩
    · have g1 : ¬ (i : Int) < (n0 : Int) := by omega
      go_wp2
      go_loopw [0, 3] (fun v vi wx => ∃ (k m : Nat), vi = .int .i64 (k : Nat) ∧ k ≤ 70 ∧ Hid (m = n0 + k) ∧ Hid (SpT w wx b v m)) (fun _ vi _ => 70 - (intOf vi).toNat)
      case atStart => exact ⟨0, n0, rfl, by omega, rfl, HR⟩
      case round =>
        obtain ⟨k, m, rfl, hk, HMK, HX⟩ := hrel
        clear HR
        obtain ⟨g, cap, xs, rfl, ho, hg⟩ := HX.out.own
        have HO : Hid (wr.ownsRow 0 9 1 (.slice (some ⟨g, 0, none⟩) m cap) m xs ∧ (g = b ∨ w.heap.size ≤ g)) := ⟨ho, hg⟩
        clear ho hg
        have hm9 : m ≤ 3070 := by have := HMK.out; omega
        by_cases hkl : k < 70
        · have k0 : (k : Int) < 70 := by omega
          go_wp2_with (first
            | (at_builtin; go_must (refine wpList_append_own_at _ rfl (.tmp 17) (.tmp 18) 29 rfl 0 9 i0 (.string ⟨#[]⟩) 1 16 Tryd.underlying29 HI0.out.1 HI0.out.2.1 HI0.out.2.2.1 HI0.out.2.2.2 rfl (by decide) _ _ _ rfl (HO.out.1.alloc _) ⟨wr.heap.size, 0, none⟩ 1 1 [.string ⟨#[109, 111, 114, 101]⟩] rfl rfl ?_ ?_ ?_ ?_ ?_ ?_)))
          · intro j u hj
            match j, hj with
            | 0, hj => simp at hj; subst hj; simp [Addr.add]
          · intro u hu; simp at hu; subst hu; rfl
          · unfold maxLen; omega
          · omega
          · omega
          intro v2 w2 hown hgrow hnil hat
          have HX2 : Hid (SpT w w2 b v2 (m + 1)) := by
            have gw : w.grownBy w2 (some b) := by
              have ga : wr.grownBy (wr.alloc (.cells #[.string ⟨#[109, 111, 114, 101]⟩] 9)) (some b) := ⟨rfl, rfl, rfl, by simp, fun q hq _ => Below.heap_alloc _ _ _ hq⟩
              refine ⟨hgrow.os.trans (ga.os.trans HX.out.gr.os), hgrow.tape.trans (ga.tape.trans HX.out.gr.tape), hgrow.output.trans (ga.output.trans HX.out.gr.output), Nat.le_trans HX.out.gr.size (Nat.le_trans ga.size hgrow.size), fun q hq hn => ?_⟩
              have hq' : q < wr.heap.size := Nat.lt_of_lt_of_le hq HX.out.gr.size
              rw [hgrow.block q (Nat.lt_of_lt_of_le hq' ga.size) (by
                intro e
                have e' : q = g := by simpa [Value.ownBlock] using e
                rcases HO.out.2 with p | p
                · exact hn (by rw [e', p])
                · omega), Below.heap_alloc _ _ _ hq']
              exact HX.out.gr.block q hq hn
            refine ⟨?_, gw⟩
            rcases hown.2 with ⟨rfl, q⟩ | ⟨g2, cap2, cur2, rfl, q2, q3, q4⟩
            · omega
            · refine ⟨g2, cap2, _, rfl, hown, ?_⟩
              rcases hat with q | q
              · have e' : g2 = g := by simpa [Value.ownBlock] using q
                rw [e']; exact HO.out.2
              · have e' : g2 = (wr.alloc (.cells #[.string ⟨#[109, 111, 114, 101]⟩] 9)).heap.size := by simpa [Value.ownBlock] using q
                right
                rw [e']
                have := HX.out.gr.size
                simp
                omega
          clear hown hgrow hnil hat HO HX
          go_wp2
          go_roundw
          case rel => exact ⟨k + 1, m + 1, by go_num, by omega, by have := HMK.out; show m + 1 = n0 + (k + 1); omega, HX2⟩
          case measure => simp [intOf]; omega
        · have k0 : ¬ (k : Int) < 70 := by omega
          have hm0 : m = n0 + 70 := by have := HMK.out; omega
          obtain ⟨e, HEE⟩ : ∃ q : Nat, Hid (m = q + 1) := ⟨n0 + 69, by show m = n0 + 69 + 1; omega⟩
          have hem : m = e + 1 := HEE.out
          obtain ⟨⟨u0, c0⟩, f0, hl⟩ := ownT_cell HO.out.1 (show e < m by omega)
          have HX2 : Hid (SpT w (wr.setCell ⟨g, e, none⟩ (.string ⟨#[109, 111, 115, 116]⟩)) b (.slice (some ⟨g, 0, none⟩) m cap) m) := HX.out.set _
          have e1 : (m : Int) - 1 = (e : Int) := by omega
          have e2 : (0 : Int) ≤ (e : Int) := by omega
          have e3 : (e : Int) < (m : Int) := by omega
          have e4 : IntKind.i64.wrap ((m : Int) - 1) = (e : Int) := by rw [IntKind.wrap_i64]; omega
          clear hem hm0
          go_wp2
          exact bodyPost_end (results_none rfl _ _ _) rfl ⟨rfl, HX2.out.gr⟩
end Go.Proofs.YtbpkocohddlbhaaDoor
namespace Go.Proofs.YtbpkocohddlbhaaDoor
open Go.RowKit
set_option linter.unusedVariables false
set_option linter.unusedSimpArgs false
set_option maxRecDepth 100000
set_option maxHeartbeats 1600000 in
/-- bytes.Clone of what is not empty. -/
theorem bclone_ok (b o n c : Nat) (l : List F) (w : World) (hl : l.length = n) (h1 : 1 ≤ n) (hn : n ≤ 4000) (h : Rw w b o l) : Calls Tryd.prog 31 #[.slice (some ⟨b, o, none⟩) n c] w fun e w' => Hid (∃ v, e = .returned v ∧ w'.ownsRow w.heap.size 5 1 v n (fc l) ∧ Below w.heap.size w w') := by
  have HL : Hid (l.length = n ∧ 1 ≤ n ∧ n ≤ 4000 ∧ Rw w b o l) := ⟨hl, h1, hn, h⟩
  have ha : Below w.heap.size w (w.alloc (.cells #[] 5)) := (Below.refl _ _).alloc (Nat.le_refl _) _
  have HA : Hid (Below w.heap.size w (w.alloc (.cells #[] 5)) ∧ Rw (w.alloc (.cells #[] 5)) b o l ∧ (w.alloc (.cells #[] 5)).heap[w.heap.size]? = some (.cells #[] 5 (0, 0))) := ⟨ha, h.below ha, new_none w⟩
  have hnl : ∀ w, (binOp .eql 23 (.slice (some ⟨b, o, none⟩) n c) (.slice none 0 0)).run Tryd.prog w = .ok (.bool false) w := fun w => Lib.run_eql_slice_nil w 23 5 (some ⟨b, o, none⟩) n c 0 0 Tryd.underlying23
  clear hl h1 hn h ha
  go_enter Tryd.func31, Tryd.ntmps31
  go_wp2_with (first
    | (refine wpList_clone_own (by rfl) (.tmp 5) (.tmp 6) (by rfl) w.heap.size (by rfl) HA.out.2.2 b o n c l (by rfl) HL.out.1 HL.out.2.1 HL.out.2.2.1 HA.out.2.1 ?_; intro v1 w1 ho1 hb1; have H1 : Hid (w1.ownsRow w.heap.size 5 1 v1 n (fc l) ∧ Below w.heap.size w w1) := ⟨ho1, HA.out.1.trans hb1⟩; clear ho1 hb1))
  go_ret
  exact ⟨v1, rfl, H1.out.1, H1.out.2⟩
end Go.Proofs.YtbpkocohddlbhaaDoor
namespace Go.Proofs.YtbpkocohddlbhaaDoor
open Go.RowKit
variable {P : Program}

/-- A new variable of a great type: its zero cells are handed in. -/
theorem wpList_alloc_big {ops : Array Oper} {rest : List Oper} {op : Oper} {a : Act} {w : World} {Q : Exit → Act → World → Prop} (hgd : op.guard = none) (ty : TypeId) (ho : op.op = .alloc ty)
    (cells : Array Value) (hz : ((P.info? ty).bind (·.zero)).map (·.cells) = some cells) (B : Nat) (hB : w.heap.size = B)
    (h : wpList P ops Q rest (a.put op.dst (.pointer (some ⟨B, 0, none⟩))) (w.alloc (.cells cells ty))) : wpList P ops Q (op :: rest) a w := by
  subst hB
  refine wpList_plain hgd fun K hK => ?_
  cases hi : P.info? ty with
  | none => simp [hi] at hz
  | some i =>
    cases hzz : i.zero with
    | none => simp [hi, hzz] at hz
    | some z =>
      have hc : z.cells = cells := by simpa [hi, hzz] using hz
      have hrun : (Instr.alloc ty true (.tuple #[])).run P w = .ok (.pointer (some ⟨w.heap.size, 0, none⟩)) (w.alloc (.cells cells ty)) := by
        simp [Instr.alloc, zeroValue, typeInfo, hi, hzz, newVar, newRow, hc]
      unfold Oper.wp execOp
      simp only [ho, Sem.run_bind, hrun, Result.andThen_ok, Sem.run_pure]
      exact hK _ _ h

/-- A great value that is built. -/
theorem wpList_build_big {ops : Array Oper} {rest : List Oper} {op : Oper} {a : Act} {w : World} {Q : Exit → Act → World → Prop} (hgd : op.guard = none) (ty : TypeId) (parts : Array (Nat × Operand)) (ho : op.op = .build ty parts)
    (cells : Array Value) (hb : P.built ty (parts.map fun (i, x) => (i, a.eval x)).toList = some cells)
    (h : wpList P ops Q rest (a.put op.dst (.agg cells)) w) : wpList P ops Q (op :: rest) a w := by
  refine wpList_plain hgd fun K hK => ?_
  have hrun := run_build (P := P) w ty (parts.map fun (i, x) => (i, a.eval x)) cells hb
  unfold Oper.wp execOp
  simp only [ho, Sem.run_bind, hrun, Result.andThen_ok, Sem.run_pure]
  exact hK _ _ h

theorem size_setCells (b : Nat) : ∀ (vs : List Value) (o : Nat) (w : World), (w.setCells b o vs).heap.size = w.heap.size
  | [], _, _ => rfl
  | v :: r, o, w => by rw [World.setCells, size_setCells b r (o + 1)]; simp [World.setCell]
theorem below_setCells (b : Nat) {B : Nat} (hB : B ≤ b) {a : World} : ∀ (vs : List Value) (o : Nat) (w : World), Below B a w → Below B a (w.setCells b o vs)
  | [], _, _, h => h
  | v :: r, o, w, h => by rw [World.setCells]; exact below_setCells b hB r (o + 1) _ (h.setCell hB _)
theorem rangeAt_new (w : World) (C : Array Value) (t : TypeId) : (w.alloc (.cells C t)).rangeAt w.heap.size 0 C.toList := fun j v hv => by
  rw [World.cell?_alloc_at C t _ _ rfl]
  simpa using hv
theorem there_new (w : World) (C : Array Value) (t : TypeId) (n : Nat) (hn : n ≤ C.size) : (w.alloc (.cells C t)).there w.heap.size 0 n := fun j hj => by
  refine ⟨?_, World.frozen?_alloc_at C t _ _ rfl⟩
  rw [World.cell?_alloc_at C t _ _ rfl]
  simp
  omega
end Go.Proofs.YtbpkocohddlbhaaDoor
namespace Go.Proofs.YtbpkocohddlbhaaDoor
open Go.RowKit

/-- The cells of a taken. -/
def tkCells (h : Int) (f : Value) (st half : List Int) (fed : Int) : List Value :=
  .int .i64 h :: f :: (st.map (Value.int .u64) ++ (half.map (Value.int .u8) ++ [.int .u64 fed]))
def tkZero : List Value := tkCells 0 .nilFunc (List.replicate 8 0) (List.replicate 128 0) 0
def tkOf (h : Int) : List Value := tkCells h .nilFunc (List.replicate 8 0) (List.replicate 128 0) 0
theorem tkOf_length (h : Int) : (tkOf h).length = 139 := by simp [tkOf, tkCells]
theorem tkZero_length : tkZero.length = 139 := by simp [tkZero, tkCells]
theorem tkOf_one (h : Int) : (tkOf h).toArray.all (·.oneCell') = true := by kernel_rfl
theorem zero71 : ((Tryd.prog.info? 107).bind (·.zero)).map (·.cells) = some tkZero.toArray := by kernel_rfl
theorem size71 : (Tryd.prog.info? 107).map (·.size) = some 139 := by kernel_rfl
theorem built71 (h : Int) : Tryd.prog.built 107 [(0, .int .i64 h)] = some (tkOf h).toArray := by kernel_rfl
theorem built71z : Tryd.prog.built 107 [] = some tkZero.toArray := by kernel_rfl

theorem cells71 (h : Int) : Tryd.zeroCells107.setIfInBounds 0 (.int .i64 h) = (tkOf h).toArray := by kernel_rfl
theorem cells71z : Tryd.zeroCells107 = tkZero.toArray := by kernel_rfl
theorem tkZero_one : tkZero.toArray.all (·.oneCell') = true := by kernel_rfl
theorem size71a (h : Int) : (tkOf h).toArray.size = 139 := by simp [tkOf_length]
theorem size71z : tkZero.toArray.size = 139 := by simp [tkZero_length]

/-- digest.Block. -/
def blockOf (h : Int) : Int := if h = 224 ∨ h = 256 then 64 else if h = 384 ∨ h = 512 then 128 else 0
set_option maxHeartbeats 400000 in
theorem block_any (h : Int) (w : World) : Calls Tryd.prog 79 #[.int .i64 h] w fun e w' => e = .returned (.int .i64 (blockOf h)) ∧ w' = w := by
  by_cases h1 : h = 224
  · subst h1
    go_enter Tryd.func79, Tryd.ntmps79
    go_wp2
    go_ret
    exact ⟨rfl, rfl⟩
  by_cases h2 : h = 256
  · subst h2
    go_enter Tryd.func79, Tryd.ntmps79
    go_wp2
    go_ret
    exact ⟨rfl, rfl⟩
  by_cases h3 : h = 384
  · subst h3
    go_enter Tryd.func79, Tryd.ntmps79
    go_wp2
    go_ret
    exact ⟨rfl, rfl⟩
  by_cases h4 : h = 512
  · subst h4
    go_enter Tryd.func79, Tryd.ntmps79
    go_wp2
    go_ret
    exact ⟨rfl, rfl⟩
  have hb : blockOf h = 0 := by simp [blockOf, h1, h2, h3, h4]
  rw [hb]
  clear hb
  have e1 : (h == 224) = false := by simpa using h1
  have e2 : (h == 256) = false := by simpa using h2
  have e3 : (h == 384) = false := by simpa using h3
  have e4 : (h == 512) = false := by simpa using h4
  clear h1 h2 h3 h4
  go_enter Tryd.func79, Tryd.ntmps79
  go_wp2
  go_ret
  exact ⟨rfl, rfl⟩

set_option maxHeartbeats 400000 in
set_option maxRecDepth 100000 in
theorem begin_bad (h : Int) (w : World) (h1 : (h == 224) = false) (h2 : (h == 256) = false) (h3 : (h == 384) = false) (h4 : (h == 512) = false) :
    Calls Tryd.prog 70 #[.int .i64 h] w fun e w' => e = .returned (.tuple #[.agg tkZero.toArray, .int .i64 10]) ∧ Below w.heap.size w w' := by
  have e71 := cells71 h
  have hz : Tryd.zeroCells107.size = 139 := by rw [cells71z]; exact size71z
  have ht : ((w.alloc (.cells Tryd.zeroCells107 107)).alloc (.cells Tryd.zeroCells107 107)).there (w.heap.size + 1) 0 139 := by
    simpa using there_new (w.alloc (.cells Tryd.zeroCells107 107)) Tryd.zeroCells107 107 139 (by rw [hz]; exact Nat.le_refl _)
  have HT : Hid (((w.alloc (.cells Tryd.zeroCells107 107)).alloc (.cells Tryd.zeroCells107 107)).there (w.heap.size + 1) 0 139) := ht
  clear hz ht
  go_enter Tryd.func70, Tryd.ntmps70
  go_wp2_with (first
    | (refine wpList_store_mid (by rfl) 107 (.tmp 4) (.tmp 6) (by rfl) (w.heap.size + 1) 0 (tkOf h).toArray (by rfl) (by rfl) (by rw [size71a]; exact HT.out) (by rw [size71a]; exact size71) (tkOf_one h) ?_)
    | fail)
  refine (block_any h _).mono ?_
  rintro e w1 ⟨rfl, rfl⟩
  rw [show blockOf h = 0 by simp at h1 h2 h3 h4; simp [blockOf, h1, h2, h3, h4]]
  have hb2 : Below w.heap.size w (((w.alloc (.cells Tryd.zeroCells107 107)).alloc (.cells Tryd.zeroCells107 107)).setCells (w.heap.size + 1) 0 (tkOf h)) :=
    below_setCells _ (by omega) _ _ _ (((Below.refl _ _).alloc (Nat.le_refl _) _).alloc (by simp) _)
  have ht2 : (((w.alloc (.cells Tryd.zeroCells107 107)).alloc (.cells Tryd.zeroCells107 107)).setCells (w.heap.size + 1) 0 (tkOf h)).there w.heap.size 0 139 :=
    World.there_setCells (World.there_alloc (there_new w Tryd.zeroCells107 107 139 (by rw [cells71z, size71z]; exact Nat.le_refl _)) _) _ _ _
  generalize (((w.alloc (.cells Tryd.zeroCells107 107)).alloc (.cells Tryd.zeroCells107 107)).setCells (w.heap.size + 1) 0 (tkOf h)) = W2 at hb2 ht2 ⊢
  have HT2 : Hid (W2.there w.heap.size 0 139) := ht2
  have e71z := cells71z
  clear ht2 HT e71
  go_wp2_with (first
    | (refine wpList_store_mid (by rfl) 107 (.tmp 2) (.tmp 9) (by rfl) w.heap.size 0 tkZero.toArray (by rfl) (by rfl) (by rw [size71z]; exact HT2.out) (by rw [size71z]; exact size71) tkZero_one ?_)
    | fail)
  have hl := run_loadVar_mid (P := Tryd.prog) (W2.setCells w.heap.size 0 tkZero) w.heap.size 0 107 tkZero _ (World.rangeAt_setCells_same W2 w.heap.size 0 tkZero (by rw [tkZero_length]; exact HT2.out)) Tryd.underlying107 rfl (by rw [tkZero_length]; exact size71)
  refine bodyPost_ret (v := .tuple #[.agg tkZero.toArray, .int .i64 10]) ?_ rfl ⟨rfl, below_setCells _ (Nat.le_refl _) _ _ _ hb2⟩
  rw [results_cell_tmp Tryd.results70]
  simp [asAddr, hl]
end Go.Proofs.YtbpkocohddlbhaaDoor
namespace Go.Proofs.YtbpkocohddlbhaaDoor
open Go.RowKit
/-- A rotation to the left by s. -/
def rotl32 (x : Int) (s : Nat) : Int := bits .or .u32 (x * 2 ^ s % 4294967296) (x / 2 ^ (32 - s))
def rotl64 (x : Int) (s : Nat) : Int := bits .or .u64 (x * 2 ^ s % 18446744073709551616) (x / 2 ^ (64 - s))
theorem wrap64 (x : Int) (h0 : 0 ≤ x) (h1 : x ≤ 64) : IntKind.u64.wrap x = x := by
  simp [IntKind.wrap, IntKind.bits, IntKind.signed]
  omega
set_option maxHeartbeats 400000 in
theorem rot32_core (x k s : Int) (w : World) (hb : bits .and .u64 (IntKind.u64.wrap k) 31 = s) (h0 : 0 ≤ s) (h1 : s ≤ 32) : Calls Tryd.prog 87 #[.int .u32 x, .int .i64 k] w fun e w' => e = .returned (.int .u32 (rotl32 x s.toNat)) ∧ w' = w := by
  have hs : IntKind.u64.wrap (32 - s) = 32 - s := wrap64 _ (by omega) (by omega)
  have h2 : 0 ≤ 32 - s := by omega
  go_enter Tryd.func87, Tryd.ntmps87
  go_wp2
  go_ret
  refine ⟨?_, rfl⟩
  have e2 : (32 - s).toNat = 32 - s.toNat := by omega
  rw [e2]
  exact rfl
set_option maxHeartbeats 400000 in
theorem rot64_core (x k s : Int) (w : World) (hb : bits .and .u64 (IntKind.u64.wrap k) 63 = s) (h0 : 0 ≤ s) (h1 : s ≤ 64) : Calls Tryd.prog 89 #[.int .u64 x, .int .i64 k] w fun e w' => e = .returned (.int .u64 (rotl64 x s.toNat)) ∧ w' = w := by
  have hs : IntKind.u64.wrap (64 - s) = 64 - s := wrap64 _ (by omega) (by omega)
  have h2 : 0 ≤ 64 - s := by omega
  go_enter Tryd.func89, Tryd.ntmps89
  go_wp2
  go_ret
  refine ⟨?_, rfl⟩
  have e2 : (64 - s).toNat = 64 - s.toNat := by omega
  rw [e2]
  exact rfl
theorem rot32_of {x k : Int} {w : World} (n : Nat) (hb : bits .and .u64 (IntKind.u64.wrap k) 31 = ((32 - n : Nat) : Int)) : Calls Tryd.prog 87 #[.int .u32 x, .int .i64 k] w fun e w' => e = .returned (.int .u32 (rotl32 x (32 - n))) ∧ w' = w := by
  have h := rot32_core x k ((32 - n : Nat) : Int) w hb (by omega) (by omega)
  simpa using h
theorem rot64_of {x k : Int} {w : World} (n : Nat) (hb : bits .and .u64 (IntKind.u64.wrap k) 63 = ((64 - n : Nat) : Int)) : Calls Tryd.prog 89 #[.int .u64 x, .int .i64 k] w fun e w' => e = .returned (.int .u64 (rotl64 x (64 - n))) ∧ w' = w := by
  have h := rot64_core x k ((64 - n : Nat) : Int) w hb (by omega) (by omega)
  simpa using h
end Go.Proofs.YtbpkocohddlbhaaDoor
namespace Go.Proofs.YtbpkocohddlbhaaDoor
open Go.RowKit

/-- A world that differs in what it drew alone. -/
structure Sm (w w' : World) : Prop where
  os : w'.os = w.os
  tape : w'.tape = w.tape
  output : w'.output = w.output
  heap : w'.heap = w.heap
theorem Sm.refl (w : World) : Sm w w := ⟨rfl, rfl, rfl, rfl⟩
theorem Sm.drewN {w v : World} (h : Sm w v) (m : Nat) : Sm w (v.drewN m) := ⟨h.os, h.tape, h.output, h.heap⟩
theorem Sm.trans {a b c : World} (h : Sm a b) (k : Sm b c) : Sm a c := ⟨k.os.trans h.os, k.tape.trans h.tape, k.output.trans h.output, k.heap.trans h.heap⟩
theorem Sm.cell {w v : World} (h : Sm w v) (p : Addr) : v.cell? p = w.cell? p := World.cell?_of_block (by rw [h.heap])
theorem Sm.frozen {w v : World} (h : Sm w v) (p : Addr) : v.frozen? p = w.frozen? p := World.frozen?_of_block (by rw [h.heap])

theorem setCells_os (b : Nat) : ∀ (vs : List Value) (o : Nat) (w : World), (w.setCells b o vs).os = w.os
  | [], _, _ => rfl
  | v :: r, o, w => by rw [World.setCells, setCells_os b r (o + 1)]; rfl
theorem setCells_tape (b : Nat) : ∀ (vs : List Value) (o : Nat) (w : World), (w.setCells b o vs).tape = w.tape
  | [], _, _ => rfl
  | v :: r, o, w => by rw [World.setCells, setCells_tape b r (o + 1)]; rfl
theorem setCells_output (b : Nat) : ∀ (vs : List Value) (o : Nat) (w : World), (w.setCells b o vs).output = w.output
  | [], _, _ => rfl
  | v :: r, o, w => by rw [World.setCells, setCells_output b r (o + 1)]; rfl

/-- From w to w' nothing of what was there is changed but n cells of block g from o on; what could be written there can be still. -/
structure Touch (w w' : World) (g o n : Nat) : Prop where
  os : w'.os = w.os
  tape : w'.tape = w.tape
  output : w'.output = w.output
  size : w.heap.size ≤ w'.heap.size
  block : ∀ k, k < w.heap.size → k ≠ g → w'.heap[k]? = w.heap[k]?
  cell : ∀ j, (j < o ∨ o + n ≤ j) → w'.cell? ⟨g, j, none⟩ = w.cell? ⟨g, j, none⟩
  there : ∀ o' n', w.there g o' n' → w'.there g o' n'

theorem Sm.touch {w v : World} (h : Sm w v) (g o n : Nat) : Touch w v g o n :=
  ⟨h.os, h.tape, h.output, by rw [h.heap]; exact Nat.le_refl _, fun k _ _ => by rw [h.heap], fun j _ => h.cell _, fun o' n' ht j hj => by rw [h.cell, h.frozen]; exact ht j hj⟩
theorem Touch.refl (w : World) (g o n : Nat) : Touch w w g o n := (Sm.refl w).touch g o n
theorem Touch.trans {a b c : World} {g o n : Nat} (h : Touch a b g o n) (k : Touch b c g o n) : Touch a c g o n :=
  ⟨k.os.trans h.os, k.tape.trans h.tape, k.output.trans h.output, Nat.le_trans h.size k.size, fun i hi hne => (k.block i (Nat.lt_of_lt_of_le hi h.size) hne).trans (h.block i hi hne), fun j hj => (k.cell j hj).trans (h.cell j hj), fun o' n' ht => k.there o' n' (h.there o' n' ht)⟩
theorem Touch.mono {a b : World} {g o n : Nat} (h : Touch a b g o n) (o' n' : Nat) (h1 : o' ≤ o) (h2 : o + n ≤ o' + n') : Touch a b g o' n' :=
  ⟨h.os, h.tape, h.output, h.size, h.block, fun j hj => h.cell j (by omega), h.there⟩
theorem Touch.setCells {a b : World} {g o n : Nat} (h : Touch a b g o n) (o' : Nat) (vs : List Value) (h1 : o ≤ o') (h2 : o' + vs.length ≤ o + n) : Touch a (b.setCells g o' vs) g o n := by
  refine h.trans ⟨?_, ?_, ?_, ?_, ?_, ?_, ?_⟩
  · exact setCells_os g vs o' b
  · exact setCells_tape g vs o' b
  · exact setCells_output g vs o' b
  · rw [size_setCells]; exact Nat.le_refl _
  · intro k hk hne
    exact World.heap_setCells_other b g o' vs hk hne
  · intro j hj
    exact World.cell?_setCells_out g vs o' b ⟨g, j, none⟩ (fun _ _ => by rcases hj with h | h; exact .inl (by show j < o'; omega); exact .inr (by show o' + vs.length ≤ j; omega))
  · intro o2 n2 ht
    exact World.there_setCells ht g o' vs
theorem Touch.setCell {a b : World} {g o n : Nat} (h : Touch a b g o n) (j : Nat) (u : Value) (h1 : o ≤ j) (h2 : j < o + n) : Touch a (b.setCell ⟨g, j, none⟩ u) g o n :=
  h.setCells j [u] h1 (by simp; omega)
theorem Touch.alloc {a b : World} {g o n : Nat} (h : Touch a b g o n) (ob : Obj) (hg : g < a.heap.size) : Touch a (b.alloc ob) g o n := by
  have hs := h.size
  refine h.trans ⟨rfl, rfl, rfl, by simp, ?_, ?_, ?_⟩
  · intro k hk _
    exact Below.heap_alloc b ob k hk
  · intro j _
    exact World.cell?_alloc_past ob g j (by omega)
  · intro o' n' ht
    exact World.there_alloc ht ob
theorem Touch.drew {a b : World} {g o n : Nat} (h : Touch a b g o n) : Touch a b.drew g o n := ⟨h.os, h.tape, h.output, h.size, h.block, h.cell, h.there⟩
theorem Touch.drewN {a b : World} {g o n : Nat} (h : Touch a b g o n) (m : Nat) : Touch a (b.drewN m) g o n := ⟨h.os, h.tape, h.output, h.size, h.block, h.cell, h.there⟩
/-- What only makes new blocks touches nothing. -/
theorem Touch.below {a b c : World} {g o n : Nat} (h : Touch a b g o n) (k : Below b.heap.size b c) (hg : g < a.heap.size) : Touch a c g o n := by
  have hs := h.size
  refine h.trans ⟨k.os, k.tape, k.output, k.size, fun i hi _ => k.block i hi, fun j _ => k.cell (p := ⟨g, j, none⟩) (show g < _ by omega), ?_⟩
  intro o' n' ht j hj
  rw [k.cell (p := ⟨g, o' + j, none⟩) (show g < _ by omega), k.frozen (p := ⟨g, o' + j, none⟩) (show g < _ by omega)]
  exact ht j hj
theorem Touch.toBelow {a b : World} {g o n B : Nat} (h : Touch a b g o n) (hg : B ≤ g) (hB : B ≤ a.heap.size) : Below B a b :=
  ⟨h.os, h.tape, h.output, h.size, fun k hk => h.block k (by omega) (by omega)⟩
theorem Touch.far {a b : World} {g o n : Nat} (h : Touch a b g o n) {p : Addr} (hp : p.block < a.heap.size) (hne : p.block ≠ g) : b.cell? p = a.cell? p := World.cell?_of_block (h.block p.block hp hne)
theorem Touch.farFrozen {a b : World} {g o n : Nat} (h : Touch a b g o n) {p : Addr} (hp : p.block < a.heap.size) (hne : p.block ≠ g) : b.frozen? p = a.frozen? p := World.frozen?_of_block (h.block p.block hp hne)
end Go.Proofs.YtbpkocohddlbhaaDoor
namespace Go.Proofs.YtbpkocohddlbhaaDoor
open Go.RowKit
set_option linter.unusedVariables false

/-- The eight words of a round. -/
structure Eight where
  (a b c d e f g k : Int)
def Eight.list (s : Eight) : List Int := [s.a, s.b, s.c, s.d, s.e, s.f, s.g, s.k]
def Eight.cells (s : Eight) : List Value := s.list.map (Value.int .u64)
def Eight.map (f : Int → Int) (s : Eight) : Eight := ⟨f s.a, f s.b, f s.c, f s.d, f s.e, f s.f, f s.g, f s.k⟩
def Eight.zip (f : Int → Int → Int) (s t : Eight) : Eight := ⟨f s.a t.a, f s.b t.b, f s.c t.c, f s.d t.d, f s.e t.e, f s.f t.f, f s.g t.g, f s.k t.k⟩

theorem val_eqD {k : IntKind} {x y : Int} (h : x = y) : Value.int k x = Value.int k y := by rw [h]
theorem step_cells {w : World} {g o q : Nat} {A B : List Value} (h : w.rangeAt g o (A.take q ++ B.drop q)) (ht : w.there g o 8) (hq : q < 8) (v' : Value) (hv : A[q]? = some v') (hA : A.length = 8 := by rfl) (hB : B.length = 8 := by rfl) :
    (w.setCell ⟨g, o + q, none⟩ v').rangeAt g o (A.take (q + 1) ++ B.drop (q + 1)) := by
  intro j x hx
  by_cases hj : j = q
  · subst hj
    have hx' : (A.take (j + 1) ++ B.drop (j + 1))[j]? = A[j]? := by
      rw [List.getElem?_append_left (by simp; omega)]
      simp
    rw [hx', hv] at hx
    obtain rfl := Option.some.inj hx
    exact World.cell?_setCell_same' _ _ _ (ht j hq).1
  · have hx' : (A.take q ++ B.drop q)[j]? = some x := by
      by_cases hjq : j < q
      · rw [List.getElem?_append_left (by simp; omega)] at hx ⊢
        simp only [List.getElem?_take] at hx ⊢
        rw [if_pos (by omega)] at hx ⊢
        exact hx
      · rw [List.getElem?_append_right (by simp; omega)] at hx ⊢
        simp only [List.length_take, List.getElem?_drop] at hx ⊢
        rw [show min (q + 1) A.length = q + 1 by omega] at hx
        rw [show min q A.length = q by omega]
        rw [show q + 1 + (j - (q + 1)) = j by omega] at hx
        rw [show q + (j - q) = j by omega]
        exact hx
    have h0 := h j x hx'
    have : (w.setCells g (o + q) [v']).cell? ⟨g, o + j, none⟩ = w.cell? ⟨g, o + j, none⟩ := World.cell?_setCells_out g [v'] (o + q) w ⟨g, o + j, none⟩ (fun _ _ => by
      show o + j < o + q ∨ o + q + 1 ≤ o + j
      omega)
    exact this.trans h0

def t1_32 (s : Eight) (kc wv : Int) : Int := (s.k + (bits .xor .u32 (bits .xor .u32 (rotl32 s.e 26) (rotl32 s.e 21)) (rotl32 s.e 7)) + (bits .xor .u32 (bits .and .u32 s.e s.f) (bits .and .u32 (bits .xor .u32 (if IntKind.u32.signed = true then -1 else IntKind.u32.max) s.e) s.g)) + kc / 4294967296 + wv) % 4294967296
def t2_32 (s : Eight) : Int := ((bits .xor .u32 (bits .xor .u32 (rotl32 s.a 30) (rotl32 s.a 19)) (rotl32 s.a 10)) + (bits .xor .u32 (bits .xor .u32 (bits .and .u32 s.a s.b) (bits .and .u32 s.a s.c)) (bits .and .u32 s.b s.c))) % 4294967296
def round32 (s : Eight) (kc wv : Int) : Eight := ⟨(t1_32 s kc wv + t2_32 s) % 4294967296, s.a, s.b, s.c, (s.d + t1_32 s kc wv) % 4294967296, s.e, s.f, s.g⟩
def rounds32 (C W : Nat → Int) : Nat → Eight → Eight
  | 0, s => s
  | t + 1, s => round32 (rounds32 C W t s) (C t) (W t)

set_option maxHeartbeats 3200000 in
set_option maxRecDepth 100000 in
theorem rounds32_walk (g o wb : Nat) (h0 h1 h2 h3 h4 h5 h6 h7 : Int) (W C : Nat → Int) (w : World)
    (hr : w.rangeAt g o (Eight.cells ⟨h0, h1, h2, h3, h4, h5, h6, h7⟩)) (ht : w.there g o 8)
    (hW : ∀ t, t < 64 → w.cell? ⟨wb, t, none⟩ = some (.int .u32 (W t)))
    (hC : ∀ t, t < 64 → w.cell? ⟨3, t, none⟩ = some (.int .u64 (C t))) :
    Calls Tryd.prog 88 #[.pointer (some ⟨g, o, none⟩), .pointer (some ⟨wb, 0, none⟩)] w fun e w' => e = .returned (.tuple #[]) ∧ Touch w w' g o 8 ∧ w'.rangeAt g o (Eight.cells (Eight.zip (fun h x => (h + x) % 4294967296) ⟨h0, h1, h2, h3, h4, h5, h6, h7⟩ (rounds32 C W 64 ⟨h0 % 4294967296, h1 % 4294967296, h2 % 4294967296, h3 % 4294967296, h4 % 4294967296, h5 % 4294967296, h6 % 4294967296, h7 % 4294967296⟩))) := by
  have HW : Hid (∀ t, t < 64 → w.cell? ⟨wb, t, none⟩ = some (.int .u32 (W t))) := hW
  have HC : Hid (∀ t, t < 64 → w.cell? ⟨3, t, none⟩ = some (.int .u64 (C t))) := hC
  have HR : Hid (w.rangeAt g o (Eight.cells ⟨h0, h1, h2, h3, h4, h5, h6, h7⟩)) := hr
  have HT : Hid (w.there g o 8) := ht
  have c0 : w.cell? ⟨g, o, none⟩ = some (.int .u64 h0) := hr 0 _ rfl
  have c1 : w.cell? ⟨g, o + 1, none⟩ = some (.int .u64 h1) := hr 1 _ rfl
  have c2 : w.cell? ⟨g, o + 2, none⟩ = some (.int .u64 h2) := hr 2 _ rfl
  have c3 : w.cell? ⟨g, o + 3, none⟩ = some (.int .u64 h3) := hr 3 _ rfl
  have c4 : w.cell? ⟨g, o + 4, none⟩ = some (.int .u64 h4) := hr 4 _ rfl
  have c5 : w.cell? ⟨g, o + 5, none⟩ = some (.int .u64 h5) := hr 5 _ rfl
  have c6 : w.cell? ⟨g, o + 6, none⟩ = some (.int .u64 h6) := hr 6 _ rfl
  have c7 : w.cell? ⟨g, o + 7, none⟩ = some (.int .u64 h7) := hr 7 _ rfl
  clear hW hC hr ht
  go_enter Tryd.func88, Tryd.ntmps88
  go_wp2
  go_quiet (fail)
  go_wp2
  go_quiet (fail)
  clear c0 c1 c2 c3 c4 c5 c6 c7
  go_wp2
  go_loopw [4, 5, 6, 7, 8, 9, 10, 11, 59] (fun va vb vc vd ve vf vg vk i wr => ∃ t : Nat, ∃ s : Eight, t ≤ 64 ∧ i = .int .i64 t ∧ va = .int .u32 s.a ∧ vb = .int .u32 s.b ∧ vc = .int .u32 s.c ∧ vd = .int .u32 s.d ∧ ve = .int .u32 s.e ∧ vf = .int .u32 s.f ∧ vg = .int .u32 s.g ∧ vk = .int .u32 s.k ∧ Hid (s = rounds32 C W t ⟨h0 % 4294967296, h1 % 4294967296, h2 % 4294967296, h3 % 4294967296, h4 % 4294967296, h5 % 4294967296, h6 % 4294967296, h7 % 4294967296⟩) ∧ Hid (Sm w wr)) (fun _ _ _ _ _ _ _ _ i _ => 64 - (intOf i).toNat)
  case atStart => exact ⟨0, ⟨h0 % 4294967296, h1 % 4294967296, h2 % 4294967296, h3 % 4294967296, h4 % 4294967296, h5 % 4294967296, h6 % 4294967296, h7 % 4294967296⟩, by omega, rfl, rfl, rfl, rfl, rfl, rfl, rfl, rfl, rfl, rfl, ((Sm.refl w).drewN _).drewN _⟩
  case round =>
    obtain ⟨t, ⟨a, b, c, d, e, f, g1, k⟩, ht, rfl, rfl, rfl, rfl, rfl, rfl, rfl, rfl, rfl, HS, HM⟩ := hrel
    by_cases hlt : t < 64
    · have hw : wr.cell? ⟨wb, t, none⟩ = some (.int .u32 (W t)) := by rw [HM.out.cell]; exact HW.out t hlt
      have hc : wr.cell? ⟨3, t, none⟩ = some (.int .u64 (C t)) := by rw [HM.out.cell]; exact HC.out t hlt
      go_wp2_with (first | (go_at_call 87; (first | refine (rot32_of 6 (by decide +kernel)).mono ?_ | refine (rot32_of 11 (by decide +kernel)).mono ?_ | refine (rot32_of 25 (by decide +kernel)).mono ?_ | refine (rot32_of 2 (by decide +kernel)).mono ?_ | refine (rot32_of 13 (by decide +kernel)).mono ?_ | refine (rot32_of 22 (by decide +kernel)).mono ?_); (rintro e1 w1 ⟨rfl, hw1⟩; obtain rfl := hw1.symm)))
      go_quiet (fail)
      go_wp2_with (first | (go_at_call 87; (first | refine (rot32_of 6 (by decide +kernel)).mono ?_ | refine (rot32_of 11 (by decide +kernel)).mono ?_ | refine (rot32_of 25 (by decide +kernel)).mono ?_ | refine (rot32_of 2 (by decide +kernel)).mono ?_ | refine (rot32_of 13 (by decide +kernel)).mono ?_ | refine (rot32_of 22 (by decide +kernel)).mono ?_); (rintro e1 w1 ⟨rfl, hw1⟩; obtain rfl := hw1.symm)))
      go_roundw
      case rel =>
        refine ⟨t + 1, round32 ⟨a, b, c, d, e, f, g1, k⟩ (C t) (W t), by omega, by go_num, rfl, rfl, rfl, rfl, rfl, rfl, rfl, rfl, ?_, HM.out.drewN _⟩
        have := HS.out
        rw [this]
        exact rfl
      case measure => simp [intOf]; omega
    · obtain rfl : t = 64 := by omega
      clear hlt ht HW HC
      have HE : Hid (Eight.zip (fun h x => (h + x) % 4294967296) ⟨h0, h1, h2, h3, h4, h5, h6, h7⟩ (rounds32 C W 64 ⟨h0 % 4294967296, h1 % 4294967296, h2 % 4294967296, h3 % 4294967296, h4 % 4294967296, h5 % 4294967296, h6 % 4294967296, h7 % 4294967296⟩) = ⟨((h0 + a) % 4294967296), ((h1 + b) % 4294967296), ((h2 + c) % 4294967296), ((h3 + d) % 4294967296), ((h4 + e) % 4294967296), ((h5 + f) % 4294967296), ((h6 + g1) % 4294967296), ((h7 + k) % 4294967296)⟩) := by
        rw [← HS.out]
        exact rfl
      clear HS
      go_wp2
      go_loopw [137] (fun i wr => ∃ q : Nat, q ≤ 8 ∧ i = .int .i64 q ∧ Hid (Touch w wr g o 8) ∧ Hid (wr.rangeAt g o ((Eight.cells ⟨((h0 + a) % 4294967296), ((h1 + b) % 4294967296), ((h2 + c) % 4294967296), ((h3 + d) % 4294967296), ((h4 + e) % 4294967296), ((h5 + f) % 4294967296), ((h6 + g1) % 4294967296), ((h7 + k) % 4294967296)⟩).take q ++ (Eight.cells ⟨h0, h1, h2, h3, h4, h5, h6, h7⟩).drop q))) (fun i _ => 8 - (intOf i).toNat)
      case atStart => exact ⟨0, by omega, rfl, HM.out.touch _ _ _, fun j v hv => by rw [HM.out.cell]; exact HR.out j v hv⟩
      case round =>
        obtain ⟨q, hq, rfl, HT1, HR1⟩ := hrel
        have hq9 : q = 0 ∨ q = 1 ∨ q = 2 ∨ q = 3 ∨ q = 4 ∨ q = 5 ∨ q = 6 ∨ q = 7 ∨ q = 8 := by omega
        clear hq HM
        rcases hq9 with rfl | rfl | rfl | rfl | rfl | rfl | rfl | rfl | rfl
        · have hcell : wr.cell? ⟨g, o, none⟩ = some (.int .u64 h0) := HR1.out 0 _ rfl
          have hfr : wr.frozen? ⟨g, o, none⟩ = false := ((HT1.out.there _ _ HT.out) 0 (by omega)).2
          have hrun : Sem.run Tryd.prog (Instr.index 92 (.agg #[.int .u32 a, .int .u32 b, .int .u32 c, .int .u32 d, .int .u32 e, .int .u32 f, .int .u32 g1, .int .u32 k]) (.int .i64 0)) wr = .ok (.int .u32 a) wr := by kernel_rfl
          go_wp2
          go_region
          go_wp2
          go_roundw
          case rel =>
            refine ⟨1, by omega, rfl, ?_, ?_⟩
            · exact (HT1.out.setCell (o) _ (by omega) (by omega)).drew
            · exact (World.rangeAt_drew _ _ _ _).2 (step_cells (q := 0) HR1.out (HT1.out.there _ _ HT.out) (by omega) _ rfl)
          case measure => simp [intOf]
        · have hcell : wr.cell? ⟨g, o + 1, none⟩ = some (.int .u64 h1) := HR1.out 1 _ rfl
          have hfr : wr.frozen? ⟨g, o + 1, none⟩ = false := ((HT1.out.there _ _ HT.out) 1 (by omega)).2
          have hrun : Sem.run Tryd.prog (Instr.index 92 (.agg #[.int .u32 a, .int .u32 b, .int .u32 c, .int .u32 d, .int .u32 e, .int .u32 f, .int .u32 g1, .int .u32 k]) (.int .i64 1)) wr = .ok (.int .u32 b) wr := by kernel_rfl
          go_wp2
          go_region
          go_wp2
          go_roundw
          case rel =>
            refine ⟨2, by omega, rfl, ?_, ?_⟩
            · exact (HT1.out.setCell (o + 1) _ (by omega) (by omega)).drew
            · exact (World.rangeAt_drew _ _ _ _).2 (step_cells (q := 1) HR1.out (HT1.out.there _ _ HT.out) (by omega) _ rfl)
          case measure => simp [intOf]
        · have hcell : wr.cell? ⟨g, o + 2, none⟩ = some (.int .u64 h2) := HR1.out 2 _ rfl
          have hfr : wr.frozen? ⟨g, o + 2, none⟩ = false := ((HT1.out.there _ _ HT.out) 2 (by omega)).2
          have hrun : Sem.run Tryd.prog (Instr.index 92 (.agg #[.int .u32 a, .int .u32 b, .int .u32 c, .int .u32 d, .int .u32 e, .int .u32 f, .int .u32 g1, .int .u32 k]) (.int .i64 2)) wr = .ok (.int .u32 c) wr := by kernel_rfl
          go_wp2
          go_region
          go_wp2
          go_roundw
          case rel =>
            refine ⟨3, by omega, rfl, ?_, ?_⟩
            · exact (HT1.out.setCell (o + 2) _ (by omega) (by omega)).drew
            · exact (World.rangeAt_drew _ _ _ _).2 (step_cells (q := 2) HR1.out (HT1.out.there _ _ HT.out) (by omega) _ rfl)
          case measure => simp [intOf]
        · have hcell : wr.cell? ⟨g, o + 3, none⟩ = some (.int .u64 h3) := HR1.out 3 _ rfl
          have hfr : wr.frozen? ⟨g, o + 3, none⟩ = false := ((HT1.out.there _ _ HT.out) 3 (by omega)).2
          have hrun : Sem.run Tryd.prog (Instr.index 92 (.agg #[.int .u32 a, .int .u32 b, .int .u32 c, .int .u32 d, .int .u32 e, .int .u32 f, .int .u32 g1, .int .u32 k]) (.int .i64 3)) wr = .ok (.int .u32 d) wr := by kernel_rfl
          go_wp2
          go_region
          go_wp2
          go_roundw
          case rel =>
            refine ⟨4, by omega, rfl, ?_, ?_⟩
            · exact (HT1.out.setCell (o + 3) _ (by omega) (by omega)).drew
            · exact (World.rangeAt_drew _ _ _ _).2 (step_cells (q := 3) HR1.out (HT1.out.there _ _ HT.out) (by omega) _ rfl)
          case measure => simp [intOf]
        · have hcell : wr.cell? ⟨g, o + 4, none⟩ = some (.int .u64 h4) := HR1.out 4 _ rfl
          have hfr : wr.frozen? ⟨g, o + 4, none⟩ = false := ((HT1.out.there _ _ HT.out) 4 (by omega)).2
          have hrun : Sem.run Tryd.prog (Instr.index 92 (.agg #[.int .u32 a, .int .u32 b, .int .u32 c, .int .u32 d, .int .u32 e, .int .u32 f, .int .u32 g1, .int .u32 k]) (.int .i64 4)) wr = .ok (.int .u32 e) wr := by kernel_rfl
          go_wp2
          go_region
          go_wp2
          go_roundw
          case rel =>
            refine ⟨5, by omega, rfl, ?_, ?_⟩
            · exact (HT1.out.setCell (o + 4) _ (by omega) (by omega)).drew
            · exact (World.rangeAt_drew _ _ _ _).2 (step_cells (q := 4) HR1.out (HT1.out.there _ _ HT.out) (by omega) _ rfl)
          case measure => simp [intOf]
        · have hcell : wr.cell? ⟨g, o + 5, none⟩ = some (.int .u64 h5) := HR1.out 5 _ rfl
          have hfr : wr.frozen? ⟨g, o + 5, none⟩ = false := ((HT1.out.there _ _ HT.out) 5 (by omega)).2
          have hrun : Sem.run Tryd.prog (Instr.index 92 (.agg #[.int .u32 a, .int .u32 b, .int .u32 c, .int .u32 d, .int .u32 e, .int .u32 f, .int .u32 g1, .int .u32 k]) (.int .i64 5)) wr = .ok (.int .u32 f) wr := by kernel_rfl
          go_wp2
          go_region
          go_wp2
          go_roundw
          case rel =>
            refine ⟨6, by omega, rfl, ?_, ?_⟩
            · exact (HT1.out.setCell (o + 5) _ (by omega) (by omega)).drew
            · exact (World.rangeAt_drew _ _ _ _).2 (step_cells (q := 5) HR1.out (HT1.out.there _ _ HT.out) (by omega) _ rfl)
          case measure => simp [intOf]
        · have hcell : wr.cell? ⟨g, o + 6, none⟩ = some (.int .u64 h6) := HR1.out 6 _ rfl
          have hfr : wr.frozen? ⟨g, o + 6, none⟩ = false := ((HT1.out.there _ _ HT.out) 6 (by omega)).2
          have hrun : Sem.run Tryd.prog (Instr.index 92 (.agg #[.int .u32 a, .int .u32 b, .int .u32 c, .int .u32 d, .int .u32 e, .int .u32 f, .int .u32 g1, .int .u32 k]) (.int .i64 6)) wr = .ok (.int .u32 g1) wr := by kernel_rfl
          go_wp2
          go_region
          go_wp2
          go_roundw
          case rel =>
            refine ⟨7, by omega, rfl, ?_, ?_⟩
            · exact (HT1.out.setCell (o + 6) _ (by omega) (by omega)).drew
            · exact (World.rangeAt_drew _ _ _ _).2 (step_cells (q := 6) HR1.out (HT1.out.there _ _ HT.out) (by omega) _ rfl)
          case measure => simp [intOf]
        · have hcell : wr.cell? ⟨g, o + 7, none⟩ = some (.int .u64 h7) := HR1.out 7 _ rfl
          have hfr : wr.frozen? ⟨g, o + 7, none⟩ = false := ((HT1.out.there _ _ HT.out) 7 (by omega)).2
          have hrun : Sem.run Tryd.prog (Instr.index 92 (.agg #[.int .u32 a, .int .u32 b, .int .u32 c, .int .u32 d, .int .u32 e, .int .u32 f, .int .u32 g1, .int .u32 k]) (.int .i64 7)) wr = .ok (.int .u32 k) wr := by kernel_rfl
          go_wp2
          go_region
          go_wp2
          go_roundw
          case rel =>
            refine ⟨8, by omega, rfl, ?_, ?_⟩
            · exact (HT1.out.setCell (o + 7) _ (by omega) (by omega)).drew
            · exact (World.rangeAt_drew _ _ _ _).2 (step_cells (q := 7) HR1.out (HT1.out.there _ _ HT.out) (by omega) _ rfl)
          case measure => simp [intOf]
        · go_wp2
          go_end0
          refine ⟨rfl, HT1.out, ?_⟩
          rw [HE.out]
          exact HR1.out
end Go.Proofs.YtbpkocohddlbhaaDoor
namespace Go.Proofs.YtbpkocohddlbhaaDoor
open Go.RowKit
set_option linter.unusedVariables false

theorem Touch.setNew {a b : World} {g o n : Nat} (h : Touch a b g o n) (k j : Nat) (u : Value) (hk : a.heap.size ≤ k) (hg : g < a.heap.size) : Touch a (b.setCell ⟨k, j, none⟩ u) g o n := by
  have hs := h.size
  have hb : ∀ i, i < a.heap.size → (b.setCell ⟨k, j, none⟩ u).heap[i]? = b.heap[i]? := fun i hi => Below.heap_setCell b ⟨k, j, none⟩ u i (by show i ≠ k; omega)
  refine ⟨h.os, h.tape, h.output, by simp [World.setCell]; exact hs, fun i hi hne => (hb i hi).trans (h.block i hi hne), fun i hi => ?_, fun o' n' ht i hi => ?_⟩
  · rw [World.cell?_of_block (w := b) (hb g hg)]
    exact h.cell i hi
  · rw [World.cell?_of_block (w := b) (a := ⟨g, o' + i, none⟩) (hb g hg), World.frozen?_of_block (w := b) (a := ⟨g, o' + i, none⟩) (hb g hg)]
    exact h.there o' n' ht i hi
theorem lt_of_cell {w : World} {a : Addr} {v : Value} (h : w.cell? a = some v) : a.block < w.heap.size := by
  by_cases hb : a.block < w.heap.size
  · exact hb
  · simp [World.cell?, Array.getElem?_eq_none (Nat.le_of_not_lt hb)] at h
/-- Cells outside what is touched read as they did. -/
theorem Touch.outside {w v : World} {g o n : Nat} (h : Touch w v g o n) {b p : Nat} {x : Value} (hx : w.cell? ⟨b, p, none⟩ = some x) (hs : b ≠ g ∨ p < o ∨ o + n ≤ p) : v.cell? ⟨b, p, none⟩ = some x := by
  by_cases hb : b = g
  · subst hb
    rw [h.cell p (by omega)]
    exact hx
  · rw [h.far (p := ⟨b, p, none⟩) (lt_of_cell hx) hb]
    exact hx
theorem Touch.thereFar {w v : World} {g o n : Nat} (h : Touch w v g o n) {b o' n' : Nat} (ht : w.there b o' n') (hb : b < w.heap.size) (hne : b ≠ g) : v.there b o' n' := fun j hj => by
  rw [h.far (p := ⟨b, o' + j, none⟩) hb hne, h.farFrozen (p := ⟨b, o' + j, none⟩) hb hne]
  exact ht j hj
/-- A row of cells that is filled from its beginning. -/
theorem fill_step {w : World} {k t N : Nat} {F : Nat → Value} (h : ∀ j, j < t → w.cell? ⟨k, j, none⟩ = some (F j)) (ht : w.there k 0 N) (htN : t < N) (u : Value) (hu : u = F t) :
    (∀ j, j < t + 1 → (w.setCell ⟨k, t, none⟩ u).drew.cell? ⟨k, j, none⟩ = some (F j)) ∧ (w.setCell ⟨k, t, none⟩ u).drew.there k 0 N := by
  subst hu
  constructor
  · intro j hj
    show (w.setCell ⟨k, t, none⟩ (F t)).cell? ⟨k, j, none⟩ = some (F j)
    by_cases e : j = t
    · subst e
      have := (ht j htN).1
      rw [Nat.zero_add] at this
      exact World.cell?_setCell_same' _ _ _ this
    · have := World.cell?_setCells_out k [F t] t w ⟨k, j, none⟩ (fun _ _ => by show j < t ∨ t + 1 ≤ j; omega)
      exact this.trans (h j (by omega))
  · exact World.there_setCells ht k t [F t]
theorem range_far {w : World} {g o k t : Nat} {cs : List Value} (h : w.rangeAt g o cs) (u : Value) (hne : g ≠ k) : (w.setCell ⟨k, t, none⟩ u).drew.rangeAt g o cs :=
  World.rangeAt_setCells_apart h k t [u] (.inl hne)
theorem slice_eq {a : Option Addr} {b q n m c d : Nat} (h1 : a = some ⟨b, q, none⟩) (h2 : n = m) (h3 : c = d) : Value.slice a n c = .slice (some ⟨b, q, none⟩) m d := by rw [h1, h2, h3]
def lenOf : Value → Nat
  | .slice _ l _ => l
  | _ => 0

/-- A word of a block of 64 bytes; the words that follow. -/
def word32 (B : Nat → Int) (t : Nat) : Int := bits .or .u32 (bits .or .u32 (bits .or .u32 (B (4 * t) % 4294967296 * 16777216 % 4294967296) (B (4 * t + 1) % 4294967296 * 65536 % 4294967296)) (B (4 * t + 2) % 4294967296 * 256 % 4294967296)) (B (4 * t + 3) % 4294967296)
def lo1_32 (x : Int) : Int := bits .xor .u32 (bits .xor .u32 (rotl32 x 15) (rotl32 x 13)) (x / 1024)
def lo0_32 (x : Int) : Int := bits .xor .u32 (bits .xor .u32 (rotl32 x 25) (rotl32 x 14)) (x / 8)
def sched32 (B : Nat → Int) (t : Nat) : Int :=
  if t < 16 then word32 B t else (lo1_32 (sched32 B (t - 2)) + sched32 B (t - 7) + lo0_32 (sched32 B (t - 15)) + sched32 B (t - 16)) % 4294967296
termination_by t
decreasing_by all_goals omega
def block32 (C B : Nat → Int) (s : Eight) : Eight := Eight.zip (fun h x => (h + x) % 4294967296) s (rounds32 C (sched32 B) 64 ⟨s.a % 4294967296, s.b % 4294967296, s.c % 4294967296, s.d % 4294967296, s.e % 4294967296, s.f % 4294967296, s.g % 4294967296, s.k % 4294967296⟩)
def takes32 (C B : Nat → Int) (s : Eight) : Nat → Eight
  | 0 => s
  | i + 1 => block32 C (fun j => B (64 * i + j)) (takes32 C B s i)

set_option maxHeartbeats 6400000 in
set_option maxRecDepth 100000 in
theorem narrow_walk (g o b p n cap : Nat) (s : Eight) (C B : Nat → Int) (w : World) (hg : g < w.heap.size) (hcap : n ≤ cap) (hcm : cap ≤ maxLen)
    (hr : w.rangeAt g o s.cells) (ht : w.there g o 8)
    (hB : ∀ i, i < n → w.cell? ⟨b, p + i, none⟩ = some (.int .u8 (B i)))
    (hsep : b ≠ g ∨ p + n ≤ o ∨ o + 8 ≤ p)
    (hC : ∀ t, t < 64 → w.cell? ⟨3, t, none⟩ = some (.int .u64 (C t))) (hg3 : 3 ≠ g) :
    Calls Tryd.prog 80 #[.pointer (some ⟨g, o, none⟩), .slice (some ⟨b, p, none⟩) n cap] w fun e w' => e = .returned (.tuple #[]) ∧ Touch w w' g o 8 ∧ w'.rangeAt g o (takes32 C B s (n / 64)).cells := by
  have HR : Hid (w.rangeAt g o s.cells) := hr
  have HT : Hid (w.there g o 8) := ht
  have HB : Hid (∀ i, i < n → w.cell? ⟨b, p + i, none⟩ = some (.int .u8 (B i))) := hB
  have HC : Hid (∀ t, t < 64 → w.cell? ⟨3, t, none⟩ = some (.int .u64 (C t))) := hC
  have HS : Hid (b ≠ g ∨ p + n ≤ o ∨ o + 8 ≤ p) := hsep
  have hcm' : cap ≤ 9223372036854775807 := by unfold maxLen at hcm; omega
  clear hr ht hB hC hcm hsep
  go_enter Tryd.func80, Tryd.ntmps80
  go_wp2
  go_loopw [1] (fun v wr => ∃ i q : Nat, 64 * i ≤ n ∧ (n = 64 * i ∨ q = p + 64 * i) ∧ v = .slice (some ⟨b, q, none⟩) (n - 64 * i) (cap - 64 * i) ∧ Hid (Touch w wr g o 8) ∧ Hid (wr.there w.heap.size 0 64 ∧ w.heap.size < wr.heap.size) ∧ Hid (wr.rangeAt g o (takes32 C B s i).cells)) (fun v _ => lenOf v)
  case atStart => exact ⟨0, p, by omega, .inr (by omega), rfl, (Touch.refl _ _ _ _).alloc _ hg, ⟨there_new w _ 90 64 (by decide), by simp⟩, World.rangeAt_alloc HR.out _⟩
  case round =>
    obtain ⟨i, q, hi, hq0, rfl, HT1, HN1, HR1⟩ := hrel
    by_cases hlt : 64 ≤ n - 64 * i
    · have hq : q = p + 64 * i := by omega
      obtain ⟨m, hm⟩ : ∃ m, m = n - 64 * i := ⟨_, rfl⟩
      obtain ⟨c, hc⟩ : ∃ c, c = cap - 64 * i := ⟨_, rfl⟩
      have hmc : m ≤ c := by omega
      have hcc : c ≤ 9223372036854775807 := by omega
      rw [← hm, ← hc]
      rw [← hm] at hlt
      have HQ : Hid (q = p + 64 * i ∧ m = n - 64 * i ∧ c = cap - 64 * i) := ⟨hq, hm, hc⟩
      have HBq : Hid (∀ j, j < 64 → w.cell? ⟨b, q + j, none⟩ = some (.int .u8 (B (64 * i + j)))) := fun j hj => by
        have := HB.out (64 * i + j) (by omega)
        rw [← Nat.add_assoc, ← hq] at this
        exact this
      have HSq : Hid (b ≠ g ∨ q + 64 ≤ o ∨ o + 8 ≤ q) := by rcases HS.out with h | h; exact .inl h; exact .inr (by omega)
      clear hq hm hc hq0
      go_wp2
      rw [show decide ((64 : Int) ≤ (m : Int)) = true by simp; omega]
      go_loopw [17] (fun v wr => ∃ t : Nat, t ≤ 16 ∧ v = .int .i64 t ∧ Hid (Touch w wr g o 8) ∧ Hid (wr.there w.heap.size 0 64 ∧ w.heap.size < wr.heap.size) ∧ Hid (wr.rangeAt g o (takes32 C B s i).cells) ∧ Hid (∀ j, j < t → wr.cell? ⟨w.heap.size, j, none⟩ = some (.int .u32 (sched32 (fun j => B (64 * i + j)) j)))) (fun v _ => 16 - (intOf v).toNat)
      case atStart => exact ⟨0, by omega, rfl, HT1, HN1, HR1, fun j hj => by omega⟩
      case round =>
        obtain ⟨t, ht, rfl, HT2, HN2, HR2, HF2⟩ := hrel
        clear HT1 HN1 HR1
        by_cases h16 : t < 16
        · have f0 : wr.cell? ⟨b, q + 4 * t, none⟩ = some (.int .u8 (B (64 * i + 4 * t))) := HT2.out.outside (HBq.out (4 * t) (by omega)) (by rcases HSq.out with h | h; exact .inl h; exact .inr (by omega))
          have f1 : wr.cell? ⟨b, q + 4 * t + 1, none⟩ = some (.int .u8 (B (64 * i + (4 * t + 1)))) := HT2.out.outside (HBq.out (4 * t + 1) (by omega)) (by rcases HSq.out with h | h; exact .inl h; exact .inr (by omega))
          have f2 : wr.cell? ⟨b, q + 4 * t + 2, none⟩ = some (.int .u8 (B (64 * i + (4 * t + 2)))) := HT2.out.outside (HBq.out (4 * t + 2) (by omega)) (by rcases HSq.out with h | h; exact .inl h; exact .inr (by omega))
          have f3 : wr.cell? ⟨b, q + 4 * t + 3, none⟩ = some (.int .u8 (B (64 * i + (4 * t + 3)))) := HT2.out.outside (HBq.out (4 * t + 3) (by omega)) (by rcases HSq.out with h | h; exact .inl h; exact .inr (by omega))
          have fw : wr.frozen? ⟨w.heap.size, t, none⟩ = false := by simpa using (HN2.out.1 t (by omega)).2
          obtain ⟨u, fu⟩ : ∃ u, wr.cell? ⟨w.heap.size, t, none⟩ = some u := by simpa [Option.isSome_iff_exists] using (HN2.out.1 t (by omega)).1
          go_wp2
          go_region
          go_wp2
          go_roundw
          case rel =>
            have hfill := fill_step (F := fun j => .int .u32 (sched32 (fun j => B (64 * i + j)) j)) HF2.out HN2.out.1 (show t < 64 by omega) (.int .u32 (word32 (fun j => B (64 * i + j)) t)) (by rw [sched32, if_pos h16])
            exact ⟨t + 1, by omega, by go_num, (HT2.out.setNew w.heap.size t _ (Nat.le_refl _) hg).drew, ⟨hfill.2, by simpa using HN2.out.2⟩, range_far HR2.out _ (by omega), hfill.1⟩
          case measure => simp [intOf]; omega
        · obtain rfl : t = 16 := by omega
          clear h16 ht HBq HSq
          go_wp2
          rw [show ((16 : Nat) : Int) = 16 from rfl]
          go_loopw [7] (fun v wr => ∃ t : Nat, t ≤ 48 ∧ v = .int .i64 (16 + (t : Int)) ∧ Hid (Touch w wr g o 8) ∧ Hid (wr.there w.heap.size 0 64 ∧ w.heap.size < wr.heap.size) ∧ Hid (wr.rangeAt g o (takes32 C B s i).cells) ∧ Hid (∀ j, j < 16 + t → wr.cell? ⟨w.heap.size, j, none⟩ = some (.int .u32 (sched32 (fun j => B (64 * i + j)) j)))) (fun v _ => 64 - (intOf v).toNat)
          case atStart => exact ⟨0, by omega, rfl, HT2, HN2, HR2, HF2⟩
          case round =>
            obtain ⟨t, ht, rfl, HT3, HN3, HR3, HF3⟩ := hrel
            clear HT2 HN2 HR2 HF2
            by_cases h48 : t < 48
            · have f2 : wr.cell? ⟨w.heap.size, t + 14, none⟩ = some (.int .u32 (sched32 (fun j => B (64 * i + j)) (t + 14))) := HF3.out _ (by omega)
              have f15 : wr.cell? ⟨w.heap.size, t + 1, none⟩ = some (.int .u32 (sched32 (fun j => B (64 * i + j)) (t + 1))) := HF3.out _ (by omega)
              have f7 : wr.cell? ⟨w.heap.size, t + 9, none⟩ = some (.int .u32 (sched32 (fun j => B (64 * i + j)) (t + 9))) := HF3.out _ (by omega)
              have f16 : wr.cell? ⟨w.heap.size, t, none⟩ = some (.int .u32 (sched32 (fun j => B (64 * i + j)) t)) := HF3.out _ (by omega)
              have fw : wr.frozen? ⟨w.heap.size, t + 16, none⟩ = false := by simpa using (HN3.out.1 (t + 16) (by omega)).2
              obtain ⟨u, fu⟩ : ∃ u, wr.cell? ⟨w.heap.size, t + 16, none⟩ = some u := by simpa [Option.isSome_iff_exists] using (HN3.out.1 (t + 16) (by omega)).1
              have e2 : (16 + (t : Int) - 2).toNat = t + 14 := by omega
              have e15 : (16 + (t : Int) - 15).toNat = t + 1 := by omega
              have e7 : (16 + (t : Int) - 7).toNat = t + 9 := by omega
              have e16 : (16 + (t : Int) - 16).toNat = t := by omega
              have e0 : (16 + (t : Int)).toNat = t + 16 := by omega
              go_wp2
              go_quiet (fail)
              go_wp2_with (first | (go_at_call 87; (first | refine (rot32_of 17 (by decide +kernel)).mono ?_ | refine (rot32_of 19 (by decide +kernel)).mono ?_ | refine (rot32_of 7 (by decide +kernel)).mono ?_ | refine (rot32_of 18 (by decide +kernel)).mono ?_); (rintro e1 w1 ⟨rfl, hw1⟩; obtain rfl := hw1.symm)))
              go_region
              go_wp2
              go_roundw
              case rel =>
                have hv : sched32 (fun j => B (64 * i + j)) (t + 16) = (lo1_32 (sched32 (fun j => B (64 * i + j)) (t + 14)) + sched32 (fun j => B (64 * i + j)) (t + 9) + lo0_32 (sched32 (fun j => B (64 * i + j)) (t + 1)) + sched32 (fun j => B (64 * i + j)) t) % 4294967296 := by
                  rw [sched32, if_neg (by omega)]
                  rw [show t + 16 - 2 = t + 14 by omega, show t + 16 - 7 = t + 9 by omega, show t + 16 - 15 = t + 1 by omega, show t + 16 - 16 = t by omega]
                have hF : ∀ j, j < t + 16 → wr.cell? ⟨w.heap.size, j, none⟩ = some (.int .u32 (sched32 (fun j => B (64 * i + j)) j)) := fun j hj => HF3.out j (by omega)
                have hfill := fill_step (w := wr.drewN nq) (F := fun j => .int .u32 (sched32 (fun j => B (64 * i + j)) j)) hF HN3.out.1 (show t + 16 < 64 by omega) (.int .u32 ((lo1_32 (sched32 (fun j => B (64 * i + j)) (t + 14)) + sched32 (fun j => B (64 * i + j)) (t + 9) + lo0_32 (sched32 (fun j => B (64 * i + j)) (t + 1)) + sched32 (fun j => B (64 * i + j)) t) % 4294967296)) (by rw [hv])
                exact ⟨t + 1, by omega, by go_num, ((HT3.out.drewN nq).setNew w.heap.size (t + 16) _ (Nat.le_refl _) hg).drew, ⟨hfill.2, by simpa using HN3.out.2⟩, range_far (w := wr.drewN nq) HR3.out _ (by omega), fun j hj => hfill.1 j (by omega)⟩
              case measure => simp [intOf]; omega
            · obtain rfl : t = 48 := by omega
              clear h48 ht
              go_wp2_with fail
              have hs := HT3.out.size
              refine (rounds32_walk g o w.heap.size _ _ _ _ _ _ _ _ (sched32 (fun j => B (64 * i + j))) C wr HR3.out (HT3.out.there _ _ HT.out) (fun j hj => HF3.out j (by omega)) (fun j hj => HT3.out.outside (HC.out j hj) (.inl hg3))).mono ?_
              rintro e w4 ⟨rfl, ht4, hr4⟩
              have HT4 : Hid (Touch w w4 g o 8) := HT3.out.trans ht4
              have HN4 : Hid (w4.there w.heap.size 0 64 ∧ w.heap.size < w4.heap.size) := ⟨ht4.thereFar HN3.out.1 HN3.out.2 (by omega), Nat.lt_of_lt_of_le HN3.out.2 ht4.size⟩
              have HR4 : Hid (w4.rangeAt g o (takes32 C B s (i + 1)).cells) := hr4
              clear ht4 hr4 HT3 HN3 HR3 HF3 hs
              go_wp2
              go_roundw
              case rel =>
                obtain ⟨h1, h2, h3⟩ := HQ.out
                exact ⟨i + 1, if c = 64 then q else q + 64, by omega, (by split <;> omega), slice_eq (by split <;> rfl) (by omega) (by omega), HT4, HN4, HR4⟩
              case measure => simp [lenOf]; omega
    · go_wp2
      go_end0
      refine ⟨rfl, HT1.out, ?_⟩
      rw [show n / 64 = i by omega]
      exact HR1.out
end Go.Proofs.YtbpkocohddlbhaaDoor
