import Derived.Test.YtehlppaidgkpaaaGreatDoorPart45
import Derived.Test.YtehlppaidgkpaaaGreatDoorPart47
import Derived.Test.YtehlppaidgkpaaaGreatDoorPart26
import Derived.Deep.Cut
import Derived.Test.YtehlppaidgkpaaaGreatDoorPart46
import Derived.Test.YtehlppaidgkpaaaGreatDoorPart43
import Derived.Test.YtehlppaidgkpaaaGreatDoorPart44
namespace Go.Proofs.YtehlppaidgkpaaaGreatDoor
open Go.RowKit
set_option linter.unusedVariables false
set_option linter.unusedSimpArgs false
/-- Doubled so often. -/
def dbN (t : BitVec 128) : Nat → BitVec 128
  | 0 => t
  | j + 1 => Fld.TX (dbN t j)
/-- xts.masks: the receiver's box at M, the row at x with j masks. -/
structure XmI (Ks : Nat → Prop) (I : World → Prop) (BX : List Value) (f : Nat → BitVec 128) (M x k : Nat) (w u : World) (j : Nat) : Prop where
  inv : I u
  box : Bx u M 252 BX
  row : ∃ T, Bx u x 27 (bkL f j ++ T) ∧ T.length = 16 * (k - j)
  gk : Gk Ks w u
  hM : w.heap.size ≤ M
  hx : w.heap.size ≤ x
  ne : M ≠ x
theorem XmI.grown {Ks : Nat → Prop} {I : World → Prop} {B : Nat} {BX : List Value} {f : Nat → BitVec 128} {M x k : Nat} {w u v : World} {j : Nat} (hC : Cst B Ks I) (hw : B ≤ w.heap.size) (h : XmI Ks I BX f M x k w u j) (hi : I v) (hk : Gk Ks u v) : XmI Ks I BX f M x k w v j := by
  obtain ⟨T, h1, h2⟩ := h.row
  exact ⟨hi, h.box.gk hk (hC.new (Nat.le_trans hw h.hM)), ⟨T, h1.gk hk (hC.new (Nat.le_trans hw h.hx)), h2⟩, h.gk.trans hk, h.hM, h.hx, h.ne⟩
theorem XmI.below {Ks : Nat → Prop} {I : World → Prop} {B : Nat} {BX : List Value} {f : Nat → BitVec 128} {M x k : Nat} {w u v : World} {j : Nat} (hC : Cst B Ks I) (hw : B ≤ w.heap.size) (h : XmI Ks I BX f M x k w u j) (hb : Below u.heap.size u v) : XmI Ks I BX f M x k w v j := h.grown hC hw (hC.below h.inv hb) (Gk.of_below hb)
theorem XmI.put {Ks : Nat → Prop} {I : World → Prop} {B : Nat} {BX : List Value} {f : Nat → BitVec 128} {M x k : Nat} {w u v : World} {j : Nat} (hC : Cst B Ks I) (hw : B ≤ w.heap.size) (h : XmI Ks I BX f M x k w u j) {g : Nat} (hb : u.grownBy v (some g)) (hg : w.heap.size ≤ g) (g1 : g ≠ M) (g2 : g ≠ x) : XmI Ks I BX f M x k w v j := by
  obtain ⟨T, h1, h2⟩ := h.row
  exact ⟨hC.gb h.inv hb (Nat.le_trans hw hg), h.box.keep (hb.block M h.box.lt (fun e => g1 (by injection e with e; exact e.symm))), ⟨T, h1.keep (hb.block x h1.lt (fun e => g2 (by injection e with e; exact e.symm))), h2⟩, h.gk.gb hb hg, h.hM, h.hx, h.ne⟩
theorem XmI.there {Ks : Nat → Prop} {I : World → Prop} {B : Nat} {BX : List Value} {f : Nat → BitVec 128} {M x k : Nat} {w u : World} {j : Nat} (hC : Cst B Ks I) (hw : B ≤ w.heap.size) (h : XmI Ks I BX f M x k w u j) (hj : j < k) : u.there x (0 + j * 16) 16 := by
  obtain ⟨T, h1, h2⟩ := h.row
  intro i hi
  have hl : 0 + j * 16 + i < (bkL f j ++ T).length := by rw [List.length_append, bkL_len, h2]; omega
  exact ⟨by rw [h1.cell _ _ (List.getElem?_eq_getElem hl)]; rfl, h1.frozen _⟩
theorem XmI.store {Ks : Nat → Prop} {I : World → Prop} {B : Nat} {BX : List Value} {f : Nat → BitVec 128} {M x k : Nat} {w u : World} {j : Nat} (hC : Cst B Ks I) (hw : B ≤ w.heap.size) (h : XmI Ks I BX f M x k w u j) (hj : j < k) : XmI Ks I BX f M x k w (u.setCells x (0 + j * 16) (Fd.BL (f j))) (j + 1) := by
  obtain ⟨T, h1, h2⟩ := h.row
  have hb := setCells_gb x (Fd.BL (f j)) (0 + j * 16) u
  refine ⟨hC.gb h.inv hb (Nat.le_trans hw h.hx), h.box.keep (hb.block M h.box.lt (fun e => h.ne (by injection e))), ⟨T.drop 16, ?_, by rw [List.length_drop, h2]; omega⟩, h.gk.gb hb h.hx, h.hM, h.hx, h.ne⟩
  have q := h1.storeAt (o := 0 + j * 16) (L := Fd.BL (f j)) (by rw [Fd.BL_length, List.length_append, bkL_len, h2]; omega)
  have e : splice (bkL f j ++ T) (0 + j * 16) (Fd.BL (f j)) = bkL f (j + 1) ++ T.drop 16 := by
    simp only [splice, Fd.BL_length]
    rw [bkL_succ, List.take_append_of_le_length (by rw [bkL_len]; omega), List.take_of_length_le (by rw [bkL_len]; omega), List.drop_append, bkL_len, List.drop_of_length_le (by rw [bkL_len]; omega), show 0 + j * 16 + 16 - 16 * j = 16 by omega]
    simp
  rw [e] at q
  exact q
set_option maxHeartbeats 3200000 in
set_option maxRecDepth 100000 in
/-- xts.masks. -/
theorem xmasks_ok {B : Nat} {Ks : Nat → Prop} {I : World → Prop} (hC : Cst B Ks I) (fn sh g2 : Nat) (cs : Array Value) (hE : ∀ args u, (callFunc fn args).run Tryz.prog u = .ok (.enter fn args) u) (U : BitVec 128 → BitVec 128) (fi : BitVec 128) (s n k : Nat) (w : World) (hI : I w) (hn1 : 16 * k < n + 16) (hn2 : n ≤ 16 * k) (hn3 : n ≤ 4096)
    (HF : ∀ u, I u → Calls Tryz.prog fn (#[.int .u64 (s : Nat), .int .i64 (n : Nat)] ++ cs) u fun e w' => Hid (e = .returned (Fd.BV fi) ∧ I w' ∧ Gk Ks u w'))
    (HU : DoI Ks I 188 (.pointer (some ⟨g2, 0, none⟩)) U) :
    Calls Tryz.prog 230 #[.agg #[.pointer (some ⟨sh, 0, none⟩), .func (.func fn) #[] cs, .pointer (some ⟨g2, 0, none⟩)], .int .u64 (s : Nat), .int .i64 (n : Nat)] w fun e w' => Hid (∃ x, e = .returned (.slice (some ⟨x, 0, none⟩) k k) ∧ w.heap.size ≤ x ∧ Bx w' x 27 (bkL (dbN (U fi)) k) ∧ I w' ∧ Gk Ks w w') := by
  obtain ⟨w1, hw1⟩ : ∃ w1, w1 = w.alloc (.cells #[.pointer (some ⟨sh, 0, none⟩), .func (.func fn) #[] cs, .pointer (some ⟨g2, 0, none⟩)] 252) := ⟨_, rfl⟩
  have hb1 : Below w.heap.size w w1 := by rw [hw1]; exact (Below.refl _ _).alloc (Nat.le_refl _) _
  have hB1 : Bx w1 w.heap.size 252 [.pointer (some ⟨sh, 0, none⟩), .func (.func fn) #[] cs, .pointer (some ⟨g2, 0, none⟩)] := by rw [hw1]; exact Bx.new w 252 [.pointer (some ⟨sh, 0, none⟩), .func (.func fn) #[] cs, .pointer (some ⟨g2, 0, none⟩)]
  obtain ⟨f, Hf⟩ : ∃ f : Nat → BitVec 128, Hid (f = dbN (U fi)) := ⟨_, rfl⟩
  obtain ⟨FI, HFI⟩ : ∃ L, Hid (L = Fd.BL fi) := ⟨_, rfl⟩
  obtain ⟨N0, HN0⟩ : ∃ L, Hid (L = Fd.BL (f 0)) := ⟨_, rfl⟩
  have HFN : Hid (∀ u, I u → Calls Tryz.prog fn (#[.int .u64 (s : Nat), .int .i64 (n : Nat)] ++ cs) u fun e w' => Hid (e = .returned (.agg FI.toArray) ∧ I w' ∧ Gk Ks u w')) := fun u hu => by rw [HFI.out]; exact HF u hu
  have HUN : Hid (∀ u, I u → Calls Tryz.prog 188 #[.pointer (some ⟨g2, 0, none⟩), .agg FI.toArray] u fun e w' => Hid (e = .returned (.agg N0.toArray) ∧ I w' ∧ Gk Ks u w')) := fun u hu => by rw [HFI.out, HN0.out, Hf.out]; exact HU fi u hu
  have HDB : Hid (∀ u j, Calls Tryz.prog 24 #[.agg (Fd.BL (f j)).toArray] u fun e w' => e = .returned (.agg (Fd.BL (f (j + 1))).toArray) ∧ Below u.heap.size u w') := fun u j => by rw [Hf.out]; exact Fd.double_ok _ u
  obtain ⟨i0, hi0, hz0, hz1, hz2⟩ := info_parts Tryz.info29b
  have HI0 : Hid (Tryz.prog.info? 27 = some i0 ∧ i0.zero = some (.agg ZZ.toArray) ∧ i0.size = 16 ∧ i0.bytes = 16) := ⟨hi0, hz0, hz1, hz2⟩
  have HLN : Hid (N0.length = 16 ∧ (∀ x ∈ N0, x.oneCell' = true)) := by rw [HN0.out]; exact ⟨Fd.BL_length _, BL_one8 _⟩
  have e1 : IntKind.i64.wrap ((n : Int) + 16) = ((n + 16 : Nat) : Int) := by rw [IntKind.wrap_i64]; omega
  have e1b : IntKind.i64.wrap ((n : Int) + 16 - 1) = ((n + 15 : Nat) : Int) := by rw [IntKind.wrap_i64]; omega
  have e2 : IntKind.i64.wrap (((n + 16 : Nat) : Int) - 1) = ((n + 15 : Nat) : Int) := by rw [IntKind.wrap_i64]; omega
  have q1 : ((n + 15 : Nat) : Int).tdiv 16 = (k : Int) := by rw [Int.tdiv_eq_ediv_of_nonneg (by omega)]; omega
  have q1b : ((n : Int) + 15).tdiv 16 = (k : Int) := by rw [Int.tdiv_eq_ediv_of_nonneg (by omega)]; omega
  have q3b : wrap64 (k : Int) = (k : Int) := by unfold wrap64; omega
  have q3 : IntKind.i64.wrap (k : Int) = (k : Int) := by rw [IntKind.wrap_i64]; omega
  have q4 : ((n + 15 : Nat) : Int) / 16 = (k : Int) := by omega
  have HK : Hid (k ≤ 256) := (by omega : k ≤ 256)
  have HMF : Hid (i0.bytes * k ≤ 281474976710656 ∧ k ≤ maxLen) := made_few4 i0.bytes k 16 (by decide) HI0.out.2.2.2 (by omega)
  have HW1 : Hid (Below w.heap.size w w1 ∧ Bx w1 w.heap.size 252 [.pointer (some ⟨sh, 0, none⟩), .func (.func fn) #[] cs, .pointer (some ⟨g2, 0, none⟩)] ∧ I w1) := ⟨hb1, hB1, hC.below hI hb1⟩
  have HBW : Hid (B ≤ w.heap.size) := hC.size w hI
  obtain ⟨BX, HBX⟩ : ∃ BX : List Value, Hid (BX = [.pointer (some ⟨sh, 0, none⟩), .func (.func fn) #[] cs, .pointer (some ⟨g2, 0, none⟩)]) := ⟨_, rfl⟩
  rw [← HBX.out] at HW1
  have HC1 : Hid (∀ u b, Bx u b 252 BX → u.cell? ⟨b, 1, none⟩ = some (.func (.func fn) #[] cs) ∧ u.cell? ⟨b, 2, none⟩ = some (.pointer (some ⟨g2, 0, none⟩))) := fun u b h => by rw [HBX.out] at h; exact ⟨h.cell 1 _ rfl, h.cell 2 _ rfl⟩
  rw [← Hf.out]
  clear hI hn1 hn2 hn3 hb1 hB1 hi0 hz0 hz1 hz2 HF HU
  go_enter Tryz.func230, Tryz.ntmps230
  go_upto_region 1 with fail
  rw [← hw1]
  clear hw1
  obtain ⟨M, HMM⟩ : ∃ M, Hid (w.heap.size = M) := ⟨_, rfl⟩
  rw [HMM.out] at HW1 ⊢
  obtain ⟨x, HXX⟩ : ∃ x, Hid (w1.heap.size = x) := ⟨_, rfl⟩
  go_upto_region 2 with (first
    | (at_make; go_must (refine wpList_make_full _ rfl _ _ 237 rfl w1.heap.size 27 i0 (.agg ZZ.toArray) 16 Tryz.underlying77b HI0.out.1 HI0.out.2.1 HI0.out.2.2.1 .i64 .i64 (k : Nat) (k : Nat) k rfl rfl rfl rfl HMF.out.1 HMF.out.2 (Nat.le_refl _) ?_; intro w2 hown hgrow; have hlo : Below w1.heap.size w1 w2 := ⟨hgrow.os, hgrow.tape, hgrow.output, hgrow.size, fun c hc => hgrow.block c hc (by simp)⟩; have HX2 : Hid (XmI Ks I BX f M x k w w2 0) := ⟨hC.below HW1.out.2.2 hlo, HW1.out.2.1.below hlo, ⟨_, by rw [← HXX.out]; exact (own_full16 hown).1, (own_full16 hown).2⟩, (Gk.of_below (by rw [HMM.out]; exact HW1.out.1)).below hlo, by rw [HMM.out]; exact Nat.le_refl _, by rw [← HXX.out]; exact HW1.out.1.size, by have := HW1.out.2.1.lt; have := HXX.out; omega⟩; clear hown hgrow hlo)))
  rw [HXX.out]
  clear e1 e1b e2 q1 q1b q3b q3 q4
  go_cut [8] from 15 to 22 (fun vb wx => ∃ y : Nat, vb = .pointer (some ⟨y, 0, none⟩) ∧ Hid (XmI Ks I BX f M x k w wx 0 ∧ Bx wx y 27 N0 ∧ w.heap.size ≤ y ∧ y ≠ M ∧ y ≠ x))
  case first =>
    have HS0 : Hid (XmI Ks I BX f M x k w w2.drew 0) := HX2.out.below hC HBW.out (Below.refl _ _).drew
    have hS0 := HC1.out _ _ HS0.out.box
    refine wp_region_noPanic ?_
    refine wp_region_held_drew (S := (fun u => u.cell? ⟨M, 1, none⟩ = some (.func (.func fn) #[] cs) ∧ u.cell? ⟨M, 2, none⟩ = some (.pointer (some ⟨g2, 0, none⟩)))) (by kernel_rfl) (hS0) (fun _ => ?_)
    refine takeH_at 0 15 (.pointer (some ⟨M, 2, none⟩)) rfl rfl (by kernel_rfl) (by kernel_rfl) (by kernel_rfl) (fun _ _ _ h => h) (hS0) (Or.inl ⟨by rfl, fun w' hS' => by first | go_simp | (obtain ⟨c1, c2⟩ := hS'; go_simp) | (obtain ⟨c1, c2, c3⟩ := hS'; go_simp)⟩) ?_
    try simp only [List.setIfInBounds_toArray, List.set_cons_zero, List.set_cons_succ]
    refine takeH_at 1 16 (.pointer (some ⟨g2, 0, none⟩)) rfl rfl (by kernel_rfl) (by kernel_rfl) (by kernel_rfl) (fun _ _ _ h => h) (hS0) (Or.inl ⟨by rfl, fun w' hS' => by first | go_simp | (obtain ⟨c1, c2⟩ := hS'; go_simp) | (obtain ⟨c1, c2, c3⟩ := hS'; go_simp)⟩) ?_
    try simp only [List.setIfInBounds_toArray, List.set_cons_zero, List.set_cons_succ]
    refine takeH_at 2 17 (.pointer (some ⟨M, 1, none⟩)) rfl rfl (by kernel_rfl) (by kernel_rfl) (by kernel_rfl) (fun _ _ _ h => h) (hS0) (Or.inl ⟨by rfl, fun w' hS' => by first | go_simp | (obtain ⟨c1, c2⟩ := hS'; go_simp) | (obtain ⟨c1, c2, c3⟩ := hS'; go_simp)⟩) ?_
    try simp only [List.setIfInBounds_toArray, List.set_cons_zero, List.set_cons_succ]
    refine takeH_at 3 18 (.func (.func fn) #[] cs) rfl rfl (by kernel_rfl) (by kernel_rfl) (by kernel_rfl) (fun _ _ _ h => h) (hS0) (Or.inl ⟨by rfl, fun w' hS' => by first | go_simp | (obtain ⟨c1, c2⟩ := hS'; go_simp) | (obtain ⟨c1, c2, c3⟩ := hS'; go_simp)⟩) ?_
    try simp only [List.setIfInBounds_toArray, List.set_cons_zero, List.set_cons_succ]
    refine takeH_at 4 19 (.int .u64 (s : Nat)) rfl rfl (by kernel_rfl) (by kernel_rfl) (by kernel_rfl) (fun _ _ _ h => h) (hS0) (Or.inl ⟨by rfl, fun w' hS' => by first | go_simp | (obtain ⟨c1, c2⟩ := hS'; go_simp) | (obtain ⟨c1, c2, c3⟩ := hS'; go_simp)⟩) ?_
    try simp only [List.setIfInBounds_toArray, List.set_cons_zero, List.set_cons_succ]
    refine takeH_at 5 20 (.int .i64 (n : Nat)) rfl rfl (by kernel_rfl) (by kernel_rfl) (by kernel_rfl) (fun _ _ _ h => h) (hS0) (Or.inl ⟨by rfl, fun w' hS' => by first | go_simp | (obtain ⟨c1, c2⟩ := hS'; go_simp) | (obtain ⟨c1, c2, c3⟩ := hS'; go_simp)⟩) ?_
    try simp only [List.setIfInBounds_toArray, List.set_cons_zero, List.set_cons_succ]
    refine wpAnyH_ready (rs := [6, 8]) (by kernel_rfl) (by simp) ?_
    refine AllReadyH.cons rfl (fun KK hK => ?_) (AllReadyH.cons rfl (fun KK hK => ?_) AllReadyH.nil)
    · skip
      go_simp
      refine (HFN.out _ HS0.out.inv).mono ?_
      intro e w11 hh
      obtain ⟨rfl, hk, hg⟩ := hh.out
      have HS11 : Hid (XmI Ks I BX f M x k w w11 0) := HS0.out.grown hC HBW.out hk hg
      clear hh hk hg
      go_wp2_with fail
      refine hK.out _ _ (HC1.out _ _ HS11.out.box) (fun _ => ?_)
      clear hK KK
      try simp only [List.setIfInBounds_toArray, List.set_cons_zero, List.set_cons_succ]
      refine wpAnyH_ready (rs := [7, 8]) (by kernel_rfl) (by simp) ?_
      refine AllReadyH.cons rfl (fun KK hK => ?_) (AllReadyH.cons rfl (fun KK hK => ?_) AllReadyH.nil)
      · skip
        go_simp
        refine (HUN.out _ HS11.out.inv).mono ?_
        intro e w12 hh
        obtain ⟨rfl, hk, hg⟩ := hh.out
        have HS12 : Hid (XmI Ks I BX f M x k w w12 0) := HS11.out.grown hC HBW.out hk hg
        clear hh hk hg
        go_wp2_with fail
        refine hK.out _ _ (HC1.out _ _ HS12.out.box) (fun _ => ?_)
        clear hK KK
        try simp only [List.setIfInBounds_toArray, List.set_cons_zero, List.set_cons_succ]
        refine wpAnyH_ready (rs := [8]) (by kernel_rfl) (by simp) ?_
        refine AllReadyH.cons rfl (fun KK hK => ?_) AllReadyH.nil
        refine step_alloc29 rfl 8 rfl rfl ?_
        intro w13 b13 hu hb
        have HS13 : Hid (XmI Ks I BX f M x k w w13 0) := by rw [hu.out]; exact HS12.out.below hC HBW.out ((Below.refl _ _).alloc (Nat.le_refl _) _)
        have HZ13 : Hid (Bx w13 b13 27 ZZ ∧ w.heap.size ≤ b13 ∧ b13 ≠ M ∧ b13 ≠ x) := by
          obtain ⟨T, p1, p2⟩ := HS12.out.row
          have p3 := p1.lt
          have p4 := HS12.out.box.lt
          have p5 := HS12.out.gk.size
          rw [hu.out, hb.out]; exact ⟨Bx.new _ 27 ZZ, p5, Nat.ne_of_gt p4, Nat.ne_of_gt p3⟩
        clear hu hb
        refine hK.out _ _ (HC1.out _ _ HS13.out.box) (fun _ => ?_)
        clear hK KK
        try simp only [List.setIfInBounds_toArray, List.set_cons_zero, List.set_cons_succ]
        refine wpAnyH_ready (rs := [9]) (by kernel_rfl) (by simp) ?_
        refine AllReadyH.cons rfl (fun KK hK => ?_) AllReadyH.nil
        refine step_store_bx rfl 27 (.tmp 8) (.tmp 22) rfl ZZ N0 b13 rfl rfl HZ13.out.1 (by rw [HLN.out.1]; rfl) (by rw [HLN.out.1]; kernel_rfl) HLN.out.2 ?_
        intro u9 HB9 HG9
        have H9 : Hid (XmI Ks I BX f M x k w u9 0) := HS13.out.put hC HBW.out HG9.out HZ13.out.2.1 HZ13.out.2.2.1 HZ13.out.2.2.2
        refine hK.out _ _ (HC1.out _ _ H9.out.box) (fun _ => ?_)
        clear hK KK
        try simp only [List.setIfInBounds_toArray, List.set_cons_zero, List.set_cons_succ]
        refine wpAnyH_done (by kernel_rfl) ?_ _
        refine NoPanic.normal ?_
        go_wp2_with fail
        go_meet
        exact ⟨b13, rfl, H9.out, HB9.out, HZ13.out.2⟩
      · skip
        refine step_alloc29 rfl 8 rfl rfl ?_
        intro w14 b14 hu hb
        have HS14 : Hid (XmI Ks I BX f M x k w w14 0) := by rw [hu.out]; exact HS11.out.below hC HBW.out ((Below.refl _ _).alloc (Nat.le_refl _) _)
        have HZ14 : Hid (Bx w14 b14 27 ZZ ∧ w.heap.size ≤ b14 ∧ b14 ≠ M ∧ b14 ≠ x) := by
          obtain ⟨T, p1, p2⟩ := HS11.out.row
          have p3 := p1.lt
          have p4 := HS11.out.box.lt
          have p5 := HS11.out.gk.size
          rw [hu.out, hb.out]; exact ⟨Bx.new _ 27 ZZ, p5, Nat.ne_of_gt p4, Nat.ne_of_gt p3⟩
        clear hu hb
        refine hK.out _ _ (HC1.out _ _ HS14.out.box) (fun _ => ?_)
        clear hK KK
        try simp only [List.setIfInBounds_toArray, List.set_cons_zero, List.set_cons_succ]
        refine wpAnyH_ready (rs := [7]) (by kernel_rfl) (by simp) ?_
        refine AllReadyH.cons rfl (fun KK hK => ?_) AllReadyH.nil
        go_simp
        refine (HUN.out _ HS14.out.inv).mono ?_
        intro e w15 hh
        obtain ⟨rfl, hk, hg⟩ := hh.out
        have HS15 : Hid (XmI Ks I BX f M x k w w15 0) := HS14.out.grown hC HBW.out hk hg
        have HZ15 : Hid (Bx w15 b14 27 ZZ ∧ w.heap.size ≤ b14 ∧ b14 ≠ M ∧ b14 ≠ x) := ⟨HZ14.out.1.gk hg (hC.new (Nat.le_trans HBW.out HZ14.out.2.1)), HZ14.out.2⟩
        clear hh hk hg
        go_wp2_with fail
        refine hK.out _ _ (HC1.out _ _ HS15.out.box) (fun _ => ?_)
        clear hK KK
        try simp only [List.setIfInBounds_toArray, List.set_cons_zero, List.set_cons_succ]
        refine wpAnyH_ready (rs := [9]) (by kernel_rfl) (by simp) ?_
        refine AllReadyH.cons rfl (fun KK hK => ?_) AllReadyH.nil
        refine step_store_bx rfl 27 (.tmp 8) (.tmp 22) rfl ZZ N0 b14 rfl rfl HZ15.out.1 (by rw [HLN.out.1]; rfl) (by rw [HLN.out.1]; kernel_rfl) HLN.out.2 ?_
        intro u9 HB9 HG9
        have H9 : Hid (XmI Ks I BX f M x k w u9 0) := HS15.out.put hC HBW.out HG9.out HZ15.out.2.1 HZ15.out.2.2.1 HZ15.out.2.2.2
        refine hK.out _ _ (HC1.out _ _ H9.out.box) (fun _ => ?_)
        clear hK KK
        try simp only [List.setIfInBounds_toArray, List.set_cons_zero, List.set_cons_succ]
        refine wpAnyH_done (by kernel_rfl) ?_ _
        refine NoPanic.normal ?_
        go_wp2_with fail
        go_meet
        exact ⟨b14, rfl, H9.out, HB9.out, HZ15.out.2⟩
    · skip
      refine step_alloc29 rfl 8 rfl rfl ?_
      intro w16 b16 hu hb
      have HS16 : Hid (XmI Ks I BX f M x k w w16 0) := by rw [hu.out]; exact HS0.out.below hC HBW.out ((Below.refl _ _).alloc (Nat.le_refl _) _)
      have HZ16 : Hid (Bx w16 b16 27 ZZ ∧ w.heap.size ≤ b16 ∧ b16 ≠ M ∧ b16 ≠ x) := by
        obtain ⟨T, p1, p2⟩ := HS0.out.row
        have p3 := p1.lt
        have p4 := HS0.out.box.lt
        have p5 := HS0.out.gk.size
        rw [hu.out, hb.out]; exact ⟨Bx.new _ 27 ZZ, p5, Nat.ne_of_gt p4, Nat.ne_of_gt p3⟩
      clear hu hb
      refine hK.out _ _ (HC1.out _ _ HS16.out.box) (fun _ => ?_)
      clear hK KK
      try simp only [List.setIfInBounds_toArray, List.set_cons_zero, List.set_cons_succ]
      refine wpAnyH_ready (rs := [6]) (by kernel_rfl) (by simp) ?_
      refine AllReadyH.cons rfl (fun KK hK => ?_) AllReadyH.nil
      go_simp
      refine (HFN.out _ HS16.out.inv).mono ?_
      intro e w17 hh
      obtain ⟨rfl, hk, hg⟩ := hh.out
      have HS17 : Hid (XmI Ks I BX f M x k w w17 0) := HS16.out.grown hC HBW.out hk hg
      have HZ17 : Hid (Bx w17 b16 27 ZZ ∧ w.heap.size ≤ b16 ∧ b16 ≠ M ∧ b16 ≠ x) := ⟨HZ16.out.1.gk hg (hC.new (Nat.le_trans HBW.out HZ16.out.2.1)), HZ16.out.2⟩
      clear hh hk hg
      go_wp2_with fail
      refine hK.out _ _ (HC1.out _ _ HS17.out.box) (fun _ => ?_)
      clear hK KK
      try simp only [List.setIfInBounds_toArray, List.set_cons_zero, List.set_cons_succ]
      refine wpAnyH_ready (rs := [7]) (by kernel_rfl) (by simp) ?_
      refine AllReadyH.cons rfl (fun KK hK => ?_) AllReadyH.nil
      go_simp
      refine (HUN.out _ HS17.out.inv).mono ?_
      intro e w18 hh
      obtain ⟨rfl, hk, hg⟩ := hh.out
      have HS18 : Hid (XmI Ks I BX f M x k w w18 0) := HS17.out.grown hC HBW.out hk hg
      have HZ18 : Hid (Bx w18 b16 27 ZZ ∧ w.heap.size ≤ b16 ∧ b16 ≠ M ∧ b16 ≠ x) := ⟨HZ17.out.1.gk hg (hC.new (Nat.le_trans HBW.out HZ17.out.2.1)), HZ17.out.2⟩
      clear hh hk hg
      go_wp2_with fail
      refine hK.out _ _ (HC1.out _ _ HS18.out.box) (fun _ => ?_)
      clear hK KK
      try simp only [List.setIfInBounds_toArray, List.set_cons_zero, List.set_cons_succ]
      refine wpAnyH_ready (rs := [9]) (by kernel_rfl) (by simp) ?_
      refine AllReadyH.cons rfl (fun KK hK => ?_) AllReadyH.nil
      refine step_store_bx rfl 27 (.tmp 8) (.tmp 22) rfl ZZ N0 b16 rfl rfl HZ18.out.1 (by rw [HLN.out.1]; rfl) (by rw [HLN.out.1]; kernel_rfl) HLN.out.2 ?_
      intro u9 HB9 HG9
      have H9 : Hid (XmI Ks I BX f M x k w u9 0) := HS18.out.put hC HBW.out HG9.out HZ18.out.2.1 HZ18.out.2.2.1 HZ18.out.2.2.2
      refine hK.out _ _ (HC1.out _ _ H9.out.box) (fun _ => ?_)
      clear hK KK
      try simp only [List.setIfInBounds_toArray, List.set_cons_zero, List.set_cons_succ]
      refine wpAnyH_done (by kernel_rfl) ?_ _
      refine NoPanic.normal ?_
      go_wp2_with fail
      go_meet
      exact ⟨b16, rfl, H9.out, HB9.out, HZ18.out.2⟩
  case rest =>
    obtain ⟨y, rfl, HR1⟩ := hcut
    have HY : Hid (w.heap.size ≤ y ∧ y ≠ M ∧ y ≠ x) := HR1.out.2.2
    have HR2 : Hid (XmI Ks I BX f M x k w wc 0 ∧ Bx wc y 27 (Fd.BL (f 0))) := ⟨HR1.out.1, by rw [← HN0.out]; exact HR1.out.2.1⟩
    clear HR1 HX2 HW1 HFN HUN
    go_upto_region 4 with fail
    go_loopw [25] (fun v wr => ∃ j : Nat, j ≤ k ∧ v = .int .i64 (j : Nat) ∧ Hid (XmI Ks I BX f M x k w wr j ∧ Bx wr y 27 (Fd.BL (f j)))) (fun v _ => k - (intOf v).toNat)
    case atStart => exact ⟨0, Nat.zero_le _, rfl, HR2⟩
    case round =>
     as_aux_lemma =>
      obtain ⟨j, hj, rfl, HI⟩ := hrel
      by_cases hlt : j < k
      · have HJ : Hid (j < k) := hlt
        obtain ⟨ej, ej2, g1⟩ := small_i4 j k hlt HK.out
        have g0 : (0 : Int) ≤ (j : Int) := Int.natCast_nonneg j
        obtain ⟨N, HNN⟩ : ∃ L, Hid (L = Fd.BL (f j)) := ⟨_, rfl⟩
        obtain ⟨N2, HN2⟩ : ∃ L, Hid (L = Fd.BL (f (j + 1))) := ⟨_, rfl⟩
        have HD : Hid (∀ u, Calls Tryz.prog 24 #[.agg N.toArray] u fun e w' => e = .returned (.agg N2.toArray) ∧ Below u.heap.size u w') := fun u => by rw [HNN.out, HN2.out]; exact HDB.out u j
        have HLL : Hid ((N.length = 16 ∧ ∀ x ∈ N, x.oneCell' = true) ∧ (N2.length = 16 ∧ ∀ x ∈ N2, x.oneCell' = true)) := by rw [HNN.out, HN2.out]; exact ⟨⟨Fd.BL_length _, BL_one8 _⟩, ⟨Fd.BL_length _, BL_one8 _⟩⟩
        have HB : Hid (XmI Ks I BX f M x k w wr j ∧ Bx wr y 27 N) := by rw [HNN.out]; exact HI.out
        clear HI hlt hj
        go_upto_region 6 with fail
        have HBD : Hid (XmI Ks I BX f M x k w wr.drew j ∧ Bx wr.drew y 27 N) := ⟨HB.out.1.below hC HBW.out (Below.refl _ _).drew, HB.out.2.below (Below.refl _ _).drew⟩
        have hiN : (Tryz.prog.info? 27).map (·.size) = some N.length := by rw [HLL.out.1.1]; kernel_rfl
        have hiN2 : (Tryz.prog.info? 27).map (·.size) = some N2.length := by rw [HLL.out.2.1]; kernel_rfl
        have h16 : N.length = 16 := HLL.out.1.1
        have h162 : N2.length = 16 := HLL.out.2.1
        have hS0 : wr.drew.rangeAt y 0 N := HBD.out.2.range
        refine wp_region_noPanic ?_
        refine Fd.wp_region_till (fun u => u.rangeAt y 0 N) 6 (by kernel_rfl) (by decide) (by decide +kernel) (by decide +kernel) (by decide +kernel) (fun inv => ?_)
        refine Fd.till_at 0 28 (.slice (some ⟨x, 0, none⟩) k k) inv rfl rfl (by decide) (by decide +kernel) (by decide +kernel) (fun _ _ _ h => h) hS0 (Or.inl ⟨by rfl, fun w' hS' => by go_simp⟩) (fun inv' => ?_)
        clear inv; have inv := inv'; clear inv'
        try simp only [List.setIfInBounds_toArray, List.set_cons_zero, List.set_cons_succ]
        refine Fd.till_at 1 29 (.int .i64 (j : Nat)) inv rfl rfl (by decide) (by decide +kernel) (by decide +kernel) (fun _ _ _ h => h) hS0 (Or.inl ⟨by rfl, fun w' hS' => by go_simp⟩) (fun inv' => ?_)
        clear inv; have inv := inv'; clear inv'
        try simp only [List.setIfInBounds_toArray, List.set_cons_zero, List.set_cons_succ]
        refine Fd.till_at 2 30 (.agg N.toArray) inv rfl rfl (by decide) (by decide +kernel) (by decide +kernel) (fun _ _ _ h => h) hS0 (yieldsIf_load_mid (by rfl) 27 (.tmp 8) rfl y 0 rfl N _ (fun u hu => hu) Tryz.underlying27 rfl hiN) (fun inv' => ?_)
        clear inv; have inv := inv'; clear inv'
        try simp only [List.setIfInBounds_toArray, List.set_cons_zero, List.set_cons_succ]
        refine Fd.till_at 3 31 (.agg N.toArray) inv rfl rfl (by decide) (by decide +kernel) (by decide +kernel) (fun _ _ _ h => h) hS0 (yieldsIf_load_mid (by rfl) 27 (.tmp 8) rfl y 0 rfl N _ (fun u hu => hu) Tryz.underlying27 rfl hiN) (fun inv' => ?_)
        clear inv; have inv := inv'; clear inv'
        try simp only [List.setIfInBounds_toArray, List.set_cons_zero, List.set_cons_succ]
        refine Fd.till_head (i := 4) inv (by decide +kernel) (by decide) rfl (fun KK hK => ?_)
        go_simp
        refine (HD.out _).mono ?_
        rintro e2 w3 ⟨rfl, hb3⟩
        have HB3 : Hid (XmI Ks I BX f M x k w w3 j ∧ Bx w3 y 27 N) := ⟨HBD.out.1.below hC HBW.out hb3, HBD.out.2.below hb3⟩
        clear hb3
        go_wp2_with fail
        refine hK.out _ _ (HB3.out.2.range) (fun inv' => ?_)
        clear hK KK inv; have inv := inv'; clear inv'
        try simp only [List.setIfInBounds_toArray, List.set_cons_zero, List.set_cons_succ]
        refine Fd.till_at 5 33 (.pointer (some ⟨x, 0 + j * 16, none⟩)) inv rfl rfl (by decide) (by decide +kernel) (by decide +kernel) (fun _ _ _ h => h) HB3.out.2.range (Or.inl ⟨by rfl, fun w' hS' => by go_simp⟩) (fun inv' => ?_)
        clear inv; have inv := inv'; clear inv'
        try simp only [List.setIfInBounds_toArray, List.set_cons_zero, List.set_cons_succ]
        refine Fd.till_tail (i := 6) (by decide +kernel) (by decide) rfl (fun KK hK => ?_)
        rw [if_pos (by rfl)]
        refine wp_store_mid 27 (.tmp 33) (.tmp 30) rfl x (0 + j * 16) N.toArray rfl rfl (by simpa [h16] using HB3.out.1.there hC HBW.out HJ.out) (by rw [List.size_toArray]; exact hiN) (all_oneCell_toArray HLL.out.1.2) ?_
        have HB4 : Hid (XmI Ks I BX f M x k w (w3.setCells x (0 + j * 16) N.toArray.toList) (j + 1) ∧ Bx (w3.setCells x (0 + j * 16) N.toArray.toList) y 27 N) := ⟨by have q := HB3.out.1.store hC HBW.out HJ.out; rw [← HNN.out] at q; exact q, HB3.out.2.keep ((setCells_gb x N.toArray.toList (0 + j * 16) w3).block y HB3.out.2.lt (fun e => HY.out.2.2 (by injection e)))⟩
        obtain ⟨w4, hw4⟩ : ∃ u9, u9 = w3.setCells x (0 + j * 16) N.toArray.toList := ⟨_, rfl⟩
        rw [← hw4] at HB4 ⊢
        clear hw4
        refine hK.out _ _ ?_
        clear hK KK
        try simp only [List.setIfInBounds_toArray, List.set_cons_zero, List.set_cons_succ]
        refine Fd.till_tail (i := 7) (by decide +kernel) (by decide) rfl (fun KK hK => ?_)
        rw [if_pos (by rfl)]
        refine wp_store_mid 27 (.tmp 8) (.tmp 32) rfl y 0 N2.toArray rfl rfl (by simpa [h162] using bx_there HB4.out.2 h16) (by rw [List.size_toArray]; exact hiN2) (all_oneCell_toArray HLL.out.2.2) ?_
        have HB5 : Hid (XmI Ks I BX f M x k w (w4.setCells y 0 N2.toArray.toList) (j + 1) ∧ Bx (w4.setCells y 0 N2.toArray.toList) y 27 N2) := ⟨HB4.out.1.put hC HBW.out (setCells_gb y N2.toArray.toList 0 w4) HY.out.1 HY.out.2.1 HY.out.2.2, HB4.out.2.store N2 (by rw [h162, h16])⟩
        obtain ⟨w5, hw5⟩ : ∃ u9, u9 = w4.setCells y 0 N2.toArray.toList := ⟨_, rfl⟩
        rw [← hw5] at HB5 ⊢
        clear hw5
        refine hK.out _ _ ?_
        clear hK KK
        try simp only [List.setIfInBounds_toArray, List.set_cons_zero, List.set_cons_succ]
        refine Fd.till_done (by decide +kernel) ?_ _
        refine NoPanic.normal ?_
        have HI9 : Hid (XmI Ks I BX f M x k w w5 (j + 1) ∧ Bx w5 y 27 (Fd.BL (f (j + 1)))) := by rw [← HN2.out]; exact HB5.out
        clear hS0 inv
        go_wp2
        exact ⟨⟨j + 1, HJ.out, by first | rfl | simp, HI9⟩, by first | exact meas_i j k HJ.out | (simpa using meas_i j k HJ.out)⟩
      · have g1 : ¬ (j : Int) < (k : Int) := fun h => hlt (Int.ofNat_lt.1 h)
        have HF : Hid (Bx wr x 27 (bkL f k) ∧ I wr ∧ Gk Ks w wr ∧ w.heap.size ≤ x) := by
          have p := HI.out.1
          obtain ⟨T, p2, p3⟩ := p.row
          rw [show j = k by omega] at p2 p3
          have : T = [] := List.eq_nil_of_length_eq_zero (by omega)
          rw [this, List.append_nil] at p2
          exact ⟨p2, p.inv, p.gk, p.hx⟩
        clear HI
        go_wp2
        go_ret
        exact ⟨x, rfl, by first | exact HF.out.2.2.2 | (rw [HMM.out] at HF; exact HF.out.2.2.2), HF.out.1, HF.out.2.1, HF.out.2.2.1⟩
end Go.Proofs.YtehlppaidgkpaaaGreatDoor
namespace Go.Proofs.YtehlppaidgkpaaaGreatDoor
open Go.RowKit
set_option linter.unusedVariables false
set_option linter.unusedSimpArgs false
/-- masked of any list of at least a block. -/
theorem maskedx_ok {B : Nat} {Ks : Nat → Prop} {I : World → Prop} (hC : Cst B Ks I) (fn sh : Nat) (hE : ∀ args u, (callFunc fn args).run Tryz.prog u = .ok (.enter fn args) u) (E : BitVec 128 → BitVec 128) (r n c : Nat) (f : Nat → BitVec 128) (b off cp : Nat) (zs : List Int) (w : World) (hI : I w) (HDO : DoI Ks I fn (.pointer (some ⟨sh, 0, none⟩)) E) (rg : ∀ j, j < n → w.rangeAt r (0 + j * 16) (Fd.BL (f j))) (n4 : ¬ Ks r) (hnc : n ≤ c)
    (hl0 : 16 ≤ zs.length) (hl3 : zs.length ≤ 4096) (hkn : zs.length ≤ 16 * n) (hc1 : zs.length ≤ cp) (hb : AllBytes zs) (hbg : ¬ Ks b) (hz : ∀ i, i < zs.length → w.cell? ⟨b, off + i, none⟩ = some (.int .u8 (zs.getD i 0))) :
    Calls Tryz.prog 229 #[.slice (some ⟨b, off, none⟩) zs.length cp, .slice (some ⟨r, 0, none⟩) n c, .func (.func fn) #[.pointer (some ⟨sh, 0, none⟩)] #[]] w fun e w' => Hid (∃ x, e = .returned (.slice (some ⟨x, 0, none⟩) zs.length zs.length) ∧ w.heap.size ≤ x ∧ Bx w' x 5 (mskL E f zs (zs.length / 16)) ∧ I w' ∧ Gk Ks w w') := by
  by_cases h : zs.length = 16 * (zs.length / 16)
  · exact maskedx_whole hC fn sh hE E r n c f b off cp (zs.length / 16) zs w hI HDO rg n4 hnc (by omega) h hl3 hkn hc1 hb hbg hz
  · exact maskedx_rest hC fn sh hE E r n c f b off cp (zs.length / 16) zs w hI HDO rg n4 hnc (by omega) (by omega) (by omega) hl3 hkn hc1 hb hbg hz
/-- What xts gives. -/
def xtsL (E : BitVec 128 → BitVec 128) (t : BitVec 128) (zs : List Int) : List Value := mskL E (dbN t) zs (zs.length / 16)
set_option maxHeartbeats 1600000 in
set_option maxRecDepth 100000 in
/-- xts.seal. -/
theorem xseal_ok {B : Nat} {Ks : Nat → Prop} {I : World → Prop} (hC : Cst B Ks I) (fn sh g2 : Nat) (cs : Array Value) (hE : ∀ args u, (callFunc fn args).run Tryz.prog u = .ok (.enter fn args) u) (E U : BitVec 128 → BitVec 128) (fi : BitVec 128) (s : Nat) (b off cp : Nat) (zs : List Int) (w : World) (hI : I w)
    (HF : ∀ u, I u → Calls Tryz.prog fn (#[.int .u64 (s : Nat), .int .i64 (zs.length : Nat)] ++ cs) u fun e w' => Hid (e = .returned (Fd.BV fi) ∧ I w' ∧ Gk Ks u w'))
    (HU : DoI Ks I 188 (.pointer (some ⟨g2, 0, none⟩)) U) (HDO : DoI Ks I 190 (.pointer (some ⟨sh, 0, none⟩)) E)
    (hl0 : 16 ≤ zs.length) (hl3 : zs.length ≤ 4096) (hc1 : zs.length ≤ cp) (hb : AllBytes zs) (hbg : ¬ Ks b) (hz : ∀ i, i < zs.length → w.cell? ⟨b, off + i, none⟩ = some (.int .u8 (zs.getD i 0))) :
    Calls Tryz.prog 201 #[.agg #[.pointer (some ⟨sh, 0, none⟩), .func (.func fn) #[] cs, .pointer (some ⟨g2, 0, none⟩)], .int .u64 (s : Nat), .slice (some ⟨b, off, none⟩) zs.length cp] w fun e w' => Hid (∃ x, e = .returned (.slice (some ⟨x, 0, none⟩) zs.length zs.length) ∧ w.heap.size ≤ x ∧ Bx w' x 5 (xtsL E (U fi) zs) ∧ I w' ∧ Gk Ks w w') := by
  obtain ⟨w1, hw1⟩ : ∃ w1, w1 = w.alloc (.cells #[.pointer (some ⟨sh, 0, none⟩), .func (.func fn) #[] cs, .pointer (some ⟨g2, 0, none⟩)] 252) := ⟨_, rfl⟩
  have hBw : B ≤ w.heap.size := hC.size w hI
  have hb1 : Below w.heap.size w w1 := by rw [hw1]; exact (Below.refl _ _).alloc (Nat.le_refl _) _
  have hB1 : Bx w1 w.heap.size 252 [.pointer (some ⟨sh, 0, none⟩), .func (.func fn) #[] cs, .pointer (some ⟨g2, 0, none⟩)] := by rw [hw1]; exact Bx.new w 252 [.pointer (some ⟨sh, 0, none⟩), .func (.func fn) #[] cs, .pointer (some ⟨g2, 0, none⟩)]
  obtain ⟨k, HK⟩ : ∃ k, Hid ((zs.length + 15) / 16 = k) := ⟨_, rfl⟩
  obtain ⟨f, Hf⟩ : ∃ f : Nat → BitVec 128, Hid (f = dbN (U fi)) := ⟨_, rfl⟩
  obtain ⟨Y, HY⟩ : ∃ Y, Hid (Y = xtsL E (U fi) zs) := ⟨_, rfl⟩
  obtain ⟨N, HNL⟩ : ∃ n, Hid (zs.length = n) := ⟨_, rfl⟩
  have HM : Hid (∀ u, I u → Calls Tryz.prog 230 #[.agg #[.pointer (some ⟨sh, 0, none⟩), .func (.func fn) #[] cs, .pointer (some ⟨g2, 0, none⟩)], .int .u64 (s : Nat), .int .i64 (N : Nat)] u fun e w' => Hid (∃ x, e = .returned (.slice (some ⟨x, 0, none⟩) k k) ∧ u.heap.size ≤ x ∧ Bx w' x 27 (bkL f k) ∧ I w' ∧ Gk Ks u w')) := fun u hu => by
    have q := xmasks_ok hC fn sh g2 cs hE U fi s zs.length k u hu (by have := HK.out; omega) (by have := HK.out; omega) hl3 HF HU
    rw [HNL.out, ← Hf.out] at q
    exact q
  have HD : Hid (∀ u r, I u → Gk Ks w u → w.heap.size ≤ r → Bx u r 27 (bkL f k) → Calls Tryz.prog 229 #[.slice (some ⟨b, off, none⟩) N cp, .slice (some ⟨r, 0, none⟩) k k, .func (.func 190) #[.pointer (some ⟨sh, 0, none⟩)] #[]] u fun e w' => Hid (∃ x, e = .returned (.slice (some ⟨x, 0, none⟩) N N) ∧ u.heap.size ≤ x ∧ Bx w' x 5 Y ∧ I w' ∧ Gk Ks u w')) := fun u r hu hg hr hx => by
    have q := maskedx_ok hC 190 sh (fun args w => enter_ok Tryz.func190 (by rfl) (by rfl) args w) E r k k f b off cp zs u hu HDO (fun j hj i x hx' => ?_) (hC.new (by omega)) (Nat.le_refl _) hl0 hl3 (by have := HK.out; omega) hc1 hb hbg (fun i hi => hg.cell hbg (hz i hi))
    · rw [HNL.out] at q
      rw [HY.out, xtsL, HNL.out, ← Hf.out]
      exact q
    · have hi : i < 16 := by have := (List.getElem?_eq_some_iff.1 hx').1; rw [Fd.BL_length] at this; exact this
      rw [Fd.BL_at _ i hi] at hx'
      have e := bkL_at f k j i hj hi
      rw [hx'] at e
      rw [show 0 + j * 16 + i = 16 * j + i by omega]
      exact hx.cell _ _ e
  rw [HNL.out, ← HY.out]
  have HW1 : Hid (Below w.heap.size w w1 ∧ Bx w1 w.heap.size 252 [.pointer (some ⟨sh, 0, none⟩), .func (.func fn) #[] cs, .pointer (some ⟨g2, 0, none⟩)] ∧ I w1 ∧ B ≤ w.heap.size) := ⟨hb1, hB1, hC.below hI hb1, hBw⟩
  clear hI HF HU HDO hl0 hl3 hc1 hb hbg hz hb1 hB1 hBw
  go_enter Tryz.func201, Tryz.ntmps201
  go_upto_region 1 with fail
  rw [← hw1]
  clear hw1
  obtain ⟨M, HMM⟩ : ∃ M, Hid (w.heap.size = M) := ⟨_, rfl⟩
  have HNK : Hid (¬ Ks M) := by show ¬ Ks M; rw [← HMM.out]; exact hC.new HW1.out.2.2.2
  rw [HMM.out] at HW1 HD ⊢
  have c0 : w1.cell? ⟨M, 0, none⟩ = some (.pointer (some ⟨sh, 0, none⟩)) := HW1.out.2.1.cell 0 _ rfl
  have c1 : w1.cell? ⟨M, 1, none⟩ = some (.func (.func fn) #[] cs) := HW1.out.2.1.cell 1 _ rfl
  have c2 : w1.cell? ⟨M, 2, none⟩ = some (.pointer (some ⟨g2, 0, none⟩)) := HW1.out.2.1.cell 2 _ rfl
  have HS1 : Hid (M + 1 ≤ w1.heap.size) := HW1.out.2.1.lt
  have HID : Hid (I w1.drew ∧ Gk Ks w w1.drew) := ⟨hC.below HW1.out.2.2.1 (Below.refl _ _).drew, (Gk.of_below (by rw [HMM.out]; exact HW1.out.1)).below (Below.refl _ _).drew⟩
  have HDL : Hid (∀ r, w1.drew.heap.size ≤ r → M ≤ r) := fun r hr => by have := HS1.out; simp at hr; omega
  go_region_held3 (fun u => u.cell? ⟨M, 0, none⟩ = some (.pointer (some ⟨sh, 0, none⟩)) ∧ u.cell? ⟨M, 1, none⟩ = some (.func (.func fn) #[] cs) ∧ u.cell? ⟨M, 2, none⟩ = some (.pointer (some ⟨g2, 0, none⟩))) (first | exact ⟨c0, c1, c2⟩ | exact hS2 | exact hS3 | go_keep) (first
    | (go_at_call 230; refine (HM.out _ HID.out.1).mono ?_; intro e2 w2 hh; obtain ⟨r, rfl, hr, hx, hi2, hg2⟩ := hh.out; have hS2 : w2.cell? ⟨M, 0, none⟩ = some (.pointer (some ⟨sh, 0, none⟩)) ∧ w2.cell? ⟨M, 1, none⟩ = some (.func (.func fn) #[] cs) ∧ w2.cell? ⟨M, 2, none⟩ = some (.pointer (some ⟨g2, 0, none⟩)) := ⟨hg2.cell HNK.out (by simpa using c0), hg2.cell HNK.out (by simpa using c1), hg2.cell HNK.out (by simpa using c2)⟩; have HB2 : Hid (M ≤ r ∧ Bx w2 r 27 (bkL f k) ∧ I w2 ∧ Gk Ks w w2) := ⟨HDL.out _ hr, hx, hi2, HID.out.2.trans hg2⟩; clear hh hr hx hi2 hg2)
    | (go_at_call 229; refine (HD.out _ r HB2.out.2.2.1 HB2.out.2.2.2 HB2.out.1 HB2.out.2.1).mono ?_; intro e3 w3 hh; obtain ⟨z, rfl, h1, h2, h3, h4⟩ := hh.out; have HX : Hid (w2.heap.size ≤ z ∧ Bx w3 z 5 Y ∧ I w3 ∧ Gk Ks w2 w3) := ⟨h1, h2, h3, h4⟩; have hS3 : w3.cell? ⟨M, 0, none⟩ = some (.pointer (some ⟨sh, 0, none⟩)) ∧ w3.cell? ⟨M, 1, none⟩ = some (.func (.func fn) #[] cs) ∧ w3.cell? ⟨M, 2, none⟩ = some (.pointer (some ⟨g2, 0, none⟩)) := ⟨h4.cell HNK.out hS2.1, h4.cell HNK.out hS2.2.1, h4.cell HNK.out hS2.2.2⟩; clear hh h1 h2 h3 h4))
  all_goals (
    (try go_wp2)
    go_ret
    obtain ⟨y1, y2, y3, y4⟩ := HX.out
    obtain ⟨z1, z2, z3, z4⟩ := HB2.out
    exact ⟨z, rfl, by have := z4.size; have := HMM.out; omega, y2, y3, z4.trans y4⟩)
end Go.Proofs.YtehlppaidgkpaaaGreatDoor
namespace Go.Proofs.YtehlppaidgkpaaaGreatDoor
open Go.RowKit
set_option linter.unusedVariables false
set_option linter.unusedSimpArgs false
/-- The blocks of some keys: where each lies, its rounds, its words. -/
def KsOf (L : List (Nat × Nat × (Nat → Nat))) (c : Nat) : Prop := ∃ x, x ∈ L ∧ x.1 = c
/-- The keys stand, and else nothing changed from A up to B. -/
structure Sti (A B : Nat) (L : List (Nat × Nat × (Nat → Nat))) (w0 u : World) : Prop where
  key : ∀ x, x ∈ L → KeyAt u x.1 x.2.1 x.2.2
  rest : ∀ b, A ≤ b → b < B → ¬ KsOf L b → u.heap[b]? = w0.heap[b]?
  size : B ≤ u.heap.size
/-- Each key has a place of its own, from A up to B. -/
structure KlP (A B : Nat) (L : List (Nat × Nat × (Nat → Nat))) (w0 : World) : Prop where
  low : ∀ x, x ∈ L → A ≤ x.1 ∧ x.1 < B
  one : ∀ x y, x ∈ L → y ∈ L → x.1 = y.1 → x = y
  typ : ∀ x, x ∈ L → ∃ R : Array Value, w0.heap[x.1]? = some (.cells R 135 (0, 0))
theorem Sti.stay {A B : Nat} {L : List (Nat × Nat × (Nat → Nat))} {w0 u v : World} (hL : KlP A B L w0) (h : Sti A B L w0 u) (hk : ∀ c, A ≤ c → c < B → v.heap[c]? = u.heap[c]?) (hs : u.heap.size ≤ v.heap.size) : Sti A B L w0 v :=
  ⟨fun x hx => (h.key x hx).sameK (hk _ (hL.low x hx).1 (hL.low x hx).2) hs, fun b h1 h2 h3 => (hk b h1 h2).trans (h.rest b h1 h2 h3), Nat.le_trans h.size hs⟩
theorem KlP.cst {A B : Nat} {L : List (Nat × Nat × (Nat → Nat))} {w0 : World} (hL : KlP A B L w0) : Cst B (KsOf L) (Sti A B L w0) :=
  ⟨fun c h => by obtain ⟨x, hx, rfl⟩ := h; exact (hL.low x hx).2, fun u h => h.size, fun u v h hk hs => h.stay hL (fun c _ hc => hk c hc) hs⟩
theorem Sti.gb {A B : Nat} {L : List (Nat × Nat × (Nat → Nat))} {w0 u v : World} (hL : KlP A B L w0) (h : Sti A B L w0 u) {x : Nat × Nat × (Nat → Nat)} (hx : x ∈ L) (hb : u.grownBy v (some x.1)) (hK : KeyAt v x.1 x.2.1 x.2.2) : Sti A B L w0 v := by
  refine ⟨fun y hy => ?_, fun b h1 h2 h3 => (hb.block b (Nat.lt_of_lt_of_le h2 h.size) (fun e => h3 (by injection e with e; exact ⟨x, hx, e.symm⟩))).trans (h.rest b h1 h2 h3), Nat.le_trans h.size hb.size⟩
  by_cases e : y.1 = x.1
  · rw [hL.one y x hy hx e]; exact hK
  · exact (h.key y hy).sameK (hb.block y.1 (h.key y hy).ciph.here (fun q => by injection q with q; exact e q)) hb.size
theorem KlP.not {A B : Nat} {L : List (Nat × Nat × (Nat → Nat))} {w0 : World} (hL : KlP A B L w0) {b : Nat} {t : TypeId} {cs : List Value} (hb : Bx w0 b t cs) (ht : t ≠ 135) : ¬ KsOf L b := fun h => by
  obtain ⟨x, hx, e⟩ := h
  obtain ⟨R, hR⟩ := hL.typ x hx
  exact type_ne hb hR ht e.symm
theorem Sti.bx {A B : Nat} {L : List (Nat × Nat × (Nat → Nat))} {w0 u : World} (hL : KlP A B L w0) (h : Sti A B L w0 u) {b : Nat} {t : TypeId} {cs : List Value} (hb : Bx w0 b t cs) (hA : A ≤ b) (hB : b < B) (ht : t ≠ 135) : Bx u b t cs := hb.keep (h.rest b hA hB (hL.not hb ht))
/-- AES under the main key. -/
theorem sti_enc {A B : Nat} {L : List (Nat × Nat × (Nat → Nat))} {w0 : World} (hL : KlP A B L w0) (sh : Nat) (cs : List Value) (hA : A ≤ sh) (hB : sh < B) (hs : Bx w0 sh 115 cs) (x : Nat × Nat × (Nat → Nat)) (hx : x ∈ L) (hg : cs[4]? = some (.pointer (some ⟨x.1, 0, none⟩))) : DoI (KsOf L) (Sti A B L w0) 190 (.pointer (some ⟨sh, 0, none⟩)) (encV x.2.1 x.2.2) := fun v u h => by
  have hb := h.bx hL hs hA hB (by decide)
  refine (encrypt_ok sh x.1 x.2.1 x.2.2 v u (fun e => hL.not hs (by decide) ⟨x, hx, e.symm⟩) (hb.cell 4 _ hg) (h.key x hx)).mono fun e w' hh => ?_
  obtain ⟨rfl, h1, h2⟩ := hh.out
  exact ⟨rfl, h.gb hL hx h2 h1, Gk.of_gb h2 ⟨x, hx, rfl⟩⟩
/-- AES under another key. -/
theorem sti_und {A B : Nat} {L : List (Nat × Nat × (Nat → Nat))} {w0 : World} (hL : KlP A B L w0) (x : Nat × Nat × (Nat → Nat)) (hx : x ∈ L) : DoI (KsOf L) (Sti A B L w0) 188 (.pointer (some ⟨x.1, 0, none⟩)) (encV x.2.1 x.2.2) := fun v u h => by
  refine (under_ok x.1 x.2.1 x.2.2 v u (h.key x hx)).mono fun e w' hh => ?_
  obtain ⟨rfl, h1, h2⟩ := hh.out
  exact ⟨rfl, h.gb hL hx h2 h1, Gk.of_gb h2 ⟨x, hx, rfl⟩⟩
/-- What a sector begins with. -/
def BegI (Ks : Nat → Prop) (I : World → Prop) (fn : Nat) (cs : Array Value) (F : Nat → Nat → BitVec 128) : Prop := ∀ (s n : Nat) (u : World), s < 18446744073709551616 → n ≤ 1024 → I u → Calls Tryz.prog fn (#[.int .u64 (s : Nat), .int .i64 (n : Nat)] ++ cs) u fun e w' => Hid (e = .returned (Fd.BV (F s n)) ∧ I w' ∧ Gk Ks u w')
/-- What Seal (13) or Open (15) of a cipher at c does. -/
def SealI (fn : Nat) (Ks : Nat → Prop) (I : World → Prop) (st c : Nat) (F : Nat → List Int → List Int) : Prop := ∀ (s b off cp : Nat) (zs : List Int) (u : World), I u → s < 18446744073709551616 → 16 ≤ zs.length → zs.length ≤ 1024 → zs.length % st = 0 → AllBytes zs → ¬ Ks b → View u (.slice (some ⟨b, off, none⟩) zs.length cp) zs →
  Calls Tryz.prog fn #[.pointer (some ⟨c, 0, none⟩), .int .u64 (s : Nat), .slice (some ⟨b, off, none⟩) zs.length cp] u fun e u' => Hid (∃ x d, e = .returned (.tuple #[.slice (some ⟨x, 0, none⟩) zs.length d, .int .i64 0]) ∧ u.heap.size ≤ x ∧ View u' (.slice (some ⟨x, 0, none⟩) zs.length d) (F s zs) ∧ I u' ∧ Gk Ks u u')
/-- What a law asks of a cipher that seals. -/
def CipS (Q : (Nat → List Int → List Int) → Prop) (st : Nat) (A c : Nat) (u : World) : Prop := ∃ B L w0 F, KlP A B L w0 ∧ Sti A B L w0 u ∧ SealI 13 (KsOf L) (Sti A B L w0) st c F ∧ Q F
theorem cipS_gen (Q : (Nat → List Int → List Int) → Prop) (st : Nat) : GenP (CipS Q st) := fun A c u u' h hk hs => by
  obtain ⟨B, L, w0, F, h1, h2, h3, h4⟩ := h
  exact ⟨B, L, w0, F, h1, h2.stay h1 (fun b hA hB => hk b hA (Nat.lt_of_lt_of_le hB h2.size)) hs, h3, h4⟩
/-- What a view's cells are. -/
theorem view_cells {w : World} {b off n c : Nat} {zs : List Int} (h : View w (.slice (some ⟨b, off, none⟩) n c) zs) : zs.length = n ∧ n ≤ c ∧ ∀ i, i < zs.length → w.cell? ⟨b, off + i, none⟩ = some (.int .u8 (zs.getD i 0)) := by
  obtain ⟨a, cap, he, hle, _, _, h4⟩ := h
  injection he with h1 h2 h3
  subst h1
  refine ⟨h2.symm, by rw [h2, h3]; exact hle, ?_⟩
  rcases h4 with h4 | ⟨b', o', e, h4⟩
  · intro i hi; rw [h4] at hi; simp at hi
  · injection e with e; injection e with e1 e2; subst e1 e2; exact h4
theorem view_of {w : World} {b off c : Nat} {zs : List Int} (h1 : zs.length ≤ c) (h2 : c ≤ maxLen) (h : ∀ i, i < zs.length → w.cell? ⟨b, off + i, none⟩ = some (.int .u8 (zs.getD i 0))) : View w (.slice (some ⟨b, off, none⟩) zs.length c) zs :=
  ⟨some ⟨b, off, none⟩, c, rfl, h1, h2, (fun e => by cases e), .inr ⟨b, off, rfl, h⟩⟩
theorem cells_at (L : List Int) (i : Nat) (hi : i < L.length) : (cellsU8 L)[i]? = some (.int .u8 (L.getD i 0)) := by
  simp [cellsU8, List.getElem?_map, List.getElem?_eq_getElem hi, List.getD_eq_getElem?_getD]
theorem view_row {w : World} {x : Nat} {t : TypeId} {zs : List Int} (h : Bx w x t (cellsU8 zs)) (hm : zs.length ≤ maxLen) : View w (.slice (some ⟨x, 0, none⟩) zs.length zs.length) zs :=
  view_of (Nat.le_refl _) hm fun i hi => by rw [Nat.zero_add]; exact h.cell i _ (cells_at zs i hi)
end Go.Proofs.YtehlppaidgkpaaaGreatDoor
namespace Go.Proofs.YtehlppaidgkpaaaGreatDoor
open Go.RowKit
set_option linter.unusedVariables false
set_option linter.unusedSimpArgs false
theorem cellsU8_len (L : List Int) : (cellsU8 L).length = L.length := by simp [cellsU8]
/-- What masked gives, byte by byte. -/
def mskB (E : BitVec 128 → BitVec 128) (f : Nat → BitVec 128) (zs : List Int) (k i : Nat) : BitVec 128 :=
  if zs.length = 16 * k ∨ i < 16 * (k - 1) then mskF E f zs (i / 16) else if i < 16 * k then mskY E f zs k else mskF E f zs (k - 1)
def mskZ (E : BitVec 128 → BitVec 128) (f : Nat → BitVec 128) (zs : List Int) (k : Nat) : List Int := (List.range zs.length).map fun i => ((Fd.byV (mskB E f zs k i) (i % 16) : Nat) : Int)
theorem mskZ_len (E : BitVec 128 → BitVec 128) (f : Nat → BitVec 128) (zs : List Int) (k : Nat) : (mskZ E f zs k).length = zs.length := by simp [mskZ]
theorem mskZ_at (E : BitVec 128 → BitVec 128) (f : Nat → BitVec 128) (zs : List Int) (k i : Nat) (hi : i < zs.length) : (mskZ E f zs k).getD i 0 = ((Fd.byV (mskB E f zs k i) (i % 16) : Nat) : Int) := by
  rw [List.getD_eq_getElem?_getD, mskZ, List.getElem?_map, List.getElem?_range hi]; rfl
theorem bkL_get (F : Nat → BitVec 128) (k i : Nat) (hi : i < 16 * k) : (bkL F k)[i]? = some (.int .u8 (Fd.byV (F (i / 16)) (i % 16) : Nat)) := by
  have h := bkL_at F k (i / 16) (i % 16) (by omega) (by omega)
  rw [show 16 * (i / 16) + i % 16 = i by omega] at h
  exact h
theorem BL_get (v : BitVec 128) (i : Nat) (hi : i < 16) : (Fd.BL v)[i]? = some (.int .u8 (Fd.byV v i : Nat)) := Fd.BL_at v i hi
theorem mskL_cells (E : BitVec 128 → BitVec 128) (f : Nat → BitVec 128) (zs : List Int) (k : Nat) (hk : k = zs.length / 16) (h1 : 1 ≤ k) : mskL E f zs k = cellsU8 (mskZ E f zs k) := by
  apply List.ext_getElem?
  intro i
  by_cases hi : i < zs.length
  · rw [cells_at _ i (by rw [mskZ_len]; exact hi), mskZ_at E f zs k i hi]
    unfold mskL mskB
    by_cases he : zs.length = 16 * k
    · rw [if_pos he, if_pos (.inl he), bkL_get _ _ _ (by omega)]
    · rw [if_neg he]
      unfold splice
      have hl1 : ((bkL (mskF E f zs) k ++ (Fd.BL (mskF E f zs (k - 1))).take (zs.length - 16 * k)).take (16 * (k - 1))).length = 16 * (k - 1) := by
        rw [List.length_take, List.length_append, bkL_len]; omega
      have hl2 : (Fd.BL (mskY E f zs k)).length = 16 := Fd.BL_length _
      by_cases h2 : i < 16 * (k - 1)
      · rw [if_pos (.inr h2), List.getElem?_append_left (by omega), List.getElem?_take, if_pos h2, List.getElem?_append_left (by rw [bkL_len]; omega), bkL_get _ _ _ (by omega)]
      · rw [if_neg (by omega), List.getElem?_append_right (by omega), hl1]
        by_cases h3 : i < 16 * k
        · rw [if_pos h3, List.getElem?_append_left (by omega), BL_get _ _ (by omega), show i - 16 * (k - 1) = i % 16 by omega]
        · rw [if_neg h3, List.getElem?_append_right (by omega), hl2, List.getElem?_drop, List.getElem?_append_right (by rw [bkL_len]; omega), bkL_len, List.getElem?_take, if_pos (by omega), BL_get _ _ (by omega), show 16 * (k - 1) + 16 + (i - 16 * (k - 1) - 16) - 16 * k = i % 16 by omega]
  · have hl : (mskL E f zs k).length ≤ zs.length := by
      unfold mskL splice
      split
      · rw [bkL_len]; omega
      · have := Fd.BL_length (mskY E f zs k)
        have := Fd.BL_length (mskF E f zs (k - 1))
        simp only [List.length_append, List.length_take, List.length_drop, bkL_len]
        omega
    rw [List.getElem?_eq_none (by omega), List.getElem?_eq_none (by rw [cellsU8_len, mskZ_len]; omega)]
/-- Seal of a cipher of xts. -/
theorem xtsGen {A B : Nat} {L : List (Nat × Nat × (Nat → Nat))} {w0 : World} (hL : KlP A B L w0) (c sh fn st : Nat) (cs : Array Value) (F0 : Nat → Nat → BitVec 128) (shc : List Value) (pv : Value) (x y : Nat × Nat × (Nat → Nat)) (hst : 0 < st) (hc : Bx w0 c 70 [.pointer (some ⟨sh, 0, none⟩), .func (.func fn) #[] cs, bV 201 [.pointer (some ⟨sh, 0, none⟩), .func (.func fn) #[] cs, .pointer (some ⟨y.1, 0, none⟩)], pv]) (hs : Bx w0 sh 115 shc) (hcA : A ≤ c ∧ c < B) (hsA : A ≤ sh ∧ sh < B)
    (h1 : shc[1]? = some (.int .i64 (st : Nat))) (h4 : shc[4]? = some (.pointer (some ⟨x.1, 0, none⟩))) (h6 : shc[6]? = some (.bool false)) (hx : x ∈ L) (hy : y ∈ L) (hE : ∀ args u, (callFunc fn args).run Tryz.prog u = .ok (.enter fn args) u) (HF : BegI (KsOf L) (Sti A B L w0) fn cs F0) :
    SealI 13 (KsOf L) (Sti A B L w0) st c (fun s zs => mskZ (encV x.2.1 x.2.2) (dbN (encV y.2.1 y.2.2 (F0 s zs.length))) zs (zs.length / 16)) := by
  intro s b off cp zs u hI hs64 hl0 hl1 hlst hzb hbk hv
  have hC := hL.cst
  have hcu := hI.bx hL hc hcA.1 hcA.2 (by decide)
  have hsu := hI.bx hL hs hsA.1 hsA.2 (by decide)
  obtain ⟨_, hcp, hz⟩ := view_cells hv
  have hm : zs.length ≤ maxLen := by unfold maxLen; omega
  have q := seal_gen c sh 201 [.pointer (some ⟨sh, 0, none⟩), .func (.func fn) #[] cs, .pointer (some ⟨y.1, 0, none⟩)] (s : Nat) (some ⟨b, off, none⟩) zs.length cp st u (hcu.cell 0 _ rfl) (hcu.cell 2 _ rfl) (hsu.cell 1 _ h1) (hsu.cell 6 _ h6) hl0 (by omega) hlst hst (fun args u => enter_ok Tryz.func201 (by rfl) (by rfl) args u)
    (fun v w' => ∃ X, v = .slice (some ⟨X, 0, none⟩) zs.length zs.length ∧ u.heap.size ≤ X ∧ Bx w' X 5 (xtsL (encV x.2.1 x.2.2) (encV y.2.1 y.2.2 (F0 s zs.length)) zs) ∧ Sti A B L w0 w' ∧ Gk (KsOf L) u w') ?_
  · refine q.mono fun e w' hh => ?_
    obtain ⟨y', kk, d, rfl, X, hX, p1, p2, p3, p4⟩ := hh.out
    rw [hX]
    refine ⟨X, zs.length, rfl, p1, ?_, p3, p4⟩
    rw [xtsL, mskL_cells _ _ _ _ rfl (by omega)] at p2
    have hv2 := view_row p2 (by rw [mskZ_len]; exact hm)
    rw [mskZ_len] at hv2
    exact hv2
  · refine (xseal_ok hC fn sh y.1 cs hE (encV x.2.1 x.2.2) (encV y.2.1 y.2.2) (F0 s zs.length) s b off cp zs u hI (fun u2 hu2 => HF s zs.length u2 hs64 hl1 hu2) (sti_und hL y hy) (sti_enc hL sh shc hsA.1 hsA.2 hs x hx h4) hl0 (by omega) hcp hzb hbk hz).mono fun e w' hh => ?_
    obtain ⟨X, rfl, p1, p2, p3, p4⟩ := hh.out
    exact ⟨_, _, _, rfl, X, rfl, p1, p2, p3, p4⟩
end Go.Proofs.YtehlppaidgkpaaaGreatDoor
namespace Go.Proofs.YtehlppaidgkpaaaGreatDoor
open Go.RowKit
set_option linter.unusedVariables false
set_option linter.unusedSimpArgs false
set_option maxHeartbeats 800000 in
set_option maxRecDepth 100000 in
theorem plainBE_ok (s : Nat) (n : Int) (w : World) (hs : s < 18446744073709551616) :
    Calls Tryz.prog 181 #[.int .u64 (s : Nat), .int .i64 n] w fun e w' => Hid (e = .returned (Fd.BV (Fd.rv (plV true s))) ∧ Below w.heap.size w w') := by
  obtain ⟨M, HMM⟩ : ∃ M, Hid (M = Fd.BL (Fd.rv (plV true s))) := ⟨_, rfl⟩
  have HG : Hid (∀ u, Calls Tryz.prog 182 #[.int .u64 0, .int .u64 (s : Nat)] u fun e w' => Hid (e = .returned (.agg M.toArray) ∧ Below u.heap.size u w')) := fun u => by
    rw [HMM.out]; unfold plV; rw [if_pos rfl]
    obtain ⟨h1, h2⟩ := nV_parts s hs
    have q := Fd.big_ok (BitVec.ofNat 128 s) u
    rw [h1, h2] at q
    exact q.mono fun e w' hh => hh
  have HLN : Hid (M.length = 16 ∧ (∀ x ∈ M, x.oneCell' = true)) := by rw [HMM.out]; exact ⟨rfl, BL_one8 _⟩
  show Calls Tryz.prog 181 #[_, _] w fun e w' => Hid (e = .returned (.agg (Fd.BL (Fd.rv (plV true s))).toArray) ∧ _)
  rw [← HMM.out]
  obtain ⟨w1, hw1⟩ : ∃ w1, w1 = w.alloc (.cells ZZ.toArray 27) := ⟨_, rfl⟩
  have HB1 : Hid (Bx w1 w.heap.size 27 ZZ ∧ Below w.heap.size w w1) := by rw [hw1]; exact ⟨Bx.new w 27 ZZ, (Below.refl _ _).alloc (Nat.le_refl _) _⟩
  clear hs
  go_enter Tryz.func181, Tryz.ntmps181
  go_upto_region 1 with fail
  rw [show w.alloc (.cells _ 27) = w1 from hw1.symm]
  clear hw1
  obtain ⟨m, HM2⟩ : ∃ m, Hid (w.heap.size = m) := ⟨_, rfl⟩
  rw [HM2.out] at HB1 ⊢
  go_wp2_with (first
    | (go_at_call 182; refine (HG.out _).mono ?_; intro e4 w4 hh; obtain ⟨rfl, hb4⟩ := hh.out; have HB4 : Hid (Bx w4 m 27 ZZ ∧ Below m w w4) := ⟨HB1.out.1.below hb4, HB1.out.2.trans (hb4.mono (by have := HB1.out.1.lt; omega))⟩; clear hh hb4)
    | (refine wpList_store_bx (by rfl) 27 (.tmp 4) (.tmp 6) (by rfl) ZZ M m (by rfl) (by rfl) HB4.out.1 (by rw [HLN.out.1]; rfl) (by rw [HLN.out.1]; kernel_rfl) HLN.out.2 ?_; intro u9 hb9 hg9))
  refine ret_agg (b := m) M rfl rfl hb9.range Tryz.underlying27 rfl (by rw [HLN.out.1]; kernel_rfl) ⟨rfl, ?_⟩
  have hfin : Below m w u9 := HB4.out.2.trans (below_gb hg9 (by have := HB4.out.1.lt; omega) (by omega))
  first | exact hfin | (rw [HM2.out]; exact hfin)
theorem set_keep2 {w : World} {p m : Nat} {x : Value} {M : List Value} (hp : w.cell? ⟨p, 0, none⟩ = some x) (hpm : p < m) (hb : Bx w m 27 ZZ) (hM : M.length = 16) : (w.setCells m 0 M).cell? ⟨p, 0, none⟩ = some x ∧ (w.setCells m 0 M).there m 0 16 := by
  refine ⟨?_, bx_there (hb.store M (by rw [hM]; rfl)) hM⟩
  rw [World.cell?_of_block (a := ⟨p, 0, none⟩) ((setCells_gb m M 0 w).block p (World.block_lt_of_cell? w _ hp) (fun e => by injection e with e; omega))]
  exact hp
set_option maxHeartbeats 800000 in
set_option maxRecDepth 100000 in
/-- What ESSIV begins with: little under the key that the box at p names. -/
theorem essiv_ok {B : Nat} {Ks : Nat → Prop} {I : World → Prop} (hC : Cst B Ks I) (p g : Nat) (E : BitVec 128 → BitVec 128) (s : Nat) (n : Int) (w : World) (hs : s < 18446744073709551616) (hI : I w) (hp : w.cell? ⟨p, 0, none⟩ = some (.pointer (some ⟨g, 0, none⟩))) (hpk : ¬ Ks p) (HU : DoI Ks I 188 (.pointer (some ⟨g, 0, none⟩)) E) :
    Calls Tryz.prog 187 #[.int .u64 (s : Nat), .int .i64 n, .pointer (some ⟨p, 0, none⟩)] w fun e w' => Hid (e = .returned (Fd.BV (E (plV true s))) ∧ I w' ∧ Gk Ks w w') := by
  obtain ⟨v, HV⟩ : ∃ v, Hid (v = plV true s) := ⟨_, rfl⟩
  obtain ⟨L, HL⟩ : ∃ L, Hid (L = Fd.BL v) := ⟨_, rfl⟩
  obtain ⟨M, HMM⟩ : ∃ M, Hid (M = Fd.BL (E v)) := ⟨_, rfl⟩
  have HG : Hid (∀ u, Calls Tryz.prog 38 #[.int .u64 0, .int .u64 (s : Nat)] u fun e w' => Hid (e = .returned (.agg L.toArray) ∧ Below u.heap.size u w')) := fun u => by
    rw [HL.out, HV.out]; unfold plV; rw [if_pos rfl]; exact little0_ok s hs u
  have HK : Hid (∀ u, I u → Calls Tryz.prog 188 #[.pointer (some ⟨g, 0, none⟩), .agg L.toArray] u fun e w' => Hid (e = .returned (.agg M.toArray) ∧ I w' ∧ Gk Ks u w')) := fun u hu => by
    rw [HL.out, HMM.out]; exact HU v u hu
  have HLN : Hid (M.length = 16 ∧ (∀ x ∈ M, x.oneCell' = true)) := by rw [HMM.out]; exact ⟨rfl, BL_one8 _⟩
  rw [← HV.out]
  show Calls Tryz.prog 187 #[_, _, _] w fun e w' => Hid (e = .returned (.agg (Fd.BL (E v)).toArray) ∧ _)
  rw [← HMM.out]
  obtain ⟨w1, hw1⟩ : ∃ w1, w1 = w.alloc (.cells ZZ.toArray 27) := ⟨_, rfl⟩
  have hb1 : Below w.heap.size w w1 := by rw [hw1]; exact (Below.refl _ _).alloc (Nat.le_refl _) _
  have HB1 : Hid (Bx w1 w.heap.size 27 ZZ ∧ Below w.heap.size w w1 ∧ B ≤ w.heap.size) := by rw [hw1]; exact ⟨Bx.new w 27 ZZ, (Below.refl _ _).alloc (Nat.le_refl _) _, hC.size w hI⟩
  have hpl : p < w.heap.size := World.block_lt_of_cell? w _ hp
  have c0 : w1.cell? ⟨p, 0, none⟩ = some (.pointer (some ⟨g, 0, none⟩)) := by rw [hb1.cell hpl]; exact hp
  have HID : Hid (I w1.drew ∧ Gk Ks w w1.drew) := ⟨hC.below (hC.below hI hb1) (Below.refl _ _).drew, (Gk.of_below hb1).below (Below.refl _ _).drew⟩
  have HPK : Hid (¬ Ks p ∧ p < w.heap.size) := ⟨hpk, hpl⟩
  clear hs hI hp hpk hb1 hpl HU
  go_enter Tryz.func187, Tryz.ntmps187
  go_upto_region 1 with fail
  rw [show w.alloc (.cells _ 27) = w1 from hw1.symm]
  clear hw1
  obtain ⟨m, HM2⟩ : ∃ m, Hid (w.heap.size = m) := ⟨_, rfl⟩
  rw [HM2.out] at HB1 HPK ⊢
  have HNK : Hid (¬ Ks m) := hC.new HB1.out.2.2
  have HW1 : Hid (m < w1.heap.size) := HB1.out.1.lt
  have hU : Tryz.prog.underlying 27 = some (.array 16 5) := Tryz.underlying27
  have hiM : (Tryz.prog.info? 27).map (·.size) = some M.length := by rw [HLN.out.1]; kernel_rfl
  have hM16 : M.length = 16 := HLN.out.1
  have hM1 : ∀ v ∈ M, v.oneCell' = true := HLN.out.2
  have ht1 : w1.there m 0 16 := bx_there HB1.out.1 rfl
  go_region_held3 (fun u => u.cell? ⟨p, 0, none⟩ = some (.pointer (some ⟨g, 0, none⟩)) ∧ u.there m 0 16) (first | exact ⟨c0, ht1⟩ | exact hS2 | exact hS3 | exact hS4 | go_keep)
    (first
      | (go_at_call 38; refine (HG.out _).mono ?_; intro e2 w2 hh; obtain ⟨rfl, hb2⟩ := hh.out; have HB2 : Hid (Bx w2 m 27 ZZ ∧ I w2 ∧ Gk Ks w w2) := ⟨(HB1.out.1.below (Below.refl _ _).drew).below hb2, hC.below HID.out.1 hb2, HID.out.2.below hb2⟩; have hS2 : w2.cell? ⟨p, 0, none⟩ = some (.pointer (some ⟨g, 0, none⟩)) ∧ w2.there m 0 16 := ⟨(hb2.cell (by have := HPK.out.2; have := HW1.out; simp; omega)).trans (by simpa using c0), bx_there HB2.out.1 rfl⟩; clear hh hb2)
      | (go_at_call 188; refine (HK.out _ HB2.out.2.1).mono ?_; intro e3 w3 hh; obtain ⟨rfl, h1, h2⟩ := hh.out; have HB3 : Hid (Bx w3 m 27 ZZ ∧ I w3 ∧ Gk Ks w w3) := ⟨HB2.out.1.gk h2 HNK.out, h1, HB2.out.2.2.trans h2⟩; have hS3 : w3.cell? ⟨p, 0, none⟩ = some (.pointer (some ⟨g, 0, none⟩)) ∧ w3.there m 0 16 := ⟨h2.cell HPK.out.1 hS2.1, bx_there HB3.out.1 rfl⟩; have hS4 := set_keep2 hS3.1 HPK.out.2 HB3.out.1 hM16; clear hh h1 h2))
  have HB9 : Hid (Bx (w3.setCells m 0 M) m 27 M ∧ w3.grownBy (w3.setCells m 0 M) (some m)) := ⟨HB3.out.1.store M (by rw [hM16]; rfl), setCells_gb m M 0 w3⟩
  obtain ⟨u9, hu9⟩ : ∃ u9, u9 = w3.setCells m 0 M := ⟨_, rfl⟩
  rw [← hu9] at HB9 ⊢
  clear hu9 hS2 hS3 hS4
  go_wp2
  exact ret_agg (b := m) M rfl rfl HB9.out.1.range Tryz.underlying27 rfl hiM ⟨rfl, hC.gb HB3.out.2.1 HB9.out.2 HB1.out.2.2, HB3.out.2.2.gb HB9.out.2 (by have := HM2.out; omega)⟩
/-- A begin that has no key. -/
theorem begI_pure {B : Nat} {Ks : Nat → Prop} {I : World → Prop} (hC : Cst B Ks I) (fn : Nat) (F : Nat → Nat → BitVec 128) (h : ∀ (s n : Nat) (u : World), s < 18446744073709551616 → n ≤ 1024 → Calls Tryz.prog fn #[.int .u64 (s : Nat), .int .i64 (n : Nat)] u fun e w' => Hid (e = .returned (Fd.BV (F s n)) ∧ Below u.heap.size u w')) : BegI Ks I fn #[] F := fun s n u hs hn hI => by
  rw [Array.append_empty]
  refine (h s n u hs hn).mono fun e w' hh => ?_
  obtain ⟨rfl, hb⟩ := hh.out
  exact ⟨rfl, hC.below hI hb, Gk.of_below hb⟩
/-- The begins without a key, by the mode's number. -/
def sbN (k : Nat) : Nat := if k = 10 ∨ k = 15 ∨ k = 2 then 179 else if k = 11 ∨ k = 16 ∨ k = 3 then 180 else 181
def sbG (k : Nat) : Nat := if k = 10 ∨ k = 15 ∨ k = 2 then 149 else if k = 11 ∨ k = 16 ∨ k = 3 then 150 else 151
def sbF (k : Nat) (s n : Nat) : BitVec 128 := if k = 10 ∨ k = 15 ∨ k = 2 then plV false s else if k = 11 ∨ k = 16 ∨ k = 3 then plV true s else Fd.rv (plV true s)
theorem sb_ok (k : Nat) (s n : Nat) (u : World) (hs : s < 18446744073709551616) (hn : n ≤ 1024) : Calls Tryz.prog (sbN k) #[.int .u64 (s : Nat), .int .i64 (n : Nat)] u fun e w' => Hid (e = .returned (Fd.BV (sbF k s n)) ∧ Below u.heap.size u w') := by
  unfold sbN sbF
  split
  · exact plain_ok s n u hs
  · split
    · exact plain64_ok s n u hs
    · exact plainBE_ok s n u hs
theorem sb_enter (k : Nat) : ∀ args u, (callFunc (sbN k) args).run Tryz.prog u = .ok (.enter (sbN k) args) u := by
  unfold sbN
  split
  · exact fun args u => enter_ok Tryz.func179 (by rfl) (by rfl) args u
  · split
    · exact fun args u => enter_ok Tryz.func180 (by rfl) (by rfl) args u
    · exact fun args u => enter_ok Tryz.func181 (by rfl) (by rfl) args u
theorem sg_ok (k : Nat) (p : Value) (w : World) : Calls Tryz.prog (sbG k) #[p] w fun e w' => e = .returned (fV (sbN k)) ∧ w' = w := by
  unfold sbN sbG
  split
  · exact beginPlain_ok p w
  · split
    · exact beginPlain64_ok p w
    · exact beginPlain64BE_ok p w
end Go.Proofs.YtehlppaidgkpaaaGreatDoor
namespace Go.Proofs.YtehlppaidgkpaaaGreatDoor
open Go.RowKit
set_option linter.unusedVariables false
set_option linter.unusedSimpArgs false
theorem sl_lit (b o i j cap : Nat) (h : i < cap) : sliced (some ⟨b, o, none⟩) i j cap 1 = .slice (some ⟨b, o + i, none⟩) (j - i) (cap - i) := by
  unfold sliced
  rw [if_neg (by omega), Option.map_some, Addr.add_mid, Nat.mul_one]
theorem cutV_take (zs : List Int) (m j : Nat) (hj : j < m) : cutV (zs.take (16 * m)) j = cutV zs j := by
  unfold cutV
  congr 1
  have e : ∀ i, i < 16 → nat8 (zs.take (16 * m)) (16 * j + i) = nat8 zs (16 * j + i) := fun i hi => by
    unfold nat8
    rw [List.getD_eq_getElem?_getD, List.getElem?_take, if_pos (by omega), ← List.getD_eq_getElem?_getD]
  have pk_congr : ∀ (F G : Nat → Nat) n, (∀ i, i < n → F i = G i) → Fd.pk F n = Fd.pk G n := by
    intro F G n
    induction n with
    | zero => intro _; rfl
    | succ n ih => intro h; rw [Fd.pk, Fd.pk, ih (fun i hi => h i (by omega)), h n (by omega)]
  exact pk_congr _ _ 16 e
theorem getD_take (L : List Int) (k i : Nat) (h : i < k) : (L.take k).getD i 0 = L.getD i 0 := by
  rw [List.getD_eq_getElem?_getD, List.getElem?_take, if_pos h, ← List.getD_eq_getElem?_getD]
theorem getD_drop (L : List Int) (k i : Nat) : (L.drop k).getD i 0 = L.getD (k + i) 0 := by
  rw [List.getD_eq_getElem?_getD, List.getElem?_drop, ← List.getD_eq_getElem?_getD]
theorem list_eq {X Y : List Int} (hl : X.length = Y.length) (h : ∀ i, i < X.length → X.getD i 0 = Y.getD i 0) : X = Y := by
  apply List.ext_getElem hl
  intro i h1 h2
  have q := h i h1
  rw [List.getD_eq_getElem?_getD, List.getD_eq_getElem?_getD, List.getElem?_eq_getElem h1, List.getElem?_eq_getElem h2] at q
  simpa using q
/-- The whole blocks but the last, and what was stolen. -/
theorem steal_front (E : BitVec 128 → BitVec 128) (f : Nat → BitVec 128) (L : List Int) (m : Nat) (hm : m = L.length / 16) (hr : L.length ≠ 16 * m) (h1 : 1 ≤ m) : (mskZ E f L m).take (16 * m - 16) = (mskZ E f (L.take (16 * m)) m).take (16 * m - 16) := by
  have hl : (L.take (16 * m)).length = 16 * m := by rw [List.length_take]; omega
  apply list_eq
  · rw [List.length_take, List.length_take, mskZ_len, mskZ_len, hl]; omega
  · intro i hi
    rw [List.length_take, mskZ_len] at hi
    rw [getD_take _ _ _ (by omega), getD_take _ _ _ (by omega), mskZ_at E f L m i (by omega), mskZ_at E f _ m i (by rw [hl]; omega)]
    unfold mskB
    rw [if_pos (.inr (by omega)), if_pos (.inl hl)]
    unfold mskF
    rw [cutV_take L m (i / 16) (by omega)]
theorem steal_back (E : BitVec 128 → BitVec 128) (f : Nat → BitVec 128) (L : List Int) (m : Nat) (hm : m = L.length / 16) (hr : L.length ≠ 16 * m) (h1 : 1 ≤ m) : (mskZ E f L m).drop (16 * m) = ((mskZ E f (L.take (16 * m)) m).drop (16 * m - 16)).take (L.length - 16 * m) := by
  have hl : (L.take (16 * m)).length = 16 * m := by rw [List.length_take]; omega
  apply list_eq
  · rw [List.length_drop, List.length_take, List.length_drop, mskZ_len, mskZ_len, hl]; omega
  · intro i hi
    rw [List.length_drop, mskZ_len] at hi
    rw [getD_drop, getD_take _ _ _ (by omega), getD_drop, mskZ_at E f L m _ (by omega), mskZ_at E f _ m _ (by rw [hl]; omega)]
    unfold mskB
    rw [if_neg (by omega), if_neg (by omega), if_pos (.inl hl)]
    unfold mskF
    rw [show (16 * m - 16 + i) / 16 = m - 1 by omega, show (16 * m + i) % 16 = (16 * m - 16 + i) % 16 by omega, cutV_take L m (m - 1) (by omega)]
end Go.Proofs.YtehlppaidgkpaaaGreatDoor
