import Derived.Test.YtcnikfikpnnblaaGreatDoorPart00
import Derived.Test.YtcnikfikpnnblaaGreatDoorHcc
namespace Go.Proofs.YtcnikfikpnnblaaGreatDoor
open Go.RowKit
set_option linter.unusedVariables false
set_option linter.unusedSimpArgs false
theorem alloc29_run (w : World) : (execOp (fun _ => undef) { dst := some 0, op := Op.alloc 29, type := 0, pos := "", after := #[], guard := none }).run Tryz.prog w = .ok (.value (.pointer (some ⟨w.heap.size, 0, none⟩))) (w.alloc (.cells ZZ.toArray 29)) := by kernel_rfl
theorem step_alloc29 {ops : Array Oper} {o : Oper} {a : Act} {w : World} {K : Act → World → Prop} {Q : Exit → Act → World → Prop} {E : Prop} (hgd : o.guard = none) (d : Nat) (hd : o.dst = some d) (ho : o.op = .alloc 29)
  (h : ∀ u b, Hid (u = w.alloc (.cells ZZ.toArray 29)) → Hid (b = w.heap.size) → K (a.put (some d) (.pointer (some ⟨b, 0, none⟩))) u) : if Region.wanted o (yielded ops a.tmps) = true then Oper.wp Tryz.prog o a w K Q else E := by
 have hw : Region.wanted o (yielded ops a.tmps) = true := by simp [Region.wanted, hgd]
 rw [if_pos hw]
 have z := h _ _ rfl rfl
 rw [← hd] at z
 have q : (execOp a.eval o).run Tryz.prog w = .ok (.value (.pointer (some ⟨w.heap.size, 0, none⟩))) (w.alloc (.cells ZZ.toArray 29)) := by
  have e := alloc29_run w
  simp only [execOp, ho] at e ⊢
  exact e
 unfold Oper.wp
 rw [q]
 exact z
/-- What hctr2's functions keep: the receiver's box at M. -/
structure HcI (g nr : Nat) (K : Nat → Nat) (sh fn M : Nat) (w u : World) : Prop where
 key : KeyAt u g nr K
 csh : u.cell? ⟨sh, 4, none⟩ = some (.pointer (some ⟨g, 0, none⟩))
 box : Bx u M 212 [.pointer (some ⟨sh, 0, none⟩), .func (.func fn) #[] #[]]
 gb : w.grownBy u (some g)
 hM : w.heap.size ≤ M
 hg : g < w.heap.size
 n1 : sh ≠ g
theorem HcI.below {g nr : Nat} {K : Nat → Nat} {sh fn M : Nat} {w u v : World} (h : HcI g nr K sh fn M w u) (hb : Below u.heap.size u v) : HcI g nr K sh fn M w v :=
 ⟨h.key.below hb h.key.ciph.here, (hb.cell (World.block_lt_of_cell? u _ h.csh)).trans h.csh, h.box.below hb, ⟨hb.os.trans h.gb.os, hb.tape.trans h.gb.tape, hb.output.trans h.gb.output, Nat.le_trans h.gb.size hb.size, fun c hc hn => (hb.block c (Nat.lt_of_lt_of_le hc h.gb.size)).trans (h.gb.block c hc hn)⟩, h.hM, h.hg, h.n1⟩
theorem HcI.drew {g nr : Nat} {K : Nat → Nat} {sh fn M : Nat} {w u : World} (h : HcI g nr K sh fn M w u) : HcI g nr K sh fn M w u.drew := h.below (Below.refl _ _).drew
theorem HcI.alloc {g nr : Nat} {K : Nat → Nat} {sh fn M : Nat} {w u : World} (h : HcI g nr K sh fn M w u) (o : Obj) : HcI g nr K sh fn M w (u.alloc o) := h.below ((Below.refl _ _).alloc (Nat.le_refl _) _)
theorem HcI.enc {g nr : Nat} {K : Nat → Nat} {sh fn M : Nat} {w u v : World} (h : HcI g nr K sh fn M w u) (hk : KeyAt v g nr K) (hg : u.grownBy v (some g)) : HcI g nr K sh fn M w v := by
 have hne := h.n1
 have hlt := h.hg
 have hM := h.hM
 exact ⟨hk, (World.cell?_of_block (a := ⟨sh, 4, none⟩) (hg.block sh (World.block_lt_of_cell? u _ h.csh) (fun e => hne (by injection e)))).trans h.csh, h.box.keep (hg.block M h.box.lt (fun e => by injection e with e; omega)), gb_trans h.gb hg, h.hM, h.hg, h.n1⟩
/-- A new block is written. -/
theorem HcI.put {g nr : Nat} {K : Nat → Nat} {sh fn M b : Nat} {w u v : World} (h : HcI g nr K sh fn M w u) (hg : u.grownBy v (some b)) (hb : M < b) (hs : sh < w.heap.size) : HcI g nr K sh fn M w v := by
 have hlt := h.hg
 have hM := h.hM
 refine ⟨h.key.sameK (hg.block g h.key.ciph.here (fun e => by injection e with e; omega)) hg.size, (World.cell?_of_block (a := ⟨sh, 4, none⟩) (hg.block sh (World.block_lt_of_cell? u _ h.csh) (fun e => by injection e with e; omega))).trans h.csh, h.box.keep (hg.block M h.box.lt (fun e => by injection e with e; omega)), ?_, h.hM, h.hg, h.n1⟩
 exact ⟨hg.os.trans h.gb.os, hg.tape.trans h.gb.tape, hg.output.trans h.gb.output, Nat.le_trans h.gb.size hg.size, fun c hc hn => (hg.block c (Nat.lt_of_lt_of_le hc h.gb.size) (fun e => by injection e with e; omega)).trans (h.gb.block c hc hn)⟩
theorem HcI.bx {g nr : Nat} {K : Nat → Nat} {sh fn M b : Nat} {t : TypeId} {L : List Value} {w u v : World} (h : HcI g nr K sh fn M w u) (hx : Bx u b t L) (hb : w.heap.size ≤ b) (hg : u.grownBy v (some g)) : Bx v b t L := by
 have hlt := h.hg
 exact hx.keep (hg.block b hx.lt (fun e => by injection e with e; omega))
set_option maxHeartbeats 3200000 in
set_option maxRecDepth 100000 in
/-- hctr2.hash. -/
theorem hash_ok (g nr : Nat) (K : Nat → Nat) (sh fn : Nat) (fi : BitVec 128) (w : World) (hK : KeyAt w g nr K) (csh : w.cell? ⟨sh, 4, none⟩ = some (.pointer (some ⟨g, 0, none⟩))) (n1 : sh ≠ g) :
  Calls Tryz.prog 217 #[.agg #[.pointer (some ⟨sh, 0, none⟩), .func (.func fn) #[] #[]], Fd.BV fi] w fun e w' => Hid (∃ p q, e = .returned (.func (.func 248) #[] #[.pointer (some ⟨p, 0, none⟩), .pointer (some ⟨q, 0, none⟩)]) ∧ w.heap.size ≤ p ∧ w.heap.size ≤ q ∧ Bx w' p 29 (Fd.BL fi) ∧ Bx w' q 29 (Fd.BL (encV nr K 0#128)) ∧ KeyAt w' g nr K ∧ w.grownBy w' (some g)) := by
 obtain ⟨FI, HFI⟩ : ∃ L, Hid (L = Fd.BL fi) := ⟨_, rfl⟩
 obtain ⟨HH, HHH⟩ : ∃ L, Hid (L = Fd.BL (encV nr K 0#128)) := ⟨_, rfl⟩
 obtain ⟨O, HO⟩ : ∃ L, Hid (L = Fd.BL 0#128) := ⟨_, rfl⟩
 have HL0 : Hid (∀ u, Calls Tryz.prog 64 #[.int .u64 0, .int .u64 0] u fun e w' => Hid (e = .returned (.agg O.toArray) ∧ Below u.heap.size u w')) := fun u => by rw [HO.out]; exact little0_ok 0 (by decide) u
 have HEN : Hid (∀ u, KeyAt u g nr K → u.cell? ⟨sh, 4, none⟩ = some (.pointer (some ⟨g, 0, none⟩)) → Calls Tryz.prog 148 #[.pointer (some ⟨sh, 0, none⟩), .agg O.toArray] u fun e w' => Hid (e = .returned (.agg HH.toArray) ∧ KeyAt w' g nr K ∧ u.grownBy w' (some g))) := fun u hu hc => by
  rw [HO.out, HHH.out]; exact encrypt_ok sh g nr K 0#128 u n1 hc hu
 have HLN : Hid (HH.length = 16 ∧ (∀ x ∈ HH, x.oneCell' = true)) := by rw [HHH.out]; exact ⟨Fd.BL_length _, BL_one8 _⟩
 show Calls Tryz.prog 217 #[_, .agg (Fd.BL fi).toArray] w fun e w' => _
 rw [← HFI.out, ← HHH.out]
 obtain ⟨w1, hw1⟩ : ∃ w1, w1 = (w.alloc (.cells #[.pointer (some ⟨sh, 0, none⟩), .func (.func fn) #[] #[]] 212)).alloc (.cells FI.toArray 29) := ⟨_, rfl⟩
 have HB1 : Hid (Bx w1 w.heap.size 212 [.pointer (some ⟨sh, 0, none⟩), .func (.func fn) #[] #[]] ∧ Bx w1 (w.heap.size + 1) 29 FI ∧ Below w.heap.size w w1 ∧ KeyAt w1 g nr K ∧ w1.cell? ⟨sh, 4, none⟩ = some (.pointer (some ⟨g, 0, none⟩)) ∧ g < w.heap.size) := by
  have hb : Below w.heap.size w w1 := by rw [hw1]; exact ((Below.refl _ _).alloc (Nat.le_refl _) _).alloc (by simp) _
  refine ⟨?_, ?_, hb, hK.below hb hK.ciph.here, (hb.cell (World.block_lt_of_cell? w _ csh)).trans csh, hK.ciph.here⟩
  ·rw [hw1]; exact (Bx.new w 212 [.pointer (some ⟨sh, 0, none⟩), .func (.func fn) #[] #[]]).below ((Below.refl _ _).alloc (Nat.le_refl _) _)
  ·rw [hw1]; have q := Bx.new (w.alloc (.cells #[.pointer (some ⟨sh, 0, none⟩), .func (.func fn) #[] #[]] 212)) 29 FI; simpa using q
 have N1 : Hid (sh ≠ g) := n1
 have HSL : Hid (sh < w.heap.size) := World.block_lt_of_cell? w _ csh
 clear hK csh n1
 go_enter Tryz.func217, Tryz.ntmps217
 go_upto_region 1 with fail
 rw [← hw1]
 clear hw1
 obtain ⟨M, HMM⟩ : ∃ M, Hid (w.heap.size = M) := ⟨_, rfl⟩
 rw [HMM.out] at HB1 ⊢
 have HW1 : Hid (M + 1 < w1.heap.size) := HB1.out.2.1.lt
 have c0 : w1.cell? ⟨M, 0, none⟩ = some (.pointer (some ⟨sh, 0, none⟩)) := HB1.out.1.cell 0 _ rfl
 have HI1 : Hid (HcI g nr K sh fn M w w1) := ⟨HB1.out.2.2.2.1, HB1.out.2.2.2.2.1, HB1.out.1, ⟨HB1.out.2.2.1.os, HB1.out.2.2.1.tape, HB1.out.2.2.1.output, HB1.out.2.2.1.size, fun c hc _ => HB1.out.2.2.1.block c (by rw [← HMM.out]; exact hc)⟩, by rw [HMM.out]; exact Nat.le_refl _, by rw [HMM.out]; exact HB1.out.2.2.2.2.2, N1.out⟩
 have hM1 : M < w1.heap.size := HB1.out.1.lt
 have hS0 : w1.drew.cell? ⟨M, 0, none⟩ = some (.pointer (some ⟨sh, 0, none⟩)) := HI1.out.drew.box.cell 0 _ rfl
 have HS0 : Hid (HcI g nr K sh fn M w w1.drew ∧ Bx w1.drew (M + 1) 29 FI) := ⟨HI1.out.drew, HB1.out.2.1.below (Below.refl _ _).drew⟩
 refine wp_region_noPanic ?_
 refine wp_region_held_drew (S := (fun u => u.cell? ⟨M, 0, none⟩ = some (.pointer (some ⟨sh, 0, none⟩)))) (by kernel_rfl) (hS0) (fun _ => ?_)
 refine tH 0 6 (.pointer (some ⟨M, 0, none⟩)) rfl rfl (by kernel_rfl) (hS0) (Or.inl ⟨by rfl, fun w' hS' => by first | go_simp | (obtain ⟨c1, c2⟩ := hS'; go_simp) | (obtain ⟨c1, c2, c3⟩ := hS'; go_simp)⟩) ?_
 try simp only [pU]
 refine tH 1 7 (.pointer (some ⟨sh, 0, none⟩)) rfl rfl (by kernel_rfl) (hS0) (Or.inl ⟨by rfl, fun w' hS' => by first | go_simp | (obtain ⟨c1, c2⟩ := hS'; go_simp) | (obtain ⟨c1, c2, c3⟩ := hS'; go_simp)⟩) ?_
 try simp only [pU]
 refine wpAnyH_ready (rs := [2, 4]) (by kernel_rfl) (by simp) ?_
 refine AllReadyH.cons rfl (fun KK hK => ?_) (AllReadyH.cons rfl (fun KK hK => ?_) AllReadyH.nil)
 ·skip
  go_simp
  refine (HL0.out _).mono ?_
  intro e w11 hh
  obtain ⟨rfl, hb⟩ := hh.out
  have HS11 : Hid (HcI g nr K sh fn M w w11 ∧ Bx w11 (M + 1) 29 FI) := ⟨HS0.out.1.below hb, HS0.out.2.below hb⟩
  clear hh hb
  go_wp2_with fail
  refine hK.out _ _ (HS11.out.1.box.cell 0 _ rfl) (fun _ => ?_)
  clear hK KK
  try simp only [pU]
  refine wpAnyH_ready (rs := [3, 4]) (by kernel_rfl) (by simp) ?_
  refine AllReadyH.cons rfl (fun KK hK => ?_) (AllReadyH.cons rfl (fun KK hK => ?_) AllReadyH.nil)
  ·skip
   go_simp
   refine (HEN.out _ HS11.out.1.key HS11.out.1.csh).mono ?_
   intro e w12 hh
   obtain ⟨rfl, hk, hg⟩ := hh.out
   have HS12 : Hid (HcI g nr K sh fn M w w12 ∧ Bx w12 (M + 1) 29 FI) := ⟨HS11.out.1.enc hk hg, HS11.out.1.bx HS11.out.2 (by rw [HMM.out]; omega) hg⟩
   clear hh hk hg
   go_wp2_with fail
   refine hK.out _ _ (HS12.out.1.box.cell 0 _ rfl) (fun _ => ?_)
   clear hK KK
   try simp only [pU]
   refine wpAnyH_ready (rs := [4]) (by kernel_rfl) (by simp) ?_
   refine AllReadyH.cons rfl (fun KK hK => ?_) AllReadyH.nil
   refine step_alloc29 rfl 5 rfl rfl ?_
   intro w13 b13 hu hb
   have HS13 : Hid (HcI g nr K sh fn M w w13 ∧ Bx w13 (M + 1) 29 FI) := by rw [hu.out]; exact ⟨HS12.out.1.alloc _, HS12.out.2.below ((Below.refl _ _).alloc (Nat.le_refl _) _)⟩
   have HZ13 : Hid (Bx w13 b13 29 ZZ ∧ w.heap.size ≤ b13 ∧ M + 1 < b13) := by rw [hu.out, hb.out]; exact ⟨Bx.new _ 29 ZZ, HS12.out.1.gb.size, HS12.out.2.lt⟩
   clear hu hb
   refine hK.out _ _ (HS13.out.1.box.cell 0 _ rfl) (fun _ => ?_)
   clear hK KK
   try simp only [pU]
   refine wpAnyH_ready (rs := [5]) (by kernel_rfl) (by simp) ?_
   refine AllReadyH.cons rfl (fun KK hK => ?_) AllReadyH.nil
   refine step_store_bx rfl 29 (.tmp 5) (.tmp 9) rfl ZZ HH b13 rfl rfl HZ13.out.1 (by rw [HLN.out.1]; rfl) (by rw [HLN.out.1]; kernel_rfl) HLN.out.2 ?_
   intro u9 HB9 HG9
   have H9 : Hid (HcI g nr K sh fn M w u9 ∧ Bx u9 (M + 1) 29 FI) := ⟨HS13.out.1.put HG9.out (by have := HZ13.out.2.2; omega) HSL.out, HS13.out.2.keep (HG9.out.block _ HS13.out.2.lt (fun e => by injection e with e; have := HZ13.out.2.2; omega))⟩
   refine hK.out _ _ (H9.out.1.box.cell 0 _ rfl) (fun _ => ?_)
   clear hK KK
   try simp only [pU]
   refine wpAnyH_done (by kernel_rfl) ?_ _
   refine NoPanic.normal ?_
   go_wp2
   go_ret
   exact ⟨M + 1, b13, rfl, by rw [HMM.out]; omega, HZ13.out.2.1, H9.out.2, HB9.out, H9.out.1.key, H9.out.1.gb⟩
  ·skip
   refine step_alloc29 rfl 5 rfl rfl ?_
   intro w14 b14 hu hb
   have HS14 : Hid (HcI g nr K sh fn M w w14 ∧ Bx w14 (M + 1) 29 FI) := by rw [hu.out]; exact ⟨HS11.out.1.alloc _, HS11.out.2.below ((Below.refl _ _).alloc (Nat.le_refl _) _)⟩
   have HZ14 : Hid (Bx w14 b14 29 ZZ ∧ w.heap.size ≤ b14 ∧ M + 1 < b14) := by rw [hu.out, hb.out]; exact ⟨Bx.new _ 29 ZZ, HS11.out.1.gb.size, HS11.out.2.lt⟩
   clear hu hb
   refine hK.out _ _ (HS14.out.1.box.cell 0 _ rfl) (fun _ => ?_)
   clear hK KK
   try simp only [pU]
   refine wpAnyH_ready (rs := [3]) (by kernel_rfl) (by simp) ?_
   refine AllReadyH.cons rfl (fun KK hK => ?_) AllReadyH.nil
   go_simp
   refine (HEN.out _ HS14.out.1.key HS14.out.1.csh).mono ?_
   intro e w15 hh
   obtain ⟨rfl, hk, hg⟩ := hh.out
   have HS15 : Hid (HcI g nr K sh fn M w w15 ∧ Bx w15 (M + 1) 29 FI) := ⟨HS14.out.1.enc hk hg, HS14.out.1.bx HS14.out.2 (by rw [HMM.out]; omega) hg⟩
   have HZ15 : Hid (Bx w15 b14 29 ZZ ∧ w.heap.size ≤ b14 ∧ M + 1 < b14) := ⟨HS14.out.1.bx HZ14.out.1 HZ14.out.2.1 hg, HZ14.out.2⟩
   clear hh hk hg
   go_wp2_with fail
   refine hK.out _ _ (HS15.out.1.box.cell 0 _ rfl) (fun _ => ?_)
   clear hK KK
   try simp only [pU]
   refine wpAnyH_ready (rs := [5]) (by kernel_rfl) (by simp) ?_
   refine AllReadyH.cons rfl (fun KK hK => ?_) AllReadyH.nil
   refine step_store_bx rfl 29 (.tmp 5) (.tmp 9) rfl ZZ HH b14 rfl rfl HZ15.out.1 (by rw [HLN.out.1]; rfl) (by rw [HLN.out.1]; kernel_rfl) HLN.out.2 ?_
   intro u9 HB9 HG9
   have H9 : Hid (HcI g nr K sh fn M w u9 ∧ Bx u9 (M + 1) 29 FI) := ⟨HS15.out.1.put HG9.out (by have := HZ15.out.2.2; omega) HSL.out, HS15.out.2.keep (HG9.out.block _ HS15.out.2.lt (fun e => by injection e with e; have := HZ15.out.2.2; omega))⟩
   refine hK.out _ _ (H9.out.1.box.cell 0 _ rfl) (fun _ => ?_)
   clear hK KK
   try simp only [pU]
   refine wpAnyH_done (by kernel_rfl) ?_ _
   refine NoPanic.normal ?_
   go_wp2
   go_ret
   exact ⟨M + 1, b14, rfl, by rw [HMM.out]; omega, HZ15.out.2.1, H9.out.2, HB9.out, H9.out.1.key, H9.out.1.gb⟩
 ·skip
  refine step_alloc29 rfl 5 rfl rfl ?_
  intro w16 b16 hu hb
  have HS16 : Hid (HcI g nr K sh fn M w w16 ∧ Bx w16 (M + 1) 29 FI) := by rw [hu.out]; exact ⟨HS0.out.1.alloc _, HS0.out.2.below ((Below.refl _ _).alloc (Nat.le_refl _) _)⟩
  have HZ16 : Hid (Bx w16 b16 29 ZZ ∧ w.heap.size ≤ b16 ∧ M + 1 < b16) := by rw [hu.out, hb.out]; exact ⟨Bx.new _ 29 ZZ, HS0.out.1.gb.size, HS0.out.2.lt⟩
  clear hu hb
  refine hK.out _ _ (HS16.out.1.box.cell 0 _ rfl) (fun _ => ?_)
  clear hK KK
  try simp only [pU]
  refine wpAnyH_ready (rs := [2]) (by kernel_rfl) (by simp) ?_
  refine AllReadyH.cons rfl (fun KK hK => ?_) AllReadyH.nil
  go_simp
  refine (HL0.out _).mono ?_
  intro e w17 hh
  obtain ⟨rfl, hb⟩ := hh.out
  have HS17 : Hid (HcI g nr K sh fn M w w17 ∧ Bx w17 (M + 1) 29 FI) := ⟨HS16.out.1.below hb, HS16.out.2.below hb⟩
  have HZ17 : Hid (Bx w17 b16 29 ZZ ∧ w.heap.size ≤ b16 ∧ M + 1 < b16) := ⟨HZ16.out.1.below hb, HZ16.out.2⟩
  clear hh hb
  go_wp2_with fail
  refine hK.out _ _ (HS17.out.1.box.cell 0 _ rfl) (fun _ => ?_)
  clear hK KK
  try simp only [pU]
  refine wpAnyH_ready (rs := [3]) (by kernel_rfl) (by simp) ?_
  refine AllReadyH.cons rfl (fun KK hK => ?_) AllReadyH.nil
  go_simp
  refine (HEN.out _ HS17.out.1.key HS17.out.1.csh).mono ?_
  intro e w18 hh
  obtain ⟨rfl, hk, hg⟩ := hh.out
  have HS18 : Hid (HcI g nr K sh fn M w w18 ∧ Bx w18 (M + 1) 29 FI) := ⟨HS17.out.1.enc hk hg, HS17.out.1.bx HS17.out.2 (by rw [HMM.out]; omega) hg⟩
  have HZ18 : Hid (Bx w18 b16 29 ZZ ∧ w.heap.size ≤ b16 ∧ M + 1 < b16) := ⟨HS17.out.1.bx HZ17.out.1 HZ17.out.2.1 hg, HZ17.out.2⟩
  clear hh hk hg
  go_wp2_with fail
  refine hK.out _ _ (HS18.out.1.box.cell 0 _ rfl) (fun _ => ?_)
  clear hK KK
  try simp only [pU]
  refine wpAnyH_ready (rs := [5]) (by kernel_rfl) (by simp) ?_
  refine AllReadyH.cons rfl (fun KK hK => ?_) AllReadyH.nil
  refine step_store_bx rfl 29 (.tmp 5) (.tmp 9) rfl ZZ HH b16 rfl rfl HZ18.out.1 (by rw [HLN.out.1]; rfl) (by rw [HLN.out.1]; kernel_rfl) HLN.out.2 ?_
  intro u9 HB9 HG9
  have H9 : Hid (HcI g nr K sh fn M w u9 ∧ Bx u9 (M + 1) 29 FI) := ⟨HS18.out.1.put HG9.out (by have := HZ18.out.2.2; omega) HSL.out, HS18.out.2.keep (HG9.out.block _ HS18.out.2.lt (fun e => by injection e with e; have := HZ18.out.2.2; omega))⟩
  refine hK.out _ _ (H9.out.1.box.cell 0 _ rfl) (fun _ => ?_)
  clear hK KK
  try simp only [pU]
  refine wpAnyH_done (by kernel_rfl) ?_ _
  refine NoPanic.normal ?_
  go_wp2
  go_ret
  exact ⟨M + 1, b16, rfl, by rw [HMM.out]; omega, HZ18.out.2.1, H9.out.2, HB9.out, H9.out.1.key, H9.out.1.gb⟩
end Go.Proofs.YtcnikfikpnnblaaGreatDoor
