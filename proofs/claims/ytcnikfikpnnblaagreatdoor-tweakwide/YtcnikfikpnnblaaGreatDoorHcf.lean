import Derived.Test.YtcnikfikpnnblaaGreatDoorPart00
import Derived.Test.YtcnikfikpnnblaaGreatDoorHce
namespace Go.Proofs.YtcnikfikpnnblaaGreatDoor
open Go.RowKit
set_option linter.unusedVariables false
set_option linter.unusedSimpArgs false
theorem view_gb {w u : World} {g : Nat} {v : Value} {zs : List Int} (h : View w v zs) (hv : ∀ b off l c, v = .slice (some ⟨b, off, none⟩) l c → b ≠ g) (hg : w.grownBy u (some g)) : View u v zs := by
 obtain ⟨a, c, rfl, h1, h2, h3, h4⟩ := h
 refine ⟨a, c, rfl, h1, h2, h3, h4.imp id fun ⟨b, off, e, hc⟩ => ⟨b, off, e, fun i hi => ?_⟩⟩
 subst e
 have p := hc i hi
 rw [World.cell?_of_block (a := ⟨b, off + i, none⟩) (hg.block b (World.block_lt_of_cell? w _ p) (fun e => hv b off _ _ rfl (by injection e))), p]
theorem view_atH {w : World} {b off n c : Nat} {zs : List Int} (h : View w (.slice (some ⟨b, off, none⟩) n c) zs) : ∀ i, i < zs.length → w.cell? ⟨b, off + i, none⟩ = some (.int .u8 (zs.getD i 0)) := by
 obtain ⟨a, cap, he, _, _, _, h4⟩ := h
 injection he with h1 h2 h3
 subst h1
 rcases h4 with h4 | ⟨b', o', e, h4⟩
 ·intro i hi; rw [h4] at hi; simp at hi
 ·injection e with e; injection e with e1 e2; subst e1 e2; exact h4
/-- seal's world: the receiver's box, and the hash's two. -/
structure SeI (g nr : Nat) (K : Nat → Nat) (sh fn M p q : Nat) (FI HH : List Value) (w u : World) : Prop where
 hc : HcI g nr K sh fn M w u
 bp : Bx u p 29 FI
 bq : Bx u q 29 HH
 lp : M < p
 lq : M < q
 hsh : sh < w.heap.size
theorem SeI.below {g nr : Nat} {K : Nat → Nat} {sh fn M p q : Nat} {FI HH : List Value} {w u u2 : World} (h : SeI g nr K sh fn M p q FI HH w u) (hb : Below u.heap.size u u2) : SeI g nr K sh fn M p q FI HH w u2 :=
 ⟨h.hc.below hb, h.bp.below hb, h.bq.below hb, h.lp, h.lq, h.hsh⟩
theorem SeI.enc {g nr : Nat} {K : Nat → Nat} {sh fn M p q : Nat} {FI HH : List Value} {w u u2 : World} (h : SeI g nr K sh fn M p q FI HH w u) (hk : KeyAt u2 g nr K) (hg : u.grownBy u2 (some g)) : SeI g nr K sh fn M p q FI HH w u2 := by
 have h1 := h.hc.hM
 have h2 := h.lp
 have h3 := h.lq
 exact ⟨h.hc.enc hk hg, h.hc.bx h.bp (by omega) hg, h.hc.bx h.bq (by omega) hg, h.lp, h.lq, h.hsh⟩
theorem SeI.put {g nr : Nat} {K : Nat → Nat} {sh fn M p q : Nat} {FI HH : List Value} {w u u2 : World} {b : Nat} (h : SeI g nr K sh fn M p q FI HH w u) (hg : u.grownBy u2 (some b)) (hp : p ≠ b) (hq : q ≠ b) (hM : M < b) : SeI g nr K sh fn M p q FI HH w u2 :=
 ⟨h.hc.put hg hM h.hsh, h.bp.keep (hg.block p h.bp.lt (fun e => hp (by injection e))), h.bq.keep (hg.block q h.bq.lt (fun e => hq (by injection e))), h.lp, h.lq, h.hsh⟩
theorem SeI.bx {g nr : Nat} {K : Nat → Nat} {sh fn M p q : Nat} {FI HH : List Value} {w u u2 : World} (h : SeI g nr K sh fn M p q FI HH w u) {b : Nat} {ty : TypeId} {L : List Value} (hx : Bx u b ty L) (hb : M < b) (hg : u.grownBy u2 (some g)) : Bx u2 b ty L := h.hc.bx hx (by have := h.hc.hM; omega) hg
theorem own_ne29 {u : World} {B x n d b : Nat} {xs L : List Value} (h : u.ownsRow B 5 1 (.slice (some ⟨x, 0, none⟩) n d) n xs) (hb : Bx u b 29 L) : b ≠ x := by
 obtain ⟨cur, hc⟩ := own_type h (g := x) rfl
 exact fun e => type_ne hc hb (by decide) e.symm
/-- A first block is laid over a row of bytes. -/
theorem lay_view {u : World} {y n d : Nat} {cur : List Value} {v : BitVec 128} {CT : List Int} (hu : Bx u y 5 (splice cur 0 (Fd.BL v))) (hc : cur.take n = cellsU8 (List.replicate 16 0) ++ cellsU8 CT) (hn : CT.length = n - 16) (h16 : 16 ≤ n) (hl : cur.length = d) (hnd : n ≤ d) (hd : d ≤ maxLen) : View u (.slice (some ⟨y, 0, none⟩) n d) (blB v ++ CT) := by
 have hlen : (blB v ++ CT).length = n := by rw [List.length_append, blB_len]; omega
 refine ⟨some ⟨y, 0, none⟩, d, by rw [hlen], by rw [hlen]; exact hnd, hd, (fun e => by cases e), .inr ⟨y, 0, rfl, fun i hi => ?_⟩⟩
 rw [hlen] at hi
 rw [Nat.zero_add]
 refine hu.cell i _ ?_
 rw [splice, List.take_zero, List.nil_append, Fd.BL_length, Nat.zero_add]
 by_cases h : i < 16
 ·rw [List.getElem?_append_left (by rw [Fd.BL_length]; exact h), Fd.BL_at _ i h, List.getD_eq_getElem?_getD, List.getElem?_append_left (by rw [blB_len]; exact h), ← List.getD_eq_getElem?_getD, blB_at v i h]
 ·rw [List.getElem?_append_right (by rw [Fd.BL_length]; omega), Fd.BL_length, List.getElem?_drop, show 16 + (i - 16) = i by omega]
  have e : cur[i]? = (cur.take n)[i]? := by rw [List.getElem?_take, if_pos hi]
  have hz : (cellsU8 (List.replicate 16 0)).length = 16 := by simp [cellsU8]
  rw [e, hc, List.getElem?_append_right (by rw [hz]; omega), hz, List.getD_eq_getElem?_getD, List.getElem?_append_right (by rw [blB_len]; omega), blB_len]
  simp only [cellsU8, List.getElem?_map]
  rw [List.getElem?_eq_getElem (by omega)]; rfl
/-- make([]byte, 16), in a region that draws. -/
theorem step_make16 {ops : Array Oper} {o : Oper} {a : Act} {w : World} {K : Act → World → Prop} {Q : Exit → Act → World → Prop} {E : Prop} (hgd : o.guard = none) (d : Nat) (hd : o.dst = some d) (ho : o.op = .makeSlice 24 (.const (.int .i64 16)) (.const (.int .i64 16))) (base : Nat) (hb : base ≤ w.heap.size)
  (h : ∀ u x, Hid (u.ownsRow base 5 1 (.slice (some ⟨x, 0, none⟩) 16 16) 16 (cellsU8 (List.replicate 16 0))) → Hid (x = w.heap.size) → Hid (w.grownBy u none) → K (a.put (some d) (.slice (some ⟨x, 0, none⟩) 16 16)) u) : if Region.wanted o (yielded ops a.tmps) = true then Oper.wp Tryz.prog o a w K Q else E := by
 have hw : Region.wanted o (yielded ops a.tmps) = true := by simp [Region.wanted, hgd]
 rw [if_pos hw]
 obtain ⟨i0, hi0, hz0, hz1, hz2⟩ := info_parts Tryz.info5
 obtain ⟨w', hrun, r1, r2⟩ := run_make_full (P := Tryz.prog) w base 24 5 i0 (.int .u8 0) 1 Tryz.underlying24 hi0 hz0 hz1 .i64 .i64 16 (by rw [hz2]; decide) (by decide) hb
 have e : (madeCells (Value.int .u8 0).cells (16 * 1)).toList = cellsU8 (List.replicate 16 0) := by rw [show (Value.int .u8 0).cells = #[.int .u8 0] from rfl, toList_madeCells_one]; simp [cellsU8]
 rw [e] at r1
 have z := h w' _ r1 rfl r2
 rw [← hd] at z
 have hrun' : (Instr.makeSlice 24 (.int .i64 16) (.int .i64 16)).run Tryz.prog w = .ok (.slice (some ⟨w.heap.size, 0, none⟩) 16 16) w' := hrun
 unfold Oper.wp
 simp only [execOp, ho, Act.eval, Sem.run_bind, hrun', Result.andThen_ok]
 exact z
/-- What hctr2 makes of a list: the first block's two sides, the rest. -/
def hcIn (nr : Nat) (K : Nat → Nat) (fi : BitVec 128) (zs : List Int) : BitVec 128 := cutV zs 0 ^^^ hsV (encV nr K 0#128) fi (zs.drop 16)
def hcCt (nr : Nat) (K : Nat → Nat) (fi : BitVec 128) (zs : List Int) : List Int := ctL (ctE nr K (hcIn nr K fi zs ^^^ encV nr K (hcIn nr K fi zs))) (zs.drop 16) (zs.length - 16)
def hcX (nr : Nat) (K : Nat → Nat) (fi : BitVec 128) (zs : List Int) : BitVec 128 := encV nr K (hcIn nr K fi zs) ^^^ hsV (encV nr K 0#128) fi (hcCt nr K fi zs)
set_option maxHeartbeats 6400000 in
set_option maxRecDepth 100000 in
/-- hctr2.seal. -/
theorem hcseal_ok (g nr : Nat) (K : Nat → Nat) (sh fn : Nat) (fi : BitVec 128) (s : Nat) (b off cp : Nat) (zs : List Int) (w : World) (hK : KeyAt w g nr K) (csh : w.cell? ⟨sh, 4, none⟩ = some (.pointer (some ⟨g, 0, none⟩))) (n1 : sh ≠ g)
  (hE : ∀ args u, (callFunc fn args).run Tryz.prog u = .ok (.enter fn args) u) (HFN : Hid (∀ u, Calls Tryz.prog fn #[.int .u64 (s : Nat), .int .i64 (zs.length : Nat)] u fun e w' => Hid (e = .returned (Fd.BV fi) ∧ Below u.heap.size u w')))
  (hv : View w (.slice (some ⟨b, off, none⟩) zs.length cp) zs) (hb : AllBytes zs) (h16 : 16 ≤ zs.length) (hm : zs.length ≤ 4096) (hbg : b ≠ g) :
  Calls Tryz.prog 162 #[.agg #[.pointer (some ⟨sh, 0, none⟩), .func (.func fn) #[] #[]], .int .u64 (s : Nat), .slice (some ⟨b, off, none⟩) zs.length cp] w fun e w' => Hid (∃ y d, e = .returned (.slice (some ⟨y, 0, none⟩) zs.length d) ∧ w.heap.size ≤ y ∧ View w' (.slice (some ⟨y, 0, none⟩) zs.length d) (blB (hcX nr K fi zs) ++ hcCt nr K fi zs) ∧ KeyAt w' g nr K ∧ w.grownBy w' (some g)) := by
 obtain ⟨n, HNL⟩ : ∃ n, Hid (zs.length = n) := ⟨_, rfl⟩
 obtain ⟨FI, HFI⟩ : ∃ L, Hid (L = Fd.BL fi) := ⟨_, rfl⟩
 obtain ⟨HH, HHH⟩ : ∃ L, Hid (L = Fd.BL (encV nr K 0#128)) := ⟨_, rfl⟩
 obtain ⟨rs, HRS⟩ : ∃ L, Hid (L = zs.drop 16) := ⟨_, rfl⟩
 obtain ⟨C0, HC0⟩ : ∃ L, Hid (L = Fd.BL (cutV zs 0)) := ⟨_, rfl⟩
 obtain ⟨H1, HH1⟩ : ∃ L, Hid (L = Fd.BL (hsV (encV nr K 0#128) fi rs)) := ⟨_, rfl⟩
 obtain ⟨IN, HIN⟩ : ∃ L, Hid (L = Fd.BL (hcIn nr K fi zs)) := ⟨_, rfl⟩
 obtain ⟨OU, HOU⟩ : ∃ L, Hid (L = Fd.BL (encV nr K (hcIn nr K fi zs))) := ⟨_, rfl⟩
 obtain ⟨IO, HIO⟩ : ∃ L, Hid (L = Fd.BL (hcIn nr K fi zs ^^^ encV nr K (hcIn nr K fi zs))) := ⟨_, rfl⟩
 have HF1 : Hid (∀ u, Calls Tryz.prog fn #[.int .u64 (s : Nat), .int .i64 (n : Nat)] u fun e w' => Hid (e = .returned (.agg FI.toArray) ∧ Below u.heap.size u w')) := fun u => by rw [HFI.out, ← HNL.out]; exact HFN.out u
 have HHS : Hid (∀ u, KeyAt u g nr K → u.cell? ⟨sh, 4, none⟩ = some (.pointer (some ⟨g, 0, none⟩)) → Calls Tryz.prog 217 #[.agg #[.pointer (some ⟨sh, 0, none⟩), .func (.func fn) #[] #[]], .agg FI.toArray] u fun e w' => Hid (∃ p q, e = .returned (.func (.func 248) #[] #[.pointer (some ⟨p, 0, none⟩), .pointer (some ⟨q, 0, none⟩)]) ∧ u.heap.size ≤ p ∧ u.heap.size ≤ q ∧ Bx w' p 29 FI ∧ Bx w' q 29 HH ∧ KeyAt w' g nr K ∧ u.grownBy w' (some g))) := fun u hu hc => by
  rw [HFI.out, HHH.out]; exact hash_ok g nr K sh fn fi u hu hc n1
 have HVW : Hid (∀ u, w.grownBy u (some g) → View u (.slice (some ⟨b, off, none⟩) n cp) zs) := fun u hu => by
  have q := view_gb hv (fun b' off' l c e => by injection e with e; injection e with e; injection e with e1 e2; rw [← e1]; exact hbg) hu
  rw [HNL.out] at q; exact q
 have hcpn : n ≤ cp ∧ cp ≤ maxLen := by
  obtain ⟨a', c', e, p1, p2, _⟩ := hv
  injection e with e1 e2 e3
  subst e3
  rw [HNL.out] at p1
  exact ⟨p1, p2⟩
 have HNN : Hid (zs.length = n ∧ 16 ≤ n ∧ n ≤ 4096 ∧ n ≤ cp ∧ AllBytes zs ∧ rs.length = n - 16 ∧ AllBytes rs) := ⟨HNL.out, by rw [← HNL.out]; exact h16, by rw [← HNL.out]; exact hm, hcpn.1, hb, by rw [HRS.out, List.length_drop, HNL.out], by rw [HRS.out]; exact drop_bytes hb 16⟩
 obtain ⟨ro, rc, hsl⟩ : ∃ ro rc, sliced (some ⟨b, off, none⟩) 16 n cp 1 = .slice (some ⟨b, ro, none⟩) (n - 16) rc := by
  unfold sliced
  by_cases h : cp = 16
  ·rw [if_pos h]; exact ⟨off, _, rfl⟩
  ·rw [if_neg h, Option.map_some, Addr.add_mid]; exact ⟨_, _, rfl⟩
 have hS : ∀ u : World, (Instr.slice 24 (.slice (some ⟨b, off, none⟩) n cp) (some (.int .i64 16)) none none).run Tryz.prog u = .ok (.slice (some ⟨b, ro, none⟩) (n - 16) rc) u := fun u => by
  have q := slice_l u (some ⟨b, off, none⟩) n cp 16 HNN.out.2.1 HNN.out.2.2.2.1
  rw [hsl] at q
  exact q
 have HVR : Hid (∀ u, w.grownBy u (some g) → View u (.slice (some ⟨b, ro, none⟩) (n - 16) rc) rs) := fun u hu => by
  have q := view_sliced (HVW.out u hu) 16 n HNN.out.2.1 (Nat.le_refl _)
  rw [hsl, List.take_of_length_le (by rw [List.length_drop, HNL.out]; omega), ← HRS.out] at q
  exact q
 have HCU : Hid (∀ u, w.grownBy u (some g) → Calls Tryz.prog 154 #[.slice (some ⟨b, off, none⟩) n cp, .int .i64 0] u fun e w' => Hid (e = .returned (.agg C0.toArray) ∧ Below u.heap.size u w')) := fun u hu => by
  have q := cut_ok b off cp 0 zs u (by rw [HNL.out]; have := HNN.out.2.1; omega) (by rw [HNL.out]; exact hcpn.1) (by omega) hb (view_atH (HVW.out u hu))
  rw [HNL.out] at q
  rw [HC0.out]; exact q
 have HH1c : Hid (∀ u p q, w.grownBy u (some g) → Bx u p 29 FI → Bx u q 29 HH → Calls Tryz.prog 248 #[.slice (some ⟨b, ro, none⟩) (n - 16) rc, .pointer (some ⟨p, 0, none⟩), .pointer (some ⟨q, 0, none⟩)] u fun e w' => Hid (e = .returned (.agg H1.toArray) ∧ Below u.heap.size u w')) := fun u p q hu hp hq => by
  rw [HFI.out] at hp
  rw [HHH.out] at hq
  rw [HH1.out]
  exact hash1_ok p q fi _ _ rs u hp hq (HVR.out u hu) HNN.out.2.2.2.2.2.2 (by have := HNN.out; omega)
 have HX1 : Hid (∀ u, Calls Tryz.prog 41 #[.agg C0.toArray, .agg H1.toArray] u fun e w' => Hid (e = .returned (.agg IN.toArray) ∧ Below u.heap.size u w')) := fun u => by
  rw [HC0.out, HH1.out, HIN.out, HRS.out]; exact (Fd.xor_ok _ _ u).mono fun e w' hh => hh
 have HEN : Hid (∀ u, KeyAt u g nr K → u.cell? ⟨sh, 4, none⟩ = some (.pointer (some ⟨g, 0, none⟩)) → Calls Tryz.prog 148 #[.pointer (some ⟨sh, 0, none⟩), .agg IN.toArray] u fun e w' => Hid (e = .returned (.agg OU.toArray) ∧ KeyAt w' g nr K ∧ u.grownBy w' (some g))) := fun u hu hc => by
  rw [HIN.out, HOU.out]; exact encrypt_ok sh g nr K _ u n1 hc hu
 have HX2 : Hid (∀ u, Calls Tryz.prog 41 #[.agg IN.toArray, .agg OU.toArray] u fun e w' => Hid (e = .returned (.agg IO.toArray) ∧ Below u.heap.size u w')) := fun u => by
  rw [HIN.out, HOU.out, HIO.out]; exact (Fd.xor_ok _ _ u).mono fun e w' hh => hh
 have HLN : Hid (IN.length = 16 ∧ (∀ x ∈ IN, x.oneCell' = true) ∧ OU.length = 16 ∧ (∀ x ∈ OU, x.oneCell' = true)) := by rw [HIN.out, HOU.out]; exact ⟨Fd.BL_length _, BL_one8 _, Fd.BL_length _, BL_one8 _⟩
 obtain ⟨w1, hw1⟩ : ∃ w1, w1 = w.alloc (.cells #[.pointer (some ⟨sh, 0, none⟩), .func (.func fn) #[] #[]] 212) := ⟨_, rfl⟩
 have HB1 : Hid (HcI g nr K sh fn w.heap.size w w1 ∧ sh < w.heap.size) := by
  have hb : Below w.heap.size w w1 := by rw [hw1]; exact (Below.refl _ _).alloc (Nat.le_refl _) _
  exact ⟨⟨hK.below hb hK.ciph.here, (hb.cell (World.block_lt_of_cell? w _ csh)).trans csh, by rw [hw1]; exact Bx.new w 212 [.pointer (some ⟨sh, 0, none⟩), .func (.func fn) #[] #[]], ⟨hb.os, hb.tape, hb.output, hb.size, fun c hc _ => hb.block c hc⟩, Nat.le_refl _, hK.ciph.here, n1⟩, World.block_lt_of_cell? w _ csh⟩
 rw [HNL.out]
 have HBG : Hid (b ≠ g) := hbg
 have HGM : Hid (g < w.heap.size) := hK.ciph.here
 clear hK csh n1 hv hb h16 hm hbg hcpn hsl HFN
 go_enter Tryz.func162, Tryz.ntmps162
 go_upto_region 1 with fail
 rw [← hw1]
 clear hw1
 obtain ⟨M, HMM⟩ : ∃ M, Hid (w.heap.size = M) := ⟨_, rfl⟩
 rw [HMM.out] at HB1 HGM ⊢
 have HS0 : Hid (HcI g nr K sh fn M w w1.drew) := HB1.out.1.drew
 have hS0 : w1.drew.cell? ⟨M, 0, none⟩ = some (.pointer (some ⟨sh, 0, none⟩)) ∧ w1.drew.cell? ⟨M, 1, none⟩ = some (.func (.func fn) #[] #[]) := ⟨HS0.out.box.cell 0 _ rfl, HS0.out.box.cell 1 _ rfl⟩
 refine wp_region_noPanic ?_
 refine wp_region_held_drew (S := (fun u => u.cell? ⟨M, 0, none⟩ = some (.pointer (some ⟨sh, 0, none⟩)) ∧ u.cell? ⟨M, 1, none⟩ = some (.func (.func fn) #[] #[]))) (by kernel_rfl) (hS0) (fun _ => ?_)
 refine tH 0 12 (.agg #[.pointer (some ⟨sh, 0, none⟩), .func (.func fn) #[] #[]]) rfl rfl (by kernel_rfl) (hS0) (Or.inl ⟨by rfl, fun w' hS' => by obtain ⟨c1, c2⟩ := hS'; go_simp⟩) ?_
 try simp only [pU]
 refine tH 1 13 (.pointer (some ⟨M, 1, none⟩)) rfl rfl (by kernel_rfl) (hS0) (Or.inl ⟨by rfl, fun w' hS' => by obtain ⟨c1, c2⟩ := hS'; go_simp⟩) ?_
 try simp only [pU]
 refine tH 2 14 (.func (.func fn) #[] #[]) rfl rfl (by kernel_rfl) (hS0) (Or.inl ⟨by rfl, fun w' hS' => by obtain ⟨c1, c2⟩ := hS'; go_simp⟩) ?_
 try simp only [pU]
 refine tH 3 15 (.int .u64 (s : Nat)) rfl rfl (by kernel_rfl) (hS0) (Or.inl ⟨by rfl, fun w' hS' => by obtain ⟨c1, c2⟩ := hS'; go_simp⟩) ?_
 try simp only [pU]
 refine tH 4 16 (.slice (some ⟨b, off, none⟩) n cp) rfl rfl (by kernel_rfl) (hS0) (Or.inl ⟨by rfl, fun w' hS' => by obtain ⟨c1, c2⟩ := hS'; go_simp⟩) ?_
 try simp only [pU]
 refine tH 5 17 (.int .i64 (n : Nat)) rfl rfl (by kernel_rfl) (hS0) (Or.inl ⟨by rfl, fun w' hS' => by obtain ⟨c1, c2⟩ := hS'; go_simp⟩) ?_
 try simp only [pU]
 refine wpAnyH_ready (rs := [6]) (by kernel_rfl) (by simp) ?_
 refine AllReadyH.cons rfl (fun KK hK => ?_) AllReadyH.nil
 go_simp
 refine (HF1.out _).mono ?_
 intro e w2 hh
 obtain ⟨rfl, hb⟩ := hh.out
 have HS2 : Hid (HcI g nr K sh fn M w w2) := HS0.out.below hb
 clear hh hb
 go_wp2_with fail
 refine hK.out _ _ (⟨HS2.out.box.cell 0 _ rfl, HS2.out.box.cell 1 _ rfl⟩) (fun _ => ?_)
 clear hK KK
 try simp only [pU]
 refine wpAnyH_ready (rs := [7]) (by kernel_rfl) (by simp) ?_
 refine AllReadyH.cons rfl (fun KK hK => ?_) AllReadyH.nil
 go_simp
 refine (HHS.out _ HS2.out.key HS2.out.csh).mono ?_
 intro e w3 hh
 obtain ⟨p, q, rfl, hp, hq, hbp, hbq, hk, hg⟩ := hh.out
 have HS3 : Hid (SeI g nr K sh fn M p q FI HH w w3) := ⟨HS2.out.enc hk hg, hbp, hbq, Nat.lt_of_lt_of_le HS2.out.box.lt hp, Nat.lt_of_lt_of_le HS2.out.box.lt hq, by rw [HMM.out]; exact HB1.out.2⟩
 clear hh hp hq hbp hbq hk hg
 go_wp2_with fail
 refine hK.out _ _ (⟨HS3.out.hc.box.cell 0 _ rfl, HS3.out.hc.box.cell 1 _ rfl⟩) (fun _ => ?_)
 clear hK KK
 try simp only [pU]
 refine wpAnyH_ready (rs := [8]) (by kernel_rfl) (by simp) ?_
 refine AllReadyH.cons rfl (fun KK hK => ?_) AllReadyH.nil
 rw [if_pos (by rfl)]
 go_simp
 refine hK.out _ _ (⟨HS3.out.hc.box.cell 0 _ rfl, HS3.out.hc.box.cell 1 _ rfl⟩) (fun _ => ?_)
 clear hK KK
 try simp only [pU]
 refine wpAnyH_done (by kernel_rfl) ?_ _
 refine NoPanic.normal ?_
 skip
 clear hS0 HS0 HS2
 go_upto_region 3 with fail
 go_upto_region 4 with (first
  | (go_at_call 154; refine (HCU.out _ HS3.out.hc.gb).mono ?_; intro e w4 hh; obtain ⟨rfl, hb⟩ := hh.out; have HS4 : Hid (SeI g nr K sh fn M p q FI HH w w4) := HS3.out.below hb; clear hh hb)
  | (go_at_call 248; refine (HH1c.out _ p q HS4.out.hc.gb HS4.out.bp HS4.out.bq).mono ?_; intro e w5 hh; obtain ⟨rfl, hb⟩ := hh.out; have HS5 : Hid (SeI g nr K sh fn M p q FI HH w w5) := HS4.out.below hb; clear hh hb)
  | (go_at_call 41; refine (HX1.out _).mono ?_; intro e w6 hh; obtain ⟨rfl, hb⟩ := hh.out; have HS6 : Hid (SeI g nr K sh fn M p q FI HH w w6) := HS5.out.below hb; clear hh hb)
  | (refine wpList_store_bx (by rfl) 29 (.tmp 9) (.tmp 27) (by rfl) ZZ IN w6.heap.size (by rfl) (by rfl) (Bx.new w6 29 ZZ) (by rw [HLN.out.1]; rfl) (by rw [HLN.out.1]; kernel_rfl) HLN.out.2.1 ?_; intro w7 hb7 hg7; have HS7 : Hid (SeI g nr K sh fn M p q FI HH w w7 ∧ Bx w7 w6.heap.size 29 IN ∧ M < w6.heap.size ∧ p < w6.heap.size ∧ q < w6.heap.size) := ⟨(HS6.out.below ((Below.refl _ _).alloc (Nat.le_refl _) _)).put hg7 (Nat.ne_of_lt HS6.out.bp.lt) (Nat.ne_of_lt HS6.out.bq.lt) HS6.out.hc.box.lt, hb7, HS6.out.hc.box.lt, HS6.out.bp.lt, HS6.out.bq.lt⟩; clear hb7 hg7))
 obtain ⟨b9, HB9⟩ : ∃ b9, Hid (w6.heap.size = b9) := ⟨_, rfl⟩
 rw [HB9.out] at HS7 ⊢
 clear HB9 HS3 HS4 HS5 HS6
 have c7 : w7.cell? ⟨M, 0, none⟩ = some (.pointer (some ⟨sh, 0, none⟩)) := HS7.out.1.hc.box.cell 0 _ rfl
 go_upto_region 5 with (first
  | (refine wpList_load_mid (by rfl) 29 (.tmp 9) (by rfl) b9 0 (by rfl) IN _ HS7.out.2.1.range Tryz.underlying29 rfl (by rw [HLN.out.1]; kernel_rfl) ?_)
  | (go_at_call 148; refine (HEN.out _ HS7.out.1.hc.key HS7.out.1.hc.csh).mono ?_; intro e w8 hh; obtain ⟨rfl, hk, hg⟩ := hh.out; have HS8 : Hid (SeI g nr K sh fn M p q FI HH w w8 ∧ Bx w8 b9 29 IN) := ⟨HS7.out.1.enc hk hg, HS7.out.1.bx HS7.out.2.1 HS7.out.2.2.1 hg⟩; clear hh hk hg)
  | (refine wpList_store_bx (by rfl) 29 (.tmp 10) (.tmp 31) (by rfl) ZZ OU w8.heap.size (by rfl) (by rfl) (Bx.new w8 29 ZZ) (by rw [HLN.out.2.2.1]; rfl) (by rw [HLN.out.2.2.1]; kernel_rfl) HLN.out.2.2.2 ?_; intro w9 hb9 hg9; have HS9 : Hid (SeI g nr K sh fn M p q FI HH w w9 ∧ Bx w9 b9 29 IN ∧ Bx w9 w8.heap.size 29 OU ∧ M < w8.heap.size) := ⟨(HS8.out.1.below ((Below.refl _ _).alloc (Nat.le_refl _) _)).put hg9 (Nat.ne_of_lt HS8.out.1.bp.lt) (Nat.ne_of_lt HS8.out.1.bq.lt) HS8.out.1.hc.box.lt, (HS8.out.2.below ((Below.refl _ _).alloc (Nat.le_refl _) _)).keep (hg9.block b9 (ct_lt HS8.out.2.lt) (fun e => by injection e with e; exact absurd e (Nat.ne_of_lt HS8.out.2.lt))), hb9, HS8.out.1.hc.box.lt⟩; clear hb9 hg9))
 obtain ⟨b10, HB10⟩ : ∃ b9, Hid (w8.heap.size = b9) := ⟨_, rfl⟩
 rw [HB10.out] at HS9 ⊢
 have HMB : Hid (M < b9) := HS7.out.2.2.1
 clear HB10 HS7 HS8 c7
 obtain ⟨CT, HCT⟩ : ∃ L, Hid (L = hcCt nr K fi zs) := ⟨_, rfl⟩
 have HCL : Hid (CT.length = n - 16 ∧ AllBytes CT ∧ (cellsU8 CT).length = (n - 16) * 1 ∧ (∀ x ∈ cellsU8 CT, x.oneCell' = true) ∧ 16 + (n - 16) = n ∧ 16 + (n - 16) ≤ maxLen ∧ (16 + (n - 16)) * 1 ≤ 140737488355328) := by
  have hl : CT.length = n - 16 := by rw [HCT.out]; unfold hcCt; rw [ctL_len, HNL.out]
  refine ⟨hl, by rw [HCT.out]; unfold hcCt; exact ctL_bytes _ (by rw [← HRS.out]; exact HNN.out.2.2.2.2.2.2) _, by simp [cellsU8, hl], fun v hv => ?_, by have := HNN.out; omega, by have := HNN.out; unfold maxLen; omega, by have := HNN.out; omega⟩
  simp only [cellsU8, List.mem_map] at hv
  obtain ⟨z, _, rfl⟩ := hv
  rfl
 have HCN : Hid (∀ u, SeI g nr K sh fn M p q FI HH w u → Calls Tryz.prog 218 #[.agg #[.pointer (some ⟨sh, 0, none⟩), .func (.func fn) #[] #[]], .agg IO.toArray, .slice (some ⟨b, ro, none⟩) (n - 16) rc] u fun e w' => Hid (∃ y d, e = .returned (.slice (some ⟨y, 0, none⟩) (n - 16) d) ∧ w'.ownsRow u.heap.size 5 1 (.slice (some ⟨y, 0, none⟩) (n - 16) d) (n - 16) (cellsU8 CT) ∧ KeyAt w' g nr K ∧ u.grownBy w' (some g))) := fun u hu => by
  have z := count_ok g nr K sh fn (hcIn nr K fi zs ^^^ encV nr K (hcIn nr K fi zs)) (.slice (some ⟨b, ro, none⟩) (n - 16) rc) rs u hu.hc.key hu.hc.csh hu.hc.n1 (HVR.out u hu.hc.gb) HNN.out.2.2.2.2.2.2 (by have := HNN.out; omega) (fun b' off' l c e => by injection e with e; injection e with e; injection e with e1 e2; rw [← e1]; exact HBG.out)
  rw [HIO.out]
  refine z.mono fun e w' hh => ?_
  obtain ⟨y, d, e1, e2, e3, e4⟩ := hh.out
  have e0 : rs.length = n - 16 := HNN.out.2.2.2.2.2.1
  have e00 : ctL (ctE nr K (hcIn nr K fi zs ^^^ encV nr K (hcIn nr K fi zs))) rs (n - 16) = CT := by rw [HCT.out, HRS.out]; unfold hcCt; rw [HNL.out]
  rw [e0] at e1 e2
  rw [e00] at e2
  exact ⟨y, d, e1, e2, e3, e4⟩
 have HIB : Hid (∀ u, SeI g nr K sh fn M p q FI HH w u ∧ Bx u b9 29 IN ∧ Bx u b10 29 OU → (u.cell? ⟨M, 0, none⟩ = some (.pointer (some ⟨sh, 0, none⟩)) ∧ u.cell? ⟨M, 1, none⟩ = some (.func (.func fn) #[] #[]) ∧ u.rangeAt b9 0 IN ∧ u.rangeAt b10 0 OU)) := fun u hu => ⟨hu.1.hc.box.cell 0 _ rfl, hu.1.hc.box.cell 1 _ rfl, hu.2.1.range, hu.2.2.range⟩
 have hiI : (Tryz.prog.info? 29).map (·.size) = some IN.length := by rw [HLN.out.1]; kernel_rfl
 have hiO : (Tryz.prog.info? 29).map (·.size) = some OU.length := by rw [HLN.out.2.2.1]; kernel_rfl
 have HBM : Hid (M < b10) := HS9.out.2.2.2
 obtain ⟨i0, hi0, hz0, hz1, hz2⟩ := info_parts Tryz.info5
 have HI0 : Hid (Tryz.prog.info? 5 = some i0 ∧ i0.zero = some (.int .u8 0) ∧ i0.size = 1 ∧ i0.bytes = 1) := ⟨hi0, hz0, hz1, hz2⟩
 clear hi0 hz0 hz1 hz2
 simp only [Act.put]
 go_cut [11] from 32 to 39 (fun vs wx => ∃ y d : Nat, vs = .slice (some ⟨y, 0, none⟩) n d ∧ Hid (SeI g nr K sh fn M p q FI HH w wx ∧ Bx wx b10 29 OU ∧ wx.ownsRow (M + 1) 5 1 (.slice (some ⟨y, 0, none⟩) n d) n (cellsU8 (List.replicate 16 0) ++ cellsU8 CT)))
 case first =>
  have HS0 : Hid (SeI g nr K sh fn M p q FI HH w w9.drew ∧ Bx w9.drew b9 29 IN ∧ Bx w9.drew b10 29 OU) := ⟨HS9.out.1.below (Below.refl _ _).drew, HS9.out.2.1.below (Below.refl _ _).drew, HS9.out.2.2.1.below (Below.refl _ _).drew⟩
  have hS0 := HIB.out _ HS0.out
  refine wp_region_noPanic ?_
  refine wp_region_held_drew (S := (fun u => u.cell? ⟨M, 0, none⟩ = some (.pointer (some ⟨sh, 0, none⟩)) ∧ u.cell? ⟨M, 1, none⟩ = some (.func (.func fn) #[] #[]) ∧ u.rangeAt b9 0 IN ∧ u.rangeAt b10 0 OU)) (by kernel_rfl) (hS0) (fun _ => ?_)
  refine tH 1 33 (.agg #[.pointer (some ⟨sh, 0, none⟩), .func (.func fn) #[] #[]]) rfl rfl (by kernel_rfl) (hS0) (Or.inl ⟨by rfl, fun w' hS' => by obtain ⟨c1, c2, c3, c4⟩ := hS'; go_simp⟩) ?_
  try simp only [pU]
  refine tH 2 34 (.agg IN.toArray) rfl rfl (by kernel_rfl) (hS0) (yieldsIf_load_mid (by rfl) 29 (.tmp 9) rfl b9 0 rfl IN _ (fun u hu => hu.2.2.1) Tryz.underlying29 rfl hiI) ?_
  try simp only [pU]
  refine tH 3 35 (.agg OU.toArray) rfl rfl (by kernel_rfl) (hS0) (yieldsIf_load_mid (by rfl) 29 (.tmp 10) rfl b10 0 rfl OU _ (fun u hu => hu.2.2.2) Tryz.underlying29 rfl hiO) ?_
  try simp only [pU]
  refine tH 5 37 (.slice (some ⟨b, ro, none⟩) (n - 16) rc) rfl rfl (by kernel_rfl) (hS0) (Or.inl ⟨by rfl, fun w' hS' => by obtain ⟨c1, c2, c3, c4⟩ := hS'; go_simp⟩) ?_
  try simp only [pU]
  refine wpAnyH_ready (rs := [0, 4]) (by kernel_rfl) (by simp) ?_
  refine AllReadyH.cons rfl (fun KK hK => ?_) (AllReadyH.cons rfl (fun KK hK => ?_) AllReadyH.nil)
  ·skip
   refine step_make16 rfl 32 rfl rfl (M + 1) HS0.out.1.hc.box.lt ?_
   intro v1 x1 ho hx hg
   have hbl : Below _ _ v1 := ⟨hg.out.os, hg.out.tape, hg.out.output, hg.out.size, fun k hk => hg.out.block k hk (by simp)⟩
   have HS11 : Hid (SeI g nr K sh fn M p q FI HH w v1 ∧ Bx v1 b9 29 IN ∧ Bx v1 b10 29 OU) := ⟨HS0.out.1.below hbl, HS0.out.2.1.below hbl, HS0.out.2.2.below hbl⟩
   have HZ11 : Hid (v1.ownsRow (M + 1) 5 1 (.slice (some ⟨x1, 0, none⟩) 16 16) 16 (cellsU8 (List.replicate 16 0))) := ho.out
   clear ho hx hg hbl
   refine hK.out _ _ (HIB.out _ HS11.out) (fun _ => ?_)
   clear hK KK
   try simp only [pU]
   refine wpAnyH_ready (rs := [4]) (by kernel_rfl) (by simp) ?_
   refine AllReadyH.cons rfl (fun KK hK => ?_) AllReadyH.nil
   go_simp
   refine (HX2.out _).mono ?_
   intro e v2 hh
   obtain ⟨rfl, hb⟩ := hh.out
   have HS12 : Hid (SeI g nr K sh fn M p q FI HH w v2 ∧ Bx v2 b9 29 IN ∧ Bx v2 b10 29 OU) := ⟨HS11.out.1.below hb, HS11.out.2.1.below hb, HS11.out.2.2.below hb⟩
   have HZ12 : Hid (v2.ownsRow (M + 1) 5 1 (.slice (some ⟨x1, 0, none⟩) 16 16) 16 (cellsU8 (List.replicate 16 0))) := ownsRow_below HZ11.out hb
   clear hh hb
   go_wp2_with fail
   refine hK.out _ _ (HIB.out _ HS12.out) (fun _ => ?_)
   clear hK KK
   try simp only [pU]
   refine wpAnyH_ready (rs := [6]) (by kernel_rfl) (by simp) ?_
   refine AllReadyH.cons rfl (fun KK hK => ?_) AllReadyH.nil
   go_simp
   refine (HCN.out _ HS12.out.1).mono ?_
   intro e v3 hh
   obtain ⟨yc3, dc3, rfl, ho, hk, hg⟩ := hh.out
   have HS13 : Hid (SeI g nr K sh fn M p q FI HH w v3 ∧ Bx v3 b9 29 IN ∧ Bx v3 b10 29 OU) := ⟨HS12.out.1.enc hk hg, HS12.out.1.bx HS12.out.2.1 HMB.out hg, HS12.out.1.bx HS12.out.2.2 HBM.out hg⟩
   have HC13 : Hid (v3.ownsRow (M + 1) 5 1 (.slice (some ⟨yc3, 0, none⟩) (n - 16) dc3) (n - 16) (cellsU8 CT)) := ⟨ho.1, ho.2.imp id fun ⟨g', cap, cur, z1, z2, z3⟩ => ⟨g', cap, cur, z1, Nat.le_trans HS12.out.1.hc.box.lt z2, z3⟩⟩
   have HZ13 : Hid (v3.ownsRow (M + 1) 5 1 (.slice (some ⟨x1, 0, none⟩) 16 16) 16 (cellsU8 (List.replicate 16 0))) := ownsRow_keep HZ12.out (fun gg e => hg.block gg (ownsRow_lt HZ12.out e).2 (fun e2 => by injection e2 with e2; have := (ownsRow_lt HZ12.out e).1; have := HGM.out; omega))
   clear hh ho hk hg
   go_wp2_with fail
   refine hK.out _ _ (HIB.out _ HS13.out) (fun _ => ?_)
   clear hK KK
   try simp only [pU]
   refine wpAnyH_ready (rs := [7]) (by kernel_rfl) (by simp) ?_
   refine AllReadyH.cons rfl (fun KK hK => ?_) AllReadyH.nil
   refine step_append_own rfl (.tmp 32) (.tmp 38) 24 rfl (M + 1) 5 i0 (.int .u8 0) 1 1 Tryz.underlying24 HI0.out.1 HI0.out.2.1 HI0.out.2.2.1 HI0.out.2.2.2 rfl (by decide) (.slice (some ⟨x1, 0, none⟩) 16 16) 16 (cellsU8 (List.replicate 16 0)) rfl HZ13.out ⟨yc3, 0, none⟩ (n - 16) dc3 (cellsU8 CT) rfl HCL.out.2.2.1 (own_news HC13.out) HCL.out.2.2.2.1 HCL.out.2.2.2.2.2.1 HCL.out.2.2.2.2.2.2 HS13.out.1.hc.box.lt ?_
   intro v9 u9 HO9 HG9
   have HX9 : Hid (SeI g nr K sh fn M p q FI HH w u9 ∧ Bx u9 b9 29 IN ∧ Bx u9 b10 29 OU) := ⟨HS13.out.1.put HG9.out (own_ne29 HZ13.out HS13.out.1.bp) (own_ne29 HZ13.out HS13.out.1.bq) (ownsRow_lt HZ13.out rfl).1, HS13.out.2.1.keep (HG9.out.block b9 HS13.out.2.1.lt (fun e => own_ne29 HZ13.out HS13.out.2.1 (by injection e))), HS13.out.2.2.keep (HG9.out.block b10 HS13.out.2.2.lt (fun e => own_ne29 HZ13.out HS13.out.2.2 (by injection e)))⟩
   refine hK.out _ _ (HIB.out _ HX9.out) (fun _ => ?_)
   clear hK KK
   try simp only [pU]
   refine wpAnyH_ready (rs := [8]) (by kernel_rfl) (by simp) ?_
   refine AllReadyH.cons rfl (fun KK hK => ?_) AllReadyH.nil
   rw [if_pos (by rfl)]
   go_simp
   refine hK.out _ _ (HIB.out _ HX9.out) (fun _ => ?_)
   clear hK KK
   try simp only [pU]
   refine wpAnyH_done (by kernel_rfl) ?_ _
   refine NoPanic.normal ?_
   rw [HCL.out.2.2.2.2.1] at HO9
   obtain ⟨y9, d9, rfl⟩ : ∃ y9 d9, v9 = .slice (some ⟨y9, 0, none⟩) n d9 := by
    rcases HO9.out.2 with ⟨_, q⟩ | ⟨g, c, _, q, _⟩
    ·have := HNN.out.2.1; omega
    ·exact ⟨g, c, q⟩
   go_wp2_with fail
   go_meet
   exact ⟨y9, d9, rfl, HX9.out.1, HX9.out.2.2, HO9.out⟩
  ·skip
   go_simp
   refine (HX2.out _).mono ?_
   intro e v4 hh
   obtain ⟨rfl, hb⟩ := hh.out
   have HS14 : Hid (SeI g nr K sh fn M p q FI HH w v4 ∧ Bx v4 b9 29 IN ∧ Bx v4 b10 29 OU) := ⟨HS0.out.1.below hb, HS0.out.2.1.below hb, HS0.out.2.2.below hb⟩
   clear hh hb
   go_wp2_with fail
   refine hK.out _ _ (HIB.out _ HS14.out) (fun _ => ?_)
   clear hK KK
   try simp only [pU]
   refine wpAnyH_ready (rs := [0, 6]) (by kernel_rfl) (by simp) ?_
   refine AllReadyH.cons rfl (fun KK hK => ?_) (AllReadyH.cons rfl (fun KK hK => ?_) AllReadyH.nil)
   ·skip
    refine step_make16 rfl 32 rfl rfl (M + 1) HS14.out.1.hc.box.lt ?_
    intro v5 x5 ho hx hg
    have hbl : Below _ _ v5 := ⟨hg.out.os, hg.out.tape, hg.out.output, hg.out.size, fun k hk => hg.out.block k hk (by simp)⟩
    have HS15 : Hid (SeI g nr K sh fn M p q FI HH w v5 ∧ Bx v5 b9 29 IN ∧ Bx v5 b10 29 OU) := ⟨HS14.out.1.below hbl, HS14.out.2.1.below hbl, HS14.out.2.2.below hbl⟩
    have HZ15 : Hid (v5.ownsRow (M + 1) 5 1 (.slice (some ⟨x5, 0, none⟩) 16 16) 16 (cellsU8 (List.replicate 16 0))) := ho.out
    clear ho hx hg hbl
    refine hK.out _ _ (HIB.out _ HS15.out) (fun _ => ?_)
    clear hK KK
    try simp only [pU]
    refine wpAnyH_ready (rs := [6]) (by kernel_rfl) (by simp) ?_
    refine AllReadyH.cons rfl (fun KK hK => ?_) AllReadyH.nil
    go_simp
    refine (HCN.out _ HS15.out.1).mono ?_
    intro e v6 hh
    obtain ⟨yc6, dc6, rfl, ho, hk, hg⟩ := hh.out
    have HS16 : Hid (SeI g nr K sh fn M p q FI HH w v6 ∧ Bx v6 b9 29 IN ∧ Bx v6 b10 29 OU) := ⟨HS15.out.1.enc hk hg, HS15.out.1.bx HS15.out.2.1 HMB.out hg, HS15.out.1.bx HS15.out.2.2 HBM.out hg⟩
    have HC16 : Hid (v6.ownsRow (M + 1) 5 1 (.slice (some ⟨yc6, 0, none⟩) (n - 16) dc6) (n - 16) (cellsU8 CT)) := ⟨ho.1, ho.2.imp id fun ⟨g', cap, cur, z1, z2, z3⟩ => ⟨g', cap, cur, z1, Nat.le_trans HS15.out.1.hc.box.lt z2, z3⟩⟩
    have HZ16 : Hid (v6.ownsRow (M + 1) 5 1 (.slice (some ⟨x5, 0, none⟩) 16 16) 16 (cellsU8 (List.replicate 16 0))) := ownsRow_keep HZ15.out (fun gg e => hg.block gg (ownsRow_lt HZ15.out e).2 (fun e2 => by injection e2 with e2; have := (ownsRow_lt HZ15.out e).1; have := HGM.out; omega))
    clear hh ho hk hg
    go_wp2_with fail
    refine hK.out _ _ (HIB.out _ HS16.out) (fun _ => ?_)
    clear hK KK
    try simp only [pU]
    refine wpAnyH_ready (rs := [7]) (by kernel_rfl) (by simp) ?_
    refine AllReadyH.cons rfl (fun KK hK => ?_) AllReadyH.nil
    refine step_append_own rfl (.tmp 32) (.tmp 38) 24 rfl (M + 1) 5 i0 (.int .u8 0) 1 1 Tryz.underlying24 HI0.out.1 HI0.out.2.1 HI0.out.2.2.1 HI0.out.2.2.2 rfl (by decide) (.slice (some ⟨x5, 0, none⟩) 16 16) 16 (cellsU8 (List.replicate 16 0)) rfl HZ16.out ⟨yc6, 0, none⟩ (n - 16) dc6 (cellsU8 CT) rfl HCL.out.2.2.1 (own_news HC16.out) HCL.out.2.2.2.1 HCL.out.2.2.2.2.2.1 HCL.out.2.2.2.2.2.2 HS16.out.1.hc.box.lt ?_
    intro v9 u9 HO9 HG9
    have HX9 : Hid (SeI g nr K sh fn M p q FI HH w u9 ∧ Bx u9 b9 29 IN ∧ Bx u9 b10 29 OU) := ⟨HS16.out.1.put HG9.out (own_ne29 HZ16.out HS16.out.1.bp) (own_ne29 HZ16.out HS16.out.1.bq) (ownsRow_lt HZ16.out rfl).1, HS16.out.2.1.keep (HG9.out.block b9 HS16.out.2.1.lt (fun e => own_ne29 HZ16.out HS16.out.2.1 (by injection e))), HS16.out.2.2.keep (HG9.out.block b10 HS16.out.2.2.lt (fun e => own_ne29 HZ16.out HS16.out.2.2 (by injection e)))⟩
    refine hK.out _ _ (HIB.out _ HX9.out) (fun _ => ?_)
    clear hK KK
    try simp only [pU]
    refine wpAnyH_ready (rs := [8]) (by kernel_rfl) (by simp) ?_
    refine AllReadyH.cons rfl (fun KK hK => ?_) AllReadyH.nil
    rw [if_pos (by rfl)]
    go_simp
    refine hK.out _ _ (HIB.out _ HX9.out) (fun _ => ?_)
    clear hK KK
    try simp only [pU]
    refine wpAnyH_done (by kernel_rfl) ?_ _
    refine NoPanic.normal ?_
    rw [HCL.out.2.2.2.2.1] at HO9
    obtain ⟨y9, d9, rfl⟩ : ∃ y9 d9, v9 = .slice (some ⟨y9, 0, none⟩) n d9 := by
     rcases HO9.out.2 with ⟨_, q⟩ | ⟨g, c, _, q, _⟩
     ·have := HNN.out.2.1; omega
     ·exact ⟨g, c, q⟩
    go_wp2_with fail
    go_meet
    exact ⟨y9, d9, rfl, HX9.out.1, HX9.out.2.2, HO9.out⟩
   ·skip
    go_simp
    refine (HCN.out _ HS14.out.1).mono ?_
    intro e v7 hh
    obtain ⟨yc7, dc7, rfl, ho, hk, hg⟩ := hh.out
    have HS17 : Hid (SeI g nr K sh fn M p q FI HH w v7 ∧ Bx v7 b9 29 IN ∧ Bx v7 b10 29 OU) := ⟨HS14.out.1.enc hk hg, HS14.out.1.bx HS14.out.2.1 HMB.out hg, HS14.out.1.bx HS14.out.2.2 HBM.out hg⟩
    have HC17 : Hid (v7.ownsRow (M + 1) 5 1 (.slice (some ⟨yc7, 0, none⟩) (n - 16) dc7) (n - 16) (cellsU8 CT)) := ⟨ho.1, ho.2.imp id fun ⟨g', cap, cur, z1, z2, z3⟩ => ⟨g', cap, cur, z1, Nat.le_trans HS14.out.1.hc.box.lt z2, z3⟩⟩
    clear hh ho hk hg
    go_wp2_with fail
    refine hK.out _ _ (HIB.out _ HS17.out) (fun _ => ?_)
    clear hK KK
    try simp only [pU]
    refine wpAnyH_ready (rs := [0]) (by kernel_rfl) (by simp) ?_
    refine AllReadyH.cons rfl (fun KK hK => ?_) AllReadyH.nil
    refine step_make16 rfl 32 rfl rfl (M + 1) HS17.out.1.hc.box.lt ?_
    intro v8 x8 ho hx hg
    have hbl : Below _ _ v8 := ⟨hg.out.os, hg.out.tape, hg.out.output, hg.out.size, fun k hk => hg.out.block k hk (by simp)⟩
    have HS18 : Hid (SeI g nr K sh fn M p q FI HH w v8 ∧ Bx v8 b9 29 IN ∧ Bx v8 b10 29 OU) := ⟨HS17.out.1.below hbl, HS17.out.2.1.below hbl, HS17.out.2.2.below hbl⟩
    have HZ18 : Hid (v8.ownsRow (M + 1) 5 1 (.slice (some ⟨x8, 0, none⟩) 16 16) 16 (cellsU8 (List.replicate 16 0))) := ho.out
    have HC18 : Hid (v8.ownsRow (M + 1) 5 1 (.slice (some ⟨yc7, 0, none⟩) (n - 16) dc7) (n - 16) (cellsU8 CT)) := ownsRow_below HC17.out hbl
    clear ho hx hg hbl
    refine hK.out _ _ (HIB.out _ HS18.out) (fun _ => ?_)
    clear hK KK
    try simp only [pU]
    refine wpAnyH_ready (rs := [7]) (by kernel_rfl) (by simp) ?_
    refine AllReadyH.cons rfl (fun KK hK => ?_) AllReadyH.nil
    refine step_append_own rfl (.tmp 32) (.tmp 38) 24 rfl (M + 1) 5 i0 (.int .u8 0) 1 1 Tryz.underlying24 HI0.out.1 HI0.out.2.1 HI0.out.2.2.1 HI0.out.2.2.2 rfl (by decide) (.slice (some ⟨x8, 0, none⟩) 16 16) 16 (cellsU8 (List.replicate 16 0)) rfl HZ18.out ⟨yc7, 0, none⟩ (n - 16) dc7 (cellsU8 CT) rfl HCL.out.2.2.1 (own_news HC18.out) HCL.out.2.2.2.1 HCL.out.2.2.2.2.2.1 HCL.out.2.2.2.2.2.2 HS18.out.1.hc.box.lt ?_
    intro v9 u9 HO9 HG9
    have HX9 : Hid (SeI g nr K sh fn M p q FI HH w u9 ∧ Bx u9 b9 29 IN ∧ Bx u9 b10 29 OU) := ⟨HS18.out.1.put HG9.out (own_ne29 HZ18.out HS18.out.1.bp) (own_ne29 HZ18.out HS18.out.1.bq) (ownsRow_lt HZ18.out rfl).1, HS18.out.2.1.keep (HG9.out.block b9 HS18.out.2.1.lt (fun e => own_ne29 HZ18.out HS18.out.2.1 (by injection e))), HS18.out.2.2.keep (HG9.out.block b10 HS18.out.2.2.lt (fun e => own_ne29 HZ18.out HS18.out.2.2 (by injection e)))⟩
    refine hK.out _ _ (HIB.out _ HX9.out) (fun _ => ?_)
    clear hK KK
    try simp only [pU]
    refine wpAnyH_ready (rs := [8]) (by kernel_rfl) (by simp) ?_
    refine AllReadyH.cons rfl (fun KK hK => ?_) AllReadyH.nil
    rw [if_pos (by rfl)]
    go_simp
    refine hK.out _ _ (HIB.out _ HX9.out) (fun _ => ?_)
    clear hK KK
    try simp only [pU]
    refine wpAnyH_done (by kernel_rfl) ?_ _
    refine NoPanic.normal ?_
    rw [HCL.out.2.2.2.2.1] at HO9
    obtain ⟨y9, d9, rfl⟩ : ∃ y9 d9, v9 = .slice (some ⟨y9, 0, none⟩) n d9 := by
     rcases HO9.out.2 with ⟨_, q⟩ | ⟨g, c, _, q, _⟩
     ·have := HNN.out.2.1; omega
     ·exact ⟨g, c, q⟩
    go_wp2_with fail
    go_meet
    exact ⟨y9, d9, rfl, HX9.out.1, HX9.out.2.2, HO9.out⟩
 case rest =>
  obtain ⟨y, d, rfl, HR5⟩ := hcut
  obtain ⟨cur, HCU5⟩ : ∃ cur : List Value, Hid (Bx wc y 5 cur ∧ cur.take n = cellsU8 (List.replicate 16 0) ++ cellsU8 CT ∧ cur.length = d ∧ n ≤ d ∧ d ≤ maxLen ∧ M < y) := by
   rcases HR5.out.2.2.2 with ⟨q, _⟩ | ⟨g', cap, cu, q, hb, hh, h2, h3, h4, h5⟩
   ·cases q
   ·injection q with q1 q2 q3
    injection q1 with q1
    injection q1 with q1
    subst q1 q3
    refine ⟨cu.toList, by unfold Bx; rw [hh], by rw [← h5, Nat.mul_one], by rw [Array.length_toList, h4, Nat.mul_one], h2, h3, hb⟩
  obtain ⟨yo, yd, hsl⟩ : ∃ ro rc, sliced (some ⟨y, 0, none⟩) 16 n d 1 = .slice (some ⟨y, ro, none⟩) (n - 16) rc := by
   unfold sliced
   by_cases h : d = 16
   ·rw [if_pos h]; exact ⟨0, _, rfl⟩
   ·rw [if_neg h, Option.map_some, Addr.add_mid]; exact ⟨_, _, rfl⟩
  have hS6 : ∀ u : World, (Instr.slice 24 (.slice (some ⟨y, 0, none⟩) n d) (some (.int .i64 16)) none none).run Tryz.prog u = .ok (.slice (some ⟨y, yo, none⟩) (n - 16) yd) u := fun u => by
   have q := slice_l u (some ⟨y, 0, none⟩) n d 16 HNN.out.2.1 HCU5.out.2.2.2.1
   rw [hsl] at q
   exact q
  have HVC : Hid (View wc (.slice (some ⟨y, yo, none⟩) (n - 16) yd) CT) := by
   have ho := HR5.out.2.2
   rw [← cellsU8_append] at ho
   have hlz : (List.replicate 16 (0 : Int) ++ CT).length = n := by rw [List.length_append, List.length_replicate, HCL.out.1]; exact HCL.out.2.2.2.2.1
   have q := view_sliced (view_owns ho hlz) 16 n HNN.out.2.1 (Nat.le_refl _)
   have e : (List.replicate 16 (0 : Int) ++ CT).drop 16 = CT := List.drop_left' (by simp)
   rw [hsl, e, List.take_of_length_le (by rw [HCL.out.1]; omega)] at q
   exact q
  obtain ⟨H2, HH2⟩ : ∃ L, Hid (L = Fd.BL (hsV (encV nr K 0#128) fi CT)) := ⟨_, rfl⟩
  have HH2c : Hid (∀ u, Below wc.heap.size wc u → Calls Tryz.prog 248 #[.slice (some ⟨y, yo, none⟩) (n - 16) yd, .pointer (some ⟨p, 0, none⟩), .pointer (some ⟨q, 0, none⟩)] u fun e w' => Hid (e = .returned (.agg H2.toArray) ∧ Below u.heap.size u w')) := fun u hu => by
   have hp := HR5.out.1.bp.below hu
   have hq := HR5.out.1.bq.below hu
   rw [HFI.out] at hp
   rw [HHH.out] at hq
   rw [HH2.out]
   exact hash1_ok p q fi _ _ CT u hp hq (HVC.out.below hu) HCL.out.2.1 (by have := HCL.out.1; have := HNN.out; omega)
  have HX3 : Hid (∀ u, Calls Tryz.prog 41 #[.agg OU.toArray, .agg H2.toArray] u fun e w' => Hid (e = .returned (Fd.BV (hcX nr K fi zs)) ∧ Below u.heap.size u w')) := fun u => by
   rw [HOU.out, HH2.out, HCT.out]; exact (Fd.xor_ok _ _ u).mono fun e w' hh => hh
  have HLY : Hid (∀ u, Bx u y 5 cur → Calls Tryz.prog 219 #[.slice (some ⟨y, 0, none⟩) n d, .int .i64 0, Fd.BV (hcX nr K fi zs)] u fun e w' => Hid (e = .returned (.tuple #[]) ∧ Bx w' y 5 (splice cur 0 (Fd.BL (hcX nr K fi zs))) ∧ u.grownBy w' (some y))) := fun u hu => by
   have q := lay_ok y n d 0 (hcX nr K fi zs) cur u (by have := HNN.out; omega) HCU5.out.2.2.2.1 (by have := HNN.out; omega) (by rw [HCU5.out.2.2.1]; exact HCU5.out.2.2.2.1) hu
   exact q
  have hS0 : wc.drew.rangeAt b10 0 OU := by simpa using HR5.out.2.1.range
  have HWD : Hid (Below wc.heap.size wc wc.drew) := (Below.refl _ _).drew
  go_upto_region 6 with fail
  refine wp_region_noPanic ?_
  refine wp_region_held_drew (S := (fun u => u.rangeAt b10 0 OU)) (by kernel_rfl) (hS0) (fun _ => ?_)
  refine tH 0 40 (.slice (some ⟨y, 0, none⟩) n d) rfl rfl (by kernel_rfl) (hS0) (Or.inl ⟨by rfl, fun w' hS' => by first | go_simp | (obtain ⟨c1, c2⟩ := hS'; go_simp) | (obtain ⟨c1, c2, c3⟩ := hS'; go_simp)⟩) ?_
  try simp only [pU]
  refine tH 1 41 (.agg OU.toArray) rfl rfl (by kernel_rfl) (hS0) (yieldsIf_load_mid (by rfl) 29 (.tmp 10) rfl b10 0 rfl OU _ (fun u hu => hu) Tryz.underlying29 rfl hiO) ?_
  try simp only [pU]
  refine tH 2 42 (.func (.func 248) #[] #[.pointer (some ⟨p, 0, none⟩), .pointer (some ⟨q, 0, none⟩)]) rfl rfl (by kernel_rfl) (hS0) (Or.inl ⟨by rfl, fun w' hS' => by first | go_simp | (obtain ⟨c1, c2⟩ := hS'; go_simp) | (obtain ⟨c1, c2, c3⟩ := hS'; go_simp)⟩) ?_
  try simp only [pU]
  refine tH 3 43 (.slice (some ⟨y, 0, none⟩) n d) rfl rfl (by kernel_rfl) (hS0) (Or.inl ⟨by rfl, fun w' hS' => by first | go_simp | (obtain ⟨c1, c2⟩ := hS'; go_simp) | (obtain ⟨c1, c2, c3⟩ := hS'; go_simp)⟩) ?_
  try simp only [pU]
  refine tH 4 44 (.slice (some ⟨y, yo, none⟩) (n - 16) yd) rfl rfl (by kernel_rfl) (hS0) (Or.inl ⟨by rfl, fun w' hS' => by first | go_simp | (obtain ⟨c1, c2⟩ := hS'; go_simp) | (obtain ⟨c1, c2, c3⟩ := hS'; go_simp)⟩) ?_
  try simp only [pU]
  refine wpAnyH_ready (rs := [5]) (by kernel_rfl) (by simp) ?_
  refine AllReadyH.cons rfl (fun KK hK => ?_) AllReadyH.nil
  go_simp
  refine (HH2c.out _ HWD.out).mono ?_
  intro e u5 hh
  obtain ⟨rfl, hb⟩ := hh.out
  have HU5 : Hid (Below wc.heap.size wc u5) := HWD.out.trans hb
  clear hh hb
  go_wp2_with fail
  refine hK.out _ _ ((HR5.out.2.1.below HU5.out).range) (fun _ => ?_)
  clear hK KK
  try simp only [pU]
  refine wpAnyH_ready (rs := [6]) (by kernel_rfl) (by simp) ?_
  refine AllReadyH.cons rfl (fun KK hK => ?_) AllReadyH.nil
  go_simp
  refine (HX3.out _).mono ?_
  intro e u6 hh
  obtain ⟨rfl, hb⟩ := hh.out
  have HU6 : Hid (Below wc.heap.size wc u6) := HU5.out.trans (hb.mono HU5.out.size)
  clear hh hb
  go_wp2_with fail
  refine hK.out _ _ ((HR5.out.2.1.below HU6.out).range) (fun _ => ?_)
  clear hK KK
  try simp only [pU]
  refine wpAnyH_ready (rs := [7]) (by kernel_rfl) (by simp) ?_
  refine AllReadyH.cons rfl (fun KK hK => ?_) AllReadyH.nil
  go_simp
  refine (HLY.out _ (HCU5.out.1.below HU6.out)).mono ?_
  intro e u7 hh
  obtain ⟨rfl, hb7, hg7⟩ := hh.out
  have HU7 : Hid (Bx u7 y 5 (splice cur 0 (Fd.BL (hcX nr K fi zs))) ∧ SeI g nr K sh fn M p q FI HH w u7 ∧ Bx u7 b10 29 OU) := by
   have z := HR5.out.1.below HU6.out
   have z1 := own_ne29 HR5.out.2.2 HR5.out.1.bp
   have z2 := own_ne29 HR5.out.2.2 HR5.out.1.bq
   have z3 := own_ne29 HR5.out.2.2 HR5.out.2.1
   exact ⟨hb7, z.put hg7 z1 z2 HCU5.out.2.2.2.2.2, (HR5.out.2.1.below HU6.out).keep (hg7.block b10 (HR5.out.2.1.below HU6.out).lt (fun e => z3 (by injection e)))⟩
  clear hh hb7 hg7
  go_wp2_with fail
  refine hK.out _ _ (HU7.out.2.2.range) (fun _ => ?_)
  clear hK KK
  try simp only [pU]
  refine wpAnyH_done (by kernel_rfl) ?_ _
  refine NoPanic.normal ?_
  skip
  go_wp2
  go_ret
  have hh := HU7.out.2.1.hc
  rw [HCT.out] at HCU5 HCL
  exact ⟨y, d, rfl, by have := hh.hM; have := HCU5.out.2.2.2.2.2; omega, lay_view HU7.out.1 HCU5.out.2.1 HCL.out.1 HNN.out.2.1 HCU5.out.2.2.1 HCU5.out.2.2.2.1 HCU5.out.2.2.2.2.1, hh.key, hh.gb⟩
end Go.Proofs.YtcnikfikpnnblaaGreatDoor
