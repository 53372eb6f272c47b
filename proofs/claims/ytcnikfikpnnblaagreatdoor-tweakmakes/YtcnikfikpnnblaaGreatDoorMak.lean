import Derived.Test.YtcnikfikpnnblaaGreatDoorPart46
import Derived.Test.YtcnikfikpnnblaaGreatDoorRfo
import Derived.Test.YtcnikfikpnnblaaGreatDoorPart27
namespace Go.Proofs.YtcnikfikpnnblaaGreatDoor
open Go.RowKit
set_option linter.unusedVariables false
set_option linter.unusedSimpArgs false
/-- What the program's tables hold. -/
structure Env (w : World) (G o cp : Nat) : Prop where
 pow : Pow w
 md : MdAt w G o cp
 tb : Dg.Tables w
 rt : Dg.RTab w
 rc : RC w
theorem Env.below {w w' : World} {G o cp : Nat} (h : Env w G o cp) (b : Below w.heap.size w w') : Env w' G o cp :=
 ⟨h.pow.below b, h.md.below b, h.tb.below b h.tb.size, h.rt.kept fun k hk => b.block k (by have := h.rt.size; omega), h.rc.belowB b (by have := h.tb.size; omega)⟩
theorem specs_bx (w : World) (h : Pow w) : Calls Tryz.prog 16 #[] w fun e w' => Hid (∃ b, e = .returned (.slice (some ⟨b, 0, none⟩) 52 52) ∧ w.heap.size ≤ b ∧ Bx w' b 9 (nmC 52) ∧ Below w.heap.size w w') := specs_ok w h
set_option maxHeartbeats 1600000 in
set_option maxRecDepth 100000 in
theorem makes_none (S : ByteArray) (va : Option Addr) (n vc : Nat) (zs : List Int) (w : World) (G o cp kz : Nat) (r0 r1 r2 : ByteArray) (ra : Int) (hE : Env w G o cp) (hv : View w (.slice va n vc) zs) (hn : zs.length + 70 ≤ 140737488355328)
  (H14 : Hid (Calls Tryz.prog 14 #[.string S] w fun e u' => Hid (e = .returned (.tuple #[.agg #[.string r0, .string r1, .string r2, .int .i64 ra, .int .i64 (kz : Nat)], .bool false]) ∧ Below w.heap.size w u')))
  (H15 : Hid (∀ u, Below w.heap.size w u → Calls Tryz.prog 15 #[.string S] u fun e u' => Hid (e = .returned (.tuple #[.int .i64 (kz : Nat), .int .i64 30]) ∧ Below u.heap.size u u')))
  (H21 : Hid (∀ u v, Below w.heap.size w u → View u v zs → Calls Tryz.prog 21 #[.string S, v] u fun e u' => Hid (e = .returned (.tuple #[.pointer none, .int .i64 30]) ∧ Below u.heap.size u u')))
  (H22 : Hid (∀ u, Below w.heap.size w u → Calls Tryz.prog 22 #[.string S, .slice va n vc] u fun e u' => Hid (e = .returned (.tuple #[.pointer none, .int .i64 30]) ∧ Below u.heap.size u u'))) :
  Calls Tryz.prog 4 #[.string S, .slice va n vc] w fun e w' => Hid (e = .returned (.bool true) ∧ Below w.heap.size w w') := by
 have HE : Hid (Env w G o cp ∧ View w (.slice va n vc) zs ∧ zs.length + 70 ≤ 140737488355328) := ⟨hE, hv, hn⟩
 clear hE hv hn
 go_enter Tryz.func4, Tryz.ntmps4
 go_upto_region 2 with (go_at_call 14; refine H14.out.mono ?_; intro e1 w1 hh; obtain ⟨rfl, hb⟩ := hh.out; have HB1 : Hid (Below w.heap.size w w1) := hb; clear hh hb H14)
 obtain ⟨w2, hw2⟩ : ∃ w2, w2 = w1.alloc (.cells #[.string r0, .string r1, .string r2, .int .i64 ra, .int .i64 (kz : Nat)] 35) := ⟨_, rfl⟩
 obtain ⟨m, HM⟩ : ∃ m, Hid (w1.heap.size = m) := ⟨_, rfl⟩
 have HB2 : Hid (Bx w2 m 35 [.string r0, .string r1, .string r2, .int .i64 ra, .int .i64 (kz : Nat)] ∧ Below w.heap.size w w2) := by rw [hw2, ← HM.out]; exact ⟨Bx.new w1 35 _, HB1.out.alloc HB1.out.size _⟩
 rw [← hw2, HM.out]
 clear hw2 HB1
 go_upto_region 3 with (go_at_call 15; refine (H15.out _ HB2.out.2).mono ?_; intro e3 w3 hh; obtain ⟨rfl, hb⟩ := hh.out; have HB3 : Hid (Bx w3 m 35 [.string r0, .string r1, .string r2, .int .i64 ra, .int .i64 (kz : Nat)] ∧ Below w.heap.size w w3) := ⟨HB2.out.1.below hb, HB2.out.2.trans (hb.mono HB2.out.2.size)⟩; clear hh hb H15)
 go_upto_region 4 with (go_at_call 16; refine (specs_bx _ (HE.out.1.below HB3.out.2).pow).mono ?_; intro e4 w4 hh; obtain ⟨b1, rfl, hl, hx, hb⟩ := hh.out; have HB4 : Hid (Bx w4 m 35 [.string r0, .string r1, .string r2, .int .i64 ra, .int .i64 (kz : Nat)] ∧ Below w.heap.size w w4 ∧ Bx w4 b1 9 (nmC 52) ∧ w.heap.size ≤ b1) := ⟨HB3.out.1.below hb, HB3.out.2.trans (hb.mono HB3.out.2.size), hx, Nat.le_trans HB3.out.2.size hl⟩; clear hh hl hx hb)
 go_upto_region 8 with (go_at_call 16; refine (specs_bx _ (HE.out.1.below HB4.out.2.1).pow).mono ?_; intro e5 w5 hh; obtain ⟨b2, rfl, hl, hx, hb⟩ := hh.out; have HB5 : Hid (Bx w5 m 35 [.string r0, .string r1, .string r2, .int .i64 ra, .int .i64 (kz : Nat)] ∧ Below w.heap.size w w5 ∧ Bx w5 b1 9 (nmC 52) ∧ w.heap.size ≤ b1 ∧ Bx w5 b2 9 (nmC 52) ∧ b1 ≠ b2) := ⟨HB4.out.1.below hb, HB4.out.2.1.trans (hb.mono HB4.out.2.1.size), HB4.out.2.2.1.below hb, HB4.out.2.2.2, hx, by have := HB4.out.2.2.1.lt; omega⟩; clear hh hl hx hb)
 have s4 : w5.cell? ⟨m, 4, none⟩ = some (.int .i64 (kz : Nat)) := HB5.out.1.cell 4 _ rfl
 go_upto_region 10 with (first
  | (go_at_call 17; refine (num_ok _ _).mono ?_; rintro e6 x6 ⟨rfl, hw⟩; obtain rfl := hw.symm; clear hw)
  | (go_at_call 18; refine (sameTexts_ok b1 b2 _ HB5.out.2.2.1 HB5.out.2.2.2.2.1).mono ?_; intro e6 w6 hh; obtain ⟨rfl, hb⟩ := hh.out; have HB6 : Hid (Below w.heap.size w w6 ∧ Bx w6 b1 9 (nmC 52) ∧ w.heap.size ≤ b1 ∧ Bx w6 b2 9 (nmC 52) ∧ b1 ≠ b2) := ⟨HB5.out.2.1.trans (hb.mono HB5.out.2.1.size), HB5.out.2.2.1.below hb, HB5.out.2.2.2.1, HB5.out.2.2.2.2.1.below hb, HB5.out.2.2.2.2.2⟩; clear hh hb))
 clear s4
 go_upto_region 11 with (go_at_call 19; refine (spoilTexts_ok b1 _ HB6.out.2.1).mono ?_; intro e7 w7 hh; obtain ⟨rfl, hg⟩ := hh.out; have HB7 : Hid (Below w.heap.size w w7 ∧ Bx w7 b2 9 (nmC 52)) := ⟨HB6.out.1.trans (below_gb hg HB6.out.1.size HB6.out.2.2.1), HB6.out.2.2.2.1.keep (hg.block b2 HB6.out.2.2.2.1.lt (by intro e; injection e with e; exact HB6.out.2.2.2.2 e.symm))⟩; clear hh hg)
 go_upto_region 13 with (first
  | (go_at_call 16; refine (specs_bx _ (HE.out.1.below HB7.out.1).pow).mono ?_; intro e8 w8 hh; obtain ⟨b3, rfl, hl, hx, hb⟩ := hh.out; have HB8 : Hid (Below w.heap.size w w8 ∧ Bx w8 b2 9 (nmC 52) ∧ Bx w8 b3 9 (nmC 52)) := ⟨HB7.out.1.trans (hb.mono HB7.out.1.size), HB7.out.2.below hb, hx⟩; clear hh hl hx hb)
  | (go_at_call 18; refine (sameTexts_ok b3 b2 _ HB8.out.2.2 HB8.out.2.1).mono ?_; intro e9 w9 hh; obtain ⟨rfl, hb⟩ := hh.out; have HB9 : Hid (Below w.heap.size w w9) := HB8.out.1.trans (hb.mono HB8.out.1.size); clear hh hb))
 go_upto_region 14 with (go_at_call 20; refine (copy_any _ zs _ HE.out.2.2 (HE.out.2.1.below HB9.out)).mono ?_; rintro e10 w10 ⟨v10, rfl, hm, hb⟩; have HB10 : Hid (Below w.heap.size w w10 ∧ Marked w9.heap.size w10 v10 zs) := ⟨HB9.out.trans (hb.mono HB9.out.size), hm⟩; obtain ⟨xg, xc, rfl⟩ : ∃ g c, v10 = .slice (some ⟨g, 0, none⟩) zs.length c := (by obtain ⟨g, c, q, _⟩ := hm; exact ⟨g, c, q⟩); clear hm hb)
 go_upto_region 15 with (go_at_call 21; refine (H21.out _ _ HB10.out.1 HB10.out.2.view).mono ?_; intro e11 w11 hh; obtain ⟨rfl, hb⟩ := hh.out; have HB11 : Hid (Below w.heap.size w w11 ∧ Marked w9.heap.size w11 (.slice (some ⟨xg, 0, none⟩) zs.length xc) zs) := ⟨HB10.out.1.trans (hb.mono HB10.out.1.size), HB10.out.2.kept hb.block⟩; clear hh hb H21)
 go_upto_region 16 with (go_at_call 22; refine (H22.out _ HB11.out.1).mono ?_; intro e12 w12 hh; obtain ⟨rfl, hb⟩ := hh.out; have HB12 : Hid (Below w.heap.size w w12 ∧ Marked w9.heap.size w12 (.slice (some ⟨xg, 0, none⟩) zs.length xc) zs) := ⟨HB11.out.1.trans (hb.mono HB11.out.1.size), HB11.out.2.kept hb.block⟩; clear hh hb H22)
 go_upto_region 18 with (first
  | (go_at_call 17; refine (num_ok _ _).mono ?_; rintro e13 x13 ⟨rfl, hw⟩; obtain rfl := hw.symm; clear hw)
  | (go_at_call 23; refine (whole_any _ _ zs w9.heap.size _ HB12.out.2 (HE.out.2.1.below HB12.out.1)).mono ?_; rintro e14 w14 ⟨rfl, hw⟩; have HB14 : Hid (Below w12.heap.size w12 w14) := (by obtain ⟨q, rfl⟩ := hw; exact Below.drewN (Below.refl _ _) q); clear hw))
 go_wp2_with (first
  | (go_at_call 24; refine (spec_no _).mono ?_; rintro e15 x15 ⟨rfl, hw⟩; obtain rfl := hw.symm; clear hw)
  | (go_at_call 25; refine (size_no _).mono ?_; rintro e16 x16 ⟨rfl, hw⟩; obtain rfl := hw.symm; clear hw))
 go_ret
 exact ⟨rfl, HB12.out.1.trans (HB14.out.mono HB12.out.1.size)⟩
set_option maxHeartbeats 1600000 in
set_option maxRecDepth 100000 in
theorem makes_len (S : ByteArray) (va : Option Addr) (n vc : Nat) (zs : List Int) (w : World) (G o cp kz : Nat) (r0 r1 r2 : ByteArray) (ra : Int) (hE : Env w G o cp) (hv : View w (.slice va n vc) zs) (hn : zs.length + 70 ≤ 140737488355328)
  (H14 : Hid (Calls Tryz.prog 14 #[.string S] w fun e u' => Hid (e = .returned (.tuple #[.agg #[.string r0, .string r1, .string r2, .int .i64 ra, .int .i64 (kz : Nat)], .bool true]) ∧ Below w.heap.size w u')))
  (H15 : Hid (∀ u, Below w.heap.size w u → Calls Tryz.prog 15 #[.string S] u fun e u' => Hid (e = .returned (.tuple #[.int .i64 (kz : Nat), .int .i64 0]) ∧ Below u.heap.size u u')))
  (H21 : Hid (∀ u v, Below w.heap.size w u → View u v zs → Calls Tryz.prog 21 #[.string S, v] u fun e u' => Hid (e = .returned (.tuple #[.pointer none, .int .i64 31]) ∧ Below u.heap.size u u')))
  (H22 : Hid (∀ u, Below w.heap.size w u → Calls Tryz.prog 22 #[.string S, .slice va n vc] u fun e u' => Hid (e = .returned (.tuple #[.pointer none, .int .i64 31]) ∧ Below u.heap.size u u'))) :
  Calls Tryz.prog 4 #[.string S, .slice va n vc] w fun e w' => Hid (e = .returned (.bool true) ∧ Below w.heap.size w w') := by
 have HE : Hid (Env w G o cp ∧ View w (.slice va n vc) zs ∧ zs.length + 70 ≤ 140737488355328) := ⟨hE, hv, hn⟩
 clear hE hv hn
 go_enter Tryz.func4, Tryz.ntmps4
 go_upto_region 2 with (go_at_call 14; refine H14.out.mono ?_; intro e1 w1 hh; obtain ⟨rfl, hb⟩ := hh.out; have HB1 : Hid (Below w.heap.size w w1) := hb; clear hh hb H14)
 obtain ⟨w2, hw2⟩ : ∃ w2, w2 = w1.alloc (.cells #[.string r0, .string r1, .string r2, .int .i64 ra, .int .i64 (kz : Nat)] 35) := ⟨_, rfl⟩
 obtain ⟨m, HM⟩ : ∃ m, Hid (w1.heap.size = m) := ⟨_, rfl⟩
 have HB2 : Hid (Bx w2 m 35 [.string r0, .string r1, .string r2, .int .i64 ra, .int .i64 (kz : Nat)] ∧ Below w.heap.size w w2) := by rw [hw2, ← HM.out]; exact ⟨Bx.new w1 35 _, HB1.out.alloc HB1.out.size _⟩
 rw [← hw2, HM.out]
 clear hw2 HB1
 go_upto_region 3 with (go_at_call 15; refine (H15.out _ HB2.out.2).mono ?_; intro e3 w3 hh; obtain ⟨rfl, hb⟩ := hh.out; have HB3 : Hid (Bx w3 m 35 [.string r0, .string r1, .string r2, .int .i64 ra, .int .i64 (kz : Nat)] ∧ Below w.heap.size w w3) := ⟨HB2.out.1.below hb, HB2.out.2.trans (hb.mono HB2.out.2.size)⟩; clear hh hb H15)
 go_upto_region 4 with (go_at_call 16; refine (specs_bx _ (HE.out.1.below HB3.out.2).pow).mono ?_; intro e4 w4 hh; obtain ⟨b1, rfl, hl, hx, hb⟩ := hh.out; have HB4 : Hid (Bx w4 m 35 [.string r0, .string r1, .string r2, .int .i64 ra, .int .i64 (kz : Nat)] ∧ Below w.heap.size w w4 ∧ Bx w4 b1 9 (nmC 52) ∧ w.heap.size ≤ b1) := ⟨HB3.out.1.below hb, HB3.out.2.trans (hb.mono HB3.out.2.size), hx, Nat.le_trans HB3.out.2.size hl⟩; clear hh hl hx hb)
 go_upto_region 8 with (go_at_call 16; refine (specs_bx _ (HE.out.1.below HB4.out.2.1).pow).mono ?_; intro e5 w5 hh; obtain ⟨b2, rfl, hl, hx, hb⟩ := hh.out; have HB5 : Hid (Bx w5 m 35 [.string r0, .string r1, .string r2, .int .i64 ra, .int .i64 (kz : Nat)] ∧ Below w.heap.size w w5 ∧ Bx w5 b1 9 (nmC 52) ∧ w.heap.size ≤ b1 ∧ Bx w5 b2 9 (nmC 52) ∧ b1 ≠ b2) := ⟨HB4.out.1.below hb, HB4.out.2.1.trans (hb.mono HB4.out.2.1.size), HB4.out.2.2.1.below hb, HB4.out.2.2.2, hx, by have := HB4.out.2.2.1.lt; omega⟩; clear hh hl hx hb)
 have s4 : w5.cell? ⟨m, 4, none⟩ = some (.int .i64 (kz : Nat)) := HB5.out.1.cell 4 _ rfl
 go_upto_region 10 with (first
  | (go_at_call 17; refine (num_ok _ _).mono ?_; rintro e6 x6 ⟨rfl, hw⟩; obtain rfl := hw.symm; clear hw)
  | (go_at_call 18; refine (sameTexts_ok b1 b2 _ HB5.out.2.2.1 HB5.out.2.2.2.2.1).mono ?_; intro e6 w6 hh; obtain ⟨rfl, hb⟩ := hh.out; have HB6 : Hid (Below w.heap.size w w6 ∧ Bx w6 b1 9 (nmC 52) ∧ w.heap.size ≤ b1 ∧ Bx w6 b2 9 (nmC 52) ∧ b1 ≠ b2) := ⟨HB5.out.2.1.trans (hb.mono HB5.out.2.1.size), HB5.out.2.2.1.below hb, HB5.out.2.2.2.1, HB5.out.2.2.2.2.1.below hb, HB5.out.2.2.2.2.2⟩; clear hh hb))
 clear s4
 go_upto_region 11 with (go_at_call 19; refine (spoilTexts_ok b1 _ HB6.out.2.1).mono ?_; intro e7 w7 hh; obtain ⟨rfl, hg⟩ := hh.out; have HB7 : Hid (Below w.heap.size w w7 ∧ Bx w7 b2 9 (nmC 52)) := ⟨HB6.out.1.trans (below_gb hg HB6.out.1.size HB6.out.2.2.1), HB6.out.2.2.2.1.keep (hg.block b2 HB6.out.2.2.2.1.lt (by intro e; injection e with e; exact HB6.out.2.2.2.2 e.symm))⟩; clear hh hg)
 go_upto_region 13 with (first
  | (go_at_call 16; refine (specs_bx _ (HE.out.1.below HB7.out.1).pow).mono ?_; intro e8 w8 hh; obtain ⟨b3, rfl, hl, hx, hb⟩ := hh.out; have HB8 : Hid (Below w.heap.size w w8 ∧ Bx w8 b2 9 (nmC 52) ∧ Bx w8 b3 9 (nmC 52)) := ⟨HB7.out.1.trans (hb.mono HB7.out.1.size), HB7.out.2.below hb, hx⟩; clear hh hl hx hb)
  | (go_at_call 18; refine (sameTexts_ok b3 b2 _ HB8.out.2.2 HB8.out.2.1).mono ?_; intro e9 w9 hh; obtain ⟨rfl, hb⟩ := hh.out; have HB9 : Hid (Below w.heap.size w w9) := HB8.out.1.trans (hb.mono HB8.out.1.size); clear hh hb))
 go_upto_region 14 with (go_at_call 20; refine (copy_any _ zs _ HE.out.2.2 (HE.out.2.1.below HB9.out)).mono ?_; rintro e10 w10 ⟨v10, rfl, hm, hb⟩; have HB10 : Hid (Below w.heap.size w w10 ∧ Marked w9.heap.size w10 v10 zs) := ⟨HB9.out.trans (hb.mono HB9.out.size), hm⟩; obtain ⟨xg, xc, rfl⟩ : ∃ g c, v10 = .slice (some ⟨g, 0, none⟩) zs.length c := (by obtain ⟨g, c, q, _⟩ := hm; exact ⟨g, c, q⟩); clear hm hb)
 go_upto_region 15 with (go_at_call 21; refine (H21.out _ _ HB10.out.1 HB10.out.2.view).mono ?_; intro e11 w11 hh; obtain ⟨rfl, hb⟩ := hh.out; have HB11 : Hid (Below w.heap.size w w11 ∧ Marked w9.heap.size w11 (.slice (some ⟨xg, 0, none⟩) zs.length xc) zs) := ⟨HB10.out.1.trans (hb.mono HB10.out.1.size), HB10.out.2.kept hb.block⟩; clear hh hb H21)
 go_upto_region 16 with (go_at_call 22; refine (H22.out _ HB11.out.1).mono ?_; intro e12 w12 hh; obtain ⟨rfl, hb⟩ := hh.out; have HB12 : Hid (Below w.heap.size w w12 ∧ Marked w9.heap.size w12 (.slice (some ⟨xg, 0, none⟩) zs.length xc) zs) := ⟨HB11.out.1.trans (hb.mono HB11.out.1.size), HB11.out.2.kept hb.block⟩; clear hh hb H22)
 go_upto_region 18 with (first
  | (go_at_call 17; refine (num_ok _ _).mono ?_; rintro e13 x13 ⟨rfl, hw⟩; obtain rfl := hw.symm; clear hw)
  | (go_at_call 23; refine (whole_any _ _ zs w9.heap.size _ HB12.out.2 (HE.out.2.1.below HB12.out.1)).mono ?_; rintro e14 w14 ⟨rfl, hw⟩; have HB14 : Hid (Below w12.heap.size w12 w14) := (by obtain ⟨q, rfl⟩ := hw; exact Below.drewN (Below.refl _ _) q); clear hw))
 go_wp2_with (first
  | (go_at_call 24; refine (spec_no _).mono ?_; rintro e15 x15 ⟨rfl, hw⟩; obtain rfl := hw.symm; clear hw)
  | (go_at_call 25; refine (size_no _).mono ?_; rintro e16 x16 ⟨rfl, hw⟩; obtain rfl := hw.symm; clear hw))
 go_ret
 exact ⟨rfl, HB12.out.1.trans (HB14.out.mono HB12.out.1.size)⟩
set_option maxHeartbeats 1600000 in
set_option maxRecDepth 100000 in
theorem makes_good (S : ByteArray) (va : Option Addr) (n vc : Nat) (zs : List Int) (w : World) (G o cp kz : Nat) (r0 r1 r2 : ByteArray) (ra : Int) (hE : Env w G o cp) (hv : View w (.slice va n vc) zs) (hn : zs.length + 70 ≤ 140737488355328)
  (H14 : Hid (Calls Tryz.prog 14 #[.string S] w fun e u' => Hid (e = .returned (.tuple #[.agg #[.string r0, .string r1, .string r2, .int .i64 ra, .int .i64 (kz : Nat)], .bool true]) ∧ Below w.heap.size w u')))
  (H15 : Hid (∀ u, Below w.heap.size w u → Calls Tryz.prog 15 #[.string S] u fun e u' => Hid (e = .returned (.tuple #[.int .i64 (kz : Nat), .int .i64 0]) ∧ Below u.heap.size u u')))
  (H21 : Hid (∀ u v, Below w.heap.size w u → View u v zs → Calls Tryz.prog 21 #[.string S, v] u fun e u' => Hid (∃ c sh x cp2, e = .returned (.tuple #[.pointer (some ⟨c, 0, none⟩), .int .i64 0]) ∧ u'.cell? ⟨c, 0, none⟩ = some (.pointer (some ⟨sh, 0, none⟩)) ∧ u'.cell? ⟨sh, 0, none⟩ = some (.string S) ∧ u'.cell? ⟨sh, 2, none⟩ = some (.slice x n cp2) ∧ Below u.heap.size u u')))
  (H22 : Hid (∀ u, Below w.heap.size w u → Calls Tryz.prog 22 #[.string S, .slice va n vc] u fun e u' => Hid (∃ c, e = .returned (.tuple #[.pointer (some ⟨c, 0, none⟩), .int .i64 0]) ∧ Below u.heap.size u u'))) :
  Calls Tryz.prog 4 #[.string S, .slice va n vc] w fun e w' => Hid (e = .returned (.bool true) ∧ Below w.heap.size w w') := by
 have HE : Hid (Env w G o cp ∧ View w (.slice va n vc) zs ∧ zs.length + 70 ≤ 140737488355328) := ⟨hE, hv, hn⟩
 clear hE hv hn
 go_enter Tryz.func4, Tryz.ntmps4
 go_upto_region 2 with (go_at_call 14; refine H14.out.mono ?_; intro e1 w1 hh; obtain ⟨rfl, hb⟩ := hh.out; have HB1 : Hid (Below w.heap.size w w1) := hb; clear hh hb H14)
 obtain ⟨w2, hw2⟩ : ∃ w2, w2 = w1.alloc (.cells #[.string r0, .string r1, .string r2, .int .i64 ra, .int .i64 (kz : Nat)] 35) := ⟨_, rfl⟩
 obtain ⟨m, HM⟩ : ∃ m, Hid (w1.heap.size = m) := ⟨_, rfl⟩
 have HB2 : Hid (Bx w2 m 35 [.string r0, .string r1, .string r2, .int .i64 ra, .int .i64 (kz : Nat)] ∧ Below w.heap.size w w2) := by rw [hw2, ← HM.out]; exact ⟨Bx.new w1 35 _, HB1.out.alloc HB1.out.size _⟩
 rw [← hw2, HM.out]
 clear hw2 HB1
 go_upto_region 3 with (go_at_call 15; refine (H15.out _ HB2.out.2).mono ?_; intro e3 w3 hh; obtain ⟨rfl, hb⟩ := hh.out; have HB3 : Hid (Bx w3 m 35 [.string r0, .string r1, .string r2, .int .i64 ra, .int .i64 (kz : Nat)] ∧ Below w.heap.size w w3) := ⟨HB2.out.1.below hb, HB2.out.2.trans (hb.mono HB2.out.2.size)⟩; clear hh hb H15)
 go_upto_region 4 with (go_at_call 16; refine (specs_bx _ (HE.out.1.below HB3.out.2).pow).mono ?_; intro e4 w4 hh; obtain ⟨b1, rfl, hl, hx, hb⟩ := hh.out; have HB4 : Hid (Bx w4 m 35 [.string r0, .string r1, .string r2, .int .i64 ra, .int .i64 (kz : Nat)] ∧ Below w.heap.size w w4 ∧ Bx w4 b1 9 (nmC 52) ∧ w.heap.size ≤ b1) := ⟨HB3.out.1.below hb, HB3.out.2.trans (hb.mono HB3.out.2.size), hx, Nat.le_trans HB3.out.2.size hl⟩; clear hh hl hx hb)
 go_upto_region 8 with (go_at_call 16; refine (specs_bx _ (HE.out.1.below HB4.out.2.1).pow).mono ?_; intro e5 w5 hh; obtain ⟨b2, rfl, hl, hx, hb⟩ := hh.out; have HB5 : Hid (Bx w5 m 35 [.string r0, .string r1, .string r2, .int .i64 ra, .int .i64 (kz : Nat)] ∧ Below w.heap.size w w5 ∧ Bx w5 b1 9 (nmC 52) ∧ w.heap.size ≤ b1 ∧ Bx w5 b2 9 (nmC 52) ∧ b1 ≠ b2) := ⟨HB4.out.1.below hb, HB4.out.2.1.trans (hb.mono HB4.out.2.1.size), HB4.out.2.2.1.below hb, HB4.out.2.2.2, hx, by have := HB4.out.2.2.1.lt; omega⟩; clear hh hl hx hb)
 have s4 : w5.cell? ⟨m, 4, none⟩ = some (.int .i64 (kz : Nat)) := HB5.out.1.cell 4 _ rfl
 go_upto_region 10 with (first
  | (go_at_call 17; refine (num_ok _ _).mono ?_; rintro e6 x6 ⟨rfl, hw⟩; obtain rfl := hw.symm; clear hw)
  | (go_at_call 18; refine (sameTexts_ok b1 b2 _ HB5.out.2.2.1 HB5.out.2.2.2.2.1).mono ?_; intro e6 w6 hh; obtain ⟨rfl, hb⟩ := hh.out; have HB6 : Hid (Below w.heap.size w w6 ∧ Bx w6 b1 9 (nmC 52) ∧ w.heap.size ≤ b1 ∧ Bx w6 b2 9 (nmC 52) ∧ b1 ≠ b2) := ⟨HB5.out.2.1.trans (hb.mono HB5.out.2.1.size), HB5.out.2.2.1.below hb, HB5.out.2.2.2.1, HB5.out.2.2.2.2.1.below hb, HB5.out.2.2.2.2.2⟩; clear hh hb))
 clear s4
 go_upto_region 11 with (go_at_call 19; refine (spoilTexts_ok b1 _ HB6.out.2.1).mono ?_; intro e7 w7 hh; obtain ⟨rfl, hg⟩ := hh.out; have HB7 : Hid (Below w.heap.size w w7 ∧ Bx w7 b2 9 (nmC 52)) := ⟨HB6.out.1.trans (below_gb hg HB6.out.1.size HB6.out.2.2.1), HB6.out.2.2.2.1.keep (hg.block b2 HB6.out.2.2.2.1.lt (by intro e; injection e with e; exact HB6.out.2.2.2.2 e.symm))⟩; clear hh hg)
 go_upto_region 13 with (first
  | (go_at_call 16; refine (specs_bx _ (HE.out.1.below HB7.out.1).pow).mono ?_; intro e8 w8 hh; obtain ⟨b3, rfl, hl, hx, hb⟩ := hh.out; have HB8 : Hid (Below w.heap.size w w8 ∧ Bx w8 b2 9 (nmC 52) ∧ Bx w8 b3 9 (nmC 52)) := ⟨HB7.out.1.trans (hb.mono HB7.out.1.size), HB7.out.2.below hb, hx⟩; clear hh hl hx hb)
  | (go_at_call 18; refine (sameTexts_ok b3 b2 _ HB8.out.2.2 HB8.out.2.1).mono ?_; intro e9 w9 hh; obtain ⟨rfl, hb⟩ := hh.out; have HB9 : Hid (Below w.heap.size w w9) := HB8.out.1.trans (hb.mono HB8.out.1.size); clear hh hb))
 go_upto_region 14 with (go_at_call 20; refine (copy_any _ zs _ HE.out.2.2 (HE.out.2.1.below HB9.out)).mono ?_; rintro e10 w10 ⟨v10, rfl, hm, hb⟩; have HB10 : Hid (Below w.heap.size w w10 ∧ Marked w9.heap.size w10 v10 zs) := ⟨HB9.out.trans (hb.mono HB9.out.size), hm⟩; obtain ⟨xg, xc, rfl⟩ : ∃ g c, v10 = .slice (some ⟨g, 0, none⟩) zs.length c := (by obtain ⟨g, c, q, _⟩ := hm; exact ⟨g, c, q⟩); clear hm hb)
 go_upto_region 15 with (go_at_call 21; refine (H21.out _ _ HB10.out.1 HB10.out.2.view).mono ?_; intro e11 w11 hh; obtain ⟨c, sh, kx, kc, rfl, q0, q1, q2, hb⟩ := hh.out; have HB11 : Hid (Below w.heap.size w w11 ∧ Marked w9.heap.size w11 (.slice (some ⟨xg, 0, none⟩) zs.length xc) zs ∧ w11.cell? ⟨c, 0, none⟩ = some (.pointer (some ⟨sh, 0, none⟩)) ∧ w11.cell? ⟨sh, 0, none⟩ = some (.string S) ∧ w11.cell? ⟨sh, 2, none⟩ = some (.slice kx n kc)) := ⟨HB10.out.1.trans (hb.mono HB10.out.1.size), HB10.out.2.kept hb.block, q0, q1, q2⟩; clear hh hb q0 q1 q2 H21)
 go_upto_region 16 with (go_at_call 22; refine (H22.out _ HB11.out.1).mono ?_; intro e12 w12 hh; obtain ⟨rc, rfl, hb⟩ := hh.out; have HB12 : Hid (Below w.heap.size w w12 ∧ Marked w9.heap.size w12 (.slice (some ⟨xg, 0, none⟩) zs.length xc) zs ∧ w12.cell? ⟨c, 0, none⟩ = some (.pointer (some ⟨sh, 0, none⟩)) ∧ w12.cell? ⟨sh, 0, none⟩ = some (.string S) ∧ w12.cell? ⟨sh, 2, none⟩ = some (.slice kx n kc)) := ⟨HB11.out.1.trans (hb.mono HB11.out.1.size), HB11.out.2.1.kept hb.block, by rw [hb.cell (World.block_lt_of_cell? _ _ HB11.out.2.2.1)]; exact HB11.out.2.2.1, by rw [hb.cell (World.block_lt_of_cell? _ _ HB11.out.2.2.2.1)]; exact HB11.out.2.2.2.1, by rw [hb.cell (World.block_lt_of_cell? _ _ HB11.out.2.2.2.2)]; exact HB11.out.2.2.2.2⟩; clear hh hb H22)
 go_upto_region 18 with (first
  | (go_at_call 17; refine (num_ok _ _).mono ?_; rintro e13 x13 ⟨rfl, hw⟩; obtain rfl := hw.symm; clear hw)
  | (go_at_call 23; refine (whole_any _ _ zs w9.heap.size _ HB12.out.2.1 (HE.out.2.1.below HB12.out.1)).mono ?_; rintro e14 w14 ⟨rfl, hw⟩; have HB14 : Hid (Below w12.heap.size w12 w14) := (by obtain ⟨q, rfl⟩ := hw; exact Below.drewN (Below.refl _ _) q); clear hw))
 have q0 : w14.cell? ⟨c, 0, none⟩ = some (.pointer (some ⟨sh, 0, none⟩)) := by rw [HB14.out.cell (World.block_lt_of_cell? _ _ HB12.out.2.2.1)]; exact HB12.out.2.2.1
 have q1 : w14.cell? ⟨sh, 0, none⟩ = some (.string S) := by rw [HB14.out.cell (World.block_lt_of_cell? _ _ HB12.out.2.2.2.1)]; exact HB12.out.2.2.2.1
 have q2 : w14.cell? ⟨sh, 2, none⟩ = some (.slice kx n kc) := by rw [HB14.out.cell (World.block_lt_of_cell? _ _ HB12.out.2.2.2.2)]; exact HB12.out.2.2.2.2
 have H24 : Hid (Calls Tryz.prog 24 #[.pointer (some ⟨c, 0, none⟩)] w14 fun e w' => e = .returned (.string S) ∧ w' = w14) := spec_ok c sh S w14 q0 q1
 have H25 : Hid (Calls Tryz.prog 25 #[.pointer (some ⟨c, 0, none⟩)] w14 fun e w' => e = .returned (.int .i64 (n : Nat)) ∧ w' = w14) := size_ok c sh kx n kc w14 q0 q2
 clear q0 q1 q2
 go_wp2_with (first
  | (go_at_call 24; refine H24.out.mono ?_; rintro e15 x15 ⟨rfl, hw⟩; obtain rfl := hw.symm; clear hw)
  | (go_at_call 25; refine H25.out.mono ?_; rintro e16 x16 ⟨rfl, hw⟩; obtain rfl := hw.symm; clear hw))
 go_ret
 exact ⟨rfl, HB12.out.1.trans (HB14.out.mono HB12.out.1.size)⟩
/-- The law, of any name and any key. -/
theorem makes_ok (S : ByteArray) (v : Value) (zs : List Int) (w : World) (G o cp : Nat) (hE : Env w G o cp) (hv : View w v zs) (hb : AllBytes zs) (hn : zs.length + 70 ≤ 140737488355328) :
  Calls Tryz.prog 4 #[.string S, v] w fun e w' => Hid (e = .returned (.bool true) ∧ Below w.heap.size w w') := by
 obtain ⟨va, vc, he, hvr⟩ := id hv
 clear hvr
 subst he
 rcases first_or S 52 with ⟨j, hj, h1, h2⟩ | hno
 ·obtain ⟨M, T, a, hx⟩ := rw_size j hj
  have H14 : Hid (Calls Tryz.prog 14 #[.string S] w fun e u' => Hid (e = .returned (.tuple #[.agg #[.string (spN j), .string M, .string T, .int .i64 a, .int .i64 (kyN j : Nat)], .bool true]) ∧ Below w.heap.size w u')) := by
   have p := rfind_at S j w G o cp hE.md hj h1 h2
   rw [hx] at p
   exact p
  have H15 : Hid (∀ u, Below w.heap.size w u → Calls Tryz.prog 15 #[.string S] u fun e u' => Hid (e = .returned (.tuple #[.int .i64 (kyN j : Nat), .int .i64 0]) ∧ Below u.heap.size u u')) := fun u hu => keyS_at S j u (hE.below hu).pow hj h1 h2
  by_cases hl : zs.length = kyN j
  ·have hky : kyN j ≤ 1000 := by
    rcases sx_cases j hj with rfl | ⟨i, k, hi, hk, rfl⟩
    ·decide
    ·rw [kyN_lit i k hk]
     have : mK k * (16 + 8 * i) ≤ 2 * 32 := Nat.mul_le_mul (mK_le k) (by omega)
     have := mM_le k
     omega
   refine makes_good S va zs.length vc zs w G o cp (kyN j) (spN j) M T a hE hv hn H14 H15 (fun u x hu hxv => ?_) (fun u hu => ?_)
   ·have hnew : ∃ st wd, Calls Tryz.prog 21 #[.string S, x] u fun e u' => NewP u S st wd zs (fun _ _ _ _ => True) e u' := by
     rcases sx_cases j hj with rfl | ⟨i, k, hi, hk, rfl⟩
     ·have hz : zs = [] := List.eq_nil_of_length_eq_zero hl
      subst hz
      refine ⟨1, 0, ?_⟩
      rw [← h1]
      exact newNull x u hxv (hE.below hu).pow
     ·refine ⟨mS k, 16 + 8 * i, ?_⟩
      rw [spN_lit i k hk] at h1
      subst h1
      exact newK i k hi hk x zs u h2 hxv hb (by rw [hl, kyN_lit i k hk]) (hE.below hu).pow (hE.below hu).tb (hE.below hu).rc
    obtain ⟨st, wd, hnew⟩ := hnew
    refine hnew.mono ?_
    rintro e u' ⟨c, sh, kv, mp, ov, fv, sv, pv, rfl, hc, hbx, hsh, _, hbl⟩
    obtain ⟨xa, xc, rfl, _⟩ := hsh.view
    exact ⟨c, sh, xa, xc, rfl, hbx.cell 0 _ rfl, hsh.box.cell 0 _ rfl, hsh.box.cell 2 _ rfl, hbl⟩
   ·have hnew : Calls Tryz.prog 22 #[.string S, .slice va zs.length vc] u fun e u' => RnP u e u' := by
     rcases sx_cases j hj with rfl | ⟨i, k, hi, hk, rfl⟩
     ·have hz : zs = [] := List.eq_nil_of_length_eq_zero hl
      subst hz
      rw [← h1]
      exact rnewN _ u G o cp (hv.below hu) (hE.below hu).md
     ·rw [spN_lit i k hk] at h1
      subst h1
      exact rnewR i k hi hk _ zs u G o cp h2 (hv.below hu) hb (by rw [hl, kyN_lit i k hk]) (hE.below hu).md (hE.below hu).rt
    refine hnew.mono ?_
    rintro e u' ⟨c, rfl, hbl⟩
    exact ⟨c, rfl, hbl⟩
  ·refine makes_len S va zs.length vc zs w G o cp (kyN j) (spN j) M T a hE hv hn H14 H15 (fun u x hu hxv => ?_) (fun u hu => ?_)
   ·obtain ⟨xa, xc, rfl, _⟩ := id hxv
    exact new_len S j xa zs.length xc u (hE.below hu).pow hj h1 h2 hl (by omega)
   ·exact rnew_len S j va zs.length vc u G o cp (hE.below hu).md hj h1 h2 hl
 ·refine makes_none S va zs.length vc zs w G o cp 0 ⟨#[]⟩ ⟨#[]⟩ ⟨#[]⟩ 0 hE hv hn (rfind_no S w G o cp hE.md hno) (fun u hu => keyS_none S u (hE.below hu).pow hno) (fun u x hu hxv => ?_) (fun u hu => ?_)
  ·exact new_none S x u (hE.below hu).pow hno
  ·exact rnew_none S _ u G o cp (hE.below hu).md hno
end Go.Proofs.YtcnikfikpnnblaaGreatDoor
