import Derived.Test.YtcnikfikpnnblaaGreatDoorXmd
import Derived.Test.YtcnikfikpnnblaaGreatDoorXtm
import Derived.Test.YtcnikfikpnnblaaGreatDoorPart42
import Derived.Test.YtcnikfikpnnblaaGreatDoorNwy
import Derived.Test.YtcnikfikpnnblaaGreatDoorPart31
import Derived.Test.YtcnikfikpnnblaaGreatDoorPart07
import Derived.Test.YtcnikfikpnnblaaGreatDoorPart40
namespace Go.Proofs.YtcnikfikpnnblaaGreatDoor
open Go.RowKit
set_option linter.unusedVariables false
set_option linter.unusedSimpArgs false
/-- masked of any list of at least a block. -/
theorem maskedx_ok {B : Nat} {Ks : Nat → Prop} {I : World → Prop} (hC : Cst B Ks I) (fn sh : Nat) (hE : ∀ args u, (callFunc fn args).run Tryz.prog u = .ok (.enter fn args) u) (E : BitVec 128 → BitVec 128) (r n c : Nat) (f : Nat → BitVec 128) (b off cp : Nat) (zs : List Int) (w : World) (hI : I w) (HDO : DoI Ks I fn (.pointer (some ⟨sh, 0, none⟩)) E) (rg : ∀ j, j < n → w.rangeAt r (0 + j * 16) (Fd.BL (f j))) (n4 : ¬ Ks r) (hnc : n ≤ c)
    (hl0 : 16 ≤ zs.length) (hl3 : zs.length ≤ 4096) (hkn : zs.length ≤ 16 * n) (hc1 : zs.length ≤ cp) (hb : AllBytes zs) (hbg : ¬ Ks b) (hz : ∀ i, i < zs.length → w.cell? ⟨b, off + i, none⟩ = some (.int .u8 (zs.getD i 0))) :
    Calls Tryz.prog 214 #[.slice (some ⟨b, off, none⟩) zs.length cp, .slice (some ⟨r, 0, none⟩) n c, .func (.func fn) #[.pointer (some ⟨sh, 0, none⟩)] #[]] w fun e w' => Hid (∃ x, e = .returned (.slice (some ⟨x, 0, none⟩) zs.length zs.length) ∧ w.heap.size ≤ x ∧ Bx w' x 5 (mskL E f zs (zs.length / 16)) ∧ I w' ∧ Gk Ks w w') := by
  by_cases h : zs.length = 16 * (zs.length / 16)
  · exact maskedx_whole hC fn sh hE E r n c f b off cp (zs.length / 16) zs w hI HDO rg n4 hnc (by omega) h hl3 hkn hc1 hb hbg hz
  · exact maskedx_rest hC fn sh hE E r n c f b off cp (zs.length / 16) zs w hI HDO rg n4 hnc (by omega) (by omega) (by omega) hl3 hkn hc1 hb hbg hz
/-- What xts gives. -/
def xtsL (E : BitVec 128 → BitVec 128) (t : BitVec 128) (zs : List Int) : List Value := mskL E (dbN t) zs (zs.length / 16)
set_option maxHeartbeats 1600000 in
set_option maxRecDepth 100000 in
/-- xts.seal. -/
theorem xseal_ok {B : Nat} {Ks : Nat → Prop} {I : World → Prop} (hC : Cst B Ks I) (fn sh g2 : Nat) (cs : Array Value) (hE : ∀ args u, (callFunc fn args).run Tryz.prog u = .ok (.enter fn args) u) (E U : BitVec 128 → BitVec 128) (fi : BitVec 128) (s : Nat) (b off cp : Nat) (zs : List Int) (w : World) (hI : I w)
    (HF : ∀ u, I u → Calls Tryz.prog fn (#[.int .u64 (s : Nat), .int .i64 (zs.length : Nat)] ++ cs) u fun e w' => Hid (e = .returned (Fd.BV fi) ∧ I w' ∧ Gk Ks u w'))
    (HU : DoI Ks I 146 (.pointer (some ⟨g2, 0, none⟩)) U) (HDO : DoI Ks I 148 (.pointer (some ⟨sh, 0, none⟩)) E)
    (hl0 : 16 ≤ zs.length) (hl3 : zs.length ≤ 4096) (hc1 : zs.length ≤ cp) (hb : AllBytes zs) (hbg : ¬ Ks b) (hz : ∀ i, i < zs.length → w.cell? ⟨b, off + i, none⟩ = some (.int .u8 (zs.getD i 0))) :
    Calls Tryz.prog 158 #[.agg #[.pointer (some ⟨sh, 0, none⟩), .func (.func fn) #[] cs, .pointer (some ⟨g2, 0, none⟩)], .int .u64 (s : Nat), .slice (some ⟨b, off, none⟩) zs.length cp] w fun e w' => Hid (∃ x, e = .returned (.slice (some ⟨x, 0, none⟩) zs.length zs.length) ∧ w.heap.size ≤ x ∧ Bx w' x 5 (xtsL E (U fi) zs) ∧ I w' ∧ Gk Ks w w') := by
  obtain ⟨w1, hw1⟩ : ∃ w1, w1 = w.alloc (.cells #[.pointer (some ⟨sh, 0, none⟩), .func (.func fn) #[] cs, .pointer (some ⟨g2, 0, none⟩)] 210) := ⟨_, rfl⟩
  have hBw : B ≤ w.heap.size := hC.size w hI
  have hb1 : Below w.heap.size w w1 := by rw [hw1]; exact (Below.refl _ _).alloc (Nat.le_refl _) _
  have hB1 : Bx w1 w.heap.size 210 [.pointer (some ⟨sh, 0, none⟩), .func (.func fn) #[] cs, .pointer (some ⟨g2, 0, none⟩)] := by rw [hw1]; exact Bx.new w 210 [.pointer (some ⟨sh, 0, none⟩), .func (.func fn) #[] cs, .pointer (some ⟨g2, 0, none⟩)]
  obtain ⟨k, HK⟩ : ∃ k, Hid ((zs.length + 15) / 16 = k) := ⟨_, rfl⟩
  obtain ⟨f, Hf⟩ : ∃ f : Nat → BitVec 128, Hid (f = dbN (U fi)) := ⟨_, rfl⟩
  obtain ⟨Y, HY⟩ : ∃ Y, Hid (Y = xtsL E (U fi) zs) := ⟨_, rfl⟩
  obtain ⟨N, HNL⟩ : ∃ n, Hid (zs.length = n) := ⟨_, rfl⟩
  have HM : Hid (∀ u, I u → Calls Tryz.prog 215 #[.agg #[.pointer (some ⟨sh, 0, none⟩), .func (.func fn) #[] cs, .pointer (some ⟨g2, 0, none⟩)], .int .u64 (s : Nat), .int .i64 (N : Nat)] u fun e w' => Hid (∃ x, e = .returned (.slice (some ⟨x, 0, none⟩) k k) ∧ u.heap.size ≤ x ∧ Bx w' x 29 (bkL f k) ∧ I w' ∧ Gk Ks u w')) := fun u hu => by
    have q := xmasks_ok hC fn sh g2 cs hE U fi s zs.length k u hu (by have := HK.out; omega) (by have := HK.out; omega) hl3 HF HU
    rw [HNL.out, ← Hf.out] at q
    exact q
  have HD : Hid (∀ u r, I u → Gk Ks w u → w.heap.size ≤ r → Bx u r 29 (bkL f k) → Calls Tryz.prog 214 #[.slice (some ⟨b, off, none⟩) N cp, .slice (some ⟨r, 0, none⟩) k k, .func (.func 148) #[.pointer (some ⟨sh, 0, none⟩)] #[]] u fun e w' => Hid (∃ x, e = .returned (.slice (some ⟨x, 0, none⟩) N N) ∧ u.heap.size ≤ x ∧ Bx w' x 5 Y ∧ I w' ∧ Gk Ks u w')) := fun u r hu hg hr hx => by
    have q := maskedx_ok hC 148 sh (fun args w => enter_ok Tryz.func148 (by rfl) (by rfl) args w) E r k k f b off cp zs u hu HDO (fun j hj i x hx' => ?_) (hC.new (by omega)) (Nat.le_refl _) hl0 hl3 (by have := HK.out; omega) hc1 hb hbg (fun i hi => hg.cell hbg (hz i hi))
    · rw [HNL.out] at q
      rw [HY.out, xtsL, HNL.out, ← Hf.out]
      exact q
    · have hi : i < 16 := by have := (List.getElem?_eq_some_iff.1 hx').1; rw [Fd.BL_length] at this; exact this
      rw [Fd.BL_at _ i hi] at hx'
      have e := bkL_at f k j i hj hi
      rw [hx'] at e
      rw [show 0 + j * 16 + i = 16 * j + i by omega]
      exact hx.cell _ _ e
  rw [HNL.out, ← HY.out]
  have HW1 : Hid (Below w.heap.size w w1 ∧ Bx w1 w.heap.size 210 [.pointer (some ⟨sh, 0, none⟩), .func (.func fn) #[] cs, .pointer (some ⟨g2, 0, none⟩)] ∧ I w1 ∧ B ≤ w.heap.size) := ⟨hb1, hB1, hC.below hI hb1, hBw⟩
  clear hI HF HU HDO hl0 hl3 hc1 hb hbg hz hb1 hB1 hBw
  go_enter Tryz.func158, Tryz.ntmps158
  go_upto_region 1 with fail
  rw [← hw1]
  clear hw1
  obtain ⟨M, HMM⟩ : ∃ M, Hid (w.heap.size = M) := ⟨_, rfl⟩
  have HNK : Hid (¬ Ks M) := by show ¬ Ks M; rw [← HMM.out]; exact hC.new HW1.out.2.2.2
  rw [HMM.out] at HW1 HD ⊢
  have c0 : w1.cell? ⟨M, 0, none⟩ = some (.pointer (some ⟨sh, 0, none⟩)) := HW1.out.2.1.cell 0 _ rfl
  have c1 : w1.cell? ⟨M, 1, none⟩ = some (.func (.func fn) #[] cs) := HW1.out.2.1.cell 1 _ rfl
  have c2 : w1.cell? ⟨M, 2, none⟩ = some (.pointer (some ⟨g2, 0, none⟩)) := HW1.out.2.1.cell 2 _ rfl
  have HS1 : Hid (M + 1 ≤ w1.heap.size) := HW1.out.2.1.lt
  have HID : Hid (I w1.drew ∧ Gk Ks w w1.drew) := ⟨hC.below HW1.out.2.2.1 (Below.refl _ _).drew, (Gk.of_below (by rw [HMM.out]; exact HW1.out.1)).below (Below.refl _ _).drew⟩
  have HDL : Hid (∀ r, w1.drew.heap.size ≤ r → M ≤ r) := fun r hr => by have := HS1.out; simp at hr; omega
  go_region_held3 (fun u => u.cell? ⟨M, 0, none⟩ = some (.pointer (some ⟨sh, 0, none⟩)) ∧ u.cell? ⟨M, 1, none⟩ = some (.func (.func fn) #[] cs) ∧ u.cell? ⟨M, 2, none⟩ = some (.pointer (some ⟨g2, 0, none⟩))) (first | exact ⟨c0, c1, c2⟩ | exact hS2 | exact hS3 | go_keep) (first
    | (go_at_call 215; refine (HM.out _ HID.out.1).mono ?_; intro e2 w2 hh; obtain ⟨r, rfl, hr, hx, hi2, hg2⟩ := hh.out; have hS2 : w2.cell? ⟨M, 0, none⟩ = some (.pointer (some ⟨sh, 0, none⟩)) ∧ w2.cell? ⟨M, 1, none⟩ = some (.func (.func fn) #[] cs) ∧ w2.cell? ⟨M, 2, none⟩ = some (.pointer (some ⟨g2, 0, none⟩)) := ⟨hg2.cell HNK.out (by simpa using c0), hg2.cell HNK.out (by simpa using c1), hg2.cell HNK.out (by simpa using c2)⟩; have HB2 : Hid (M ≤ r ∧ Bx w2 r 29 (bkL f k) ∧ I w2 ∧ Gk Ks w w2) := ⟨HDL.out _ hr, hx, hi2, HID.out.2.trans hg2⟩; clear hh hr hx hi2 hg2)
    | (go_at_call 214; refine (HD.out _ r HB2.out.2.2.1 HB2.out.2.2.2 HB2.out.1 HB2.out.2.1).mono ?_; intro e3 w3 hh; obtain ⟨z, rfl, h1, h2, h3, h4⟩ := hh.out; have HX : Hid (w2.heap.size ≤ z ∧ Bx w3 z 5 Y ∧ I w3 ∧ Gk Ks w2 w3) := ⟨h1, h2, h3, h4⟩; have hS3 : w3.cell? ⟨M, 0, none⟩ = some (.pointer (some ⟨sh, 0, none⟩)) ∧ w3.cell? ⟨M, 1, none⟩ = some (.func (.func fn) #[] cs) ∧ w3.cell? ⟨M, 2, none⟩ = some (.pointer (some ⟨g2, 0, none⟩)) := ⟨h4.cell HNK.out hS2.1, h4.cell HNK.out hS2.2.1, h4.cell HNK.out hS2.2.2⟩; clear hh h1 h2 h3 h4))
  all_goals (
    (try go_wp2)
    go_ret
    obtain ⟨y1, y2, y3, y4⟩ := HX.out
    obtain ⟨z1, z2, z3, z4⟩ := HB2.out
    exact ⟨z, rfl, by have := z4.size; have := HMM.out; omega, y2, y3, z4.trans y4⟩)
end Go.Proofs.YtcnikfikpnnblaaGreatDoor
namespace Go.Proofs.YtcnikfikpnnblaaGreatDoor
open Go.RowKit
set_option linter.unusedVariables false
set_option linter.unusedSimpArgs false
/-- Two keys stand. -/
def TwoK (B nr : Nat) (K1 K2 : Nat → Nat) (sh g go : Nat) (u : World) : Prop := KeyAt u g nr K1 ∧ KeyAt u go nr K2 ∧ u.cell? ⟨sh, 4, none⟩ = some (.pointer (some ⟨g, 0, none⟩)) ∧ B ≤ u.heap.size
def Two (g go c : Nat) : Prop := c = g ∨ c = go
theorem twoK_cst {B nr : Nat} {K1 K2 : Nat → Nat} {sh g go : Nat} (h1 : g < B) (h2 : go < B) (h3 : sh < B) : Cst B (Two g go) (TwoK B nr K1 K2 sh g go) := by
  refine ⟨fun c h => by rcases h with rfl | rfl <;> assumption, fun u h => h.2.2.2, fun u v h hk hs => ?_⟩
  obtain ⟨a, b, c, d⟩ := h
  exact ⟨a.sameK (hk g h1) hs, b.sameK (hk go h2) hs, (World.cell?_of_block (a := ⟨sh, 4, none⟩) (hk sh h3)).trans c, Nat.le_trans d hs⟩
theorem twoK_enc {B nr : Nat} {K1 K2 : Nat → Nat} {sh g go : Nat} (n1 : sh ≠ g) (n3 : g ≠ go) : DoI (Two g go) (TwoK B nr K1 K2 sh g go) 148 (.pointer (some ⟨sh, 0, none⟩)) (encV nr K1) := fun v u h => by
  obtain ⟨a, b, c, d⟩ := h
  refine (encrypt_ok sh g nr K1 v u n1 c a).mono fun e w' hh => ?_
  obtain ⟨rfl, h1, h2⟩ := hh.out
  exact ⟨rfl, ⟨h1, b.sameK (h2.block go b.ciph.here (fun e => by injection e with e; exact n3 e.symm)) h2.size, (World.cell?_of_block (a := ⟨sh, 4, none⟩) (h2.block sh (World.block_lt_of_cell? u _ c) (fun e => by injection e with e; exact n1 e))).trans c, Nat.le_trans d h2.size⟩, Gk.of_gb h2 (.inl rfl)⟩
theorem twoK_und {B nr : Nat} {K1 K2 : Nat → Nat} {sh g go : Nat} (n2 : sh ≠ go) (n3 : g ≠ go) : DoI (Two g go) (TwoK B nr K1 K2 sh g go) 146 (.pointer (some ⟨go, 0, none⟩)) (encV nr K2) := fun v u h => by
  obtain ⟨a, b, c, d⟩ := h
  refine (under_ok go nr K2 v u b).mono fun e w' hh => ?_
  obtain ⟨rfl, h1, h2⟩ := hh.out
  exact ⟨rfl, ⟨a.sameK (h2.block g a.ciph.here (fun e => by injection e with e; exact n3 e)) h2.size, h1, (World.cell?_of_block (a := ⟨sh, 4, none⟩) (h2.block sh (World.block_lt_of_cell? u _ c) (fun e => by injection e with e; exact n2 e))).trans c, Nat.le_trans d h2.size⟩, Gk.of_gb h2 (.inr rfl)⟩
/-- One key stands. -/
def OneK (B nr : Nat) (K1 : Nat → Nat) (sh g : Nat) (u : World) : Prop := KeyAt u g nr K1 ∧ u.cell? ⟨sh, 4, none⟩ = some (.pointer (some ⟨g, 0, none⟩)) ∧ B ≤ u.heap.size
theorem oneK_cst {B nr : Nat} {K1 : Nat → Nat} {sh g : Nat} (h1 : g < B) (h3 : sh < B) : Cst B (· = g) (OneK B nr K1 sh g) := by
  refine ⟨fun c h => by rw [h]; exact h1, fun u h => h.2.2, fun u v h hk hs => ?_⟩
  obtain ⟨a, c, d⟩ := h
  exact ⟨a.sameK (hk g h1) hs, (World.cell?_of_block (a := ⟨sh, 4, none⟩) (hk sh h3)).trans c, Nat.le_trans d hs⟩
theorem oneK_enc {B nr : Nat} {K1 : Nat → Nat} {sh g : Nat} (n1 : sh ≠ g) : DoI (· = g) (OneK B nr K1 sh g) 148 (.pointer (some ⟨sh, 0, none⟩)) (encV nr K1) := fun v u h => by
  obtain ⟨a, c, d⟩ := h
  refine (encrypt_ok sh g nr K1 v u n1 c a).mono fun e w' hh => ?_
  obtain ⟨rfl, h1, h2⟩ := hh.out
  exact ⟨rfl, ⟨h1, (World.cell?_of_block (a := ⟨sh, 4, none⟩) (h2.block sh (World.block_lt_of_cell? u _ c) (fun e => by injection e with e; exact n1 e))).trans c, Nat.le_trans d h2.size⟩, Gk.of_gb h2 rfl⟩
/-- Seal of a cipher of xts. -/
theorem xtsCall (c sh g go fn nr : Nat) (K1 K2 : Nat → Nat) (pv : Value) (fi : BitVec 128) (s b off cp : Nat) (zs : List Int) (w : World) (hc : Bx w c 97 [.pointer (some ⟨sh, 0, none⟩), fV fn, bV 158 [.pointer (some ⟨sh, 0, none⟩), fV fn, .pointer (some ⟨go, 0, none⟩)], pv]) (h1 : w.cell? ⟨sh, 1, none⟩ = some (.int .i64 (1 : Nat))) (h4 : w.cell? ⟨sh, 4, none⟩ = some (.pointer (some ⟨g, 0, none⟩))) (h6 : w.cell? ⟨sh, 6, none⟩ = some (.bool false))
    (k1 : KeyAt w g nr K1) (k2 : KeyAt w go nr K2) (n1 : sh ≠ g) (n2 : sh ≠ go) (n3 : g ≠ go) (hE : ∀ args u, (callFunc fn args).run Tryz.prog u = .ok (.enter fn args) u) (HFN : ∀ u, Calls Tryz.prog fn #[.int .u64 (s : Nat), .int .i64 (zs.length : Nat)] u fun e w' => Hid (e = .returned (Fd.BV fi) ∧ Below u.heap.size u w'))
    (hl0 : 16 ≤ zs.length) (hl3 : zs.length ≤ 4096) (hc1 : zs.length ≤ cp) (hb : AllBytes zs) (hb1 : b ≠ g) (hb2 : b ≠ go) (hz : ∀ i, i < zs.length → w.cell? ⟨b, off + i, none⟩ = some (.int .u8 (zs.getD i 0))) :
    Calls Tryz.prog 29 #[.pointer (some ⟨c, 0, none⟩), .int .u64 (s : Nat), .slice (some ⟨b, off, none⟩) zs.length cp] w fun e w' => Hid (∃ x, e = .returned (.tuple #[.slice (some ⟨x, 0, none⟩) zs.length zs.length, .int .i64 0]) ∧ w.heap.size ≤ x ∧ Bx w' x 5 (xtsL (encV nr K1) (encV nr K2 fi) zs) ∧ TwoK w.heap.size nr K1 K2 sh g go w' ∧ Gk (Two g go) w w') := by
  have hC : Cst w.heap.size (Two g go) (TwoK w.heap.size nr K1 K2 sh g go) := twoK_cst k1.ciph.here k2.ciph.here (World.block_lt_of_cell? w _ h4)
  have q := seal_gen c sh 158 [.pointer (some ⟨sh, 0, none⟩), fV fn, .pointer (some ⟨go, 0, none⟩)] (s : Nat) (some ⟨b, off, none⟩) zs.length cp 1 w (hc.cell 0 _ rfl) (hc.cell 2 _ rfl) h1 h6 hl0 hl3 (by omega) (by decide) (fun args u => enter_ok Tryz.func158 (by rfl) (by rfl) args u)
    (fun v w' => ∃ x, v = .slice (some ⟨x, 0, none⟩) zs.length zs.length ∧ w.heap.size ≤ x ∧ Bx w' x 5 (xtsL (encV nr K1) (encV nr K2 fi) zs) ∧ TwoK w.heap.size nr K1 K2 sh g go w' ∧ Gk (Two g go) w w') ?_
  · refine q.mono fun e w' hh => ?_
    obtain ⟨y, kk, d, rfl, x, hx, hp⟩ := hh.out
    rw [hx]
    exact ⟨x, rfl, hp⟩
  · refine (xseal_ok hC fn sh go #[] hE (encV nr K1) (encV nr K2) fi s b off cp zs w ⟨k1, k2, h4, Nat.le_refl _⟩ (fun u hu => ?_) (twoK_und n2 n3) (twoK_enc n1 n3) hl0 hl3 hc1 hb (fun h => by rcases h with h | h; exact hb1 h; exact hb2 h) hz).mono fun e w' hh => ?_
    · rw [Array.append_empty]
      refine (HFN u).mono fun e w' hh => ?_
      obtain ⟨rfl, hbb⟩ := hh.out
      exact ⟨rfl, hC.below hu hbb, Gk.of_below hbb⟩
    · obtain ⟨x, rfl, p1, p2, p3, p4⟩ := hh.out
      exact ⟨_, _, _, rfl, x, rfl, p1, p2, p3, p4⟩
/-- Seal of a cipher of ecb. -/
theorem ecbCall (c sh g nr : Nat) (K1 : Nat → Nat) (fv pv : Value) (s : Int) (b off cp k : Nat) (zs : List Int) (w : World) (hc : Bx w c 97 [.pointer (some ⟨sh, 0, none⟩), fv, bV 131 [.pointer (some ⟨sh, 0, none⟩)], pv]) (h1 : w.cell? ⟨sh, 1, none⟩ = some (.int .i64 (16 : Nat))) (h4 : w.cell? ⟨sh, 4, none⟩ = some (.pointer (some ⟨g, 0, none⟩))) (h6 : w.cell? ⟨sh, 6, none⟩ = some (.bool false))
    (k1 : KeyAt w g nr K1) (n1 : sh ≠ g) (hl : zs.length = 16 * k) (hk0 : 0 < k) (hl3 : zs.length ≤ 4096) (hc1 : zs.length ≤ cp) (hb : AllBytes zs) (hb1 : b ≠ g) (hz : ∀ i, i < zs.length → w.cell? ⟨b, off + i, none⟩ = some (.int .u8 (zs.getD i 0))) :
    Calls Tryz.prog 29 #[.pointer (some ⟨c, 0, none⟩), .int .u64 s, .slice (some ⟨b, off, none⟩) zs.length cp] w fun e w' => Hid (∃ x, e = .returned (.tuple #[.slice (some ⟨x, 0, none⟩) zs.length zs.length, .int .i64 0]) ∧ w.heap.size ≤ x ∧ Bx w' x 5 (bkL (fun j => encV nr K1 (cutV zs j)) k) ∧ OneK w.heap.size nr K1 sh g w' ∧ Gk (· = g) w w') := by
  have hC : Cst w.heap.size (· = g) (OneK w.heap.size nr K1 sh g) := oneK_cst k1.ciph.here (World.block_lt_of_cell? w _ h4)
  have q := seal_gen c sh 131 [.pointer (some ⟨sh, 0, none⟩)] s (some ⟨b, off, none⟩) zs.length cp 16 w (hc.cell 0 _ rfl) (hc.cell 2 _ rfl) h1 h6 (by omega) hl3 (by omega) (by decide) (fun args u => enter_ok Tryz.func131 (by rfl) (by rfl) args u)
    (fun v w' => ∃ x, v = .slice (some ⟨x, 0, none⟩) zs.length zs.length ∧ w.heap.size ≤ x ∧ Bx w' x 5 (bkL (fun j => encV nr K1 (cutV zs j)) k) ∧ OneK w.heap.size nr K1 sh g w' ∧ Gk (· = g) w w') ?_
  · refine q.mono fun e w' hh => ?_
    obtain ⟨y, kk, d, rfl, x, hx, hp⟩ := hh.out
    rw [hx]
    exact ⟨x, rfl, hp⟩
  · refine (ecbseal_ok hC sh (encV nr K1) s b off cp k zs w ⟨k1, h4, Nat.le_refl _⟩ (oneK_enc n1) hl hk0 hl3 hc1 hb hb1 hz).mono fun e w' hh => ?_
    obtain ⟨x, rfl, p1, p2, p3, p4⟩ := hh.out
    exact ⟨_, _, _, rfl, x, rfl, p1, p2, p3, p4⟩
end Go.Proofs.YtcnikfikpnnblaaGreatDoor
