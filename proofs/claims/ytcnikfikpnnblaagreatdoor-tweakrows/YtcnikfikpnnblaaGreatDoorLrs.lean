import Derived.Test.YtcnikfikpnnblaaGreatDoorMkd
import Derived.Test.YtcnikfikpnnblaaGreatDoorLrm
namespace Go.Proofs.YtcnikfikpnnblaaGreatDoor
open Go.RowKit
set_option linter.unusedVariables false
set_option linter.unusedSimpArgs false
/-- What lrw gives for block j of xs in sector s. -/
def lrB (nr : Nat) (K : Nat → Nat) (a : BitVec 128) (m : Nat) (x : BitVec 128) : BitVec 128 := encV nr K (x ^^^ mskV a m) ^^^ mskV a m
set_option maxHeartbeats 1600000 in
set_option maxRecDepth 100000 in
/-- lrw.seal. -/
theorem lrwseal_ok (g nr : Nat) (K : Nat → Nat) (sh wd : Nat) (zs : List Int) (kv : Value) (s : Nat) (b off cp k : Nat) (xs : List Int) (w : World) (hK : KeyAt w g nr K) (csh : w.cell? ⟨sh, 4, none⟩ = some (.pointer (some ⟨g, 0, none⟩))) (n1 : sh ≠ g)
    (hv : View w kv zs) (c2 : w.cell? ⟨sh, 2, none⟩ = some kv) (c3 : w.cell? ⟨sh, 3, none⟩ = some (.int .i64 (wd : Nat))) (hwd : wd + 16 ≤ zs.length) (hzl : zs.length ≤ 1000) (hs : s < 18446744073709551616) (hzb : AllBytes zs)
    (hl : xs.length = 16 * k) (hk : k ≤ 64) (hc1 : xs.length ≤ cp) (hb : AllBytes xs) (hbg : b ≠ g) (hz : ∀ i, i < xs.length → w.cell? ⟨b, off + i, none⟩ = some (.int .u8 (xs.getD i 0))) :
    Calls Tryz.prog 160 #[.agg #[.pointer (some ⟨sh, 0, none⟩), .func (.func 140) #[] #[]], .int .u64 (s : Nat), .slice (some ⟨b, off, none⟩) xs.length cp] w fun e w' => Hid (∃ x, e = .returned (.slice (some ⟨x, 0, none⟩) xs.length xs.length) ∧ w.heap.size ≤ x ∧ Bx w' x 5 (bkL (fun j => lrB nr K (cutV (zs.drop wd) 0) (s * k + 1 + j) (cutV xs j)) k) ∧ KeyAt w' g nr K ∧ w.grownBy w' (some g)) := by
  obtain ⟨w1, hw1⟩ : ∃ w1, w1 = w.alloc (.cells #[.pointer (some ⟨sh, 0, none⟩), .func (.func 140) #[] #[]] 211) := ⟨_, rfl⟩
  have hgl : g < w.heap.size := hK.ciph.here
  have hb1 : Below w.heap.size w w1 := by rw [hw1]; exact (Below.refl _ _).alloc (Nat.le_refl _) _
  have hB1 : Bx w1 w.heap.size 211 [.pointer (some ⟨sh, 0, none⟩), .func (.func 140) #[] #[]] := by rw [hw1]; exact Bx.new w 211 [.pointer (some ⟨sh, 0, none⟩), .func (.func 140) #[] #[]]
  obtain ⟨f, Hf⟩ : ∃ f : Nat → BitVec 128, Hid (f = fun j => mskV (cutV (zs.drop wd) 0) (s * k + 1 + j)) := ⟨_, rfl⟩
  obtain ⟨Y, HY⟩ : ∃ Y, Hid (Y = bkL (fun j => lrB nr K (cutV (zs.drop wd) 0) (s * k + 1 + j) (cutV xs j)) k) := ⟨_, rfl⟩
  obtain ⟨N, HNL⟩ : ∃ n, Hid (xs.length = n) := ⟨_, rfl⟩
  have HM : Hid (∀ u, Below w.heap.size w u → Calls Tryz.prog 216 #[.agg #[.pointer (some ⟨sh, 0, none⟩), .func (.func 140) #[] #[]], .int .u64 (s : Nat), .int .i64 (N : Nat)] u fun e w' => Hid (∃ x, e = .returned (.slice (some ⟨x, 0, none⟩) k k) ∧ u.heap.size ≤ x ∧ Bx w' x 29 (bkL f k) ∧ Below u.heap.size u w')) := fun u hu => by
    have cc : ∀ o x, w.cell? ⟨sh, o, none⟩ = some x → u.cell? ⟨sh, o, none⟩ = some x := fun o x hx => (hu.cell (World.block_lt_of_cell? w _ hx)).trans hx
    have q := masks_ok sh wd zs kv s N k u (hv.below hu) (cc _ _ c2) (cc _ _ c3) hwd hzl (by rw [← HNL.out]; exact hl) hk hs hzb
    rw [← Hf.out] at q
    exact q
  have HD : Hid (∀ u r, Below w.heap.size w u → w.heap.size ≤ r → Bx u r 29 (bkL f k) → Calls Tryz.prog 214 #[.slice (some ⟨b, off, none⟩) N cp, .slice (some ⟨r, 0, none⟩) k k, .func (.func 148) #[.pointer (some ⟨sh, 0, none⟩)] #[]] u fun e w' => Hid (∃ x, e = .returned (.slice (some ⟨x, 0, none⟩) N N) ∧ u.heap.size ≤ x ∧ Bx w' x 5 Y ∧ KeyAt w' g nr K ∧ u.grownBy w' (some g))) := fun u r hu hr hx => by
    have cc : ∀ b o x, w.cell? ⟨b, o, none⟩ = some x → u.cell? ⟨b, o, none⟩ = some x := fun b o x hx => (hu.cell (World.block_lt_of_cell? w _ hx)).trans hx
    have q := masked_ok g nr K sh r k k f b off cp k xs u (hK.below hu hgl) (cc _ _ _ csh) (fun j hj i x hx' => ?_) n1 (by omega) (Nat.le_refl _) hl (Nat.le_refl _) hk hc1 hb hbg (fun i hi => cc _ _ _ (hz i hi))
    · rw [HNL.out] at q
      rw [HY.out]
      rw [Hf.out] at q
      exact q
    · have hi : i < 16 := by have := (List.getElem?_eq_some_iff.1 hx').1; rw [Fd.BL_length] at this; exact this
      rw [Fd.BL_at _ i hi] at hx'
      have e := bkL_at f k j i hj hi
      rw [hx'] at e
      rw [show 0 + j * 16 + i = 16 * j + i by omega]
      exact hx.cell _ _ e
  rw [HNL.out, ← HY.out]
  have HW1 : Hid (Below w.heap.size w w1 ∧ Bx w1 w.heap.size 211 [.pointer (some ⟨sh, 0, none⟩), .func (.func 140) #[] #[]] ∧ g < w.heap.size) := ⟨hb1, hB1, hgl⟩
  clear hK csh n1 hv c2 c3 hwd hzl hs hzb hl hk hc1 hb hbg hz hgl hb1 hB1
  go_enter Tryz.func160, Tryz.ntmps160
  go_upto_region 1 with fail
  rw [← hw1]
  clear hw1
  obtain ⟨M, HMM⟩ : ∃ M, Hid (w.heap.size = M) := ⟨_, rfl⟩
  rw [HMM.out] at HW1 HM HD ⊢
  have c0 : w1.cell? ⟨M, 0, none⟩ = some (.pointer (some ⟨sh, 0, none⟩)) := HW1.out.2.1.cell 0 _ rfl
  have c1 : w1.cell? ⟨M, 1, none⟩ = some (.func (.func 140) #[] #[]) := HW1.out.2.1.cell 1 _ rfl
  have HS1 : Hid (M + 1 ≤ w1.heap.size) := HW1.out.2.1.lt
  have HWD : Hid (Below M w w1.drew) := HW1.out.1.trans (((Below.refl w1.heap.size w1).drew).mono (Nat.le_of_succ_le HS1.out))
  have HDL : Hid (∀ r, w1.drew.heap.size ≤ r → M ≤ r) := fun r hr => by have := HS1.out; simp at hr; omega
  go_region_held3 (fun u => u.cell? ⟨M, 0, none⟩ = some (.pointer (some ⟨sh, 0, none⟩)) ∧ u.cell? ⟨M, 1, none⟩ = some (.func (.func 140) #[] #[])) (first | exact ⟨c0, c1⟩ | exact hS2 | exact hS3 | go_keep) (first
    | (go_at_call 216; refine (HM.out _ HWD.out).mono ?_; intro e2 w2 hh; obtain ⟨r, rfl, hr, hx, hb2⟩ := hh.out; have hbw : Below w1.heap.size w1 w2 := (Below.refl w1.heap.size w1).drew.trans hb2; have hS2 : w2.cell? ⟨M, 0, none⟩ = some (.pointer (some ⟨sh, 0, none⟩)) ∧ w2.cell? ⟨M, 1, none⟩ = some (.func (.func 140) #[] #[]) := ⟨(hbw.cell (World.block_lt_of_cell? w1 _ c0)).trans c0, (hbw.cell (World.block_lt_of_cell? w1 _ c1)).trans c1⟩; clear hbw; have HB2 : Hid (M ≤ r ∧ Bx w2 r 29 (bkL f k) ∧ Below M w w2) := ⟨HDL.out _ hr, hx, HW1.out.1.trans (((Below.refl w1.heap.size w1).drew.trans hb2).mono (Nat.le_of_succ_le HS1.out))⟩; clear hh hr hx hb2)
    | (go_at_call 214; refine (HD.out _ r HB2.out.2.2 HB2.out.1 HB2.out.2.1).mono ?_; intro e3 w3 hh; obtain ⟨z, rfl, h1, h2, h3, h4⟩ := hh.out; have HX : Hid (w2.heap.size ≤ z ∧ Bx w3 z 5 Y ∧ KeyAt w3 g nr K ∧ w2.grownBy w3 (some g)) := ⟨h1, h2, h3, h4⟩; have hS3 : w3.cell? ⟨M, 0, none⟩ = some (.pointer (some ⟨sh, 0, none⟩)) ∧ w3.cell? ⟨M, 1, none⟩ = some (.func (.func 140) #[] #[]) := ⟨(World.cell?_of_block (a := ⟨M, 0, none⟩) (h4.block M (World.block_lt_of_cell? w2 _ hS2.1) (fun e => by injection e with e; have := HW1.out.2.2; omega))).trans hS2.1, (World.cell?_of_block (a := ⟨M, 1, none⟩) (h4.block M (World.block_lt_of_cell? w2 _ hS2.2) (fun e => by injection e with e; have := HW1.out.2.2; omega))).trans hS2.2⟩; clear hh h1 h2 h3 h4))
  all_goals (
    (try go_wp2)
    go_ret
    obtain ⟨y1, y2, y3, y4⟩ := HX.out
    obtain ⟨z1, z2, z3⟩ := HB2.out
    exact ⟨z, rfl, by have := z3.size; have := HMM.out; omega, y2, y3, ⟨y4.os.trans z3.os, y4.tape.trans z3.tape, y4.output.trans z3.output, Nat.le_trans z3.size y4.size, fun i hi hn => (y4.block i (Nat.lt_of_lt_of_le hi z3.size) hn).trans (z3.block i (by rw [← HMM.out]; exact hi))⟩⟩)
end Go.Proofs.YtcnikfikpnnblaaGreatDoor
