import Derived.Test.YtcnikfikpnnblaaGreatDoorBkw
namespace Go.Proofs.YtcnikfikpnnblaaGreatDoor
open Go.RowKit
set_option linter.unusedVariables false
set_option linter.unusedSimpArgs false
set_option maxHeartbeats 1600000 in
set_option maxRecDepth 100000 in
/-- masked of whole blocks. -/
theorem masked_ok (g nr : Nat) (K : Nat → Nat) (sh r n c : Nat) (f : Nat → BitVec 128) (b off cp k : Nat) (zs : List Int) (w : World) (hK : KeyAt w g nr K) (csh : w.cell? ⟨sh, 4, none⟩ = some (.pointer (some ⟨g, 0, none⟩))) (rg : ∀ j, j < n → w.rangeAt r (0 + j * 16) (Fd.BL (f j))) (n1 : sh ≠ g) (n4 : r ≠ g) (hnc : n ≤ c)
    (hl : zs.length = 16 * k) (hkn : k ≤ n) (hk : k ≤ 64) (hc1 : zs.length ≤ cp) (hb : AllBytes zs) (hbg : b ≠ g) (hz : ∀ i, i < zs.length → w.cell? ⟨b, off + i, none⟩ = some (.int .u8 (zs.getD i 0))) :
    Calls Tryz.prog 214 #[.slice (some ⟨b, off, none⟩) zs.length cp, .slice (some ⟨r, 0, none⟩) n c, .func (.func 148) #[.pointer (some ⟨sh, 0, none⟩)] #[]] w fun e w' => Hid (∃ x, e = .returned (.slice (some ⟨x, 0, none⟩) zs.length zs.length) ∧ w.heap.size ≤ x ∧ Bx w' x 5 (bkL (fun j => encV nr K (cutV zs j ^^^ f j) ^^^ f j) k) ∧ KeyAt w' g nr K ∧ w.grownBy w' (some g)) := by
  obtain ⟨w1, hw1⟩ : ∃ w1, w1 = (w.alloc (.cells #[.slice (some ⟨r, 0, none⟩) n c] 77)).alloc (.cells #[.func (.func 148) #[.pointer (some ⟨sh, 0, none⟩)] #[]] 161) := ⟨_, rfl⟩
  have hgl : g < w.heap.size := hK.ciph.here
  have hb1 : Below w.heap.size w w1 := by rw [hw1]; exact ((Below.refl _ _).alloc (Nat.le_refl _) _).alloc (by simp) _
  have hs1 : w1.heap.size = w.heap.size + 2 := by rw [hw1]; simp
  have HM : Hid (MkW g nr K sh (w.heap.size + 1) w.heap.size r 0 n c f w1) := by
    have c2 : Bx w1 w.heap.size 77 [.slice (some ⟨r, 0, none⟩) n c] := by rw [hw1]; exact (Bx.new w 77 [.slice (some ⟨r, 0, none⟩) n c]).below ((Below.refl _ _).alloc (Nat.le_refl _) _)
    have c3 : Bx w1 (w.heap.size + 1) 161 [.func (.func 148) #[.pointer (some ⟨sh, 0, none⟩)] #[]] := by rw [hw1]; have q := Bx.new (w.alloc (.cells #[.slice (some ⟨r, 0, none⟩) n c] 77)) 161 [.func (.func 148) #[.pointer (some ⟨sh, 0, none⟩)] #[]]; simpa using q
    refine ⟨hK.below hb1 hgl, (hb1.cell (World.block_lt_of_cell? w _ csh)).trans csh, c3.cell 0 _ rfl, c2.cell 0 _ rfl, fun j hj i x hx => ?_, n1, by omega, by omega, n4⟩
    have q := rg j hj i x hx
    exact (hb1.cell (World.block_lt_of_cell? w _ q)).trans q
  have HB : Hid (Calls Tryz.prog 193 #[.slice (some ⟨b, off, none⟩) zs.length cp, .func (.func 244) #[] #[.pointer (some ⟨w.heap.size + 1, 0, none⟩), .pointer (some ⟨w.heap.size, 0, none⟩)]] w1 fun e w' => Hid (e = .returned (.slice (some ⟨w1.heap.size, 0, none⟩) zs.length zs.length) ∧ Bx w' w1.heap.size 5 (bkL (fun j => encV nr K (cutV zs j ^^^ f j) ^^^ f j) k) ∧ MkW g nr K sh (w.heap.size + 1) w.heap.size r 0 n c f w' ∧ w1.grownBy w' (some g))) :=
    blockwise_ok g nr K sh (w.heap.size + 1) w.heap.size r 0 n c f b off cp k zs w1 HM.out hnc hl hkn hk hc1 hb hbg (fun i hi => (hb1.cell (World.block_lt_of_cell? w _ (hz i hi))).trans (hz i hi))
  obtain ⟨N, HNL⟩ : ∃ n, Hid (zs.length = n) := ⟨_, rfl⟩
  have HN : Hid (N = 16 * k ∧ k ≤ 64 ∧ N ≤ cp) := ⟨by rw [← HNL.out]; exact hl, hk, by rw [← HNL.out]; exact hc1⟩
  rw [HNL.out] at HB ⊢
  obtain ⟨Y, HY⟩ : ∃ Y, Hid (Y = bkL (fun j => encV nr K (cutV zs j ^^^ f j) ^^^ f j) k) := ⟨_, rfl⟩
  rw [← HY.out] at HB ⊢
  have q1 : (N : Int).tdiv 16 = (k : Int) := by rw [HN.out.1, Int.tdiv_eq_ediv_of_nonneg (by omega)]; omega
  have q3 : IntKind.i64.wrap (k : Int) = (k : Int) := by rw [IntKind.wrap_i64]; omega
  have q4 : (N : Int) / 16 = (k : Int) := by rw [HN.out.1]; omega
  have q5 : IntKind.i64.wrap ((k : Int) * 16) = (N : Int) := by rw [IntKind.wrap_i64]; rw [HN.out.1]; omega
  obtain ⟨y, d, hsl⟩ : ∃ y d, sliced (some ⟨b, off, none⟩) N N cp 1 = .slice y 0 d := ⟨_, _, by unfold sliced; rw [Nat.sub_self]⟩
  have hS : ∀ u : World, (Instr.slice 24 (.slice (some ⟨b, off, none⟩) N cp) (some (.int .i64 (N : Nat))) none none).run Tryz.prog u = .ok (.slice y 0 d) u := fun u => by
    rw [slice_l u (some ⟨b, off, none⟩) N cp N (Nat.le_refl _) HN.out.2.2, hsl]
  clear hsl
  have HW : Hid (Below w.heap.size w w1 ∧ g < w.heap.size) := ⟨hb1, hgl⟩
  clear hK csh rg n1 n4 hnc hl hkn hk hc1 hb hbg hz hgl hb1 HM
  go_enter Tryz.func214, Tryz.ntmps214
  go_upto_region 2 with fail
  rw [← hw1]
  clear hw1
  go_wp2_with (first
    | (go_at_call 193; refine HB.out.mono ?_; intro e2 w2 hh; obtain ⟨rfl, h2, h3, h4⟩ := hh.out; have HX : Hid (Bx w2 w1.heap.size 5 Y ∧ KeyAt w2 g nr K ∧ w1.grownBy w2 (some g)) := ⟨h2, h3.key, h4⟩; clear hh h2 h3 h4 HB))
  go_ret
  obtain ⟨z1, z2⟩ := HW.out
  obtain ⟨y1, y2, y3⟩ := HX.out
  rw [hs1] at y1
  exact ⟨_, rfl, by omega, y1, y2, ⟨y3.os.trans z1.os, y3.tape.trans z1.tape, y3.output.trans z1.output, Nat.le_trans z1.size y3.size, fun i hi hn => (y3.block i (Nat.lt_of_lt_of_le hi z1.size) hn).trans (z1.block i hi)⟩⟩
end Go.Proofs.YtcnikfikpnnblaaGreatDoor
