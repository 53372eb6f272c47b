import Derived.Test.YtgmfiljjogdccabGreatDoorPart00
import Derived.Test.YtgmfiljjogdccabGreatDoorPart17
import Derived.Deep.RegionHeld3
import Derived.Deep.AppendLies
import Derived.Deep.DrawnRows
import Derived.Deep.CutRange
namespace Go.Proofs.YtgmfiljjogdccabGreatDoor
open Go.RowKit Go.RwLone
set_option linter.unusedVariables false
set_option linter.unusedSimpArgs false
attribute [local go_sem ↓] Go.wp_at_zero Go.wp_at_succ
/-- Byte j of a block. -/
def W4.by (s : W4) (j : Nat) : Nat := ([bt0 s.a, bt1 s.a, bt2 s.a, bt3 s.a, bt0 s.b, bt1 s.b, bt2 s.b, bt3 s.b, bt0 s.c, bt1 s.c, bt2 s.c, bt3 s.c, bt0 s.d, bt1 s.d, bt2 s.d, bt3 s.d] : List Nat).getD j 0
theorem W4.by_lt (s : W4) (j : Nat) : s.by j < 256 := by
 unfold W4.by
 by_cases hj : j < 16
 ·have h16 : j = 0 ∨ j = 1 ∨ j = 2 ∨ j = 3 ∨ j = 4 ∨ j = 5 ∨ j = 6 ∨ j = 7 ∨ j = 8 ∨ j = 9 ∨ j = 10 ∨ j = 11 ∨ j = 12 ∨ j = 13 ∨ j = 14 ∨ j = 15 := by omega
  rcases h16 with rfl | rfl | rfl | rfl | rfl | rfl | rfl | rfl | rfl | rfl | rfl | rfl | rfl | rfl | rfl | rfl <;> first | exact bt0_lt _ | exact bt1_lt _ | exact bt2_lt _ | exact bt3_lt _
 ·rw [List.getD_eq_getElem?_getD, List.getElem?_eq_none (by simp; omega)]; decide
theorem W4.bytes_at (s : W4) (j : Nat) (hj : j < 16) : s.bytes[j]? = some (.int .u8 (s.by j : Nat)) := by
 have h16 : j = 0 ∨ j = 1 ∨ j = 2 ∨ j = 3 ∨ j = 4 ∨ j = 5 ∨ j = 6 ∨ j = 7 ∨ j = 8 ∨ j = 9 ∨ j = 10 ∨ j = 11 ∨ j = 12 ∨ j = 13 ∨ j = 14 ∨ j = 15 := by omega
 rcases h16 with rfl | rfl | rfl | rfl | rfl | rfl | rfl | rfl | rfl | rfl | rfl | rfl | rfl | rfl | rfl | rfl <;> rfl
/-- Byte q of a stream that began at s0. -/
def ksb (nr : Nat) (K : Nat → Nat) (s0 : W4) (q : Nat) : Nat := (encW nr K (ctrW s0 (q / 16))).by (q % 16)
/-- What XOR answers of bytes f from place n on. -/
def xorL (nr : Nat) (K : Nat → Nat) (s0 : W4) (n : Nat) (f : Nat → Nat) (k : Nat) : List Int := (List.range k).map fun i => ((Nat.xor (f i) (ksb nr K s0 (n + i)) : Nat) : Int)
theorem xorL_succ (nr : Nat) (K : Nat → Nat) (s0 : W4) (n : Nat) (f : Nat → Nat) (k : Nat) : xorL nr K s0 n f (k + 1) = xorL nr K s0 n f k ++ [((Nat.xor (f k) (ksb nr K s0 (n + k)) : Nat) : Int)] := by simp [xorL, List.range_succ]
theorem xorL_length (nr : Nat) (K : Nat → Nat) (s0 : W4) (n : Nat) (f : Nat → Nat) (k : Nat) : (xorL nr K s0 n f k).length = k := by simp [xorL]
/-- What XOR keeps while it runs: p: how far the stream is. -/
structure XAt (w u : World) (t g nr : Nat) (K : Nat → Nat) (s0 : W4) (p : Nat) : Prop where
 ciph : Ciph u g 6 nr K
 cnt : u.cell? ⟨g, 4, none⟩ = some (.int .i32 1)
 room : u.there g 0 1091
 str : StreamAt u t g s0 p
 two : Touch2 w u g t
theorem Touch2.below {w u u' : World} {g t : Nat} (h : Touch2 w u g t) (hb : Below w.heap.size u u') (hg : g < w.heap.size) : Touch2 w u' g t :=
 ⟨hb.os.trans h.os, hb.tape.trans h.tape, hb.output.trans h.output, Nat.le_trans h.size hb.size, fun k hk hg ht => (hb.block k hk).trans (h.block k hk hg ht), (hb.cell (p := ⟨g, 0, none⟩) hg).trans h.lock⟩
theorem XAt.below {w u u' : World} {t g nr p : Nat} {K : Nat → Nat} {s0 : W4} (h : XAt w u t g nr K s0 p) (hb : Below w.heap.size u u') (hg : g < w.heap.size) (ht : t < w.heap.size) : XAt w u' t g nr K s0 p :=
 ⟨h.ciph.below hb hg, (hb.cell hg).trans h.cnt, there_below h.room hb hg, h.str.below hb ht, h.two.below hb hg⟩
theorem XAt.move {w u : World} {t g nr p : Nat} {K : Nat → Nat} {s0 : W4} (h : XAt w u t g nr K s0 p) (hne : t ≠ g) (hg : g < w.heap.size) (p' : Nat) (hp : p' ≤ 1099511627776) : XAt w (u.setCell ⟨t, 17, none⟩ (.int .u64 (p' : Nat))) t g nr K s0 p' := by
 have ht : Touch u (u.setCell ⟨t, 17, none⟩ (.int .u64 (p' : Nat))) t 17 1 := (Touch.refl u t 17 1).setCell 17 _ (by omega) (by omega)
 have hgt : g ≠ t := fun e => hne e.symm
 have hgu : g < u.heap.size := h.ciph.here
 exact ⟨h.ciph.far ht hgt, (ht.far (p := ⟨g, 4, none⟩) hgu hgt).trans h.cnt, there_far h.room hgu ht hgt, h.str.move p' hp, h.two.trans (ht.right g hgu hgt)⟩
theorem Touch2.cell {w u : World} {g t : Nat} (h : Touch2 w u g t) {p : Addr} (hp : p.block < w.heap.size) (hg : p.block ≠ g) (ht : p.block ≠ t) : u.cell? p = w.cell? p := World.cell?_of_block (h.block p.block hp hg ht)
theorem ownsRow_same {w w' : World} {base e size n : Nat} {v : Value} {xs : List Value} (h : w.ownsRow base e size v n xs) (hb : ∀ k, v.ownBlock = some k → w'.heap[k]? = w.heap[k]?) : w'.ownsRow base e size v n xs := by
 obtain ⟨h1, ⟨h2, h3⟩ | ⟨g', c', cur, rfl, h3, h4, h5⟩⟩ := h
 ·exact ⟨h1, Or.inl ⟨h2, h3⟩⟩
 ·exact ⟨h1, Or.inr ⟨g', c', cur, rfl, h3, (hb g' rfl).trans h4, h5⟩⟩
/-- A block that holds sixteen bytes, new behind wr. -/
structure BlkAt (wr : World) (L : List Value) (A : Nat) (u : World) : Prop where
 old : Below wr.heap.size wr u
 far : wr.heap.size ≤ A
 here : A < u.heap.size
 cells : u.rangeAt A 0 L
theorem BlkAt.mk' {wr u : World} {L : List Value} {A : Nat} (hb : Below wr.heap.size wr u) (hA : wr.heap.size ≤ A) (hAu : A < u.heap.size) (ht : u.there A 0 L.length) : BlkAt wr L A (u.setCells A 0 L) :=
 ⟨below_setCells A hA _ _ _ hb, hA, by rw [size_setCells]; exact hAu, World.rangeAt_setCells_same _ _ _ _ ht⟩
theorem there_own16 (w : World) (C : Array Value) (t : TypeId) {n : Nat} (hn : C.size = n) : (w.alloc (.cells C t)).there w.heap.size 0 n := fun j hj => by
 subst hn
 refine ⟨?_, World.frozen?_alloc_at C t _ _ rfl⟩
 rw [World.cell?_alloc_at C t _ _ rfl]
 simp
 exact hj
theorem sl_r (b r z : Nat) (hr : r < 16) (hz : z = 16 - r) (w' : World) : Sem.run Tryz.prog (Instr.sliceAt 38 (.pointer (some ⟨b, 0, none⟩)) (some (.int .u64 (r : Nat))) none none) w' = .ok (.slice (some ⟨b, r, none⟩) z z) w' := by
 have h := run_sliceAt_array_l (P := Tryz.prog) w' 38 ⟨b, 0, none⟩ (by kernel_rfl) .u64 (r : Nat) (by omega) (by rw [show Tryz.prog.arrayLen 38 = 16 by kernel_rfl]; omega)
 rw [h, show Tryz.prog.arrayLen 38 = 16 by kernel_rfl, show Tryz.prog.elem 38 = 5 by kernel_rfl]
 have e3 : (sizeOf 5).run Tryz.prog w' = .ok 1 w' := by kernel_rfl
 rw [e3]
 simp only [Result.andThen_ok, slicedAt, Int.toNat_natCast]
 rw [if_neg (by omega), Nat.mul_one, Addr.add_mid, Nat.zero_add, hz]
theorem grown_cell {w w2 : World} {o : Obj} {row : Option Nat} (h : (w.alloc o).drew.grownBy w2 row) {bl off : Nat} {v : Value} (hc : w.cell? ⟨bl, off, none⟩ = some v) (hne : ∀ q, row = some q → q ≠ bl) : w2.cell? ⟨bl, off, none⟩ = some v := by
 have hlt : bl < w.heap.size := World.block_lt_of_cell? w _ hc
 rw [h.cell_far ⟨bl, off, none⟩ (show bl < _ by simp; omega) (fun e => hne bl e.symm rfl)]
 show ((w.alloc o).drew).cell? _ = _
 rw [World.cell?_drew, World.cell?_alloc_past _ _ _ hlt]
 exact hc
def lenOf : Value → Nat | .slice _ n _ => n | _ => 0
theorem ownsRow_len {w : World} {base e size n : Nat} {v : Value} {xs : List Value} (h : w.ownsRow base e size v n xs) : lenOf v = n := by
 rcases h.2 with ⟨rfl, h0⟩ | ⟨g', c', cur, rfl, _⟩
 ·exact h0.symm
 ·rfl
set_option maxHeartbeats 6400000 in
set_option maxRecDepth 100000 in
theorem xor_ok (t g n nr m b off cap : Nat) (K : Nat → Nat) (s0 : W4) (f : Nat → Nat) (w : World) (hk : KeyAt w g nr K) (hs : StreamAt w t g s0 n) (hne : t ≠ g) (hm : m ≤ 1048576) (hroom : n + m ≤ 1099511627776) (hb : b < w.heap.size) (hbg : b ≠ g) (hbt : b ≠ t) (hcap : m ≤ cap) (hc62 : cap ≤ 9223372036854775807) (hp : ∀ i, i < m → w.cell? ⟨b, off + i, none⟩ = some (.int .u8 (f i : Nat))) (hf : ∀ i, f i < 256) :
  Calls Tryz.prog 13 #[.pointer (some ⟨t, 0, none⟩), .slice (some ⟨b, off, none⟩) m cap] w fun e w' => ∃ v, e = .returned (.tuple #[v, .int .i64 0]) ∧ w'.ownsRow w.heap.size 5 1 v m (cellsU8 (xorL nr K s0 n f m)) ∧ KeyAt w' g nr K ∧ StreamAt w' t g s0 (n + m) ∧ Touch2 w w' g t := by
 obtain ⟨i0, hi, hz0, hz1, hz2⟩ := info_parts Tryz.info5
 have HK : Hid (KeyAt w g nr K) := hk
 have HS : Hid (StreamAt w t g s0 n) := hs
 have HNE : Hid (t ≠ g) := hne
 have HG : Hid (g < w.heap.size) := hk.ciph.here
 have HT : Hid (t < w.heap.size) := hs.here
 have HP : Hid (b < w.heap.size ∧ b ≠ g ∧ b ≠ t ∧ (∀ i, i < m → w.cell? ⟨b, off + i, none⟩ = some (.int .u8 (f i : Nat))) ∧ (∀ i, f i < 256)) := ⟨hb, hbg, hbt, hp, hf⟩
 have HH : Hid (Calls Tryz.prog 41 #[.pointer (some ⟨g, 0, none⟩)] w fun e w' => e = .returned (.int .i64 0) ∧ w' = w.setCell ⟨g, 4, none⟩ (.int .i32 1)) := hold_ok g nr K w hk
 have ck := hs.key
 have h8 : decide ((1048576 : Int) < (m : Int)) = false := by simp; omega
 clear hk hs hne hb hbg hbt hp hf
 go_enter_defers Tryz.func13, Tryz.ntmps13
 go_wp2_with (first | (go_at_call 41; refine HH.out.mono ?_))
 rintro e1 w1 ⟨rfl, hw1⟩
 have H1 : Hid (Ciph w1 g 6 nr K ∧ Touch w w1 g 4 1 ∧ w1.cell? ⟨g, 4, none⟩ = some (.int .i32 1)) := held HK.out hw1
 have HS1 : Hid (StreamAt w1 t g s0 n) := HS.out.touch H1.out.2.1 HNE.out
 have HX1 : Hid (XAt w w1 t g nr K s0 n) := ⟨H1.out.1, H1.out.2.2, H1.out.2.1.there _ _ HK.out.room, HS1.out, H1.out.2.1.left t⟩
 clear hw1 HH ck
 have ck : w1.cell? ⟨t, 0, none⟩ = some (.pointer (some ⟨g, 0, none⟩)) := HS1.out.key
 have KL : Hid (Calls Tryz.prog 43 #[.pointer (some ⟨t, 0, none⟩)] w1 fun e w' => e = .returned (.int .u64 (1099511627776 - n : Nat)) ∧ w' = w1) := left_ok t g n s0 w1 HS1.out
 obtain ⟨lf, HLF⟩ : ∃ x, Hid (x = 1099511627776 - n) := ⟨_, rfl⟩
 rw [← HLF.out] at KL
 have hle : ((m : Nat) : Int) ≤ (lf : Nat) := by have := HLF.out; omega
 go_wp2_with (first
  | (go_at_call 43; refine KL.out.mono ?_; rintro e2 w2 ⟨rfl, hw2⟩; obtain rfl := hw2.symm)
  | (at_make; go_must (refine wpList_make_own _ rfl _ _ 22 rfl w.heap.size 5 i0 (.int .u8 0) 1 Tryz.underlying22 hi hz0 hz1 .i64 .i64 (m : Int) m rfl rfl ?_ ?_ ?_ ?_ ?_)))
 ·rfl
 ·rw [hz2]; omega
 ·unfold maxLen; omega
 ·exact HX1.out.two.size
 intro w3 hown hgrow
 have HX3 : Hid (XAt w w3 t g nr K s0 n) := HX1.out.below ((Below.refl _ _).grown hgrow HX1.out.two.size (by intro k hk; cases hk)) HG.out HT.out
 clear hgrow ck KL HX1 HS1 H1 hle
 go_wp2
 go_loopw [7] (fun v wr => ∃ k : Nat, k ≤ m ∧ wr.ownsRow w.heap.size 5 1 v k (cellsU8 (xorL nr K s0 n f k)) ∧ Hid (XAt w wr t g nr K s0 (n + k))) (fun v _ => m - lenOf v)
 case atStart => exact ⟨0, by omega, by simpa [xorL, cellsU8] using hown, HX3⟩
 case round =>
  obtain ⟨k, hk, hown2, HX⟩ := hrel
  clear hown HX3
  have hlen : ∃ a c, u7 = .slice a k c := by
   rcases hown2.2 with ⟨rfl, h0⟩ | ⟨g', c', cur, rfl, _⟩
   ·exact ⟨none, 0, by rw [h0]⟩
   ·exact ⟨_, _, rfl⟩
  obtain ⟨va, vc, rfl⟩ := hlen
  by_cases hlt : k < m
  ·obtain ⟨p, HPP⟩ : ∃ p, Hid (p = n + k) := ⟨_, rfl⟩
   rw [← HPP.out] at HX
   obtain ⟨cb, HCB⟩ : ∃ cb, Hid (cb = (ctrW s0 (p / 16)).blk) := ⟨_, rfl⟩
   obtain ⟨L, HL⟩ : ∃ L, Hid (L = (encW nr K (ctrW s0 (p / 16))).bytes) := ⟨_, rfl⟩
   have HLl : Hid (L.length = 16) := by show _ = _; rw [HL.out]; rfl
   have HLo : Hid (L.toArray.all (·.oneCell') = true) := by show _ = _; rw [HL.out]; kernel_rfl
   have HC48 : Hid (∀ u, Below wr.heap.size wr u → Calls Tryz.prog 45 #[.pointer (some ⟨t, 0, none⟩)] u fun e u' => e = .returned cb ∧ Below u.heap.size u u') := fun u hu => by
    rw [HCB.out]
    exact counter_ok t g p s0 u (HX.out.str.below hu HX.out.str.here)
   have HC43 : Hid (∀ u, Below wr.heap.size wr u → Calls Tryz.prog 44 #[.pointer (some ⟨g, 6, none⟩), cb] u fun e u' => e = .returned (.agg L.toArray) ∧ Below u.heap.size u u') := fun u hu => by
    rw [HCB.out, HL.out]
    exact enc_ok g 6 nr K _ u (HX.out.ciph.below hu HX.out.ciph.here) (ctrW_ok _ _)
   have gk : Hid (∀ u, Below wr.heap.size wr u → u.cell? ⟨t, 0, none⟩ = some (.pointer (some ⟨g, 0, none⟩))) := fun u hu => (hu.cell HX.out.str.here).trans HX.out.str.key
   have hki : ((k : Nat) : Int) < (m : Nat) := by omega
   go_upto_region 11 with fail
   go_cut [8] from 43 to 97 (fun pt wx => ∃ A, pt = .pointer (some ⟨A, 0, none⟩) ∧ Hid (BlkAt wr L A wx))
   case first =>
    have hS0 : Below wr.heap.size wr wr.drew := (Below.refl _ _).drew
    refine wp_region_noPanic ?_
    refine wp_region_held_drew (S := fun u => Below wr.heap.size wr u) (by kernel_rfl) (hS0) (fun _ => ?_)
    refine tG 0 48 (.pointer (some ⟨t, 0, none⟩)) rfl rfl hS0 ?_
    simp only [pU]
    refine tG 1 49 (.pointer (some ⟨t, 0, none⟩)) rfl rfl hS0 ?_
    simp only [pU]
    refine tG 2 50 (.pointer (some ⟨t, 0, none⟩)) rfl rfl hS0 ?_
    simp only [pU]
    refine tQ 3 51 (.pointer (some ⟨g, 0, none⟩)) rfl rfl hS0 gk.out ?_
    simp only [pU]
    refine tG 4 52 (.pointer (some ⟨g, 0, none⟩)) rfl rfl hS0 ?_
    simp only [pU]
    refine tG 5 53 (.pointer (some ⟨g, 6, none⟩)) rfl rfl hS0 ?_
    simp only [pU]
    refine tG 6 54 (.pointer (some ⟨t, 0, none⟩)) rfl rfl hS0 ?_
    simp only [pU]
    refine wpAnyH_ready (rs := [7, 9]) (by kernel_rfl) (by simp) ?_
    refine AllReadyH.cons rfl (fun K hK => ?_) (AllReadyH.cons rfl (fun K hK => ?_) AllReadyH.nil)
    ·skip
     go_simp
     refine (HC48.out _ hS0).mono ?_
     rintro e1 u1 ⟨rfl, hbu1⟩
     have hSu1 : Below wr.heap.size wr u1 := (hS0).trans (hbu1.mono (hS0).size)
     go_wp2_with fail
     refine hK.out _ _ hSu1 (fun _ => ?_)
     clear hK K
     try simp only [pU]
     refine wpAnyH_ready (rs := [8, 9]) (by kernel_rfl) (by simp) ?_
     refine AllReadyH.cons rfl (fun K hK => ?_) (AllReadyH.cons rfl (fun K hK => ?_) AllReadyH.nil)
     ·skip
      go_simp
      refine (HC43.out _ hSu1).mono ?_
      rintro e1 u2 ⟨rfl, hbu2⟩
      have hSu2 : Below wr.heap.size wr u2 := (hSu1).trans (hbu2.mono (hSu1).size)
      go_wp2_with fail
      refine hK.out _ _ hSu2 (fun _ => ?_)
      clear hK K
      try simp only [pU]
      refine wpAnyH_ready (rs := [9]) (by kernel_rfl) (by simp) ?_
      refine AllReadyH.cons rfl (fun K hK => ?_) AllReadyH.nil
      go_simp
      have hSa : Below wr.heap.size wr (World.alloc u2 (.cells #[.int .u8 0, .int .u8 0, .int .u8 0, .int .u8 0, .int .u8 0, .int .u8 0, .int .u8 0, .int .u8 0, .int .u8 0, .int .u8 0, .int .u8 0, .int .u8 0, .int .u8 0, .int .u8 0, .int .u8 0, .int .u8 0] 38)) := (hSu2).alloc (hSu2).size _
      refine hK.out _ _ hSa (fun _ => ?_)
      clear hK K
      try simp only [pU]
      refine wpAnyH_ready (rs := [10]) (by kernel_rfl) (by simp) ?_
      refine AllReadyH.cons rfl (fun K hK => ?_) AllReadyH.nil
      rw [if_pos (by rfl)]
      have htA := there_own16 u2 #[.int .u8 0, .int .u8 0, .int .u8 0, .int .u8 0, .int .u8 0, .int .u8 0, .int .u8 0, .int .u8 0, .int .u8 0, .int .u8 0, .int .u8 0, .int .u8 0, .int .u8 0, .int .u8 0, .int .u8 0, .int .u8 0] 38 (n := 16) rfl
      refine wp_store_mid 38 (.tmp 8) (.tmp 56) rfl _ 0 L.toArray rfl rfl (by simpa [HLl.out] using htA) (by rw [List.size_toArray, HLl.out]; exact size42) HLo.out ?_
      refine hK.out _ _ (below_setCells _ (hSu2.size) _ _ _ (hSa)) (fun _ => ?_)
      clear hK K
      refine wpAnyH_done (by kernel_rfl) ?_ _
      refine NoPanic.normal ?_
      go_wp2_with fail
      go_meet
      exact ⟨_, rfl, BlkAt.mk' (hSa) (hSu2.size) (by simp) (by simpa [HLl.out] using htA)⟩
     ·skip
      go_simp
      have hSa : Below wr.heap.size wr (World.alloc u1 (.cells #[.int .u8 0, .int .u8 0, .int .u8 0, .int .u8 0, .int .u8 0, .int .u8 0, .int .u8 0, .int .u8 0, .int .u8 0, .int .u8 0, .int .u8 0, .int .u8 0, .int .u8 0, .int .u8 0, .int .u8 0, .int .u8 0] 38)) := (hSu1).alloc (hSu1).size _
      refine hK.out _ _ hSa (fun _ => ?_)
      clear hK K
      try simp only [pU]
      refine wpAnyH_ready (rs := [8]) (by kernel_rfl) (by simp) ?_
      refine AllReadyH.cons rfl (fun K hK => ?_) AllReadyH.nil
      go_simp
      refine (HC43.out _ hSa).mono ?_
      rintro e1 u2 ⟨rfl, hbu2⟩
      have hSu2 : Below wr.heap.size wr u2 := (hSa).trans (hbu2.mono (hSa).size)
      go_wp2_with fail
      refine hK.out _ _ hSu2 (fun _ => ?_)
      clear hK K
      try simp only [pU]
      refine wpAnyH_ready (rs := [10]) (by kernel_rfl) (by simp) ?_
      refine AllReadyH.cons rfl (fun K hK => ?_) AllReadyH.nil
      rw [if_pos (by rfl)]
      have htA := there_below (there_own16 u1 #[.int .u8 0, .int .u8 0, .int .u8 0, .int .u8 0, .int .u8 0, .int .u8 0, .int .u8 0, .int .u8 0, .int .u8 0, .int .u8 0, .int .u8 0, .int .u8 0, .int .u8 0, .int .u8 0, .int .u8 0, .int .u8 0] 38 (n := 16) rfl) hbu2 (by simp)
      refine wp_store_mid 38 (.tmp 8) (.tmp 56) rfl _ 0 L.toArray rfl rfl (by simpa [HLl.out] using htA) (by rw [List.size_toArray, HLl.out]; exact size42) HLo.out ?_
      refine hK.out _ _ (below_setCells _ (hSu1.size) _ _ _ (hSu2)) (fun _ => ?_)
      clear hK K
      refine wpAnyH_done (by kernel_rfl) ?_ _
      refine NoPanic.normal ?_
      go_wp2_with fail
      go_meet
      exact ⟨_, rfl, BlkAt.mk' (hSu2) (hSu1.size) (by have h1 := hbu2.size; simp at h1; omega) (by simpa [HLl.out] using htA)⟩
    ·skip
     go_simp
     have hSa : Below wr.heap.size wr (World.alloc wr.drew (.cells #[.int .u8 0, .int .u8 0, .int .u8 0, .int .u8 0, .int .u8 0, .int .u8 0, .int .u8 0, .int .u8 0, .int .u8 0, .int .u8 0, .int .u8 0, .int .u8 0, .int .u8 0, .int .u8 0, .int .u8 0, .int .u8 0] 38)) := (hS0).alloc (hS0).size _
     refine hK.out _ _ hSa (fun _ => ?_)
     clear hK K
     try simp only [pU]
     refine wpAnyH_ready (rs := [7]) (by kernel_rfl) (by simp) ?_
     refine AllReadyH.cons rfl (fun K hK => ?_) AllReadyH.nil
     go_simp
     refine (HC48.out _ hSa).mono ?_
     rintro e1 u1 ⟨rfl, hbu1⟩
     have hSu1 : Below wr.heap.size wr u1 := (hSa).trans (hbu1.mono (hSa).size)
     go_wp2_with fail
     refine hK.out _ _ hSu1 (fun _ => ?_)
     clear hK K
     try simp only [pU]
     refine wpAnyH_ready (rs := [8]) (by kernel_rfl) (by simp) ?_
     refine AllReadyH.cons rfl (fun K hK => ?_) AllReadyH.nil
     go_simp
     refine (HC43.out _ hSu1).mono ?_
     rintro e1 u2 ⟨rfl, hbu2⟩
     have hSu2 : Below wr.heap.size wr u2 := (hSu1).trans (hbu2.mono (hSu1).size)
     go_wp2_with fail
     refine hK.out _ _ hSu2 (fun _ => ?_)
     clear hK K
     try simp only [pU]
     refine wpAnyH_ready (rs := [10]) (by kernel_rfl) (by simp) ?_
     refine AllReadyH.cons rfl (fun K hK => ?_) AllReadyH.nil
     rw [if_pos (by rfl)]
     have htA := there_below (there_below (there_own16 wr.drew #[.int .u8 0, .int .u8 0, .int .u8 0, .int .u8 0, .int .u8 0, .int .u8 0, .int .u8 0, .int .u8 0, .int .u8 0, .int .u8 0, .int .u8 0, .int .u8 0, .int .u8 0, .int .u8 0, .int .u8 0, .int .u8 0] 38 (n := 16) rfl) hbu1 (by simp)) hbu2 (by have h3 := hbu1.size; simp at h3 ⊢; omega)
     refine wp_store_mid 38 (.tmp 8) (.tmp 56) rfl _ 0 L.toArray rfl rfl (by simpa [HLl.out] using htA) (by rw [List.size_toArray, HLl.out]; exact size42) HLo.out ?_
     refine hK.out _ _ (below_setCells _ (hS0.size) _ _ _ (hSu2)) (fun _ => ?_)
     clear hK K
     refine wpAnyH_done (by kernel_rfl) ?_ _
     refine NoPanic.normal ?_
     go_wp2_with fail
     go_meet
     exact ⟨_, rfl, BlkAt.mk' (hSu2) (hS0.size) (by have h1 := hbu2.size; have h3 := hbu1.size; simp at h1 h3 ⊢; omega) (by simpa [HLl.out] using htA)⟩
   case rest =>
    obtain ⟨A, rfl, HD⟩ := hcut
    clear HC48 HC43 gk HCB
    obtain ⟨r, HRR⟩ : ∃ r, Hid (r = p % 16) := ⟨_, rfl⟩
    have hr16 : r < 16 := by have := HRR.out; omega
    have hri : ((p : Nat) : Int) % 16 = (r : Nat) := by have := HRR.out; omega
    have hp40 : p ≤ 1099511627776 := by have := HPP.out; omega
    have HXc : Hid (XAt w wc t g nr K s0 p) := HX.out.below (HD.out.old.mono HX.out.two.size) HG.out HT.out
    have cp : wc.cell? ⟨t, 17, none⟩ = some (.int .u64 (p : Nat)) := HXc.out.str.pos
    have HO : Hid (wc.ownsRow w.heap.size 5 1 (.slice va k vc) k (cellsU8 (xorL nr K s0 n f k))) := ownsRow_same hown2 (fun q hq => HD.out.old.block q (hown2.lt q hq).2)
    have HOA : Hid (∀ q, (Value.slice va k vc).ownBlock = some q → q ≠ A) := fun q hq => by have h1 := (hown2.lt q hq).2; have h2 := HD.out.far; omega
    clear hown2 hlt
    obtain ⟨z, HZ⟩ : ∃ z, Hid (z = 16 - r) := ⟨_, rfl⟩
    have hsl := sl_r A r z hr16 HZ.out
    obtain ⟨q, HQ⟩ : ∃ q, Hid (q = min z (m - k)) := ⟨_, rfl⟩
    go_upto_region 14 with fail
    go_cut [11] from 43 to 97 (fun x wx => x = .int .i64 (q : Nat) ∧ wx = wc)
    case first =>
     go_wp2
     all_goals
      go_meet
      exact ⟨val_eq (by have := HQ.out; omega), rfl⟩
    case rest =>
     obtain ⟨rfl, rfl⟩ := hcut
     have HDA : Hid (A < wc.heap.size ∧ w.heap.size ≤ A ∧ wc.rangeAt A 0 L) := ⟨HD.out.here, Nat.le_trans HX.out.two.size HD.out.far, HD.out.cells⟩
     clear HD HX hsl
     go_wp2
     go_loopw [7, 73] (fun v i w5 => ∃ j : Nat, j ≤ q ∧ i = .int .i64 j ∧ w5.ownsRow w.heap.size 5 1 v (k + j) (cellsU8 (xorL nr K s0 n f (k + j))) ∧ Hid (Below w.heap.size wc w5 ∧ A < w5.heap.size ∧ (∀ q', v.ownBlock = some q' → q' ≠ A) ∧ w5.rangeAt A 0 L)) (fun _ i _ => q - (intOf i).toNat)
     case atStart => exact ⟨0, by omega, rfl, HO.out, Below.refl _ _, HDA.out.1, HOA.out, HDA.out.2.2⟩
     case round =>
      obtain ⟨j, hj, rfl, hown2, HI⟩ := hrel
      clear HO HOA
      by_cases hlt : j < q
      ·have hjm : j < m - k := by have := HQ.out; omega
       have hjz : j < z := by have := HQ.out; omega
       obtain ⟨c, HCC⟩ : ∃ c, Hid (c = (encW nr K (ctrW s0 (p / 16))).by (r + j)) := ⟨_, rfl⟩
       obtain ⟨x, HXX⟩ : ∃ x, Hid (x = f (k + j)) := ⟨_, rfl⟩
       obtain ⟨y, HY⟩ : ∃ y, Hid (y = Nat.xor x c) := ⟨_, rfl⟩
       have hxor : bits .xor .u8 ((x : Nat) : Int) ((c : Nat) : Int) = ((y : Nat) : Int) := by
        rw [HY.out]
        exact xor8 x c (by rw [HXX.out]; exact HP.out.2.2.2.2 _) (by rw [HCC.out]; exact W4.by_lt _ _)
       have g1 : wr.cell? ⟨b, off + k + j, none⟩ = some (.int .u8 (x : Nat)) := by
        obtain ⟨p1, p2, p3, p4, p5⟩ := HP.out
        rw [HI.out.1.cell (p := ⟨b, off + k + j, none⟩) p1, HXc.out.two.cell (p := ⟨b, off + k + j, none⟩) p1 p2 p3, HXX.out, Nat.add_assoc]
        exact p4 (k + j) (by omega)
       have g2 : wr.cell? ⟨A, r + j, none⟩ = some (.int .u8 (c : Nat)) := by
        have h1 := HI.out.2.2.2 (r + j) (.int .u8 (c : Nat)) (by rw [HL.out, HCC.out]; exact W4.bytes_at _ _ (by have := HZ.out; omega))
        rw [Nat.zero_add] at h1
        exact h1
       have HJ : Hid (Nat.xor (f (k + j)) (ksb nr K s0 (n + (k + j))) = y) := by
        show _ = _
        rw [HY.out, HXX.out, HCC.out, ksb]
        have h1 : (n + (k + j)) / 16 = p / 16 := by have := HPP.out; have := HRR.out; have := HZ.out; omega
        have h2 : (n + (k + j)) % 16 = r + j := by have := HPP.out; have := HRR.out; have := HZ.out; omega
        rw [h1, h2]
       have hsz : Hid (w.heap.size ≤ wr.heap.size) := Nat.le_trans (Nat.le_of_lt (Nat.lt_of_le_of_lt HDA.out.2.1 HI.out.2.1)) (Nat.le_refl _)
       have HFAR : Hid (∀ q, u7.ownBlock = some q → q ≠ b ∧ q ≠ A) := fun q hq => ⟨by have h1 := (hown2.lt q hq).1; have h2 := HP.out.1; omega, HI.out.2.2.1 q hq⟩
       go_wp2
       go_region_held3 (fun v => v.cell? ⟨b, off + k + j, none⟩ = some (.int .u8 (x : Nat)) ∧ v.cell? ⟨A, r + j, none⟩ = some (.int .u8 (c : Nat))) (first | exact hS2 | exact ⟨g1, g2⟩ | go_keep) ((refine step_append_lies _ (by rfl) _ _ _ (by rfl) w.heap.size 5 i0 (.int .u8 0) 1 1 Tryz.underlying22 hi hz0 hz1 hz2 (by rfl) (by decide) _ (k + j) (cellsU8 (xorL nr K s0 n f (k + j))) (by rfl) (hown2.alloc _).drew ⟨wr.heap.size, 0, none⟩ 1 1 (cellsU8 [((y : Nat) : Int)]) (by rfl) (by rfl) (World.news_of_block (heap_alloc_new wr _)) (cellsU8_one _) (by decide) (by unfold maxLen; omega) (by omega) (by have := hsz.out; simp; omega) (wr.heap.size + 1) (by simp) ?_; intro g' cp' w2 hown3 hgrow2 hat hglt; have hS2 : w2.cell? ⟨b, off + k + j, none⟩ = some (.int .u8 (x : Nat)) ∧ w2.cell? ⟨A, r + j, none⟩ = some (.int .u8 (c : Nat)) := ⟨grown_cell hgrow2 g1 (fun q hq => (HFAR.out q hq).1), grown_cell hgrow2 g2 (fun q hq => (HFAR.out q hq).2)⟩))
       all_goals
        have HB3 : Hid (Below w.heap.size wc w2) := (HI.out.1.alloc hsz.out _).drew.grown hgrow2 (by have := hsz.out; simp; omega) (fun q hq => (hown2.lt q hq).1)
        have HO3 : Hid (w2.ownsRow w.heap.size 5 1 (.slice (some ⟨g', 0, none⟩) (k + j + 1) cp') (k + (j + 1)) (cellsU8 (xorL nr K s0 n f (k + (j + 1))))) := by
         show World.ownsRow _ _ _ _ _ _ _
         rw [← Nat.add_assoc, xorL_succ, cellsU8_append, HJ.out]
         exact hown3
        have HA3 : Hid (A < w2.heap.size ∧ (∀ q', (Value.slice (some ⟨g', 0, none⟩) (k + j + 1) cp').ownBlock = some q' → q' ≠ A) ∧ w2.rangeAt A 0 L) := by
         obtain ⟨q1, q2, q3, q4⟩ := HI.out
         have hs := hgrow2.size
         simp at hs
         refine ⟨by omega, fun q' hq' => ?_, fun i v hv => ?_⟩
         ·cases hq'
          rcases hat with h | h
          ·exact q3 _ h
          ·show g' ≠ A; omega
         ·exact grown_cell hgrow2 (q4 i v hv) (fun q hq => (HFAR.out q hq).2)
        clear hown3 hgrow2 hat hglt hown2 HI g1 g2
        go_wp2
        go_roundw
        case rel => exact ⟨j + 1, by omega, by go_num, HO3, HB3.out, HA3.out⟩
        case measure => simp [intOf]; omega
      ·obtain rfl : j = q := by omega
       have HXe : Hid (XAt w wr t g nr K s0 p) := HXc.out.below HI.out.1 HG.out HT.out
       have HO5 : Hid (World.ownsRow wr w.heap.size 5 1 u7 (k + j) (cellsU8 (xorL nr K s0 n f (k + j)))) := hown2
       have cp5 : wr.cell? ⟨t, 17, none⟩ = some (.int .u64 (p : Nat)) := HXe.out.str.pos
       have cz5 : wr.frozen? ⟨t, 17, none⟩ = false := by have := (HXe.out.str.room 17 (by decide)).2; simpa using this
       have hj16 : j ≤ 16 := by have := HQ.out; have := HZ.out; omega
       clear hown2 HI HXc cp
       go_wp2
       have hkq : k + j ≤ m := by have := HQ.out; omega
       have hj0 : 0 < j := by have := HQ.out; have := HZ.out; omega
       have e1 : ((p : Nat) : Int) + ((j : Nat) : Int) = ((n + (k + j) : Nat) : Int) := by have := HPP.out; omega
       refine ⟨⟨k + j, hkq, ?_, ?_⟩, ?_⟩
       ·refine ownsRow_same HO5.out (fun q' hq' => ?_)
        exact ((Touch.refl wr t 17 1).setCell 17 _ (by omega) (by omega)).block q' (HO5.out.lt q' hq').2 (by have h1 := (HO5.out.lt q' hq').1; have h2 := HT.out; omega)
       ·rw [e1]
        exact HXe.out.move HNE.out HG.out (n + (k + j)) (by omega)
       ·rw [ownsRow_len HO5.out]
        show _ < m - k
        omega
  ·obtain rfl : k = m := by omega
   have HO5 : Hid (World.ownsRow wr w.heap.size 5 1 (.slice va k vc) k (cellsU8 (xorL nr K s0 n f k))) := hown2
   clear hown2 hlt
   go_wp2
   refine leaves_cons (f := 42) (args := #[.pointer (some ⟨g, 0, none⟩)]) (by simp) (by simp [go_sem]) ?_
   refine (unlock3 HX.out.ciph HX.out.cnt HX.out.room).mono ?_
   rintro e5 u5 w5 ⟨rfl, rfl, hk5, ht5⟩
   refine ⟨_, results_tmp2 rfl _ _ _, _, rfl, ?_, hk5, HX.out.str.touch ht5 HNE.out, HX.out.two.trans (ht5.left t)⟩
   refine ownsRow_same HO5.out (fun q' hq' => ?_)
   exact ht5.block q' (HO5.out.lt q' hq').2 (by have h1 := (HO5.out.lt q' hq').1; have h2 := HG.out; omega)
end Go.Proofs.YtgmfiljjogdccabGreatDoor
