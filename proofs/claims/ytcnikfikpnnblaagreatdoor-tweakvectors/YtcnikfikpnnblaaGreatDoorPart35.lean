import Derived.Test.YtcnikfikpnnblaaGreatDoorBlc
import Derived.Test.YtcnikfikpnnblaaGreatDoorKEnc
namespace Go.Proofs.YtcnikfikpnnblaaGreatDoor
open Go.RowKit
set_option linter.unusedVariables false
set_option linter.unusedSimpArgs false
theorem bt_wd4 {a b c d : Nat} (ha : a < 256) (hb : b < 256) (hc : c < 256) (hd : d < 256) : bt0 (wd a b c d) = a ∧ bt1 (wd a b c d) = b ∧ bt2 (wd a b c d) = c ∧ bt3 (wd a b c d) = d := by
  unfold wd bt0 bt1 bt2 bt3; omega
/-- A block as words. -/
def toW (v : BitVec 128) : W4 := ⟨wd (Fd.byV v 0) (Fd.byV v 1) (Fd.byV v 2) (Fd.byV v 3), wd (Fd.byV v 4) (Fd.byV v 5) (Fd.byV v 6) (Fd.byV v 7), wd (Fd.byV v 8) (Fd.byV v 9) (Fd.byV v 10) (Fd.byV v 11), wd (Fd.byV v 12) (Fd.byV v 13) (Fd.byV v 14) (Fd.byV v 15)⟩
theorem toW_ok (v : BitVec 128) : (toW v).ok := by
  have h := Fd.byV_lt v
  exact ⟨wd_lt (h _) (h _) (h _) (h _), wd_lt (h _) (h _) (h _) (h _), wd_lt (h _) (h _) (h _) (h _), wd_lt (h _) (h _) (h _) (h _)⟩
theorem toW_blk (v : BitVec 128) : (toW v).blk = Fd.BV v := by
  have h := Fd.byV_lt v
  obtain ⟨a0, a1, a2, a3⟩ := bt_wd4 (h 0) (h 1) (h 2) (h 3)
  obtain ⟨b0, b1, b2, b3⟩ := bt_wd4 (h 4) (h 5) (h 6) (h 7)
  obtain ⟨c0, c1, c2, c3⟩ := bt_wd4 (h 8) (h 9) (h 10) (h 11)
  obtain ⟨d0, d1, d2, d3⟩ := bt_wd4 (h 12) (h 13) (h 14) (h 15)
  unfold W4.blk blk Fd.BV toW
  simp only [a0, a1, a2, a3, b0, b1, b2, b3, c0, c1, c2, c3, d0, d1, d2, d3]
def byW (t : W4) : List Nat := [bt0 t.a, bt1 t.a, bt2 t.a, bt3 t.a, bt0 t.b, bt1 t.b, bt2 t.b, bt3 t.b, bt0 t.c, bt1 t.c, bt2 t.c, bt3 t.c, bt0 t.d, bt1 t.d, bt2 t.d, bt3 t.d]
theorem byW_lt (t : W4) (i : Nat) : (byW t).getD i 0 < 256 := by
  have h : ∀ x ∈ byW t, x < 256 := by
    intro x hx
    simp only [byW, List.mem_cons, List.not_mem_nil, or_false] at hx
    rcases hx with rfl | rfl | rfl | rfl | rfl | rfl | rfl | rfl | rfl | rfl | rfl | rfl | rfl | rfl | rfl | rfl <;> exact Nat.mod_lt _ (by decide)
  rw [List.getD_eq_getElem?_getD]
  cases e : (byW t)[i]? with
  | none => simp
  | some x => exact h x (List.mem_of_getElem? e)
/-- Words as a block. -/
def ofW (t : W4) : BitVec 128 := BitVec.ofNat 128 (Fd.pk (fun i => (byW t).getD i 0) 16)
theorem ofW_at (t : W4) (i : Nat) (hi : i < 16) : Fd.byV (ofW t) i = (byW t).getD i 0 := Fd.byV_pk _ (byW_lt t) i hi
theorem ofW_blk (t : W4) : t.blk = Fd.BV (ofW t) := by
  have h := ofW_at t
  unfold W4.blk blk Fd.BV
  rw [h 0 (by decide), h 1 (by decide), h 2 (by decide), h 3 (by decide), h 4 (by decide), h 5 (by decide), h 6 (by decide), h 7 (by decide), h 8 (by decide), h 9 (by decide), h 10 (by decide), h 11 (by decide), h 12 (by decide), h 13 (by decide), h 14 (by decide), h 15 (by decide)]
  rfl
/-- AES of a block. -/
def encV (nr : Nat) (K : Nat → Nat) (v : BitVec 128) : BitVec 128 := ofW (encW nr K (toW v))
theorem kencV (g nr : Nat) (K : Nat → Nat) (v : BitVec 128) (w : World) (h : KeyAt w g nr K) :
    Calls Tryz.prog 55 #[.pointer (some ⟨g, 0, none⟩), Fd.BV v] w fun e w' => Hid (e = .returned (.tuple #[Fd.BV (encV nr K v), .int .i64 0]) ∧ KeyAt w' g nr K ∧ w.grownBy w' (some g)) := by
  have q := kenc_ok g nr K (toW v) w h (toW_ok v)
  rw [toW_blk] at q
  refine q.mono ?_
  rintro e w' ⟨rfl, h1, h2⟩
  refine ⟨by rw [ofW_blk]; rfl, h1, h2.os, h2.tape, h2.output, h2.size, fun k hk hn => h2.block k hk (fun e => hn (by rw [e]))⟩
set_option maxHeartbeats 800000 in
set_option maxRecDepth 100000 in
/-- under. -/
theorem under_ok (g nr : Nat) (K : Nat → Nat) (v : BitVec 128) (w : World) (h : KeyAt w g nr K) :
    Calls Tryz.prog 146 #[.pointer (some ⟨g, 0, none⟩), Fd.BV v] w fun e w' => Hid (e = .returned (Fd.BV (encV nr K v)) ∧ KeyAt w' g nr K ∧ w.grownBy w' (some g)) := by
  obtain ⟨L, HL⟩ : ∃ L, Hid (L = Fd.BL v) := ⟨_, rfl⟩
  obtain ⟨M, HM⟩ : ∃ M, Hid (M = Fd.BL (encV nr K v)) := ⟨_, rfl⟩
  have HK : Hid (∀ u, KeyAt u g nr K → Calls Tryz.prog 55 #[.pointer (some ⟨g, 0, none⟩), .agg L.toArray] u fun e w' => Hid (e = .returned (.tuple #[.agg M.toArray, .int .i64 0]) ∧ KeyAt w' g nr K ∧ u.grownBy w' (some g))) := fun u hu => by
    have q := kencV g nr K v u hu
    rw [HL.out, HM.out]
    exact q
  have HL16 : Hid (L.length = 16 ∧ M.length = 16 ∧ (∀ x ∈ M, x.oneCell' = true)) := by rw [HL.out, HM.out]; exact ⟨rfl, rfl, BL_one8 _⟩
  show Calls Tryz.prog 146 #[_, .agg (Fd.BL v).toArray] w fun e w' => Hid (e = .returned (.agg (Fd.BL (encV nr K v)).toArray) ∧ _)
  rw [← HL.out, ← HM.out]
  obtain ⟨w1, hw1⟩ : ∃ w1, w1 = (w.alloc (.cells L.toArray 29)).alloc (.cells ZZ.toArray 29) := ⟨_, rfl⟩
  have HB1 : Hid (Bx w1 w.heap.size 29 L ∧ Bx w1 (w.heap.size + 1) 29 ZZ ∧ Below w.heap.size w w1 ∧ KeyAt w1 g nr K ∧ g < w.heap.size) := by
    have hb : Below w.heap.size w w1 := by rw [hw1]; exact ((Below.refl _ _).alloc (Nat.le_refl _) _).alloc (by simp) _
    refine ⟨?_, ?_, hb, h.below hb h.ciph.here, h.ciph.here⟩
    · rw [hw1]; exact (Bx.new w 29 L).below ((Below.refl _ _).alloc (Nat.le_refl _) _)
    · rw [hw1]; have q := Bx.new (w.alloc (.cells L.toArray 29)) 29 ZZ; simpa using q
  have hw2 : w1 = (w.alloc (.cells L.toArray 29)).alloc (.cells #[.int .u8 0, .int .u8 0, .int .u8 0, .int .u8 0, .int .u8 0, .int .u8 0, .int .u8 0, .int .u8 0, .int .u8 0, .int .u8 0, .int .u8 0, .int .u8 0, .int .u8 0, .int .u8 0, .int .u8 0, .int .u8 0] 29) := hw1
  clear hw1 h
  go_enter Tryz.func146, Tryz.ntmps146
  go_upto_region 1 with fail
  rw [← hw2]
  clear hw2
  obtain ⟨m, HMM⟩ : ∃ m, Hid (w.heap.size = m) := ⟨_, rfl⟩
  rw [HMM.out] at HB1 ⊢
  go_upto_region 2 with (first
    | (refine wpList_load_mid (by rfl) 29 (.tmp 3) (by rfl) m 0 (by rfl) L _ HB1.out.1.range Tryz.underlying29 rfl (by rw [HL16.out.1]; kernel_rfl) ?_)
    | (go_at_call 55; refine (HK.out _ HB1.out.2.2.2.1).mono ?_; intro e2 w2 hh; obtain ⟨rfl, hk2, hg2⟩ := hh.out; have HB2 : Hid (KeyAt w2 g nr K ∧ w1.grownBy w2 (some g)) := ⟨hk2, hg2⟩; clear hh hk2 hg2)
    | (refine wpList_store_bx (by rfl) 29 (.tmp 5) (.tmp 11) (by rfl) ZZ M w2.heap.size (by rfl) (by rfl) (Bx.new w2 29 ZZ) (by rw [HL16.out.2.1]; rfl) (by rw [HL16.out.2.1]; kernel_rfl) HL16.out.2.2 ?_; intro u3 hb3 hg3; have HB3 : Hid (Bx u3 w2.heap.size 29 M ∧ (w2.alloc (.cells ZZ.toArray 29)).grownBy u3 (some w2.heap.size)) := ⟨hb3, hg3⟩; clear hb3 hg3))
  have HS : Hid (m + 1 < w1.heap.size ∧ w1.heap.size ≤ w2.heap.size) := ⟨HB1.out.2.1.lt, HB2.out.2.size⟩
  have h23 : ∀ k, k < w2.heap.size → u3.heap[k]? = w2.heap[k]? := fun k hk => by
    rw [HB3.out.2.block k (by simp; omega) (fun e => by injection e with e; omega), Below.heap_alloc _ _ _ hk]
  have HX3 : Hid (Bx u3 (m + 1) 29 ZZ ∧ ∀ k, k < w2.heap.size → u3.heap[k]? = w2.heap[k]?) := by
    refine ⟨(HB1.out.2.1.keep (HB2.out.2.block (m + 1) HS.out.1 (fun e => by injection e with e; have := HB1.out.2.2.2.2; omega))).keep (h23 _ (by have := HS.out; omega)), h23⟩
  clear h23
  go_wp2_with (first
    | (refine wpList_load_mid (by rfl) 29 (.tmp 5) (by rfl) w2.heap.size 0 (by rfl) M _ HB3.out.1.range Tryz.underlying29 rfl (by rw [HL16.out.2.1]; kernel_rfl) ?_)
    | (refine wpList_store_bx (by rfl) 29 (.tmp 4) (.tmp 13) (by rfl) ZZ M (m + 1) (by rfl) (by rfl) HX3.out.1 (by rw [HL16.out.2.1]; rfl) (by rw [HL16.out.2.1]; kernel_rfl) HL16.out.2.2 ?_; intro u9 hb9 hg9))
  have e9 : ∀ k, k < w2.heap.size → k ≠ m + 1 → u9.heap[k]? = w2.heap[k]? := fun k hk hn => by
    rw [hg9.block k (by have := HB3.out.1.lt; omega) (fun e => by injection e with e; omega), HX3.out.2 k hk]
  have hsz : w2.heap.size ≤ u9.heap.size := by have := hg9.size; have := HB3.out.1.lt; omega
  have hgm := HB1.out.2.2.2.2
  refine ret_agg (b := m + 1) M rfl rfl hb9.range Tryz.underlying29 rfl (by rw [HL16.out.2.1]; kernel_rfl) ⟨rfl, HB2.out.1.sameK (e9 g (by have := HS.out; omega) (by omega)) hsz, ?_⟩
  have hb1 := HB1.out.2.2.1
  have hg2 := HB2.out.2
  have hg3 := HB3.out.2
  refine ⟨hg9.os.trans (hg3.os.trans (hg2.os.trans hb1.os)), hg9.tape.trans (hg3.tape.trans (hg2.tape.trans hb1.tape)), hg9.output.trans (hg3.output.trans (hg2.output.trans hb1.output)), Nat.le_trans hb1.size (Nat.le_trans hg2.size hsz), fun k hk hn => ?_⟩
  have hkm : k < m := by rw [← HMM.out]; exact hk
  rw [e9 k (by have := HS.out; omega) (by omega), hg2.block k (by have := HS.out; omega) hn, hb1.block k hkm]
end Go.Proofs.YtcnikfikpnnblaaGreatDoor
namespace Go.Proofs.YtcnikfikpnnblaaGreatDoor
open Go.RowKit
set_option linter.unusedVariables false
set_option linter.unusedSimpArgs false
/-- A store of a whole box, in a region that draws. -/
theorem step_store_bx {P : Program} {ops : Array Oper} {o : Oper} {a : Act} {w : World} {K : Act → World → Prop} {Q : Exit → Act → World → Prop} {E : Prop} (hgd : o.guard = none) (t : TypeId) (x y : Operand) (ho : o.op = .store t x y) {bt : TypeId} (c c' : List Value) (g : Nat) (hx : a.eval x = .pointer (some ⟨g, 0, none⟩)) (hy : a.eval y = .agg c'.toArray)
    (hb : Bx w g bt c) (hl : c'.length = c.length) (hi : (P.info? t).map (·.size) = some c'.length) (h1 : ∀ v ∈ c', v.oneCell' = true) (h : ∀ u, Hid (Bx u g bt c') → Hid (w.grownBy u (some g)) → K (a.put o.dst undef) u) :
    if Region.wanted o (yielded ops a.tmps) = true then Oper.wp P o a w K Q else E := by
  have hw : Region.wanted o (yielded ops a.tmps) = true := by simp [Region.wanted, hgd]
  rw [if_pos hw]
  refine wp_store_mid t x y ho g 0 c'.toArray hx hy (fun j hj => ?_) (by simpa using hi) (all_oneCell_toArray h1) (h _ (hb.store c' hl) (setCells_gb g _ 0 w))
  rw [Nat.zero_add]
  have hj' : j < c.length := by rw [← hl]; simpa using hj
  refine ⟨?_, hb.frozen j⟩
  rw [hb.cell j _ (List.getElem?_eq_getElem hj')]
  rfl
theorem bx_there {w : World} {b : Nat} {t : TypeId} {cs : List Value} (h : Bx w b t cs) {n : Nat} (hn : cs.length = n) : w.there b 0 n := fun j hj => by
  rw [Nat.zero_add]
  refine ⟨?_, h.frozen j⟩
  rw [h.cell j _ (List.getElem?_eq_getElem (by omega))]
  rfl
theorem keep5 {w1 w2 : World} {g m : Nat} {L : List Value} (hg : w1.grownBy w2 (some g)) (h1 : Bx w1 m 29 L) (h2 : Bx w1 (m + 1) 29 ZZ) (hgm : g < m) : Bx w2 m 29 L ∧ Bx w2 (m + 1) 29 ZZ := ⟨h1.keep (hg.block m h1.lt (fun e => by injection e with e; omega)), h2.keep (hg.block (m + 1) h2.lt (fun e => by injection e with e; omega))⟩
theorem keep4 {w2 : World} {g sh m : Nat} {x : Value} {L M : List Value} (hc : w2.cell? ⟨sh, 4, none⟩ = some x) (hs : sh < m) (h1 : Bx w2 m 29 L) (h2 : Bx w2 (m + 1) 29 ZZ) (hM : M.length = 16) : (w2.setCells (m + 1) 0 M).cell? ⟨sh, 4, none⟩ = some x ∧ (w2.setCells (m + 1) 0 M).rangeAt m 0 L ∧ (w2.setCells (m + 1) 0 M).there (m + 1) 0 16 := by
  have hg : w2.grownBy (w2.setCells (m + 1) 0 M) (some (m + 1)) := setCells_gb (m + 1) M 0 w2
  refine ⟨?_, (h1.keep (hg.block m h1.lt (fun e => by injection e with e; omega))).range, bx_there (h2.store M (by rw [hM]; rfl)) hM⟩
  rw [World.cell?_of_block (a := ⟨sh, 4, none⟩) (hg.block sh (by have := h1.lt; omega) (fun e => by injection e with e; omega))]
  exact hc
theorem keep3 {w1 w2 : World} {g sh m : Nat} {x : Value} {L : List Value} (hg : w1.grownBy w2 (some g)) (hne : sh ≠ g) (hc : w1.cell? ⟨sh, 4, none⟩ = some x) (hs : sh < w1.heap.size) (h1 : Bx w1 m 29 L) (h2 : Bx w1 (m + 1) 29 ZZ) (hgm : g < m) : w2.cell? ⟨sh, 4, none⟩ = some x ∧ w2.rangeAt m 0 L ∧ w2.there (m + 1) 0 16 := by
  refine ⟨?_, (h1.keep (hg.block m h1.lt (fun e => by injection e with e; omega))).range, bx_there (h2.keep (hg.block (m + 1) h2.lt (fun e => by injection e with e; omega))) rfl⟩
  rw [World.cell?_of_block (a := ⟨sh, 4, none⟩) (hg.block sh hs (fun e => hne (by injection e)))]
  exact hc
set_option maxHeartbeats 800000 in
set_option maxRecDepth 100000 in
/-- shared.encrypt. -/
theorem encrypt_ok (sh g nr : Nat) (K : Nat → Nat) (v : BitVec 128) (w : World) (hne : sh ≠ g) (hc : w.cell? ⟨sh, 4, none⟩ = some (.pointer (some ⟨g, 0, none⟩))) (h : KeyAt w g nr K) :
    Calls Tryz.prog 148 #[.pointer (some ⟨sh, 0, none⟩), Fd.BV v] w fun e w' => Hid (e = .returned (Fd.BV (encV nr K v)) ∧ KeyAt w' g nr K ∧ w.grownBy w' (some g)) := by
  obtain ⟨L, HL⟩ : ∃ L, Hid (L = Fd.BL v) := ⟨_, rfl⟩
  obtain ⟨M, HM⟩ : ∃ M, Hid (M = Fd.BL (encV nr K v)) := ⟨_, rfl⟩
  have HK : Hid (∀ u, KeyAt u g nr K → Calls Tryz.prog 146 #[.pointer (some ⟨g, 0, none⟩), .agg L.toArray] u fun e w' => Hid (e = .returned (.agg M.toArray) ∧ KeyAt w' g nr K ∧ u.grownBy w' (some g))) := fun u hu => by
    have q := under_ok g nr K v u hu
    rw [HL.out, HM.out]
    exact q
  have HL16 : Hid (L.length = 16 ∧ M.length = 16 ∧ (∀ x ∈ M, x.oneCell' = true)) := by rw [HL.out, HM.out]; exact ⟨rfl, rfl, BL_one8 _⟩
  show Calls Tryz.prog 148 #[_, .agg (Fd.BL v).toArray] w fun e w' => Hid (e = .returned (.agg (Fd.BL (encV nr K v)).toArray) ∧ _)
  rw [← HL.out, ← HM.out]
  obtain ⟨w1, hw1⟩ : ∃ w1, w1 = (w.alloc (.cells L.toArray 29)).alloc (.cells ZZ.toArray 29) := ⟨_, rfl⟩
  have HB1 : Hid (Bx w1 w.heap.size 29 L ∧ Bx w1 (w.heap.size + 1) 29 ZZ ∧ Below w.heap.size w w1 ∧ KeyAt w1 g nr K ∧ g < w.heap.size) := by
    have hb : Below w.heap.size w w1 := by rw [hw1]; exact ((Below.refl _ _).alloc (Nat.le_refl _) _).alloc (by simp) _
    refine ⟨?_, ?_, hb, h.below hb h.ciph.here, h.ciph.here⟩
    · rw [hw1]; exact (Bx.new w 29 L).below ((Below.refl _ _).alloc (Nat.le_refl _) _)
    · rw [hw1]; have q := Bx.new (w.alloc (.cells L.toArray 29)) 29 ZZ; simpa using q
  have HSW : Hid (sh < w.heap.size) := World.block_lt_of_cell? w _ hc
  have c4 : w1.cell? ⟨sh, 4, none⟩ = some (.pointer (some ⟨g, 0, none⟩)) := by rw [HB1.out.2.2.1.cell (World.block_lt_of_cell? w _ hc), hc]
  have hw2 : w1 = (w.alloc (.cells L.toArray 29)).alloc (.cells #[.int .u8 0, .int .u8 0, .int .u8 0, .int .u8 0, .int .u8 0, .int .u8 0, .int .u8 0, .int .u8 0, .int .u8 0, .int .u8 0, .int .u8 0, .int .u8 0, .int .u8 0, .int .u8 0, .int .u8 0, .int .u8 0] 29) := hw1
  clear hw1 h hc
  go_enter Tryz.func148, Tryz.ntmps148
  go_upto_region 1 with fail
  rw [← hw2]
  clear hw2
  obtain ⟨m, HMM⟩ : ∃ m, Hid (w.heap.size = m) := ⟨_, rfl⟩
  rw [HMM.out] at HB1 ⊢
  have HW1 : Hid (m + 1 < w1.heap.size) := HB1.out.2.1.lt
  have HSH : Hid (sh < m) := by rw [← HMM.out]; exact HSW.out
  have KD : Hid (KeyAt w1.drew g nr K) := HB1.out.2.2.2.1.below (Below.refl _ w1).drew (by have := HB1.out.2.2.2.2; have := HW1.out; omega)
  have hU : Tryz.prog.underlying 29 = some (.array 16 5) := Tryz.underlying29
  have hiL : (Tryz.prog.info? 29).map (·.size) = some L.length := by rw [HL16.out.1]; kernel_rfl
  have hiM : (Tryz.prog.info? 29).map (·.size) = some M.length := by rw [HL16.out.2.1]; kernel_rfl
  have hM16 : M.length = 16 := HL16.out.2.1
  have hM1 : ∀ v ∈ M, v.oneCell' = true := HL16.out.2.2
  have hr1 : w1.rangeAt m 0 L := HB1.out.1.range
  have ht1 : w1.there (m + 1) 0 16 := bx_there HB1.out.2.1 rfl
  go_region_held3 (fun u => u.cell? ⟨sh, 4, none⟩ = some (.pointer (some ⟨g, 0, none⟩)) ∧ u.rangeAt m 0 L ∧ u.there (m + 1) 0 16) (first | exact ⟨c4, hr1, ht1⟩ | exact hS2 | exact hS3 | go_keep)
    (first
      | (go_at_call 146; refine (HK.out _ KD.out).mono ?_; intro e2 w2 hh; obtain ⟨rfl, hk2, hg2⟩ := hh.out; have HB2 : Hid (KeyAt w2 g nr K ∧ w1.grownBy w2 (some g)) := ⟨hk2, hg2.os, hg2.tape, hg2.output, hg2.size, hg2.block⟩; have hS2 : w2.cell? ⟨sh, 4, none⟩ = some (.pointer (some ⟨g, 0, none⟩)) ∧ w2.rangeAt m 0 L ∧ w2.there (m + 1) 0 16 := keep3 HB2.out.2 hne c4 (by have := HSH.out; have := HW1.out; omega) HB1.out.1 HB1.out.2.1 HB1.out.2.2.2.2; have HX2 : Hid (Bx w2 m 29 L ∧ Bx w2 (m + 1) 29 ZZ) := keep5 HB2.out.2 HB1.out.1 HB1.out.2.1 HB1.out.2.2.2.2; have hS3 := keep4 (g := g) hS2.1 HSH.out HX2.out.1 HX2.out.2 hM16; clear hh hk2 hg2))
  have HB9 : Hid (Bx (w2.setCells (m + 1) 0 M) (m + 1) 29 M ∧ w2.grownBy (w2.setCells (m + 1) 0 M) (some (m + 1))) := ⟨HX2.out.2.store M (by rw [hM16]; rfl), setCells_gb (m + 1) M 0 w2⟩
  obtain ⟨u9, hu9⟩ : ∃ u9, u9 = w2.setCells (m + 1) 0 M := ⟨_, rfl⟩
  rw [← hu9] at HB9 ⊢
  clear hu9 hS2 hS3
  go_wp2
  have hgm := HB1.out.2.2.2.2
  have hg9 := HB9.out.2
  have hg2 := HB2.out.2
  have hb1 := HB1.out.2.2.1
  have e9 : ∀ k, k < w2.heap.size → k ≠ m + 1 → u9.heap[k]? = w2.heap[k]? := fun k hk hn => hg9.block k hk (fun e => by injection e with e; omega)
  refine ret_agg (b := m + 1) M rfl rfl HB9.out.1.range Tryz.underlying29 rfl hiM ⟨rfl, HB2.out.1.sameK (e9 g (by have := HX2.out.1.lt; omega) (by omega)) hg9.size, ?_⟩
  refine ⟨hg9.os.trans (hg2.os.trans hb1.os), hg9.tape.trans (hg2.tape.trans hb1.tape), hg9.output.trans (hg2.output.trans hb1.output), Nat.le_trans hb1.size (Nat.le_trans hg2.size hg9.size), fun k hk hn => ?_⟩
  have hkm : k < m := by rw [← HMM.out]; exact hk
  rw [e9 k (by have := HX2.out.1.lt; omega) (by omega), hg2.block k (by have := HW1.out; omega) hn, hb1.block k hkm]
end Go.Proofs.YtcnikfikpnnblaaGreatDoor
