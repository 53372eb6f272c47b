import Derived.Test.YtcnikfikpnnblaaGreatDoorRk4
import Derived.Test.YtcnikfikpnnblaaGreatDoorRk6
import Derived.Test.YtcnikfikpnnblaaGreatDoorRk8
import Derived.Test.YtcnikfikpnnblaaGreatDoorPart26
import Derived.Test.YtcnikfikpnnblaaGreatDoorPart24
namespace Go.Proofs.YtcnikfikpnnblaaGreatDoor
open Go.RowKit
set_option linter.unusedVariables false
set_option linter.unusedSimpArgs false
/-- cofferref02.New of bytes that are seen. -/
theorem rnew_view (v : Value) (ys : List Int) (nk : Nat) (w : World) (hnk : nk = 4 ∨ nk = 6 ∨ nk = 8) (hl : ys.length = 4 * nk) (hv : View w v ys) (hb : AllBytes ys) :
  Calls Tryz.prog 69 #[v] w fun e w' => Hid (∃ gr, e = .returned (.tuple #[.pointer (some ⟨w.heap.size, 0, none⟩), .int .i64 0]) ∧ RefAt w' w.heap.size gr nk (schedK nk (nat8 ys)) ∧ Below w.heap.size w w') := by
 have h0 : ys ≠ [] := by intro q; rw [q] at hl; simp at hl; omega
 have hlt := view_lt hv h0
 obtain ⟨a, c, rfl, h1, h2, h3, h4⟩ := hv
 rcases h4 with q | ⟨b, off, rfl, hc⟩
 ·exact absurd q h0
 ·rw [hl] at hc hlt ⊢
  have hc' : ∀ i, i < 4 * nk → w.cell? ⟨b, off + i, none⟩ = some (.int .u8 (nat8 ys i : Nat)) := fun i hi => by rw [nat8_eq hb]; exact hc i hi
  rcases hnk with rfl | rfl | rfl
  ·exact (rnew4_ok b off c (nat8 ys) w (hlt b off _ _ rfl) hc' (nat8_lt hb)).mono fun e w' hh => hh
  ·exact (rnew6_ok b off c (nat8 ys) w (hlt b off _ _ rfl) hc' (nat8_lt hb)).mono fun e w' hh => hh
  ·exact (rnew8_ok b off c (nat8 ys) w (hlt b off _ _ rfl) hc' (nat8_lt hb)).mono fun e w' hh => hh
set_option maxHeartbeats 800000 in
set_option maxRecDepth 100000 in
/-- cofferref03.schedule. -/
theorem rschedule_ok (v : Value) (ys : List Int) (nk : Nat) (w : World) (hnk : nk = 4 ∨ nk = 6 ∨ nk = 8) (hl : ys.length = 4 * nk) (hv : View w v ys) (hb : AllBytes ys) :
  Calls Tryz.prog 47 #[v] w fun e w' => Hid (∃ g gr, e = .returned (.pointer (some ⟨g, 0, none⟩)) ∧ w.heap.size ≤ g ∧ RefAt w' g gr nk (schedK nk (nat8 ys)) ∧ Below w.heap.size w w') := by
 have HC : Hid (Calls Tryz.prog 50 #[v] w fun e w' => ∃ v', e = .returned v' ∧ w'.ownsRow w.heap.size 5 1 v' ys.length (cellsU8 ys) ∧ Below w.heap.size w w') := copied_any v ys w (by omega) hv
 have HN : Hid (∀ u v', View u v' ys → Calls Tryz.prog 69 #[v'] u fun e w' => Hid (∃ gr, e = .returned (.tuple #[.pointer (some ⟨u.heap.size, 0, none⟩), .int .i64 0]) ∧ RefAt w' u.heap.size gr nk (schedK nk (nat8 ys)) ∧ Below u.heap.size u w')) := fun u v' hv' => rnew_view v' ys nk u hnk hl hv' hb
 obtain ⟨va, vc, rfl, _⟩ := hv
 clear hnk hl hb
 go_enter Tryz.func47, Tryz.ntmps47
 go_wp2_with (first
  | (go_at_call 50; refine HC.out.mono ?_; rintro e1 w1 ⟨v1, rfl, ho1, hb1⟩; have HV1 : Hid (View w1 v1 ys ∧ Below w.heap.size w w1) := ⟨view_owns ho1 rfl, hb1⟩; obtain ⟨xa, xc, rfl, _⟩ := HV1.out.1; clear ho1 hb1)
  | (go_at_call 69; refine (HN.out _ _ HV1.out.1).mono ?_; intro e2 w2 hh; obtain ⟨gr, rfl, hR2, hb2⟩ := hh.out; have HR2 : Hid (RefAt w2 w1.heap.size gr nk (schedK nk (nat8 ys)) ∧ Below w1.heap.size w1 w2) := ⟨hR2, hb2⟩; clear hh hR2 hb2))
 go_ret
 exact ⟨_, gr, rfl, HV1.out.2.size, HR2.out.1, HV1.out.2.trans (HR2.out.2.mono HV1.out.2.size)⟩
/-- Sixteen bytes of a list, from a place on. -/
def blkL (zs : List Int) (at_ : Nat) : List Value := (List.range 16).map fun i => .int .u8 (zs.getD (at_ + i) 0)
theorem blkL_len (zs : List Int) (a : Nat) : (blkL zs a).length = 16 := by simp [blkL]
theorem blkL_at (zs : List Int) (a i : Nat) (hi : i < 16) : (blkL zs a)[i]? = some (.int .u8 (zs.getD (a + i) 0)) := by simp [blkL, hi]
def blkN (zs : List Int) (a k : Nat) : List Value := (List.range 16).map fun i => .int .u8 (if i < k then zs.getD (a + i) 0 else 0)
theorem blkN_at (zs : List Int) (a k i : Nat) (hi : i < 16) : (blkN zs a k)[i]? = some (.int .u8 (if i < k then zs.getD (a + i) 0 else 0)) := by simp [blkN, hi]
theorem blkN_set (zs : List Int) (a k : Nat) (hk : k < 16) : (blkN zs a k).set k (.int .u8 (zs.getD (a + k) 0)) = blkN zs a (k + 1) := by
 apply List.ext_getElem?
 intro j
 by_cases hj : j < 16
 ·rw [blkN_at _ _ _ _ hj, List.getElem?_set]
  by_cases e : k = j
  ·subst e; simp [blkN, hj]
  ·rw [if_neg e, blkN_at _ _ _ _ hj]
   have : (j < k) ↔ (j < k + 1) := by omega
   simp only [this]
 ·rw [List.getElem?_eq_none (by simp [blkN]; omega), List.getElem?_eq_none (by simp [blkN]; omega)]
theorem blkN_0 (zs : List Int) (a : Nat) : blkN zs a 0 = List.replicate 16 (.int .u8 0) := by
 apply List.ext_getElem?
 intro j
 by_cases hj : j < 16
 ·rw [blkN_at _ _ _ _ hj, List.getElem?_replicate, if_pos hj, if_neg (by omega)]
 ·rw [List.getElem?_eq_none (by simp [blkN]; omega), List.getElem?_eq_none (by simp; omega)]
theorem blkN_16 (zs : List Int) (a : Nat) : blkN zs a 16 = blkL zs a := by
 apply List.ext_getElem?
 intro j
 by_cases hj : j < 16
 ·rw [blkN_at _ _ _ _ hj, blkL_at _ _ _ hj, if_pos hj]
 ·rw [List.getElem?_eq_none (by simp [blkN]; omega), List.getElem?_eq_none (by simp [blkL]; omega)]
theorem blkL_one (zs : List Int) (a : Nat) : ∀ v ∈ blkL zs a, v.oneCell' = true := by
 intro v hv
 obtain ⟨i, _, rfl⟩ := List.mem_map.1 hv
 rfl
theorem ret_one {P : Program} {fn : Func} {p : Tmp} {ty : TypeId} {d : TypeDesc} {Q : Ending → World → Prop} {tmps : Array Value} {w : World} {b : Nat} (cs : List Value) (h : fn.results = #[.cell p ty])
  (hp : tmps.getD p undef = .pointer (some ⟨b, 0, none⟩)) (hr : w.rangeAt b 0 cs) (hu : P.underlying ty = some d) (hd : d.isRow = true) (hi : (P.info? ty).map (·.size) = some cs.length)
  (hq : Q (.returned (.agg cs.toArray)) w) : bodyPost P fn Q .ret ⟨tmps, []⟩ w := ret_array cs h hp hr hu hd hi hq
set_option maxHeartbeats 1600000 in
set_option maxRecDepth 100000 in
/-- cofferref03.Block. -/
theorem rblock_ok (v : Value) (zs : List Int) (a : Nat) (w : World) (hv : View w v zs) (ha : a + 16 ≤ zs.length) (hm : zs.length ≤ 100000) :
  Calls Tryz.prog 48 #[v, .int .i64 (a : Nat)] w fun e w' => Hid (e = .returned (.agg (blkL zs a).toArray) ∧ Below w.heap.size w w') := by
 obtain ⟨va, vc, rfl, h1, h2, h3, h4⟩ := hv
 obtain ⟨b, off, rfl, hc⟩ : ∃ b off, va = some ⟨b, off, none⟩ ∧ ∀ i, i < zs.length → w.cell? ⟨b, off + i, none⟩ = some (.int .u8 (zs.getD i 0)) := by
  rcases h4 with q | q
  ·rw [q] at ha; simp at ha
  ·exact q
 have HC : Hid (∀ i, i < zs.length → w.cell? ⟨b, off + i, none⟩ = some (.int .u8 (zs.getD i 0))) := hc
 obtain ⟨n, HNL⟩ : ∃ n, Hid (zs.length = n) := ⟨_, rfl⟩
 rw [HNL.out] at ha hm HC ⊢
 clear h1 h2 h3 h4 hc
 go_enter Tryz.func48, Tryz.ntmps48
 go_upto_region 2 with fail
 obtain ⟨w1, hw1⟩ : ∃ w1, w1 = (w.alloc (.cells (List.replicate 16 (.int .u8 0)).toArray 29)).alloc (.cells (List.replicate 16 (.int .u8 0)).toArray 29) := ⟨_, rfl⟩
 have HB1 : Hid (Bx w1 w.heap.size 29 (List.replicate 16 (.int .u8 0)) ∧ Bx w1 (w.heap.size + 1) 29 (blkN zs a 0) ∧ Below w.heap.size w w1) := by
  rw [hw1]
  refine ⟨(Bx.new w 29 _).below ((Below.refl _ _).alloc (Nat.le_refl _) _), ?_, ((Below.refl _ _).alloc (Nat.le_refl _) _).alloc (by simp) _⟩
  have q := Bx.new (w.alloc (.cells (List.replicate 16 (.int .u8 0)).toArray 29)) 29 (List.replicate 16 (.int .u8 0))
  rw [blkN_0]
  simpa using q
 have hw1' : w1 = (w.alloc (.cells #[.int .u8 0, .int .u8 0, .int .u8 0, .int .u8 0, .int .u8 0, .int .u8 0, .int .u8 0, .int .u8 0, .int .u8 0, .int .u8 0, .int .u8 0, .int .u8 0, .int .u8 0, .int .u8 0, .int .u8 0, .int .u8 0] 29)).alloc (.cells #[.int .u8 0, .int .u8 0, .int .u8 0, .int .u8 0, .int .u8 0, .int .u8 0, .int .u8 0, .int .u8 0, .int .u8 0, .int .u8 0, .int .u8 0, .int .u8 0, .int .u8 0, .int .u8 0, .int .u8 0, .int .u8 0] 29) := hw1
 rw [← hw1']
 clear hw1 hw1'
 obtain ⟨m, HM⟩ : ∃ m, Hid (w.heap.size = m) := ⟨_, rfl⟩
 rw [HM.out] at HB1 ⊢
 go_wp2
 go_loopw [6] (fun vi wr => ∃ k : Nat, vi = .int .i64 (k : Nat) ∧ k ≤ 16 ∧ Hid (Bx wr m 29 (List.replicate 16 (.int .u8 0)) ∧ Bx wr (m + 1) 29 (blkN zs a k) ∧ Below m w wr)) (fun vi _ => 16 - (intOf vi).toNat)
 case atStart => exact ⟨0, rfl, by omega, HB1⟩
 case round =>
  obtain ⟨k, rfl, hk, HR⟩ := hrel
  clear HB1
  by_cases hlt : k < 16
  ·obtain ⟨z, HZ⟩ : ∃ z, Hid (zs.getD (a + k) 0 = z) := ⟨_, rfl⟩
   obtain ⟨q, HQ⟩ : ∃ q : Nat, Hid (q = a + k) := ⟨_, rfl⟩
   have hw : IntKind.i64.wrap ((a : Int) + (k : Int)) = (q : Int) := by rw [IntKind.wrap_i64, HQ.out]; omega
   have hcc : wr.cell? ⟨b, off + q, none⟩ = some (.int .u8 z) := by
    have p := HC.out (a + k) (by omega)
    rw [HQ.out, HR.out.2.2.cell (by have := World.block_lt_of_cell? w _ p; rw [HM.out] at this; exact this), p, HZ.out]
   have g0 : (0 : Int) ≤ (k : Int) := by omega
   have g1 : (k : Int) < 16 := by omega
   have g2 : (0 : Int) ≤ (q : Int) := by omega
   have g3 : (q : Int) < (n : Int) := by rw [HQ.out]; omega
   have g4 : (a : Int) + (k : Int) = (q : Int) := by rw [HQ.out]; omega
   have d0 : wr.cell? ⟨m + 1, k, none⟩ = some (.int .u8 (if k < k then zs.getD (a + k) 0 else 0)) := HR.out.2.1.cell k _ (blkN_at zs a k k hlt)
   have d1 : wr.frozen? ⟨m + 1, k, none⟩ = false := HR.out.2.1.frozen k
   rw [if_neg (by omega)] at d0
   have HR2 : Hid (Bx (wr.setCell ⟨m + 1, k, none⟩ (.int .u8 z)) m 29 (List.replicate 16 (.int .u8 0)) ∧ Bx (wr.setCell ⟨m + 1, k, none⟩ (.int .u8 z)) (m + 1) 29 (blkN zs a (k + 1)) ∧ Below m w (wr.setCell ⟨m + 1, k, none⟩ (.int .u8 z))) := by
    refine ⟨HR.out.1.keep (Below.heap_setCell _ ⟨m + 1, k, none⟩ _ m (by show m ≠ m + 1; omega)), ?_, HR.out.2.2.setCell (by show m ≤ m + 1; omega) _⟩
    have p := HR.out.2.1.set k (.int .u8 z)
    rw [← HZ.out, blkN_set zs a k hlt, HZ.out] at p
    exact p
   clear HR
   go_wp2
   exact ⟨⟨k + 1, by simp, by omega, HR2⟩, by simp [intOf]; omega⟩
  ·have g1 : ¬ (k : Int) < 16 := by omega
   have HE : Hid (Bx wr m 29 (List.replicate 16 (.int .u8 0)) ∧ Bx wr (m + 1) 29 (blkL zs a) ∧ Below m w wr) := by
    have p := HR.out
    rw [show k = 16 by omega, blkN_16] at p
    exact p
   clear HR
   go_wp2_with (first
    | (refine wpList_load_mid (by rfl) 29 (.tmp 5) (by rfl) (m + 1) 0 (by rfl) (blkL zs a) _ HE.out.2.1.range Tryz.underlying29 rfl (by rw [blkL_len]; kernel_rfl) ?_)
    | (refine wpList_store_bx (by rfl) 29 (.tmp 4) (.tmp 19) (by rfl) (List.replicate 16 (.int .u8 0)) (blkL zs a) m (by rfl) (by rfl) HE.out.1 (by rw [blkL_len]; rfl) (by rw [blkL_len]; kernel_rfl) (blkL_one zs a) ?_; intro u9 hb9 hg9))
   refine ret_one (b := m) (blkL zs a) rfl rfl hb9.range Tryz.underlying29 rfl (by rw [blkL_len]; kernel_rfl) ⟨rfl, ?_⟩
   have hfin : Below m w u9 := HE.out.2.2.trans (below_gb hg9 (by have := HE.out.2.2.size; have := HM.out; omega) (Nat.le_refl _))
   first | exact hfin | (rw [HM.out]; exact hfin)
end Go.Proofs.YtcnikfikpnnblaaGreatDoor
