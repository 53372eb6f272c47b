import Derived.Test.YtgmfiljjogdccaaDoorRk4
import Derived.Test.YtgmfiljjogdccaaDoorRk6
import Derived.Test.YtgmfiljjogdccaaDoorRk8
import Derived.Test.YtgmfiljjogdccaaDoorRkg
import Derived.Test.YtgmfiljjogdccaaDoorRkh
import Derived.Test.YtgmfiljjogdccaaDoorNew
import Derived.Test.YtgmfiljjogdccaaDoorSpoilNil
import Derived.Test.YtgmfiljjogdccaaDoorBytes
namespace Go.Proofs.YtgmfiljjogdccaaDoor
open Go.RowKit
set_option linter.unusedVariables false
/-- A list of bytes as numbers. -/
def nat8K (zs : List Int) (i : Nat) : Nat := (zs.getD i 0).toNat
theorem nat8K_lt {zs : List Int} (h : AllBytes zs) (i : Nat) : nat8K zs i < 256 := by have := h i; unfold nat8K; omega
theorem nat8K_eq {zs : List Int} (h : AllBytes zs) (i : Nat) : ((nat8K zs i : Nat) : Int) = zs.getD i 0 := by have := h i; unfold nat8K; omega
theorem View.belowK {w u : World} {v : Value} {zs : List Int} (h : View w v zs) (hb : Below w.heap.size w u) : View u v zs := h.kept hb.block
theorem RC.belowK {w w' : World} (h : RC w) (hb : Below w.heap.size w w') (h0 : 0 < w.heap.size) : RC w' := fun i hi => (hb.cell (p := ⟨0, i, none⟩) h0).trans (h i hi)
theorem num_okK (x : Int) (w : World) : Calls Tryd.prog 11 #[.int .i64 x] w fun e w' => e = .returned (.int .i64 x) ∧ w' = w := by
  go_enter Tryd.func11, Tryd.ntmps11
  go_wp2
  go_ret
  exact ⟨rfl, rfl⟩
theorem there_sameK {u u' : World} {B o n : Nat} (h : u.there B o n) (e : u'.heap[B]? = u.heap[B]?) : u'.there B o n := fun j hj => by
  rw [World.cell?_of_block (a := ⟨B, o + j, none⟩) e, World.frozen?_of_block (a := ⟨B, o + j, none⟩) e]; exact h j hj
theorem KeyAt.sameK {u u' : World} {g nr : Nat} {K : Nat → Nat} (h : KeyAt u g nr K) (e : u'.heap[g]? = u.heap[g]?) (hs : u.heap.size ≤ u'.heap.size) : KeyAt u' g nr K := by
  have c : ∀ j : Nat, u'.cell? ⟨g, j, none⟩ = u.cell? ⟨g, j, none⟩ := fun j => World.cell?_of_block (a := ⟨g, j, none⟩) e
  exact ⟨⟨(c _).trans h.ciph.rounds, fun i hi => (c _).trans (h.ciph.words i hi), h.ciph.small, ⟨fun b hb => (c _).trans (h.ciph.tab.s b hb), fun b hb => (c _).trans (h.ciph.tab.u b hb), fun b hb => (c _).trans (h.ciph.tab.m b hb), fun b hb => (c _).trans (h.ciph.tab.n b hb)⟩, Nat.lt_of_lt_of_le h.ciph.here hs, h.ciph.some, h.ciph.most⟩, (c _).trans h.count, there_sameK h.room e⟩
theorem rnew_ok (kb ko n cap nk : Nat) (key : Nat → Nat) (w : World) (hnk : nk = 4 ∨ nk = 6 ∨ nk = 8) (hn : n = 4 * nk) (hkb : kb < w.heap.size) (hcell : ∀ i, i < n → w.cell? ⟨kb, ko + i, none⟩ = some (.int .u8 (key i : Nat))) (hkey : ∀ i, key i < 256) :
    Calls Tryd.prog 10 #[.slice (some ⟨kb, ko, none⟩) n cap] w fun e w' => ∃ gr, e = .returned (.tuple #[.pointer (some ⟨w.heap.size, 0, none⟩), .int .i64 0]) ∧ RefAt w' w.heap.size gr nk (schedK nk key) ∧ Below w.heap.size w w' := by
  subst hn
  rcases hnk with rfl | rfl | rfl
  · exact rnew4_ok kb ko cap key w hkb hcell hkey
  · exact rnew6_ok kb ko cap key w hkb hcell hkey
  · exact rnew8_ok kb ko cap key w hkb hcell hkey
theorem marked_owns {B g c : Nat} {w : World} {zs : List Int} (h : w.ownsRow B 5 1 (.slice (some ⟨g, 0, none⟩) (zs.length + 70) c) (zs.length + 70) (cellsU8 (zs ++ marks 70))) : w.ownsRow B 5 1 (.slice (some ⟨g, 0, none⟩) zs.length c) zs.length (cellsU8 zs) := by
  refine ⟨by rw [cellsU8_length]; omega, .inr ?_⟩
  rcases h.2 with ⟨h', _⟩ | ⟨g', c', cur, he, h1, h2, h3, h4, h5, h6⟩
  · cases h'
  · simp only [Value.slice.injEq, Option.some.injEq, Addr.mk.injEq, and_true, true_and] at he
    obtain ⟨rfl, rfl⟩ := he
    refine ⟨g, c, cur, rfl, h1, h2, by omega, h4, h5, ?_⟩
    have := congrArg (List.take (zs.length * 1)) h6
    rw [List.take_take, Nat.min_eq_left (by omega), cellsU8_append, Nat.mul_one, List.take_left' (cellsU8_length zs)] at this
    rw [Nat.mul_one]
    exact this
/-- Both sides' keys. -/
structure LwS (w : World) (g g2 gr nk : Nat) (K : Nat → Nat) (u : World) : Prop where
  old : Below w.heap.size w u
  k : KeyAt u g (nk + 6) K
  r : RefAt u g2 gr nk K
  kg : w.heap.size ≤ g ∧ g < g2 ∧ g2 < gr
theorem LwS.lt {w u : World} {g g2 gr nk : Nat} {K : Nat → Nat} (h : LwS w g g2 gr nk K u) : g < u.heap.size ∧ g2 < u.heap.size ∧ gr < u.heap.size := ⟨h.k.ciph.here, h.r.lt, h.r.ltr⟩
theorem LwS.below {w u u' : World} {g g2 gr nk : Nat} {K : Nat → Nat} (h : LwS w g g2 gr nk K u) (hb : Below u.heap.size u u') : LwS w g g2 gr nk K u' :=
  ⟨h.old.trans (hb.mono h.old.size), h.k.sameK (hb.block g h.lt.1) hb.size, h.r.keep (hb.block g2 h.lt.2.1) (hb.block gr h.lt.2.2) hb.size, h.kg⟩
theorem LwS.touch {w u u' : World} {g g2 gr nk : Nat} {K : Nat → Nat} (h : LwS w g g2 gr nk K u) (ht : Touch u u' g 4 1) (hk : KeyAt u' g (nk + 6) K) : LwS w g g2 gr nk K u' := by
  have := h.kg
  exact ⟨h.old.trans (ht.toBelow this.1 h.old.size), hk, h.r.keep (ht.block g2 h.lt.2.1 (by omega)) (ht.block gr h.lt.2.2 (by omega)) ht.size, h.kg⟩
theorem LwS.grown {w u u' : World} {g g2 gr nk t : Nat} {K : Nat → Nat} (h : LwS w g g2 gr nk K u) (hg : u.grownBy u' (some t)) (ht : w.heap.size ≤ t) (h1 : t ≠ g) (h2 : t ≠ g2) (h3 : t ≠ gr) : LwS w g g2 gr nk K u' :=
  ⟨h.old.grown hg h.old.size (fun q hq => by simp at hq; omega), h.k.sameK (hg.block g h.lt.1 (by simp; omega)) hg.size, h.r.keep (hg.block g2 h.lt.2.1 (by simp; omega)) (hg.block gr h.lt.2.2 (by simp; omega)) hg.size, h.kg⟩
/-- Words where they lie. -/
structure Wr (u : World) (t m : Nat) (K : Nat → Nat) : Prop where
  lt : t < u.heap.size
  c : ∀ i, i < m → u.cell? ⟨t, i, none⟩ = some (.int .u32 (K i : Nat))
theorem Wr.same {u u' : World} {t m : Nat} {K : Nat → Nat} (h : Wr u t m K) (e : u'.heap[t]? = u.heap[t]?) (hs : u.heap.size ≤ u'.heap.size) : Wr u' t m K :=
  ⟨Nat.lt_of_lt_of_le h.lt hs, fun i hi => (World.cell?_of_block (a := ⟨t, i, none⟩) e).trans (h.c i hi)⟩
theorem Wr.below {u u' : World} {t m : Nat} {K : Nat → Nat} (h : Wr u t m K) (hb : Below u.heap.size u u') : Wr u' t m K := h.same (hb.block t h.lt) hb.size
theorem own_wr {u : World} {B m : Nat} {v : Value} {K : Nat → Nat} (h : u.ownsRow B 50 1 v m (wordsL K m)) (hm : 0 < m) : ∃ t c, v = .slice (some ⟨t, 0, none⟩) m c ∧ B ≤ t ∧ Wr u t m K := by
  have h0 := h
  rcases h.2 with ⟨_, h'⟩ | ⟨t, c, cur, rfl, h1, h2, _⟩
  · omega
  · refine ⟨t, c, rfl, h1, (Array.getElem?_eq_some_iff.1 h2).1, fun i hi => ?_⟩
    rw [h0.cellAt i (by omega)]
    exact wordsL_at K m i hi
theorem wordsL_u32 (K : Nat → Nat) (m : Nat) : wordsL K m = cellsU32 ((List.range m).map fun i => ((K i : Nat) : Int)) := by simp [wordsL, cellsU32]
set_option maxHeartbeats 3200000 in
set_option maxRecDepth 100000 in
theorem keys_bad (a : Option Addr) (cap : Nat) (kz : List Int) (w : World) (hv : View w (.slice a kz.length cap) kz) (hl : kz.length ≤ 140737488351232) (hn : kz.length ≠ 16 ∧ kz.length ≠ 24 ∧ kz.length ≠ 32) :
    Calls Tryd.prog 3 #[.slice a kz.length cap] w fun e w' => e = .returned (.bool true) ∧ Below w.heap.size w w' := by
  have KC : Hid (Calls Tryd.prog 8 #[.slice a kz.length cap] w fun e w' => ∃ v', e = .returned v' ∧ Marked w.heap.size w' v' kz ∧ Below w.heap.size w w') := copy_any _ kz w (by omega) hv
  have HV : Hid (View w (.slice a kz.length cap) kz) := hv
  have HN : Hid (kz.length ≠ 16 ∧ kz.length ≠ 24 ∧ kz.length ≠ 32) := hn
  clear hv hn
  obtain ⟨n, HNN⟩ : ∃ n, Hid (n = kz.length) := ⟨_, rfl⟩
  rw [← HNN.out] at KC HV HN hl ⊢
  go_enter Tryd.func3, Tryd.ntmps3
  go_wp2_with (first | (go_at_call 8; refine KC.out.mono ?_))
  rintro e1 w1 ⟨v1, rfl, hm1, hb1⟩
  obtain ⟨go, co, rfl, hgo⟩ := hm1
  have HM : Hid (Marked w.heap.size w1 (.slice (some ⟨go, 0, none⟩) n co) kz) := ⟨go, co, by rw [HNN.out], hgo⟩
  have HB : Hid (Below w.heap.size w w1) := hb1
  clear hgo hb1 KC
  rw [← HNN.out]
  have KN : Hid (Calls Tryd.prog 9 #[.slice (some ⟨go, 0, none⟩) n co] w1 fun e w' => e = .returned (.tuple #[.pointer none, .int .i64 20]) ∧ w' = w1) := new_bad _ n co w1 HN.out
  have KR : Hid (Calls Tryd.prog 10 #[.slice a n cap] w1 fun e w' => e = .returned (.tuple #[.pointer none, .int .i64 20]) ∧ w' = w1) := rnew_bad a n cap w1 HN.out
  have KW : Hid (Calls Tryd.prog 12 #[.slice (some ⟨go, 0, none⟩) n co, .slice a n cap] w1 fun e w' => e = .returned (.bool true) ∧ ∃ m, w' = w1.drewN m) := whole_any _ _ kz w.heap.size w1 HM.out (View.belowK HV.out HB.out)
  go_wp2_with (first
    | (go_at_call 9; refine KN.out.mono ?_; rintro e2 w2 ⟨rfl, hw2⟩; obtain rfl := hw2.symm)
    | (go_at_call 10; refine KR.out.mono ?_; rintro e2 w2 ⟨rfl, hw2⟩; obtain rfl := hw2.symm)
    | (go_at_call 11; refine (num_okK _ _).mono ?_; rintro e9 w9 ⟨rfl, hw9⟩; obtain rfl := hw9.symm)
    | (go_at_call 12; refine KW.out.mono ?_))
  rintro e3 w3 ⟨rfl, m3, rfl⟩
  go_wp2_with (first
    | (go_at_call 13; refine (size_nil _).mono ?_; rintro e9 w9 ⟨rfl, hw9⟩; obtain rfl := hw9.symm)
    | (go_at_call 14; refine (rounds_nil _).mono ?_; rintro e9 w9 ⟨rfl, hw9⟩; obtain rfl := hw9.symm)
    | (go_at_call 15; refine (words_nil _).mono ?_; rintro e9 w9 ⟨rfl, hw9⟩; obtain rfl := hw9.symm))
  go_ret
  exact ⟨rfl, Below.drewN HB.out _⟩
theorem Touch.grownT {w w' : World} {g o n : Nat} (h : Touch w w' g o n) : w.grownBy w' (some g) := ⟨h.os, h.tape, h.output, h.size, fun k hk hne => h.block k hk (fun e => hne (by rw [e]))⟩
theorem below_drewN (u : World) (m : Nat) : Below u.heap.size u (u.drewN m) := Below.drewN (Below.refl _ _) m
set_option maxHeartbeats 6400000 in
set_option maxRecDepth 100000 in
theorem keys_good (kb ko cap nk : Nat) (kz : List Int) (w : World) (hrc : RC w) (hnk : nk = 4 ∨ nk = 6 ∨ nk = 8) (hl : kz.length = 4 * nk) (hv : View w (.slice (some ⟨kb, ko, none⟩) (4 * nk) cap) kz) (hb : AllBytes kz) (hkb : kb < w.heap.size) (hcell : ∀ i, i < 4 * nk → w.cell? ⟨kb, ko + i, none⟩ = some (.int .u8 (kz.getD i 0))) :
    Calls Tryd.prog 3 #[.slice (some ⟨kb, ko, none⟩) (4 * nk) cap] w fun e w' => e = .returned (.bool true) ∧ Below w.heap.size w w' := by
  have KC : Hid (Calls Tryd.prog 8 #[.slice (some ⟨kb, ko, none⟩) (4 * nk) cap] w fun e w' => ∃ v', e = .returned v' ∧ Marked w.heap.size w' v' kz ∧ Below w.heap.size w w') := copy_any _ kz w (by omega) hv
  have HV : Hid (View w (.slice (some ⟨kb, ko, none⟩) (4 * nk) cap) kz) := hv
  have HPOS : Hid (0 < w.heap.size) := World.block_lt_of_cell? w _ (hrc 0 (by decide))
  have HRC : Hid (RC w) := hrc
  have HNK : Hid (nk = 4 ∨ nk = 6 ∨ nk = 8) := hnk
  have HL : Hid (kz.length = 4 * nk) := hl
  have HKB : Hid (kb < w.heap.size) := hkb
  have HKEY : Hid (∀ i, nat8K kz i < 256) := nat8K_lt hb
  have HBY : Hid (AllBytes kz) := hb
  have HCELL : Hid (∀ i, i < 4 * nk → w.cell? ⟨kb, ko + i, none⟩ = some (.int .u8 (nat8K kz i : Nat))) := fun i hi => by rw [hcell i hi, nat8K_eq hb]
  obtain ⟨K, HK⟩ : ∃ K, Hid (K = schedK nk (nat8K kz)) := ⟨_, rfl⟩
  have HKlt : Hid (∀ j, K j < 4294967296) := by show ∀ j, _; rw [HK.out]; exact schedK_lt HKEY.out
  have hnk8 : nk ≤ 8 := by omega
  clear hv hrc hnk hl hkb hcell hb
  obtain ⟨n, HN⟩ : ∃ n, Hid (n = 4 * nk) := ⟨_, rfl⟩
  obtain ⟨m, HM⟩ : ∃ m, Hid (m = 4 * (nk + 7)) := ⟨_, rfl⟩
  obtain ⟨nr, HNR⟩ : ∃ n, Hid (n = nk + 6) := ⟨_, rfl⟩
  have hm0 : 0 < m := by have := HM.out; omega
  have hm1 : m ≤ 1000 := by have := HM.out; omega
  rw [← HN.out] at KC HV ⊢
  go_enter Tryd.func3, Tryd.ntmps3
  go_wp2_with (first | (go_at_call 8; refine KC.out.mono ?_))
  rintro e1 w1 ⟨v1, rfl, hm1', hb1⟩
  obtain ⟨go, co, rfl, hgo⟩ := hm1'
  have HGO : Hid (w1.ownsRow w.heap.size 5 1 (.slice (some ⟨go, 0, none⟩) (kz.length + 70) co) (kz.length + 70) (cellsU8 (kz ++ marks 70))) := hgo
  have hgl := hgo.lt go rfl
  have HB1 : Hid (Below w.heap.size w w1) := hb1
  have HGL : Hid (w.heap.size ≤ go ∧ go < w1.heap.size) := hgl
  have hcz : ∀ i, i < n → w1.cell? ⟨go, 0 + i, none⟩ = some (.int .u8 (nat8K kz i : Nat)) := fun i hi => by
    have hil : i < kz.length := by have h1 := HN.out; have h2 := HL.out; omega
    rw [Nat.zero_add, (marked_owns hgo).cellAt i (by omega), cellsU8, List.getElem?_map, List.getElem?_eq_getElem hil]
    have hbn : ((nat8K kz i : Nat) : Int) = kz.getD i 0 := nat8K_eq HBY.out i
    rw [hbn, List.getD_eq_getElem?_getD, List.getElem?_eq_getElem hil]
    rfl
  have KN : Hid (Calls Tryd.prog 9 #[.slice (some ⟨go, 0, none⟩) n co] w1 fun e w' => ∃ g, e = .returned (.tuple #[.pointer (some ⟨g, 0, none⟩), .int .i64 0]) ∧ w1.heap.size ≤ g ∧ KeyAt w' g (nk + 6) K ∧ Below w1.heap.size w1 w') := by
    rw [HK.out]
    exact new_ok go 0 n co nk (nat8K kz) w1 HNK.out HN.out hgl.2 hcz HKEY.out (RC.belowK HRC.out (by exact hb1) HPOS.out) (Nat.lt_of_lt_of_le HPOS.out hb1.size)
  rw [show kz.length = n by rw [HL.out, HN.out]]
  clear hgo hb1 KC hgl hcz
  go_wp2_with (first | (go_at_call 9; refine KN.out.mono ?_))
  rintro e2 w2 ⟨g, rfl, hg2, hk2, hb2⟩
  have HB2 : Hid (Below w1.heap.size w1 w2) := hb2
  have HK2 : Hid (KeyAt w2 g (nk + 6) K ∧ w1.heap.size ≤ g) := ⟨hk2, hg2⟩
  have HBw2 : Hid (Below w.heap.size w w2) := HB1.out.trans (hb2.mono HB1.out.size)
  have KR : Hid (Calls Tryd.prog 10 #[.slice (some ⟨kb, ko, none⟩) n cap] w2 fun e w' => ∃ gr, e = .returned (.tuple #[.pointer (some ⟨w2.heap.size, 0, none⟩), .int .i64 0]) ∧ RefAt w' w2.heap.size gr nk K ∧ Below w2.heap.size w2 w') := by
    rw [HK.out]
    exact rnew_ok kb ko n cap nk (nat8K kz) w2 HNK.out HN.out (Nat.lt_of_lt_of_le HKB.out HBw2.out.size) (fun i hi => (HBw2.out.cell (p := ⟨kb, ko + i, none⟩) HKB.out).trans (HCELL.out i (by have := HN.out; omega))) HKEY.out
  clear hk2 hb2 hg2 KN
  go_wp2_with (first | (go_at_call 10; refine KR.out.mono ?_))
  rintro e3 w3 ⟨gr, rfl, hr3, hb3⟩
  obtain ⟨g2, HG2⟩ : ∃ x, Hid (x = w2.heap.size) := ⟨_, rfl⟩
  rw [← HG2.out] at hr3 ⊢
  have HS3 : Hid (LwS w g g2 gr nk K w3) := ⟨HBw2.out.trans (hb3.mono HBw2.out.size), HK2.out.1.sameK (hb3.block g HK2.out.1.ciph.here) hb3.size, hr3, by have := HB1.out.size; have := HK2.out.2; omega, by have := HK2.out.1.ciph.here; have := HG2.out; omega, hr3.gt⟩
  have HNE : Hid (go ≠ g ∧ go ≠ g2 ∧ go ≠ gr) := by
    have h1 := HGL.out; have h2 := HK2.out.2; have h3 := HS3.out.kg
    exact ⟨by omega, by omega, by omega⟩
  have HGO3 : Hid (w3.ownsRow w.heap.size 5 1 (.slice (some ⟨go, 0, none⟩) (kz.length + 70) co) (kz.length + 70) (cellsU8 (kz ++ marks 70))) :=
    HGO.out.kept (row := none) ⟨((HB2.out.trans (hb3.mono HB2.out.size))).os, (HB2.out.trans (hb3.mono HB2.out.size)).tape, (HB2.out.trans (hb3.mono HB2.out.size)).output, (HB2.out.trans (hb3.mono HB2.out.size)).size, fun k hk _ => (HB2.out.trans (hb3.mono HB2.out.size)).block k hk⟩ (by simp [Value.ownBlock])
  have KW : Hid (Calls Tryd.prog 12 #[.slice (some ⟨go, 0, none⟩) n co, .slice (some ⟨kb, ko, none⟩) n cap] w3 fun e w' => e = .returned (.bool true) ∧ ∃ m, w' = w3.drewN m) :=
    whole_any _ _ kz w.heap.size w3 ⟨go, co, by rw [HL.out, HN.out], HGO3.out⟩ (View.belowK HV.out HS3.out.old)
  clear hr3 hb3 KR HGO
  go_wp2_with (first
    | (go_at_call 11; refine (num_okK _ _).mono ?_; rintro e9 w9 ⟨rfl, hw9⟩; obtain rfl := hw9.symm)
    | (go_at_call 12; refine KW.out.mono ?_))
  rintro e4 w4 ⟨rfl, m4, hw4⟩
  have HS4 : Hid (LwS w g g2 gr nk K w4) := by rw [hw4]; exact HS3.out.below (below_drewN _ _)
  have HGO4 : Hid (w4.ownsRow w.heap.size 5 1 (.slice (some ⟨go, 0, none⟩) kz.length co) kz.length (cellsU8 kz)) := by rw [hw4]; exact marked_owns HGO3.out
  have KSp : Hid (Calls Tryd.prog 16 #[.slice (some ⟨go, 0, none⟩) n co] w4 fun e w' => e = .returned (.tuple #[]) ∧ w4.grownBy w' (some go)) := by
    have := spoil_any w.heap.size kz.length (.slice (some ⟨go, 0, none⟩) kz.length co) kz w4 (by have := HL.out; omega) HS4.out.old.size HGO4.out
    rw [show kz.length = n by rw [HL.out, HN.out]] at this
    exact this
  clear hw4 KW HS3 HGO3 HGO4
  go_wp2_with (first | (go_at_call 16; refine KSp.out.mono ?_))
  rintro e5 w5 ⟨rfl, hg5⟩
  have HS5 : Hid (LwS w g g2 gr nk K w5) := HS4.out.grown hg5 HGL.out.1 HNE.out.1 HNE.out.2.1 HNE.out.2.2
  clear hg5 HS4 KSp
  have KWo : Hid (∀ u, LwS w g g2 gr nk K u → Calls Tryd.prog 15 #[.pointer (some ⟨g, 0, none⟩)] u fun e w' => ∃ t c, e = .returned (.slice (some ⟨t, 0, none⟩) m c) ∧ u.heap.size ≤ t ∧ w'.ownsRow u.heap.size 50 1 (.slice (some ⟨t, 0, none⟩) m c) m (wordsL K m) ∧ Wr w' t m K ∧ LwS w g g2 gr nk K w' ∧ Touch u w' g 4 1) := fun u hu =>
    (words_ok g (nk + 6) K u hu.k).mono fun e w' ⟨v, he, ho, hk, ht⟩ => by
      rw [show 4 * (nk + 6 + 1) = m by have := HM.out; omega] at ho
      obtain ⟨t, c, rfl, h1, h2⟩ := own_wr ho hm0
      exact ⟨t, c, he, h1, ho, h2, hu.touch ht hk, ht⟩
  have KRw : Hid (∀ u, LwS w g g2 gr nk K u → Calls Tryd.prog 18 #[.pointer (some ⟨g2, 0, none⟩)] u fun e w' => ∃ t c, e = .returned (.slice (some ⟨t, 0, none⟩) m c) ∧ Wr w' t m K ∧ LwS w g g2 gr nk K w' ∧ Below u.heap.size u w') := fun u hu =>
    (rwords_ok g2 gr nk K u hu.r hnk8 HKlt.out).mono fun e w' ⟨v, he, ho, hb⟩ => by
      rw [← HM.out] at ho
      obtain ⟨t, c, rfl, h1, h2⟩ := own_wr ho hm0
      exact ⟨t, c, he, h2, hu.below hb, hb⟩
  go_wp2_with (first | (go_at_call 15; refine (KWo.out _ HS5.out).mono ?_))
  rintro e6 w6 ⟨ta, ca, rfl, hta, hoa, hwa, hs6, ht6⟩
  have HS6 : Hid (LwS w g g2 gr nk K w6 ∧ Wr w6 ta m K ∧ w6.ownsRow w5.heap.size 50 1 (.slice (some ⟨ta, 0, none⟩) m ca) m (wordsL K m)) := ⟨hs6, hwa, hoa⟩
  have HTA : Hid (w.heap.size ≤ ta ∧ ta ≠ g ∧ ta ≠ g2 ∧ ta ≠ gr) := by
    have h1 := HS5.out.lt; have h2 := HS5.out.old.size
    exact ⟨by omega, by omega, by omega, by omega⟩
  have HSZ5 : Hid (w5.heap.size ≤ w6.heap.size) := ht6.size
  clear hs6 hwa hoa hta ht6
  go_wp2_with (first | (go_at_call 15; refine (KWo.out _ HS6.out.1).mono ?_))
  rintro e7 w7 ⟨tb, cb, rfl, htb, hob, hwb, hs7, ht7⟩
  have HS7 : Hid (LwS w g g2 gr nk K w7 ∧ Wr w7 ta m K ∧ Wr w7 tb m K ∧ w7.ownsRow w5.heap.size 50 1 (.slice (some ⟨ta, 0, none⟩) m ca) m (wordsL K m)) :=
    ⟨hs7, HS6.out.2.1.same (ht7.block ta HS6.out.2.1.lt HTA.out.2.1) ht7.size, hwb, HS6.out.2.2.kept (row := some g) (Touch.grownT ht7) (by right; have := HTA.out.2.1; simp [Value.ownBlock]; exact this)⟩
  have HTB : Hid (tb ≠ g ∧ tb ≠ ta) := by
    have h1 := HS6.out.1.lt; have h2 := HS6.out.2.1.lt
    exact ⟨by omega, by omega⟩
  have HSZ6 : Hid (w5.heap.size ≤ w7.heap.size) := Nat.le_trans HSZ5.out ht7.size
  clear hs7 hwb hob htb ht7
  go_wp2_with (first | (go_at_call 18; refine (KRw.out _ HS7.out.1).mono ?_))
  rintro e8 w8 ⟨tc, cc, rfl, hwc, hs8, hb8⟩
  have HS8 : Hid (LwS w g g2 gr nk K w8 ∧ Wr w8 ta m K ∧ Wr w8 tb m K ∧ w8.ownsRow w5.heap.size 50 1 (.slice (some ⟨ta, 0, none⟩) m ca) m (wordsL K m)) :=
    ⟨hs8, HS7.out.2.1.below hb8, HS7.out.2.2.1.below hb8, HS7.out.2.2.2.kept (row := none) ⟨hb8.os, hb8.tape, hb8.output, hb8.size, fun k hk _ => hb8.block k hk⟩ (by simp [Value.ownBlock])⟩
  have KS1 : Hid (Calls Tryd.prog 17 #[.slice (some ⟨ta, 0, none⟩) m ca, .slice (some ⟨tc, 0, none⟩) m cc] w8 fun e w' => e = .returned (.bool true) ∧ ∃ m, w' = w8.drewN m) := sameW ta tc ca cc m K w8 hm1 HS8.out.2.1.c hwc.c
  have HSZ7 : Hid (w5.heap.size ≤ w8.heap.size) := Nat.le_trans HSZ6.out hb8.size
  clear hwc hs8 hb8
  go_wp2_with (first | (go_at_call 17; refine KS1.out.mono ?_))
  rintro e9 w9 ⟨rfl, m9, hw9⟩
  have HS9 : Hid (LwS w g g2 gr nk K w9 ∧ Wr w9 tb m K ∧ w9.ownsRow w5.heap.size 50 1 (.slice (some ⟨ta, 0, none⟩) m ca) m (wordsL K m) ∧ w5.heap.size ≤ w9.heap.size ∧ ta < w9.heap.size) := by
    rw [hw9]
    have hb := below_drewN w8 m9
    exact ⟨HS8.out.1.below hb, HS8.out.2.2.1.below hb, HS8.out.2.2.2.kept (row := none) ⟨hb.os, hb.tape, hb.output, hb.size, fun k hk _ => hb.block k hk⟩ (by simp [Value.ownBlock]), HSZ7.out, HS8.out.2.1.lt⟩
  clear hw9 KS1
  have KSz : Hid (Calls Tryd.prog 13 #[.pointer (some ⟨g, 0, none⟩)] w9 fun e w' => e = .returned (.int .i64 (n : Nat)) ∧ KeyAt w' g (nk + 6) K ∧ Touch w9 w' g 4 1) :=
    (size_ok g (nk + 6) K w9 HS9.out.1.k (by omega)).mono fun e w' ⟨h1, h2⟩ => ⟨by rw [h1, show 4 * (nk + 6 - 6) = n by have := HN.out; omega], h2⟩
  go_wp2_with (first | (go_at_call 13; refine KSz.out.mono ?_))
  rintro e10 w10 ⟨rfl, hk10, ht10⟩
  have HS10 : Hid (LwS w g g2 gr nk K w10 ∧ Wr w10 tb m K ∧ w10.ownsRow w5.heap.size 50 1 (.slice (some ⟨ta, 0, none⟩) m ca) m (wordsL K m) ∧ w5.heap.size ≤ w10.heap.size) :=
    ⟨HS9.out.1.touch ht10 hk10, HS9.out.2.1.same (ht10.block tb HS9.out.2.1.lt HTB.out.1) ht10.size, HS9.out.2.2.1.kept (row := some g) (Touch.grownT ht10) (by right; have := HTA.out.2.1; simp [Value.ownBlock]; exact this), Nat.le_trans HS9.out.2.2.2.1 ht10.size⟩
  clear hk10 ht10 KSz
  have KRo : Hid (Calls Tryd.prog 14 #[.pointer (some ⟨g, 0, none⟩)] w10 fun e w' => e = .returned (.int .i64 (nr : Nat)) ∧ KeyAt w' g (nk + 6) K ∧ Touch w10 w' g 4 1) :=
    (rounds_ok g (nk + 6) K w10 HS10.out.1.k).mono fun e w' ⟨h1, h2⟩ => ⟨by rw [h1, HNR.out], h2⟩
  go_wp2_with (first | (go_at_call 14; refine KRo.out.mono ?_))
  rintro e11 w11 ⟨rfl, hk11, ht11⟩
  have HS11 : Hid (LwS w g g2 gr nk K w11 ∧ Wr w11 tb m K ∧ w11.ownsRow w5.heap.size 50 1 (.slice (some ⟨ta, 0, none⟩) m ca) m (wordsL K m) ∧ w5.heap.size ≤ w11.heap.size) :=
    ⟨HS10.out.1.touch ht11 hk11, HS10.out.2.1.same (ht11.block tb HS10.out.2.1.lt HTB.out.1) ht11.size, HS10.out.2.2.1.kept (row := some g) (Touch.grownT ht11) (by right; have := HTA.out.2.1; simp [Value.ownBlock]; exact this), Nat.le_trans HS10.out.2.2.2 ht11.size⟩
  clear hk11 ht11 KRo
  have KRr : Hid (Calls Tryd.prog 19 #[.pointer (some ⟨g2, 0, none⟩)] w11 fun e w' => e = .returned (.int .i64 (nr : Nat)) ∧ w' = w11) :=
    (rrounds_ok g2 gr nk K w11 HS11.out.1.r hnk8).mono fun e w' ⟨h1, h2⟩ => ⟨by rw [h1, HNR.out], h2⟩
  have KSw : Hid (Calls Tryd.prog 20 #[.slice (some ⟨ta, 0, none⟩) m ca] w11 fun e w' => e = .returned (.tuple #[]) ∧ w11.grownBy w' (some ta)) :=
    spoilW w5.heap.size m ta ca ((List.range m).map fun i => ((K i : Nat) : Int)) w11 (by omega) HS11.out.2.2.2 (by rw [← wordsL_u32]; exact HS11.out.2.2.1)
  go_wp2_with (first
    | (go_at_call 19; refine KRr.out.mono ?_; rintro e12 w12 ⟨rfl, hw12⟩; obtain rfl := hw12.symm)
    | (go_at_call 20; refine KSw.out.mono ?_))
  rintro e13 w13 ⟨rfl, hg13⟩
  have HS13 : Hid (LwS w g g2 gr nk K w13 ∧ Wr w13 tb m K) :=
    ⟨HS11.out.1.grown hg13 HTA.out.1 HTA.out.2.1 HTA.out.2.2.1 HTA.out.2.2.2, HS11.out.2.1.same (hg13.block tb HS11.out.2.1.lt (by have := HTB.out.2; simp; exact this)) hg13.size⟩
  clear hg13 KRr KSw
  go_wp2_with (first | (go_at_call 18; refine (KRw.out _ HS13.out.1).mono ?_))
  rintro e14 w14 ⟨td, cd, rfl, hwd, hs14, hb14⟩
  have HS14 : Hid (LwS w g g2 gr nk K w14) := hs14
  have KS2 : Hid (Calls Tryd.prog 17 #[.slice (some ⟨tb, 0, none⟩) m cb, .slice (some ⟨td, 0, none⟩) m cd] w14 fun e w' => e = .returned (.bool true) ∧ ∃ m, w' = w14.drewN m) := sameW tb td cb cd m K w14 hm1 (HS13.out.2.below hb14).c hwd.c
  clear hwd hs14 hb14
  go_wp2_with (first | (go_at_call 17; refine KS2.out.mono ?_))
  rintro e15 w15 ⟨rfl, m15, hw15⟩
  have HS15 : Hid (LwS w g g2 gr nk K w15) := by rw [hw15]; exact HS14.out.below (below_drewN _ _)
  clear hw15 KS2
  go_wp2_with (first | (go_at_call 15; refine (KWo.out _ HS15.out).mono ?_))
  rintro e16 w16 ⟨te, ce, rfl, hte, hoe, hwe, hs16, ht16⟩
  have HS16 : Hid (LwS w g g2 gr nk K w16 ∧ Wr w16 te m K) := ⟨hs16, hwe⟩
  clear hte hoe hwe hs16 ht16
  go_wp2_with (first | (go_at_call 18; refine (KRw.out _ HS16.out.1).mono ?_))
  rintro e17 w17 ⟨tf, cf, rfl, hwf, hs17, hb17⟩
  have HS17 : Hid (LwS w g g2 gr nk K w17) := hs17
  have KS3 : Hid (Calls Tryd.prog 17 #[.slice (some ⟨te, 0, none⟩) m ce, .slice (some ⟨tf, 0, none⟩) m cf] w17 fun e w' => e = .returned (.bool true) ∧ ∃ m, w' = w17.drewN m) := sameW te tf ce cf m K w17 hm1 (HS16.out.2.below hb17).c hwf.c
  clear hwf hs17 hb17
  go_wp2_with (first | (go_at_call 17; refine KS3.out.mono ?_))
  rintro e18 w18 ⟨rfl, m18, hw18⟩
  go_wp2
  go_ret
  exact ⟨rfl, Below.drewN HS17.out.old _⟩
/-- The law. -/
theorem keys_any (v : Value) (kz : List Int) (w : World) (hrc : RC w) (hv : View w v kz) (hb : AllBytes kz) (hl : kz.length ≤ 140737488351232) :
    Calls Tryd.prog 3 #[v] w fun e w' => e = .returned (.bool true) ∧ Below w.heap.size w w' := by
  have hv0 := hv
  obtain ⟨a, cap, rfl, h1, h2, h3, h4⟩ := hv
  by_cases hn : kz.length = 16 ∨ kz.length = 24 ∨ kz.length = 32
  · obtain ⟨nk, hnk, hlen⟩ : ∃ nk, (nk = 4 ∨ nk = 6 ∨ nk = 8) ∧ kz.length = 4 * nk := by
      rcases hn with h | h | h
      · exact ⟨4, by decide, h⟩
      · exact ⟨6, by decide, h⟩
      · exact ⟨8, by decide, h⟩
    rcases h4 with rfl | ⟨b, off, rfl, hc⟩
    · simp at hn
    · have hbl : b < w.heap.size := World.block_lt_of_cell? w _ (hc 0 (by omega))
      rw [hlen] at hv0 hc ⊢
      exact keys_good b off cap nk kz w hrc hnk hlen hv0 hb hbl hc
  · exact keys_bad a cap kz w hv0 hl ⟨fun h => hn (.inl h), fun h => hn (.inr (.inl h)), fun h => hn (.inr (.inr h))⟩
end Go.Proofs.YtgmfiljjogdccaaDoor
