import Derived.Test.YtgmfiljjogdccabGreatDoorPart44
import Derived.Test.YtgmfiljjogdccabGreatDoorPart45
import Derived.Test.YtgmfiljjogdccabGreatDoorPyg40
import Derived.Test.YtgmfiljjogdccabGreatDoorPyg42
import Derived.Test.YtgmfiljjogdccabGreatDoorPart42
import Derived.Test.YtgmfiljjogdccabGreatDoorPart43
import Derived.Test.YtgmfiljjogdccabGreatDoorPart48
import Derived.Test.YtgmfiljjogdccabGreatDoorPyg9
import Derived.Deep.MidRow
namespace Go.Proofs.YtgmfiljjogdccabGreatDoor
open Go.RowKit Go.RwLone Go.Conc.Locks
set_option linter.unusedVariables false
theorem one_any (w : World) (B m : Nat) (kx : Option Kx) (g : Bool) (an : Nat) (sx : Nat → Sx) (av lv : Value) (lz : List Int) (o : OpV) (h : BS w B m kx g g an sx av lv lz) (he : Even an sx) (ho : OpOk o) (hd : Dat w (BW m kx an sx av) o.dv o.zs) (han : an ≤ 1000) :
  Calls Tryz.prog 7 #[.pointer (some ⟨m, 0, none⟩), .agg o.L.toArray] w (OneP w B m kx an) := by
 by_cases h1 : o.k = 1
 ·exact one_xor w B m kx g an sx av lv lz o h he ho hd h1
 by_cases h2 : o.k = 2
 ·exact one_skip w B m kx g an sx av lv lz o h he ho hd h2
 by_cases h3 : o.k = 3
 ·by_cases hn : kE kx g ≠ 0
  ·exact one_stream0 w B m kx g an sx av lv lz o h he ho hd h3 han hn
  ·cases kx with
   | none => exact absurd (show kE none g ≠ 0 by show (1 : Int) ≠ 0; decide) hn
   | some k =>
    cases g with
    | true => exact absurd (show kE (some k) true ≠ 0 by show (21 : Int) ≠ 0; decide) hn
    | false => exact one_stream2 w B m (some k) false an sx av lv lz o h he ho hd h3 han k rfl rfl
 by_cases h4 : o.k = 4
 ·by_cases hn : kE kx g ≠ 0
  ·exact one_block0 w B m kx g an sx av lv lz o h he ho hd h4 hn
  ·cases kx with
   | none => exact absurd (show kE none g ≠ 0 by show (1 : Int) ≠ 0; decide) hn
   | some k =>
    cases g with
    | true => exact absurd (show kE (some k) true ≠ 0 by show (21 : Int) ≠ 0; decide) hn
    | false => exact one_block2 w B m (some k) false an sx av lv lz o h he ho hd h4 k rfl rfl
 by_cases h5 : o.k = 5
 ·exact one_wipe w B m kx g an sx av lv lz o h he ho hd h5
 by_cases h6 : o.k = 6
 ·exact one_wrap w B m kx g an sx av lv lz o h he ho hd h6
 by_cases h7 : o.k = 7
 ·exact one_unwrap w B m kx g an sx av lv lz o h he ho hd h7
 by_cases h8 : o.k = 8
 ·exact one_last w B m kx g an sx av lv lz o h he ho hd h8
 by_cases h9 : o.k = 9
 ·exact one_tells w B m kx g an sx av lv lz o h he ho hd h9
 exact one_other w B m kx g an sx av lv lz o h he ho hd ⟨h1, h2, h3, h4, h5, h6, h7, h8, h9⟩
/-- A script where it lies. -/
structure OpIn (w : World) (o : OpV) : Prop where
 ok : OpOk o
 vw : View w o.dv o.zs
 by' : AllBytes o.zs
def ScAt (w : World) (sa : Option Addr) (sn : Nat) (os : Nat → OpV) : Prop := sn = 0 ∨ ∃ b off, sa = some ⟨b, off, none⟩ ∧ b < w.heap.size ∧ ∀ i, i < sn → OpIn w (os i) ∧ w.rangeAt b (off + i * 20) (os i).L
/-- The book at its beginning. -/
theorem bs_start {u : World} (B : Nat) (kx : Option Kx) (hk : ∀ k, kx = some k → KOk k ∧ PK u k false ∧ RK u k false ∧ B ≤ k.g ∧ k.gr < u.heap.size) (hB : B ≤ u.heap.size) : BS (u.alloc (.cells #[gq (kx.map Kx.g), gq (kx.map Kx.g2), .slice none 0 0, .slice none 0 0] 35)) B u.heap.size kx false false 0 (fun _ => ⟨0, 0, ⟨0, 0, 0, 0⟩, 0, 0⟩) (.slice none 0 0) (.slice none 0 0) [] := by
 have hb : Below u.heap.size u (u.alloc (.cells #[gq (kx.map Kx.g), gq (kx.map Kx.g2), .slice none 0 0, .slice none 0 0] 35)) := (Below.refl _ _).alloc (Nat.le_refl _) _
 have hr := range_new u [gq (kx.map Kx.g), gq (kx.map Kx.g2), .slice none 0 0, .slice none 0 0] 35
 refine ⟨hr 0 _ rfl, hr 1 _ rfl, hr 2 _ rfl, hr 3 _ rfl, there_new u _ 35 4 (by show 4 ≤ 4; omega), fun k e => ?_, fun i hi => (by omega), World.ownsRow_nil _ _ _ _, view_nil _, bytes_nil, Nat.zero_le _, ⟨hB, fun i hi => (by omega), fun i j _ hj => (by omega)⟩, fun b q => (by simp [vblk, Value.ownBlock] at q), fun e => absurd rfl e⟩
 obtain ⟨q1, q2, q3, q4, q5⟩ := hk k e
 exact ⟨q1, q2.same (hb.block _ q2.lt) hb.size, q3.same (hb.block _ q3.lt) (fun q => hb.block _ q) hb.size, q4, q5⟩
theorem keyAt_free {w : World} {g nr : Nat} {K : Nat → Nat} (h : KeyAt w g nr K) : True := trivial
end Go.Proofs.YtgmfiljjogdccabGreatDoor
namespace Go.Proofs.YtgmfiljjogdccabGreatDoor
open Go.RowKit
set_option linter.unusedVariables false
theorem free_alloc (w : World) (R : Array Value) (h : R[0]? = Tryz.zeroCells62[0]?) : Free (w.alloc (.cells R 62)) w.heap.size := by
 show World.cell? _ _ = _
 rw [World.cell?_alloc_at _ 62 _ _ rfl, h]
 have := congrArg (fun l => l[0]?) zhead82
 simpa using this
set_option maxHeartbeats 3200000 in
set_option maxRecDepth 100000 in
theorem new_okF (kb ko n cap nk : Nat) (key : Nat → Nat) (w : World) (hnk : nk = 4 ∨ nk = 6 ∨ nk = 8) (hn : n = 4 * nk) (hkb : kb < w.heap.size) (hcell : ∀ i, i < n → w.cell? ⟨kb, ko + i, none⟩ = some (.int .u8 (key i : Nat))) (hkey : ∀ i, key i < 256) (hrc : RC w) (hpos : 0 < w.heap.size) :
  Calls Tryz.prog 4 #[.slice (some ⟨kb, ko, none⟩) n cap] w fun e w' => ∃ g, e = .returned (.tuple #[.pointer (some ⟨g, 0, none⟩), .int .i64 0]) ∧ w.heap.size ≤ g ∧ KeyAt w' g (nk + 6) (schedK nk key) ∧ Below w.heap.size w w' ∧ Free w' g := by
 obtain ⟨L, HL⟩ : ∃ L, Hid (L = cipL (nk + 6) (schedK nk key)) := ⟨_, rfl⟩
 have KS : Hid (Calls Tryz.prog 8 #[.slice (some ⟨kb, ko, none⟩) n cap] w fun e w' => e = .returned (.agg L.toArray) ∧ Below w.heap.size w w') := by
  rw [HL.out]
  exact sched_ok kb ko n cap nk key w hnk hn hkb hcell hkey hrc hpos
 obtain ⟨R, hR1, hR2, hR3, hR4⟩ := built82 L (by rw [HL.out]; exact cipL_length _ _)
 have HR : Hid (Tryz.prog.built 62 [(1, .agg L.toArray)] = some R) := hR1
 have HR2 : Hid (R.size = 1091 ∧ (∀ i, i < 6 → R[i]? = Tryz.zeroCells62[i]?) ∧ ∀ j v, (cipL (nk + 6) (schedK nk key))[j]? = some v → R[6 + j]? = some v) := ⟨hR2, hR3, by rw [← HL.out]; exact hR4⟩
 have HKl : Hid (1 ≤ nk + 6 ∧ nk + 6 ≤ 14 ∧ ∀ i, schedK nk key i < 4294967296) := ⟨by omega, by omega, schedK_lt hkey⟩
 clear hR1 hR2 hR3 hR4 hcell hkey hrc hkb hpos
 rcases hnk with rfl | rfl | rfl
 all_goals subst hn
 all_goals go_enter Tryz.func4, Tryz.ntmps4
 all_goals go_wp2_with (first
  | (go_at_call 8; refine KS.out.mono ?_)
  | fail)
 all_goals rintro e1 w1 ⟨rfl, hb1⟩
 all_goals (have HB : Hid (Below w.heap.size w w1) := hb1)
 all_goals clear hb1
 all_goals go_wp2_with (first
  | (refine wpList_build_big (by rfl) 62 #[(1, .tmp 11)] (by rfl) R (by simp only [List.map_toArray, List.map_cons, List.map_nil]; exact HR.out) ?_)
  | fail)
 all_goals go_ret2
 all_goals exact ⟨w1.heap.size, rfl, HB.out.size, keyAt_alloc w1 R _ _ HR2.out.1 HR2.out.2.1 HR2.out.2.2 HKl.out.1 HKl.out.2.1 HKl.out.2.2, HB.out.alloc HB.out.size _, free_alloc w1 R (HR2.out.2.1 0 (by omega))⟩
end Go.Proofs.YtgmfiljjogdccabGreatDoor
namespace Go.Proofs.YtgmfiljjogdccabGreatDoor
open Go.RowKit Go.RwLone Go.Conc.Locks
set_option linter.unusedVariables false
set_option linter.unusedSimpArgs false
theorem size40o : (Tryz.prog.info? 40).map (·.size) = some 20 := by kernel_rfl
/-- Twenty cells of a call. -/
structure O20 (L : List Value) : Prop where
 len : L.length = 20
 sz : (Tryz.prog.info? 40).map (·.size) = some L.length
 sza : (Tryz.prog.info? 40).map (·.size) = some L.toArray.size
 one : L.toArray.all (·.oneCell') = true
theorem o20 (o : OpV) : O20 o.L := ⟨rfl, size40o, size40o, by
 refine all_oneCell_toArray (fun v hv => ?_)
 unfold OpV.L at hv
 simp only [List.mem_cons, List.not_mem_nil, or_false] at hv
 rcases hv with rfl | rfl | rfl | rfl | rfl | rfl | rfl | rfl | rfl | rfl | rfl | rfl | rfl | rfl | rfl | rfl | rfl | rfl | rfl | rfl <;> rfl⟩
def OpV.cut (o : OpV) : OpV := ⟨o.k, o.a, o.n, o.s, o.da, 5000, o.dc, o.zs.take 5000⟩
theorem bytes_take {zs : List Int} (h : AllBytes zs) (n : Nat) : AllBytes (zs.take n) := fun i => by
 by_cases hi : i < n
 ·rw [List.getD_eq_getElem?_getD, List.getElem?_take, if_pos hi, ← List.getD_eq_getElem?_getD]; exact h i
 ·rw [List.getD_eq_getElem?_getD, List.getElem?_take, if_neg hi]; simp
theorem view_cut {w : World} {b off n c : Nat} {zs : List Int} (h : View w (.slice (some ⟨b, off, none⟩) n c) zs) (hn : zs.length = n) (h5 : 5000 < n) : View w (.slice (some ⟨b, off, none⟩) 5000 c) (zs.take 5000) := by
 obtain ⟨a, c', e, h1, h2, h3, h4⟩ := h
 simp only [Value.slice.injEq] at e
 obtain ⟨rfl, _, rfl⟩ := e
 refine ⟨_, _, by rw [List.length_take]; congr 1; omega, by rw [List.length_take]; omega, h2, h3, ?_⟩
 rcases h4 with h4 | ⟨b', off', e, h5'⟩
 ·exact .inl (by rw [h4]; rfl)
 ·refine .inr ⟨b', off', e, fun i hi => ?_⟩
  rw [List.length_take] at hi
  rw [List.getD_eq_getElem?_getD, List.getElem?_take, if_pos (by omega), ← List.getD_eq_getElem?_getD]
  exact h5' i (by omega)
theorem cut_in {w : World} {o : OpV} (h : OpIn w o) (h5 : 5000 < o.dn) : OpIn w o.cut := by
 obtain ⟨⟨h1, h2, h3, h4, h6⟩, hv, hb⟩ := h
 have hl : (o.zs.take 5000).length = 5000 := by rw [List.length_take]; omega
 refine ⟨⟨h1, h2, h3, hl, by show (o.zs.take 5000).length + 70 ≤ _; omega⟩, ?_, bytes_take hb 5000⟩
 obtain ⟨a, c, e, _, _, _, h7⟩ := id hv
 rcases h7 with h7 | ⟨b, off, rfl, _⟩
 ·rw [h7] at h4; simp at h4; omega
 ·unfold OpV.dv at hv e ⊢
  simp only [Value.slice.injEq] at e
  unfold OpV.cut
  rw [e.1] at hv ⊢
  exact view_cut hv h4 h5
theorem OpIn.some {w : World} {o : OpV} (h : OpIn w o) (h5 : 5000 < o.dn) : ∃ b off, o.da = some ⟨b, off, none⟩ ∧ o.dn ≤ o.dc := by
 obtain ⟨a, c, e, h1, _, _, h7⟩ := h.vw
 have hl := h.ok.len
 unfold OpV.dv at e
 simp only [Value.slice.injEq] at e
 rcases h7 with h7 | ⟨b, off, rfl, _⟩
 ·rw [h7] at hl; simp at hl; omega
 ·exact ⟨b, off, e.1, by rw [e.2.2]; omega⟩
theorem OpIn.dat {w u : World} {B m : Nat} {kx : Option Kx} {g : Bool} {an : Nat} {sx : Nat → Sx} {av lv : Value} {lz : List Int} {o : OpV} (h : OpIn w o) (eB : w.heap.size = B) (hb : Below B w u) (hs : BS u B m kx g g an sx av lv lz) : Dat u (BW m kx an sx av) o.dv o.zs :=
 ⟨view_keepP h.vw (fun e b q => hb.block b (by have := view_blks h.vw e b q; omega)), fun e b q x => by have h1 := view_blks h.vw e b q; have h2 := (hs.bw b x).1; omega, h.by'⟩
/-- A block that is none of the state's changed. -/
theorem bs_far {u v : World} {B m : Nat} {kx : Option Kx} {g : Bool} {an : Nat} {sx : Nat → Sx} {av lv : Value} {lz : List Int} {bx : Nat} (h : BS u B m kx g g an sx av lv lz) (hb : Below bx u v) (hn : ∀ q, BW m kx an sx av q → q < bx) (hl : lz ≠ [] → ∀ b, b ∈ vblk lv → b < bx) : BS v B m kx g g an sx av lv lz := by
 have hm := hn m (.inl rfl)
 have hc : ∀ j, v.cell? ⟨m, j, none⟩ = u.cell? ⟨m, j, none⟩ := fun j => World.cell?_of_block (a := ⟨m, j, none⟩) (hb.block m hm)
 refine ⟨(hc _).trans h.ck, (hc _).trans h.cr, (hc _).trans h.ca, (hc _).trans h.cl, there_sameG h.room (hb.block m hm), fun k e => ?_, fun i hi => ?_, ?_, ?_, h.lb, h.ll, h.ord, h.aa, h.la⟩
 ·obtain ⟨q1, q2, q3, q4, q5⟩ := h.kk k e
  exact ⟨q1, q2.same (hb.block _ (hn _ (.inr (.inl ⟨k, e, .inl rfl⟩)))) hb.size, q3.same (hb.block _ (hn _ (.inr (.inl ⟨k, e, .inr rfl⟩)))) (fun q => hb.block _ (by omega)) hb.size, q4, q5⟩
 ·obtain ⟨k, e, q1, q2⟩ := h.st i hi
  exact ⟨k, e, q1.sameG (hb.block _ (hn _ (.inr (.inr (.inl ⟨i, hi, .inl rfl⟩))))) hb.size, q2.sameG (hb.block _ (hn _ (.inr (.inr (.inl ⟨i, hi, .inr rfl⟩))))) hb.size⟩
 ·exact owns_same h.ar (fun b q => hb.block b (hn _ (.inr (.inr (.inr q)))))
 ·exact view_keepP h.lw (fun e b q => hb.block b (hl e b q))
end Go.Proofs.YtgmfiljjogdccabGreatDoor
namespace Go.Proofs.YtgmfiljjogdccabGreatDoor
open Go.RowKit Go.RwLone Go.Conc.Locks
set_option linter.unusedVariables false
set_option linter.unusedSimpArgs false
set_option maxHeartbeats 6400000 in
set_option maxRecDepth 100000 in
theorem plays_bad (ka : Option Addr) (kn kc : Nat) (sa : Option Addr) (sn sc : Nat) (os : Nat → OpV) (w : World) (hS : ScAt w sa sn os) (hsn : sn ≤ sc) (hsc : sc ≤ 9223372036854775807) (hk : kn ≠ 16 ∧ kn ≠ 24 ∧ kn ≠ 32) :
  Calls Tryz.prog 3 #[.slice ka kn kc, .slice sa sn sc] w fun e w' => e = .returned (.bool true) ∧ Below w.heap.size w w' := by
 have HS : Hid (ScAt w sa sn os) := hS
 have hsi : ((sn : Nat) : Int) ≤ 9223372036854775807 := by omega
 obtain ⟨B, HBE⟩ : ∃ B, Hid (w.heap.size = B) := ⟨_, rfl⟩
 have K4 : Hid (∀ u, Calls Tryz.prog 4 #[.slice ka kn kc] u fun e w' => e = .returned (.tuple #[.pointer none, .int .i64 20]) ∧ w' = u) := fun u => new_bad ka kn kc u hk
 have K5 : Hid (∀ u, Calls Tryz.prog 5 #[.slice ka kn kc] u fun e w' => e = .returned (.tuple #[.pointer none, .int .i64 20]) ∧ w' = u) := fun u => rnew_bad ka kn kc u hk
 have K6 : Hid (∀ u, Calls Tryz.prog 6 #[.int .i64 20] u fun e u' => e = .returned (.int .i64 20) ∧ u' = u) := num_o _
 have H3 : Hid (BS (w.alloc (.cells #[.pointer none, .pointer none, .slice none 0 0, .slice none 0 0] 35)) w.heap.size w.heap.size none false false 0 (fun _ => ⟨0, 0, ⟨0, 0, 0, 0⟩, 0, 0⟩) (.slice none 0 0) (.slice none 0 0) []) := bs_start w.heap.size none (fun k e => (by cases e)) (Nat.le_refl _)
 have HB3 : Hid (Below w.heap.size w (w.alloc (.cells #[.pointer none, .pointer none, .slice none 0 0, .slice none 0 0] 35))) := (Below.refl _ _).alloc (Nat.le_refl _) _
 clear hS hsn hsc hk
 obtain ⟨M, HM⟩ : ∃ M, Hid (w.heap.size = M) := ⟨_, rfl⟩
 go_enter Tryz.func3, Tryz.ntmps3
 go_upto_region 6 with (first
  | (go_at_call 4; refine (K4.out _).mono ?_; rintro e1 w1 ⟨rfl, hw1⟩; obtain rfl := hw1.symm)
  | (go_at_call 5; refine (K5.out _).mono ?_; rintro e2 w2 ⟨rfl, hw2⟩; obtain rfl := hw2.symm)
  | (go_at_call 6; refine (K6.out _).mono ?_; rintro e3 w3 ⟨rfl, hw3⟩; obtain rfl := hw3.symm))
 generalize (w.alloc (.cells #[.pointer none, .pointer none, .slice none 0 0, .slice none 0 0] 35)) = w3 at H3 HB3 ⊢
 have H3' : Hid (BS w3 B M none false false 0 (fun _ => ⟨0, 0, ⟨0, 0, 0, 0⟩, 0, 0⟩) (.slice none 0 0) (.slice none 0 0) []) := by have h := H3.out; rw [HBE.out] at h; have e : M = B := HM.out.symm.trans HBE.out; rw [e]; exact h
 clear H3
 have H3 := H3'
 clear H3'
 rw [HBE.out] at HB3
 rw [HM.out]
 go_wp2
 go_loopw [10] (fun vi wr => ∃ i : Nat, i ≤ sn ∧ i ≤ 24 ∧ vi = .int .i64 (i : Nat) ∧ Hid (Below B w wr ∧ ∃ g an sx av lv lz, an ≤ i ∧ BS wr B M none g g an sx av lv lz ∧ Even an sx)) (fun v _ => 24 - (intOf v).toNat)
 case atStart => exact ⟨0, by omega, by omega, rfl, HB3.out, false, 0, _, _, _, _, Nat.le_refl _, H3.out, fun i hi => by omega⟩
 case round =>
  obtain ⟨i, his, hi24, rfl, HR⟩ := hrel
  clear H3 HB3
  by_cases hlt : i < sn ∧ i < 24
  ·have h1 : ((i : Nat) : Int) < ((sn : Nat) : Int) := by omega
   have h2 : ((i : Nat) : Int) < 24 := by omega
   obtain ⟨b, off, rfl, hbl, hop⟩ : ∃ b off, sa = some ⟨b, off, none⟩ ∧ b < w.heap.size ∧ ∀ i, i < sn → OpIn w (os i) ∧ w.rangeAt b (off + i * 20) (os i).L := by
    rcases HS.out with h | h
    ·omega
    ·exact h
   obtain ⟨g, an, sx, av, lv, lz, han, hbs, hev⟩ := HR.out.2
   have HSR : Hid (BS wr B M none g g an sx av lv lz) := hbs
   have HEV : Hid (Even an sx) := hev
   have HAN : Hid (an ≤ i ∧ i < 24) := ⟨han, hlt.2⟩
   obtain ⟨o, HO⟩ : ∃ o, Hid (o = os i) := ⟨_, rfl⟩
   have HOI : Hid (OpIn w o) := by show OpIn _ _; rw [HO.out]; exact (hop i hlt.1).1
   obtain ⟨OL, HOL⟩ : ∃ L, Hid (L = o.L) := ⟨_, rfl⟩
   have HO20 : Hid (O20 OL) := by show O20 _; rw [HOL.out]; exact o20 o
   have HBR : Hid (Below B w wr) := HR.out.1
   have HRG : Hid (wr.rangeAt b (off + i * 20) OL) := fun j v hv => (HBR.out.cell (p := ⟨b, off + i * 20 + j, none⟩) (by show b < B; rw [← HBE.out]; exact hbl)).trans ((hop i hlt.1).2 j v (by rw [← HO.out, ← HOL.out]; exact hv))
   have c19 : Hid (OL[19]? = some (.slice o.da o.dn o.dc)) := by show _ = _; rw [HOL.out]; rfl
   have HDM : Hid (o.dn = o.zs.length ∧ o.zs.length + 70 ≤ 140737488355328) := ⟨HOI.out.ok.len.symm, HOI.out.ok.mx⟩
   clear hbs hev han hop hbl HR
   have HTA : Hid ((wr.alloc (.cells #[.int .i64 0, .int .i64 0, .int .u64 0, .int .u8 0, .int .u8 0, .int .u8 0, .int .u8 0, .int .u8 0, .int .u8 0, .int .u8 0, .int .u8 0, .int .u8 0, .int .u8 0, .int .u8 0, .int .u8 0, .int .u8 0, .int .u8 0, .int .u8 0, .int .u8 0, .slice none 0 0] 40)).there wr.heap.size 0 OL.toArray.size) := by
    have ez : OL.toArray.size = 20 := by rw [List.size_toArray]; exact HO20.out.len
    show World.there _ _ _ _
    rw [ez]
    exact there_new wr _ 40 20 (by show 20 ≤ 20; omega)
   have HBA : Hid (Below wr.heap.size wr (wr.alloc (.cells #[.int .i64 0, .int .i64 0, .int .u64 0, .int .u8 0, .int .u8 0, .int .u8 0, .int .u8 0, .int .u8 0, .int .u8 0, .int .u8 0, .int .u8 0, .int .u8 0, .int .u8 0, .int .u8 0, .int .u8 0, .int .u8 0, .int .u8 0, .int .u8 0, .int .u8 0, .slice none 0 0] 40))) := (Below.refl _ _).alloc (Nat.le_refl _) _
   go_upto_region 10 with (first
    | (refine wpList_load_mid (by rfl) 40 (.tmp 49) (by rfl) b (off + i * 20) (by rfl) OL _ HRG.out Tryz.underlying40 rfl HO20.out.sz ?_)
    | (refine wpList_store_mid (by rfl) 40 (.tmp 11) (.tmp 50) (by rfl) wr.heap.size 0 OL.toArray (by rfl) (by rfl) HTA.out HO20.out.sza HO20.out.one ?_))
   try rw [List.toList_toArray]
   obtain ⟨bx, HBX0⟩ : ∃ x, Hid (wr.heap.size = x) := ⟨_, rfl⟩
   have HW2 : Hid (Below wr.heap.size wr ((wr.alloc (.cells #[.int .i64 0, .int .i64 0, .int .u64 0, .int .u8 0, .int .u8 0, .int .u8 0, .int .u8 0, .int .u8 0, .int .u8 0, .int .u8 0, .int .u8 0, .int .u8 0, .int .u8 0, .int .u8 0, .int .u8 0, .int .u8 0, .int .u8 0, .int .u8 0, .int .u8 0, .slice none 0 0] 40)).setCells wr.heap.size 0 OL) ∧ ((wr.alloc (.cells #[.int .i64 0, .int .i64 0, .int .u64 0, .int .u8 0, .int .u8 0, .int .u8 0, .int .u8 0, .int .u8 0, .int .u8 0, .int .u8 0, .int .u8 0, .int .u8 0, .int .u8 0, .int .u8 0, .int .u8 0, .int .u8 0, .int .u8 0, .int .u8 0, .int .u8 0, .slice none 0 0] 40)).setCells wr.heap.size 0 OL).rangeAt wr.heap.size 0 OL ∧ ((wr.alloc (.cells #[.int .i64 0, .int .i64 0, .int .u64 0, .int .u8 0, .int .u8 0, .int .u8 0, .int .u8 0, .int .u8 0, .int .u8 0, .int .u8 0, .int .u8 0, .int .u8 0, .int .u8 0, .int .u8 0, .int .u8 0, .int .u8 0, .int .u8 0, .int .u8 0, .int .u8 0, .slice none 0 0] 40)).setCells wr.heap.size 0 OL).there wr.heap.size 0 20) := by
    have ez : OL.toArray.size = OL.length := List.size_toArray ..
    refine ⟨belowB_setCells _ (Nat.le_refl _) _ _ _ HBA.out, World.rangeAt_setCells_same _ _ _ _ (by have := HTA.out; rw [ez] at this; exact this), World.there_setCells (there_new wr _ 40 20 (by show 20 ≤ 20; omega)) _ _ _⟩
   generalize ((wr.alloc (.cells #[.int .i64 0, .int .i64 0, .int .u64 0, .int .u8 0, .int .u8 0, .int .u8 0, .int .u8 0, .int .u8 0, .int .u8 0, .int .u8 0, .int .u8 0, .int .u8 0, .int .u8 0, .int .u8 0, .int .u8 0, .int .u8 0, .int .u8 0, .int .u8 0, .int .u8 0, .slice none 0 0] 40)).setCells wr.heap.size 0 OL) = w4 at HW2 ⊢
   have HS4 : Hid (BS w4 B M none g g an sx av lv lz) := HSR.out.below HW2.out.1
   have HB4 : Hid (Below B w w4) := HBR.out.trans (HW2.out.1.mono (by have h1 := HBR.out.size; have h2 := HBE.out; omega))
   have HLV : Hid (lz ≠ [] → ∀ b, b ∈ vblk lv → b < wr.heap.size) := fun e b q => view_blks HSR.out.lw e b q
   have HNB : Hid (∀ q, BW M none an sx av q → q < wr.heap.size) := fun q hq => (HSR.out.bw q hq).2
   rw [HBX0.out] at HW2 HNB HLV ⊢
   clear HTA HBA HSR HBR HRG
   have c4 : w4.cell? ⟨bx, 19, none⟩ = some (.slice o.da o.dn o.dc) := by have := HW2.out.2.1 19 _ c19.out; rwa [Nat.zero_add] at this
   have z4 : w4.frozen? ⟨bx, 19, none⟩ = false := by have := (HW2.out.2.2 19 (by omega)).2; rwa [Nat.zero_add] at this
   obtain ⟨dn, HDN⟩ : ∃ x, Hid (x = o.dn) := ⟨_, rfl⟩
   obtain ⟨dc, HDC⟩ : ∃ x, Hid (x = o.dc) := ⟨_, rfl⟩
   obtain ⟨da, HDA⟩ : ∃ x, Hid (x = o.da) := ⟨_, rfl⟩
   rw [← HDN.out, ← HDC.out, ← HDA.out] at c4
   have hdm : dn ≤ 140737488355328 := by have h1 := HDN.out; have h2 := HDM.out; omega
   by_cases hbig : 5000 < dn ∧ dn ≤ 1048576
   ·have d1 : (5000 : Int) < (dn : Nat) := by omega
    have d2 : ((dn : Nat) : Int) ≤ 1048576 := by omega
    have HBIG : Hid (5000 < o.dn) := by have h1 := HDN.out; show 5000 < o.dn; omega
    obtain ⟨db, dof, hda, hdc⟩ := HOI.out.some HBIG.out
    rw [← HDA.out] at hda
    obtain rfl := hda
    have hdc5 : 5000 ≤ dc := by have h1 := HDC.out; have h2 := HBIG.out; omega
    have hsl : ∀ u : World, (Instr.slice 22 (.slice (some ⟨db, dof, none⟩) dn dc) none (some (.int .i64 5000)) none).run Tryz.prog u = .ok (.slice (some ⟨db, dof, none⟩) 5000 dc) u := fun u => by
     have h := slice_h u (some ⟨db, dof, none⟩) dn dc 5000 hdc5
     rw [show ((5000 : Nat) : Int) = 5000 from rfl] at h
     rw [h]
     have h0 : ¬ dc = 0 := by omega
     simp [sliced, h0, Addr.add]
    obtain ⟨OC, HOC⟩ : ∃ L, Hid (L = o.cut.L) := ⟨_, rfl⟩
    have HO20C : Hid (O20 OC) := by show O20 _; rw [HOC.out]; exact o20 _
    have HRXF : Hid ((w4.setCell ⟨bx, 19, none⟩ (.slice (some ⟨db, dof, none⟩) 5000 dc)).rangeAt bx 0 OC) := fun j v hv => by
     rw [Nat.zero_add]
     have hj : j < 20 := by have := (List.getElem?_eq_some_iff.1 hv).1; rw [HO20C.out.len] at this; exact this
     by_cases e19 : j = 19
     ·subst e19
      rw [World.cell?_setCell_same' _ _ _ (by rw [c4]; rfl)]
      rw [HOC.out] at hv
      rw [← hv]
      show some (Value.slice (some ⟨db, dof, none⟩) 5000 dc) = some (.slice o.da 5000 o.dc)
      rw [← HDA.out, ← HDC.out]
     ·rw [setCell_at _ _ _ _ _ e19]
      have h3 : OL[j]? = OC[j]? := by
       rw [HOL.out, HOC.out]
       have hm : j = 0 ∨ j = 1 ∨ j = 2 ∨ j = 3 ∨ j = 4 ∨ j = 5 ∨ j = 6 ∨ j = 7 ∨ j = 8 ∨ j = 9 ∨ j = 10 ∨ j = 11 ∨ j = 12 ∨ j = 13 ∨ j = 14 ∨ j = 15 ∨ j = 16 ∨ j = 17 ∨ j = 18 := by omega
       rcases hm with rfl | rfl | rfl | rfl | rfl | rfl | rfl | rfl | rfl | rfl | rfl | rfl | rfl | rfl | rfl | rfl | rfl | rfl | rfl <;> rfl
      have := HW2.out.2.1 j v (by rw [h3]; exact hv)
      rwa [Nat.zero_add] at this
    have HF5 : Hid (Below bx w4 (w4.setCell ⟨bx, 19, none⟩ (.slice (some ⟨db, dof, none⟩) 5000 dc)))   := (show Below bx w4 _ from (Below.refl bx w4).setCell (by show bx ≤ bx; omega) _)
    go_upto_region 12 with fail
    generalize w4.setCell ⟨bx, 19, none⟩ (.slice (some ⟨db, dof, none⟩) 5000 dc) = w5 at HRXF HF5 ⊢
    have hbxB : Hid (B ≤ bx) := by have h1 := HW2.out.1.size; have h2 := HB4.out.size; have h3 := HS4.out.mlt; have h4 := HNB.out M (.inl rfl); have h5 := HS4.out.ord.1; show B ≤ bx; omega
    have HSX : Hid (BS w5 B M none g g an sx av lv lz) := bs_far HS4.out HF5.out HNB.out HLV.out
    have HBX : Hid (Below B w w5) := HB4.out.trans (HF5.out.mono hbxB.out)
    clear c4 z4 hsl
    have HRX : Hid (w5.rangeAt bx 0 OC) := HRXF
    have K7 : Hid (Calls Tryz.prog 7 #[.pointer (some ⟨M, 0, none⟩), .agg OC.toArray] w5 (OneP w5 B M none an)) := by
     show Calls _ _ _ _ _
     rw [HOC.out]
     exact one_any w5 B M none g an sx av lv lz o.cut HSX.out HEV.out (cut_in HOI.out HBIG.out).ok ((cut_in HOI.out HBIG.out).dat HBE.out HBX.out HSX.out) (by have := HAN.out; omega)
    go_wp2_with (first
     | (refine wpList_load_mid (by rfl) 40 (.tmp 11) (by rfl) bx 0 (by rfl) OC _ HRX.out Tryz.underlying40 rfl HO20C.out.sz ?_)
     | (go_at_call 7; refine K7.out.mono ?_))
    rintro e9 w9 ⟨g9, an9, sx9, av9, lv9, lz9, rfl, h9, he9, hb9, ha9⟩
    have H9 : Hid (Below B w w9 ∧ ∃ g an sx av lv lz, an ≤ i + 1 ∧ BS w9 B M none g g an sx av lv lz ∧ Even an sx) := ⟨HBX.out.trans hb9, g9, an9, sx9, av9, lv9, lz9, by have := HAN.out; omega, h9, he9⟩
    clear h9 he9 hb9 ha9 K7
    go_wp2
    refine ⟨⟨i + 1, by omega, by omega, by go_num, H9⟩, by simp only [intOf]; omega⟩
   ·have HRXF : Hid (w4.rangeAt bx 0 OL) := HW2.out.2.1
    have HSX : Hid (BS w4 B M none g g an sx av lv lz) := HS4
    have HBX : Hid (Below B w w4) := HB4
    by_cases hd5 : 5000 < dn
    ·have d1 : (5000 : Int) < (dn : Nat) := by omega
     have d2 : ¬ ((dn : Nat) : Int) ≤ 1048576 := by omega
     go_upto_region 12 with fail
     have HRX : Hid (w4.rangeAt bx 0 OL) := HRXF
     have K7 : Hid (Calls Tryz.prog 7 #[.pointer (some ⟨M, 0, none⟩), .agg OL.toArray] w4 (OneP w4 B M none an)) := by
      show Calls _ _ _ _ _
      rw [HOL.out]
      exact one_any w4 B M none g an sx av lv lz o HSX.out HEV.out HOI.out.ok (HOI.out.dat HBE.out HBX.out HSX.out) (by have := HAN.out; omega)
     go_wp2_with (first
      | (refine wpList_load_mid (by rfl) 40 (.tmp 11) (by rfl) bx 0 (by rfl) OL _ HRX.out Tryz.underlying40 rfl HO20.out.sz ?_)
      | (go_at_call 7; refine K7.out.mono ?_))
     rintro e9 w9 ⟨g9, an9, sx9, av9, lv9, lz9, rfl, h9, he9, hb9, ha9⟩
     have H9 : Hid (Below B w w9 ∧ ∃ g an sx av lv lz, an ≤ i + 1 ∧ BS w9 B M none g g an sx av lv lz ∧ Even an sx) := ⟨HBX.out.trans hb9, g9, an9, sx9, av9, lv9, lz9, by have := HAN.out; omega, h9, he9⟩
     clear h9 he9 hb9 ha9 K7
     go_wp2
     refine ⟨⟨i + 1, by omega, by omega, by go_num, H9⟩, by simp only [intOf]; omega⟩
    ·have d1 : ¬ (5000 : Int) < (dn : Nat) := by omega
     go_upto_region 12 with fail
     have HRX : Hid (w4.rangeAt bx 0 OL) := HRXF
     have K7 : Hid (Calls Tryz.prog 7 #[.pointer (some ⟨M, 0, none⟩), .agg OL.toArray] w4 (OneP w4 B M none an)) := by
      show Calls _ _ _ _ _
      rw [HOL.out]
      exact one_any w4 B M none g an sx av lv lz o HSX.out HEV.out HOI.out.ok (HOI.out.dat HBE.out HBX.out HSX.out) (by have := HAN.out; omega)
     go_wp2_with (first
      | (refine wpList_load_mid (by rfl) 40 (.tmp 11) (by rfl) bx 0 (by rfl) OL _ HRX.out Tryz.underlying40 rfl HO20.out.sz ?_)
      | (go_at_call 7; refine K7.out.mono ?_))
     rintro e9 w9 ⟨g9, an9, sx9, av9, lv9, lz9, rfl, h9, he9, hb9, ha9⟩
     have H9 : Hid (Below B w w9 ∧ ∃ g an sx av lv lz, an ≤ i + 1 ∧ BS w9 B M none g g an sx av lv lz ∧ Even an sx) := ⟨HBX.out.trans hb9, g9, an9, sx9, av9, lv9, lz9, by have := HAN.out; omega, h9, he9⟩
     clear h9 he9 hb9 ha9 K7
     go_wp2
     refine ⟨⟨i + 1, by omega, by omega, by go_num, H9⟩, by simp only [intOf]; omega⟩
  ·by_cases hi : i < sn
   ·have h1 : ((i : Nat) : Int) < ((sn : Nat) : Int) := by omega
    have h2 : ¬ ((i : Nat) : Int) < 24 := by omega
    go_wp2
    go_ret
    exact ⟨rfl, by rw [HBE.out]; exact HR.out.1⟩
   ·have h1 : ¬ ((i : Nat) : Int) < ((sn : Nat) : Int) := by omega
    go_wp2
    go_ret
    exact ⟨rfl, by rw [HBE.out]; exact HR.out.1⟩
end Go.Proofs.YtgmfiljjogdccabGreatDoor
