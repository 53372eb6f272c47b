import Derived.Test.YtgmfiljjogdccabGreatDoorPart41
import Derived.Test.YtgmfiljjogdccabGreatDoorPart42
import Derived.Test.YtgmfiljjogdccabGreatDoorPyg32
import Derived.Test.YtgmfiljjogdccabGreatDoorPyg40
import Derived.Test.YtgmfiljjogdccabGreatDoorPyg42
import Derived.Test.YtgmfiljjogdccabGreatDoorPart39
import Derived.Test.YtgmfiljjogdccabGreatDoorPart40
import Derived.Test.YtgmfiljjogdccabGreatDoorPart46
import Derived.Test.YtgmfiljjogdccabGreatDoorPyg9
import Derived.Deep.MidRow
namespace Go.Proofs.YtgmfiljjogdccabGreatDoor
open Go.RowKit Go.RwLone Go.Conc.Locks
set_option linter.unusedVariables false
theorem one_any (w : World) (B m : Nat) (kx : Option Kx) (g : Bool) (an : Nat) (sx : Nat → Sx) (av lv : Value) (lz : List Int) (o : OpV) (h : BS w B m kx g g an sx av lv lz) (he : Even an sx) (ho : OpOk o) (hd : Dat w (BW m kx an sx av) o.dv o.zs) (han : an ≤ 1000) :
  Calls Tryz.prog 7 #[.pointer (some ⟨m, 0, none⟩), .agg o.L.toArray] w (OneP w B m kx an) := by
 by_cases h1 : o.k = 1
 ·exact one_xor w B m kx g an sx av lv lz o h he ho hd h1
 by_cases h2 : o.k = 2
 ·exact one_skip w B m kx g an sx av lv lz o h he ho hd h2
 by_cases h3 : o.k = 3
 ·by_cases hn : kE kx g ≠ 0
  ·exact one_stream0 w B m kx g an sx av lv lz o h he ho hd h3 han hn
  ·cases kx with
   | none => exact absurd (show kE none g ≠ 0 by show (1 : Int) ≠ 0; decide) hn
   | some k =>
    cases g with
    | true => exact absurd (show kE (some k) true ≠ 0 by show (21 : Int) ≠ 0; decide) hn
    | false => exact one_stream2 w B m (some k) false an sx av lv lz o h he ho hd h3 han k rfl rfl
 by_cases h4 : o.k = 4
 ·by_cases hn : kE kx g ≠ 0
  ·exact one_block0 w B m kx g an sx av lv lz o h he ho hd h4 hn
  ·cases kx with
   | none => exact absurd (show kE none g ≠ 0 by show (1 : Int) ≠ 0; decide) hn
   | some k =>
    cases g with
    | true => exact absurd (show kE (some k) true ≠ 0 by show (21 : Int) ≠ 0; decide) hn
    | false => exact one_block2 w B m (some k) false an sx av lv lz o h he ho hd h4 k rfl rfl
 by_cases h5 : o.k = 5
 ·exact one_wipe w B m kx g an sx av lv lz o h he ho hd h5
 by_cases h6 : o.k = 6
 ·exact one_wrap w B m kx g an sx av lv lz o h he ho hd h6
 by_cases h7 : o.k = 7
 ·exact one_unwrap w B m kx g an sx av lv lz o h he ho hd h7
 by_cases h8 : o.k = 8
 ·exact one_last w B m kx g an sx av lv lz o h he ho hd h8
 by_cases h9 : o.k = 9
 ·exact one_tells w B m kx g an sx av lv lz o h he ho hd h9
 exact one_other w B m kx g an sx av lv lz o h he ho hd ⟨h1, h2, h3, h4, h5, h6, h7, h8, h9⟩
/-- A script where it lies. -/
structure OpIn (w : World) (o : OpV) : Prop where
 ok : OpOk o
 vw : View w o.dv o.zs
 by' : AllBytes o.zs
def ScAt (w : World) (sa : Option Addr) (sn : Nat) (os : Nat → OpV) : Prop := sn = 0 ∨ ∃ b off, sa = some ⟨b, off, none⟩ ∧ b < w.heap.size ∧ ∀ i, i < sn → OpIn w (os i) ∧ w.rangeAt b (off + i * 20) (os i).L
/-- The book at its beginning. -/
theorem bs_start {u : World} (B : Nat) (kx : Option Kx) (hk : ∀ k, kx = some k → KOk k ∧ PK u k false ∧ RK u k false ∧ B ≤ k.g ∧ k.gr < u.heap.size) (hB : B ≤ u.heap.size) : BS (u.alloc (.cells #[gq (kx.map Kx.g), gq (kx.map Kx.g2), .slice none 0 0, .slice none 0 0] 35)) B u.heap.size kx false false 0 (fun _ => ⟨0, 0, ⟨0, 0, 0, 0⟩, 0, 0⟩) (.slice none 0 0) (.slice none 0 0) [] := by
 have hb : Below u.heap.size u (u.alloc (.cells #[gq (kx.map Kx.g), gq (kx.map Kx.g2), .slice none 0 0, .slice none 0 0] 35)) := (Below.refl _ _).alloc (Nat.le_refl _) _
 have hr := range_new u [gq (kx.map Kx.g), gq (kx.map Kx.g2), .slice none 0 0, .slice none 0 0] 35
 refine ⟨hr 0 _ rfl, hr 1 _ rfl, hr 2 _ rfl, hr 3 _ rfl, there_new u _ 35 4 (by show 4 ≤ 4; omega), fun k e => ?_, fun i hi => (by omega), World.ownsRow_nil _ _ _ _, view_nil _, bytes_nil, Nat.zero_le _, ⟨hB, fun i hi => (by omega), fun i j _ hj => (by omega)⟩, fun b q => (by simp [vblk, Value.ownBlock] at q), fun e => absurd rfl e⟩
 obtain ⟨q1, q2, q3, q4, q5⟩ := hk k e
 exact ⟨q1, q2.same (hb.block _ q2.lt) hb.size, q3.same (hb.block _ q3.lt) (fun q => hb.block _ q) hb.size, q4, q5⟩
theorem keyAt_free {w : World} {g nr : Nat} {K : Nat → Nat} (h : KeyAt w g nr K) : True := trivial
end Go.Proofs.YtgmfiljjogdccabGreatDoor
namespace Go.Proofs.YtgmfiljjogdccabGreatDoor
open Go.RowKit
set_option linter.unusedVariables false
theorem free_alloc (w : World) (R : Array Value) (h : R[0]? = Tryz.zeroCells62[0]?) : Free (w.alloc (.cells R 62)) w.heap.size := by
 show World.cell? _ _ = _
 rw [World.cell?_alloc_at _ 62 _ _ rfl, h]
 have := congrArg (fun l => l[0]?) zhead82
 simpa using this
set_option maxHeartbeats 3200000 in
set_option maxRecDepth 100000 in
theorem new_okF (kb ko n cap nk : Nat) (key : Nat → Nat) (w : World) (hnk : nk = 4 ∨ nk = 6 ∨ nk = 8) (hn : n = 4 * nk) (hkb : kb < w.heap.size) (hcell : ∀ i, i < n → w.cell? ⟨kb, ko + i, none⟩ = some (.int .u8 (key i : Nat))) (hkey : ∀ i, key i < 256) (hrc : RC w) (hpos : 0 < w.heap.size) :
  Calls Tryz.prog 4 #[.slice (some ⟨kb, ko, none⟩) n cap] w fun e w' => ∃ g, e = .returned (.tuple #[.pointer (some ⟨g, 0, none⟩), .int .i64 0]) ∧ w.heap.size ≤ g ∧ KeyAt w' g (nk + 6) (schedK nk key) ∧ Below w.heap.size w w' ∧ Free w' g := by
 obtain ⟨L, HL⟩ : ∃ L, Hid (L = cipL (nk + 6) (schedK nk key)) := ⟨_, rfl⟩
 have KS : Hid (Calls Tryz.prog 8 #[.slice (some ⟨kb, ko, none⟩) n cap] w fun e w' => e = .returned (.agg L.toArray) ∧ Below w.heap.size w w') := by
  rw [HL.out]
  exact sched_ok kb ko n cap nk key w hnk hn hkb hcell hkey hrc hpos
 obtain ⟨R, hR1, hR2, hR3, hR4⟩ := built82 L (by rw [HL.out]; exact cipL_length _ _)
 have HR : Hid (Tryz.prog.built 62 [(1, .agg L.toArray)] = some R) := hR1
 have HR2 : Hid (R.size = 1091 ∧ (∀ i, i < 6 → R[i]? = Tryz.zeroCells62[i]?) ∧ ∀ j v, (cipL (nk + 6) (schedK nk key))[j]? = some v → R[6 + j]? = some v) := ⟨hR2, hR3, by rw [← HL.out]; exact hR4⟩
 have HKl : Hid (1 ≤ nk + 6 ∧ nk + 6 ≤ 14 ∧ ∀ i, schedK nk key i < 4294967296) := ⟨by omega, by omega, schedK_lt hkey⟩
 clear hR1 hR2 hR3 hR4 hcell hkey hrc hkb hpos
 rcases hnk with rfl | rfl | rfl
 all_goals subst hn
 all_goals go_enter Tryz.func4, Tryz.ntmps4
 all_goals go_wp2_with (first
  | (go_at_call 8; refine KS.out.mono ?_)
  | fail)
 all_goals rintro e1 w1 ⟨rfl, hb1⟩
 all_goals (have HB : Hid (Below w.heap.size w w1) := hb1)
 all_goals clear hb1
 all_goals go_wp2_with (first
  | (refine wpList_build_big (by rfl) 62 #[(1, .tmp 11)] (by rfl) R (by simp only [List.map_toArray, List.map_cons, List.map_nil]; exact HR.out) ?_)
  | fail)
 all_goals go_ret2
 all_goals exact ⟨w1.heap.size, rfl, HB.out.size, keyAt_alloc w1 R _ _ HR2.out.1 HR2.out.2.1 HR2.out.2.2 HKl.out.1 HKl.out.2.1 HKl.out.2.2, HB.out.alloc HB.out.size _, free_alloc w1 R (HR2.out.2.1 0 (by omega))⟩
end Go.Proofs.YtgmfiljjogdccabGreatDoor
namespace Go.Proofs.YtgmfiljjogdccabGreatDoor
open Go.RowKit Go.RwLone Go.Conc.Locks
set_option linter.unusedVariables false
set_option linter.unusedSimpArgs false
theorem size40o : (Tryz.prog.info? 40).map (·.size) = some 20 := by kernel_rfl
/-- Twenty cells of a call. -/
structure O20 (L : List Value) : Prop where
 len : L.length = 20
 sz : (Tryz.prog.info? 40).map (·.size) = some L.length
 sza : (Tryz.prog.info? 40).map (·.size) = some L.toArray.size
 one : L.toArray.all (·.oneCell') = true
theorem o20 (o : OpV) : O20 o.L := ⟨rfl, size40o, size40o, by
 refine all_oneCell_toArray (fun v hv => ?_)
 unfold OpV.L at hv
 simp only [List.mem_cons, List.not_mem_nil, or_false] at hv
 rcases hv with rfl | rfl | rfl | rfl | rfl | rfl | rfl | rfl | rfl | rfl | rfl | rfl | rfl | rfl | rfl | rfl | rfl | rfl | rfl | rfl <;> rfl⟩
def OpV.cut (o : OpV) : OpV := ⟨o.k, o.a, o.n, o.s, o.da, 5000, o.dc, o.zs.take 5000⟩
theorem bytes_take {zs : List Int} (h : AllBytes zs) (n : Nat) : AllBytes (zs.take n) := fun i => by
 by_cases hi : i < n
 ·rw [List.getD_eq_getElem?_getD, List.getElem?_take, if_pos hi, ← List.getD_eq_getElem?_getD]; exact h i
 ·rw [List.getD_eq_getElem?_getD, List.getElem?_take, if_neg hi]; simp
theorem view_cut {w : World} {b off n c : Nat} {zs : List Int} (h : View w (.slice (some ⟨b, off, none⟩) n c) zs) (hn : zs.length = n) (h5 : 5000 < n) : View w (.slice (some ⟨b, off, none⟩) 5000 c) (zs.take 5000) := by
 obtain ⟨a, c', e, h1, h2, h3, h4⟩ := h
 simp only [Value.slice.injEq] at e
 obtain ⟨rfl, _, rfl⟩ := e
 refine ⟨_, _, by rw [List.length_take]; congr 1; omega, by rw [List.length_take]; omega, h2, h3, ?_⟩
 rcases h4 with h4 | ⟨b', off', e, h5'⟩
 ·exact .inl (by rw [h4]; rfl)
 ·refine .inr ⟨b', off', e, fun i hi => ?_⟩
  rw [List.length_take] at hi
  rw [List.getD_eq_getElem?_getD, List.getElem?_take, if_pos (by omega), ← List.getD_eq_getElem?_getD]
  exact h5' i (by omega)
theorem cut_in {w : World} {o : OpV} (h : OpIn w o) (h5 : 5000 < o.dn) : OpIn w o.cut := by
 obtain ⟨⟨h1, h2, h3, h4, h6⟩, hv, hb⟩ := h
 have hl : (o.zs.take 5000).length = 5000 := by rw [List.length_take]; omega
 refine ⟨⟨h1, h2, h3, hl, by show (o.zs.take 5000).length + 70 ≤ _; omega⟩, ?_, bytes_take hb 5000⟩
 obtain ⟨a, c, e, _, _, _, h7⟩ := id hv
 rcases h7 with h7 | ⟨b, off, rfl, _⟩
 ·rw [h7] at h4; simp at h4; omega
 ·unfold OpV.dv at hv e ⊢
  simp only [Value.slice.injEq] at e
  unfold OpV.cut
  rw [e.1] at hv ⊢
  exact view_cut hv h4 h5
theorem OpIn.some {w : World} {o : OpV} (h : OpIn w o) (h5 : 5000 < o.dn) : ∃ b off, o.da = some ⟨b, off, none⟩ ∧ o.dn ≤ o.dc := by
 obtain ⟨a, c, e, h1, _, _, h7⟩ := h.vw
 have hl := h.ok.len
 unfold OpV.dv at e
 simp only [Value.slice.injEq] at e
 rcases h7 with h7 | ⟨b, off, rfl, _⟩
 ·rw [h7] at hl; simp at hl; omega
 ·exact ⟨b, off, e.1, by rw [e.2.2]; omega⟩
theorem OpIn.dat {w u : World} {B m : Nat} {kx : Option Kx} {g : Bool} {an : Nat} {sx : Nat → Sx} {av lv : Value} {lz : List Int} {o : OpV} (h : OpIn w o) (eB : w.heap.size = B) (hb : Below B w u) (hs : BS u B m kx g g an sx av lv lz) : Dat u (BW m kx an sx av) o.dv o.zs :=
 ⟨view_keepP h.vw (fun e b q => hb.block b (by have := view_blks h.vw e b q; omega)), fun e b q x => by have h1 := view_blks h.vw e b q; have h2 := (hs.bw b x).1; omega, h.by'⟩
/-- A block that is none of the state's changed. -/
theorem bs_far {u v : World} {B m : Nat} {kx : Option Kx} {g : Bool} {an : Nat} {sx : Nat → Sx} {av lv : Value} {lz : List Int} {bx : Nat} (h : BS u B m kx g g an sx av lv lz) (hb : Below bx u v) (hn : ∀ q, BW m kx an sx av q → q < bx) (hl : lz ≠ [] → ∀ b, b ∈ vblk lv → b < bx) : BS v B m kx g g an sx av lv lz := by
 have hm := hn m (.inl rfl)
 have hc : ∀ j, v.cell? ⟨m, j, none⟩ = u.cell? ⟨m, j, none⟩ := fun j => World.cell?_of_block (a := ⟨m, j, none⟩) (hb.block m hm)
 refine ⟨(hc _).trans h.ck, (hc _).trans h.cr, (hc _).trans h.ca, (hc _).trans h.cl, there_sameG h.room (hb.block m hm), fun k e => ?_, fun i hi => ?_, ?_, ?_, h.lb, h.ll, h.ord, h.aa, h.la⟩
 ·obtain ⟨q1, q2, q3, q4, q5⟩ := h.kk k e
  exact ⟨q1, q2.same (hb.block _ (hn _ (.inr (.inl ⟨k, e, .inl rfl⟩)))) hb.size, q3.same (hb.block _ (hn _ (.inr (.inl ⟨k, e, .inr rfl⟩)))) (fun q => hb.block _ (by omega)) hb.size, q4, q5⟩
 ·obtain ⟨k, e, q1, q2⟩ := h.st i hi
  exact ⟨k, e, q1.sameG (hb.block _ (hn _ (.inr (.inr (.inl ⟨i, hi, .inl rfl⟩))))) hb.size, q2.sameG (hb.block _ (hn _ (.inr (.inr (.inl ⟨i, hi, .inr rfl⟩))))) hb.size⟩
 ·exact owns_same h.ar (fun b q => hb.block b (hn _ (.inr (.inr (.inr q)))))
 ·exact view_keepP h.lw (fun e b q => hb.block b (hl e b q))
end Go.Proofs.YtgmfiljjogdccabGreatDoor
