import Derived.Test.YtcnikfikpnnblaaGreatDoorSch
import Derived.Test.YtcnikfikpnnblaaGreatDoorRkd
import Derived.Test.YtcnikfikpnnblaaGreatDoorEnc
import Derived.Test.YtcnikfikpnnblaaGreatDoorPart00
import Derived.Conc.RwLone
import Derived.Defers
namespace Go.Proofs.YtcnikfikpnnblaaGreatDoor
open Go.RowKit
set_option linter.unusedVariables false
/-- A row of cells laid over another from off on. -/
theorem over_at (off : Nat) : ∀ (L : List Value) (k : Nat) (z : Array Value) (i : Nat), ((L.zipIdx k).foldl (fun cs (x : Value × Nat) => cs.setIfInBounds (off + x.2) x.1) z)[i]? =
    if off + k ≤ i ∧ i < off + k + L.length ∧ i < z.size then L[i - (off + k)]? else z[i]?
  | [], k, z, i => by simp; omega
  | v :: r, k, z, i => by
    rw [List.zipIdx_cons, List.foldl_cons, over_at off r (k + 1)]
    simp only [Array.size_setIfInBounds, List.length_cons]
    by_cases h1 : off + (k + 1) ≤ i ∧ i < off + (k + 1) + r.length ∧ i < z.size
    · rw [if_pos h1, if_pos (by omega)]
      rw [show i - (off + k) = (i - (off + (k + 1))) + 1 by omega, List.getElem?_cons_succ]
    · rw [if_neg h1]
      by_cases h2 : i = off + k
      · subst h2
        by_cases h3 : off + k < z.size
        · rw [Array.getElem?_setIfInBounds_self_of_lt h3, if_pos (by omega), Nat.sub_self]; rfl
        · rw [if_neg (by omega)]
          rw [Array.getElem?_eq_none (by simp; omega), Array.getElem?_eq_none (by omega)]
      · rw [Array.getElem?_setIfInBounds_ne (by omega), if_neg (by omega)]
theorem over_size (off : Nat) : ∀ (L : List Value) (k : Nat) (z : Array Value), ((L.zipIdx k).foldl (fun cs (x : Value × Nat) => cs.setIfInBounds (off + x.2) x.1) z).size = z.size
  | [], k, z => rfl
  | v :: r, k, z => by rw [List.zipIdx_cons, List.foldl_cons, over_size off r (k + 1)]; simp
theorem zsize82 : Tryz.zeroCells160.size = 1091 := by kernel_rfl
theorem zhead82 : Tryz.zeroCells160.toList.take 6 = [.int .i32 0, .int .u32 0, .int .u32 0, .int .u32 0, .int .i32 0, .int .i32 0] := by kernel_rfl
theorem zcells82 : ((Tryz.prog.info? 160).bind (·.zero)).map (·.cells) = some Tryz.zeroCells160 := by kernel_rfl
theorem built82 (L : List Value) (hL : L.length = 1085) : ∃ R, Tryz.prog.built 160 [(1, .agg L.toArray)] = some R ∧ R.size = 1091 ∧ (∀ i, i < 6 → R[i]? = Tryz.zeroCells160[i]?) ∧ ∀ j v, L[j]? = some v → R[6 + j]? = some v := by
  refine ⟨(L.zipIdx 0).foldl (fun cs (x : Value × Nat) => cs.setIfInBounds (6 + x.2) x.1) Tryz.zeroCells160, ?_, ?_, fun i hi => ?_, fun j v hv => ?_⟩
  · have hzc := zcells82
    have hu := Tryz.underlying160
    have hus : ∃ fs, Tryz.prog.underlying 160 = some (.struct fs) ∧ fs.toList.mapM (fun f => (Tryz.prog.info? f.type).map fun i => (f.offset, i.size)) = some [(0, 6), (6, 1085)] := ⟨_, hu, by kernel_rfl⟩
    obtain ⟨fs, hu', hp⟩ := hus
    cases hq : Tryz.prog.info? 160 with
    | none => rw [hq] at hzc; cases hzc
    | some it =>
      rw [hq] at hzc
      cases hz : it.zero with
      | none => simp [hz] at hzc
      | some z =>
        have hzz : z.cells = Tryz.zeroCells160 := by simpa [hz] using hzc
        have hsz : z.cells.size = 1091 := by rw [hzz]; exact zsize82
        unfold Program.built
        rw [hq, hu']
        simp only [hz, hp]
        rw [hzz]
        unfold Instr.fill
        simp only [List.getElem?_toArray, List.getElem?_cons_succ, List.getElem?_cons_zero, Value.cells, List.size_toArray, hL]
        rw [if_neg (by rw [zsize82]; decide)]
        unfold Instr.fill
        simp
  · rw [over_size]; exact zsize82
  · rw [over_at, if_neg (by omega)]
  · have hj : j < L.length := (List.getElem?_eq_some_iff.1 hv).1
    rw [over_at, if_pos (by rw [zsize82]; omega), show 6 + j - (6 + 0) = j by omega]
    exact hv
/-- A key at g. -/
structure KeyAt (w : World) (g nr : Nat) (K : Nat → Nat) : Prop where
  ciph : Ciph w g 6 nr K
  count : w.cell? ⟨g, 4, none⟩ = some (.int .i32 0)
  room : w.there g 0 1091
theorem there_sameK {u u' : World} {B o n : Nat} (h : u.there B o n) (e : u'.heap[B]? = u.heap[B]?) : u'.there B o n := fun j hj => by
  rw [World.cell?_of_block (a := ⟨B, o + j, none⟩) e, World.frozen?_of_block (a := ⟨B, o + j, none⟩) e]; exact h j hj
theorem KeyAt.sameK {u u' : World} {g nr : Nat} {K : Nat → Nat} (h : KeyAt u g nr K) (e : u'.heap[g]? = u.heap[g]?) (hs : u.heap.size ≤ u'.heap.size) : KeyAt u' g nr K := by
  have c : ∀ j : Nat, u'.cell? ⟨g, j, none⟩ = u.cell? ⟨g, j, none⟩ := fun j => World.cell?_of_block (a := ⟨g, j, none⟩) e
  exact ⟨⟨(c _).trans h.ciph.rounds, fun i hi => (c _).trans (h.ciph.words i hi), h.ciph.small, ⟨fun b hb => (c _).trans (h.ciph.tab.s b hb), fun b hb => (c _).trans (h.ciph.tab.u b hb), fun b hb => (c _).trans (h.ciph.tab.m b hb), fun b hb => (c _).trans (h.ciph.tab.n b hb)⟩, Nat.lt_of_lt_of_le h.ciph.here hs, h.ciph.some, h.ciph.most⟩, (c _).trans h.count, there_sameK h.room e⟩
theorem KeyAt.below {B : Nat} {w w' : World} {g nr : Nat} {K : Nat → Nat} (h : KeyAt w g nr K) (hb : Below B w w') (hg : g < B) : KeyAt w' g nr K :=
  ⟨h.ciph.below hb hg, (hb.cell hg).trans h.count, there_below h.room hb hg⟩
theorem keyAt_alloc (w : World) (R : Array Value) (nr : Nat) (K : Nat → Nat) (hs : R.size = 1091) (h6 : ∀ i, i < 6 → R[i]? = Tryz.zeroCells160[i]?) (hL : ∀ j v, (cipL nr K)[j]? = some v → R[6 + j]? = some v) (h1 : 1 ≤ nr) (h14 : nr ≤ 14) (hK : ∀ i, K i < 4294967296) :
    KeyAt (w.alloc (.cells R 160)) w.heap.size nr K := by
  have hc : ∀ i : Nat, (w.alloc (.cells R 160)).cell? ⟨w.heap.size, i, none⟩ = R[i]? := fun i => by
    rw [World.cell?_alloc_at R 160 _ _ rfl]
  refine ⟨ciph_of_range (fun j v hv => ?_) (by simp) h1 h14 hK, ?_, there_new w R 160 1091 (by rw [hs]; exact Nat.le_refl _)⟩
  · rw [hc]; exact hL j v hv
  · rw [hc, h6 4 (by decide), ← Array.getElem?_toList]
    have h := congrArg (fun l => l[4]?) zhead82
    simp only [List.getElem?_take_of_lt (show 4 < 6 by decide)] at h
    rw [h]; rfl
set_option maxHeartbeats 3200000 in
set_option maxRecDepth 100000 in
theorem new_ok (kb ko n cap nk : Nat) (key : Nat → Nat) (w : World) (hnk : nk = 4 ∨ nk = 6 ∨ nk = 8) (hn : n = 4 * nk) (hkb : kb < w.heap.size) (hcell : ∀ i, i < n → w.cell? ⟨kb, ko + i, none⟩ = some (.int .u8 (key i : Nat))) (hkey : ∀ i, key i < 256) (hrc : RC w) (hpos : 3 < w.heap.size) :
    Calls Tryz.prog 54 #[.slice (some ⟨kb, ko, none⟩) n cap] w fun e w' => ∃ g, e = .returned (.tuple #[.pointer (some ⟨g, 0, none⟩), .int .i64 0]) ∧ w.heap.size ≤ g ∧ KeyAt w' g (nk + 6) (schedK nk key) ∧ Below w.heap.size w w' ∧ ∃ R : Array Value, w'.heap[g]? = some (.cells R 160 (0, 0)) := by
  obtain ⟨L, HL⟩ : ∃ L, Hid (L = cipL (nk + 6) (schedK nk key)) := ⟨_, rfl⟩
  have KS : Hid (Calls Tryz.prog 77 #[.slice (some ⟨kb, ko, none⟩) n cap] w fun e w' => e = .returned (.agg L.toArray) ∧ Below w.heap.size w w') := by
    rw [HL.out]
    exact sched_ok kb ko n cap nk key w hnk hn hkb hcell hkey hrc hpos
  obtain ⟨R, hR1, hR2, hR3, hR4⟩ := built82 L (by rw [HL.out]; exact cipL_length _ _)
  have HR : Hid (Tryz.prog.built 160 [(1, .agg L.toArray)] = some R) := hR1
  have HR2 : Hid (R.size = 1091 ∧ (∀ i, i < 6 → R[i]? = Tryz.zeroCells160[i]?) ∧ ∀ j v, (cipL (nk + 6) (schedK nk key))[j]? = some v → R[6 + j]? = some v) := ⟨hR2, hR3, by rw [← HL.out]; exact hR4⟩
  have HKl : Hid (1 ≤ nk + 6 ∧ nk + 6 ≤ 14 ∧ ∀ i, schedK nk key i < 4294967296) := ⟨by omega, by omega, schedK_lt hkey⟩
  clear hR1 hR2 hR3 hR4 hcell hkey hrc hkb hpos
  rcases hnk with rfl | rfl | rfl
  all_goals subst hn
  all_goals go_enter Tryz.func54, Tryz.ntmps54
  all_goals go_wp2_with (first
    | (go_at_call 77; refine KS.out.mono ?_)
    | fail)
  all_goals rintro e1 w1 ⟨rfl, hb1⟩
  all_goals (have HB : Hid (Below w.heap.size w w1) := hb1)
  all_goals clear hb1
  all_goals go_wp2_with (first
    | (refine wpList_build_big (by rfl) 160 #[(1, .tmp 11)] (by rfl) R (by simp only [List.map_toArray, List.map_cons, List.map_nil]; exact HR.out) ?_)
    | fail)
  all_goals go_ret2
  all_goals exact ⟨w1.heap.size, rfl, HB.out.size, keyAt_alloc w1 R _ _ HR2.out.1 HR2.out.2.1 HR2.out.2.2 HKl.out.1 HKl.out.2.1 HKl.out.2.2, HB.out.alloc HB.out.size _, R, heap_alloc_new w1 _⟩
end Go.Proofs.YtcnikfikpnnblaaGreatDoor
namespace Go.Proofs.YtcnikfikpnnblaaGreatDoor
open Go.RowKit
set_option linter.unusedVariables false
/-- The reference's key while its round keys are laid one behind the other. -/
structure RkI (w : World) (g n gb cb gr c m : Nat) (K : Nat → Nat) (v : World) : Prop where
  t : RkT w g 256 v
  b : v.cell? ⟨g, 0, none⟩ = some (.slice (some ⟨gb, 0, none⟩) n cb)
  r : v.cell? ⟨g, 1, none⟩ = some (.slice (some ⟨gr, 0, none⟩) m c)
  o : v.ownsRow (g + 1) 5 1 (.slice (some ⟨gr, 0, none⟩) m c) m (rbL K m)
theorem RkI.cell {w v : World} {g n gb cb gr c m : Nat} {K : Nat → Nat} (h : RkI w g n gb cb gr c m K v) (j : Nat) (hj : j < m) : v.cell? ⟨gr, j, none⟩ = some (.int .u8 (rb K j : Nat)) := by
  rw [h.o.cellAt j (by omega)]
  exact rbL_at K m j hj
theorem RkI.below {w v v' : World} {g n gb cb gr c m : Nat} {K : Nat → Nat} (h : RkI w g n gb cb gr c m K v) (hb : Below v.heap.size v v') : RkI w g n gb cb gr c m K v' :=
  ⟨h.t.keep (hb.block g h.t.lt) (h.t.old.trans (hb.mono (Nat.le_of_lt h.t.lt))) hb.size, (hb.cell (p := ⟨g, 0, none⟩) h.t.lt).trans h.b, (hb.cell (p := ⟨g, 1, none⟩) h.t.lt).trans h.r,
   h.o.kept (row := none) ⟨hb.os, hb.tape, hb.output, hb.size, fun k hk _ => hb.block k hk⟩ (by simp [Value.ownBlock])⟩
/-- Four bytes at tb. -/
structure Tr (v : World) (tb : Nat) (f : Nat → Nat) : Prop where
  lt : tb < v.heap.size
  c : ∀ j, j < 4 → v.cell? ⟨tb, j, none⟩ = some (.int .u8 (f j : Nat))
theorem Tr.below {v v' : World} {tb : Nat} {f : Nat → Nat} (h : Tr v tb f) (hb : Below v.heap.size v v') : Tr v' tb f :=
  ⟨Nat.lt_of_lt_of_le h.lt hb.size, fun j hj => (hb.cell (p := ⟨tb, j, none⟩) h.lt).trans (h.c j hj)⟩
theorem Tr.new (v : World) (a b c d : Nat) : Tr (v.alloc (.cells #[.int .u8 (a : Nat), .int .u8 (b : Nat), .int .u8 (c : Nat), .int .u8 (d : Nat)] 5)) v.heap.size (fun j => if j = 0 then a else if j = 1 then b else if j = 2 then c else d) := by
  refine ⟨by simp, fun j hj => ?_⟩
  rw [World.cell?_alloc_at _ 5 _ _ rfl]
  have hm : j = 0 ∨ j = 1 ∨ j = 2 ∨ j = 3 := by omega
  rcases hm with rfl | rfl | rfl | rfl <;> rfl
theorem Tr.congr {v : World} {tb : Nat} {f f' : Nat → Nat} (h : Tr v tb f) (e : ∀ j, j < 4 → f j = f' j) : Tr v tb f' := ⟨h.lt, fun j hj => by rw [← e j hj]; exact h.c j hj⟩
end Go.Proofs.YtcnikfikpnnblaaGreatDoor
namespace Go.Proofs.YtcnikfikpnnblaaGreatDoor
open Go.RowKit Go.RwLone
set_option linter.unusedVariables false
theorem touch_new {w v : World} {g o n : Nat} (h : Touch w v g o n) {b : Nat} (hb : w.heap.size ≤ b) (vs : List Value) (o' : Nat) (hg : g < w.heap.size) : Touch w (v.setCells b o' vs) g o n :=
  ⟨by rw [setCells_os]; exact h.os, by rw [setCells_tape]; exact h.tape, by rw [setCells_output]; exact h.output, by rw [sizeB_setCells]; exact h.size,
    fun k hk hne => by rw [World.heap_setCells_other v b o' vs (by have := h.size; omega) (by omega)]; exact h.block k hk hne,
    fun j hj => by rw [World.cell?_setCells_out b vs o' v ⟨g, j, none⟩ (fun e _ => absurd e (by simp; omega))]; exact h.cell j hj,
    fun o2 n2 ht => World.there_setCells (h.there o2 n2 ht) b o' vs⟩
theorem KeyAt.touch {w w' : World} {g nr : Nat} {K : Nat → Nat} (h : KeyAt w g nr K) (ht : Touch w w' g 4 1) (hc : w'.cell? ⟨g, 4, none⟩ = some (.int .i32 0)) : KeyAt w' g nr K := by
  refine ⟨⟨(ht.cell 6 (by omega)).trans h.ciph.rounds, fun i hi => (ht.cell (6 + 1 + i) (by omega)).trans (h.ciph.words i hi), h.ciph.small, ⟨fun b hb => (ht.cell _ (by omega)).trans (h.ciph.tab.s b hb), fun b hb => (ht.cell _ (by omega)).trans (h.ciph.tab.u b hb), fun b hb => (ht.cell _ (by omega)).trans (h.ciph.tab.m b hb), fun b hb => (ht.cell _ (by omega)).trans (h.ciph.tab.n b hb)⟩, Nat.lt_of_lt_of_le h.ciph.here ht.size, h.ciph.some, h.ciph.most⟩, hc, ht.there _ _ h.room⟩
/-- While a call holds the key. -/
theorem held_ciph {w : World} {g nr : Nat} {K : Nat → Nat} (h : KeyAt w g nr K) (c : Int) : Ciph (w.setCell ⟨g, 4, none⟩ (.int .i32 c)) g 6 nr K := by
  have ht : Touch w (w.setCell ⟨g, 4, none⟩ (.int .i32 c)) g 4 1 := (Touch.refl w g 4 1).setCell 4 _ (by omega) (by omega)
  exact ⟨(ht.cell 6 (by omega)).trans h.ciph.rounds, fun i hi => (ht.cell (6 + 1 + i) (by omega)).trans (h.ciph.words i hi), h.ciph.small, ⟨fun b hb => (ht.cell _ (by omega)).trans (h.ciph.tab.s b hb), fun b hb => (ht.cell _ (by omega)).trans (h.ciph.tab.u b hb), fun b hb => (ht.cell _ (by omega)).trans (h.ciph.tab.m b hb), fun b hb => (ht.cell _ (by omega)).trans (h.ciph.tab.n b hb)⟩, Nat.lt_of_lt_of_le h.ciph.here ht.size, h.ciph.some, h.ciph.most⟩
theorem cell_of_there {w : World} {g o n : Nat} (h : w.there g o n) (j : Nat) (hj : j < n) : ∃ v, w.cell? ⟨g, o + j, none⟩ = some v := Option.isSome_iff_exists.1 (h j hj).1
set_option maxHeartbeats 1600000 in
set_option maxRecDepth 100000 in
theorem hold_ok (g nr : Nat) (K : Nat → Nat) (w : World) (h : KeyAt w g nr K) : Calls Tryz.prog 78 #[.pointer (some ⟨g, 0, none⟩)] w fun e w' => e = .returned (.int .i64 0) ∧ w' = w.setCell ⟨g, 4, none⟩ (.int .i32 1) := by
  obtain ⟨x0, c0⟩ := cell_of_there h.room 0 (by decide)
  obtain ⟨x3, c3⟩ := cell_of_there h.room 3 (by decide)
  have hz := (h.room 4 (by decide)).2
  have hc := h.count
  have KL : Hid (Calls Tryz.prog 109 #[.pointer (some ⟨g, 0, none⟩)] w fun e w' => e = .returned (.tuple #[]) ∧ w' = w.setCell ⟨g, 4, none⟩ (.int .i32 1))  := by
    have h := rlock_open rwRLib g 0 0 x0 x3 w c0 c3 hc hz (by decide +kernel)
    rw [show wrap32 (0 + 1) = 1 by decide +kernel] at h
    exact h
  have cr : (w.setCell ⟨g, 4, none⟩ (.int .i32 1)).cell? ⟨g, 6, none⟩ = some (.int .i64 (nr : Nat)) := (held_ciph h 1).rounds
  have hn : (((nr : Nat) : Int) == 0) = false := by have := h.ciph.some; simp; omega
  clear c0 c3 hz hc h
  go_enter Tryz.func78, Tryz.ntmps78
  go_wp2_with (first | (go_at_call 109; refine KL.out.mono ?_))
  rintro e1 w1 ⟨rfl, hw1⟩
  obtain rfl := hw1.symm
  go_wp2
  go_ret
  exact ⟨rfl, rfl⟩
end Go.Proofs.YtcnikfikpnnblaaGreatDoor
