import Derived.Test.YtgmfiljjogdccaaDoorSch
namespace Go.Proofs.YtgmfiljjogdccaaDoor
open Go.RowKit
set_option linter.unusedVariables false
/-- A row of cells laid over another from off on. -/
theorem over_at (off : Nat) : ∀ (L : List Value) (k : Nat) (z : Array Value) (i : Nat), ((L.zipIdx k).foldl (fun cs (x : Value × Nat) => cs.setIfInBounds (off + x.2) x.1) z)[i]? =
    if off + k ≤ i ∧ i < off + k + L.length ∧ i < z.size then L[i - (off + k)]? else z[i]?
  | [], k, z, i => by simp; omega
  | v :: r, k, z, i => by
    rw [List.zipIdx_cons, List.foldl_cons, over_at off r (k + 1)]
    simp only [Array.size_setIfInBounds, List.length_cons]
    by_cases h1 : off + (k + 1) ≤ i ∧ i < off + (k + 1) + r.length ∧ i < z.size
    · rw [if_pos h1, if_pos (by omega)]
      rw [show i - (off + k) = (i - (off + (k + 1))) + 1 by omega, List.getElem?_cons_succ]
    · rw [if_neg h1]
      by_cases h2 : i = off + k
      · subst h2
        by_cases h3 : off + k < z.size
        · rw [Array.getElem?_setIfInBounds_self_of_lt h3, if_pos (by omega), Nat.sub_self]; rfl
        · rw [if_neg (by omega)]
          rw [Array.getElem?_eq_none (by simp; omega), Array.getElem?_eq_none (by omega)]
      · rw [Array.getElem?_setIfInBounds_ne (by omega), if_neg (by omega)]
theorem over_size (off : Nat) : ∀ (L : List Value) (k : Nat) (z : Array Value), ((L.zipIdx k).foldl (fun cs (x : Value × Nat) => cs.setIfInBounds (off + x.2) x.1) z).size = z.size
  | [], k, z => rfl
  | v :: r, k, z => by rw [List.zipIdx_cons, List.foldl_cons, over_size off r (k + 1)]; simp
theorem zero82 : ((Tryd.prog.info? 82).bind (·.zero)).map (fun z => z.cells.size) = some 1091 := by kernel_rfl
theorem size82 : (Tryd.prog.info? 82).map (·.size) = some 1091 := by kernel_rfl
theorem zsize82 : Tryd.zeroCells82.size = 1091 := by kernel_rfl
theorem zhead82 : Tryd.zeroCells82.toList.take 6 = [.int .i32 0, .int .u32 0, .int .u32 0, .int .u32 0, .int .i32 0, .int .i32 0] := by kernel_rfl
theorem zcells82 : ((Tryd.prog.info? 82).bind (·.zero)).map (·.cells) = some Tryd.zeroCells82 := by kernel_rfl
theorem built82 (L : List Value) (hL : L.length = 1085) : ∃ R, Tryd.prog.built 82 [(1, .agg L.toArray)] = some R ∧ R.size = 1091 ∧ (∀ i, i < 6 → R[i]? = Tryd.zeroCells82[i]?) ∧ ∀ j v, L[j]? = some v → R[6 + j]? = some v := by
  refine ⟨(L.zipIdx 0).foldl (fun cs (x : Value × Nat) => cs.setIfInBounds (6 + x.2) x.1) Tryd.zeroCells82, ?_, ?_, fun i hi => ?_, fun j v hv => ?_⟩
  · have hzc := zcells82
    have hu := Tryd.underlying82
    have hus : ∃ fs, Tryd.prog.underlying 82 = some (.struct fs) ∧ fs.toList.mapM (fun f => (Tryd.prog.info? f.type).map fun i => (f.offset, i.size)) = some [(0, 6), (6, 1085)] := ⟨_, hu, by kernel_rfl⟩
    obtain ⟨fs, hu', hp⟩ := hus
    cases hq : Tryd.prog.info? 82 with
    | none => rw [hq] at hzc; cases hzc
    | some it =>
      rw [hq] at hzc
      cases hz : it.zero with
      | none => simp [hz] at hzc
      | some z =>
        have hzz : z.cells = Tryd.zeroCells82 := by simpa [hz] using hzc
        have hsz : z.cells.size = 1091 := by rw [hzz]; exact zsize82
        unfold Program.built
        rw [hq, hu']
        simp only [hz, hp]
        rw [hzz]
        unfold Instr.fill
        simp only [List.getElem?_toArray, List.getElem?_cons_succ, List.getElem?_cons_zero, Value.cells, List.size_toArray, hL]
        rw [if_neg (by rw [zsize82]; decide)]
        unfold Instr.fill
        simp
  · rw [over_size]; exact zsize82
  · rw [over_at, if_neg (by omega)]
  · have hj : j < L.length := (List.getElem?_eq_some_iff.1 hv).1
    rw [over_at, if_pos (by rw [zsize82]; omega), show 6 + j - (6 + 0) = j by omega]
    exact hv
/-- A key at g. -/
structure KeyAt (w : World) (g nr : Nat) (K : Nat → Nat) : Prop where
  ciph : Ciph w g 6 nr K
  count : w.cell? ⟨g, 4, none⟩ = some (.int .i32 0)
  room : w.there g 0 1091
theorem KeyAt.below {B : Nat} {w w' : World} {g nr : Nat} {K : Nat → Nat} (h : KeyAt w g nr K) (hb : Below B w w') (hg : g < B) : KeyAt w' g nr K :=
  ⟨h.ciph.below hb hg, (hb.cell hg).trans h.count, there_below h.room hb hg⟩
theorem keyAt_alloc (w : World) (R : Array Value) (nr : Nat) (K : Nat → Nat) (hs : R.size = 1091) (h6 : ∀ i, i < 6 → R[i]? = Tryd.zeroCells82[i]?) (hL : ∀ j v, (cipL nr K)[j]? = some v → R[6 + j]? = some v) (h1 : 1 ≤ nr) (h14 : nr ≤ 14) (hK : ∀ i, K i < 4294967296) :
    KeyAt (w.alloc (.cells R 82)) w.heap.size nr K := by
  have hc : ∀ i : Nat, (w.alloc (.cells R 82)).cell? ⟨w.heap.size, i, none⟩ = R[i]? := fun i => by
    rw [World.cell?_alloc_at R 82 _ _ rfl]
  refine ⟨ciph_of_range (fun j v hv => ?_) (by simp) h1 h14 hK, ?_, there_new w R 82 1091 (by rw [hs]; exact Nat.le_refl _)⟩
  · rw [hc]; exact hL j v hv
  · rw [hc, h6 4 (by decide), ← Array.getElem?_toList]
    have h := congrArg (fun l => l[4]?) zhead82
    simp only [List.getElem?_take_of_lt (show 4 < 6 by decide)] at h
    rw [h]; rfl
set_option maxHeartbeats 3200000 in
set_option maxRecDepth 100000 in
theorem new_ok (kb ko n cap nk : Nat) (key : Nat → Nat) (w : World) (hnk : nk = 4 ∨ nk = 6 ∨ nk = 8) (hn : n = 4 * nk) (hkb : kb < w.heap.size) (hcell : ∀ i, i < n → w.cell? ⟨kb, ko + i, none⟩ = some (.int .u8 (key i : Nat))) (hkey : ∀ i, key i < 256) (hrc : RC w) (hpos : 0 < w.heap.size) :
    Calls Tryd.prog 9 #[.slice (some ⟨kb, ko, none⟩) n cap] w fun e w' => ∃ g, e = .returned (.tuple #[.pointer (some ⟨g, 0, none⟩), .int .i64 0]) ∧ w.heap.size ≤ g ∧ KeyAt w' g (nk + 6) (schedK nk key) ∧ Below w.heap.size w w' := by
  obtain ⟨L, HL⟩ : ∃ L, Hid (L = cipL (nk + 6) (schedK nk key)) := ⟨_, rfl⟩
  have KS : Hid (Calls Tryd.prog 36 #[.slice (some ⟨kb, ko, none⟩) n cap] w fun e w' => e = .returned (.agg L.toArray) ∧ Below w.heap.size w w') := by
    rw [HL.out]
    exact sched_ok kb ko n cap nk key w hnk hn hkb hcell hkey hrc hpos
  obtain ⟨R, hR1, hR2, hR3, hR4⟩ := built82 L (by rw [HL.out]; exact cipL_length _ _)
  have HR : Hid (Tryd.prog.built 82 [(1, .agg L.toArray)] = some R) := hR1
  have HR2 : Hid (R.size = 1091 ∧ (∀ i, i < 6 → R[i]? = Tryd.zeroCells82[i]?) ∧ ∀ j v, (cipL (nk + 6) (schedK nk key))[j]? = some v → R[6 + j]? = some v) := ⟨hR2, hR3, by rw [← HL.out]; exact hR4⟩
  have HKl : Hid (1 ≤ nk + 6 ∧ nk + 6 ≤ 14 ∧ ∀ i, schedK nk key i < 4294967296) := ⟨by omega, by omega, schedK_lt hkey⟩
  clear hR1 hR2 hR3 hR4 hcell hkey hrc hkb hpos
  rcases hnk with rfl | rfl | rfl
  all_goals subst hn
  all_goals go_enter Tryd.func9, Tryd.ntmps9
  all_goals go_wp2_with (first
    | (go_at_call 36; refine KS.out.mono ?_)
    | fail)
  all_goals rintro e1 w1 ⟨rfl, hb1⟩
  all_goals (have HB : Hid (Below w.heap.size w w1) := hb1)
  all_goals clear hb1
  all_goals go_wp2_with (first
    | (refine wpList_build_big (by rfl) 82 #[(1, .tmp 11)] (by rfl) R (by simp only [List.map_toArray, List.map_cons, List.map_nil]; exact HR.out) ?_)
    | fail)
  all_goals go_ret2
  all_goals exact ⟨w1.heap.size, rfl, HB.out.size, keyAt_alloc w1 R _ _ HR2.out.1 HR2.out.2.1 HR2.out.2.2 HKl.out.1 HKl.out.2.1 HKl.out.2.2, HB.out.alloc HB.out.size _⟩
theorem new_bad (a : Option Addr) (n cap : Nat) (w : World) (h : n ≠ 16 ∧ n ≠ 24 ∧ n ≠ 32) : Calls Tryd.prog 9 #[.slice a n cap] w fun e w' => e = .returned (.tuple #[.pointer none, .int .i64 20]) ∧ w' = w := by
  have h1 : (((n : Nat) : Int) == 16) = false := by simp; omega
  have h2 : (((n : Nat) : Int) == 24) = false := by simp; omega
  have h3 : (((n : Nat) : Int) == 32) = false := by simp; omega
  clear h
  go_enter Tryd.func9, Tryd.ntmps9
  go_wp2
  go_ret2
  exact ⟨rfl, rfl⟩
end Go.Proofs.YtgmfiljjogdccaaDoor
