import Derived.Test.YtehlppaidgkpaaaGreatDoorPart15
import Derived.Test.YtehlppaidgkpaaaGreatDoorPart23
import Derived.Deep.RegionHeld3
import Derived.Maps.AppendAt
import Derived.Deep.QuietTactic
import Derived.BigQuiet
import Derived.Deep.Draws
import Derived.Test.YtehlppaidgkpaaaGreatDoorDgAddEmpty
import Derived.Test.YtehlppaidgkpaaaGreatDoorFdDot
import Derived.ProofKit
import Derived.OpenShut
import Derived.ChangeOld
import Derived.Deep.Slices
namespace Go.Proofs.YtehlppaidgkpaaaGreatDoor
open Go.RowKit
set_option linter.unusedVariables false
/-- A row of cells laid over another from off on. -/
theorem over_at (off : Nat) : ∀ (L : List Value) (k : Nat) (z : Array Value) (i : Nat), ((L.zipIdx k).foldl (fun cs (x : Value × Nat) => cs.setIfInBounds (off + x.2) x.1) z)[i]? =
    if off + k ≤ i ∧ i < off + k + L.length ∧ i < z.size then L[i - (off + k)]? else z[i]?
  | [], k, z, i => by simp; omega
  | v :: r, k, z, i => by
    rw [List.zipIdx_cons, List.foldl_cons, over_at off r (k + 1)]
    simp only [Array.size_setIfInBounds, List.length_cons]
    by_cases h1 : off + (k + 1) ≤ i ∧ i < off + (k + 1) + r.length ∧ i < z.size
    · rw [if_pos h1, if_pos (by omega)]
      rw [show i - (off + k) = (i - (off + (k + 1))) + 1 by omega, List.getElem?_cons_succ]
    · rw [if_neg h1]
      by_cases h2 : i = off + k
      · subst h2
        by_cases h3 : off + k < z.size
        · rw [Array.getElem?_setIfInBounds_self_of_lt h3, if_pos (by omega), Nat.sub_self]; rfl
        · rw [if_neg (by omega)]
          rw [Array.getElem?_eq_none (by simp; omega), Array.getElem?_eq_none (by omega)]
      · rw [Array.getElem?_setIfInBounds_ne (by omega), if_neg (by omega)]
theorem over_size (off : Nat) : ∀ (L : List Value) (k : Nat) (z : Array Value), ((L.zipIdx k).foldl (fun cs (x : Value × Nat) => cs.setIfInBounds (off + x.2) x.1) z).size = z.size
  | [], k, z => rfl
  | v :: r, k, z => by rw [List.zipIdx_cons, List.foldl_cons, over_size off r (k + 1)]; simp
theorem zsize82 : Tryz.zeroCells135.size = 1091 := by kernel_rfl
theorem zhead82 : Tryz.zeroCells135.toList.take 6 = [.int .i32 0, .int .u32 0, .int .u32 0, .int .u32 0, .int .i32 0, .int .i32 0] := by kernel_rfl
theorem zcells82 : ((Tryz.prog.info? 135).bind (·.zero)).map (·.cells) = some Tryz.zeroCells135 := by kernel_rfl
theorem built82 (L : List Value) (hL : L.length = 1085) : ∃ R, Tryz.prog.built 135 [(1, .agg L.toArray)] = some R ∧ R.size = 1091 ∧ (∀ i, i < 6 → R[i]? = Tryz.zeroCells135[i]?) ∧ ∀ j v, L[j]? = some v → R[6 + j]? = some v := by
  refine ⟨(L.zipIdx 0).foldl (fun cs (x : Value × Nat) => cs.setIfInBounds (6 + x.2) x.1) Tryz.zeroCells135, ?_, ?_, fun i hi => ?_, fun j v hv => ?_⟩
  · have hzc := zcells82
    have hu := Tryz.underlying135
    have hus : ∃ fs, Tryz.prog.underlying 135 = some (.struct fs) ∧ fs.toList.mapM (fun f => (Tryz.prog.info? f.type).map fun i => (f.offset, i.size)) = some [(0, 6), (6, 1085)] := ⟨_, hu, by kernel_rfl⟩
    obtain ⟨fs, hu', hp⟩ := hus
    cases hq : Tryz.prog.info? 135 with
    | none => rw [hq] at hzc; cases hzc
    | some it =>
      rw [hq] at hzc
      cases hz : it.zero with
      | none => simp [hz] at hzc
      | some z =>
        have hzz : z.cells = Tryz.zeroCells135 := by simpa [hz] using hzc
        have hsz : z.cells.size = 1091 := by rw [hzz]; exact zsize82
        unfold Program.built
        rw [hq, hu']
        simp only [hz, hp]
        rw [hzz]
        unfold Instr.fill
        simp only [List.getElem?_toArray, List.getElem?_cons_succ, List.getElem?_cons_zero, Value.cells, List.size_toArray, hL]
        rw [if_neg (by rw [zsize82]; decide)]
        unfold Instr.fill
        simp
  · rw [over_size]; exact zsize82
  · rw [over_at, if_neg (by omega)]
  · have hj : j < L.length := (List.getElem?_eq_some_iff.1 hv).1
    rw [over_at, if_pos (by rw [zsize82]; omega), show 6 + j - (6 + 0) = j by omega]
    exact hv
/-- A key at g. -/
structure KeyAt (w : World) (g nr : Nat) (K : Nat → Nat) : Prop where
  ciph : Ciph w g 6 nr K
  count : w.cell? ⟨g, 4, none⟩ = some (.int .i32 0)
  room : w.there g 0 1091
theorem there_sameK {u u' : World} {B o n : Nat} (h : u.there B o n) (e : u'.heap[B]? = u.heap[B]?) : u'.there B o n := fun j hj => by
  rw [World.cell?_of_block (a := ⟨B, o + j, none⟩) e, World.frozen?_of_block (a := ⟨B, o + j, none⟩) e]; exact h j hj
theorem KeyAt.sameK {u u' : World} {g nr : Nat} {K : Nat → Nat} (h : KeyAt u g nr K) (e : u'.heap[g]? = u.heap[g]?) (hs : u.heap.size ≤ u'.heap.size) : KeyAt u' g nr K := by
  have c : ∀ j : Nat, u'.cell? ⟨g, j, none⟩ = u.cell? ⟨g, j, none⟩ := fun j => World.cell?_of_block (a := ⟨g, j, none⟩) e
  exact ⟨⟨(c _).trans h.ciph.rounds, fun i hi => (c _).trans (h.ciph.words i hi), h.ciph.small, ⟨fun b hb => (c _).trans (h.ciph.tab.s b hb), fun b hb => (c _).trans (h.ciph.tab.u b hb), fun b hb => (c _).trans (h.ciph.tab.m b hb), fun b hb => (c _).trans (h.ciph.tab.n b hb)⟩, Nat.lt_of_lt_of_le h.ciph.here hs, h.ciph.some, h.ciph.most⟩, (c _).trans h.count, there_sameK h.room e⟩
theorem KeyAt.below {B : Nat} {w w' : World} {g nr : Nat} {K : Nat → Nat} (h : KeyAt w g nr K) (hb : Below B w w') (hg : g < B) : KeyAt w' g nr K :=
  ⟨h.ciph.below hb hg, (hb.cell hg).trans h.count, there_below h.room hb hg⟩
theorem keyAt_alloc (w : World) (R : Array Value) (nr : Nat) (K : Nat → Nat) (hs : R.size = 1091) (h6 : ∀ i, i < 6 → R[i]? = Tryz.zeroCells135[i]?) (hL : ∀ j v, (cipL nr K)[j]? = some v → R[6 + j]? = some v) (h1 : 1 ≤ nr) (h14 : nr ≤ 14) (hK : ∀ i, K i < 4294967296) :
    KeyAt (w.alloc (.cells R 135)) w.heap.size nr K := by
  have hc : ∀ i : Nat, (w.alloc (.cells R 135)).cell? ⟨w.heap.size, i, none⟩ = R[i]? := fun i => by
    rw [World.cell?_alloc_at R 135 _ _ rfl]
  refine ⟨ciph_of_range (fun j v hv => ?_) (by simp) h1 h14 hK, ?_, there_new w R 135 1091 (by rw [hs]; exact Nat.le_refl _)⟩
  · rw [hc]; exact hL j v hv
  · rw [hc, h6 4 (by decide), ← Array.getElem?_toList]
    have h := congrArg (fun l => l[4]?) zhead82
    simp only [List.getElem?_take_of_lt (show 4 < 6 by decide)] at h
    rw [h]; rfl
set_option maxHeartbeats 3200000 in
set_option maxRecDepth 100000 in
theorem new_ok (kb ko n cap nk : Nat) (key : Nat → Nat) (w : World) (hnk : nk = 4 ∨ nk = 6 ∨ nk = 8) (hn : n = 4 * nk) (hkb : kb < w.heap.size) (hcell : ∀ i, i < n → w.cell? ⟨kb, ko + i, none⟩ = some (.int .u8 (key i : Nat))) (hkey : ∀ i, key i < 256) (hrc : RC w) (hpos : 1 < w.heap.size) :
    Calls Tryz.prog 31 #[.slice (some ⟨kb, ko, none⟩) n cap] w fun e w' => ∃ g, e = .returned (.tuple #[.pointer (some ⟨g, 0, none⟩), .int .i64 0]) ∧ w.heap.size ≤ g ∧ KeyAt w' g (nk + 6) (schedK nk key) ∧ Below w.heap.size w w' ∧ ∃ R : Array Value, w'.heap[g]? = some (.cells R 135 (0, 0)) := by
  obtain ⟨L, HL⟩ : ∃ L, Hid (L = cipL (nk + 6) (schedK nk key)) := ⟨_, rfl⟩
  have KS : Hid (Calls Tryz.prog 52 #[.slice (some ⟨kb, ko, none⟩) n cap] w fun e w' => e = .returned (.agg L.toArray) ∧ Below w.heap.size w w') := by
    rw [HL.out]
    exact sched_ok kb ko n cap nk key w hnk hn hkb hcell hkey hrc hpos
  obtain ⟨R, hR1, hR2, hR3, hR4⟩ := built82 L (by rw [HL.out]; exact cipL_length _ _)
  have HR : Hid (Tryz.prog.built 135 [(1, .agg L.toArray)] = some R) := hR1
  have HR2 : Hid (R.size = 1091 ∧ (∀ i, i < 6 → R[i]? = Tryz.zeroCells135[i]?) ∧ ∀ j v, (cipL (nk + 6) (schedK nk key))[j]? = some v → R[6 + j]? = some v) := ⟨hR2, hR3, by rw [← HL.out]; exact hR4⟩
  have HKl : Hid (1 ≤ nk + 6 ∧ nk + 6 ≤ 14 ∧ ∀ i, schedK nk key i < 4294967296) := ⟨by omega, by omega, schedK_lt hkey⟩
  clear hR1 hR2 hR3 hR4 hcell hkey hrc hkb hpos
  rcases hnk with rfl | rfl | rfl
  all_goals subst hn
  all_goals go_enter Tryz.func31, Tryz.ntmps31
  all_goals go_wp2_with (first
    | (go_at_call 52; refine KS.out.mono ?_)
    | fail)
  all_goals rintro e1 w1 ⟨rfl, hb1⟩
  all_goals (have HB : Hid (Below w.heap.size w w1) := hb1)
  all_goals clear hb1
  all_goals go_wp2_with (first
    | (refine wpList_build_big (by rfl) 135 #[(1, .tmp 11)] (by rfl) R (by simp only [List.map_toArray, List.map_cons, List.map_nil]; exact HR.out) ?_)
    | fail)
  all_goals go_ret2
  all_goals exact ⟨w1.heap.size, rfl, HB.out.size, keyAt_alloc w1 R _ _ HR2.out.1 HR2.out.2.1 HR2.out.2.2 HKl.out.1 HKl.out.2.1 HKl.out.2.2, HB.out.alloc HB.out.size _, R, heap_alloc_new w1 _⟩
end Go.Proofs.YtehlppaidgkpaaaGreatDoor
namespace Go.Proofs.YtehlppaidgkpaaaGreatDoor
open Go.RowKit
set_option linter.unusedVariables false
set_option linter.unusedSimpArgs false
/-- rijndael.New of bytes that are seen. -/
theorem new_view (v : Value) (ys : List Int) (nk : Nat) (w : World) (hnk : nk = 4 ∨ nk = 6 ∨ nk = 8) (hl : ys.length = 4 * nk) (hv : View w v ys) (hb : AllBytes ys) (hrc : RC w) (hpos : 1 < w.heap.size) :
    Calls Tryz.prog 31 #[v] w fun e w' => Hid (∃ g, e = .returned (.tuple #[.pointer (some ⟨g, 0, none⟩), .int .i64 0]) ∧ w.heap.size ≤ g ∧ KeyAt w' g (nk + 6) (schedK nk (nat8 ys)) ∧ Below w.heap.size w w' ∧ ∃ R : Array Value, w'.heap[g]? = some (.cells R 135 (0, 0))) := by
  have h0 : ys ≠ [] := by intro q; rw [q] at hl; simp at hl; omega
  have hlt := view_lt hv h0
  obtain ⟨a, c, rfl, h1, h2, h3, h4⟩ := hv
  rcases h4 with q | ⟨b, off, rfl, hc⟩
  · exact absurd q h0
  · rw [hl] at hc hlt ⊢
    exact (new_ok b off (4 * nk) c nk (nat8 ys) w hnk rfl (hlt b off _ _ rfl) (fun i hi => by rw [nat8_eq hb]; exact hc i hi) (nat8_lt hb) hrc hpos).mono fun e w' hh => hh
/-- The shared part's cells. -/
def shL (S : ByteArray) (st : Nat) (kv : Value) (wd : Nat) (mp : Option Addr) (ov : Value) : List Value := [.string S, .int .i64 (st : Nat), kv, .int .i64 (wd : Nat), .pointer mp, ov, .bool false]
/-- AES under the key's first wd bytes. -/
def MK (w : World) (B : Nat) (mp : Option Addr) (wd : Nat) (zs : List Int) : Prop :=
  (wd = 0 ∧ mp = none) ∨ ∃ g nk, mp = some ⟨g, 0, none⟩ ∧ B ≤ g ∧ (nk = 4 ∨ nk = 6 ∨ nk = 8) ∧ wd = 4 * nk ∧ KeyAt w g (nk + 6) (schedK nk (nat8 (zs.take wd))) ∧ ∃ R : Array Value, w.heap[g]? = some (.cells R 135 (0, 0))
structure ShA (B : Nat) (w : World) (sh : Nat) (S : ByteArray) (st wd : Nat) (zs : List Int) (kv : Value) (mp : Option Addr) (ov : Value) : Prop where
  le : B ≤ sh
  box : Bx w sh 115 (shL S st kv wd mp ov)
  key : w.ownsRow B 5 1 kv zs.length (cellsU8 zs)
  main : MK w B mp wd zs
  oth : ∃ n os, n ≤ 4 ∧ w.ownsRow B 71 1 ov n os
/-- Only the shared part, and the row of its schedules, change. -/
structure Fs (B sh : Nat) (w w' : World) : Prop where
  bel : Below B w w'
  blk : ∀ b, b < w.heap.size → b ≠ sh → (∀ cs fr, w.heap[b]? ≠ some (.cells cs 71 fr)) → w'.heap[b]? = w.heap[b]?
theorem Fs.of_below {B sh : Nat} {w w' : World} (h : Below w.heap.size w w') (hB : B ≤ w.heap.size) : Fs B sh w w' := ⟨h.mono hB, fun b hb _ _ => h.block b hb⟩
theorem Fs.trans {B sh : Nat} {u v w : World} (h : Fs B sh u v) (k : Fs B sh v w) : Fs B sh u w :=
  ⟨h.bel.trans k.bel, fun b hb hn ht => by
    have e := h.blk b hb hn ht
    rw [k.blk b (Nat.lt_of_lt_of_le hb h.bel.size) hn (by rw [e]; exact ht), e]⟩
theorem Fs.bx {B sh b : Nat} {t : TypeId} {w w' : World} {cs : List Value} (h : Fs B sh w w') (x : Bx w b t cs) (hn : b ≠ sh) (ht : t ≠ 71) : Bx w' b t cs :=
  x.keep (h.blk b x.lt hn (fun cs fr q => by unfold Bx at x; rw [x] at q; injection q with q; injection q with _ q _; exact ht q))
theorem MK.keep {w w' : World} {B : Nat} {mp : Option Addr} {wd : Nat} {zs : List Int} (h : MK w B mp wd zs) (hk : ∀ g, mp = some ⟨g, 0, none⟩ → w'.heap[g]? = w.heap[g]?) (hs : w.heap.size ≤ w'.heap.size) : MK w' B mp wd zs := by
  rcases h with q | ⟨g, nk, e, hB, hn, hw, hK, R, hR⟩
  · exact .inl q
  · exact .inr ⟨g, nk, e, hB, hn, hw, hK.sameK (hk g e) hs, R, by rw [hk g e]; exact hR⟩
theorem MK.lt {w : World} {B : Nat} {mp : Option Addr} {wd : Nat} {zs : List Int} (h : MK w B mp wd zs) (g : Nat) (e : mp = some ⟨g, 0, none⟩) : g < w.heap.size ∧ B ≤ g ∧ ∃ R : Array Value, w.heap[g]? = some (.cells R 135 (0, 0)) := by
  rcases h with ⟨_, q⟩ | ⟨g', nk, e', hB, hn, hw, hK, R, hR⟩
  · rw [q] at e; cases e
  · rw [e'] at e; injection e with e; injection e with e; subst e
    exact ⟨hK.ciph.here, hB, R, hR⟩
theorem own_type {w : World} {B : Nat} {e : TypeId} {K : Nat} {v : Value} {n : Nat} {xs : List Value} (h : w.ownsRow B e K v n xs) {g : Nat} (hg : v.ownBlock = some g) : ∃ cur, w.heap[g]? = some (.cells cur e (0, 0)) := by
  rcases h.2 with ⟨rfl, _⟩ | ⟨g', cap, cur, rfl, _, hh, _⟩
  · simp [Value.ownBlock] at hg
  · have e : g' = g := by simpa [Value.ownBlock] using hg
    subst e
    exact ⟨cur, hh⟩
theorem type_ne {w : World} {a b : Nat} {s t : TypeId} {cs ds : Array Value} {f g : Nat × Nat} (h : w.heap[a]? = some (.cells cs s f)) (k : w.heap[b]? = some (.cells ds t g)) (hst : s ≠ t) : a ≠ b := by
  intro e; subst e; rw [h] at k; injection k with k; injection k with _ k _; exact hst k
theorem ShA.below {B : Nat} {w w' : World} {sh : Nat} {S : ByteArray} {st wd : Nat} {zs : List Int} {kv : Value} {mp : Option Addr} {ov : Value} (h : ShA B w sh S st wd zs kv mp ov) (b : Below w.heap.size w w') : ShA B w' sh S st wd zs kv mp ov :=
  ⟨h.le, h.box.below b, ownsRow_below h.key b, h.main.keep (fun g e => b.block g (h.main.lt g e).1) b.size, by obtain ⟨n, os, hn, ho⟩ := h.oth; exact ⟨n, os, hn, ownsRow_below ho b⟩⟩
/-- The row of schedules grew, then the shared part's sixth cell was written. -/
theorem ShA.sched {B : Nat} {w w1 : World} {sh : Nat} {S : ByteArray} {st wd : Nat} {zs : List Int} {kv : Value} {mp : Option Addr} {ov ov' : Value} {n : Nat} {os : List Value} (h : ShA B w sh S st wd zs kv mp ov) (hg : w.grownBy w1 ov.ownBlock) (ho : w1.ownsRow B 71 1 ov' n os) (hn : n ≤ 4) (hB : B ≤ w.heap.size) :
    Bx w1 sh 115 (shL S st kv wd mp ov) ∧ ShA B (w1.setCell ⟨sh, 5, none⟩ ov') sh S st wd zs kv mp ov' ∧ Fs B sh w (w1.setCell ⟨sh, 5, none⟩ ov') := by
  obtain ⟨n0, os0, _, ho0⟩ := h.oth
  have hne : ∀ (b : Nat) (t : TypeId) (cs : Array Value) (fr : Nat × Nat), w.heap[b]? = some (Obj.cells cs t fr) → t ≠ 71 → w1.heap[b]? = w.heap[b]? := fun b t cs fr hb ht => by
    refine hg.block b (Array.getElem?_eq_some_iff.1 hb).1 ?_
    intro e
    obtain ⟨cur, q⟩ := own_type ho0 e.symm
    exact type_ne q hb (fun e => ht e.symm) rfl
  have b1 : Bx w1 sh 115 (shL S st kv wd mp ov) := h.box.keep (hne _ 115 _ _ h.box (by decide))
  have hst : ∀ b, b ≠ sh → (w1.setCell ⟨sh, 5, none⟩ ov').heap[b]? = w1.heap[b]? := fun b hb => Below.heap_setCell w1 ⟨sh, 5, none⟩ ov' b (fun e => hb e)
  have b2 := b1.set 5 ov'
  refine ⟨b1, ⟨h.le, b2, ?_, ?_, n, os, hn, ?_⟩, ?_, ?_⟩
  · refine ownsRow_keep h.key fun g q => ?_
    obtain ⟨cur, hc⟩ := own_type h.key q
    rw [hst g (type_ne hc h.box (by decide)), hne g 5 _ _ hc (by decide)]
  · refine h.main.keep (fun g e => ?_) ?_
    · obtain ⟨_, _, R, hR⟩ := h.main.lt g e
      rw [hst g (type_ne hR h.box (by decide)), hne g 135 _ _ hR (by decide)]
    · have := hg.size; simpa using this
  · refine ownsRow_keep ho fun g q => ?_
    obtain ⟨cur, hc⟩ := own_type ho q
    exact hst g (type_ne hc b1 (by decide))
  · have q : Below B w w1 := (Below.refl _ _).grown hg hB (fun k hk => (ownsRow_lt ho0 hk).1)
    exact q.setCell h.le _
  · intro b hb hn' ht
    rw [hst b hn']
    refine hg.block b hb ?_
    intro e
    obtain ⟨cur, q⟩ := own_type ho0 e.symm
    exact ht _ _ q
theorem Tryz.info105 : (Tryz.prog.info? 71).map (fun i => (i.zero, i.size, i.bytes)) = some (some (.pointer none), 1, 8) := by kernel_rfl
set_option maxHeartbeats 1600000 in
set_option maxRecDepth 100000 in
/-- shared.schedule. -/
theorem schedule_ok (B sh : Nat) (S : ByteArray) (st wd : Nat) (zs : List Int) (kv : Value) (mp : Option Addr) (ov : Value) (v : Value) (ys : List Int) (nk : Nat) (w : World) (h : ShA B w sh S st wd zs kv mp ov) (hB : B ≤ w.heap.size) (hfew : ∃ n os, n ≤ 3 ∧ w.ownsRow B 71 1 ov n os)
    (hnk : nk = 4 ∨ nk = 6 ∨ nk = 8) (hl : ys.length = 4 * nk) (hv : View w v ys) (hb : AllBytes ys) (hrc : RC w) (hpos : 1 < w.heap.size) :
    Calls Tryz.prog 186 #[.pointer (some ⟨sh, 0, none⟩), v] w fun e w' => Hid (∃ g ov', e = .returned (.pointer (some ⟨g, 0, none⟩)) ∧ w.heap.size ≤ g ∧ KeyAt w' g (nk + 6) (schedK nk (nat8 ys)) ∧ (∃ R : Array Value, w'.heap[g]? = some (.cells R 135 (0, 0))) ∧ ShA B w' sh S st wd zs kv mp ov' ∧ (∀ n os, w.ownsRow B 71 1 ov n os → ∃ os', w'.ownsRow B 71 1 ov' (n + 1) os') ∧ Fs B sh w w') := by
  have HN : Hid (Calls Tryz.prog 31 #[v] w fun e w' => Hid (∃ g, e = .returned (.tuple #[.pointer (some ⟨g, 0, none⟩), .int .i64 0]) ∧ w.heap.size ≤ g ∧ KeyAt w' g (nk + 6) (schedK nk (nat8 ys)) ∧ Below w.heap.size w w' ∧ ∃ R : Array Value, w'.heap[g]? = some (.cells R 135 (0, 0)))) := new_view v ys nk w hnk hl hv hb hrc hpos
  have HA : Hid (ShA B w sh S st wd zs kv mp ov) := h
  have HBB : Hid (B ≤ w.heap.size) := hB
  obtain ⟨n0, os0, hn0, ho0⟩ := hfew
  have HO0 : Hid (n0 ≤ 3 ∧ w.ownsRow B 71 1 ov n0 os0) := ⟨hn0, ho0⟩
  clear h hB hnk hl hv hb hrc hpos hn0 ho0
  obtain ⟨i0, hi0, hz0, hz1, hz2⟩ := info_parts Tryz.info105
  have HI0 : Hid (Tryz.prog.info? 71 = some i0 ∧ i0.zero = some (.pointer none) ∧ i0.size = 1 ∧ i0.bytes = 8) := ⟨hi0, hz0, hz1, hz2⟩
  clear hi0 hz0 hz1 hz2
  go_enter Tryz.func186, Tryz.ntmps186
  go_upto_region 2 with (go_at_call 31; refine HN.out.mono ?_; intro e1 w1 hh; obtain ⟨g, rfl, hg1, hK1, hb1, R1, hR1⟩ := hh.out; have HK1 : Hid (w.heap.size ≤ g ∧ KeyAt w1 g (nk + 6) (schedK nk (nat8 ys)) ∧ Below w.heap.size w w1 ∧ w1.heap[g]? = some (.cells R1 135 (0, 0))) := ⟨hg1, hK1, hb1, hR1⟩; clear hh hg1 hK1 hb1 hR1 HN)
  have HA1 : Hid (ShA B w1 sh S st wd zs kv mp ov) := HA.out.below HK1.out.2.2.1
  have HO1 : Hid (w1.ownsRow B 71 1 ov n0 os0) := ownsRow_below HO0.out.2 HK1.out.2.2.1
  have hov : (∃ x a c, ov = .slice x a c) := by
    rcases HO1.out.2 with ⟨rfl, _⟩ | ⟨g', cap, cur, rfl, _⟩
    · exact ⟨_, _, _, rfl⟩
    · exact ⟨_, _, _, rfl⟩
  obtain ⟨xa, xl, xc, rfl⟩ := hov
  have c5 : w1.cell? ⟨sh, 5, none⟩ = some (.slice xa xl xc) := HA1.out.box.cell 5 _ rfl
  have hlt : Hid (sh < w1.heap.size) := HA1.out.box.lt
  have HA2 : Hid (ShA B (w1.alloc (.cells #[.pointer (some ⟨g, 0, none⟩)] 71)) sh S st wd zs kv mp (.slice xa xl xc)) := HA1.out.below ((Below.refl _ _).alloc (Nat.le_refl _) _)
  go_wp2_with (first
    | (at_builtin; go_must (refine wpList_append_own_at _ rfl (.tmp 16) (.tmp 18) 113 rfl B 71 i0 (.pointer none) 1 8 Tryz.underlying113 HI0.out.1 HI0.out.2.1 HI0.out.2.2.1 HI0.out.2.2.2 rfl (by decide) _ n0 os0 rfl (HO1.out.alloc _) ⟨w1.heap.size, 0, none⟩ 1 1 [.pointer (some ⟨g, 0, none⟩)] rfl rfl ?_ ?_ ?_ ?_ ?_ ?_)))
  · intro j u hj
    match j, hj with
    | 0, hj => simp at hj; subst hj; simp [Addr.add]
  · intro u hu; simp at hu; subst hu; rfl
  · have := HO0.out.1; unfold maxLen; omega
  · have := HO0.out.1; omega
  · have := HBB.out; have := HK1.out.2.2.1.size; simp; omega
  intro v2 w2 hown hgrow hnil hat
  obtain ⟨hbx, hsh, hfs⟩ := HA2.out.sched hgrow hown (by have := HO0.out.1; omega) (by have := HBB.out; have := HK1.out.2.2.1.size; simp; omega)
  have hv2 : (∃ x a c, v2 = .slice x a c) := by
    rcases hown.2 with ⟨rfl, _⟩ | ⟨g', cap, cur, rfl, _⟩
    · exact ⟨_, _, _, rfl⟩
    · exact ⟨_, _, _, rfl⟩
  obtain ⟨ya, yl, yc, rfl⟩ := hv2
  have HSH : Hid (ShA B (w2.setCell ⟨sh, 5, none⟩ (.slice ya yl yc)) sh S st wd zs kv mp (.slice ya yl yc)) := hsh
  have HFS : Hid (Fs B sh (w1.alloc (.cells #[.pointer (some ⟨g, 0, none⟩)] 71)) (w2.setCell ⟨sh, 5, none⟩ (.slice ya yl yc))) := hfs
  have d5 : w2.cell? ⟨sh, 5, none⟩ = some (.slice xa xl xc) := hbx.cell 5 _ rfl
  have f5 : w2.frozen? ⟨sh, 5, none⟩ = false := hbx.frozen 5
  have HOW : Hid (w2.ownsRow B 71 1 (.slice ya yl yc) (n0 + 1) (os0 ++ [.pointer (some ⟨g, 0, none⟩)]) ∧ w2.heap[sh]? = some (.cells (shL S st kv wd mp (.slice xa xl xc)).toArray 115 (0, 0))) := ⟨hown, hbx⟩
  clear hown hgrow hnil hat hbx hsh hfs c5
  go_wp2
  go_ret
  have hF : Fs B sh w (w2.setCell ⟨sh, 5, none⟩ (.slice ya yl yc)) := (Fs.of_below HK1.out.2.2.1 HBB.out).trans ((Fs.of_below ((Below.refl _ _).alloc (Nat.le_refl _) _) (Nat.le_trans HBB.out HK1.out.2.2.1.size)).trans HFS.out)
  have hgk : (w2.setCell ⟨sh, 5, none⟩ (.slice ya yl yc)).heap[g]? = w1.heap[g]? := by
    have l : g < w1.heap.size := HK1.out.2.1.ciph.here
    have e : (w1.alloc (.cells #[.pointer (some ⟨g, 0, none⟩)] 71)).heap[g]? = w1.heap[g]? := Below.heap_alloc _ _ _ l
    rw [HFS.out.blk g (by simp; omega) (type_ne HK1.out.2.2.2 HA1.out.box (by decide)) (by rw [e, HK1.out.2.2.2]; intro cs fr q; injection q with q; injection q with _ q _; exact absurd q (by decide)), e]
  refine ⟨g, .slice ya yl yc, rfl, HK1.out.1, HK1.out.2.1.sameK hgk (Nat.le_trans (by simp) HFS.out.bel.size), ⟨R1, by rw [hgk]; exact HK1.out.2.2.2⟩, HSH.out, fun n os ho => ?_, hF⟩
  have e : n = n0 := by
    have q1 := ho.2
    have q2 := HO0.out.2.2
    rcases q1 with ⟨q, r⟩ | ⟨_, _, _, q, _⟩ <;> rcases q2 with ⟨q', r'⟩ | ⟨_, _, _, q', _⟩
    · omega
    · rw [q] at q'; cases q'
    · rw [q] at q'; cases q'
    · rw [q] at q'; injection q' with _ q' _
  subst e
  exact ⟨_, ownsRow_keep HOW.out.1 fun b q => by
    obtain ⟨cur, hc⟩ := own_type HOW.out.1 q
    exact Below.heap_setCell w2 ⟨sh, 5, none⟩ _ b (fun e => type_ne HOW.out.2 hc (by decide) e.symm)⟩
end Go.Proofs.YtehlppaidgkpaaaGreatDoor
namespace Go.Proofs.YtehlppaidgkpaaaGreatDoor
open Go.RowKit
set_option linter.unusedVariables false
set_option linter.unusedSimpArgs false
/-- What share answers. -/
def ShP (B : Nat) (w : World) (S : ByteArray) (st wd : Nat) (zs : List Int) (e : Ending) (w' : World) : Prop :=
  ∃ sh kv mp, e = .returned (.pointer (some ⟨sh, 0, none⟩)) ∧ w.heap.size ≤ sh ∧ ShA w.heap.size w' sh S st wd zs kv mp (.slice none 0 0) ∧ Below w.heap.size w w'
theorem own_base {w : World} {B B' : Nat} {e : TypeId} {K : Nat} {v : Value} {n : Nat} {xs : List Value} (h : w.ownsRow B e K v n xs) (hb : B' ≤ B) : w.ownsRow B' e K v n xs := by
  refine ⟨h.1, ?_⟩
  rcases h.2 with q | ⟨g, cap, cur, e1, e2, rest⟩
  · exact .inl q
  · exact .inr ⟨g, cap, cur, e1, Nat.le_trans hb e2, rest⟩
theorem built108 (S : ByteArray) (a b : Int) (x : Option Addr) (n c : Nat) (p : Option Addr) : Tryz.prog.built 115 [(0, .string S), (1, .int .i64 a), (2, .slice x n c), (3, .int .i64 b), (4, .pointer p)] = some #[.string S, .int .i64 a, .slice x n c, .int .i64 b, .pointer p, .slice none 0 0, .bool false] := by kernel_rfl
set_option maxHeartbeats 1600000 in
set_option maxRecDepth 100000 in
/-- tweak.share, of a key whose first part makes a schedule (or of no bytes). -/
theorem share_gen (S T : ByteArray) (wd a b st : Nat) (f g : Value) (v : Value) (zs : List Int) (w : World) (hf : f.oneCell' = true) (hg : g.oneCell' = true) (hv : View w v zs) (hn : zs.length ≤ 100000) (hwd : wd ≤ zs.length)
    (HN : Hid (∀ u : World, Below w.heap.size w u → ∀ x : Value, View u x (zs.take wd) → Calls Tryz.prog 31 #[x] u fun e u' => Hid (∃ mp c, e = .returned (.tuple #[.pointer mp, .int .i64 c]) ∧ MK u' w.heap.size mp wd zs ∧ Below u.heap.size u u'))) :
    Calls Tryz.prog 44 #[.agg #[.string S, .int .i64 (wd : Nat), .string T, .int .i64 (a : Nat), .int .i64 (b : Nat), .int .i64 (st : Nat), f, g], v] w fun e w' => ShP w.heap.size w S st wd zs e w' := by
  have HF : Hid (f.oneCell' = true ∧ g.oneCell' = true) := ⟨hf, hg⟩
  have hsF : ∀ u ad md, (store ad f md).run Tryz.prog u = stored Tryz.prog u ad f md := fun u ad md => run_store Tryz.prog u ad f md hf
  have hsG : ∀ u ad md, (store ad g md).run Tryz.prog u = stored Tryz.prog u ad g md := fun u ad md => run_store Tryz.prog u ad g md hg
  have HV : Hid (View w v zs) := hv
  obtain ⟨va, vc, rfl, h1, h2, h3, h4⟩ := hv
  obtain ⟨n, HNL⟩ : ∃ n, Hid (zs.length = n) := ⟨_, rfl⟩
  rw [HNL.out] at hwd h1 hn HV ⊢
  obtain ⟨ka, kc, hk⟩ : ∃ ka kc, sliced va 0 wd vc 1 = .slice ka wd kc := ⟨_, _, rfl⟩
  have HKV : Hid (sliced va 0 wd vc 1 = .slice ka wd kc) := hk
  have hsl := fun u : World => slice_h u va n vc wd (by omega)
  rw [hk] at hsl
  clear hk
  have HVC : Hid (n ≤ vc ∧ n ≤ 100000 ∧ wd ≤ n) := ⟨h1, hn, hwd⟩
  clear hf hg h2 h3 h4 h1 hn hwd
  go_enter Tryz.func44, Tryz.ntmps44
  go_upto_region 1 with fail
  obtain ⟨w1, hw1⟩ : ∃ w1, w1 = w.alloc (.cells #[.string S, .int .i64 (wd : Nat), .string T, .int .i64 (a : Nat), .int .i64 (b : Nat), .int .i64 (st : Nat), f, g] 96) := ⟨_, rfl⟩
  have HB1 : Hid (Bx w1 w.heap.size 96 [.string S, .int .i64 (wd : Nat), .string T, .int .i64 (a : Nat), .int .i64 (b : Nat), .int .i64 (st : Nat), f, g] ∧ Below w.heap.size w w1) := by
    rw [hw1]; exact ⟨Bx.new w 96 _, (Below.refl _ _).alloc (Nat.le_refl _) _⟩
  rw [← hw1]
  clear hw1 hsF hsG
  obtain ⟨m, HM⟩ : ∃ m, Hid (w.heap.size = m) := ⟨_, rfl⟩
  rw [HM.out] at HB1 HN ⊢
  have d1 : w1.cell? ⟨m, 1, none⟩ = some (.int .i64 (wd : Nat)) := HB1.out.1.cell 1 _ rfl
  have g0 : (0 : Int) ≤ (wd : Int) := by omega
  have KN : Hid (Calls Tryz.prog 31 #[.slice ka wd kc] w1 fun e u' => Hid (∃ mp c, e = .returned (.tuple #[.pointer mp, .int .i64 c]) ∧ MK u' m mp wd zs ∧ Below w1.heap.size w1 u')) := by
    refine HN.out w1 HB1.out.2 _ ?_
    have q := view_sliced (View.below HV.out (by rw [HM.out]; exact HB1.out.2)) 0 wd (Nat.zero_le _) HVC.out.2.2
    rw [HKV.out] at q
    simpa using q
  go_upto_region 2 with (go_at_call 31; refine KN.out.mono ?_; intro e2 w2 hh; obtain ⟨mp, cc, rfl, hK2, hb2⟩ := hh.out; have HK2 : Hid (MK w2 m mp wd zs ∧ Below w1.heap.size w1 w2) := ⟨hK2, hb2⟩; clear hh hK2 hb2 KN)
  have HB2 : Hid (Bx w2 m 96 [.string S, .int .i64 (wd : Nat), .string T, .int .i64 (a : Nat), .int .i64 (b : Nat), .int .i64 (st : Nat), f, g] ∧ Below m w w2) := ⟨HB1.out.1.below HK2.out.2, HB1.out.2.trans (HK2.out.2.mono (by have := HB1.out.1.lt; omega))⟩
  clear d1 hsl
  have HS2 : Hid (∀ u : World, Below w2.heap.size w2 u → u.cell? ⟨m, 0, none⟩ = some (.string S) ∧ u.cell? ⟨m, 1, none⟩ = some (.int .i64 (wd : Nat)) ∧ u.cell? ⟨m, 5, none⟩ = some (.int .i64 (st : Nat))) := fun u hu => by
    have q := HB2.out.1.below hu
    exact ⟨q.cell 0 _ rfl, q.cell 1 _ rfl, q.cell 5 _ rfl⟩
  obtain ⟨d0, d1, d5⟩ := HS2.out w2 (Below.refl _ _)
  have KC : Hid (∀ u : World, Below w2.heap.size w2 u → Calls Tryz.prog 66 #[.slice va n vc] u fun e u' => Hid (∃ v', e = .returned v' ∧ u'.ownsRow u.heap.size 5 1 v' n (cellsU8 zs) ∧ Below u.heap.size u u')) := fun u hu => by
    have hv : View u (.slice va n vc) zs := View.kept HV.out (fun k hk => by rw [hu.block k (Nat.lt_of_lt_of_le hk HB2.out.2.size)]; exact HB2.out.2.block k (by rw [← HM.out]; exact hk))
    have q := clone_any (.slice va n vc) zs u (by rw [HNL.out]; exact HVC.out.2.1) hv
    rw [HNL.out] at q
    exact q.mono fun e u' hh => hh
  have hbd : ∀ (x : Option Addr) (l c : Nat) w, (Instr.build 115 #[(0, .string S), (1, .int .i64 (st : Nat)), (2, .slice x l c), (3, .int .i64 (wd : Nat)), (4, .pointer mp)]).run Tryz.prog w = .ok (.agg #[.string S, .int .i64 (st : Nat), .slice x l c, .int .i64 (wd : Nat), .pointer mp, .slice none 0 0, .bool false]) w := fun x l c w => run_build w _ _ _ (built108 S _ _ x l c mp)
  go_region_held3 (fun u => u.cell? ⟨m, 0, none⟩ = some (.string S) ∧ u.cell? ⟨m, 1, none⟩ = some (.int .i64 (wd : Nat)) ∧ u.cell? ⟨m, 5, none⟩ = some (.int .i64 (st : Nat))) (first | exact ⟨d0, d1, d5⟩ | exact hS3 | go_keep)
    ((go_at_call 66; refine (KC.out w2.drew (Below.refl _ _).drew).mono ?_; intro e3 w3 hh; obtain ⟨v3, rfl, ho3x, hb3x⟩ := hh.out; have hb3 : Below w2.heap.size w2 w3 := ⟨hb3x.os, hb3x.tape, hb3x.output, hb3x.size, hb3x.block⟩; have hS3 := HS2.out w3 hb3; have HO3 : Hid (w3.ownsRow w2.heap.size 5 1 v3 n (cellsU8 zs) ∧ Below w2.heap.size w2 w3) := ⟨ho3x, hb3⟩; obtain ⟨xa, xl, xc, rfl⟩ : ∃ x l c, v3 = .slice x l c := (by rcases HO3.out.1.2 with ⟨q, _⟩ | ⟨_, _, _, q, _⟩ <;> exact ⟨_, _, _, q⟩)))
  go_wp2
  go_ret
  have hb3 := HO3.out.2
  have hbe : Below w.heap.size w w3 := by rw [HM.out]; exact HB2.out.2.trans (hb3.mono (by have := HB2.out.1.lt; omega))
  have hal : Below w3.heap.size w3 (w3.alloc (.cells #[.string S, .int .i64 (st : Nat), .slice xa xl xc, .int .i64 (wd : Nat), .pointer mp, .slice none 0 0, .bool false] 115)) := (Below.refl _ _).alloc (Nat.le_refl _) _
  have hlo : w.heap.size ≤ w2.heap.size := by have := HB2.out.1.lt; have := HM.out; omega
  refine ⟨w3.heap.size, .slice xa xl xc, mp, rfl, hbe.size, ⟨hbe.size, Bx.new w3 115 _, ?_, ?_, 0, [], by omega, World.ownsRow_nil _ _ _ _⟩, hbe.trans (hal.mono hbe.size)⟩
  · have q := ownsRow_below HO3.out.1 hal
    rw [HNL.out]
    exact own_base q hlo
  · rw [HM.out]
    exact (HK2.out.1.keep (fun g e => hb3.block g (HK2.out.1.lt g e).1) hb3.size).keep (fun g e => hal.block g (Nat.lt_of_lt_of_le (HK2.out.1.lt g e).1 hb3.size)) hal.size
/-- Of a cipher with AES. -/
theorem share_ok (S T : ByteArray) (nk a b st : Nat) (f g : Value) (v : Value) (zs : List Int) (w : World) (hf : f.oneCell' = true) (hg : g.oneCell' = true) (hv : View w v zs) (hb : AllBytes zs) (hn : zs.length ≤ 100000) (hnk : nk = 4 ∨ nk = 6 ∨ nk = 8) (hwd : 4 * nk ≤ zs.length) (hrc : RC w) (hpos : 1 < w.heap.size) :
    Calls Tryz.prog 44 #[.agg #[.string S, .int .i64 ((4 * nk : Nat) : Int), .string T, .int .i64 (a : Nat), .int .i64 (b : Nat), .int .i64 (st : Nat), f, g], v] w fun e w' => ShP w.heap.size w S st (4 * nk) zs e w' := by
  refine share_gen S T (4 * nk) a b st f g v zs w hf hg hv hn hwd (fun u hu x hx => ?_)
  have hb' : AllBytes (zs.take (4 * nk)) := fun i => by
    rw [List.getD_eq_getElem?_getD, List.getElem?_take]
    split
    · exact hb i
    · simp
  refine (new_view x (zs.take (4 * nk)) nk u hnk (by simp; omega) hx hb' (fun i hi => (hu.cell (p := ⟨1, i, none⟩) hpos).trans (hrc i hi)) (Nat.lt_of_lt_of_le hpos hu.size)).mono ?_
  intro e u' hh
  obtain ⟨g, rfl, hg1, hK, hb1, R, hR⟩ := hh.out
  exact ⟨_, _, rfl, .inr ⟨g, nk, rfl, Nat.le_trans hu.size hg1, hnk, rfl, hK, R, hR⟩, hb1⟩
end Go.Proofs.YtehlppaidgkpaaaGreatDoor
namespace Go.Proofs.YtehlppaidgkpaaaGreatDoor.Dg
open Go.RowKit
set_option linter.unusedVariables false
set_option linter.unusedSimpArgs false

/-- A list's numbers, as a function. -/
def fnz (zs : List Int) (i : Nat) : Int := zs.getD i 0
theorem fnz_left (zs ys : List Int) (i : Nat) (h : i < zs.length) : fnz (zs ++ ys) i = fnz zs i := by
  simp [fnz, List.getD, List.getElem?_append_left h]
theorem fnz_right (zs ys : List Int) (i : Nat) : fnz (zs ++ ys) (zs.length + i) = fnz ys i := by
  simp [fnz, List.getD, List.getElem?_append_right (Nat.le_add_right _ _)]
theorem fnz_take (ys : List Int) (k i : Nat) (h : i < k) : fnz (ys.take k) i = fnz ys i := by
  simp [fnz, List.getD, List.getElem?_take, h]
theorem fnz_drop (ys : List Int) (k i : Nat) : fnz (ys.drop k) i = fnz ys (k + i) := by
  simp [fnz, List.getD]

/-- A taken that began with the words s0 (f0 bytes were counted ahead) and was fed zs. -/
def Rep (w : World) (g o : Nat) (h : Int) (wd : Bool) (s0 : Eight) (f0 : Nat) (zs : List Int) : Prop :=
  ∃ half, TK w g o h wd (TT wd (fnz zs) s0 (zs.length / bsz wd)) half (f0 + zs.length) ∧ (∀ i, i < zs.length % bsz wd → half i = fnz zs (bsz wd * (zs.length / bsz wd) + i)) ∧ f0 % bsz wd = 0

theorem add_few_any (wd : Bool) (g o : Nat) (h : Int) (s : Eight) (half : Nat → Int) (fed n used cap b p : Nat) (zs : List Int) (w : World) (hblk : blockOf h = bsz wd ∧ wd = false) (HK : TK w g o h wd s half fed) (hn : zs.length = n) (hfn : fed + n ≤ 4611686018427387904)
    (hv : View w (.slice (some ⟨b, p, none⟩) n cap) zs) (hsep : Apart (.slice (some ⟨b, p, none⟩) n cap) g o 139) (hg : 6 ≤ g) (h0 : fed % bsz wd = used) (hu0 : 0 < used) (hu1 : used + n < bsz wd) :
    Calls Tryz.prog 95 #[.pointer (some ⟨g, o, none⟩), .slice (some ⟨b, p, none⟩) n cap] w fun e w' => e = .returned (.tuple #[]) ∧ Touch w w' g o 139 ∧ TK w' g o h wd s (fun i => if used ≤ i ∧ i < used + zs.length then zs.getD (i - used) 0 else half i) (fed + n) := by
  cases wd
  · exact add_few64 g o h s half fed n used cap b p zs w hblk.1 HK hn hfn hv hsep hg h0 hu0 hu1
  · exact absurd hblk.2 (by decide)
theorem add_zero_any (wd : Bool) (g o : Nat) (h : Int) (s : Eight) (half : Nat → Int) (fed n wh cap b p : Nat) (zs : List Int) (w : World) (hblk : blockOf h = bsz wd ∧ wd = false) (HK : TK w g o h wd s half fed) (hn : zs.length = n) (hfn : fed + n ≤ 4611686018427387904)
    (hv : View w (.slice (some ⟨b, p, none⟩) n cap) zs) (hsep : Apart (.slice (some ⟨b, p, none⟩) n cap) g o 139) (hT : Tables w) (hg : 6 ≤ g) (h0 : fed % bsz wd = 0) (hq : n = wh + n % bsz wd) :
    Calls Tryz.prog 95 #[.pointer (some ⟨g, o, none⟩), .slice (some ⟨b, p, none⟩) n cap] w fun e w' => e = .returned (.tuple #[]) ∧ Touch w w' g o 139 ∧ TK w' g o h wd (TT wd (fnz (zs.take wh)) s (wh / bsz wd)) (fun i => if 0 ≤ i ∧ i < 0 + (zs.drop wh).length then (zs.drop wh).getD (i - 0) 0 else half i) (fed + n) := by
  cases wd
  · exact add_zero64 g o h s half fed n wh cap b p zs w hblk.1 HK hn hfn hv hsep hT hg h0 hq
  · exact absurd hblk.2 (by decide)
theorem add_many_any (wd : Bool) (g o : Nat) (h : Int) (s : Eight) (half : Nat → Int) (fed k n wh used cap b p : Nat) (zs : List Int) (w : World) (hblk : blockOf h = bsz wd ∧ wd = false) (HK : TK w g o h wd s half fed) (hn : zs.length = k + n) (hfn : fed + (k + n) ≤ 4611686018427387904)
    (hv : View w (.slice (some ⟨b, p, none⟩) (k + n) (k + cap)) zs) (hsep : Apart (.slice (some ⟨b, p, none⟩) (k + n) (k + cap)) g o 139) (hT : Tables w) (hg : 6 ≤ g) (h0 : fed % bsz wd = used) (hu0 : 0 < used) (hu1 : used + k = bsz wd) (hq : n = wh + n % bsz wd) :
    Calls Tryz.prog 95 #[.pointer (some ⟨g, o, none⟩), .slice (some ⟨b, p, none⟩) (k + n) (k + cap)] w fun e w' => e = .returned (.tuple #[]) ∧ Touch w w' g o 139 ∧ ∃ s1, s1 = TT wd (fun i => if used ≤ i ∧ i < used + (zs.take k).length then (zs.take k).getD (i - used) 0 else half i) s 1 ∧
      TK w' g o h wd (TT wd (fnz ((zs.drop k).take wh)) s1 (wh / bsz wd)) (fun i => if 0 ≤ i ∧ i < 0 + ((zs.drop k).drop wh).length then ((zs.drop k).drop wh).getD (i - 0) 0 else (fun i => if used ≤ i ∧ i < used + (zs.take k).length then (zs.take k).getD (i - used) 0 else half i) i) (fed + (k + n)) := by
  cases wd
  · exact add_many64 g o h s half fed k n wh used cap b p zs w hblk.1 HK hn hfn hv hsep hT hg h0 hu0 hu1 hq
  · exact absurd hblk.2 (by decide)
theorem add_empty_any (wd : Bool) (g o : Nat) (h : Int) (s : Eight) (half : Nat → Int) (fed cap : Nat) (a : Option Addr) (w : World) (hblk : blockOf h = bsz wd ∧ wd = false) (HK : TK w g o h wd s half fed) (hfn : fed ≤ 4611686018427387904) (hcm : cap ≤ 9223372036854775807) (ha : a = none → cap = 0) :
    Calls Tryz.prog 95 #[.pointer (some ⟨g, o, none⟩), .slice a 0 cap] w fun e w' => e = .returned (.tuple #[]) ∧ Touch w w' g o 139 ∧ TK w' g o h wd s half fed := by
  cases wd
  · exact add_empty64 g o h s half fed cap a w hblk.1 HK hfn hcm ha
  · exact absurd hblk.2 (by decide)

/-- taken.add: what was fed before, and behind it the new bytes. -/
theorem add_rep (wd : Bool) (g o : Nat) (h : Int) (s0 : Eight) (f0 : Nat) (zs ys : List Int) (v : Value) (w : World) (hblk : blockOf h = bsz wd ∧ wd = false) (hr : Rep w g o h wd s0 f0 zs) (hv : View w v ys) (hap : Apart v g o 139) (hT : Tables w) (hg : 6 ≤ g) (hfn : f0 + zs.length + ys.length ≤ 4611686018427387904) :
    Calls Tryz.prog 95 #[.pointer (some ⟨g, o, none⟩), v] w fun e w' => e = .returned (.tuple #[]) ∧ Touch w w' g o 139 ∧ Rep w' g o h wd s0 f0 (zs ++ ys) := by
  obtain ⟨half, hk, hh, hf⟩ := hr
  have hb := bsz_pos wd
  have hvv := hv
  obtain ⟨a, cap, rfl, h1, h2, h3, h4⟩ := hv
  by_cases hys : ys = []
  · subst hys
    refine (add_empty_any wd g o h _ half _ cap a w hblk hk (by simpa using hfn) (by unfold maxLen at h2; omega) h3).mono ?_
    rintro e w' ⟨rfl, ht, hk'⟩
    rw [List.append_nil]
    exact ⟨rfl, ht, half, hk', hh, hf⟩
  have hL : (zs ++ ys).length = zs.length + ys.length := by simp
  generalize hB : bsz wd = B at *
  generalize hn : ys.length = n at *
  generalize hl : zs.length = l at *
  rcases h4 with rfl | ⟨b, p, rfl, hc⟩
  · exact absurd rfl hys
  have hZl : ∀ i, i < l → fnz (zs ++ ys) i = fnz zs i := fun i hi => fnz_left zs ys i (by omega)
  have hZr : ∀ i, fnz (zs ++ ys) (l + i) = fnz ys i := fun i => by rw [← hl]; exact fnz_right zs ys i
  have hlq : l = B * (l / B) + l % B := (Nat.div_add_mod l B).symm
  have hused : (f0 + l) % B = l % B := by
    obtain ⟨c, hc⟩ : ∃ c, f0 = B * c := ⟨f0 / B, by have := Nat.div_add_mod f0 B; omega⟩
    rw [hc, Nat.mul_add_mod]
  have hTq : ∀ s, TT wd (fnz (zs ++ ys)) s (l / B) = TT wd (fnz zs) s (l / B) := fun s => TT_congr wd s _ fun j hj => hZl j (by rw [hB] at hj; omega)
  have hul : l % B < B := Nat.mod_lt _ hb
  by_cases hu : l % B = 0
  · have hnq : n = B * (n / B) + n % B := (Nat.div_add_mod n B).symm
    refine (add_zero_any wd g o h _ half (f0 + l) n (B * (n / B)) cap b p ys w (by rw [hB]; exact hblk) hk hn (by omega) hvv hap hT hg (by rw [hB, hused, hu]) (by rw [hB]; exact hnq)).mono ?_
    rintro e w' ⟨rfl, ht, hk'⟩
    have e1 : (l + n) / B = l / B + n / B := by
      rw [hlq, hu, Nat.add_zero, Nat.mul_add_div hb, Nat.mul_div_cancel_left _ hb]
    have e2 : (l + n) % B = n % B := by
      rw [hlq, hu, Nat.add_zero, Nat.mul_add_mod]
    refine ⟨rfl, ht, (fun i => if 0 ≤ i ∧ i < 0 + (ys.drop (B * (n / B))).length then (ys.drop (B * (n / B))).getD (i - 0) 0 else half i), ?_, ?_, by rw [hB]; exact hf⟩
    · rw [hL, hB, e1, TT_add wd _ s0 (l / B) (n / B), hTq]
      rw [hB, Nat.mul_div_cancel_left _ hb, TT_congr wd (B' := fun k => fnz (zs ++ ys) (bsz wd * (l / B) + k)) _ (n / B) (fun j hj => by
        rw [hB] at hj ⊢
        rw [fnz_take ys _ j (by omega), show B * (l / B) + j = l + j by omega, hZr])] at hk'
      rw [show f0 + (l + n) = f0 + l + n by omega]
      exact hk'
    · intro i hi
      dsimp only
      rw [hL, hB] at hi ⊢
      rw [e2] at hi
      rw [e1]
      have hdl : (ys.drop (B * (n / B))).length = n % B := by simp; omega
      rw [if_pos ⟨Nat.zero_le _, by omega⟩]
      have := fnz_drop ys (B * (n / B)) i
      rw [show B * (l / B + n / B) + i = l + (B * (n / B) + i) by rw [Nat.mul_add]; omega, hZr, ← this]
      rfl
  · by_cases hfew : l % B + n < B
    · refine (add_few_any wd g o h _ half (f0 + l) n (l % B) cap b p ys w (by rw [hB]; exact hblk) hk hn (by omega) hvv hap hg (by rw [hB, hused]) (by omega) (by rw [hB]; exact hfew)).mono ?_
      rintro e w' ⟨rfl, ht, hk'⟩
      have e1 : (l + n) / B = l / B := by
        have : l + n = B * (l / B) + (l % B + n) := by omega
        rw [this, Nat.mul_add_div hb, Nat.div_eq_of_lt hfew, Nat.add_zero]
      have e2 : (l + n) % B = l % B + n := by
        have : l + n = B * (l / B) + (l % B + n) := by omega
        rw [this, Nat.mul_add_mod, Nat.mod_eq_of_lt hfew]
      refine ⟨rfl, ht, (fun i => if l % B ≤ i ∧ i < l % B + ys.length then ys.getD (i - l % B) 0 else half i), ?_, ?_, by rw [hB]; exact hf⟩
      · rw [hL, hB, e1, hTq, show f0 + (l + n) = f0 + l + n by omega]
        exact hk'
      · intro i hi
        dsimp only
        rw [hL, hB] at hi ⊢
        rw [e2] at hi
        rw [e1]
        by_cases hil : l % B ≤ i
        · rw [if_pos ⟨hil, by omega⟩, show B * (l / B) + i = l + (i - l % B) by omega, hZr]
          rfl
        · rw [if_neg (by omega), hh i (by omega), hZl _ (by omega)]
    · obtain ⟨k, hk0⟩ : ∃ k, k = B - l % B := ⟨_, rfl⟩
      obtain ⟨m, hm⟩ : ∃ m, n = k + m := ⟨n - k, by omega⟩
      obtain ⟨c, hcc⟩ : ∃ c, cap = k + c := ⟨cap - k, by omega⟩
      subst hm hcc
      have hnq : m = B * (m / B) + m % B := (Nat.div_add_mod m B).symm
      refine (add_many_any wd g o h _ half (f0 + l) k m (B * (m / B)) (l % B) c b p ys w (by rw [hB]; exact hblk) hk hn (by omega) hvv hap hT hg (by rw [hB, hused]) (by omega) (by rw [hB]; omega) (by rw [hB]; exact hnq)).mono ?_
      rintro e w' ⟨rfl, ht, s1, hs1, hk'⟩
      have e1 : (l + (k + m)) / B = l / B + 1 + m / B := by
        have : l + (k + m) = B * (l / B + 1) + m := by rw [Nat.mul_add]; omega
        rw [this, Nat.mul_add_div hb]
      have e2 : (l + (k + m)) % B = m % B := by
        have : l + (k + m) = B * (l / B + 1) + m := by rw [Nat.mul_add]; omega
        rw [this, Nat.mul_add_mod]
      have hlt : (ys.take k).length = k := by simp; omega
      have hs1' : s1 = TT wd (fnz (zs ++ ys)) s0 (l / B + 1) := by
        rw [hs1, TT_add wd _ s0 (l / B) 1, hTq]
        refine TT_congr wd _ 1 fun j hj => ?_
        rw [hB] at hj ⊢
        by_cases hjl : l % B ≤ j
        · rw [if_pos ⟨hjl, by omega⟩, show B * (l / B) + j = l + (j - l % B) by omega, hZr]
          exact fnz_take ys k _ (by omega)
        · rw [if_neg (by omega), hh j (by omega), hZl _ (by omega)]
      refine ⟨rfl, ht, (fun i => if 0 ≤ i ∧ i < 0 + ((ys.drop k).drop (B * (m / B))).length then ((ys.drop k).drop (B * (m / B))).getD (i - 0) 0 else (fun i => if l % B ≤ i ∧ i < l % B + (ys.take k).length then (ys.take k).getD (i - l % B) 0 else half i) i), ?_, ?_, by rw [hB]; exact hf⟩
      · rw [hL, hB, e1, TT_add wd _ s0 (l / B + 1) (m / B), ← hs1']
        rw [hB, Nat.mul_div_cancel_left _ hb, TT_congr wd (B' := fun k => fnz (zs ++ ys) (bsz wd * (l / B + 1) + k)) _ (m / B) (fun j hj => by
          rw [hB] at hj ⊢
          rw [fnz_take _ _ j (by omega), fnz_drop, show B * (l / B + 1) + j = l + (k + j) by rw [Nat.mul_add]; omega, hZr])] at hk'
        rw [show f0 + (l + (k + m)) = f0 + l + (k + m) by omega]
        exact hk'
      · intro i hi
        dsimp only
        rw [hL, hB] at hi ⊢
        rw [e2] at hi
        rw [e1]
        have hdl : ((ys.drop k).drop (B * (m / B))).length = m % B := by simp; omega
        rw [if_pos ⟨Nat.zero_le _, by omega⟩]
        have h5 := (fnz_drop (ys.drop k) (B * (m / B)) i).trans (fnz_drop ys k (B * (m / B) + i))
        rw [show B * (l / B + 1 + m / B) + i = l + (k + (B * (m / B) + i)) by rw [Nat.mul_add, Nat.mul_add]; omega, hZr, ← h5]
        rfl
end Go.Proofs.YtehlppaidgkpaaaGreatDoor.Dg
namespace Go.Proofs.YtehlppaidgkpaaaGreatDoor.Fd
open Go.ChangeShapes Go.WideShapes Go.ChangeAt Go.RowKit
set_option linter.unusedVariables false
def pk (F : Nat → Nat) : Nat → Nat
  | 0 => 0
  | n + 1 => pk F n + F n * 256 ^ n
theorem pk_lt (F : Nat → Nat) (hF : ∀ i, F i < 256) (n : Nat) : pk F n < 256 ^ n := by
  induction n with
  | zero => simp [pk]
  | succ n ih =>
    have h := hF n
    rw [pk, Nat.pow_succ]
    have : F n * 256 ^ n ≤ 255 * 256 ^ n := Nat.mul_le_mul_right _ (by omega)
    omega
theorem pk_at (F : Nat → Nat) (hF : ∀ i, F i < 256) (n i : Nat) (hi : i < n) : pk F n / 256 ^ i % 256 = F i := by
  induction n with
  | zero => omega
  | succ n ih =>
    rw [pk]
    by_cases h : i < n
    · have e : F n * 256 ^ n = (F n * 256 ^ (n - i - 1) * 256) * 256 ^ i := by
        rw [Nat.mul_assoc, Nat.mul_assoc, ← Nat.pow_succ', ← Nat.pow_add]
        congr 2
        omega
      rw [e, Nat.add_mul_div_right _ _ (Nat.pow_pos (by decide)), Nat.add_mul_mod_self_right]
      exact ih h
    · have e : i = n := by omega
      subst e
      rw [Nat.add_mul_div_right _ _ (Nat.pow_pos (by decide)), Nat.div_eq_of_lt (pk_lt F hF i), Nat.zero_add]
      exact Nat.mod_eq_of_lt (hF i)
theorem byV_pk (F : Nat → Nat) (hF : ∀ i, F i < 256) (i : Nat) (hi : i < 16) : byV (BitVec.ofNat 128 (pk F 16)) i = F i := by
  have h := pk_lt F hF 16
  unfold byV
  rw [BitVec.toNat_ofNat]
  have e : pk F 16 % 2 ^ 128 = pk F 16 := Nat.mod_eq_of_lt (Nat.lt_of_lt_of_eq h (by decide))
  rw [e]
  exact pk_at F hF 16 i hi
end Go.Proofs.YtehlppaidgkpaaaGreatDoor.Fd
namespace Go.Proofs.YtehlppaidgkpaaaGreatDoor
open Go.RowKit
set_option linter.unusedVariables false
set_option linter.unusedSimpArgs false
set_option maxHeartbeats 1600000 in
set_option maxRecDepth 100000 in
/-- shared.schedule. -/
theorem schedule2_ok (B sh : Nat) (S : ByteArray) (st wd : Nat) (zs : List Int) (kv : Value) (mp : Option Addr) (ov : Value) (v : Value) (ys : List Int) (nk : Nat) (w : World) (h : ShA B w sh S st wd zs kv mp ov) (hB : B ≤ w.heap.size) (hfew : ∃ n os, n ≤ 3 ∧ w.ownsRow B 71 1 ov n os)
    (hnk : nk = 4 ∨ nk = 6 ∨ nk = 8) (hl : ys.length = 4 * nk) (hv : View w v ys) (hb : AllBytes ys) (hrc : RC w) (hpos : 1 < w.heap.size) :
    Calls Tryz.prog 186 #[.pointer (some ⟨sh, 0, none⟩), v] w fun e w' => Hid (∃ g ov', e = .returned (.pointer (some ⟨g, 0, none⟩)) ∧ w.heap.size ≤ g ∧ KeyAt w' g (nk + 6) (schedK nk (nat8 ys)) ∧ (∃ R : Array Value, w'.heap[g]? = some (.cells R 135 (0, 0))) ∧ ShA B w' sh S st wd zs kv mp ov' ∧ (∀ n os, w.ownsRow B 71 1 ov n os → ∃ os', w'.ownsRow B 71 1 ov' (n + 1) os') ∧ Fs B sh w w' ∧ ∀ b, b < w.heap.size → b ≠ sh → ov.ownBlock ≠ some b → w'.heap[b]? = w.heap[b]?) := by
  have HN : Hid (Calls Tryz.prog 31 #[v] w fun e w' => Hid (∃ g, e = .returned (.tuple #[.pointer (some ⟨g, 0, none⟩), .int .i64 0]) ∧ w.heap.size ≤ g ∧ KeyAt w' g (nk + 6) (schedK nk (nat8 ys)) ∧ Below w.heap.size w w' ∧ ∃ R : Array Value, w'.heap[g]? = some (.cells R 135 (0, 0)))) := new_view v ys nk w hnk hl hv hb hrc hpos
  have HA : Hid (ShA B w sh S st wd zs kv mp ov) := h
  have HBB : Hid (B ≤ w.heap.size) := hB
  obtain ⟨n0, os0, hn0, ho0⟩ := hfew
  have HO0 : Hid (n0 ≤ 3 ∧ w.ownsRow B 71 1 ov n0 os0) := ⟨hn0, ho0⟩
  clear h hB hnk hl hv hb hrc hpos hn0 ho0
  obtain ⟨i0, hi0, hz0, hz1, hz2⟩ := info_parts Tryz.info105
  have HI0 : Hid (Tryz.prog.info? 71 = some i0 ∧ i0.zero = some (.pointer none) ∧ i0.size = 1 ∧ i0.bytes = 8) := ⟨hi0, hz0, hz1, hz2⟩
  clear hi0 hz0 hz1 hz2
  go_enter Tryz.func186, Tryz.ntmps186
  go_upto_region 2 with (go_at_call 31; refine HN.out.mono ?_; intro e1 w1 hh; obtain ⟨g, rfl, hg1, hK1, hb1, R1, hR1⟩ := hh.out; have HK1 : Hid (w.heap.size ≤ g ∧ KeyAt w1 g (nk + 6) (schedK nk (nat8 ys)) ∧ Below w.heap.size w w1 ∧ w1.heap[g]? = some (.cells R1 135 (0, 0))) := ⟨hg1, hK1, hb1, hR1⟩; clear hh hg1 hK1 hb1 hR1 HN)
  have HA1 : Hid (ShA B w1 sh S st wd zs kv mp ov) := HA.out.below HK1.out.2.2.1
  have HO1 : Hid (w1.ownsRow B 71 1 ov n0 os0) := ownsRow_below HO0.out.2 HK1.out.2.2.1
  have hov : (∃ x a c, ov = .slice x a c) := by
    rcases HO1.out.2 with ⟨rfl, _⟩ | ⟨g', cap, cur, rfl, _⟩
    · exact ⟨_, _, _, rfl⟩
    · exact ⟨_, _, _, rfl⟩
  obtain ⟨xa, xl, xc, rfl⟩ := hov
  have c5 : w1.cell? ⟨sh, 5, none⟩ = some (.slice xa xl xc) := HA1.out.box.cell 5 _ rfl
  have hlt : Hid (sh < w1.heap.size) := HA1.out.box.lt
  have HA2 : Hid (ShA B (w1.alloc (.cells #[.pointer (some ⟨g, 0, none⟩)] 71)) sh S st wd zs kv mp (.slice xa xl xc)) := HA1.out.below ((Below.refl _ _).alloc (Nat.le_refl _) _)
  go_wp2_with (first
    | (at_builtin; go_must (refine wpList_append_own_at _ rfl (.tmp 16) (.tmp 18) 113 rfl B 71 i0 (.pointer none) 1 8 Tryz.underlying113 HI0.out.1 HI0.out.2.1 HI0.out.2.2.1 HI0.out.2.2.2 rfl (by decide) _ n0 os0 rfl (HO1.out.alloc _) ⟨w1.heap.size, 0, none⟩ 1 1 [.pointer (some ⟨g, 0, none⟩)] rfl rfl ?_ ?_ ?_ ?_ ?_ ?_)))
  · intro j u hj
    match j, hj with
    | 0, hj => simp at hj; subst hj; simp [Addr.add]
  · intro u hu; simp at hu; subst hu; rfl
  · have := HO0.out.1; unfold maxLen; omega
  · have := HO0.out.1; omega
  · have := HBB.out; have := HK1.out.2.2.1.size; simp; omega
  intro v2 w2 hown hgrow hnil hat
  obtain ⟨hbx, hsh, hfs⟩ := HA2.out.sched hgrow hown (by have := HO0.out.1; omega) (by have := HBB.out; have := HK1.out.2.2.1.size; simp; omega)
  have hv2 : (∃ x a c, v2 = .slice x a c) := by
    rcases hown.2 with ⟨rfl, _⟩ | ⟨g', cap, cur, rfl, _⟩
    · exact ⟨_, _, _, rfl⟩
    · exact ⟨_, _, _, rfl⟩
  obtain ⟨ya, yl, yc, rfl⟩ := hv2
  have HSH : Hid (ShA B (w2.setCell ⟨sh, 5, none⟩ (.slice ya yl yc)) sh S st wd zs kv mp (.slice ya yl yc)) := hsh
  have HFS : Hid (Fs B sh (w1.alloc (.cells #[.pointer (some ⟨g, 0, none⟩)] 71)) (w2.setCell ⟨sh, 5, none⟩ (.slice ya yl yc))) := hfs
  have d5 : w2.cell? ⟨sh, 5, none⟩ = some (.slice xa xl xc) := hbx.cell 5 _ rfl
  have f5 : w2.frozen? ⟨sh, 5, none⟩ = false := hbx.frozen 5
  have HOW : Hid (w2.ownsRow B 71 1 (.slice ya yl yc) (n0 + 1) (os0 ++ [.pointer (some ⟨g, 0, none⟩)]) ∧ w2.heap[sh]? = some (.cells (shL S st kv wd mp (.slice xa xl xc)).toArray 115 (0, 0))) := ⟨hown, hbx⟩
  have HKP : Hid (∀ b, b < w.heap.size → b ≠ sh → (Value.slice xa xl xc).ownBlock ≠ some b → (w2.setCell ⟨sh, 5, none⟩ (.slice ya yl yc)).heap[b]? = w.heap[b]?) := fun b hb hn ho => by
    have l1 : b < w1.heap.size := Nat.lt_of_lt_of_le hb HK1.out.2.2.1.size
    rw [Below.heap_setCell w2 ⟨sh, 5, none⟩ _ b hn, hgrow.block b (by simp; omega) (fun e => ho e.symm), Below.heap_alloc _ _ _ l1]
    exact HK1.out.2.2.1.block b hb
  clear hown hgrow hnil hat hbx hsh hfs c5
  go_wp2
  go_ret
  have hF : Fs B sh w (w2.setCell ⟨sh, 5, none⟩ (.slice ya yl yc)) := (Fs.of_below HK1.out.2.2.1 HBB.out).trans ((Fs.of_below ((Below.refl _ _).alloc (Nat.le_refl _) _) (Nat.le_trans HBB.out HK1.out.2.2.1.size)).trans HFS.out)
  have hgk : (w2.setCell ⟨sh, 5, none⟩ (.slice ya yl yc)).heap[g]? = w1.heap[g]? := by
    have l : g < w1.heap.size := HK1.out.2.1.ciph.here
    have e : (w1.alloc (.cells #[.pointer (some ⟨g, 0, none⟩)] 71)).heap[g]? = w1.heap[g]? := Below.heap_alloc _ _ _ l
    rw [HFS.out.blk g (by simp; omega) (type_ne HK1.out.2.2.2 HA1.out.box (by decide)) (by rw [e, HK1.out.2.2.2]; intro cs fr q; injection q with q; injection q with _ q _; exact absurd q (by decide)), e]
  refine ⟨g, .slice ya yl yc, rfl, HK1.out.1, HK1.out.2.1.sameK hgk (Nat.le_trans (by simp) HFS.out.bel.size), ⟨R1, by rw [hgk]; exact HK1.out.2.2.2⟩, HSH.out, fun n os ho => ?_, hF, HKP.out⟩
  have e : n = n0 := by
    have q1 := ho.2
    have q2 := HO0.out.2.2
    rcases q1 with ⟨q, r⟩ | ⟨_, _, _, q, _⟩ <;> rcases q2 with ⟨q', r'⟩ | ⟨_, _, _, q', _⟩
    · omega
    · rw [q] at q'; cases q'
    · rw [q] at q'; cases q'
    · rw [q] at q'; injection q' with _ q' _
  subst e
  exact ⟨_, ownsRow_keep HOW.out.1 fun b q => by
    obtain ⟨cur, hc⟩ := own_type HOW.out.1 q
    exact Below.heap_setCell w2 ⟨sh, 5, none⟩ _ b (fun e => type_ne HOW.out.2 hc (by decide) e.symm)⟩
end Go.Proofs.YtehlppaidgkpaaaGreatDoor
