import Derived.Test.YtcnikfikpnnblaaGreatDoorSch
import Derived.Test.YtcnikfikpnnblaaGreatDoorPart24
import Derived.Deep.RegionHeld3
import Derived.Maps.AppendAt
import Derived.Test.YtcnikfikpnnblaaGreatDoorPart20
import Derived.Test.YtcnikfikpnnblaaGreatDoorPart08
import Derived.Test.YtcnikfikpnnblaaGreatDoorPart00
import Derived.Laws.OwnMore
namespace Go.Proofs.YtcnikfikpnnblaaGreatDoor
open Go.RowKit
set_option linter.unusedVariables false
/-- A row of cells laid over another from off on. -/
theorem over_at (off : Nat) : ∀ (L : List Value) (k : Nat) (z : Array Value) (i : Nat), ((L.zipIdx k).foldl (fun cs (x : Value × Nat) => cs.setIfInBounds (off + x.2) x.1) z)[i]? =
  if off + k ≤ i ∧ i < off + k + L.length ∧ i < z.size then L[i - (off + k)]? else z[i]?
 | [], k, z, i => by simp; omega
 | v :: r, k, z, i => by
  rw [List.zipIdx_cons, List.foldl_cons, over_at off r (k + 1)]
  simp only [Array.size_setIfInBounds, List.length_cons]
  by_cases h1 : off + (k + 1) ≤ i ∧ i < off + (k + 1) + r.length ∧ i < z.size
  ·rw [if_pos h1, if_pos (by omega)]
   rw [show i - (off + k) = (i - (off + (k + 1))) + 1 by omega, List.getElem?_cons_succ]
  ·rw [if_neg h1]
   by_cases h2 : i = off + k
   ·subst h2
    by_cases h3 : off + k < z.size
    ·rw [Array.getElem?_setIfInBounds_self_of_lt h3, if_pos (by omega), Nat.sub_self]; rfl
    ·rw [if_neg (by omega)]
     rw [Array.getElem?_eq_none (by simp; omega), Array.getElem?_eq_none (by omega)]
   ·rw [Array.getElem?_setIfInBounds_ne (by omega), if_neg (by omega)]
theorem over_size (off : Nat) : ∀ (L : List Value) (k : Nat) (z : Array Value), ((L.zipIdx k).foldl (fun cs (x : Value × Nat) => cs.setIfInBounds (off + x.2) x.1) z).size = z.size
 | [], k, z => rfl
 | v :: r, k, z => by rw [List.zipIdx_cons, List.foldl_cons, over_size off r (k + 1)]; simp
theorem zero82 : ((Tryz.prog.info? 160).bind (·.zero)).map (fun z => z.cells.size) = some 1091 := by kernel_rfl
theorem size82 : (Tryz.prog.info? 160).map (·.size) = some 1091 := by kernel_rfl
theorem zsize82 : Tryz.zeroCells160.size = 1091 := by kernel_rfl
theorem zhead82 : Tryz.zeroCells160.toList.take 6 = [.int .i32 0, .int .u32 0, .int .u32 0, .int .u32 0, .int .i32 0, .int .i32 0] := by kernel_rfl
theorem zcells82 : ((Tryz.prog.info? 160).bind (·.zero)).map (·.cells) = some Tryz.zeroCells160 := by kernel_rfl
theorem built82 (L : List Value) (hL : L.length = 1085) : ∃ R, Tryz.prog.built 160 [(1, .agg L.toArray)] = some R ∧ R.size = 1091 ∧ (∀ i, i < 6 → R[i]? = Tryz.zeroCells160[i]?) ∧ ∀ j v, L[j]? = some v → R[6 + j]? = some v := by
 refine ⟨(L.zipIdx 0).foldl (fun cs (x : Value × Nat) => cs.setIfInBounds (6 + x.2) x.1) Tryz.zeroCells160, ?_, ?_, fun i hi => ?_, fun j v hv => ?_⟩
 ·have hzc := zcells82
  have hu := Tryz.underlying160
  have hus : ∃ fs, Tryz.prog.underlying 160 = some (.struct fs) ∧ fs.toList.mapM (fun f => (Tryz.prog.info? f.type).map fun i => (f.offset, i.size)) = some [(0, 6), (6, 1085)] := ⟨_, hu, by kernel_rfl⟩
  obtain ⟨fs, hu', hp⟩ := hus
  cases hq : Tryz.prog.info? 160 with
  | none => rw [hq] at hzc; cases hzc
  | some it =>
   rw [hq] at hzc
   cases hz : it.zero with
   | none => simp [hz] at hzc
   | some z =>
    have hzz : z.cells = Tryz.zeroCells160 := by simpa [hz] using hzc
    have hsz : z.cells.size = 1091 := by rw [hzz]; exact zsize82
    unfold Program.built
    rw [hq, hu']
    simp only [hz, hp]
    rw [hzz]
    unfold Instr.fill
    simp only [List.getElem?_toArray, List.getElem?_cons_succ, List.getElem?_cons_zero, Value.cells, List.size_toArray, hL]
    rw [if_neg (by rw [zsize82]; decide)]
    unfold Instr.fill
    simp
 ·rw [over_size]; exact zsize82
 ·rw [over_at, if_neg (by omega)]
 ·have hj : j < L.length := (List.getElem?_eq_some_iff.1 hv).1
  rw [over_at, if_pos (by rw [zsize82]; omega), show 6 + j - (6 + 0) = j by omega]
  exact hv
/-- A key at g. -/
structure KeyAt (w : World) (g nr : Nat) (K : Nat → Nat) : Prop where
 ciph : Ciph w g 6 nr K
 count : w.cell? ⟨g, 4, none⟩ = some (.int .i32 0)
 room : w.there g 0 1091
theorem there_sameK {u u' : World} {B o n : Nat} (h : u.there B o n) (e : u'.heap[B]? = u.heap[B]?) : u'.there B o n := fun j hj => by
 rw [World.cell?_of_block (a := ⟨B, o + j, none⟩) e, World.frozen?_of_block (a := ⟨B, o + j, none⟩) e]; exact h j hj
theorem KeyAt.sameK {u u' : World} {g nr : Nat} {K : Nat → Nat} (h : KeyAt u g nr K) (e : u'.heap[g]? = u.heap[g]?) (hs : u.heap.size ≤ u'.heap.size) : KeyAt u' g nr K := by
 have c : ∀ j : Nat, u'.cell? ⟨g, j, none⟩ = u.cell? ⟨g, j, none⟩ := fun j => World.cell?_of_block (a := ⟨g, j, none⟩) e
 exact ⟨⟨(c _).trans h.ciph.rounds, fun i hi => (c _).trans (h.ciph.words i hi), h.ciph.small, ⟨fun b hb => (c _).trans (h.ciph.tab.s b hb), fun b hb => (c _).trans (h.ciph.tab.u b hb), fun b hb => (c _).trans (h.ciph.tab.m b hb), fun b hb => (c _).trans (h.ciph.tab.n b hb)⟩, Nat.lt_of_lt_of_le h.ciph.here hs, h.ciph.some, h.ciph.most⟩, (c _).trans h.count, there_sameK h.room e⟩
theorem KeyAt.below {B : Nat} {w w' : World} {g nr : Nat} {K : Nat → Nat} (h : KeyAt w g nr K) (hb : Below B w w') (hg : g < B) : KeyAt w' g nr K :=
 ⟨h.ciph.below hb hg, (hb.cell hg).trans h.count, there_below h.room hb hg⟩
theorem keyAt_alloc (w : World) (R : Array Value) (nr : Nat) (K : Nat → Nat) (hs : R.size = 1091) (h6 : ∀ i, i < 6 → R[i]? = Tryz.zeroCells160[i]?) (hL : ∀ j v, (cipL nr K)[j]? = some v → R[6 + j]? = some v) (h1 : 1 ≤ nr) (h14 : nr ≤ 14) (hK : ∀ i, K i < 4294967296) :
  KeyAt (w.alloc (.cells R 160)) w.heap.size nr K := by
 have hc : ∀ i : Nat, (w.alloc (.cells R 160)).cell? ⟨w.heap.size, i, none⟩ = R[i]? := fun i => by
  rw [World.cell?_alloc_at R 160 _ _ rfl]
 refine ⟨ciph_of_range (fun j v hv => ?_) (by simp) h1 h14 hK, ?_, there_new w R 160 1091 (by rw [hs]; exact Nat.le_refl _)⟩
 ·rw [hc]; exact hL j v hv
 ·rw [hc, h6 4 (by decide), ← Array.getElem?_toList]
  have h := congrArg (fun l => l[4]?) zhead82
  simp only [List.getElem?_take_of_lt (show 4 < 6 by decide)] at h
  rw [h]; rfl
set_option maxHeartbeats 3200000 in
set_option maxRecDepth 100000 in
theorem new_ok (kb ko n cap nk : Nat) (key : Nat → Nat) (w : World) (hnk : nk = 4 ∨ nk = 6 ∨ nk = 8) (hn : n = 4 * nk) (hkb : kb < w.heap.size) (hcell : ∀ i, i < n → w.cell? ⟨kb, ko + i, none⟩ = some (.int .u8 (key i : Nat))) (hkey : ∀ i, key i < 256) (hrc : RC w) (hpos : 3 < w.heap.size) :
  Calls Tryz.prog 54 #[.slice (some ⟨kb, ko, none⟩) n cap] w fun e w' => ∃ g, e = .returned (.tuple #[.pointer (some ⟨g, 0, none⟩), .int .i64 0]) ∧ w.heap.size ≤ g ∧ KeyAt w' g (nk + 6) (schedK nk key) ∧ Below w.heap.size w w' ∧ ∃ R : Array Value, w'.heap[g]? = some (.cells R 160 (0, 0)) := by
 obtain ⟨L, HL⟩ : ∃ L, Hid (L = cipL (nk + 6) (schedK nk key)) := ⟨_, rfl⟩
 have KS : Hid (Calls Tryz.prog 77 #[.slice (some ⟨kb, ko, none⟩) n cap] w fun e w' => e = .returned (.agg L.toArray) ∧ Below w.heap.size w w') := by
  rw [HL.out]
  exact sched_ok kb ko n cap nk key w hnk hn hkb hcell hkey hrc hpos
 obtain ⟨R, hR1, hR2, hR3, hR4⟩ := built82 L (by rw [HL.out]; exact cipL_length _ _)
 have HR : Hid (Tryz.prog.built 160 [(1, .agg L.toArray)] = some R) := hR1
 have HR2 : Hid (R.size = 1091 ∧ (∀ i, i < 6 → R[i]? = Tryz.zeroCells160[i]?) ∧ ∀ j v, (cipL (nk + 6) (schedK nk key))[j]? = some v → R[6 + j]? = some v) := ⟨hR2, hR3, by rw [← HL.out]; exact hR4⟩
 have HKl : Hid (1 ≤ nk + 6 ∧ nk + 6 ≤ 14 ∧ ∀ i, schedK nk key i < 4294967296) := ⟨by omega, by omega, schedK_lt hkey⟩
 clear hR1 hR2 hR3 hR4 hcell hkey hrc hkb hpos
 rcases hnk with rfl | rfl | rfl
 all_goals subst hn
 all_goals go_enter Tryz.func54, Tryz.ntmps54
 all_goals go_wp2_with (first
  | (go_at_call 77; refine KS.out.mono ?_)
  | fail)
 all_goals rintro e1 w1 ⟨rfl, hb1⟩
 all_goals (have HB : Hid (Below w.heap.size w w1) := hb1)
 all_goals clear hb1
 all_goals go_wp2_with (first
  | (refine wpList_build_big (by rfl) 160 #[(1, .tmp 11)] (by rfl) R (by simp only [List.map_toArray, List.map_cons, List.map_nil]; exact HR.out) ?_)
  | fail)
 all_goals go_ret2
 all_goals exact ⟨w1.heap.size, rfl, HB.out.size, keyAt_alloc w1 R _ _ HR2.out.1 HR2.out.2.1 HR2.out.2.2 HKl.out.1 HKl.out.2.1 HKl.out.2.2, HB.out.alloc HB.out.size _, R, heap_alloc_new w1 _⟩
theorem new_bad (a : Option Addr) (n cap : Nat) (w : World) (h : n ≠ 16 ∧ n ≠ 24 ∧ n ≠ 32) : Calls Tryz.prog 54 #[.slice a n cap] w fun e w' => e = .returned (.tuple #[.pointer none, .int .i64 20]) ∧ w' = w := by
 have h1 : (((n : Nat) : Int) == 16) = false := by simp; omega
 have h2 : (((n : Nat) : Int) == 24) = false := by simp; omega
 have h3 : (((n : Nat) : Int) == 32) = false := by simp; omega
 clear h
 go_enter Tryz.func54, Tryz.ntmps54
 go_wp2
 go_ret2
 exact ⟨rfl, rfl⟩
end Go.Proofs.YtcnikfikpnnblaaGreatDoor
namespace Go.Proofs.YtcnikfikpnnblaaGreatDoor
open Go.RowKit
set_option linter.unusedVariables false
set_option linter.unusedSimpArgs false
/-- rijndael.New of bytes that are seen. -/
theorem new_view (v : Value) (ys : List Int) (nk : Nat) (w : World) (hnk : nk = 4 ∨ nk = 6 ∨ nk = 8) (hl : ys.length = 4 * nk) (hv : View w v ys) (hb : AllBytes ys) (hrc : RC w) (hpos : 3 < w.heap.size) :
  Calls Tryz.prog 54 #[v] w fun e w' => Hid (∃ g, e = .returned (.tuple #[.pointer (some ⟨g, 0, none⟩), .int .i64 0]) ∧ w.heap.size ≤ g ∧ KeyAt w' g (nk + 6) (schedK nk (nat8 ys)) ∧ Below w.heap.size w w' ∧ ∃ R : Array Value, w'.heap[g]? = some (.cells R 160 (0, 0))) := by
 have h0 : ys ≠ [] := by intro q; rw [q] at hl; simp at hl; omega
 have hlt := view_lt hv h0
 obtain ⟨a, c, rfl, h1, h2, h3, h4⟩ := hv
 rcases h4 with q | ⟨b, off, rfl, hc⟩
 ·exact absurd q h0
 ·rw [hl] at hc hlt ⊢
  exact (new_ok b off (4 * nk) c nk (nat8 ys) w hnk rfl (hlt b off _ _ rfl) (fun i hi => by rw [nat8_eq hb]; exact hc i hi) (nat8_lt hb) hrc hpos).mono fun e w' hh => hh
/-- The shared part's cells. -/
def shL (S : ByteArray) (st : Nat) (kv : Value) (wd : Nat) (mp : Option Addr) (ov : Value) : List Value := [.string S, .int .i64 (st : Nat), kv, .int .i64 (wd : Nat), .pointer mp, ov, .bool false]
/-- AES under the key's first wd bytes. -/
def MK (w : World) (B : Nat) (mp : Option Addr) (wd : Nat) (zs : List Int) : Prop :=
 (wd = 0 ∧ mp = none) ∨ ∃ g nk, mp = some ⟨g, 0, none⟩ ∧ B ≤ g ∧ (nk = 4 ∨ nk = 6 ∨ nk = 8) ∧ wd = 4 * nk ∧ KeyAt w g (nk + 6) (schedK nk (nat8 (zs.take wd))) ∧ ∃ R : Array Value, w.heap[g]? = some (.cells R 160 (0, 0))
structure ShA (B : Nat) (w : World) (sh : Nat) (S : ByteArray) (st wd : Nat) (zs : List Int) (kv : Value) (mp : Option Addr) (ov : Value) : Prop where
 le : B ≤ sh
 box : Bx w sh 108 (shL S st kv wd mp ov)
 key : w.ownsRow B 5 1 kv zs.length (cellsU8 zs)
 main : MK w B mp wd zs
 oth : ∃ n os, n ≤ 4 ∧ w.ownsRow B 105 1 ov n os
/-- Only the shared part, and the row of its schedules, change. -/
structure Fs (B sh : Nat) (w w' : World) : Prop where
 bel : Below B w w'
 blk : ∀ b, b < w.heap.size → b ≠ sh → (∀ cs fr, w.heap[b]? ≠ some (.cells cs 105 fr)) → w'.heap[b]? = w.heap[b]?
theorem Fs.of_below {B sh : Nat} {w w' : World} (h : Below w.heap.size w w') (hB : B ≤ w.heap.size) : Fs B sh w w' := ⟨h.mono hB, fun b hb _ _ => h.block b hb⟩
theorem Fs.trans {B sh : Nat} {u v w : World} (h : Fs B sh u v) (k : Fs B sh v w) : Fs B sh u w :=
 ⟨h.bel.trans k.bel, fun b hb hn ht => by
  have e := h.blk b hb hn ht
  rw [k.blk b (Nat.lt_of_lt_of_le hb h.bel.size) hn (by rw [e]; exact ht), e]⟩
theorem Fs.bx {B sh b : Nat} {t : TypeId} {w w' : World} {cs : List Value} (h : Fs B sh w w') (x : Bx w b t cs) (hn : b ≠ sh) (ht : t ≠ 105) : Bx w' b t cs :=
 x.keep (h.blk b x.lt hn (fun cs fr q => by unfold Bx at x; rw [x] at q; injection q with q; injection q with _ q _; exact ht q))
theorem MK.keep {w w' : World} {B : Nat} {mp : Option Addr} {wd : Nat} {zs : List Int} (h : MK w B mp wd zs) (hk : ∀ g, mp = some ⟨g, 0, none⟩ → w'.heap[g]? = w.heap[g]?) (hs : w.heap.size ≤ w'.heap.size) : MK w' B mp wd zs := by
 rcases h with q | ⟨g, nk, e, hB, hn, hw, hK, R, hR⟩
 ·exact .inl q
 ·exact .inr ⟨g, nk, e, hB, hn, hw, hK.sameK (hk g e) hs, R, by rw [hk g e]; exact hR⟩
theorem MK.lt {w : World} {B : Nat} {mp : Option Addr} {wd : Nat} {zs : List Int} (h : MK w B mp wd zs) (g : Nat) (e : mp = some ⟨g, 0, none⟩) : g < w.heap.size ∧ B ≤ g ∧ ∃ R : Array Value, w.heap[g]? = some (.cells R 160 (0, 0)) := by
 rcases h with ⟨_, q⟩ | ⟨g', nk, e', hB, hn, hw, hK, R, hR⟩
 ·rw [q] at e; cases e
 ·rw [e'] at e; injection e with e; injection e with e; subst e
  exact ⟨hK.ciph.here, hB, R, hR⟩
theorem own_type {w : World} {B : Nat} {e : TypeId} {K : Nat} {v : Value} {n : Nat} {xs : List Value} (h : w.ownsRow B e K v n xs) {g : Nat} (hg : v.ownBlock = some g) : ∃ cur, w.heap[g]? = some (.cells cur e (0, 0)) := by
 rcases h.2 with ⟨rfl, _⟩ | ⟨g', cap, cur, rfl, _, hh, _⟩
 ·simp [Value.ownBlock] at hg
 ·have e : g' = g := by simpa [Value.ownBlock] using hg
  subst e
  exact ⟨cur, hh⟩
theorem type_ne {w : World} {a b : Nat} {s t : TypeId} {cs ds : Array Value} {f g : Nat × Nat} (h : w.heap[a]? = some (.cells cs s f)) (k : w.heap[b]? = some (.cells ds t g)) (hst : s ≠ t) : a ≠ b := by
 intro e; subst e; rw [h] at k; injection k with k; injection k with _ k _; exact hst k
theorem ShA.below {B : Nat} {w w' : World} {sh : Nat} {S : ByteArray} {st wd : Nat} {zs : List Int} {kv : Value} {mp : Option Addr} {ov : Value} (h : ShA B w sh S st wd zs kv mp ov) (b : Below w.heap.size w w') : ShA B w' sh S st wd zs kv mp ov :=
 ⟨h.le, h.box.below b, ownsRow_below h.key b, h.main.keep (fun g e => b.block g (h.main.lt g e).1) b.size, by obtain ⟨n, os, hn, ho⟩ := h.oth; exact ⟨n, os, hn, ownsRow_below ho b⟩⟩
/-- The row of schedules grew, then the shared part's sixth cell was written. -/
theorem ShA.sched {B : Nat} {w w1 : World} {sh : Nat} {S : ByteArray} {st wd : Nat} {zs : List Int} {kv : Value} {mp : Option Addr} {ov ov' : Value} {n : Nat} {os : List Value} (h : ShA B w sh S st wd zs kv mp ov) (hg : w.grownBy w1 ov.ownBlock) (ho : w1.ownsRow B 105 1 ov' n os) (hn : n ≤ 4) (hB : B ≤ w.heap.size) :
  Bx w1 sh 108 (shL S st kv wd mp ov) ∧ ShA B (w1.setCell ⟨sh, 5, none⟩ ov') sh S st wd zs kv mp ov' ∧ Fs B sh w (w1.setCell ⟨sh, 5, none⟩ ov') := by
 obtain ⟨n0, os0, _, ho0⟩ := h.oth
 have hne : ∀ (b : Nat) (t : TypeId) (cs : Array Value) (fr : Nat × Nat), w.heap[b]? = some (Obj.cells cs t fr) → t ≠ 105 → w1.heap[b]? = w.heap[b]? := fun b t cs fr hb ht => by
  refine hg.block b (Array.getElem?_eq_some_iff.1 hb).1 ?_
  intro e
  obtain ⟨cur, q⟩ := own_type ho0 e.symm
  exact type_ne q hb (fun e => ht e.symm) rfl
 have b1 : Bx w1 sh 108 (shL S st kv wd mp ov) := h.box.keep (hne _ 108 _ _ h.box (by decide))
 have hst : ∀ b, b ≠ sh → (w1.setCell ⟨sh, 5, none⟩ ov').heap[b]? = w1.heap[b]? := fun b hb => Below.heap_setCell w1 ⟨sh, 5, none⟩ ov' b (fun e => hb e)
 have b2 := b1.set 5 ov'
 refine ⟨b1, ⟨h.le, b2, ?_, ?_, n, os, hn, ?_⟩, ?_, ?_⟩
 ·refine ownsRow_keep h.key fun g q => ?_
  obtain ⟨cur, hc⟩ := own_type h.key q
  rw [hst g (type_ne hc h.box (by decide)), hne g 5 _ _ hc (by decide)]
 ·refine h.main.keep (fun g e => ?_) ?_
  ·obtain ⟨_, _, R, hR⟩ := h.main.lt g e
   rw [hst g (type_ne hR h.box (by decide)), hne g 160 _ _ hR (by decide)]
  ·have := hg.size; simpa using this
 ·refine ownsRow_keep ho fun g q => ?_
  obtain ⟨cur, hc⟩ := own_type ho q
  exact hst g (type_ne hc b1 (by decide))
 ·have q : Below B w w1 := (Below.refl _ _).grown hg hB (fun k hk => (ownsRow_lt ho0 hk).1)
  exact q.setCell h.le _
 ·intro b hb hn' ht
  rw [hst b hn']
  refine hg.block b hb ?_
  intro e
  obtain ⟨cur, q⟩ := own_type ho0 e.symm
  exact ht _ _ q
theorem Tryz.info105 : (Tryz.prog.info? 105).map (fun i => (i.zero, i.size, i.bytes)) = some (some (.pointer none), 1, 8) := by kernel_rfl
set_option maxHeartbeats 1600000 in
set_option maxRecDepth 100000 in
/-- shared.schedule. -/
theorem schedule_ok (B sh : Nat) (S : ByteArray) (st wd : Nat) (zs : List Int) (kv : Value) (mp : Option Addr) (ov : Value) (v : Value) (ys : List Int) (nk : Nat) (w : World) (h : ShA B w sh S st wd zs kv mp ov) (hB : B ≤ w.heap.size) (hfew : ∃ n os, n ≤ 3 ∧ w.ownsRow B 105 1 ov n os)
  (hnk : nk = 4 ∨ nk = 6 ∨ nk = 8) (hl : ys.length = 4 * nk) (hv : View w v ys) (hb : AllBytes ys) (hrc : RC w) (hpos : 3 < w.heap.size) :
  Calls Tryz.prog 144 #[.pointer (some ⟨sh, 0, none⟩), v] w fun e w' => Hid (∃ g ov', e = .returned (.pointer (some ⟨g, 0, none⟩)) ∧ w.heap.size ≤ g ∧ KeyAt w' g (nk + 6) (schedK nk (nat8 ys)) ∧ (∃ R : Array Value, w'.heap[g]? = some (.cells R 160 (0, 0))) ∧ ShA B w' sh S st wd zs kv mp ov' ∧ (∀ n os, w.ownsRow B 105 1 ov n os → ∃ os', w'.ownsRow B 105 1 ov' (n + 1) os') ∧ Fs B sh w w') := by
 have HN : Hid (Calls Tryz.prog 54 #[v] w fun e w' => Hid (∃ g, e = .returned (.tuple #[.pointer (some ⟨g, 0, none⟩), .int .i64 0]) ∧ w.heap.size ≤ g ∧ KeyAt w' g (nk + 6) (schedK nk (nat8 ys)) ∧ Below w.heap.size w w' ∧ ∃ R : Array Value, w'.heap[g]? = some (.cells R 160 (0, 0)))) := new_view v ys nk w hnk hl hv hb hrc hpos
 have HA : Hid (ShA B w sh S st wd zs kv mp ov) := h
 have HBB : Hid (B ≤ w.heap.size) := hB
 obtain ⟨n0, os0, hn0, ho0⟩ := hfew
 have HO0 : Hid (n0 ≤ 3 ∧ w.ownsRow B 105 1 ov n0 os0) := ⟨hn0, ho0⟩
 clear h hB hnk hl hv hb hrc hpos hn0 ho0
 obtain ⟨i0, hi0, hz0, hz1, hz2⟩ := info_parts Tryz.info105
 have HI0 : Hid (Tryz.prog.info? 105 = some i0 ∧ i0.zero = some (.pointer none) ∧ i0.size = 1 ∧ i0.bytes = 8) := ⟨hi0, hz0, hz1, hz2⟩
 clear hi0 hz0 hz1 hz2
 go_enter Tryz.func144, Tryz.ntmps144
 go_upto_region 2 with (go_at_call 54; refine HN.out.mono ?_; intro e1 w1 hh; obtain ⟨g, rfl, hg1, hK1, hb1, R1, hR1⟩ := hh.out; have HK1 : Hid (w.heap.size ≤ g ∧ KeyAt w1 g (nk + 6) (schedK nk (nat8 ys)) ∧ Below w.heap.size w w1 ∧ w1.heap[g]? = some (.cells R1 160 (0, 0))) := ⟨hg1, hK1, hb1, hR1⟩; clear hh hg1 hK1 hb1 hR1 HN)
 have HA1 : Hid (ShA B w1 sh S st wd zs kv mp ov) := HA.out.below HK1.out.2.2.1
 have HO1 : Hid (w1.ownsRow B 105 1 ov n0 os0) := ownsRow_below HO0.out.2 HK1.out.2.2.1
 have hov : (∃ x a c, ov = .slice x a c) := by
  rcases HO1.out.2 with ⟨rfl, _⟩ | ⟨g', cap, cur, rfl, _⟩
  ·exact ⟨_, _, _, rfl⟩
  ·exact ⟨_, _, _, rfl⟩
 obtain ⟨xa, xl, xc, rfl⟩ := hov
 have c5 : w1.cell? ⟨sh, 5, none⟩ = some (.slice xa xl xc) := HA1.out.box.cell 5 _ rfl
 have hlt : Hid (sh < w1.heap.size) := HA1.out.box.lt
 have HA2 : Hid (ShA B (w1.alloc (.cells #[.pointer (some ⟨g, 0, none⟩)] 105)) sh S st wd zs kv mp (.slice xa xl xc)) := HA1.out.below ((Below.refl _ _).alloc (Nat.le_refl _) _)
 go_wp2_with (first
  | (at_builtin; go_must (refine wpList_append_own_at _ rfl (.tmp 16) (.tmp 18) 106 rfl B 105 i0 (.pointer none) 1 8 Tryz.underlying106 HI0.out.1 HI0.out.2.1 HI0.out.2.2.1 HI0.out.2.2.2 rfl (by decide) _ n0 os0 rfl (HO1.out.alloc _) ⟨w1.heap.size, 0, none⟩ 1 1 [.pointer (some ⟨g, 0, none⟩)] rfl rfl ?_ ?_ ?_ ?_ ?_ ?_)))
 ·intro j u hj
  match j, hj with
  | 0, hj => simp at hj; subst hj; simp [Addr.add]
 ·intro u hu; simp at hu; subst hu; rfl
 ·have := HO0.out.1; unfold maxLen; omega
 ·have := HO0.out.1; omega
 ·have := HBB.out; have := HK1.out.2.2.1.size; simp; omega
 intro v2 w2 hown hgrow hnil hat
 obtain ⟨hbx, hsh, hfs⟩ := HA2.out.sched hgrow hown (by have := HO0.out.1; omega) (by have := HBB.out; have := HK1.out.2.2.1.size; simp; omega)
 have hv2 : (∃ x a c, v2 = .slice x a c) := by
  rcases hown.2 with ⟨rfl, _⟩ | ⟨g', cap, cur, rfl, _⟩
  ·exact ⟨_, _, _, rfl⟩
  ·exact ⟨_, _, _, rfl⟩
 obtain ⟨ya, yl, yc, rfl⟩ := hv2
 have HSH : Hid (ShA B (w2.setCell ⟨sh, 5, none⟩ (.slice ya yl yc)) sh S st wd zs kv mp (.slice ya yl yc)) := hsh
 have HFS : Hid (Fs B sh (w1.alloc (.cells #[.pointer (some ⟨g, 0, none⟩)] 105)) (w2.setCell ⟨sh, 5, none⟩ (.slice ya yl yc))) := hfs
 have d5 : w2.cell? ⟨sh, 5, none⟩ = some (.slice xa xl xc) := hbx.cell 5 _ rfl
 have f5 : w2.frozen? ⟨sh, 5, none⟩ = false := hbx.frozen 5
 have HOW : Hid (w2.ownsRow B 105 1 (.slice ya yl yc) (n0 + 1) (os0 ++ [.pointer (some ⟨g, 0, none⟩)]) ∧ w2.heap[sh]? = some (.cells (shL S st kv wd mp (.slice xa xl xc)).toArray 108 (0, 0))) := ⟨hown, hbx⟩
 clear hown hgrow hnil hat hbx hsh hfs c5
 go_wp2
 go_ret
 have hF : Fs B sh w (w2.setCell ⟨sh, 5, none⟩ (.slice ya yl yc)) := (Fs.of_below HK1.out.2.2.1 HBB.out).trans ((Fs.of_below ((Below.refl _ _).alloc (Nat.le_refl _) _) (Nat.le_trans HBB.out HK1.out.2.2.1.size)).trans HFS.out)
 have hgk : (w2.setCell ⟨sh, 5, none⟩ (.slice ya yl yc)).heap[g]? = w1.heap[g]? := by
  have l : g < w1.heap.size := HK1.out.2.1.ciph.here
  have e : (w1.alloc (.cells #[.pointer (some ⟨g, 0, none⟩)] 105)).heap[g]? = w1.heap[g]? := Below.heap_alloc _ _ _ l
  rw [HFS.out.blk g (by simp; omega) (type_ne HK1.out.2.2.2 HA1.out.box (by decide)) (by rw [e, HK1.out.2.2.2]; intro cs fr q; injection q with q; injection q with _ q _; exact absurd q (by decide)), e]
 refine ⟨g, .slice ya yl yc, rfl, HK1.out.1, HK1.out.2.1.sameK hgk (Nat.le_trans (by simp) HFS.out.bel.size), ⟨R1, by rw [hgk]; exact HK1.out.2.2.2⟩, HSH.out, fun n os ho => ?_, hF⟩
 have e : n = n0 := by
  have q1 := ho.2
  have q2 := HO0.out.2.2
  rcases q1 with ⟨q, r⟩ | ⟨_, _, _, q, _⟩ <;> rcases q2 with ⟨q', r'⟩ | ⟨_, _, _, q', _⟩
  ·omega
  ·rw [q] at q'; cases q'
  ·rw [q] at q'; cases q'
  ·rw [q] at q'; injection q' with _ q' _
 subst e
 exact ⟨_, ownsRow_keep HOW.out.1 fun b q => by
  obtain ⟨cur, hc⟩ := own_type HOW.out.1 q
  exact Below.heap_setCell w2 ⟨sh, 5, none⟩ _ b (fun e => type_ne HOW.out.2 hc (by decide) e.symm)⟩
end Go.Proofs.YtcnikfikpnnblaaGreatDoor
namespace Go.Proofs.YtcnikfikpnnblaaGreatDoor
open Go.RowKit
set_option linter.unusedVariables false
theorem zsize85 : Tryz.zeroCells168.size = 4611 := by kernel_rfl
theorem zb85 : Tryz.prog.built 168 [] = some Tryz.zeroCells168 := by kernel_rfl
theorem zhead85 : Tryz.zeroCells168.toList.take 2 = [.slice none 0 0, .slice none 0 0] := by kernel_rfl
theorem zlast85 : Tryz.zeroCells168.toList.drop 4610 = [.bool false] := by kernel_rfl
theorem dbl_tms : ∀ a : Fin 256, tmsN 8 0 a.1 2 = dblN a.1 := by decide +kernel
/-- The rows of products. -/
def byF : Nat → Nat → Nat
 | 1, j => j
 | 2, j => x2 j
 | 3, j => x3 j
 | 9, j => x9 j
 | 11, j => x11 j
 | 13, j => x13 j
 | _, j => x14 j
def byR (r : Nat) : Prop := r = 1 ∨ r = 2 ∨ r = 3 ∨ r = 9 ∨ r = 11 ∨ r = 13 ∨ r = 14
/-- The reference's key while it is made at g: tables, and the products of the first m bytes. -/
structure RkT (w : World) (g m : Nat) (v : World) : Prop where
 old : Below g w v
 room : v.there g 0 4611
 lt : g < v.heap.size
 s : ∀ j, j < 256 → v.cell? ⟨g, 2 + j, none⟩ = some (.int .u8 (SB j : Nat))
 u : ∀ j, j < 256 → v.cell? ⟨g, 258 + j, none⟩ = some (.int .u8 (UB j : Nat))
 by' : ∀ r, byR r → ∀ j, j < m → v.cell? ⟨g, 514 + 256 * r + j, none⟩ = some (.int .u8 (byF r j : Nat))
 wiped : v.cell? ⟨g, 4610, none⟩ = some (.bool false)
theorem RkT.keep {w v v' : World} {g m : Nat} (h : RkT w g m v) (hb : v'.heap[g]? = v.heap[g]?) (ho : Below g w v') (hs : v.heap.size ≤ v'.heap.size) : RkT w g m v' := by
 have hc : ∀ j, v'.cell? ⟨g, j, none⟩ = v.cell? ⟨g, j, none⟩ := fun j => World.cell?_of_block (a := ⟨g, j, none⟩) hb
 have hf : ∀ j, v'.frozen? ⟨g, j, none⟩ = v.frozen? ⟨g, j, none⟩ := fun j => World.frozen?_of_block (a := ⟨g, j, none⟩) hb
 exact ⟨ho, fun j hj => by rw [hc, hf]; exact h.room j hj, Nat.lt_of_lt_of_le h.lt hs, fun j hj => (hc _).trans (h.s j hj), fun j hj => (hc _).trans (h.u j hj), fun r hr j hj => (hc _).trans (h.by' r hr j hj), (hc _).trans h.wiped⟩
theorem RkT.set {w v : World} {g m : Nat} (h : RkT w g m v) (j : Nat) (x : Value) (hj : j < 2) : RkT w g m (v.setCell ⟨g, j, none⟩ x) :=
 ⟨h.old.setCell (Nat.le_refl _) _, World.there_setCells h.room _ _ [_], by have := h.lt; simpa [World.setCell] using this, fun i hi => (cell_other _ _ _ _ _ (by omega)).trans (h.s i hi), fun i hi => (cell_other _ _ _ _ _ (by omega)).trans (h.u i hi), fun r hr i hi => (cell_other _ _ _ _ _ (by omega)).trans (h.by' r hr i hi), (cell_other _ _ _ _ _ (by omega)).trans h.wiped⟩
/-- Seven cells more. -/
def bySet (v : World) (g k : Nat) : World :=
 ((((((v.setCell ⟨g, 770 + k, none⟩ (.int .u8 (k : Nat))).setCell ⟨g, 1026 + k, none⟩ (.int .u8 (x2 k : Nat))).setCell ⟨g, 1282 + k, none⟩ (.int .u8 (x3 k : Nat))).setCell ⟨g, 2818 + k, none⟩ (.int .u8 (x9 k : Nat))).setCell ⟨g, 3330 + k, none⟩ (.int .u8 (x11 k : Nat))).setCell ⟨g, 3842 + k, none⟩ (.int .u8 (x13 k : Nat))).setCell ⟨g, 4098 + k, none⟩ (.int .u8 (x14 k : Nat))
theorem bySet_out (v : World) (g k j : Nat) (h : j ≠ 770 + k ∧ j ≠ 1026 + k ∧ j ≠ 1282 + k ∧ j ≠ 2818 + k ∧ j ≠ 3330 + k ∧ j ≠ 3842 + k ∧ j ≠ 4098 + k) : (bySet v g k).cell? ⟨g, j, none⟩ = v.cell? ⟨g, j, none⟩ := by
 unfold bySet
 rw [cell_other _ _ _ _ _ (by omega), cell_other _ _ _ _ _ (by omega), cell_other _ _ _ _ _ (by omega), cell_other _ _ _ _ _ (by omega), cell_other _ _ _ _ _ (by omega), cell_other _ _ _ _ _ (by omega), cell_other _ _ _ _ _ (by omega)]
theorem bySet_there {v : World} {g o n : Nat} (k : Nat) (h : v.there g o n) : (bySet v g k).there g o n :=
 World.there_setCells (World.there_setCells (World.there_setCells (World.there_setCells (World.there_setCells (World.there_setCells (World.there_setCells h _ _ [_]) _ _ [_]) _ _ [_]) _ _ [_]) _ _ [_]) _ _ [_]) _ _ [_]
theorem bySet_below {w v : World} {g : Nat} (k : Nat) (h : Below g w v) : Below g w (bySet v g k) :=
 ((((((h.setCell (Nat.le_refl _) _).setCell (Nat.le_refl _) _).setCell (Nat.le_refl _) _).setCell (Nat.le_refl _) _).setCell (Nat.le_refl _) _).setCell (Nat.le_refl _) _).setCell (Nat.le_refl _) _
theorem bySet_size (v : World) (g k : Nat) : (bySet v g k).heap.size = v.heap.size := by simp [bySet, World.setCell]
theorem bySet_in {v : World} {g k : Nat} (ht : v.there g 0 4611) (hk : k < 256) (r : Nat) (hr : byR r) : (bySet v g k).cell? ⟨g, 514 + 256 * r + k, none⟩ = some (.int .u8 (byF r k : Nat)) := by
 unfold bySet
 rcases hr with rfl | rfl | rfl | rfl | rfl | rfl | rfl
 ·show World.cell? _ ⟨g, 770 + k, none⟩ = _
  rw [cell_other _ _ _ _ _ (by omega), cell_other _ _ _ _ _ (by omega), cell_other _ _ _ _ _ (by omega), cell_other _ _ _ _ _ (by omega), cell_other _ _ _ _ _ (by omega), cell_other _ _ _ _ _ (by omega)]
  exact set_same _ ht (by omega)
 ·show World.cell? _ ⟨g, 1026 + k, none⟩ = _
  rw [cell_other _ _ _ _ _ (by omega), cell_other _ _ _ _ _ (by omega), cell_other _ _ _ _ _ (by omega), cell_other _ _ _ _ _ (by omega), cell_other _ _ _ _ _ (by omega)]
  exact set_same _ (World.there_setCells ht _ _ [_]) (by omega)
 ·show World.cell? _ ⟨g, 1282 + k, none⟩ = _
  rw [cell_other _ _ _ _ _ (by omega), cell_other _ _ _ _ _ (by omega), cell_other _ _ _ _ _ (by omega), cell_other _ _ _ _ _ (by omega)]
  exact set_same _ (World.there_setCells (World.there_setCells ht _ _ [_]) _ _ [_]) (by omega)
 ·show World.cell? _ ⟨g, 2818 + k, none⟩ = _
  rw [cell_other _ _ _ _ _ (by omega), cell_other _ _ _ _ _ (by omega), cell_other _ _ _ _ _ (by omega)]
  exact set_same _ (World.there_setCells (World.there_setCells (World.there_setCells ht _ _ [_]) _ _ [_]) _ _ [_]) (by omega)
 ·show World.cell? _ ⟨g, 3330 + k, none⟩ = _
  rw [cell_other _ _ _ _ _ (by omega), cell_other _ _ _ _ _ (by omega)]
  exact set_same _ (World.there_setCells (World.there_setCells (World.there_setCells (World.there_setCells ht _ _ [_]) _ _ [_]) _ _ [_]) _ _ [_]) (by omega)
 ·show World.cell? _ ⟨g, 3842 + k, none⟩ = _
  rw [cell_other _ _ _ _ _ (by omega)]
  exact set_same _ (World.there_setCells (World.there_setCells (World.there_setCells (World.there_setCells (World.there_setCells ht _ _ [_]) _ _ [_]) _ _ [_]) _ _ [_]) _ _ [_]) (by omega)
 ·show World.cell? _ ⟨g, 4098 + k, none⟩ = _
  exact set_same _ (World.there_setCells (World.there_setCells (World.there_setCells (World.there_setCells (World.there_setCells (World.there_setCells ht _ _ [_]) _ _ [_]) _ _ [_]) _ _ [_]) _ _ [_]) _ _ [_]) (by omega)
theorem RkT.more {w v : World} {g k : Nat} (h : RkT w g k v) (hk : k < 256) : RkT w g (k + 1) (bySet v g k) := by
 refine ⟨bySet_below k h.old, bySet_there k h.room, by rw [bySet_size]; exact h.lt, fun j hj => (bySet_out _ _ _ _ (by omega)).trans (h.s j hj), fun j hj => (bySet_out _ _ _ _ (by omega)).trans (h.u j hj), fun r hr j hj => ?_, (bySet_out _ _ _ _ (by omega)).trans h.wiped⟩
 by_cases hjk : j = k
 ·subst hjk; exact bySet_in h.room hk r hr
 ·rw [bySet_out _ _ _ _ (by rcases hr with rfl | rfl | rfl | rfl | rfl | rfl | rfl <;> omega)]
  exact h.by' r hr j (by omega)
/-- A list of bytes. -/
def rbL (K : Nat → Nat) (m : Nat) : List Value := (List.range m).map fun j => .int .u8 (rb K j : Nat)
theorem rbL_succ (K : Nat → Nat) (m : Nat) : rbL K (m + 1) = rbL K m ++ [.int .u8 (rb K m : Nat)] := by simp [rbL, List.range_succ]
theorem rbL_len (K : Nat → Nat) (m : Nat) : (rbL K m).length = m := by simp [rbL]
theorem rbL_at (K : Nat → Nat) (m j : Nat) (h : j < m) : (rbL K m)[j]? = some (.int .u8 (rb K j : Nat)) := by simp [rbL, h]
theorem own_set {w : World} {base e sz n g o : Nat} {v x : Value} {xs : List Value} (h : w.ownsRow base e sz v n xs) (hg : g < base) : (w.setCell ⟨g, o, none⟩ x).ownsRow base e sz v n xs :=
 h.kept (row := some g) ⟨rfl, rfl, rfl, by simp [World.setCell], fun k hk hne => World.heap_setCells_other w g o [x] hk (fun q => hne (by rw [q]))⟩ (by
  cases hv : v.ownBlock with
  | none => exact .inl rfl
  | some k => right; intro q; have := (h.lt k hv).1; simp at q; omega)
/-- The reference's key at g, its round keys at gr. -/
structure RefAt (w : World) (g gr nk : Nat) (K : Nat → Nat) : Prop where
 lt : g < w.heap.size
 gt : g < gr
 ltr : gr < w.heap.size
 s : ∀ j, j < 256 → w.cell? ⟨g, 2 + j, none⟩ = some (.int .u8 (SB j : Nat))
 u : ∀ j, j < 256 → w.cell? ⟨g, 258 + j, none⟩ = some (.int .u8 (UB j : Nat))
 by' : ∀ r, byR r → ∀ j, j < 256 → w.cell? ⟨g, 514 + 256 * r + j, none⟩ = some (.int .u8 (byF r j : Nat))
 wiped : w.cell? ⟨g, 4610, none⟩ = some (.bool false)
 bytes : ∃ p c, w.cell? ⟨g, 0, none⟩ = some (.slice p (4 * nk) c)
 round : ∃ c, w.cell? ⟨g, 1, none⟩ = some (.slice (some ⟨gr, 0, none⟩) (16 * (nk + 7)) c)
 cells : ∀ j, j < 16 * (nk + 7) → w.cell? ⟨gr, j, none⟩ = some (.int .u8 (rb K j : Nat))
 room : w.there g 0 4611
theorem RefAt.keep {w w' : World} {g gr nk : Nat} {K : Nat → Nat} (h : RefAt w g gr nk K) (h1 : w'.heap[g]? = w.heap[g]?) (h2 : w'.heap[gr]? = w.heap[gr]?) (hs : w.heap.size ≤ w'.heap.size) : RefAt w' g gr nk K := by
 have hc : ∀ j, w'.cell? ⟨g, j, none⟩ = w.cell? ⟨g, j, none⟩ := fun j => World.cell?_of_block (a := ⟨g, j, none⟩) h1
 have hd : ∀ j, w'.cell? ⟨gr, j, none⟩ = w.cell? ⟨gr, j, none⟩ := fun j => World.cell?_of_block (a := ⟨gr, j, none⟩) h2
 obtain ⟨p, c, hp⟩ := h.bytes
 obtain ⟨d, hq⟩ := h.round
 exact ⟨Nat.lt_of_lt_of_le h.lt hs, h.gt, Nat.lt_of_lt_of_le h.ltr hs, fun j hj => (hc _).trans (h.s j hj), fun j hj => (hc _).trans (h.u j hj), fun r hr j hj => (hc _).trans (h.by' r hr j hj), (hc _).trans h.wiped, ⟨p, c, (hc _).trans hp⟩, ⟨d, (hc _).trans hq⟩, fun j hj => (hd _).trans (h.cells j hj), fun j hj => (by rw [World.cell?_of_block (a := ⟨g, 0 + j, none⟩) h1, World.frozen?_of_block (a := ⟨g, 0 + j, none⟩) h1]; exact h.room j hj)⟩
end Go.Proofs.YtcnikfikpnnblaaGreatDoor
namespace Go.Proofs.YtcnikfikpnnblaaGreatDoor
open Go.RowKit
set_option linter.unusedVariables false
/-- The reference's key while its round keys are laid one behind the other. -/
structure RkI (w : World) (g n gb cb gr c m : Nat) (K : Nat → Nat) (v : World) : Prop where
  t : RkT w g 256 v
  b : v.cell? ⟨g, 0, none⟩ = some (.slice (some ⟨gb, 0, none⟩) n cb)
  r : v.cell? ⟨g, 1, none⟩ = some (.slice (some ⟨gr, 0, none⟩) m c)
  o : v.ownsRow (g + 1) 5 1 (.slice (some ⟨gr, 0, none⟩) m c) m (rbL K m)
theorem RkI.gr_lt {w v : World} {g n gb cb gr c m : Nat} {K : Nat → Nat} (h : RkI w g n gb cb gr c m K v) : g < gr ∧ gr < v.heap.size := by
  have := h.o.lt gr rfl
  exact ⟨by omega, this.2⟩
theorem RkI.cell {w v : World} {g n gb cb gr c m : Nat} {K : Nat → Nat} (h : RkI w g n gb cb gr c m K v) (j : Nat) (hj : j < m) : v.cell? ⟨gr, j, none⟩ = some (.int .u8 (rb K j : Nat)) := by
  rw [h.o.cellAt j (by omega)]
  exact rbL_at K m j hj
theorem RkI.below {w v v' : World} {g n gb cb gr c m : Nat} {K : Nat → Nat} (h : RkI w g n gb cb gr c m K v) (hb : Below v.heap.size v v') : RkI w g n gb cb gr c m K v' :=
  ⟨h.t.keep (hb.block g h.t.lt) (h.t.old.trans (hb.mono (Nat.le_of_lt h.t.lt))) hb.size, (hb.cell (p := ⟨g, 0, none⟩) h.t.lt).trans h.b, (hb.cell (p := ⟨g, 1, none⟩) h.t.lt).trans h.r,
   h.o.kept (row := none) ⟨hb.os, hb.tape, hb.output, hb.size, fun k hk _ => hb.block k hk⟩ (by simp [Value.ownBlock])⟩
theorem RkI.app {w v v1 v2 : World} {g n gb cb gr c m g' c' : Nat} {K : Nat → Nat} {x : Value} (h : RkI w g n gb cb gr c m K v) (hb : Below v.heap.size v v1) (hx : x = .int .u8 (rb K m : Nat)) (ho : v2.ownsRow (g + 1) 5 1 (.slice (some ⟨g', 0, none⟩) (m + 1) c') (m + 1) (rbL K m ++ [x])) (hg : v1.grownBy v2 (some gr)) :
    RkI w g n gb cb g' c' (m + 1) K (v2.setCell ⟨g, 1, none⟩ (.slice (some ⟨g', 0, none⟩) (m + 1) c')) := by
  have h1 := h.below hb
  have hne : some g ≠ some gr := by have := h.gr_lt; simp; omega
  have hgb := hg.block g h1.t.lt hne
  have ht : RkT w g 256 v2 := h1.t.keep hgb (h1.t.old.grown hg (Nat.le_of_lt h1.t.lt) (by intro q hq; have := h.gr_lt; simp at hq; omega)) hg.size
  refine ⟨ht.set 1 _ (by omega), (cell_other _ _ _ _ _ (by omega)).trans ((World.cell?_of_block (a := ⟨g, 0, none⟩) hgb).trans h1.b), set_same _ ht.room (by omega), own_set ?_ (Nat.lt_succ_self g)⟩
  rw [rbL_succ, ← hx]
  exact ho
/-- Four bytes at tb. -/
structure Tr (v : World) (tb : Nat) (f : Nat → Nat) : Prop where
  lt : tb < v.heap.size
  c : ∀ j, j < 4 → v.cell? ⟨tb, j, none⟩ = some (.int .u8 (f j : Nat))
theorem Tr.below {v v' : World} {tb : Nat} {f : Nat → Nat} (h : Tr v tb f) (hb : Below v.heap.size v v') : Tr v' tb f :=
  ⟨Nat.lt_of_lt_of_le h.lt hb.size, fun j hj => (hb.cell (p := ⟨tb, j, none⟩) h.lt).trans (h.c j hj)⟩
theorem Tr.new (v : World) (a b c d : Nat) : Tr (v.alloc (.cells #[.int .u8 (a : Nat), .int .u8 (b : Nat), .int .u8 (c : Nat), .int .u8 (d : Nat)] 5)) v.heap.size (fun j => if j = 0 then a else if j = 1 then b else if j = 2 then c else d) := by
  refine ⟨by simp, fun j hj => ?_⟩
  rw [World.cell?_alloc_at _ 5 _ _ rfl]
  have hm : j = 0 ∨ j = 1 ∨ j = 2 ∨ j = 3 := by omega
  rcases hm with rfl | rfl | rfl | rfl <;> rfl
theorem Tr.congr {v : World} {tb : Nat} {f f' : Nat → Nat} (h : Tr v tb f) (e : ∀ j, j < 4 → f j = f' j) : Tr v tb f' := ⟨h.lt, fun j hj => by rw [← e j hj]; exact h.c j hj⟩
theorem Tr.app {v v1 v2 : World} {tb gr g : Nat} {f : Nat → Nat} {x : Value} (h : Tr v tb f) (hb : Below v.heap.size v v1) (hg : v1.grownBy v2 (some gr)) (hne : gr ≠ tb) (hg2 : g ≠ tb) : Tr (v2.setCell ⟨g, 1, none⟩ x) tb f := by
  have h1 := h.below hb
  refine ⟨by have := Nat.lt_of_lt_of_le h1.lt hg.size; simpa [World.setCell] using this, fun j hj => ?_⟩
  rw [World.cell?_setCell_far _ _ _ _ (by exact hg2)]
  exact (World.cell?_of_block (a := ⟨tb, j, none⟩) (hg.block tb h1.lt (by simp; omega))).trans (h1.c j hj)
end Go.Proofs.YtcnikfikpnnblaaGreatDoor
