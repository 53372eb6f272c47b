import Derived.Test.YtcnikfikpnnblaaGreatDoorSch
import Derived.Test.YtcnikfikpnnblaaGreatDoorPart28
import Derived.Deep.RegionHeld3
import Derived.Maps.AppendAt
import Derived.Test.YtcnikfikpnnblaaGreatDoorPart22
import Derived.Test.YtcnikfikpnnblaaGreatDoorPart25
import Derived.Test.YtcnikfikpnnblaaGreatDoorDgFinB64
import Derived.Test.YtcnikfikpnnblaaGreatDoorDgFinB128
import Derived.Test.YtcnikfikpnnblaaGreatDoorPart20
namespace Go.Proofs.YtcnikfikpnnblaaGreatDoor
open Go.RowKit
set_option linter.unusedVariables false
/-- A row of cells laid over another from off on. -/
theorem over_at (off : Nat) : ∀ (L : List Value) (k : Nat) (z : Array Value) (i : Nat), ((L.zipIdx k).foldl (fun cs (x : Value × Nat) => cs.setIfInBounds (off + x.2) x.1) z)[i]? =
  if off + k ≤ i ∧ i < off + k + L.length ∧ i < z.size then L[i - (off + k)]? else z[i]?
 | [], k, z, i => by simp; omega
 | v :: r, k, z, i => by
  rw [List.zipIdx_cons, List.foldl_cons, over_at off r (k + 1)]
  simp only [Array.size_setIfInBounds, List.length_cons]
  by_cases h1 : off + (k + 1) ≤ i ∧ i < off + (k + 1) + r.length ∧ i < z.size
  ·rw [if_pos h1, if_pos (by omega)]
   rw [show i - (off + k) = (i - (off + (k + 1))) + 1 by omega, List.getElem?_cons_succ]
  ·rw [if_neg h1]
   by_cases h2 : i = off + k
   ·subst h2
    by_cases h3 : off + k < z.size
    ·rw [Array.getElem?_setIfInBounds_self_of_lt h3, if_pos (by omega), Nat.sub_self]; rfl
    ·rw [if_neg (by omega)]
     rw [Array.getElem?_eq_none (by simp; omega), Array.getElem?_eq_none (by omega)]
   ·rw [Array.getElem?_setIfInBounds_ne (by omega), if_neg (by omega)]
theorem over_size (off : Nat) : ∀ (L : List Value) (k : Nat) (z : Array Value), ((L.zipIdx k).foldl (fun cs (x : Value × Nat) => cs.setIfInBounds (off + x.2) x.1) z).size = z.size
 | [], k, z => rfl
 | v :: r, k, z => by rw [List.zipIdx_cons, List.foldl_cons, over_size off r (k + 1)]; simp
theorem zero82 : ((Tryz.prog.info? 160).bind (·.zero)).map (fun z => z.cells.size) = some 1091 := by kernel_rfl
theorem size82 : (Tryz.prog.info? 160).map (·.size) = some 1091 := by kernel_rfl
theorem zsize82 : Tryz.zeroCells160.size = 1091 := by kernel_rfl
theorem zhead82 : Tryz.zeroCells160.toList.take 6 = [.int .i32 0, .int .u32 0, .int .u32 0, .int .u32 0, .int .i32 0, .int .i32 0] := by kernel_rfl
theorem zcells82 : ((Tryz.prog.info? 160).bind (·.zero)).map (·.cells) = some Tryz.zeroCells160 := by kernel_rfl
theorem built82 (L : List Value) (hL : L.length = 1085) : ∃ R, Tryz.prog.built 160 [(1, .agg L.toArray)] = some R ∧ R.size = 1091 ∧ (∀ i, i < 6 → R[i]? = Tryz.zeroCells160[i]?) ∧ ∀ j v, L[j]? = some v → R[6 + j]? = some v := by
 refine ⟨(L.zipIdx 0).foldl (fun cs (x : Value × Nat) => cs.setIfInBounds (6 + x.2) x.1) Tryz.zeroCells160, ?_, ?_, fun i hi => ?_, fun j v hv => ?_⟩
 ·have hzc := zcells82
  have hu := Tryz.underlying160
  have hus : ∃ fs, Tryz.prog.underlying 160 = some (.struct fs) ∧ fs.toList.mapM (fun f => (Tryz.prog.info? f.type).map fun i => (f.offset, i.size)) = some [(0, 6), (6, 1085)] := ⟨_, hu, by kernel_rfl⟩
  obtain ⟨fs, hu', hp⟩ := hus
  cases hq : Tryz.prog.info? 160 with
  | none => rw [hq] at hzc; cases hzc
  | some it =>
   rw [hq] at hzc
   cases hz : it.zero with
   | none => simp [hz] at hzc
   | some z =>
    have hzz : z.cells = Tryz.zeroCells160 := by simpa [hz] using hzc
    have hsz : z.cells.size = 1091 := by rw [hzz]; exact zsize82
    unfold Program.built
    rw [hq, hu']
    simp only [hz, hp]
    rw [hzz]
    unfold Instr.fill
    simp only [List.getElem?_toArray, List.getElem?_cons_succ, List.getElem?_cons_zero, Value.cells, List.size_toArray, hL]
    rw [if_neg (by rw [zsize82]; decide)]
    unfold Instr.fill
    simp
 ·rw [over_size]; exact zsize82
 ·rw [over_at, if_neg (by omega)]
 ·have hj : j < L.length := (List.getElem?_eq_some_iff.1 hv).1
  rw [over_at, if_pos (by rw [zsize82]; omega), show 6 + j - (6 + 0) = j by omega]
  exact hv
/-- A key at g. -/
structure KeyAt (w : World) (g nr : Nat) (K : Nat → Nat) : Prop where
 ciph : Ciph w g 6 nr K
 count : w.cell? ⟨g, 4, none⟩ = some (.int .i32 0)
 room : w.there g 0 1091
theorem there_sameK {u u' : World} {B o n : Nat} (h : u.there B o n) (e : u'.heap[B]? = u.heap[B]?) : u'.there B o n := fun j hj => by
 rw [World.cell?_of_block (a := ⟨B, o + j, none⟩) e, World.frozen?_of_block (a := ⟨B, o + j, none⟩) e]; exact h j hj
theorem KeyAt.sameK {u u' : World} {g nr : Nat} {K : Nat → Nat} (h : KeyAt u g nr K) (e : u'.heap[g]? = u.heap[g]?) (hs : u.heap.size ≤ u'.heap.size) : KeyAt u' g nr K := by
 have c : ∀ j : Nat, u'.cell? ⟨g, j, none⟩ = u.cell? ⟨g, j, none⟩ := fun j => World.cell?_of_block (a := ⟨g, j, none⟩) e
 exact ⟨⟨(c _).trans h.ciph.rounds, fun i hi => (c _).trans (h.ciph.words i hi), h.ciph.small, ⟨fun b hb => (c _).trans (h.ciph.tab.s b hb), fun b hb => (c _).trans (h.ciph.tab.u b hb), fun b hb => (c _).trans (h.ciph.tab.m b hb), fun b hb => (c _).trans (h.ciph.tab.n b hb)⟩, Nat.lt_of_lt_of_le h.ciph.here hs, h.ciph.some, h.ciph.most⟩, (c _).trans h.count, there_sameK h.room e⟩
theorem KeyAt.below {B : Nat} {w w' : World} {g nr : Nat} {K : Nat → Nat} (h : KeyAt w g nr K) (hb : Below B w w') (hg : g < B) : KeyAt w' g nr K :=
 ⟨h.ciph.below hb hg, (hb.cell hg).trans h.count, there_below h.room hb hg⟩
theorem keyAt_alloc (w : World) (R : Array Value) (nr : Nat) (K : Nat → Nat) (hs : R.size = 1091) (h6 : ∀ i, i < 6 → R[i]? = Tryz.zeroCells160[i]?) (hL : ∀ j v, (cipL nr K)[j]? = some v → R[6 + j]? = some v) (h1 : 1 ≤ nr) (h14 : nr ≤ 14) (hK : ∀ i, K i < 4294967296) :
  KeyAt (w.alloc (.cells R 160)) w.heap.size nr K := by
 have hc : ∀ i : Nat, (w.alloc (.cells R 160)).cell? ⟨w.heap.size, i, none⟩ = R[i]? := fun i => by
  rw [World.cell?_alloc_at R 160 _ _ rfl]
 refine ⟨ciph_of_range (fun j v hv => ?_) (by simp) h1 h14 hK, ?_, there_new w R 160 1091 (by rw [hs]; exact Nat.le_refl _)⟩
 ·rw [hc]; exact hL j v hv
 ·rw [hc, h6 4 (by decide), ← Array.getElem?_toList]
  have h := congrArg (fun l => l[4]?) zhead82
  simp only [List.getElem?_take_of_lt (show 4 < 6 by decide)] at h
  rw [h]; rfl
set_option maxHeartbeats 3200000 in
set_option maxRecDepth 100000 in
theorem new_ok (kb ko n cap nk : Nat) (key : Nat → Nat) (w : World) (hnk : nk = 4 ∨ nk = 6 ∨ nk = 8) (hn : n = 4 * nk) (hkb : kb < w.heap.size) (hcell : ∀ i, i < n → w.cell? ⟨kb, ko + i, none⟩ = some (.int .u8 (key i : Nat))) (hkey : ∀ i, key i < 256) (hrc : RC w) (hpos : 3 < w.heap.size) :
  Calls Tryz.prog 54 #[.slice (some ⟨kb, ko, none⟩) n cap] w fun e w' => ∃ g, e = .returned (.tuple #[.pointer (some ⟨g, 0, none⟩), .int .i64 0]) ∧ w.heap.size ≤ g ∧ KeyAt w' g (nk + 6) (schedK nk key) ∧ Below w.heap.size w w' ∧ ∃ R : Array Value, w'.heap[g]? = some (.cells R 160 (0, 0)) := by
 obtain ⟨L, HL⟩ : ∃ L, Hid (L = cipL (nk + 6) (schedK nk key)) := ⟨_, rfl⟩
 have KS : Hid (Calls Tryz.prog 77 #[.slice (some ⟨kb, ko, none⟩) n cap] w fun e w' => e = .returned (.agg L.toArray) ∧ Below w.heap.size w w') := by
  rw [HL.out]
  exact sched_ok kb ko n cap nk key w hnk hn hkb hcell hkey hrc hpos
 obtain ⟨R, hR1, hR2, hR3, hR4⟩ := built82 L (by rw [HL.out]; exact cipL_length _ _)
 have HR : Hid (Tryz.prog.built 160 [(1, .agg L.toArray)] = some R) := hR1
 have HR2 : Hid (R.size = 1091 ∧ (∀ i, i < 6 → R[i]? = Tryz.zeroCells160[i]?) ∧ ∀ j v, (cipL (nk + 6) (schedK nk key))[j]? = some v → R[6 + j]? = some v) := ⟨hR2, hR3, by rw [← HL.out]; exact hR4⟩
 have HKl : Hid (1 ≤ nk + 6 ∧ nk + 6 ≤ 14 ∧ ∀ i, schedK nk key i < 4294967296) := ⟨by omega, by omega, schedK_lt hkey⟩
 clear hR1 hR2 hR3 hR4 hcell hkey hrc hkb hpos
 rcases hnk with rfl | rfl | rfl
 all_goals subst hn
 all_goals go_enter Tryz.func54, Tryz.ntmps54
 all_goals go_wp2_with (first
  | (go_at_call 77; refine KS.out.mono ?_)
  | fail)
 all_goals rintro e1 w1 ⟨rfl, hb1⟩
 all_goals (have HB : Hid (Below w.heap.size w w1) := hb1)
 all_goals clear hb1
 all_goals go_wp2_with (first
  | (refine wpList_build_big (by rfl) 160 #[(1, .tmp 11)] (by rfl) R (by simp only [List.map_toArray, List.map_cons, List.map_nil]; exact HR.out) ?_)
  | fail)
 all_goals go_ret2
 all_goals exact ⟨w1.heap.size, rfl, HB.out.size, keyAt_alloc w1 R _ _ HR2.out.1 HR2.out.2.1 HR2.out.2.2 HKl.out.1 HKl.out.2.1 HKl.out.2.2, HB.out.alloc HB.out.size _, R, heap_alloc_new w1 _⟩
theorem new_bad (a : Option Addr) (n cap : Nat) (w : World) (h : n ≠ 16 ∧ n ≠ 24 ∧ n ≠ 32) : Calls Tryz.prog 54 #[.slice a n cap] w fun e w' => e = .returned (.tuple #[.pointer none, .int .i64 20]) ∧ w' = w := by
 have h1 : (((n : Nat) : Int) == 16) = false := by simp; omega
 have h2 : (((n : Nat) : Int) == 24) = false := by simp; omega
 have h3 : (((n : Nat) : Int) == 32) = false := by simp; omega
 clear h
 go_enter Tryz.func54, Tryz.ntmps54
 go_wp2
 go_ret2
 exact ⟨rfl, rfl⟩
end Go.Proofs.YtcnikfikpnnblaaGreatDoor
namespace Go.Proofs.YtcnikfikpnnblaaGreatDoor
open Go.RowKit
set_option linter.unusedVariables false
set_option linter.unusedSimpArgs false
/-- rijndael.New of bytes that are seen. -/
theorem new_view (v : Value) (ys : List Int) (nk : Nat) (w : World) (hnk : nk = 4 ∨ nk = 6 ∨ nk = 8) (hl : ys.length = 4 * nk) (hv : View w v ys) (hb : AllBytes ys) (hrc : RC w) (hpos : 3 < w.heap.size) :
  Calls Tryz.prog 54 #[v] w fun e w' => Hid (∃ g, e = .returned (.tuple #[.pointer (some ⟨g, 0, none⟩), .int .i64 0]) ∧ w.heap.size ≤ g ∧ KeyAt w' g (nk + 6) (schedK nk (nat8 ys)) ∧ Below w.heap.size w w' ∧ ∃ R : Array Value, w'.heap[g]? = some (.cells R 160 (0, 0))) := by
 have h0 : ys ≠ [] := by intro q; rw [q] at hl; simp at hl; omega
 have hlt := view_lt hv h0
 obtain ⟨a, c, rfl, h1, h2, h3, h4⟩ := hv
 rcases h4 with q | ⟨b, off, rfl, hc⟩
 ·exact absurd q h0
 ·rw [hl] at hc hlt ⊢
  exact (new_ok b off (4 * nk) c nk (nat8 ys) w hnk rfl (hlt b off _ _ rfl) (fun i hi => by rw [nat8_eq hb]; exact hc i hi) (nat8_lt hb) hrc hpos).mono fun e w' hh => hh
/-- The shared part's cells. -/
def shL (S : ByteArray) (st : Nat) (kv : Value) (wd : Nat) (mp : Option Addr) (ov : Value) : List Value := [.string S, .int .i64 (st : Nat), kv, .int .i64 (wd : Nat), .pointer mp, ov, .bool false]
/-- AES under the key's first wd bytes. -/
def MK (w : World) (B : Nat) (mp : Option Addr) (wd : Nat) (zs : List Int) : Prop :=
 (wd = 0 ∧ mp = none) ∨ ∃ g nk, mp = some ⟨g, 0, none⟩ ∧ B ≤ g ∧ (nk = 4 ∨ nk = 6 ∨ nk = 8) ∧ wd = 4 * nk ∧ KeyAt w g (nk + 6) (schedK nk (nat8 (zs.take wd))) ∧ ∃ R : Array Value, w.heap[g]? = some (.cells R 160 (0, 0))
structure ShA (B : Nat) (w : World) (sh : Nat) (S : ByteArray) (st wd : Nat) (zs : List Int) (kv : Value) (mp : Option Addr) (ov : Value) : Prop where
 le : B ≤ sh
 box : Bx w sh 108 (shL S st kv wd mp ov)
 key : w.ownsRow B 5 1 kv zs.length (cellsU8 zs)
 main : MK w B mp wd zs
 oth : ∃ n os, n ≤ 4 ∧ w.ownsRow B 105 1 ov n os
/-- Only the shared part, and the row of its schedules, change. -/
structure Fs (B sh : Nat) (w w' : World) : Prop where
 bel : Below B w w'
 blk : ∀ b, b < w.heap.size → b ≠ sh → (∀ cs fr, w.heap[b]? ≠ some (.cells cs 105 fr)) → w'.heap[b]? = w.heap[b]?
theorem Fs.of_below {B sh : Nat} {w w' : World} (h : Below w.heap.size w w') (hB : B ≤ w.heap.size) : Fs B sh w w' := ⟨h.mono hB, fun b hb _ _ => h.block b hb⟩
theorem Fs.trans {B sh : Nat} {u v w : World} (h : Fs B sh u v) (k : Fs B sh v w) : Fs B sh u w :=
 ⟨h.bel.trans k.bel, fun b hb hn ht => by
  have e := h.blk b hb hn ht
  rw [k.blk b (Nat.lt_of_lt_of_le hb h.bel.size) hn (by rw [e]; exact ht), e]⟩
theorem Fs.bx {B sh b : Nat} {t : TypeId} {w w' : World} {cs : List Value} (h : Fs B sh w w') (x : Bx w b t cs) (hn : b ≠ sh) (ht : t ≠ 105) : Bx w' b t cs :=
 x.keep (h.blk b x.lt hn (fun cs fr q => by unfold Bx at x; rw [x] at q; injection q with q; injection q with _ q _; exact ht q))
theorem MK.keep {w w' : World} {B : Nat} {mp : Option Addr} {wd : Nat} {zs : List Int} (h : MK w B mp wd zs) (hk : ∀ g, mp = some ⟨g, 0, none⟩ → w'.heap[g]? = w.heap[g]?) (hs : w.heap.size ≤ w'.heap.size) : MK w' B mp wd zs := by
 rcases h with q | ⟨g, nk, e, hB, hn, hw, hK, R, hR⟩
 ·exact .inl q
 ·exact .inr ⟨g, nk, e, hB, hn, hw, hK.sameK (hk g e) hs, R, by rw [hk g e]; exact hR⟩
theorem MK.lt {w : World} {B : Nat} {mp : Option Addr} {wd : Nat} {zs : List Int} (h : MK w B mp wd zs) (g : Nat) (e : mp = some ⟨g, 0, none⟩) : g < w.heap.size ∧ B ≤ g ∧ ∃ R : Array Value, w.heap[g]? = some (.cells R 160 (0, 0)) := by
 rcases h with ⟨_, q⟩ | ⟨g', nk, e', hB, hn, hw, hK, R, hR⟩
 ·rw [q] at e; cases e
 ·rw [e'] at e; injection e with e; injection e with e; subst e
  exact ⟨hK.ciph.here, hB, R, hR⟩
theorem own_type {w : World} {B : Nat} {e : TypeId} {K : Nat} {v : Value} {n : Nat} {xs : List Value} (h : w.ownsRow B e K v n xs) {g : Nat} (hg : v.ownBlock = some g) : ∃ cur, w.heap[g]? = some (.cells cur e (0, 0)) := by
 rcases h.2 with ⟨rfl, _⟩ | ⟨g', cap, cur, rfl, _, hh, _⟩
 ·simp [Value.ownBlock] at hg
 ·have e : g' = g := by simpa [Value.ownBlock] using hg
  subst e
  exact ⟨cur, hh⟩
theorem type_ne {w : World} {a b : Nat} {s t : TypeId} {cs ds : Array Value} {f g : Nat × Nat} (h : w.heap[a]? = some (.cells cs s f)) (k : w.heap[b]? = some (.cells ds t g)) (hst : s ≠ t) : a ≠ b := by
 intro e; subst e; rw [h] at k; injection k with k; injection k with _ k _; exact hst k
theorem ShA.below {B : Nat} {w w' : World} {sh : Nat} {S : ByteArray} {st wd : Nat} {zs : List Int} {kv : Value} {mp : Option Addr} {ov : Value} (h : ShA B w sh S st wd zs kv mp ov) (b : Below w.heap.size w w') : ShA B w' sh S st wd zs kv mp ov :=
 ⟨h.le, h.box.below b, ownsRow_below h.key b, h.main.keep (fun g e => b.block g (h.main.lt g e).1) b.size, by obtain ⟨n, os, hn, ho⟩ := h.oth; exact ⟨n, os, hn, ownsRow_below ho b⟩⟩
/-- The row of schedules grew, then the shared part's sixth cell was written. -/
theorem ShA.sched {B : Nat} {w w1 : World} {sh : Nat} {S : ByteArray} {st wd : Nat} {zs : List Int} {kv : Value} {mp : Option Addr} {ov ov' : Value} {n : Nat} {os : List Value} (h : ShA B w sh S st wd zs kv mp ov) (hg : w.grownBy w1 ov.ownBlock) (ho : w1.ownsRow B 105 1 ov' n os) (hn : n ≤ 4) (hB : B ≤ w.heap.size) :
  Bx w1 sh 108 (shL S st kv wd mp ov) ∧ ShA B (w1.setCell ⟨sh, 5, none⟩ ov') sh S st wd zs kv mp ov' ∧ Fs B sh w (w1.setCell ⟨sh, 5, none⟩ ov') := by
 obtain ⟨n0, os0, _, ho0⟩ := h.oth
 have hne : ∀ (b : Nat) (t : TypeId) (cs : Array Value) (fr : Nat × Nat), w.heap[b]? = some (Obj.cells cs t fr) → t ≠ 105 → w1.heap[b]? = w.heap[b]? := fun b t cs fr hb ht => by
  refine hg.block b (Array.getElem?_eq_some_iff.1 hb).1 ?_
  intro e
  obtain ⟨cur, q⟩ := own_type ho0 e.symm
  exact type_ne q hb (fun e => ht e.symm) rfl
 have b1 : Bx w1 sh 108 (shL S st kv wd mp ov) := h.box.keep (hne _ 108 _ _ h.box (by decide))
 have hst : ∀ b, b ≠ sh → (w1.setCell ⟨sh, 5, none⟩ ov').heap[b]? = w1.heap[b]? := fun b hb => Below.heap_setCell w1 ⟨sh, 5, none⟩ ov' b (fun e => hb e)
 have b2 := b1.set 5 ov'
 refine ⟨b1, ⟨h.le, b2, ?_, ?_, n, os, hn, ?_⟩, ?_, ?_⟩
 ·refine ownsRow_keep h.key fun g q => ?_
  obtain ⟨cur, hc⟩ := own_type h.key q
  rw [hst g (type_ne hc h.box (by decide)), hne g 5 _ _ hc (by decide)]
 ·refine h.main.keep (fun g e => ?_) ?_
  ·obtain ⟨_, _, R, hR⟩ := h.main.lt g e
   rw [hst g (type_ne hR h.box (by decide)), hne g 160 _ _ hR (by decide)]
  ·have := hg.size; simpa using this
 ·refine ownsRow_keep ho fun g q => ?_
  obtain ⟨cur, hc⟩ := own_type ho q
  exact hst g (type_ne hc b1 (by decide))
 ·have q : Below B w w1 := (Below.refl _ _).grown hg hB (fun k hk => (ownsRow_lt ho0 hk).1)
  exact q.setCell h.le _
 ·intro b hb hn' ht
  rw [hst b hn']
  refine hg.block b hb ?_
  intro e
  obtain ⟨cur, q⟩ := own_type ho0 e.symm
  exact ht _ _ q
theorem Tryz.info105 : (Tryz.prog.info? 105).map (fun i => (i.zero, i.size, i.bytes)) = some (some (.pointer none), 1, 8) := by kernel_rfl
set_option maxHeartbeats 1600000 in
set_option maxRecDepth 100000 in
/-- shared.schedule. -/
theorem schedule_ok (B sh : Nat) (S : ByteArray) (st wd : Nat) (zs : List Int) (kv : Value) (mp : Option Addr) (ov : Value) (v : Value) (ys : List Int) (nk : Nat) (w : World) (h : ShA B w sh S st wd zs kv mp ov) (hB : B ≤ w.heap.size) (hfew : ∃ n os, n ≤ 3 ∧ w.ownsRow B 105 1 ov n os)
  (hnk : nk = 4 ∨ nk = 6 ∨ nk = 8) (hl : ys.length = 4 * nk) (hv : View w v ys) (hb : AllBytes ys) (hrc : RC w) (hpos : 3 < w.heap.size) :
  Calls Tryz.prog 144 #[.pointer (some ⟨sh, 0, none⟩), v] w fun e w' => Hid (∃ g ov', e = .returned (.pointer (some ⟨g, 0, none⟩)) ∧ w.heap.size ≤ g ∧ KeyAt w' g (nk + 6) (schedK nk (nat8 ys)) ∧ (∃ R : Array Value, w'.heap[g]? = some (.cells R 160 (0, 0))) ∧ ShA B w' sh S st wd zs kv mp ov' ∧ (∀ n os, w.ownsRow B 105 1 ov n os → ∃ os', w'.ownsRow B 105 1 ov' (n + 1) os') ∧ Fs B sh w w') := by
 have HN : Hid (Calls Tryz.prog 54 #[v] w fun e w' => Hid (∃ g, e = .returned (.tuple #[.pointer (some ⟨g, 0, none⟩), .int .i64 0]) ∧ w.heap.size ≤ g ∧ KeyAt w' g (nk + 6) (schedK nk (nat8 ys)) ∧ Below w.heap.size w w' ∧ ∃ R : Array Value, w'.heap[g]? = some (.cells R 160 (0, 0)))) := new_view v ys nk w hnk hl hv hb hrc hpos
 have HA : Hid (ShA B w sh S st wd zs kv mp ov) := h
 have HBB : Hid (B ≤ w.heap.size) := hB
 obtain ⟨n0, os0, hn0, ho0⟩ := hfew
 have HO0 : Hid (n0 ≤ 3 ∧ w.ownsRow B 105 1 ov n0 os0) := ⟨hn0, ho0⟩
 clear h hB hnk hl hv hb hrc hpos hn0 ho0
 obtain ⟨i0, hi0, hz0, hz1, hz2⟩ := info_parts Tryz.info105
 have HI0 : Hid (Tryz.prog.info? 105 = some i0 ∧ i0.zero = some (.pointer none) ∧ i0.size = 1 ∧ i0.bytes = 8) := ⟨hi0, hz0, hz1, hz2⟩
 clear hi0 hz0 hz1 hz2
 go_enter Tryz.func144, Tryz.ntmps144
 go_upto_region 2 with (go_at_call 54; refine HN.out.mono ?_; intro e1 w1 hh; obtain ⟨g, rfl, hg1, hK1, hb1, R1, hR1⟩ := hh.out; have HK1 : Hid (w.heap.size ≤ g ∧ KeyAt w1 g (nk + 6) (schedK nk (nat8 ys)) ∧ Below w.heap.size w w1 ∧ w1.heap[g]? = some (.cells R1 160 (0, 0))) := ⟨hg1, hK1, hb1, hR1⟩; clear hh hg1 hK1 hb1 hR1 HN)
 have HA1 : Hid (ShA B w1 sh S st wd zs kv mp ov) := HA.out.below HK1.out.2.2.1
 have HO1 : Hid (w1.ownsRow B 105 1 ov n0 os0) := ownsRow_below HO0.out.2 HK1.out.2.2.1
 have hov : (∃ x a c, ov = .slice x a c) := by
  rcases HO1.out.2 with ⟨rfl, _⟩ | ⟨g', cap, cur, rfl, _⟩
  ·exact ⟨_, _, _, rfl⟩
  ·exact ⟨_, _, _, rfl⟩
 obtain ⟨xa, xl, xc, rfl⟩ := hov
 have c5 : w1.cell? ⟨sh, 5, none⟩ = some (.slice xa xl xc) := HA1.out.box.cell 5 _ rfl
 have hlt : Hid (sh < w1.heap.size) := HA1.out.box.lt
 have HA2 : Hid (ShA B (w1.alloc (.cells #[.pointer (some ⟨g, 0, none⟩)] 105)) sh S st wd zs kv mp (.slice xa xl xc)) := HA1.out.below ((Below.refl _ _).alloc (Nat.le_refl _) _)
 go_wp2_with (first
  | (at_builtin; go_must (refine wpList_append_own_at _ rfl (.tmp 16) (.tmp 18) 106 rfl B 105 i0 (.pointer none) 1 8 Tryz.underlying106 HI0.out.1 HI0.out.2.1 HI0.out.2.2.1 HI0.out.2.2.2 rfl (by decide) _ n0 os0 rfl (HO1.out.alloc _) ⟨w1.heap.size, 0, none⟩ 1 1 [.pointer (some ⟨g, 0, none⟩)] rfl rfl ?_ ?_ ?_ ?_ ?_ ?_)))
 ·intro j u hj
  match j, hj with
  | 0, hj => simp at hj; subst hj; simp [Addr.add]
 ·intro u hu; simp at hu; subst hu; rfl
 ·have := HO0.out.1; unfold maxLen; omega
 ·have := HO0.out.1; omega
 ·have := HBB.out; have := HK1.out.2.2.1.size; simp; omega
 intro v2 w2 hown hgrow hnil hat
 obtain ⟨hbx, hsh, hfs⟩ := HA2.out.sched hgrow hown (by have := HO0.out.1; omega) (by have := HBB.out; have := HK1.out.2.2.1.size; simp; omega)
 have hv2 : (∃ x a c, v2 = .slice x a c) := by
  rcases hown.2 with ⟨rfl, _⟩ | ⟨g', cap, cur, rfl, _⟩
  ·exact ⟨_, _, _, rfl⟩
  ·exact ⟨_, _, _, rfl⟩
 obtain ⟨ya, yl, yc, rfl⟩ := hv2
 have HSH : Hid (ShA B (w2.setCell ⟨sh, 5, none⟩ (.slice ya yl yc)) sh S st wd zs kv mp (.slice ya yl yc)) := hsh
 have HFS : Hid (Fs B sh (w1.alloc (.cells #[.pointer (some ⟨g, 0, none⟩)] 105)) (w2.setCell ⟨sh, 5, none⟩ (.slice ya yl yc))) := hfs
 have d5 : w2.cell? ⟨sh, 5, none⟩ = some (.slice xa xl xc) := hbx.cell 5 _ rfl
 have f5 : w2.frozen? ⟨sh, 5, none⟩ = false := hbx.frozen 5
 have HOW : Hid (w2.ownsRow B 105 1 (.slice ya yl yc) (n0 + 1) (os0 ++ [.pointer (some ⟨g, 0, none⟩)]) ∧ w2.heap[sh]? = some (.cells (shL S st kv wd mp (.slice xa xl xc)).toArray 108 (0, 0))) := ⟨hown, hbx⟩
 clear hown hgrow hnil hat hbx hsh hfs c5
 go_wp2
 go_ret
 have hF : Fs B sh w (w2.setCell ⟨sh, 5, none⟩ (.slice ya yl yc)) := (Fs.of_below HK1.out.2.2.1 HBB.out).trans ((Fs.of_below ((Below.refl _ _).alloc (Nat.le_refl _) _) (Nat.le_trans HBB.out HK1.out.2.2.1.size)).trans HFS.out)
 have hgk : (w2.setCell ⟨sh, 5, none⟩ (.slice ya yl yc)).heap[g]? = w1.heap[g]? := by
  have l : g < w1.heap.size := HK1.out.2.1.ciph.here
  have e : (w1.alloc (.cells #[.pointer (some ⟨g, 0, none⟩)] 105)).heap[g]? = w1.heap[g]? := Below.heap_alloc _ _ _ l
  rw [HFS.out.blk g (by simp; omega) (type_ne HK1.out.2.2.2 HA1.out.box (by decide)) (by rw [e, HK1.out.2.2.2]; intro cs fr q; injection q with q; injection q with _ q _; exact absurd q (by decide)), e]
 refine ⟨g, .slice ya yl yc, rfl, HK1.out.1, HK1.out.2.1.sameK hgk (Nat.le_trans (by simp) HFS.out.bel.size), ⟨R1, by rw [hgk]; exact HK1.out.2.2.2⟩, HSH.out, fun n os ho => ?_, hF⟩
 have e : n = n0 := by
  have q1 := ho.2
  have q2 := HO0.out.2.2
  rcases q1 with ⟨q, r⟩ | ⟨_, _, _, q, _⟩ <;> rcases q2 with ⟨q', r'⟩ | ⟨_, _, _, q', _⟩
  ·omega
  ·rw [q] at q'; cases q'
  ·rw [q] at q'; cases q'
  ·rw [q] at q'; injection q' with _ q' _
 subst e
 exact ⟨_, ownsRow_keep HOW.out.1 fun b q => by
  obtain ⟨cur, hc⟩ := own_type HOW.out.1 q
  exact Below.heap_setCell w2 ⟨sh, 5, none⟩ _ b (fun e => type_ne HOW.out.2 hc (by decide) e.symm)⟩
end Go.Proofs.YtcnikfikpnnblaaGreatDoor
namespace Go.Proofs.YtcnikfikpnnblaaGreatDoor.Dg
open Go.RowKit
set_option linter.unusedVariables false
set_option linter.unusedSimpArgs false

theorem padF_congr (bs fed : Nat) {half half' : Nat → Int} (h : ∀ i, i < fed % bs → half i = half' i) : padF bs half fed = padF bs half' fed := by
 funext i
 unfold padF
 by_cases hi : i < fed % bs
 ·rw [if_pos hi, if_pos hi, h i hi]
 ·rw [if_neg hi, if_neg hi]
def wsz (wd : Bool) : Nat := if wd then 8 else 4
/-- The words behind all that was fed, and the padding. -/
def endW (wd : Bool) (s0 : Eight) (f0 : Nat) (zs : List Int) : Eight :=
 TT wd (padF (bsz wd) (fun i => fnz zs (bsz wd * (zs.length / bsz wd) + i)) (f0 + zs.length)) (TT wd (fnz zs) s0 (zs.length / bsz wd)) (padN (bsz wd) (f0 + zs.length))
/-- taken.finish. -/
theorem finish_any (wd : Bool) (g o : Nat) (h : Int) (s : Eight) (half : Nat → Int) (fed : Nat) (w : World) (hblk : blockOf h = bsz wd) (HK : TK w g o h wd s half fed) (hfed : fed ≤ 1152921504606846976) (hT : Tables w) (hg : 9 ≤ g) :
  Calls Tryz.prog 238 #[.pointer (some ⟨g, o, none⟩)] w fun e w' => e = .returned (.agg (spellCells (wsz wd) (TT wd (padF (bsz wd) half fed) s (padN (bsz wd) fed))).toArray) ∧ Touch w w' g o 139 ∧ ∃ half', TK w' g o h wd (TT wd (padF (bsz wd) half fed) s (padN (bsz wd) fed)) half' fed := by
 cases wd
 ·have hm : fed % 64 < 64 := Nat.mod_lt _ (by omega)
  by_cases hu : fed % 64 + 1 ≤ 56
  ·exact finish64_A g o h s half fed (fed % 64) (fed % 64 + 1) w hblk HK hfed hT hg rfl rfl hu
  ·exact finish64_B g o h s half fed (fed % 64) (fed % 64 + 1) w hblk HK hfed hT hg rfl rfl (by omega) (by omega)
 ·have hm : fed % 128 < 128 := Nat.mod_lt _ (by omega)
  by_cases hu : fed % 128 + 1 ≤ 112
  ·exact finish128_A g o h s half fed (fed % 128) (fed % 128 + 1) w hblk HK hfed hT hg rfl rfl hu
  ·by_cases hu2 : fed % 128 = 127
   ·exact finish128_C g o h s half fed w hblk HK hfed hT hg hu2
   ·exact finish128_B g o h s half fed (fed % 128) (fed % 128 + 1) w hblk HK hfed hT hg rfl rfl (by omega) (by omega)
theorem finish_rep (wd : Bool) (g o : Nat) (h : Int) (s0 : Eight) (f0 : Nat) (zs : List Int) (w : World) (hblk : blockOf h = bsz wd) (hr : Rep w g o h wd s0 f0 zs) (hfed : f0 + zs.length ≤ 1152921504606846976) (hT : Tables w) (hg : 9 ≤ g) :
  Calls Tryz.prog 238 #[.pointer (some ⟨g, o, none⟩)] w fun e w' => e = .returned (.agg (spellCells (wsz wd) (endW wd s0 f0 zs)).toArray) ∧ Touch w w' g o 139 ∧ ∃ half', TK w' g o h wd (endW wd s0 f0 zs) half' (f0 + zs.length) := by
 obtain ⟨half, hk, hh, hf⟩ := hr
 have hp : padF (bsz wd) half (f0 + zs.length) = padF (bsz wd) (fun i => fnz zs (bsz wd * (zs.length / bsz wd) + i)) (f0 + zs.length) := padF_congr _ _ (fun i hi => by
  obtain ⟨c, hc⟩ : ∃ c, f0 = bsz wd * c := ⟨f0 / bsz wd, by have := Nat.div_add_mod f0 (bsz wd); omega⟩
  rw [hc, Nat.mul_add_mod] at hi
  exact hh i hi)
 have := finish_any wd g o h _ half _ w hblk hk hfed hT hg
 rw [hp] at this
 exact this
end Go.Proofs.YtcnikfikpnnblaaGreatDoor.Dg
namespace Go.Proofs.YtcnikfikpnnblaaGreatDoor
open Go.RowKit
set_option linter.unusedVariables false
/-- The reference's key while its round keys are laid one behind the other. -/
structure RkI (w : World) (g n gb cb gr c m : Nat) (K : Nat → Nat) (v : World) : Prop where
 t : RkT w g 256 v
 b : v.cell? ⟨g, 0, none⟩ = some (.slice (some ⟨gb, 0, none⟩) n cb)
 r : v.cell? ⟨g, 1, none⟩ = some (.slice (some ⟨gr, 0, none⟩) m c)
 o : v.ownsRow (g + 1) 5 1 (.slice (some ⟨gr, 0, none⟩) m c) m (rbL K m)
theorem RkI.gr_lt {w v : World} {g n gb cb gr c m : Nat} {K : Nat → Nat} (h : RkI w g n gb cb gr c m K v) : g < gr ∧ gr < v.heap.size := by
 have := h.o.lt gr rfl
 exact ⟨by omega, this.2⟩
theorem RkI.cell {w v : World} {g n gb cb gr c m : Nat} {K : Nat → Nat} (h : RkI w g n gb cb gr c m K v) (j : Nat) (hj : j < m) : v.cell? ⟨gr, j, none⟩ = some (.int .u8 (rb K j : Nat)) := by
 rw [h.o.cellAt j (by omega)]
 exact rbL_at K m j hj
theorem RkI.below {w v v' : World} {g n gb cb gr c m : Nat} {K : Nat → Nat} (h : RkI w g n gb cb gr c m K v) (hb : Below v.heap.size v v') : RkI w g n gb cb gr c m K v' :=
 ⟨h.t.keep (hb.block g h.t.lt) (h.t.old.trans (hb.mono (Nat.le_of_lt h.t.lt))) hb.size, (hb.cell (p := ⟨g, 0, none⟩) h.t.lt).trans h.b, (hb.cell (p := ⟨g, 1, none⟩) h.t.lt).trans h.r,
  h.o.kept (row := none) ⟨hb.os, hb.tape, hb.output, hb.size, fun k hk _ => hb.block k hk⟩ (by simp [Value.ownBlock])⟩
theorem RkI.app {w v v1 v2 : World} {g n gb cb gr c m g' c' : Nat} {K : Nat → Nat} {x : Value} (h : RkI w g n gb cb gr c m K v) (hb : Below v.heap.size v v1) (hx : x = .int .u8 (rb K m : Nat)) (ho : v2.ownsRow (g + 1) 5 1 (.slice (some ⟨g', 0, none⟩) (m + 1) c') (m + 1) (rbL K m ++ [x])) (hg : v1.grownBy v2 (some gr)) :
  RkI w g n gb cb g' c' (m + 1) K (v2.setCell ⟨g, 1, none⟩ (.slice (some ⟨g', 0, none⟩) (m + 1) c')) := by
 have h1 := h.below hb
 have hne : some g ≠ some gr := by have := h.gr_lt; simp; omega
 have hgb := hg.block g h1.t.lt hne
 have ht : RkT w g 256 v2 := h1.t.keep hgb (h1.t.old.grown hg (Nat.le_of_lt h1.t.lt) (by intro q hq; have := h.gr_lt; simp at hq; omega)) hg.size
 refine ⟨ht.set 1 _ (by omega), (cell_other _ _ _ _ _ (by omega)).trans ((World.cell?_of_block (a := ⟨g, 0, none⟩) hgb).trans h1.b), set_same _ ht.room (by omega), own_set ?_ (Nat.lt_succ_self g)⟩
 rw [rbL_succ, ← hx]
 exact ho
/-- Four bytes at tb. -/
structure Tr (v : World) (tb : Nat) (f : Nat → Nat) : Prop where
 lt : tb < v.heap.size
 c : ∀ j, j < 4 → v.cell? ⟨tb, j, none⟩ = some (.int .u8 (f j : Nat))
theorem Tr.below {v v' : World} {tb : Nat} {f : Nat → Nat} (h : Tr v tb f) (hb : Below v.heap.size v v') : Tr v' tb f :=
 ⟨Nat.lt_of_lt_of_le h.lt hb.size, fun j hj => (hb.cell (p := ⟨tb, j, none⟩) h.lt).trans (h.c j hj)⟩
theorem Tr.new (v : World) (a b c d : Nat) : Tr (v.alloc (.cells #[.int .u8 (a : Nat), .int .u8 (b : Nat), .int .u8 (c : Nat), .int .u8 (d : Nat)] 5)) v.heap.size (fun j => if j = 0 then a else if j = 1 then b else if j = 2 then c else d) := by
 refine ⟨by simp, fun j hj => ?_⟩
 rw [World.cell?_alloc_at _ 5 _ _ rfl]
 have hm : j = 0 ∨ j = 1 ∨ j = 2 ∨ j = 3 := by omega
 rcases hm with rfl | rfl | rfl | rfl <;> rfl
theorem Tr.congr {v : World} {tb : Nat} {f f' : Nat → Nat} (h : Tr v tb f) (e : ∀ j, j < 4 → f j = f' j) : Tr v tb f' := ⟨h.lt, fun j hj => by rw [← e j hj]; exact h.c j hj⟩
theorem Tr.app {v v1 v2 : World} {tb gr g : Nat} {f : Nat → Nat} {x : Value} (h : Tr v tb f) (hb : Below v.heap.size v v1) (hg : v1.grownBy v2 (some gr)) (hne : gr ≠ tb) (hg2 : g ≠ tb) : Tr (v2.setCell ⟨g, 1, none⟩ x) tb f := by
 have h1 := h.below hb
 refine ⟨by have := Nat.lt_of_lt_of_le h1.lt hg.size; simpa [World.setCell] using this, fun j hj => ?_⟩
 rw [World.cell?_setCell_far _ _ _ _ (by exact hg2)]
 exact (World.cell?_of_block (a := ⟨tb, j, none⟩) (hg.block tb h1.lt (by simp; omega))).trans (h1.c j hj)
end Go.Proofs.YtcnikfikpnnblaaGreatDoor
