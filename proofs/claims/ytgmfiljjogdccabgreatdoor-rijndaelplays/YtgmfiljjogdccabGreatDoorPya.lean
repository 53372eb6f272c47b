import Derived.Test.YtgmfiljjogdccabGreatDoorPxf
import Derived.Test.YtgmfiljjogdccabGreatDoorPxc
import Derived.Test.YtgmfiljjogdccabGreatDoorPart35
import Derived.Test.YtgmfiljjogdccabGreatDoorPart33
import Derived.Test.YtgmfiljjogdccabGreatDoorPart27
namespace Go.Proofs.YtgmfiljjogdccabGreatDoor
open Go.RowKit Go.RwLone Go.Conc.Locks
set_option linter.unusedVariables false
/-- Only blocks of a kind, and new ones, changed. -/
structure FrP (w v : World) (S : Nat → Prop) : Prop where
 os : v.os = w.os
 tape : v.tape = w.tape
 output : v.output = w.output
 size : w.heap.size ≤ v.heap.size
 block : ∀ b, b < w.heap.size → ¬ S b → v.heap[b]? = w.heap[b]?
theorem FrP.refl (w : World) (S : Nat → Prop) : FrP w w S := ⟨rfl, rfl, rfl, Nat.le_refl _, fun _ _ _ => rfl⟩
theorem FrP.trans {w u v : World} {S : Nat → Prop} (h : FrP w u S) (k : FrP u v S) : FrP w v S := ⟨k.os.trans h.os, k.tape.trans h.tape, k.output.trans h.output, Nat.le_trans h.size k.size, fun b hb hn => (k.block b (Nat.lt_of_lt_of_le hb h.size) hn).trans (h.block b hb hn)⟩
theorem FrP.mono {w v : World} {S T : Nat → Prop} (h : FrP w v S) (hl : ∀ b, S b → T b) : FrP w v T := ⟨h.os, h.tape, h.output, h.size, fun b hb hn => h.block b hb (fun e => hn (hl b e))⟩
theorem Fr.toP {w v : World} {l : List Nat} {S : Nat → Prop} (h : Fr w v l) (hl : ∀ b, b ∈ l → S b) : FrP w v S := ⟨h.os, h.tape, h.output, h.size, fun b hb hn => h.block b hb (fun e => hn (hl b e))⟩
theorem below_frp {w v : World} (h : Below w.heap.size w v) (S : Nat → Prop) : FrP w v S := ⟨h.os, h.tape, h.output, h.size, fun b hb _ => h.block b hb⟩
theorem FrP.toBelow {w v : World} {S : Nat → Prop} (h : FrP w v S) {B : Nat} (hl : ∀ b, S b → B ≤ b) (hB : B ≤ w.heap.size) : Below B w v := ⟨h.os, h.tape, h.output, h.size, fun q hq => h.block q (by omega) (fun e => by have := hl q e; omega)⟩
/-- Bytes as numbers. -/
def zl (m : Nat) (F : Nat → Nat) : List Int := (List.range m).map fun i => ((F i : Nat) : Int)
theorem zl_len (m : Nat) (F : Nat → Nat) : (zl m F).length = m := by simp [zl]
theorem zl_at (m : Nat) (F : Nat → Nat) (i : Nat) (h : i < m) : (zl m F).getD i 0 = ((F i : Nat) : Int) := by simp [zl, List.getD, h]
theorem view_ab {u : World} {s m c : Nat} {F : Nat → Nat} (h : ∀ i, i < m → u.cell? ⟨s, i, none⟩ = some (.int .u8 (F i : Nat))) (hc : m ≤ c) (hx : c ≤ maxLen) : View u (.slice (some ⟨s, 0, none⟩) m c) (zl m F) :=
 ⟨some ⟨s, 0, none⟩, c, by rw [zl_len], by rw [zl_len]; exact hc, hx, fun e => (by cases e), .inr ⟨s, 0, rfl, fun i hi => by rw [zl_len] at hi; rw [Nat.zero_add, zl_at m F i hi]; exact h i hi⟩⟩
theorem view_nil (w : World) : View w (.slice none 0 0) [] := ⟨none, 0, rfl, Nat.le_refl _, by simp [maxLen], fun _ => rfl, .inl rfl⟩
theorem view_own {w : World} {B n : Nat} {v : Value} {zs : List Int} (h : w.ownsRow B 5 1 v n (cellsU8 zs)) (hn : zs.length = n) : View w v zs := by
 rcases h.2 with ⟨rfl, h0⟩ | ⟨g, c, cur, rfl, hb, hg, hc, hm, _⟩
 ·obtain rfl : zs = [] := List.eq_nil_of_length_eq_zero (by omega)
  exact view_nil w
 ·refine ⟨some ⟨g, 0, none⟩, c, by rw [hn], by omega, hm, fun e => (by cases e), .inr ⟨g, 0, rfl, fun i hi => ?_⟩⟩
  rw [Nat.zero_add, h.cellAt i (by omega), cellsU8, List.getElem?_map, List.getD_eq_getElem?_getD, List.getElem?_eq_getElem hi]
  rfl
theorem abL_zl (m : Nat) (F : Nat → Nat) : abL m F = cellsU8 (zl m F) := by simp [abL, zl, cellsU8]
/-- A key, on both sides. -/
structure Kx where
 (g g2 gr nk : Nat)
 K : Nat → Nat
/-- A stream, on both sides. -/
structure Sx where
 (t rt : Nat)
 s0 : W4
 (np nr : Nat)
structure KOk (k : Kx) : Prop where
 nk : k.nk = 4 ∨ k.nk = 6 ∨ k.nk = 8
 K : ∀ i, k.K i < 4294967296
 g2 : k.g < k.g2
 gr : k.g2 < k.gr
structure PK (w : World) (k : Kx) (gone : Bool) : Prop where
 free : Free w k.g
 on : gone = false → KeyAt w k.g (k.nk + 6) k.K
 off : gone = true → GoneAt w k.g
structure RGone (w : World) (g : Nat) : Prop where
 lt : g < w.heap.size
 wiped : w.cell? ⟨g, 4610, none⟩ = some (.bool true)
 room : w.there g 0 4611
structure RK (w : World) (k : Kx) (gone : Bool) : Prop where
 on : gone = false → RefAt w k.g2 k.gr k.nk k.K
 off : gone = true → RGone w k.g2
theorem PK.lt {w : World} {k : Kx} {gone : Bool} (h : PK w k gone) : k.g < w.heap.size := by
 cases gone with
 | false => exact (h.on rfl).ciph.here
 | true => exact (h.off rfl).lt
theorem RK.lt {w : World} {k : Kx} {gone : Bool} (h : RK w k gone) : k.g2 < w.heap.size := by
 cases gone with
 | false => exact (h.on rfl).lt
 | true => exact (h.off rfl).lt
theorem PK.same {w v : World} {k : Kx} {gone : Bool} (h : PK w k gone) (e : v.heap[k.g]? = w.heap[k.g]?) (hs : w.heap.size ≤ v.heap.size) : PK v k gone :=
 ⟨h.free.same e, fun q => (h.on q).sameK e hs, fun q => (h.off q).same e hs⟩
theorem RGone.same {w v : World} {g : Nat} (h : RGone w g) (e : v.heap[g]? = w.heap[g]?) (hs : w.heap.size ≤ v.heap.size) : RGone v g :=
 ⟨Nat.lt_of_lt_of_le h.lt hs, (World.cell?_of_block (a := ⟨g, 4610, none⟩) e).trans h.wiped, there_sameG h.room e⟩
theorem RK.same {w v : World} {k : Kx} {gone : Bool} (h : RK w k gone) (e : v.heap[k.g2]? = w.heap[k.g2]?) (e2 : k.gr < w.heap.size → v.heap[k.gr]? = w.heap[k.gr]?) (hs : w.heap.size ≤ v.heap.size) : RK v k gone :=
 ⟨fun q => (h.on q).keep e (e2 (h.on q).ltr) hs, fun q => (h.off q).same e hs⟩
def prs (an : Nat) (sx : Nat → Sx) : List Value := (List.range an).flatMap fun i => [.pointer (some ⟨(sx i).t, 0, none⟩), .pointer (some ⟨(sx i).rt, 0, none⟩)]
theorem prs_congr {an : Nat} {sx sx' : Nat → Sx} (h : ∀ i, i < an → (sx' i).t = (sx i).t ∧ (sx' i).rt = (sx i).rt) : prs an sx' = prs an sx := by
 unfold prs
 rw [List.flatMap_def, List.flatMap_def]
 congr 1
 refine List.map_congr_left (fun i hi => ?_)
 rw [(h i (by simpa using hi)).1, (h i (by simpa using hi)).2]
/-- What is written. -/
def BW (m : Nat) (kx : Option Kx) (an : Nat) (sx : Nat → Sx) (av : Value) (b : Nat) : Prop := b = m ∨ (∃ k, kx = some k ∧ (b = k.g ∨ b = k.g2)) ∨ (∃ i, i < an ∧ (b = (sx i).t ∨ b = (sx i).rt)) ∨ b ∈ vblk av
/-- The book. -/
structure BS (w : World) (B m : Nat) (kx : Option Kx) (gP gR : Bool) (an : Nat) (sx : Nat → Sx) (av lv : Value) (lz : List Int) : Prop where
 ck : w.cell? ⟨m, 0, none⟩ = some (gq (kx.map Kx.g))
 cr : w.cell? ⟨m, 1, none⟩ = some (gq (kx.map Kx.g2))
 ca : w.cell? ⟨m, 2, none⟩ = some av
 cl : w.cell? ⟨m, 3, none⟩ = some lv
 room : w.there m 0 4
 kk : ∀ k, kx = some k → KOk k ∧ PK w k gP ∧ RK w k gR ∧ B ≤ k.g ∧ k.gr < m
 st : ∀ i, i < an → ∃ k, kx = some k ∧ StreamAt w (sx i).t k.g (sx i).s0 (sx i).np ∧ StreamAt w (sx i).rt k.g2 (sx i).s0 (sx i).nr
 ar : w.ownsRow B 73 2 av an (prs an sx)
 lw : View w lv lz
 lb : AllBytes lz
 ll : lz.length ≤ 4104
 ord : B ≤ m ∧ (∀ i, i < an → m < (sx i).t ∧ (sx i).t < (sx i).rt) ∧ ∀ i j, i < j → j < an → (sx i).rt < (sx j).t
 aa : ∀ b, b ∈ vblk av → b ≠ m ∧ (∀ k, kx = some k → b ≠ k.g ∧ b ≠ k.g2 ∧ b ≠ k.gr) ∧ ∀ i, i < an → b ≠ (sx i).t ∧ b ≠ (sx i).rt
 la : lz ≠ [] → ∀ b, b ∈ vblk lv → ¬ BW m kx an sx av b
variable {w v : World} {B m : Nat} {kx : Option Kx} {gP gR : Bool} {an : Nat} {sx : Nat → Sx} {av lv : Value} {lz : List Int}
theorem BS.mlt (h : BS w B m kx gP gR an sx av lv lz) : m < w.heap.size := World.block_lt_of_cell? w _ h.ck
theorem BS.bw (h : BS w B m kx gP gR an sx av lv lz) (b : Nat) (hb : BW m kx an sx av b) : B ≤ b ∧ b < w.heap.size := by
 have hm := h.mlt
 have ho := h.ord
 rcases hb with rfl | ⟨k, e, hb⟩ | ⟨i, hi, hb⟩ | hb
 ·exact ⟨ho.1, hm⟩
 ·obtain ⟨q1, q2, q3, q4, q5⟩ := h.kk k e
  have := q1.g2
  rcases hb with rfl | rfl
  ·exact ⟨q4, q2.lt⟩
  ·exact ⟨by omega, q3.lt⟩
 ·obtain ⟨k, e, q1, q2⟩ := h.st i hi
  have := ho.2.1 i hi
  rcases hb with rfl | rfl
  ·exact ⟨by omega, q1.here⟩
  ·exact ⟨by omega, q2.here⟩
 ·exact owns_blks h.ar b hb
theorem BS.keep (h : BS w B m kx gP gR an sx av lv lz) (hb : ∀ b, b < w.heap.size → v.heap[b]? = w.heap[b]?) (hs : w.heap.size ≤ v.heap.size) : BS v B m kx gP gR an sx av lv lz := by
 have hc : ∀ j, v.cell? ⟨m, j, none⟩ = w.cell? ⟨m, j, none⟩ := fun j => World.cell?_of_block (a := ⟨m, j, none⟩) (hb m h.mlt)
 refine ⟨(hc _).trans h.ck, (hc _).trans h.cr, (hc _).trans h.ca, (hc _).trans h.cl, there_sameG h.room (hb m h.mlt), fun k e => ?_, fun i hi => ?_, ?_, h.lw.kept hb, h.lb, h.ll, h.ord, h.aa, h.la⟩
 ·obtain ⟨q1, q2, q3, q4, q5⟩ := h.kk k e
  exact ⟨q1, q2.same (hb _ q2.lt) hs, q3.same (hb _ q3.lt) (fun q => hb _ q) hs, q4, q5⟩
 ·obtain ⟨k, e, q1, q2⟩ := h.st i hi
  exact ⟨k, e, q1.sameG (hb _ q1.here) hs, q2.sameG (hb _ q2.here) hs⟩
 ·exact owns_same h.ar (fun b q => hb b (owns_blks h.ar b q).2)
theorem BS.below (h : BS w B m kx gP gR an sx av lv lz) (hb : Below w.heap.size w v) : BS v B m kx gP gR an sx av lv lz := h.keep hb.block hb.size
/-- Keys and streams are others. -/
theorem BS.chg {gP' gR' : Bool} {sx' : Nat → Sx} {l : List Nat} (h : BS w B m kx gP gR an sx av lv lz) (f : Fr w v l) (hl : ∀ b, b ∈ l → (∃ k, kx = some k ∧ (b = k.g ∨ b = k.g2)) ∨ ∃ i, i < an ∧ (b = (sx i).t ∨ b = (sx i).rt))
  (hk : ∀ k, kx = some k → PK v k gP' ∧ RK v k gR') (hst : ∀ i, i < an → ∃ k, kx = some k ∧ StreamAt v (sx i).t k.g (sx' i).s0 (sx' i).np ∧ StreamAt v (sx i).rt k.g2 (sx' i).s0 (sx' i).nr) (hsame : ∀ i, (sx' i).t = (sx i).t ∧ (sx' i).rt = (sx i).rt) : BS v B m kx gP' gR' an sx' av lv lz := by
 have ho := h.ord
 have hm : m ∉ l := fun q => by
  rcases hl m q with ⟨k, e, q⟩ | ⟨i, hi, q⟩
  ·obtain ⟨q1, q2, q3, q4, q5⟩ := h.kk k e
   have := q1.g2; have := q1.gr
   omega
  ·have := ho.2.1 i hi; omega
 have hmb : v.heap[m]? = w.heap[m]? := f.block m h.mlt hm
 have hc : ∀ j, v.cell? ⟨m, j, none⟩ = w.cell? ⟨m, j, none⟩ := fun j => World.cell?_of_block (a := ⟨m, j, none⟩) hmb
 have hbw : ∀ b, BW m kx an sx' av b → BW m kx an sx av b := fun b q => by
  rcases q with q | q | ⟨i, hi, q⟩ | q
  ·exact .inl q
  ·exact .inr (.inl q)
  ·rw [(hsame i).1, (hsame i).2] at q; exact .inr (.inr (.inl ⟨i, hi, q⟩))
  ·exact .inr (.inr (.inr q))
 have hin : ∀ b, b ∈ l → BW m kx an sx av b := fun b q => by
  rcases hl b q with q | q
  ·exact .inr (.inl q)
  ·exact .inr (.inr (.inl q))
 refine ⟨(hc _).trans h.ck, (hc _).trans h.cr, (hc _).trans h.ca, (hc _).trans h.cl, there_sameG h.room hmb, fun k e => ?_, fun i hi => ?_, ?_, ?_, h.lb, h.ll, ?_, ?_, fun e b hb q => h.la e b hb (hbw b q)⟩
 ·obtain ⟨q1, q2, q3, q4, q5⟩ := h.kk k e
  exact ⟨q1, (hk k e).1, (hk k e).2, q4, q5⟩
 ·rw [(hsame i).1, (hsame i).2]; exact hst i hi
 ·rw [prs_congr (fun i _ => hsame i)]
  refine owns_same h.ar (fun b q => f.block b (owns_blks h.ar b q).2 (fun x => ?_))
  obtain ⟨a1, a2, a3⟩ := h.aa b q
  rcases hl b x with ⟨k, e, y⟩ | ⟨i, hi, y⟩
  ·have := a2 k e; omega
  ·have := a3 i hi; omega
 ·exact view_keepP h.lw (fun e b q => f.block b (view_blks h.lw e b q) (fun x => h.la e b q (hin b x)))
 ·refine ⟨ho.1, fun i hi => ?_, fun i j hij hj => ?_⟩
  ·rw [(hsame i).1, (hsame i).2]; exact ho.2.1 i hi
  ·rw [(hsame i).2, (hsame j).1]; exact ho.2.2 i j hij hj
 ·intro b hb
  obtain ⟨a1, a2, a3⟩ := h.aa b hb
  exact ⟨a1, a2, fun i hi => by rw [(hsame i).1, (hsame i).2]; exact a3 i hi⟩
/-- The program's key alone was touched. -/
theorem BS.key {gP' : Bool} {l : List Nat} (h : BS w B m kx gP gR an sx av lv lz) (f : Fr w v l) (hl : ∀ b, b ∈ l → ∃ k, kx = some k ∧ b = k.g) (hk : ∀ k, kx = some k → PK v k gP') : BS v B m kx gP' gR an sx av lv lz := by
 refine h.chg f (fun b q => .inl ?_) (fun k e => ⟨hk k e, ?_⟩) (fun i hi => ?_) (fun i => ⟨rfl, rfl⟩)
 ·obtain ⟨k, e, q⟩ := hl b q; exact ⟨k, e, .inl q⟩
 ·obtain ⟨q1, q2, q3, q4, q5⟩ := h.kk k e
  have := q1.g2; have := q1.gr
  refine q3.same (f.block _ q3.lt (fun x => ?_)) (fun y => f.block _ y (fun x => ?_)) f.size
  ·obtain ⟨k', e', q⟩ := hl _ x; rw [e] at e'; obtain rfl := Option.some.inj e'; omega
  ·obtain ⟨k', e', q⟩ := hl _ x; rw [e] at e'; obtain rfl := Option.some.inj e'; omega
 ·obtain ⟨k, e, q1, q2⟩ := h.st i hi
  obtain ⟨r1, r2, r3, r4, r5⟩ := h.kk k e
  have := r1.g2; have := r1.gr; have := h.ord.2.1 i hi
  refine ⟨k, e, q1.sameG (f.block _ q1.here (fun x => ?_)) f.size, q2.sameG (f.block _ q2.here (fun x => ?_)) f.size⟩
  ·obtain ⟨k', e', q⟩ := hl _ x; rw [e] at e'; obtain rfl := Option.some.inj e'; omega
  ·obtain ⟨k', e', q⟩ := hl _ x; rw [e] at e'; obtain rfl := Option.some.inj e'; omega
def updP (sx : Nat → Sx) (i n : Nat) (j : Nat) : Sx := if j = i then ⟨(sx i).t, (sx i).rt, (sx i).s0, n, (sx i).nr⟩ else sx j
def updR (sx : Nat → Sx) (i n : Nat) (j : Nat) : Sx := if j = i then ⟨(sx i).t, (sx i).rt, (sx i).s0, (sx i).np, n⟩ else sx j
theorem updP_id (sx : Nat → Sx) (i n j : Nat) : (updP sx i n j).t = (sx j).t ∧ (updP sx i n j).rt = (sx j).rt := by
 unfold updP; split
 ·rename_i e; subst e; exact ⟨rfl, rfl⟩
 ·exact ⟨rfl, rfl⟩
theorem updR_id (sx : Nat → Sx) (i n j : Nat) : (updR sx i n j).t = (sx j).t ∧ (updR sx i n j).rt = (sx j).rt := by
 unfold updR; split
 ·rename_i e; subst e; exact ⟨rfl, rfl⟩
 ·exact ⟨rfl, rfl⟩
/-- The program's key, and its stream i. -/
theorem BS.pst {l : List Nat} (h : BS w B m kx gP gR an sx av lv lz) {k : Kx} (e : kx = some k) (i n : Nat) (hi : i < an) (f : Fr w v l) (hl : ∀ b, b ∈ l → b = k.g ∨ b = (sx i).t) (hk : PK v k gP) (hs : StreamAt v (sx i).t k.g (sx i).s0 n) : BS v B m kx gP gR an (updP sx i n) av lv lz := by
 obtain ⟨r1, r2, r3, r4, r5⟩ := h.kk k e
 have hg := r1.g2
 have hgr := r1.gr
 have ho := h.ord
 have oi := ho.2.1 i hi
 refine h.chg f (fun b q => ?_) (fun k' e' => ?_) (fun j hj => ?_) (fun j => updP_id sx i n j)
 ·rcases hl b q with q | q
  ·exact .inl ⟨k, e, .inl q⟩
  ·exact .inr ⟨i, hi, .inl q⟩
 ·rw [e] at e'
  obtain rfl := Option.some.inj e'
  refine ⟨hk, r3.same (f.block _ r3.lt (fun x => ?_)) (fun y => f.block _ y (fun x => ?_)) f.size⟩
  ·rcases hl _ x with q | q <;> omega
  ·rcases hl _ x with q | q <;> omega
 ·obtain ⟨k', e', q1, q2⟩ := h.st j hj
  rw [e] at e'
  obtain rfl := Option.some.inj e'
  have oj := ho.2.1 j hj
  refine ⟨k, e, ?_, ?_⟩
  ·unfold updP
   by_cases q : j = i
   ·subst q; rw [if_pos rfl]; exact hs
   ·rw [if_neg q]
    refine q1.sameG (f.block _ q1.here (fun x => ?_)) f.size
    have hd : (sx j).rt < (sx i).t ∨ (sx i).rt < (sx j).t := by
     rcases Nat.lt_or_gt_of_ne q with q | q
     ·exact .inl (ho.2.2 j i q hi)
     ·exact .inr (ho.2.2 i j q hj)
    rcases hl _ x with q | q <;> omega
  ·have e2 : (updP sx i n j).s0 = (sx j).s0 ∧ (updP sx i n j).nr = (sx j).nr := by
    unfold updP; split
    ·rename_i e; subst e; exact ⟨rfl, rfl⟩
    ·exact ⟨rfl, rfl⟩
   rw [e2.1, e2.2]
   refine q2.sameG (f.block _ q2.here (fun x => ?_)) f.size
   have hd : j = i ∨ (sx j).rt < (sx i).t ∨ (sx i).rt < (sx j).t := by
    by_cases q : j = i
    ·exact .inl q
    ·rcases Nat.lt_or_gt_of_ne q with q | q
     ·exact .inr (.inl (ho.2.2 j i q hi))
     ·exact .inr (.inr (ho.2.2 i j q hj))
   rcases hl _ x with q | q
   ·omega
   ·rcases hd with rfl | hd | hd <;> omega
/-- The document's stream i. -/
theorem BS.rst {l : List Nat} (h : BS w B m kx gP gR an sx av lv lz) {k : Kx} (e : kx = some k) (i n : Nat) (hi : i < an) (f : Fr w v l) (hl : ∀ b, b ∈ l → b = (sx i).rt) (hs : StreamAt v (sx i).rt k.g2 (sx i).s0 n) : BS v B m kx gP gR an (updR sx i n) av lv lz := by
 obtain ⟨r1, r2, r3, r4, r5⟩ := h.kk k e
 have hg := r1.g2
 have hgr := r1.gr
 have ho := h.ord
 have oi := ho.2.1 i hi
 refine h.chg f (fun b q => .inr ⟨i, hi, .inr (hl b q)⟩) (fun k' e' => ?_) (fun j hj => ?_) (fun j => updR_id sx i n j)
 ·rw [e] at e'
  obtain rfl := Option.some.inj e'
  refine ⟨r2.same (f.block _ r2.lt (fun x => ?_)) f.size, r3.same (f.block _ r3.lt (fun x => ?_)) (fun y => f.block _ y (fun x => ?_)) f.size⟩
  ·have := hl _ x; omega
  ·have := hl _ x; omega
  ·have := hl _ x; omega
 ·obtain ⟨k', e', q1, q2⟩ := h.st j hj
  rw [e] at e'
  obtain rfl := Option.some.inj e'
  have oj := ho.2.1 j hj
  have hd : j = i ∨ (sx j).rt < (sx i).t ∨ (sx i).rt < (sx j).t := by
   by_cases q : j = i
   ·exact .inl q
   ·rcases Nat.lt_or_gt_of_ne q with q | q
    ·exact .inr (.inl (ho.2.2 j i q hi))
    ·exact .inr (.inr (ho.2.2 i j q hj))
  have e2 : (updR sx i n j).s0 = (sx j).s0 ∧ (updR sx i n j).np = (sx j).np := by
   unfold updR; split
   ·rename_i e; subst e; exact ⟨rfl, rfl⟩
   ·exact ⟨rfl, rfl⟩
  refine ⟨k, e, ?_, ?_⟩
  ·rw [e2.1, e2.2]
   refine q1.sameG (f.block _ q1.here (fun x => ?_)) f.size
   have := hl _ x
   rcases hd with rfl | hd | hd <;> omega
  ·by_cases q : j = i
   ·subst q
    unfold updR
    rw [if_pos rfl]; exact hs
   ·rw [e2.1]
    have e3 : (updR sx i n j).nr = (sx j).nr := by unfold updR; rw [if_neg q]
    rw [e3]
    refine q2.sameG (f.block _ q2.here (fun x => ?_)) f.size
    have := hl _ x
    rcases hd with rfl | hd | hd
    ·exact q rfl
    ·omega
    ·omega
/-- The document's key is wiped. -/
theorem BS.wip {gR' : Bool} {l : List Nat} (h : BS w B m kx gP gR an sx av lv lz) {k : Kx} (e : kx = some k) (f : Fr w v l) (hl : ∀ b, b ∈ l → b = k.g2) (hk : RK v k gR') : BS v B m kx gP gR' an sx av lv lz := by
 obtain ⟨r1, r2, r3, r4, r5⟩ := h.kk k e
 have hg := r1.g2
 have hgr := r1.gr
 refine h.chg f (fun b q => .inl ⟨k, e, .inr (hl b q)⟩) (fun k' e' => ?_) (fun j hj => ?_) (fun j => ⟨rfl, rfl⟩)
 ·rw [e] at e'
  obtain rfl := Option.some.inj e'
  exact ⟨r2.same (f.block _ r2.lt (fun x => by have := hl _ x; omega)) f.size, hk⟩
 ·obtain ⟨k', e', q1, q2⟩ := h.st j hj
  rw [e] at e'
  obtain rfl := Option.some.inj e'
  have oj := h.ord.2.1 j hj
  exact ⟨k, e, q1.sameG (f.block _ q1.here (fun x => by have := hl _ x; omega)) f.size, q2.sameG (f.block _ q2.here (fun x => by have := hl _ x; omega)) f.size⟩
end Go.Proofs.YtgmfiljjogdccabGreatDoor
