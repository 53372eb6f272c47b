import Derived.Test.YtgmfiljjogdccabGreatDoorPart41
namespace Go.Proofs.YtgmfiljjogdccabGreatDoor
open Go.RowKit Go.RwLone Go.Conc.Locks
set_option linter.unusedVariables false
variable {w v : World} {B m : Nat} {kx : Option Kx} {gP gR : Bool} {an : Nat} {sx : Nat → Sx} {av lv : Value} {lz : List Int}
/-- One call of a script. -/
structure OpV where
 (k a : Int)
 n : Nat
 s : W4
 da : Option Addr
 (dn dc : Nat)
 zs : List Int
def OpV.dv (o : OpV) : Value := .slice o.da o.dn o.dc
def OpV.L (o : OpV) : List Value := [.int .i64 o.k, .int .i64 o.a, .int .u64 (o.n : Nat), .int .u8 (sb o.s 0 : Nat), .int .u8 (sb o.s 1 : Nat), .int .u8 (sb o.s 2 : Nat), .int .u8 (sb o.s 3 : Nat), .int .u8 (sb o.s 4 : Nat), .int .u8 (sb o.s 5 : Nat), .int .u8 (sb o.s 6 : Nat), .int .u8 (sb o.s 7 : Nat), .int .u8 (sb o.s 8 : Nat), .int .u8 (sb o.s 9 : Nat), .int .u8 (sb o.s 10 : Nat), .int .u8 (sb o.s 11 : Nat), .int .u8 (sb o.s 12 : Nat), .int .u8 (sb o.s 13 : Nat), .int .u8 (sb o.s 14 : Nat), .int .u8 (sb o.s 15 : Nat), .slice o.da o.dn o.dc]
structure OpOk (o : OpV) : Prop where
 a : o.a ≤ 9223372036854775807
 n : o.n < 18446744073709551616
 s : o.s.ok
 len : o.zs.length = o.dn
 mx : o.zs.length + 70 ≤ 140737488355328
/-- A call where it lies. -/
structure OpAt (u : World) (S : Nat → Prop) (bo : Nat) (o : OpV) : Prop where
 c : u.rangeAt bo 0 o.L
 lt : bo < u.heap.size
 far : ¬ S bo
theorem OpAt.frp {u u' : World} {S : Nat → Prop} {bo : Nat} {o : OpV} (h : OpAt u S bo o) (f : FrP u u' S) : OpAt u' S bo o :=
 ⟨fun j v hv => (World.cell?_of_block (a := ⟨bo, 0 + j, none⟩) (f.block bo h.lt h.far)).trans (h.c j v hv), Nat.lt_of_lt_of_le h.lt f.size, h.far⟩
theorem OpAt.cell {u : World} {S : Nat → Prop} {bo : Nat} {o : OpV} (h : OpAt u S bo o) (j : Nat) (v : Value) (hv : o.L[j]? = some v) : u.cell? ⟨bo, j, none⟩ = some v := by
 have := h.c j v hv
 rwa [Nat.zero_add] at this
theorem OpAt.start {u : World} {S : Nat → Prop} {bo : Nat} {o : OpV} (h : OpAt u S bo o) : u.rangeAt bo 3 (arL (sb o.s)) := fun j v hv => by
 have hj : j < 16 := (List.getElem?_eq_some_iff.1 hv).1
 have e : o.L[3 + j]? = (arL (sb o.s))[j]? := by
  rcases sixteen hj with rfl | rfl | rfl | rfl | rfl | rfl | rfl | rfl | rfl | rfl | rfl | rfl | rfl | rfl | rfl | rfl <;> rfl
 exact h.cell (3 + j) v (by rw [e]; exact hv)
/-- What there is while a call is played. -/
structure OS (u : World) (B m : Nat) (kx : Option Kx) (gP gR : Bool) (an : Nat) (sx : Nat → Sx) (av lv : Value) (lz : List Int) (S : Nat → Prop) (bo : Nat) (o : OpV) (own : Value) : Prop where
 s : BS u B m kx gP gR an sx av lv lz
 op : OpAt u S bo o
 w : Own u S own o.zs
 d : Dat u S o.dv o.zs
 e : ∀ b, BW m kx an sx av b ↔ S b
theorem OS.to {u u' : World} {S : Nat → Prop} {bo : Nat} {o : OpV} {own : Value} {gP' gR' : Bool} {sx' : Nat → Sx} {lv' : Value} {lz' : List Int} (h : OS u B m kx gP gR an sx av lv lz S bo o own) (s : BS u' B m kx gP' gR' an sx' av lv' lz') (f : FrP u u' (BW m kx an sx av)) (hsx : ∀ i, (sx' i).t = (sx i).t ∧ (sx' i).rt = (sx i).rt) : OS u' B m kx gP' gR' an sx' av lv' lz' S bo o own := by
 have f' : FrP u u' S := f.mono (fun b q => (h.e b).1 q)
 refine ⟨s, h.op.frp f', h.w.frp f', h.d.frp f', fun b => ?_⟩
 rw [← h.e b]
 unfold BW
 simp only [fun i => (hsx i).1, fun i => (hsx i).2]
theorem OS.below {u u' : World} {S : Nat → Prop} {bo : Nat} {o : OpV} {own : Value} (h : OS u B m kx gP gR an sx av lv lz S bo o own) (hb : Below u.heap.size u u') : OS u' B m kx gP gR an sx av lv lz S bo o own := h.to (h.s.below hb) (below_frp hb _) (fun i => ⟨rfl, rfl⟩)
theorem OS.drew {u : World} {S : Nat → Prop} {bo : Nat} {o : OpV} {own : Value} (h : OS u B m kx gP gR an sx av lv lz S bo o own) (q : Nat) : OS (u.drewN q) B m kx gP gR an sx av lv lz S bo o own := h.below (below_drewN u q)
theorem OS.own {u : World} {S : Nat → Prop} {bo : Nat} {o : OpV} {own : Value} (h : OS u B m kx gP gR an sx av lv lz S bo o own) : ∃ b c, own = .slice (some ⟨b, 0, none⟩) o.zs.length c ∧ OwnAt u (BW m kx an sx av) b c o.zs := by
 obtain ⟨b, c, e, h1⟩ := h.w.at
 exact ⟨b, c, e, h1.cell, h1.lt, h1.cap, h1.mx, h1.by', fun q => h1.far ((h.e b).1 q)⟩
theorem OS.dat {u : World} {S : Nat → Prop} {bo : Nat} {o : OpV} {own : Value} (h : OS u B m kx gP gR an sx av lv lz S bo o own) : Dat u (BW m kx an sx av) o.dv o.zs := ⟨h.d.vw, fun e b q x => h.d.far e b q ((h.e b).1 x), h.d.by'⟩
def Even (an : Nat) (sx : Nat → Sx) : Prop := ∀ i, i < an → (sx i).np = (sx i).nr
def OneP (w : World) (B m : Nat) (kx : Option Kx) (an : Nat) (e : Ending) (w' : World) : Prop := ∃ gone an' sx' av' lv' lz', e = .returned (.bool true) ∧ BS w' B m kx gone gone an' sx' av' lv' lz' ∧ Even an' sx' ∧ Below B w w' ∧ an' ≤ an + 1
theorem OS.fin {w u : World} {S : Nat → Prop} {bo : Nat} {o : OpV} {own : Value} {g : Bool} (h : OS u B m kx g g an sx av lv lz S bo o own) (he : Even an sx) (hb : Below B w u) : OneP w B m kx an (.returned (.bool true)) u := ⟨g, an, sx, av, lv, lz, rfl, h.s, he, hb, Nat.le_succ _⟩
theorem num_o (x : Int) (w : World) : Calls Tryz.prog 6 #[.int .i64 x] w fun e w' => e = .returned (.int .i64 x) ∧ w' = w := num_okK x w
/-- The beginning of a call: its value in a box, its bytes copied. -/
theorem os_start (o : OpV) (h : BS w B m kx gP gR an sx av lv lz) (hd : Dat w (BW m kx an sx av) o.dv o.zs) : BS (w.alloc (.cells o.L.toArray 40)) B m kx gP gR an sx av lv lz ∧ OpAt (w.alloc (.cells o.L.toArray 40)) (BW m kx an sx av) w.heap.size o ∧ Dat (w.alloc (.cells o.L.toArray 40)) (BW m kx an sx av) o.dv o.zs ∧ Below w.heap.size w (w.alloc (.cells o.L.toArray 40)) := by
 have hb : Below w.heap.size w (w.alloc (.cells o.L.toArray 40)) := (Below.refl _ _).alloc (Nat.le_refl _) _
 exact ⟨h.below hb, ⟨range_new w _ 40, by simp, fun q => by have := (h.bw _ q).2; omega⟩, hd.frp (below_frp hb _), hb⟩
theorem os_copied {u u' : World} {bo : Nat} {o : OpV} {own : Value} (h : BS u B m kx gP gR an sx av lv lz) (ho : OpAt u (BW m kx an sx av) bo o) (hd : Dat u (BW m kx an sx av) o.dv o.zs) (hm : Marked u.heap.size u' own o.zs) (hb : Below u.heap.size u u') : OS u' B m kx gP gR an sx av lv lz (BW m kx an sx av) bo o own :=
 ⟨h.below hb, ho.frp (below_frp hb _), Own.new hm hd.by' (fun b q => (h.bw b q).2), hd.frp (below_frp hb _), fun b => Iff.rfl⟩
end Go.Proofs.YtgmfiljjogdccabGreatDoor
namespace Go.Proofs.YtgmfiljjogdccabGreatDoor
open Go.RowKit Go.RwLone Go.Conc.Locks
set_option linter.unusedVariables false
variable {w v : World} {B m : Nat} {kx : Option Kx} {gP gR : Bool} {an : Nat} {sx : Nat → Sx} {av lv : Value} {lz : List Int}
theorem gq_ptr (o : Option Nat) : ∃ p, Hid (gq o = .pointer p) := by
 cases o with
 | none => exact ⟨_, rfl⟩
 | some g => exact ⟨_, rfl⟩
theorem BS.last (h : BS w B m kx gP gR an sx av lv lz) {lv' : Value} {lz' : List Int} (hv : View w lv' lz') (hb : AllBytes lz') (hl : lz'.length ≤ 4104) (hf : lz' ≠ [] → ∀ b, b ∈ vblk lv' → ¬ BW m kx an sx av b) : BS (w.setCell ⟨m, 3, none⟩ lv') B m kx gP gR an sx av lv' lz' := by
 have f := set_fr w m 3 lv'
 have hne : ∀ b, b < w.heap.size → b ≠ m → (w.setCell ⟨m, 3, none⟩ lv').heap[b]? = w.heap[b]? := fun b hb q => f.block b hb (by simpa using q)
 have ho := h.ord
 refine ⟨(setCell_at _ _ _ _ _ (by omega)).trans h.ck, (setCell_at _ _ _ _ _ (by omega)).trans h.cr, (setCell_at _ _ _ _ _ (by omega)).trans h.ca, World.cell?_setCell_same' _ _ _ (by rw [h.cl]; rfl), World.there_setCells h.room m 3 [_], fun k e => ?_, fun i hi => ?_, ?_, ?_, hb, hl, h.ord, h.aa, hf⟩
 ·obtain ⟨q1, q2, q3, q4, q5⟩ := h.kk k e
  have := q1.g2; have := q1.gr
  exact ⟨q1, q2.same (hne _ q2.lt (by omega)) f.size, q3.same (hne _ q3.lt (by omega)) (fun q => hne _ q (by omega)) f.size, q4, q5⟩
 ·obtain ⟨k, e, q1, q2⟩ := h.st i hi
  have := ho.2.1 i hi
  exact ⟨k, e, q1.sameG (hne _ q1.here (by omega)) f.size, q2.sameG (hne _ q2.here (by omega)) f.size⟩
 ·exact owns_same h.ar (fun b q => hne b (owns_blks h.ar b q).2 (h.aa b q).1)
 ·exact view_keepP hv (fun e b q => hne b (view_blks hv e b q) (fun x => hf e b q (.inl x)))
theorem BS.flag (h : BS w B m none gP gR an sx av lv lz) (g g' : Bool) : BS w B m none g g' an sx av lv lz :=
 ⟨h.ck, h.cr, h.ca, h.cl, h.room, fun k e => (by cases e), h.st, h.ar, h.lw, h.lb, h.ll, h.ord, h.aa, h.la⟩
theorem BS.wiped {k : Kx} (h : BS w B m (some k) gP gR an sx av lv lz) : BS (w.setCell ⟨k.g2, 4610, none⟩ (.bool true)) B m (some k) gP true an sx av lv lz ∧ FrP w (w.setCell ⟨k.g2, 4610, none⟩ (.bool true)) (BW m (some k) an sx av) := by
 have f := set_fr w k.g2 4610 (.bool true)
 obtain ⟨q1, q2, q3, q4, q5⟩ := h.kk k rfl
 have hc := q3.cell
 have hroom : w.there k.g2 0 4611 := by
  cases gR with
  | false => exact (q3.on rfl).room
  | true => exact (q3.off rfl).room
 refine ⟨h.wip rfl f (fun b q => List.mem_singleton.1 q) ⟨fun e => (by cases e), fun _ => ⟨Nat.lt_of_lt_of_le q3.lt f.size, World.cell?_setCell_same' _ _ _ (by rw [hc]; rfl), World.there_setCells hroom _ _ [_]⟩⟩, f.toP (fun b q => .inr (.inl ⟨k, rfl, .inr (List.mem_singleton.1 q)⟩))⟩
theorem wrapR_len (kx : Option Kx) (g : Bool) (zs : List Int) : (wrapR kx g zs).2.length ≤ 4104 := by
 cases kx with
 | none => exact Nat.zero_le _
 | some k =>
  cases g with
  | true => exact Nat.zero_le _
  | false =>
   unfold wrapR
   simp only [Bool.false_eq_true, if_false]
   split
   ·rename_i h; show (zl _ _).length ≤ _; rw [zl_len]; omega
   ·exact Nat.zero_le _
theorem view_frp {u u' : World} {S : Nat → Prop} {x : Value} {Z : List Int} (h : View u x Z) (hf : Z ≠ [] → ∀ b, b ∈ vblk x → ¬ S b) (f : FrP u u' S) : View u' x Z := view_keepP h (fun e b q => f.block b (view_blks h e b q) (hf e b q))
theorem BS.dl (h : BS w B m kx gP gR an sx av lv lz) : Dat w (BW m kx an sx av) lv lz := ⟨h.lw, h.la, h.lb⟩
theorem BS.froz {k : Kx} (h : BS w B m (some k) gP gR an sx av lv lz) : w.frozen? ⟨k.g2, 4610, none⟩ = false := by
 obtain ⟨q1, q2, q3, q4, q5⟩ := h.kk k rfl
 have hroom : w.there k.g2 0 4611 := by
  cases gR with
  | false => exact (q3.on rfl).room
  | true => exact (q3.off rfl).room
 have := (hroom 4610 (by omega)).2
 rwa [Nat.zero_add] at this
end Go.Proofs.YtgmfiljjogdccabGreatDoor
namespace Go.Proofs.YtgmfiljjogdccabGreatDoor
open Go.RowKit Go.RwLone Go.Conc.Locks
set_option linter.unusedVariables false
variable {w v : World} {B m : Nat} {kx : Option Kx} {gP gR : Bool} {an : Nat} {sx : Nat → Sx} {av lv : Value} {lz : List Int}
/-- What a chosen pair is. -/
def SelR (an : Nat) (sx : Nat → Sx) (pt pr : Option Addr) : Prop := (pt = none ∧ pr = none) ∨ ∃ i, i < an ∧ pt = some ⟨(sx i).t, 0, none⟩ ∧ pr = some ⟨(sx i).rt, 0, none⟩
def SelQ (w : World) (an : Nat) (sx : Nat → Sx) (e : Ending) (w' : World) : Prop := ∃ pt pr, e = .returned (.agg #[.pointer pt, .pointer pr]) ∧ Below w.heap.size w w' ∧ SelR an sx pt pr
theorem sel_q (A : Int) (hA : A ≤ 9223372036854775807) (h : BS w B m kx gP gR an sx av lv lz) : Calls Tryz.prog 12 #[.pointer (some ⟨m, 0, none⟩), .int .i64 A] w (SelQ w an sx) := by
 refine (sel_b A hA h).mono ?_
 rintro e w' ⟨o, hs, rfl, hb⟩
 cases o with
 | none => exact ⟨none, none, rfl, hb, .inl ⟨rfl, rfl⟩⟩
 | some i => exact ⟨_, _, rfl, hb, .inr ⟨i, hs.lt i rfl, rfl, rfl⟩⟩
/-- A pair in its box. -/
structure PrAt (u : World) (S : Nat → Prop) (bp : Nat) (pt pr : Option Addr) : Prop where
 c0 : u.cell? ⟨bp, 0, none⟩ = some (.pointer pt)
 c1 : u.cell? ⟨bp, 1, none⟩ = some (.pointer pr)
 lt : bp < u.heap.size
 far : ¬ S bp
theorem PrAt.frp {u u' : World} {S : Nat → Prop} {bp : Nat} {pt pr : Option Addr} (h : PrAt u S bp pt pr) (f : FrP u u' S) : PrAt u' S bp pt pr :=
 ⟨(World.cell?_of_block (a := ⟨bp, 0, none⟩) (f.block bp h.lt h.far)).trans h.c0, (World.cell?_of_block (a := ⟨bp, 1, none⟩) (f.block bp h.lt h.far)).trans h.c1, Nat.lt_of_lt_of_le h.lt f.size, h.far⟩
theorem pr_new {w2 w3 : World} (h : BS w2 B m kx gP gR an sx av lv lz) (hb : Below w2.heap.size w2 w3) (pt pr : Option Addr) : PrAt (w3.alloc (.cells #[.pointer pt, .pointer pr] 73)) (BW m kx an sx av) w3.heap.size pt pr ∧ Below w3.heap.size w3 (w3.alloc (.cells #[.pointer pt, .pointer pr] 73)) :=
 ⟨⟨range_new w3 [.pointer pt, .pointer pr] 73 0 _ rfl, range_new w3 [.pointer pt, .pointer pr] 73 1 _ rfl, by simp, fun q => by have h1 := (h.bw _ q).2; have h2 := hb.size; omega⟩, (Below.refl _ _).alloc (Nat.le_refl _) _⟩
theorem updP_at (sx : Nat → Sx) (i n : Nat) : updP sx i n i = ⟨(sx i).t, (sx i).rt, (sx i).s0, n, (sx i).nr⟩ := if_pos rfl
theorem updR_at (sx : Nat → Sx) (i n : Nat) : updR sx i n i = ⟨(sx i).t, (sx i).rt, (sx i).s0, (sx i).np, n⟩ := if_pos rfl
theorem even_upd {i n : Nat} (h : Even an sx) : Even an (updR (updP sx i n) i n) := fun j hj => by
 by_cases e : j = i
 ·subst e; rw [updR_at, updP_at]
 ·have e1 : updR (updP sx i n) i n j = sx j := by unfold updR; rw [if_neg e]; unfold updP; rw [if_neg e]
  rw [e1]; exact h j hj
theorem upd_id (sx : Nat → Sx) (i n : Nat) (j : Nat) : (updR (updP sx i n) i n j).t = (sx j).t ∧ (updR (updP sx i n) i n j).rt = (sx j).rt :=
 ⟨((updR_id _ i n j).1).trans (updP_id sx i n j).1, ((updR_id _ i n j).2).trans (updP_id sx i n j).2⟩
/-- Both streams of a pair were asked for bytes. -/
theorem at_q {i : Nat} (h : BS w B m kx gP gR an sx av lv lz) (he : Even an sx) (hi : i < an) : Calls Tryz.prog 16 #[.agg #[.pointer (some ⟨(sx i).t, 0, none⟩), .pointer (some ⟨(sx i).rt, 0, none⟩)]] w fun e w' => e = .returned (.bool true) ∧ Below w.heap.size w w' := by
 obtain ⟨k, _, q1, q2⟩ := h.st i hi
 rw [← he i hi] at q2
 exact at_some _ _ _ _ _ _ w q1 q2
theorem at_r {pt pr : Option Addr} (h : BS w B m kx gP gR an sx av lv lz) (he : Even an sx) (hs : SelR an sx pt pr) : Calls Tryz.prog 16 #[.agg #[.pointer pt, .pointer pr]] w fun e w' => e = .returned (.bool true) ∧ Below w.heap.size w w' := by
 rcases hs with ⟨rfl, rfl⟩ | ⟨i, hi, rfl, rfl⟩
 ·exact at_none w
 ·exact at_q h he hi
theorem selr_congr {sx' : Nat → Sx} {pt pr : Option Addr} (h : SelR an sx pt pr) (e : ∀ i, (sx' i).t = (sx i).t ∧ (sx' i).rt = (sx i).rt) : SelR an sx' pt pr := by
 rcases h with h | ⟨i, hi, h1, h2⟩
 ·exact .inl h
 ·exact .inr ⟨i, hi, by rw [h1, (e i).1], by rw [h2, (e i).2]⟩
theorem bw_id {sx' : Nat → Sx} (e : ∀ i, (sx' i).t = (sx i).t ∧ (sx' i).rt = (sx i).rt) (b : Nat) : BW m kx an sx' av b ↔ BW m kx an sx av b := by
 unfold BW
 simp only [fun i => (e i).1, fun i => (e i).2]
/-- XOR on both sides: what it leaves. -/
def XorP (u0 : World) (B m : Nat) (kx : Option Kx) (g : Bool) (an : Nat) (sx sx1 : Nat → Sx) (av lv : Value) (lz : List Int) (E : Int) (Z : List Int) (e : Ending) (u : World) : Prop := ∃ a n c, e = .returned (.tuple #[.slice a n c, .int .i64 E]) ∧ View u (.slice a n c) Z ∧ BS u B m kx g g an sx1 av lv lz ∧ FrP u0 u (BW m kx an sx av) ∧ (Z ≠ [] → ∀ b, b ∈ vblk (.slice a n c) → u0.heap.size ≤ b)
/-- The answers, and what the state becomes. -/
structure XorC (kx : Option Kx) (g : Bool) (an : Nat) (sx : Nat → Sx) (pt pr : Option Addr) (zs : List Int) (E : Int) (Z : List Int) (sx1 sx2 : Nat → Sx) : Prop where
 p : ∀ (w : World) (B m : Nat) (av lv : Value) (lz : List Int) (b c : Nat), BS w B m kx g g an sx av lv lz → OwnAt w (BW m kx an sx av) b c zs → Calls Tryz.prog 13 #[.pointer pt, .slice (some ⟨b, 0, none⟩) zs.length c] w (XorP w B m kx g an sx sx1 av lv lz E Z)
 r : ∀ (w : World) (B m : Nat) (av lv : Value) (lz : List Int) (dv : Value), BS w B m kx g g an sx1 av lv lz → Dat w (BW m kx an sx1 av) dv zs → (∃ a n c, dv = .slice a n c) → Calls Tryz.prog 14 #[.pointer pr, dv] w (XorP w B m kx g an sx1 sx2 av lv lz E Z)
 i1 : ∀ i, (sx1 i).t = (sx i).t ∧ (sx1 i).rt = (sx i).rt
 i2 : ∀ i, (sx2 i).t = (sx1 i).t ∧ (sx2 i).rt = (sx1 i).rt
 ev : Even an sx2
theorem xor_c {pt pr : Option Addr} (zs : List Int) (hk : ∀ i, i < an → ∃ k, kx = some k) (he : Even an sx) (hs : SelR an sx pt pr) (g : Bool) : ∃ E Z sx1 sx2, XorC kx g an sx pt pr zs E Z sx1 sx2 := by
 rcases hs with ⟨rfl, rfl⟩ | ⟨i, hi, rfl, rfl⟩
 ·refine ⟨1, [], sx, sx, fun w B m av lv lz b c h ho => ?_, fun w B m av lv lz dv h hd hf => ?_, fun i => ⟨rfl, rfl⟩, fun i => ⟨rfl, rfl⟩, he⟩
  ·refine (xor_nil _ w).mono ?_
   rintro e w' ⟨rfl, hw⟩
   obtain rfl := hw.symm
   exact ⟨none, 0, 0, rfl, view_nil _, h, FrP.refl _ _, fun e => absurd rfl e⟩
  ·obtain ⟨a, n, c, rfl⟩ := hf
   refine (rxor_nil _ _ _ w).mono ?_
   rintro e w' ⟨rfl, hw⟩
   obtain rfl := hw.symm
   exact ⟨none, 0, 0, rfl, view_nil _, h, FrP.refl _ _, fun e => absurd rfl e⟩
 ·obtain ⟨k, rfl⟩ := hk i hi
  have hnn := he i hi
  refine ⟨(xorR k g (sx i).s0 (sx i).np zs).1, (xorR k g (sx i).s0 (sx i).np zs).2, updP sx i (adv (xorR k g (sx i).s0 (sx i).np zs).1 (sx i).np zs.length), updR (updP sx i (adv (xorR k g (sx i).s0 (sx i).np zs).1 (sx i).np zs.length)) i (adv (xorR k g (sx i).s0 (sx i).np zs).1 (sx i).np zs.length), fun w B m av lv lz b c h ho => ?_, fun w B m av lv lz dv h hd hf => ?_, updP_id _ _ _, updR_id _ _ _, even_upd he⟩
  ·exact xor_b b c i zs hi h ho
  ·have hx := rxor_b i dv zs hi h hd
   rw [updP_at] at hx
   rw [← hnn] at hx
   exact hx
end Go.Proofs.YtgmfiljjogdccabGreatDoor
namespace Go.Proofs.YtgmfiljjogdccabGreatDoor
open Go.RowKit Go.RwLone Go.Conc.Locks
set_option linter.unusedVariables false
set_option linter.unusedSimpArgs false
set_option maxHeartbeats 6400000 in
set_option maxRecDepth 100000 in
theorem one_wipe (w : World) (B m : Nat) (kx : Option Kx) (g : Bool) (an : Nat) (sx : Nat → Sx) (av lv : Value) (lz : List Int) (o : OpV) (h : BS w B m kx g g an sx av lv lz) (he : Even an sx) (ho : OpOk o) (hd : Dat w (BW m kx an sx av) o.dv o.zs) (hk : o.k = 5) :
  Calls Tryz.prog 7 #[.pointer (some ⟨m, 0, none⟩), .agg o.L.toArray] w (OneP w B m kx an) := by
 obtain ⟨ok, oa, on, os, da, dn, dc, zs⟩ := o
 simp only at hk
 subst hk
 obtain ⟨S, HS⟩ : ∃ S, Hid (S = BW m kx an sx av) := ⟨_, rfl⟩
 obtain ⟨h1, h2, h3, h4⟩ := os_start _ h hd
 have HOK : Hid (OpOk ⟨5, oa, on, os, da, dn, dc, zs⟩) := ho
 have HEV : Hid (Even an sx) := he
 have HBm : Hid (B ≤ w.heap.size) := Nat.le_trans h.ord.1 (Nat.le_of_lt h.mlt)
 obtain ⟨W1, HW1⟩ : ∃ W, Hid (W = w.alloc (.cells (OpV.L ⟨5, oa, on, os, da, dn, dc, zs⟩).toArray 40)) := ⟨_, rfl⟩
 rw [← HW1.out] at h1 h2 h3 h4
 have H1 : Hid (BS W1 B m kx g g an sx av lv lz) := h1
 have H2 : Hid (OpAt W1 (BW m kx an sx av) w.heap.size ⟨5, oa, on, os, da, dn, dc, zs⟩) := h2
 have H3 : Hid (Dat W1 (BW m kx an sx av) (.slice da dn dc) zs) := h3
 have H4 : Hid (Below w.heap.size w W1) := h4
 have c19 : W1.cell? ⟨w.heap.size, 19, none⟩ = some (.slice da dn dc) := H2.out.cell 19 _ rfl
 have c0 : W1.cell? ⟨w.heap.size, 0, none⟩ = some (.int .i64 5) := H2.out.cell 0 _ rfl
 have K11 : Hid (Calls Tryz.prog 11 #[.slice da dn dc] W1 fun e w' => ∃ v', e = .returned v' ∧ Marked W1.heap.size w' v' zs ∧ Below W1.heap.size W1 w') := copy_any _ zs W1 ho.mx h3.vw
 clear h1 h2 h3 h4 h he ho hd
 unfold OpV.L at HW1 ⊢
 simp only at HW1 ⊢
 generalize sb os 0 = s0 at HW1 ⊢
 generalize sb os 1 = s1 at HW1 ⊢
 generalize sb os 2 = s2 at HW1 ⊢
 generalize sb os 3 = s3 at HW1 ⊢
 generalize sb os 4 = s4 at HW1 ⊢
 generalize sb os 5 = s5 at HW1 ⊢
 generalize sb os 6 = s6 at HW1 ⊢
 generalize sb os 7 = s7 at HW1 ⊢
 generalize sb os 8 = s8 at HW1 ⊢
 generalize sb os 9 = s9 at HW1 ⊢
 generalize sb os 10 = s10 at HW1 ⊢
 generalize sb os 11 = s11 at HW1 ⊢
 generalize sb os 12 = s12 at HW1 ⊢
 generalize sb os 13 = s13 at HW1 ⊢
 generalize sb os 14 = s14 at HW1 ⊢
 generalize sb os 15 = s15 at HW1 ⊢
 obtain ⟨bo, HBO⟩ : ∃ b, Hid (w.heap.size = b) := ⟨_, rfl⟩
 go_enter Tryz.func7, Tryz.ntmps7
 go_upto_region 1 with fail
 rw [← HW1.out, HBO.out]
 rw [HBO.out] at H2 c19 c0
 go_wp2_with (first | (go_at_call 11; refine K11.out.mono ?_))
 rintro e2 w2 ⟨own, rfl, hm2, hb2⟩
 have H : Hid (OS w2 B m kx g g an sx av lv lz (BW m kx an sx av) bo ⟨5, oa, on, os, da, dn, dc, zs⟩ own) := os_copied H1.out H2.out H3.out hm2 hb2
 have HB : Hid (Below B w w2) := (H4.out.mono HBm.out).trans (hb2.mono (Nat.le_trans HBm.out H4.out.size))
 clear hm2 hb2 c19 c0 K11 H1 H2 H3 H4
 have c0 : w2.cell? ⟨bo, 0, none⟩ = some (.int .i64 5) := H.out.op.cell 0 _ rfl
 go_upto_region 27 with fail
 have K20 : Hid (∀ u, BS u B m kx true g an sx av lv lz → Calls Tryz.prog 20 #[.pointer (some ⟨m, 0, none⟩)] u fun e u' => e = .returned (.int .i64 (kE kx g)) ∧ u' = u) := fun u hu => gone_b hu
 have K6 : Hid (∀ u, Calls Tryz.prog 6 #[.int .i64 (kE kx g)] u fun e u' => e = .returned (.int .i64 (kE kx g)) ∧ u' = u) := num_o _
 have K25 : Hid (Calls Tryz.prog 25 #[gq (kx.map Kx.g)] w2 fun e w' => e = .returned (.int .i64 (kE kx g)) ∧ BS w' B m kx true g an sx av lv lz ∧ FrP w2 w' (BW m kx an sx av)) := wipe_b H.out.s
 obtain ⟨E, HE⟩ : ∃ E, Hid (E = kE kx g) := ⟨_, rfl⟩
 rw [← HE.out] at K20 K6 K25
 have ck : w2.cell? ⟨m, 0, none⟩ = some (gq (kx.map Kx.g)) := H.out.s.ck
 cases kx with
 | none =>
  have ck' : w2.cell? ⟨m, 0, none⟩ = some (.pointer none) := ck
  have K25' : Hid (Calls Tryz.prog 25 #[.pointer none] w2 fun e w' => e = .returned (.int .i64 E) ∧ BS w' B m none true g an sx av lv lz ∧ FrP w2 w' (BW m none an sx av)) := K25.out
  clear ck K25
  go_wp2_with (first | (go_at_call 25; refine K25'.out.mono ?_))
  rintro e3 w3 ⟨rfl, h3, f3⟩
  have H3 : Hid (OS w3 B m none true g an sx av lv lz (BW m none an sx av) bo ⟨5, oa, on, os, da, dn, dc, zs⟩ own) := H.out.to h3 f3 (fun i => ⟨rfl, rfl⟩)
  have HB3 : Hid (Below B w w3) := HB.out.trans (f3.toBelow (fun b q => (H.out.s.bw b q).1) (Nat.le_trans HBm.out HB.out.size))
  have cr : w3.cell? ⟨m, 1, none⟩ = some (.pointer none) := h3.cr
  clear h3 f3 ck' K25' c0
  go_wp2_with (first
   | (go_at_call 6; refine (K6.out _).mono ?_; rintro e4 w4 ⟨rfl, hw4⟩; obtain rfl := hw4.symm)
   | (go_at_call 20; refine (K20.out _ H3.out.s).mono ?_; rintro e5 w5 ⟨rfl, hw5⟩; obtain rfl := hw5.symm))
  go_ret
  exact ⟨g, an, sx, av, lv, lz, rfl, H3.out.s.flag g g, HEV.out, HB3.out, Nat.le_succ _⟩
 | some k =>
  have ck' : w2.cell? ⟨m, 0, none⟩ = some (.pointer (some ⟨k.g, 0, none⟩)) := ck
  have K25' : Hid (Calls Tryz.prog 25 #[.pointer (some ⟨k.g, 0, none⟩)] w2 fun e w' => e = .returned (.int .i64 E) ∧ BS w' B m (some k) true g an sx av lv lz ∧ FrP w2 w' (BW m (some k) an sx av)) := K25.out
  clear ck K25
  go_wp2_with (first | (go_at_call 25; refine K25'.out.mono ?_))
  rintro e3 w3 ⟨rfl, h3, f3⟩
  have H3 : Hid (OS w3 B m (some k) true g an sx av lv lz (BW m (some k) an sx av) bo ⟨5, oa, on, os, da, dn, dc, zs⟩ own) := H.out.to h3 f3 (fun i => ⟨rfl, rfl⟩)
  have HB3 : Hid (Below B w w3) := HB.out.trans (f3.toBelow (fun b q => (H.out.s.bw b q).1) (Nat.le_trans HBm.out HB.out.size))
  have cr : w3.cell? ⟨m, 1, none⟩ = some (.pointer (some ⟨k.g2, 0, none⟩)) := h3.cr
  have cw : w3.cell? ⟨k.g2, 4610, none⟩ = some (.bool g) := (h3.kk k rfl).2.2.1.cell
  have zw : w3.frozen? ⟨k.g2, 4610, none⟩ = false := h3.froz
  clear h3 f3 ck' K25' c0
  go_wp2_with (first
   | (go_at_call 6; refine (K6.out _).mono ?_; rintro e4 w4 ⟨rfl, hw4⟩; obtain rfl := hw4.symm)
   | (go_at_call 20; refine (K20.out _ H3.out.s).mono ?_; rintro e5 w5 ⟨rfl, hw5⟩; obtain rfl := hw5.symm))
  go_ret
  obtain ⟨q1, q2⟩ := H3.out.s.wiped
  exact ⟨true, an, sx, av, lv, lz, rfl, q1, HEV.out, HB3.out.trans (q2.toBelow (fun b q => (H3.out.s.bw b q).1) (Nat.le_trans HBm.out HB3.out.size)), Nat.le_succ _⟩
end Go.Proofs.YtgmfiljjogdccabGreatDoor
