import Derived.Test.YtgmfiljjogdccabGreatDoorPart37
namespace Go.Proofs.YtgmfiljjogdccabGreatDoor
open Go.RowKit Go.RwLone Go.Conc.Locks
set_option linter.unusedVariables false
variable {w v : World} {B m : Nat} {kx : Option Kx} {gP gR : Bool} {an : Nat} {sx : Nat → Sx} {av lv : Value} {lz : List Int}
/-- One call of a script. -/
structure OpV where
 (k a : Int)
 n : Nat
 s : W4
 da : Option Addr
 (dn dc : Nat)
 zs : List Int
def OpV.dv (o : OpV) : Value := .slice o.da o.dn o.dc
def OpV.L (o : OpV) : List Value := [.int .i64 o.k, .int .i64 o.a, .int .u64 (o.n : Nat), .int .u8 (sb o.s 0 : Nat), .int .u8 (sb o.s 1 : Nat), .int .u8 (sb o.s 2 : Nat), .int .u8 (sb o.s 3 : Nat), .int .u8 (sb o.s 4 : Nat), .int .u8 (sb o.s 5 : Nat), .int .u8 (sb o.s 6 : Nat), .int .u8 (sb o.s 7 : Nat), .int .u8 (sb o.s 8 : Nat), .int .u8 (sb o.s 9 : Nat), .int .u8 (sb o.s 10 : Nat), .int .u8 (sb o.s 11 : Nat), .int .u8 (sb o.s 12 : Nat), .int .u8 (sb o.s 13 : Nat), .int .u8 (sb o.s 14 : Nat), .int .u8 (sb o.s 15 : Nat), .slice o.da o.dn o.dc]
structure OpOk (o : OpV) : Prop where
 a : o.a ≤ 9223372036854775807
 n : o.n < 18446744073709551616
 s : o.s.ok
 len : o.zs.length = o.dn
 mx : o.zs.length + 70 ≤ 140737488355328
/-- A call where it lies. -/
structure OpAt (u : World) (S : Nat → Prop) (bo : Nat) (o : OpV) : Prop where
 c : u.rangeAt bo 0 o.L
 lt : bo < u.heap.size
 far : ¬ S bo
theorem OpAt.frp {u u' : World} {S : Nat → Prop} {bo : Nat} {o : OpV} (h : OpAt u S bo o) (f : FrP u u' S) : OpAt u' S bo o :=
 ⟨fun j v hv => (World.cell?_of_block (a := ⟨bo, 0 + j, none⟩) (f.block bo h.lt h.far)).trans (h.c j v hv), Nat.lt_of_lt_of_le h.lt f.size, h.far⟩
theorem OpAt.cell {u : World} {S : Nat → Prop} {bo : Nat} {o : OpV} (h : OpAt u S bo o) (j : Nat) (v : Value) (hv : o.L[j]? = some v) : u.cell? ⟨bo, j, none⟩ = some v := by
 have := h.c j v hv
 rwa [Nat.zero_add] at this
theorem OpAt.start {u : World} {S : Nat → Prop} {bo : Nat} {o : OpV} (h : OpAt u S bo o) : u.rangeAt bo 3 (arL (sb o.s)) := fun j v hv => by
 have hj : j < 16 := (List.getElem?_eq_some_iff.1 hv).1
 have e : o.L[3 + j]? = (arL (sb o.s))[j]? := by
  rcases sixteen hj with rfl | rfl | rfl | rfl | rfl | rfl | rfl | rfl | rfl | rfl | rfl | rfl | rfl | rfl | rfl | rfl <;> rfl
 exact h.cell (3 + j) v (by rw [e]; exact hv)
/-- What there is while a call is played. -/
structure OS (u : World) (B m : Nat) (kx : Option Kx) (gP gR : Bool) (an : Nat) (sx : Nat → Sx) (av lv : Value) (lz : List Int) (S : Nat → Prop) (bo : Nat) (o : OpV) (own : Value) : Prop where
 s : BS u B m kx gP gR an sx av lv lz
 op : OpAt u S bo o
 w : Own u S own o.zs
 d : Dat u S o.dv o.zs
 e : ∀ b, BW m kx an sx av b ↔ S b
theorem OS.to {u u' : World} {S : Nat → Prop} {bo : Nat} {o : OpV} {own : Value} {gP' gR' : Bool} {sx' : Nat → Sx} {lv' : Value} {lz' : List Int} (h : OS u B m kx gP gR an sx av lv lz S bo o own) (s : BS u' B m kx gP' gR' an sx' av lv' lz') (f : FrP u u' (BW m kx an sx av)) (hsx : ∀ i, (sx' i).t = (sx i).t ∧ (sx' i).rt = (sx i).rt) : OS u' B m kx gP' gR' an sx' av lv' lz' S bo o own := by
 have f' : FrP u u' S := f.mono (fun b q => (h.e b).1 q)
 refine ⟨s, h.op.frp f', h.w.frp f', h.d.frp f', fun b => ?_⟩
 rw [← h.e b]
 unfold BW
 simp only [fun i => (hsx i).1, fun i => (hsx i).2]
theorem OS.below {u u' : World} {S : Nat → Prop} {bo : Nat} {o : OpV} {own : Value} (h : OS u B m kx gP gR an sx av lv lz S bo o own) (hb : Below u.heap.size u u') : OS u' B m kx gP gR an sx av lv lz S bo o own := h.to (h.s.below hb) (below_frp hb _) (fun i => ⟨rfl, rfl⟩)
theorem OS.drew {u : World} {S : Nat → Prop} {bo : Nat} {o : OpV} {own : Value} (h : OS u B m kx gP gR an sx av lv lz S bo o own) (q : Nat) : OS (u.drewN q) B m kx gP gR an sx av lv lz S bo o own := h.below (below_drewN u q)
theorem OS.own {u : World} {S : Nat → Prop} {bo : Nat} {o : OpV} {own : Value} (h : OS u B m kx gP gR an sx av lv lz S bo o own) : ∃ b c, own = .slice (some ⟨b, 0, none⟩) o.zs.length c ∧ OwnAt u (BW m kx an sx av) b c o.zs := by
 obtain ⟨b, c, e, h1⟩ := h.w.at
 exact ⟨b, c, e, h1.cell, h1.lt, h1.cap, h1.mx, h1.by', fun q => h1.far ((h.e b).1 q)⟩
theorem OS.dat {u : World} {S : Nat → Prop} {bo : Nat} {o : OpV} {own : Value} (h : OS u B m kx gP gR an sx av lv lz S bo o own) : Dat u (BW m kx an sx av) o.dv o.zs := ⟨h.d.vw, fun e b q x => h.d.far e b q ((h.e b).1 x), h.d.by'⟩
def Even (an : Nat) (sx : Nat → Sx) : Prop := ∀ i, i < an → (sx i).np = (sx i).nr
def OneP (w : World) (B m : Nat) (kx : Option Kx) (an : Nat) (e : Ending) (w' : World) : Prop := ∃ gone an' sx' av' lv' lz', e = .returned (.bool true) ∧ BS w' B m kx gone gone an' sx' av' lv' lz' ∧ Even an' sx' ∧ Below B w w' ∧ an' ≤ an + 1
theorem OS.fin {w u : World} {S : Nat → Prop} {bo : Nat} {o : OpV} {own : Value} {g : Bool} (h : OS u B m kx g g an sx av lv lz S bo o own) (he : Even an sx) (hb : Below B w u) : OneP w B m kx an (.returned (.bool true)) u := ⟨g, an, sx, av, lv, lz, rfl, h.s, he, hb, Nat.le_succ _⟩
theorem num_o (x : Int) (w : World) : Calls Tryz.prog 6 #[.int .i64 x] w fun e w' => e = .returned (.int .i64 x) ∧ w' = w := num_okK x w
/-- The beginning of a call: its value in a box, its bytes copied. -/
theorem os_start (o : OpV) (h : BS w B m kx gP gR an sx av lv lz) (hd : Dat w (BW m kx an sx av) o.dv o.zs) : BS (w.alloc (.cells o.L.toArray 40)) B m kx gP gR an sx av lv lz ∧ OpAt (w.alloc (.cells o.L.toArray 40)) (BW m kx an sx av) w.heap.size o ∧ Dat (w.alloc (.cells o.L.toArray 40)) (BW m kx an sx av) o.dv o.zs ∧ Below w.heap.size w (w.alloc (.cells o.L.toArray 40)) := by
 have hb : Below w.heap.size w (w.alloc (.cells o.L.toArray 40)) := (Below.refl _ _).alloc (Nat.le_refl _) _
 exact ⟨h.below hb, ⟨range_new w _ 40, by simp, fun q => by have := (h.bw _ q).2; omega⟩, hd.frp (below_frp hb _), hb⟩
theorem os_copied {u u' : World} {bo : Nat} {o : OpV} {own : Value} (h : BS u B m kx gP gR an sx av lv lz) (ho : OpAt u (BW m kx an sx av) bo o) (hd : Dat u (BW m kx an sx av) o.dv o.zs) (hm : Marked u.heap.size u' own o.zs) (hb : Below u.heap.size u u') : OS u' B m kx gP gR an sx av lv lz (BW m kx an sx av) bo o own :=
 ⟨h.below hb, ho.frp (below_frp hb _), Own.new hm hd.by' (fun b q => (h.bw b q).2), hd.frp (below_frp hb _), fun b => Iff.rfl⟩
end Go.Proofs.YtgmfiljjogdccabGreatDoor
namespace Go.Proofs.YtgmfiljjogdccabGreatDoor
open Go.RowKit Go.RwLone Go.Conc.Locks
set_option linter.unusedVariables false
variable {w v : World} {B m : Nat} {kx : Option Kx} {gP gR : Bool} {an : Nat} {sx : Nat → Sx} {av lv : Value} {lz : List Int}
theorem gq_ptr (o : Option Nat) : ∃ p, Hid (gq o = .pointer p) := by
 cases o with
 | none => exact ⟨_, rfl⟩
 | some g => exact ⟨_, rfl⟩
theorem BS.last (h : BS w B m kx gP gR an sx av lv lz) {lv' : Value} {lz' : List Int} (hv : View w lv' lz') (hb : AllBytes lz') (hl : lz'.length ≤ 4104) (hf : lz' ≠ [] → ∀ b, b ∈ vblk lv' → ¬ BW m kx an sx av b) : BS (w.setCell ⟨m, 3, none⟩ lv') B m kx gP gR an sx av lv' lz' := by
 have f := set_fr w m 3 lv'
 have hne : ∀ b, b < w.heap.size → b ≠ m → (w.setCell ⟨m, 3, none⟩ lv').heap[b]? = w.heap[b]? := fun b hb q => f.block b hb (by simpa using q)
 have ho := h.ord
 refine ⟨(setCell_at _ _ _ _ _ (by omega)).trans h.ck, (setCell_at _ _ _ _ _ (by omega)).trans h.cr, (setCell_at _ _ _ _ _ (by omega)).trans h.ca, World.cell?_setCell_same' _ _ _ (by rw [h.cl]; rfl), World.there_setCells h.room m 3 [_], fun k e => ?_, fun i hi => ?_, ?_, ?_, hb, hl, h.ord, h.aa, hf⟩
 ·obtain ⟨q1, q2, q3, q4, q5⟩ := h.kk k e
  have := q1.g2; have := q1.gr
  exact ⟨q1, q2.same (hne _ q2.lt (by omega)) f.size, q3.same (hne _ q3.lt (by omega)) (fun q => hne _ q (by omega)) f.size, q4, q5⟩
 ·obtain ⟨k, e, q1, q2⟩ := h.st i hi
  have := ho.2.1 i hi
  exact ⟨k, e, q1.sameG (hne _ q1.here (by omega)) f.size, q2.sameG (hne _ q2.here (by omega)) f.size⟩
 ·exact owns_same h.ar (fun b q => hne b (owns_blks h.ar b q).2 (h.aa b q).1)
 ·exact view_keepP hv (fun e b q => hne b (view_blks hv e b q) (fun x => hf e b q (.inl x)))
theorem BS.flag (h : BS w B m none gP gR an sx av lv lz) (g g' : Bool) : BS w B m none g g' an sx av lv lz :=
 ⟨h.ck, h.cr, h.ca, h.cl, h.room, fun k e => (by cases e), h.st, h.ar, h.lw, h.lb, h.ll, h.ord, h.aa, h.la⟩
theorem BS.wiped {k : Kx} (h : BS w B m (some k) gP gR an sx av lv lz) : BS (w.setCell ⟨k.g2, 4610, none⟩ (.bool true)) B m (some k) gP true an sx av lv lz ∧ FrP w (w.setCell ⟨k.g2, 4610, none⟩ (.bool true)) (BW m (some k) an sx av) := by
 have f := set_fr w k.g2 4610 (.bool true)
 obtain ⟨q1, q2, q3, q4, q5⟩ := h.kk k rfl
 have hc := q3.cell
 have hroom : w.there k.g2 0 4611 := by
  cases gR with
  | false => exact (q3.on rfl).room
  | true => exact (q3.off rfl).room
 refine ⟨h.wip rfl f (fun b q => List.mem_singleton.1 q) ⟨fun e => (by cases e), fun _ => ⟨Nat.lt_of_lt_of_le q3.lt f.size, World.cell?_setCell_same' _ _ _ (by rw [hc]; rfl), World.there_setCells hroom _ _ [_]⟩⟩, f.toP (fun b q => .inr (.inl ⟨k, rfl, .inr (List.mem_singleton.1 q)⟩))⟩
theorem wrapR_len (kx : Option Kx) (g : Bool) (zs : List Int) : (wrapR kx g zs).2.length ≤ 4104 := by
 cases kx with
 | none => exact Nat.zero_le _
 | some k =>
  cases g with
  | true => exact Nat.zero_le _
  | false =>
   unfold wrapR
   simp only [Bool.false_eq_true, if_false]
   split
   ·rename_i h; show (zl _ _).length ≤ _; rw [zl_len]; omega
   ·exact Nat.zero_le _
theorem view_frp {u u' : World} {S : Nat → Prop} {x : Value} {Z : List Int} (h : View u x Z) (hf : Z ≠ [] → ∀ b, b ∈ vblk x → ¬ S b) (f : FrP u u' S) : View u' x Z := view_keepP h (fun e b q => f.block b (view_blks h e b q) (hf e b q))
theorem BS.dl (h : BS w B m kx gP gR an sx av lv lz) : Dat w (BW m kx an sx av) lv lz := ⟨h.lw, h.la, h.lb⟩
theorem BS.froz {k : Kx} (h : BS w B m (some k) gP gR an sx av lv lz) : w.frozen? ⟨k.g2, 4610, none⟩ = false := by
 obtain ⟨q1, q2, q3, q4, q5⟩ := h.kk k rfl
 have hroom : w.there k.g2 0 4611 := by
  cases gR with
  | false => exact (q3.on rfl).room
  | true => exact (q3.off rfl).room
 have := (hroom 4610 (by omega)).2
 rwa [Nat.zero_add] at this
end Go.Proofs.YtgmfiljjogdccabGreatDoor
