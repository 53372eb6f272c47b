import Derived.Test.YtgmfiljjogdccabGreatDoorPart42
import Derived.Test.YtgmfiljjogdccabGreatDoorPart06
import Derived.Test.YtgmfiljjogdccabGreatDoorPart00
namespace Go.Proofs.YtgmfiljjogdccabGreatDoor
open Go.RowKit Go.RwLone Go.Conc.Locks
set_option linter.unusedVariables false
variable {w v : World} {B m : Nat} {kx : Option Kx} {gP gR : Bool} {an : Nat} {sx : Nat → Sx} {av lv : Value} {lz : List Int}
/-- Skip on both sides. -/
structure SkC (kx : Option Kx) (g : Bool) (an : Nat) (sx : Nat → Sx) (pt pr : Option Addr) (n : Nat) (E : Int) (sx1 sx2 : Nat → Sx) : Prop where
 p : ∀ (w : World) (B m : Nat) (av lv : Value) (lz : List Int), BS w B m kx g g an sx av lv lz → Calls Tryz.prog 17 #[.pointer pt, .int .u64 (n : Nat)] w fun e w' => e = .returned (.int .i64 E) ∧ BS w' B m kx g g an sx1 av lv lz ∧ FrP w w' (BW m kx an sx av)
 r : ∀ (w : World) (B m : Nat) (av lv : Value) (lz : List Int), BS w B m kx g g an sx1 av lv lz → Calls Tryz.prog 18 #[.pointer pr, .int .u64 (n : Nat)] w fun e w' => e = .returned (.int .i64 E) ∧ BS w' B m kx g g an sx2 av lv lz ∧ FrP w w' (BW m kx an sx1 av)
 i1 : ∀ i, (sx1 i).t = (sx i).t ∧ (sx1 i).rt = (sx i).rt
 i2 : ∀ i, (sx2 i).t = (sx1 i).t ∧ (sx2 i).rt = (sx1 i).rt
 ev : Even an sx2
theorem sk_c {pt pr : Option Addr} (n : Nat) (hn : n < 18446744073709551616) (hk : ∀ i, i < an → ∃ k, kx = some k) (he : Even an sx) (hs : SelR an sx pt pr) (g : Bool) : ∃ E sx1 sx2, SkC kx g an sx pt pr n E sx1 sx2 := by
 rcases hs with ⟨rfl, rfl⟩ | ⟨i, hi, rfl, rfl⟩
 ·refine ⟨1, sx, sx, fun w B m av lv lz h => ?_, fun w B m av lv lz h => ?_, fun i => ⟨rfl, rfl⟩, fun i => ⟨rfl, rfl⟩, he⟩
  ·refine (skip_nil _ w).mono ?_
   rintro e w' ⟨rfl, hw⟩
   obtain rfl := hw.symm
   exact ⟨rfl, h, FrP.refl _ _⟩
  ·refine (rskip_nil _ w).mono ?_
   rintro e w' ⟨rfl, hw⟩
   obtain rfl := hw.symm
   exact ⟨rfl, h, FrP.refl _ _⟩
 ·obtain ⟨k, rfl⟩ := hk i hi
  have hnn := he i hi
  refine ⟨skR g (sx i).np n, updP sx i (adv (skR g (sx i).np n) (sx i).np n), updR (updP sx i (adv (skR g (sx i).np n) (sx i).np n)) i (adv (skR g (sx i).np n) (sx i).np n), fun w B m av lv lz h => ?_, fun w B m av lv lz h => ?_, updP_id _ _ _, updR_id _ _ _, even_upd he⟩
  ·exact skip_b i n hi hn h
  ·have hx := rskip_b i n hi h
   rw [updP_at] at hx
   rw [← hnn] at hx
   exact hx
end Go.Proofs.YtgmfiljjogdccabGreatDoor
namespace Go.Proofs.YtgmfiljjogdccabGreatDoor
open Go.RowKit Go.RwLone Go.Conc.Locks
set_option linter.unusedVariables false
variable {w u v : World} {B m : Nat} {kx : Option Kx} {gP gR : Bool} {an : Nat} {sx : Nat → Sx} {av lv : Value} {lz : List Int}
theorem BS.keepN (h0 : BS w B m kx gP gR an sx av lv lz) (h : BS u B m kx gP gR an sx av lv lz) (hb : ∀ b, b < w.heap.size → v.heap[b]? = u.heap[b]?) (hs : u.heap.size ≤ v.heap.size) : BS v B m kx gP gR an sx av lv lz := by
 have hc : ∀ j, v.cell? ⟨m, j, none⟩ = u.cell? ⟨m, j, none⟩ := fun j => World.cell?_of_block (a := ⟨m, j, none⟩) (hb m h0.mlt)
 refine ⟨(hc _).trans h.ck, (hc _).trans h.cr, (hc _).trans h.ca, (hc _).trans h.cl, there_sameG h.room (hb m h0.mlt), fun k e => ?_, fun i hi => ?_, ?_, ?_, h.lb, h.ll, h.ord, h.aa, h.la⟩
 ·obtain ⟨q1, q2, q3, q4, q5⟩ := h.kk k e
  obtain ⟨p1, p2, p3, p4, p5⟩ := h0.kk k e
  exact ⟨q1, q2.same (hb _ p2.lt) hs, q3.same (hb _ p3.lt) (fun q => hb _ (by have := h0.mlt; omega)) hs, q4, q5⟩
 ·obtain ⟨k, e, q1, q2⟩ := h.st i hi
  obtain ⟨k', e', p1, p2⟩ := h0.st i hi
  exact ⟨k, e, q1.sameG (hb _ p1.here) hs, q2.sameG (hb _ p2.here) hs⟩
 ·exact owns_same h.ar (fun b q => hb b (owns_blks h0.ar b q).2)
 ·exact view_keepP h.lw (fun e b q => hb b (view_blks h0.lw e b q))
/-- A block of one's own, with its cells. -/
structure BxAt (u : World) (S : Nat → Prop) (A : Nat) (L : List Value) : Prop where
 c : u.rangeAt A 0 L
 lt : A < u.heap.size
 far : ¬ S A
theorem BxAt.frp {S : Nat → Prop} {A : Nat} {L : List Value} (h : BxAt u S A L) (f : FrP u v S) : BxAt v S A L :=
 ⟨fun j x hx => (World.cell?_of_block (a := ⟨A, 0 + j, none⟩) (f.block A h.lt h.far)).trans (h.c j x hx), Nat.lt_of_lt_of_le h.lt f.size, h.far⟩
/-- The state, and what it came of. -/
structure SF (w u : World) (B m : Nat) (kx : Option Kx) (g : Bool) (an : Nat) (sx : Nat → Sx) (av lv : Value) (lz : List Int) : Prop where
 s : BS u B m kx g g an sx av lv lz
 f : FrP w u (BW m kx an sx av)
theorem SF.below {g : Bool} (h : SF w u B m kx g an sx av lv lz) (hb : Below u.heap.size u v) : SF w v B m kx g an sx av lv lz := ⟨h.s.below hb, h.f.trans (below_frp hb _)⟩
theorem SF.then {g : Bool} (h : SF w u B m kx g an sx av lv lz) (s : BS v B m kx g g an sx av lv lz) (f : FrP u v (BW m kx an sx av)) : SF w v B m kx g an sx av lv lz := ⟨s, h.f.trans f⟩
/-- A store into a block that is new. -/
theorem SF.store {g : Bool} (h0 : BS w B m kx g g an sx av lv lz) (h : SF w u B m kx g an sx av lv lz) (A : Nat) (L : List Value) (hA : w.heap.size ≤ A) : SF w (u.setCells A 0 L) B m kx g an sx av lv lz := by
 have f := setCells_frG u A 0 L
 refine ⟨h0.keepN h.s (fun b hb => f.block b (Nat.lt_of_lt_of_le hb h.f.size) (fun q => by have := List.mem_singleton.1 q; omega)) f.size, ⟨f.os.trans h.f.os, f.tape.trans h.f.tape, f.output.trans h.f.output, Nat.le_trans h.f.size f.size, fun b hb hn => (f.block b (Nat.lt_of_lt_of_le hb h.f.size) (fun q => by have := List.mem_singleton.1 q; omega)).trans (h.f.block b hb hn)⟩⟩
theorem bx_store {S : Nat → Prop} {A : Nat} {L : List Value} (ht : u.there A 0 L.length) (hl : A < u.heap.size) (hn : ¬ S A) : BxAt (u.setCells A 0 L) S A L := ⟨World.rangeAt_setCells_same _ _ _ _ ht, by rw [sizeB_setCells]; exact hl, hn⟩
theorem there_lt16 {A : Nat} (h : u.there A 0 16) : A < u.heap.size := by
 obtain ⟨x, hx⟩ := Option.isSome_iff_exists.1 (h 0 (by omega)).1
 exact World.block_lt_of_cell? u _ hx
theorem eq_ar (f : Nat → Nat) (u : World) : (Op.equalIn 10000 38 (.agg (arL f).toArray) (.agg (arL f).toArray)).run Tryz.prog u = .ok true u := eq_same (f 0 : Nat) (f 1 : Nat) (f 2 : Nat) (f 3 : Nat) (f 4 : Nat) (f 5 : Nat) (f 6 : Nat) (f 7 : Nat) (f 8 : Nat) (f 9 : Nat) (f 10 : Nat) (f 11 : Nat) (f 12 : Nat) (f 13 : Nat) (f 14 : Nat) (f 15 : Nat) u
theorem EncR_off {g : Bool} {s : W4} (h : kE kx g ≠ 0) : EncR kx g s = zero8 := by
 cases kx with
 | none => rfl
 | some k =>
  cases g with
  | true => rfl
  | false => exact absurd rfl h
theorem DecR_off {g : Bool} {s : W4} (h : kE kx g ≠ 0) : DecR kx g s = zero8 := by
 cases kx with
 | none => rfl
 | some k =>
  cases g with
  | true => rfl
  | false => exact absurd rfl h
/-- Sixteen cells of a block. -/
structure B16 (L : List Value) : Prop where
 len : L.length = 16
 sz : (Tryz.prog.info? 38).map (·.size) = some L.length
 sza : (Tryz.prog.info? 38).map (·.size) = some L.toArray.size
 one : L.toArray.all (·.oneCell') = true
theorem b16 (f : Nat → Nat) : B16 (arL f) := ⟨rfl, size42, size42, by rw [arL_array]; exact arA_one f⟩
end Go.Proofs.YtgmfiljjogdccabGreatDoor
namespace Go.Proofs.YtgmfiljjogdccabGreatDoor
open Go.RowKit Go.RwLone Go.Conc.Locks
set_option linter.unusedVariables false
set_option linter.unusedSimpArgs false
set_option maxHeartbeats 6400000 in
set_option maxRecDepth 100000 in
theorem one_wrap (w : World) (B m : Nat) (kx : Option Kx) (g : Bool) (an : Nat) (sx : Nat → Sx) (av lv : Value) (lz : List Int) (o : OpV) (h : BS w B m kx g g an sx av lv lz) (he : Even an sx) (ho : OpOk o) (hd : Dat w (BW m kx an sx av) o.dv o.zs) (hk : o.k = 6) :
  Calls Tryz.prog 7 #[.pointer (some ⟨m, 0, none⟩), .agg o.L.toArray] w (OneP w B m kx an) := by
 obtain ⟨ok, oa, on, os, da, dn, dc, zs⟩ := o
 simp only at hk
 subst hk
 obtain ⟨S, HS⟩ : ∃ S, Hid (S = BW m kx an sx av) := ⟨_, rfl⟩
 obtain ⟨h1, h2, h3, h4⟩ := os_start _ h hd
 have HOK : Hid (OpOk ⟨6, oa, on, os, da, dn, dc, zs⟩) := ho
 have HEV : Hid (Even an sx) := he
 have HBm : Hid (B ≤ w.heap.size) := Nat.le_trans h.ord.1 (Nat.le_of_lt h.mlt)
 obtain ⟨W1, HW1⟩ : ∃ W, Hid (W = w.alloc (.cells (OpV.L ⟨6, oa, on, os, da, dn, dc, zs⟩).toArray 40)) := ⟨_, rfl⟩
 rw [← HW1.out] at h1 h2 h3 h4
 have H1 : Hid (BS W1 B m kx g g an sx av lv lz) := h1
 have H2 : Hid (OpAt W1 (BW m kx an sx av) w.heap.size ⟨6, oa, on, os, da, dn, dc, zs⟩) := h2
 have H3 : Hid (Dat W1 (BW m kx an sx av) (.slice da dn dc) zs) := h3
 have H4 : Hid (Below w.heap.size w W1) := h4
 have c19 : W1.cell? ⟨w.heap.size, 19, none⟩ = some (.slice da dn dc) := H2.out.cell 19 _ rfl
 have c0 : W1.cell? ⟨w.heap.size, 0, none⟩ = some (.int .i64 6) := H2.out.cell 0 _ rfl
 have K11 : Hid (Calls Tryz.prog 11 #[.slice da dn dc] W1 fun e w' => ∃ v', e = .returned v' ∧ Marked W1.heap.size w' v' zs ∧ Below W1.heap.size W1 w') := copy_any _ zs W1 ho.mx h3.vw
 clear h1 h2 h3 h4 h he ho hd
 unfold OpV.L at HW1 ⊢
 simp only at HW1 ⊢
 generalize sb os 0 = s0 at HW1 ⊢
 generalize sb os 1 = s1 at HW1 ⊢
 generalize sb os 2 = s2 at HW1 ⊢
 generalize sb os 3 = s3 at HW1 ⊢
 generalize sb os 4 = s4 at HW1 ⊢
 generalize sb os 5 = s5 at HW1 ⊢
 generalize sb os 6 = s6 at HW1 ⊢
 generalize sb os 7 = s7 at HW1 ⊢
 generalize sb os 8 = s8 at HW1 ⊢
 generalize sb os 9 = s9 at HW1 ⊢
 generalize sb os 10 = s10 at HW1 ⊢
 generalize sb os 11 = s11 at HW1 ⊢
 generalize sb os 12 = s12 at HW1 ⊢
 generalize sb os 13 = s13 at HW1 ⊢
 generalize sb os 14 = s14 at HW1 ⊢
 generalize sb os 15 = s15 at HW1 ⊢
 obtain ⟨bo, HBO⟩ : ∃ b, Hid (w.heap.size = b) := ⟨_, rfl⟩
 go_enter Tryz.func7, Tryz.ntmps7
 go_upto_region 1 with fail
 rw [← HW1.out, HBO.out]
 rw [HBO.out] at H2 c19 c0
 go_wp2_with (first | (go_at_call 11; refine K11.out.mono ?_))
 rintro e2 w2 ⟨own, rfl, hm2, hb2⟩
 have H : Hid (OS w2 B m kx g g an sx av lv lz (BW m kx an sx av) bo ⟨6, oa, on, os, da, dn, dc, zs⟩ own) := os_copied H1.out H2.out H3.out hm2 hb2
 have HB : Hid (Below B w w2) := (H4.out.mono HBm.out).trans (hb2.mono (Nat.le_trans HBm.out H4.out.size))
 clear hm2 hb2 c19 c0 K11 H1 H2 H3 H4
 have c0 : w2.cell? ⟨bo, 0, none⟩ = some (.int .i64 6) := H.out.op.cell 0 _ rfl
 go_upto_region 33 with fail
 obtain ⟨pg, HPG⟩ : ∃ p, Hid (gq (kx.map Kx.g) = .pointer p) := gq_ptr _
 obtain ⟨pr, HPR⟩ : ∃ p, Hid (gq (kx.map Kx.g2) = .pointer p) := gq_ptr _
 have ck : w2.cell? ⟨m, 0, none⟩ = some (.pointer pg) := by rw [← HPG.out]; exact H.out.s.ck
 obtain ⟨ob, oc, rfl, hoa⟩ := H.out.own
 simp only at hoa
 have KP : Hid (Calls Tryz.prog 26 #[.pointer pg, .slice (some ⟨ob, 0, none⟩) zs.length oc] w2 (LsP w2 B m kx g g an sx av lv lz (wrapR kx g zs) (BW m kx an sx av))) := by
  show Calls _ _ _ _ _
  rw [← HPG.out]
  exact wrap_b ob oc zs H.out.s hoa
 clear hoa
 obtain ⟨RR, HRR⟩ : ∃ R, Hid (R = wrapR kx g zs) := ⟨_, rfl⟩
 rw [← HRR.out] at KP
 obtain ⟨E, Z⟩ := RR
 go_wp2_with (first | (go_at_call 26; refine KP.out.mono ?_))
 rintro e3 w3 ⟨xa, xn, xc, rfl, hx3, h3, f3, n3⟩
 have H3 : Hid (OS w3 B m kx g g an sx av lv lz (BW m kx an sx av) bo ⟨6, oa, on, os, da, dn, dc, zs⟩ (.slice (some ⟨ob, 0, none⟩) zs.length oc)) := H.out.to h3 f3 (fun i => ⟨rfl, rfl⟩)
 have HB3 : Hid (Below B w w3) := HB.out.trans (f3.toBelow (fun b q => (H.out.s.bw b q).1) (Nat.le_trans HBm.out HB.out.size))
 have HX3 : Hid (View w3 (.slice xa xn xc) Z ∧ (Z ≠ [] → ∀ b, b ∈ vblk (.slice xa xn xc) → ¬ BW m kx an sx av b)) := ⟨hx3, fun e b q x => by have h1 := n3 e b q; have h2 := (H.out.s.bw b x).2; omega⟩
 clear h3 f3 n3 hx3 ck KP c0
 have G1 : Hid (∀ u, Below w3.heap.size w3 u → u.cell? ⟨m, 1, none⟩ = some (.pointer pr)) := fun u hu => (hu.cell (p := ⟨m, 1, none⟩) H3.out.s.mlt).trans (by rw [← HPR.out]; exact H3.out.s.cr)
 have G2 : Hid (∀ u, Below w3.heap.size w3 u → u.cell? ⟨bo, 19, none⟩ = some (.slice da dn dc)) := fun u hu => (hu.cell (p := ⟨bo, 19, none⟩) H3.out.op.lt).trans (H3.out.op.cell 19 _ rfl)
 have KR : Hid (∀ u, Below w3.heap.size w3 u → Calls Tryz.prog 27 #[.pointer pr, .slice da dn dc] u (LsN u (E, Z))) := fun u hu => by
  rw [HRR.out, ← HPR.out]
  exact rwrap_b _ zs (H3.out.below hu).s (H3.out.below hu).dat
 go_upto_region 34 with fail
 have hS0 : Below w3.heap.size w3 w3.drew := (Below.refl _ _).drew
 refine wp_region_noPanic ?_
 refine wp_region_held_drew (S := fun u => Below w3.heap.size w3 u) (by kernel_rfl) (hS0) (fun _ => ?_)
 refine tG 0 260 (.pointer (some ⟨m, 0, none⟩)) rfl rfl hS0 ?_
 simp only [pU]
 refine tG 1 261 (.pointer (some ⟨m, 0, none⟩)) rfl rfl hS0 ?_
 simp only [pU]
 refine tG 2 262 (.pointer (some ⟨m, 1, none⟩)) rfl rfl hS0 ?_
 simp only [pU]
 refine tQ 3 263 (.pointer pr) rfl rfl hS0 G1.out ?_
 simp only [pU]
 refine tG 4 264 (.pointer (some ⟨bo, 19, none⟩)) rfl rfl hS0 ?_
 simp only [pU]
 refine tQ 5 265 (.slice da dn dc) rfl rfl hS0 G2.out ?_
 simp only [pU]
 refine wpAnyH_ready (rs := [6]) (by kernel_rfl) (by simp) ?_
 refine AllReadyH.cons rfl (fun K hK => ?_) AllReadyH.nil
 go_simp
 refine (KR.out _ hS0).mono ?_
 rintro e4 w4 ⟨ya, yn, yc, rfl, hv4, hb4, hby4, hf4⟩
 have hS4 : Below w3.heap.size w3 w4 := hS0.trans (hb4.mono hS0.size)
 go_wp2_with fail
 refine hK.out _ _ hS4 (fun _ => ?_)
 clear hK K
 try simp only [pU]
 refine tG 7 259 (.tuple #[.slice ya yn yc, .int .i64 E]) rfl rfl hS4 ?_
 simp only [pU]
 refine tG 8 267 (.slice ya yn yc) rfl rfl hS4 ?_
 simp only [pU]
 refine tG 9 268 (.int .i64 E) rfl rfl hS4 ?_
 simp only [pU]
 refine tG 10 23 (.slice ya yn yc) rfl rfl hS4 ?_
 simp only [pU]
 refine tG 11 24 (.int .i64 E) rfl rfl hS4 ?_
 simp only [pU]
 refine wpAnyH_done (by kernel_rfl) ?_ _
 refine NoPanic.normal ?_
 have H4 : Hid (OS w4 B m kx g g an sx av lv lz (BW m kx an sx av) bo ⟨6, oa, on, os, da, dn, dc, zs⟩ (.slice (some ⟨ob, 0, none⟩) zs.length oc)) := H3.out.below hS4
 have HB4 : Hid (Below B w w4) := HB3.out.trans (hS4.mono (Nat.le_trans HBm.out HB3.out.size))
 have HX4 : Hid (View w4 (.slice xa xn xc) Z ∧ (Z ≠ [] → ∀ b, b ∈ vblk (.slice xa xn xc) → ¬ BW m kx an sx av b)) := ⟨view_frp HX3.out.1 HX3.out.2 (below_frp hS4 _), HX3.out.2⟩
 have HY4 : Hid (View w4 (.slice ya yn yc) Z ∧ AllBytes Z ∧ (Z ≠ [] → ∀ b, b ∈ vblk (.slice ya yn yc) → ¬ BW m kx an sx av b)) := ⟨hv4, hby4, fun e b q x => by have h1 := hf4 e b q; have h2 := (H3.out.s.bw b x).2; have h3 := hS0.size; omega⟩
 clear hS4 hS0 hv4 hby4 hf4 hb4 H3 HB3 HX3 G1 G2 KR
 have K6 : Hid (∀ u, Calls Tryz.prog 6 #[.int .i64 E] u fun e u' => e = .returned (.int .i64 E) ∧ u' = u) := num_o _
 obtain ⟨own, HOW⟩ : ∃ x, Hid (x = Value.slice (some ⟨ob, 0, none⟩) zs.length oc) := ⟨_, rfl⟩
 have c3 : w4.cell? ⟨m, 3, none⟩ = some lv := H4.out.s.cl
 obtain ⟨la, lc, hlv, _⟩ := H4.out.s.lw
 have c3' : w4.cell? ⟨m, 3, none⟩ = some (.slice la lz.length lc) := by rw [c3, hlv]
 have z3 : w4.frozen? ⟨m, 3, none⟩ = false := by have := (H4.out.s.room 3 (by omega)).2; rwa [Nat.zero_add] at this
 have HS5 : Hid (BS (w4.setCell ⟨m, 3, none⟩ (.slice ya yn yc)) B m kx g g an sx av (.slice ya yn yc) Z) := H4.out.s.last HY4.out.1 HY4.out.2.1 (by have := wrapR_len kx g zs; rw [← HRR.out] at this; exact this) HY4.out.2.2
 have HF5 : Hid (FrP w4 (w4.setCell ⟨m, 3, none⟩ (.slice ya yn yc)) (BW m kx an sx av)) := (set_fr w4 m 3 _).toP (fun b q => .inl (List.mem_singleton.1 q))
 clear c3 hlv
 go_upto_region 36 with fail
 generalize w4.setCell ⟨m, 3, none⟩ (.slice ya yn yc) = w5 at HS5 HF5 ⊢
 clear c3' z3
 have H5 : Hid (OS w5 B m kx g g an sx av (.slice ya yn yc) Z (BW m kx an sx av) bo ⟨6, oa, on, os, da, dn, dc, zs⟩ (.slice (some ⟨ob, 0, none⟩) zs.length oc)) := H4.out.to HS5.out HF5.out (fun i => ⟨rfl, rfl⟩)
 have HB5 : Hid (Below B w w5) := HB4.out.trans (HF5.out.toBelow (fun b q => (H4.out.s.bw b q).1) (Nat.le_trans HBm.out HB4.out.size))
 have HX5 : Hid (View w5 (.slice xa xn xc) Z) := view_frp HX4.out.1 HX4.out.2 HF5.out
 have HY5 : Hid (View w5 (.slice ya yn yc) Z) := HS5.out.lw
 have G5 : Hid (w5.cell? ⟨bo, 19, none⟩ = some (.slice da dn dc)) := H5.out.op.cell 19 _ rfl
 have K15 : Hid (∀ q, Calls Tryz.prog 15 #[.slice xa xn xc, .int .i64 E, .slice ya yn yc, .int .i64 E, own, .slice da dn dc] (w5.drewN q) fun e u' => e = .returned (.bool true) ∧ ∃ r, u' = (w5.drewN q).drewN r) := fun q => lists_ok _ _ _ _ E Z zs (BW m kx an sx av) _ (view_drew HX5.out q) (view_drew HY5.out q) (by rw [HOW.out]; exact H5.out.w.drew q) (view_drew H5.out.d.vw q)
 rw [← HOW.out]
 go_upto_region 36 with fail
 have hS5 : ∃ q, w5.drew = w5.drewN q := ⟨1, rfl⟩
 refine wp_region_noPanic ?_
 refine wp_region_held_drew (S := fun u => ∃ q, u = w5.drewN q) (by kernel_rfl) (hS5) (fun _ => ?_)
 refine tG 0 273 (.slice xa xn xc) rfl rfl hS5 ?_
 simp only [pU]
 refine tG 1 274 (.int .i64 E) rfl rfl hS5 ?_
 simp only [pU]
 refine tG 3 276 (.slice ya yn yc) rfl rfl hS5 ?_
 simp only [pU]
 refine tG 4 277 (.int .i64 E) rfl rfl hS5 ?_
 simp only [pU]
 refine tG 5 278 (own) rfl rfl hS5 ?_
 simp only [pU]
 refine tG 6 279 (.pointer (some ⟨bo, 19, none⟩)) rfl rfl hS5 ?_
 simp only [pU]
 refine tH 7 280 (.slice da dn dc) rfl rfl (by kernel_rfl) (hS5) (Or.inl ⟨by rfl, fun w' hS' => by obtain ⟨qq, rfl⟩ := hS'; have q1 : (w5.drewN qq).cell? ⟨bo, 19, none⟩ = some (.slice da dn dc) := H5.out.op.cell 19 _ rfl; go_simp⟩) ?_
 simp only [pU]
 refine wpAnyH_ready (rs := [2]) (by kernel_rfl) (by simp) ?_
 refine AllReadyH.cons rfl (fun K hK => ?_) AllReadyH.nil
 go_simp
 refine (K6.out _).mono ?_
 rintro e6 w6 ⟨rfl, hw6⟩
 obtain rfl := hw6.symm
 go_wp2_with fail
 refine hK.out _ _ hS5 (fun _ => ?_)
 clear hK K
 try simp only [pU]
 refine wpAnyH_ready (rs := [8]) (by kernel_rfl) (by simp) ?_
 refine AllReadyH.cons rfl (fun K hK => ?_) AllReadyH.nil
 go_simp
 refine (K15.out 1).mono ?_
 rintro e7 w7 ⟨rfl, q7, rfl⟩
 have hS7 : ∃ q, w5.drewN (1 + q7) = w5.drewN q := ⟨1 + q7, rfl⟩
 go_wp2_with fail
 refine hK.out _ _ hS7 (fun _ => ?_)
 clear hK K
 try simp only [pU]
 refine tG 9 4 (.bool true) rfl rfl hS7 ?_
 simp only [pU]
 refine wpAnyH_done (by kernel_rfl) ?_ _
 refine NoPanic.normal ?_
 go_wp2
 go_ret
 have H6 := H5.out.drew (1 + q7)
 exact H6.fin HEV.out (HB5.out.trans ((below_drewN _ (1 + q7)).mono (Nat.le_trans HBm.out HB5.out.size)))
end Go.Proofs.YtgmfiljjogdccabGreatDoor
namespace Go.Proofs.YtgmfiljjogdccabGreatDoor
open Go.RowKit Go.RwLone Go.Conc.Locks
set_option linter.unusedVariables false
set_option linter.unusedSimpArgs false
set_option maxHeartbeats 6400000 in
set_option maxRecDepth 100000 in
theorem one_other (w : World) (B m : Nat) (kx : Option Kx) (g : Bool) (an : Nat) (sx : Nat → Sx) (av lv : Value) (lz : List Int) (o : OpV) (h : BS w B m kx g g an sx av lv lz) (he : Even an sx) (ho : OpOk o) (hd : Dat w (BW m kx an sx av) o.dv o.zs) (hk : o.k ≠ 1 ∧ o.k ≠ 2 ∧ o.k ≠ 3 ∧ o.k ≠ 4 ∧ o.k ≠ 5 ∧ o.k ≠ 6 ∧ o.k ≠ 7 ∧ o.k ≠ 8 ∧ o.k ≠ 9) :
  Calls Tryz.prog 7 #[.pointer (some ⟨m, 0, none⟩), .agg o.L.toArray] w (OneP w B m kx an) := by
 obtain ⟨ok, oa, on, os, da, dn, dc, zs⟩ := o
 simp only at hk
 obtain ⟨S, HS⟩ : ∃ S, Hid (S = BW m kx an sx av) := ⟨_, rfl⟩
 obtain ⟨h1, h2, h3, h4⟩ := os_start _ h hd
 have HOK : Hid (OpOk ⟨ok, oa, on, os, da, dn, dc, zs⟩) := ho
 have HEV : Hid (Even an sx) := he
 have HBm : Hid (B ≤ w.heap.size) := Nat.le_trans h.ord.1 (Nat.le_of_lt h.mlt)
 obtain ⟨W1, HW1⟩ : ∃ W, Hid (W = w.alloc (.cells (OpV.L ⟨ok, oa, on, os, da, dn, dc, zs⟩).toArray 40)) := ⟨_, rfl⟩
 rw [← HW1.out] at h1 h2 h3 h4
 have H1 : Hid (BS W1 B m kx g g an sx av lv lz) := h1
 have H2 : Hid (OpAt W1 (BW m kx an sx av) w.heap.size ⟨ok, oa, on, os, da, dn, dc, zs⟩) := h2
 have H3 : Hid (Dat W1 (BW m kx an sx av) (.slice da dn dc) zs) := h3
 have H4 : Hid (Below w.heap.size w W1) := h4
 have c19 : W1.cell? ⟨w.heap.size, 19, none⟩ = some (.slice da dn dc) := H2.out.cell 19 _ rfl
 have c0 : W1.cell? ⟨w.heap.size, 0, none⟩ = some (.int .i64 ok) := H2.out.cell 0 _ rfl
 have K11 : Hid (Calls Tryz.prog 11 #[.slice da dn dc] W1 fun e w' => ∃ v', e = .returned v' ∧ Marked W1.heap.size w' v' zs ∧ Below W1.heap.size W1 w') := copy_any _ zs W1 ho.mx h3.vw
 clear h1 h2 h3 h4 h he ho hd
 unfold OpV.L at HW1 ⊢
 simp only at HW1 ⊢
 generalize sb os 0 = s0 at HW1 ⊢
 generalize sb os 1 = s1 at HW1 ⊢
 generalize sb os 2 = s2 at HW1 ⊢
 generalize sb os 3 = s3 at HW1 ⊢
 generalize sb os 4 = s4 at HW1 ⊢
 generalize sb os 5 = s5 at HW1 ⊢
 generalize sb os 6 = s6 at HW1 ⊢
 generalize sb os 7 = s7 at HW1 ⊢
 generalize sb os 8 = s8 at HW1 ⊢
 generalize sb os 9 = s9 at HW1 ⊢
 generalize sb os 10 = s10 at HW1 ⊢
 generalize sb os 11 = s11 at HW1 ⊢
 generalize sb os 12 = s12 at HW1 ⊢
 generalize sb os 13 = s13 at HW1 ⊢
 generalize sb os 14 = s14 at HW1 ⊢
 generalize sb os 15 = s15 at HW1 ⊢
 obtain ⟨bo, HBO⟩ : ∃ b, Hid (w.heap.size = b) := ⟨_, rfl⟩
 go_enter Tryz.func7, Tryz.ntmps7
 go_upto_region 1 with fail
 rw [← HW1.out, HBO.out]
 rw [HBO.out] at H2 c19 c0
 go_wp2_with (first | (go_at_call 11; refine K11.out.mono ?_))
 rintro e2 w2 ⟨own, rfl, hm2, hb2⟩
 have H : Hid (OS w2 B m kx g g an sx av lv lz (BW m kx an sx av) bo ⟨ok, oa, on, os, da, dn, dc, zs⟩ own) := os_copied H1.out H2.out H3.out hm2 hb2
 have HB : Hid (Below B w w2) := (H4.out.mono HBm.out).trans (hb2.mono (Nat.le_trans HBm.out H4.out.size))
 clear hm2 hb2 c19 c0 K11 H1 H2 H3 H4
 have c0 : w2.cell? ⟨bo, 0, none⟩ = some (.int .i64 ok) := H.out.op.cell 0 _ rfl
 obtain ⟨k1, k2, k3, k4, k5, k6, k7, k8, k9⟩ := hk
 have b1 : (ok == 1) = false := by simp; exact k1
 have b2 : (ok == 2) = false := by simp; exact k2
 have b3 : (ok == 3) = false := by simp; exact k3
 have b4 : (ok == 4) = false := by simp; exact k4
 have b5 : (ok == 5) = false := by simp; exact k5
 have b6 : (ok == 6) = false := by simp; exact k6
 have b7 : (ok == 7) = false := by simp; exact k7
 have b8 : (ok == 8) = false := by simp; exact k8
 have b9 : (ok == 9) = false := by simp; exact k9
 clear k1 k2 k3 k4 k5 k6 k7 k8 k9
 go_wp2
 go_ret
 exact H.out.fin HEV.out HB.out
end Go.Proofs.YtgmfiljjogdccabGreatDoor
