import Derived.Test.YtgmfiljjogdccabGreatDoorPyb
import Derived.Test.YtgmfiljjogdccabGreatDoorPart00
namespace Go.Proofs.YtgmfiljjogdccabGreatDoor
open Go.RowKit Go.RwLone Go.Conc.Locks
set_option linter.unusedVariables false
variable {w v : World} {B m : Nat} {kx : Option Kx} {gP gR : Bool} {an : Nat} {sx : Nat → Sx} {av lv : Value} {lz : List Int}
theorem skip_b (i q : Nat) {k : Kx} (hi : i < an) (hq : q < 18446744073709551616) (h : BS w B m (some k) gP gR an sx av lv lz) : Calls Tryz.prog 17 #[.pointer (some ⟨(sx i).t, 0, none⟩), .int .u64 (q : Nat)] w fun e w' => e = .returned (.int .i64 (skR gP (sx i).np q)) ∧ BS w' B m (some k) gP gR an (updP sx i (adv (skR gP (sx i).np q) (sx i).np q)) av lv lz ∧ FrP w w' (BW m (some k) an sx av) := by
 obtain ⟨k', e, hs, _⟩ := h.st i hi
 obtain rfl := Option.some.inj e
 have hp := (h.kk k rfl).2.1
 have hord := h.ord.2.1 i hi
 obtain ⟨r1, _, _, _, r5⟩ := h.kk k rfl
 have hg2 := r1.g2
 have hgr := r1.gr
 have hne : (sx i).t ≠ k.g := by omega
 have hadv : ∀ E : Int, E ≠ 0 → adv E (sx i).np q = (sx i).np := fun E hE => by unfold adv; rw [if_neg hE]
 have hsame : ∀ w', Touch w w' k.g 4 1 → PK w' k gP → BS w' B m (some k) gP gR an (updP sx i (sx i).np) av lv lz ∧ FrP w w' (BW m (some k) an sx av) := fun w' ht hk => by
  refine ⟨h.pst rfl i _ hi (touch_fr ht) (fun b q => .inl (List.mem_singleton.1 q)) hk (hs.touch ht hne), (touch_fr ht).toP (fun b q => .inr (.inl ⟨k, rfl, .inl (List.mem_singleton.1 q)⟩))⟩
 cases gP with
 | true =>
  have e0 : skR true (sx i).np q = 21 := rfl
  rw [e0, hadv 21 (by decide)]
  refine (skip_gone _ k.g _ _ _ w (hp.off rfl) hs).mono ?_
  rintro e w' ⟨rfl, h1, h2⟩
  exact ⟨rfl, hsame w' h2 ⟨hp.free.touch h2, fun e => (by cases e), fun _ => h1⟩⟩
 | false =>
  have hk := hp.on rfl
  by_cases hl : 1099511627776 < (sx i).np + q
  ·have e0 : skR false (sx i).np q = 4 := by unfold skR; simp only [Bool.false_eq_true, if_false]; rw [if_pos hl]
   rw [e0, hadv 4 (by decide)]
   refine (skip_long _ k.g _ q _ k.K _ w hk hs hne hl hq).mono ?_
   rintro e w' ⟨rfl, h1, h2⟩
   exact ⟨rfl, hsame w' h2 ⟨hp.free.touch h2, fun _ => h1, fun e => (by cases e)⟩⟩
  ·have e0 : skR false (sx i).np q = 0 := by unfold skR; simp only [Bool.false_eq_true, if_false]; rw [if_neg hl]
   have ea : adv 0 (sx i).np q = (sx i).np + q := by unfold adv; rw [if_pos rfl]
   rw [e0, ea]
   refine (skip_ok _ k.g _ q _ k.K _ w hk hs hne (by omega)).mono ?_
   rintro e w' ⟨rfl, h1, h2, h3⟩
   have hf : Fr w w' [k.g, (sx i).t] := ⟨h3.os, h3.tape, h3.output, h3.size, fun b hb hn => h3.block b hb (fun e => hn (by simp [e])) (fun e => hn (by simp [e]))⟩
   refine ⟨rfl, h.pst rfl i _ hi hf (fun b q => by simpa using q) ⟨h3.lock.trans hp.free, fun _ => h1, fun e => (by cases e)⟩ h2, hf.toP (fun b q => ?_)⟩
   rcases (by simpa using q : b = k.g ∨ b = (sx i).t) with q | q
   ·exact .inr (.inl ⟨k, rfl, .inl q⟩)
   ·exact .inr (.inr (.inl ⟨i, hi, .inl q⟩))
theorem RK.cell {k : Kx} (h : RK w k gR) : w.cell? ⟨k.g2, 4610, none⟩ = some (.bool gR) := by
 cases gR with
 | false => exact (h.on rfl).wiped
 | true => exact (h.off rfl).wiped
theorem rskip_b (i q : Nat) {k : Kx} (hi : i < an) (h : BS w B m (some k) gP gR an sx av lv lz) : Calls Tryz.prog 18 #[.pointer (some ⟨(sx i).rt, 0, none⟩), .int .u64 (q : Nat)] w fun e w' => e = .returned (.int .i64 (skR gR (sx i).nr q)) ∧ BS w' B m (some k) gP gR an (updR sx i (adv (skR gR (sx i).nr q) (sx i).nr q)) av lv lz ∧ FrP w w' (BW m (some k) an sx av) := by
 obtain ⟨k', e, _, hs⟩ := h.st i hi
 obtain rfl := Option.some.inj e
 have hc := (h.kk k rfl).2.2.1.cell
 have hadv : ∀ E : Int, E ≠ 0 → adv E (sx i).nr q = (sx i).nr := fun E hE => by unfold adv; rw [if_neg hE]
 have hid : BS w B m (some k) gP gR an (updR sx i (sx i).nr) av lv lz := h.rst rfl i _ hi (Fr.refl _ []) (fun b q => by cases q) hs
 cases gR with
 | true =>
  have e0 : skR true (sx i).nr q = 21 := rfl
  rw [e0, hadv 21 (by decide)]
  refine (rskip_gone _ k.g2 _ q _ w hs hc).mono ?_
  rintro e w' ⟨rfl, hw⟩
  obtain rfl := hw.symm
  exact ⟨rfl, hid, FrP.refl _ _⟩
 | false =>
  by_cases hl : 1099511627776 < (sx i).nr + q
  ·have e0 : skR false (sx i).nr q = 4 := by unfold skR; simp only [Bool.false_eq_true, if_false]; rw [if_pos hl]
   rw [e0, hadv 4 (by decide)]
   refine (rskip_long _ k.g2 _ q _ w hs hc hl).mono ?_
   rintro e w' ⟨rfl, hw⟩
   obtain rfl := hw.symm
   exact ⟨rfl, hid, FrP.refl _ _⟩
  ·have e0 : skR false (sx i).nr q = 0 := by unfold skR; simp only [Bool.false_eq_true, if_false]; rw [if_neg hl]
   have ea : adv 0 (sx i).nr q = (sx i).nr + q := by unfold adv; rw [if_pos rfl]
   rw [e0, ea]
   refine (rskip_ok _ k.g2 _ q _ w hs hc (by omega)).mono ?_
   rintro e w' ⟨rfl, h1, h2⟩
   exact ⟨rfl, h.rst rfl i _ hi (touch_fr h2) (fun b q => List.mem_singleton.1 q) h1, (touch_fr h2).toP (fun b q => .inr (.inr (.inl ⟨i, hi, .inr (List.mem_singleton.1 q)⟩)))⟩
/-- Bytes that came in. -/
structure Dat (w : World) (S : Nat → Prop) (v : Value) (zs : List Int) : Prop where
 vw : View w v zs
 far : zs ≠ [] → ∀ b, b ∈ vblk v → ¬ S b
 by' : AllBytes zs
theorem Dat.frp {w w' : World} {S : Nat → Prop} {v : Value} {zs : List Int} (h : Dat w S v zs) (f : FrP w w' S) : Dat w' S v zs :=
 ⟨view_keepP h.vw (fun e b q => f.block b (view_blks h.vw e b q) (h.far e b q)), h.far, h.by'⟩
/-- A copy with marks behind it. -/
structure Own (w : World) (S : Nat → Prop) (v : Value) (zs : List Int) : Prop where
 mkd : Marked 0 w v zs
 far : ∀ b, b ∈ vblk v → ¬ S b
 by' : AllBytes zs
theorem Own.frp {w w' : World} {S : Nat → Prop} {v : Value} {zs : List Int} (h : Own w S v zs) (f : FrP w w' S) : Own w' S v zs := by
 obtain ⟨⟨g, c, rfl, ho⟩, hf, hb⟩ := h
 refine ⟨⟨g, c, rfl, owns_same ho (fun b q => f.block b (owns_blks ho b q).2 (hf b ?_))⟩, hf, hb⟩
 simpa [vblk, Value.ownBlock] using q
theorem Own.at {w : World} {S : Nat → Prop} {v : Value} {zs : List Int} (h : Own w S v zs) : ∃ b c, v = .slice (some ⟨b, 0, none⟩) zs.length c ∧ OwnAt w S b c zs := by
 obtain ⟨hm, hf, hb⟩ := h
 obtain ⟨g, c, rfl, hc, hx, h1, _⟩ := hm.cells
 obtain ⟨g', c', e, ho⟩ := hm
 simp only [Value.slice.injEq, Option.some.injEq, Addr.mk.injEq, and_true, true_and] at e
 obtain ⟨rfl, rfl⟩ := e
 exact ⟨g, c, rfl, fun i hi => by rw [nat8_eq hb i]; exact h1 i hi, (owns_blks ho g (by simp [vblk, Value.ownBlock])).2, by omega, hx, hb, hf g (by simp [vblk, Value.ownBlock])⟩
theorem Own.new {w w' : World} {S : Nat → Prop} {v : Value} {zs : List Int} (h : Marked w.heap.size w' v zs) (hb : AllBytes zs) (hS : ∀ b, S b → b < w.heap.size) : Own w' S v zs := by
 obtain ⟨g, c, rfl, ho⟩ := h
 refine ⟨⟨g, c, rfl, ho.1, ?_⟩, fun b q hs => ?_, hb⟩
 ·rcases ho.2 with h | ⟨g', c', cur, e, h1, h2⟩
  ·exact .inl h
  ·exact .inr ⟨g', c', cur, e, Nat.zero_le _, h2⟩
 ·have h1 := (owns_blks ho b (by simpa [vblk, Value.ownBlock] using q)).1
  have h2 := hS b hs
  omega
theorem Dat.at {w : World} {S : Nat → Prop} {v : Value} {zs : List Int} (h : Dat w S v zs) : ∃ a c, v = .slice a zs.length c ∧ zs.length ≤ c ∧ c ≤ maxLen ∧ (zs ≠ [] → ∃ b off, a = some ⟨b, off, none⟩ ∧ b < w.heap.size ∧ ¬ S b ∧ ∀ i, i < zs.length → w.cell? ⟨b, off + i, none⟩ = some (.int .u8 (nat8 zs i : Nat))) := by
 have hv := h.vw
 obtain ⟨a, c, rfl, h1, h2, h3, h4⟩ := h.vw
 refine ⟨a, c, rfl, h1, h2, fun e => ?_⟩
 rcases h4 with h4 | ⟨b, off, rfl, h5⟩
 ·exact absurd h4 e
 ·exact ⟨b, off, rfl, view_blks hv e b (by simp [vblk, Value.ownBlock]), h.far e b (by simp [vblk, Value.ownBlock]), fun i hi => by rw [nat8_eq h.by' i]; exact h5 i hi⟩
set_option maxRecDepth 100000 in
theorem rxor_zero (t g n cap : Nat) (a : Option Addr) (s0 : W4) (w : World) (hs : StreamAt w t g s0 n) (hw : w.cell? ⟨g, 4610, none⟩ = some (.bool false)) : Calls Tryz.prog 14 #[.pointer (some ⟨t, 0, none⟩), .slice a 0 cap] w fun e w' => e = .returned (.tuple #[.slice none 0 0, .int .i64 0]) ∧ w' = w := by
 have ck := hs.key
 have cp := hs.pos
 have hn40 := hs.most
 obtain ⟨lf, HLF⟩ : ∃ x, Hid (x = 1099511627776 - n) := ⟨_, rfl⟩
 have hsub : (1099511627776 : Int) - ((n : Nat) : Int) = ((lf : Nat) : Int) := by have := HLF.out; omega
 have hlf : lf ≤ 1099511627776 := by have := HLF.out; omega
 clear hs
 go_enter Tryz.func14, Tryz.ntmps14
 go_wp2
 go_loopw [6, 7] (fun v i wr => v = .slice none 0 0 ∧ i = .int .i64 0 ∧ wr = w) (fun _ _ _ => 0)
 case atStart => exact ⟨rfl, rfl, rfl⟩
 case round =>
  obtain ⟨rfl, rfl, rfl⟩ := hrel
  go_wp2
  go_ret2
  exact ⟨rfl, rfl⟩
theorem rxor_b (i : Nat) (dv : Value) (zs : List Int) {k : Kx} (hi : i < an) (h : BS w B m (some k) gP gR an sx av lv lz) (hd : Dat w (BW m (some k) an sx av) dv zs) : Calls Tryz.prog 14 #[.pointer (some ⟨(sx i).rt, 0, none⟩), dv] w (LsP w B m (some k) gP gR an (updR sx i (adv (xorR k gR (sx i).s0 (sx i).nr zs).1 (sx i).nr zs.length)) av lv lz (xorR k gR (sx i).s0 (sx i).nr zs) (BW m (some k) an sx av)) := by
 obtain ⟨k', e, _, hs⟩ := h.st i hi
 obtain rfl := Option.some.inj e
 obtain ⟨q1, q2, q3, q4, q5⟩ := h.kk k rfl
 have hc := q3.cell
 obtain ⟨a, c, rfl, hcap, hmx, hcell⟩ := hd.at
 have hmx' : c ≤ 9223372036854775807 := by unfold maxLen at hmx; omega
 have hadv : ∀ E : Int, E ≠ 0 → adv E (sx i).nr zs.length = (sx i).nr := fun E hE => by unfold adv; rw [if_neg hE]
 have hid : BS w B m (some k) gP gR an (updR sx i (sx i).nr) av lv lz := h.rst rfl i _ hi (Fr.refl _ []) (fun b q => by cases q) hs
 cases gR with
 | true =>
  have e0 : xorR k true (sx i).s0 (sx i).nr zs = (21, []) := rfl
  rw [e0, hadv 21 (by decide)]
  refine (rxor_gone _ k.g2 _ _ _ _ _ w hs hc).mono ?_
  rintro e w' ⟨rfl, hw⟩
  obtain rfl := hw.symm
  exact ⟨none, 0, 0, rfl, view_nil _, hid, FrP.refl _ _, fun e => absurd rfl e⟩
 | false =>
  by_cases hl : 1048576 < zs.length ∨ 1099511627776 < (sx i).nr + zs.length
  ·have e0 : xorR k false (sx i).s0 (sx i).nr zs = (4, []) := by unfold xorR; simp only [Bool.false_eq_true, if_false]; rw [if_pos hl]
   rw [e0, hadv 4 (by decide)]
   by_cases hl1 : 1048576 < zs.length
   ·refine (rxor_over _ k.g2 _ _ _ _ _ w hs hc hl1).mono ?_
    rintro e w' ⟨rfl, hw⟩
    obtain rfl := hw.symm
    exact ⟨none, 0, 0, rfl, view_nil _, hid, FrP.refl _ _, fun e => absurd rfl e⟩
   ·refine (rxor_long _ k.g2 _ _ _ _ _ w hs hc (by omega) (by omega)).mono ?_
    rintro e w' ⟨rfl, hw⟩
    obtain rfl := hw.symm
    exact ⟨none, 0, 0, rfl, view_nil _, hid, FrP.refl _ _, fun e => absurd rfl e⟩
  ·have e0 : xorR k false (sx i).s0 (sx i).nr zs = (0, xorL (k.nk + 6) k.K (sx i).s0 (sx i).nr (nat8 zs) zs.length) := by unfold xorR; simp only [Bool.false_eq_true, if_false]; rw [if_neg hl]
   have ea : adv 0 (sx i).nr zs.length = (sx i).nr + zs.length := by unfold adv; rw [if_pos rfl]
   rw [e0, ea]
   by_cases hz : zs = []
   ·subst hz
    refine (rxor_zero _ k.g2 _ _ _ _ w hs hc).mono ?_
    rintro e w' ⟨rfl, hw⟩
    obtain rfl := hw.symm
    exact ⟨none, 0, 0, rfl, view_nil _, hid, FrP.refl _ _, fun e => absurd rfl e⟩
   ·obtain ⟨b, off, rfl, hb, hbS, hbc⟩ := hcell hz
    have hord := h.ord.2.1 i hi
    have hg2 := q1.g2
    have hgr := q1.gr
    refine (rxor_ok _ k.g2 k.gr _ k.nk zs.length b off c k.K _ (nat8 zs) w (q3.on rfl) (by rcases q1.nk with e | e | e <;> omega) q1.K hs ⟨by omega, by omega⟩ (by omega) (by omega) hb (fun e => hbS (.inr (.inr (.inl ⟨i, hi, .inr e⟩)))) hcap hmx' hbc (nat8_lt hd.by')).mono ?_
    rintro e w' ⟨v, rfl, h0, h1⟩
    have hv := view_own h0 (xorL_length _ _ _ _ _ _)
    obtain ⟨a, cc, rfl, _⟩ := hv
    have hv := view_own h0 (xorL_length _ _ _ _ _ _)
    exact ⟨_, _, _, rfl, hv, h.rst rfl i _ hi h1.fr (fun b q => List.mem_singleton.1 q) h1.str, h1.fr.toP (fun b q => .inr (.inr (.inl ⟨i, hi, .inr (List.mem_singleton.1 q)⟩))), fun _ b q => (owns_blks h0 b q).1⟩
/-- What the document's Wrap and Unwrap leave. -/
def LsN (w : World) (R : Int × List Int) (e : Ending) (w' : World) : Prop := ∃ a n c, e = .returned (.tuple #[.slice a n c, .int .i64 R.1]) ∧ View w' (.slice a n c) R.2 ∧ Below w.heap.size w w' ∧ AllBytes R.2 ∧ (R.2 ≠ [] → ∀ b, b ∈ vblk (.slice a n c) → w.heap.size ≤ b)
theorem bytes_nil : AllBytes [] := fun i => by simp
theorem bytes_zl {m : Nat} {F : Nat → Nat} (h : ∀ i, F i < 256) : AllBytes (zl m F) := fun i => by
 by_cases hi : i < m
 ·rw [zl_at m F i hi]; have := h i; omega
 ·rw [List.getD_eq_getElem?_getD, List.getElem?_eq_none (by rw [zl_len]; omega)]; simp
theorem lsn_off (w : World) (E : Int) : LsN w (E, []) (.returned (.tuple #[.slice none 0 0, .int .i64 E])) w := ⟨none, 0, 0, rfl, view_nil _, Below.refl _ _, bytes_nil, fun e => absurd rfl e⟩
theorem rwrap_b (dv : Value) (zs : List Int) (h : BS w B m kx gP gR an sx av lv lz) (hd : Dat w (BW m kx an sx av) dv zs) : Calls Tryz.prog 27 #[gq (kx.map Kx.g2), dv] w (LsN w (wrapR kx gR zs)) := by
 obtain ⟨a, c, rfl, hcap, hmx, hcell⟩ := hd.at
 have hmx' : c ≤ 9223372036854775807 := by unfold maxLen at hmx; omega
 cases kx with
 | none =>
  refine (rwrap_nil _ _ _ w).mono ?_
  rintro e w' ⟨rfl, rfl⟩
  exact lsn_off _ 1
 | some k =>
  obtain ⟨q1, q2, q3, q4, q5⟩ := h.kk k rfl
  have hc := q3.cell
  cases gR with
  | true =>
   refine (rwrap_gone k.g2 _ _ _ w hc).mono ?_
   rintro e w' ⟨rfl, rfl⟩
   exact lsn_off _ 21
  | false =>
   by_cases hg : 16 ≤ zs.length ∧ zs.length % 8 = 0 ∧ zs.length ≤ 4096
   ·obtain ⟨n, hnl⟩ : ∃ n, zs.length = 8 * n := ⟨zs.length / 8, by omega⟩
    have hd' : zs.length / 8 = n := by omega
    have e0 : wrapR (some k) false zs = (0, zl (8 + zs.length) (wrB (wrapF (k.nk + 6) k.K n (nat8 zs) (6 * n)))) := by unfold wrapR; simp only [Bool.false_eq_true, if_false]; rw [if_pos hg, hd']
    have hz : zs ≠ [] := fun e => by rw [e] at hg; simp at hg
    obtain ⟨b, off, rfl, hb, hbS, hbc⟩ := hcell hz
    rw [e0]
    refine (rwrap_ok k.g2 k.gr k.nk n b off c zs.length k.K (nat8 zs) w (q3.on rfl) (by rcases q1.nk with e | e | e <;> omega) q1.K (by omega) (by omega) hnl hb hbc (nat8_lt hd.by')).mono ?_
    rintro e w' ⟨v, rfl, h0, h1⟩
    rw [abL_zl] at h0
    have hv := view_own h0 (zl_len _ _)
    obtain ⟨a, cc, rfl, _⟩ := hv
    have hv := view_own h0 (zl_len _ _)
    exact ⟨_, _, _, rfl, hv, h1, bytes_zl (wrB_lt _), fun _ b q => (owns_blks h0 b q).1⟩
   ·have e0 : wrapR (some k) false zs = (ckE zs.length 16 4096, []) := by unfold wrapR; simp only [Bool.false_eq_true, if_false]; rw [if_neg hg]
    rw [e0]
    refine (rwrap_bad k.g2 _ _ _ w hc (by omega) hg).mono ?_
    rintro e w' ⟨rfl, rfl⟩
    exact lsn_off _ _
theorem runwrap_b (dv : Value) (zs : List Int) (h : BS w B m kx gP gR an sx av lv lz) (hd : Dat w (BW m kx an sx av) dv zs) : Calls Tryz.prog 29 #[gq (kx.map Kx.g2), dv] w (LsN w (unwR kx gR zs)) := by
 obtain ⟨a, c, rfl, hcap, hmx, hcell⟩ := hd.at
 have hmx' : c ≤ 9223372036854775807 := by unfold maxLen at hmx; omega
 cases kx with
 | none =>
  refine (runwrap_nil _ _ _ w).mono ?_
  rintro e w' ⟨rfl, rfl⟩
  exact lsn_off _ 1
 | some k =>
  obtain ⟨q1, q2, q3, q4, q5⟩ := h.kk k rfl
  have hc := q3.cell
  cases gR with
  | true =>
   refine (runwrap_gone k.g2 _ _ _ w hc).mono ?_
   rintro e w' ⟨rfl, rfl⟩
   exact lsn_off _ 21
  | false =>
   by_cases hg : 24 ≤ zs.length ∧ zs.length % 8 = 0 ∧ zs.length ≤ 4104
   ·obtain ⟨n, hnl⟩ : ∃ n, zs.length = 8 + 8 * n := ⟨zs.length / 8 - 1, by omega⟩
    have hd' : zs.length / 8 - 1 = n := by omega
    have hF : unwF k zs = aft (unStep (k.nk + 6) k.K n) (6 * n) (un0 (nat8 zs)) := by unfold unwF; rw [hd']
    have hz : zs ≠ [] := fun e => by rw [e] at hg; simp at hg
    obtain ⟨b, off, rfl, hb, hbS, hbc⟩ := hcell hz
    refine (runwrap_ok k.g2 k.gr k.nk n b off c zs.length k.K (nat8 zs) w (q3.on rfl) (by rcases q1.nk with e | e | e <;> omega) q1.K (by omega) (by omega) hnl hcap hb hbc (nat8_lt hd.by')).mono ?_
    rw [← hF]
    rintro e w' ⟨h1, ⟨hmk, s, cc, rfl, h2, h3, h4, h5⟩ | ⟨hmk, rfl⟩⟩
    ·have e0 : unwR (some k) false zs = (0, zl (8 * n) (flt (unwF k zs).2)) := by unfold unwR; simp only [Bool.false_eq_true, if_false]; rw [if_pos hg, if_pos hmk, show zs.length - 8 = 8 * n by omega]
     rw [e0]
     exact ⟨_, _, _, rfl, view_ab h5.c h3 h4, h1, bytes_zl (flt_lt _), fun _ b q => by simp [vblk, Value.ownBlock] at q; omega⟩
    ·have e0 : unwR (some k) false zs = (22, []) := by unfold unwR; simp only [Bool.false_eq_true, if_false]; rw [if_pos hg, if_neg hmk]
     rw [e0]
     exact ⟨none, 0, 0, rfl, view_nil _, h1, bytes_nil, fun e => absurd rfl e⟩
   ·have e0 : unwR (some k) false zs = (ckE zs.length 24 4104, []) := by unfold unwR; simp only [Bool.false_eq_true, if_false]; rw [if_neg hg]
    rw [e0]
    refine (runwrap_bad k.g2 _ _ _ w hc (by omega) hg).mono ?_
    rintro e w' ⟨rfl, rfl⟩
    exact lsn_off _ _
end Go.Proofs.YtgmfiljjogdccabGreatDoor
namespace Go.Proofs.YtgmfiljjogdccabGreatDoor
open Go.RowKit Go.RwLone Go.Conc.Locks
set_option linter.unusedVariables false
set_option linter.unusedSimpArgs false
variable {w v : World} {B m : Nat} {kx : Option Kx} {gP gR : Bool} {an : Nat} {sx : Nat → Sx} {av lv : Value} {lz : List Int}
theorem gone_b (h : BS w B m kx gP gR an sx av lv lz) : Calls Tryz.prog 20 #[.pointer (some ⟨m, 0, none⟩)] w fun e w' => e = .returned (.int .i64 (kE kx gR)) ∧ w' = w := by
 have cr := h.cr
 cases kx with
 | none =>
  have cr' : w.cell? ⟨m, 1, none⟩ = some (.pointer none) := cr
  clear h cr
  go_enter Tryz.func20, Tryz.ntmps20
  go_wp2
  go_ret
  exact ⟨rfl, rfl⟩
 | some k =>
  have cr' : w.cell? ⟨m, 1, none⟩ = some (.pointer (some ⟨k.g2, 0, none⟩)) := cr
  have cw := (h.kk k rfl).2.2.1.cell
  clear h cr
  cases gR with
  | true =>
   go_enter Tryz.func20, Tryz.ntmps20
   go_wp2
   go_ret
   exact ⟨rfl, rfl⟩
  | false =>
   go_enter Tryz.func20, Tryz.ntmps20
   go_wp2
   go_ret
   exact ⟨rfl, rfl⟩
/-- A chosen pair of streams. -/
structure Sel (an : Nat) (o : Option Nat) : Prop where
 lt : ∀ i, o = some i → i < an
def SelP (w : World) (an : Nat) (sx : Nat → Sx) (e : Ending) (w' : World) : Prop := ∃ o, Sel an o ∧ e = .returned (.agg #[gq (o.map fun i => (sx i).t), gq (o.map fun i => (sx i).rt)]) ∧ Below w.heap.size w w'
theorem prs_at (an : Nat) (sx : Nat → Sx) (i : Nat) (hi : i < an) : (prs an sx)[i * 2]? = some (.pointer (some ⟨(sx i).t, 0, none⟩)) ∧ (prs an sx)[i * 2 + 1]? = some (.pointer (some ⟨(sx i).rt, 0, none⟩)) := by
 induction an with
 | zero => omega
 | succ n ih =>
  have e : prs (n + 1) sx = prs n sx ++ [.pointer (some ⟨(sx n).t, 0, none⟩), .pointer (some ⟨(sx n).rt, 0, none⟩)] := by unfold prs; rw [List.range_succ, List.flatMap_append]; rfl
  have hl : (prs n sx).length = n * 2 := by
   clear ih e hi
   induction n with
   | zero => rfl
   | succ n ih =>
    have e : prs (n + 1) sx = prs n sx ++ [.pointer (some ⟨(sx n).t, 0, none⟩), .pointer (some ⟨(sx n).rt, 0, none⟩)] := by unfold prs; rw [List.range_succ, List.flatMap_append]; rfl
    rw [e, List.length_append, ih]; simp; omega
  rw [e]
  by_cases q : i < n
  ·obtain ⟨h1, h2⟩ := ih q
   rw [List.getElem?_append_left (by omega), List.getElem?_append_left (by omega)]
   exact ⟨h1, h2⟩
  ·obtain rfl : i = n := by omega
   rw [List.getElem?_append_right (by omega), List.getElem?_append_right (by omega), hl, Nat.sub_self, show i * 2 + 1 - i * 2 = 1 by omega]
   exact ⟨rfl, rfl⟩
theorem range_new (w : World) (L : List Value) (t : TypeId) : (w.alloc (.cells L.toArray t)).rangeAt w.heap.size 0 L := fun j v hv => by
 rw [Nat.zero_add, World.cell?_alloc_at _ t _ _ rfl]
 simpa using hv
theorem size73 : (Tryz.prog.info? 73).map (·.size) = some 2 := by kernel_rfl
set_option maxHeartbeats 1600000 in
set_option maxRecDepth 100000 in
theorem sel_none (A : Int) (a : Option Addr) (c : Nat) (han : an = 0 ∨ A < 0) (ca : w.cell? ⟨m, 2, none⟩ = some (.slice a an c)) (hm : m < w.heap.size) : Calls Tryz.prog 12 #[.pointer (some ⟨m, 0, none⟩), .int .i64 A] w (SelP w an sx) := by
 have HB : Hid (Below w.heap.size w (w.alloc (.cells #[.pointer none, .pointer none] 73))) := (Below.refl _ _).alloc (Nat.le_refl _) _
 have c1 : (w.alloc (.cells #[.pointer none, .pointer none] 73)).cell? ⟨m, 2, none⟩ = some (.slice a an c) := (HB.out.cell (p := ⟨m, 2, none⟩) hm).trans ca
 have HT : Hid ((w.alloc (.cells #[.pointer none, .pointer none] 73)).there w.heap.size 0 2) := there_new w _ 73 2 (by show 2 ≤ 2; omega)
 clear ca
 by_cases h0 : an = 0
 ·subst h0
  clear han
  go_enter Tryz.func12, Tryz.ntmps12
  go_wp2
  refine ret_array [.pointer none, .pointer none] Tryz.results12 rfl (range_new w _ 73) Tryz.underlying73 rfl size73 ?_
  exact ⟨none, ⟨fun i e => (by cases e)⟩, rfl, HB.out⟩
 ·have hA : A < 0 := by omega
  have hn : (((an : Nat) : Int) == 0) = false := by simp; omega
  go_enter Tryz.func12, Tryz.ntmps12
  go_wp2
  refine ret_array [.pointer none, .pointer none] Tryz.results12 rfl (range_new w _ 73) Tryz.underlying73 rfl size73 ?_
  exact ⟨none, ⟨fun i e => (by cases e)⟩, rfl, HB.out⟩
set_option maxHeartbeats 1600000 in
set_option maxRecDepth 100000 in
theorem sel_some (q i ab c : Nat) (hq : q ≤ 9223372036854775807) (hi : i = q % an) (h0 : 0 < an) (ca : w.cell? ⟨m, 2, none⟩ = some (.slice (some ⟨ab, 0, none⟩) an c)) (hm : m < w.heap.size) (c1 : w.cell? ⟨ab, i * 2, none⟩ = some (.pointer (some ⟨(sx i).t, 0, none⟩))) (c2 : w.cell? ⟨ab, i * 2 + 1, none⟩ = some (.pointer (some ⟨(sx i).rt, 0, none⟩))) : Calls Tryz.prog 12 #[.pointer (some ⟨m, 0, none⟩), .int .i64 (q : Nat)] w (SelP w an sx) := by
 have HI : Hid (i < an) := by show i < an; rw [hi]; exact Nat.mod_lt _ h0
 have hx : ((q : Nat) : Int) % ((an : Nat) : Int) = ((i : Nat) : Int) := by rw [hi]; exact (Int.natCast_emod q an).symm
 have hxt : Int.tmod ((q : Nat) : Int) ((an : Nat) : Int) = ((i : Nat) : Int) := by rw [Int.tmod_eq_emod_of_nonneg (by omega)]; exact hx
 have hil : ((i : Nat) : Int) < (an : Nat) := by have := HI.out; omega
 have hwi : IntKind.i64.wrap ((i : Nat) : Int) = ((i : Nat) : Int) := wraps_i64 _ (by omega) (by have h1 : i ≤ q := (by rw [hi]; exact Nat.mod_le _ _); omega)
 obtain ⟨p1, HP1⟩ : ∃ x, Hid (x = (sx i).t) := ⟨_, rfl⟩
 obtain ⟨p2, HP2⟩ : ∃ x, Hid (x = (sx i).rt) := ⟨_, rfl⟩
 rw [← HP1.out] at c1
 rw [← HP2.out] at c2
 have HB : Hid (Below w.heap.size w (w.alloc (.cells #[.pointer none, .pointer none] 73))) := (Below.refl _ _).alloc (Nat.le_refl _) _
 have HT : Hid ((w.alloc (.cells #[.pointer none, .pointer none] 73)).there w.heap.size 0 2) := there_new w _ 73 2 (by show 2 ≤ 2; omega)
 have HABl : Hid (ab < w.heap.size) := World.block_lt_of_cell? w _ c1
 have HC : Hid ((w.alloc (.cells #[.pointer none, .pointer none] 73)).cell? ⟨m, 2, none⟩ = some (.slice (some ⟨ab, 0, none⟩) an c) ∧ (w.alloc (.cells #[.pointer none, .pointer none] 73)).cell? ⟨ab, i * 2, none⟩ = some (.pointer (some ⟨p1, 0, none⟩)) ∧ (w.alloc (.cells #[.pointer none, .pointer none] 73)).cell? ⟨ab, i * 2 + 1, none⟩ = some (.pointer (some ⟨p2, 0, none⟩))) := ⟨(HB.out.cell (p := ⟨m, 2, none⟩) hm).trans ca, (HB.out.cell (p := ⟨ab, i * 2, none⟩) HABl.out).trans c1, (HB.out.cell (p := ⟨ab, i * 2 + 1, none⟩) HABl.out).trans c2⟩
 have hn : (((an : Nat) : Int) == 0) = false := by simp; omega
 have hn0 : ¬ ((an : Nat) : Int) = 0 := by omega
 have hn1 : ¬ an = 0 := by omega
 have hIq : Hid (i = q % an) := hi
 clear ca c1 c2 hi
 go_enter Tryz.func12, Tryz.ntmps12
 go_upto_region 1 with fail
 generalize (w.alloc (.cells #[.pointer none, .pointer none] 73)) = w1 at HB HC HT ⊢
 obtain ⟨c0, c1, c2⟩ := HC.out
 go_upto_region 3 with fail
 have hSt : w1.drew.cell? ⟨m, 2, none⟩ = some (.slice (some ⟨ab, 0, none⟩) an c) ∧ w1.drew.cell? ⟨ab, i * 2, none⟩ = some (.pointer (some ⟨p1, 0, none⟩)) ∧ w1.drew.cell? ⟨ab, i * 2 + 1, none⟩ = some (.pointer (some ⟨p2, 0, none⟩)) := ⟨c0, c1, c2⟩
 refine wp_region_noPanic ?_
 refine wp_region_till (fun u => u.cell? ⟨m, 2, none⟩ = some (.slice (some ⟨ab, 0, none⟩) an c) ∧ u.cell? ⟨ab, i * 2, none⟩ = some (.pointer (some ⟨p1, 0, none⟩)) ∧ u.cell? ⟨ab, i * 2 + 1, none⟩ = some (.pointer (some ⟨p2, 0, none⟩))) 13 (by kernel_rfl) (by decide) (by decide +kernel) (by decide +kernel) (by decide +kernel) (fun inv => ?_)
 refine tU 0 16 (.pointer (some ⟨m, 0, none⟩)) inv rfl rfl hSt fun inv => ?_
 simp only [pU]
 refine tU 1 17 (.pointer (some ⟨m, 0, none⟩)) inv rfl rfl hSt fun inv => ?_
 simp only [pU]
 refine tU 2 18 (.pointer (some ⟨m, 2, none⟩)) inv rfl rfl hSt fun inv => ?_
 simp only [pU]
 refine tT 3 19 (.slice (some ⟨ab, 0, none⟩) an c) inv rfl rfl (by decide +kernel) (hSt) (Or.inl ⟨by rfl, fun w' hS' => by have q1 := hS'.1; go_simp⟩) (fun inv => ?_)
 simp only [pU]
 refine tU 4 20 (.int .i64 (q : Nat)) inv rfl rfl hSt fun inv => ?_
 simp only [pU]
 refine tU 5 21 (.pointer (some ⟨m, 0, none⟩)) inv rfl rfl hSt fun inv => ?_
 simp only [pU]
 refine tU 6 22 (.pointer (some ⟨m, 0, none⟩)) inv rfl rfl hSt fun inv => ?_
 simp only [pU]
 refine tU 7 23 (.pointer (some ⟨m, 2, none⟩)) inv rfl rfl hSt fun inv => ?_
 simp only [pU]
 refine tT 8 24 (.slice (some ⟨ab, 0, none⟩) an c) inv rfl rfl (by decide +kernel) (hSt) (Or.inl ⟨by rfl, fun w' hS' => by have q1 := hS'.1; go_simp⟩) (fun inv => ?_)
 simp only [pU]
 refine tU 9 25 (.int .i64 (an : Nat)) inv rfl rfl hSt fun inv => ?_
 simp only [pU]
 refine tU 10 26 (.int .i64 (i : Nat)) inv rfl rfl hSt fun inv => ?_
 simp only [pU]
 refine tU 11 27 (.pointer (some ⟨ab, i * 2, none⟩)) inv rfl rfl hSt fun inv => ?_
 simp only [pU]
 refine tT 12 28 (.agg #[.pointer (some ⟨p1, 0, none⟩), .pointer (some ⟨p2, 0, none⟩)]) inv rfl rfl (by decide +kernel) (hSt) (Or.inl ⟨by rfl, fun w' hS' => by have q1 := hS'.2.1; have q2 := hS'.2.2; go_simp⟩) (fun inv => ?_)
 simp only [pU]
 refine till_tail (i := 13) (by decide +kernel) (by decide) rfl (fun K hK => ?_)
 rw [if_pos (by rfl)]
 refine wp_store_mid 73 (.tmp 4) (.tmp 28) rfl w.heap.size 0 #[.pointer (some ⟨p1, 0, none⟩), .pointer (some ⟨p2, 0, none⟩)] rfl rfl (HT.out) (size73) (by kernel_rfl) ?_
 refine hK.out _ _ ?_
 clear hK K
 try simp only [pU]
 refine till_done (by decide +kernel) ?_ _
 refine NoPanic.normal ?_
 go_wp2
 refine ret_array [.pointer (some ⟨p1, 0, none⟩), .pointer (some ⟨p2, 0, none⟩)] Tryz.results12 rfl ?_ Tryz.underlying73 rfl size73 ?_
 ·exact World.rangeAt_setCells_same _ _ _ _ HT.out
 ·exact ⟨some i, ⟨fun j e => by cases e; exact HI.out⟩, by rw [HP1.out, HP2.out]; rfl, belowB_setCells _ (Nat.le_refl _) _ _ _ HB.out.drew⟩

end Go.Proofs.YtgmfiljjogdccabGreatDoor
namespace Go.Proofs.YtgmfiljjogdccabGreatDoor
open Go.RowKit Go.RwLone Go.Conc.Locks
set_option linter.unusedVariables false
set_option linter.unusedSimpArgs false
variable {w v : World} {B m : Nat} {kx : Option Kx} {gP gR : Bool} {an : Nat} {sx : Nat → Sx} {av lv : Value} {lz : List Int}
theorem sel_b (A : Int) (hA : A ≤ 9223372036854775807) (h : BS w B m kx gP gR an sx av lv lz) : Calls Tryz.prog 12 #[.pointer (some ⟨m, 0, none⟩), .int .i64 A] w (SelP w an sx) := by
 have hc := h.ca
 have hr := h.ar
 rcases h.ar.2 with ⟨rfl, h0⟩ | ⟨g, c, cur, rfl, _⟩
 ·subst h0
  exact sel_none A none 0 (.inl rfl) hc h.mlt
 ·by_cases h0 : an = 0 ∨ A < 0
  ·exact sel_none A (some ⟨g, 0, none⟩) c h0 hc h.mlt
  ·obtain ⟨q, rfl⟩ : ∃ q : Nat, A = (q : Nat) := ⟨A.toNat, by omega⟩
   have hi : q % an < an := Nat.mod_lt _ (by omega)
   obtain ⟨e1, e2⟩ := prs_at an sx (q % an) hi
   exact sel_some q (q % an) g c (by omega) rfl (by omega) hc h.mlt ((hr.cellAt _ (by omega)).trans e1) ((hr.cellAt _ (by omega)).trans e2)
theorem Own.drew {w : World} {S : Nat → Prop} {v : Value} {zs : List Int} (h : Own w S v zs) (q : Nat) : Own (w.drewN q) S v zs := h.frp ⟨rfl, rfl, rfl, Nat.le_refl _, fun _ _ _ => rfl⟩
theorem view_drew {w : World} {v : Value} {zs : List Int} (h : View w v zs) (q : Nat) : View (w.drewN q) v zs := h.kept (fun _ _ => rfl)
set_option maxHeartbeats 1600000 in
set_option maxRecDepth 100000 in
theorem lists_ok (v1 v2 own dv : Value) (E : Int) (Z zs : List Int) (S : Nat → Prop) (w : World) (h1 : View w v1 Z) (h2 : View w v2 Z) (ho : Own w S own zs) (hd : View w dv zs) : Calls Tryz.prog 15 #[v1, .int .i64 E, v2, .int .i64 E, own, dv] w fun e w' => e = .returned (.bool true) ∧ ∃ q, w' = w.drewN q := by
 have K1 : Hid (Calls Tryz.prog 47 #[v1, v2] w fun e w' => e = .returned (.bool true) ∧ ∃ q, w' = w.drewN q) := by
  have h := same_any v1 v2 Z Z w h1 h2
  rw [show decide (Z = Z) = true from decide_eq_true rfl] at h
  exact h
 have K2 : Hid (∀ q, Calls Tryz.prog 48 #[own, dv] (w.drewN q) fun e w' => e = .returned (.bool true) ∧ ∃ r, w' = (w.drewN q).drewN r) := fun q => whole_any own dv zs 0 _ (ho.drew q).mkd (view_drew hd q)
 clear h1 h2 ho hd
 go_enter Tryz.func15, Tryz.ntmps15
 go_wp2_with (first | (go_at_call 47; refine K1.out.mono ?_))
 rintro e1 w1 ⟨rfl, q, rfl⟩
 go_wp2_with (first | (go_at_call 48; refine (K2.out q).mono ?_))
 rintro e2 w2 ⟨rfl, r, rfl⟩
 go_wp2
 go_ret
 refine ⟨rfl, ?_⟩
 exact ⟨q + r, by simp⟩
set_option maxHeartbeats 1600000 in
set_option maxRecDepth 100000 in
theorem at_none (w : World) : Calls Tryz.prog 16 #[.agg #[.pointer none, .pointer none]] w fun e w' => e = .returned (.bool true) ∧ Below w.heap.size w w' := by
 have HB : Hid (Below w.heap.size w (w.alloc (.cells #[.pointer none, .pointer none] 73))) := (Below.refl _ _).alloc (Nat.le_refl _) _
 have K1 : Hid (∀ u, Calls Tryz.prog 49 #[.pointer none] u fun e w' => e = .returned (.int .u64 0) ∧ w' = u) := at_nil
 go_enter Tryz.func16, Tryz.ntmps16
 go_wp2_with (first | (go_at_call 49; refine (K1.out _).mono ?_; rintro e1 w1 ⟨rfl, rfl⟩))
 go_ret
 exact ⟨rfl, HB.out⟩
set_option maxHeartbeats 1600000 in
set_option maxRecDepth 100000 in
theorem at_some (t rt g g2 n : Nat) (s0 : W4) (w : World) (hs : StreamAt w t g s0 n) (hr : StreamAt w rt g2 s0 n) : Calls Tryz.prog 16 #[.agg #[.pointer (some ⟨t, 0, none⟩), .pointer (some ⟨rt, 0, none⟩)]] w fun e w' => e = .returned (.bool true) ∧ Below w.heap.size w w' := by
 have HB : Hid (Below w.heap.size w (w.alloc (.cells #[.pointer (some ⟨t, 0, none⟩), .pointer (some ⟨rt, 0, none⟩)] 73)) ∧ (w.alloc (.cells #[.pointer (some ⟨t, 0, none⟩), .pointer (some ⟨rt, 0, none⟩)] 73)).cell? ⟨w.heap.size, 0, none⟩ = some (.pointer (some ⟨t, 0, none⟩)) ∧ (w.alloc (.cells #[.pointer (some ⟨t, 0, none⟩), .pointer (some ⟨rt, 0, none⟩)] 73)).cell? ⟨w.heap.size, 1, none⟩ = some (.pointer (some ⟨rt, 0, none⟩))) := by
  refine ⟨(Below.refl _ _).alloc (Nat.le_refl _) _, ?_, ?_⟩
  ·exact range_new w [.pointer (some ⟨t, 0, none⟩), .pointer (some ⟨rt, 0, none⟩)] 73 0 _ rfl
  ·exact range_new w [.pointer (some ⟨t, 0, none⟩), .pointer (some ⟨rt, 0, none⟩)] 73 1 _ rfl
 have HS : Hid (StreamAt w t g s0 n) := hs
 have HR : Hid (StreamAt w rt g2 s0 n) := hr
 have hn40 := hs.most
 clear hs hr
 obtain ⟨bx, HBX⟩ : ∃ b, Hid (w.heap.size = b) := ⟨_, rfl⟩
 go_enter Tryz.func16, Tryz.ntmps16
 go_upto_region 1 with fail
 generalize (w.alloc (.cells #[.pointer (some ⟨t, 0, none⟩), .pointer (some ⟨rt, 0, none⟩)] 73)) = w1 at HB ⊢
 rw [HBX.out] at HB ⊢
 obtain ⟨_, c0, c1⟩ := HB.out
 go_upto_region 3 with fail
 have HK : Hid (∀ u, Below w1.heap.size w1 u → Calls Tryz.prog 49 #[.pointer (some ⟨t, 0, none⟩)] u fun e u' => e = .returned (.int .u64 (n : Nat)) ∧ u' = u) := fun u hu => at_ok t g n s0 u ((HS.out.below HB.out.1 (by rw [← HBX.out]; exact HS.out.here)).below hu (Nat.lt_of_lt_of_le HS.out.here HB.out.1.size))
 have G0 : Hid (∀ u, Below w1.heap.size w1 u → u.cell? ⟨bx, 0, none⟩ = some (.pointer (some ⟨t, 0, none⟩))) := fun u hu => (hu.cell (p := ⟨bx, 0, none⟩) (World.block_lt_of_cell? w1 _ c0)).trans c0
 have G1 : Hid (∀ u, Below w1.heap.size w1 u → u.cell? ⟨bx, 1, none⟩ = some (.pointer (some ⟨rt, 0, none⟩))) := fun u hu => (hu.cell (p := ⟨bx, 1, none⟩) (World.block_lt_of_cell? w1 _ c1)).trans c1
 have G2 : Hid (∀ u, Below w1.heap.size w1 u → u.cell? ⟨rt, 17, none⟩ = some (.int .u64 (n : Nat))) := fun u hu => (hu.cell (p := ⟨rt, 17, none⟩) (by have h1 := HR.out.here; have h2 := HB.out.1.size; show rt < _; omega)).trans ((HB.out.1.cell (p := ⟨rt, 17, none⟩) (by show rt < bx; rw [← HBX.out]; exact HR.out.here)).trans HR.out.pos)
 have hS0 : Below w1.heap.size w1 w1.drew := (Below.refl _ _).drew
 refine wp_region_noPanic ?_
 refine wp_region_held_drew (S := fun u => Below w1.heap.size w1 u) (by kernel_rfl) (hS0) (fun _ => ?_)
 refine tG 0 10 (.pointer (some ⟨bx, 0, none⟩)) rfl rfl hS0 ?_
 simp only [pU]
 refine tQ 1 11 (.pointer (some ⟨t, 0, none⟩)) rfl rfl hS0 G0.out ?_
 simp only [pU]
 refine tG 3 13 (.pointer (some ⟨bx, 1, none⟩)) rfl rfl hS0 ?_
 simp only [pU]
 refine tQ 4 14 (.pointer (some ⟨rt, 0, none⟩)) rfl rfl hS0 G1.out ?_
 simp only [pU]
 refine tG 5 15 (.pointer (some ⟨rt, 0, none⟩)) rfl rfl hS0 ?_
 simp only [pU]
 refine tG 6 16 (.pointer (some ⟨rt, 17, none⟩)) rfl rfl hS0 ?_
 simp only [pU]
 refine tQ 7 17 (.int .u64 (n : Nat)) rfl rfl hS0 G2.out ?_
 simp only [pU]
 refine wpAnyH_ready (rs := [2]) (by kernel_rfl) (by simp) ?_
 refine AllReadyH.cons rfl (fun K hK => ?_) AllReadyH.nil
 go_simp
 refine (HK.out _ hS0).mono ?_
 rintro e1 w1 ⟨rfl, hw1⟩
 obtain rfl := hw1.symm
 go_wp2_with fail
 refine hK.out _ _ (hS0) (fun _ => ?_)
 clear hK K
 try simp only [pU]
 refine tG 8 18 (.bool true) rfl rfl hS0 ?_
 simp only [pU]
 refine tG 9 2 (.bool true) rfl rfl hS0 ?_
 simp only [pU]
 refine wpAnyH_done (by kernel_rfl) ?_ _
 refine NoPanic.normal ?_
 go_wp2
 go_ret
 refine ⟨rfl, ?_⟩
 rw [HBX.out]
 exact HB.out.1.drew
end Go.Proofs.YtgmfiljjogdccabGreatDoor
