import Derived.Test.YtgmfiljjogdccabGreatDoorPyb
namespace Go.Proofs.YtgmfiljjogdccabGreatDoor
open Go.RowKit Go.RwLone Go.Conc.Locks
set_option linter.unusedVariables false
variable {w v : World} {B m : Nat} {kx : Option Kx} {gP gR : Bool} {an : Nat} {sx : Nat → Sx} {av lv : Value} {lz : List Int}
theorem skip_b (i q : Nat) {k : Kx} (hi : i < an) (hq : q < 18446744073709551616) (h : BS w B m (some k) gP gR an sx av lv lz) : Calls Tryz.prog 17 #[.pointer (some ⟨(sx i).t, 0, none⟩), .int .u64 (q : Nat)] w fun e w' => e = .returned (.int .i64 (skR gP (sx i).np q)) ∧ BS w' B m (some k) gP gR an (updP sx i (adv (skR gP (sx i).np q) (sx i).np q)) av lv lz ∧ FrP w w' (BW m (some k) an sx av) := by
 obtain ⟨k', e, hs, _⟩ := h.st i hi
 obtain rfl := Option.some.inj e
 have hp := (h.kk k rfl).2.1
 have hord := h.ord.2.1 i hi
 obtain ⟨r1, _, _, _, r5⟩ := h.kk k rfl
 have hg2 := r1.g2
 have hgr := r1.gr
 have hne : (sx i).t ≠ k.g := by omega
 have hadv : ∀ E : Int, E ≠ 0 → adv E (sx i).np q = (sx i).np := fun E hE => by unfold adv; rw [if_neg hE]
 have hsame : ∀ w', Touch w w' k.g 4 1 → PK w' k gP → BS w' B m (some k) gP gR an (updP sx i (sx i).np) av lv lz ∧ FrP w w' (BW m (some k) an sx av) := fun w' ht hk => by
  refine ⟨h.pst rfl i _ hi (touch_fr ht) (fun b q => .inl (List.mem_singleton.1 q)) hk (hs.touch ht hne), (touch_fr ht).toP (fun b q => .inr (.inl ⟨k, rfl, .inl (List.mem_singleton.1 q)⟩))⟩
 cases gP with
 | true =>
  have e0 : skR true (sx i).np q = 21 := rfl
  rw [e0, hadv 21 (by decide)]
  refine (skip_gone _ k.g _ _ _ w (hp.off rfl) hs).mono ?_
  rintro e w' ⟨rfl, h1, h2⟩
  exact ⟨rfl, hsame w' h2 ⟨hp.free.touch h2, fun e => (by cases e), fun _ => h1⟩⟩
 | false =>
  have hk := hp.on rfl
  by_cases hl : 1099511627776 < (sx i).np + q
  ·have e0 : skR false (sx i).np q = 4 := by unfold skR; simp only [Bool.false_eq_true, if_false]; rw [if_pos hl]
   rw [e0, hadv 4 (by decide)]
   refine (skip_long _ k.g _ q _ k.K _ w hk hs hne hl hq).mono ?_
   rintro e w' ⟨rfl, h1, h2⟩
   exact ⟨rfl, hsame w' h2 ⟨hp.free.touch h2, fun _ => h1, fun e => (by cases e)⟩⟩
  ·have e0 : skR false (sx i).np q = 0 := by unfold skR; simp only [Bool.false_eq_true, if_false]; rw [if_neg hl]
   have ea : adv 0 (sx i).np q = (sx i).np + q := by unfold adv; rw [if_pos rfl]
   rw [e0, ea]
   refine (skip_ok _ k.g _ q _ k.K _ w hk hs hne (by omega)).mono ?_
   rintro e w' ⟨rfl, h1, h2, h3⟩
   have hf : Fr w w' [k.g, (sx i).t] := ⟨h3.os, h3.tape, h3.output, h3.size, fun b hb hn => h3.block b hb (fun e => hn (by simp [e])) (fun e => hn (by simp [e]))⟩
   refine ⟨rfl, h.pst rfl i _ hi hf (fun b q => by simpa using q) ⟨h3.lock.trans hp.free, fun _ => h1, fun e => (by cases e)⟩ h2, hf.toP (fun b q => ?_)⟩
   rcases (by simpa using q : b = k.g ∨ b = (sx i).t) with q | q
   ·exact .inr (.inl ⟨k, rfl, .inl q⟩)
   ·exact .inr (.inr (.inl ⟨i, hi, .inl q⟩))
theorem RK.cell {k : Kx} (h : RK w k gR) : w.cell? ⟨k.g2, 4610, none⟩ = some (.bool gR) := by
 cases gR with
 | false => exact (h.on rfl).wiped
 | true => exact (h.off rfl).wiped
theorem rskip_b (i q : Nat) {k : Kx} (hi : i < an) (h : BS w B m (some k) gP gR an sx av lv lz) : Calls Tryz.prog 18 #[.pointer (some ⟨(sx i).rt, 0, none⟩), .int .u64 (q : Nat)] w fun e w' => e = .returned (.int .i64 (skR gR (sx i).nr q)) ∧ BS w' B m (some k) gP gR an (updR sx i (adv (skR gR (sx i).nr q) (sx i).nr q)) av lv lz ∧ FrP w w' (BW m (some k) an sx av) := by
 obtain ⟨k', e, _, hs⟩ := h.st i hi
 obtain rfl := Option.some.inj e
 have hc := (h.kk k rfl).2.2.1.cell
 have hadv : ∀ E : Int, E ≠ 0 → adv E (sx i).nr q = (sx i).nr := fun E hE => by unfold adv; rw [if_neg hE]
 have hid : BS w B m (some k) gP gR an (updR sx i (sx i).nr) av lv lz := h.rst rfl i _ hi (Fr.refl _ []) (fun b q => by cases q) hs
 cases gR with
 | true =>
  have e0 : skR true (sx i).nr q = 21 := rfl
  rw [e0, hadv 21 (by decide)]
  refine (rskip_gone _ k.g2 _ q _ w hs hc).mono ?_
  rintro e w' ⟨rfl, hw⟩
  obtain rfl := hw.symm
  exact ⟨rfl, hid, FrP.refl _ _⟩
 | false =>
  by_cases hl : 1099511627776 < (sx i).nr + q
  ·have e0 : skR false (sx i).nr q = 4 := by unfold skR; simp only [Bool.false_eq_true, if_false]; rw [if_pos hl]
   rw [e0, hadv 4 (by decide)]
   refine (rskip_long _ k.g2 _ q _ w hs hc hl).mono ?_
   rintro e w' ⟨rfl, hw⟩
   obtain rfl := hw.symm
   exact ⟨rfl, hid, FrP.refl _ _⟩
  ·have e0 : skR false (sx i).nr q = 0 := by unfold skR; simp only [Bool.false_eq_true, if_false]; rw [if_neg hl]
   have ea : adv 0 (sx i).nr q = (sx i).nr + q := by unfold adv; rw [if_pos rfl]
   rw [e0, ea]
   refine (rskip_ok _ k.g2 _ q _ w hs hc (by omega)).mono ?_
   rintro e w' ⟨rfl, h1, h2⟩
   exact ⟨rfl, h.rst rfl i _ hi (touch_fr h2) (fun b q => List.mem_singleton.1 q) h1, (touch_fr h2).toP (fun b q => .inr (.inr (.inl ⟨i, hi, .inr (List.mem_singleton.1 q)⟩)))⟩
/-- Bytes that came in. -/
structure Dat (w : World) (S : Nat → Prop) (v : Value) (zs : List Int) : Prop where
 vw : View w v zs
 far : zs ≠ [] → ∀ b, b ∈ vblk v → ¬ S b
 by' : AllBytes zs
theorem Dat.frp {w w' : World} {S : Nat → Prop} {v : Value} {zs : List Int} (h : Dat w S v zs) (f : FrP w w' S) : Dat w' S v zs :=
 ⟨view_keepP h.vw (fun e b q => f.block b (view_blks h.vw e b q) (h.far e b q)), h.far, h.by'⟩
/-- A copy with marks behind it. -/
structure Own (w : World) (S : Nat → Prop) (v : Value) (zs : List Int) : Prop where
 mkd : Marked 0 w v zs
 far : ∀ b, b ∈ vblk v → ¬ S b
 by' : AllBytes zs
theorem Own.frp {w w' : World} {S : Nat → Prop} {v : Value} {zs : List Int} (h : Own w S v zs) (f : FrP w w' S) : Own w' S v zs := by
 obtain ⟨⟨g, c, rfl, ho⟩, hf, hb⟩ := h
 refine ⟨⟨g, c, rfl, owns_same ho (fun b q => f.block b (owns_blks ho b q).2 (hf b ?_))⟩, hf, hb⟩
 simpa [vblk, Value.ownBlock] using q
theorem Own.at {w : World} {S : Nat → Prop} {v : Value} {zs : List Int} (h : Own w S v zs) : ∃ b c, v = .slice (some ⟨b, 0, none⟩) zs.length c ∧ OwnAt w S b c zs := by
 obtain ⟨hm, hf, hb⟩ := h
 obtain ⟨g, c, rfl, hc, hx, h1, _⟩ := hm.cells
 obtain ⟨g', c', e, ho⟩ := hm
 simp only [Value.slice.injEq, Option.some.injEq, Addr.mk.injEq, and_true, true_and] at e
 obtain ⟨rfl, rfl⟩ := e
 exact ⟨g, c, rfl, fun i hi => by rw [nat8_eq hb i]; exact h1 i hi, (owns_blks ho g (by simp [vblk, Value.ownBlock])).2, by omega, hx, hb, hf g (by simp [vblk, Value.ownBlock])⟩
theorem Own.new {w w' : World} {S : Nat → Prop} {v : Value} {zs : List Int} (h : Marked w.heap.size w' v zs) (hb : AllBytes zs) (hS : ∀ b, S b → b < w.heap.size) : Own w' S v zs := by
 obtain ⟨g, c, rfl, ho⟩ := h
 refine ⟨⟨g, c, rfl, ho.1, ?_⟩, fun b q hs => ?_, hb⟩
 ·rcases ho.2 with h | ⟨g', c', cur, e, h1, h2⟩
  ·exact .inl h
  ·exact .inr ⟨g', c', cur, e, Nat.zero_le _, h2⟩
 ·have h1 := (owns_blks ho b (by simpa [vblk, Value.ownBlock] using q)).1
  have h2 := hS b hs
  omega
theorem Dat.at {w : World} {S : Nat → Prop} {v : Value} {zs : List Int} (h : Dat w S v zs) : ∃ a c, v = .slice a zs.length c ∧ zs.length ≤ c ∧ c ≤ maxLen ∧ (zs ≠ [] → ∃ b off, a = some ⟨b, off, none⟩ ∧ b < w.heap.size ∧ ¬ S b ∧ ∀ i, i < zs.length → w.cell? ⟨b, off + i, none⟩ = some (.int .u8 (nat8 zs i : Nat))) := by
 have hv := h.vw
 obtain ⟨a, c, rfl, h1, h2, h3, h4⟩ := h.vw
 refine ⟨a, c, rfl, h1, h2, fun e => ?_⟩
 rcases h4 with h4 | ⟨b, off, rfl, h5⟩
 ·exact absurd h4 e
 ·exact ⟨b, off, rfl, view_blks hv e b (by simp [vblk, Value.ownBlock]), h.far e b (by simp [vblk, Value.ownBlock]), fun i hi => by rw [nat8_eq h.by' i]; exact h5 i hi⟩
set_option maxRecDepth 100000 in
theorem rxor_zero (t g n cap : Nat) (a : Option Addr) (s0 : W4) (w : World) (hs : StreamAt w t g s0 n) (hw : w.cell? ⟨g, 4610, none⟩ = some (.bool false)) : Calls Tryz.prog 14 #[.pointer (some ⟨t, 0, none⟩), .slice a 0 cap] w fun e w' => e = .returned (.tuple #[.slice none 0 0, .int .i64 0]) ∧ w' = w := by
 have ck := hs.key
 have cp := hs.pos
 have hn40 := hs.most
 obtain ⟨lf, HLF⟩ : ∃ x, Hid (x = 1099511627776 - n) := ⟨_, rfl⟩
 have hsub : (1099511627776 : Int) - ((n : Nat) : Int) = ((lf : Nat) : Int) := by have := HLF.out; omega
 have hlf : lf ≤ 1099511627776 := by have := HLF.out; omega
 clear hs
 go_enter Tryz.func14, Tryz.ntmps14
 go_wp2
 go_loopw [6, 7] (fun v i wr => v = .slice none 0 0 ∧ i = .int .i64 0 ∧ wr = w) (fun _ _ _ => 0)
 case atStart => exact ⟨rfl, rfl, rfl⟩
 case round =>
  obtain ⟨rfl, rfl, rfl⟩ := hrel
  go_wp2
  go_ret2
  exact ⟨rfl, rfl⟩
theorem rxor_b (i : Nat) (dv : Value) (zs : List Int) {k : Kx} (hi : i < an) (h : BS w B m (some k) gP gR an sx av lv lz) (hd : Dat w (BW m (some k) an sx av) dv zs) : Calls Tryz.prog 14 #[.pointer (some ⟨(sx i).rt, 0, none⟩), dv] w (LsP w B m (some k) gP gR an (updR sx i (adv (xorR k gR (sx i).s0 (sx i).nr zs).1 (sx i).nr zs.length)) av lv lz (xorR k gR (sx i).s0 (sx i).nr zs) (BW m (some k) an sx av)) := by
 obtain ⟨k', e, _, hs⟩ := h.st i hi
 obtain rfl := Option.some.inj e
 obtain ⟨q1, q2, q3, q4, q5⟩ := h.kk k rfl
 have hc := q3.cell
 obtain ⟨a, c, rfl, hcap, hmx, hcell⟩ := hd.at
 have hmx' : c ≤ 9223372036854775807 := by unfold maxLen at hmx; omega
 have hadv : ∀ E : Int, E ≠ 0 → adv E (sx i).nr zs.length = (sx i).nr := fun E hE => by unfold adv; rw [if_neg hE]
 have hid : BS w B m (some k) gP gR an (updR sx i (sx i).nr) av lv lz := h.rst rfl i _ hi (Fr.refl _ []) (fun b q => by cases q) hs
 cases gR with
 | true =>
  have e0 : xorR k true (sx i).s0 (sx i).nr zs = (21, []) := rfl
  rw [e0, hadv 21 (by decide)]
  refine (rxor_gone _ k.g2 _ _ _ _ _ w hs hc).mono ?_
  rintro e w' ⟨rfl, hw⟩
  obtain rfl := hw.symm
  exact ⟨none, 0, 0, rfl, view_nil _, hid, FrP.refl _ _, fun e => absurd rfl e⟩
 | false =>
  by_cases hl : 1048576 < zs.length ∨ 1099511627776 < (sx i).nr + zs.length
  ·have e0 : xorR k false (sx i).s0 (sx i).nr zs = (4, []) := by unfold xorR; simp only [Bool.false_eq_true, if_false]; rw [if_pos hl]
   rw [e0, hadv 4 (by decide)]
   by_cases hl1 : 1048576 < zs.length
   ·refine (rxor_over _ k.g2 _ _ _ _ _ w hs hc hl1).mono ?_
    rintro e w' ⟨rfl, hw⟩
    obtain rfl := hw.symm
    exact ⟨none, 0, 0, rfl, view_nil _, hid, FrP.refl _ _, fun e => absurd rfl e⟩
   ·refine (rxor_long _ k.g2 _ _ _ _ _ w hs hc (by omega) (by omega)).mono ?_
    rintro e w' ⟨rfl, hw⟩
    obtain rfl := hw.symm
    exact ⟨none, 0, 0, rfl, view_nil _, hid, FrP.refl _ _, fun e => absurd rfl e⟩
  ·have e0 : xorR k false (sx i).s0 (sx i).nr zs = (0, xorL (k.nk + 6) k.K (sx i).s0 (sx i).nr (nat8 zs) zs.length) := by unfold xorR; simp only [Bool.false_eq_true, if_false]; rw [if_neg hl]
   have ea : adv 0 (sx i).nr zs.length = (sx i).nr + zs.length := by unfold adv; rw [if_pos rfl]
   rw [e0, ea]
   by_cases hz : zs = []
   ·subst hz
    refine (rxor_zero _ k.g2 _ _ _ _ w hs hc).mono ?_
    rintro e w' ⟨rfl, hw⟩
    obtain rfl := hw.symm
    exact ⟨none, 0, 0, rfl, view_nil _, hid, FrP.refl _ _, fun e => absurd rfl e⟩
   ·obtain ⟨b, off, rfl, hb, hbS, hbc⟩ := hcell hz
    have hord := h.ord.2.1 i hi
    have hg2 := q1.g2
    have hgr := q1.gr
    refine (rxor_ok _ k.g2 k.gr _ k.nk zs.length b off c k.K _ (nat8 zs) w (q3.on rfl) (by rcases q1.nk with e | e | e <;> omega) q1.K hs ⟨by omega, by omega⟩ (by omega) (by omega) hb (fun e => hbS (.inr (.inr (.inl ⟨i, hi, .inr e⟩)))) hcap hmx' hbc (nat8_lt hd.by')).mono ?_
    rintro e w' ⟨v, rfl, h0, h1⟩
    have hv := view_own h0 (xorL_length _ _ _ _ _ _)
    obtain ⟨a, cc, rfl, _⟩ := hv
    have hv := view_own h0 (xorL_length _ _ _ _ _ _)
    exact ⟨_, _, _, rfl, hv, h.rst rfl i _ hi h1.fr (fun b q => List.mem_singleton.1 q) h1.str, h1.fr.toP (fun b q => .inr (.inr (.inl ⟨i, hi, .inr (List.mem_singleton.1 q)⟩))), fun _ b q => (owns_blks h0 b q).1⟩
/-- What the document's Wrap and Unwrap leave. -/
def LsN (w : World) (R : Int × List Int) (e : Ending) (w' : World) : Prop := ∃ a n c, e = .returned (.tuple #[.slice a n c, .int .i64 R.1]) ∧ View w' (.slice a n c) R.2 ∧ Below w.heap.size w w' ∧ AllBytes R.2 ∧ (R.2 ≠ [] → ∀ b, b ∈ vblk (.slice a n c) → w.heap.size ≤ b)
theorem bytes_nil : AllBytes [] := fun i => by simp
theorem bytes_zl {m : Nat} {F : Nat → Nat} (h : ∀ i, F i < 256) : AllBytes (zl m F) := fun i => by
 by_cases hi : i < m
 ·rw [zl_at m F i hi]; have := h i; omega
 ·rw [List.getD_eq_getElem?_getD, List.getElem?_eq_none (by rw [zl_len]; omega)]; simp
theorem lsn_off (w : World) (E : Int) : LsN w (E, []) (.returned (.tuple #[.slice none 0 0, .int .i64 E])) w := ⟨none, 0, 0, rfl, view_nil _, Below.refl _ _, bytes_nil, fun e => absurd rfl e⟩
theorem rwrap_b (dv : Value) (zs : List Int) (h : BS w B m kx gP gR an sx av lv lz) (hd : Dat w (BW m kx an sx av) dv zs) : Calls Tryz.prog 27 #[gq (kx.map Kx.g2), dv] w (LsN w (wrapR kx gR zs)) := by
 obtain ⟨a, c, rfl, hcap, hmx, hcell⟩ := hd.at
 have hmx' : c ≤ 9223372036854775807 := by unfold maxLen at hmx; omega
 cases kx with
 | none =>
  refine (rwrap_nil _ _ _ w).mono ?_
  rintro e w' ⟨rfl, rfl⟩
  exact lsn_off _ 1
 | some k =>
  obtain ⟨q1, q2, q3, q4, q5⟩ := h.kk k rfl
  have hc := q3.cell
  cases gR with
  | true =>
   refine (rwrap_gone k.g2 _ _ _ w hc).mono ?_
   rintro e w' ⟨rfl, rfl⟩
   exact lsn_off _ 21
  | false =>
   by_cases hg : 16 ≤ zs.length ∧ zs.length % 8 = 0 ∧ zs.length ≤ 4096
   ·obtain ⟨n, hnl⟩ : ∃ n, zs.length = 8 * n := ⟨zs.length / 8, by omega⟩
    have hd' : zs.length / 8 = n := by omega
    have e0 : wrapR (some k) false zs = (0, zl (8 + zs.length) (wrB (wrapF (k.nk + 6) k.K n (nat8 zs) (6 * n)))) := by unfold wrapR; simp only [Bool.false_eq_true, if_false]; rw [if_pos hg, hd']
    have hz : zs ≠ [] := fun e => by rw [e] at hg; simp at hg
    obtain ⟨b, off, rfl, hb, hbS, hbc⟩ := hcell hz
    rw [e0]
    refine (rwrap_ok k.g2 k.gr k.nk n b off c zs.length k.K (nat8 zs) w (q3.on rfl) (by rcases q1.nk with e | e | e <;> omega) q1.K (by omega) (by omega) hnl hb hbc (nat8_lt hd.by')).mono ?_
    rintro e w' ⟨v, rfl, h0, h1⟩
    rw [abL_zl] at h0
    have hv := view_own h0 (zl_len _ _)
    obtain ⟨a, cc, rfl, _⟩ := hv
    have hv := view_own h0 (zl_len _ _)
    exact ⟨_, _, _, rfl, hv, h1, bytes_zl (wrB_lt _), fun _ b q => (owns_blks h0 b q).1⟩
   ·have e0 : wrapR (some k) false zs = (ckE zs.length 16 4096, []) := by unfold wrapR; simp only [Bool.false_eq_true, if_false]; rw [if_neg hg]
    rw [e0]
    refine (rwrap_bad k.g2 _ _ _ w hc (by omega) hg).mono ?_
    rintro e w' ⟨rfl, rfl⟩
    exact lsn_off _ _
theorem runwrap_b (dv : Value) (zs : List Int) (h : BS w B m kx gP gR an sx av lv lz) (hd : Dat w (BW m kx an sx av) dv zs) : Calls Tryz.prog 29 #[gq (kx.map Kx.g2), dv] w (LsN w (unwR kx gR zs)) := by
 obtain ⟨a, c, rfl, hcap, hmx, hcell⟩ := hd.at
 have hmx' : c ≤ 9223372036854775807 := by unfold maxLen at hmx; omega
 cases kx with
 | none =>
  refine (runwrap_nil _ _ _ w).mono ?_
  rintro e w' ⟨rfl, rfl⟩
  exact lsn_off _ 1
 | some k =>
  obtain ⟨q1, q2, q3, q4, q5⟩ := h.kk k rfl
  have hc := q3.cell
  cases gR with
  | true =>
   refine (runwrap_gone k.g2 _ _ _ w hc).mono ?_
   rintro e w' ⟨rfl, rfl⟩
   exact lsn_off _ 21
  | false =>
   by_cases hg : 24 ≤ zs.length ∧ zs.length % 8 = 0 ∧ zs.length ≤ 4104
   ·obtain ⟨n, hnl⟩ : ∃ n, zs.length = 8 + 8 * n := ⟨zs.length / 8 - 1, by omega⟩
    have hd' : zs.length / 8 - 1 = n := by omega
    have hF : unwF k zs = aft (unStep (k.nk + 6) k.K n) (6 * n) (un0 (nat8 zs)) := by unfold unwF; rw [hd']
    have hz : zs ≠ [] := fun e => by rw [e] at hg; simp at hg
    obtain ⟨b, off, rfl, hb, hbS, hbc⟩ := hcell hz
    refine (runwrap_ok k.g2 k.gr k.nk n b off c zs.length k.K (nat8 zs) w (q3.on rfl) (by rcases q1.nk with e | e | e <;> omega) q1.K (by omega) (by omega) hnl hcap hb hbc (nat8_lt hd.by')).mono ?_
    rw [← hF]
    rintro e w' ⟨h1, ⟨hmk, s, cc, rfl, h2, h3, h4, h5⟩ | ⟨hmk, rfl⟩⟩
    ·have e0 : unwR (some k) false zs = (0, zl (8 * n) (flt (unwF k zs).2)) := by unfold unwR; simp only [Bool.false_eq_true, if_false]; rw [if_pos hg, if_pos hmk, show zs.length - 8 = 8 * n by omega]
     rw [e0]
     exact ⟨_, _, _, rfl, view_ab h5.c h3 h4, h1, bytes_zl (flt_lt _), fun _ b q => by simp [vblk, Value.ownBlock] at q; omega⟩
    ·have e0 : unwR (some k) false zs = (22, []) := by unfold unwR; simp only [Bool.false_eq_true, if_false]; rw [if_pos hg, if_neg hmk]
     rw [e0]
     exact ⟨none, 0, 0, rfl, view_nil _, h1, bytes_nil, fun e => absurd rfl e⟩
   ·have e0 : unwR (some k) false zs = (ckE zs.length 24 4104, []) := by unfold unwR; simp only [Bool.false_eq_true, if_false]; rw [if_neg hg]
    rw [e0]
    refine (runwrap_bad k.g2 _ _ _ w hc (by omega) hg).mono ?_
    rintro e w' ⟨rfl, rfl⟩
    exact lsn_off _ _
end Go.Proofs.YtgmfiljjogdccabGreatDoor
