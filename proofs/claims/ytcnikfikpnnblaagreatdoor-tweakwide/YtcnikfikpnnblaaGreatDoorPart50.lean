import Derived.Test.YtcnikfikpnnblaaGreatDoorPart40
import Derived.Test.YtcnikfikpnnblaaGreatDoorHci
import Derived.Test.YtcnikfikpnnblaaGreatDoorMak
namespace Go.Proofs.YtcnikfikpnnblaaGreatDoor
open Go.RowKit
set_option linter.unusedVariables false
set_option linter.unusedSimpArgs false
/-- What a cipher of hctr2 seals and opens with. -/
def hcV (fn sh : Nat) (fv sv pv : Value) : Prop := fv = fV fn ∧ sv = bV 162 [.pointer (some ⟨sh, 0, none⟩), fV fn] ∧ pv = bV 163 [.pointer (some ⟨sh, 0, none⟩), fV fn]
theorem newHC15 (i : Nat) (hi : i < 3) (v : Value) (zs : List Int) (w : World) (hf : ∀ j, j < 1 + 17 * i + 15 → spN j ≠ sxN i 15) (hv : View w v zs) (hb : AllBytes zs) (hl : zs.length = 1 * (16 + 8 * i) + 0) (hP : Pow w) (hrc : RC w) :
    Calls Tryz.prog 21 #[.string (sxN i 15), v] w fun e w' => NewP w (sxN i 15) 1 (16 + 8 * i) zs (hcV 136) e w' := by
  have q8 : 16 + 8 * i = 4 * (4 + 2 * i) := by omega
  have hpos : 3 < w.heap.size := World.block_lt_of_cell? w ⟨3, 0, none⟩ (hrc 0 (by decide))
  refine new_core (sxN i 15) (nmB 15) (16 + 8 * i) 1 0 1 100 (fV 89) v zs w (fun fv => fv = fV 136) (hcV 136) (.inr ⟨_, rfl⟩) hv (by omega) (by omega) (by omega) hl ?_ ?_ (fun args w => enter_ok Tryz.func100 (by rfl) (by rfl) args w) ?_ ?_ ?_ ?_
  · have q := find_at (sxN i 15) (1 + 17 * i + 15) w hP (by omega) (spN_lit i 15 (by omega)) hf
    rw [sxF_lit i 15 (by omega)] at q
    exact q
  · intro u hu
    have q := share_ok (sxN i 15) (nmB 15) (4 + 2 * i) 1 0 1 (fV 89) (fV 100) v zs u rfl rfl (hv.below hu) hb (by omega) (by omega) (by omega) (hrc.belowB hu hpos) (Nat.lt_of_lt_of_le hpos hu.size)
    rw [← q8] at q
    exact q.mono fun e u' h => h
  · intro bg hbg
    obtain rfl : bg = 89 := by injection hbg with e; injection e with e; exact e.symm
    exact fun args w => enter_ok Tryz.func89 (by rfl) (by rfl) args w
  · intro q; cases q
  · intro bg hbg B sh kv mp u hu hB1 hB2 hA
    obtain rfl : bg = 89 := by injection hbg with e; injection e with e; exact e.symm
    refine (beginPlain_ok _ u).mono ?_
    rintro e u' ⟨rfl, hw⟩
    obtain rfl := hw.symm
    exact ⟨_, _, _, _, rfl, hA, ⟨0, [], by omega, World.ownsRow_nil _ _ _ _⟩, Fs.of_below (Below.refl _ _) hB2, rfl⟩
  · intro fv B sh kv mp ov u _ hΦ hu hB1 hB2 hA few
    subst hΦ
    refine (buildHCTR2_ok sh 136 #[] #[] u).mono ?_
    intro e u' hh
    obtain ⟨rfl, hb⟩ := hh.out
    exact ⟨_, _, _, _, _, _, _, rfl, hA.below hb, Fs.of_below hb hB2, rfl, rfl, rfl⟩
theorem newHC16 (i : Nat) (hi : i < 3) (v : Value) (zs : List Int) (w : World) (hf : ∀ j, j < 1 + 17 * i + 16 → spN j ≠ sxN i 16) (hv : View w v zs) (hb : AllBytes zs) (hl : zs.length = 1 * (16 + 8 * i) + 0) (hP : Pow w) (hrc : RC w) :
    Calls Tryz.prog 21 #[.string (sxN i 16), v] w fun e w' => NewP w (sxN i 16) 1 (16 + 8 * i) zs (hcV 137) e w' := by
  have q8 : 16 + 8 * i = 4 * (4 + 2 * i) := by omega
  have hpos : 3 < w.heap.size := World.block_lt_of_cell? w ⟨3, 0, none⟩ (hrc 0 (by decide))
  refine new_core (sxN i 16) (nmB 16) (16 + 8 * i) 1 0 1 100 (fV 90) v zs w (fun fv => fv = fV 137) (hcV 137) (.inr ⟨_, rfl⟩) hv (by omega) (by omega) (by omega) hl ?_ ?_ (fun args w => enter_ok Tryz.func100 (by rfl) (by rfl) args w) ?_ ?_ ?_ ?_
  · have q := find_at (sxN i 16) (1 + 17 * i + 16) w hP (by omega) (spN_lit i 16 (by omega)) hf
    rw [sxF_lit i 16 (by omega)] at q
    exact q
  · intro u hu
    have q := share_ok (sxN i 16) (nmB 16) (4 + 2 * i) 1 0 1 (fV 90) (fV 100) v zs u rfl rfl (hv.below hu) hb (by omega) (by omega) (by omega) (hrc.belowB hu hpos) (Nat.lt_of_lt_of_le hpos hu.size)
    rw [← q8] at q
    exact q.mono fun e u' h => h
  · intro bg hbg
    obtain rfl : bg = 90 := by injection hbg with e; injection e with e; exact e.symm
    exact fun args w => enter_ok Tryz.func90 (by rfl) (by rfl) args w
  · intro q; cases q
  · intro bg hbg B sh kv mp u hu hB1 hB2 hA
    obtain rfl : bg = 90 := by injection hbg with e; injection e with e; exact e.symm
    refine (beginPlain64_ok _ u).mono ?_
    rintro e u' ⟨rfl, hw⟩
    obtain rfl := hw.symm
    exact ⟨_, _, _, _, rfl, hA, ⟨0, [], by omega, World.ownsRow_nil _ _ _ _⟩, Fs.of_below (Below.refl _ _) hB2, rfl⟩
  · intro fv B sh kv mp ov u _ hΦ hu hB1 hB2 hA few
    subst hΦ
    refine (buildHCTR2_ok sh 137 #[] #[] u).mono ?_
    intro e u' hh
    obtain ⟨rfl, hb⟩ := hh.out
    exact ⟨_, _, _, _, _, _, _, rfl, hA.below hb, Fs.of_below hb hB2, rfl, rfl, rfl⟩
end Go.Proofs.YtcnikfikpnnblaaGreatDoor
namespace Go.Proofs.YtcnikfikpnnblaaGreatDoor
open Go.RowKit
set_option linter.unusedVariables false
set_option linter.unusedSimpArgs false
theorem hc_first : ∀ i : Fin 3, ∀ k : Fin 2, ∀ j : Fin 52, j.1 < 1 + 17 * i.1 + (15 + k.1) → spN j.1 ≠ sxN i.1 (15 + k.1) := by decide +kernel
theorem ftN_loose (nn : Int) : 16 ≤ ftN nn false ∧ ftN nn false ≤ 512 := by
  unfold ftN
  have h : (IntKind.u64.wrap nn % 497).toNat < 497 := by omega
  simp; omega
/-- The function that begins a sector. -/
def hcFn (k : Nat) : Nat := if k = 0 then 136 else 137
theorem hcFn_enter (k : Nat) (hk : k < 2) : ∀ args u, (callFunc (hcFn k) args).run Tryz.prog u = .ok (.enter (hcFn k) args) u := by
  match k, hk with
  | 0, _ => exact fun args u => enter_ok Tryz.func136 (by rfl) (by rfl) args u
  | 1, _ => exact fun args u => enter_ok Tryz.func137 (by rfl) (by rfl) args u
theorem hcFn_ok (k : Nat) (hk : k < 2) (s n : Nat) (hs : s < 18446744073709551616) (u : World) : Calls Tryz.prog (hcFn k) #[.int .u64 (s : Nat), .int .i64 (n : Nat)] u fun e w' => Hid (e = .returned (Fd.BV (plV (k = 1) s)) ∧ Below u.heap.size u w') := by
  match k, hk with
  | 0, _ => exact plain_ok s (n : Nat) u hs
  | 1, _ => exact plain64_ok s (n : Nat) u hs
theorem newHC (i k : Nat) (hi : i < 3) (hk : k < 2) (v : Value) (zs : List Int) (w : World) (hv : View w v zs) (hb : AllBytes zs) (hl : zs.length = 16 + 8 * i) (hP : Pow w) (hrc : RC w) :
    Calls Tryz.prog 21 #[.string (sxN i (15 + k)), v] w fun e w' => NewP w (sxN i (15 + k)) 1 (16 + 8 * i) zs (hcV (hcFn k)) e w' := by
  have hf : ∀ j, j < 1 + 17 * i + (15 + k) → spN j ≠ sxN i (15 + k) := fun j hj => hc_first ⟨i, hi⟩ ⟨k, hk⟩ ⟨j, by omega⟩ hj
  match k, hk with
  | 0, _ => exact newHC15 i hi v zs w hf hv hb (by omega) hP hrc
  | 1, _ => exact newHC16 i hi v zs w hf hv hb (by omega) hP hrc
/-- A cipher of hctr2 at c. -/
structure HcW (c sh g nr : Nat) (K : Nat → Nat) (S : ByteArray) (wd fn : Nat) (kv ov pv : Value) (u : World) : Prop where
  key : KeyAt u g nr K
  box : Bx u sh 108 (shL S 1 kv wd (some ⟨g, 0, none⟩) ov)
  cip : Bx u c 97 [.pointer (some ⟨sh, 0, none⟩), fV fn, bV 162 [.pointer (some ⟨sh, 0, none⟩), fV fn], pv]
  n1 : sh ≠ g
  n2 : c ≠ g
theorem HcW.below {c sh g nr : Nat} {K : Nat → Nat} {S : ByteArray} {wd fn : Nat} {kv ov pv : Value} {u u2 : World} (h : HcW c sh g nr K S wd fn kv ov pv u) (hb : Below u.heap.size u u2) : HcW c sh g nr K S wd fn kv ov pv u2 :=
  ⟨h.key.below hb h.key.ciph.here, h.box.below hb, h.cip.below hb, h.n1, h.n2⟩
theorem HcW.grown {c sh g nr : Nat} {K : Nat → Nat} {S : ByteArray} {wd fn : Nat} {kv ov pv : Value} {u u2 : World} (h : HcW c sh g nr K S wd fn kv ov pv u) (hb : u.grownBy u2 (some g)) (ha : KeyAt u2 g nr K) : HcW c sh g nr K S wd fn kv ov pv u2 :=
  ⟨ha, h.box.keep (hb.block sh h.box.lt (fun e => h.n1 (by injection e))), h.cip.keep (hb.block c h.cip.lt (fun e => h.n2 (by injection e))), h.n1, h.n2⟩
theorem HcW.of {B c sh : Nat} {S : ByteArray} {t fn : Nat} {zs : List Int} {kv : Value} {mp : Option Addr} {ov fv sv pv : Value} {u : World} (hs : ShA B u sh S 1 (16 + 8 * t) zs kv mp ov) (hc : Bx u c 97 [.pointer (some ⟨sh, 0, none⟩), fv, sv, pv]) (hp : hcV fn sh fv sv pv) (hl : zs.length = 16 + 8 * t) :
    ∃ g, B ≤ g ∧ HcW c sh g (4 + 2 * t + 6) (schedK (4 + 2 * t) (nat8 zs)) S (16 + 8 * t) fn kv ov pv u := by
  obtain ⟨rfl, rfl, rfl⟩ := hp
  rcases hs.main with ⟨h0, _⟩ | ⟨g, nk, rfl, hB, _, hwd, hK, R, hR⟩
  · omega
  · have e : nk = 4 + 2 * t := by omega
    rw [List.take_of_length_le (by omega), e] at hK
    exact ⟨g, hB, hK, hs.box, hc, type_ne hs.box hR (by decide), type_ne hc hR (by decide)⟩
/-- Seal of a cipher of hctr2. -/
theorem hcSeal (c sh g nr : Nat) (K : Nat → Nat) (S : ByteArray) (wd k : Nat) (hk : k < 2) (kv ov pv : Value) (s : Nat) (hs : s < 18446744073709551616) (b off cp : Nat) (zs : List Int) (w : World) (h : HcW c sh g nr K S wd (hcFn k) kv ov pv w)
    (hv : View w (.slice (some ⟨b, off, none⟩) zs.length cp) zs) (hb : AllBytes zs) (h16 : 16 ≤ zs.length) (hm : zs.length ≤ 4096) (hbg : b ≠ g) :
    Calls Tryz.prog 29 #[.pointer (some ⟨c, 0, none⟩), .int .u64 (s : Nat), .slice (some ⟨b, off, none⟩) zs.length cp] w fun e w' => Hid (∃ y d, e = .returned (.tuple #[.slice (some ⟨y, 0, none⟩) zs.length d, .int .i64 0]) ∧ w.heap.size ≤ y ∧ View w' (.slice (some ⟨y, 0, none⟩) zs.length d) (blB (hcX nr K (plV (k = 1) s) zs) ++ hcCt nr K (plV (k = 1) s) zs) ∧ HcW c sh g nr K S wd (hcFn k) kv ov pv w' ∧ w.grownBy w' (some g)) := by
  have q := seal_gen c sh 162 [.pointer (some ⟨sh, 0, none⟩), fV (hcFn k)] (s : Nat) (some ⟨b, off, none⟩) zs.length cp 1 w (h.cip.cell 0 _ rfl) (h.cip.cell 2 _ rfl) (h.box.cell 1 _ rfl) (h.box.cell 6 _ rfl) h16 hm (Nat.mod_one _) (by decide) (fun args u => enter_ok Tryz.func162 (by rfl) (by rfl) args u)
    (fun v w' => ∃ y d, v = .slice (some ⟨y, 0, none⟩) zs.length d ∧ w.heap.size ≤ y ∧ View w' (.slice (some ⟨y, 0, none⟩) zs.length d) (blB (hcX nr K (plV (k = 1) s) zs) ++ hcCt nr K (plV (k = 1) s) zs) ∧ HcW c sh g nr K S wd (hcFn k) kv ov pv w' ∧ w.grownBy w' (some g)) ?_
  · refine q.mono fun e w' hh => ?_
    obtain ⟨y, kk, d, rfl, y', d', hx, hp⟩ := hh.out
    rw [hx]
    exact ⟨y', d', rfl, hp⟩
  · refine (hcseal_ok g nr K sh (hcFn k) (plV (k = 1) s) s b off cp zs w h.key (h.box.cell 4 _ rfl) h.n1 (hcFn_enter k hk) (fun u => hcFn_ok k hk s _ hs u) hv hb h16 hm hbg).mono fun e w' hh => ?_
    obtain ⟨y, d, rfl, h1, h2, h3, h4⟩ := hh.out
    exact ⟨_, _, _, rfl, y, d, rfl, h1, h2, h.grown h4 h3, h4⟩
theorem hcIV (c sh g nr : Nat) (K : Nat → Nat) (S : ByteArray) (wd k : Nat) (hk : k < 2) (kv ov pv : Value) (s : Nat) (hs : s < 18446744073709551616) (n : Nat) (w : World) (h : HcW c sh g nr K S wd (hcFn k) kv ov pv w) (h16 : 16 ≤ n) (hm : n ≤ 4096) :
    Calls Tryz.prog 33 #[.pointer (some ⟨c, 0, none⟩), .int .u64 (s : Nat), .int .i64 (n : Nat)] w fun e w' => Hid (∃ y, e = .returned (.tuple #[.slice (some ⟨y, 0, none⟩) 16 16, .int .i64 0]) ∧ View w' (.slice (some ⟨y, 0, none⟩) 16 16) (blB (plV (k = 1) s)) ∧ w.heap.size ≤ y ∧ Below w.heap.size w w') :=
  iv_ok c sh (hcFn k) (plV (k = 1) s) s n 1 w (h.cip.cell 0 _ rfl) (h.cip.cell 1 _ rfl) (h.box.cell 1 _ rfl) (h.box.cell 6 _ rfl) h16 hm (Nat.mod_one _) (by decide) (hcFn_enter k hk) (fun u => hcFn_ok k hk s _ hs u)
end Go.Proofs.YtcnikfikpnnblaaGreatDoor
