import Derived.Test.YtcnikfikpnnblaaGreatDoorPart36
import Derived.Test.YtcnikfikpnnblaaGreatDoorRfa
import Derived.Test.YtcnikfikpnnblaaGreatDoorDgRLaid
import Derived.Test.YtcnikfikpnnblaaGreatDoorPart29
namespace Go.Proofs.YtcnikfikpnnblaaGreatDoor
open Go.RowKit
set_option linter.unusedVariables false
set_option linter.unusedSimpArgs false
theorem enter_ok {P : Program} {f : FuncId} {fn : Func} {c : Code} (hf : P.funcs[f]? = some fn) (hn : (fn.name == "runtime.NumGoroutine") = false) (hb : fn.body = some c) (args : Array Value) (w : World) : (callFunc f args).run P w = .ok (.enter f args) w := by
 have h1 : fn.name ≠ "runtime.NumGoroutine" := by simpa using hn
 simp [callFunc, hf, h1, hb]
theorem first_or (S : ByteArray) : ∀ n, (∃ j, j < n ∧ spN j = S ∧ ∀ i, i < j → spN i ≠ S) ∨ ∀ i, i < n → spN i ≠ S
 | 0 => .inr fun i hi => by omega
 | n + 1 => by
  rcases first_or S n with ⟨j, h1, h2, h3⟩ | h
  ·exact .inl ⟨j, by omega, h2, h3⟩
  ·by_cases e : spN n = S
   ·exact .inl ⟨n, by omega, e, h⟩
   ·refine .inr fun i hi => ?_
    by_cases q : i < n
    ·exact h i q
    ·obtain rfl : i = n := by omega
     exact e
theorem first_eq {S : ByteArray} {j k : Nat} (h1 : spN j = S) (h2 : ∀ i, i < j → spN i ≠ S) (k1 : spN k = S) (k2 : ∀ i, i < k → spN i ≠ S) : j = k := by
 rcases Nat.lt_trichotomy j k with q | q | q
 ·exact absurd h1 (k2 j q)
 ·exact q
 ·exact absurd k1 (h2 k q)
theorem find_at (S : ByteArray) (j : Nat) (w : World) (hT : Pow w) (hj : j < 52) (h1 : spN j = S) (h2 : ∀ i, i < j → spN i ≠ S) : Calls Tryz.prog 43 #[.string S] w fun e w' => Hid (e = .returned (.tuple #[.agg (sxF j).toArray, .bool true]) ∧ Below w.heap.size w w') := by
 refine (find_ok S w hT).mono ?_
 rintro e w' ⟨⟨k, hk, e1, e2, rfl⟩ | ⟨hn, _⟩, hb⟩
 ·rw [first_eq h1 h2 e1 e2]; exact ⟨rfl, hb⟩
 ·exact absurd h1 (hn j hj)
theorem find_no (S : ByteArray) (w : World) (hT : Pow w) (h : ∀ i, i < 52 → spN i ≠ S) : Calls Tryz.prog 43 #[.string S] w fun e w' => Hid (e = .returned (.tuple #[.agg zSx.toArray, .bool false]) ∧ Below w.heap.size w w') := by
 refine (find_ok S w hT).mono ?_
 rintro e w' ⟨⟨k, hk, e1, e2, rfl⟩ | ⟨hn, rfl⟩, hb⟩
 ·exact absurd e1 (h k hk)
 ·exact ⟨rfl, hb⟩
/-- Any of the begins. -/
def isBeg (bg : Nat) : Prop := bg = 87 ∨ bg = 89 ∨ bg = 90 ∨ bg = 91 ∨ bg = 92 ∨ bg = 93 ∨ bg = 94 ∨ bg = 96
theorem mB_beg (k : Nat) (hk : k < 17) : mB k = .nilFunc ∨ ∃ bg, isBeg bg ∧ mB k = fV bg := by
 match k, hk with
 | 0, _ => exact .inl rfl
 | 1, _ => exact .inr ⟨87, by unfold isBeg; simp, rfl⟩
 | 2, _ => exact .inr ⟨89, by unfold isBeg; simp, rfl⟩
 | 3, _ => exact .inr ⟨90, by unfold isBeg; simp, rfl⟩
 | 4, _ => exact .inr ⟨91, by unfold isBeg; simp, rfl⟩
 | 5, _ => exact .inr ⟨92, by unfold isBeg; simp, rfl⟩
 | 6, _ => exact .inr ⟨93, by unfold isBeg; simp, rfl⟩
 | 7, _ => exact .inr ⟨94, by unfold isBeg; simp, rfl⟩
 | 8, _ => exact .inr ⟨94, by unfold isBeg; simp, rfl⟩
 | 9, _ => exact .inr ⟨96, by unfold isBeg; simp, rfl⟩
 | 10, _ => exact .inr ⟨89, by unfold isBeg; simp, rfl⟩
 | 11, _ => exact .inr ⟨90, by unfold isBeg; simp, rfl⟩
 | 12, _ => exact .inr ⟨91, by unfold isBeg; simp, rfl⟩
 | 13, _ => exact .inr ⟨93, by unfold isBeg; simp, rfl⟩
 | 14, _ => exact .inr ⟨92, by unfold isBeg; simp, rfl⟩
 | 15, _ => exact .inr ⟨89, by unfold isBeg; simp, rfl⟩
 | 16, _ => exact .inr ⟨90, by unfold isBeg; simp, rfl⟩
 | n + 17, h => exact absurd h (by omega)
theorem beg_enter (bg : Nat) (h : isBeg bg) (args : Array Value) (w : World) : (callFunc bg args).run Tryz.prog w = .ok (.enter bg args) w := by
 rcases h with rfl | rfl | rfl | rfl | rfl | rfl | rfl | rfl
 ·exact enter_ok Tryz.func87 (by rfl) (by rfl) args w
 ·exact enter_ok Tryz.func89 (by rfl) (by rfl) args w
 ·exact enter_ok Tryz.func90 (by rfl) (by rfl) args w
 ·exact enter_ok Tryz.func91 (by rfl) (by rfl) args w
 ·exact enter_ok Tryz.func92 (by rfl) (by rfl) args w
 ·exact enter_ok Tryz.func93 (by rfl) (by rfl) args w
 ·exact enter_ok Tryz.func94 (by rfl) (by rfl) args w
 ·exact enter_ok Tryz.func96 (by rfl) (by rfl) args w
def isFn (fv : Value) : Prop := ∃ fn xs ys, fv = .func (.func fn) xs ys
theorem beg_any (bg : Nat) (hb : isBeg bg) (B sh : Nat) (S : ByteArray) (st wd : Nat) (zs : List Int) (kv : Value) (mp : Option Addr) (u : World) (hB : B ≤ u.heap.size) (h : ShA B u sh S st wd zs kv mp (.slice none 0 0)) (hn : zs.length ≤ 1000) (hT : Dg.Tables u) (hrc : RC u) :
  Calls Tryz.prog bg #[.pointer (some ⟨sh, 0, none⟩)] u fun e u' => Hid (BegP B sh S st wd zs kv mp isFn u e u') := by
 have few : ∃ n os, n ≤ 1 ∧ u.ownsRow B 105 1 (.slice none 0 0) n os := ⟨0, [], by omega, World.ownsRow_nil _ _ _ _⟩
 rcases hb with rfl | rfl | rfl | rfl | rfl | rfl | rfl | rfl
 ·refine (beginNull_ok _ u).mono ?_
  rintro e u' ⟨rfl, hw⟩
  obtain rfl := hw.symm
  exact ⟨_, _, _, _, rfl, h, few, Fs.of_below (Below.refl _ _) hB, ⟨_, _, _, rfl⟩⟩
 ·refine (beginPlain_ok _ u).mono ?_
  rintro e u' ⟨rfl, hw⟩
  obtain rfl := hw.symm
  exact ⟨_, _, _, _, rfl, h, few, Fs.of_below (Below.refl _ _) hB, ⟨_, _, _, rfl⟩⟩
 ·refine (beginPlain64_ok _ u).mono ?_
  rintro e u' ⟨rfl, hw⟩
  obtain rfl := hw.symm
  exact ⟨_, _, _, _, rfl, h, few, Fs.of_below (Below.refl _ _) hB, ⟨_, _, _, rfl⟩⟩
 ·refine (beginPlain64BE_ok _ u).mono ?_
  rintro e u' ⟨rfl, hw⟩
  obtain rfl := hw.symm
  exact ⟨_, _, _, _, rfl, h, few, Fs.of_below (Below.refl _ _) hB, ⟨_, _, _, rfl⟩⟩
 ·refine (beginBenbi_ok _ u).mono ?_
  rintro e u' ⟨rfl, hw⟩
  obtain rfl := hw.symm
  exact ⟨_, _, _, _, rfl, h, few, Fs.of_below (Below.refl _ _) hB, ⟨_, _, _, rfl⟩⟩
 ·refine (beginESSIV_ok B sh S st wd zs kv mp u h hB hn hT hrc).mono ?_
  rintro e u' hh
  obtain ⟨go, bx, ov', rfl, _, _, _, _, _, hS, hf, hF⟩ := hh.out
  exact ⟨_, _, _, _, rfl, hS, hf, hF, ⟨_, _, _, rfl⟩⟩
 ·refine (beginEBOIV_ok sh u).mono ?_
  rintro e u' ⟨rfl, hx, hl⟩
  obtain ⟨n, os, hn1, ho⟩ := few
  exact ⟨_, _, _, _, rfl, h.below hl, ⟨n, os, hn1, ownsRow_below ho hl⟩, Fs.of_below hl hB, ⟨_, _, _, rfl⟩⟩
 ·refine (beginTCW_ok sh u).mono ?_
  rintro e u' ⟨rfl, hx, hl⟩
  obtain ⟨n, os, hn1, ho⟩ := few
  exact ⟨_, _, _, _, rfl, h.below hl, ⟨n, os, hn1, ownsRow_below ho hl⟩, Fs.of_below hl hB, ⟨_, _, _, rfl⟩⟩
theorem bld_enter (k : Nat) (hk : k < 17) (args : Array Value) (w : World) : (callFunc (mU k) args).run Tryz.prog w = .ok (.enter (mU k) args) w := by
 have : mU k = 86 ∨ mU k = 88 ∨ mU k = 95 ∨ mU k = 97 ∨ mU k = 98 ∨ mU k = 99 ∨ mU k = 100 := by
  have q : ∀ k, k < 17 → (mU k = 86 ∨ mU k = 88 ∨ mU k = 95 ∨ mU k = 97 ∨ mU k = 98 ∨ mU k = 99 ∨ mU k = 100) := by decide
  exact q k hk
 rcases this with h | h | h | h | h | h | h <;> rw [h]
 ·exact enter_ok Tryz.func86 (by rfl) (by rfl) args w
 ·exact enter_ok Tryz.func88 (by rfl) (by rfl) args w
 ·exact enter_ok Tryz.func95 (by rfl) (by rfl) args w
 ·exact enter_ok Tryz.func97 (by rfl) (by rfl) args w
 ·exact enter_ok Tryz.func98 (by rfl) (by rfl) args w
 ·exact enter_ok Tryz.func99 (by rfl) (by rfl) args w
 ·exact enter_ok Tryz.func100 (by rfl) (by rfl) args w
theorem mU_two (k : Nat) (hk : k < 17) : (mU k = 86 ∧ mB k = .nilFunc) ∨ ((mU k = 88 ∨ mU k = 97 ∨ mU k = 99 ∨ mU k = 100) ∧ mB k ≠ .nilFunc) ∨ ((mU k = 95 ∨ mU k = 98) ∧ mB k ≠ .nilFunc ∧ mK k = 2 ∧ mM k = 0) := by
 match k, hk with
 | 0, _ => exact .inl ⟨rfl, rfl⟩
 | 1, _ => exact .inr (.inl ⟨by decide, (by intro e; cases e)⟩)
 | 2, _ => exact .inr (.inl ⟨by decide, (by intro e; cases e)⟩)
 | 3, _ => exact .inr (.inl ⟨by decide, (by intro e; cases e)⟩)
 | 4, _ => exact .inr (.inl ⟨by decide, (by intro e; cases e)⟩)
 | 5, _ => exact .inr (.inl ⟨by decide, (by intro e; cases e)⟩)
 | 6, _ => exact .inr (.inl ⟨by decide, (by intro e; cases e)⟩)
 | 7, _ => exact .inr (.inl ⟨by decide, (by intro e; cases e)⟩)
 | 8, _ => exact .inr (.inr ⟨by decide, (by intro e; cases e), rfl, rfl⟩)
 | 9, _ => exact .inr (.inl ⟨by decide, (by intro e; cases e)⟩)
 | 10, _ => exact .inr (.inr ⟨by decide, (by intro e; cases e), rfl, rfl⟩)
 | 11, _ => exact .inr (.inr ⟨by decide, (by intro e; cases e), rfl, rfl⟩)
 | 12, _ => exact .inr (.inr ⟨by decide, (by intro e; cases e), rfl, rfl⟩)
 | 13, _ => exact .inr (.inr ⟨by decide, (by intro e; cases e), rfl, rfl⟩)
 | 14, _ => exact .inr (.inl ⟨by decide, (by intro e; cases e)⟩)
 | 15, _ => exact .inr (.inl ⟨by decide, (by intro e; cases e)⟩)
 | 16, _ => exact .inr (.inl ⟨by decide, (by intro e; cases e)⟩)
 | n + 17, h => exact absurd h (by omega)
/-- Any of the builds. -/
theorem bld_any (i k : Nat) (hi : i < 3) (hk : k < 17) (fv : Value) (hfv : mB k = .nilFunc ∨ isFn fv) (B sh : Nat) (S : ByteArray) (st : Nat) (zs : List Int) (kv : Value) (mp : Option Addr) (ov : Value) (u : World) (hB : B ≤ u.heap.size) (h : ShA B u sh S st (16 + 8 * i) zs kv mp ov) (few : ∃ n os, n ≤ 1 ∧ u.ownsRow B 105 1 ov n os) (hl : zs.length = mK k * (16 + 8 * i) + mM k) (hb : AllBytes zs) (hrc : RC u) (hpos : 3 < u.heap.size) :
  Calls Tryz.prog (mU k) #[.pointer (some ⟨sh, 0, none⟩), fv] u fun e u' => Hid (BldP B sh S st (16 + 8 * i) zs kv mp (fun _ _ _ _ => True) fv u e u') := by
 have q8 : 16 + 8 * i = 4 * (4 + 2 * i) := by omega
 rcases mU_two k hk with ⟨e, hn⟩ | ⟨e, hn⟩ | ⟨e, hn, hK, hM⟩
 ·rw [e]
  refine (buildECB_ok sh fv u).mono ?_
  intro e u' hh
  obtain ⟨rfl, hb⟩ := hh.out
  exact ⟨_, _, _, _, _, _, _, rfl, h.below hb, Fs.of_below hb hB, trivial⟩
 ·obtain ⟨fn, xs, ys, rfl⟩ := hfv.resolve_left hn
  rcases e with e | e | e | e <;> rw [e]
  ·refine (buildCBC_ok sh fn xs ys u).mono ?_
   intro e u' hh
   obtain ⟨rfl, hb⟩ := hh.out
   exact ⟨_, _, _, _, _, _, _, rfl, h.below hb, Fs.of_below hb hB, trivial⟩
  ·refine (buildTCW_ok sh fn xs ys u).mono ?_
   intro e u' hh
   obtain ⟨rfl, hb⟩ := hh.out
   exact ⟨_, _, _, _, _, _, _, rfl, h.below hb, Fs.of_below hb hB, trivial⟩
  ·refine (buildLRW_ok sh fn xs ys u).mono ?_
   intro e u' hh
   obtain ⟨rfl, hb⟩ := hh.out
   exact ⟨_, _, _, _, _, _, _, rfl, h.below hb, Fs.of_below hb hB, trivial⟩
  ·refine (buildHCTR2_ok sh fn xs ys u).mono ?_
   intro e u' hh
   obtain ⟨rfl, hb⟩ := hh.out
   exact ⟨_, _, _, _, _, _, _, rfl, h.below hb, Fs.of_below hb hB, trivial⟩
 ·obtain ⟨fn, xs, ys, rfl⟩ := hfv.resolve_left hn
  rw [hK, hM, q8] at hl
  rw [q8] at h ⊢
  rcases e with e | e <;> rw [e]
  ·refine (buildElephant_ok B sh S st (4 + 2 * i) zs kv mp ov fn xs ys u h hB few (by omega) (by omega) hb hrc hpos).mono ?_
   intro e u' hh
   obtain ⟨go, ov', rfl, _, _, hS, hF⟩ := hh.out
   exact ⟨_, _, _, _, _, _, _, rfl, hS, hF, trivial⟩
  ·refine (buildXTS_ok B sh S st (4 + 2 * i) zs kv mp ov fn xs ys u h hB few (by omega) (by omega) hb hrc hpos).mono ?_
   intro e u' hh
   obtain ⟨go, ov', rfl, _, _, hS, hF⟩ := hh.out
   exact ⟨_, _, _, _, _, _, _, rfl, hS, hF, trivial⟩
theorem RC.belowB {B : Nat} {w w' : World} (h : RC w) (hb : Below B w w') (h0 : 3 < B) : RC w' := fun i hi => (hb.cell (p := ⟨3, i, none⟩) h0).trans (h i hi)
/-- tweak.New of a cipher with AES. -/
theorem newK (i k : Nat) (hi : i < 3) (hk : k < 17) (v : Value) (zs : List Int) (w : World) (hf : ∀ j, j < 1 + 17 * i + k → spN j ≠ sxN i k) (hv : View w v zs) (hb : AllBytes zs) (hl : zs.length = mK k * (16 + 8 * i) + mM k) (hP : Pow w) (hT : Dg.Tables w) (hrc : RC w) :
  Calls Tryz.prog 21 #[.string (sxN i k), v] w fun e w' => NewP w (sxN i k) (mS k) (16 + 8 * i) zs (fun _ _ _ _ => True) e w' := by
 have q8 : 16 + 8 * i = 4 * (4 + 2 * i) := by omega
 have hpos : 3 < w.heap.size := by have := hT.size; omega
 have hm1 := mK_le k
 have hm2 := mM_le k
 have hx : mK k * (16 + 8 * i) ≤ 2 * 32 := Nat.mul_le_mul hm1 (by omega)
 have hk1 : 1 ≤ mK k := by
  have q : ∀ k, k < 17 → 1 ≤ mK k := by decide
  exact q k hk
 have hx2 : 16 + 8 * i ≤ mK k * (16 + 8 * i) := Nat.le_mul_of_pos_left _ hk1
 refine new_core (sxN i k) (nmB k) (16 + 8 * i) (mK k) (mM k) (mS k) (mU k) (mB k) v zs w (fun fv => mB k = .nilFunc ∨ isFn fv) (fun _ _ _ _ => True) ?_ hv hm1 (by omega) hm2 hl ?_ ?_ (bld_enter k hk) ?_ ?_ ?_ ?_
 ·rcases mB_beg k hk with q | ⟨bg, _, q⟩
  ·exact .inl q
  ·exact .inr ⟨bg, q⟩
 ·have q := find_at (sxN i k) (1 + 17 * i + k) w hP (by omega) (spN_lit i k hk) hf
  rw [sxF_lit i k hk] at q
  exact q
 ·intro u hu
  have q := share_ok (sxN i k) (nmB k) (4 + 2 * i) (mK k) (mM k) (mS k) (mB k) (fV (mU k)) v zs u (mB_one k) rfl (hv.below hu) hb (by omega) (by omega) (by omega) (hrc.belowB hu hpos) (Nat.lt_of_lt_of_le hpos hu.size)
  rw [← q8] at q
  exact q.mono fun e u' h => h
 ·intro bg hbg
  rcases mB_beg k hk with q | ⟨bg', hb', q⟩
  ·rw [q] at hbg; cases hbg
  ·rw [q] at hbg
   obtain rfl : bg' = bg := by injection hbg with e; injection e
   exact beg_enter bg' hb'
 ·intro q; exact .inl q
 ·intro bg hbg B sh kv mp u hu hB1 hB2 hA
  rcases mB_beg k hk with q | ⟨bg', hb', q⟩
  ·rw [q] at hbg; cases hbg
  ·rw [q] at hbg
   obtain rfl : bg' = bg := by injection hbg with e; injection e
   refine (beg_any bg' hb' B sh _ _ _ zs kv mp u hB2 hA (by omega) (hT.below hu (by have := hT.size; omega)) (hrc.belowB hu hpos)).mono ?_
   intro e u' hh
   obtain ⟨fn, xs, ys, ov', e1, e2, e3, e4, e5⟩ := hh.out
   exact ⟨fn, xs, ys, ov', e1, e2, e3, e4, .inr e5⟩
 ·intro fv B sh kv mp ov u _ hΦ hu hB1 hB2 hA few
  exact bld_any i k hi hk fv hΦ B sh _ _ zs kv mp ov u hB2 hA few hl hb (hrc.belowB hu hpos) (Nat.lt_of_lt_of_le hpos hu.size)
/-- Of null. -/
theorem newNull (v : Value) (w : World) (hv : View w v []) (hP : Pow w) :
  Calls Tryz.prog 21 #[.string ⟨#[110, 117, 108, 108]⟩, v] w fun e w' => NewP w ⟨#[110, 117, 108, 108]⟩ 1 0 [] (fun _ _ _ _ => True) e w' := by
 refine new_core ⟨#[110, 117, 108, 108]⟩ ⟨#[]⟩ 0 0 0 1 65 .nilFunc v [] w (fun _ => True) (fun _ _ _ _ => True) (.inl rfl) hv (by omega) (by omega) (by omega) rfl ?_ ?_ (fun args w => enter_ok Tryz.func65 (by rfl) (by rfl) args w) ?_ ?_ ?_ ?_
 ·exact find_at _ 0 w hP (by omega) rfl (fun i hi => by omega)
 ·intro u hu
  exact (share_null _ _ 0 0 1 .nilFunc (fV 65) v u rfl rfl (hv.below hu)).mono fun e u' h => h
 ·intro bg hbg; cases hbg
 ·intro _; trivial
 ·intro bg hbg; cases hbg
 ·intro fv B sh kv mp ov u _ _ hu hB1 hB2 hA few
  refine (buildNull_ok _ fv u).mono ?_
  rintro e u' ⟨rfl, hw⟩
  obtain rfl := hw.symm
  exact ⟨_, _, _, _, _, _, _, rfl, hA, Fs.of_below (Below.refl _ _) hB2, trivial⟩
end Go.Proofs.YtcnikfikpnnblaaGreatDoor
namespace Go.Proofs.YtcnikfikpnnblaaGreatDoor.Dg
open Go.RowKit
set_option linter.unusedVariables false
theorem fnz_laid (bs : Nat) (zs : List Int) (P : Nat) : fnz (laidL bs zs) P = if P < zs.length then fnz zs P else if P = zs.length then 128 else if P < zs.length + 1 + padK bs zs.length then 0 else fnz (bitsL bs zs.length) (P - (zs.length + 1 + padK bs zs.length)) := by
 unfold laidL
 by_cases h1 : P < zs.length
 ·rw [if_pos h1, List.append_assoc, fnz_left _ _ _ h1]
 ·rw [if_neg h1]
  have e : (zs ++ ([128] ++ List.replicate (padK bs zs.length) 0)).length = zs.length + 1 + padK bs zs.length := by simp; omega
  by_cases h2 : P = zs.length
  ·rw [if_pos h2, h2, List.append_assoc]
   have := fnz_right zs ([128] ++ List.replicate (padK bs zs.length) (0 : Int) ++ bitsL bs zs.length) 0
   rw [Nat.add_zero] at this
   rw [this]
   rfl
  ·rw [if_neg h2]
   by_cases h3 : P < zs.length + 1 + padK bs zs.length
   ·rw [if_pos h3, fnz_left _ _ _ (by rw [e]; exact h3)]
    have := fnz_right zs ([128] ++ List.replicate (padK bs zs.length) (0 : Int)) (P - zs.length)
    rw [show zs.length + (P - zs.length) = P by omega] at this
    rw [this]
    have h4 := fnz_right [128] (List.replicate (padK bs zs.length) (0 : Int)) (P - zs.length - 1)
    rw [show [(128 : Int)].length + (P - zs.length - 1) = P - zs.length by simp; omega] at h4
    rw [h4]
    simp only [fnz, List.getD, List.getElem?_replicate]
    split <;> rfl
   ·rw [if_neg h3]
    have := fnz_right (zs ++ ([128] ++ List.replicate (padK bs zs.length) (0 : Int))) (bitsL bs zs.length) (P - (zs.length + 1 + padK bs zs.length))
    rw [e, show zs.length + 1 + padK bs zs.length + (P - (zs.length + 1 + padK bs zs.length)) = P by omega] at this
    exact this
theorem fnz_bits (bs n j : Nat) (hj : j < bs / 8) : fnz (bitsL bs n) j = if 8 ≤ bs / 8 - 1 - j then 0 else ((n : Int) * 8) / 2 ^ (8 * (bs / 8 - 1 - j)) % 256 := by
 rw [fnz, List.getD_eq_getElem?_getD, bitsL_at bs n j hj]
 rfl
theorem laid_blocks (wd : Bool) (zs : List Int) : (laidL (bsz wd) zs).length = bsz wd * (zs.length / bsz wd + padN (bsz wd) zs.length) := by
 rw [laidL_length]
 cases wd
 ·simp only [bsz, Bool.false_eq_true, if_false]
  unfold padK padN
  split <;> omega
 ·simp only [bsz, if_true]
  unfold padK padN
  split <;> omega
theorem laid_pad (wd : Bool) (zs : List Int) (k : Nat) (hk : k < bsz wd * padN (bsz wd) zs.length) : fnz (laidL (bsz wd) zs) (bsz wd * (zs.length / bsz wd) + k) = padF (bsz wd) (fun i => fnz zs (bsz wd * (zs.length / bsz wd) + i)) zs.length k := by
 have hb := laid_blocks wd zs
 rw [laidL_length] at hb
 rw [fnz_laid]
 unfold padF
 have hd : bsz wd * (zs.length / bsz wd) + zs.length % bsz wd = zs.length := Nat.div_add_mod _ _
 by_cases h1 : k < zs.length % bsz wd
 ·rw [if_pos (by omega), if_pos h1]
 ·rw [if_neg (by omega), if_neg h1]
  by_cases h2 : k = zs.length % bsz wd
  ·rw [if_pos (by omega), if_pos h2]
  ·rw [if_neg (by omega), if_neg h2]
   rw [Nat.mul_add] at hb
   rw [Nat.mul_comm (padN _ _)]
   by_cases h3 : bsz wd * (zs.length / bsz wd) + k < zs.length + 1 + padK (bsz wd) zs.length
   ·rw [if_pos h3, if_pos (by cases wd <;> simp only [bsz, Bool.false_eq_true, if_false, if_true] at * <;> omega)]
   ·rw [if_neg h3, fnz_bits _ _ _ (by omega)]
    have e : bsz wd / 8 - 1 - (bsz wd * (zs.length / bsz wd) + k - (zs.length + 1 + padK (bsz wd) zs.length)) = bsz wd * padN (bsz wd) zs.length - 1 - k := by omega
    rw [e]
    by_cases h4 : k + 8 < bsz wd * padN (bsz wd) zs.length
    ·rw [if_pos (by omega), if_pos h4]
    ·rw [if_neg (by omega), if_neg h4]
/-- What is laid down whole and taken block by block ends in the same words. -/
theorem endW_laid (wd : Bool) (s0 : Eight) (zs : List Int) : TT wd (fnz (laidL (bsz wd) zs)) s0 ((laidL (bsz wd) zs).length / bsz wd) = endW wd s0 0 zs := by
 have hb := bsz_pos wd
 rw [laid_blocks, Nat.mul_div_cancel_left _ hb, TT_add]
 unfold endW
 rw [Nat.zero_add]
 have h1 : TT wd (fnz (laidL (bsz wd) zs)) s0 (zs.length / bsz wd) = TT wd (fnz zs) s0 (zs.length / bsz wd) := TT_congr wd s0 _ fun j hj => by
  have := Nat.mul_div_le zs.length (bsz wd)
  rw [fnz_laid, if_pos (by omega)]
 rw [h1]
 exact TT_congr wd _ _ fun k hk => laid_pad wd zs k hk
theorem padN_pos (bs n : Nat) : 1 ≤ padN bs n := by unfold padN; split <;> omega
end Go.Proofs.YtcnikfikpnnblaaGreatDoor.Dg
