import Derived.Test.YtehlppaidgkpaaaGreatDoorDgFinA64
import Derived.Test.YtehlppaidgkpaaaGreatDoorDgFinB64
import Derived.Test.YtehlppaidgkpaaaGreatDoorPart29
import Derived.Test.YtehlppaidgkpaaaGreatDoorPart32
import Derived.Test.YtehlppaidgkpaaaGreatDoorPart26
import Derived.Deep.QuietTactic
import Derived.BigQuiet
import Derived.Deep.Cut
import Derived.Deep.RegionHeld3
import Derived.Test.YtehlppaidgkpaaaGreatDoorRkw
import Derived.Test.YtehlppaidgkpaaaGreatDoorPart25
import Derived.Test.YtehlppaidgkpaaaGreatDoorPart23
import Derived.Test.YtehlppaidgkpaaaGreatDoorDgRT64
import Derived.Test.YtehlppaidgkpaaaGreatDoorPart10
namespace Go.Proofs.YtehlppaidgkpaaaGreatDoor.Dg
open Go.RowKit
set_option linter.unusedVariables false
set_option linter.unusedSimpArgs false

theorem padF_congr (bs fed : Nat) {half half' : Nat → Int} (h : ∀ i, i < fed % bs → half i = half' i) : padF bs half fed = padF bs half' fed := by
  funext i
  unfold padF
  by_cases hi : i < fed % bs
  · rw [if_pos hi, if_pos hi, h i hi]
  · rw [if_neg hi, if_neg hi]
def wsz (wd : Bool) : Nat := if wd then 8 else 4
/-- The words behind all that was fed, and the padding. -/
def endW (wd : Bool) (s0 : Eight) (f0 : Nat) (zs : List Int) : Eight :=
  TT wd (padF (bsz wd) (fun i => fnz zs (bsz wd * (zs.length / bsz wd) + i)) (f0 + zs.length)) (TT wd (fnz zs) s0 (zs.length / bsz wd)) (padN (bsz wd) (f0 + zs.length))
/-- taken.finish. -/
theorem finish_any (wd : Bool) (g o : Nat) (h : Int) (s : Eight) (half : Nat → Int) (fed : Nat) (w : World) (hblk : blockOf h = bsz wd ∧ wd = false) (HK : TK w g o h wd s half fed) (hfed : fed ≤ 1152921504606846976) (hT : Tables w) (hg : 6 ≤ g) :
    Calls Tryz.prog 58 #[.pointer (some ⟨g, o, none⟩)] w fun e w' => e = .returned (.agg (spellCells (wsz wd) (TT wd (padF (bsz wd) half fed) s (padN (bsz wd) fed))).toArray) ∧ Touch w w' g o 139 ∧ ∃ half', TK w' g o h wd (TT wd (padF (bsz wd) half fed) s (padN (bsz wd) fed)) half' fed := by
  cases wd
  · have hm : fed % 64 < 64 := Nat.mod_lt _ (by omega)
    by_cases hu : fed % 64 + 1 ≤ 56
    · exact finish64_A g o h s half fed (fed % 64) (fed % 64 + 1) w hblk.1 HK hfed hT hg rfl rfl hu
    · exact finish64_B g o h s half fed (fed % 64) (fed % 64 + 1) w hblk.1 HK hfed hT hg rfl rfl (by omega) (by omega)
  · exact absurd hblk.2 (by decide)
theorem finish_rep (wd : Bool) (g o : Nat) (h : Int) (s0 : Eight) (f0 : Nat) (zs : List Int) (w : World) (hblk : blockOf h = bsz wd ∧ wd = false) (hr : Rep w g o h wd s0 f0 zs) (hfed : f0 + zs.length ≤ 1152921504606846976) (hT : Tables w) (hg : 6 ≤ g) :
    Calls Tryz.prog 58 #[.pointer (some ⟨g, o, none⟩)] w fun e w' => e = .returned (.agg (spellCells (wsz wd) (endW wd s0 f0 zs)).toArray) ∧ Touch w w' g o 139 ∧ ∃ half', TK w' g o h wd (endW wd s0 f0 zs) half' (f0 + zs.length) := by
  obtain ⟨half, hk, hh, hf⟩ := hr
  have hp : padF (bsz wd) half (f0 + zs.length) = padF (bsz wd) (fun i => fnz zs (bsz wd * (zs.length / bsz wd) + i)) (f0 + zs.length) := padF_congr _ _ (fun i hi => by
    obtain ⟨c, hc⟩ : ∃ c, f0 = bsz wd * c := ⟨f0 / bsz wd, by have := Nat.div_add_mod f0 (bsz wd); omega⟩
    rw [hc, Nat.mul_add_mod] at hi
    exact hh i hi)
  have := finish_any wd g o h _ half _ w hblk hk hfed hT hg
  rw [hp] at this
  exact this
end Go.Proofs.YtehlppaidgkpaaaGreatDoor.Dg
namespace Go.Proofs.YtehlppaidgkpaaaGreatDoor.Dg
open Go.RowKit
set_option linter.unusedVariables false
set_option linter.unusedSimpArgs false

/-- The digests that there are. -/
def Known (h : Int) : Prop := h = 256
def wdOf (h : Int) : Bool := decide (h = 384 ∨ h = 512)
def szOf (h : Int) : Nat := (h / 8).toNat
theorem Known.block {h : Int} (k : Known h) : blockOf h = bsz (wdOf h) ∧ wdOf h = false := by obtain rfl : h = 256 := k; exact ⟨rfl, rfl⟩
theorem firstWords_any {h : Int} (k : Known h) (w : World) (hT : Tables w) :
    Calls Tryz.prog 94 #[.int .i64 h] w fun e w' => e = .returned (.agg (firstE h).cells.toArray) ∧ Below w.heap.size w w' := by
  obtain rfl : h = 256 := k
  exact firstWords256 w hT
/-- begin, of a digest that there is. -/
theorem begin_any {h : Int} (k : Known h) (w : World) (hT : Tables w) :
    Calls Tryz.prog 56 #[.int .i64 h] w fun e w' => e = .returned (.tuple #[.agg (tkL h (wdOf h) (firstE h) (fun _ => 0) 0).toArray, .int .i64 0]) ∧ Below w.heap.size w w' := by
  have hb := k.block.1
  have hw := k.block.2
  rw [hw] at hb ⊢
  exact begin_good64 h w hb (fun v hv => firstWords_any k v hv) hT
theorem rep_nil {w : World} {g o : Nat} {h : Int} {wd : Bool} {s : Eight} {half : Nat → Int} {f0 : Nat} (k : TK w g o h wd s half f0) (hf : f0 % bsz wd = 0) : Rep w g o h wd s f0 [] :=
  ⟨half, by simpa [TT_zero] using k, fun i hi => by simp at hi, hf⟩
theorem fold87 (h : Int) (wd : Bool) (E : Eight) (half : Nat → Int) (fed : Nat) : List.foldl (fun (cs : Array Value) x => cs.setIfInBounds x.snd x.fst) Tryz.zeroCells145 (tkL h wd E half fed).zipIdx = (tkL h wd E half fed).toArray := by kernel_rfl
/-- What a taken's cells are, as a value. -/
structure TkBig (T : List Value) : Prop where
  len : T.length = 139
  one : T.toArray.all (·.oneCell') = true
  built : List.foldl (fun (cs : Array Value) x => cs.setIfInBounds x.snd x.fst) Tryz.zeroCells145 T.zipIdx = T.toArray
theorem TkBig.size {T : List Value} (h : TkBig T) : T.toArray.size = 139 := by simpa using h.len
theorem TkBig.info {T : List Value} (h : TkBig T) : (Tryz.prog.info? 141).map (·.size) = some T.toArray.size := by rw [h.size]; exact size71
theorem tkBig (h : Int) (wd : Bool) (E : Eight) (half : Nat → Int) (fed : Nat) : TkBig (tkL h wd E half fed) := ⟨tkL_length _ _ _ _ _, tkL_one _ _ _ _ _, fold87 _ _ _ _ _⟩

set_option maxHeartbeats 1600000 in
set_option maxRecDepth 100000 in
/-- New, of a digest that there is. -/
theorem new_good (h : Int) (w : World) (k : Hid (Known h)) (hT : Hid (Tables w)) :
    Calls Tryz.prog 33 #[.int .i64 h] w fun e w' => ∃ g, e = .returned (.tuple #[.pointer (some ⟨g, 0, none⟩), .int .i64 0]) ∧ w.heap.size ≤ g ∧ Rep w' g 0 h (wdOf h) (firstE h) 0 [] ∧ Below w.heap.size w w' := by
  go_enter Tryz.func33, Tryz.ntmps33
  go_wp2_with (first | (go_at_call 56; refine (begin_any k.out w hT.out).mono ?_))
  rintro e1 w1 ⟨rfl, hb1⟩
  obtain ⟨T, HTT⟩ : ∃ T : List Value, Hid (T = tkL h (wdOf h) (firstE h) (fun _ => 0) 0) := ⟨_, rfl⟩
  rw [← HTT.out]
  have HG : Hid (TkBig T) := by show TkBig T; rw [HTT.out]; exact tkBig _ _ _ _ _
  have HB1 : Hid (Below w.heap.size w w1) := hb1
  have HX : Hid ((w1.alloc (.cells Tryz.zeroCells141 141)).there w1.heap.size 0 139) := there_new w1 Tryz.zeroCells141 141 139 (by rw [cells71z, size71z]; exact Nat.le_refl _)
  clear hb1
  go_upto_region 4 with (first
    | (refine wpList_store_mid (by rfl) 141 (.tmp 4) (.tmp 9) (by rfl) w1.heap.size 0 T.toArray (by rfl) (by rfl) (by rw [HG.out.size]; exact HX.out) HG.out.info HG.out.one ?_)
    | fail)
  have HR2 : Hid (((w1.alloc (.cells Tryz.zeroCells141 141)).setCells w1.heap.size 0 T).rangeAt w1.heap.size 0 T) := World.rangeAt_setCells_same _ _ _ _ (by rw [HG.out.len]; exact HX.out)
  have HB2 : Hid (Below w.heap.size w ((w1.alloc (.cells Tryz.zeroCells141 141)).setCells w1.heap.size 0 T)) := below_setCells _ HB1.out.size _ _ _ (HB1.out.alloc HB1.out.size _)
  generalize (w1.alloc (.cells Tryz.zeroCells141 141)).setCells w1.heap.size 0 T = w2 at HR2 HB2 ⊢
  clear HX
  have hlen := HG.out.len
  have hfold := HG.out.built
  go_wp2_with (first
    | (refine wpList_load_mid (by rfl) 141 (.tmp 4) (by rfl) w1.heap.size 0 (by rfl) T _ HR2.out Tryz.underlying141 rfl (by rw [HG.out.len]; exact size71) ?_)
    | fail)
  go_ret2
  have hr := rangeAt_new w2 T.toArray 145
  have ht := there_new w2 T.toArray 145 139 (by rw [HG.out.size]; exact Nat.le_refl _)
  have hT' : T = tkL h (wdOf h) (firstE h) (fun _ => 0) 0 := HTT.out
  refine ⟨w2.heap.size, rfl, HB2.out.size, rep_nil (TK.of (half := fun _ => 0) ?_ ht) (Nat.zero_mod _), HB2.out.alloc HB2.out.size _⟩
  rw [hT'] at hr ⊢
  exact hr

set_option maxHeartbeats 400000 in
theorem size_known {h : Int} (k : Known h) (w : World) : Calls Tryz.prog 97 #[.int .i64 h] w fun e w' => e = .returned (.int .i64 (szOf h)) ∧ w' = w := by
  obtain rfl : h = 256 := k
  go_enter Tryz.func97, Tryz.ntmps97
  go_wp2_with (first | (go_at_call 91; refine (block_any _ _).mono ?_; rintro e1 w1 ⟨rfl, hw1⟩; obtain rfl := hw1.symm; rw [show blockOf 256 = 64 from rfl]))
  go_ret
  exact ⟨rfl, rfl⟩
set_option maxHeartbeats 400000 in
theorem shash (g : Nat) (h : Int) (w : World) (c : w.cell? ⟨g, 0, none⟩ = some (.int .i64 h)) : Calls Tryz.prog 98 #[.pointer (some ⟨g, 0, none⟩)] w fun e w' => e = .returned (.int .i64 h) ∧ w' = w := by
  go_enter Tryz.func98, Tryz.ntmps98
  go_wp2
  go_ret
  exact ⟨rfl, rfl⟩
set_option maxHeartbeats 400000 in
theorem ssize (g : Nat) (h : Int) (w : World) (k : Hid (Known h)) (c : Hid (w.cell? ⟨g, 0, none⟩ = some (.int .i64 h))) : Calls Tryz.prog 60 #[.pointer (some ⟨g, 0, none⟩)] w fun e w' => e = .returned (.int .i64 (szOf h)) ∧ w' = w := by
  go_enter Tryz.func60, Tryz.ntmps60
  go_wp2_with (first
    | (go_at_call 98; refine (shash g h w c.out).mono ?_; rintro e1 w1 ⟨rfl, hw1⟩; obtain rfl := hw1.symm)
    | (go_at_call 97; refine (size_known k.out _).mono ?_; rintro e1 w1 ⟨rfl, hw1⟩; obtain rfl := hw1.symm))
  go_ret
  exact ⟨rfl, rfl⟩
set_option maxHeartbeats 800000 in
/-- Stream.Write of what fits. -/
theorem swrite (g : Nat) (h : Int) (s0 : Eight) (zs : List Int) (yss : List (List Int)) (v : Value) (w : World) (k : Hid (Known h)) (hr : Hid (Rep w g 0 h (wdOf h) s0 0 zs)) (hp : Hid (Parts w g v yss)) (hT : Hid (Tables w)) (hg : 6 ≤ g) (hs : Hid (zs.length + yss.flatten.length ≤ 33554432)) :
    Calls Tryz.prog 34 #[.pointer (some ⟨g, 0, none⟩), v] w fun e w' => e = .returned (.int .i64 0) ∧ Touch w w' g 0 139 ∧ Rep w' g 0 h (wdOf h) s0 0 (zs ++ yss.flatten) := by
  have HA : Hid (Calls Tryz.prog 57 #[.pointer (some ⟨g, 0, none⟩), .int .u64 33554432, v] w fun e w' => e = .returned (.int .i64 0) ∧ Touch w w' g 0 139 ∧ Rep w' g 0 h (wdOf h) s0 0 (zs ++ yss.flatten)) :=
    write_rep (wdOf h) g 0 h s0 0 zs yss v (33554432 - zs.length) 33554432 w k.out.block hr.out hp.out hT.out hg (by have := hs.out; omega) (by have := hs.out; omega) (by have := hs.out; omega)
  go_enter Tryz.func34, Tryz.ntmps34
  go_wp2_with (first | (go_at_call 57; refine HA.out.mono ?_; rintro e1 w1 ⟨rfl, ht1, hr1⟩))
  have HQ : Hid (Touch w w1 g 0 139 ∧ Rep w1 g 0 h (wdOf h) s0 0 (zs ++ yss.flatten)) := ⟨ht1, hr1⟩
  clear ht1 hr1
  go_wp2
  go_ret
  exact ⟨rfl, HQ.out.1, HQ.out.2⟩
end Go.Proofs.YtehlppaidgkpaaaGreatDoor.Dg
namespace Go.Proofs.YtehlppaidgkpaaaGreatDoor.Dg
open Go.RowKit
set_option linter.unusedVariables false
set_option linter.unusedSimpArgs false

/-- The bytes of eight words, of which a digest is the beginning. -/
def spellL (wd : Bool) (s : Eight) : List Int := (List.range 64).map (spellAt (wsz wd) s)
theorem spellL_length (wd : Bool) (s : Eight) : (spellL wd s).length = 64 := by simp [spellL]
theorem spellCells_eq (wd : Bool) (s : Eight) : spellCells (wsz wd) s = cellsU8 (spellL wd s) := by simp [spellCells, cellsU8, spellL]
theorem owns_mono {w : World} {B B' : Nat} {e : TypeId} {s n : Nat} {v : Value} {xs : List Value} (h : w.ownsRow B e s v n xs) (hB : B' ≤ B) : w.ownsRow B' e s v n xs := by
  obtain ⟨h1, h2⟩ := h
  rcases h2 with h2 | ⟨g, c, cur, e1, e2, e3⟩
  · exact ⟨h1, .inl h2⟩
  · exact ⟨h1, .inr ⟨g, c, cur, e1, by omega, e3⟩⟩
theorem first_any {h : Int} (k : Known h) (C : List Value) (zs : List Int) (w : World) (hC : C = cellsU8 zs) (hz : zs.length = 64) :
    Calls Tryz.prog 59 #[.agg C.toArray, .int .i64 (szOf h)] w fun e w' => ∃ g, e = .returned (.slice (some ⟨g, 0, none⟩) (szOf h) (szOf h)) ∧ w'.ownsRow w.heap.size 5 1 (.slice (some ⟨g, 0, none⟩) (szOf h) (szOf h)) (szOf h) (cellsU8 (zs.take (szOf h))) ∧ Below w.heap.size w w' := by
  obtain rfl : h = 256 := k
  exact first32 C zs w hC hz

set_option maxHeartbeats 1600000 in
set_option maxRecDepth 100000 in
/-- Stream.Sum. -/
theorem ssum (g : Nat) (h : Int) (s0 : Eight) (zs : List Int) (w : World) (k : Hid (Known h)) (hr : Hid (Rep w g 0 h (wdOf h) s0 0 zs)) (hT : Hid (Tables w)) (hfed : Hid (zs.length ≤ 1152921504606846976)) :
    Calls Tryz.prog 35 #[.pointer (some ⟨g, 0, none⟩)] w fun e w' => ∃ b, e = .returned (.slice (some ⟨b, 0, none⟩) (szOf h) (szOf h)) ∧ w'.ownsRow w.heap.size 5 1 (.slice (some ⟨b, 0, none⟩) (szOf h) (szOf h)) (szOf h) (cellsU8 ((spellL (wdOf h) (endW (wdOf h) s0 0 zs)).take (szOf h))) ∧ Below w.heap.size w w' := by
  obtain ⟨half, hk, hh, hf⟩ := hr.out
  obtain ⟨T, HTT⟩ : ∃ T : List Value, Hid (T = tkL h (wdOf h) (TT (wdOf h) (fnz zs) s0 (zs.length / bsz (wdOf h))) half (0 + zs.length)) := ⟨_, rfl⟩
  have HG : Hid (TkBig T) := by show TkBig T; rw [HTT.out]; exact tkBig _ _ _ _ _
  have HR : Hid (w.rangeAt g 0 T) := by show w.rangeAt g 0 T; rw [HTT.out]; exact hk.range
  have HX : Hid ((w.alloc (.cells Tryz.zeroCells141 141)).there w.heap.size 0 139) := there_new w Tryz.zeroCells141 141 139 (by rw [cells71z, size71z]; exact Nat.le_refl _)
  have HC0 : Hid (g < w.heap.size ∧ w.cell? ⟨g, 0, none⟩ = some (.int .i64 h)) := ⟨lt_of_cell hk.hash, hk.hash⟩
  have HREP : Hid (∀ v, v.rangeAt w.heap.size 0 T → v.there w.heap.size 0 139 → Rep v w.heap.size 0 h (wdOf h) s0 0 zs) := fun v hr ht => ⟨half, TK.of (by rw [← HTT.out]; exact hr) ht, hh, hf⟩
  clear hk hh hf
  go_enter Tryz.func35, Tryz.ntmps35
  go_upto_region 4 with (first
    | (refine wpList_load_mid (by rfl) 141 (.tmp 9) (by rfl) g 0 (by rfl) T _ HR.out Tryz.underlying141 rfl (by rw [HG.out.len]; exact size71) ?_)
    | (refine wpList_store_mid (by rfl) 141 (.tmp 3) (.tmp 10) (by rfl) w.heap.size 0 T.toArray (by rfl) (by rfl) (by rw [HG.out.size]; exact HX.out) HG.out.info HG.out.one ?_)
    | fail)
  have HR2 : Hid (((w.alloc (.cells Tryz.zeroCells141 141)).setCells w.heap.size 0 T).rangeAt w.heap.size 0 T) := World.rangeAt_setCells_same _ _ _ _ (by rw [HG.out.len]; exact HX.out)
  have HB2 : Hid (Below w.heap.size w ((w.alloc (.cells Tryz.zeroCells141 141)).setCells w.heap.size 0 T) ∧ ((w.alloc (.cells Tryz.zeroCells141 141)).setCells w.heap.size 0 T).there w.heap.size 0 139 ∧ ((w.alloc (.cells Tryz.zeroCells141 141)).setCells w.heap.size 0 T).heap.size = w.heap.size + 1) := ⟨below_setCells _ (Nat.le_refl _) _ _ _ ((Below.refl _ _).alloc (Nat.le_refl _) _), World.there_setCells HX.out _ _ _, by rw [size_setCells]; simp⟩
  generalize (w.alloc (.cells Tryz.zeroCells141 141)).setCells w.heap.size 0 T = w2 at HR2 HB2 ⊢
  clear HX HR
  go_wp2_with (first | (go_at_call 58; refine (finish_rep (wdOf h) w.heap.size 0 h s0 0 zs w2 k.out.block (HREP.out w2 HR2.out HB2.out.2.1) (by have := hfed.out; omega) (hT.out.below HB2.out.1 hT.out.size) hT.out.size).mono ?_))
  rintro e3 w3 ⟨rfl, ht3, _⟩
  obtain ⟨C, HC⟩ : ∃ C : List Value, Hid (C = cellsU8 (spellL (wdOf h) (endW (wdOf h) s0 0 zs))) := ⟨_, (show _ = _ from rfl)⟩
  rw [spellCells_eq, ← HC.out]
  have HL : Hid (C.length = 64) := by show C.length = 64; rw [HC.out, cellsU8_length, spellL_length]
  have HLA : Hid (C.toArray.size = 64) := by show C.toArray.size = 64; simpa using HL.out
  have HO : Hid (C.toArray.all (·.oneCell') = true) := all_oneCell_toArray (by rw [HC.out]; exact cellsU8_one _)
  have HB3 : Hid (Below w.heap.size w w3) := HB2.out.1.trans (ht3.toBelow (Nat.le_refl _) (by have := HB2.out.2.2; omega))
  have HX : Hid ((w3.alloc (.cells #[.int .u8 0, .int .u8 0, .int .u8 0, .int .u8 0, .int .u8 0, .int .u8 0, .int .u8 0, .int .u8 0, .int .u8 0, .int .u8 0, .int .u8 0, .int .u8 0, .int .u8 0, .int .u8 0, .int .u8 0, .int .u8 0, .int .u8 0, .int .u8 0, .int .u8 0, .int .u8 0, .int .u8 0, .int .u8 0, .int .u8 0, .int .u8 0, .int .u8 0, .int .u8 0, .int .u8 0, .int .u8 0, .int .u8 0, .int .u8 0, .int .u8 0, .int .u8 0, .int .u8 0, .int .u8 0, .int .u8 0, .int .u8 0, .int .u8 0, .int .u8 0, .int .u8 0, .int .u8 0, .int .u8 0, .int .u8 0, .int .u8 0, .int .u8 0, .int .u8 0, .int .u8 0, .int .u8 0, .int .u8 0, .int .u8 0, .int .u8 0, .int .u8 0, .int .u8 0, .int .u8 0, .int .u8 0, .int .u8 0, .int .u8 0, .int .u8 0, .int .u8 0, .int .u8 0, .int .u8 0, .int .u8 0, .int .u8 0, .int .u8 0, .int .u8 0] 147)).there w3.heap.size 0 64) := there_new w3 _ 147 64 (by decide)
  clear ht3
  go_upto_region 5 with (first
    | (refine wpList_store_mid (by rfl) 147 (.tmp 4) (.tmp 11) (by rfl) w3.heap.size 0 C.toArray (by rfl) (by rfl) (by rw [HLA.out]; exact HX.out) (by rw [HLA.out]; exact size75) HO.out ?_)
    | fail)
  have HR4 : Hid (((w3.alloc (.cells #[.int .u8 0, .int .u8 0, .int .u8 0, .int .u8 0, .int .u8 0, .int .u8 0, .int .u8 0, .int .u8 0, .int .u8 0, .int .u8 0, .int .u8 0, .int .u8 0, .int .u8 0, .int .u8 0, .int .u8 0, .int .u8 0, .int .u8 0, .int .u8 0, .int .u8 0, .int .u8 0, .int .u8 0, .int .u8 0, .int .u8 0, .int .u8 0, .int .u8 0, .int .u8 0, .int .u8 0, .int .u8 0, .int .u8 0, .int .u8 0, .int .u8 0, .int .u8 0, .int .u8 0, .int .u8 0, .int .u8 0, .int .u8 0, .int .u8 0, .int .u8 0, .int .u8 0, .int .u8 0, .int .u8 0, .int .u8 0, .int .u8 0, .int .u8 0, .int .u8 0, .int .u8 0, .int .u8 0, .int .u8 0, .int .u8 0, .int .u8 0, .int .u8 0, .int .u8 0, .int .u8 0, .int .u8 0, .int .u8 0, .int .u8 0, .int .u8 0, .int .u8 0, .int .u8 0, .int .u8 0, .int .u8 0, .int .u8 0, .int .u8 0, .int .u8 0] 147)).setCells w3.heap.size 0 C).rangeAt w3.heap.size 0 C) := World.rangeAt_setCells_same _ _ _ _ (by rw [HL.out]; exact HX.out)
  have HB4 : Hid (Below w.heap.size w ((w3.alloc (.cells #[.int .u8 0, .int .u8 0, .int .u8 0, .int .u8 0, .int .u8 0, .int .u8 0, .int .u8 0, .int .u8 0, .int .u8 0, .int .u8 0, .int .u8 0, .int .u8 0, .int .u8 0, .int .u8 0, .int .u8 0, .int .u8 0, .int .u8 0, .int .u8 0, .int .u8 0, .int .u8 0, .int .u8 0, .int .u8 0, .int .u8 0, .int .u8 0, .int .u8 0, .int .u8 0, .int .u8 0, .int .u8 0, .int .u8 0, .int .u8 0, .int .u8 0, .int .u8 0, .int .u8 0, .int .u8 0, .int .u8 0, .int .u8 0, .int .u8 0, .int .u8 0, .int .u8 0, .int .u8 0, .int .u8 0, .int .u8 0, .int .u8 0, .int .u8 0, .int .u8 0, .int .u8 0, .int .u8 0, .int .u8 0, .int .u8 0, .int .u8 0, .int .u8 0, .int .u8 0, .int .u8 0, .int .u8 0, .int .u8 0, .int .u8 0, .int .u8 0, .int .u8 0, .int .u8 0, .int .u8 0, .int .u8 0, .int .u8 0, .int .u8 0, .int .u8 0] 147)).setCells w3.heap.size 0 C)) := below_setCells _ HB3.out.size _ _ _ (HB3.out.alloc HB3.out.size _)
  have HS4 : Hid (((w3.alloc (.cells #[.int .u8 0, .int .u8 0, .int .u8 0, .int .u8 0, .int .u8 0, .int .u8 0, .int .u8 0, .int .u8 0, .int .u8 0, .int .u8 0, .int .u8 0, .int .u8 0, .int .u8 0, .int .u8 0, .int .u8 0, .int .u8 0, .int .u8 0, .int .u8 0, .int .u8 0, .int .u8 0, .int .u8 0, .int .u8 0, .int .u8 0, .int .u8 0, .int .u8 0, .int .u8 0, .int .u8 0, .int .u8 0, .int .u8 0, .int .u8 0, .int .u8 0, .int .u8 0, .int .u8 0, .int .u8 0, .int .u8 0, .int .u8 0, .int .u8 0, .int .u8 0, .int .u8 0, .int .u8 0, .int .u8 0, .int .u8 0, .int .u8 0, .int .u8 0, .int .u8 0, .int .u8 0, .int .u8 0, .int .u8 0, .int .u8 0, .int .u8 0, .int .u8 0, .int .u8 0, .int .u8 0, .int .u8 0, .int .u8 0, .int .u8 0, .int .u8 0, .int .u8 0, .int .u8 0, .int .u8 0, .int .u8 0, .int .u8 0, .int .u8 0, .int .u8 0] 147)).setCells w3.heap.size 0 C).heap.size = w3.heap.size + 1) := by show _ = _; rw [size_setCells]; simp
  generalize (w3.alloc (.cells #[.int .u8 0, .int .u8 0, .int .u8 0, .int .u8 0, .int .u8 0, .int .u8 0, .int .u8 0, .int .u8 0, .int .u8 0, .int .u8 0, .int .u8 0, .int .u8 0, .int .u8 0, .int .u8 0, .int .u8 0, .int .u8 0, .int .u8 0, .int .u8 0, .int .u8 0, .int .u8 0, .int .u8 0, .int .u8 0, .int .u8 0, .int .u8 0, .int .u8 0, .int .u8 0, .int .u8 0, .int .u8 0, .int .u8 0, .int .u8 0, .int .u8 0, .int .u8 0, .int .u8 0, .int .u8 0, .int .u8 0, .int .u8 0, .int .u8 0, .int .u8 0, .int .u8 0, .int .u8 0, .int .u8 0, .int .u8 0, .int .u8 0, .int .u8 0, .int .u8 0, .int .u8 0, .int .u8 0, .int .u8 0, .int .u8 0, .int .u8 0, .int .u8 0, .int .u8 0, .int .u8 0, .int .u8 0, .int .u8 0, .int .u8 0, .int .u8 0, .int .u8 0, .int .u8 0, .int .u8 0, .int .u8 0, .int .u8 0, .int .u8 0, .int .u8 0] 147)).setCells w3.heap.size 0 C = w4 at HR4 HB4 HS4 ⊢
  have HC4 : Hid (w4.cell? ⟨g, 0, none⟩ = some (.int .i64 h)) := by rw [HB4.out.cell (p := ⟨g, 0, none⟩) HC0.out.1]; exact HC0.out.2
  clear HX HB3 HB2 HR2 HREP HC0
  have HZ : Hid ((spellL (wdOf h) (endW (wdOf h) s0 0 zs)).length = 64) := spellL_length _ _
  have hu75 := Tryz.underlying147
  have hi75 : (Tryz.prog.info? 147).map (·.size) = some C.length := by rw [HL.out]; exact size75
  go_region_held3 (fun v => v.rangeAt w3.heap.size 0 C ∧ v.cell? ⟨g, 0, none⟩ = some (.int .i64 h)) (first | exact ⟨HR4.out, HC4.out⟩ | go_keep | exact hS6) (first
    | (go_at_call 60; refine (ssize g h w4.drew k (show Hid (w4.drew.cell? ⟨g, 0, none⟩ = some (.int .i64 h)) from HC4)).mono ?_; rintro e5 w5 ⟨rfl, hw5⟩; obtain rfl := hw5.symm)
    | (go_at_call 59; refine (first_any k.out C _ w4.drew HC.out HZ.out).mono ?_; rintro e6 w6 ⟨b, rfl, ho6, hb6⟩; have hS6 : w6.rangeAt w3.heap.size 0 C ∧ w6.cell? ⟨g, 0, none⟩ = some (.int .i64 h) := ⟨fun j v hv => by rw [hb6.cell (p := ⟨w3.heap.size, 0 + j, none⟩) (show w3.heap.size < w4.heap.size by have := HS4.out; omega)]; exact HR4.out j v hv, by rw [hb6.cell (p := ⟨g, 0, none⟩) (show g < w4.heap.size from lt_of_cell HC4.out)]; exact HC4.out⟩))
  have HQ : Hid (w6.ownsRow w.heap.size 5 1 (.slice (some ⟨b, 0, none⟩) (szOf h) (szOf h)) (szOf h) (cellsU8 ((spellL (wdOf h) (endW (wdOf h) s0 0 zs)).take (szOf h))) ∧ Below w.heap.size w w6) := ⟨owns_mono ho6 HB4.out.size, HB4.out.drew.trans (hb6.mono HB4.out.size)⟩
  clear ho6 hb6 hS6
  go_wp2
  go_ret
  exact ⟨b, rfl, HQ.out.1, HQ.out.2⟩

set_option maxHeartbeats 800000 in
/-- digest.Sum of what fits. -/
theorem dsum (h : Int) (yss : List (List Int)) (v : Value) (w : World) (k : Hid (Known h)) (hp : Hid (∀ u g, Below w.heap.size w u → w.heap.size ≤ g → Parts u g v yss)) (hT : Hid (Tables w)) (hs : Hid (yss.flatten.length ≤ 33554432)) :
    Calls Tryz.prog 21 #[.int .i64 h, v] w fun e w' => ∃ b, e = .returned (.tuple #[.slice (some ⟨b, 0, none⟩) (szOf h) (szOf h), .int .i64 0]) ∧ w'.ownsRow w.heap.size 5 1 (.slice (some ⟨b, 0, none⟩) (szOf h) (szOf h)) (szOf h) (cellsU8 ((spellL (wdOf h) (endW (wdOf h) (firstE h) 0 yss.flatten)).take (szOf h))) ∧ Below w.heap.size w w' := by
  go_enter Tryz.func21, Tryz.ntmps21
  go_wp2_with (first | (go_at_call 33; refine (new_good h w k hT).mono ?_))
  rintro e1 w1 ⟨g, rfl, hg, hr1, hb1⟩
  have HR1 : Hid (Rep w1 g 0 h (wdOf h) (firstE h) 0 [] ∧ Below w.heap.size w w1 ∧ w.heap.size ≤ g) := ⟨hr1, hb1, hg⟩
  have HP1 : Hid (Parts w1 g v yss) := hp.out w1 g hb1 hg
  have HT1 : Hid (Tables w1) := hT.out.below hb1 hT.out.size
  have hg4 : 6 ≤ g := Nat.le_trans hT.out.size hg
  clear hr1 hb1 hg
  go_wp2_with (first | (go_at_call 34; refine (swrite g h (firstE h) [] yss v w1 k HR1.out.1 HP1 HT1 hg4 (by show _ ≤ _; have := hs.out; simpa using this)).mono ?_))
  rintro e2 w2 ⟨rfl, ht2, hr2⟩
  have HR2 : Hid (Rep w2 g 0 h (wdOf h) (firstE h) 0 yss.flatten ∧ Below w.heap.size w w2) := ⟨hr2, HR1.out.2.1.trans (ht2.toBelow HR1.out.2.2 HR1.out.2.1.size)⟩
  have HT2 : Hid (Tables w2) := HT1.out.touch ht2 hg4
  clear ht2 hr2 HR1 HP1
  go_wp2_with (first | (go_at_call 35; refine (ssum g h (firstE h) yss.flatten w2 k HR2.out.1 HT2 (by show _ ≤ _; have := hs.out; omega)).mono ?_))
  rintro e3 w3 ⟨b, rfl, ho3, hb3⟩
  have HQ : Hid (w3.ownsRow w.heap.size 5 1 (.slice (some ⟨b, 0, none⟩) (szOf h) (szOf h)) (szOf h) (cellsU8 ((spellL (wdOf h) (endW (wdOf h) (firstE h) 0 yss.flatten)).take (szOf h))) ∧ Below w.heap.size w w3) := ⟨owns_mono ho3 HR2.out.2.size, HR2.out.2.trans (hb3.mono HR2.out.2.size)⟩
  clear ho3 hb3
  go_wp2
  go_ret2
  exact ⟨b, rfl, HQ.out.1, HQ.out.2⟩
end Go.Proofs.YtehlppaidgkpaaaGreatDoor.Dg
namespace Go.Proofs.YtehlppaidgkpaaaGreatDoor
open Go.RowKit
set_option linter.unusedVariables false
set_option linter.unusedSimpArgs false
/-- cofferref02.New of bytes that are seen. -/
theorem rnew_view (v : Value) (ys : List Int) (nk : Nat) (w : World) (hnk : nk = 4 ∨ nk = 6 ∨ nk = 8) (hl : ys.length = 4 * nk) (hv : View w v ys) (hb : AllBytes ys) :
    Calls Tryz.prog 67 #[v] w fun e w' => Hid (e = .returned (.tuple #[.pointer (some ⟨w.heap.size, 0, none⟩), .int .i64 0]) ∧ Below w.heap.size w w') := by
  have h0 : ys ≠ [] := by intro q; rw [q] at hl; simp at hl; omega
  have hlt := view_lt hv h0
  obtain ⟨a, c, rfl, h1, h2, h3, h4⟩ := hv
  rcases h4 with q | ⟨b, off, rfl, hc⟩
  · exact absurd q h0
  · rw [hl] at hc hlt ⊢
    have hc' : ∀ i, i < 4 * nk → w.cell? ⟨b, off + i, none⟩ = some (.int .u8 (nat8 ys i : Nat)) := fun i hi => by rw [nat8_eq hb]; exact hc i hi
    exact (rnewW_ok nk (4 * nk) b off c (nat8 ys) w hnk rfl (hlt b off _ _ rfl) hc' (nat8_lt hb)).mono fun e w' hh => hh
set_option maxHeartbeats 800000 in
set_option maxRecDepth 100000 in
/-- cofferref03.schedule. -/
theorem rschedule_ok (v : Value) (ys : List Int) (nk : Nat) (w : World) (hnk : nk = 4 ∨ nk = 6 ∨ nk = 8) (hl : ys.length = 4 * nk) (hv : View w v ys) (hb : AllBytes ys) :
    Calls Tryz.prog 47 #[v] w fun e w' => Hid (∃ g, e = .returned (.pointer (some ⟨g, 0, none⟩)) ∧ Below w.heap.size w w') := by
  have HC : Hid (Calls Tryz.prog 50 #[v] w fun e w' => ∃ v', e = .returned v' ∧ w'.ownsRow w.heap.size 5 1 v' ys.length (cellsU8 ys) ∧ Below w.heap.size w w') := copied_any v ys w (by omega) hv
  have HN : Hid (∀ u v', View u v' ys → Calls Tryz.prog 67 #[v'] u fun e w' => Hid (e = .returned (.tuple #[.pointer (some ⟨u.heap.size, 0, none⟩), .int .i64 0]) ∧ Below u.heap.size u w')) := fun u v' hv' => rnew_view v' ys nk u hnk hl hv' hb
  obtain ⟨va, vc, rfl, _⟩ := hv
  clear hnk hl hb
  go_enter Tryz.func47, Tryz.ntmps47
  go_wp2_with (first
    | (go_at_call 50; refine HC.out.mono ?_; rintro e1 w1 ⟨v1, rfl, ho1, hb1⟩; have HV1 : Hid (View w1 v1 ys ∧ Below w.heap.size w w1) := ⟨view_owns ho1 rfl, hb1⟩; obtain ⟨xa, xc, rfl, _⟩ := HV1.out.1; clear ho1 hb1)
    | (go_at_call 67; refine (HN.out _ _ HV1.out.1).mono ?_; intro e2 w2 hh; obtain ⟨rfl, hb2⟩ := hh.out; have HR2 : Hid (Below w1.heap.size w1 w2) := hb2; clear hh hb2))
  go_ret
  exact ⟨_, rfl, HV1.out.2.trans (HR2.out.mono HV1.out.2.size)⟩
/-- Sixteen bytes of a list, from a place on. -/
def blkL (zs : List Int) (at_ : Nat) : List Value := (List.range 16).map fun i => .int .u8 (zs.getD (at_ + i) 0)
theorem blkL_len (zs : List Int) (a : Nat) : (blkL zs a).length = 16 := by simp [blkL]
theorem blkL_at (zs : List Int) (a i : Nat) (hi : i < 16) : (blkL zs a)[i]? = some (.int .u8 (zs.getD (a + i) 0)) := by simp [blkL, hi]
def blkN (zs : List Int) (a k : Nat) : List Value := (List.range 16).map fun i => .int .u8 (if i < k then zs.getD (a + i) 0 else 0)
theorem blkN_at (zs : List Int) (a k i : Nat) (hi : i < 16) : (blkN zs a k)[i]? = some (.int .u8 (if i < k then zs.getD (a + i) 0 else 0)) := by simp [blkN, hi]
theorem blkN_set (zs : List Int) (a k : Nat) (hk : k < 16) : (blkN zs a k).set k (.int .u8 (zs.getD (a + k) 0)) = blkN zs a (k + 1) := by
  apply List.ext_getElem?
  intro j
  by_cases hj : j < 16
  · rw [blkN_at _ _ _ _ hj, List.getElem?_set]
    by_cases e : k = j
    · subst e; simp [blkN, hj]
    · rw [if_neg e, blkN_at _ _ _ _ hj]
      have : (j < k) ↔ (j < k + 1) := by omega
      simp only [this]
  · rw [List.getElem?_eq_none (by simp [blkN]; omega), List.getElem?_eq_none (by simp [blkN]; omega)]
theorem blkN_0 (zs : List Int) (a : Nat) : blkN zs a 0 = List.replicate 16 (.int .u8 0) := by
  apply List.ext_getElem?
  intro j
  by_cases hj : j < 16
  · rw [blkN_at _ _ _ _ hj, List.getElem?_replicate, if_pos hj, if_neg (by omega)]
  · rw [List.getElem?_eq_none (by simp [blkN]; omega), List.getElem?_eq_none (by simp; omega)]
theorem blkN_16 (zs : List Int) (a : Nat) : blkN zs a 16 = blkL zs a := by
  apply List.ext_getElem?
  intro j
  by_cases hj : j < 16
  · rw [blkN_at _ _ _ _ hj, blkL_at _ _ _ hj, if_pos hj]
  · rw [List.getElem?_eq_none (by simp [blkN]; omega), List.getElem?_eq_none (by simp [blkL]; omega)]
theorem blkL_one (zs : List Int) (a : Nat) : ∀ v ∈ blkL zs a, v.oneCell' = true := by
  intro v hv
  obtain ⟨i, _, rfl⟩ := List.mem_map.1 hv
  rfl
theorem ret_one {P : Program} {fn : Func} {p : Tmp} {ty : TypeId} {d : TypeDesc} {Q : Ending → World → Prop} {tmps : Array Value} {w : World} {b : Nat} (cs : List Value) (h : fn.results = #[.cell p ty])
    (hp : tmps.getD p undef = .pointer (some ⟨b, 0, none⟩)) (hr : w.rangeAt b 0 cs) (hu : P.underlying ty = some d) (hd : d.isRow = true) (hi : (P.info? ty).map (·.size) = some cs.length)
    (hq : Q (.returned (.agg cs.toArray)) w) : bodyPost P fn Q .ret ⟨tmps, []⟩ w := ret_array cs h hp hr hu hd hi hq
set_option maxHeartbeats 1600000 in
set_option maxRecDepth 100000 in
/-- cofferref03.Block. -/
theorem rblock_ok (v : Value) (zs : List Int) (a : Nat) (w : World) (hv : View w v zs) (ha : a + 16 ≤ zs.length) (hm : zs.length ≤ 100000) :
    Calls Tryz.prog 48 #[v, .int .i64 (a : Nat)] w fun e w' => Hid (e = .returned (.agg (blkL zs a).toArray) ∧ Below w.heap.size w w') := by
  obtain ⟨va, vc, rfl, h1, h2, h3, h4⟩ := hv
  obtain ⟨b, off, rfl, hc⟩ : ∃ b off, va = some ⟨b, off, none⟩ ∧ ∀ i, i < zs.length → w.cell? ⟨b, off + i, none⟩ = some (.int .u8 (zs.getD i 0)) := by
    rcases h4 with q | q
    · rw [q] at ha; simp at ha
    · exact q
  have HC : Hid (∀ i, i < zs.length → w.cell? ⟨b, off + i, none⟩ = some (.int .u8 (zs.getD i 0))) := hc
  obtain ⟨n, HNL⟩ : ∃ n, Hid (zs.length = n) := ⟨_, rfl⟩
  rw [HNL.out] at ha hm HC ⊢
  clear h1 h2 h3 h4 hc
  go_enter Tryz.func48, Tryz.ntmps48
  go_upto_region 2 with fail
  obtain ⟨w1, hw1⟩ : ∃ w1, w1 = (w.alloc (.cells (List.replicate 16 (.int .u8 0)).toArray 27)).alloc (.cells (List.replicate 16 (.int .u8 0)).toArray 27) := ⟨_, rfl⟩
  have HB1 : Hid (Bx w1 w.heap.size 27 (List.replicate 16 (.int .u8 0)) ∧ Bx w1 (w.heap.size + 1) 27 (blkN zs a 0) ∧ Below w.heap.size w w1) := by
    rw [hw1]
    refine ⟨(Bx.new w 27 _).below ((Below.refl _ _).alloc (Nat.le_refl _) _), ?_, ((Below.refl _ _).alloc (Nat.le_refl _) _).alloc (by simp) _⟩
    have q := Bx.new (w.alloc (.cells (List.replicate 16 (.int .u8 0)).toArray 27)) 27 (List.replicate 16 (.int .u8 0))
    rw [blkN_0]
    simpa using q
  have hw1' : w1 = (w.alloc (.cells #[.int .u8 0, .int .u8 0, .int .u8 0, .int .u8 0, .int .u8 0, .int .u8 0, .int .u8 0, .int .u8 0, .int .u8 0, .int .u8 0, .int .u8 0, .int .u8 0, .int .u8 0, .int .u8 0, .int .u8 0, .int .u8 0] 27)).alloc (.cells #[.int .u8 0, .int .u8 0, .int .u8 0, .int .u8 0, .int .u8 0, .int .u8 0, .int .u8 0, .int .u8 0, .int .u8 0, .int .u8 0, .int .u8 0, .int .u8 0, .int .u8 0, .int .u8 0, .int .u8 0, .int .u8 0] 27) := hw1
  rw [← hw1']
  clear hw1 hw1'
  obtain ⟨m, HM⟩ : ∃ m, Hid (w.heap.size = m) := ⟨_, rfl⟩
  rw [HM.out] at HB1 ⊢
  go_wp2
  go_loopw [6] (fun vi wr => ∃ k : Nat, vi = .int .i64 (k : Nat) ∧ k ≤ 16 ∧ Hid (Bx wr m 27 (List.replicate 16 (.int .u8 0)) ∧ Bx wr (m + 1) 27 (blkN zs a k) ∧ Below m w wr)) (fun vi _ => 16 - (intOf vi).toNat)
  case atStart => exact ⟨0, rfl, by omega, HB1⟩
  case round =>
    obtain ⟨k, rfl, hk, HR⟩ := hrel
    clear HB1
    by_cases hlt : k < 16
    · obtain ⟨z, HZ⟩ : ∃ z, Hid (zs.getD (a + k) 0 = z) := ⟨_, rfl⟩
      obtain ⟨q, HQ⟩ : ∃ q : Nat, Hid (q = a + k) := ⟨_, rfl⟩
      have hw : IntKind.i64.wrap ((a : Int) + (k : Int)) = (q : Int) := by rw [IntKind.wrap_i64, HQ.out]; omega
      have hcc : wr.cell? ⟨b, off + q, none⟩ = some (.int .u8 z) := by
        have p := HC.out (a + k) (by omega)
        rw [HQ.out, HR.out.2.2.cell (by have := World.block_lt_of_cell? w _ p; rw [HM.out] at this; exact this), p, HZ.out]
      have g0 : (0 : Int) ≤ (k : Int) := by omega
      have g1 : (k : Int) < 16 := by omega
      have g2 : (0 : Int) ≤ (q : Int) := by omega
      have g3 : (q : Int) < (n : Int) := by rw [HQ.out]; omega
      have g4 : (a : Int) + (k : Int) = (q : Int) := by rw [HQ.out]; omega
      have d0 : wr.cell? ⟨m + 1, k, none⟩ = some (.int .u8 (if k < k then zs.getD (a + k) 0 else 0)) := HR.out.2.1.cell k _ (blkN_at zs a k k hlt)
      have d1 : wr.frozen? ⟨m + 1, k, none⟩ = false := HR.out.2.1.frozen k
      rw [if_neg (by omega)] at d0
      have HR2 : Hid (Bx (wr.setCell ⟨m + 1, k, none⟩ (.int .u8 z)) m 27 (List.replicate 16 (.int .u8 0)) ∧ Bx (wr.setCell ⟨m + 1, k, none⟩ (.int .u8 z)) (m + 1) 27 (blkN zs a (k + 1)) ∧ Below m w (wr.setCell ⟨m + 1, k, none⟩ (.int .u8 z))) := by
        refine ⟨HR.out.1.keep (Below.heap_setCell _ ⟨m + 1, k, none⟩ _ m (by show m ≠ m + 1; omega)), ?_, HR.out.2.2.setCell (by show m ≤ m + 1; omega) _⟩
        have p := HR.out.2.1.set k (.int .u8 z)
        rw [← HZ.out, blkN_set zs a k hlt, HZ.out] at p
        exact p
      clear HR
      go_wp2
      exact ⟨⟨k + 1, by simp, by omega, HR2⟩, by simp [intOf]; omega⟩
    · have g1 : ¬ (k : Int) < 16 := by omega
      have HE : Hid (Bx wr m 27 (List.replicate 16 (.int .u8 0)) ∧ Bx wr (m + 1) 27 (blkL zs a) ∧ Below m w wr) := by
        have p := HR.out
        rw [show k = 16 by omega, blkN_16] at p
        exact p
      clear HR
      go_wp2_with (first
        | (refine wpList_load_mid (by rfl) 27 (.tmp 5) (by rfl) (m + 1) 0 (by rfl) (blkL zs a) _ HE.out.2.1.range Tryz.underlying27 rfl (by rw [blkL_len]; kernel_rfl) ?_)
        | (refine wpList_store_bx (by rfl) 27 (.tmp 4) (.tmp 19) (by rfl) (List.replicate 16 (.int .u8 0)) (blkL zs a) m (by rfl) (by rfl) HE.out.1 (by rw [blkL_len]; rfl) (by rw [blkL_len]; kernel_rfl) (blkL_one zs a) ?_; intro u9 hb9 hg9))
      refine ret_one (b := m) (blkL zs a) rfl rfl hb9.range Tryz.underlying27 rfl (by rw [blkL_len]; kernel_rfl) ⟨rfl, ?_⟩
      have hfin : Below m w u9 := HE.out.2.2.trans (below_gb hg9 (by have := HE.out.2.2.size; have := HM.out; omega) (Nat.le_refl _))
      first | exact hfin | (rw [HM.out]; exact hfin)
end Go.Proofs.YtehlppaidgkpaaaGreatDoor
namespace Go.Proofs.YtehlppaidgkpaaaGreatDoor.Dg
open Go.RowKit
set_option linter.unusedVariables false
set_option linter.unusedSimpArgs false
/-- The two tables of the document's answer. -/
structure RTab (w : World) : Prop where
  cubes : ∀ t, t < 80 → w.cell? ⟨3, t, none⟩ = some (.int .u64 (cubeAt t))
  roots : ∀ t, t < 16 → w.cell? ⟨2, t, none⟩ = some (.int .u64 (rootAt t))
theorem RTab.kept {w w' : World} (h : RTab w) (hb : ∀ k, k < 4 → w'.heap[k]? = w.heap[k]?) : RTab w' :=
  ⟨fun t ht => by rw [World.cell?_of_block (w := w) (hb 3 (by omega))]; exact h.cubes t ht, fun t ht => by rw [World.cell?_of_block (w := w) (hb 2 (by omega))]; exact h.roots t ht⟩
theorem RTab.size {w : World} (h : RTab w) : 4 ≤ w.heap.size := lt_of_cell (h.cubes 0 (by omega))
theorem RTab.below {w w' : World} {B : Nat} (h : RTab w) (b : Below B w w') (hB : 4 ≤ B) : RTab w' := h.kept fun k hk => b.block k (by omega)
theorem first224_mod : ∀ q, q < 8 → (rootAt (8 + q)).tmod 4294967296 = firstAt 224 q := by decide +kernel
set_option maxHeartbeats 1600000 in
set_option maxRecDepth 100000 in
theorem rfirst224 (w : World) (hT : Hid (RTab w)) :
    Calls Tryz.prog 69 #[.int .i64 224] w fun e w' => e = .returned (.agg (firstE 224).cells.toArray) ∧ Below w.heap.size w w' := by
  have HB0 : Hid (Below w.heap.size w ((w.alloc (.cells #[.int .u64 0, .int .u64 0, .int .u64 0, .int .u64 0, .int .u64 0, .int .u64 0, .int .u64 0, .int .u64 0] 137)).alloc (.cells #[.int .u64 0, .int .u64 0, .int .u64 0, .int .u64 0, .int .u64 0, .int .u64 0, .int .u64 0, .int .u64 0] 137)) ∧ ((w.alloc (.cells #[.int .u64 0, .int .u64 0, .int .u64 0, .int .u64 0, .int .u64 0, .int .u64 0, .int .u64 0, .int .u64 0] 137)).alloc (.cells #[.int .u64 0, .int .u64 0, .int .u64 0, .int .u64 0, .int .u64 0, .int .u64 0, .int .u64 0, .int .u64 0] 137)).there (w.heap.size + 1) 0 8 ∧ ((w.alloc (.cells #[.int .u64 0, .int .u64 0, .int .u64 0, .int .u64 0, .int .u64 0, .int .u64 0, .int .u64 0, .int .u64 0] 137)).alloc (.cells #[.int .u64 0, .int .u64 0, .int .u64 0, .int .u64 0, .int .u64 0, .int .u64 0, .int .u64 0, .int .u64 0] 137)).there w.heap.size 0 8) := ⟨((Below.refl _ _).alloc (Nat.le_refl _) _).alloc (by simp) _, two_there w _ _ 137 137 8 (by decide), World.there_alloc (there_new w _ 137 8 (by decide)) _⟩
  go_enter Tryz.func69, Tryz.ntmps69
  go_wp2
  go_loopw [4] (fun v wr => ∃ q : Nat, q ≤ 8 ∧ v = .int .i64 q ∧ Hid (Below w.heap.size w wr) ∧ Hid (wr.there (w.heap.size + 1) 0 8 ∧ wr.there w.heap.size 0 8) ∧ Hid (∀ j, j < q → wr.cell? ⟨w.heap.size + 1, j, none⟩ = some (.int .u64 (firstAt 224 j)))) (fun v _ => 8 - (intOf v).toNat)
  case atStart => exact ⟨0, by omega, rfl, HB0.out.1, HB0.out.2, fun j hj => by omega⟩
  case round =>
    obtain ⟨q, hq, rfl, HB, HT, HF⟩ := hrel
    clear HB0
    by_cases hlt : q < 8
    · obtain ⟨jj, hjj⟩ : ∃ jj, jj = 8 + q := ⟨_, rfl⟩
      have hTr := hT.out.below HB.out hT.out.size
      have c1 := hTr.roots (jj) (by omega)
      have hql : (q : Int) < 8 := by omega
      have hq0 : (0 : Int) ≤ (q : Int) := by omega
      have e8 : (8 : Int) + (q : Int) = (jj : Int) := by omega
      have e9 : (jj : Int) < 16 := by omega
      have HJ : Hid (jj = 8 + q) := hjj
      clear hjj
      have ff : wr.frozen? ⟨w.heap.size + 1, q, none⟩ = false := by have := (HT.out.1 q hlt).2; rw [Nat.zero_add] at this; exact this
      have fs : (wr.cell? ⟨w.heap.size + 1, q, none⟩).isSome = true := by have := (HT.out.1 q hlt).1; rw [Nat.zero_add] at this; exact this
      obtain ⟨z, hz⟩ := Option.isSome_iff_exists.1 fs
      clear fs hTr
      go_wp2
      go_roundw
      case rel =>
        have hf := fill_step (F := fun j => .int .u64 (firstAt 224 j)) HF.out HT.out.1 hlt (.int .u64 (firstAt 224 q)) rfl
        obtain rfl := HJ.out
        rw [first224_mod q hlt]
        refine ⟨q + 1, by omega, by go_num, HB.out.setCell (by simp) _, ⟨World.there_setCells HT.out.1 _ q [_], World.there_setCells HT.out.2 _ q [_]⟩, hf.1⟩
      case measure => simp [intOf]; omega
    · obtain rfl : q = 8 := by omega
      have HR : Hid (wr.rangeAt (w.heap.size + 1) 0 (firstE 224).cells) := fun j v hv => by
        obtain ⟨hj, rfl⟩ := eightOf_at _ j v hv
        rw [Nat.zero_add]
        exact HF.out j hj
      have HY : Hid (wr.there w.heap.size 0 (firstE 224).cells.toArray.size) := HT.out.2
      have HZ : Hid ((Tryz.prog.info? 137).map (·.size) = some (firstE 224).cells.toArray.size) := size70
      obtain ⟨E, HE⟩ : ∃ E : Eight, Hid (E = firstE 224) := ⟨_, rfl⟩
      rw [← HE.out] at HR HY HZ
      clear HF
      go_wp2_with (first
        | (refine wpList_load_mid (by rfl) 137 (.tmp 3) (by rfl) (w.heap.size + 1) 0 (by rfl) E.cells _ HR.out Tryz.underlying137 rfl size70 ?_)
        | (refine wpList_store_mid (by rfl) 137 (.tmp 2) (.tmp 42) (by rfl) w.heap.size 0 E.cells.toArray (by rfl) (by rfl) HY.out HZ.out (cellsE_one E) ?_)
        | fail)
      have hl := run_loadVar_mid (P := Tryz.prog) (wr.setCells w.heap.size 0 E.cells) w.heap.size 0 137 E.cells _ (World.rangeAt_setCells_same wr w.heap.size 0 E.cells HT.out.2) Tryz.underlying137 rfl size70
      refine bodyPost_ret (v := .agg E.cells.toArray) ?_ rfl ⟨by rw [HE.out], below_setCells _ (Nat.le_refl _) _ _ _ HB.out⟩
      rw [results_cell1 Tryz.results69]
      simp [Act.put, asAddr, hl]

set_option maxHeartbeats 1600000 in
set_option maxRecDepth 100000 in
theorem rfirst256 (w : World) (hT : Hid (RTab w)) :
    Calls Tryz.prog 69 #[.int .i64 256] w fun e w' => e = .returned (.agg (firstE 256).cells.toArray) ∧ Below w.heap.size w w' := by
  have HB0 : Hid (Below w.heap.size w ((w.alloc (.cells #[.int .u64 0, .int .u64 0, .int .u64 0, .int .u64 0, .int .u64 0, .int .u64 0, .int .u64 0, .int .u64 0] 137)).alloc (.cells #[.int .u64 0, .int .u64 0, .int .u64 0, .int .u64 0, .int .u64 0, .int .u64 0, .int .u64 0, .int .u64 0] 137)) ∧ ((w.alloc (.cells #[.int .u64 0, .int .u64 0, .int .u64 0, .int .u64 0, .int .u64 0, .int .u64 0, .int .u64 0, .int .u64 0] 137)).alloc (.cells #[.int .u64 0, .int .u64 0, .int .u64 0, .int .u64 0, .int .u64 0, .int .u64 0, .int .u64 0, .int .u64 0] 137)).there (w.heap.size + 1) 0 8 ∧ ((w.alloc (.cells #[.int .u64 0, .int .u64 0, .int .u64 0, .int .u64 0, .int .u64 0, .int .u64 0, .int .u64 0, .int .u64 0] 137)).alloc (.cells #[.int .u64 0, .int .u64 0, .int .u64 0, .int .u64 0, .int .u64 0, .int .u64 0, .int .u64 0, .int .u64 0] 137)).there w.heap.size 0 8) := ⟨((Below.refl _ _).alloc (Nat.le_refl _) _).alloc (by simp) _, two_there w _ _ 137 137 8 (by decide), World.there_alloc (there_new w _ 137 8 (by decide)) _⟩
  go_enter Tryz.func69, Tryz.ntmps69
  go_wp2
  go_loopw [4] (fun v wr => ∃ q : Nat, q ≤ 8 ∧ v = .int .i64 q ∧ Hid (Below w.heap.size w wr) ∧ Hid (wr.there (w.heap.size + 1) 0 8 ∧ wr.there w.heap.size 0 8) ∧ Hid (∀ j, j < q → wr.cell? ⟨w.heap.size + 1, j, none⟩ = some (.int .u64 (firstAt 256 j)))) (fun v _ => 8 - (intOf v).toNat)
  case atStart => exact ⟨0, by omega, rfl, HB0.out.1, HB0.out.2, fun j hj => by omega⟩
  case round =>
    obtain ⟨q, hq, rfl, HB, HT, HF⟩ := hrel
    clear HB0
    by_cases hlt : q < 8
    · obtain ⟨jj, hjj⟩ : ∃ jj, jj = 8 + q := ⟨_, rfl⟩
      have hTr := hT.out.below HB.out hT.out.size
      have c1 := hTr.roots (q) (by omega)
      have hql : (q : Int) < 8 := by omega
      have hq0 : (0 : Int) ≤ (q : Int) := by omega
      skip
      have ff : wr.frozen? ⟨w.heap.size + 1, q, none⟩ = false := by have := (HT.out.1 q hlt).2; rw [Nat.zero_add] at this; exact this
      have fs : (wr.cell? ⟨w.heap.size + 1, q, none⟩).isSome = true := by have := (HT.out.1 q hlt).1; rw [Nat.zero_add] at this; exact this
      obtain ⟨z, hz⟩ := Option.isSome_iff_exists.1 fs
      clear fs hTr
      go_wp2
      go_roundw
      case rel =>
        have hf := fill_step (F := fun j => .int .u64 (firstAt 256 j)) HF.out HT.out.1 hlt (.int .u64 (firstAt 256 q)) rfl
        skip
        refine ⟨q + 1, by omega, by go_num, HB.out.setCell (by simp) _, ⟨World.there_setCells HT.out.1 _ q [_], World.there_setCells HT.out.2 _ q [_]⟩, hf.1⟩
      case measure => simp [intOf]; omega
    · obtain rfl : q = 8 := by omega
      have HR : Hid (wr.rangeAt (w.heap.size + 1) 0 (firstE 256).cells) := fun j v hv => by
        obtain ⟨hj, rfl⟩ := eightOf_at _ j v hv
        rw [Nat.zero_add]
        exact HF.out j hj
      have HY : Hid (wr.there w.heap.size 0 (firstE 256).cells.toArray.size) := HT.out.2
      have HZ : Hid ((Tryz.prog.info? 137).map (·.size) = some (firstE 256).cells.toArray.size) := size70
      obtain ⟨E, HE⟩ : ∃ E : Eight, Hid (E = firstE 256) := ⟨_, rfl⟩
      rw [← HE.out] at HR HY HZ
      clear HF
      go_wp2_with (first
        | (refine wpList_load_mid (by rfl) 137 (.tmp 3) (by rfl) (w.heap.size + 1) 0 (by rfl) E.cells _ HR.out Tryz.underlying137 rfl size70 ?_)
        | (refine wpList_store_mid (by rfl) 137 (.tmp 2) (.tmp 42) (by rfl) w.heap.size 0 E.cells.toArray (by rfl) (by rfl) HY.out HZ.out (cellsE_one E) ?_)
        | fail)
      have hl := run_loadVar_mid (P := Tryz.prog) (wr.setCells w.heap.size 0 E.cells) w.heap.size 0 137 E.cells _ (World.rangeAt_setCells_same wr w.heap.size 0 E.cells HT.out.2) Tryz.underlying137 rfl size70
      refine bodyPost_ret (v := .agg E.cells.toArray) ?_ rfl ⟨by rw [HE.out], below_setCells _ (Nat.le_refl _) _ _ _ HB.out⟩
      rw [results_cell1 Tryz.results69]
      simp [Act.put, asAddr, hl]

/-- first. -/
theorem rfirst_any {h : Int} (k : Known h) (w : World) (hT : Hid (RTab w)) : Calls Tryz.prog 69 #[.int .i64 h] w fun e w' => e = .returned (.agg (firstE h).cells.toArray) ∧ Below w.heap.size w w' := by
  obtain rfl : h = 256 := k
  exact rfirst256 w hT
theorem rblock_ok (h : Int) (k : Known h) (w : World) : Calls Tryz.prog 68 #[.int .i64 h] w fun e w' => e = .returned (.int .i64 (bsz (wdOf h))) ∧ w' = w := by
  obtain rfl : h = 256 := k
  all_goals
    go_enter Tryz.func68, Tryz.ntmps68
    go_wp2
    go_ret
    exact ⟨rfl, rfl⟩
theorem rsize_ok (h : Int) (k : Known h) (w : World) : Calls Tryz.prog 73 #[.int .i64 h] w fun e w' => e = .returned (.int .i64 (szOf h)) ∧ w' = w := by
  obtain rfl : h = 256 := k
  all_goals
    go_enter Tryz.func73, Tryz.ntmps73
    go_wp2
    go_ret
    exact ⟨rfl, rfl⟩
end Go.Proofs.YtehlppaidgkpaaaGreatDoor.Dg
