import Derived.Test.YtcnikfikpnnblaaGreatDoorPart33
import Derived.Deep.RegionHeld3
namespace Go.Proofs.YtcnikfikpnnblaaGreatDoor.Dg
open Go.RowKit
set_option linter.unusedVariables false
set_option linter.unusedSimpArgs false

/-- The bytes of eight words, of which a digest is the beginning. -/
def spellL (wd : Bool) (s : Eight) : List Int := (List.range 64).map (spellAt (wsz wd) s)
theorem spellL_length (wd : Bool) (s : Eight) : (spellL wd s).length = 64 := by simp [spellL]
theorem spellCells_eq (wd : Bool) (s : Eight) : spellCells (wsz wd) s = cellsU8 (spellL wd s) := by simp [spellCells, cellsU8, spellL]
theorem owns_mono {w : World} {B B' : Nat} {e : TypeId} {s n : Nat} {v : Value} {xs : List Value} (h : w.ownsRow B e s v n xs) (hB : B' ≤ B) : w.ownsRow B' e s v n xs := by
 obtain ⟨h1, h2⟩ := h
 rcases h2 with h2 | ⟨g, c, cur, e1, e2, e3⟩
 ·exact ⟨h1, .inl h2⟩
 ·exact ⟨h1, .inr ⟨g, c, cur, e1, by omega, e3⟩⟩
theorem szOf_known {h : Int} (k : Known h) : szOf h = 28 ∨ szOf h = 32 ∨ szOf h = 48 ∨ szOf h = 64 := by
 rcases k with rfl | rfl | rfl | rfl
 ·exact .inl rfl
 ·exact .inr (.inl rfl)
 ·exact .inr (.inr (.inl rfl))
 ·exact .inr (.inr (.inr rfl))
theorem first_any {h : Int} (k : Known h) (C : List Value) (zs : List Int) (w : World) (hC : C = cellsU8 zs) (hz : zs.length = 64) :
  Calls Tryz.prog 239 #[.agg C.toArray, .int .i64 (szOf h)] w fun e w' => ∃ g, e = .returned (.slice (some ⟨g, 0, none⟩) (szOf h) (szOf h)) ∧ w'.ownsRow w.heap.size 5 1 (.slice (some ⟨g, 0, none⟩) (szOf h) (szOf h)) (szOf h) (cellsU8 (zs.take (szOf h))) ∧ Below w.heap.size w w' := by
 rcases k with rfl | rfl | rfl | rfl
 ·exact first28 C zs w hC hz
 ·exact first32 C zs w hC hz
 ·exact first48 C zs w hC hz
 ·exact first64 C zs w hC hz

set_option maxHeartbeats 1600000 in
set_option maxRecDepth 100000 in
/-- Stream.Sum. -/
theorem ssum (g : Nat) (h : Int) (s0 : Eight) (zs : List Int) (w : World) (k : Hid (Known h)) (hr : Hid (Rep w g 0 h (wdOf h) s0 0 zs)) (hT : Hid (Tables w)) (hfed : Hid (zs.length ≤ 1152921504606846976)) :
  Calls Tryz.prog 203 #[.pointer (some ⟨g, 0, none⟩)] w fun e w' => ∃ b, e = .returned (.slice (some ⟨b, 0, none⟩) (szOf h) (szOf h)) ∧ w'.ownsRow w.heap.size 5 1 (.slice (some ⟨b, 0, none⟩) (szOf h) (szOf h)) (szOf h) (cellsU8 ((spellL (wdOf h) (endW (wdOf h) s0 0 zs)).take (szOf h))) ∧ Below w.heap.size w w' := by
 obtain ⟨half, hk, hh, hf⟩ := hr.out
 obtain ⟨T, HTT⟩ : ∃ T : List Value, Hid (T = tkL h (wdOf h) (TT (wdOf h) (fnz zs) s0 (zs.length / bsz (wdOf h))) half (0 + zs.length)) := ⟨_, rfl⟩
 have HG : Hid (TkBig T) := by show TkBig T; rw [HTT.out]; exact tkBig _ _ _ _ _
 have HR : Hid (w.rangeAt g 0 T) := by show w.rangeAt g 0 T; rw [HTT.out]; exact hk.range
 have HX : Hid ((w.alloc (.cells Tryz.zeroCells274 274)).there w.heap.size 0 139) := there_new w Tryz.zeroCells274 274 139 (by rw [cells71z, size71z]; exact Nat.le_refl _)
 have HC0 : Hid (g < w.heap.size ∧ w.cell? ⟨g, 0, none⟩ = some (.int .i64 h)) := ⟨lt_of_cell hk.hash, hk.hash⟩
 have HREP : Hid (∀ v, v.rangeAt w.heap.size 0 T → v.there w.heap.size 0 139 → Rep v w.heap.size 0 h (wdOf h) s0 0 zs) := fun v hr ht => ⟨half, TK.of (by rw [← HTT.out]; exact hr) ht, hh, hf⟩
 clear hk hh hf
 go_enter Tryz.func203, Tryz.ntmps203
 go_upto_region 4 with (first
  | (refine wpList_load_mid (by rfl) 274 (.tmp 9) (by rfl) g 0 (by rfl) T _ HR.out Tryz.underlying274 rfl (by rw [HG.out.len]; exact size71) ?_)
  | (refine wpList_store_mid (by rfl) 274 (.tmp 3) (.tmp 10) (by rfl) w.heap.size 0 T.toArray (by rfl) (by rfl) (by rw [HG.out.size]; exact HX.out) HG.out.info HG.out.one ?_)
  | fail)
 have HR2 : Hid (((w.alloc (.cells Tryz.zeroCells274 274)).setCells w.heap.size 0 T).rangeAt w.heap.size 0 T) := World.rangeAt_setCells_same _ _ _ _ (by rw [HG.out.len]; exact HX.out)
 have HB2 : Hid (Below w.heap.size w ((w.alloc (.cells Tryz.zeroCells274 274)).setCells w.heap.size 0 T) ∧ ((w.alloc (.cells Tryz.zeroCells274 274)).setCells w.heap.size 0 T).there w.heap.size 0 139 ∧ ((w.alloc (.cells Tryz.zeroCells274 274)).setCells w.heap.size 0 T).heap.size = w.heap.size + 1) := ⟨below_setCells _ (Nat.le_refl _) _ _ _ ((Below.refl _ _).alloc (Nat.le_refl _) _), World.there_setCells HX.out _ _ _, by rw [size_setCells]; simp⟩
 generalize (w.alloc (.cells Tryz.zeroCells274 274)).setCells w.heap.size 0 T = w2 at HR2 HB2 ⊢
 clear HX HR
 go_wp2_with (first | (go_at_call 238; refine (finish_rep (wdOf h) w.heap.size 0 h s0 0 zs w2 k.out.block (HREP.out w2 HR2.out HB2.out.2.1) (by have := hfed.out; omega) (hT.out.below HB2.out.1 hT.out.size) hT.out.size).mono ?_))
 rintro e3 w3 ⟨rfl, ht3, _⟩
 obtain ⟨C, HC⟩ : ∃ C : List Value, Hid (C = cellsU8 (spellL (wdOf h) (endW (wdOf h) s0 0 zs))) := ⟨_, (show _ = _ from rfl)⟩
 rw [spellCells_eq, ← HC.out]
 have HL : Hid (C.length = 64) := by show C.length = 64; rw [HC.out, cellsU8_length, spellL_length]
 have HLA : Hid (C.toArray.size = 64) := by show C.toArray.size = 64; simpa using HL.out
 have HO : Hid (C.toArray.all (·.oneCell') = true) := all_oneCell_toArray (by rw [HC.out]; exact cellsU8_one _)
 have HB3 : Hid (Below w.heap.size w w3) := HB2.out.1.trans (ht3.toBelow (Nat.le_refl _) (by have := HB2.out.2.2; omega))
 have HX : Hid ((w3.alloc (.cells #[.int .u8 0, .int .u8 0, .int .u8 0, .int .u8 0, .int .u8 0, .int .u8 0, .int .u8 0, .int .u8 0, .int .u8 0, .int .u8 0, .int .u8 0, .int .u8 0, .int .u8 0, .int .u8 0, .int .u8 0, .int .u8 0, .int .u8 0, .int .u8 0, .int .u8 0, .int .u8 0, .int .u8 0, .int .u8 0, .int .u8 0, .int .u8 0, .int .u8 0, .int .u8 0, .int .u8 0, .int .u8 0, .int .u8 0, .int .u8 0, .int .u8 0, .int .u8 0, .int .u8 0, .int .u8 0, .int .u8 0, .int .u8 0, .int .u8 0, .int .u8 0, .int .u8 0, .int .u8 0, .int .u8 0, .int .u8 0, .int .u8 0, .int .u8 0, .int .u8 0, .int .u8 0, .int .u8 0, .int .u8 0, .int .u8 0, .int .u8 0, .int .u8 0, .int .u8 0, .int .u8 0, .int .u8 0, .int .u8 0, .int .u8 0, .int .u8 0, .int .u8 0, .int .u8 0, .int .u8 0, .int .u8 0, .int .u8 0, .int .u8 0, .int .u8 0] 280)).there w3.heap.size 0 64) := there_new w3 _ 280 64 (by decide)
 clear ht3
 go_upto_region 5 with (first
  | (refine wpList_store_mid (by rfl) 280 (.tmp 4) (.tmp 11) (by rfl) w3.heap.size 0 C.toArray (by rfl) (by rfl) (by rw [HLA.out]; exact HX.out) (by rw [HLA.out]; exact size75) HO.out ?_)
  | fail)
 have HR4 : Hid (((w3.alloc (.cells #[.int .u8 0, .int .u8 0, .int .u8 0, .int .u8 0, .int .u8 0, .int .u8 0, .int .u8 0, .int .u8 0, .int .u8 0, .int .u8 0, .int .u8 0, .int .u8 0, .int .u8 0, .int .u8 0, .int .u8 0, .int .u8 0, .int .u8 0, .int .u8 0, .int .u8 0, .int .u8 0, .int .u8 0, .int .u8 0, .int .u8 0, .int .u8 0, .int .u8 0, .int .u8 0, .int .u8 0, .int .u8 0, .int .u8 0, .int .u8 0, .int .u8 0, .int .u8 0, .int .u8 0, .int .u8 0, .int .u8 0, .int .u8 0, .int .u8 0, .int .u8 0, .int .u8 0, .int .u8 0, .int .u8 0, .int .u8 0, .int .u8 0, .int .u8 0, .int .u8 0, .int .u8 0, .int .u8 0, .int .u8 0, .int .u8 0, .int .u8 0, .int .u8 0, .int .u8 0, .int .u8 0, .int .u8 0, .int .u8 0, .int .u8 0, .int .u8 0, .int .u8 0, .int .u8 0, .int .u8 0, .int .u8 0, .int .u8 0, .int .u8 0, .int .u8 0] 280)).setCells w3.heap.size 0 C).rangeAt w3.heap.size 0 C) := World.rangeAt_setCells_same _ _ _ _ (by rw [HL.out]; exact HX.out)
 have HB4 : Hid (Below w.heap.size w ((w3.alloc (.cells #[.int .u8 0, .int .u8 0, .int .u8 0, .int .u8 0, .int .u8 0, .int .u8 0, .int .u8 0, .int .u8 0, .int .u8 0, .int .u8 0, .int .u8 0, .int .u8 0, .int .u8 0, .int .u8 0, .int .u8 0, .int .u8 0, .int .u8 0, .int .u8 0, .int .u8 0, .int .u8 0, .int .u8 0, .int .u8 0, .int .u8 0, .int .u8 0, .int .u8 0, .int .u8 0, .int .u8 0, .int .u8 0, .int .u8 0, .int .u8 0, .int .u8 0, .int .u8 0, .int .u8 0, .int .u8 0, .int .u8 0, .int .u8 0, .int .u8 0, .int .u8 0, .int .u8 0, .int .u8 0, .int .u8 0, .int .u8 0, .int .u8 0, .int .u8 0, .int .u8 0, .int .u8 0, .int .u8 0, .int .u8 0, .int .u8 0, .int .u8 0, .int .u8 0, .int .u8 0, .int .u8 0, .int .u8 0, .int .u8 0, .int .u8 0, .int .u8 0, .int .u8 0, .int .u8 0, .int .u8 0, .int .u8 0, .int .u8 0, .int .u8 0, .int .u8 0] 280)).setCells w3.heap.size 0 C)) := below_setCells _ HB3.out.size _ _ _ (HB3.out.alloc HB3.out.size _)
 have HS4 : Hid (((w3.alloc (.cells #[.int .u8 0, .int .u8 0, .int .u8 0, .int .u8 0, .int .u8 0, .int .u8 0, .int .u8 0, .int .u8 0, .int .u8 0, .int .u8 0, .int .u8 0, .int .u8 0, .int .u8 0, .int .u8 0, .int .u8 0, .int .u8 0, .int .u8 0, .int .u8 0, .int .u8 0, .int .u8 0, .int .u8 0, .int .u8 0, .int .u8 0, .int .u8 0, .int .u8 0, .int .u8 0, .int .u8 0, .int .u8 0, .int .u8 0, .int .u8 0, .int .u8 0, .int .u8 0, .int .u8 0, .int .u8 0, .int .u8 0, .int .u8 0, .int .u8 0, .int .u8 0, .int .u8 0, .int .u8 0, .int .u8 0, .int .u8 0, .int .u8 0, .int .u8 0, .int .u8 0, .int .u8 0, .int .u8 0, .int .u8 0, .int .u8 0, .int .u8 0, .int .u8 0, .int .u8 0, .int .u8 0, .int .u8 0, .int .u8 0, .int .u8 0, .int .u8 0, .int .u8 0, .int .u8 0, .int .u8 0, .int .u8 0, .int .u8 0, .int .u8 0, .int .u8 0] 280)).setCells w3.heap.size 0 C).heap.size = w3.heap.size + 1) := by show _ = _; rw [size_setCells]; simp
 generalize (w3.alloc (.cells #[.int .u8 0, .int .u8 0, .int .u8 0, .int .u8 0, .int .u8 0, .int .u8 0, .int .u8 0, .int .u8 0, .int .u8 0, .int .u8 0, .int .u8 0, .int .u8 0, .int .u8 0, .int .u8 0, .int .u8 0, .int .u8 0, .int .u8 0, .int .u8 0, .int .u8 0, .int .u8 0, .int .u8 0, .int .u8 0, .int .u8 0, .int .u8 0, .int .u8 0, .int .u8 0, .int .u8 0, .int .u8 0, .int .u8 0, .int .u8 0, .int .u8 0, .int .u8 0, .int .u8 0, .int .u8 0, .int .u8 0, .int .u8 0, .int .u8 0, .int .u8 0, .int .u8 0, .int .u8 0, .int .u8 0, .int .u8 0, .int .u8 0, .int .u8 0, .int .u8 0, .int .u8 0, .int .u8 0, .int .u8 0, .int .u8 0, .int .u8 0, .int .u8 0, .int .u8 0, .int .u8 0, .int .u8 0, .int .u8 0, .int .u8 0, .int .u8 0, .int .u8 0, .int .u8 0, .int .u8 0, .int .u8 0, .int .u8 0, .int .u8 0, .int .u8 0] 280)).setCells w3.heap.size 0 C = w4 at HR4 HB4 HS4 ⊢
 have HC4 : Hid (w4.cell? ⟨g, 0, none⟩ = some (.int .i64 h)) := by rw [HB4.out.cell (p := ⟨g, 0, none⟩) HC0.out.1]; exact HC0.out.2
 clear HX HB3 HB2 HR2 HREP HC0
 have HZ : Hid ((spellL (wdOf h) (endW (wdOf h) s0 0 zs)).length = 64) := spellL_length _ _
 have hu75 := Tryz.underlying280
 have hi75 : (Tryz.prog.info? 280).map (·.size) = some C.length := by rw [HL.out]; exact size75
 go_region_held3 (fun v => v.rangeAt w3.heap.size 0 C ∧ v.cell? ⟨g, 0, none⟩ = some (.int .i64 h)) (first | exact ⟨HR4.out, HC4.out⟩ | go_keep | exact hS6) (first
  | (go_at_call 240; refine (ssize g h w4.drew k (show Hid (w4.drew.cell? ⟨g, 0, none⟩ = some (.int .i64 h)) from HC4)).mono ?_; rintro e5 w5 ⟨rfl, hw5⟩; obtain rfl := hw5.symm)
  | (go_at_call 239; refine (first_any k.out C _ w4.drew HC.out HZ.out).mono ?_; rintro e6 w6 ⟨b, rfl, ho6, hb6⟩; have hS6 : w6.rangeAt w3.heap.size 0 C ∧ w6.cell? ⟨g, 0, none⟩ = some (.int .i64 h) := ⟨fun j v hv => by rw [hb6.cell (p := ⟨w3.heap.size, 0 + j, none⟩) (show w3.heap.size < w4.heap.size by have := HS4.out; omega)]; exact HR4.out j v hv, by rw [hb6.cell (p := ⟨g, 0, none⟩) (show g < w4.heap.size from lt_of_cell HC4.out)]; exact HC4.out⟩))
 have HQ : Hid (w6.ownsRow w.heap.size 5 1 (.slice (some ⟨b, 0, none⟩) (szOf h) (szOf h)) (szOf h) (cellsU8 ((spellL (wdOf h) (endW (wdOf h) s0 0 zs)).take (szOf h))) ∧ Below w.heap.size w w6) := ⟨owns_mono ho6 HB4.out.size, HB4.out.drew.trans (hb6.mono HB4.out.size)⟩
 clear ho6 hb6 hS6
 go_wp2
 go_ret
 exact ⟨b, rfl, HQ.out.1, HQ.out.2⟩

set_option maxHeartbeats 800000 in
/-- digest.Sum of what fits. -/
theorem dsum (h : Int) (yss : List (List Int)) (v : Value) (w : World) (k : Hid (Known h)) (hp : Hid (∀ u g, Below w.heap.size w u → w.heap.size ≤ g → Parts u g v yss)) (hT : Hid (Tables w)) (hs : Hid (yss.flatten.length ≤ 33554432)) :
  Calls Tryz.prog 143 #[.int .i64 h, v] w fun e w' => ∃ b, e = .returned (.tuple #[.slice (some ⟨b, 0, none⟩) (szOf h) (szOf h), .int .i64 0]) ∧ w'.ownsRow w.heap.size 5 1 (.slice (some ⟨b, 0, none⟩) (szOf h) (szOf h)) (szOf h) (cellsU8 ((spellL (wdOf h) (endW (wdOf h) (firstE h) 0 yss.flatten)).take (szOf h))) ∧ Below w.heap.size w w' := by
 go_enter Tryz.func143, Tryz.ntmps143
 go_wp2_with (first | (go_at_call 201; refine (new_good h w k hT).mono ?_))
 rintro e1 w1 ⟨g, rfl, hg, hr1, hb1⟩
 have HR1 : Hid (Rep w1 g 0 h (wdOf h) (firstE h) 0 [] ∧ Below w.heap.size w w1 ∧ w.heap.size ≤ g) := ⟨hr1, hb1, hg⟩
 have HP1 : Hid (Parts w1 g v yss) := hp.out w1 g hb1 hg
 have HT1 : Hid (Tables w1) := hT.out.below hb1 hT.out.size
 have hg4 : 9 ≤ g := Nat.le_trans hT.out.size hg
 clear hr1 hb1 hg
 go_wp2_with (first | (go_at_call 202; refine (swrite g h (firstE h) [] yss v w1 k HR1.out.1 HP1 HT1 hg4 (by show _ ≤ _; have := hs.out; simpa using this)).mono ?_))
 rintro e2 w2 ⟨rfl, ht2, hr2⟩
 have HR2 : Hid (Rep w2 g 0 h (wdOf h) (firstE h) 0 yss.flatten ∧ Below w.heap.size w w2) := ⟨hr2, HR1.out.2.1.trans (ht2.toBelow HR1.out.2.2 HR1.out.2.1.size)⟩
 have HT2 : Hid (Tables w2) := HT1.out.touch ht2 hg4
 clear ht2 hr2 HR1 HP1
 go_wp2_with (first | (go_at_call 203; refine (ssum g h (firstE h) yss.flatten w2 k HR2.out.1 HT2 (by show _ ≤ _; have := hs.out; omega)).mono ?_))
 rintro e3 w3 ⟨b, rfl, ho3, hb3⟩
 have HQ : Hid (w3.ownsRow w.heap.size 5 1 (.slice (some ⟨b, 0, none⟩) (szOf h) (szOf h)) (szOf h) (cellsU8 ((spellL (wdOf h) (endW (wdOf h) (firstE h) 0 yss.flatten)).take (szOf h))) ∧ Below w.heap.size w w3) := ⟨owns_mono ho3 HR2.out.2.size, HR2.out.2.trans (hb3.mono HR2.out.2.size)⟩
 clear ho3 hb3
 go_wp2
 go_ret2
 exact ⟨b, rfl, HQ.out.1, HQ.out.2⟩
end Go.Proofs.YtcnikfikpnnblaaGreatDoor.Dg
